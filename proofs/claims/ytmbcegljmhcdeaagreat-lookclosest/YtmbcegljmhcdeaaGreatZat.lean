/- A zone in memory; what its calls move. -/
import Derived.Test.YtmbcegljmhcdeaaGreatNpt
import Derived.Test.YtmbcegljmhcdeaaGreatBwd
import Derived.Test.YtmbcegljmhcdeaaGreatRefG
namespace Go.Proofs.YtmbcegljmhcdeaaGreat
set_option maxRecDepth 5000
open Go.RowKit
set_option maxHeartbeats 1500000 in
theorem nput_add (w:World) {ρ : Nat->Role} {G:List (List UInt8)->Option Nd} {C:List (List UInt8)->Nat->Option Z.St} {K:Nat} (T:TreeAt w ρ G C K) (hK:K+1<=1000000) {p:List (List UInt8)} {x:Nd} (hx:G p=some x) (t:Nat) (ht:t<65536) (ttl cl:Nat) (c d:List UInt8) (na:Option Addr) (nl nc:Nat) (da:Option Addr) (dc:Nat) (ca:Option Addr) (cc:Nat)
 (hsd:SlL w da d) (hnd:da=none->dc=0) (hd8:d.length<=8192) (hsc:SlL w ca c) (hc8:c.length<=1000000) (S:Z.St) (hS:C p t=some S) (hg:S.g c=none) :
 Calls Tryz.prog 87 #[.pointer (some ⟨x.n,0,none⟩),recV na nl nc t cl ttl da d.length dc,.slice ca c.length cc] w fun e w'=>e = .returned (.tuple #[]) /\ ∃ ρ' x',TreeAt w' ρ' (gput G p (some x')) (Z.cput C p t ttl c d) (K+1)/\x'.n=x.n/\x'.s=x.s/\x'.b=x.b/\Grew w w' ρ ρ' G (gput G p (some x')):=by
 obtain⟨m,hm⟩ : ∃ m,m=x.dm t:=⟨_,rfl⟩
 obtain⟨h0,hmap,hdi⟩:=(T.node p x hx).data t S hS
 rw[<- hm] at hmap
 have hlm:=hmap.lt
 have hmr:=T.rd p x t S hx hS
 rw[<- hm] at hmr
 have hmn:m≠x.n:=fun e=>by rw[e,T.rn p x hx] at hmr;cases hmr
 have hms:m≠x.s:=fun e=>by rw[e,T.rs p x hx] at hmr;cases hmr
 have hmv:setV S (x.dm t) = .agg #[.int .u32 (S.ttl:Int),.map (some m)]:=by rw[hm];rfl
 obtain⟨w1,hw1⟩ : ∃ w1,w1=w.alloc (.cells #[.slice na nl nc,.int .u16 (t:Int),.int .u16 (cl:Int),.int .u32 (ttl:Int),.slice da d.length dc] 39):=⟨_,rfl⟩
 have N:=T.node p x hx
 have hb1:Below w.heap.size w w1:=by rw[hw1];exact (Below.refl _ w).alloc (Nat.le_refl _) _
 have hr1:RowAt w1 w.heap.size 39 #[.slice na nl nc,.int .u16 (t:Int),.int .u16 (cl:Int),.int .u32 (ttl:Int),.slice da d.length dc]:=by rw[hw1];exact RowAt.new w _ _
 have N1:=(T.below_ hb1).node p x hx
 have hlk:=(N1.lookup t ht w1.drew rfl).1
 rw[hS] at hlk
 simp only[Option.map_some,Option.getD_some,Option.isSome_some,hmv] at hlk
 have x0:w1.cell? ⟨x.n,0,none⟩=some (.map (some x.s)):=N1.row.cell 0
 have y1:w1.cell? ⟨w.heap.size,1,none⟩=some (.int .u16 (t:Int)):=hr1.cell 1
 have hb2:Below w1.heap.size w1 (w1.alloc (.cells #[.int .u32 0,.map none] 102)):=(Below.refl _ w1).alloc (Nat.le_refl _) _
 have N2:=((T.below_ hb1).below_ hb2).node p x hx
 have hlk2:=(N2.lookup t ht (w1.alloc (.cells #[.int .u32 0,.map none] 102)).drew rfl).1
 rw[hS] at hlk2
 simp only[Option.map_some,Option.getD_some,Option.isSome_some,hmv] at hlk2
 have x2:(w1.alloc (.cells #[.int .u32 0,.map none] 102)).cell? ⟨x.n,0,none⟩=some (.map (some x.s)):=N2.row.cell 0
 have y2:(w1.alloc (.cells #[.int .u32 0,.map none] 102)).cell? ⟨w.heap.size,1,none⟩=some (.int .u16 (t:Int)):=(hr1.below hb2 hr1.lt).cell 1
 have Hg:=hide hg
 clear hg
 have Hm:=hide hm
 have Hmap:=hide hmap
 have Hdi:=hide hdi
 have Hmr:=hide hmr
 have Hmn:=hide hmn
 have Hms:=hide hms
 have HS:=hide hS
 have Hlm:=hide hlm
 clear hb2 N2 hm hmap hdi hmr hmn hms hS hmv hlm
 have HB1:=hide hb1
 have HW:=hide hw1
 have HN:=hide N1
 have HR:=hide hr1
 have HT:=hide T
 clear hw1 N N1 hr1 T
 unfold recV
 go_enter Tryz.func87,Tryz.ntmps87
 go_wp2
 rw[<- HW.out]
 obtain⟨w3,hw3⟩ : ∃ w3,w3=(w1.alloc (.cells #[.int .u32 (S.ttl:Int),.map (some m)] 102)).drew:=⟨_,rfl⟩
 have hb13:Below w1.heap.size w1 w3:=by
  rw[hw3]
  exact below_drewN ((Below.refl _ w1).alloc (Nat.le_refl _) _) 1
 have hr3:RowAt w3 w1.heap.size 102 #[.int .u32 (S.ttl:Int),.map (some m)]:=by
  rw[hw3]
  exact RowAt.new w1 102 #[.int .u32 (S.ttl:Int),.map (some m)]
 have hm1:MapS w1 m h0 K:=Hmap.out.heap (HB1.out.block _ Hlm.out)
 have hm3:MapS w3 m h0 K:=hm1.heap (hb13.block _ hm1.lt)
 have hd3:DM w3 (some m) S.g K:=⟨h0,hm3,fun y=>(Hdi.out y).keep fun _ _ hs=>(hs.below HB1.out (Nat.le_refl _)).below hb13 (Nat.le_refl _)⟩
 have hz3:w3.heap.size=w1.heap.size+1:=by rw[hw3];simp
 have hs3:SlL w3 ca c:=(hsc.below hb1 (Nat.le_refl _)).below hb13 (Nat.le_refl _)
 obtain⟨w4,hw4⟩ : ∃ w4,w4=w3.alloc (.cells #[.int .u32 (S.ttl:Int),.map (some m)] 102):=⟨_,rfl⟩
 have hb34:Below w3.heap.size w3 w4:=by rw[hw4];exact (Below.refl _ w3).alloc (Nat.le_refl _) _
 have hb34:Below w3.heap.size w3 w4.drew:=below_drewN hb34 1
 have hb14:Below w1.heap.size w1 w4.drew:=hb13.trans (hb34.mono hb13.size)
 have hr4:RowAt w4.drew w1.heap.size 102 #[.int .u32 (S.ttl:Int),.map (some m)]:=hr3.below hb34 hr3.lt
 have hR4:RowAt w4.drew w.heap.size 39 #[.slice na nl nc,.int .u16 (t:Int),.int .u16 (cl:Int),.int .u32 (ttl:Int),.slice da d.length dc]:=HR.out.below hb14 HR.out.lt
 have hcv4:(convert 37 9 (.slice ca c.length cc)).run Tryz.prog w4.drew = .ok (.string ⟨c.toArray⟩) w4.drew:=run_str c.length cc (hs3.below hb34 (Nat.le_refl _)) rfl
 have hs4:SlL w4.drew da d:=(((hsd.below hb1 (Nat.le_refl _)).below hb13 (Nat.le_refl _)).below hb34 (Nat.le_refl _))
 have hm4:MapS w4.drew m h0 K:=hm3.heap (hb34.block _ hm3.lt)
 have z1:w4.drew.cell? ⟨w1.heap.size,1,none⟩=some (.map (some m)):=hr4.cell 1
 have z4:w4.drew.cell? ⟨w.heap.size,4,none⟩=some (.slice da d.length dc):=hR4.cell 4
 have HW3:=hide hw3
 have HW4:=hide hw4
 have Hb14:=hide hb14
 have Hr4:=hide hr4
 have HR4:=hide hR4
 have Hm4:=hide hm4
 have Hm3:=hide hd3
 have Hs3:=hide hs3
 have Hscc:=hide (hs3.below hb34 (Nat.le_refl _))
 clear hw3 hw4 hb13 hr3 hm3 hd3 hm1 hz3 hs3 hb34 hb14 hr4 hR4 hm4
 go_region
 all_goals
  go_wp2_with (go_at_call 85;rw[<- HW3.out];refine (has_any w3 (S.ttl:Int) (some m) S.g K Hm3.out c ca c.length cc rfl Hs3.out hc8).mono ?_;rintro e wq ⟨he,hwq⟩;have he:e = .returned (.bool false):=(by rw[he,Hg.out];rfl);rw[he,hwq, <- HW4.out];clear he hwq wq)
  go_region_held3 (fun w'=>w'.cell? ⟨w1.heap.size,1,none⟩=some (.map (some m))/\w'.cell? ⟨w.heap.size,4,none⟩=some (.slice da d.length dc)/\(convert 37 9 (.slice ca c.length cc)).run Tryz.prog w' = .ok (.string ⟨c.toArray⟩) w') (first | exact⟨z1,z4,hcv4⟩ | exact⟨z51,z54,hcv5⟩ | exact⟨z61,z64,hcv6⟩) ((go_at_call 100;refine (bclone_any _ da dc d (by omega) (by exact hs4) hnd).mono ?_;rintro e w5 ⟨v5,rfl,hO5,hB5⟩;obtain⟨a5,c5,rfl,hT5,hn5,hc5⟩:=hO5.ty;have hr5:=Hr4.out.below hB5 Hr4.out.lt;have hR5:=HR4.out.below hB5 HR4.out.lt;have z51:w5.cell? ⟨w1.heap.size,1,none⟩=some (.map (some m)):=hr5.cell 1;have z54:w5.cell? ⟨w.heap.size,4,none⟩=some (.slice da d.length dc):=hR5.cell 4;have hcv5:(convert 37 9 (.slice ca c.length cc)).run Tryz.prog w5 = .ok (.string ⟨c.toArray⟩) w5:=run_str c.length cc (Hscc.out.below hB5 (Nat.le_refl _)) rfl;have hm5:MapS w5 m h0 K:=Hm4.out.heap (hB5.block _ Hm4.out.lt);obtain⟨w6,hrun,hM6,ht6⟩:=MapAt.update hm5 keyedS Tryz.underlying100 (by omega) (keyS c hc8) (.slice a5 d.length c5);have hr6:RowAt w6 w1.heap.size 102 #[.int .u32 (S.ttl:Int),.map (some m)]:=(ht6.block _ (fun e=>by have:=Hlm.out;have:=HR.out.lt;have:=HB1.out.size;omega)).trans hr5;have hR6:RowAt w6 w.heap.size 39 #[.slice na nl nc,.int .u16 (t:Int),.int .u16 (cl:Int),.int .u32 (ttl:Int),.slice da d.length dc]:=(ht6.block _ (fun e=>by have:=Hlm.out;omega)).trans hR5;have z61:w6.cell? ⟨w1.heap.size,1,none⟩=some (.map (some m)):=hr6.cell 1;have z64:w6.cell? ⟨w.heap.size,4,none⟩=some (.slice da d.length dc):=hR6.cell 4;have hcv6:(convert 37 9 (.slice ca c.length cc)).run Tryz.prog w6 = .ok (.string ⟨c.toArray⟩) w6:=run_str c.length cc (slL_map ht6 (Hscc.out.below hB5 (Nat.le_refl _))) rfl))
  have z60:w6.cell? ⟨w1.heap.size,0,none⟩=some (.int .u32 (S.ttl:Int)):=hr6.cell 0
  have f60:w6.frozen? ⟨w1.heap.size,0,none⟩=false:=hr6.frozen 0
  have z63:w6.cell? ⟨w.heap.size,3,none⟩=some (.int .u32 (ttl:Int)):=hR6.cell 3
  have Hr6:=hide hr6
  have HR6:=hide hR6
  have HM6:=hide hM6
  have Ht6:=hide ht6
  have HB5:=hide hB5
  have HT5:=hide hT5
  clear hr6 hR6 hM6 ht6 hB5 hT5 hr5 hR5 hm5 hO5
  go_wp2
  obtain⟨w7,hw7⟩ : ∃ w7,w7=w6.setCell ⟨w1.heap.size,0,none⟩ (.int .u32 (ttl:Int)):=⟨_,rfl⟩
  have hb15:Below w1.heap.size w1 w5:=Hb14.out.trans (HB5.out.mono Hb14.out.size)
  have hK17 : ∀ i,i<w1.heap.size->i≠m->w7.heap[i]?=w1.heap[i]?:=fun i hi h1=>by
   rw[hw7,(grownBy_setCell' w6 w1.heap.size _).block i (by have:=hb15.size;have:=Ht6.out.size;omega) (by simp;omega),Ht6.out.block i h1,hb15.block i hi]
  have hz71:w1.heap.size<=w7.heap.size:=by rw[hw7];have:=hb15.size;have:=Ht6.out.size;simp;omega
  have hos:w7.os=w1.os/\w7.tape=w1.tape/\w7.output=w1.output:=by
   rw[hw7]
   have g:=grownBy_setCell' w6 w1.heap.size (.int .u32 (ttl:Int))
   exact⟨g.os.trans (Ht6.out.os.trans hb15.os),g.tape.trans (Ht6.out.tape.trans hb15.tape),g.output.trans (Ht6.out.output.trans hb15.output)⟩
  have hr7:RowAt w7 w1.heap.size 102 #[.int .u32 (ttl:Int),.map (some m)]:=by rw[hw7];exact Hr6.out.set 0 _
  have hR7:RowAt w7 w.heap.size 39 #[.slice na nl nc,.int .u16 (t:Int),.int .u16 (cl:Int),.int .u32 (ttl:Int),.slice da d.length dc]:=(hK17 _ HR.out.lt (by have:=Hlm.out;omega)).trans HR.out
  have hrn:RowAt w7 x.n 107 #[.map (some x.s),.map (some x.b)]:=(hK17 _ HN.out.row.lt (fun e=>Hmn.out e.symm)).trans HN.out.row
  have hse:MapU w7 x.s (fun t=>(C p t).map fun S=>setV S (x.dm t)) K:=HN.out.sets.heap (hK17 _ HN.out.sets.lt (fun e=>Hms.out e.symm))
  have v0:w7.cell? ⟨x.n,0,none⟩=some (.map (some x.s)):=hrn.cell 0
  have v1:w7.cell? ⟨w.heap.size,1,none⟩=some (.int .u16 (t:Int)):=hR7.cell 1
  have v2:w7.cell? ⟨w1.heap.size,0,none⟩=some (.int .u32 (ttl:Int)):=hr7.cell 0
  have v3:w7.cell? ⟨w1.heap.size,1,none⟩=some (.map (some m)):=hr7.cell 1
  obtain⟨w8,hrun8,hM8,ht8⟩:=MapAt.update hse.drew keyedH Tryz.underlying104 (by omega) (keyH t ht) (.agg #[.int .u32 (ttl:Int),.map (some m)])
  have HM8:=hide hM8
  have HT8:=hide ht8
  have HK17:=hide hK17
  have HZ71:=hide hz71
  have HOS:=hide hos
  have HW7:=hide hw7
  rw[<- hw7]
  clear hM8 ht8 hK17 hz71 hos hw7 hrn hse hr7 hR7 hb15
  go_region
  all_goals go_end0
  all_goals refine⟨rfl,?_⟩
  all_goals
   have h8:=HT8.out
   have hz1:=HB1.out.size
   have hz17:=HZ71.out
   have hlt1:=HR.out.lt
   have hlm:=Hlm.out
   have hz8:w8.heap.size=w7.heap.size:=h8.size
   have hm6:MapS w6 m (sput h0 c (.slice a5 d.length c5)) (K+1):=HM6.out.congr fun k=>fput_S _ _ _ k
   have e86:w8.heap[m]?=w6.heap[m]?:=by
    rw[h8.block _ Hms.out]
    show w7.heap[m]?=_
    rw[HW7.out];exact (grownBy_setCell' w6 w1.heap.size _).block _ (by have:=hm6.lt;exact this) (by simp;omega)
   have hoth : ∀ i,i<w.heap.size->i≠x.s->i≠m->w8.heap[i]?=w.heap[i]?:=fun i hi h1 h2=>by
    rw[h8.block i h1]
    exact (HK17.out i (by omega) h2).trans (HB1.out.block i hi)
   have hslL : ∀ ao l,SlL w ao l->SlL w8 ao l:=fun ao l=>slL_keep (by omega) fun i hi hz=>by
    refine hoth i hi (fun e=>hz ?_) (fun e=>hz ?_)
    ·rw[e];exact HT.out.kind _ (by rw[HT.out.rs p x hx];simp)
    ·rw[e];exact HT.out.kind _ (by rw[Hmr.out];simp)
   have hT8:TyL w8 a5 d:=(HT5.out.kb (KB.turn Ht6.out)).kb ⟨by rw[hz8,HW7.out];simp,fun g cs et fr hg he=>by
    have hg1:g≠w1.heap.size:=fun e=>by
     have:=Hr6.out
     unfold RowAt at this
     rw[e,this] at hg;injection hg with hg;injection hg with _ hg _
     rcases he with rfl | rfl
     ·exact absurd hg (by decide)
     ·exact absurd hg (by decide)
    have hg2:w7.heap[g]?=some (Obj.cells cs et fr):=by
     rw[HW7.out,(grownBy_setCell' w6 w1.heap.size _).block g (Array.getElem?_eq_some_iff.1 hg).1 (by simp;omega)];exact hg
    refine (h8.block g (fun e=>?_)).trans hg2
    obtain⟨es,k,hb⟩:=h8.was
    have hb:w7.heap[x.s]?=some (.map es k):=hb
    rw[e,hb] at hg2;cases hg2⟩
   have hgot : ∀ y,Z.got C p t y=S.g y:=fun y=>by unfold Z.got;rw[HS.out];rfl
   refine HT.out.put hx t ht ttl c d m (Or.inl ⟨S,HS.out,Hm.out⟩) ⟨h8.os.trans (HOS.out.1.trans HB1.out.os),h8.tape.trans (HOS.out.2.1.trans HB1.out.tape),h8.output.trans (HOS.out.2.2.trans HB1.out.output),by rw[hz8];omega,fun i hi=>by omega⟩ hoth ?_ ?_
   ·exact HM8.out.congr fun k=>fput_U _ t ht _ k
   ·refine⟨_,hm6.heap e86,fun y=>?_⟩
    by_cases e:y=c
    ·rw[if_pos e,hgot,Hg.out]
     have e9:sput h0 c (.slice a5 d.length c5) y=some (.slice a5 d.length c5):=by simp[sput,e]
     rw[e9]
     exact⟨a5,c5,rfl,hT8.1,hn5,hc5,hd8⟩
    ·rw[if_neg e,hgot]
     have e9:sput h0 c (.slice a5 d.length c5) y=h0 y:=by simp[sput,e]
     rw[e9]
     exact (Hdi.out y).keep hslL
set_option maxHeartbeats 1500000 in
theorem nput_same (w:World) {ρ : Nat->Role} {G:List (List UInt8)->Option Nd} {C:List (List UInt8)->Nat->Option Z.St} {K:Nat} (T:TreeAt w ρ G C K) (hK:K+1<=1000000) {p:List (List UInt8)} {x:Nd} (hx:G p=some x) (t:Nat) (ht:t<65536) (ttl cl:Nat) (c d:List UInt8) (na:Option Addr) (nl nc:Nat) (da:Option Addr) (dc:Nat) (ca:Option Addr) (cc:Nat)
 (hsd:SlL w da d) (_hnd:da=none->dc=0) (_hd8:d.length<=8192) (hsc:SlL w ca c) (hc8:c.length<=1000000) (S:Z.St) (hS:C p t=some S) (d0:List UInt8) (hg:S.g c=some d0) :
 Calls Tryz.prog 87 #[.pointer (some ⟨x.n,0,none⟩),recV na nl nc t cl ttl da d.length dc,.slice ca c.length cc] w fun e w'=>e = .returned (.tuple #[]) /\ ∃ ρ' x',TreeAt w' ρ' (gput G p (some x')) (Z.cput C p t ttl c d) (K+1)/\x'.n=x.n/\x'.s=x.s/\x'.b=x.b/\Grew w w' ρ ρ' G (gput G p (some x')):=by
 obtain⟨m,hm⟩ : ∃ m,m=x.dm t:=⟨_,rfl⟩
 obtain⟨h0,hmap,hdi⟩:=(T.node p x hx).data t S hS
 rw[<- hm] at hmap
 have hlm:=hmap.lt
 have hmr:=T.rd p x t S hx hS
 rw[<- hm] at hmr
 have hmn:m≠x.n:=fun e=>by rw[e,T.rn p x hx] at hmr;cases hmr
 have hms:m≠x.s:=fun e=>by rw[e,T.rs p x hx] at hmr;cases hmr
 have hmv:setV S (x.dm t) = .agg #[.int .u32 (S.ttl:Int),.map (some m)]:=by rw[hm];rfl
 obtain⟨w1,hw1⟩ : ∃ w1,w1=w.alloc (.cells #[.slice na nl nc,.int .u16 (t:Int),.int .u16 (cl:Int),.int .u32 (ttl:Int),.slice da d.length dc] 39):=⟨_,rfl⟩
 have N:=T.node p x hx
 have hb1:Below w.heap.size w w1:=by rw[hw1];exact (Below.refl _ w).alloc (Nat.le_refl _) _
 have hr1:RowAt w1 w.heap.size 39 #[.slice na nl nc,.int .u16 (t:Int),.int .u16 (cl:Int),.int .u32 (ttl:Int),.slice da d.length dc]:=by rw[hw1];exact RowAt.new w _ _
 have N1:=(T.below_ hb1).node p x hx
 have hlk:=(N1.lookup t ht w1.drew rfl).1
 rw[hS] at hlk
 simp only[Option.map_some,Option.getD_some,Option.isSome_some,hmv] at hlk
 have x0:w1.cell? ⟨x.n,0,none⟩=some (.map (some x.s)):=N1.row.cell 0
 have y1:w1.cell? ⟨w.heap.size,1,none⟩=some (.int .u16 (t:Int)):=hr1.cell 1
 have hb2:Below w1.heap.size w1 (w1.alloc (.cells #[.int .u32 0,.map none] 102)):=(Below.refl _ w1).alloc (Nat.le_refl _) _
 have N2:=((T.below_ hb1).below_ hb2).node p x hx
 have hlk2:=(N2.lookup t ht (w1.alloc (.cells #[.int .u32 0,.map none] 102)).drew rfl).1
 rw[hS] at hlk2
 simp only[Option.map_some,Option.getD_some,Option.isSome_some,hmv] at hlk2
 have x2:(w1.alloc (.cells #[.int .u32 0,.map none] 102)).cell? ⟨x.n,0,none⟩=some (.map (some x.s)):=N2.row.cell 0
 have y2:(w1.alloc (.cells #[.int .u32 0,.map none] 102)).cell? ⟨w.heap.size,1,none⟩=some (.int .u16 (t:Int)):=(hr1.below hb2 hr1.lt).cell 1
 have Hg:=hide hg
 clear hg
 have Hm:=hide hm
 have Hmap:=hide hmap
 have Hdi:=hide hdi
 have Hmr:=hide hmr
 have Hmn:=hide hmn
 have Hms:=hide hms
 have HS:=hide hS
 have Hlm:=hide hlm
 clear hb2 N2 hm hmap hdi hmr hmn hms hS hmv hlm
 have HB1:=hide hb1
 have HW:=hide hw1
 have HN:=hide N1
 have HR:=hide hr1
 have HT:=hide T
 clear hw1 N N1 hr1 T
 unfold recV
 go_enter Tryz.func87,Tryz.ntmps87
 go_wp2
 rw[<- HW.out]
 obtain⟨w3,hw3⟩ : ∃ w3,w3=(w1.alloc (.cells #[.int .u32 (S.ttl:Int),.map (some m)] 102)).drew:=⟨_,rfl⟩
 have hb13:Below w1.heap.size w1 w3:=by
  rw[hw3]
  exact below_drewN ((Below.refl _ w1).alloc (Nat.le_refl _) _) 1
 have hr3:RowAt w3 w1.heap.size 102 #[.int .u32 (S.ttl:Int),.map (some m)]:=by
  rw[hw3]
  exact RowAt.new w1 102 #[.int .u32 (S.ttl:Int),.map (some m)]
 have hm1:MapS w1 m h0 K:=Hmap.out.heap (HB1.out.block _ Hlm.out)
 have hm3:MapS w3 m h0 K:=hm1.heap (hb13.block _ hm1.lt)
 have hd3:DM w3 (some m) S.g K:=⟨h0,hm3,fun y=>(Hdi.out y).keep fun _ _ hs=>(hs.below HB1.out (Nat.le_refl _)).below hb13 (Nat.le_refl _)⟩
 have hz3:w3.heap.size=w1.heap.size+1:=by rw[hw3];simp
 have hs3:SlL w3 ca c:=(hsc.below hb1 (Nat.le_refl _)).below hb13 (Nat.le_refl _)
 obtain⟨w4,hw4⟩ : ∃ w4,w4=w3.alloc (.cells #[.int .u32 (S.ttl:Int),.map (some m)] 102):=⟨_,rfl⟩
 have hb34:Below w3.heap.size w3 w4:=by rw[hw4];exact (Below.refl _ w3).alloc (Nat.le_refl _) _
 have hb34:Below w3.heap.size w3 w4.drew:=below_drewN hb34 1
 have hb14:Below w1.heap.size w1 w4.drew:=hb13.trans (hb34.mono hb13.size)
 have hr4:RowAt w4.drew w1.heap.size 102 #[.int .u32 (S.ttl:Int),.map (some m)]:=hr3.below hb34 hr3.lt
 have hR4:RowAt w4.drew w.heap.size 39 #[.slice na nl nc,.int .u16 (t:Int),.int .u16 (cl:Int),.int .u32 (ttl:Int),.slice da d.length dc]:=HR.out.below hb14 HR.out.lt
 have hcv4:(convert 37 9 (.slice ca c.length cc)).run Tryz.prog w4.drew = .ok (.string ⟨c.toArray⟩) w4.drew:=run_str c.length cc (hs3.below hb34 (Nat.le_refl _)) rfl
 have hs4:SlL w4.drew da d:=(((hsd.below hb1 (Nat.le_refl _)).below hb13 (Nat.le_refl _)).below hb34 (Nat.le_refl _))
 have hm4:MapS w4.drew m h0 K:=hm3.heap (hb34.block _ hm3.lt)
 have z40:w4.cell? ⟨w1.heap.size,0,none⟩=some (.int .u32 (S.ttl:Int)):=hr4.cell 0
 have f40:w4.frozen? ⟨w1.heap.size,0,none⟩=false:=hr4.frozen 0
 have z43:w4.cell? ⟨w.heap.size,3,none⟩=some (.int .u32 (ttl:Int)):=hR4.cell 3
 have z1:w4.drew.cell? ⟨w1.heap.size,1,none⟩=some (.map (some m)):=hr4.cell 1
 have z4:w4.drew.cell? ⟨w.heap.size,4,none⟩=some (.slice da d.length dc):=hR4.cell 4
 have HW3:=hide hw3
 have HW4:=hide hw4
 have Hb14:=hide hb14
 have Hr4:=hide hr4
 have HR4:=hide hR4
 have Hm4:=hide hm4
 have Hm3:=hide hd3
 have Hs3:=hide hs3
 have Hscc:=hide (hs3.below hb34 (Nat.le_refl _))
 clear hw3 hw4 hb13 hr3 hm3 hd3 hm1 hz3 hs3 hb34 hb14 hr4 hR4 hm4
 go_region
 all_goals
  go_wp2_with (go_at_call 85;rw[<- HW3.out];refine (has_any w3 (S.ttl:Int) (some m) S.g K Hm3.out c ca c.length cc rfl Hs3.out hc8).mono ?_;rintro e wq ⟨he,hwq⟩;have he:e = .returned (.bool true):=(by rw[he,Hg.out];rfl);rw[he,hwq, <- HW4.out];clear he hwq wq)
  obtain⟨w7,hw7⟩ : ∃ w7,w7=w4.setCell ⟨w1.heap.size,0,none⟩ (.int .u32 (ttl:Int)):=⟨_,rfl⟩
  have hb17:Below w1.heap.size w1 w7:=by
   rw[hw7]
   have h4:Below w1.heap.size w1 w4:=⟨Hb14.out.os,Hb14.out.tape,Hb14.out.output,Hb14.out.size,Hb14.out.block⟩
   exact h4.setCell (p:=⟨w1.heap.size,0,none⟩) (Nat.le_refl _) _
  have T7:=(HT.out.below_ HB1.out).below_ hb17
  have N7:=T7.node p x hx
  have hr7:RowAt w7 w1.heap.size 102 #[.int .u32 (ttl:Int),.map (some m)]:=by rw[hw7];exact (show RowAt w4 w1.heap.size 102 _ from Hr4.out).set 0 _
  have hR7:RowAt w7 w.heap.size 39 #[.slice na nl nc,.int .u16 (t:Int),.int .u16 (cl:Int),.int .u32 (ttl:Int),.slice da d.length dc]:=HR.out.below hb17 HR.out.lt
  have v0:w7.cell? ⟨x.n,0,none⟩=some (.map (some x.s)):=N7.row.cell 0
  have v1:w7.cell? ⟨w.heap.size,1,none⟩=some (.int .u16 (t:Int)):=hR7.cell 1
  have v2:w7.cell? ⟨w1.heap.size,0,none⟩=some (.int .u32 (ttl:Int)):=hr7.cell 0
  have v3:w7.cell? ⟨w1.heap.size,1,none⟩=some (.map (some m)):=hr7.cell 1
  obtain⟨w8,hrun8,hM8,ht8⟩:=MapAt.update N7.sets.drew keyedH Tryz.underlying104 (by omega) (keyH t ht) (.agg #[.int .u32 (ttl:Int),.map (some m)])
  have HM8:=hide hM8
  have HT8:=hide ht8
  have Hb17:=hide hb17
  have HW7:=hide hw7
  rw[<- hw7]
  clear hM8 ht8 hb17 hw7 T7 N7 hr7 hR7
  go_region
  all_goals go_end0
  all_goals refine⟨rfl,?_⟩
  all_goals
   have h17:=Hb17.out
   have h8:=HT8.out
   have hz1:=HB1.out.size
   have hz17:=h17.size
   have hlt1:=HR.out.lt
   have hz8:w8.heap.size=w7.heap.size:=h8.size
   have hxs:x.s<w.heap.size:=(HT.out.kind x.s (by rw[HT.out.rs p x hx];simp)).lt
   have hlm:=Hlm.out
   have hoth : ∀ i,i<w.heap.size->i≠x.s->i≠m->w8.heap[i]?=w.heap[i]?:=fun i hi h1 h2=>by
    rw[h8.block i h1]
    exact (h17.block i (by omega)).trans (HB1.out.block i hi)
   have e8:w8.heap[m]?=w.heap[m]?:=by
    rw[h8.block m Hms.out]
    exact (h17.block m (by omega)).trans (HB1.out.block m hlm)
   have hslL : ∀ ao l,SlL w ao l->SlL w8 ao l:=fun ao l=>slL_keep (by omega) fun i hi hz=>by
    refine hoth i hi (fun e=>hz ?_) (fun e=>hz ?_)
    ·rw[e];exact HT.out.kind _ (by rw[HT.out.rs p x hx];simp)
    ·rw[e];exact HT.out.kind _ (by rw[Hmr.out];simp)
   have hgot : ∀ y,Z.got C p t y=S.g y:=fun y=>by unfold Z.got;rw[HS.out];rfl
   refine HT.out.put hx t ht ttl c d m (Or.inl ⟨S,HS.out,Hm.out⟩) ⟨h8.os.trans (h17.os.trans HB1.out.os),h8.tape.trans (h17.tape.trans HB1.out.tape),h8.output.trans (h17.output.trans HB1.out.output),by rw[hz8];omega,fun i hi=>by omega⟩ hoth ?_ ?_
   ·exact HM8.out.congr fun k=>fput_U _ t ht _ k
   ·refine⟨h0,(Hmap.out.heap e8).mono (Nat.le_succ _),fun y=>?_⟩
    have:=(Hdi.out y).keep hslL
    by_cases e:y=c
    ·rw[if_pos e,hgot,Hg.out]
     rw[e,Hg.out] at this
     rw[e];exact this
    ·rw[if_neg e,hgot];exact this
open Go Go.RowKit
structure KeepsLp (B:Nat) (W W':World):Prop where
 size:W.heap.size<=W'.heap.size
 same : ∀ (k:Nat) (o:Obj),B<=k->W.heap[k]?=some o->o.isCells=false->o.isWalk=false->W'.heap[k]?=some o
def OwnLp {β : Type} (B:Nat) (I : β -> World->Prop):Prop :=
 ∀ s W W' row,I s W->W.grownBy W' row->(∀ r,row=some r->B<=r /\ ∃ o:Obj,W.heap[r]?=some o/\o.isCells=false/\o.isWalk=false)->I s W'
theorem OwnLp.putObj {β : Type} {B:Nat} {I : β -> World->Prop} (h:OwnLp B I) {s : β} {W:World} {l:Nat} {o:Obj} (o':Obj) (hs:I s W) (hB:B<=l) (hl:W.heap[l]?=some o) (ho:o.isCells=false) (hw:o.isWalk=false):I s (W.putObj l o') :=
 h s W _ (some l) hs (grownBy_putObj' W l o') (fun r e=>by cases e;exact⟨hB,o,hl,ho,hw⟩)
theorem OwnLp.alloc {β : Type} {B:Nat} {I : β -> World->Prop} (h:OwnLp B I) {s : β} {W:World} (o:Obj) (hs:I s W):I s (W.alloc o) :=
 h s W _ none hs (World.grownBy_alloc W o none) (fun r e=>by cases e)
def wpF (f:FuncId) (P:Program) (c:Code) (Q:Exit->Act->World->Prop) (a:Act) (w:World):Prop :=
 ∀ (b:Frame) (k:List Item) (cs:List Frame),b.roundOf=none->b.fn=f -> ∃ e a' w',Q e a' w'/\ArrivesIn (Machine.fenced P Fence.wide) P (lone (b.atR a (.code c::k)) cs w) b k cs e a' w'
theorem wpF_of_wpIn {f:FuncId} {n:Nat} {P:Program} {c:Code} {Q:Exit->Act->World->Prop} {a:Act} {w:World} (h:c.wpIn Fence.wide n P Q a w):wpF f P c Q a w:=fun b k cs hro _=>h b k cs hro trivial (room_wide _)
theorem wpF_seq {f:FuncId} {n:Nat} {P:Program} {x y:Code} {Q:Exit->Act->World->Prop} {a:Act} {w:World} (h:x.wpIn Fence.wide n P (Exit.then (wpF f P y Q) Q) a w):wpF f P (.seq x y) Q a w:=fun b k cs hro hb=>by
 obtain⟨e,a₁,w₁,hq,harr⟩:=h b (.code y::k) cs hro trivial (room_wide _)
 have one:StepsIn (Machine.fenced P Fence.wide) P (lone (b.atR a (.code (.seq x y)::k)) cs w) (lone (b.atR a (.code x :: .code y::k)) cs w) := .one (fenced_wide P _) stepR_seq
 cases e with
 | normal =>
  obtain⟨e₂,a₂,w₂,hq₂,harr₂⟩:=hq b k cs hro hb
  exact⟨e₂,a₂,w₂,hq₂,.of_steps (StepsIn.trans one harr) harr₂⟩
 | exit id=>exact⟨_,a₁,w₁,hq,.of_steps one (.pass (x := .code y) rfl (fun _ _ => .inl (by simp)) harr)⟩
 | goto l=>exact⟨_,a₁,w₁,hq,.of_steps one (.pass (x := .code y) rfl (fun _ _ => .inl (by simp)) harr)⟩
 | ret=>exact⟨_,a₁,w₁,hq,.of_steps one (.pass (x := .code y) rfl (fun _ _ => .inl (by simp)) harr)⟩
 | panic ch=>exact⟨_,a₁,w₁,hq,.of_steps one (.pass (x := .code y) rfl (fun _ _ => .inl (by simp)) harr)⟩
 | outgrown=>exact⟨_,a₁,w₁,hq,.of_steps one (.pass (x := .code y) rfl (fun _ _ => .inl (by simp)) harr)⟩
theorem wpF_seqF {f:FuncId} {P:Program} {x y:Code} {Q:Exit->Act->World->Prop} {a:Act} {w:World} (h:wpF f P x (Exit.then (wpF f P y Q) Q) a w):wpF f P (.seq x y) Q a w:=fun b k cs hro hb=>by
 obtain⟨e,a₁,w₁,hq,harr⟩:=h b (.code y::k) cs hro hb
 have one:StepsIn (Machine.fenced P Fence.wide) P (lone (b.atR a (.code (.seq x y)::k)) cs w) (lone (b.atR a (.code x :: .code y::k)) cs w) := .one (fenced_wide P _) stepR_seq
 cases e with
 | normal =>
  obtain⟨e₂,a₂,w₂,hq₂,harr₂⟩:=hq b k cs hro hb
  exact⟨e₂,a₂,w₂,hq₂,.of_steps (StepsIn.trans one harr) harr₂⟩
 | exit id=>exact⟨_,a₁,w₁,hq,.of_steps one (.pass (x := .code y) rfl (fun _ _ => .inl (by simp)) harr)⟩
 | goto l=>exact⟨_,a₁,w₁,hq,.of_steps one (.pass (x := .code y) rfl (fun _ _ => .inl (by simp)) harr)⟩
 | ret=>exact⟨_,a₁,w₁,hq,.of_steps one (.pass (x := .code y) rfl (fun _ _ => .inl (by simp)) harr)⟩
 | panic ch=>exact⟨_,a₁,w₁,hq,.of_steps one (.pass (x := .code y) rfl (fun _ _ => .inl (by simp)) harr)⟩
 | outgrown=>exact⟨_,a₁,w₁,hq,.of_steps one (.pass (x := .code y) rfl (fun _ _ => .inl (by simp)) harr)⟩
def BP (Q:Exit->Act->World->Prop):Exit->Act->World->Prop
 | .normal,a,w=>Q .normal a w
 | .panic ch,a,w=>Q (.panic ch) a w
 | _,_,_=>False
theorem wpF_block {f:FuncId} {P:Program} {id:Nat} {c:Code} {Q:Exit->Act->World->Prop} {a:Act} {w:World} (h:wpF f P c (BP Q) a w):wpF f P (.block id c) Q a w:=fun b k cs hro hb=>by
 obtain⟨e,a₁,w₁,hq,harr⟩:=h b (.inBlock id::k) cs hro hb
 have one:StepsIn (Machine.fenced P Fence.wide) P (lone (b.atR a (.code (.block id c)::k)) cs w) (lone (b.atR a (.code c :: .inBlock id::k)) cs w) := .one (fenced_wide P _) stepR_block
 cases e with
 | normal=>exact⟨.normal,a₁,w₁,hq,StepsIn.trans one (StepsIn.trans harr (.one (fenced_wide P _) stepR_inBlock))⟩
 | panic ch=>exact⟨.panic ch,a₁,w₁,hq,.of_steps one harr⟩
 | exit id=>exact hq.elim
 | goto l=>exact hq.elim
 | ret=>exact hq.elim
 | outgrown=>exact hq.elim
theorem calls_of_wpF {f:FuncId} {n:Nat} {P:Program} {fn:Func} {c:Code} {args:Array Value} {w:World} {R:Ending->World->Prop} (hf:P.funcs[f]?=some fn) (hb:fn.body=some c)
 (h:wpF f P c (bodyPostM Fence.wide n P fn R) { tmps:=args++Array.replicate (fn.ntmps - args.size) undef,defers := [] } w):CallsIn Fence.wide n P f args w R:=by
 refine⟨trivial,fun cs hr=>?_⟩
 obtain⟨b,hbe⟩ : ∃ b:Frame,b = { (default:Frame) with fn:=f,kind := .normal,roundOf:=none } := ⟨_,rfl⟩
 have henter:Frame.enter P f args .normal=b.atR { tmps:=args++Array.replicate (fn.ntmps - args.size) undef,defers := [] } [.code c]:=by
  rw[hbe];simp[Frame.enter,Frame.atR,hf,hb]
 obtain⟨e,a',w',hq,harr⟩:=h b [] cs (by rw[hbe]) (by rw[hbe])
 rw[<- henter] at harr
 subst hbe
 cases e with
 | normal =>
  obtain⟨e',w'',fr',hR,hs,hfn,hl⟩:=leaves_stepsInM (F:=Fence.wide) (n:=n) a'.defers .returning w' { ({ (default:Frame) with fn:=f,kind := .normal,roundOf:=none } : Frame).atR a' [] with mode := .returning } cs rfl rfl rfl hf rfl trivial hr hq
  exact⟨e',w'',fr',hR,ComesIn.of_steps (StepsIn.trans harr (.one (fenced_wide P _) (stepR_end rfl))) hs,hfn,hl⟩
 | panic chain =>
  obtain⟨todo,hs₀⟩:=harr
  obtain⟨e',w'',fr',hR,hs,hfn,hl⟩:=leaves_stepsInM (F:=Fence.wide) (n:=n) a'.defers (.panicking chain) w' { ({ (default:Frame) with fn:=f,kind := .normal,roundOf:=none } : Frame).atR a' todo with mode := .panicking chain } cs rfl rfl rfl hf rfl trivial hr hq
  exact⟨e',w'',fr',hR,ComesIn.of_steps hs₀ hs,hfn,hl⟩
 | ret =>
  obtain⟨todo,hs₀⟩:=harr.1 rfl
  obtain⟨e',w'',fr',hR,hs,hfn,hl⟩:=leaves_stepsInM (F:=Fence.wide) (n:=n) a'.defers .returning w' { ({ (default:Frame) with fn:=f,kind := .normal,roundOf:=none } : Frame).atR a' todo with mode := .returning } cs rfl rfl rfl hf rfl trivial hr hq
  exact⟨e',w'',fr',hR,ComesIn.of_steps hs₀ hs,hfn,hl⟩
 | exit id=>exact hq.elim
 | goto l=>exact hq.elim
 | outgrown =>
  rcases harr with hk | ho
  ·cases hk
  ·exact⟨.outgrown,w',Frame.enter P f args .normal,hq,ho,by rw[henter];rfl,trivial⟩
def roundP (P:Program) (l:Nat) (R:Ending->World->Prop):Exit->Act->World->Prop
 | .normal,_,w => ∃ v w',(Instr.endRound l none).run P w = .ok v w'/\R (.returned v) w'
 | .panic ch,a,w=>a.defers = []/\R (.panicked ch) w
 | _,_,_=>False
theorem roundIn_two {n:Nat} {P:Program} {l:Nat} {f:FuncId} {fn:Func} {tmps:Array Value} {assign body:Code} {w:World} {R:Ending->World->Prop} (hf:P.funcs[f]?=some fn)
 (h:assign.wpIn (Fence.wide.inRound l) n P (Exit.then (fun a₁ w₁ => ∃ w₂,(Instr.beginRound l).run P w₁ = .ok () w₂ /\ body.wpIn (Fence.wide.inRound l) n P (roundP P l R) a₁ w₂) (fun _ _ _=>False)) { tmps:=tmps,defers := [] } w) :
 RoundIn Fence.wide n P l f tmps assign body w R:=by
 refine⟨trivial,fun c cs hr=>?_⟩
 obtain⟨b,hbe⟩ : ∃ b:Frame,b = { (default:Frame) with fn:=f,kind := .normal,roundOf:=some l } := ⟨_,rfl⟩
 have hb0:Frame.round l f tmps assign body .normal=b.atR { tmps:=tmps,defers := [] } [.code assign,.beginRound,.code body]:=by
  rw[hbe];simp[Frame.round,Frame.atR]
 have hro:b.roundOf=some l:=by rw[hbe]
 have hk:b.kind = .normal:=by rw[hbe]
 have hfn:b.fn=f:=by rw[hbe]
 have hany : ∀ m,(Fence.wide.inRound l).room m:=fun m=>room_wide m
 obtain⟨e,a₁,w₁,hq,harr⟩:=h b [.beginRound,.code body] (c::cs) hro trivial (hany _)
 rw[<- hb0] at harr
 cases e with
 | normal =>
  obtain⟨w₂,hbr,hbody⟩:=hq
  have s1:StepsIn (Machine.fenced P (Fence.wide.inRound l)) P (lone (b.atR a₁ [.beginRound,.code body]) (c::cs) w₁) (lone (b.atR a₁ [.code body]) (c::cs) w₂) := .one (fenced_wide P _) (stepR_beginRound hro hbr)
  obtain⟨e₂,a₂,w₃,hq₂,harr₂⟩:=hbody b [] (c::cs) hro trivial (hany _)
  cases e₂ with
  | normal =>
   obtain⟨v,w₄,hend,hR⟩:=hq₂
   exact⟨.returned v,w₄,hR,(StepsIn.trans harr s1).trans (StepsIn.trans harr₂ (.one (fenced_wide P _) (stepR_round_end hro hk hend)))⟩
  | panic ch =>
   obtain⟨hd,hR⟩:=hq₂
   obtain⟨todo,hs⟩:=harr₂
   refine⟨.panicked ch,w₃,hR,(StepsIn.trans harr s1).trans (StepsIn.trans hs (.one (fenced_wide P _) ?_))⟩
   exact step_leave_panicked ⟨rfl,hd,fn,by show P.funcs[b.fn]?=_;rw[hfn];exact hf⟩
  | ret=>exact hq₂.elim
  | exit id=>exact hq₂.elim
  | goto t=>exact hq₂.elim
  | outgrown=>exact hq₂.elim
 | exit id=>exact hq.elim
 | goto t=>exact hq.elim
 | ret=>exact hq.elim
 | panic chain=>exact hq.elim
 | outgrown=>exact hq.elim
def SeqTwo (n:Nat) (P:Program) (gf:Nat) (lb:Array Value) (encs:Nat->Array Value) (Kp:World->World->Prop) (S ok:List Nat->Prop) (w0:World):Prop :=
 ∀ (l:Nat) (J:List Nat->World->Prop) (Jd:List PanicEntry->World->Prop) (W:World),Below w0.heap.size w0 W->(∀ pre A,J pre A->J pre A.drew) ->
  (∀ pre x W1,J pre W1->ok pre->YieldAt Fence.wide (n - 1) P l (encs x) W1 fun e W'=>(e = .returned (.bool true)/\J (pre ++ [x]) W'/\Kp W1 W')\/(∃ ch,e = .panicked ch/\Jd ch W')) ->
  J [] W ->
  CallsIn Fence.wide n P gf (#[.func (.yield l) #[] #[]]++lb) W fun e W'=>((∃ v,e = .returned v) /\ ∃ xs,S xs/\J xs W')\/(∃ ch,e = .panicked ch/\Jd ch W')
def twoPost (B:Nat) (Kp:World->World->Prop) (I:List Nat->World->Prop) (Id:List PanicEntry->World->Prop) (xs:List Nat) (W:World):Exit->Act->World->Prop
 | .normal,_,W'=>KeepsLp B W W'/\Kp W W'/\I xs W'
 | .panic ch,a,W'=>a.defers = []/\KeepsLp B W W'/\Id ch W'
 | _,_,_=>False
theorem wpF_range {f:FuncId} {fn:Func} {n:Nat} {P:Program} {g:Operand} {ps:Array Tmp} {assign body:Code} {Q:Exit->Act->World->Prop} {a:Act} {w:World} (hf:P.funcs[f]?=some fn)
 {gf:Nat} {lb:Array Value} (hg:a.eval g = .func (.func gf) #[] lb) (eg : ∀ args w,(callFunc gf args).run P w = .ok (.enter gf args) w)
 {encs:Nat->Array Value} {Kp:World->World->Prop} {S ok:List Nat->Prop} {w0:World} (hseq:SeqTwo n P gf lb encs Kp S ok w0)
 (hKt : ∀ {A B C:World},Kp A B->Kp B C->Kp A C) (hKb : ∀ (W:World) (l:Nat) (o o':Obj),w.heap.size<=l->W.heap[l]?=some o->o.isCells=false->o.isWalk=false->Kp W (W.putObj l o')) (hb0:Below w0.heap.size w0 w) (hps : ∀ x,(encs x).size=ps.size)
 (I:List Nat->World->Prop) (Id:List PanicEntry->World->Prop) (hI:OwnLp w.heap.size I) (h0:I [] w) (a₁ : Nat->Act)
 (hassign : ∀ (l:Nat) (x:Nat) (W:World) (K:Act->World->Prop),K (a₁ x) W->assign.wpIn (Fence.wide.inRound l) (n - 1) P (Exit.then K (fun _ _ _=>False)) { tmps:=(ps.zip (encs x)).foldl (fun t (p,v)=>t.setIfInBounds p v) a.tmps,defers := [] } W)
 (hbody : ∀ (l:Nat) (pre:List Nat) (x:Nat) (W:World),I pre W->ok pre->body.wpIn (Fence.wide.inRound l) (n - 1) P (twoPost w.heap.size Kp I Id (pre ++ [x]) W) (a₁ x) W)
 (hdone : ∀ (D:Nat) (xs:List Nat) (W:World),w.heap.size<=D->S xs->I xs W->W.heap[D]?=some (.deferred (some []))->Q .normal { a with defers := { target := .collected D,args := #[] } :: a.defers } W)
 (hfell : ∀ (D:Nat) (ch:List PanicEntry) (W:World),w.heap.size<=D->Id ch W->W.heap[D]?=some (.deferred (some []))->Q (.panic ch) { a with defers := { target := .collected D,args := #[] } :: a.defers } W) :
 wpF f P (.rangeFunc g ps assign body) Q a w:=fun b k cs hro hb=>by
 obtain⟨rec,hrec⟩ : ∃ rec:LoopState->Option Code->Loop,rec=fun st pe => { state:=st,pending:=pe,fn:=f,tmps:=a.tmps,params:=ps,assign:=assign,body:=body,defers:=w.heap.size } := ⟨_,rfl⟩
 obtain⟨W1,hW1⟩ : ∃ W1,(w.alloc (.deferred (some []))).alloc (.loop (rec .ready none))=W1:=⟨_,rfl⟩
 have hD1:W1.heap[w.heap.size]?=some (.deferred (some [])):=by
  rw[<- hW1];exact (Below.heap_alloc _ _ _ (by simp)).trans (World.alloc_heap_new w _)
 have hL1:W1.heap[w.heap.size+1]?=some (.loop (rec .ready none)):=by
  rw[<- hW1]
  have:=World.alloc_heap_new (w.alloc (.deferred (some []))) (.loop (rec .ready none))
  rwa [World.size_alloc] at this
 have hI1:I [] W1:=by rw[<- hW1];exact hI.alloc _ (hI.alloc _ h0)
 have hB1:Below w0.heap.size w0 W1:=by
  rw[<- hW1];exact (hb0.alloc hb0.size _).alloc (by simp;have:=hb0.size;omega) _
 have he:(Instr.enterLoop b.fn a.tmps ps assign body b.roundOf).run P w = .ok (w.heap.size+1, [{ target := .collected w.heap.size,args := #[] }]) W1:=by
  rw[hro,hb, <- hW1,hrec];exact run_enterLoop_outer _ _ _ _ _
 have hres:(resolve a.eval (rangeCall g (w.heap.size+1)) 0).run P W1 = .ok { target := .fn (.func gf) lb,args := #[.func (.yield (w.heap.size+1)) #[] #[]] } W1:=by
  simp only[resolve,hg]
  simp[go_sem]
 have hinv:(invoke (.fn (.func gf) lb) #[.func (.yield (w.heap.size+1)) #[] #[]]).run P W1 = .ok (.enter gf (#[.func (.yield (w.heap.size+1)) #[] #[]]++lb)) W1:=by
  simp[invoke,go_sem,eg]
 have henter:=stepR_rangeFunc (P:=P) (b:=b) (a:=a) (k:=k) (cs:=cs) (w:=w) he hres hinv
 have hdr : ∀ (pre:List Nat) (A:World),I pre A->I pre A.drew:=fun pre A hA=>hI pre A _ none hA ⟨rfl,rfl,rfl,Nat.le_refl _,fun _ _ _=>rfl⟩ (fun r e=>by cases e)
 have hcall:=hseq (w.heap.size+1)
  (fun pre W=>I pre W/\W.heap[w.heap.size+1]?=some (.loop (rec .ready none))/\W.heap[w.heap.size]?=some (.deferred (some [])))
  (fun ch W=>Id ch W/\W.heap[w.heap.size]?=some (.deferred (some []))) W1 hB1 (fun pre A hA=>⟨hdr pre A hA.1,hA.2⟩) (by
   rintro pre x W ⟨hi,hl,hd⟩ hok
   have hlt:w.heap.size+1<W.heap.size:=(Array.getElem?_eq_some_iff.1 hl).1
   have hy:=run_yield (P:=P) (args:=encs x) hl (by rw[hrec];exact hps x)
   rw[hrec] at hy
   refine⟨f,_,assign,body,hy,roundIn_two hf (hassign _ x W _ ⟨_,run_beginRound hl (by rw[hrec]),?_⟩)⟩
   obtain⟨W2,hW2⟩ : ∃ W2,W.putObj (w.heap.size+1) (.loop { rec .ready none with state := .busy })=W2:=⟨_,rfl⟩
   have hl2:W2.heap[w.heap.size+1]?=some (.loop { rec .ready none with state := .busy }):=by rw[<- hW2];exact World.putObj_heap_same hlt
   have hd2:W2.heap[w.heap.size]?=some (.deferred (some [])):=by rw[<- hW2];exact (World.putObj_heap_other (by omega)).trans hd
   have hk2:Kp W W2:=by rw[<- hW2];exact hKb _ _ _ _ (by omega) hl rfl rfl
   have hi2:I pre W2:=by rw[<- hW2];exact hI.putObj _ hi (by omega) hl rfl rfl
   rw[hW2]
   refine wpIn_mono (hbody _ pre x W2 hi2 hok) ?_
   rintro e a3 W3 hp
   cases e with
   | normal =>
    obtain⟨hk3,hkp3,hi3⟩:=hp
    have hl3:=hk3.same _ _ (by omega) hl2 rfl rfl
    have hd3:=hk3.same _ _ (Nat.le_refl _) hd2 rfl rfl
    have hlt3:=(Array.getElem?_eq_some_iff.1 hl3).1
    have hr:=run_endRound (P:=P) none hl3
    refine⟨_,_,hr,Or.inl ⟨rfl,⟨hI.putObj _ hi3 (by omega) hl3 rfl rfl,?_,(World.putObj_heap_other (by omega)).trans hd3⟩,hKt (hKt hk2 hkp3) (hKb _ _ _ _ (by omega) hl3 rfl rfl)⟩⟩
    rw[World.putObj_heap_same hlt3,hrec];rfl
   | panic ch =>
    obtain⟨ha,hk3,hi3⟩:=hp
    exact⟨ha,Or.inr ⟨ch,rfl,hi3,hk3.same _ _ (Nat.le_refl _) hd2 rfl rfl⟩⟩
   | ret=>exact hp.elim
   | exit id=>exact hp.elim
   | goto t=>exact hp.elim
   | outgrown=>exact hp.elim) ⟨hI1,hL1,hD1⟩
 obtain⟨e,w₃,fr,hR,hsteps,hfn,hleave⟩:=hcall.2 (b.atR { a with defers := [{ target := .collected w.heap.size,args := #[] }]++a.defers } (.inRangeFunc (w.heap.size+1)::k)::cs) (room_wide _)
 have one:StepsIn (Machine.fenced P Fence.wide) P (lone (b.atR a (.code (.rangeFunc g ps assign body)::k)) cs w) _ := .one (fenced_wide P _) henter
 rcases hR with⟨⟨v,rfl⟩,xs,hS,hi,hl,hd⟩ | ⟨ch,rfl,hi,hd⟩
 ·have hend0:=run_endLoop (P:=P) hl (by rw[hrec];simp)
  obtain⟨W4,hW4⟩ : ∃ W4,W4=w₃.putObj (w.heap.size+1) (.loop { rec .ready none with state := .exhausted }):=⟨_,rfl⟩
  have hend:(Instr.endLoop (w.heap.size+1)).run P w₃ = .ok none W4:=by rw[hend0,hW4,hrec]
  have hi4:I xs W4:=by rw[hW4];exact hI.putObj _ hi (by omega) hl rfl rfl
  have hd4:W4.heap[w.heap.size]?=some (.deferred (some [])):=by rw[hW4];exact (World.putObj_heap_other (by omega)).trans hd
  refine⟨.normal, { a with defers := { target := .collected w.heap.size,args := #[] } :: a.defers },W4,hdone _ xs _ (Nat.le_refl _) hS hi4 hd4,?_⟩
  refine StepsIn.trans one (StepsIn.trans hsteps (.head (fenced_wide P _) ?_ (.one (fenced_wide P _) (stepR_endRangeFunc hend))))
  rw[<- finish_atR_inRangeFunc (w.heap.size+1) v];exact step_leave_returned hleave
 ·refine⟨.panic ch, { a with defers := { target := .collected w.heap.size,args := #[] } :: a.defers },w₃,hfell _ ch _ (Nat.le_refl _) hi hd,.inRangeFunc (w.heap.size+1)::k,?_⟩
  refine StepsIn.trans one (StepsIn.trans hsteps (.one (fenced_wide P _) ?_))
  rw[<- Frame.raise_atR];exact step_leave_panicked hleave
open Go.RowKit Go.Shelf
attribute [local go_sem] Oper.semAt_some
set_option maxRecDepth 100000 in
set_option maxHeartbeats 2000000 in
theorem back1_two (l b1 C L:Nat) (ao:Option Addr) (n:List (List UInt8)) (hL:Hid (n.length=L)) (hL2:L<=1000000) (J:List Nat->World->Prop) (Jd:List PanicEntry->World->Prop)
 (hY : ∀ pre x W,J pre W->pre.length<L->YieldAt Fence.wide 4 Tryz.prog l (bwv n x) W fun e W' =>
  (e = .returned (.bool true)/\J (pre ++ [x]) W'/\KpA b1 ao W W')\/(∃ ch,e = .panicked ch/\Jd ch W'))
 (W:World) (hb1:RowAt W b1 28 #[.slice ao L C]) (hs:SlS W ao n) (h0:J [] W) :
 CallsIn Fence.wide 5 Tryz.prog 131 #[.func (.yield l) #[] #[],.pointer (some ⟨b1,0,none⟩)] W fun e W'=>((∃ v,e = .returned v)/\J (List.range L) W')\/(∃ ch,e = .panicked ch/\Jd ch W'):=by
 refine callsIn_of_wp Tryz.func131 rfl trivial ?_ rfl
 simp only[Tryz.ntmps131,List.size_toArray,List.length_cons,List.length_nil,Nat.reduceAdd,Nat.reduceSub,Array.replicate_succ,Array.replicate_zero,List.push_toArray,List.append_toArray,List.nil_append,List.cons_append]
 have x1:W.cell? ⟨b1,0,none⟩=some (.slice ao L C):=hb1.cell 0
 have hw0:IntKind.i64.wrap ((L:Int) - 1)=(L:Int) - 1:=by rw[IntKind.wrap_i64];omega
 have HS:=hide hs
 have HB:=hide hb1
 clear hs hb1
 gi_wp2
 clear x1
 gi_loopw [3] (fun i wr => ∃ k:Nat,k<=L/\i = .int .i64 ((L:Int) - 1 - (k:Int))/\J (List.range k) wr/\RowAt wr b1 28 #[.slice ao L C]/\SlS wr ao n)
  (fun i _=>(intOf i+1).toNat)
 case atStart=>exact⟨0,by omega,by simp,by simpa using h0,HB.out,HS.out⟩
 case round =>
  obtain⟨k,hk,rfl,hJs,hr1,hs1⟩:=hrel
  have x1:wr.cell? ⟨b1,0,none⟩=some (.slice ao L C):=hr1.cell 0
  by_cases hlt:k<L
  ·have hge:(0:Int)<=(L:Int) - 1 - (k:Int):=by omega
   obtain⟨g,o,rfl,hg,hc⟩:=hs1 (by have:=hL.out;omega)
   obtain⟨i,hi⟩ : ∃ i,i=L - 1 - k:=⟨_,rfl⟩
   have hie:(L:Int) - 1 - (k:Int)=(i:Int):=by omega
   have x2:wr.cell? ⟨g,o+i,none⟩=some (.string ⟨(lab n k).toArray⟩):=by
    have:=hc i (by have:=hL.out;omega)
    rw[this];unfold lab;rw[hL.out, <- hi]
   have hin:(i:Int)<(L:Int):=by omega
   have hw1:IntKind.i64.wrap ((i:Int) - 1)=(L:Int) - 1 - ((k+1:Nat):Int):=by rw[IntKind.wrap_i64];omega
   obtain⟨fn,tmps,assign,body,hy,hR⟩:=hY (List.range k) k wr hJs (by rw[List.length_range];exact hlt)
   unfold bwv at hy
   rw[hL.out,hie] at hy
   rw[hie] at hge ⊢
   have HR:=hide hR
   have H1:=hide hr1
   have H2:=hide hs1
   have HI:=hide hi
   have HC:=hide hc
   clear hR hr1 hs1 hi hie hc
   gi_wp2
   refine HR.out.mono ?_
   rintro e W3 (⟨rfl,hJ3,hk3⟩ | ⟨ch,rfl,hJx3⟩)
   ·have hr13:RowAt W3 b1 28 #[.slice (some ⟨g,o,none⟩) L C]:=hk3.box.trans H1.out
    have hs13:SlS W3 (some ⟨g,o,none⟩) n:=hk3.sl H2.out
    gi_wp2
    (try rw[hw1])
    go_roundw
    case rel=>exact⟨k+1,by omega,rfl,by rw[List.range_succ];exact hJ3,hr13,hs13⟩
    case measure=>simp[intOf];have:=HI.out;omega
   ·gi_wp2
    exact⟨rfl,Or.inr ⟨ch,rfl,hJx3⟩⟩
  ·have hge : ¬ (0:Int)<=(L:Int) - 1 - (k:Int):=by omega
   have hkL:k=L:=by omega
   have HK:=hide hkL
   clear hkL
   gi_wp2
   go_end0
   exact Or.inl ⟨⟨_,rfl⟩,by rw[<- HK.out];exact hJs⟩
theorem TreeAt.box {w:World} {ρ : Nat->Role} {G:List (List UInt8)->Option Nd} {C:List (List UInt8)->Nat->Option Z.St} {K b n:Nat} (T:TreeAt w ρ G C K) (hb:Boxed w b 91 (.pointer (some ⟨n,0,none⟩))) (u:Value):TreeAt (w.setCell ⟨b,0,none⟩ u) ρ G C K:=by
 have hb':w.heap[b]?=some (Obj.cells #[.pointer (some ⟨n,0,none⟩)] 91):=hb
 have g:=grownBy_setCell' w b u
 have hne : ∀ i, ρ i ≠ .none->i≠b:=fun i hi e=>by
  rcases T.kind i hi with⟨es,k,h⟩ | ⟨x,y,h⟩
  ·rw[e,hb'] at h;cases h
  ·rw[e,hb'] at h;injection h with h;injection h with _ h _;exact absurd h (by decide)
 refine T.keep (fun i hi=>g.block i (T.kind i hi).lt (by simpa using hne i hi)) fun ao l hs hn=>?_
 obtain⟨k,o,e,hlt,hc⟩:=hs hn
 have hk:k≠b:=fun e2=>by
  have:=hc 0 hn
  rw[e2,cell_of_row _ _ _ _ _ _ hb'] at this
  cases o with
  | zero=>simp at this
  | succ o=>simp at this
 refine⟨k,o,e,Nat.lt_of_lt_of_le hlt g.size,fun j hj=>?_⟩
 rw[<- hc j hj];exact World.cell?_of_block (g.block k hlt (by simpa using hk))
structure GrI (w:World) (ρ : Nat->Role) (G:List (List UInt8)->Option Nd) (C:List (List UInt8)->Nat->Option Z.St) (K:Nat) (m:List (List UInt8)) (pre:List Nat) (W:World) (ρ':Nat->Role) (G':List (List UInt8)->Option Nd):Prop where
 tree:TreeAt W ρ' G' C (K+pre.length)
 grew:Grew w W ρ ρ' G G'
 at_:Boxed W w.heap.size 91 (ptr (nodeN G' (pre.map (lab m))))
 ex:(G' (pre.map (lab m))).isSome
 all : ∀ q,(G' q).isSome↔(G q).isSome\/q <+: pre.map (lab m)
theorem row_lp {A B:World} {row:Option Nat} {M g:Nat} {t:TypeId} {c:Array Value} (h:RowAt A g t c) (hg:A.grownBy B row) (hr : ∀ r,row=some r->M<=r /\ ∃ o:Obj,A.heap[r]?=some o/\o.isCells=false/\o.isWalk=false):RowAt B g t c :=
 row_own h hg fun r e=>by obtain⟨h1,o,h2,h3,_⟩:=hr r e;exact⟨h1,o,h2,h3⟩
theorem GrI.own {w:World} {ρ : Nat->Role} {G:List (List UInt8)->Option Nd} {C:List (List UInt8)->Nat->Option Z.St} {K:Nat} {m:List (List UInt8)} {M:Nat} {ρ':Nat->Role} {G':List (List UInt8)->Option Nd} (hM:w.heap.size<=M):OwnLp M (fun pre W=>GrI w ρ G C K m pre W ρ' G'):=by
 intro pre A B row h hg hr
 have hz : ∀ (i:Nat) (o:Obj),A.heap[i]?=some o->(o.isCells=true\/o.isWalk=true)->B.heap[i]?=A.heap[i]?:=fun i o ho hc=>hg.block i (Array.getElem?_eq_some_iff.1 ho).1 fun e=>by
  obtain⟨_,o2,h1,h2,h3⟩:=hr i e.symm
  rw[ho] at h1;injection h1 with h1;subst h1
  rcases hc with hc | hc
  ·rw[hc] at h2;cases h2
  ·rw[hc] at h3;cases h3
 refine⟨h.tree.keep (fun i hi=>?_) fun ao l hs hn=>?_,⟨h.grew.more,⟨hg.os.trans h.grew.mv.os,hg.tape.trans h.grew.mv.tape,hg.output.trans h.grew.mv.output,Nat.le_trans h.grew.mv.size hg.size,fun i hi h0=>?_⟩,h.grew.root⟩,row_lp h.at_ hg hr,h.ex,h.all⟩
 ·rcases h.tree.kind i hi with⟨es,k,hb⟩ | ⟨x,y,hb⟩
  ·exact hz i _ hb (Or.inr rfl)
  ·exact hz i _ hb (Or.inl rfl)
 ·obtain⟨k,o,e,hlt,hc⟩:=hs hn
  have h0:=hc 0 hn
  have hcell : ∃ ob,A.heap[k]?=some ob/\(ob.isCells=true\/ob.isWalk=true):=by
   have h1:A.heap[k]?=some A.heap[k]:=Array.getElem?_eq_getElem hlt
   refine⟨_,h1,Or.inl ?_⟩
   cases ho:A.heap[k] with
   | cells c t f=>rfl
   | _=>rw[ho] at h1;simp[World.cell?,h1] at h0
  obtain⟨ob,h1,h2⟩:=hcell
  refine⟨k,o,e,Nat.lt_of_lt_of_le hlt hg.size,fun j hj=>?_⟩
  rw[<- hc j hj];exact World.cell?_of_block (hz k ob h1 h2)
 ·refine (hg.block i (Nat.lt_of_lt_of_le hi h.grew.mv.size) fun e=>?_).trans (h.grew.mv.block i hi h0)
  have:=(hr i e.symm).1;omega
theorem KpA.ownL {b1:Nat} {ao:Option Addr} {w5:World} {M:Nat} (h1 : ∃ (c:Array Value) (t:TypeId) (f:Nat × Nat),w5.heap[b1]?=some (Obj.cells c t f)) (h2 : ∀ a,ao=some a -> ∃ (c:Array Value) (t:TypeId) (f:Nat × Nat),w5.heap[a.block]?=some (Obj.cells c t f)):OwnLp M (fun (_:List Nat) W=>KpA b1 ao w5 W) :=
 fun s A B row hI hg hr=>KpA.own (M:=M) h1 h2 s A B row hI hg fun r e=>by obtain⟨h3,o,h4,h5,_⟩:=hr r e;exact⟨h3,o,h4,h5⟩
set_option maxRecDepth 100000 in
set_option maxHeartbeats 4000000 in
theorem grow_any (w:World) (Zb:Nat) (av:Value) (cnt:Int) (ρ : Nat->Role) (G:List (List UInt8)->Option Nd) (C:List (List UInt8)->Nat->Option Z.St) (K:Nat) (T:TreeAt w ρ G C K) (hz:RowAt w Zb 94 #[av,ptr (nodeN G []),.int .i64 cnt]) (n:List (List UInt8)) (ao:Option Addr) (len cap:Nat) (hl:Hid (n.length=len)) (hs:SlS w ao n) (hm:Hid (N.Small n)) (hK:K+len+1<=1000000) :
 Calls Tryz.prog 86 #[.pointer (some ⟨Zb,0,none⟩),.slice ao len cap] w fun e w' => ∃ v,e = .returned v /\ ∃ ρ' G' x,v = .pointer (some ⟨x.n,0,none⟩)/\G' (path n)=some x/\TreeAt w' ρ' G' C (K+len)/\Grew w w' ρ ρ' G G' /\ ∀ q,(G' q).isSome↔(G q).isSome\/q <+: path n:=by
 have hmx:Tryz.prog.follows .mixedOrders=true:=by kernel_rfl
 have z1:w.cell? ⟨Zb,1,none⟩=some (ptr (nodeN G [])):=hz.cell 1
 have HS:=hide hs
 have HT:=hide T
 clear hs T hz
 unfold ptr at z1
 refine (callsIn_wide (n:=6)).1 ?_
 refine calls_of_wpF Tryz.func86 rfl ?_
 simp only[Tryz.ntmps86,List.size_toArray,List.length_cons,List.length_nil,Nat.reduceAdd,Nat.reduceSub,Array.replicate_succ,Array.replicate_zero,List.push_toArray,List.append_toArray,List.nil_append,List.cons_append]
 obtain⟨w3,hw3⟩ : ∃ w3,w3=w.alloc (.cells #[.pointer (some ⟨nodeN G [],0,none⟩)] 91):=⟨_,rfl⟩
 have F3:Hid (Boxed w3 w.heap.size 91 (ptr (nodeN G []))/\Below w.heap.size w w3/\w3.heap.size=w.heap.size+1):=by
  rw[hw3]
  exact⟨Boxed.new w _ _,(Below.refl _ w).alloc (Nat.le_refl _) _,by simp⟩
 have S3:=hide (HS.out.below F3.out.2.1 (Nat.le_refl _))
 have HW3:=hide hw3
 clear hw3
 refine wpF_seq (n:=6) ?_
 gi_wp2
 refine wpF_seq (n:=6) ?_
 gi_wp2
 rw[<- HW3.out]
 refine wpF_seqF ?_
 refine wpF_seq (n:=6) ?_
 gi_wp2_with (first
  | (refine⟨trivial,?_⟩;gi_at_call 48;refine (callsIn_wide.2 (lower_any n ao len cap w3 hl S3.out hm)).mono ?_;rintro e w4 ⟨v4,rfl,hv4,hb4⟩;obtain⟨a4,c4,rfl,hs4,_,hc4,_⟩:=OwnS.open hv4;have hk4:=OwnS.blk hv4;have hl4:Hid ((N.lowN n).length=len):=(by show _=_;rw[N.lowN_len];exact hl.out);rw[hl4.out])
  | (refine⟨trivial,?_⟩;gi_at_call 101;refine (callsIn_wide.2 (backward_any w4 a4 len c4)).mono ?_;rintro e wb ⟨rfl,hwb⟩;rw[hwb];clear hwb wb)
  | fail)
 have G5:Hid (RowAt (w4.alloc (.cells #[.slice a4 len c4] 28)) w4.heap.size 28 #[.slice a4 len c4]/\SlS (w4.alloc (.cells #[.slice a4 len c4] 28)) a4 (N.lowN n)/\Below w3.heap.size w3 (w4.alloc (.cells #[.slice a4 len c4] 28))/\(w4.alloc (.cells #[.slice a4 len c4] 28)).heap.size=w4.heap.size+1/\w3.heap.size<=w4.heap.size) :=
  ⟨RowAt.new w4 _ _,hs4.alloc _,hb4.alloc hb4.size _,by simp,hb4.size⟩
 have hL2:len<=1000000:=by rw[<- hl.out];exact hm.out.1
 have hlab : ∀ x,(lab (N.lowN n) x).length<=1000000:=fun x=>by
  unfold lab
  rw[List.getD_eq_getElem?_getD]
  cases h:(N.lowN n)[(N.lowN n).length - 1 - x]? with
  | none=>simp
  | some l =>
   have h1:=List.mem_of_getElem? h
   unfold N.lowN at h1
   obtain⟨l0,h2,rfl⟩:=List.mem_map.1 h1
   rw[Option.getD_some,N.lowL_len];exact hm.out.2 l0 h2
 have HK5:Hid (∀ a,a4=some a->w.heap.size+1<=a.block /\ ∃ c f,(w4.alloc (.cells #[.slice a4 len c4] 28)).heap[a.block]?=some (.cells c 9 f)):=fun a e=>by
  have hO:w4.ownsRow w3.heap.size 9 1 (.slice a4 (N.lowN n).length c4) (N.lowN n).length (vs (N.lowN n)):=hv4
  rcases hO.2 with⟨e1,_⟩ | ⟨g,cap,cur,e1,hg0,hgb,_⟩
  ·injection e1 with e1;rw[e] at e1;cases e1
  ·injection e1 with e1;rw[e] at e1;injection e1 with e1;subst e1
   refine⟨by have:=F3.out.2.2;show w.heap.size+1<=g;omega,cur,(0,0),?_⟩
   show (w4.alloc _).heap[g]?=_
   rw[Below.heap_alloc _ _ g (Array.getElem?_eq_some_iff.1 hgb).1];exact hgb
 clear hs4 hb4 hv4 hc4 z1
 generalize w4.alloc (.cells #[.slice a4 len c4] 28)=w5 at G5 HK5 ⊢
 have hz5:w.heap.size+1<=w4.heap.size:=by have:=F3.out.2.2;have:=G5.out.2.2.2.2;omega
 obtain⟨m,hme⟩ : ∃ m,m=N.lowN n:=⟨_,rfl⟩
 rw[<- hme] at G5 hl4 hlab
 have HM:=hide hme
 clear hme
 have own:OwnLp w5.heap.size (fun pre W=>(∃ ρ' G',GrI w ρ G C K m pre W ρ' G')/\KpA w4.heap.size a4 w5 W):=fun s A B row hI hg hr=>⟨(by obtain⟨⟨ρ1,G1,h1⟩,_⟩:=hI;exact⟨ρ1,G1,GrI.own (by have:=G5.out.2.2.2.1;omega) s A B row h1 hg hr⟩),KpA.ownL ⟨_,_,_,G5.out.1⟩ (fun a e=>by obtain⟨_,c,f,h⟩:=HK5.out a e;exact⟨c,_,f,h⟩) s A B row hI.2 hg hr⟩
 refine wpF_block ?_
 refine wpF_range (n:=5) Tryz.func86 (gf:=131) (lb := #[.pointer (some ⟨w4.heap.size,0,none⟩)]) rfl (enters_of Tryz.func131 (by kernel_rfl) rfl) (encs:=bwv m) (Kp:=KpA w4.heap.size a4) (S:=fun xs=>xs=List.range len) (ok:=fun pre=>pre.length<len) (w0:=w5) ?seq1 KpA.trans ?keep1 (Below.refl _ _) (fun _=>rfl)
  (fun pre W=>(∃ ρ' G',GrI w ρ G C K m pre W ρ' G')/\KpA w4.heap.size a4 w5 W) (fun _ _=>False) own ?init1
  (fun x => { tmps := #[.pointer (some ⟨Zb,0,none⟩),.slice ao len cap,undef,undef,.pointer none,.pointer (some ⟨w.heap.size,0,none⟩),undef,.string ⟨(lab m x).toArray⟩,undef,undef,.pointer (some ⟨Zb,0,none⟩),.pointer (some ⟨Zb,0,none⟩),.pointer (some ⟨Zb,1,none⟩),.pointer (some ⟨nodeN G [],0,none⟩),.slice ao len cap,.slice a4 len c4,.func (.func 131) #[] #[.pointer (some ⟨w4.heap.size,0,none⟩)],.int .i64 ((m.length:Int) - 1 - (x:Int)),.string ⟨(lab m x).toArray⟩,undef,undef,undef,undef,undef,undef,undef,undef,undef,undef,undef,undef,undef,undef,undef,undef,undef,undef,undef,undef],defers := [] }) ?assign1 ?body1 ?done1 ?fell1
 case seq1 =>
  intro l Jv Jd W hW hJ hY h0
  refine (back1_two l w4.heap.size c4 len a4 m hl4 hL2 Jv Jd hY W (G5.out.1.below hW G5.out.1.lt) (G5.out.2.1.below hW (Nat.le_refl _)) h0).mono ?_
  rintro e W' (⟨he,hj⟩ | h)
  ·exact Or.inl ⟨he,_,rfl,hj⟩
  ·exact Or.inr h
 case keep1 =>
  intro W l oo oo' hl hlo _ _
  have h4:=G5.out.2.2.2.1
  refine⟨World.putObj_heap_other (by omega),fun a e=>World.putObj_heap_other ?_,by simp⟩
  have:=hk4 a e
  omega
 case init1 =>
  have h5:=G5.out.2.2.1
  have hb:=F3.out.2.1.trans (h5.mono (by have:=F3.out.2.2;omega))
  refine⟨⟨ρ,G,⟨(HT.out.below_ hb).mono (Nat.le_add_right _ _),⟨More.refl _ _,ZMv.of_below hb,rfl⟩,F3.out.1.below_ h5 (Nat.le_refl _),HT.out.root,fun q=>?_⟩⟩,rfl,fun _ _=>rfl,Nat.le_refl _⟩
  rw[List.map_nil]
  constructor
  ·exact Or.inl
  ·rintro (h | h)
   ·exact h
   ·rw[List.prefix_nil.1 h];exact HT.out.root
 case assign1 =>
  intro l x W K hK
  unfold bwv
  gi_wp2
  exact hK
 case body1 =>
  rintro l pre x W ⟨⟨ρ1,G1,hI⟩,hKp⟩ hlen
  obtain⟨y,hy⟩:=Option.isSome_iff_exists.1 hI.ex
  have NY:=hI.tree.node _ y hy
  have hat:=hI.at_
  rw[nodeN_of hy] at hat
  have hq:pre.map (lab m) ++ [lab m x]=(pre ++ [x]).map (lab m):=by simp
  have hlook:(Instr.lookup 105 (.map (some y.b)) (.string ⟨(lab m x).toArray⟩) true).run Tryz.prog W = .ok (.tuple #[((G1 ((pre ++ [x]).map (lab m))).map fun y=>ptr y.n).getD (.pointer none),.bool ((G1 ((pre ++ [x]).map (lab m))).map fun y=>ptr y.n).isSome]) W:=by
   rw[<- hq];exact NY.below.look keyedS Tryz.underlying105 (Tryz.zeroValue91 W) (keyS (lab m x) (hlab x))
  have x0:W.cell? ⟨w.heap.size,0,none⟩=some (.pointer (some ⟨y.n,0,none⟩)):=hat.cell
  have x1:W.cell? ⟨y.n,1,none⟩=some (.map (some y.b)):=NY.row.cell 1
  have xf:=hat.frozen
  have HI:=hide hI
  have HAT:=hide hat
  have HY:=hide hy
  have HN:=hide NY
  have HQ:=hide hq
  clear hI hat hy NY hq
  dsimp only
  have hrow4:=HK5.out
  have hWz:=HI.out.grew.mv.size
  have hn4W:W.heap[w4.heap.size]?=some (Obj.cells #[.slice a4 len c4] 28):=hKp.box.trans G5.out.1
  have hrw4 : ∀ a,a4=some a->w.heap.size+1<=a.block /\ ∃ c f,W.heap[a.block]?=some (.cells c 9 f):=fun a e=>by
   obtain⟨h1,c,f,h2⟩:=hrow4 a e
   exact⟨h1,c,f,(hKp.row a e).trans h2⟩
  cases hg:G1 ((pre ++ [x]).map (lab m)) with
  | some y' =>
   rw[hg] at hlook
   have hlook':(Instr.lookup 105 (.map (some y.b)) (.string ⟨(lab m x).toArray⟩) true).run Tryz.prog W = .ok (.tuple #[.pointer (some ⟨y'.n,0,none⟩),.bool true]) W:=hlook
   clear hlook
   gi_wp2
   have g1:=grownBy_setCell' W w.heap.size (.pointer (some ⟨y'.n,0,none⟩))
   have hsame : ∀ i,i≠w.heap.size->i<W.heap.size->(W.setCell ⟨w.heap.size,0,none⟩ (.pointer (some ⟨y'.n,0,none⟩))).heap[i]?=W.heap[i]?:=fun i h1 h2=>g1.block i h2 (by simpa using h1)
   have hKP:KpA w4.heap.size a4 W (W.setCell ⟨w.heap.size,0,none⟩ (.pointer (some ⟨y'.n,0,none⟩))):=by
    refine⟨hsame _ (by omega) (Array.getElem?_eq_some_iff.1 hn4W).1,fun a e=>?_,g1.size⟩
    obtain⟨h1,c,f,h2⟩:=hrw4 a e
    exact hsame _ (by omega) (Array.getElem?_eq_some_iff.1 h2).1
   refine⟨⟨g1.size,fun k o hk hko _ _=>(hsame k (by have:=G5.out.2.2.2.1;omega) (Array.getElem?_eq_some_iff.1 hko).1).trans hko⟩,hKP,⟨ρ1,G1,⟨?_,⟨HI.out.grew.more,⟨g1.os.trans HI.out.grew.mv.os,g1.tape.trans HI.out.grew.mv.tape,g1.output.trans HI.out.grew.mv.output,Nat.le_trans hWz g1.size,fun i hi h0=>(hsame i (by omega) (by omega)).trans (HI.out.grew.mv.block i hi h0)⟩,HI.out.grew.root⟩,?_,by rw[hg];rfl,fun q=>?_⟩⟩,hKp.trans hKP⟩
   ·exact (HI.out.tree.box HAT.out _).mono (by rw[List.length_append];omega)
   ·rw[nodeN_of hg];exact HAT.out.set _
   ·rw[HI.out.all q, <- HQ.out]
    constructor
    ·rintro (h | h)
     ·exact Or.inl h
     ·exact Or.inr (h.trans (List.prefix_append _ _))
    ·rintro (h | h)
     ·exact Or.inl h
     ·rcases List.prefix_concat_iff.1 h with e | h
      ·rw[e,HQ.out]
       exact (HI.out.all _).1 (by rw[hg];rfl)
      ·exact Or.inr h
  | none =>
   rw[hg] at hlook
   have hlook':(Instr.lookup 105 (.map (some y.b)) (.string ⟨(lab m x).toArray⟩) true).run Tryz.prog W = .ok (.tuple #[.pointer none,.bool false]) W:=hlook
   clear hlook
   obtain⟨wn,hwn⟩ : ∃ wn,wn=((W.alloc (.map #[] 0)).alloc (.map #[] 0)).alloc (.cells #[.map (some W.heap.size),.map (some (W.heap.size+1))] 107):=⟨_,rfl⟩
   have hbn:Below W.heap.size W wn:=by rw[hwn];exact (((Below.refl _ W).alloc (Nat.le_refl _) _).alloc (by simp) _).alloc (by simp;omega) _
   have Tn:=HI.out.tree.below_ hbn
   have Nn:=Tn.node _ y HY.out
   have hnn:=new_node HI.out.tree hg W
   rw[<- hwn] at hnn
   have hzn:wn.heap.size=W.heap.size+3:=by rw[hwn];simp
   have v0:wn.cell? ⟨w.heap.size,0,none⟩=some (.pointer (some ⟨y.n,0,none⟩)):=(HAT.out.below_ hbn (Nat.le_refl _)).cell
   have v1:wn.cell? ⟨y.n,1,none⟩=some (.map (some y.b)):=Nn.row.cell 1
   obtain⟨w8,hrun,hM8,ht8⟩:=MapAt.update Nn.below keyedS Tryz.underlying105 (by have:=hlen;omega) (keyS (lab m x) (hlab x)) (.pointer (some ⟨W.heap.size+2,0,none⟩))
   have hbx8:Boxed w8 w.heap.size 91 (.pointer (some ⟨y.n,0,none⟩)):=(ht8.block _ (fun e=>by
    have h1:=HAT.out.below_ hbn (Nat.le_refl _)
    obtain⟨es,k,hb⟩:=ht8.was
    have h1:wn.heap[w.heap.size]?=_:=h1
    rw[e,hb] at h1;cases h1)).trans (HAT.out.below_ hbn (Nat.le_refl _))
   have y0:w8.cell? ⟨w.heap.size,0,none⟩=some (.pointer (some ⟨y.n,0,none⟩)):=hbx8.cell
   have yf:=hbx8.frozen
   have HWN:=hide hwn
   have HBN:=hide hbn
   have HTN:=hide Tn
   have HNN:=hide hnn
   have HZN:=hide hzn
   have HM8:=hide hM8
   have HT8:=hide ht8
   have HX8:=hide hbx8
   clear hwn hbn Tn Nn hnn hzn hM8 ht8 hbx8
   gi_wp2_with (first
    | (refine⟨trivial,?_⟩;gi_at_call 49;refine (CallsIn.inRound l (callsIn_wide.2 (newNode_any W))).mono ?_;rintro e wq ⟨rfl,hwq⟩;rw[hwq, <- HWN.out];clear hwq wq;unfold ptr)
    | fail)
   obtain⟨W',hW'⟩ : ∃ W',W'=w8.setCell ⟨w.heap.size,0,none⟩ (.pointer (some ⟨W.heap.size+2,0,none⟩)):=⟨_,rfl⟩
   rw[<- hW']
   have ht8:=HT8.out
   have hbn:=HBN.out
   have hzn:=HZN.out
   have hz8:=ht8.size
   have g1:=grownBy_setCell' w8 w.heap.size (.pointer (some ⟨W.heap.size+2,0,none⟩))
   have hyb:=HI.out.tree.rb _ y HY.out
   have hlb:y.b<W.heap.size:=(HI.out.tree.kind y.b (by rw[hyb];simp)).lt
   rw[<- HQ.out] at hg
   have hsame : ∀ i,i≠w.heap.size->i≠y.b->i<W.heap.size->W'.heap[i]?=W.heap[i]?:=fun i h1 h2 h3=>by
    rw[hW',g1.block i (by omega) (by simpa using h1),ht8.block i h2,hbn.block i h3]
   have hsz':W.heap.size<=W'.heap.size:=by rw[hW'];have:=g1.size;omega
   have hyw : ∃ es k,W.heap[y.b]?=some (.map es k):=HN.out.below.obj
   have hKP:KpA w4.heap.size a4 W W':=by
    obtain⟨es,k,hb⟩:=hyw
    refine⟨hsame _ (by omega) (fun e=>by rw[e,hb] at hn4W;cases hn4W) (Array.getElem?_eq_some_iff.1 hn4W).1,fun a e=>?_,hsz'⟩
    obtain⟨h1,c,f,h2⟩:=hrw4 a e
    exact hsame _ (by omega) (fun e=>by rw[e,hb] at h2;cases h2) (Array.getElem?_eq_some_iff.1 h2).1
   have T8:TreeAt w8 (role3 ρ1 (pre.map (lab m) ++ [lab m x]) ⟨W.heap.size+2,W.heap.size,W.heap.size+1,fun _=>0⟩) (gput G1 (pre.map (lab m) ++ [lab m x]) (some ⟨W.heap.size+2,W.heap.size,W.heap.size+1,fun _=>0⟩)) C (K+pre.length+1):=by
    refine HI.out.tree.child HY.out hg (Nat.le_succ _) (by show _<=W.heap.size+2;omega) (Nat.le_refl _) (by show _<=W.heap.size+1;omega) (by show W.heap.size+2≠W.heap.size;omega) (by show W.heap.size+2≠W.heap.size+1;omega) (by show W.heap.size≠W.heap.size+1;omega) (by omega) (fun i h1 h2=>by rw[ht8.block i h2,hbn.block i h1]) (HM8.out.congr fun k=>fput_S _ _ _ k) ?_ ?_ ?_
    ·exact (ht8.block _ (by show W.heap.size+2≠y.b;omega)).trans HNN.out.row
    ·refine (MapU.ext (HNN.out.sets.heap (ht8.block _ (by show W.heap.size≠y.b;omega))) fun t _=>?_).mono (by omega)
     rw[HI.out.tree.no_sets (by rw[<- HQ.out];exact hg) t];rfl
    ·refine (MapS.ext (HNN.out.below.heap (ht8.block _ (by show W.heap.size+1≠y.b;omega))) fun l=>?_).mono (by omega)
     rw[HI.out.tree.no_below (by rw[<- HQ.out];exact hg) [l]];rfl
   refine⟨⟨hsz',fun k o hk hko hnc hnw=>?_⟩,hKP,⟨_,gput G1 (pre.map (lab m) ++ [lab m x]) (some ⟨W.heap.size+2,W.heap.size,W.heap.size+1,fun _=>0⟩),⟨?_,⟨HI.out.grew.more.trans (role3_more (q:=pre.map (lab m) ++ [lab m x]) (y:=⟨W.heap.size+2,W.heap.size,W.heap.size+1,fun _=>0⟩) (by show _<=W.heap.size+2;omega) (Nat.le_refl _) (by show _<=W.heap.size+1;omega)) hWz,⟨?_,?_,?_,Nat.le_trans hWz hsz',fun i hi h0=>?_⟩,?_⟩,?_,?_,fun q=>?_⟩⟩,hKp.trans hKP⟩
   ·obtain⟨es,kk,hb⟩:=hyw
    refine (hsame k (by have:=G5.out.2.2.2.1;omega) (fun e=>?_) (Array.getElem?_eq_some_iff.1 hko).1).trans hko
    rw[e,hb] at hko;injection hko with hko;rw[<- hko] at hnw;cases hnw
   ·rw[hW',List.length_append];exact T8.box HX8.out _
   ·rw[hW'];exact g1.os.trans (ht8.os.trans (hbn.os.trans HI.out.grew.mv.os))
   ·rw[hW'];exact g1.tape.trans (ht8.tape.trans (hbn.tape.trans HI.out.grew.mv.tape))
   ·rw[hW'];exact g1.output.trans (ht8.output.trans (hbn.output.trans HI.out.grew.mv.output))
   ·refine (hsame i (by omega) (fun e=>?_) (by omega)).trans (HI.out.grew.mv.block i hi h0)
    have:=HI.out.grew.more i hi
    rw[h0,e,hyb] at this;cases this
   ·unfold nodeN
    rw[gput_other _ (by simp)]
    exact HI.out.grew.root
   ·rw[<- HQ.out,nodeN_of (gput_same _ _ _),hW'];exact HX8.out.set _
   ·rw[<- HQ.out,gput_same];rfl
   ·rw[<- HQ.out]
    by_cases e:q=pre.map (lab m) ++ [lab m x]
    ·rw[e,gput_same]
     exact⟨fun _=>Or.inr (List.prefix_refl _),fun _=>rfl⟩
    ·rw[gput_other _ e,HI.out.all q]
     constructor
     ·rintro (h | h)
      ·exact Or.inl h
      ·exact Or.inr (h.trans (List.prefix_append _ _))
     ·rintro (h | h)
      ·exact Or.inl h
      ·rcases List.prefix_concat_iff.1 h with e2 | h
       ·exact absurd e2 e
       ·exact Or.inr h
 case done1 =>
  rintro Dd xs W hDd rfl ⟨⟨ρ1,G1,hI⟩,_⟩ hK
  show wpF _ _ _ _ _ _
  refine wpF_of_wpIn (n:=6) ?_
  obtain⟨y,hy⟩:=Option.isSome_iff_exists.1 hI.ex
  have hat:=hI.at_
  rw[nodeN_of hy] at hat
  have x0:W.cell? ⟨w.heap.size,0,none⟩=some (.pointer (some ⟨y.n,0,none⟩)):=hat.cell
  have HI:=hide hI
  have HY:=hide hy
  clear hI hat hy
  gi_wp2
  refine⟨by simp,.inl ⟨_,_,rfl,run_takeDeferred hK,?_⟩⟩
  have hI2:GrI w ρ G C K m (List.range len) (W.putObj Dd (.deferred none)) ρ1 G1:=OwnLp.putObj (GrI.own (M:=w5.heap.size) (by have:=G5.out.2.2.2.1;omega)) _ HI.out hDd hK rfl rfl
  have hpq:(List.range len).map (lab m)=path n:=by
   rw[lab_range m len (by rw[hl4.out];omega),List.take_of_length_le (by rw[List.length_reverse,hl4.out];omega),HM.out];rfl
  have hT:=hI2.tree
  rw[List.length_range] at hT
  refine⟨_,results_tmp rfl _ _ _,_,rfl, ρ1,G1,y,rfl,by rw[<- hpq];exact HY.out,hT,hI2.grew,fun q=>?_⟩
  rw[hI2.all q,hpq]
 case fell1 =>
  intro _ _ _ _ h
  exact h.elim
namespace Z
theorem rlt_can {x y:R} (h:x.p=y.p) (h2:x.t=y.t):rlt x y↔x.c<y.c:=by
 unfold rlt cmpK
 rw[h,h2,if_pos ((N.cmpR_zero).2 rfl),if_pos rfl,lt_cmpB]
theorem type_of_rlt {x y:R} (hp:x.p=y.p) (h:rlt x y):x.t<y.t\/x.t=y.t:=by
 unfold rlt cmpK at h
 rw[hp,if_pos ((N.cmpR_zero).2 rfl)] at h
 by_cases e:x.t=y.t
 ·exact Or.inr e
 ·rw[if_neg e] at h
  split at h
  ·rename_i h2;exact Or.inl h2
  ·omega
def typesAt (L:List R) (p:List (List UInt8)):List Nat:=((L.filter (fun x=>decide (x.p=p))).map (·.t)).foldl dd1 []
theorem types_rise {L:List R} (h:L.Pairwise rlt) (p:List (List UInt8)):(typesAt L p).Pairwise (· < ·) /\ ∀ t,t∈typesAt L p ↔ ∃ x∈L,x.p=p/\x.t=t:=by
 have h0:((L.filter (fun x=>decide (x.p=p))).map (·.t)).Pairwise (fun a b=>a<b\/a=b):=by
  rw[List.pairwise_map]
  refine (h.filter _).imp_of_mem fun {a b} ha hb hab=>type_of_rlt ?_ hab
  have h1:=(List.mem_filter.1 ha).2
  have h2:=(List.mem_filter.1 hb).2
  simp at h1 h2
  rw[h1,h2]
 obtain⟨h1,h2⟩:=dd_spec (r:=(· < ·)) (fun a=>Nat.lt_irrefl a) (fun a b h h2=>Nat.lt_asymm h h2) _ [] (by simpa using h0) List.Pairwise.nil
 refine⟨h1,fun t=>?_⟩
 unfold typesAt;rw[h2 t]
 simp[List.mem_map,List.mem_filter,and_assoc]
def setAt (L:List R) (p:List (List UInt8)) (t:Nat):List R:=L.filter (fun x=>decide (x.p=p) && decide (x.t=t))
theorem mem_setAt {L:List R} {p:List (List UInt8)} {t:Nat} {x:R} : x∈setAt L p t↔x∈L/\x.p=p/\x.t=t:=by
 unfold setAt;rw[List.mem_filter];simp
theorem setAt_rise {L:List R} (h:L.Pairwise rlt) (p:List (List UInt8)) (t:Nat):((setAt L p t).map (·.c)).Pairwise (· < ·):=by
 rw[List.pairwise_map]
 refine List.Pairwise.imp_of_mem (R:=rlt) (fun {a b} ha hb hab=>?_) (h.filter _)
 obtain⟨_,h1,h2⟩:=mem_setAt.1 ha
 obtain⟨_,h3,h4⟩:=mem_setAt.1 hb
 exact (rlt_can (h1.trans h3.symm) (h2.trans h4.symm)).1 hab
theorem Of.isSome {L:List R} {C:List (List UInt8)->Nat->Option St} (h:Of L C) (p:List (List UInt8)) (t:Nat):(C p t).isSome ↔ ∃ x∈L,x.p=p/\x.t=t:=by
 constructor
 ·intro hs
  obtain⟨S,hS⟩:=Option.isSome_iff_exists.1 hs
  exact h.ex p t S hS
 ·rintro⟨x,hx,rfl,rfl⟩
  obtain⟨S,hS⟩:=h.hasS hx
  rw[hS];rfl
theorem Of.mem_c {L:List R} {C:List (List UInt8)->Nat->Option St} (h:Of L C) {p:List (List UInt8)} {t:Nat} {S:St} (hS:C p t=some S) (c:List UInt8):c∈(setAt L p t).map (·.c)↔(S.g c).isSome:=by
 rw[List.mem_map]
 constructor
 ·rintro⟨x,hx,rfl⟩
  obtain⟨h1,rfl,rfl⟩:=mem_setAt.1 hx
  rw[(h.at_ x h1 S hS).2];rfl
 ·intro hs
  obtain⟨d,hd⟩:=Option.isSome_iff_exists.1 hs
  obtain⟨x,hx,h1,h2,h3,_⟩:=h.back p t S c d hS hd
  exact⟨x,mem_setAt.2 ⟨hx,h1,h2⟩,h3⟩
def has (L:List R) (p:List (List UInt8)):Bool:=L.any (fun x=>p.isPrefixOf x.p)
theorem has_iff {L:List R} {p:List (List UInt8)} : has L p=true ↔ ∃ x∈L,p <+: x.p:=by
 unfold has;rw[List.any_eq_true];simp only[List.isPrefixOf_iff_prefix]
def Cov {α : Type} (G:List (List UInt8)->Option α) (L:List R):Prop := ∀ p,(G p).isSome->p = [] \/ ∃ x∈L,p <+: x.p
theorem Cov.more {α : Type} {G:List (List UInt8)->Option α} {L:List R} (h:Cov G L) (r:R):Cov G (put L r):=fun p hp=>by
 rcases h p hp with h3 | ⟨x,hx,hpx⟩
 ·exact Or.inl h3
 ·exact Or.inr ⟨_,mem_put.2 ⟨x,Or.inl hx,rfl⟩,by rw[setT_p];exact hpx⟩
theorem put_has (L:List R) (r:R) : ∃ x∈put L r,x.p=r.p:=by
 by_cases ht:there L r=true
 ·obtain⟨x,hx,h1,_⟩:=there_iff.1 ht
  exact⟨_,mem_put.2 ⟨x,Or.inl hx,rfl⟩,by rw[setT_p,h1]⟩
 ·exact⟨_,mem_put.2 ⟨r,Or.inr ⟨by simpa using ht,rfl⟩,rfl⟩,by rw[setT_p]⟩
end Z
open Go.RowKit
theorem nput_any (w:World) {ρ : Nat->Role} {G:List (List UInt8)->Option Nd} {C:List (List UInt8)->Nat->Option Z.St} {K:Nat} (T:TreeAt w ρ G C K) (hK:K+1<=1000000) {p:List (List UInt8)} {x:Nd} (hx:G p=some x) (t:Nat) (ht:t<65536) (ttl cl:Nat) (c d:List UInt8) (na:Option Addr) (nl nc:Nat) (da:Option Addr) (dc:Nat) (ca:Option Addr) (cc:Nat)
 (hsd:SlL w da d) (hnd:da=none->dc=0) (hd8:d.length<=8192) (hsc:SlL w ca c) (hc8:c.length<=1000000) :
 Calls Tryz.prog 87 #[.pointer (some ⟨x.n,0,none⟩),recV na nl nc t cl ttl da d.length dc,.slice ca c.length cc] w fun e w'=>e = .returned (.tuple #[]) /\ ∃ ρ' x',TreeAt w' ρ' (gput G p (some x')) (Z.cput C p t ttl c d) (K+1)/\x'.n=x.n/\x'.s=x.s/\x'.b=x.b/\Grew w w' ρ ρ' G (gput G p (some x')):=by
 cases hC:C p t with
 | none=>exact nput_new w T hK hx t ht ttl cl c d na nl nc da dc ca cc hsd hnd hd8 hsc hc8 hC
 | some S =>
  cases hg:S.g c with
  | none=>exact nput_add w T hK hx t ht ttl cl c d na nl nc da dc ca cc hsd hnd hd8 hsc hc8 S hC hg
  | some d0=>exact nput_same w T hK hx t ht ttl cl c d na nl nc da dc ca cc hsd hnd hd8 hsc hc8 S hC d0 hg
def cn (t:Nat) (d:List UInt8):Option (List UInt8):=D.full d (D.can t d)
structure ZAt (w:World) (Zb:Nat) (A:List (List UInt8)) (L:List Z.R) (ρ : Nat->Role) (G:List (List UInt8)->Option Nd) (C:List (List UInt8)->Nat->Option Z.St) (K:Nat):Prop where
 row : ∃ ao cap,RowAt w Zb 94 #[.slice ao A.length cap,ptr (nodeN G []),.int .i64 (L.length:Int)]/\SlS w ao A/\A.length<=cap
 tree:TreeAt w ρ G C K
 of:Z.Of L C
 rise:L.Pairwise Z.rlt
 lows:Z.Lows L
 cov:Z.Cov G L
 num:L.length<=2000
 okk : ∀ x∈L,x.t<65536/\x.ttl<4294967296/\cn x.t x.d=some x.c/\x.d.length<=8192/\x.p.length<=128
 zr : ρ Zb = .none
structure ZM (Zb:Nat) (ρ : Nat->Role) (w w':World):Prop where
 os:w'.os=w.os
 tape:w'.tape=w.tape
 output:w'.output=w.output
 size:w.heap.size<=w'.heap.size
 block : ∀ i,i<w.heap.size->i≠Zb -> ρ i = .none->w'.heap[i]?=w.heap[i]?
theorem ZM.of_below {Zb:Nat} {ρ : Nat->Role} {w w':World} (h:Below w.heap.size w w'):ZM Zb ρ w w':=⟨h.os,h.tape,h.output,h.size,fun i hi _ _=>h.block i hi⟩
theorem ZM.of_mv {Zb:Nat} {ρ : Nat->Role} {w w':World} (h:ZMv ρ w w'):ZM Zb ρ w w':=⟨h.os,h.tape,h.output,h.size,fun i hi _ h0=>h.block i hi h0⟩
theorem ZM.trans {Zb:Nat} {ρ ρ':Nat->Role} {a b c:World} (h:ZM Zb ρ a b) (k:ZM Zb ρ' b c) (hr:More a ρ ρ'):ZM Zb ρ a c :=
 ⟨k.os.trans h.os,k.tape.trans h.tape,k.output.trans h.output,Nat.le_trans h.size k.size,fun i hi h1 h2=>(k.block i (Nat.lt_of_lt_of_le hi h.size) h1 (by rw[hr i hi];exact h2)).trans (h.block i hi h1 h2)⟩
theorem ZM.count {w:World} {Zb:Nat} {ρ : Nat->Role} {c0 c1 c2 u:Value} (h:RowAt w Zb 94 #[c0,c1,c2]):ZM Zb ρ w (w.setCell ⟨Zb,2,none⟩ u):=by
 have hlt:=h.lt
 refine⟨rfl,rfl,rfl,by simp,fun i hi h1 _=>?_⟩
 exact heap_setCell_other _ _ _ _ h1
theorem slL_zm {Zb n:Nat} {m:Int} {ρ : Nat->Role} {w w':World} (h:ZM Zb ρ w w') (hk : ∀ i, ρ i ≠ .none->ZObj w i) {ao:Option Addr} {len cap:Nat} (hz:RowAt w Zb 94 #[.slice ao len cap,ptr n,.int .i64 m]) {a:Option Addr} {l:List UInt8} (hs:SlL w a l):SlL w' a l:=fun hn=>by
 obtain⟨b,o,e,hlt,hc⟩:=hs hn
 have hb1:b≠Zb:=fun e2=>by
  have:=hc 0 hn
  rw[e2,hz.cell] at this
  match o with
  | 0=>simp at this
  | 1=>simp[ptr] at this
  | 2=>simp at this
  | o+3=>simp at this
 have hb2 : ρ b = .none:=Classical.byContradiction fun h0=>by
  obtain⟨m,hm⟩:=(hk b h0).cell (hc 0 hn)
  cases hm
 refine⟨b,o,e,Nat.lt_of_lt_of_le hlt h.size,fun j hj=>?_⟩
 rw[<- hc j hj]
 exact World.cell?_of_block (h.block b hlt hb1 hb2)
theorem slS_zm {Zb n:Nat} {m:Int} {ρ : Nat->Role} {w w':World} (h:ZM Zb ρ w w') (hk : ∀ i, ρ i ≠ .none->ZObj w i) {ao:Option Addr} {len cap:Nat} (hz:RowAt w Zb 94 #[.slice ao len cap,ptr n,.int .i64 m]) {a:Option Addr} {l:List (List UInt8)} (hs:SlS w a l):SlS w' a l:=fun hn=>by
 obtain⟨b,o,e,hlt,hc⟩:=hs hn
 have hb1:b≠Zb:=fun e2=>by
  have:=hc 0 hn
  rw[e2,hz.cell] at this
  match o with
  | 0=>simp at this
  | 1=>simp[ptr] at this
  | 2=>simp at this
  | o+3=>simp at this
 have hb2 : ρ b = .none:=Classical.byContradiction fun h0=>by
  obtain⟨m,hm⟩:=(hk b h0).cell (hc 0 hn)
  cases hm
 refine⟨b,o,e,Nat.lt_of_lt_of_le hlt h.size,fun j hj=>?_⟩
 rw[<- hc j hj]
 exact World.cell?_of_block (h.block b hlt hb1 hb2)
theorem ZAt.mono {w:World} {Zb:Nat} {A:List (List UInt8)} {L:List Z.R} {ρ : Nat->Role} {G:List (List UInt8)->Option Nd} {C:List (List UInt8)->Nat->Option Z.St} {K K':Nat} (h:ZAt w Zb A L ρ G C K) (hk:K<=K'):ZAt w Zb A L ρ G C K' := { h with tree:=h.tree.mono hk }
theorem ZAt.keep {w w':World} {Zb:Nat} {A:List (List UInt8)} {L:List Z.R} {ρ : Nat->Role} {G:List (List UInt8)->Option Nd} {C:List (List UInt8)->Nat->Option Z.St} {K:Nat} (h:ZAt w Zb A L ρ G C K) (hz:w'.heap[Zb]?=w.heap[Zb]?) (hb : ∀ i, ρ i ≠ .none->w'.heap[i]?=w.heap[i]?) (hs : ∀ ao l,SlL w ao l->SlL w' ao l) (hs2 : ∀ ao l,SlS w ao l->SlS w' ao l):ZAt w' Zb A L ρ G C K:=by
 obtain⟨ao,cap,h1,h2,h3⟩:=h.row
 exact { h with row:=⟨ao,cap,hz.trans h1,hs2 _ _ h2,h3⟩,tree:=h.tree.keep hb hs }
theorem ZAt.lt {w:World} {Zb:Nat} {A:List (List UInt8)} {L:List Z.R} {ρ : Nat->Role} {G:List (List UInt8)->Option Nd} {C:List (List UInt8)->Nat->Option Z.St} {K:Nat} (h:ZAt w Zb A L ρ G C K):Zb<w.heap.size:=by
 obtain⟨ao,cap,h1,_⟩:=h.row;exact h1.lt
theorem ZAt.bel {w w':World} {Zb:Nat} {A:List (List UInt8)} {L:List Z.R} {ρ : Nat->Role} {G:List (List UInt8)->Option Nd} {C:List (List UInt8)->Nat->Option Z.St} {K:Nat} (h:ZAt w Zb A L ρ G C K) (hb:Below w.heap.size w w'):ZAt w' Zb A L ρ G C K :=
 h.keep (hb.block _ h.lt) (fun i hi=>hb.block i (h.tree.kind i hi).lt) (fun _ _ hs=>hs.below hb (Nat.le_refl _)) (fun _ _ hs=>hs.below hb (Nat.le_refl _))
end Go.Proofs.YtmbcegljmhcdeaaGreat
