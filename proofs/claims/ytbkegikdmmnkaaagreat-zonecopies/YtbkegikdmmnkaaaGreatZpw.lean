/- ZonePlays walked. Made by gzpw.py. -/
import Derived.Test.YtbkegikdmmnkaaaGreatZsx
import Derived.Test.YtbkegikdmmnkaaaGreatRefK
import Derived.Deep.RegionHeld3
import Derived.Laws.ResultCell
import Derived.Deep.RegionWith
import Derived.Deep.Cut
import Derived.Test.YtbkegikdmmnkaaaGreatZpl
import Derived.Test.YtbkegikdmmnkaaaGreatRpp
import Derived.Test.YtbkegikdmmnkaaaGreatNmC
import Derived.Test.YtbkegikdmmnkaaaGreatAkA
namespace Go.Proofs.YtbkegikdmmnkaaaGreat
set_option maxRecDepth 5000
open Go.RowKit
theorem infoRcs:(Tryz.prog.info? 39).map (·.size)=some 5:=by kernel_rfl
theorem results_rc {fn:Func} {p:Tmp} (h:fn.results = #[.cell p 39]) (tmps:Array Value) (w:World) (g:Nat) (cs:Array Value) (hs:cs.size=5) (hp:tmps.getD p undef = .pointer (some ⟨g,0,none⟩)) (hg:RowAt w g 39 cs) :
 (results fn tmps).run Tryz.prog w = .ok (.agg cs) w :=
 results_cell_row h tmps w g 39 cs (0,0) _ hp hg Tryz.underlying39 rfl (by rw[hs];exact infoRcs)
theorem and3 (k:Nat) (hk:k<4294967296):bits .and .u32 ((k:Int) / 16777216) 3=((k / 16777216 % 4:Nat):Int):=by
 have h : ∀ x:Nat,x<256->bits .and .u32 (x:Int) 3=((x % 4:Nat):Int):=by decide +kernel
 have:=h (k / 16777216) (by omega)
 rw[<- this];rfl
theorem ttl_get (k:Nat):((#[.int .u32 30,.int .u32 30,.int .u32 60,.int .u32 5]:Array Value))[k / 16777216 % 4]?=some (.int .u32 (Z.ttlK k:Int)):=by
 have h : ∀ j,j<4->((#[.int .u32 30,.int .u32 30,.int .u32 60,.int .u32 5]:Array Value))[j]?=some (.int .u32 (([30,30,60,5].getD j 0:Nat):Int))
  | 0,_=>rfl | 1,_=>rfl | 2,_=>rfl | 3,_=>rfl
  | j+4,h=>absurd h (by omega)
 exact h _ (Nat.mod_lt _ (by decide))
theorem rz_facts {W:World} {g:Nat} (h:RowAt W g 39 #[.slice none 0 0,.int .u16 0,.int .u16 0,.int .u32 0,.slice none 0 0]):W.cell? ⟨g,0,none⟩=some (.slice none 0 0)/\W.cell? ⟨g,1,none⟩=some (.int .u16 0)/\W.cell? ⟨g,2,none⟩=some (.int .u16 0)/\W.cell? ⟨g,3,none⟩=some (.int .u32 0)/\W.cell? ⟨g,4,none⟩=some (.slice none 0 0) /\
 W.frozen? ⟨g,0,none⟩=false/\W.frozen? ⟨g,1,none⟩=false/\W.frozen? ⟨g,2,none⟩=false/\W.frozen? ⟨g,3,none⟩=false/\W.frozen? ⟨g,4,none⟩=false :=
 ⟨h.cell 0,h.cell 1,h.cell 2,h.cell 3,h.cell 4,h.frozen 0,h.frozen 1,h.frozen 2,h.frozen 3,h.frozen 4⟩
theorem rz_bel {W W':World} {g:Nat} {t:TypeId} {c:Array Value} (hb:Below W.heap.size W W') (h:RowAt W g t c):RowAt W' g t c:=h.below hb h.lt
theorem lit_cell2 {W W':World} {g j tl:Nat} (hb:Below W.heap.size W W') (h:RowAt W g 35 #[.int .u32 30,.int .u32 30,.int .u32 60,.int .u32 5]) (hget:(#[.int .u32 30,.int .u32 30,.int .u32 60,.int .u32 5]:Array Value)[j]?=some (.int .u32 (tl:Int))):W'.cell? ⟨g,j,none⟩=some (.int .u32 (tl:Int)):=by
 rw[(rz_bel hb h).cell];exact hget
theorem cell_bel {W W':World} {B:Nat} {p:Addr} {v:Value} (h:Below B W W') (hB:W.heap.size<=B) (hc:W.cell? p=some v) (hp:p.block<W.heap.size):W'.cell? p=some v:=by
 rw[<- hc];exact World.cell?_of_block (h.block _ (Nat.lt_of_lt_of_le hp hB))
def RecD (w wc:World) (o:List (List UInt8)) (t tl:Nat) (d:List UInt8):Prop := ∃ na nc da dc,RowAt wc w.heap.size 39 #[.slice na o.length nc,.int .u16 (t:Int),.int .u16 1,.int .u32 (tl:Int),.slice da d.length dc]/\TyS wc na o/\o.length<=nc/\TyL wc da d/\(da=none->dc=0)/\d.length<=dc/\Below w.heap.size w wc
theorem bel_of {w X W':World} (h:Below w.heap.size w X) (hb:Below X.heap.size X W'):Below w.heap.size w W':=h.trans (hb.mono h.size)
theorem RecD.mk' {w wz:World} {o:List (List UInt8)} {t tl c3 c4:Nat} {d:List UInt8} {a3 a4:Option Addr} (h:RowAt wz w.heap.size 39 #[.slice none 0 0,.int .u16 0,.int .u16 0,.int .u32 0,.slice none 0 0]) (hb:Below w.heap.size w wz) (T3:TyS wz a3 o) (h3:o.length<=c3) (T4:TyL wz a4 d) (h4:a4=none->c4=0) (h5:d.length<=c4) :
 RecD w (((((wz.setCell ⟨w.heap.size,0,none⟩ (.slice a3 o.length c3)).setCell ⟨w.heap.size,1,none⟩ (.int .u16 (t:Int))).setCell ⟨w.heap.size,2,none⟩ (.int .u16 1)).setCell ⟨w.heap.size,3,none⟩ (.int .u32 (tl:Int))).setCell ⟨w.heap.size,4,none⟩ (.slice a4 d.length c4)) o t tl d:=by
 have r1:=h.set 0 (.slice a3 o.length c3)
 have r2:=r1.set 1 (.int .u16 (t:Int))
 have r3:=r2.set 2 (.int .u16 1)
 have r4:=r3.set 3 (.int .u32 (tl:Int))
 have k:=((((KB.setCell h (by decide) 0 (.slice a3 o.length c3)).trans (KB.setCell r1 (by decide) 1 (.int .u16 (t:Int)))).trans (KB.setCell r2 (by decide) 2 (.int .u16 1))).trans (KB.setCell r3 (by decide) 3 (.int .u32 (tl:Int)))).trans (KB.setCell r4 (by decide) 4 (.slice a4 d.length c4))
 exact⟨a3,c3,a4,c4,r4.set 4 _,T3.kb k,h3,T4.kb k,h4,h5,((((hb.setCell (p:=⟨w.heap.size,0,none⟩) (Nat.le_refl _) _).setCell (p:=⟨w.heap.size,1,none⟩) (Nat.le_refl _) _).setCell (p:=⟨w.heap.size,2,none⟩) (Nat.le_refl _) _).setCell (p:=⟨w.heap.size,3,none⟩) (Nat.le_refl _) _).setCell (p:=⟨w.heap.size,4,none⟩) (Nat.le_refl _) _⟩
set_option maxRecDepth 100000 in
set_option maxHeartbeats 2000000 in
theorem seatRecord_any (k:Nat) (hk:k<4294967296) (w:World):Calls Tryz.prog 44 #[.int .u32 (k:Int)] w fun e w' => ∃ na nc da dc,e = .returned (.agg #[.slice na (Z.owner (k % 256)).length nc,.int .u16 (Z.typeK (k / 256 % 256):Int),.int .u16 1,.int .u32 (Z.ttlK k:Int),.slice da (Z.dataK (Z.typeK (k / 256 % 256)) (k / 65536 % 256)).length dc]) /\
 SlS w' na (Z.owner (k % 256))/\(Z.owner (k % 256)).length<=nc/\SlL w' da (Z.dataK (Z.typeK (k / 256 % 256)) (k / 65536 % 256))/\(da=none->dc=0)/\(Z.dataK (Z.typeK (k / 256 % 256)) (k / 65536 % 256)).length<=dc/\Below w.heap.size w w':=by
 obtain⟨t,ht⟩ : ∃ t,t=Z.typeK (k / 256 % 256):=⟨_,rfl⟩
 obtain⟨o,ho⟩ : ∃ o,o=Z.owner (k % 256):=⟨_,rfl⟩
 obtain⟨d,hd⟩ : ∃ d,d=Z.dataK t (k / 65536 % 256):=⟨_,rfl⟩
 rw[<- ht, <- ho, <- hd]
 have h1:IntKind.u8.wrap ((k:Int) / 256)=((k / 256 % 256:Nat):Int):=by rw[IntKind.wrap_u8];omega
 have h2:IntKind.u8.wrap (k:Int)=((k % 256:Nat):Int):=by rw[IntKind.wrap_u8];omega
 have h3:IntKind.u8.wrap ((k:Int) / 65536)=((k / 65536 % 256:Nat):Int):=by rw[IntKind.wrap_u8];omega
 have h4:=and3 k hk
 obtain⟨j,hj⟩ : ∃ j,j=k / 16777216 % 4:=⟨_,rfl⟩
 rw[<- hj] at h4
 have hj4:j<4:=by rw[hj];exact Nat.mod_lt _ (by decide)
 have hjb:(j:Int)<4:=by omega
 have hget:=ttl_get k
 rw[<- hj] at hget
 obtain⟨tl,htl⟩ : ∃ tl,tl=Z.ttlK k:=⟨_,rfl⟩
 rw[<- htl] at hget ⊢
 have hget2 : ∀ h:j<(#[.int .u32 30,.int .u32 30,.int .u32 60,.int .u32 5]:Array Value).size,(#[.int .u32 30,.int .u32 30,.int .u32 60,.int .u32 5]:Array Value)[j] = .int .u32 (tl:Int):=fun h=>by
  rw[Array.getElem?_eq_getElem h] at hget
  exact Option.some.inj hget
 have e1:(k:Int) / 256 % 256=((k / 256 % 256:Nat):Int):=by omega
 have e2:(k:Int) % 256=((k % 256:Nat):Int):=by omega
 have e3:(k:Int) / 65536 % 256=((k / 65536 % 256:Nat):Int):=by omega
 have E1:=hide e1
 have E2:=hide e2
 have E3:=hide e3
 have HT:=hide ht
 clear e1 e2 e3 ht hj htl h1
 go_enter Tryz.func44,Tryz.ntmps44
 go_upto_region 2 with (go_at_call 22;rw[E1.out];refine (seatType_any (k / 256 % 256) (by omega) _).mono ?_;rintro e w1 ⟨he,hB1⟩;rw[HT.out.symm] at he;subst he)
 have HR1:=hide ((RowAt.new w 39 #[.slice none 0 0,.int .u16 0,.int .u16 0,.int .u32 0,.slice none 0 0]).below hB1 (by simp))
 have HB1:=hide hB1
 have HBW:=hide (((Below.refl _ w).alloc (Nat.le_refl _) _).trans (hB1.mono (by simp)))
 clear hB1
 have HO:=hide ho
 have HD:=hide hd
 clear ho hd
 have hown:=fun W=>owner_any (k % 256) (by omega) W
 rw[<- HO.out] at hown
 have hdat:=fun W=>seatData_any t (k / 65536 % 256) (by omega) W
 rw[<- HD.out] at hdat
 have HOW:=hide hown
 have HDA:=hide hdat
 clear hown hdat
 go_cut [2] from 4 (fun s2 wc=>s2 = .pointer (some ⟨w.heap.size,0,none⟩)/\RecD w wc o t tl d)
 case first =>
  go_region_with (first
   | (go_at_call 21;(first | rw[E2.out] | skip);refine (HOW.out _).mono ?_;rintro e w3 ⟨v3,rfl,hO3,hB3⟩;obtain⟨a3,c3,rfl,hT3,hn3,hc3⟩:=hO3.ty;have b3:Below w.heap.size w w3:=bel_of (by first | exact HBW.out | exact HBW.out.drew | exact HBW.out.drew.alloc HBW.out.drew.size _ | exact (HBW.out.alloc HBW.out.size _).drew) hB3;have hR3:RowAt w3 w.heap.size 39 #[.slice none 0 0,.int .u16 0,.int .u16 0,.int .u32 0,.slice none 0 0]:=rz_bel hB3 (by first | exact HR1.out | exact HR1.out.alloc _);(first | have l3:w3.cell? ⟨w1.heap.size,j,none⟩=some (.int .u32 (tl:Int)):=lit_cell2 hB3 (by exact RowAt.new w1 _ _) hget | skip))
   | (go_at_call 81;(first | rw[E3.out] | skip);refine (HDA.out _).mono ?_;rintro e w4 ⟨v4,rfl,hO4,hB4⟩;obtain⟨a4,c4,rfl,hT4,hn4,hc4⟩:=hO4.ty;have b4:Below w.heap.size w w4:=bel_of (by first | exact b3 | exact b3.alloc b3.size _) hB4;have T4:TyS w4 a3 o:=hT3.kb ((by first | exact KB.refl _ | exact KB.alloc _ _:KB w3 _).trans (KB.of_below hB4));have hR4:RowAt w4 w.heap.size 39 #[.slice none 0 0,.int .u16 0,.int .u16 0,.int .u32 0,.slice none 0 0]:=rz_bel hB4 (by first | exact hR3 | exact hR3.alloc _);obtain⟨x0,x1,x2,x3,x4,f0,f1,f2,f3,f4⟩:=rz_facts hR4;obtain⟨y0,y1,y2,y3,y4,g0,g1,g2,g3,g4⟩:=rz_facts (hR4.alloc (.cells #[.int .u32 30,.int .u32 30,.int .u32 60,.int .u32 5] 35));(first | have l4:w4.cell? ⟨w3.heap.size,j,none⟩=some (.int .u32 (tl:Int)):=lit_cell2 hB4 (by exact RowAt.new w3 _ _) hget | have l4:w4.cell? ⟨w1.heap.size,j,none⟩=some (.int .u32 (tl:Int)):=cell_bel hB4 (Nat.le_refl _) l3 (by have:=hB3.size;simp at this;show w1.heap.size<_;omega) | skip))
   | fail)
  all_goals go_wp2_with fail
  all_goals go_meet
  all_goals first
   | exact⟨rfl,RecD.mk' hR4 b4 T4 hc3 hT4 hn4 hc4⟩
   | exact⟨rfl,RecD.mk' (hR4.alloc _) (b4.alloc b4.size _) (T4.kb (KB.alloc _ _)) hc3 (hT4.kb (KB.alloc _ _)) hn4 hc4⟩
 case rest =>
  obtain⟨rfl,na,nc,da,dc,hr,h1,h2,h3,h4,h5,h6⟩:=hcut
  go_wp2
  refine bodyPost_ret (v := .agg _) (results_rc Tryz.results44 _ _ w.heap.size _ rfl rfl hr) rfl ⟨na,nc,da,dc,rfl,h1.1,h2,h3.1,h4,h5,h6⟩
open Go.RowKit
theorem rc_facts {W:World} {g:Nat} {v0 v1 v2 v3 v4:Value} (h:RowAt W g 39 #[v0,v1,v2,v3,v4]):W.cell? ⟨g,0,none⟩=some v0/\W.cell? ⟨g,1,none⟩=some v1/\W.cell? ⟨g,2,none⟩=some v2/\W.cell? ⟨g,3,none⟩=some v3/\W.cell? ⟨g,4,none⟩=some v4 :=
 ⟨h.cell 0,h.cell 1,h.cell 2,h.cell 3,h.cell 4⟩
theorem far_chk:N.within [[102,97,114]] Z.exA=false:=by decide +kernel
theorem far_ok:N.Small [[102,97,114]]:=by
 have h2:([[102,97,114]]:List (List UInt8)).length<=1000000 /\ ∀ l∈([[102,97,114]]:List (List UInt8)),l.length<=1000000:=by decide
 exact h2
set_option maxRecDepth 100000 in
set_option maxHeartbeats 2000000 in
theorem known_any (w:World):Calls Tryz.prog 9 #[] w fun e w'=>e = .returned (.bool true)/\Below w.heap.size w w':=by
 obtain⟨X,hX⟩ : ∃ X:Nat->Prop,X=fun i=>i<w.heap.size:=⟨_,rfl⟩
 have hX1 : ∀ i,X i->i<w.heap.size:=fun i h=>by rw[hX] at h;exact h
 have hX2 : ∀ i,i<w.heap.size->X i:=fun i h=>by rw[hX];exact h
 obtain⟨c,hfine⟩:=Z.seat_fine 1
 obtain⟨n,hn⟩ : ∃ n,n=Z.owner (1 % 256):=⟨_,rfl⟩
 obtain⟨t,ht⟩ : ∃ t,t=Z.typeK (1 / 256 % 256):=⟨_,rfl⟩
 obtain⟨d,hd⟩ : ∃ d,d=Z.dataK t (1 / 65536 % 256):=⟨_,rfl⟩
 obtain⟨ttl,httl⟩ : ∃ ttl,ttl=Z.ttlK 1:=⟨_,rfl⟩
 have hrec:=fun W=>seatRecord_any 1 (by decide) W
 rw[<- hn, <- ht, <- hd] at hfine
 rw[<- hn, <- ht, <- httl, <- hd] at hrec
 have ht16:t<65536:=by rw[ht];exact Z.typeK_lt _
 have httl32:ttl<4294967296:=by rw[httl];exact Z.ttlK_lt _
 have hsm:Hid (N.Small n):=by rw[hn];exact Z.owner_small _
 have hnl4:n.length<=4:=by rw[hn];exact (Z.owner_good _).2.2.1
 obtain⟨nl,hnl⟩ : ∃ nl,nl=n.length:=⟨_,rfl⟩
 obtain⟨dl,hdl⟩ : ∃ dl,dl=d.length:=⟨_,rfl⟩
 rw[<- hnl] at hnl4
 rw[<- hnl, <- hdl] at hrec
 have hhas:Z.has [⟨path n,t,c,ttl,d⟩] (path Z.exA)=true:=by
  rw[Z.has_iff]
  refine⟨⟨path n,t,c,ttl,d⟩,by simp,?_⟩
  show path Z.exA <+: path n
  rw[hn];decide +kernel
 have hp1:=Z.putR_nil hfine ttl
 have hp2:=Z.putR_one hfine ttl ttl
 have hset1:=Z.setAt_one (path n) t c d ttl
 have HX1:=hide hX1
 have HX2:=hide hX2
 have HREC:=hide hrec
 have HP1:=hide hp1
 have HP2:=hide hp2
 have HS1:=hide hset1
 have HHAS:=hide hhas
 have HNL:Hid (n.length=nl):=hide hnl.symm
 have HDL:Hid (d.length=dl):=hide hdl.symm
 clear hX hX1 hX2 hfine hn ht hd httl hrec hp1 hp2 hset1 hhas hnl hdl
 go_enter Tryz.func9,Tryz.ntmps9
 go_upto_region 4 with (first
  | (go_at_call 12;refine (apex_any w).mono ?_;rintro e wa ⟨va,rfl,hOa,hBa⟩;obtain⟨aa,ca,rfl,hSa,_,hca,_⟩:=hOa.open)
  | (go_at_call 11;refine (znew_live X wa (fun i hi=>Nat.lt_of_lt_of_le (HX1.out i hi) hBa.size) Z.exA aa _ ca (hide rfl) hSa (hide exA_small)).mono ?_;rintro e w1 ⟨Zb,rfl,hZb,hZ1,hB1⟩;rw[exA_low] at hZ1)
  | fail)
 have HZ1:=hide hZ1
 have hb1:Below w.heap.size w w1:=hBa.trans (hB1.mono hBa.size)
 have HB1:=hide hb1
 clear hZ1 hb1 hBa hOa hSa hca hB1
 go_upto_region 5 with (go_at_call 44;refine (HREC.out w1).mono ?_;rintro e w2 ⟨na,nc,da,dc,rfl,hSn,hnc,hSd,hnd,hdc,hB2⟩)
 have hr3:=RowAt.new w2 39 #[.slice na nl nc,.int .u16 (t:Int),.int .u16 1,.int .u32 (ttl:Int),.slice da dl dc]
 obtain⟨w3,hw3⟩ : ∃ w3,w3=w2.alloc (.cells #[.slice na nl nc,.int .u16 (t:Int),.int .u16 1,.int .u32 (ttl:Int),.slice da dl dc] 39):=⟨_,rfl⟩
 rw[<- hw3] at hr3 ⊢
 have hb23:Below w2.heap.size w2 w3:=by rw[hw3];exact (Below.refl _ w2).alloc (Nat.le_refl _) _
 have hb13:=hB2.trans (hb23.mono hB2.size)
 obtain⟨x0,x1,x2,x3,x4⟩:=rc_facts hr3
 have HZ3:=hide (HZ1.out.bel hb13)
 have HB3:=hide (HB1.out.trans (hb13.mono HB1.out.size))
 have HSN:=hide (hSn.below hb23 (Nat.le_refl _))
 have HSD:=hide (hSd.below hb23 (Nat.le_refl _))
 have HR3:=hide hr3
 obtain⟨g2,hg2⟩ : ∃ g2,g2=w2.heap.size:=⟨_,rfl⟩
 rw[<- hg2] at x0 x1 x2 x3 x4 HR3 ⊢
 clear hw3 hr3 hb23 hb13 hB2 hSn hSd hg2
 go_upto_region 6 with (go_at_call 45;refine (zput_live HZ3.out (hide exA_small) n na nl nc HNL hnc HSN.out hsm t 1 ttl d da dl dc HDL HSD.out hnd hdc ht16 httl32 (by omega)).mono ?_;rintro e w4 ⟨he,hZ4,hK4⟩;rw[HP1.out] at he hZ4;subst he;have hr4:=hK4.row HR3.out (by decide) (by decide);obtain⟨y0,y1,y2,y3,y4⟩:=rc_facts hr4)
 have HZ4:=hide hZ4
 have HK4:=hide hK4
 have HR4:=hide hr4
 have HSN4:=hide (hK4.ss _ _ HSN.out)
 have HSD4:=hide (hK4.sl _ _ HSD.out)
 have HB4:=hide (HB3.out.trans (hK4.below (fun i hi=>HX2.out i hi) HB3.out.size))
 clear hZ4 hK4 hr4 x0 x1 x2 x3 x4
 go_upto_region 7 with (go_at_call 45;refine (zput_live HZ4.out (hide exA_small) n na nl nc HNL hnc HSN4.out hsm t 1 ttl d da dl dc HDL HSD4.out hnd hdc ht16 httl32 (by omega)).mono ?_;rintro e w5 ⟨he,hZ5,hK5⟩;rw[HP2.out] at he hZ5;subst he;have hr5:=hK5.row HR4.out (by decide) (by decide))
 have HZ5:=hide hZ5
 have HR5:=hide hr5
 have HSN5:=hide (hK5.ss _ _ HSN4.out)
 have HB5:=hide (HB4.out.trans (hK5.below (fun i hi=>HX2.out i hi) HB4.out.size))
 clear hZ5 hK5 hr5 y0 y1 y2 y3 y4
 have hfar:Calls Tryz.prog 45 #[.pointer (some ⟨Zb,0,none⟩),.agg #[.slice (some ⟨w5.heap.size,0,none⟩) 1 1,.int .u16 0,.int .u16 1,.int .u32 0,.slice none 0 0]] (w5.alloc (.cells #[.string ⟨#[102,97,114]⟩] 9)) fun e w'=>e = .returned (.tuple #[.bool false,.int .i64 110])/\ZLive X w' Zb Z.exA [⟨path n,t,c,ttl,d⟩] 1000/\ZKp X w5 w':=by
  have hb:Below w5.heap.size w5 (w5.alloc (.cells #[.string ⟨#[102,97,114]⟩] 9)):=(Below.refl _ w5).alloc (Nat.le_refl _) _
  refine (zput_live (HZ5.out.bel hb) (hide exA_small) [[102,97,114]] (some ⟨w5.heap.size,0,none⟩) 1 1 (hide rfl) (Nat.le_refl _) (SlS.litm w5 _ _ 9 (0,0) rfl) (hide far_ok) 0 1 0 [] none 0 0 (hide rfl) (fun h=>absurd h (by simp)) (fun _=>rfl) (Nat.le_refl _) (by decide) (by decide) (by omega)).mono ?_
  rintro e w' ⟨he,hZ,hK⟩
  rw[Z.putR_far far_chk] at he hZ
  exact⟨he,hZ.mono (by omega),(ZKp.of_below hb).trans hK⟩
 go_upto_region 8 with (go_at_call 45;refine hfar.mono ?_;rintro e w6 ⟨rfl,hZ6,hK6⟩;have hr6:=hK6.row HR5.out (by decide) (by decide);obtain⟨x0,x1,x2,x3,x4⟩:=rc_facts hr6)
 have HZ6:=hide hZ6
 have HSN6:=hide (hK6.ss _ _ HSN5.out)
 have HB6:=hide (HB5.out.trans (hK6.below (fun i hi=>HX2.out i hi) HB5.out.size))
 clear hZ6 hK6 hr6 hfar x2 x3 x4
 go_upto_region 9 with (go_at_call 23;refine (zset_live HZ6.out (by omega) n na nl nc HNL HSN6.out hsm t ht16).mono ?_;rintro e w7 ⟨hB7,⟨hno,_⟩ | ⟨_,na7,nc7,v7,rfl,hT7,hnc7,hO7⟩⟩;(· exact absurd hno (by rw[HS1.out];simp));rw[HS1.out] at hO7;obtain⟨a7,c7,hv7,_,hc7⟩:=hO7.slice;rw[List.length_map,List.length_singleton] at hv7;subst hv7;have q3:=(RowAt.new w7 54 #[.slice na7 nl nc7,.int .u16 (t:Int),.int .u32 ((Z.ttlAt [⟨path n,t,c,ttl,d⟩] (path n) t:Nat):Int),.slice a7 1 c7]).cell 3)
 have hb8:Below w6.heap.size w6 (w7.alloc (.cells #[.slice na7 nl nc7,.int .u16 (t:Int),.int .u32 ((Z.ttlAt [⟨path n,t,c,ttl,d⟩] (path n) t:Nat):Int),.slice a7 1 c7] 54)):=hB7.trans (((Below.refl _ w7).alloc (Nat.le_refl _) _).mono hB7.size)
 have HZ8:=hide (HZ6.out.bel hb8)
 have HB8:=hide (HB6.out.trans (hb8.mono HB6.out.size))
 obtain⟨w8,hw8⟩ : ∃ w8,w8=w7.alloc (.cells #[.slice na7 nl nc7,.int .u16 (t:Int),.int .u32 ((Z.ttlAt [⟨path n,t,c,ttl,d⟩] (path n) t:Nat):Int),.slice a7 1 c7] 54):=⟨_,rfl⟩
 rw[<- hw8] at HZ8 HB8 q3 ⊢
 obtain⟨g7,hg7⟩ : ∃ g7,g7=w7.heap.size:=⟨_,rfl⟩
 rw[<- hg7] at q3 ⊢
 have e0:(!decide (ttl=ttl))=false:=by simp
 clear hb8 hw8 hg7 hB7 hO7 hT7 hc7
 go_wp2_with (first
  | (go_at_call 14;refine (zlen_live HZ8.out).mono ?_;rintro e wq ⟨he,hwq⟩;rw[he,hwq];clear he hwq wq)
  | (go_at_call 12;refine (apex_any w8).mono ?_;rintro e w9 ⟨v9,rfl,hO9,hB9⟩;obtain⟨a9,c9,hv9,hS9,_,hc9,_⟩:=hO9.open;subst hv9)
  | (go_at_call 29;refine (zhas_live (HZ8.out.bel hB9) Z.exA a9 _ c9 (hide rfl) hS9 (hide exA_small)).mono ?_;rintro e w10 ⟨he,hB10⟩;rw[HHAS.out] at he;subst he;have HB10:=hide (HB8.out.trans ((hB9.trans (hB10.mono hB9.size)).mono HB8.out.size));have HZ10:=hide ((HZ8.out.bel hB9).bel hB10))
  | (go_at_call 16;refine (zrecords_live HZ10.out (by omega)).mono ?_;rintro e w11 ⟨v11,rfl,hO11,hB11⟩;obtain⟨a11,c11,hv11,_,_⟩:=hO11.slice;rw[List.length_singleton] at hv11;subst hv11)
  | fail)
 go_ret
 exact⟨rfl,HB10.out.trans (hB11.mono HB10.out.size)⟩
open Go.RowKit
theorem has_nil (p:List (List UInt8)):Z.has [] p=false:=rfl
theorem dropSet_nil (p:List (List UInt8)) (t:Nat):Z.dropSet [] p t = []:=rfl
theorem slL_rec {w:World} {g:Nat} {na da:Option Addr} {nl nc dl dc:Nat} {a b c:Int} (hr:RowAt w g 39 #[.slice na nl nc,.int .u16 a,.int .u16 b,.int .u32 c,.slice da dl dc]) (j:Nat) (v:Value) {ao:Option Addr} {l:List UInt8} (hs:SlL w ao l):SlL (w.setCell ⟨g,j,none⟩ v) ao l:=fun hn=>by
 obtain⟨b1,o,e,hlt,hc⟩:=hs hn
 have hg:b1≠g:=fun e2=>by
  have:=hc 0 hn
  rw[e2,hr.cell] at this
  match o with
  | 0=>simp at this
  | 1=>simp at this
  | 2=>simp at this
  | 3=>simp at this
  | 4=>simp at this
  | o+5=>simp at this
 refine⟨b1,o,e,by rw[World.size_setCell];exact hlt,fun i hi=>?_⟩
 rw[<- hc i hi];exact World.cell?_of_block (heap_setCell_other _ _ _ _ hg)
theorem slS_rec {w:World} {g:Nat} {na da:Option Addr} {nl nc dl dc:Nat} {a b c:Int} (hr:RowAt w g 39 #[.slice na nl nc,.int .u16 a,.int .u16 b,.int .u32 c,.slice da dl dc]) (j:Nat) (v:Value) {ao:Option Addr} {l:List (List UInt8)} (hs:SlS w ao l):SlS (w.setCell ⟨g,j,none⟩ v) ao l:=fun hn=>by
 obtain⟨b1,o,e,hlt,hc⟩:=hs hn
 have hg:b1≠g:=fun e2=>by
  have:=hc 0 hn
  rw[e2,hr.cell] at this
  match o with
  | 0=>simp at this
  | 1=>simp at this
  | 2=>simp at this
  | 3=>simp at this
  | 4=>simp at this
  | o+5=>simp at this
 refine⟨b1,o,e,by rw[World.size_setCell];exact hlt,fun i hi=>?_⟩
 rw[<- hc i hi];exact World.cell?_of_block (heap_setCell_other _ _ _ _ hg)
open Go.RowKit
namespace AcT
def rn (x:AcT):List (List UInt8):=if x.raw then x.n else Z.owner (x.k % 256)
def rt (x:AcT):Nat:=if x.raw then x.t else Z.typeK (x.k / 256 % 256)
def rcl (x:AcT):Nat:=if x.raw then x.cl else 1
def rttl (x:AcT):Nat:=if x.raw then x.ttl else Z.ttlK x.k
def rd (x:AcT):List UInt8:=if x.raw then x.d else Z.dataK (Z.typeK (x.k / 256 % 256)) (x.k / 65536 % 256)
end AcT
def LightA (x:AcT):Prop:=Light x.n/\x.d.length<=1000
set_option maxHeartbeats 1000000 in
theorem zlight_any (l:List AcT) (ao:Option Addr) (len cap:Nat) (w:World) (hl:Hid (l.length=len)) (hs:SlA w ao l) (hm:len<=9223372036854775807) :
 Calls Tryz.prog 10 #[.slice ao len cap] w fun e w' => ∃ t,e = .returned (.bool t)/\(t=true->len<=40 /\ ∀ x∈l,LightA x)/\w'=w:=by
 have HS:=hide hs
 clear hs
 rcases Nat.lt_or_ge 40 len with h40 | h40
 ·go_enter Tryz.func10,Tryz.ntmps10
  go_wp2
  go_ret
  exact⟨false,rfl,fun h=>(by cases h),rfl⟩
 ·go_enter Tryz.func10,Tryz.ntmps10
  go_wp2
  go_loopw [3] (fun i wr => ∃ j:Nat,i = .int .i64 (j:Int)/\j<=len/\Hid (∀ x∈l.take j,LightA x)/\wr=w) (fun i _=>len - (intOf i).toNat)
  case atStart=>exact⟨0,rfl,by omega,(fun x hx=>by simp at hx),rfl⟩
  case round =>
   obtain⟨j,rfl,hj,HE,rfl⟩:=hrel
   by_cases hlt:j<len
   ·have hjl:j<l.length:=by have:=hl.out;omega
    obtain⟨x,hx⟩ : ∃ x,l[j]?=some x:=⟨_,List.getElem?_eq_getElem hjl⟩
    obtain⟨b,o,na,nc,da,dc,rfl,hb,⟨h1,h2,h3,h4,h5,h6,h7⟩,q0,q1,q2,q3,q4,q5,q6,q7,q8⟩:=HS.out.get hx
    obtain⟨nl,hnl⟩ : ∃ nl,nl=x.n.length:=⟨_,rfl⟩
    obtain⟨dl,hdl⟩ : ∃ dl,dl=x.d.length:=⟨_,rfl⟩
    rw[<- hnl] at q3 h2
    rw[<- hdl] at q7 h6
    have hli:=light_any x.n na nl nc wr (hide hnl.symm) h1 (by omega)
    have hjk:(j:Int)<(len:Int):=by omega
    have hstep:LightA x -> ∀ y∈l.take (j+1),LightA y:=fun hxl y hy=>by
     rw[List.take_add_one,hx] at hy
     rcases List.mem_append.1 hy with h | h
     ·exact HE.out y h
     ·have:y=x:=by simpa using h
      rw[this];exact hxl
    have HSTEP:=hide hstep
    have HDL:=hide hdl
    clear hx hstep h1 h4 hnl hdl
    rcases Nat.lt_or_ge 1000 dl with hd | hd
    ·have hd1:(1000:Int)<(dl:Int):=by omega
     go_wp2_with (go_at_call 20;refine hli.mono ?_;rintro e w' ⟨t,rfl,ht,rfl⟩;cases t)
     all_goals
      go_ret
      exact⟨false,rfl,fun h=>(by cases h),rfl⟩
    ·have hd1 : ¬ ((1000:Int)<(dl:Int)):=by omega
     go_wp2_with (go_at_call 20;refine hli.mono ?_;rintro e w' ⟨t,rfl,ht,rfl⟩;have HT:=hide ht;clear ht;cases t)
     ·go_ret
      exact⟨false,rfl,fun h=>(by cases h),rfl⟩
     ·go_roundw
      case rel=>exact⟨j+1,by go_num,by omega,hide (HSTEP.out ⟨HT.out trivial,by have:=HDL.out;omega⟩),trivial⟩
      case measure=>simp[intOf];omega
   ·obtain rfl:j=len:=by omega
    have ht:l.take j=l:=List.take_of_length_le (by have:=hl.out;omega)
    rw[ht] at HE
    go_wp2
    go_ret
    exact⟨_,rfl,fun _=>⟨h40,HE.out⟩,rfl⟩
set_option maxHeartbeats 1000000 in
theorem lrecord_any (x:AcT) (na:Option Addr) (nl nc:Nat) (da:Option Addr) (dl dc:Nat) (w:World) (hx:AcT.Ok x) (hnl:Hid (nl=x.n.length)) (hdl:Hid (dl=x.d.length)) (hs:AcS w x na nc da dc) :
 Calls Tryz.prog 49 #[.agg #[.int .i64 x.what,.int .u32 (x.k:Int),.bool x.raw,.slice na nl nc,.int .u16 (x.t:Int),.int .u16 (x.cl:Int),.int .u32 (x.ttl:Int),.slice da dl dc,.int .u16 (x.t2:Int)]] w fun e w' => ∃ na' nc' da' dc',e = .returned (recV na' x.rn.length nc' x.rt x.rcl x.rttl da' x.rd.length dc')/\SlS w' na' x.rn/\x.rn.length<=nc'/\SlL w' da' x.rd/\(da'=none->dc'=0)/\x.rd.length<=dc'/\Below w.heap.size w w':=by
 obtain⟨what,k,raw,n,t,cl,ttl,d,t2⟩:=x
 obtain⟨h1,h2,_,h4,h5,h6,_⟩:=hs
 have hk:=hx.k
 simp only at *
 unfold recV AcT.rn AcT.rt AcT.rcl AcT.rttl AcT.rd
 cases raw with
 | true =>
  simp only[if_true]
  have H1:=hide h1
  have H4:=hide h4
  rw[<- hnl.out, <- hdl.out]
  rw[<- hnl.out] at h2
  rw[<- hdl.out] at h6
  clear h1 h4 hx
  go_enter Tryz.func49,Tryz.ntmps49
  go_wp2
  have hb:=((Below.refl w.heap.size w).alloc (Nat.le_refl _) (.cells #[.int .i64 what,.int .u32 (k:Int),.bool true,.slice na nl nc,.int .u16 (t:Int),.int .u16 (cl:Int),.int .u32 (ttl:Int),.slice da dl dc,.int .u16 (t2:Int)] 41)).alloc (by simp) (.cells #[.slice na nl nc,.int .u16 (t:Int),.int .u16 (cl:Int),.int .u32 (ttl:Int),.slice da dl dc] 39)
  have hr:=RowAt.new (w.alloc (.cells #[.int .i64 what,.int .u32 (k:Int),.bool true,.slice na nl nc,.int .u16 (t:Int),.int .u16 (cl:Int),.int .u32 (ttl:Int),.slice da dl dc,.int .u16 (t2:Int)] 41)) 39 #[.slice na nl nc,.int .u16 (t:Int),.int .u16 (cl:Int),.int .u32 (ttl:Int),.slice da dl dc]
  rw[World.size_alloc] at hr
  exact bodyPost_ret (v := .agg _) (results_rc Tryz.results49 _ _ (w.heap.size+1) _ rfl rfl hr) rfl ⟨na,nc,da,dc,rfl,H1.out.below hb (Nat.le_refl _),h2,H4.out.below hb (Nat.le_refl _),h5,h6,hb⟩
 | false =>
  simp only[Bool.false_eq_true,if_false]
  have hz:RowAt ((w.alloc (.cells #[.int .i64 what,.int .u32 (k:Int),.bool false,.slice na nl nc,.int .u16 (t:Int),.int .u16 (cl:Int),.int .u32 (ttl:Int),.slice da dl dc,.int .u16 (t2:Int)] 41)).alloc (.cells #[.slice none 0 0,.int .u16 0,.int .u16 0,.int .u32 0,.slice none 0 0] 39)) (w.heap.size+1) 39 #[.slice none 0 0,.int .u16 0,.int .u16 0,.int .u32 0,.slice none 0 0]:=by
   have:=RowAt.new (w.alloc (.cells #[.int .i64 what,.int .u32 (k:Int),.bool false,.slice na nl nc,.int .u16 (t:Int),.int .u16 (cl:Int),.int .u32 (ttl:Int),.slice da dl dc,.int .u16 (t2:Int)] 41)) 39 #[.slice none 0 0,.int .u16 0,.int .u16 0,.int .u32 0,.slice none 0 0]
   rw[World.size_alloc] at this
   exact this
  have hb0:Below w.heap.size w ((w.alloc (.cells #[.int .i64 what,.int .u32 (k:Int),.bool false,.slice na nl nc,.int .u16 (t:Int),.int .u16 (cl:Int),.int .u32 (ttl:Int),.slice da dl dc,.int .u16 (t2:Int)] 41)).alloc (.cells #[.slice none 0 0,.int .u16 0,.int .u16 0,.int .u32 0,.slice none 0 0] 39)):=((Below.refl _ w).alloc (Nat.le_refl _) _).alloc (by simp) _
  have HZ:=hide hz
  have HB0:=hide hb0
  have hsr:=fun W=>seatRecord_any k hk W
  have hn1:=(Z.owner_good (k % 256)).2.2.1
  obtain⟨o,ho⟩ : ∃ o,o=Z.owner (k % 256):=⟨_,rfl⟩
  obtain⟨ty,hty⟩ : ∃ ty,ty=Z.typeK (k / 256 % 256):=⟨_,rfl⟩
  obtain⟨tl,htl⟩ : ∃ tl,tl=Z.ttlK k:=⟨_,rfl⟩
  rw[<- ho, <- hty, <- htl] at hsr ⊢
  obtain⟨dd,hdd⟩ : ∃ dd,dd=Z.dataK ty (k / 65536 % 256):=⟨_,rfl⟩
  rw[<- hdd] at hsr ⊢
  obtain⟨ol,hol⟩ : ∃ ol,ol=o.length:=⟨_,rfl⟩
  obtain⟨ddl,hddl⟩ : ∃ ddl,ddl=dd.length:=⟨_,rfl⟩
  rw[<- hol, <- hddl] at hsr ⊢
  clear hx h1 h2 h4 h5 h6 hz hb0 ho hty htl hdd hol hddl hn1
  go_enter Tryz.func49,Tryz.ntmps49
  go_wp2_with (go_at_call 44;refine (hsr _).mono ?_;rintro e w1 ⟨na',nc',da',dc',rfl,k1,k2,k3,k4,k5,k6⟩;have hr1:=HZ.out.below k6 HZ.out.lt;have c0:=hr1.cell 0;have c1:=hr1.cell 1;have c2:=hr1.cell 2;have c3:=hr1.cell 3;have c4:=hr1.cell 4;have f0:=hr1.frozen 0;have f1:=hr1.frozen 1;have f2:=hr1.frozen 2;have f3:=hr1.frozen 3;have f4:=hr1.frozen 4;have HR1:=hide hr1;have HB1:=hide (HB0.out.trans (k6.mono HB0.out.size));have K1:=hide k1;have K3:=hide k3;clear hr1 k6 k1 k3)
  have r1:RowAt _ (w.heap.size+1) 39 #[.slice na' ol nc',.int .u16 0,.int .u16 0,.int .u32 0,.slice none 0 0]:=HR1.out.set 0 (.slice na' ol nc')
  have r2:RowAt _ (w.heap.size+1) 39 #[.slice na' ol nc',.int .u16 (ty:Int),.int .u16 0,.int .u32 0,.slice none 0 0]:=r1.set 1 (.int .u16 (ty:Int))
  have r3:RowAt _ (w.heap.size+1) 39 #[.slice na' ol nc',.int .u16 (ty:Int),.int .u16 1,.int .u32 0,.slice none 0 0]:=r2.set 2 (.int .u16 1)
  have r4:RowAt _ (w.heap.size+1) 39 #[.slice na' ol nc',.int .u16 (ty:Int),.int .u16 1,.int .u32 (tl:Int),.slice none 0 0]:=r3.set 3 (.int .u32 (tl:Int))
  have r5:RowAt _ (w.heap.size+1) 39 #[.slice na' ol nc',.int .u16 (ty:Int),.int .u16 1,.int .u32 (tl:Int),.slice da' ddl dc']:=r4.set 4 (.slice da' ddl dc')
  have hg:w.heap.size<=w.heap.size+1:=Nat.le_succ _
  refine bodyPost_ret (v := .agg _) (results_rc Tryz.results49 _ _ (w.heap.size+1) _ rfl rfl r5) rfl ⟨na',nc',da',dc',rfl,?_,k2,?_,k4,k5,?_⟩
  ·exact slS_rec r4 4 _ (slS_rec r3 3 _ (slS_rec r2 2 _ (slS_rec r1 1 _ (slS_rec HR1.out 0 _ K1.out))))
  ·exact slL_rec r4 4 _ (slL_rec r3 3 _ (slL_rec r2 2 _ (slL_rec r1 1 _ (slL_rec HR1.out 0 _ K3.out))))
  ·exact ((((HB1.out.setCell (p:=⟨w.heap.size+1,0,none⟩) hg _).setCell (p:=⟨w.heap.size+1,1,none⟩) hg _).setCell (p:=⟨w.heap.size+1,2,none⟩) hg _).setCell (p:=⟨w.heap.size+1,3,none⟩) hg _).setCell (p:=⟨w.heap.size+1,4,none⟩) hg _
open Go.RowKit
structure Duo (B:Nat) (w:World) (Zb base m:Nat) (A:List (List UInt8)) (L:List Z.R) (K:Nat):Prop where
 z:ZLive (fun i=>i<B) w Zb A L K
 r:RZAt w base m A L
 bm:B<=m
 bb:B<=base
 bs:base<=w.heap.size
theorem RZAt.zk {X:Nat->Prop} {w w':World} {base m:Nat} {A:List (List UInt8)} {L:List Z.R} (h:RZAt w base m A L) (k:ZKp X w w'):RZAt w' base m A L:=by
 obtain⟨aa,ac,a,c,h1,h2,h3,h4⟩:=h.row
 exact { h with row:=⟨aa,ac,a,c,k.row h1 (by decide) (by decide),k.ss _ _ h2,h3,h4.kx k.kb (fun g cur _ hg _=>k.rows g cur _ _ hg (by decide) (by decide))⟩ }
theorem ZLive.rm {X:Nat->Prop} {w w':World} {Zb base m:Nat} {A A':List (List UInt8)} {L L':List Z.R} {K:Nat} (h:ZLive X w Zb A L K) (hr:RZAt w base m A' L') (k:RM base m w w'):ZLive X w' Zb A L K:=by
 obtain⟨ρ,G,C,Zx,hX,hth⟩:=h
 obtain⟨aa,ac,a,c,h1,_⟩:=hr.row
 have hm:w.heap[m]?=_:=h1
 obtain⟨ao,cap,hz,_,_⟩:=Zx.row
 have hz0:w.heap[Zb]?=_:=hz
 refine⟨ρ,G,C,Zx.keep ?_ ?_ k.sl k.ss,fun i hi=>⟨Nat.lt_of_lt_of_le (hX i hi).1 k.size,(hX i hi).2⟩,hth⟩
 ·refine k.keep Zb hz.lt (fun e=>?_) (Or.inr fun cur fr e=>?_)
  ·rw[e,hm] at hz0;injection hz0 with hz0;injection hz0 with _ hz0 _;exact absurd hz0 (by decide)
  ·rw[hz0] at e;injection e with e;injection e with _ e _;exact absurd e (by decide)
 ·intro i hi
  have hk:=Zx.tree.kind i hi
  refine k.keep i hk.lt (fun e=>?_) (Or.inr fun cur fr e=>?_)
  ·rcases hk with⟨es,q,hb⟩ | ⟨p,q,hb⟩
   ·rw[e,hm] at hb;cases hb
   ·rw[e,hm] at hb;injection hb with hb;injection hb with _ hb _;exact absurd hb (by decide)
  ·rcases hk with⟨es,q,hb⟩ | ⟨p,q,hb⟩
   ·rw[hb] at e;cases e
   ·rw[hb] at e;injection e with e;injection e with _ e _;exact absurd e (by decide)
theorem RM.below {base m B:Nat} {w w':World} (k:RM base m w w') (h1:B<=m) (h2:B<=base) (h3:base<=w.heap.size):Below B w w' :=
 ⟨k.os,k.tape,k.output,k.size,fun i hi=>k.keep i (by omega) (by omega) (Or.inl (by omega))⟩
theorem Duo.bel {B:Nat} {w w':World} {Zb base m:Nat} {A:List (List UInt8)} {L:List Z.R} {K:Nat} (D:Duo B w Zb base m A L K) (hb:Below w.heap.size w w'):Duo B w' Zb base m A L K :=
 ⟨D.z.bel hb,D.r.bel hb,D.bm,D.bb,Nat.le_trans D.bs hb.size⟩
theorem Duo.le {B:Nat} {w:World} {Zb base m:Nat} {A:List (List UInt8)} {L:List Z.R} {K:Nat} (D:Duo B w Zb base m A L K):B<=w.heap.size:=Nat.le_trans D.bb D.bs
theorem Duo.mono {B:Nat} {w:World} {Zb base m:Nat} {A:List (List UInt8)} {L:List Z.R} {K K':Nat} (D:Duo B w Zb base m A L K) (hk:K<=K'):Duo B w Zb base m A L K':=⟨D.z.mono hk,D.r,D.bm,D.bb,D.bs⟩
theorem Duo.step {B:Nat} {w w1 w2:World} {Zb base m:Nat} {A:List (List UInt8)} {L L':List Z.R} {K K':Nat} (D:Duo B w Zb base m A L K) (k1:ZKp (fun i=>i<B) w w1) (z1:ZLive (fun i=>i<B) w1 Zb A L' K') (r2:RZAt w2 base m A L') (k2:RM base m w1 w2):Duo B w2 Zb base m A L' K'/\Below B w w2:=by
 have hs1:base<=w1.heap.size:=Nat.le_trans D.bs k1.size
 have hb1:Below B w w1:=k1.below (fun i hi=>hi) D.le
 have hb2:Below B w1 w2:=k2.below D.bm D.bb hs1
 exact⟨⟨z1.rm (D.r.zk k1) k2,r2,D.bm,D.bb,Nat.le_trans hs1 k2.size⟩,hb1.trans hb2⟩
open Go.RowKit
namespace AcT
theorem rn_small {x:AcT} (h:LightA x):N.Small x.rn:=by
 unfold rn;split
 ·exact h.1.small
 ·exact Z.owner_small _
theorem rn_len {x:AcT} (h:LightA x):x.rn.length<=200:=by
 unfold rn;split
 ·exact h.1.1
 ·have:=(Z.owner_good (x.k % 256)).2.2.1;omega
theorem rt_lt {x:AcT} (h:x.Ok):x.rt<65536:=by
 unfold rt;split
 ·exact h.t
 ·exact Z.typeK_lt _
theorem rttl_lt {x:AcT} (h:x.Ok):x.rttl<4294967296:=by
 unfold rttl;split
 ·exact h.ttl
 ·exact Z.ttlK_lt _
theorem rd_len {x:AcT} (h:LightA x):x.rd.length<=8192:=by
 unfold rd;split
 ·have:=h.2;omega
 ·obtain⟨c,hc⟩:=Z.data_ok (x.k / 65536 % 256) (x.k / 256 % 256) (Nat.mod_lt _ (by decide))
  exact (cn_len hc).2.1
def act (A:List (List UInt8)) (L:List Z.R) (x:AcT):List Z.R :=
 if x.what=0\/x.what=1\/x.what=2\/x.what=3 then (Z.putR A L x.rn x.rt x.rcl x.rttl x.rd).2.2
 else if x.what=4\/x.what=5 then (Z.dropR L x.rn x.rt x.rd).2
 else Z.dropSet L (path x.rn) x.t2
end AcT
theorem RM.row {m:Nat} {w w':World} {g:Nat} {t:TypeId} {c:Array Value} (k : ∀ b,RM b m w w') (hr:RowAt w g t c) (hne:g≠m):RowAt w' g t c:=by
 have h:w'.heap[g]?=w.heap[g]?:=(k w.heap.size).keep g hr.lt hne (Or.inl hr.lt)
 exact h.trans hr
set_option maxRecDepth 20000 in
set_option maxHeartbeats 1500000 in
theorem does_put (B:Nat) (w:World) (Zb base m:Nat) (A:List (List UInt8)) (L:List Z.R) (K:Nat) (D:Duo B w Zb base m A L K) (hA:Hid (N.Small A)) (x:AcT) (hx:x.Ok) (hli:LightA x) (wh:Int) (hwh:Hid (x.what=wh)) (na:Option Addr) (nl nc:Nat) (da:Option Addr) (dl dc:Nat) (hnl:Hid (nl=x.n.length)) (hdl:Hid (dl=x.d.length)) (hs:AcS w x na nc da dc) (hK:K+300<=1000000) (hw:wh=0\/wh=1\/wh=2\/wh=3) :
 Calls Tryz.prog 13 #[.pointer (some ⟨Zb,0,none⟩),.pointer (some ⟨m,0,none⟩),.agg #[.int .i64 wh,.int .u32 (x.k:Int),.bool x.raw,.slice na nl nc,.int .u16 (x.t:Int),.int .u16 (x.cl:Int),.int .u32 (x.ttl:Int),.slice da dl dc,.int .u16 (x.t2:Int)]] w fun e w'=>e = .returned (.bool true)/\Duo B w' Zb base m A (AcT.act A L x) (K+300)/\Below B w w':=by
 obtain⟨w1,hw1⟩ : ∃ w1,w1=w.alloc (.cells #[.int .i64 wh,.int .u32 (x.k:Int),.bool x.raw,.slice na nl nc,.int .u16 (x.t:Int),.int .u16 (x.cl:Int),.int .u32 (x.ttl:Int),.slice da dl dc,.int .u16 (x.t2:Int)] 41):=⟨_,rfl⟩
 have hb1:Below w.heap.size w w1:=by rw[hw1];exact (Below.refl _ w).alloc (Nat.le_refl _) _
 have hr1:RowAt w1 w.heap.size 41 #[.int .i64 wh,.int .u32 (x.k:Int),.bool x.raw,.slice na nl nc,.int .u16 (x.t:Int),.int .u16 (x.cl:Int),.int .u32 (x.ttl:Int),.slice da dl dc,.int .u16 (x.t2:Int)]:=by rw[hw1];exact RowAt.new w _ _
 have hrec:=lrecord_any x na nl nc da dl dc w1 hx hnl hdl (hs.below hb1 (Nat.le_refl _))
 rw[hwh.out] at hrec
 obtain⟨L',hL'⟩ : ∃ L',L'=AcT.act A L x:=⟨_,rfl⟩
 have hact:L'=(Z.putR A L x.rn x.rt x.rcl x.rttl x.rd).2.2:=by rw[hL'];unfold AcT.act;rw[hwh.out];rw[if_pos hw]
 rw[<- hL']
 have b1:=AcT.rn_small hli
 have b2:=AcT.rn_len hli
 have b3:=AcT.rt_lt hx
 have b4:=AcT.rttl_lt hx
 have b5:=AcT.rd_len hli
 have b6:=hx.t2
 obtain⟨rn,hrn⟩ : ∃ rn,rn=x.rn:=⟨_,rfl⟩
 obtain⟨rt,hrt⟩ : ∃ rt,rt=x.rt:=⟨_,rfl⟩
 obtain⟨rcl,hrcl⟩ : ∃ rcl,rcl=x.rcl:=⟨_,rfl⟩
 obtain⟨rttl,hrttl⟩ : ∃ rttl,rttl=x.rttl:=⟨_,rfl⟩
 obtain⟨rd,hrd⟩ : ∃ rd,rd=x.rd:=⟨_,rfl⟩
 rw[<- hrn, <- hrt, <- hrcl, <- hrttl, <- hrd] at hrec
 rw[<- hrn] at b1 b2
 rw[<- hrt] at b3
 rw[<- hrttl] at b4
 rw[<- hrd] at b5
 obtain⟨rl,hrl⟩ : ∃ rl,rl=rn.length:=⟨_,rfl⟩
 obtain⟨rdl,hrdl⟩ : ∃ rdl,rdl=rd.length:=⟨_,rfl⟩
 rw[<- hrl, <- hrdl] at hrec
 have HB1:=hide hb1
 have HR1:=hide hr1
 have HW1:=hide hw1
 have HD:=hide (D.bel hb1)
 have HD0:=hide D
 obtain⟨P,hP⟩ : ∃ P,P=Z.putR A L rn rt rcl rttl rd:=⟨_,rfl⟩
 rw[<- hrn, <- hrt, <- hrcl, <- hrttl, <- hrd, <- hP] at hact
 obtain⟨p1,hp1⟩ : ∃ p1,p1=P.1:=⟨_,rfl⟩
 obtain⟨p2,hp2⟩ : ∃ p2,p2=P.2.1:=⟨_,rfl⟩
 have HZP:Hid (∀ (W:World) (ra:Option Addr) (rc:Nat) (ea:Option Addr) (ec:Nat),Below w1.heap.size w1 W->SlS W ra rn->rl<=rc->SlL W ea rd->(ea=none->ec=0)->rdl<=ec->Calls Tryz.prog 45 #[.pointer (some ⟨Zb,0,none⟩),.agg #[.slice ra rl rc,.int .u16 (rt:Int),.int .u16 (rcl:Int),.int .u32 (rttl:Int),.slice ea rdl ec]] W fun e w'=>e = .returned (.tuple #[.bool p1,.int .i64 (p2:Int)])/\ZLive (fun i=>i<B) w' Zb A L' (K+300)/\ZKp (fun i=>i<B) W w'):=hide fun W ra rc ea ec hW h1 h2 h3 h4 h5=>by
  have h:=zput_live (HD.out.bel hW).z hA rn ra rl rc (hide hrl.symm) h2 h1 (hide b1) rt rcl rttl rd ea rdl ec (hide hrdl.symm) h3 h4 h5 b3 b4 (by omega)
  unfold recV at h
  rw[<- hP, <- hp1, <- hp2, <- hact] at h
  exact h.mono fun e w' ⟨k1,k2,k3⟩=>⟨k1,k2.mono (by omega),k3⟩
 have HMP:Hid (∀ (W W0:World) (ra:Option Addr) (rc:Nat) (ea:Option Addr) (ec:Nat),Below w1.heap.size w1 W0->ZKp (fun i=>i<B) W0 W->SlS W ra rn->rl<=rc->SlL W ea rd->(ea=none->ec=0)->rdl<=ec->Calls Tryz.prog 46 #[.pointer (some ⟨m,0,none⟩),.agg #[.slice ra rl rc,.int .u16 (rt:Int),.int .u16 (rcl:Int),.int .u32 (rttl:Int),.slice ea rdl ec]] W fun e w'=>e = .returned (.tuple #[.bool p1,.int .i64 (p2:Int)])/\RZAt w' base m A L'/\RM base m W w'):=hide fun W W0 ra rc ea ec hW0 hW h1 h2 h3 h4 h5=>by
  have h:=mPut_any W base m A L ((HD.out.bel hW0).r.zk hW) (Nat.le_trans (HD.out.bel hW0).bs hW.size) hA rn ra rl rc (hide hrl.symm) h2 h1 (hide b1) rt rcl rttl rd ea rdl ec (hide hrdl.symm) h3 h4 h5 (by rw[hrdl];exact b5) b3 b4
  unfold recV at h
  rw[<- hP, <- hp1, <- hp2, <- hact] at h
  exact h
 unfold recV at hrec
 have HREC:=hide hrec
 have hll:=HD.out.z.lt
 clear D hs hrec hr1 hb1 hw1 hL' hrn hrt hrcl hrttl hrd b1 b2 b3 b4 b5 b6 hrl hrdl hx hli hact hll hP hp1 hp2 hK
 have hq0:True:=trivial
 rcases hw with rfl | rfl | rfl | rfl
 all_goals
  go_enter Tryz.func13,Tryz.ntmps13
  go_wp2_with (first
   | (go_at_call 46;have hq:=HK5.out;clear hq;refine (HMP.out w5 w3 ra rc ea ec HB3.out HK5.out (HK5.out.ss _ _ HSS.out) h2 (HK5.out.sl _ _ HSL.out) h4 h5).mono ?_;rintro e w6 ⟨rfl,hR6,hM6⟩)
   | (go_at_call 45;have hq:=HX3.out;clear hq;rw[<- HW3.out];refine (HZP.out w3 ra rc ea ec HB3.out HSS.out h2 HSL.out h4 h5).mono ?_;rintro e w5 ⟨rfl,hZ5,hK5⟩;have hx5:=hK5.row HX3.out (by decide) (by decide);have g0:=hx5.cell 0;have g1:=hx5.cell 1;have g2:=hx5.cell 2;have g3:=hx5.cell 3;have g4:=hx5.cell 4;have HK5:=hide hK5;have HZ5:=hide hZ5;clear hK5 hZ5 hx5)
   | (go_at_call 49;rw[<- HW1.out];refine HREC.out.mono ?_;rintro e w2 ⟨ra,rc,ea,ec,rfl,h1,h2,h3,h4,h5,hb2⟩;obtain⟨w3,hw3⟩ : ∃ w3,w3=w2.alloc (.cells #[.slice ra rl rc,.int .u16 (rt:Int),.int .u16 (rcl:Int),.int .u32 (rttl:Int),.slice ea rdl ec] 39):=⟨_,rfl⟩;have hb3:Below w1.heap.size w1 w3:=(by rw[hw3];exact hb2.alloc hb2.size _);have hX:RowAt w3 w2.heap.size 39 #[.slice ra rl rc,.int .u16 (rt:Int),.int .u16 (rcl:Int),.int .u32 (rttl:Int),.slice ea rdl ec]:=(by rw[hw3];exact RowAt.new w2 _ _);have hA3:=HR1.out.below hb3 HR1.out.lt;have hss:=h1.below (show Below w2.heap.size w2 w3 by rw[hw3];exact (Below.refl _ w2).alloc (Nat.le_refl _) _) (Nat.le_refl _);have hsl:=h3.below (show Below w2.heap.size w2 w3 by rw[hw3];exact (Below.refl _ w2).alloc (Nat.le_refl _) _) (Nat.le_refl _);have HB3:=hide hb3;have HX3:=hide hX;have HA3:=hide hA3;have HSS:=hide hss;have HSL:=hide hsl;have HW3:=hide hw3;have a0:(w2.alloc (.cells #[.slice ra rl rc,.int .u16 (rt:Int),.int .u16 (rcl:Int),.int .u32 (rttl:Int),.slice ea rdl ec] 39)).cell? ⟨w.heap.size,0,none⟩=some (.int .i64 _):=(by rw[<- hw3];exact hA3.cell 0);have r0:(w2.alloc (.cells #[.slice ra rl rc,.int .u16 (rt:Int),.int .u16 (rcl:Int),.int .u32 (rttl:Int),.slice ea rdl ec] 39)).cell? ⟨w2.heap.size,0,none⟩=some (.slice ra rl rc):=(by rw[<- hw3];exact hX.cell 0);clear hb2 h1 h3 hb3 hX hA3 hss hsl hw3)
   | fail)
  go_ret
  have D3:=HD.out.bel HB3.out
  obtain⟨D6,hB6⟩:=D3.step HK5.out HZ5.out hR6 hM6
  exact⟨by simp,D6,((HB1.out.trans (HB3.out.mono HB1.out.size)).mono HD0.out.le).trans hB6⟩
set_option maxRecDepth 20000 in
set_option maxHeartbeats 1500000 in
theorem does_drop (B:Nat) (w:World) (Zb base m:Nat) (A:List (List UInt8)) (L:List Z.R) (K:Nat) (D:Duo B w Zb base m A L K) (_hA:Hid (N.Small A)) (x:AcT) (hx:x.Ok) (hli:LightA x) (wh:Int) (hwh:Hid (x.what=wh)) (na:Option Addr) (nl nc:Nat) (da:Option Addr) (dl dc:Nat) (hnl:Hid (nl=x.n.length)) (hdl:Hid (dl=x.d.length)) (hs:AcS w x na nc da dc) (_hK:K+300<=1000000) (hw:wh=4\/wh=5) :
 Calls Tryz.prog 13 #[.pointer (some ⟨Zb,0,none⟩),.pointer (some ⟨m,0,none⟩),.agg #[.int .i64 wh,.int .u32 (x.k:Int),.bool x.raw,.slice na nl nc,.int .u16 (x.t:Int),.int .u16 (x.cl:Int),.int .u32 (x.ttl:Int),.slice da dl dc,.int .u16 (x.t2:Int)]] w fun e w'=>e = .returned (.bool true)/\Duo B w' Zb base m A (AcT.act A L x) (K+300)/\Below B w w':=by
 obtain⟨w1,hw1⟩ : ∃ w1,w1=w.alloc (.cells #[.int .i64 wh,.int .u32 (x.k:Int),.bool x.raw,.slice na nl nc,.int .u16 (x.t:Int),.int .u16 (x.cl:Int),.int .u32 (x.ttl:Int),.slice da dl dc,.int .u16 (x.t2:Int)] 41):=⟨_,rfl⟩
 have hb1:Below w.heap.size w w1:=by rw[hw1];exact (Below.refl _ w).alloc (Nat.le_refl _) _
 have hr1:RowAt w1 w.heap.size 41 #[.int .i64 wh,.int .u32 (x.k:Int),.bool x.raw,.slice na nl nc,.int .u16 (x.t:Int),.int .u16 (x.cl:Int),.int .u32 (x.ttl:Int),.slice da dl dc,.int .u16 (x.t2:Int)]:=by rw[hw1];exact RowAt.new w _ _
 have hrec:=lrecord_any x na nl nc da dl dc w1 hx hnl hdl (hs.below hb1 (Nat.le_refl _))
 rw[hwh.out] at hrec
 obtain⟨L',hL'⟩ : ∃ L',L'=AcT.act A L x:=⟨_,rfl⟩
 have hact:L'=(Z.dropR L x.rn x.rt x.rd).2:=by rw[hL'];unfold AcT.act;rw[hwh.out];rw[if_neg (by omega),if_pos (by omega)]
 rw[<- hL']
 have b1:=AcT.rn_small hli
 have b3:=AcT.rt_lt hx
 have b5:=AcT.rd_len hli
 obtain⟨rn,hrn⟩ : ∃ rn,rn=x.rn:=⟨_,rfl⟩
 obtain⟨rt,hrt⟩ : ∃ rt,rt=x.rt:=⟨_,rfl⟩
 obtain⟨rcl,hrcl⟩ : ∃ rcl,rcl=x.rcl:=⟨_,rfl⟩
 obtain⟨rttl,hrttl⟩ : ∃ rttl,rttl=x.rttl:=⟨_,rfl⟩
 obtain⟨rd,hrd⟩ : ∃ rd,rd=x.rd:=⟨_,rfl⟩
 rw[<- hrn, <- hrt, <- hrcl, <- hrttl, <- hrd] at hrec
 rw[<- hrn] at b1
 rw[<- hrt] at b3
 rw[<- hrd] at b5
 obtain⟨rl,hrl⟩ : ∃ rl,rl=rn.length:=⟨_,rfl⟩
 obtain⟨rdl,hrdl⟩ : ∃ rdl,rdl=rd.length:=⟨_,rfl⟩
 rw[<- hrl, <- hrdl] at hrec
 have HB1:=hide hb1
 have HR1:=hide hr1
 have HW1:=hide hw1
 have HD:=hide (D.bel hb1)
 have HD0:=hide D
 obtain⟨P,hP⟩ : ∃ P,P=Z.dropR L rn rt rd:=⟨_,rfl⟩
 rw[<- hrn, <- hrt, <- hrd, <- hP] at hact
 obtain⟨p1,hp1⟩ : ∃ p1,p1=P.1:=⟨_,rfl⟩
 have HZP:Hid (∀ (W:World) (ra:Option Addr) (rc:Nat) (ea:Option Addr) (ec:Nat),Below w1.heap.size w1 W->SlS W ra rn->rl<=rc->SlL W ea rd->(ea=none->ec=0)->rdl<=ec->Calls Tryz.prog 50 #[.pointer (some ⟨Zb,0,none⟩),.agg #[.slice ra rl rc,.int .u16 (rt:Int),.int .u16 (rcl:Int),.int .u32 (rttl:Int),.slice ea rdl ec]] W fun e w'=>e = .returned (.bool p1)/\ZLive (fun i=>i<B) w' Zb A L' (K+300)/\ZKp (fun i=>i<B) W w'):=hide fun W ra rc ea ec hW h1 _ h3 h4 h5=>by
  have h:=zdrop_live (HD.out.bel hW).z rn ra rl rc (hide hrl.symm) h1 (hide b1) rt rcl rttl rd ea rdl ec (hide hrdl.symm) h3 h4 h5 b3
  unfold recV at h
  rw[<- hP, <- hp1, <- hact] at h
  exact h.mono fun e w' ⟨k1,k2,k3⟩=>⟨k1,k2.mono (by omega),k3⟩
 have HMP:Hid (∀ (W W0:World) (ra:Option Addr) (rc:Nat) (ea:Option Addr) (ec:Nat),Below w1.heap.size w1 W0->ZKp (fun i=>i<B) W0 W->SlS W ra rn->rl<=rc->SlL W ea rd->(ea=none->ec=0)->rdl<=ec->Calls Tryz.prog 51 #[.pointer (some ⟨m,0,none⟩),.agg #[.slice ra rl rc,.int .u16 (rt:Int),.int .u16 (rcl:Int),.int .u32 (rttl:Int),.slice ea rdl ec]] W fun e w'=>e = .returned (.bool p1)/\RZAt w' base m A L' /\ ∀ b,RM b m W w'):=hide fun W W0 ra rc ea ec hW0 hW h1 _ h3 h4 h5=>by
  have h:=mDrop_any W base m A L ((HD.out.bel hW0).r.zk hW) (Nat.le_trans (HD.out.bel hW0).bs hW.size) rn ra rl rc (hide hrl.symm) h1 (hide b1) rt rcl rttl rd ea rdl ec (hide hrdl.symm) h3 h4 h5 (by rw[hrdl];exact b5)
  unfold recV at h
  rw[<- hP, <- hp1, <- hact] at h
  exact h
 unfold recV at hrec
 have HREC:=hide hrec
 have hll:=HD.out.z.lt
 clear D hs hrec hr1 hb1 hw1 hL' hrn hrt hrcl hrttl hrd b1 b3 b5 hrl hrdl hx hli hact hll hP hp1
 rcases hw with rfl | rfl
 all_goals
  go_enter Tryz.func13,Tryz.ntmps13
  go_wp2_with (first
   | (go_at_call 49;rw[<- HW1.out];refine HREC.out.mono ?_;rintro e w2 ⟨ra,rc,ea,ec,rfl,h1,h2,h3,h4,h5,hb2⟩;obtain⟨w3,hw3⟩ : ∃ w3,w3=w2.alloc (.cells #[.slice ra rl rc,.int .u16 (rt:Int),.int .u16 (rcl:Int),.int .u32 (rttl:Int),.slice ea rdl ec] 39):=⟨_,rfl⟩;have hb3:Below w1.heap.size w1 w3:=(by rw[hw3];exact hb2.alloc hb2.size _);have hX:RowAt w3 w2.heap.size 39 #[.slice ra rl rc,.int .u16 (rt:Int),.int .u16 (rcl:Int),.int .u32 (rttl:Int),.slice ea rdl ec]:=(by rw[hw3];exact RowAt.new w2 _ _);have hA3:=HR1.out.below hb3 HR1.out.lt;have hss:=h1.below (show Below w2.heap.size w2 w3 by rw[hw3];exact (Below.refl _ w2).alloc (Nat.le_refl _) _) (Nat.le_refl _);have hsl:=h3.below (show Below w2.heap.size w2 w3 by rw[hw3];exact (Below.refl _ w2).alloc (Nat.le_refl _) _) (Nat.le_refl _);have HB12:=hide hb2;have HB3:=hide hb3;have HX3:=hide hX;have HA3:=hide hA3;have HSS:=hide hss;have HSL:=hide hsl;have HW3:=hide hw3;have a0:(w2.alloc (.cells #[.slice ra rl rc,.int .u16 (rt:Int),.int .u16 (rcl:Int),.int .u32 (rttl:Int),.slice ea rdl ec] 39)).cell? ⟨w.heap.size,0,none⟩=some (.int .i64 _):=(by rw[<- hw3];exact hA3.cell 0);clear hb2 h1 h3 hb3 hX hA3 hss hsl hw3)
   | fail)
  rw[<- HW3.out]
  have BA:Hid (Below w3.heap.size w3 w3.drew):=hide ((Below.refl _ w3).drew)
  have SAll:Hid (∀ w',Below w3.heap.size w3 w'->w'.cell? ⟨w2.heap.size,0,none⟩=some (.slice ra rl rc)/\w'.cell? ⟨w2.heap.size,1,none⟩=some (.int .u16 (rt:Int))/\w'.cell? ⟨w2.heap.size,2,none⟩=some (.int .u16 (rcl:Int))/\w'.cell? ⟨w2.heap.size,3,none⟩=some (.int .u32 (rttl:Int))/\w'.cell? ⟨w2.heap.size,4,none⟩=some (.slice ea rdl ec)):=hide fun W hW=>⟨(HX3.out.below hW HX3.out.lt).cell 0,(HX3.out.below hW HX3.out.lt).cell 1,(HX3.out.below hW HX3.out.lt).cell 2,(HX3.out.below hW HX3.out.lt).cell 3,(HX3.out.below hW HX3.out.lt).cell 4⟩
  have SA:=hide (SAll.out _ BA.out)
  have HBD:=hide (HB3.out.trans (BA.out.mono HB3.out.size))
  have HXD:=hide (HX3.out.below BA.out HX3.out.lt)
  have HAD:=hide (HA3.out.below BA.out HA3.out.lt)
  have HSD:=hide (HSS.out.below BA.out (Nat.le_refl _))
  have HLD:=hide (HSL.out.below BA.out (Nat.le_refl _))
  have hmx:m<w1.heap.size:=by
   obtain⟨_,_,_,_,h,_⟩:=HD.out.r.row
   exact h.lt
  have hm2:w2.heap.size≠m:=by have:=HB12.out.size;omega
  have hma:w.heap.size≠m:=by
   obtain⟨_,_,_,_,h,_⟩:=HD0.out.r.row
   have:=h.lt
   omega
  refine wp_region_X (S:=fun w'=>w'.cell? ⟨w2.heap.size,0,none⟩=some (.slice ra rl rc)/\w'.cell? ⟨w2.heap.size,1,none⟩=some (.int .u16 (rt:Int))/\w'.cell? ⟨w2.heap.size,2,none⟩=some (.int .u16 (rcl:Int))/\w'.cell? ⟨w2.heap.size,3,none⟩=some (.int .u32 (rttl:Int))/\w'.cell? ⟨w2.heap.size,4,none⟩=some (.slice ea rdl ec)) (jS:=1000) (by kernel_rfl) ?_
  generalize w3.drew=w1d at BA SA HBD HXD HAD HSD HLD ⊢
  refine tk gt0 SA.out ?_
  refine tk gt1 SA.out ?_
  refine tk gt3 SA.out ?_
  refine tk gt4 SA.out ?_
  refine rdy gt2 (fun K hKK=>?_)
  refine step_fng (by rfl) _ _ (by go_simp) (HZP.out w1d ra rc ea ec HBD.out HSD.out h2 HLD.out h4 h5) (by rintro e w' ⟨rfl,_⟩;exact⟨_,rfl⟩) ?_
  rintro _ w5 ⟨he,hZ5,hK5⟩
  cases he
  have HX5:=hide (hK5.row HXD.out (by decide) (by decide))
  have HA5:=hide (hK5.row HAD.out (by decide) (by decide))
  have SB:Hid (w5.cell? ⟨w2.heap.size,0,none⟩=some (.slice ra rl rc)/\w5.cell? ⟨w2.heap.size,1,none⟩=some (.int .u16 (rt:Int))/\w5.cell? ⟨w2.heap.size,2,none⟩=some (.int .u16 (rcl:Int))/\w5.cell? ⟨w2.heap.size,3,none⟩=some (.int .u32 (rttl:Int))/\w5.cell? ⟨w2.heap.size,4,none⟩=some (.slice ea rdl ec)):=hide ⟨HX5.out.cell 0,HX5.out.cell 1,HX5.out.cell 2,HX5.out.cell 3,HX5.out.cell 4⟩
  have HZ5:=hide hZ5
  have HK5:=hide hK5
  refine kk hKK (Or.inr SB.out) ?_
  clear hKK hZ5 hK5 SA
  refine rdy gt5 (fun K hKK=>?_)
  refine step_fng (by rfl) _ _ (by go_simp) (HMP.out w5 w1d ra rc ea ec HBD.out HK5.out (HK5.out.ss _ _ HSD.out) h2 (HK5.out.sl _ _ HLD.out) h4 h5) (by rintro e w' ⟨rfl,_⟩;exact⟨_,rfl⟩) ?_
  rintro _ w6 ⟨he,hR6,hM6⟩
  cases he
  have HX6:=hide (RM.row hM6 HX5.out hm2)
  have HA6:=hide (RM.row hM6 HA5.out hma)
  have SC:Hid (w6.cell? ⟨w2.heap.size,0,none⟩=some (.slice ra rl rc)/\w6.cell? ⟨w2.heap.size,1,none⟩=some (.int .u16 (rt:Int))/\w6.cell? ⟨w2.heap.size,2,none⟩=some (.int .u16 (rcl:Int))/\w6.cell? ⟨w2.heap.size,3,none⟩=some (.int .u32 (rttl:Int))/\w6.cell? ⟨w2.heap.size,4,none⟩=some (.slice ea rdl ec)):=hide ⟨HX6.out.cell 0,HX6.out.cell 1,HX6.out.cell 2,HX6.out.cell 3,HX6.out.cell 4⟩
  have HR6:=hide hR6
  have HM6:=hide (hM6 base)
  refine kk hKK (Or.inr SC.out) ?_
  clear hKK hR6 hM6 SB
  refine tk gt6 SC.out ?_
  refine tk gt7 SC.out ?_
  refine wpAnyX_done (by kernel_rfl) ?_ _
  go_wp2
  go_ret
  obtain⟨D6,hB6⟩:=(HD.out.bel HBD.out).step HK5.out HZ5.out HR6.out HM6.out
  exact⟨by simp,D6,((HB1.out.trans (HBD.out.mono HB1.out.size)).mono HD0.out.le).trans hB6⟩
set_option maxRecDepth 20000 in
set_option maxHeartbeats 1500000 in
theorem does_set (B:Nat) (w:World) (Zb base m:Nat) (A:List (List UInt8)) (L:List Z.R) (K:Nat) (D:Duo B w Zb base m A L K) (_hA:Hid (N.Small A)) (x:AcT) (hx:x.Ok) (hli:LightA x) (wh:Int) (hwh:Hid (x.what=wh)) (na:Option Addr) (nl nc:Nat) (da:Option Addr) (dl dc:Nat) (hnl:Hid (nl=x.n.length)) (hdl:Hid (dl=x.d.length)) (hs:AcS w x na nc da dc) (hK:K+300<=1000000) (hw : ¬ (wh=0) /\ ¬ (wh=1) /\ ¬ (wh=2) /\ ¬ (wh=3) /\ ¬ (wh=4) /\ ¬ (wh=5)) :
 Calls Tryz.prog 13 #[.pointer (some ⟨Zb,0,none⟩),.pointer (some ⟨m,0,none⟩),.agg #[.int .i64 wh,.int .u32 (x.k:Int),.bool x.raw,.slice na nl nc,.int .u16 (x.t:Int),.int .u16 (x.cl:Int),.int .u32 (x.ttl:Int),.slice da dl dc,.int .u16 (x.t2:Int)]] w fun e w'=>e = .returned (.bool true)/\Duo B w' Zb base m A (AcT.act A L x) (K+300)/\Below B w w':=by
 obtain⟨w1,hw1⟩ : ∃ w1,w1=w.alloc (.cells #[.int .i64 wh,.int .u32 (x.k:Int),.bool x.raw,.slice na nl nc,.int .u16 (x.t:Int),.int .u16 (x.cl:Int),.int .u32 (x.ttl:Int),.slice da dl dc,.int .u16 (x.t2:Int)] 41):=⟨_,rfl⟩
 have hb1:Below w.heap.size w w1:=by rw[hw1];exact (Below.refl _ w).alloc (Nat.le_refl _) _
 have hr1:RowAt w1 w.heap.size 41 #[.int .i64 wh,.int .u32 (x.k:Int),.bool x.raw,.slice na nl nc,.int .u16 (x.t:Int),.int .u16 (x.cl:Int),.int .u32 (x.ttl:Int),.slice da dl dc,.int .u16 (x.t2:Int)]:=by rw[hw1];exact RowAt.new w _ _
 have hrec:=lrecord_any x na nl nc da dl dc w1 hx hnl hdl (hs.below hb1 (Nat.le_refl _))
 rw[hwh.out] at hrec
 obtain⟨L',hL'⟩ : ∃ L',L'=AcT.act A L x:=⟨_,rfl⟩
 have hact:L'=Z.dropSet L (path x.rn) x.t2:=by rw[hL'];unfold AcT.act;rw[hwh.out];rw[if_neg (by omega),if_neg (by omega)]
 rw[<- hL']
 have b1:=AcT.rn_small hli
 have b2:=AcT.rn_len hli
 have b3:=AcT.rt_lt hx
 have b4:=AcT.rttl_lt hx
 have b5:=AcT.rd_len hli
 have b6:=hx.t2
 obtain⟨rn,hrn⟩ : ∃ rn,rn=x.rn:=⟨_,rfl⟩
 obtain⟨rt,hrt⟩ : ∃ rt,rt=x.rt:=⟨_,rfl⟩
 obtain⟨rcl,hrcl⟩ : ∃ rcl,rcl=x.rcl:=⟨_,rfl⟩
 obtain⟨rttl,hrttl⟩ : ∃ rttl,rttl=x.rttl:=⟨_,rfl⟩
 obtain⟨rd,hrd⟩ : ∃ rd,rd=x.rd:=⟨_,rfl⟩
 rw[<- hrn, <- hrt, <- hrcl, <- hrttl, <- hrd] at hrec
 rw[<- hrn] at b1 b2
 rw[<- hrt] at b3
 rw[<- hrttl] at b4
 rw[<- hrd] at b5
 obtain⟨rl,hrl⟩ : ∃ rl,rl=rn.length:=⟨_,rfl⟩
 obtain⟨rdl,hrdl⟩ : ∃ rdl,rdl=rd.length:=⟨_,rfl⟩
 rw[<- hrl, <- hrdl] at hrec
 have HB1:=hide hb1
 have HR1:=hide hr1
 have HW1:=hide hw1
 have HD:=hide (D.bel hb1)
 have HD0:=hide D
 rw[<- hrn] at hact
 obtain⟨p1,hp1⟩ : ∃ p1:Nat,p1=L.length - (Z.dropSet L (path rn) x.t2).length:=⟨_,rfl⟩
 have HZP:Hid (∀ (W:World) (ra:Option Addr) (rc:Nat),Below w1.heap.size w1 W->SlS W ra rn->Calls Tryz.prog 52 #[.pointer (some ⟨Zb,0,none⟩),.slice ra rl rc,.int .u16 (x.t2:Int)] W fun e w'=>e = .returned (.int .i64 (p1:Int))/\ZLive (fun i=>i<B) w' Zb A L' (K+300)/\ZKp (fun i=>i<B) W w'):=hide fun W ra rc hW h1=>by
  have h:=zdropSet_live (HD.out.bel hW).z (by omega) rn ra rl rc (hide hrl.symm) h1 (hide b1) x.t2 b6
  rw[<- hp1, <- hact] at h
  exact h.mono fun e w' ⟨k1,k2,k3⟩=>⟨k1,k2.mono (by omega),k3⟩
 have HMP:Hid (∀ (W W0:World) (ra:Option Addr) (rc:Nat),Below w1.heap.size w1 W0->ZKp (fun i=>i<B) W0 W->SlS W ra rn->Calls Tryz.prog 53 #[.pointer (some ⟨m,0,none⟩),.slice ra rl rc,.int .u16 (x.t2:Int)] W fun e w'=>e = .returned (.int .i64 (p1:Int))/\RZAt w' base m A L' /\ ∀ b,RM b m W w'):=hide fun W W0 ra rc hW0 hW h1=>by
  have h:=mDropSet_any W base m A L ((HD.out.bel hW0).r.zk hW) (Nat.le_trans (HD.out.bel hW0).bs hW.size) rn ra rl rc (hide hrl.symm) h1 (hide b1) x.t2
  rw[<- hp1, <- hact] at h
  exact h
 unfold recV at hrec
 have HREC:=hide hrec
 have hll:=HD.out.z.lt
 clear D hs hrec hr1 hb1 hw1 hL' hrn hrt hrcl hrttl hrd b1 b2 b3 b4 b5 b6 hrl hrdl hx hli hact hll hp1 hK
 obtain⟨n0,n1,n2,n3,n4,n5⟩:=hw
 go_enter Tryz.func13,Tryz.ntmps13
 go_wp2_with (first
  | (go_at_call 49;rw[<- HW1.out];refine HREC.out.mono ?_;rintro e w2 ⟨ra,rc,ea,ec,rfl,h1,_,h3,_,_,hb2⟩;obtain⟨w3,hw3⟩ : ∃ w3,w3=w2.alloc (.cells #[.slice ra rl rc,.int .u16 (rt:Int),.int .u16 (rcl:Int),.int .u32 (rttl:Int),.slice ea rdl ec] 39):=⟨_,rfl⟩;have hb3:Below w1.heap.size w1 w3:=(by rw[hw3];exact hb2.alloc hb2.size _);have hX:RowAt w3 w2.heap.size 39 #[.slice ra rl rc,.int .u16 (rt:Int),.int .u16 (rcl:Int),.int .u32 (rttl:Int),.slice ea rdl ec]:=(by rw[hw3];exact RowAt.new w2 _ _);have hA3:=HR1.out.below hb3 HR1.out.lt;have hss:=h1.below (show Below w2.heap.size w2 w3 by rw[hw3];exact (Below.refl _ w2).alloc (Nat.le_refl _) _) (Nat.le_refl _);have hsl:=h3.below (show Below w2.heap.size w2 w3 by rw[hw3];exact (Below.refl _ w2).alloc (Nat.le_refl _) _) (Nat.le_refl _);have HB12:=hide hb2;have HB3:=hide hb3;have HX3:=hide hX;have HA3:=hide hA3;have HSS:=hide hss;have HSL:=hide hsl;have HW3:=hide hw3;have a0:(w2.alloc (.cells #[.slice ra rl rc,.int .u16 (rt:Int),.int .u16 (rcl:Int),.int .u32 (rttl:Int),.slice ea rdl ec] 39)).cell? ⟨w.heap.size,0,none⟩=some (.int .i64 _):=(by rw[<- hw3];exact hA3.cell 0);clear hb2 h1 h3 hb3 hX hA3 hss hsl hw3)
  | fail)
 rw[<- HW3.out]
 have BA:Hid (Below w3.heap.size w3 w3.drew):=hide ((Below.refl _ w3).drew)
 have SAll:Hid (∀ w',Below w3.heap.size w3 w'->w'.cell? ⟨w2.heap.size,0,none⟩=some (.slice ra rl rc)/\w'.cell? ⟨w.heap.size,8,none⟩=some (.int .u16 (x.t2:Int))):=hide fun W hW=>⟨(HX3.out.below hW HX3.out.lt).cell 0,(HA3.out.below hW HA3.out.lt).cell 8⟩
 have SA:=hide (SAll.out _ BA.out)
 have HBD:=hide (HB3.out.trans (BA.out.mono HB3.out.size))
 have HXD:=hide (HX3.out.below BA.out HX3.out.lt)
 have HAD:=hide (HA3.out.below BA.out HA3.out.lt)
 have HSD:=hide (HSS.out.below BA.out (Nat.le_refl _))
 have HLD:=hide (HSL.out.below BA.out (Nat.le_refl _))
 have hmx:m<w1.heap.size:=by
  obtain⟨_,_,_,_,h,_⟩:=HD.out.r.row
  exact h.lt
 have hm2:w2.heap.size≠m:=by have:=HB12.out.size;omega
 have hma:w.heap.size≠m:=by
  obtain⟨_,_,_,_,h,_⟩:=HD0.out.r.row
  have:=h.lt
  omega
 refine wp_region_X (S:=fun w'=>w'.cell? ⟨w2.heap.size,0,none⟩=some (.slice ra rl rc)/\w'.cell? ⟨w.heap.size,8,none⟩=some (.int .u16 (x.t2:Int))) (jS:=1000) (by kernel_rfl) ?_
 generalize w3.drew=w1d at BA SA HBD HXD HAD HSD HLD ⊢
 refine tk gt0 SA.out ?_
 refine tk gt1 SA.out ?_
 refine tk gt2 SA.out ?_
 refine tk gt3 SA.out ?_
 refine tk gt4 SA.out ?_
 refine tk gt6 SA.out ?_
 refine tk gt7 SA.out ?_
 refine tk gt8 SA.out ?_
 refine tk gt9 SA.out ?_
 refine tk gt10 SA.out ?_
 refine rdy gt5 (fun K hKK=>?_)
 refine step_fng (by rfl) _ _ (by go_simp) (HZP.out w1d ra rc HBD.out HSD.out) (by rintro e w' ⟨rfl,_⟩;exact⟨_,rfl⟩) ?_
 rintro _ w5 ⟨he,hZ5,hK5⟩
 cases he
 have HX5:=hide (hK5.row HXD.out (by decide) (by decide))
 have HA5:=hide (hK5.row HAD.out (by decide) (by decide))
 have SB:Hid (w5.cell? ⟨w2.heap.size,0,none⟩=some (.slice ra rl rc)/\w5.cell? ⟨w.heap.size,8,none⟩=some (.int .u16 (x.t2:Int))):=hide ⟨HX5.out.cell 0,HA5.out.cell 8⟩
 have HZ5:=hide hZ5
 have HK5:=hide hK5
 refine kk hKK (Or.inr SB.out) ?_
 clear hKK hZ5 hK5 SA
 refine rdy gt11 (fun K hKK=>?_)
 refine step_fng (by rfl) _ _ (by go_simp) (HMP.out w5 w1d ra rc HBD.out HK5.out (HK5.out.ss _ _ HSD.out)) (by rintro e w' ⟨rfl,_⟩;exact⟨_,rfl⟩) ?_
 rintro _ w6 ⟨he,hR6,hM6⟩
 cases he
 have HX6:=hide (RM.row hM6 HX5.out hm2)
 have HA6:=hide (RM.row hM6 HA5.out hma)
 have SC:Hid (w6.cell? ⟨w2.heap.size,0,none⟩=some (.slice ra rl rc)/\w6.cell? ⟨w.heap.size,8,none⟩=some (.int .u16 (x.t2:Int))):=hide ⟨HX6.out.cell 0,HA6.out.cell 8⟩
 have HR6:=hide hR6
 have HM6:=hide (hM6 base)
 refine kk hKK (Or.inr SC.out) ?_
 clear hKK hR6 hM6 SB
 refine tk gt12 SC.out ?_
 refine tk gt13 SC.out ?_
 refine wpAnyX_done (by kernel_rfl) ?_ _
 go_wp2
 go_ret
 obtain⟨D6,hB6⟩:=(HD.out.bel HBD.out).step HK5.out HZ5.out HR6.out HM6.out
 exact⟨by simp,D6,((HB1.out.trans (HBD.out.mono HB1.out.size)).mono HD0.out.le).trans hB6⟩
theorem does_any (B:Nat) (w:World) (Zb base m:Nat) (A:List (List UInt8)) (L:List Z.R) (K:Nat) (D:Duo B w Zb base m A L K) (hA:Hid (N.Small A)) (x:AcT) (hx:x.Ok) (hli:LightA x) (wh:Int) (hwh:Hid (x.what=wh)) (na:Option Addr) (nl nc:Nat) (da:Option Addr) (dl dc:Nat) (hnl:Hid (nl=x.n.length)) (hdl:Hid (dl=x.d.length)) (hs:AcS w x na nc da dc) (hK:K+300<=1000000) :
 Calls Tryz.prog 13 #[.pointer (some ⟨Zb,0,none⟩),.pointer (some ⟨m,0,none⟩),.agg #[.int .i64 wh,.int .u32 (x.k:Int),.bool x.raw,.slice na nl nc,.int .u16 (x.t:Int),.int .u16 (x.cl:Int),.int .u32 (x.ttl:Int),.slice da dl dc,.int .u16 (x.t2:Int)]] w fun e w'=>e = .returned (.bool true)/\Duo B w' Zb base m A (AcT.act A L x) (K+300)/\Below B w w':=by
 by_cases h0:wh=0\/wh=1\/wh=2\/wh=3
 ·exact does_put B w Zb base m A L K D hA x hx hli wh hwh na nl nc da dl dc hnl hdl hs hK h0
 ·by_cases h4:wh=4\/wh=5
  ·exact does_drop B w Zb base m A L K D hA x hx hli wh hwh na nl nc da dl dc hnl hdl hs hK h4
  ·exact does_set B w Zb base m A L K D hA x hx hli wh hwh na nl nc da dl dc hnl hdl hs hK (by omega)
end Go.Proofs.YtbkegikdmmnkaaaGreat
namespace Go.Proofs.YtbkegikdmmnkaaaGreat
set_option maxRecDepth 5000
open Go.RowKit
set_option maxRecDepth 3000 in
theorem hname_any (n m:List (List UInt8)) (ao bo:Option Addr) (la lb ca cb:Nat) (w:World) (hla:Hid (n.length=la)) (hlb:Hid (m.length=lb)) (hsa:SlS w ao n) (hsb:SlS w bo m) (hma:la<=9223372036854775807) (hmb:lb<=9223372036854775807) :
 Calls Tryz.prog 28 #[.slice ao la ca,.slice bo lb cb] w fun e w'=>e = .returned (.bool (decide (n=m))) /\ ∃ k,w'=w.drewN k:=by
 have HSA:=hide hsa
 have HSB:=hide hsb
 clear hsa hsb
 by_cases hab:la=lb
 ·subst hab
  go_enter Tryz.func28,Tryz.ntmps28
  go_wp2
  go_loopw [5] (fun i wr => ∃ j:Nat,i = .int .i64 (j:Int)/\j<=la/\Hid (n.take j=m.take j) /\ ∃ k,wr=w.drewN k) (fun i _=>la - (intOf i).toNat)
  case atStart=>exact⟨0,rfl,by omega,hide rfl,0,rfl⟩
  case round =>
   obtain⟨j,rfl,hj,HE,hm⟩:=hrel
   have HM:=hide hm
   clear hm
   by_cases hlt:j<la
   ·obtain⟨b1,o1,rfl,_,hc1⟩:=HSA.out (by have:=hla.out;omega)
    obtain⟨b2,o2,rfl,_,hc2⟩:=HSB.out (by have:=hlb.out;omega)
    have hx1:wr.cell? ⟨b1,o1+j,none⟩=some (.string ⟨(n.getD j []).toArray⟩):=by
     obtain⟨m,rfl⟩:=HM.out
     exact hc1 j (by have:=hla.out;omega)
    have hx2:wr.cell? ⟨b2,o2+j,none⟩=some (.string ⟨(m.getD j []).toArray⟩):=by
     obtain⟨m,rfl⟩:=HM.out
     exact hc2 j (by have:=hlb.out;omega)
    clear hc1 hc2
    obtain⟨x,hx⟩ : ∃ x,x=n.getD j []:=⟨_,rfl⟩
    obtain⟨y,hy⟩ : ∃ y,y=m.getD j []:=⟨_,rfl⟩
    rw[<- hx] at hx1
    rw[<- hy] at hx2
    have HX:=hide hx
    have HY:=hide hy
    clear hx hy
    have hj1:(j:Int)<(la:Int):=by omega
    by_cases hq:x=y
    ·have HQ:=hide hq
     subst hq
     go_wp2
     go_quiet (fail)
     go_wp2
     go_roundw
     case rel =>
      refine⟨j+1,by go_num,by omega,hide ?_,drew_more _ HM.out⟩
      have h1:j<n.length:=by have:=hla.out;omega
      have h2:j<m.length:=by have:=hlb.out;omega
      have e1:=HX.out
      have e2:=HY.out
      rw[List.getD_eq_getElem?_getD,List.getElem?_eq_getElem h1] at e1
      rw[List.getD_eq_getElem?_getD,List.getElem?_eq_getElem h2] at e2
      rw[List.take_succ_eq_append_getElem h1,List.take_succ_eq_append_getElem h2,HE.out]
      have e3:n[j]=m[j]:=e1.symm.trans e2
      rw[e3]
     case measure=>simp[intOf];omega
    ·have hq1:(x == y)=false:=by simp[hq]
     have hq2:decide (x=y)=false:=by simp[hq]
     have hres:decide (n=m)=false:=by
      refine decide_eq_false fun e=>hq ?_
      rw[HX.out,HY.out,e]
     go_wp2
     go_quiet (fail)
     go_wp2
     go_ret
     exact⟨by rw[hres];rfl,drew_more _ HM.out⟩
   ·obtain rfl:j=la:=by omega
    have hres:decide (n=m)=true:=by
     have h:=HE.out
     rw[List.take_of_length_le (by have:=hla.out;omega),List.take_of_length_le (by have:=hlb.out;omega)] at h
     exact decide_eq_true h
    go_wp2
    go_ret
    exact⟨by rw[hres];rfl,HM.out⟩
 ·have hres:decide (n=m)=false:=by
   refine decide_eq_false fun e=>hab ?_
   rw[<- hla.out, <- hlb.out,e]
  have hab1 : ¬ ((la:Int)=(lb:Int)):=by omega
  go_enter Tryz.func28,Tryz.ntmps28
  go_wp2
  go_ret
  exact⟨by rw[hres];rfl,0,rfl⟩
end Go.Proofs.YtbkegikdmmnkaaaGreat
namespace Go.Proofs.YtbkegikdmmnkaaaGreat
open Go.RowKit
set_option maxRecDepth 5000
open Go.RowKit
open Go.RowKit
open Go.RowKit
def AcT.run (A:List (List UInt8)) (l:List AcT):List Z.R:=l.foldl (AcT.act A) []
theorem AcT.run_snoc (A:List (List UInt8)) (l:List AcT) (j:Nat) (x:AcT) (hx:l[j]?=some x):AcT.run A (l.take (j+1))=AcT.act A (AcT.run A (l.take j)) x:=by
 unfold AcT.run
 rw[List.take_add_one,hx,List.foldl_append]
 rfl
theorem SlA.cells {w:World} {b o:Nat} {l:List AcT} (h:SlA w (some ⟨b,o,none⟩) l) {j:Nat} {x:AcT} (hx:l[j]?=some x) : ∃ na nc da dc,b<w.heap.size/\AcS w x na nc da dc /\ ∀ k,k<9->w.cell? ⟨b,o+j*9+k,none⟩=(acRow x na nc da dc)[k]?:=by
 obtain⟨b',o',e,hlt,hc⟩:=h (by have:=(List.getElem?_eq_some_iff.1 hx).1;omega)
 injection e with e;injection e with e1 e2 _
 subst e1;subst e2
 obtain⟨na,nc,da,dc,h1,h2⟩:=hc j x hx
 exact⟨na,nc,da,dc,hlt,h1,h2⟩
theorem RZAt.empty (W:World) (base:Nat) (a:Option Addr) (n c:Nat) (hn:n=Z.exA.length) (hs:SlS W a Z.exA) (hc:n<=c):RZAt (W.alloc (.cells #[.slice a n c,.slice none 0 0] 33)) base W.heap.size Z.exA []:=by
 subst hn
 exact⟨⟨a,c,none,0,RowAt.new W _ _,hs.below ((Below.refl _ W).alloc (Nat.le_refl _) _) (Nat.le_refl _),hc,RL.nil _ _ _ _ (fun _=>rfl)⟩,List.Pairwise.nil,fun x hx=>(by cases hx),Nat.zero_le _,fun x hx=>(by cases hx),fun x hx=>(by cases hx),fun x hx=>(by cases hx)⟩
end Go.Proofs.YtbkegikdmmnkaaaGreat
