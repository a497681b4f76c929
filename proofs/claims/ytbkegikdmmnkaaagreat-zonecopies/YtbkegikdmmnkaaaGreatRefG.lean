/- The reference's Get, Put, whole (a text of stage 5, at this seat). -/
import Derived.Test.YtbkegikdmmnkaaaGreatNmC
import Derived.Laws.AppendOwnNone
import Derived.Deep.Cut
import Derived.Test.YtbkegikdmmnkaaaGreatZpl2
import Derived.Laws.ResultCell
import Derived.Deep.RegionWith
import Derived.Test.YtbkegikdmmnkaaaGreatTyB
import Derived.Laws.IdiomStrings
import Derived.Laws.BytesArg
import Derived.Sort.WalkA
namespace Go.Proofs.YtbkegikdmmnkaaaGreat
set_option maxRecDepth 5000
open Go.RowKit
theorem wpList_append_SN {w:World} {ops:Array Oper} {rest:List Oper} {o:Oper} {a:Act} {Q:Exit->Act->World->Prop} (hgd:o.guard=none) (s x:Operand)
 (ho:o.op = .call { callee := .builtin .append,args := #[s,x],argTypes := #[28,28] }) (base:Nat) (v:Value) (n:List (List UInt8)) (hs:a.eval s=v) (hown:OwnS w base v n)
 (ao:Option Addr) (m c:Nat) (n2:List (List UInt8)) (hx:a.eval x = .slice ao m c) (hm:n2.length=m) (hsrc:SlS w ao n2) (hnil:ao=none->c=0) (hbound:n.length+m<=1099511627776) (hbase:base<=w.heap.size)
 (h : ∀ v' w',OwnS w' base v' (n++n2)->w.grownBy w' v.ownBlock->wpList Tryz.prog ops Q rest (a.put o.dst v') w'):wpList Tryz.prog ops Q (o::rest) a w:=by
 cases ao with
 | none =>
  obtain⟨i0,hi,hz0,hz1,hz2⟩:=info_parts infoS
  have h0:n2.length=0:=by
   rcases Nat.eq_zero_or_pos n2.length with h | h
   ·exact h
   ·obtain⟨b,o,e,_⟩:=hsrc h;cases e
  obtain rfl:n2 = []:=List.eq_nil_of_length_eq_zero h0
  obtain rfl:=hnil rfl
  obtain rfl:m=0:=by rw[<- hm];rfl
  refine wpList_append_own_none hgd s x 28 ho base 9 i0 1 Tryz.underlying28 hi v n.length (vs n) hs hown hx ?_
  exact h v w (by rw[List.append_nil];exact hown) ⟨rfl,rfl,rfl,Nat.le_refl _,fun _ _ _=>rfl⟩
 | some ad=>exact wpList_append_S hgd s x ho base v n hs hown ad m c n2 hx hm hsrc hbound hbase h
theorem OwnS.lit (w:World) (l:List (List UInt8)) (A:Array Value) (base:Nat) (hb:base<=w.heap.size) (h:A=(vs l).toArray) (hl:l.length<=1000000) (n:Nat) (hn:n=l.length):OwnS (w.alloc (.cells A 9)) base (.slice (some ⟨w.heap.size,0,none⟩) n n) l:=by
 subst h;subst hn
 have hz:(vs l).length=l.length:=vs_len l
 refine⟨by rw[hz,Nat.mul_one],Or.inr ⟨w.heap.size,l.length,(vs l).toArray,rfl,hb,heap_alloc_last w _,Nat.le_refl _,by unfold maxLen;omega,by simp[hz],by simp;exact List.take_of_length_le (Nat.le_of_eq hz)⟩⟩
theorem OwnB.lit (w:World) (l:List UInt8) (A:Array Value) (base:Nat) (hb:base<=w.heap.size) (h:A=(vb l).toArray) (hl:l.length<=1000000) (n:Nat) (hn:n=l.length):OwnB (w.alloc (.cells A 5)) base (.slice (some ⟨w.heap.size,0,none⟩) n n) l:=by
 subst h;subst hn
 have hz:(vb l).length=l.length:=vb_len l
 refine⟨by rw[hz,Nat.mul_one],Or.inr ⟨w.heap.size,l.length,(vb l).toArray,rfl,hb,heap_alloc_last w _,Nat.le_refl _,by unfold maxLen;omega,by simp[hz],by simp;exact List.take_of_length_le (Nat.le_of_eq hz)⟩⟩
open Go.RowKit
def EM (w:World) (n:List (List UInt8)) (us:List Value):Prop := ∃ a c,us = [.slice a n.length c]/\TyS w a n/\(a=none->c=0)/\n.length<=c/\(n = []->a=none)
theorem EM.kb {w w':World} {n:List (List UInt8)} {us:List Value} (h:EM w n us) (k:KB w w'):EM w' n us:=by
 obtain⟨a,c,h1,h2,h3⟩:=h;exact⟨a,c,h1,h2.kb k,h3⟩
theorem setsN {w:World} {ρ : Nat->Role} {G:List (List UInt8)->Option Nd} {C:List (List UInt8)->Nat->Option Z.St} {K:Nat} {P:List (List (List UInt8))} (H:PL G C P) (T:TreeAt w ρ G C K) {p:List (List UInt8)} {x:Nd} (hx:G p=some x) :
 ∃ c0:Nat,(Builtin.len_ #[103] 3 #[.map (some x.s)]).run Tryz.prog w = .ok (.int .i64 (c0:Int)) w/\(0<c0↔p∈P):=by
 obtain⟨c0,h1,_,h2⟩:=(T.node p x hx).sets.none_len keyedH Tryz.underlying103 3
 refine⟨c0,h1,?_⟩
 rw[H.own p]
 constructor
 ·intro hc
  refine Classical.byContradiction fun hn=>?_
  have:c0=0:=h2.2 fun k=>by
   cases hk:fU (fun t=>(C p t).map fun S=>setV S (x.dm t)) k with
   | none=>rfl
   | some v =>
    obtain⟨t,ht,rfl⟩:=fU_some (by rw[hk];rfl)
    rw[fU_at _ t ht] at hk
    exact absurd ⟨t,by cases hC:C p t with
     | none=>rw[hC] at hk;cases hk
     | some S=>rfl⟩ hn
  omega
 ·rintro⟨t,ht⟩
  refine Nat.pos_of_ne_zero fun h0=>?_
  obtain⟨S,hS⟩:=Option.isSome_iff_exists.1 ht
  have h3:=h2.1 h0 (.int .u16 (t:Int))
  rw[fU_at _ t (T.cov p t S hS).2,hS] at h3
  cases h3
theorem NodeIs.kid {w:World} {G:List (List UInt8)->Option Nd} {C:List (List UInt8)->Nat->Option Z.St} {K:Nat} {p:List (List UInt8)} {x:Nd} (h:NodeIs w G C K p x) {l:List UInt8} {y:Nd} (hy:G (p ++ [l])=some y) :
 (Instr.lookup 104 (.map (some x.b)) (.string ⟨l.toArray⟩) false).run Tryz.prog w = .ok (.pointer (some ⟨y.n,0,none⟩)) w:=by
 have h1:fS (fun l=>(G (p ++ [l])).map fun y=>ptr y.n) (.string l)=some (ptr y.n):=by
  show (G (p ++ [l])).map (fun y=>ptr y.n)=_
  rw[hy];rfl
 obtain⟨v0,hv0⟩:=MapAt.key h.below (x := .string l) (by rw[h1];rfl)
 obtain⟨s,_,e,hs⟩:=Maps.keyOf_str Tryz.underlying9 hv0
 injection e with e;subst e
 have hk:keyOf Tryz.prog 9 (.string ⟨l.toArray⟩)=some (.string l):=by
  have h:=WideMaps.keyOf_string_mk (P:=Tryz.prog) Tryz.underlying9 (s:=⟨l.toArray⟩) (by show l.toArray.size<=maxLen;simpa using hs)
  simpa using h
 have h2:=MapAt.get h.below keyedS Tryz.underlying104 (Tryz.zeroValue90 w) hk
 rw[h1] at h2
 exact h2
set_option maxRecDepth 100000 in
set_option maxHeartbeats 1500000 in
theorem names_any {P:List (List (List UInt8))} {G:List (List UInt8)->Option Nd} {C:List (List UInt8)->Nat->Option Z.St} (H:PL G C P) (K:Nat) (hK:K<=1000000) : ∀ (d:Nat) (w:World) (ρ : Nat->Role) (_:TreeAt w ρ G C K) (p:List (List UInt8)) (x:Nd) (_:G p=some x) (_:128<p.length+d) (n:List (List UInt8)) (_:Hid (n=p.reverse)) (ao:Option Addr) (len cap:Nat) (_:Hid (n.length=len)) (_:TyS w ao n) (_:ao=none->cap=0) (_:len<=cap) (_:n = []->ao=none),
 Calls Tryz.prog 56 #[.pointer (some ⟨x.n,0,none⟩),.slice ao len cap] w fun e w' => ∃ v,e = .returned v/\OwnL 28 1 EM w' w.heap.size v ((Z.under P p).map List.reverse)/\Below w.heap.size w w'
 | 0,w, ρ,T,p,x,hx,hd,n,hn,ao,len,cap,hl,hs,h1,h2,h3=>by
  have:=H.deep p (by rw[hx];rfl)
  omega
 | d+1,w, ρ,T,p,x,hx,hd,n,hn,ao,len,cap,hl,hs,h1,h2,h3=>by
  have ih:=names_any H K hK d
  obtain⟨c0,hln,hpos⟩:=setsN H T hx
  have N0:=T.node p x hx
  have x0:w.cell? ⟨x.n,0,none⟩=some (.map (some x.s)):=N0.row.cell 0
  obtain⟨hlab,hlm⟩:=Z.labs_spec H.rise H.low p
  obtain⟨m,hm⟩ : ∃ m,m=(Z.labs P p).length:=⟨_,rfl⟩
  have hkey : ∀ l,l∈Z.labs P p↔(fS (fun l=>(G (p ++ [l])).map fun y=>ptr y.n) (.string l)).isSome:=fun l=>by
   rw[hlm l, <- H.kid p l]
   show _↔((G (p ++ [l])).map fun y=>ptr y.n).isSome=true
   simp
  have hmK:m<=K:=by
   have hinj : ∀ a b:List UInt8,Lit.string a=Lit.string b->a=b:=fun a b e=>by injection e
   have h4:=N0.below.le keyedS ((Z.labs P p).map Lit.string) (by
    unfold List.Nodup
    rw[List.pairwise_map]
    exact (asc_nodup hlab).imp fun {a b} hab e=>hab (hinj a b e)) (fun k=>by
    rw[List.mem_map]
    constructor
    ·rintro⟨l,hl,rfl⟩;exact (hkey l).1 hl
    ·intro hk
     obtain⟨s,rfl⟩:=fS_some hk
     exact⟨s,(hkey s).2 hk,rfl⟩)
   rw[List.length_map] at h4
   omega
  have hup0:Z.upto P p 0=if p∈P then [n] else []:=by
   unfold Z.upto
   rw[hn.out]
   by_cases hp:p∈P
   ·simp[hp]
   ·simp[hp]
  have hlb:len<=128:=by
   have h4:=H.deep p (by rw[hx];rfl)
   have h5:=hl.out
   rw[hn.out,List.length_reverse] at h5
   omega
  have HT:=hide T
  have HX:=hide hx
  have HS:=hide hs
  have HN0:=hide N0
  have HPOS:=hide hpos
  have HIH:=hide ih
  have HLAB:=hide hlab
  have HKEY:=hide hkey
  have HM:=hide hm
  have HUP:=hide hup0
  have H3:=hide h3
  have HD:=hide hd
  have HLM:=hide hlm
  clear T hx hs N0 hpos ih hlab hkey hm hup0 h3 hd hlm
  go_enter Tryz.func56,Tryz.ntmps56
  go_upto_if 14 with fail
  go_cut [5] from 9 (fun v wc=>OwnL 28 1 EM wc w.heap.size v (Z.upto P p 0)/\Below w.heap.size w wc)
  case first =>
   by_cases hp:p∈P
   ·have hcb:((0:Int)<(c0:Int)):=by have:=HPOS.out.2 hp;omega
    go_wp2_with (at_builtin;go_loud (refine wpList_appL rfl (.tmp 15) (.tmp 17) 46 rfl Tryz.underlying46 (.slice none 0 0) 24 (info_parts infoNs) rfl (by decide) (by decide) (by decide) w.heap.size (.slice none 0 0) ([]:List (List (List UInt8))) rfl (OwnL.nil 28 1 EM _ _) ⟨w.heap.size,0,none⟩ 1 n [.slice ao len cap] rfl (cell_one_new _ _ _) rfl (by simp[Value.oneCell']) ⟨ao,cap,by rw[hl.out],HS.out.kb (KB.alloc _ _),h1,by rw[hl.out];exact h2,H3.out⟩ (fun _ _ _ k h=>h.kb k) (by simp) (by simp) ?_);intro v5 w5 hO5 hG5 hK5 hB5)
    go_meet
    refine⟨?_,((Below.refl _ w).alloc (Nat.le_refl _) _).trans hB5⟩
    rw[HUP.out,if_pos hp];exact hO5
   ·have h0 : ¬ 0<c0:=fun h=>hp (HPOS.out.1 h)
    have hcb:decide ((0:Int)<(c0:Int))=false:=by simp;omega
    have hcc : ¬ (0:Int)<(c0:Int):=by omega
    go_wp2
    go_meet
    refine⟨?_,Below.refl _ _⟩
    rw[HUP.out,if_neg hp];exact OwnL.nil _ _ _ _ _
  case rest =>
   obtain⟨hO,hB⟩:=hcut
   have NC:=HN0.out.keep (K':=K) (w':=wc) (fun _ _ h=>h.below hB (Nat.le_refl _)) (Nat.le_refl _) (fun _=>rfl) (fun _=>rfl) (hB.block _ HN0.out.row.lt) (hB.block _ HN0.out.sets.lt) (hB.block _ HN0.out.below.lt) (fun t S hS=>by obtain⟨f,h,_⟩:=HN0.out.data t S hS;exact hB.block _ h.lt)
   have y1:wc.cell? ⟨x.n,1,none⟩=some (.map (some x.b)):=NC.row.cell 1
   have HNC:=hide NC
   have HO:=hide hO
   have HB:=hide hB
   clear NC hO hB
   go_wp2_with (first
    | (go_at_call 97;refine (keysN_any (some x.b) wc).mono ?_;rintro e w2 ⟨rfl,hw2⟩;rw[hw2];clear hw2 w2)
    | (go_at_call 96;refine (sortedN_any wc x.b K _ HNC.out.below hK (Z.labs P p) HLAB.out HKEY.out).mono ?_;rintro e w3 ⟨v3,rfl,hv3,hb3⟩;obtain⟨a3,c3,rfl,hs3,_,_⟩:=hv3.ty;rw[<- HM.out];clear hv3))
   have hbc3:Below wc.heap.size wc w3:=((Below.refl _ wc).alloc (Nat.le_refl _) _).trans (hb3.mono (Nat.le_succ _))
   have hb03:Below w.heap.size w w3:=HB.out.trans (hbc3.mono HB.out.size)
   have hO3:=HO.out.bel (fun _ _ h=>h.kb (KB.of_below hbc3)) hbc3
   clear hb3 hbc3
   go_loopw [5,26] (fun v i wr => ∃ j:Nat,i = .int .i64 (j:Int)/\j<=m/\OwnL 28 1 EM wr w.heap.size v (Z.upto P p j)/\Below w.heap.size w wr/\TyS wr a3 (Z.labs P p)) (fun _ i _=>m - (intOf i).toNat)
   case atStart=>exact⟨0,rfl,by omega,hO3,hb03,hs3⟩
   case round =>
    obtain⟨j,rfl,hj,hO,hB,hT⟩:=hrel
    have hz:=hB.size
    by_cases hlt:j<m
    ·have hjk:j<(Z.labs P p).length:=by have:=HM.out;omega
     obtain⟨b1,o1,rfl,_,hc1⟩:=hT.1 (by omega)
     have hcx:=hc1 j hjk
     have hd1:=Z.upto_succ P p j hjk
     have hmem:(Z.labs P p).getD j []∈Z.labs P p:=by rw[List.getD_eq_getElem?_getD,List.getElem?_eq_getElem hjk];exact List.getElem_mem hjk
     obtain⟨key,hkk⟩ : ∃ key,key=(Z.labs P p).getD j []:=⟨_,rfl⟩
     rw[<- hkk] at hcx hd1 hmem
     obtain⟨y,hy⟩:=Option.isSome_iff_exists.1 ((H.kid p key).2 ((HLM.out key).1 hmem))
     have NR:NodeIs wr G C K p x:=HN0.out.keep (K':=K) (w':=wr) (fun _ _ h=>h.below hB (Nat.le_refl _)) (Nat.le_refl _) (fun _=>rfl) (fun _=>rfl) (hB.block _ HN0.out.row.lt) (hB.block _ HN0.out.sets.lt) (hB.block _ HN0.out.below.lt) (fun t S hS=>by obtain⟨f,h,_⟩:=HN0.out.data t S hS;exact hB.block _ h.lt)
     have hlen1:=Z.upto_len H.rise H.low p j
     have hlen2:=Z.under_len P (p ++ [key])
     have hnum:=H.num
     obtain⟨n5,hn5⟩ : ∃ n5,n5 = [key]++n:=⟨_,rfl⟩
     have hn5l:n5.length=len+1:=by rw[hn5];simp[hl.out]
     have hn5r:n5=(p ++ [key]).reverse:=by rw[hn5,hn.out];simp
     have HO:=hide hO
     have HB1:=hide hB
     have HT1:=hide hT
     have HNR:=hide NR
     have HY:=hide hy
     have HD1:=hide hd1
     have HN5:=hide hn5
     have HN5R:=hide hn5r
     have HN5L:=hide hn5l
     clear hO hB hT NR hy hd1 hn5 hn5r hn5l hc1 hmem hkk
     go_wp2_with (first
      | (at_builtin;refine wpList_append_SN rfl (.tmp 31) (.tmp 32) rfl wr.heap.size (.slice (some ⟨wr.heap.size,0,none⟩) 1 1) [key] rfl (OwnS.lit wr [key] _ _ (Nat.le_refl _) rfl (by simp) 1 rfl) ao len cap n rfl hl.out (((HS.out.kb (KB.of_below HB1.out)).kb (KB.alloc _ _)).1) h1 (by simp;omega) (by simp) ?_;intro v5 w5 hO5 hG5;have hb5:=grown_belowS (OwnS.lit wr [key] _ _ (Nat.le_refl _) rfl (by simp) 1 rfl) hG5 ((Below.refl _ wr).alloc (Nat.le_refl _) _) (by simp);rw[<- HN5.out] at hO5;obtain⟨a5,c5,hv5,hs5,hn5,hc5⟩:=hO5.ty;rw[HN5L.out] at hv5 hc5;subst hv5;have hb05:=HB1.out.trans (hb5.mono HB1.out.size);have N5:=(HT.out.below_ hb05).node p x HX.out;have z1:w5.cell? ⟨x.n,1,none⟩=some (.map (some x.b)):=N5.row.cell 1;have hlk:=N5.kid HY.out;have HB5:=hide hb5;have HB05:=hide hb05;have HO5:=hide hO5;clear hO5 hG5 N5 hb5 hb05)
      | (go_at_call 56;refine (HIH.out w5 ρ (HT.out.below_ HB05.out) (p ++ [key]) y HY.out (by have:=HD.out;simp;omega) n5 HN5R a5 (len+1) c5 HN5L hs5 hn5 hc5 (fun h=>absurd h (by rw[HN5.out];simp))).mono ?_;rintro e w6 ⟨v6,rfl,hO6,hb6⟩;have hb56:=HB5.out.trans (hb6.mono HB5.out.size))
      | (at_builtin;go_loud (refine wpList_appLL rfl (.tmp 34) (.tmp 42) 46 rfl Tryz.underlying46 (.slice none 0 0) 24 (info_parts infoNs) rfl (by decide) (by decide) (by decide) w.heap.size _ (Z.upto P p j) rfl (HO.out.bel (fun _ _ h=>h.kb (KB.of_below hb56)) hb56) w5.heap.size v6 ((Z.under P (p ++ [key])).map List.reverse) rfl hO6 (fun _ _ _ k h=>h.kb k) (by rw[List.length_map];omega) (by have:=hb56.size;omega) ?_);intro v7 w7 hO7 hG7 hK7 hB7)
      | fail)
     go_roundw
     case rel =>
      refine⟨j+1,by go_num,by omega,by rw[HD1.out];exact hO7,HB1.out.trans ((hb56.mono hz).trans hB7),(HT1.out.kb (KB.of_below hb56)).kb hK7⟩
     case measure=>simp[intOf];omega
    ·obtain rfl:j=m:=by omega
     go_wp2
     go_ret
     refine⟨_,rfl,?_,hB⟩
     rw[HM.out,Z.upto_all H.rise H.low p] at hO
     exact hO
open Go.RowKit
theorem setAt_datas {L:List Z.R} {C:List (List UInt8)->Nat->Option Z.St} (h:Z.Of L C) {p:List (List UInt8)} {t:Nat} {S:Z.St} (hS:C p t=some S):datas S.g ((Z.setAt L p t).map (·.c))=(Z.setAt L p t).map (·.d):=by
 unfold datas
 rw[List.map_map]
 refine List.map_congr_left fun x hx=>?_
 obtain⟨h1,rfl,rfl⟩:=Z.mem_setAt.1 hx
 show (S.g x.c).getD []=x.d
 rw[(h.at_ x h1 S hS).2];rfl
theorem infoAS:(Tryz.prog.info? 54).map (·.size)=some 4:=by kernel_rfl
theorem results_as {fn:Func} {p u:Tmp} (h:fn.results = #[.cell p 54,.tmp u]) (tmps:Array Value) (w:World) (g:Nat) (cs:Array Value) (hs:cs.size=4) (hp:tmps.getD p undef = .pointer (some ⟨g,0,none⟩)) (hg:RowAt w g 54 cs) :
 (results fn tmps).run Tryz.prog w = .ok (.tuple #[.agg cs,tmps.getD u undef]) w:=by
 rw[results_cell_tmp h,hp]
 have hl:=run_loadVar_row (P:=Tryz.prog) w g 54 54 cs (0,0) _ hg Tryz.underlying54 rfl (by rw[hs];exact infoAS)
 simp[asAddr,hl,Result.andThen]
def asetZ:Value := .agg #[.slice none 0 0,.int .u16 0,.int .u32 0,.slice none 0 0]
def SetPost (w:World) (L:List Z.R) (C:List (List UInt8)->Nat->Option Z.St) (n:List (List UInt8)) (nl t:Nat) (e:Ending) (w':World):Prop :=
 Below w.heap.size w w'/\((C (path n) t=none/\e = .returned (.tuple #[asetZ,.bool false])) \/
  ∃ (S:Z.St) (na:Option Addr) (nc:Nat) (v:Value),C (path n) t=some S/\e = .returned (.tuple #[.agg #[.slice na nl nc,.int .u16 (t:Int),.int .u32 (S.ttl:Int),v],.bool true])/\TyS w' na (N.lowN n)/\nl<=nc/\OwnL 37 1 EB w' w.heap.size v ((Z.setAt L (path n) t).map (·.d)))
theorem KB.setCell {w:World} {g:Nat} {et:TypeId} {c:Array Value} (h:RowAt w g et c) (he:et≠5/\et≠9) (j:Nat) (v:Value):KB w (w.setCell ⟨g,j,none⟩ v):=⟨by simp,fun b cs t fr hb ht=>by
 have hne:b≠g:=fun e=>by
  have h:w.heap[g]?=_:=h
  rw[e,h] at hb;injection hb with hb;injection hb with _ hb _
  rcases ht with rfl | rfl
  ·exact he.1 hb
  ·exact he.2 hb
 rw[heap_setCell_other _ _ _ _ hne];exact hb⟩
structure SOld (W:World) (g b:Nat) (T:Int) (m:Nat):Prop where
 row:RowAt W g 54 #[.slice none 0 0,.int .u16 0,.int .u32 0,.slice none 0 0]
 box:RowAt W b 101 #[.int .u32 T,.map (some m)]
theorem SOld.cells {W:World} {g b:Nat} {T:Int} {m:Nat} (h:SOld W g b T m):W.cell? ⟨b,0,none⟩=some (.int .u32 T)/\W.cell? ⟨b,1,none⟩=some (.map (some m))/\W.cell? ⟨g,0,none⟩=some (.slice none 0 0)/\W.cell? ⟨g,1,none⟩=some (.int .u16 0)/\W.cell? ⟨g,2,none⟩=some (.int .u32 0)/\W.cell? ⟨g,3,none⟩=some (.slice none 0 0) /\
 W.frozen? ⟨g,0,none⟩=false/\W.frozen? ⟨g,1,none⟩=false/\W.frozen? ⟨g,2,none⟩=false/\W.frozen? ⟨g,3,none⟩=false :=
 ⟨h.box.cell 0,h.box.cell 1,h.row.cell 0,h.row.cell 1,h.row.cell 2,h.row.cell 3,h.row.frozen 0,h.row.frozen 1,h.row.frozen 2,h.row.frozen 3⟩
theorem SOld.below {W W':World} {B g b:Nat} {T:Int} {m:Nat} (h:SOld W g b T m) (hb:Below B W W') (h1:g<B) (h2:b<B):SOld W' g b T m:=⟨h.row.below hb h1,h.box.below hb h2⟩
structure SNew (w:World) (g len t:Nat) (T:Int) (n:List (List UInt8)) (ds:List (List UInt8)) (wc:World) (na:Option Addr) (nc:Nat) (v:Value):Prop where
 row:RowAt wc g 54 #[.slice na len nc,.int .u16 (t:Int),.int .u32 T,v]
 ty:TyS wc na (N.lowN n)
 le:len<=nc
 own:OwnL 37 1 EB wc w.heap.size v ds
 bel:Below w.heap.size w wc
theorem SNew.mk' {w wz:World} {g b len t:Nat} {T:Int} {m:Nat} {n ds:List (List UInt8)} {na:Option Addr} {nc base:Nat} {v:Value} (h:SOld wz g b T m) (hg:w.heap.size<=g) (hgb:g<base) (ty:TyS wz na (N.lowN n)) (le:len<=nc) (own:OwnL 37 1 EB wz base v ds) (bel:Below w.heap.size w wz) :
 SNew w g len t T n ds ((((wz.setCell ⟨g,0,none⟩ (.slice na len nc)).setCell ⟨g,1,none⟩ (.int .u16 (t:Int))).setCell ⟨g,2,none⟩ (.int .u32 T)).setCell ⟨g,3,none⟩ v) na nc v:=by
 have r1:=h.row.set 0 (.slice na len nc)
 have r2:=r1.set 1 (.int .u16 (t:Int))
 have r3:=r2.set 2 (.int .u32 T)
 have k:=(((KB.setCell h.row (by decide) 0 (.slice na len nc)).trans (KB.setCell r1 (by decide) 1 (.int .u16 (t:Int)))).trans (KB.setCell r2 (by decide) 2 (.int .u32 T))).trans (KB.setCell r3 (by decide) 3 v)
 refine⟨r3.set 3 v,ty.kb k,le,(own.kept (fun _ _ h=>h.kb k) fun q _ _ hq _=>?_).low (by omega),(((bel.setCell (p:=⟨g,0,none⟩) hg _).setCell (p:=⟨g,1,none⟩) hg _).setCell (p:=⟨g,2,none⟩) hg _).setCell (p:=⟨g,3,none⟩) hg _⟩
 rw[heap_setCell_other _ _ _ _ (by show q≠g;omega),heap_setCell_other _ _ _ _ (by show q≠g;omega),heap_setCell_other _ _ _ _ (by show q≠g;omega),heap_setCell_other _ _ _ _ (by show q≠g;omega)]
set_option maxRecDepth 100000 in
set_option maxHeartbeats 4000000 in
theorem zset_any (w:World) (Zb:Nat) (A:List (List UInt8)) (L:List Z.R) (ρ : Nat->Role) (G:List (List UInt8)->Option Nd) (C:List (List UInt8)->Nat->Option Z.St) (K:Nat) (Zx:ZAt w Zb A L ρ G C K) (hK:K<=1000000) (n:List (List UInt8)) (ao:Option Addr) (len cap:Nat) (hl:Hid (n.length=len)) (hs:SlS w ao n) (hm:Hid (N.Small n)) (t:Nat) (ht:t<65536) :
 Calls Tryz.prog 23 #[.pointer (some ⟨Zb,0,none⟩),.slice ao len cap,.int .u16 (t:Int)] w fun e w'=>SetPost w L C n len t e w':=by
 obtain⟨w1,hw1⟩ : ∃ w1,w1=w.alloc (.cells #[.slice none 0 0,.int .u16 0,.int .u32 0,.slice none 0 0] 54):=⟨_,rfl⟩
 have hb1:Below w.heap.size w w1:=by rw[hw1];exact (Below.refl _ w).alloc (Nat.le_refl _) _
 have hr1:RowAt w1 w.heap.size 54 #[.slice none 0 0,.int .u16 0,.int .u32 0,.slice none 0 0]:=by rw[hw1];exact RowAt.new w _ _
 have hf:=(Zx.bel hb1).find n ao len cap hl (hs.below hb1 (Nat.le_refl _)) hm
 have hs1:=hs.below hb1 (Nat.le_refl _)
 have HZ:=hide Zx
 have HS1:=hide hs1
 have HB1:=hide hb1
 have HR1:=hide hr1
 have HW1:=hide hw1
 clear hs Zx hw1 hs1 hr1
 go_enter Tryz.func23,Tryz.ntmps23
 cases hC:C (path n) t with
 | none =>
  go_wp2_with (go_at_call 58;rw[<- HW1.out];refine hf.mono ?_;rintro e w2 ⟨x,rfl,hF⟩;have x0:w2.cell? ⟨x.n,0,none⟩=some (.map (some x.s)):=hF.node.row.cell 0;have hlk:=(hF.node.lookup t ht w2 rfl).1;rw[hC] at hlk;simp only[Option.map_none,Option.getD_none,Option.isSome_none] at hlk;have hr2:=HR1.out.below hF.bel HR1.out.lt;have hr3:=RowAt.alloc hr2 (.cells #[.int .u32 0,.map none] 101);have c0:=hr3.cell 0;have c1:=hr3.cell 1;have c2:=hr3.cell 2;have c3:=hr3.cell 3;have f0:=hr3.frozen 0;have f1:=hr3.frozen 1;have f2:=hr3.frozen 2;have f3:=hr3.frozen 3;have d0:=hr2.cell 0;have d1:=hr2.cell 1;have d2:=hr2.cell 2;have d3:=hr2.cell 3;have g0:=hr2.frozen 0;have g1:=hr2.frozen 1;have g2:=hr2.frozen 2;have g3:=hr2.frozen 3)
  have hr4:=(((hr3.set 0 (.slice none 0 0)).set 1 (.int .u16 0)).set 2 (.int .u32 0)).set 3 (.slice none 0 0)
  refine bodyPost_ret (v := .tuple #[asetZ,.bool false]) (results_as Tryz.results23 _ _ w.heap.size _ rfl rfl hr4) rfl ⟨?_,Or.inl ⟨hC,rfl⟩⟩
  have h2:Below w.heap.size w w2:=hb1.trans (hF.bel.mono hb1.size)
  exact ((((h2.alloc h2.size _).setCell (p:=⟨w.heap.size,0,none⟩) (Nat.le_refl _) _).setCell (p:=⟨w.heap.size,1,none⟩) (Nat.le_refl _) _).setCell (p:=⟨w.heap.size,2,none⟩) (Nat.le_refl _) _).setCell (p:=⟨w.heap.size,3,none⟩) (Nat.le_refl _) _
 | some S =>
  go_wp2_with (go_at_call 58;rw[<- HW1.out];refine hf.mono ?_;rintro e w2 ⟨x,rfl,hF⟩;have x0:w2.cell? ⟨x.n,0,none⟩=some (.map (some x.s)):=hF.node.row.cell 0;have hlk:=(hF.node.lookup t ht w2 rfl).1;rw[hC] at hlk;simp only[Option.map_some,Option.getD_some,Option.isSome_some,setV] at hlk)
  obtain⟨m,hmm⟩ : ∃ m,m=x.dm t:=⟨_,rfl⟩
  have hdm:=hF.node.data t S hC
  rw[<- hmm] at hdm ⊢
  obtain⟨w3,hw3⟩ : ∃ w3,w3=w2.alloc (.cells #[.int .u32 (S.ttl:Int),.map (some m)] 101):=⟨_,rfl⟩
  have hb23:Below w2.heap.size w2 w3:=by rw[hw3];exact (Below.refl _ w2).alloc (Nat.le_refl _) _
  have hz12:=hF.bel.size
  have hz01:=hb1.size
  have hb02:Below w.heap.size w w2:=hb1.trans (hF.bel.mono hz01)
  have hb03:Below w.heap.size w w3:=hb02.trans (hb23.mono hb02.size)
  have hg0:w.heap.size<w1.heap.size:=HR1.out.lt
  have hz3:w3.heap.size=w2.heap.size+1:=by rw[hw3];simp
  have hold:SOld w3 w.heap.size w2.heap.size (S.ttl:Int) m:=⟨(HR1.out.below hF.bel hg0).below hb23 (by omega),by rw[hw3];exact RowAt.new w2 _ _⟩
  have hDM:DM w3 (some m) S.g K:=DM.bel (mo:=some m) hdm hb23
  have hL:=HZ.out
  have hks:=Z.setAt_rise hL.rise (path n) t
  have hlow : ∀ W,Below w3.heap.size w3 W->Calls Tryz.prog 47 #[.slice ao len cap] W fun e w' => ∃ v,e = .returned v/\OwnS w' W.heap.size v (N.lowN n)/\Below W.heap.size W w':=fun W hW=>lower_any n ao len cap W hl (((HS1.out.below hF.bel (Nat.le_refl _)).below hb23 (Nat.le_refl _)).below hW (Nat.le_refl _)) hm
  have hlist : ∀ W,Below w3.heap.size w3 W->Calls Tryz.prog 59 #[.agg #[.int .u32 (S.ttl:Int),.map (some m)]] W fun e w' => ∃ v,e = .returned v/\OwnL 37 1 EB w' W.heap.size v ((Z.setAt L (path n) t).map (·.d))/\Below W.heap.size W w':=fun W hW=>by
   have:=list_any W (S.ttl:Int) m S.g K (hDM.bel hW) hK ((Z.setAt L (path n) t).map (·.c)) hks (fun c=>hL.of.mem_c hC c) (by rw[List.length_map];have:=hL.num;have:(Z.setAt L (path n) t).length<=L.length:=List.length_filter_le _ _;omega) (fun c hc=>by
    obtain⟨y,hy,rfl⟩:=List.mem_map.1 hc
    have:=hL.okk y (Z.mem_setAt.1 hy).1
    have h2:=cn_len this.2.2.1
    omega)
   rw[setAt_datas hL.of hC] at this
   exact this
  have HOLD:=hide hold
  have HB03:=hide hb03
  have HW3:=hide hw3
  have HZ3:=hide hz3
  have HG0:=hide (show w.heap.size<w3.heap.size/\w2.heap.size<w3.heap.size by omega)
  obtain⟨b8,hb8⟩ : ∃ b8,b8=w2.heap.size:=⟨_,rfl⟩
  rw[<- hw3]
  rw[<- hb8] at HOLD HG0 ⊢
  obtain⟨k0,k1,k2,k3,k4,k5,k6,k7,k8,k9⟩:=hold.cells
  rw[<- hb8] at k0 k1
  have bD:Below w3.heap.size w3 w3.drew:=below_drewN (Below.refl _ w3) 1
  clear hold hb03 hw3 hz3 hb23 hb02 hDM hL hks hdm hF hf hlk x0 hb8 hz12 hz01 hg0 hmm
  go_cut [7] from 24 (fun s7 wc=>s7 = .bool true /\ ∃ na nc v,SNew w w.heap.size len t (S.ttl:Int) n ((Z.setAt L (path n) t).map (·.d)) wc na nc v)
  case first =>
   go_region_with (first
    | (go_at_call 47;refine (hlow _ (by first | exact bD | exact bI)).mono ?_;rintro e wl ⟨vl,rfl,hOl,hBl⟩;obtain⟨al,cl,rfl,hTl,_,hcl⟩:=hOl.ty;rw[N.lowN_len,hl.out] at hcl ⊢; have bL:Below w3.heap.size w3 wl:=(by first | exact bD.trans hBl | exact bI.trans (hBl.mono bI.size));have oL:=HOLD.out.below bL HG0.out.1 HG0.out.2;obtain⟨l0,l1,l2,l3,l4,l5,l6,l7,l8,l9⟩:=oL.cells)
    | (go_at_call 59;refine (hlist _ (by first | exact bD | exact bL)).mono ?_;rintro e wi ⟨vi,rfl,hOi,hBi⟩;obtain⟨ai,ci,rfl,hni,hci⟩:=hOi.slice;rw[List.length_map] at hOi;have bI:Below w3.heap.size w3 wi:=(by first | exact bD.trans hBi | exact bL.trans (hBi.mono bL.size));have oI:=HOLD.out.below bI HG0.out.1 HG0.out.2;obtain⟨i0,i1,i2,i3,i4,i5,i6,i7,i8,i9⟩:=oI.cells)
    | fail)
   all_goals go_wp2_with fail
   all_goals go_meet
   all_goals first
    | exact⟨rfl,al,cl,_,SNew.mk' (len:=len) (base:=wl.heap.size) (wz:=wi) oI (Nat.le_refl _) (Nat.lt_of_lt_of_le HG0.out.1 bL.size) (hTl.kb (KB.of_below hBi)) hcl hOi (HB03.out.trans (bI.mono HB03.out.size))⟩
    | exact⟨rfl,al,cl,_,SNew.mk' (len:=len) (base:=w3.heap.size) (wz:=wl) oL (Nat.le_refl _) HG0.out.1 hTl hcl (hOi.bel (fun _ _ h=>h.kb (KB.of_below hBl)) hBl) (HB03.out.trans (bL.mono HB03.out.size))⟩
  case rest =>
   obtain⟨rfl,na,nc,v,hN⟩:=hcut
   go_wp2
   refine bodyPost_ret (v := .tuple #[.agg #[.slice na len nc,.int .u16 (t:Int),.int .u32 (S.ttl:Int),v],.bool true]) (results_as Tryz.results23 _ _ w.heap.size _ rfl rfl hN.row) rfl ⟨hN.bel,Or.inr ⟨S,na,nc,v,hC,rfl,hN.ty,hN.le,hN.own⟩⟩
open Go.RowKit
namespace Z
theorem flat_pre {α β : Type} (f : α -> List β) (l:List α) (k:Nat) (hk:k<l.length) {X:List β} (hX:X <+: f l[k]):(l.take k).flatMap f++X <+: l.flatMap f:=by
 have e:l.flatMap f=(l.take k).flatMap f++(f l[k]++(l.drop (k+1)).flatMap f):=by
  rw[<- List.flatMap_cons, <- List.drop_eq_getElem_cons hk, <- List.flatMap_append,List.take_append_drop]
 rw[e,List.prefix_append_right_inj]
 exact hX.trans (List.prefix_append _ _)
theorem flat_succ {α β : Type} (f : α -> List β) (l:List α) (k:Nat) (hk:k<l.length):(l.take (k+1)).flatMap f=(l.take k).flatMap f++f l[k]:=by
 rw[List.take_succ_eq_append_getElem hk,List.flatMap_append,List.flatMap_cons,List.flatMap_nil,List.append_nil]
def recsAt (L:List R) (p:List (List UInt8)):List R:=(typesAt L p).flatMap (fun t=>setAt L p t)
end Z
def ER (w:World) (r:Z.R) (us:List Value):Prop := ∃ na nc da dc,us = [.slice na r.p.length nc,.int .u16 (r.t:Int),.int .u16 1,.int .u32 (r.ttl:Int),.slice da r.d.length dc]/\TyS w na r.p.reverse/\r.p.length<=nc/\(na=none->nc=0)/\TyL w da r.d/\(da=none->dc=0)/\r.d.length<=dc
theorem ER.kb {w w':World} {r:Z.R} {us:List Value} (h:ER w r us) (k:KB w w'):ER w' r us:=by
 obtain⟨na,nc,da,dc,h1,h2,h3,h4,h5,h6,h7⟩:=h
 exact⟨na,nc,da,dc,h1,h2.kb k,h3,h4,h5.kb k,h6,h7⟩
structure KX (et0:TypeId) (w w':World):Prop where
 size:w.heap.size<=w'.heap.size
 rows : ∀ (g:Nat) (c:Array Value) (et:TypeId) (fr:Nat × Nat),w.heap[g]?=some (Obj.cells c et fr)->et≠et0->w'.heap[g]?=some (Obj.cells c et fr)
theorem KX.trans {et0:TypeId} {a b c:World} (h:KX et0 a b) (k:KX et0 b c):KX et0 a c:=⟨Nat.le_trans h.size k.size,fun g x et fr hg he=>k.rows g x et fr (h.rows g x et fr hg he) he⟩
theorem KX.of_below {et0:TypeId} {w w':World} (h:Below w.heap.size w w'):KX et0 w w':=⟨h.size,fun g _ _ _ hg _=>(h.block g (Array.getElem?_eq_some_iff.1 hg).1).trans hg⟩
theorem KX.grown {w w':World} {base size k:Nat} {e:TypeId} {v:Value} {xs:List Value} (hv:w.ownsRow base e size v k xs) (hg:w.grownBy w' v.ownBlock):KX e w w':=⟨hg.size,fun g c et fr hb het=>by
 refine (hg.block g (Array.getElem?_eq_some_iff.1 hb).1 (not_own hv hb het)).trans hb⟩
theorem KX.kb {et0:TypeId} {w w':World} (h:KX et0 w w') (h1:et0≠5/\et0≠9):KB w w':=⟨h.size,fun g c et fr hg he=>h.rows g c et fr hg (fun e=>by rcases he with rfl | rfl;exact h1.1 e.symm;exact h1.2 e.symm)⟩
theorem KX.row {et0:TypeId} {w w':World} (h:KX et0 w w') {g:Nat} {t:TypeId} {c:Array Value} (hr:RowAt w g t c) (ht:t≠et0):RowAt w' g t c:=h.rows g c t _ hr ht
theorem OwnL.kx {α : Type} {et et0:TypeId} {sz:Nat} {E:World -> α -> List Value->Prop} {w w':World} {base:Nat} {v:Value} {L:List α} (h:OwnL et sz E w base v L) (k:KX et0 w w') (hE : ∀ x us,E w x us->E w' x us) (hne:et≠et0):OwnL et sz E w' base v L :=
 h.kept hE fun g c fr _ hg=>(k.rows g c et fr hg hne).trans hg.symm
theorem OwnH.kx {et0:TypeId} {w w':World} {base:Nat} {v:Value} {l:List UInt16} (h:OwnH w base v l) (k:KX et0 w w') (hne:36≠et0):OwnH w' base v l:=by
 have h0:w.ownsRow base 36 1 v l.length (vh l):=h
 refine⟨h0.1,?_⟩
 rcases h0.2 with h1 | ⟨g,cap,cur,e,h1,h2,h3⟩
 ·exact Or.inl h1
 ·exact Or.inr ⟨g,cap,cur,e,h1,k.rows _ _ _ _ h2 hne,h3⟩
theorem infoRc:(Tryz.prog.info? 39).map (fun i=>(i.zero,i.size,i.bytes))=some (some (.agg #[.slice none 0 0,.int .u16 0,.int .u16 0,.int .u32 0,.slice none 0 0]),5,56):=by kernel_rfl
theorem step_appL {α : Type} {et:TypeId} {sz:Nat} {E:World -> α -> List Value->Prop} {w:World} {ops:Array Oper} {o:Oper} {a:Act} {J:Act->World->Prop} {Q:Exit->Act->World->Prop} {F:Prop} (hgd:o.guard=none) (s x:Operand) (st:TypeId)
 (ho:o.op = .call { callee := .builtin .append,args := #[s,x],argTypes := #[st,st] }) (hu:Tryz.prog.underlying st=some (.slice et)) (z:Value) (bytes:Nat) (hie : ∃ i,Tryz.prog.info? et=some i/\i.zero=some z/\i.size=sz/\i.bytes=bytes) (hzc:z.cells.size=sz) (hsz:0<sz) (hby:bytes<=200) (hne:et≠5/\et≠9)
 (base:Nat) (v:Value) (L:List α) (hs:a.eval s=v) (hown:OwnL et sz E w base v L) (ad:Addr) (c:Nat) (y : α) (us:List Value) (hx:a.eval x = .slice (some ad) 1 c) (hr : ∀ j u,us[j]?=some u->w.cell? (ad.add j)=some u) (hlen:us.length=sz) (hone : ∀ u∈us,u.oneCell'=true) (hEy:E w y us)
 (hEk : ∀ w' x us,KB w w'->E w x us->E w' x us) (hbound:L.length<=1000000) (hbase:base<=w.heap.size)
 (h : ∀ v' w',OwnL et sz E w' base v' (L ++ [y])->KX et w w'->Below base w w'->J (a.put o.dst v') w'):if Region.wanted o (yielded ops a.tmps)=true then Oper.wp Tryz.prog o a w J Q else F:=by
 have hw:Region.wanted o (yielded ops a.tmps)=true:=by simp[Region.wanted,hgd]
 rw[if_pos hw]
 obtain⟨i0,hi,hz0,hz1,hz2⟩:=hie
 obtain⟨vss,hv,hE⟩:=hown
 have hmul:(L.length+1)*bytes<=1000001*200:=Nat.mul_le_mul (by omega) hby
 obtain⟨v',w',h1,h2,h3,_⟩:=run_append_own (P:=Tryz.prog) w base st o.type et i0 z sz bytes hu hi hz0 hz1 hz2 hzc hsz v L.length vss.flatten hv ad 1 c us (by omega) hr hone (by unfold maxLen;omega) (by omega) hbase
 have hk:=KB.grown hv hne h3
 unfold Oper.wp execOp
 simp only[ho,resolve,invoke,builtin,Sem.run_bind,Sem.run_pure,Result.andThen_ok,List.map_toArray,List.map_cons,List.map_nil,hs,hx,h1]
 refine h v' w' ⟨vss ++ [us],?_,(hE.kb fun x us=>hEk w' x us hk).app (Els.one hlen hone (hEk w' y us hk hEy))⟩ (KX.grown hv h3) (owns_below hv h3 hbase)
 rw[List.length_append,List.length_singleton,List.flatten_append,List.flatten_cons,List.flatten_nil,List.append_nil]
 exact h2
theorem znames_any (w:World) (Zb:Nat) (A:List (List UInt8)) (L:List Z.R) (ρ : Nat->Role) (G:List (List UInt8)->Option Nd) (C:List (List UInt8)->Nat->Option Z.St) (K:Nat) (Zx:ZAt w Zb A L ρ G C K) (hK:K<=1000000) :
 Calls Tryz.prog 18 #[.pointer (some ⟨Zb,0,none⟩)] w fun e w' => ∃ v,e = .returned v/\OwnL 28 1 EM w' w.heap.size v ((Z.paths L).map List.reverse)/\Below w.heap.size w w':=by
 obtain⟨aa,ac,hz,_,_⟩:=Zx.row
 obtain⟨x,hx⟩:=Option.isSome_iff_exists.1 Zx.tree.root
 have hnn:nodeN G []=x.n:=nodeN_of hx
 rw[hnn] at hz
 have z1:w.cell? ⟨Zb,1,none⟩=some (.pointer (some ⟨x.n,0,none⟩)):=hz.cell 1
 have hcall:=names_any Zx.pl K hK 129 w ρ Zx.tree [] x hx (by omega) [] rfl none 0 0 rfl ⟨fun h=>absurd h (by simp),fun a e=>(by cases e)⟩ (fun _=>rfl) (Nat.le_refl _) (fun _=>rfl)
 rw[Z.under_nil] at hcall
 clear hz hnn hx Zx
 go_enter Tryz.func18,Tryz.ntmps18
 go_wp2_with (go_at_call 56;refine hcall.mono ?_;rintro e w1 ⟨v,rfl,hO,hB⟩)
 go_ret
 exact⟨v,rfl,hO,hB⟩
end Go.Proofs.YtbkegikdmmnkaaaGreat
namespace Go.Proofs.YtbkegikdmmnkaaaGreat
set_option maxRecDepth 5000
open Go.RowKit
set_option maxRecDepth 5000 in
theorem below_drewN {B:Nat} {w w':World} (h:Below B w w') (n:Nat):Below B w (w'.drewN n):=⟨h.os,h.tape,h.output,h.size,h.block⟩
end Go.Proofs.YtbkegikdmmnkaaaGreat
namespace Go.Proofs.YtbkegikdmmnkaaaGreat
set_option maxRecDepth 5000
open Go.RowKit
set_option maxRecDepth 10000 in
set_option maxHeartbeats 12800000 in
theorem ropen_any (l:List UInt8) (ao:Option Addr) (len cap:Nat) (w:World) (hl:Hid (l.length=len)) (hs:SlL w ao l) (hlen:len<=100000) :
 Calls Tryz.prog 162 #[.slice ao len cap] w fun e w'=>Below w.heap.size w w'/\((∃ m v,T.opn 0 l=some m/\e = .returned (.tuple #[v,.int .i64 0])/\OwnH w' w.heap.size v m)\/(T.opn 0 l=none/\e = .returned (.tuple #[.slice none 0 0,.int .i64 40]))):=by
 have HS:=hide hs
 clear hs
 go_enter Tryz.func162,Tryz.ntmps162
 go_wp2
 go_loopw [4,5,6] (fun v4 v5 v6 W => ∃ (i least:Nat) (m:List UInt16),v6 = .int .i64 (i:Int)/\i<=len/\v5 = .int .i64 ((least:Int) - 1)/\least<=256/\OwnH W w.heap.size v4 m/\Below w.heap.size w W/\m.length<=8*i/\T.opn 0 l=(T.opn least (l.drop i)).map (m ++ ·)) (fun _ _ v6 _=>len - (intOf v6).toNat)
 case atStart=>exact⟨0,0, [],rfl,by omega,rfl,by omega,OwnH.nil _ _,Below.refl _ _,by simp,by rw[List.drop_zero];cases T.opn 0 l <;> simp⟩
 case round =>
  obtain⟨i,least,m,rfl,hi,rfl,hle,hO,hB,hml,hE⟩:=hrel
  have hz:=hB.size
  have HE:=hide hE
  have HO:=hide hO
  clear hE hO
  by_cases hil:i<len
  ·obtain⟨b,o,rfl,hb,hc⟩:=HS.out (by rw[hl.out];omega)
   rw[hl.out] at hc
   have hci:=fun j (hj:j<len)=>(hB.cell (p:=⟨b,o+j,none⟩) hb).trans (hc j hj)
   have HC:=hide hc
   clear hc
   by_cases h2:len<i+2
   ·have e2:(len:Int)<(i:Int)+2:=by omega
    have hone : ∃ x,l.drop i = [x]:=by
     have hdl:(l.drop i).length=1:=by rw[List.length_drop,hl.out];omega
     exact List.length_eq_one_iff.1 hdl
    obtain⟨x,hx⟩:=hone
    rw[hx,T.opn_one] at HE
    clear hci
    go_wp2
    go_ret2
    exact⟨hB,Or.inr ⟨HE.out,rfl⟩⟩
   ·have e2 : ¬ (len:Int)<(i:Int)+2:=by omega
    obtain⟨x,n,r,hrd⟩ : ∃ x n r,l.drop i=x::n::r:=by
     have hdl:(l.drop i).length=len - i:=by rw[List.length_drop,hl.out]
     match h:l.drop i with
     | []=>rw[h] at hdl;simp at hdl;omega
     | [_]=>rw[h] at hdl;simp at hdl;omega
     | x::n::r=>exact⟨x,n,r,rfl⟩
    have hrl:r.length+2=len - i:=by
     have:=congrArg List.length hrd
     rw[List.length_drop,hl.out] at this;simp at this;omega
    have hgd : ∀ j,l.getD (i+j) 0=(x::n::r).getD j 0:=fun j=>by
     rw[<- hrd,List.getD_eq_getElem?_getD,List.getD_eq_getElem?_getD,List.getElem?_drop]
    have c0:=hci i hil
    rw[show l.getD i 0=x from hgd 0] at c0
    have c1:=hci (i+1) (by omega)
    rw[hgd 1] at c1
    have c1':wr.cell? ⟨b,o+(i+1),none⟩=some (.int .u8 (n.toNat:Int)):=c1
    clear c1
    have hx0:=x.toNat_lt
    have hn0:=n.toNat_lt
    rw[hrd] at HE
    have HBD:Hid (T.bad least x n r↔(x.toNat<least\/n.toNat=0\/32<n.toNat\/r.length<n.toNat\/r.getD (n.toNat - 1) 0=0)):=Iff.rfl
    have hop : ¬ T.bad least x n r->T.opn least (x::n::r)=(T.opn (x.toNat+1) (r.drop n.toNat)).map (T.typ x.toNat (r.take n.toNat) ++ ·):=fun h=>by rw[T.opn_two,if_neg h]
    have hd2:l.drop (i+(2+n.toNat))=r.drop n.toNat:=by
     rw[<- List.drop_drop,hrd,show 2+n.toNat=n.toNat+2 by omega];rfl
    obtain⟨X,hX⟩ : ∃ X:Nat,x.toNat=X:=⟨_,rfl⟩
    obtain⟨M,hM⟩ : ∃ M:Nat,n.toNat=M:=⟨_,rfl⟩
    rw[hX] at c0 hx0 HBD hop
    rw[hM] at c1' hn0 HBD hop hd2
    have ex:IntKind.i64.wrap (X:Int)=(X:Int):=wrap_nat _ (by omega)
    have en:IntKind.i64.wrap (M:Int)=(M:Int):=wrap_nat _ (by omega)
    have HOP:=hide hop
    have HD2:=hide hd2
    have HGD:=hide hgd
    clear hop hd2 hgd hX hM hrd
    have hi1:i+1<len:=by omega
    by_cases b1:X<least
    ·have e3:(X:Int)<=(least:Int) - 1:=by omega
     clear hci
     go_wp2
     go_quiet (fail)
     have hnone:T.opn least (x::n::r)=none:=by rw[T.opn_two,if_pos (HBD.out.2 (Or.inl b1))]
     have HNO:=hide hnone
     clear hnone
     go_wp2
     go_ret2
     exact⟨below_drewN hB _,Or.inr ⟨by rw[HE.out,HNO.out];rfl,rfl⟩⟩
    ·have e3 : ¬ (X:Int)<=(least:Int) - 1:=by omega
     by_cases b2:M=0
     ·have e4:(M:Int)<1:=by omega
      clear hci
      go_wp2
      go_quiet (fail)
      have hnone:T.opn least (x::n::r)=none:=by rw[T.opn_two,if_pos (HBD.out.2 (Or.inr (Or.inl b2)))]
      have HNO:=hide hnone
      clear hnone
      go_wp2
      go_ret2
      exact⟨below_drewN hB _,Or.inr ⟨by rw[HE.out,HNO.out];rfl,rfl⟩⟩
     ·have e4 : ¬ (M:Int)<1:=by omega
      by_cases b3:32<M
      ·have e5:(32:Int)<(M:Int):=by omega
       clear hci
       go_wp2
       go_quiet (fail)
       have hnone:T.opn least (x::n::r)=none:=by rw[T.opn_two,if_pos (HBD.out.2 (Or.inr (Or.inr (Or.inl b3))))]
       have HNO:=hide hnone
       clear hnone
       go_wp2
       go_ret2
       exact⟨below_drewN hB _,Or.inr ⟨by rw[HE.out,HNO.out];rfl,rfl⟩⟩
      ·have e5 : ¬ (32:Int)<(M:Int):=by omega
       by_cases b4:r.length<M
       ·have e6:(len:Int)<(i:Int)+2+(M:Int):=by omega
        clear hci
        go_wp2
        go_quiet (fail)
        have hnone:T.opn least (x::n::r)=none:=by rw[T.opn_two,if_pos (HBD.out.2 (Or.inr (Or.inr (Or.inr (Or.inl b4)))))]
        have HNO:=hide hnone
        clear hnone
        go_wp2
        go_ret2
        exact⟨below_drewN hB _,Or.inr ⟨by rw[HE.out,HNO.out];rfl,rfl⟩⟩
       ·have e6 : ¬ (len:Int)<(i:Int)+2+(M:Int):=by omega
        have c2:=hci (i+1+M) (by omega)
        rw[show l.getD (i+1+M) 0=r.getD (M - 1) 0 by
         rw[show i+1+M=i+((M - 1)+2) by omega,HGD.out];rfl] at c2
        obtain⟨y0,hy0⟩ : ∃ y0,r.getD (M - 1) 0=y0:=⟨_,rfl⟩
        rw[hy0] at c2
        have hi2:i+1+M<len:=by omega
        by_cases b5:y0=0
        ·have e7:((y0.toNat:Int) == 0)=true:=by simp[b5]
         have HWH:Hid (r.getD (M - 1) 0=0):=by show r.getD (M - 1) 0=0;rw[hy0];exact b5
         clear hci b5 hy0
         go_wp2
         go_quiet (fail)
         have hnone:T.opn least (x::n::r)=none:=by rw[T.opn_two,if_pos (HBD.out.2 (Or.inr (Or.inr (Or.inr (Or.inr HWH.out)))))]
         have HNO:=hide hnone
         clear hnone
         go_wp2
         go_ret2
         exact⟨below_drewN hB _,Or.inr ⟨by rw[HE.out,HNO.out];rfl,rfl⟩⟩
        ·have e7:((y0.toNat:Int) == 0)=false:=by
          have:y0.toNat≠0:=fun h=>b5 (UInt8.toNat_inj.1 h)
          simp;omega
         have HGB:Hid (¬ T.bad least x n r):=fun hbd=>by
          rcases HBD.out.1 hbd with h | h | h | h | h
          ·exact b1 h
          ·exact b2 h
          ·exact b3 h
          ·exact b4 h
          ·rw[hy0] at h;exact b5 h
         clear b5 hy0 hci
         go_wp2
         go_quiet (fail)
         have HO2:Hid (OwnH (wr.drewN nq) w.heap.size u4 m):=HO.out
         have hB2:=below_drewN hB nq
         have c22:(wr.drewN nq).cell? ⟨b,o+(i+1+M),none⟩=some (.int .u8 (y0.toNat:Int)):=c2
         clear hB HO c0 c1' c2 hz
         generalize wr.drewN nq=W1 at HO2 hB2 c22 ⊢
         clear nq
         obtain⟨bs,hbs⟩ : ∃ bs,r.take M=bs:=⟨_,rfl⟩
         have hbl:bs.length=M:=by rw[<- hbs,List.length_take];omega
         have HBG:Hid (∀ k,k<M->l.getD (i+2+k) 0=bs.getD k 0):=fun k hk=>by
          rw[show i+2+k=i+(k+2) by omega,HGD.out, <- hbs]
          show r.getD k 0=_
          rw[List.getD_eq_getElem?_getD,List.getD_eq_getElem?_getD,List.getElem?_take_of_lt hk]
         rw[hbs] at HOP
         have HBL:=hide hbl
         have hx:X<256:=by omega
         clear hbs hbl
         go_wp2
         go_loopw [4,9] (fun v u W => ∃ k:Nat,u = .int .i64 (k:Int)/\k<=M/\OwnH W w.heap.size v (m++T.typUp X bs (8*k))/\Below w.heap.size w W) (fun _ u _=>M - (intOf u).toNat)
         case atStart=>exact⟨0,rfl,by omega,(by simpa [T.typUp] using HO2.out),hB2⟩
         case round =>
          clear HO2 hB2 c22
          obtain⟨k,rfl,hkM,hO,hB⟩:=hrel
          by_cases hk:k<M
          ·have ek:(k:Int)<(M:Int):=by omega
           go_wp2
           go_loopw [4,10] (fun v u W => ∃ j:Nat,u = .int .i64 (j:Int)/\j<=8/\OwnH W w.heap.size v (m++T.typUp X bs (8*k+j))/\Below w.heap.size w W) (fun _ u _=>8 - (intOf u).toNat)
           case atStart=>exact⟨0,rfl,by omega,hO,hB⟩
           case round =>
            clear hO hB
            obtain⟨j,rfl,hj8,hO,hB⟩:=hrel
            have hz:=hB.size
            by_cases hj:j<8
            ·have cy:=(hB.cell (p:=⟨b,o+(i+2+k),none⟩) hb).trans (HC.out (i+2+k) (by omega))
             rw[HBG.out k hk] at cy
             obtain⟨y,hy⟩ : ∃ y,bs.getD k 0=y:=⟨_,rfl⟩
             rw[hy] at cy
             have HY:=hide hy
             have HO:=hide hO
             have hikl:i+2+k<len:=by omega
             have hmb:m.length<=800000:=by omega
             clear hy hO
             rcases (by omega:j=0\/j=1\/j=2\/j=3\/j=4\/j=5\/j=6\/j=7) with hr | hr | hr | hr | hr | hr | hr | hr
             ·subst hr
              have hhas:=T.and_has bs (8*k+0)
              rw[show (8*k+0) / 8=k by omega,show 7 - (8*k+0) % 8=7 by omega,HY.out,show (2 ^ 7:Nat)=128 from rfl] at hhas
              have e3:bits .and .u8 (y.toNat:Int) 128=((y.toNat &&& 128:Nat):Int):=u8_and_nat y.toNat 128 y.toNat_lt (by omega)
              obtain⟨z,hzz⟩ : ∃ z:Nat,y.toNat &&& 128=z:=⟨_,rfl⟩
              rw[hzz] at hhas e3
              have HH:=hide hhas
              have e6:IntKind.u16.wrap ((X:Int)*256+(k:Int)*8+0)=((T.mk X (8*k+0)).toNat:Int):=by
               rw[T.mk_nat X (8*k+0) hx (by omega),IntKind.wrap_u16];omega
              clear hhas hzz
              by_cases hz0:z=0
              ·have hno:T.has bs (8*k+0)=false:=by
                have : ¬ T.has bs (8*k+0)=true:=fun h=>(HH.out.2 h) hz0
                simpa using this
               have e5:((z:Int) != 0)=false:=by simp[hz0]
               go_wp2
               go_quiet (fail)
               go_wp2
               go_roundw
               case rel=>exact⟨1,rfl,by omega,(by rw[show 8*k+1=(8*k+0)+1 by omega,T.typUp_no X bs _ hno];exact HO.out),below_drewN hB _⟩
               case measure=>simp[intOf]
              ·have hyes:T.has bs (8*k+0)=true:=HH.out.1 hz0
               have e5:((z:Int) != 0)=true:=by simp[hz0]
               have hml:(m++T.typUp X bs (8*k+0)).length<=1000256:=by rw[List.length_append];have:=T.typUp_len X bs (8*k+0);omega
               go_wp2
               go_quiet (fail)
               have HO2:Hid (OwnH (wr.drewN nq) w.heap.size u4 (m++T.typUp X bs (8*k+0))):=HO.out
               have hB2:=below_drewN hB nq
               have hz2:=hB2.size
               clear hB HO cy hz
               generalize wr.drewN nq=w2 at HO2 hB2 hz2 ⊢
               clear nq
               go_wp2_with (at_builtin;refine wpList_append_H rfl (.tmp 81) (.tmp 90) rfl w.heap.size _ (m++T.typUp X bs (8*k+0)) rfl (by exact HO2.out.alloc _) _ _ _ [T.mk X (8*k+0)] rfl rfl (SlH.oneI _ _ _ _ (by first | rfl | (rw[T.mk_nat X _ hx (by omega)];omega))) (by simp) (by simp at hml ⊢; omega) (by simp;omega) ?_;intro v4 w4 hO4 hG4;have hB4:=grown_belowH (HO2.out.alloc _) hG4 (hB2.alloc hz2 _) (by simp;omega);clear hG4)
               go_roundw
               case rel=>exact⟨1,rfl,by omega,(by rw[show 8*k+1=(8*k+0)+1 by omega,T.typUp_yes X bs _ hyes, <- List.append_assoc];exact hO4),hB4⟩
               case measure=>simp[intOf]
             ·subst hr
              have hhas:=T.and_has bs (8*k+1)
              rw[show (8*k+1) / 8=k by omega,show 7 - (8*k+1) % 8=6 by omega,HY.out,show (2 ^ 6:Nat)=64 from rfl] at hhas
              have e3:bits .and .u8 (y.toNat:Int) 64=((y.toNat &&& 64:Nat):Int):=u8_and_nat y.toNat 64 y.toNat_lt (by omega)
              obtain⟨z,hzz⟩ : ∃ z:Nat,y.toNat &&& 64=z:=⟨_,rfl⟩
              rw[hzz] at hhas e3
              have HH:=hide hhas
              have e6:IntKind.u16.wrap ((X:Int)*256+(k:Int)*8+1)=((T.mk X (8*k+1)).toNat:Int):=by
               rw[T.mk_nat X (8*k+1) hx (by omega),IntKind.wrap_u16];omega
              clear hhas hzz
              by_cases hz0:z=0
              ·have hno:T.has bs (8*k+1)=false:=by
                have : ¬ T.has bs (8*k+1)=true:=fun h=>(HH.out.2 h) hz0
                simpa using this
               have e5:((z:Int) != 0)=false:=by simp[hz0]
               go_wp2
               go_quiet (fail)
               go_wp2
               go_roundw
               case rel=>exact⟨2,rfl,by omega,(by rw[show 8*k+2=(8*k+1)+1 by omega,T.typUp_no X bs _ hno];exact HO.out),below_drewN hB _⟩
               case measure=>simp[intOf]
              ·have hyes:T.has bs (8*k+1)=true:=HH.out.1 hz0
               have e5:((z:Int) != 0)=true:=by simp[hz0]
               have hml:(m++T.typUp X bs (8*k+1)).length<=1000256:=by rw[List.length_append];have:=T.typUp_len X bs (8*k+1);omega
               go_wp2
               go_quiet (fail)
               have HO2:Hid (OwnH (wr.drewN nq) w.heap.size u4 (m++T.typUp X bs (8*k+1))):=HO.out
               have hB2:=below_drewN hB nq
               have hz2:=hB2.size
               clear hB HO cy hz
               generalize wr.drewN nq=w2 at HO2 hB2 hz2 ⊢
               clear nq
               go_wp2_with (at_builtin;refine wpList_append_H rfl (.tmp 81) (.tmp 90) rfl w.heap.size _ (m++T.typUp X bs (8*k+1)) rfl (by exact HO2.out.alloc _) _ _ _ [T.mk X (8*k+1)] rfl rfl (SlH.oneI _ _ _ _ (by first | rfl | (rw[T.mk_nat X _ hx (by omega)];omega))) (by simp) (by simp at hml ⊢; omega) (by simp;omega) ?_;intro v4 w4 hO4 hG4;have hB4:=grown_belowH (HO2.out.alloc _) hG4 (hB2.alloc hz2 _) (by simp;omega);clear hG4)
               go_roundw
               case rel=>exact⟨2,rfl,by omega,(by rw[show 8*k+2=(8*k+1)+1 by omega,T.typUp_yes X bs _ hyes, <- List.append_assoc];exact hO4),hB4⟩
               case measure=>simp[intOf]
             ·subst hr
              have hhas:=T.and_has bs (8*k+2)
              rw[show (8*k+2) / 8=k by omega,show 7 - (8*k+2) % 8=5 by omega,HY.out,show (2 ^ 5:Nat)=32 from rfl] at hhas
              have e3:bits .and .u8 (y.toNat:Int) 32=((y.toNat &&& 32:Nat):Int):=u8_and_nat y.toNat 32 y.toNat_lt (by omega)
              obtain⟨z,hzz⟩ : ∃ z:Nat,y.toNat &&& 32=z:=⟨_,rfl⟩
              rw[hzz] at hhas e3
              have HH:=hide hhas
              have e6:IntKind.u16.wrap ((X:Int)*256+(k:Int)*8+2)=((T.mk X (8*k+2)).toNat:Int):=by
               rw[T.mk_nat X (8*k+2) hx (by omega),IntKind.wrap_u16];omega
              clear hhas hzz
              by_cases hz0:z=0
              ·have hno:T.has bs (8*k+2)=false:=by
                have : ¬ T.has bs (8*k+2)=true:=fun h=>(HH.out.2 h) hz0
                simpa using this
               have e5:((z:Int) != 0)=false:=by simp[hz0]
               go_wp2
               go_quiet (fail)
               go_wp2
               go_roundw
               case rel=>exact⟨3,rfl,by omega,(by rw[show 8*k+3=(8*k+2)+1 by omega,T.typUp_no X bs _ hno];exact HO.out),below_drewN hB _⟩
               case measure=>simp[intOf]
              ·have hyes:T.has bs (8*k+2)=true:=HH.out.1 hz0
               have e5:((z:Int) != 0)=true:=by simp[hz0]
               have hml:(m++T.typUp X bs (8*k+2)).length<=1000256:=by rw[List.length_append];have:=T.typUp_len X bs (8*k+2);omega
               go_wp2
               go_quiet (fail)
               have HO2:Hid (OwnH (wr.drewN nq) w.heap.size u4 (m++T.typUp X bs (8*k+2))):=HO.out
               have hB2:=below_drewN hB nq
               have hz2:=hB2.size
               clear hB HO cy hz
               generalize wr.drewN nq=w2 at HO2 hB2 hz2 ⊢
               clear nq
               go_wp2_with (at_builtin;refine wpList_append_H rfl (.tmp 81) (.tmp 90) rfl w.heap.size _ (m++T.typUp X bs (8*k+2)) rfl (by exact HO2.out.alloc _) _ _ _ [T.mk X (8*k+2)] rfl rfl (SlH.oneI _ _ _ _ (by first | rfl | (rw[T.mk_nat X _ hx (by omega)];omega))) (by simp) (by simp at hml ⊢; omega) (by simp;omega) ?_;intro v4 w4 hO4 hG4;have hB4:=grown_belowH (HO2.out.alloc _) hG4 (hB2.alloc hz2 _) (by simp;omega);clear hG4)
               go_roundw
               case rel=>exact⟨3,rfl,by omega,(by rw[show 8*k+3=(8*k+2)+1 by omega,T.typUp_yes X bs _ hyes, <- List.append_assoc];exact hO4),hB4⟩
               case measure=>simp[intOf]
             ·subst hr
              have hhas:=T.and_has bs (8*k+3)
              rw[show (8*k+3) / 8=k by omega,show 7 - (8*k+3) % 8=4 by omega,HY.out,show (2 ^ 4:Nat)=16 from rfl] at hhas
              have e3:bits .and .u8 (y.toNat:Int) 16=((y.toNat &&& 16:Nat):Int):=u8_and_nat y.toNat 16 y.toNat_lt (by omega)
              obtain⟨z,hzz⟩ : ∃ z:Nat,y.toNat &&& 16=z:=⟨_,rfl⟩
              rw[hzz] at hhas e3
              have HH:=hide hhas
              have e6:IntKind.u16.wrap ((X:Int)*256+(k:Int)*8+3)=((T.mk X (8*k+3)).toNat:Int):=by
               rw[T.mk_nat X (8*k+3) hx (by omega),IntKind.wrap_u16];omega
              clear hhas hzz
              by_cases hz0:z=0
              ·have hno:T.has bs (8*k+3)=false:=by
                have : ¬ T.has bs (8*k+3)=true:=fun h=>(HH.out.2 h) hz0
                simpa using this
               have e5:((z:Int) != 0)=false:=by simp[hz0]
               go_wp2
               go_quiet (fail)
               go_wp2
               go_roundw
               case rel=>exact⟨4,rfl,by omega,(by rw[show 8*k+4=(8*k+3)+1 by omega,T.typUp_no X bs _ hno];exact HO.out),below_drewN hB _⟩
               case measure=>simp[intOf]
              ·have hyes:T.has bs (8*k+3)=true:=HH.out.1 hz0
               have e5:((z:Int) != 0)=true:=by simp[hz0]
               have hml:(m++T.typUp X bs (8*k+3)).length<=1000256:=by rw[List.length_append];have:=T.typUp_len X bs (8*k+3);omega
               go_wp2
               go_quiet (fail)
               have HO2:Hid (OwnH (wr.drewN nq) w.heap.size u4 (m++T.typUp X bs (8*k+3))):=HO.out
               have hB2:=below_drewN hB nq
               have hz2:=hB2.size
               clear hB HO cy hz
               generalize wr.drewN nq=w2 at HO2 hB2 hz2 ⊢
               clear nq
               go_wp2_with (at_builtin;refine wpList_append_H rfl (.tmp 81) (.tmp 90) rfl w.heap.size _ (m++T.typUp X bs (8*k+3)) rfl (by exact HO2.out.alloc _) _ _ _ [T.mk X (8*k+3)] rfl rfl (SlH.oneI _ _ _ _ (by first | rfl | (rw[T.mk_nat X _ hx (by omega)];omega))) (by simp) (by simp at hml ⊢; omega) (by simp;omega) ?_;intro v4 w4 hO4 hG4;have hB4:=grown_belowH (HO2.out.alloc _) hG4 (hB2.alloc hz2 _) (by simp;omega);clear hG4)
               go_roundw
               case rel=>exact⟨4,rfl,by omega,(by rw[show 8*k+4=(8*k+3)+1 by omega,T.typUp_yes X bs _ hyes, <- List.append_assoc];exact hO4),hB4⟩
               case measure=>simp[intOf]
             ·subst hr
              have hhas:=T.and_has bs (8*k+4)
              rw[show (8*k+4) / 8=k by omega,show 7 - (8*k+4) % 8=3 by omega,HY.out,show (2 ^ 3:Nat)=8 from rfl] at hhas
              have e3:bits .and .u8 (y.toNat:Int) 8=((y.toNat &&& 8:Nat):Int):=u8_and_nat y.toNat 8 y.toNat_lt (by omega)
              obtain⟨z,hzz⟩ : ∃ z:Nat,y.toNat &&& 8=z:=⟨_,rfl⟩
              rw[hzz] at hhas e3
              have HH:=hide hhas
              have e6:IntKind.u16.wrap ((X:Int)*256+(k:Int)*8+4)=((T.mk X (8*k+4)).toNat:Int):=by
               rw[T.mk_nat X (8*k+4) hx (by omega),IntKind.wrap_u16];omega
              clear hhas hzz
              by_cases hz0:z=0
              ·have hno:T.has bs (8*k+4)=false:=by
                have : ¬ T.has bs (8*k+4)=true:=fun h=>(HH.out.2 h) hz0
                simpa using this
               have e5:((z:Int) != 0)=false:=by simp[hz0]
               go_wp2
               go_quiet (fail)
               go_wp2
               go_roundw
               case rel=>exact⟨5,rfl,by omega,(by rw[show 8*k+5=(8*k+4)+1 by omega,T.typUp_no X bs _ hno];exact HO.out),below_drewN hB _⟩
               case measure=>simp[intOf]
              ·have hyes:T.has bs (8*k+4)=true:=HH.out.1 hz0
               have e5:((z:Int) != 0)=true:=by simp[hz0]
               have hml:(m++T.typUp X bs (8*k+4)).length<=1000256:=by rw[List.length_append];have:=T.typUp_len X bs (8*k+4);omega
               go_wp2
               go_quiet (fail)
               have HO2:Hid (OwnH (wr.drewN nq) w.heap.size u4 (m++T.typUp X bs (8*k+4))):=HO.out
               have hB2:=below_drewN hB nq
               have hz2:=hB2.size
               clear hB HO cy hz
               generalize wr.drewN nq=w2 at HO2 hB2 hz2 ⊢
               clear nq
               go_wp2_with (at_builtin;refine wpList_append_H rfl (.tmp 81) (.tmp 90) rfl w.heap.size _ (m++T.typUp X bs (8*k+4)) rfl (by exact HO2.out.alloc _) _ _ _ [T.mk X (8*k+4)] rfl rfl (SlH.oneI _ _ _ _ (by first | rfl | (rw[T.mk_nat X _ hx (by omega)];omega))) (by simp) (by simp at hml ⊢; omega) (by simp;omega) ?_;intro v4 w4 hO4 hG4;have hB4:=grown_belowH (HO2.out.alloc _) hG4 (hB2.alloc hz2 _) (by simp;omega);clear hG4)
               go_roundw
               case rel=>exact⟨5,rfl,by omega,(by rw[show 8*k+5=(8*k+4)+1 by omega,T.typUp_yes X bs _ hyes, <- List.append_assoc];exact hO4),hB4⟩
               case measure=>simp[intOf]
             ·subst hr
              have hhas:=T.and_has bs (8*k+5)
              rw[show (8*k+5) / 8=k by omega,show 7 - (8*k+5) % 8=2 by omega,HY.out,show (2 ^ 2:Nat)=4 from rfl] at hhas
              have e3:bits .and .u8 (y.toNat:Int) 4=((y.toNat &&& 4:Nat):Int):=u8_and_nat y.toNat 4 y.toNat_lt (by omega)
              obtain⟨z,hzz⟩ : ∃ z:Nat,y.toNat &&& 4=z:=⟨_,rfl⟩
              rw[hzz] at hhas e3
              have HH:=hide hhas
              have e6:IntKind.u16.wrap ((X:Int)*256+(k:Int)*8+5)=((T.mk X (8*k+5)).toNat:Int):=by
               rw[T.mk_nat X (8*k+5) hx (by omega),IntKind.wrap_u16];omega
              clear hhas hzz
              by_cases hz0:z=0
              ·have hno:T.has bs (8*k+5)=false:=by
                have : ¬ T.has bs (8*k+5)=true:=fun h=>(HH.out.2 h) hz0
                simpa using this
               have e5:((z:Int) != 0)=false:=by simp[hz0]
               go_wp2
               go_quiet (fail)
               go_wp2
               go_roundw
               case rel=>exact⟨6,rfl,by omega,(by rw[show 8*k+6=(8*k+5)+1 by omega,T.typUp_no X bs _ hno];exact HO.out),below_drewN hB _⟩
               case measure=>simp[intOf]
              ·have hyes:T.has bs (8*k+5)=true:=HH.out.1 hz0
               have e5:((z:Int) != 0)=true:=by simp[hz0]
               have hml:(m++T.typUp X bs (8*k+5)).length<=1000256:=by rw[List.length_append];have:=T.typUp_len X bs (8*k+5);omega
               go_wp2
               go_quiet (fail)
               have HO2:Hid (OwnH (wr.drewN nq) w.heap.size u4 (m++T.typUp X bs (8*k+5))):=HO.out
               have hB2:=below_drewN hB nq
               have hz2:=hB2.size
               clear hB HO cy hz
               generalize wr.drewN nq=w2 at HO2 hB2 hz2 ⊢
               clear nq
               go_wp2_with (at_builtin;refine wpList_append_H rfl (.tmp 81) (.tmp 90) rfl w.heap.size _ (m++T.typUp X bs (8*k+5)) rfl (by exact HO2.out.alloc _) _ _ _ [T.mk X (8*k+5)] rfl rfl (SlH.oneI _ _ _ _ (by first | rfl | (rw[T.mk_nat X _ hx (by omega)];omega))) (by simp) (by simp at hml ⊢; omega) (by simp;omega) ?_;intro v4 w4 hO4 hG4;have hB4:=grown_belowH (HO2.out.alloc _) hG4 (hB2.alloc hz2 _) (by simp;omega);clear hG4)
               go_roundw
               case rel=>exact⟨6,rfl,by omega,(by rw[show 8*k+6=(8*k+5)+1 by omega,T.typUp_yes X bs _ hyes, <- List.append_assoc];exact hO4),hB4⟩
               case measure=>simp[intOf]
             ·subst hr
              have hhas:=T.and_has bs (8*k+6)
              rw[show (8*k+6) / 8=k by omega,show 7 - (8*k+6) % 8=1 by omega,HY.out,show (2 ^ 1:Nat)=2 from rfl] at hhas
              have e3:bits .and .u8 (y.toNat:Int) 2=((y.toNat &&& 2:Nat):Int):=u8_and_nat y.toNat 2 y.toNat_lt (by omega)
              obtain⟨z,hzz⟩ : ∃ z:Nat,y.toNat &&& 2=z:=⟨_,rfl⟩
              rw[hzz] at hhas e3
              have HH:=hide hhas
              have e6:IntKind.u16.wrap ((X:Int)*256+(k:Int)*8+6)=((T.mk X (8*k+6)).toNat:Int):=by
               rw[T.mk_nat X (8*k+6) hx (by omega),IntKind.wrap_u16];omega
              clear hhas hzz
              by_cases hz0:z=0
              ·have hno:T.has bs (8*k+6)=false:=by
                have : ¬ T.has bs (8*k+6)=true:=fun h=>(HH.out.2 h) hz0
                simpa using this
               have e5:((z:Int) != 0)=false:=by simp[hz0]
               go_wp2
               go_quiet (fail)
               go_wp2
               go_roundw
               case rel=>exact⟨7,rfl,by omega,(by rw[show 8*k+7=(8*k+6)+1 by omega,T.typUp_no X bs _ hno];exact HO.out),below_drewN hB _⟩
               case measure=>simp[intOf]
              ·have hyes:T.has bs (8*k+6)=true:=HH.out.1 hz0
               have e5:((z:Int) != 0)=true:=by simp[hz0]
               have hml:(m++T.typUp X bs (8*k+6)).length<=1000256:=by rw[List.length_append];have:=T.typUp_len X bs (8*k+6);omega
               go_wp2
               go_quiet (fail)
               have HO2:Hid (OwnH (wr.drewN nq) w.heap.size u4 (m++T.typUp X bs (8*k+6))):=HO.out
               have hB2:=below_drewN hB nq
               have hz2:=hB2.size
               clear hB HO cy hz
               generalize wr.drewN nq=w2 at HO2 hB2 hz2 ⊢
               clear nq
               go_wp2_with (at_builtin;refine wpList_append_H rfl (.tmp 81) (.tmp 90) rfl w.heap.size _ (m++T.typUp X bs (8*k+6)) rfl (by exact HO2.out.alloc _) _ _ _ [T.mk X (8*k+6)] rfl rfl (SlH.oneI _ _ _ _ (by first | rfl | (rw[T.mk_nat X _ hx (by omega)];omega))) (by simp) (by simp at hml ⊢; omega) (by simp;omega) ?_;intro v4 w4 hO4 hG4;have hB4:=grown_belowH (HO2.out.alloc _) hG4 (hB2.alloc hz2 _) (by simp;omega);clear hG4)
               go_roundw
               case rel=>exact⟨7,rfl,by omega,(by rw[show 8*k+7=(8*k+6)+1 by omega,T.typUp_yes X bs _ hyes, <- List.append_assoc];exact hO4),hB4⟩
               case measure=>simp[intOf]
             ·subst hr
              have hhas:=T.and_has bs (8*k+7)
              rw[show (8*k+7) / 8=k by omega,show 7 - (8*k+7) % 8=0 by omega,HY.out,show (2 ^ 0:Nat)=1 from rfl] at hhas
              have e3:bits .and .u8 (y.toNat:Int) 1=((y.toNat &&& 1:Nat):Int):=u8_and_nat y.toNat 1 y.toNat_lt (by omega)
              obtain⟨z,hzz⟩ : ∃ z:Nat,y.toNat &&& 1=z:=⟨_,rfl⟩
              rw[hzz] at hhas e3
              have HH:=hide hhas
              have e6:IntKind.u16.wrap ((X:Int)*256+(k:Int)*8+7)=((T.mk X (8*k+7)).toNat:Int):=by
               rw[T.mk_nat X (8*k+7) hx (by omega),IntKind.wrap_u16];omega
              clear hhas hzz
              by_cases hz0:z=0
              ·have hno:T.has bs (8*k+7)=false:=by
                have : ¬ T.has bs (8*k+7)=true:=fun h=>(HH.out.2 h) hz0
                simpa using this
               have e5:((z:Int) != 0)=false:=by simp[hz0]
               go_wp2
               go_quiet (fail)
               go_wp2
               go_roundw
               case rel=>exact⟨8,rfl,by omega,(by rw[show 8*k+8=(8*k+7)+1 by omega,T.typUp_no X bs _ hno];exact HO.out),below_drewN hB _⟩
               case measure=>simp[intOf]
              ·have hyes:T.has bs (8*k+7)=true:=HH.out.1 hz0
               have e5:((z:Int) != 0)=true:=by simp[hz0]
               have hml:(m++T.typUp X bs (8*k+7)).length<=1000256:=by rw[List.length_append];have:=T.typUp_len X bs (8*k+7);omega
               go_wp2
               go_quiet (fail)
               have HO2:Hid (OwnH (wr.drewN nq) w.heap.size u4 (m++T.typUp X bs (8*k+7))):=HO.out
               have hB2:=below_drewN hB nq
               have hz2:=hB2.size
               clear hB HO cy hz
               generalize wr.drewN nq=w2 at HO2 hB2 hz2 ⊢
               clear nq
               go_wp2_with (at_builtin;refine wpList_append_H rfl (.tmp 81) (.tmp 90) rfl w.heap.size _ (m++T.typUp X bs (8*k+7)) rfl (by exact HO2.out.alloc _) _ _ _ [T.mk X (8*k+7)] rfl rfl (SlH.oneI _ _ _ _ (by first | rfl | (rw[T.mk_nat X _ hx (by omega)];omega))) (by simp) (by simp at hml ⊢; omega) (by simp;omega) ?_;intro v4 w4 hO4 hG4;have hB4:=grown_belowH (HO2.out.alloc _) hG4 (hB2.alloc hz2 _) (by simp;omega);clear hG4)
               go_roundw
               case rel=>exact⟨8,rfl,by omega,(by rw[show 8*k+8=(8*k+7)+1 by omega,T.typUp_yes X bs _ hyes, <- List.append_assoc];exact hO4),hB4⟩
               case measure=>simp[intOf]
            ·obtain rfl:j=8:=by omega
             go_wp2
             go_roundw
             case rel=>exact⟨k+1,by go_num,by omega,(by rw[show 8*(k+1)=8*k+8 by omega];exact hO),hB⟩
             case measure=>simp[intOf];omega
          ·obtain rfl:k=M:=by omega
           have ek : ¬ (k:Int)<(k:Int):=by omega
           have htl:=T.typUp_len X bs (8*k)
           rw[<- HBL.out,T.typUp_all] at hO
           rw[<- HBL.out,T.typUp_all] at htl
           have hop:=HOP.out HGB.out
           have HO:=hide hO
           have HTL:=hide htl
           have HOQ:=hide hop
           clear hO htl hop
           go_wp2
           go_roundw
           case rel =>
            refine⟨i+(2+k),X+1,m++T.typ X bs,by first | rfl | (congr 1;done) | (congr 1;omega),by omega,by first | rfl | (congr 1;done) | (congr 1;omega),by omega,HO.out,hB,?_,?_⟩
            ·rw[List.length_append]
             have h1:=HTL.out
             have h2:=HBL.out
             omega
            ·rw[HE.out,HOQ.out,HD2.out]
             cases T.opn (X+1) (r.drop k) <;> simp
           case measure=>simp[intOf];omega
  ·obtain rfl:i=len:=by omega
   go_wp2
   go_ret2
   refine⟨hB,Or.inl ⟨m,_,?_,rfl,HO.out⟩⟩
   rw[HE.out,List.drop_eq_nil_of_le (by rw[hl.out];exact Nat.le_refl _),T.opn_nil];simp
end Go.Proofs.YtbkegikdmmnkaaaGreat
namespace Go.Proofs.YtbkegikdmmnkaaaGreat
open Go.RowKit
set_option maxRecDepth 5000
end Go.Proofs.YtbkegikdmmnkaaaGreat
namespace Go.Proofs.YtbkegikdmmnkaaaGreat
set_option maxRecDepth 5000
open Go.RowKit
theorem step_fn {ops:Array Oper} {o:Oper} {a:Act} {w:World} {K:Act->World->Prop} {Q:Exit->Act->World->Prop} {E:Prop} (f:FuncId) (args:Array Operand) (tys:Array TypeId) (_ho:o.op = .call { callee := .value (.func f),args:=args,argTypes:=tys }) (hgd:o.guard=none) (vals:Array Value)
 (hx:(execOp a.eval o).run Tryz.prog w = .ok (.enter f vals) w) {R:Ending->World->Prop} (hc:Calls Tryz.prog f vals w R) (hr : ∀ e w',R e w' -> ∃ v,e = .returned v)
 (h : ∀ v w',R (.returned v) w'->K (a.put o.dst v) w'):if Region.wanted o (yielded ops a.tmps)=true then Oper.wp Tryz.prog o a w K Q else E:=step_call hgd f vals hx hc hr h
namespace D
def gv (l:List UInt8):Nat:=l.foldl (fun a b=>a*256+b.toNat) 0
theorem gv_next (l:List UInt8) (j:Nat) (h:j<l.length):gv (l.take (j+1))=gv (l.take j)*256+(l.getD j 0).toNat:=by
 rw[N.take_nextB l j h]
 unfold gv
 rw[List.foldl_append];rfl
theorem gv_lt : ∀ (l:List UInt8),gv l<256 ^ l.length:=by
 intro l
 have h : ∀ (l:List UInt8) (a:Nat),l.foldl (fun a b=>a*256+b.toNat) a<(a+1)*256 ^ l.length:=by
  intro l
  induction l with
  | nil=>intro a;simp
  | cons x l ih =>
   intro a
   rw[List.foldl_cons,List.length_cons,Nat.pow_succ]
   refine Nat.lt_of_lt_of_le (ih _) ?_
   have:=x.toNat_lt
   have h2:a*256+x.toNat+1<=(a+1)*256:=by omega
   calc (a*256+x.toNat+1)*256 ^ l.length<=((a+1)*256)*256 ^ l.length:=Nat.mul_le_mul_right _ h2
    _=(a+1)*(256 ^ l.length*256):=by rw[Nat.mul_assoc,Nat.mul_comm 256]
 have:=h l 0
 simpa [gv] using this
theorem gv_take_lt (l:List UInt8) (j:Nat) (hl:l.length<=4) (hj:j<l.length):gv (l.take j)<16777216:=by
 have h1:=gv_lt (l.take j)
 have h2:(l.take j).length<=3:=by rw[List.length_take];omega
 have h3:256 ^ (l.take j).length<=256 ^ 3:=Nat.pow_le_pow_right (by omega) h2
 omega
theorem n16_gv (x y:UInt8) (r:List UInt8):n16 (x::y::r)=some (gv [x,y],r):=by simp[n16,gv]
theorem n32_gv (x y z u:UInt8) (r:List UInt8):n32 (x::y::z::u::r)=some (gv [x,y,z,u],r):=by
 simp only[n32,n16,Option.bind_some,Option.map_some,gv,List.foldl_cons,List.foldl_nil]
 congr 2;omega
end D
theorem or_8 (x y:Nat) (hx:x<16777216) (hy:y<256):bits .or .u32 ((x:Int)*256) (y:Int)=((x*256+y:Nat):Int):=by
 have:=u32_or_nat (x*256) y (by omega) (by omega)
 rw[nat_join 8 (x*256) y (by omega) (by omega),Int.natCast_mul] at this
 exact this
theorem get_any (l:List UInt8) (ao:Option Addr) (len cap:Nat) (w:World) (hl:Hid (l.length=len)) (hs:SlL w ao l) (h4:len<=4) :
 Calls Tryz.prog 161 #[.slice ao len cap] w fun e w'=>e = .returned (.int .u32 (D.gv l:Int))/\w'=w:=by
 have HS:=hide hs
 clear hs
 go_enter Tryz.func161,Tryz.ntmps161
 go_wp2
 go_loopw [4,3] (fun i v wr => ∃ j:Nat,i = .int .i64 (j:Int)/\j<=len/\v = .int .u32 (D.gv (l.take j):Int)/\wr=w) (fun i _ _=>len - (intOf i).toNat)
 case atStart=>exact⟨0,rfl,by omega,rfl,rfl⟩
 case round =>
  obtain⟨j,rfl,hj,rfl,rfl⟩:=hrel
  by_cases hlt:j<len
  ·obtain⟨b1,o1,rfl,hb1,hc1⟩:=HS.out (by have:=hl.out;omega)
   have hx:=hc1 j (by have:=hl.out;omega)
   have hn:=D.gv_next l j (by have:=hl.out;omega)
   have hg:=D.gv_take_lt l j (by have:=hl.out;omega) (by have:=hl.out;omega)
   have hy:=(l.getD j 0).toNat_lt
   clear hc1
   generalize (l.getD j 0).toNat=y at hx hn hy
   generalize D.gv (l.take j)=x at hn hg
   have HN:=hide hn
   have hor:=or_8 x y hg hy
   clear hn
   have hjl:(j:Int)<(len:Int):=by omega
   go_wp2
   go_roundw
   case rel=>exact⟨j+1,by go_num,by omega,by rw[HN.out];simp,trivial⟩
   case measure=>simp[intOf];omega
  ·obtain rfl:j=len:=by omega
   have ht:l.take j=l:=by rw[<- hl.out];exact List.take_length
   rw[ht]
   go_wp2
   go_ret
   exact⟨rfl,rfl⟩
namespace D
def put (n k i:Nat):List UInt8:=(List.range (k - i)).map (fun j=>UInt8.ofNat (n / 2 ^ (8*(k - 1 - j))))
theorem put_next (n k i:Nat) (h:i<k):put n k i=put n k (i+1) ++ [UInt8.ofNat (n / 2 ^ (8*i))]:=by
 unfold put
 rw[show k - i=(k - (i+1))+1 by omega,List.range_succ,List.map_append,List.map_cons,List.map_nil]
 congr 3
 rw[show k - 1 - (k - (i+1))=i by omega]
theorem put_all (n k:Nat):put n k k = []:=by unfold put;rw[Nat.sub_self];rfl
theorem put_2 (n:Nat):put n 2 0=p16 n:=by
 simp[put,p16,List.range_succ]
theorem put_4 (n:Nat):put n 4 0=p32 n:=by
 have e1:UInt8.ofNat (n / 256)=UInt8.ofNat (n % 65536 / 256):=by apply UInt8.toNat_inj.1;rw[UInt8.toNat_ofNat',UInt8.toNat_ofNat'];omega
 have e2:UInt8.ofNat n=UInt8.ofNat (n % 65536):=by apply UInt8.toNat_inj.1;rw[UInt8.toNat_ofNat',UInt8.toNat_ofNat'];omega
 show [UInt8.ofNat (n / 16777216),UInt8.ofNat (n / 65536),UInt8.ofNat (n / 256),UInt8.ofNat (n / 1)] = [UInt8.ofNat (n / 65536 / 256),UInt8.ofNat (n / 65536),UInt8.ofNat (n % 65536 / 256),UInt8.ofNat (n % 65536)]
 rw[<- e1, <- e2,Nat.div_one,Nat.div_div_eq_div_mul]
end D
set_option maxHeartbeats 400000 in
theorem put_any (n k:Nat) (hk:k<=4) (base:Nat) (v:Value) (l:List UInt8) (w:World) (hO:OwnB w base v l) (hb:base<=w.heap.size) (hl:l.length<=900000) :
 Calls Tryz.prog 144 #[v,.int .u32 (n:Int),.int .i64 (k:Int)] w fun e w' => ∃ v',e = .returned v'/\OwnB w' base v' (l++D.put n k 0)/\Kp base w w':=by
 have HO:=hide hO
 clear hO
 go_enter Tryz.func144,Tryz.ntmps144
 go_wp2
 go_loopw [7,0] (fun i v wr => ∃ j:Nat,i = .int .i64 ((j:Int) - 1)/\j<=k/\OwnB wr base v (l++D.put n k j)/\Kp base w wr) (fun i _ _=>(intOf i+1).toNat)
 case atStart=>exact⟨k,rfl,by omega,(by rw[D.put_all,List.append_nil];exact HO.out),Kp.refl _ _⟩
 case round =>
  obtain⟨j,rfl,hj,hO,hK⟩:=hrel
  have HOO:=hide hO
  have hz:=hK.size hb
  have HKK:=hide hK
  clear hO hK
  by_cases h0:j=0
  ·subst h0
   go_wp2
   go_ret
   exact⟨_,rfl,HOO.out,HKK.out⟩
  ·obtain⟨i,rfl⟩ : ∃ i,j=i+1:=⟨j - 1,by omega⟩
   have hge:(0:Int)<=((i+1:Nat):Int) - 1:=by omega
   have hi:(((i+1:Nat):Int) - 1)=(i:Int):=by omega
   rw[hi]
   have h1:Hid ((n:Int) / 2 ^ (8*i) % 256=((UInt8.ofNat (n / 2 ^ (8*i))).toNat:Int)):=by
    show _=_
    rw[UInt8.toNat_ofNat']
    push_cast
    rfl
   have hpl:(D.put n k (i+1)).length<=4:=by simp[D.put];omega
   have HN:=hide (D.put_next n k i (by omega))
   go_wp2_with (at_builtin;refine wpList_append_B rfl (.tmp 14) (.tmp 20) rfl base _ (l++D.put n k (i+1)) rfl (by exact HOO.out.alloc _) _ _ _ [UInt8.ofNat (n / 2 ^ (8*i))] rfl rfl (by exact SlL.oneI _ _ _ _ h1.out) (by intro h;cases h) (by simp only[List.length_append];omega) (by simp;omega) ?_;intro v4 w4 hO4 hG4;have hK4:=Kp.app HOO.out hG4 hz;clear hG4)
   go_roundw
   case rel=>exact⟨i,rfl,by omega,(by rw[HN.out, <- List.append_assoc];exact hO4),HKK.out.trans hK4⟩
   case measure=>simp[intOf]
def wholeB (b:List UInt8):Bool:=(D.nm b).any fun p=>decide (p.2 = [])
theorem whole_any (b:List UInt8) (ao:Option Addr) (len cap:Nat) (w:World) (hl:Hid (b.length=len)) (hs:SlL w ao b) (hm:len<=1000000000) (hcap:len<=cap) :
 Calls Tryz.prog 121 #[.slice ao len cap] w fun e w'=>e = .returned (.bool (wholeB b))/\Below w.heap.size w w':=by
 have HS:=hide hs
 clear hs
 go_enter Tryz.func121,Tryz.ntmps121
 go_wp2_with fail
 refine (rOpen_any b ao len cap _ hl (by exact HS.out) hm hcap).mono ?_
 rintro e w1 ⟨⟨n,v,hn,hz,rfl,hO⟩ | ⟨hn,rfl⟩ | ⟨n,hn,hz,rfl⟩,hb1⟩
 ·obtain⟨_,_,hsz⟩:=N.opn_small b n hn
  have hR:D.nm b=some (n,b.drop (N.size n)):=by unfold D.nm;rw[hn,Option.bind_some,if_pos hz]
  have hlen:=hl.out
  by_cases he:N.size n=len
  ·have hW:wholeB b=true:=by unfold wholeB;rw[hR,List.drop_eq_nil_of_le (by omega)];rfl
   have he2:((N.size n:Int) == (len:Int))=true:=by rw[he];simp
   have HW:=hide hW
   clear hR hn hW he hlen
   go_wp2
   go_ret
   exact⟨by rw[HW.out];rfl,hb1⟩
  ·have hW:wholeB b=false:=by
    have:b.drop (N.size n) ≠ []:=fun e=>by
     have:=congrArg List.length e
     rw[List.length_drop] at this
     simp at this;omega
    unfold wholeB;rw[hR]
    simp only[Option.any_some]
    exact decide_eq_false this
   have he2:((N.size n:Int) == (len:Int))=false:=beq_eq_false_iff_ne.2 (by omega)
   have HW:=hide hW
   clear hR hn hW he hlen
   go_wp2
   go_ret
   exact⟨by rw[HW.out];rfl,hb1⟩
 ·have hW:wholeB b=false:=by unfold wholeB D.nm;rw[hn];rfl
  have HW:=hide hW
  clear hn hW
  go_wp2
  go_ret
  exact⟨by rw[HW.out];rfl,hb1⟩
 ·have hW:wholeB b=false:=by unfold wholeB D.nm;rw[hn,Option.bind_some,if_neg (by omega)];rfl
  have HW:=hide hW
  clear hn hW
  go_wp2
  go_ret
  exact⟨by rw[HW.out];rfl,hb1⟩
def wof {w:World} {g t:Nat} {c:Array Value} (_:RowAt w g t c):World:=w
end Go.Proofs.YtbkegikdmmnkaaaGreat
