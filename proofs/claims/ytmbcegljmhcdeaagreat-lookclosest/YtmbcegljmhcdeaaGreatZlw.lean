/- One record put, put again, dropped, plain; the seat's records. -/
import Derived.Test.YtmbcegljmhcdeaaGreatSrh
import Derived.RangeFuncBox
import Derived.Deep.Cut
import Derived.Test.YtmbcegljmhcdeaaGreatSh
import Derived.Laws.ResultCell
import Derived.Deep.RegionWith
import Derived.Test.YtmbcegljmhcdeaaGreatRefG
import Derived.Deep.RegionHeld3
import Derived.Test.YtmbcegljmhcdeaaGreatSg
import Derived.Test.YtmbcegljmhcdeaaGreatDat
import Derived.Test.YtmbcegljmhcdeaaGreatNmA
namespace Go.Proofs.YtmbcegljmhcdeaaGreat
set_option maxRecDepth 5000
open Go.RowKit Go.Maps Go.Sort Go.Shelf
attribute [local go_sem] Oper.semAt_some
def KeysOf (D0:DataW Value) (ss:List UInt16):Prop:=ss.Nodup /\ ∀ x:UInt16,x∈ss↔has D0 (.int .u16 (x.toNat:Int))=true
theorem keysH_stops (Bm b nn:Nat) (D0:DataW Value) (w:World) (hBm:Bm<w.heap.size) (hm:w.cell? ⟨Bm,0,none⟩=some (.map (some b))) (hown:w.ownsMap Tryz.prog 36 HR b nn D0) :
 SeqStopsK Fence.wide 3 Tryz.prog 104 #[.pointer (some ⟨Bm,0,none⟩)] (fun x:UInt16 => #[encH x]) KeepsWalks (KeysOf D0) (fun _=>True) (Maps.size D0) w:=by
 intro l J Jx W hW hJ _ hY h0
 refine (keysH1_in l Bm b nn D0 J Jx W hJ hY ((hW.cell (p:=⟨Bm,0,none⟩) hBm).trans hm) ?_ h0).mono fun e W' h=>h
 have hbl:=hown.lt
 obtain⟨es,clock,hb,Ft,hs,hD⟩:=hown
 exact⟨es,clock,(hW.block b hbl).trans hb,Ft,hs,hD⟩
set_option maxRecDepth 100000 in
set_option maxHeartbeats 2000000 in
theorem appendSeqH_any (w:World) (Bm b nn:Nat) (D0:DataW Value) (hBm:Bm<w.heap.size) (hm:w.cell? ⟨Bm,0,none⟩=some (.map (some b))) (hown:w.ownsMap Tryz.prog 36 HR b nn D0) (hN:Maps.size D0<=1000000) :
 Calls Tryz.prog 132 #[.slice none 0 0,.func (.func 104) #[] #[.pointer (some ⟨Bm,0,none⟩)]] w fun e w' => ∃ v,e = .returned v /\ ∃ ss,KeysOf D0 ss/\OwnH w' w.heap.size v ss/\Below w.heap.size w w':=by
 obtain⟨i0,hi,hz0,hz1,hz2⟩:=info_parts infoH
 have HO:=hide hown
 have HM:=hide hm
 clear hown hm
 refine (callsIn_wide (n:=4)).1 ?_
 refine callsIn_of_wp_marks Tryz.func132 rfl trivial ?_ rfl
 simp only[Tryz.ntmps132,List.size_toArray,List.length_cons,List.length_nil,Nat.reduceAdd,Nat.reduceSub,Array.replicate_succ,Array.replicate_zero,List.push_toArray,List.append_toArray,List.nil_append,List.cons_append]
 gi_wp2
 have bO:=Boxed.new w 51 (.slice none 0 0)
 have hB0:Below w.heap.size w (w.alloc (.cells #[.slice none 0 0] 51)):=(Below.refl _ w).alloc (Nat.le_refl _) _
 have hown1:(w.alloc (.cells #[.slice none 0 0] 51)).ownsMap Tryz.prog 36 HR b nn D0:=by
  obtain⟨es,clock,hb,Ft,hs,hD⟩:=HO.out
  exact⟨es,clock,(Below.heap_alloc _ _ b (Array.getElem?_eq_some_iff.1 hb).1).trans hb,Ft,hs,hD⟩
 refine wpIn_rangeFunc_ownG (α := UInt16) rfl (by omega) (gf:=104) (lb := #[.pointer (some ⟨Bm,0,none⟩)]) rfl trivial (enters_of Tryz.func104 (by kernel_rfl) rfl)
  (keysH_stops Bm b nn D0 _ (by simp;omega) ((hB0.cell (p:=⟨Bm,0,none⟩) hBm).trans HM.out) hown1) KeepsWalks.trans (fun W l o oo _ hl _ hw=>KeepsWalks.putObj _ hl hw) (Below.refl _ _) (fun _=>rfl)
  (fun pre W=>(∃ v,Boxed W w.heap.size 51 v/\W.ownsRow w.heap.size 36 1 v pre.length (vh pre)/\True)/\Below w.heap.size w W)
  (fun _ _ _=>False)
  (OwnFrom.and (Own.from (holdsRow_own w.heap.size w.heap.size 51 36 1 (fun pre:List UInt16=>pre.length) (fun pre=>vh pre) (fun _ _=>True)) _) (ownFrom_below (Nat.le_refl _) (by simp)))
  (fun _ _ _ _ _ hs _ _=>hs)
  ⟨⟨_,bO,World.ownsRow_nil _ _ _ _,trivial⟩,hB0⟩
  (fun x => { tmps := #[.slice none 0 0,.func (.func 104) #[] #[.pointer (some ⟨Bm,0,none⟩)],.pointer (some ⟨w.heap.size,0,none⟩),undef,.slice none 0 0,.int .u16 (x.toNat:Int),.func (.func 104) #[] #[.pointer (some ⟨Bm,0,none⟩)],.int .u16 (x.toNat:Int),undef,undef,undef,undef,undef],defers := [] }) ?assign ?body ?done ?stop
 case assign =>
  intro l x W K hK
  unfold encH
  gi_wp2
  exact hK
 case body =>
  rintro l pre x W ⟨⟨v,hv,hrow,_⟩,hB⟩ hlt
  have hc:=hv.cell
  gi_wp2_with (gi_at_builtin;refine wpListIn_append_own _ rfl _ _ 51 rfl w.heap.size 36 i0 (.int .u16 0) 1 2 Tryz.underlying51 hi hz0 hz1 hz2 rfl (by decide) _ _ _ rfl (hrow.alloc _) ⟨W.heap.size,0,none⟩ 1 1 [.int .u16 (x.toNat:Int)] rfl rfl (cell_one_new _ _ _) (by simp[Value.oneCell']) (by unfold maxLen;omega) (by omega) (by have:=hB.size;simp;omega) ?_;intro v' w1 hown' hgrow _;have hgr:(W.alloc (.cells #[.int .u16 (x.toNat:Int)] 36)).grownBy w1 v.ownBlock:=hgrow;obtain⟨g',cap',rfl⟩:=ownsRow_succ hown';obtain⟨hv1,hv2,hr2,hk2,hb2⟩:=hv.appended (by decide) hrow hB.size (Nat.le_refl _) hown' hgrow;have hc1:=hv1.cell;have hf1:=hv1.frozen)
  have e1:vh (pre ++ [x])=vh pre ++ [.int .u16 (x.toNat:Int)]:=by simp[vh]
  refine⟨hk2.from _,?_,⟨_,hv2,by rw[e1,List.length_append];exact hr2,trivial⟩,hB.trans hb2⟩
  refine ((KeepsWalks.alloc W _).trans (KeepsWalks.of_grownBy hgr fun j o ej hj=>?_)).trans (KeepsWalks.setCell _ _ _)
  rcases (hrow.alloc (.cells #[.int .u16 (x.toNat:Int)] 36)).2 with⟨e2,_⟩ | ⟨g2,cap2,cur2,e2,_,hgb,_⟩
  ·rw[e2] at ej;simp[Value.ownBlock] at ej
  ·rw[e2] at ej
   obtain rfl:g2=j:=by simpa [Value.ownBlock] using ej
   rw[hgb] at hj;cases hj;rfl
 case done =>
  rintro D ys W hD hS ⟨⟨v,hv,hrow,_⟩,hB⟩ hK
  have hc:=hv.cell
  have HR0:=hide hrow
  have HS:=hide hS
  have HB:=hide hB
  clear hrow hS hB
  gi_wp2
  refine⟨by simp,.inl ⟨_,_,rfl,run_takeDeferred hK,?_⟩⟩
  exact⟨_,results_tmp rfl _ _ _,v,rfl,ys,HS.out,ownsRow_putObj HR0.out _ hK rfl,HB.out.trans ⟨rfl,rfl,rfl,by simp,fun i hi=>World.putObj_heap_other (by simp at hD;omega)⟩⟩
 case stop =>
  rintro D c pre W _ _ h _
  exact h.elim
theorem collectH_any (w:World) (Bm b nn:Nat) (D0:DataW Value) (hBm:Bm<w.heap.size) (hm:w.cell? ⟨Bm,0,none⟩=some (.map (some b))) (hown:w.ownsMap Tryz.prog 36 HR b nn D0) (hN:Maps.size D0<=1000000) :
 Calls Tryz.prog 102 #[.func (.func 104) #[] #[.pointer (some ⟨Bm,0,none⟩)]] w fun e w' => ∃ v,e = .returned v /\ ∃ ss,KeysOf D0 ss/\OwnH w' w.heap.size v ss/\Below w.heap.size w w':=by
 have h:=appendSeqH_any w Bm b nn D0 hBm hm hown hN
 clear hown hm
 go_enter Tryz.func102,Tryz.ntmps102
 go_wp2_with (go_at_call 132;refine h.mono ?_;rintro e w1 ⟨v,rfl,hv⟩)
 go_ret
 exact⟨v,rfl,hv⟩
open Q Go.Lib in
theorem rise_of {ss:List UInt16} (hn:ss.Nodup) {d:Array UInt16} (hp:PermIn 0 ss.length ss.toArray d) (hs:SortedIn lt 0 ss.length d) (hd:d.size=ss.length):d.toList.Pairwise (fun a b=>a.toNat<b.toNat) /\ ∀ x,x∈d.toList↔x∈ss:=by
 have hperm:d.toList.Perm ss:=by
  have h3:=hp.2.2
  have e1:d.extract 0 ss.length=d:=by rw[<- hd];exact Array.extract_size
  have e2:ss.toArray.extract 0 ss.length=ss.toArray:=by
   have:ss.length=ss.toArray.size:=by simp
   rw[this];exact Array.extract_size
  rw[e1,e2] at h3
  simpa using h3
 refine⟨?_,fun x=>hperm.mem_iff⟩
 have hnd:d.toList.Nodup:=hperm.nodup_iff.2 hn
 rw[List.pairwise_iff_getElem]
 intro i j hi hj hij
 have hi':i<d.size:=by simpa using hi
 have hj':j<d.size:=by simpa using hj
 have h1:=hs i j (Nat.zero_le _) hij (by omega)
 simp only[lt,decide_eq_false_iff_not] at h1
 rw[getElem!_pos d i hi',getElem!_pos d j hj'] at h1
 have h2:d.toList[i]≠d.toList[j]:=List.pairwise_iff_getElem.1 hnd i j hi hj hij
 have h3:d.toList[i].toNat≠d.toList[j].toNat:=fun e=>h2 (UInt16.toNat_inj.1 e)
 simp only[Array.getElem_toList] at h3 ⊢
 omega
open Q Go.Lib in
theorem sortedH_any (w:World) (b K:Nat) (f:Nat->Option Value) (h:MapU w b f K) (hK:K<=1000000) :
 Calls Tryz.prog 66 #[.func (.func 104) #[] #[.pointer (some ⟨w.heap.size,0,none⟩)]] (w.alloc (.cells #[.map (some b)] 104)) fun e w' => ∃ v,e = .returned v /\ ∃ ss:List UInt16,
  (ss.Pairwise (fun a b=>a.toNat<b.toNat) /\ ∀ x:UInt16,x∈ss↔(f x.toNat).isSome)/\OwnH w' (w.heap.size+1) v ss/\Below (w.heap.size+1) (w.alloc (.cells #[.map (some b)] 104)) w':=by
 have HMP:=hide h
 obtain⟨D,hown,hv⟩:=h
 have hsz:=hown.size_le
 have hbl:=hown.lt
 have hown1:(w.alloc (.cells #[.map (some b)] 104)).ownsMap Tryz.prog 36 HR b K D:=by
  obtain⟨es,clock,hb,Ft,hs,hD⟩:=hown
  exact⟨es,clock,(Below.heap_alloc _ _ b hbl).trans hb,Ft,hs,hD⟩
 have hkf : ∀ x:UInt16,has D (.int .u16 (x.toNat:Int))=(f x.toNat).isSome:=fun x=>by
  rw[hv.has,fU_at _ _ x.toNat_lt]
 have hco:=collectH_any (w.alloc (.cells #[.map (some b)] 104)) w.heap.size b K D (by simp) (by simp) hown1 (by omega)
 have hsA:(w.alloc (.cells #[.map (some b)] 104)).heap.size=w.heap.size+1:=by simp
 generalize w.alloc (.cells #[.map (some b)] 104)=wA at hco hsA ⊢
 rw[hsA] at hco
 have HSA:=hide hsA
 clear hown1 hown hv hsA
 go_enter Tryz.func66,Tryz.ntmps66
 go_wp2_with (go_at_call 102;refine hco.mono ?_;rintro e w1 ⟨v,rfl,ss,hK1,hO1,hB1⟩)
 have hlen:ss.length<=K:=by
  have:=MapAt.le HMP.out keyedH (ss.map fun x=>Lit.int .u16 (x.toNat:Int)) (List.pairwise_map.2 (hK1.1.imp fun {a b} hne e=>hne (UInt16.toNat_inj.1 (by injection e with _ e;omega)))) (fun k=>by
   rw[List.mem_map]
   constructor
   ·rintro⟨x,hx,rfl⟩
    rw[fU_at _ _ x.toNat_lt, <- hkf x];exact (hK1.2 x).1 hx
   ·intro hk
    obtain⟨t,ht,rfl⟩:=fU_some hk
    rw[fU_at _ t ht] at hk
    have e:(UInt16.ofNat t).toNat=t:=UInt16.toNat_ofNat_of_lt' ht
    refine⟨UInt16.ofNat t,(hK1.2 _).2 ?_,by rw[e]⟩
    rw[hkf,e];exact hk)
  rwa [List.length_map] at this
 obtain⟨a1,c1,rfl,hS1,hn1,hc1,hm1⟩:=hO1.open
 by_cases h0:ss.length=0
 ·obtain rfl:ss = []:=List.eq_nil_of_length_eq_zero h0
  refine (sort_none a1 c1 _).mono ?_
  rintro e w2 ⟨rfl,rfl⟩
  go_wp2
  go_ret
  exact⟨_,rfl, [],⟨List.Pairwise.nil,fun x=>by rw[hK1.2 x,hkf x]⟩,hO1,hB1⟩
 ·obtain⟨g,cap1,e1,hbg,_,_,hglt,_⟩:=hO1.form (by omega)
  cases e1
  obtain⟨hH,hg,_,hlc,hcm⟩:=own_holds hO1
  have hz1:=hB1.size
  refine (sort_any w1 g 0 ss.length c1 ss.toArray (by simp) (by omega) hg hH).mono ?_
  rintro e w2 ⟨rfl,d',hp,hsrt,hSt⟩
  have hd:d'.size=ss.length:=hSt.size
  obtain⟨n2,os2,hw2⟩:=hSt.sw
  obtain⟨hr1,hr2⟩:=rise_of hK1.1 hp hsrt hd
  have hO2:OwnH w2 (w.heap.size+1) (.slice (some ⟨g,0,none⟩) ss.length c1) d'.toList:=by
   have:=own_put (n:=n2) (os:=os2) hO1 d' hd d'.size (Nat.le_refl _)
   rw[hd,show d'.toList.take ss.length=d'.toList from List.take_of_length_le (by simp;omega)] at this
   rw[hw2];exact this
  have hB2:Below (w.heap.size+1) wA w2:=by
   rw[hw2];exact hB1.trans (below_put os2 d' hbg (by have:=HSA.out;omega))
  have HO2:=hide hO2
  have HB2:=hide hB2
  have HR1:=hide hr1
  have HR2:=hide hr2
  have HK1:=hide hK1
  clear hO2 hB2 hr1 hr2 hp hsrt hSt hw2 hO1 hB1 hS1 hH hK1 hd
  go_wp2
  go_ret
  exact⟨_,rfl,d'.toList,⟨HR1.out,fun x=>by rw[HR2.out x,HK1.out.2 x,hkf x]⟩,HO2.out,HB2.out⟩
open Go.RowKit
theorem ZAt.types_eq {w:World} {Zb:Nat} {A:List (List UInt8)} {L:List Z.R} {ρ : Nat->Role} {G:List (List UInt8)->Option Nd} {C:List (List UInt8)->Nat->Option Z.St} {K:Nat} (Zx:ZAt w Zb A L ρ G C K) (p:List (List UInt8)) (ts:List UInt16) (h1:ts.Pairwise (fun a b=>a.toNat<b.toNat)) (h2 : ∀ x:UInt16,x∈ts↔(C p x.toNat).isSome):ts.map (·.toNat)=Z.typesAt L p:=by
 obtain⟨h3,h4⟩:=Z.types_rise Zx.rise p
 refine Z.ext_rise (r:=(· < ·)) (fun a=>Nat.lt_irrefl a) (fun a b h h2=>Nat.lt_asymm h h2) (List.pairwise_map.2 h1) h3 fun t=>?_
 rw[h4 t, <- Zx.of.isSome p t,List.mem_map]
 constructor
 ·rintro⟨x,hx,rfl⟩;exact (h2 x).1 hx
 ·intro hs
  obtain⟨S,hS⟩:=Option.isSome_iff_exists.1 hs
  have e:(UInt16.ofNat t).toNat=t:=UInt16.toNat_ofNat_of_lt' (Zx.tree.cov p t S hS).2
  exact⟨UInt16.ofNat t,(h2 _).2 (by rw[e];exact hs),e⟩
theorem ztypes_any (w:World) (Zb:Nat) (A:List (List UInt8)) (L:List Z.R) (ρ : Nat->Role) (G:List (List UInt8)->Option Nd) (C:List (List UInt8)->Nat->Option Z.St) (K:Nat) (Zx:ZAt w Zb A L ρ G C K) (hK:K<=1000000) (n:List (List UInt8)) (ao:Option Addr) (len cap:Nat) (hl:Hid (n.length=len)) (hs:SlS w ao n) (hm:Hid (N.Small n)) :
 Calls Tryz.prog 33 #[.pointer (some ⟨Zb,0,none⟩),.slice ao len cap] w fun e w' => ∃ v,e = .returned v /\ ∃ ts:List UInt16,ts.map (·.toNat)=Z.typesAt L (path n)/\OwnH w' w.heap.size v ts/\Below w.heap.size w w':=by
 have hf:=Zx.find n ao len cap hl hs hm
 have HZ:=hide Zx
 clear hs Zx
 go_enter Tryz.func33,Tryz.ntmps33
 go_wp2_with (first
  | (go_at_call 59;refine hf.mono ?_;rintro e w1 ⟨x,rfl,hF⟩;have x0:w1.cell? ⟨x.n,0,none⟩=some (.map (some x.s)):=hF.node.row.cell 0)
  | (go_at_call 67;refine (keysH_any (some x.s) w1).mono ?_;rintro e wq ⟨rfl,hwq⟩;rw[hwq];clear hwq wq)
  | (go_at_call 66;refine (sortedH_any w1 x.s K _ hF.node.sets hK).mono ?_;rintro e w3 ⟨v,rfl,ss,⟨hs1,hs2⟩,hO,hB⟩))
 go_ret
 have hb1:=hF.bel
 refine⟨v,rfl,ss,HZ.out.types_eq (path n) ss hs1 (fun y=>by rw[hs2 y];simp),?_,?_⟩
 ·refine⟨hO.1,?_⟩
  rcases hO.2 with h1 | ⟨g,cap,cur,e,h1,h2⟩
  ·exact Or.inl h1
  ·exact Or.inr ⟨g,cap,cur,e,by have:=hb1.size;omega,h2⟩
 ·exact hb1.trans (((Below.refl _ w1).alloc (Nat.le_refl _) _ |>.mono hb1.size).trans (hB.mono (by have:=hb1.size;omega)))
open Go.RowKit
open Go.RowKit
open Go.RowKit
open Go.RowKit
open Go.RowKit
theorem setAt_datas {L:List Z.R} {C:List (List UInt8)->Nat->Option Z.St} (h:Z.Of L C) {p:List (List UInt8)} {t:Nat} {S:Z.St} (hS:C p t=some S):datas S.g ((Z.setAt L p t).map (·.c))=(Z.setAt L p t).map (·.d):=by
 unfold datas
 rw[List.map_map]
 refine List.map_congr_left fun x hx=>?_
 obtain⟨h1,rfl,rfl⟩:=Z.mem_setAt.1 hx
 show (S.g x.c).getD []=x.d
 rw[(h.at_ x h1 S hS).2];rfl
theorem infoAS:(Tryz.prog.info? 54).map (·.size)=some 4:=by kernel_rfl
theorem results_as {fn:Func} {p u:Tmp} (h:fn.results = #[.cell p 54,.tmp u]) (tmps:Array Value) (w:World) (g:Nat) (cs:Array Value) (hs:cs.size=4) (hp:tmps.getD p undef = .pointer (some ⟨g,0,none⟩)) (hg:RowAt w g 54 cs) :
 (results fn tmps).run Tryz.prog w = .ok (.tuple #[.agg cs,tmps.getD u undef]) w:=by
 rw[results_cell_tmp h,hp]
 have hl:=run_loadVar_row (P:=Tryz.prog) w g 54 54 cs (0,0) _ hg Tryz.underlying54 rfl (by rw[hs];exact infoAS)
 simp[asAddr,hl,Result.andThen]
def asetZ:Value := .agg #[.slice none 0 0,.int .u16 0,.int .u32 0,.slice none 0 0]
def SetPost (w:World) (L:List Z.R) (C:List (List UInt8)->Nat->Option Z.St) (n:List (List UInt8)) (nl t:Nat) (e:Ending) (w':World):Prop :=
 Below w.heap.size w w'/\((C (path n) t=none/\e = .returned (.tuple #[asetZ,.bool false])) \/
  ∃ (S:Z.St) (na:Option Addr) (nc:Nat) (v:Value),C (path n) t=some S/\e = .returned (.tuple #[.agg #[.slice na nl nc,.int .u16 (t:Int),.int .u32 (S.ttl:Int),v],.bool true])/\TyS w' na (N.lowN n)/\nl<=nc/\OwnL 37 1 EB w' w.heap.size v ((Z.setAt L (path n) t).map (·.d)))
theorem KB.setCell {w:World} {g:Nat} {et:TypeId} {c:Array Value} (h:RowAt w g et c) (he:et≠5/\et≠9) (j:Nat) (v:Value):KB w (w.setCell ⟨g,j,none⟩ v):=⟨by simp,fun b cs t fr hb ht=>by
 have hne:b≠g:=fun e=>by
  have h:w.heap[g]?=_:=h
  rw[e,h] at hb;injection hb with hb;injection hb with _ hb _
  rcases ht with rfl | rfl
  ·exact he.1 hb
  ·exact he.2 hb
 rw[heap_setCell_other _ _ _ _ hne];exact hb⟩
structure SOld (W:World) (g b:Nat) (T:Int) (m:Nat):Prop where
 row:RowAt W g 54 #[.slice none 0 0,.int .u16 0,.int .u32 0,.slice none 0 0]
 box:RowAt W b 102 #[.int .u32 T,.map (some m)]
theorem SOld.cells {W:World} {g b:Nat} {T:Int} {m:Nat} (h:SOld W g b T m):W.cell? ⟨b,0,none⟩=some (.int .u32 T)/\W.cell? ⟨b,1,none⟩=some (.map (some m))/\W.cell? ⟨g,0,none⟩=some (.slice none 0 0)/\W.cell? ⟨g,1,none⟩=some (.int .u16 0)/\W.cell? ⟨g,2,none⟩=some (.int .u32 0)/\W.cell? ⟨g,3,none⟩=some (.slice none 0 0) /\
 W.frozen? ⟨g,0,none⟩=false/\W.frozen? ⟨g,1,none⟩=false/\W.frozen? ⟨g,2,none⟩=false/\W.frozen? ⟨g,3,none⟩=false :=
 ⟨h.box.cell 0,h.box.cell 1,h.row.cell 0,h.row.cell 1,h.row.cell 2,h.row.cell 3,h.row.frozen 0,h.row.frozen 1,h.row.frozen 2,h.row.frozen 3⟩
theorem SOld.below {W W':World} {B g b:Nat} {T:Int} {m:Nat} (h:SOld W g b T m) (hb:Below B W W') (h1:g<B) (h2:b<B):SOld W' g b T m:=⟨h.row.below hb h1,h.box.below hb h2⟩
structure SNew (w:World) (g len t:Nat) (T:Int) (n:List (List UInt8)) (ds:List (List UInt8)) (wc:World) (na:Option Addr) (nc:Nat) (v:Value):Prop where
 row:RowAt wc g 54 #[.slice na len nc,.int .u16 (t:Int),.int .u32 T,v]
 ty:TyS wc na (N.lowN n)
 le:len<=nc
 own:OwnL 37 1 EB wc w.heap.size v ds
 bel:Below w.heap.size w wc
theorem SNew.mk' {w wz:World} {g b len t:Nat} {T:Int} {m:Nat} {n ds:List (List UInt8)} {na:Option Addr} {nc base:Nat} {v:Value} (h:SOld wz g b T m) (hg:w.heap.size<=g) (hgb:g<base) (ty:TyS wz na (N.lowN n)) (le:len<=nc) (own:OwnL 37 1 EB wz base v ds) (bel:Below w.heap.size w wz) :
 SNew w g len t T n ds ((((wz.setCell ⟨g,0,none⟩ (.slice na len nc)).setCell ⟨g,1,none⟩ (.int .u16 (t:Int))).setCell ⟨g,2,none⟩ (.int .u32 T)).setCell ⟨g,3,none⟩ v) na nc v:=by
 have r1:=h.row.set 0 (.slice na len nc)
 have r2:=r1.set 1 (.int .u16 (t:Int))
 have r3:=r2.set 2 (.int .u32 T)
 have k:=(((KB.setCell h.row (by decide) 0 (.slice na len nc)).trans (KB.setCell r1 (by decide) 1 (.int .u16 (t:Int)))).trans (KB.setCell r2 (by decide) 2 (.int .u32 T))).trans (KB.setCell r3 (by decide) 3 v)
 refine⟨r3.set 3 v,ty.kb k,le,(own.kept (fun _ _ h=>h.kb k) fun q _ _ hq _=>?_).low (by omega),(((bel.setCell (p:=⟨g,0,none⟩) hg _).setCell (p:=⟨g,1,none⟩) hg _).setCell (p:=⟨g,2,none⟩) hg _).setCell (p:=⟨g,3,none⟩) hg _⟩
 rw[heap_setCell_other _ _ _ _ (by show q≠g;omega),heap_setCell_other _ _ _ _ (by show q≠g;omega),heap_setCell_other _ _ _ _ (by show q≠g;omega),heap_setCell_other _ _ _ _ (by show q≠g;omega)]
set_option maxRecDepth 100000 in
set_option maxHeartbeats 4000000 in
theorem zset_any (w:World) (Zb:Nat) (A:List (List UInt8)) (L:List Z.R) (ρ : Nat->Role) (G:List (List UInt8)->Option Nd) (C:List (List UInt8)->Nat->Option Z.St) (K:Nat) (Zx:ZAt w Zb A L ρ G C K) (hK:K<=1000000) (n:List (List UInt8)) (ao:Option Addr) (len cap:Nat) (hl:Hid (n.length=len)) (hs:SlS w ao n) (hm:Hid (N.Small n)) (t:Nat) (ht:t<65536) :
 Calls Tryz.prog 24 #[.pointer (some ⟨Zb,0,none⟩),.slice ao len cap,.int .u16 (t:Int)] w fun e w'=>SetPost w L C n len t e w':=by
 obtain⟨w1,hw1⟩ : ∃ w1,w1=w.alloc (.cells #[.slice none 0 0,.int .u16 0,.int .u32 0,.slice none 0 0] 54):=⟨_,rfl⟩
 have hb1:Below w.heap.size w w1:=by rw[hw1];exact (Below.refl _ w).alloc (Nat.le_refl _) _
 have hr1:RowAt w1 w.heap.size 54 #[.slice none 0 0,.int .u16 0,.int .u32 0,.slice none 0 0]:=by rw[hw1];exact RowAt.new w _ _
 have hf:=(Zx.bel hb1).find n ao len cap hl (hs.below hb1 (Nat.le_refl _)) hm
 have hs1:=hs.below hb1 (Nat.le_refl _)
 have HZ:=hide Zx
 have HS1:=hide hs1
 have HB1:=hide hb1
 have HR1:=hide hr1
 have HW1:=hide hw1
 clear hs Zx hw1 hs1 hr1
 go_enter Tryz.func24,Tryz.ntmps24
 cases hC:C (path n) t with
 | none =>
  go_wp2_with (go_at_call 59;rw[<- HW1.out];refine hf.mono ?_;rintro e w2 ⟨x,rfl,hF⟩;have x0:w2.cell? ⟨x.n,0,none⟩=some (.map (some x.s)):=hF.node.row.cell 0;have hlk:=(hF.node.lookup t ht w2 rfl).1;rw[hC] at hlk;simp only[Option.map_none,Option.getD_none,Option.isSome_none] at hlk;have hr2:=HR1.out.below hF.bel HR1.out.lt;have hr3:=RowAt.alloc hr2 (.cells #[.int .u32 0,.map none] 102);have c0:=hr3.cell 0;have c1:=hr3.cell 1;have c2:=hr3.cell 2;have c3:=hr3.cell 3;have f0:=hr3.frozen 0;have f1:=hr3.frozen 1;have f2:=hr3.frozen 2;have f3:=hr3.frozen 3;have d0:=hr2.cell 0;have d1:=hr2.cell 1;have d2:=hr2.cell 2;have d3:=hr2.cell 3;have g0:=hr2.frozen 0;have g1:=hr2.frozen 1;have g2:=hr2.frozen 2;have g3:=hr2.frozen 3)
  have hr4:=(((hr3.set 0 (.slice none 0 0)).set 1 (.int .u16 0)).set 2 (.int .u32 0)).set 3 (.slice none 0 0)
  refine bodyPost_ret (v := .tuple #[asetZ,.bool false]) (results_as Tryz.results24 _ _ w.heap.size _ rfl rfl hr4) rfl ⟨?_,Or.inl ⟨hC,rfl⟩⟩
  have h2:Below w.heap.size w w2:=hb1.trans (hF.bel.mono hb1.size)
  exact ((((h2.alloc h2.size _).setCell (p:=⟨w.heap.size,0,none⟩) (Nat.le_refl _) _).setCell (p:=⟨w.heap.size,1,none⟩) (Nat.le_refl _) _).setCell (p:=⟨w.heap.size,2,none⟩) (Nat.le_refl _) _).setCell (p:=⟨w.heap.size,3,none⟩) (Nat.le_refl _) _
 | some S =>
  go_wp2_with (go_at_call 59;rw[<- HW1.out];refine hf.mono ?_;rintro e w2 ⟨x,rfl,hF⟩;have x0:w2.cell? ⟨x.n,0,none⟩=some (.map (some x.s)):=hF.node.row.cell 0;have hlk:=(hF.node.lookup t ht w2 rfl).1;rw[hC] at hlk;simp only[Option.map_some,Option.getD_some,Option.isSome_some,setV] at hlk)
  obtain⟨m,hmm⟩ : ∃ m,m=x.dm t:=⟨_,rfl⟩
  have hdm:=hF.node.data t S hC
  rw[<- hmm] at hdm ⊢
  obtain⟨w3,hw3⟩ : ∃ w3,w3=w2.alloc (.cells #[.int .u32 (S.ttl:Int),.map (some m)] 102):=⟨_,rfl⟩
  have hb23:Below w2.heap.size w2 w3:=by rw[hw3];exact (Below.refl _ w2).alloc (Nat.le_refl _) _
  have hz12:=hF.bel.size
  have hz01:=hb1.size
  have hb02:Below w.heap.size w w2:=hb1.trans (hF.bel.mono hz01)
  have hb03:Below w.heap.size w w3:=hb02.trans (hb23.mono hb02.size)
  have hg0:w.heap.size<w1.heap.size:=HR1.out.lt
  have hz3:w3.heap.size=w2.heap.size+1:=by rw[hw3];simp
  have hold:SOld w3 w.heap.size w2.heap.size (S.ttl:Int) m:=⟨(HR1.out.below hF.bel hg0).below hb23 (by omega),by rw[hw3];exact RowAt.new w2 _ _⟩
  have hDM:DM w3 (some m) S.g K:=DM.bel (mo:=some m) hdm hb23
  have hL:=HZ.out
  have hks:=Z.setAt_rise hL.rise (path n) t
  have hlow : ∀ W,Below w3.heap.size w3 W->Calls Tryz.prog 48 #[.slice ao len cap] W fun e w' => ∃ v,e = .returned v/\OwnS w' W.heap.size v (N.lowN n)/\Below W.heap.size W w':=fun W hW=>lower_any n ao len cap W hl (((HS1.out.below hF.bel (Nat.le_refl _)).below hb23 (Nat.le_refl _)).below hW (Nat.le_refl _)) hm
  have hlist : ∀ W,Below w3.heap.size w3 W->Calls Tryz.prog 60 #[.agg #[.int .u32 (S.ttl:Int),.map (some m)]] W fun e w' => ∃ v,e = .returned v/\OwnL 37 1 EB w' W.heap.size v ((Z.setAt L (path n) t).map (·.d))/\Below W.heap.size W w':=fun W hW=>by
   have:=list_any W (S.ttl:Int) m S.g K (hDM.bel hW) hK ((Z.setAt L (path n) t).map (·.c)) hks (fun c=>hL.of.mem_c hC c) (by rw[List.length_map];have:=hL.num;have:(Z.setAt L (path n) t).length<=L.length:=List.length_filter_le _ _;omega) (fun c hc=>by
    obtain⟨y,hy,rfl⟩:=List.mem_map.1 hc
    have:=hL.okk y (Z.mem_setAt.1 hy).1
    have h2:=cn_len this.2.2.1
    omega)
   rw[setAt_datas hL.of hC] at this
   exact this
  have HOLD:=hide hold
  have HB03:=hide hb03
  have HW3:=hide hw3
  have HZ3:=hide hz3
  have HG0:=hide (show w.heap.size<w3.heap.size/\w2.heap.size<w3.heap.size by omega)
  obtain⟨b8,hb8⟩ : ∃ b8,b8=w2.heap.size:=⟨_,rfl⟩
  rw[<- hw3]
  rw[<- hb8] at HOLD HG0 ⊢
  obtain⟨k0,k1,k2,k3,k4,k5,k6,k7,k8,k9⟩:=hold.cells
  rw[<- hb8] at k0 k1
  have bD:Below w3.heap.size w3 w3.drew:=below_drewN (Below.refl _ w3) 1
  clear hold hb03 hw3 hz3 hb23 hb02 hDM hL hks hdm hF hf hlk x0 hb8 hz12 hz01 hg0 hmm
  go_cut [7] from 24 (fun s7 wc=>s7 = .bool true /\ ∃ na nc v,SNew w w.heap.size len t (S.ttl:Int) n ((Z.setAt L (path n) t).map (·.d)) wc na nc v)
  case first =>
   go_region_with (first
    | (go_at_call 48;refine (hlow _ (by first | exact bD | exact bI)).mono ?_;rintro e wl ⟨vl,rfl,hOl,hBl⟩;obtain⟨al,cl,rfl,hTl,_,hcl⟩:=hOl.ty;rw[N.lowN_len,hl.out] at hcl ⊢; have bL:Below w3.heap.size w3 wl:=(by first | exact bD.trans hBl | exact bI.trans (hBl.mono bI.size));have oL:=HOLD.out.below bL HG0.out.1 HG0.out.2;obtain⟨l0,l1,l2,l3,l4,l5,l6,l7,l8,l9⟩:=oL.cells)
    | (go_at_call 60;refine (hlist _ (by first | exact bD | exact bL)).mono ?_;rintro e wi ⟨vi,rfl,hOi,hBi⟩;obtain⟨ai,ci,rfl,hni,hci⟩:=hOi.slice;rw[List.length_map] at hOi;have bI:Below w3.heap.size w3 wi:=(by first | exact bD.trans hBi | exact bL.trans (hBi.mono bL.size));have oI:=HOLD.out.below bI HG0.out.1 HG0.out.2;obtain⟨i0,i1,i2,i3,i4,i5,i6,i7,i8,i9⟩:=oI.cells)
    | fail)
   all_goals go_wp2_with fail
   all_goals go_meet
   all_goals first
    | exact⟨rfl,al,cl,_,SNew.mk' (len:=len) (base:=wl.heap.size) (wz:=wi) oI (Nat.le_refl _) (Nat.lt_of_lt_of_le HG0.out.1 bL.size) (hTl.kb (KB.of_below hBi)) hcl hOi (HB03.out.trans (bI.mono HB03.out.size))⟩
    | exact⟨rfl,al,cl,_,SNew.mk' (len:=len) (base:=w3.heap.size) (wz:=wl) oL (Nat.le_refl _) HG0.out.1 hTl hcl (hOi.bel (fun _ _ h=>h.kb (KB.of_below hBl)) hBl) (HB03.out.trans (bL.mono HB03.out.size))⟩
  case rest =>
   obtain⟨rfl,na,nc,v,hN⟩:=hcut
   go_wp2
   refine bodyPost_ret (v := .tuple #[.agg #[.slice na len nc,.int .u16 (t:Int),.int .u32 (S.ttl:Int),v],.bool true]) (results_as Tryz.results24 _ _ w.heap.size _ rfl rfl hN.row) rfl ⟨hN.bel,Or.inr ⟨S,na,nc,v,hC,rfl,hN.ty,hN.le,hN.own⟩⟩
open Go.RowKit
namespace Z
theorem flat_succ {α β : Type} (f : α -> List β) (l:List α) (k:Nat) (hk:k<l.length):(l.take (k+1)).flatMap f=(l.take k).flatMap f++f l[k]:=by
 rw[List.take_succ_eq_append_getElem hk,List.flatMap_append,List.flatMap_cons,List.flatMap_nil,List.append_nil]
end Z
def ER (w:World) (r:Z.R) (us:List Value):Prop := ∃ na nc da dc,us = [.slice na r.p.length nc,.int .u16 (r.t:Int),.int .u16 1,.int .u32 (r.ttl:Int),.slice da r.d.length dc]/\TyS w na r.p.reverse/\r.p.length<=nc/\(na=none->nc=0)/\TyL w da r.d/\(da=none->dc=0)/\r.d.length<=dc
theorem ER.kb {w w':World} {r:Z.R} {us:List Value} (h:ER w r us) (k:KB w w'):ER w' r us:=by
 obtain⟨na,nc,da,dc,h1,h2,h3,h4,h5,h6,h7⟩:=h
 exact⟨na,nc,da,dc,h1,h2.kb k,h3,h4,h5.kb k,h6,h7⟩
structure KX (et0:TypeId) (w w':World):Prop where
 size:w.heap.size<=w'.heap.size
 rows : ∀ (g:Nat) (c:Array Value) (et:TypeId) (fr:Nat × Nat),w.heap[g]?=some (Obj.cells c et fr)->et≠et0->w'.heap[g]?=some (Obj.cells c et fr)
theorem KX.trans {et0:TypeId} {a b c:World} (h:KX et0 a b) (k:KX et0 b c):KX et0 a c:=⟨Nat.le_trans h.size k.size,fun g x et fr hg he=>k.rows g x et fr (h.rows g x et fr hg he) he⟩
theorem KX.grown {w w':World} {base size k:Nat} {e:TypeId} {v:Value} {xs:List Value} (hv:w.ownsRow base e size v k xs) (hg:w.grownBy w' v.ownBlock):KX e w w':=⟨hg.size,fun g c et fr hb het=>by
 refine (hg.block g (Array.getElem?_eq_some_iff.1 hb).1 (not_own hv hb het)).trans hb⟩
theorem KX.kb {et0:TypeId} {w w':World} (h:KX et0 w w') (h1:et0≠5/\et0≠9):KB w w':=⟨h.size,fun g c et fr hg he=>h.rows g c et fr hg (fun e=>by rcases he with rfl | rfl;exact h1.1 e.symm;exact h1.2 e.symm)⟩
theorem KX.row {et0:TypeId} {w w':World} (h:KX et0 w w') {g:Nat} {t:TypeId} {c:Array Value} (hr:RowAt w g t c) (ht:t≠et0):RowAt w' g t c:=h.rows g c t _ hr ht
theorem OwnL.kx {α : Type} {et et0:TypeId} {sz:Nat} {E:World -> α -> List Value->Prop} {w w':World} {base:Nat} {v:Value} {L:List α} (h:OwnL et sz E w base v L) (k:KX et0 w w') (hE : ∀ x us,E w x us->E w' x us) (hne:et≠et0):OwnL et sz E w' base v L :=
 h.kept hE fun g c fr _ hg=>(k.rows g c et fr hg hne).trans hg.symm
theorem infoRc:(Tryz.prog.info? 39).map (fun i=>(i.zero,i.size,i.bytes))=some (some (.agg #[.slice none 0 0,.int .u16 0,.int .u16 0,.int .u32 0,.slice none 0 0]),5,56):=by kernel_rfl
open Go.RowKit
def Z.Thin (L:List Z.R):Prop := ∀ x∈L,∀ l∈x.p,l.length<=63
theorem path_rev {p:List (List UInt8)} (h:Z.Low p):path p.reverse=p:=by
 unfold path
 have e:N.lowN p.reverse=(N.lowN p).reverse:=List.map_reverse
 unfold Z.Low at h
 rw[e,h,List.reverse_reverse]
theorem one_cell (w:World) (g:Nat) (c:Array Value) (t:TypeId) (h:RowAt w g t c) : ∀ j u,c.toList[j]?=some u->w.cell? ((⟨g,0,none⟩:Addr).add j)=some u:=fun j u hu=>by
 rw[Addr.add_mid,Nat.zero_add,h.cell j]
 simpa using hu
open Go.RowKit
namespace Z
theorem chk_len {n:List (List UInt8)} (h:N.chk n=0):n.length<=127:=by
 obtain⟨h1,h2,_⟩:=N.chk_small h
 have : ∀ m:List (List UInt8), [] ∉ m->2*m.length<=(m.map (fun l=>l.length+1)).sum:=fun m=>by
  induction m with
  | nil=>intro _;simp
  | cons a m ih =>
   intro hm
   have h3:=ih (fun h=>hm (by simp[h]))
   have h4:0<a.length:=List.length_pos_iff.2 fun e=>hm (by simp[e])
   rw[List.map_cons,List.sum_cons,List.length_cons];omega
 have:=this n h1
 unfold N.size at h2
 omega
def ttlAt (L:List R) (p:List (List UInt8)) (t:Nat):Nat:=((setAt L p t).head?.map (·.ttl)).getD 0
theorem Of.ttl {L:List R} {C:List (List UInt8)->Nat->Option St} (h:Of L C) (p:List (List UInt8)) (t:Nat):((C p t).map fun S=>S.ttl).getD 0=ttlAt L p t:=by
 unfold ttlAt
 cases hC:C p t with
 | none =>
  have h0:setAt L p t = []:=List.filter_eq_nil_iff.2 fun x hx hk=>by
   have hk:x.p=p/\x.t=t:=by simpa using hk
   exact h.no p t hC x hx hk
  rw[h0];rfl
 | some S =>
  obtain⟨x,hx,e1,e2⟩:=h.ex p t S hC
  cases hs:setAt L p t with
  | nil =>
   have:=mem_setAt.2 ⟨hx,e1,e2⟩
   rw[hs] at this;cases this
  | cons y r =>
   have hy:y∈setAt L p t:=by rw[hs];simp
   obtain⟨hy,e3,e4⟩:=mem_setAt.1 hy
   have:=(h.at_ y hy S (by rw[e3,e4];exact hC)).1
   show S.ttl=y.ttl
   exact this.symm
theorem Of.none_iff {L:List R} {C:List (List UInt8)->Nat->Option St} (h:Of L C) (p:List (List UInt8)) (t:Nat):C p t=none↔setAt L p t = []:=by
 constructor
 ·intro hC
  exact List.filter_eq_nil_iff.2 fun x hx hk=>by
   have hk:x.p=p/\x.t=t:=by simpa using hk
   exact h.no p t hC x hx hk
 ·intro hs
  cases hC:C p t with
  | none=>rfl
  | some S =>
   obtain⟨x,hx,e1,e2⟩:=h.ex p t S hC
   have:=mem_setAt.2 ⟨hx,e1,e2⟩
   rw[hs] at this;cases this
theorem thin_put {L:List R} (h:Thin L) {n:List (List UInt8)} (hg:N.chk n=0) {t ttl:Nat} {c d:List UInt8} : Thin (put L ⟨path n,t,c,ttl,d⟩):=fun x hx l hl=>by
 obtain⟨y,hy,rfl⟩:=mem_put.1 hx
 rw[setT_p] at hl
 rcases hy with hy | ⟨_,rfl⟩
 ·exact h y hy l hl
 ·have hl:l∈path n:=hl
  unfold path at hl
  rw[List.mem_reverse] at hl
  unfold N.lowN at hl
  obtain⟨l0,h0,rfl⟩:=List.mem_map.1 hl
  rw[N.lowL_len]
  exact (N.chk_small hg).2.2 l0 h0
def putR (A:List (List UInt8)) (L:List R) (n:List (List UInt8)) (t cl ttl:Nat) (d:List UInt8):Bool × Nat × List R :=
 if N.chk n≠0\/N.within n A=false then (false,110,L)
 else if cl≠1 then (false,50,L)
 else match cn t d with
 | none=>(false,50,L)
 | some c=>if there L ⟨path n,t,c,ttl,d⟩=true then (if ttlAt L (path n) t=ttl then (false,0,L) else (true,0,put L ⟨path n,t,c,ttl,d⟩))
  else if 2000<=L.length then (false,111,L) else (true,0,put L ⟨path n,t,c,ttl,d⟩)
end Z
def ZLive (X:Nat->Prop) (w:World) (Zb:Nat) (A:List (List UInt8)) (L:List Z.R) (K:Nat):Prop := ∃ ρ G C,ZAt w Zb A L ρ G C K/\(∀ i,X i->i<w.heap.size/\i≠Zb /\ ρ i = .none)/\Z.Thin L
structure ZKp (X:Nat->Prop) (w w':World):Prop where
 os:w'.os=w.os
 tape:w'.tape=w.tape
 output:w'.output=w.output
 size:w.heap.size<=w'.heap.size
 keep : ∀ i,X i->i<w.heap.size->w'.heap[i]?=w.heap[i]?
 rows : ∀ (g:Nat) (c:Array Value) (et:TypeId) (fr:Nat × Nat),w.heap[g]?=some (Obj.cells c et fr)->et≠107->et≠94->w'.heap[g]?=w.heap[g]?
 sl : ∀ ao l,SlL w ao l->SlL w' ao l
 ss : ∀ ao l,SlS w ao l->SlS w' ao l
theorem ZKp.of_below {X:Nat->Prop} {w w':World} (h:Below w.heap.size w w'):ZKp X w w' :=
 ⟨h.os,h.tape,h.output,h.size,fun i _ hi=>h.block i hi,fun g _ _ _ hg _ _=>h.block g (Array.getElem?_eq_some_iff.1 hg).1,fun _ _ hs=>hs.below h (Nat.le_refl _),fun _ _ hs=>hs.below h (Nat.le_refl _)⟩
theorem ZKp.kb {X:Nat->Prop} {w w':World} (h:ZKp X w w'):KB w w':=⟨h.size,fun g c et fr hg he=>(h.rows g c et fr hg (fun e=>by rcases he with rfl | rfl <;> exact absurd e (by decide)) (fun e=>by rcases he with rfl | rfl <;> exact absurd e (by decide))).trans hg⟩
theorem ZKp.row {X:Nat->Prop} {w w':World} (h:ZKp X w w') {g:Nat} {t:TypeId} {c:Array Value} (hr:RowAt w g t c) (h1:t≠107) (h2:t≠94):RowAt w' g t c:=(h.rows g c t _ hr h1 h2).trans hr
theorem ZKp.of_zm {X:Nat->Prop} {w w':World} {Zb:Nat} {A:List (List UInt8)} {L:List Z.R} {ρ : Nat->Role} {G:List (List UInt8)->Option Nd} {C:List (List UInt8)->Nat->Option Z.St} {K:Nat} (Zx:ZAt w Zb A L ρ G C K) (hX : ∀ i,X i->i<w.heap.size/\i≠Zb /\ ρ i = .none) (h:ZM Zb ρ w w'):ZKp X w w':=by
 obtain⟨ao,cap,hz,_,_⟩:=Zx.row
 have hk:=Zx.tree.kind
 refine⟨h.os,h.tape,h.output,h.size,fun i hx hi=>h.block i hi (hX i hx).2.1 (hX i hx).2.2,fun g c et fr hg h1 h2=>?_,fun _ _ hs=>slL_zm h hk hz hs,fun _ _ hs=>slS_zm h hk hz hs⟩
 refine h.block g (Array.getElem?_eq_some_iff.1 hg).1 (fun e=>?_) (Classical.byContradiction fun h0=>?_)
 ·have hz':w.heap[Zb]?=some (Obj.cells #[.slice ao A.length cap,ptr (nodeN G []),.int .i64 (L.length:Int)] 94):=hz
  rw[e,hz'] at hg;injection hg with hg;injection hg with _ hg _;exact h2 hg.symm
 ·rcases hk g h0 with⟨es,k,hb⟩ | ⟨a,b,hb⟩
  ·rw[hb] at hg;cases hg
  ·rw[hb] at hg;injection hg with hg;injection hg with _ hg _;exact h1 hg.symm
theorem ZLive.bel {X:Nat->Prop} {w w':World} {Zb:Nat} {A:List (List UInt8)} {L:List Z.R} {K:Nat} (h:ZLive X w Zb A L K) (hb:Below w.heap.size w w'):ZLive X w' Zb A L K:=by
 obtain⟨ρ,G,C,h1,h2,h3⟩:=h
 exact⟨ρ,G,C,h1.bel hb,fun i hi=>⟨Nat.lt_of_lt_of_le (h2 i hi).1 hb.size,(h2 i hi).2⟩,h3⟩
theorem ZLive.mono {X:Nat->Prop} {w:World} {Zb:Nat} {A:List (List UInt8)} {L:List Z.R} {K K':Nat} (h:ZLive X w Zb A L K) (hk:K<=K'):ZLive X w Zb A L K':=by
 obtain⟨ρ,G,C,h1,h2,h3⟩:=h
 exact⟨ρ,G,C,h1.mono hk,h2,h3⟩
theorem ZLive.num {X:Nat->Prop} {w:World} {Zb:Nat} {A:List (List UInt8)} {L:List Z.R} {K:Nat} (h:ZLive X w Zb A L K):L.length<=2000:=by
 obtain⟨ρ,G,C,h1,h2,h3⟩:=h;exact h1.num
theorem znew_live (X:Nat->Prop) (w:World) (hX : ∀ i,X i->i<w.heap.size) (n:List (List UInt8)) (ao:Option Addr) (len cap:Nat) (hl:Hid (n.length=len)) (hs:SlS w ao n) (hm:Hid (N.Small n)) :
 Calls Tryz.prog 12 #[.slice ao len cap] w fun e w' => ∃ Zb,e = .returned (.pointer (some ⟨Zb,0,none⟩))/\w.heap.size<=Zb/\ZLive X w' Zb (N.lowN n) [] 0/\Below w.heap.size w w':=by
 refine (znew_any w n ao len cap hl hs hm).mono ?_
 rintro e w' ⟨Zb, ρ,G,rfl,h1,h2,h3,h4⟩
 exact⟨Zb,rfl,h1,⟨ρ,G,_,h2,fun i hi=>⟨Nat.lt_of_lt_of_le (hX i hi) h4.size,by have:=hX i hi;omega,h3 i (hX i hi)⟩,fun x hx=>(by cases hx)⟩,h4⟩
theorem zput_live {X:Nat->Prop} {w:World} {Zb:Nat} {A:List (List UInt8)} {L:List Z.R} {K:Nat} (Z0:ZLive X w Zb A L K) (hA:Hid (N.Small A)) (n:List (List UInt8)) (na:Option Addr) (nl nc:Nat) (hl:Hid (n.length=nl)) (hnc:nl<=nc) (hs:SlS w na n) (hm:Hid (N.Small n)) (t cl ttl:Nat) (d:List UInt8) (da:Option Addr) (dl dc:Nat) (hdl:Hid (d.length=dl)) (hsd:SlL w da d) (hnd:da=none->dc=0) (hdc:dl<=dc) (ht:t<65536) (httl:ttl<4294967296) (hK:K+nl+2<=1000000) :
 Calls Tryz.prog 44 #[.pointer (some ⟨Zb,0,none⟩),recV na nl nc t cl ttl da dl dc] w fun e w'=>e = .returned (.tuple #[.bool (Z.putR A L n t cl ttl d).1,.int .i64 ((Z.putR A L n t cl ttl d).2.1:Int)])/\ZLive X w' Zb A (Z.putR A L n t cl ttl d).2.2 (K+nl+1)/\ZKp X w w':=by
 have hdl':=hdl.out
 subst hdl'
 have Z0':=Z0
 obtain⟨ρ,G,C,Zx,hX,hth⟩:=Z0
 by_cases hbad:N.chk n≠0\/N.within n A=false
 ·have e:Z.putR A L n t cl ttl d=(false,110,L):=by unfold Z.putR;rw[if_pos hbad]
  rw[e]
  refine (zput_name w Zb A L ρ G C K Zx hA n na nl nc hl hnc hs hm t cl ttl d da dc hsd hnd hdc hbad).mono ?_
  rintro e w' ⟨rfl,hb⟩
  exact⟨rfl,(Z0'.bel hb).mono (by omega),.of_below hb⟩
 ·have hgood:N.chk n=0:=Classical.byContradiction fun h=>hbad (Or.inl h)
  have hwin:N.within n A=true:=by
   cases h:N.within n A with
   | true=>rfl
   | false=>exact absurd (Or.inr h) hbad
  by_cases hcl:cl≠1\/cn t d=none
  ·have e:Z.putR A L n t cl ttl d=(false,50,L):=by
    unfold Z.putR;rw[if_neg hbad]
    by_cases h:cl≠1
    ·rw[if_pos h]
    ·rw[if_neg h,hcl.resolve_left h]
   rw[e]
   refine (zput_data w Zb A L ρ G C K Zx hA n na nl nc hl hnc hs hm t cl ttl d da dc hsd hnd hdc hgood hwin hcl).mono ?_
   rintro e w' ⟨rfl,hb⟩
   exact⟨rfl,(Z0'.bel hb).mono (by omega),.of_below hb⟩
  ·have hc1:cl=1:=Classical.byContradiction fun h=>hcl (Or.inl h)
   subst hc1
   cases hcn:cn t d with
   | none=>exact absurd (Or.inr hcn) hcl
   | some c =>
    have hnl:nl<=128:=by have:=Z.chk_len hgood;have:=hl.out;omega
    have hthe:(Z.got C (path n) t c).isSome=Z.there L ⟨path n,t,c,ttl,d⟩:=Zx.of.got_there ⟨path n,t,c,ttl,d⟩
    have htt:=Z.Of.ttl Zx.of (path n) t
    have e0:Z.putR A L n t 1 ttl d=if Z.there L ⟨path n,t,c,ttl,d⟩=true then (if Z.ttlAt L (path n) t=ttl then (false,0,L) else (true,0,Z.put L ⟨path n,t,c,ttl,d⟩)) else if 2000<=L.length then (false,111,L) else (true,0,Z.put L ⟨path n,t,c,ttl,d⟩):=by
     unfold Z.putR;rw[if_neg hbad,if_neg (by simp),hcn]
    refine (zput_good w Zb A L ρ G C K Zx hA n na nl nc hl hnc hs hm t ttl d da dc hsd hnd hdc ht c hgood hwin hcn httl hnl hK).mono ?_
    rintro e w' ⟨b,cd,rfl,⟨rfl,hb,⟨rfl,h1,h2⟩ | ⟨rfl,h1,h2⟩⟩ | ⟨rfl,rfl,h1,h2, ρ',G',hZ,hmore,hzm⟩⟩
    ·have e:Z.putR A L n t 1 ttl d=(false,0,L):=by rw[e0,if_pos (by rw[<- hthe];exact h1),if_pos (by rw[<- htt];exact h2)]
     rw[e]
     exact⟨rfl,(Z0'.bel hb).mono (by omega),.of_below hb⟩
    ·have e:Z.putR A L n t 1 ttl d=(false,111,L):=by rw[e0,if_neg (by rw[<- hthe,h1];simp),if_pos h2]
     rw[e]
     exact⟨rfl,(Z0'.bel hb).mono (by omega),.of_below hb⟩
    ·have e:Z.putR A L n t 1 ttl d=(true,0,Z.put L ⟨path n,t,c,ttl,d⟩):=by
      rw[e0]
      by_cases ht:Z.there L ⟨path n,t,c,ttl,d⟩=true
      ·rw[if_pos ht,if_neg (fun h=>h1 ⟨by rw[hthe];exact ht,by rw[htt];exact h⟩)]
      ·rw[if_neg ht,if_neg (fun h=>h2 ⟨?_,h⟩)]
       cases hg:Z.got C (path n) t c with
       | none=>rfl
       | some z=>rw[hg] at hthe;exact absurd hthe.symm ht
     rw[e]
     exact⟨rfl,⟨ρ',G',_,hZ,fun i hi=>⟨Nat.lt_of_lt_of_le (hX i hi).1 hzm.size,(hX i hi).2.1,by rw[hmore i (hX i hi).1];exact (hX i hi).2.2⟩,Z.thin_put hth hgood⟩,.of_zm Zx hX hzm⟩
theorem zhas_live {X:Nat->Prop} {w:World} {Zb:Nat} {A:List (List UInt8)} {L:List Z.R} {K:Nat} (Z0:ZLive X w Zb A L K) (n:List (List UInt8)) (ao:Option Addr) (len cap:Nat) (hl:Hid (n.length=len)) (hs:SlS w ao n) (hm:Hid (N.Small n)) :
 Calls Tryz.prog 30 #[.pointer (some ⟨Zb,0,none⟩),.slice ao len cap] w fun e w'=>e = .returned (.bool (Z.has L (path n)))/\Below w.heap.size w w':=by
 obtain⟨ρ,G,C,Zx,hX,hth⟩:=Z0
 exact zhas_any w Zb A L ρ G C K Zx n ao len cap hl hs hm
def SetR (w:World) (L:List Z.R) (n:List (List UInt8)) (nl t:Nat) (e:Ending) (w':World):Prop :=
 Below w.heap.size w w'/\((Z.setAt L (path n) t = []/\e = .returned (.tuple #[asetZ,.bool false])) \/
  (Z.setAt L (path n) t ≠ [] /\ ∃ (na:Option Addr) (nc:Nat) (v:Value),e = .returned (.tuple #[.agg #[.slice na nl nc,.int .u16 (t:Int),.int .u32 (Z.ttlAt L (path n) t:Int),v],.bool true])/\TyS w' na (N.lowN n)/\nl<=nc/\OwnL 37 1 EB w' w.heap.size v ((Z.setAt L (path n) t).map (·.d))))
theorem zset_live {X:Nat->Prop} {w:World} {Zb:Nat} {A:List (List UInt8)} {L:List Z.R} {K:Nat} (Z0:ZLive X w Zb A L K) (hK:K<=1000000) (n:List (List UInt8)) (ao:Option Addr) (len cap:Nat) (hl:Hid (n.length=len)) (hs:SlS w ao n) (hm:Hid (N.Small n)) (t:Nat) (ht:t<65536) :
 Calls Tryz.prog 24 #[.pointer (some ⟨Zb,0,none⟩),.slice ao len cap,.int .u16 (t:Int)] w fun e w'=>SetR w L n len t e w':=by
 obtain⟨ρ,G,C,Zx,hX,hth⟩:=Z0
 refine (zset_any w Zb A L ρ G C K Zx hK n ao len cap hl hs hm t ht).mono ?_
 rintro e w' ⟨hb,⟨hC,rfl⟩ | ⟨S,na,nc,v,hC,rfl,h1,h2,h3⟩⟩
 ·exact⟨hb,Or.inl ⟨(Z.Of.none_iff Zx.of _ _).1 hC,rfl⟩⟩
 ·have htt:=Z.Of.ttl Zx.of (path n) t
  rw[hC] at htt
  have htt:S.ttl=Z.ttlAt L (path n) t:=htt
  refine⟨hb,Or.inr ⟨fun h=>?_,na,nc,v,by rw[htt],h1,h2,h3⟩⟩
  rw[(Z.Of.none_iff Zx.of _ _).2 h] at hC;cases hC
theorem ztypes_live {X:Nat->Prop} {w:World} {Zb:Nat} {A:List (List UInt8)} {L:List Z.R} {K:Nat} (Z0:ZLive X w Zb A L K) (hK:K<=1000000) (n:List (List UInt8)) (ao:Option Addr) (len cap:Nat) (hl:Hid (n.length=len)) (hs:SlS w ao n) (hm:Hid (N.Small n)) :
 Calls Tryz.prog 33 #[.pointer (some ⟨Zb,0,none⟩),.slice ao len cap] w fun e w' => ∃ v,e = .returned v /\ ∃ ts:List UInt16,ts.map (·.toNat)=Z.typesAt L (path n)/\OwnH w' w.heap.size v ts/\Below w.heap.size w w':=by
 obtain⟨ρ,G,C,Zx,hX,hth⟩:=Z0
 exact ztypes_any w Zb A L ρ G C K Zx hK n ao len cap hl hs hm
theorem ZKp.below {X:Nat->Prop} {w w':World} {B:Nat} (h:ZKp X w w') (hX : ∀ i,i<B->X i) (hB:B<=w.heap.size):Below B w w' :=
 ⟨h.os,h.tape,h.output,h.size,fun i hi=>h.keep i (hX i hi) (Nat.lt_of_lt_of_le hi hB)⟩
open Go.RowKit
theorem infoRcs:(Tryz.prog.info? 39).map (·.size)=some 5:=by kernel_rfl
theorem results_rc {fn:Func} {p:Tmp} (h:fn.results = #[.cell p 39]) (tmps:Array Value) (w:World) (g:Nat) (cs:Array Value) (hs:cs.size=5) (hp:tmps.getD p undef = .pointer (some ⟨g,0,none⟩)) (hg:RowAt w g 39 cs) :
 (results fn tmps).run Tryz.prog w = .ok (.agg cs) w :=
 results_cell_row h tmps w g 39 cs (0,0) _ hp hg Tryz.underlying39 rfl (by rw[hs];exact infoRcs)
theorem and3 (k:Nat) (hk:k<4294967296):bits .and .u32 ((k:Int) / 16777216) 3=((k / 16777216 % 4:Nat):Int):=by
 have h : ∀ x:Nat,x<256->bits .and .u32 (x:Int) 3=((x % 4:Nat):Int):=by decide +kernel
 have:=h (k / 16777216) (by omega)
 rw[<- this];rfl
theorem ttl_get (k:Nat):((#[.int .u32 30,.int .u32 30,.int .u32 60,.int .u32 5]:Array Value))[k / 16777216 % 4]?=some (.int .u32 (Z.ttlK k:Int)):=by
 have h : ∀ j,j<4->((#[.int .u32 30,.int .u32 30,.int .u32 60,.int .u32 5]:Array Value))[j]?=some (.int .u32 (([30,30,60,5].getD j 0:Nat):Int))
  | 0,_=>rfl | 1,_=>rfl | 2,_=>rfl | 3,_=>rfl
  | j+4,h=>absurd h (by omega)
 exact h _ (Nat.mod_lt _ (by decide))
theorem rz_facts {W:World} {g:Nat} (h:RowAt W g 39 #[.slice none 0 0,.int .u16 0,.int .u16 0,.int .u32 0,.slice none 0 0]):W.cell? ⟨g,0,none⟩=some (.slice none 0 0)/\W.cell? ⟨g,1,none⟩=some (.int .u16 0)/\W.cell? ⟨g,2,none⟩=some (.int .u16 0)/\W.cell? ⟨g,3,none⟩=some (.int .u32 0)/\W.cell? ⟨g,4,none⟩=some (.slice none 0 0) /\
 W.frozen? ⟨g,0,none⟩=false/\W.frozen? ⟨g,1,none⟩=false/\W.frozen? ⟨g,2,none⟩=false/\W.frozen? ⟨g,3,none⟩=false/\W.frozen? ⟨g,4,none⟩=false :=
 ⟨h.cell 0,h.cell 1,h.cell 2,h.cell 3,h.cell 4,h.frozen 0,h.frozen 1,h.frozen 2,h.frozen 3,h.frozen 4⟩
theorem rz_bel {W W':World} {g:Nat} {t:TypeId} {c:Array Value} (hb:Below W.heap.size W W') (h:RowAt W g t c):RowAt W' g t c:=h.below hb h.lt
theorem lit_cell2 {W W':World} {g j tl:Nat} (hb:Below W.heap.size W W') (h:RowAt W g 35 #[.int .u32 30,.int .u32 30,.int .u32 60,.int .u32 5]) (hget:(#[.int .u32 30,.int .u32 30,.int .u32 60,.int .u32 5]:Array Value)[j]?=some (.int .u32 (tl:Int))):W'.cell? ⟨g,j,none⟩=some (.int .u32 (tl:Int)):=by
 rw[(rz_bel hb h).cell];exact hget
theorem cell_bel {W W':World} {B:Nat} {p:Addr} {v:Value} (h:Below B W W') (hB:W.heap.size<=B) (hc:W.cell? p=some v) (hp:p.block<W.heap.size):W'.cell? p=some v:=by
 rw[<- hc];exact World.cell?_of_block (h.block _ (Nat.lt_of_lt_of_le hp hB))
def RecD (w wc:World) (o:List (List UInt8)) (t tl:Nat) (d:List UInt8):Prop := ∃ na nc da dc,RowAt wc w.heap.size 39 #[.slice na o.length nc,.int .u16 (t:Int),.int .u16 1,.int .u32 (tl:Int),.slice da d.length dc]/\TyS wc na o/\o.length<=nc/\TyL wc da d/\(da=none->dc=0)/\d.length<=dc/\Below w.heap.size w wc
theorem bel_of {w X W':World} (h:Below w.heap.size w X) (hb:Below X.heap.size X W'):Below w.heap.size w W':=h.trans (hb.mono h.size)
theorem RecD.mk' {w wz:World} {o:List (List UInt8)} {t tl c3 c4:Nat} {d:List UInt8} {a3 a4:Option Addr} (h:RowAt wz w.heap.size 39 #[.slice none 0 0,.int .u16 0,.int .u16 0,.int .u32 0,.slice none 0 0]) (hb:Below w.heap.size w wz) (T3:TyS wz a3 o) (h3:o.length<=c3) (T4:TyL wz a4 d) (h4:a4=none->c4=0) (h5:d.length<=c4) :
 RecD w (((((wz.setCell ⟨w.heap.size,0,none⟩ (.slice a3 o.length c3)).setCell ⟨w.heap.size,1,none⟩ (.int .u16 (t:Int))).setCell ⟨w.heap.size,2,none⟩ (.int .u16 1)).setCell ⟨w.heap.size,3,none⟩ (.int .u32 (tl:Int))).setCell ⟨w.heap.size,4,none⟩ (.slice a4 d.length c4)) o t tl d:=by
 have r1:=h.set 0 (.slice a3 o.length c3)
 have r2:=r1.set 1 (.int .u16 (t:Int))
 have r3:=r2.set 2 (.int .u16 1)
 have r4:=r3.set 3 (.int .u32 (tl:Int))
 have k:=((((KB.setCell h (by decide) 0 (.slice a3 o.length c3)).trans (KB.setCell r1 (by decide) 1 (.int .u16 (t:Int)))).trans (KB.setCell r2 (by decide) 2 (.int .u16 1))).trans (KB.setCell r3 (by decide) 3 (.int .u32 (tl:Int)))).trans (KB.setCell r4 (by decide) 4 (.slice a4 d.length c4))
 exact⟨a3,c3,a4,c4,r4.set 4 _,T3.kb k,h3,T4.kb k,h4,h5,((((hb.setCell (p:=⟨w.heap.size,0,none⟩) (Nat.le_refl _) _).setCell (p:=⟨w.heap.size,1,none⟩) (Nat.le_refl _) _).setCell (p:=⟨w.heap.size,2,none⟩) (Nat.le_refl _) _).setCell (p:=⟨w.heap.size,3,none⟩) (Nat.le_refl _) _).setCell (p:=⟨w.heap.size,4,none⟩) (Nat.le_refl _) _⟩
end Go.Proofs.YtmbcegljmhcdeaaGreat
namespace Go.Proofs.YtmbcegljmhcdeaaGreat
set_option maxRecDepth 5000
open Go.RowKit
set_option maxRecDepth 100000 in
set_option maxHeartbeats 2000000 in
theorem seatRecord_ty (k:Nat) (hk:k<4294967296) (w:World):Calls Tryz.prog 43 #[.int .u32 (k:Int)] w fun e w' => ∃ na nc da dc,e = .returned (.agg #[.slice na (Z.owner (k % 256)).length nc,.int .u16 (Z.typeK (k / 256 % 256):Int),.int .u16 1,.int .u32 (Z.ttlK k:Int),.slice da (Z.dataK (Z.typeK (k / 256 % 256)) (k / 65536 % 256)).length dc]) /\
 TyS w' na (Z.owner (k % 256))/\(Z.owner (k % 256)).length<=nc/\TyL w' da (Z.dataK (Z.typeK (k / 256 % 256)) (k / 65536 % 256))/\(da=none->dc=0)/\(Z.dataK (Z.typeK (k / 256 % 256)) (k / 65536 % 256)).length<=dc/\Below w.heap.size w w':=by
 obtain⟨t,ht⟩ : ∃ t,t=Z.typeK (k / 256 % 256):=⟨_,rfl⟩
 obtain⟨o,ho⟩ : ∃ o,o=Z.owner (k % 256):=⟨_,rfl⟩
 obtain⟨d,hd⟩ : ∃ d,d=Z.dataK t (k / 65536 % 256):=⟨_,rfl⟩
 rw[<- ht, <- ho, <- hd]
 have h1:IntKind.u8.wrap ((k:Int) / 256)=((k / 256 % 256:Nat):Int):=by rw[IntKind.wrap_u8];omega
 have h2:IntKind.u8.wrap (k:Int)=((k % 256:Nat):Int):=by rw[IntKind.wrap_u8];omega
 have h3:IntKind.u8.wrap ((k:Int) / 65536)=((k / 65536 % 256:Nat):Int):=by rw[IntKind.wrap_u8];omega
 have h4:=and3 k hk
 obtain⟨j,hj⟩ : ∃ j,j=k / 16777216 % 4:=⟨_,rfl⟩
 rw[<- hj] at h4
 have hj4:j<4:=by rw[hj];exact Nat.mod_lt _ (by decide)
 have hjb:(j:Int)<4:=by omega
 have hget:=ttl_get k
 rw[<- hj] at hget
 obtain⟨tl,htl⟩ : ∃ tl,tl=Z.ttlK k:=⟨_,rfl⟩
 rw[<- htl] at hget ⊢
 have hget2 : ∀ h:j<(#[.int .u32 30,.int .u32 30,.int .u32 60,.int .u32 5]:Array Value).size,(#[.int .u32 30,.int .u32 30,.int .u32 60,.int .u32 5]:Array Value)[j] = .int .u32 (tl:Int):=fun h=>by
  rw[Array.getElem?_eq_getElem h] at hget
  exact Option.some.inj hget
 have e1:(k:Int) / 256 % 256=((k / 256 % 256:Nat):Int):=by omega
 have e2:(k:Int) % 256=((k % 256:Nat):Int):=by omega
 have e3:(k:Int) / 65536 % 256=((k / 65536 % 256:Nat):Int):=by omega
 have E1:=hide e1
 have E2:=hide e2
 have E3:=hide e3
 have HT:=hide ht
 clear e1 e2 e3 ht hj htl h1
 go_enter Tryz.func43,Tryz.ntmps43
 go_upto_region 2 with (go_at_call 23;rw[E1.out];refine (seatType_any (k / 256 % 256) (by omega) _).mono ?_;rintro e w1 ⟨he,hB1⟩;rw[HT.out.symm] at he;subst he)
 have HR1:=hide ((RowAt.new w 39 #[.slice none 0 0,.int .u16 0,.int .u16 0,.int .u32 0,.slice none 0 0]).below hB1 (by simp))
 have HB1:=hide hB1
 have HBW:=hide (((Below.refl _ w).alloc (Nat.le_refl _) _).trans (hB1.mono (by simp)))
 clear hB1
 have HO:=hide ho
 have HD:=hide hd
 clear ho hd
 have hown:=fun W=>owner_any (k % 256) (by omega) W
 rw[<- HO.out] at hown
 have hdat:=fun W=>seatData_any t (k / 65536 % 256) (by omega) W
 rw[<- HD.out] at hdat
 have HOW:=hide hown
 have HDA:=hide hdat
 clear hown hdat
 go_cut [2] from 4 (fun s2 wc=>s2 = .pointer (some ⟨w.heap.size,0,none⟩)/\RecD w wc o t tl d)
 case first =>
  go_region_with (first
   | (go_at_call 22;(first | rw[E2.out] | skip);refine (HOW.out _).mono ?_;rintro e w3 ⟨v3,rfl,hO3,hB3⟩;obtain⟨a3,c3,rfl,hT3,hn3,hc3⟩:=hO3.ty;have b3:Below w.heap.size w w3:=bel_of (by first | exact HBW.out | exact HBW.out.drew | exact HBW.out.drew.alloc HBW.out.drew.size _ | exact (HBW.out.alloc HBW.out.size _).drew) hB3;have hR3:RowAt w3 w.heap.size 39 #[.slice none 0 0,.int .u16 0,.int .u16 0,.int .u32 0,.slice none 0 0]:=rz_bel hB3 (by first | exact HR1.out | exact HR1.out.alloc _);(first | have l3:w3.cell? ⟨w1.heap.size,j,none⟩=some (.int .u32 (tl:Int)):=lit_cell2 hB3 (by exact RowAt.new w1 _ _) hget | skip))
   | (go_at_call 81;(first | rw[E3.out] | skip);refine (HDA.out _).mono ?_;rintro e w4 ⟨v4,rfl,hO4,hB4⟩;obtain⟨a4,c4,rfl,hT4,hn4,hc4⟩:=hO4.ty;have b4:Below w.heap.size w w4:=bel_of (by first | exact b3 | exact b3.alloc b3.size _) hB4;have T4:TyS w4 a3 o:=hT3.kb ((by first | exact KB.refl _ | exact KB.alloc _ _:KB w3 _).trans (KB.of_below hB4));have hR4:RowAt w4 w.heap.size 39 #[.slice none 0 0,.int .u16 0,.int .u16 0,.int .u32 0,.slice none 0 0]:=rz_bel hB4 (by first | exact hR3 | exact hR3.alloc _);obtain⟨x0,x1,x2,x3,x4,f0,f1,f2,f3,f4⟩:=rz_facts hR4;obtain⟨y0,y1,y2,y3,y4,g0,g1,g2,g3,g4⟩:=rz_facts (hR4.alloc (.cells #[.int .u32 30,.int .u32 30,.int .u32 60,.int .u32 5] 35));(first | have l4:w4.cell? ⟨w3.heap.size,j,none⟩=some (.int .u32 (tl:Int)):=lit_cell2 hB4 (by exact RowAt.new w3 _ _) hget | have l4:w4.cell? ⟨w1.heap.size,j,none⟩=some (.int .u32 (tl:Int)):=cell_bel hB4 (Nat.le_refl _) l3 (by have:=hB3.size;simp at this;show w1.heap.size<_;omega) | skip))
   | fail)
  all_goals go_wp2_with fail
  all_goals go_meet
  all_goals first
   | exact⟨rfl,RecD.mk' hR4 b4 T4 hc3 hT4 hn4 hc4⟩
   | exact⟨rfl,RecD.mk' (hR4.alloc _) (b4.alloc b4.size _) (T4.kb (KB.alloc _ _)) hc3 (hT4.kb (KB.alloc _ _)) hn4 hc4⟩
 case rest =>
  obtain⟨rfl,na,nc,da,dc,hr,h1,h2,h3,h4,h5,h6⟩:=hcut
  go_wp2
  refine bodyPost_ret (v := .agg _) (results_rc Tryz.results43 _ _ w.heap.size _ rfl rfl hr) rfl ⟨na,nc,da,dc,rfl,h1,h2,h3,h4,h5,h6⟩
def SlU (w:World) (ao:Option Addr) (l:List Nat):Prop:=0<l.length -> ∃ b o,ao=some ⟨b,o,none⟩/\b<w.heap.size /\ ∀ j,j<l.length->w.cell? ⟨b,o+j,none⟩=some (.int .u32 ((l.getD j 0:Nat):Int))
set_option maxRecDepth 5000 in
theorem SlU.below {B:Nat} {w w':World} {ao:Option Addr} {l:List Nat} (h:SlU w ao l) (hb:Below B w w') (hB:w.heap.size<=B):SlU w' ao l:=fun hn=>by
 obtain⟨b,o,e,hlt,hc⟩:=h hn
 refine⟨b,o,e,Nat.lt_of_lt_of_le hlt hb.size,fun j hj=>?_⟩
 rw[<- hc j hj]
 exact World.cell?_of_block (hb.block b (by omega))
end Go.Proofs.YtmbcegljmhcdeaaGreat
namespace Go.Proofs.YtmbcegljmhcdeaaGreat
set_option maxRecDepth 5000
open Go
section
variable {P:Program} {ops:Array Oper} {Q:Exit->Act->World->Prop} {md:Region.Mode} {S:World->Prop} {jS:Nat}
def wpAnyX (P:Program) (md:Region.Mode) (ops:Array Oper) (Q:Exit->Act->World->Prop) (S:World->Prop) (jS:Nat):Nat->Array Bool->Act->World->Prop
 | 0,listed,a,w=>Region.ready md ops listed = []/\Q .normal a w
 | fuel+1,listed,a,w =>
  (Region.ready md ops listed = []->Q .normal a w) /\
  ∀ i∈Region.ready md ops listed,wpOp P ops Q i (fun a' w'=>(i=jS\/S w')/\wpAnyX P md ops Q S jS fuel (listed.setIfInBounds i true) a' w') a w
theorem wpAny_of_X : ∀ (fuel:Nat) (listed:Array Bool) (a:Act) (w:World),wpAnyX P md ops Q S jS fuel listed a w->wpAny P md ops Q fuel listed a w
 | 0,_,_,_,h=>h
 | fuel+1,_,_,_,h=>⟨h.1,fun i hi=>wpOp_mono (fun a' w' h'=>wpAny_of_X fuel _ a' w' h'.2) (h.2 i hi)⟩
theorem wpAnyX_first {i:Nat} {oi:Oper} {v:Value} (hi:ops[i]?=some oi) (hsel : ∀ (j:Nat) (o:Oper) cs b,ops[j]?=some o->o.op ≠ .select cs b)
 (hQ : ∀ c a w,Q (.panic c) (a.put oi.dst v) w->Q (.panic c) a w) (hjS : ∀ oj,ops[jS]?=some oj -> ∃ e∈oj.after,Region.binds md e=true/\e.on=i) :
 ∀ (fuel:Nat) (listed:Array Bool) (a:Act) (w:World),
  (∀ j oj,ops[j]?=some oj->j≠i->listed.getD j true=false->(∀ e∈oj.after,Region.binds md e=true->e.on≠i)->oi.apart ops oj=true) ->
  i∈Region.ready md ops listed->YieldsIf P ops S oi v a->S w ->
  wpAnyX P md ops Q S jS fuel (listed.setIfInBounds i true) (a.put oi.dst v) w->wpAnyX P md ops Q S jS (fuel+1) listed a w:=by
 intro fuel
 induction fuel with
 | zero =>
  intro listed a w _ hr hy hS H
  refine⟨fun h=>(by rw[h] at hr;cases hr),fun j hj=>?_⟩
  by_cases hji:j=i
  ·subst hji;exact hy.wpOp hi hS ⟨Or.inr hS,H⟩
  ·have:=ready_mono hj hji
   rw[H.1] at this
   cases this
 | succ fuel ih =>
  intro listed a w hfree hr hy hS H
  refine⟨fun h=>(by rw[h] at hr;cases hr),fun j hj=>?_⟩
  by_cases hji:j=i
  ·subst hji;exact hy.wpOp hi hS ⟨Or.inr hS,H⟩
  ·have h1:=H.2 j (ready_mono hj hji)
   obtain⟨hjun,oj,hoj,hall⟩:=mem_ready.1 hj
   have hnot : ∀ e∈oj.after,Region.binds md e=true->e.on≠i:=fun e he hb heq=>by
    have h1:=hall e he hb
    have h0:=(mem_ready.1 hr).1
    rw[heq] at h1
    rcases Nat.lt_or_ge i listed.size with h' | h'
    ·simp[h'] at h0 h1;rw[h0] at h1;cases h1
    ·simp[Array.getElem?_eq_none h'] at h1
   have h2:=wpOp_putIf hoj (hfree j oj hoj hji hjun hnot) (fun cs b=>hsel i oi cs b hi) (fun cs b=>hsel j oj cs b hoj) hQ hy h1
   have hfree' : ∀ k ok,ops[k]?=some ok->k≠i->(listed.setIfInBounds j true).getD k true=false ->
    (∀ e∈ok.after,Region.binds md e=true->e.on≠i)->oi.apart ops ok=true:=fun k ok hk hki hun hno=>by
    refine hfree k ok hk hki ?_ hno
    by_cases hjk:j=k
    ·subst hjk;exact hjun
    ·rw[getD_set_ne true hjk] at hun;exact hun
   have hne:j≠jS:=fun e=>by
    subst e
    obtain⟨e,he,hb,hon⟩:=hjS oj hoj
    exact hnot e he hb hon
   refine wpOp_mono (fun a' w' h3=>?_) h2
   have hS':S w':=h3.2.1.resolve_left hne
   refine⟨Or.inr hS',ih (listed.setIfInBounds j true) a' w' hfree' (ready_mono hr (Ne.symm hji)) h3.1 hS' ?_⟩
   rw[Array.setIfInBounds_comm _ _ hji]
   exact h3.2.2
def waits (md:Region.Mode) (ops:Array Oper) (jS i:Nat):Bool:=match ops[jS]? with | some oj=>oj.after.any (fun e=>Region.binds md e && e.on == i) | none=>true
theorem waits_spec {i:Nat} (h:waits md ops jS i=true) : ∀ oj,ops[jS]?=some oj -> ∃ e∈oj.after,Region.binds md e=true/\e.on=i:=by
 intro oj hoj
 unfold waits at h
 rw[hoj] at h
 simp only[Array.any_eq_true,Bool.and_eq_true,beq_iff_eq] at h
 obtain⟨n,hn,h1,h2⟩:=h
 exact⟨_,Array.getElem_mem hn,h1,h2⟩
theorem wpAnyX_take {i:Nat} {oi:Oper} {v:Value} {fuel:Nat} {listed:Array Bool} {a:Act} {w:World} (hi:ops[i]?=some oi)
 (hs:Region.noSelect ops=true) (hf:Region.free md ops listed i=true) (hr:(Region.ready md ops listed).contains i=true) (hwt:waits md ops jS i=true)
 (hQ : ∀ c a w,Q (.panic c) (a.put oi.dst v) w->Q (.panic c) a w) (hy:YieldsIf P ops S oi v a) (hS:S w)
 (h:wpAnyX P md ops Q S jS fuel (listed.setIfInBounds i true) (a.put oi.dst v) w):wpAnyX P md ops Q S jS (fuel+1) listed a w :=
 wpAnyX_first hi (Region.noSelect_spec hs) hQ (waits_spec hwt) fuel listed a w (Region.free_spec hi hf) (by simpa using hr) hy hS h
theorem wpAnyX_done {listed:Array Bool} {a:Act} {w:World} (hr:Region.ready md ops listed = []) (h:Q .normal a w) :
 ∀ fuel,wpAnyX P md ops Q S jS fuel listed a w
 | 0=>⟨hr,h⟩
 | _+1=>⟨fun _=>h,by rw[hr];simp⟩
theorem wp_region_X {id:Nat} {a:Act} {w:World} (hm:P.follows .mixedOrders=true)
 (h:wpAnyX P .any ops Q S jS ops.size (Array.replicate ops.size false) a w.drew):(Code.region id ops true).wp P Q a w :=
 wp_region_any hm (wpAny_of_X _ _ _ _ h)
def AllX (P:Program) (md:Region.Mode) (ops:Array Oper) (Q:Exit->Act->World->Prop) (S:World->Prop) (jS:Nat) (fuel:Nat) (listed:Array Bool) (a:Act) (w:World) (rs:List Nat):Prop :=
 ∀ i∈rs,wpOp P ops Q i (fun a' w'=>(i=jS\/S w')/\wpAnyX P md ops Q S jS fuel (listed.setIfInBounds i true) a' w') a w
theorem AllX.nil {fuel:Nat} {listed:Array Bool} {a:Act} {w:World} : AllX P md ops Q S jS fuel listed a w []:=fun _ h=>by cases h
theorem AllX.cons {fuel:Nat} {listed:Array Bool} {a:Act} {w:World} {i:Nat} {o:Oper} {rs:List Nat} (ho:ops[i]?=some o)
 (h : ∀ K':Act->World->Prop,Shut (∀ a w,(i=jS\/S w)->wpAnyX P md ops Q S jS fuel (listed.setIfInBounds i true) a w->K' a w)->if Region.wanted o (yielded ops a.tmps)=true then Oper.wp P o a w K' Q else K' (a.put o.dst undef) w)
 (hs:AllX P md ops Q S jS fuel listed a w rs):AllX P md ops Q S jS fuel listed a w (i::rs):=fun j hj=>by
 rcases List.mem_cons.1 hj with rfl | hj
 ·exact wpOp_step ho (fun K' hK=>h K' (fun a w hS hW=>hK a w ⟨hS,hW⟩))
 ·exact hs j hj
theorem wpAnyX_ready {rs:List Nat} {fuel:Nat} {listed:Array Bool} {a:Act} {w:World} (hr:Region.ready md ops listed=rs) (hne:rs ≠ [])
 (h:AllX P md ops Q S jS fuel listed a w rs):wpAnyX P md ops Q S jS (fuel+1) listed a w:=⟨fun h0=>absurd (hr ▸ h0) hne,hr ▸ h⟩
end
open Go.RowKit
theorem step_fng {ops:Array Oper} {o:Oper} {a:Act} {w:World} {K:Act->World->Prop} {Q:Exit->Act->World->Prop} {E:Prop} (hw:Region.wanted o (yielded ops a.tmps)=true) (f:FuncId) (vals:Array Value)
 (hx:(execOp a.eval o).run Tryz.prog w = .ok (.enter f vals) w) {R:Ending->World->Prop} (hc:Calls Tryz.prog f vals w R) (hr : ∀ e w',R e w' -> ∃ v,e = .returned v)
 (h : ∀ v w',R (.returned v) w'->K (a.put o.dst v) w'):if Region.wanted o (yielded ops a.tmps)=true then Oper.wp Tryz.prog o a w K Q else E:=by
 rw[if_pos hw]
 unfold Oper.wp
 rw[hx,Oper.upon_enter]
 refine hc.mono fun e w' he=>?_
 obtain⟨v,rfl⟩:=hr e w' he
 exact h v w' he
section
variable {α : Type} {x0 x1 x2 x3 x4 x5 x6 x7 x8 x9 x10 x11 x12 x13 x14 x15 x16 x17 x18 x19 x20 x21 x22 x23 x24 x25 x26 x27 x28 x29 x30 x31 x32 x33 x34 x35 x36 x37 x38 x39 x40 x41 x42 x43 x44 : α} {l:List α}
theorem gt0:(List.toArray (x0::l))[0]?=some x0:=rfl
theorem gt1:(List.toArray (x0::x1::l))[1]?=some x1:=rfl
theorem gt2:(List.toArray (x0::x1::x2::l))[2]?=some x2:=rfl
theorem gt3:(List.toArray (x0::x1::x2::x3::l))[3]?=some x3:=rfl
theorem gt4:(List.toArray (x0::x1::x2::x3::x4::l))[4]?=some x4:=rfl
theorem gt5:(List.toArray (x0::x1::x2::x3::x4::x5::l))[5]?=some x5:=rfl
theorem gt6:(List.toArray (x0::x1::x2::x3::x4::x5::x6::l))[6]?=some x6:=rfl
theorem gt7:(List.toArray (x0::x1::x2::x3::x4::x5::x6::x7::l))[7]?=some x7:=rfl
theorem gt8:(List.toArray (x0::x1::x2::x3::x4::x5::x6::x7::x8::l))[8]?=some x8:=rfl
theorem gt9:(List.toArray (x0::x1::x2::x3::x4::x5::x6::x7::x8::x9::l))[9]?=some x9:=rfl
theorem gt10:(List.toArray (x0::x1::x2::x3::x4::x5::x6::x7::x8::x9::x10::l))[10]?=some x10:=rfl
theorem gt11:(List.toArray (x0::x1::x2::x3::x4::x5::x6::x7::x8::x9::x10::x11::l))[11]?=some x11:=rfl
theorem gt12:(List.toArray (x0::x1::x2::x3::x4::x5::x6::x7::x8::x9::x10::x11::x12::l))[12]?=some x12:=rfl
theorem gt13:(List.toArray (x0::x1::x2::x3::x4::x5::x6::x7::x8::x9::x10::x11::x12::x13::l))[13]?=some x13:=rfl
theorem gt14:(List.toArray (x0::x1::x2::x3::x4::x5::x6::x7::x8::x9::x10::x11::x12::x13::x14::l))[14]?=some x14:=rfl
theorem gt15:(List.toArray (x0::x1::x2::x3::x4::x5::x6::x7::x8::x9::x10::x11::x12::x13::x14::x15::l))[15]?=some x15:=rfl
theorem gt16:(List.toArray (x0::x1::x2::x3::x4::x5::x6::x7::x8::x9::x10::x11::x12::x13::x14::x15::x16::l))[16]?=some x16:=rfl
theorem gt17:(List.toArray (x0::x1::x2::x3::x4::x5::x6::x7::x8::x9::x10::x11::x12::x13::x14::x15::x16::x17::l))[17]?=some x17:=rfl
theorem gt18:(List.toArray (x0::x1::x2::x3::x4::x5::x6::x7::x8::x9::x10::x11::x12::x13::x14::x15::x16::x17::x18::l))[18]?=some x18:=rfl
theorem gt19:(List.toArray (x0::x1::x2::x3::x4::x5::x6::x7::x8::x9::x10::x11::x12::x13::x14::x15::x16::x17::x18::x19::l))[19]?=some x19:=rfl
theorem gt20:(List.toArray (x0::x1::x2::x3::x4::x5::x6::x7::x8::x9::x10::x11::x12::x13::x14::x15::x16::x17::x18::x19::x20::l))[20]?=some x20:=rfl
theorem gt21:(List.toArray (x0::x1::x2::x3::x4::x5::x6::x7::x8::x9::x10::x11::x12::x13::x14::x15::x16::x17::x18::x19::x20::x21::l))[21]?=some x21:=rfl
theorem gt22:(List.toArray (x0::x1::x2::x3::x4::x5::x6::x7::x8::x9::x10::x11::x12::x13::x14::x15::x16::x17::x18::x19::x20::x21::x22::l))[22]?=some x22:=rfl
theorem gt23:(List.toArray (x0::x1::x2::x3::x4::x5::x6::x7::x8::x9::x10::x11::x12::x13::x14::x15::x16::x17::x18::x19::x20::x21::x22::x23::l))[23]?=some x23:=rfl
theorem gt24:(List.toArray (x0::x1::x2::x3::x4::x5::x6::x7::x8::x9::x10::x11::x12::x13::x14::x15::x16::x17::x18::x19::x20::x21::x22::x23::x24::l))[24]?=some x24:=rfl
theorem gt25:(List.toArray (x0::x1::x2::x3::x4::x5::x6::x7::x8::x9::x10::x11::x12::x13::x14::x15::x16::x17::x18::x19::x20::x21::x22::x23::x24::x25::l))[25]?=some x25:=rfl
theorem gt26:(List.toArray (x0::x1::x2::x3::x4::x5::x6::x7::x8::x9::x10::x11::x12::x13::x14::x15::x16::x17::x18::x19::x20::x21::x22::x23::x24::x25::x26::l))[26]?=some x26:=rfl
theorem gt27:(List.toArray (x0::x1::x2::x3::x4::x5::x6::x7::x8::x9::x10::x11::x12::x13::x14::x15::x16::x17::x18::x19::x20::x21::x22::x23::x24::x25::x26::x27::l))[27]?=some x27:=rfl
theorem gt28:(List.toArray (x0::x1::x2::x3::x4::x5::x6::x7::x8::x9::x10::x11::x12::x13::x14::x15::x16::x17::x18::x19::x20::x21::x22::x23::x24::x25::x26::x27::x28::l))[28]?=some x28:=rfl
theorem gt29:(List.toArray (x0::x1::x2::x3::x4::x5::x6::x7::x8::x9::x10::x11::x12::x13::x14::x15::x16::x17::x18::x19::x20::x21::x22::x23::x24::x25::x26::x27::x28::x29::l))[29]?=some x29:=rfl
theorem gt30:(List.toArray (x0::x1::x2::x3::x4::x5::x6::x7::x8::x9::x10::x11::x12::x13::x14::x15::x16::x17::x18::x19::x20::x21::x22::x23::x24::x25::x26::x27::x28::x29::x30::l))[30]?=some x30:=rfl
theorem gt31:(List.toArray (x0::x1::x2::x3::x4::x5::x6::x7::x8::x9::x10::x11::x12::x13::x14::x15::x16::x17::x18::x19::x20::x21::x22::x23::x24::x25::x26::x27::x28::x29::x30::x31::l))[31]?=some x31:=rfl
theorem gt32:(List.toArray (x0::x1::x2::x3::x4::x5::x6::x7::x8::x9::x10::x11::x12::x13::x14::x15::x16::x17::x18::x19::x20::x21::x22::x23::x24::x25::x26::x27::x28::x29::x30::x31::x32::l))[32]?=some x32:=rfl
theorem gt33:(List.toArray (x0::x1::x2::x3::x4::x5::x6::x7::x8::x9::x10::x11::x12::x13::x14::x15::x16::x17::x18::x19::x20::x21::x22::x23::x24::x25::x26::x27::x28::x29::x30::x31::x32::x33::l))[33]?=some x33:=rfl
theorem gt34:(List.toArray (x0::x1::x2::x3::x4::x5::x6::x7::x8::x9::x10::x11::x12::x13::x14::x15::x16::x17::x18::x19::x20::x21::x22::x23::x24::x25::x26::x27::x28::x29::x30::x31::x32::x33::x34::l))[34]?=some x34:=rfl
theorem gt35:(List.toArray (x0::x1::x2::x3::x4::x5::x6::x7::x8::x9::x10::x11::x12::x13::x14::x15::x16::x17::x18::x19::x20::x21::x22::x23::x24::x25::x26::x27::x28::x29::x30::x31::x32::x33::x34::x35::l))[35]?=some x35:=rfl
theorem gt36:(List.toArray (x0::x1::x2::x3::x4::x5::x6::x7::x8::x9::x10::x11::x12::x13::x14::x15::x16::x17::x18::x19::x20::x21::x22::x23::x24::x25::x26::x27::x28::x29::x30::x31::x32::x33::x34::x35::x36::l))[36]?=some x36:=rfl
theorem gt37:(List.toArray (x0::x1::x2::x3::x4::x5::x6::x7::x8::x9::x10::x11::x12::x13::x14::x15::x16::x17::x18::x19::x20::x21::x22::x23::x24::x25::x26::x27::x28::x29::x30::x31::x32::x33::x34::x35::x36::x37::l))[37]?=some x37:=rfl
theorem gt38:(List.toArray (x0::x1::x2::x3::x4::x5::x6::x7::x8::x9::x10::x11::x12::x13::x14::x15::x16::x17::x18::x19::x20::x21::x22::x23::x24::x25::x26::x27::x28::x29::x30::x31::x32::x33::x34::x35::x36::x37::x38::l))[38]?=some x38:=rfl
theorem gt39:(List.toArray (x0::x1::x2::x3::x4::x5::x6::x7::x8::x9::x10::x11::x12::x13::x14::x15::x16::x17::x18::x19::x20::x21::x22::x23::x24::x25::x26::x27::x28::x29::x30::x31::x32::x33::x34::x35::x36::x37::x38::x39::l))[39]?=some x39:=rfl
theorem gt40:(List.toArray (x0::x1::x2::x3::x4::x5::x6::x7::x8::x9::x10::x11::x12::x13::x14::x15::x16::x17::x18::x19::x20::x21::x22::x23::x24::x25::x26::x27::x28::x29::x30::x31::x32::x33::x34::x35::x36::x37::x38::x39::x40::l))[40]?=some x40:=rfl
theorem gt41:(List.toArray (x0::x1::x2::x3::x4::x5::x6::x7::x8::x9::x10::x11::x12::x13::x14::x15::x16::x17::x18::x19::x20::x21::x22::x23::x24::x25::x26::x27::x28::x29::x30::x31::x32::x33::x34::x35::x36::x37::x38::x39::x40::x41::l))[41]?=some x41:=rfl
theorem gt42:(List.toArray (x0::x1::x2::x3::x4::x5::x6::x7::x8::x9::x10::x11::x12::x13::x14::x15::x16::x17::x18::x19::x20::x21::x22::x23::x24::x25::x26::x27::x28::x29::x30::x31::x32::x33::x34::x35::x36::x37::x38::x39::x40::x41::x42::l))[42]?=some x42:=rfl
theorem gt43:(List.toArray (x0::x1::x2::x3::x4::x5::x6::x7::x8::x9::x10::x11::x12::x13::x14::x15::x16::x17::x18::x19::x20::x21::x22::x23::x24::x25::x26::x27::x28::x29::x30::x31::x32::x33::x34::x35::x36::x37::x38::x39::x40::x41::x42::x43::l))[43]?=some x43:=rfl
theorem gt44:(List.toArray (x0::x1::x2::x3::x4::x5::x6::x7::x8::x9::x10::x11::x12::x13::x14::x15::x16::x17::x18::x19::x20::x21::x22::x23::x24::x25::x26::x27::x28::x29::x30::x31::x32::x33::x34::x35::x36::x37::x38::x39::x40::x41::x42::x43::x44::l))[44]?=some x44:=rfl
end
section
variable {P:Program} {ops:Array Oper} {Q:Exit->Act->World->Prop} {md:Region.Mode} {S:World->Prop} {jS:Nat}
theorem tk {i:Nat} {oi:Oper} {v:Value} {fuel:Nat} {listed l2:Array Bool} {a a2:Act} {w:World} (hi:ops[i]?=some oi) (hS:S w) (h:wpAnyX P md ops Q S jS fuel l2 a2 w)
 (hs:Region.noSelect ops=true:=by kernel_rfl) (hf:Region.free md ops listed i=true:=by kernel_rfl) (hr:(Region.ready md ops listed).contains i=true:=by kernel_rfl) (hwt:waits md ops jS i=true:=by kernel_rfl)
 (hQ : ∀ c a w,Q (.panic c) (a.put oi.dst v) w->Q (.panic c) a w:=by exact fun _ _ _ h=>h) (hwa:Region.wanted oi (yielded ops a.tmps)=true:=by rfl)
 (hy : ∀ w,S w->(execOp a.eval oi).run P w = .ok (.value v) w:=by (intro wq hSw;(try dsimp only at hSw);go_simp;try (with_reducible rfl)))
 (hl:listed.setIfInBounds i true=l2:=by ((try simp only[Act.put,List.setIfInBounds_toArray,List.set_cons_zero,List.set_cons_succ]);rfl)) (ha:a.put oi.dst v=a2:=by ((try simp only[Act.put,List.setIfInBounds_toArray,List.set_cons_zero,List.set_cons_succ]);rfl)):wpAnyX P md ops Q S jS (fuel+1) listed a w :=
 wpAnyX_take hi hs hf hr hwt hQ (Or.inl ⟨hwa,hy⟩) hS (by rw[hl,ha];exact h)
theorem tu {i:Nat} {oi:Oper} {fuel:Nat} {listed l2:Array Bool} {a a2:Act} {w:World} (hi:ops[i]?=some oi) (hS:S w) (h:wpAnyX P md ops Q S jS fuel l2 a2 w)
 (hs:Region.noSelect ops=true:=by kernel_rfl) (hf:Region.free md ops listed i=true:=by kernel_rfl) (hr:(Region.ready md ops listed).contains i=true:=by kernel_rfl) (hwt:waits md ops jS i=true:=by kernel_rfl)
 (hQ : ∀ c a w,Q (.panic c) (a.put oi.dst undef) w->Q (.panic c) a w:=by exact fun _ _ _ h=>h) (hwa:Region.wanted oi (yielded ops a.tmps)=false:=by rfl)
 (hl:listed.setIfInBounds i true=l2:=by ((try simp only[Act.put,List.setIfInBounds_toArray,List.set_cons_zero,List.set_cons_succ]);rfl)) (ha:a.put oi.dst undef=a2:=by ((try simp only[Act.put,List.setIfInBounds_toArray,List.set_cons_zero,List.set_cons_succ]);rfl)):wpAnyX P md ops Q S jS (fuel+1) listed a w :=
 wpAnyX_take hi hs hf hr hwt hQ (Or.inr ⟨hwa,rfl⟩) hS (by rw[hl,ha];exact h)
theorem kk {i fuel:Nat} {listed l2:Array Bool} {a a2:Act} {w:World} {K':Act->World->Prop} (hKK:Shut (∀ a w,(i=jS\/S w)->wpAnyX P md ops Q S jS fuel (listed.setIfInBounds i true) a w->K' a w)) (hS:i=jS\/S w) (h:wpAnyX P md ops Q S jS fuel l2 a2 w)
 (hl:listed.setIfInBounds i true=l2:=by ((try simp only[Act.put,List.setIfInBounds_toArray,List.set_cons_zero,List.set_cons_succ]);rfl)) (ha:a=a2:=by ((try simp only[Act.put,List.setIfInBounds_toArray,List.set_cons_zero,List.set_cons_succ]);rfl)):K' a w :=
 hKK.out _ _ hS (by rw[hl,ha];exact h)
end
open Go.RowKit
namespace Z
theorem data_ok (k j:Nat) (hk:k<256) : ∃ c,cn (typeK j) (dataK (typeK j) k)=some c:=by
 have h : ∀ k,k<256 -> ∀ j,j<10->(cn (kinds.getD j 0) (dataK (kinds.getD j 0) k)).isSome=true:=by decide +kernel
 exact Option.isSome_iff_exists.1 (h k hk (j % 10) (Nat.mod_lt _ (by decide)))
theorem ttlK_lt (k:Nat):ttlK k<4294967296:=by
 have h : ∀ j,j<4 -> [30,30,60,5].getD j 0<4294967296:=by decide
 exact h _ (Nat.mod_lt _ (by decide))
end Z
theorem exA_small:N.Small Z.exA:=by
 have h2:Z.exA.length<=1000000 /\ ∀ l∈Z.exA,l.length<=1000000:=by decide
 exact h2
theorem exA_low:N.lowN Z.exA=Z.exA:=by decide +kernel
end Go.Proofs.YtmbcegljmhcdeaaGreat
