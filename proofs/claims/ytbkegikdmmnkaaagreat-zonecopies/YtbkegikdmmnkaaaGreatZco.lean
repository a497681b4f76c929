/- ZoneCopies walked. -/
import Derived.Test.YtbkegikdmmnkaaaGreatNmA
import Derived.Test.YtbkegikdmmnkaaaGreatZpl
import Derived.Test.YtbkegikdmmnkaaaGreatBwd
import Derived.Test.YtbkegikdmmnkaaaGreatNpt
import Derived.Test.YtbkegikdmmnkaaaGreatZps
import Derived.Test.YtbkegikdmmnkaaaGreatAkA
import Derived.Test.YtbkegikdmmnkaaaGreatSrB
import Derived.Test.YtbkegikdmmnkaaaGreatTyA
import Derived.Test.YtbkegikdmmnkaaaGreatTyB
import Derived.Test.YtbkegikdmmnkaaaGreatTak
import Derived.Test.YtbkegikdmmnkaaaGreatZpl2
import Derived.Test.YtbkegikdmmnkaaaGreatNdr
import Derived.Test.YtbkegikdmmnkaaaGreatNmC
import Derived.Test.YtbkegikdmmnkaaaGreatRefG
import Derived.Test.YtbkegikdmmnkaaaGreatRefK
import Derived.Test.YtbkegikdmmnkaaaGreatRefH
import Derived.Test.YtbkegikdmmnkaaaGreatRefZ
import Derived.Test.YtbkegikdmmnkaaaGreatRpp
import Derived.Test.YtbkegikdmmnkaaaGreatRdq
import Derived.Test.YtbkegikdmmnkaaaGreatRpv
import Derived.Test.YtbkegikdmmnkaaaGreatZsx
import Derived.Test.YtbkegikdmmnkaaaGreatZpw
import Derived.Test.YtbkegikdmmnkaaaGreatHst
import Derived.Ground.SlgmProg
import Derived.Ground.GgzProg
import Derived.Ground.SlgnProg
import Derived.Ground.SlmcProg
import Derived.Shelf.SortM.Plain
import Derived.Shelf.SortM.SortNone
import Derived.Shelf.SlIter.Nil
import Derived.Shelf.SlIter.Sorted
import Derived.Shelf.SlicesE.Clone
import Derived.Shelf.SlMaps.Clone
import Derived.Test.YtbkegikdmmnkaaaGreatChecked
import Derived.Deep.AppendSrc
namespace Go.Proofs
open Go.Shelf
def Tryz.mapsCloneA_ren:Go.Shelf.Ren:=⟨fun | 5=>105 | 7=>137 | n=>n,fun | 23=>99 | 25=>9 | 3=>37 | 4=>4 | 20=>20 | n=>n,fun | n=>n⟩
theorem Tryz.mapsCloneA:Go.Proofs.SlLaysW.n5 Tryz.prog Tryz.mapsCloneA_ren := {
 mixed:=by kernel_rfl
 f5:=⟨Tryz.f105.name,by decide,Tryz.func105.trans (congrArg some (by kernel_rfl))⟩
 f7:=Tryz.func137.trans (congrArg some (by kernel_rfl))
 t4:=Tryz.underlying4
 a4:=Tryz.isAgg4
 z4:=Tryz.sizeOf4
 v4:=Tryz.zeroValue4
 t20:=Tryz.underlying20
 a20:=Tryz.isAgg20
 z20:=Tryz.sizeOf20
 v20:=Tryz.zeroValue20
 t23:=Tryz.underlying99
 a23:=Tryz.isAgg99
 z23:=Tryz.sizeOf99
 v23:=Tryz.zeroValue99 }
end Go.Proofs
namespace Go.Proofs.YtbkegikdmmnkaaaGreat
set_option maxRecDepth 5000
open Go.RowKit Go.Shelf
theorem mclone_any (w:World) (b K:Nat) (f:Lit->Option Value) (h:MapAt 9 w b f K):Calls Tryz.prog 105 #[.map (some b)] w fun e w'=>e = .returned (.map (some w.heap.size))/\MapAt 9 w' w.heap.size f K/\Below w.heap.size w w'/\w'.heap.size=w.heap.size+1:=by
 obtain⟨D,⟨es,clock,hb,F,hs,hD⟩,hv⟩:=h
 refine (AnyW.maps_Clone Tryz.mapsCloneA b es clock w hb).mono fun e w' ⟨he,hw⟩=>?_
 subst hw
 exact⟨he,⟨D,⟨es,clock,(Below.refl w.heap.size w).alloc (Nat.le_refl _) (.map es clock) |> fun _=>heap_alloc_last w _,F,hs,hD⟩,hv⟩,(Below.refl _ w).alloc (Nat.le_refl _) _,by simp⟩
open Go.RowKit
theorem u16_ne {a b:Nat} (h:a≠b):Lit.int .u16 (a:Int) ≠ .int .u16 (b:Int):=fun e=>h (by injection e with _ h;omega)
theorem str_ne {a b:List UInt8} (h:a≠b):Lit.string a ≠ .string b:=fun e=>h (by injection e)
open Go.RowKit
theorem ZLive.num {X:Nat->Prop} {w:World} {Zb:Nat} {A:List (List UInt8)} {L:List Z.R} {K:Nat} (h:ZLive X w Zb A L K):L.length<=2000:=by
 obtain⟨ρ,G,C,h1,h2,h3⟩:=h;exact h1.num
open Go.RowKit
theorem SegR.bel {w w':World} {a:Option Addr} {L:List Z.R} {vss:List (List Value)} (h:SegR w a L vss) (hb:Below w.heap.size w w'):SegR w' a L vss :=
 ⟨h.1.kb fun _ _ k=>k.kb (KB.of_below hb),fun hn=>by
  obtain⟨g,o,e,hlt,hc⟩:=h.2 hn
  exact⟨g,o,e,Nat.lt_of_lt_of_le hlt hb.size,fun j u hu=>cell_bm hb (hc j u hu) hlt⟩⟩
end Go.Proofs.YtbkegikdmmnkaaaGreat
namespace Go.Proofs.YtbkegikdmmnkaaaGreat
set_option maxRecDepth 5000
open Go.RowKit
set_option maxRecDepth 20000 in
set_option maxHeartbeats 1000000 in
theorem hrecord_same (n:List (List UInt8)) (d:List UInt8) (a1 a2 b1 b2:Option Addr) (l c1 c2 dl e1 e2 t s:Nat) (w:World) (hl:Hid (n.length=l)) (hs1:SlS w a1 n) (hs2:SlS w a2 n) (hm:l<=9223372036854775807) (hdl:Hid (d.length=dl)) (hb1:SlL w b1 d) (hb2:SlL w b2 d) :
 Calls Tryz.prog 54 #[.agg #[.slice a1 l c1,.int .u16 (t:Int),.int .u16 1,.int .u32 (s:Int),.slice b1 dl e1],.agg #[.slice a2 l c2,.int .u16 (t:Int),.int .u16 1,.int .u32 (s:Int),.slice b2 dl e2]] w fun e w'=>e = .returned (.bool true)/\Below w.heap.size w w':=by
 obtain⟨wB,hwB⟩ : ∃ wB,wB=(w.alloc (.cells #[.slice a1 l c1,.int .u16 (t:Int),.int .u16 1,.int .u32 (s:Int),.slice b1 dl e1] 39)).alloc (.cells #[.slice a2 l c2,.int .u16 (t:Int),.int .u16 1,.int .u32 (s:Int),.slice b2 dl e2] 39):=⟨_,rfl⟩
 have hr1:RowAt wB w.heap.size 39 #[.slice a1 l c1,.int .u16 (t:Int),.int .u16 1,.int .u32 (s:Int),.slice b1 dl e1]:=by rw[hwB];exact (RowAt.new w _ _).alloc _
 have hr2:RowAt wB (w.heap.size+1) 39 #[.slice a2 l c2,.int .u16 (t:Int),.int .u16 1,.int .u32 (s:Int),.slice b2 dl e2]:=by
  rw[hwB]
  have:=RowAt.new (w.alloc (.cells #[.slice a1 l c1,.int .u16 (t:Int),.int .u16 1,.int .u32 (s:Int),.slice b1 dl e1] 39)) 39 #[.slice a2 l c2,.int .u16 (t:Int),.int .u16 1,.int .u32 (s:Int),.slice b2 dl e2]
  rw[World.size_alloc] at this
  exact this
 have hb:Below w.heap.size w wB:=by rw[hwB];exact ((Below.refl _ w).alloc (Nat.le_refl _) _).alloc (by simp) _
 have hnm:=hname_any n n a1 a2 l l c1 c2 wB hl hl (hs1.below hb (Nat.le_refl _)) (hs2.below hb (Nat.le_refl _)) hm hm
 rw[decide_eq_true (rfl:n=n)] at hnm
 have HR1:=hide hr1
 have HR2:=hide hr2
 have HB:=hide hb
 have HW:=hide hwB
 have HB1:=hide (hb1.below hb (Nat.le_refl _))
 have HB2:=hide (hb2.below hb (Nat.le_refl _))
 clear hr1 hr2 hb hwB hb1 hb2 hs1 hs2
 have z1:wB.cell? ⟨w.heap.size,0,none⟩=some (.slice a1 l c1):=HR1.out.cell 0
 have z2:wB.cell? ⟨w.heap.size+1,0,none⟩=some (.slice a2 l c2):=HR2.out.cell 0
 go_enter Tryz.func54,Tryz.ntmps54
 go_wp2_with (first
  | (go_at_call 28;rw[<- HW.out];refine hnm.mono ?_;rintro e w1 ⟨rfl,hk⟩;have HBW:Hid (Below w.heap.size w w1):=(by obtain⟨q,rfl⟩:=hk;exact hide (below_drewN HB.out q));have hbq:Below wB.heap.size wB w1:=(by obtain⟨q,rfl⟩:=hk;exact below_drewN (Below.refl _ wB) q);have x1:w1.cell? ⟨w.heap.size,1,none⟩=some (.int .u16 (t:Int)):=(HR1.out.below hbq HR1.out.lt).cell 1;have x2:w1.cell? ⟨w.heap.size,2,none⟩=some (.int .u16 1):=(HR1.out.below hbq HR1.out.lt).cell 2;have x3:w1.cell? ⟨w.heap.size,3,none⟩=some (.int .u32 (s:Int)):=(HR1.out.below hbq HR1.out.lt).cell 3;have x4:w1.cell? ⟨w.heap.size,4,none⟩=some (.slice b1 dl e1):=(HR1.out.below hbq HR1.out.lt).cell 4;have y1:w1.cell? ⟨w.heap.size+1,1,none⟩=some (.int .u16 (t:Int)):=(HR2.out.below hbq HR2.out.lt).cell 1;have y2:w1.cell? ⟨w.heap.size+1,2,none⟩=some (.int .u16 1):=(HR2.out.below hbq HR2.out.lt).cell 2;have y3:w1.cell? ⟨w.heap.size+1,3,none⟩=some (.int .u32 (s:Int)):=(HR2.out.below hbq HR2.out.lt).cell 3;have y4:w1.cell? ⟨w.heap.size+1,4,none⟩=some (.slice b2 dl e2):=(HR2.out.below hbq HR2.out.lt).cell 4;have HBY:=hide (bytes_same d b1 b2 dl dl e1 e2 w1 (HB1.out.below hbq (Nat.le_refl _)) (HB2.out.below hbq (Nat.le_refl _)) hdl hdl);clear hk hbq)
  | (go_at_call 95;refine HBY.out.mono ?_;rintro e w2 ⟨rfl,rfl⟩)
  | fail)
 go_ret
 exact⟨rfl,HBW.out⟩
set_option maxRecDepth 20000 in
set_option maxHeartbeats 1500000 in
theorem hrecords_same (L:List Z.R) (a b:Option Addr) (k c1 c2 base1 base2:Nat) (w:World) (hk:Hid (k=L.length)) (h1:RL w base1 a c1 L) (h2:RL w base2 b c2 L) (hkb:k<=100000) (hsm:Hid (∀ x∈L,x.p.length<=128)) :
 Calls Tryz.prog 15 #[.slice a k c1,.slice b k c2] w fun e w'=>e = .returned (.bool true)/\Below w.heap.size w w':=by
 have H1:=hide h1
 have H2:=hide h2
 clear h1 h2
 go_enter Tryz.func15,Tryz.ntmps15
 go_wp2
 go_loopw [5] (fun i wr => ∃ j:Nat,i = .int .i64 (j:Int)/\j<=k/\Below w.heap.size w wr) (fun i _=>k - (intOf i).toNat)
 case atStart=>exact⟨0,rfl,by omega,Below.refl _ _⟩
 case round =>
  obtain⟨j,rfl,hj,hB⟩:=hrel
  have HB:=hide hB
  clear hB
  by_cases hlt:j<k
  ·have hjL:j<L.length:=by have:=hk.out;omega
   obtain⟨x,hx⟩ : ∃ x,L[j]?=some x:=⟨_,List.getElem?_eq_getElem hjL⟩
   have hxl:=hsm.out x (List.mem_of_getElem? hx)
   have r1:=H1.out.bel HB.out
   have r2:=H2.out.bel HB.out
   obtain⟨g,na,nc,da,dc,rfl,q0,q1,q2,q3,q4,hT,_,_,hTd,_,_⟩:=r1.at_ hx
   obtain⟨gb,nb,nd,db,dd,rfl,p0,p1,p2,p3,p4,hU,_,_,hUd,_,_⟩:=r2.at_ hx
   have hg1:=RL.blk r1 (by omega)
   have hg2:=RL.blk r2 (by omega)
   have hrec : ∀ W,Below wr.heap.size wr W->Calls Tryz.prog 54 #[.agg #[.slice na x.p.length nc,.int .u16 (x.t:Int),.int .u16 1,.int .u32 (x.ttl:Int),.slice da x.d.length dc],.agg #[.slice nb x.p.length nd,.int .u16 (x.t:Int),.int .u16 1,.int .u32 (x.ttl:Int),.slice db x.d.length dd]] W fun e w'=>e = .returned (.bool true)/\Below W.heap.size W w':=fun W hW=>hrecord_same x.p.reverse x.d na nb da db x.p.length nc nd x.d.length dc dd x.t x.ttl W (hide (List.length_reverse)) (hT.1.below hW (Nat.le_refl _)) (hU.1.below hW (Nat.le_refl _)) (by omega) (hide rfl) (hTd.1.below hW (Nat.le_refl _)) (hUd.1.below hW (Nat.le_refl _))
   obtain⟨pl,hpl⟩ : ∃ pl,pl=x.p.length:=⟨_,rfl⟩
   obtain⟨dl,hdl⟩ : ∃ dl,dl=x.d.length:=⟨_,rfl⟩
   obtain⟨xt,hxt⟩ : ∃ xt,xt=x.t:=⟨_,rfl⟩
   obtain⟨xl,hxl2⟩ : ∃ xl,xl=x.ttl:=⟨_,rfl⟩
   rw[<- hpl] at q0 p0 hrec
   rw[<- hdl] at q4 p4 hrec
   rw[<- hxt] at q1 p1 hrec
   rw[<- hxl2] at q3 p3 hrec
   have HREC:=hide hrec
   have SAll:Hid (∀ w',Below wr.heap.size wr w'->w'.cell? ⟨g,j*5,none⟩=some (.slice na pl nc)/\w'.cell? ⟨g,j*5+1,none⟩=some (.int .u16 (xt:Int))/\w'.cell? ⟨g,j*5+2,none⟩=some (.int .u16 1)/\w'.cell? ⟨g,j*5+3,none⟩=some (.int .u32 (xl:Int))/\w'.cell? ⟨g,j*5+4,none⟩=some (.slice da dl dc)/\w'.cell? ⟨gb,j*5,none⟩=some (.slice nb pl nd)/\w'.cell? ⟨gb,j*5+1,none⟩=some (.int .u16 (xt:Int))/\w'.cell? ⟨gb,j*5+2,none⟩=some (.int .u16 1)/\w'.cell? ⟨gb,j*5+3,none⟩=some (.int .u32 (xl:Int))/\w'.cell? ⟨gb,j*5+4,none⟩=some (.slice db dl dd)):=hide fun W hW=>⟨cell_bm hW q0 hg1,cell_bm hW q1 hg1,cell_bm hW q2 hg1,cell_bm hW q3 hg1,cell_bm hW q4 hg1,cell_bm hW p0 hg2,cell_bm hW p1 hg2,cell_bm hW p2 hg2,cell_bm hW p3 hg2,cell_bm hW p4 hg2⟩
   have hjk:(j:Int)<(k:Int):=by omega
   clear hx hxl r1 r2 q0 q1 q2 q3 q4 p0 p1 p2 p3 p4 hT hTd hU hUd hg1 hg2 hrec hpl hdl hxt hxl2
   go_wp2
   refine wp_region_X (S:=fun w'=>w'.cell? ⟨g,j*5,none⟩=some (.slice na pl nc)/\w'.cell? ⟨g,j*5+1,none⟩=some (.int .u16 (xt:Int))/\w'.cell? ⟨g,j*5+2,none⟩=some (.int .u16 1)/\w'.cell? ⟨g,j*5+3,none⟩=some (.int .u32 (xl:Int))/\w'.cell? ⟨g,j*5+4,none⟩=some (.slice da dl dc)/\w'.cell? ⟨gb,j*5,none⟩=some (.slice nb pl nd)/\w'.cell? ⟨gb,j*5+1,none⟩=some (.int .u16 (xt:Int))/\w'.cell? ⟨gb,j*5+2,none⟩=some (.int .u16 1)/\w'.cell? ⟨gb,j*5+3,none⟩=some (.int .u32 (xl:Int))/\w'.cell? ⟨gb,j*5+4,none⟩=some (.slice db dl dd)) (jS:=1000) (by kernel_rfl) ?_
   have BA:Hid (Below wr.heap.size wr wr.drew):=hide ((Below.refl _ wr).drew)
   have SA:=hide (SAll.out _ BA.out)
   generalize wr.drew=w1d at BA SA ⊢
   refine tk gt0 SA.out ?_
   refine tk gt1 SA.out ?_
   refine tk gt2 SA.out ?_
   refine tk gt3 SA.out ?_
   refine tk gt4 SA.out ?_
   refine tk gt5 SA.out ?_
   refine tk gt6 SA.out ?_
   refine tk gt7 SA.out ?_
   refine rdy gt8 (fun K hKK=>?_)
   refine step_fng (by rfl) _ _ (by go_simp) (HREC.out _ BA.out) (by rintro e w' ⟨rfl,_⟩;exact⟨_,rfl⟩) ?_
   rintro _ w2 ⟨he,hb2⟩
   cases he
   have B2:=hide (BA.out.trans (hb2.mono BA.out.size))
   have SB:=hide (SAll.out _ B2.out)
   refine kk hKK (Or.inr SB.out) ?_
   clear hKK hb2 SA BA
   refine tk gt9 SB.out ?_
   refine wpAnyX_done (by kernel_rfl) ?_ _
   go_wp2
   go_roundw
   case rel=>exact⟨j+1,by go_num,by omega,HB.out.trans (B2.out.mono HB.out.size)⟩
   case measure=>simp[intOf];omega
  ·obtain rfl:j=k:=by omega
   go_wp2
   go_ret
   exact⟨rfl,HB.out⟩
end Go.Proofs.YtbkegikdmmnkaaaGreat
namespace Go.Proofs.YtbkegikdmmnkaaaGreat
set_option maxRecDepth 5000
open Go.RowKit
namespace Role
def pre (l:List UInt8):Role->Role
 | .none => .none
 | .node p => .node (l::p)
 | .sets p => .sets (l::p)
 | .below p => .below (l::p)
 | .data p t => .data (l::p) t
def or (l:List UInt8) (r r2:Role):Role:=match r with
 | .none=>pre l r2
 | .node p => .node p
 | .sets p => .sets p
 | .below p => .below p
 | .data p t => .data p t
theorem or_left {l:List UInt8} {r r2:Role} (h:r ≠ .none):or l r r2=r:=by cases r <;> first | rfl | exact absurd rfl h
theorem or_right (l:List UInt8) (r2:Role):or l .none r2=pre l r2:=rfl
end Role
def graftG {α : Type} (l:List UInt8) (G1 G2:List (List UInt8) -> α):List (List UInt8) -> α
 | []=>G1 []
 | s::q=>if s=l then G2 q else G1 (s::q)
theorem graft_nil {α : Type} (l:List UInt8) (G1 G2:List (List UInt8) -> α):graftG l G1 G2 []=G1 []:=rfl
theorem graft_in {α : Type} (l:List UInt8) (G1 G2:List (List UInt8) -> α) (q:List (List UInt8)):graftG l G1 G2 (l::q)=G2 q:=if_pos rfl
theorem graft_out {α : Type} (l:List UInt8) (G1 G2:List (List UInt8) -> α) {s:List UInt8} (h:s≠l) (q:List (List UInt8)):graftG l G1 G2 (s::q)=G1 (s::q):=if_neg h
theorem NodeIs.as {w w':World} {G G':List (List UInt8)->Option Nd} {C C':List (List UInt8)->Nat->Option Z.St} {K K':Nat} {p p':List (List UInt8)} {x:Nd} (h:NodeIs w G C K p x) (hK:K<=K') (hC : ∀ t,C' p' t=C p t)
 (hslL : ∀ ao l,SlL w ao l->SlL w' ao l) (hn:w'.heap[x.n]?=w.heap[x.n]?) (hs:w'.heap[x.s]?=w.heap[x.s]?) (hb:MapS w' x.b (fun l=>(G' (p' ++ [l])).map fun y=>ptr y.n) K') (hd : ∀ t S,C p t=some S->w'.heap[x.dm t]?=w.heap[x.dm t]?):NodeIs w' G' C' K' p' x where
 row:=hn.trans h.row
 sets:=MapU.ext ((h.sets.heap hs).mono hK) fun t _=>by simp only[hC]
 below:=hb
 data:=fun t S hS=>by
  rw[hC] at hS
  obtain⟨f,h1,h2⟩:=h.data t S hS
  exact⟨f,(h1.heap (hd t S hS)).mono hK,fun c=>(h2 c).keep hslL⟩
theorem TreeAt.graft {w w':World} {ρ1 ρ2:Nat->Role} {G1 G2:List (List UInt8)->Option Nd} {C1 C2:List (List UInt8)->Nat->Option Z.St} {K K':Nat} (T1:TreeAt w ρ1 G1 C1 K) (T2:TreeAt w ρ2 G2 C2 K) {x y:Nd} (hx:G1 []=some x) (hy:G2 []=some y) (l:List UInt8)
 (hdis : ∀ i, ρ2 i ≠ .none -> ρ1 i = .none) (hsz:w.heap.size<=w'.heap.size) (hoth : ∀ i,i<w.heap.size->i≠x.b->w'.heap[i]?=w.heap[i]?) (hK:K<=K')
 (hb:MapS w' x.b (sput (fun s=>(G1 [s]).map fun y=>ptr y.n) l (ptr y.n)) K') :
 TreeAt w' (fun i=>Role.or l (ρ1 i) (ρ2 i)) (graftG l G1 G2) (graftG l C1 C2) K':=by
 have hb1:=T1.rb [] x hx
 have hslL : ∀ ao l,SlL w ao l->SlL w' ao l:=fun ao l=>slL_keep hsz fun i hi hz=>hoth i hi fun e=>hz (T1.kind i (by rw[e,hb1];simp))
 have k1 : ∀ i, ρ1 i ≠ .none -> ρ1 i ≠ .below []->w'.heap[i]?=w.heap[i]?:=fun i h1 h2=>hoth i (T1.kind i h1).lt fun e=>h2 (by rw[e,hb1])
 have k2 : ∀ i, ρ2 i ≠ .none->w'.heap[i]?=w.heap[i]?:=fun i h1=>hoth i (T2.kind i h1).lt fun e=>by
  have:=hdis i h1
  rw[e,hb1] at this;cases this
 have r1 : ∀ {i r}, ρ1 i=r->r ≠ .none->Role.or l (ρ1 i) (ρ2 i)=r:=fun h h2=>by rw[h];exact Role.or_left h2
 have r2 : ∀ {i r}, ρ2 i=r->r ≠ .none->Role.or l (ρ1 i) (ρ2 i)=Role.pre l r:=fun {i r} h h2=>by rw[hdis i (by rw[h];exact h2),h];rfl
 refine⟨by rw[graft_nil,hx];rfl,?_,?_,?_,?_,?_,?_,?_,?_⟩
 ·intro p s h
  match p with
  | []=>rw[graft_nil,hx];rfl
  | a::p =>
   by_cases e:a=l
   ·subst e;rw[List.cons_append,graft_in] at h;rw[graft_in];exact T2.up p s h
   ·rw[List.cons_append,graft_out _ _ _ e] at h;rw[graft_out _ _ _ e];exact T1.up (a::p) s h
 ·intro p z h
  match p with
  | [] =>
   rw[graft_nil,hx] at h;injection h with h;subst h
   refine (T1.node [] x hx).as hK (fun t=>rfl) hslL (k1 _ (by rw[T1.rn [] x hx];simp) (by rw[T1.rn [] x hx];simp)) (k1 _ (by rw[T1.rs [] x hx];simp) (by rw[T1.rs [] x hx];simp)) ?_ (fun t S hS=>k1 _ (by rw[T1.rd [] x t S hx hS];simp) (by rw[T1.rd [] x t S hx hS];simp))
   refine hb.ext fun s=>?_
   by_cases e:s=l
   ·subst e
    rw[List.nil_append,graft_in,hy];simp[sput]
   ·rw[List.nil_append,graft_out _ _ _ e];simp[sput,e]
  | a::p =>
   by_cases e:a=l
   ·subst e
    rw[graft_in] at h
    have hn:=T2.node p z h
    refine hn.as hK (fun t=>by rw[graft_in]) hslL (k2 _ (by rw[T2.rn p z h];simp)) (k2 _ (by rw[T2.rs p z h];simp)) ?_ (fun t S hS=>k2 _ (by rw[T2.rd p z t S h hS];simp))
    refine MapS.ext ((hn.below.heap (k2 _ (by rw[T2.rb p z h];simp))).mono hK) fun s=>?_
    rw[List.cons_append,graft_in]
   ·rw[graft_out _ _ _ e] at h
    have hn:=T1.node (a::p) z h
    refine hn.as hK (fun t=>by rw[graft_out _ _ _ e]) hslL (k1 _ (by rw[T1.rn _ z h];simp) (by rw[T1.rn _ z h];simp)) (k1 _ (by rw[T1.rs _ z h];simp) (by rw[T1.rs _ z h];simp)) ?_ (fun t S hS=>k1 _ (by rw[T1.rd _ z t S h hS];simp) (by rw[T1.rd _ z t S h hS];simp))
    refine MapS.ext ((hn.below.heap (k1 _ (by rw[T1.rb _ z h];simp) (by rw[T1.rb _ z h];simp))).mono hK) fun s=>?_
    rw[List.cons_append,graft_out _ _ _ e]
 ·intro p t S h
  match p with
  | []=>rw[graft_nil] at h;rw[graft_nil];exact T1.cov [] t S h
  | a::p =>
   by_cases e:a=l
   ·subst e;rw[graft_in] at h;rw[graft_in];exact T2.cov p t S h
   ·rw[graft_out _ _ _ e] at h;rw[graft_out _ _ _ e];exact T1.cov (a::p) t S h
 ·intro p z h
  match p with
  | []=>exact r1 (T1.rn [] z h) (by simp)
  | a::p =>
   by_cases e:a=l
   ·subst e;rw[graft_in] at h;exact r2 (T2.rn p z h) (by simp)
   ·rw[graft_out _ _ _ e] at h;exact r1 (T1.rn (a::p) z h) (by simp)
 ·intro p z h
  match p with
  | []=>exact r1 (T1.rs [] z h) (by simp)
  | a::p =>
   by_cases e:a=l
   ·subst e;rw[graft_in] at h;exact r2 (T2.rs p z h) (by simp)
   ·rw[graft_out _ _ _ e] at h;exact r1 (T1.rs (a::p) z h) (by simp)
 ·intro p z h
  match p with
  | []=>exact r1 (T1.rb [] z h) (by simp)
  | a::p =>
   by_cases e:a=l
   ·subst e;rw[graft_in] at h;exact r2 (T2.rb p z h) (by simp)
   ·rw[graft_out _ _ _ e] at h;exact r1 (T1.rb (a::p) z h) (by simp)
 ·intro p z t S h hS
  match p with
  | []=>exact r1 (T1.rd [] z t S h hS) (by simp)
  | a::p =>
   by_cases e:a=l
   ·subst e;rw[graft_in] at h hS;exact r2 (T2.rd p z t S h hS) (by simp)
   ·rw[graft_out _ _ _ e] at h hS;exact r1 (T1.rd (a::p) z t S h hS) (by simp)
 ·intro i hi
  by_cases e:i=x.b
  ·rw[e];obtain⟨es,k,h⟩:=hb.obj;exact Or.inl ⟨es,k,h⟩
  ·by_cases h1 : ρ1 i = .none
   ·have h2 : ρ2 i ≠ .none:=fun h2=>hi (by rw[h1,h2];rfl)
    exact (T2.kind i h2).heap (k2 i h2)
   ·exact (T1.kind i h1).heap (hoth i (T1.kind i h1).lt e)
open Go.RowKit
def RgA (k:TypeId) (w:World) (b r:Nat) (f:Lit->Option Value) (K:Nat) (left:Lit->Bool) (cnt:Nat):Prop := ∃ D,w.ranges Tryz.prog k HR b r K D left cnt/\MapV D f
theorem RgA.left_eq {k:TypeId} {w:World} {b r K cnt:Nat} {f:Lit->Option Value} {left:Lit->Bool} (h:RgA k w b r f K left cnt):w.rangeLeft b r=cnt:=by
 obtain⟨D,h1,_⟩:=h;exact h1.left_eq
theorem RgA.lt {k:TypeId} {w:World} {b r K cnt:Nat} {f:Lit->Option Value} {left:Lit->Bool} (h:RgA k w b r f K left cnt):r<w.heap.size:=by
 obtain⟨D,h1,_⟩:=h;exact h1.lt
theorem RgA.heap {k:TypeId} {w w':World} {b r K cnt:Nat} {f:Lit->Option Value} {left:Lit->Bool} (h:RgA k w b r f K left cnt) (hb:w'.heap[b]?=w.heap[b]?) (hr:w'.heap[r]?=w.heap[r]?):RgA k w' b r f K left cnt:=by
 obtain⟨D,⟨es,clock,since,seen,c0,h1,F,h2,h3,h4,h5⟩,hv⟩:=h
 exact⟨D,⟨es,clock,since,seen,c0,hb.trans h1,F,h2,h3,hr.trans h4,h5⟩,hv⟩
theorem RgA.ext {k:TypeId} {w:World} {b r K cnt:Nat} {f:Lit->Option Value} {left left':Lit->Bool} (h:RgA k w b r f K left cnt) (e : ∀ x,left x=left' x):RgA k w b r f K left' cnt:=(funext e:left=left') ▸ h
section
variable (w:World) {ops:Array Oper} {rest:List Oper} {o:Oper} {a:Act} {Q:Exit->Act->World->Prop}
theorem wpList_range_A (hg:o.guard=none) (m:Operand) (t k e:TypeId) (hop:o.op=Op.range t m) (hK:Maps.Keyed Tryz.prog k) (ht:Tryz.prog.underlying t=some (.map k e)) (b K:Nat) (f:Lit->Option Value) (hm:a.eval m = .map (some b)) (hA:MapAt k w b f K)
 (h : ∀ w' cnt,RgA k w' b w.heap.size f K (fun x=>(f x).isSome) cnt->cnt<=K->w.grownBy w' none->w'.heap.size=w.heap.size+1->wpList Tryz.prog ops Q rest (a.put o.dst (.pointer (some ⟨w.heap.size,0,none⟩))) w') :
 wpList Tryz.prog ops Q (o::rest) a w:=by
 obtain⟨D,hD,hv⟩:=hA
 refine wpList_range_own w hg m t hop k e hK ht HR b K D hm hD fun w' h1 h2 h3=>?_
 have hc:Maps.size D<=K:=by
  obtain⟨es,clock,_,_,hs,rfl⟩:=hD
  simpa [Maps.size,length_sorted] using hs
 exact h w' (Maps.size D) (RgA.ext (left:=Maps.has D) ⟨D,h1,hv⟩ fun x=>hv.has x) hc h2 h3
theorem wpList_next_A (hg:o.guard=none) (it:Operand) (hop:o.op=Op.next it false) (k:TypeId) (hK:Maps.Keyed Tryz.prog k) (b r K cnt:Nat) (f:Lit->Option Value) (left:Lit->Bool) (hit:a.eval it = .pointer (some ⟨r,0,none⟩)) (hA:RgA k w b r f K left cnt)
 (hDone:cnt=0->(∀ x,left x=false)->wpList Tryz.prog ops Q rest (a.put o.dst (.tuple #[.bool false])) w)
 (hMore : ∀ (key v:Value) (x:Lit) (w':World) (cnt':Nat),keyOf Tryz.prog k key=some x->left x=true->f x=some v->RgA k w' b r f K (fun z=>left z && !z.sameKey x) cnt'->cnt'<cnt->w.grownBy w' (some r)->w'.heap.size=w.heap.size ->
  (Instr.entry (.pointer (some ⟨r,0,none⟩))).run Tryz.prog w' = .ok (.tuple #[key,v]) w'->wpList Tryz.prog ops Q rest (a.put o.dst (.tuple #[.bool true,key,v])) w') :
 wpList Tryz.prog ops Q (o::rest) a w:=by
 obtain⟨D,hD,hv⟩:=hA
 refine wpList_next_ranges w hg it hop k hK HR (fun v=>v) (fun v=>v) (fun key _ _=>⟨key,rfl⟩) (fun v _ _=>⟨v,rfl⟩) b r K D left cnt hit hD hDone fun key v x y w' cnt' h1 h2 h3 h4 h5 h6 h7 h8 h9=>?_
 have hy:y=(.held v, []):=by
  have:HR v=some (.held v, []):=rfl
  rw[this] at h3;injection h3 with h3;exact h3.symm
 subst hy
 have e1:=(hv.val x (.bool true)).symm.trans (h4 (.held (.bool true)))
 have e2:=(hv.val x (.bool false)).symm.trans (h4 (.held (.bool false)))
 injection e1 with e1
 injection e2 with e2
 have hf:f x=some v:=by
  cases hx:f x with
  | some u=>rw[hx] at e1;exact congrArg some e1
  | none=>rw[hx] at e1 e2;have h:=e1.trans e2.symm;cases h
 exact hMore key v x w' cnt' h1 h2 hf ⟨D,h5,hv⟩ h6 h7 h8 h9
end
def RgU (w:World) (b r:Nat) (h:Nat->Option Value) (K:Nat) (left:Nat->Bool) (cnt:Nat):Prop := ∃ lf,RgA 36 w b r (fU h) K lf cnt /\ ∀ t:Nat,t<65536->lf (.int .u16 (t:Int))=left t
def RgS (w:World) (b r:Nat) (h:List UInt8->Option Value) (K:Nat) (left:List UInt8->Bool) (cnt:Nat):Prop := ∃ lf,RgA 9 w b r (fS h) K lf cnt /\ ∀ s,lf (.string s)=left s
theorem u16_sub {key:Value} {x:Lit} (h:keyOf Tryz.prog 36 key=some x) : ∃ t:Nat,t<65536/\key = .int .u16 (t:Int)/\x = .int .u16 (t:Int):=by
 obtain⟨a,e1,e,hw⟩:=Maps.keyOf_int_inv Tryz.underlying36 h
 have h1:IntKind.u16.min=0:=by decide
 have h2:IntKind.u16.max=65535:=by decide
 simp only[Lit.wf,Bool.and_eq_true,decide_eq_true_eq,h1,h2] at hw
 refine⟨a.toNat,by omega,?_,?_⟩
 ·rw[e1,Int.toNat_of_nonneg hw.1]
 ·rw[e,Int.toNat_of_nonneg hw.1]
theorem RgU.heap {w w':World} {b r K cnt:Nat} {h:Nat->Option Value} {left:Nat->Bool} (R:RgU w b r h K left cnt) (hb:w'.heap[b]?=w.heap[b]?) (hr:w'.heap[r]?=w.heap[r]?):RgU w' b r h K left cnt:=by
 obtain⟨lf,h1,h2⟩:=R;exact⟨lf,h1.heap hb hr,h2⟩
theorem RgS.heap {w w':World} {b r K cnt:Nat} {h:List UInt8->Option Value} {left:List UInt8->Bool} (R:RgS w b r h K left cnt) (hb:w'.heap[b]?=w.heap[b]?) (hr:w'.heap[r]?=w.heap[r]?):RgS w' b r h K left cnt:=by
 obtain⟨lf,h1,h2⟩:=R;exact⟨lf,h1.heap hb hr,h2⟩
section
variable (w:World) {ops:Array Oper} {rest:List Oper} {o:Oper} {a:Act} {Q:Exit->Act->World->Prop}
theorem wpList_range_U (hg:o.guard=none) (m:Operand) (t e:TypeId) (hop:o.op=Op.range t m) (ht:Tryz.prog.underlying t=some (.map 36 e)) (b K:Nat) (h:Nat->Option Value) (hm:a.eval m = .map (some b)) (hA:MapU w b h K)
 (hk : ∀ w' cnt,RgU w' b w.heap.size h K (fun t=>(h t).isSome) cnt->cnt<=K->w.grownBy w' none->w'.heap.size=w.heap.size+1->wpList Tryz.prog ops Q rest (a.put o.dst (.pointer (some ⟨w.heap.size,0,none⟩))) w') :
 wpList Tryz.prog ops Q (o::rest) a w :=
 wpList_range_A w hg m t 36 e hop keyedH ht b K (fU h) hm hA fun w' cnt h1 h2 h3 h4=>hk w' cnt ⟨_,h1,fun t ht=>by rw[fU_at _ t ht]⟩ h2 h3 h4
theorem wpList_range_S (hg:o.guard=none) (m:Operand) (t e:TypeId) (hop:o.op=Op.range t m) (ht:Tryz.prog.underlying t=some (.map 9 e)) (b K:Nat) (h:List UInt8->Option Value) (hm:a.eval m = .map (some b)) (hA:MapS w b h K)
 (hk : ∀ w' cnt,RgS w' b w.heap.size h K (fun s=>(h s).isSome) cnt->cnt<=K->w.grownBy w' none->w'.heap.size=w.heap.size+1->wpList Tryz.prog ops Q rest (a.put o.dst (.pointer (some ⟨w.heap.size,0,none⟩))) w') :
 wpList Tryz.prog ops Q (o::rest) a w :=
 wpList_range_A w hg m t 9 e hop keyedS ht b K (fS h) hm hA fun w' cnt h1 h2 h3 h4=>hk w' cnt ⟨_,h1,fun _=>rfl⟩ h2 h3 h4
theorem wpList_next_U (hg:o.guard=none) (it:Operand) (hop:o.op=Op.next it false) (b r K cnt:Nat) (h:Nat->Option Value) (left:Nat->Bool) (hit:a.eval it = .pointer (some ⟨r,0,none⟩)) (hA:RgU w b r h K left cnt)
 (hDone:cnt=0->(∀ t,t<65536->left t=false)->wpList Tryz.prog ops Q rest (a.put o.dst (.tuple #[.bool false])) w)
 (hMore : ∀ (t:Nat) (v:Value) (w':World) (cnt':Nat),t<65536->left t=true->h t=some v->RgU w' b r h K (fun s=>left s && !decide (s=t)) cnt'->cnt'<cnt->w.grownBy w' (some r)->w'.heap.size=w.heap.size ->
  (Instr.entry (.pointer (some ⟨r,0,none⟩))).run Tryz.prog w' = .ok (.tuple #[.int .u16 (t:Int),v]) w'->wpList Tryz.prog ops Q rest (a.put o.dst (.tuple #[.bool true,.int .u16 (t:Int),v])) w') :
 wpList Tryz.prog ops Q (o::rest) a w:=by
 obtain⟨lf,h1,h2⟩:=hA
 refine wpList_next_A w hg it hop 36 keyedH b r K cnt (fU h) lf hit h1 (fun h0 h3=>hDone h0 fun t ht=>(h2 t ht).symm.trans (h3 _)) fun key v x w' cnt' k1 k2 k3 k4 k5 k6 k7 k8=>?_
 obtain⟨t,ht,rfl,rfl⟩:=u16_sub k1
 rw[fU_at _ t ht] at k3
 refine hMore t v w' cnt' ht ((h2 t ht).symm.trans k2) k3 ⟨_,k4,fun s hs=>?_⟩ k5 k6 k7 k8
 show (lf (.int .u16 (s:Int)) && !(Lit.int .u16 (s:Int)).sameKey (.int .u16 (t:Int)))=_
 rw[h2 s hs]
 by_cases e:s=t
 ·subst e;rw[WideAt.sameKey_self (isU s)];simp
 ·have:(Lit.int .u16 (s:Int)).sameKey (.int .u16 (t:Int))=false:=by
   cases hh:(Lit.int .u16 (s:Int)).sameKey (.int .u16 (t:Int)) with
   | false=>rfl
   | true=>exact absurd (WideAt.sameKey_eq hh) (u16_ne e)
  rw[this];simp[e]
theorem wpList_next_S (hg:o.guard=none) (it:Operand) (hop:o.op=Op.next it false) (b r K cnt:Nat) (h:List UInt8->Option Value) (left:List UInt8->Bool) (hit:a.eval it = .pointer (some ⟨r,0,none⟩)) (hA:RgS w b r h K left cnt)
 (hDone:cnt=0->(∀ s,left s=false)->wpList Tryz.prog ops Q rest (a.put o.dst (.tuple #[.bool false])) w)
 (hMore : ∀ (s:List UInt8) (key v:Value) (w':World) (cnt':Nat),keyOf Tryz.prog 9 key=some (.string s)->left s=true->h s=some v->RgS w' b r h K (fun z=>left z && !decide (z=s)) cnt'->cnt'<cnt->w.grownBy w' (some r)->w'.heap.size=w.heap.size ->
  (Instr.entry (.pointer (some ⟨r,0,none⟩))).run Tryz.prog w' = .ok (.tuple #[key,v]) w'->wpList Tryz.prog ops Q rest (a.put o.dst (.tuple #[.bool true,key,v])) w') :
 wpList Tryz.prog ops Q (o::rest) a w:=by
 obtain⟨lf,h1,h2⟩:=hA
 refine wpList_next_A w hg it hop 9 keyedS b r K cnt (fS h) lf hit h1 (fun h0 h3=>hDone h0 fun s=>(h2 s).symm.trans (h3 _)) fun key v x w' cnt' k1 k2 k3 k4 k5 k6 k7 k8=>?_
 obtain⟨s,rfl⟩:=fS_some (h:=h) (k:=x) (by rw[k3];rfl)
 refine hMore s key v w' cnt' k1 ((h2 s).symm.trans k2) k3 ⟨_,k4,fun z=>?_⟩ k5 k6 k7 k8
 show (lf (.string z) && !(Lit.string z).sameKey (.string s))=_
 rw[h2 z]
 by_cases e:z=s
 ·subst e;rw[WideAt.sameKey_self (isS z)];simp
 ·have:(Lit.string z).sameKey (.string s)=false:=by
   cases hh:(Lit.string z).sameKey (.string s) with
   | false=>rfl
   | true=>exact absurd (WideAt.sameKey_eq hh) (str_ne e)
  rw[this];simp[e]
end
open Go.RowKit
def cset (C:List (List UInt8)->Nat->Option Z.St) (p:List (List UInt8)) (t:Nat) (S:Z.St):List (List UInt8)->Nat->Option Z.St:=fun q s=>if q=p/\s=t then some S else C q s
theorem TreeAt.setnew {w w':World} {ρ : Nat->Role} {G:List (List UInt8)->Option Nd} {C:List (List UInt8)->Nat->Option Z.St} {K:Nat} (T:TreeAt w ρ G C K) {p:List (List UInt8)} {x:Nd} (hx:G p=some x) (t:Nat) (ht:t<65536) (S:Z.St) (m:Nat)
 (hno:C p t=none) (hm:w.heap.size<=m) (hsz:w.heap.size<=w'.heap.size) (hoth : ∀ i,i<w.heap.size->i≠x.s->w'.heap[i]?=w.heap[i]?)
 (hsets:MapU w' x.s (uput (fun s=>(C p s).map fun S=>setV S (x.dm s)) t (setV S m)) K)
 (hdat : ∃ h,MapS w' m h K /\ ∀ c,DIs w' (S.g c) (h c)) :
 ∃ ρ' x',TreeAt w' ρ' (gput G p (some x')) (cset C p t S) K/\x'.n=x.n/\x'.s=x.s/\x'.b=x.b/\x'.dm=(fun s=>if s=t then m else x.dm s) /\ ∀ i, ρ' i=if i=m then .data p t else ρ i:=by
 have rl : ∀ {i r}, ρ i=r->r ≠ .none->i<w.heap.size:=fun h h2=>(T.kind _ (by rw[h];exact h2)).lt
 have hmd : ∃ es k,w'.heap[m]?=some (.map es k):=by obtain⟨h,h1,_⟩:=hdat;exact h1.obj
 have hms : ∃ es k,w'.heap[x.s]?=some (.map es k):=hsets.obj
 obtain⟨ρ',hρ⟩ : ∃ ρ':Nat->Role, ρ'=fun i=>if i=m then .data p t else ρ i:=⟨_,rfl⟩
 obtain⟨x',hx'⟩ : ∃ x':Nd,x' = { x with dm:=fun s=>if s=t then m else x.dm s } := ⟨_,rfl⟩
 have hold : ∀ i,i<w.heap.size -> ρ' i = ρ i:=fun i hi=>by rw[hρ];exact if_neg (by omega)
 have hC' : ∀ q s,¬ (q=p/\s=t)->cset C p t S q s=C q s:=fun q s e=>by unfold cset;rw[if_neg e]
 have hCt:cset C p t S p t=some S:=by unfold cset;rw[if_pos ⟨rfl,rfl⟩]
 have hslL : ∀ ao l,SlL w ao l->SlL w' ao l:=fun ao l=>slL_keep hsz fun i hi hz=>hoth i hi fun e=>hz (T.kind i (by rw[e,T.rs p x hx];simp))
 refine⟨ρ',x',?_,by rw[hx'],by rw[hx'],by rw[hx'],by rw[hx'],fun i=>by rw[hρ]⟩
 refine T.turn hx (by rw[hx']) (by rw[hx']) (by rw[hx']) (fun q s hq=>hC' q s fun e=>hq e.1) (Nat.le_refl _) (fun i hi=>hold i hi) hsz (fun i hi h1 _=>hoth i hi (fun e=>h1 (by rw[e];exact T.rs p x hx))) ?_ ?_ ?_
 ·refine MapU.ext hsets fun s hs=>?_
  by_cases e:s=t
  ·subst e
   rw[hCt,hx'];simp[uput]
  ·rw[hC' p s (fun e2=>e e2.2),hx'];simp[uput,e]
 ·intro s S' hS
  by_cases e:s=t
  ·subst e
   rw[hCt] at hS;injection hS with hS;subst hS
   have e1:x'.dm s=m:=by rw[hx'];simp
   rw[e1]
   exact⟨ht,by rw[hρ];simp,hdat⟩
  ·rw[hC' p s (fun e2=>e e2.2)] at hS
   have e1:x'.dm s=x.dm s:=by rw[hx'];simp[e]
   rw[e1]
   have h1:=T.rd p x s S' hx hS
   have h2:=rl h1 (by simp)
   obtain⟨h,h4,h5⟩:=(T.node p x hx).data s S' hS
   refine⟨(T.cov p s S' hS).2,by rw[hold _ h2,h1],h,h4.heap (hoth _ h2 (fun e2=>?_)),fun y=>(h5 y).keep hslL⟩
   rw[e2,T.rs p x hx] at h1;cases h1
 ·intro i hi
  by_cases e:i=m
  ·rw[e];obtain⟨es,k,h⟩:=hmd;exact Or.inl ⟨es,k,h⟩
  ·by_cases e2:i=x.s
   ·rw[e2];obtain⟨es,k,h⟩:=hms;exact Or.inl ⟨es,k,h⟩
   ·have e3 : ρ' i = ρ i:=by rw[hρ];exact if_neg e
    rw[e3] at hi
    exact (T.kind i hi).heap (hoth i (T.kind i hi).lt e2)
theorem gput_twice (G:List (List UInt8)->Option Nd) (p:List (List UInt8)) (a b:Option Nd):gput (gput G p a) p b=gput G p b:=by
 funext q
 by_cases e:q=p
 ·rw[e,gput_same,gput_same]
 ·rw[gput_other _ e,gput_other _ e,gput_other _ e]
open Go.RowKit
structure KI (w:World) (B r K:Nat) (C:List (List UInt8)->Nat->Option Z.St) (p:List (List UInt8)) (x:Nd) (left:Nat->Bool) (cnt:Nat) (wr:World) (ρ1:Nat->Role) (C1:List (List UInt8)->Nat->Option Z.St) (x1:Nd):Prop where
 rg:RgU wr x.s r (fun t=>(C p t).map fun S=>setV S (x.dm t)) K left cnt
 ck:cnt<=K
 tree:TreeAt wr ρ1 (gput (fun _=>none) [] (some x1)) C1 K
 xn:x1.n=B+2
 xs:x1.s=B
 xb:x1.b=B+1
 sets:MapU wr B (fun t=>(C1 [] t).map fun S=>setV S (x1.dm t)) (K - cnt)
 below:MapS wr (B+1) (fun _=>none) 0
 got : ∀ t,t<65536->C1 [] t=if left t=true then none else C p t
 no : ∀ q t,q ≠ []->C1 q t=none
 new : ∀ i, ρ1 i ≠ .none->B<=i/\i≠r
 bel:Below B w wr
structure KJ (w:World) (B r K:Nat) (G:List (List UInt8)->Option Nd) (C:List (List UInt8)->Nat->Option Z.St) (p:List (List UInt8)) (x x1:Nd) (left:List UInt8->Bool) (cnt:Nat) (wr:World) (ρ1:Nat->Role) (G1:List (List UInt8)->Option Nd) (C1:List (List UInt8)->Nat->Option Z.St):Prop where
 rg:RgS wr x.b r (fun l=>(G (p ++ [l])).map fun y=>ptr y.n) K left cnt
 ck:cnt<=K
 tree:TreeAt wr ρ1 G1 C1 K
 root:G1 []=some x1
 xn:x1.n=B+2
 xs:x1.s=B
 xb:x1.b=B+1
 below:MapS wr (B+1) (fun l=>(G1 [l]).map fun y=>ptr y.n) (K - cnt)
 zero : ∀ t,C1 [] t=C p t
 got : ∀ l q,left l=false->(G1 (l::q)).isSome=(G (p++l::q)).isSome /\ ∀ t,C1 (l::q) t=C (p++l::q) t
 no : ∀ l q,left l=true->G1 (l::q)=none /\ ∀ t,C1 (l::q) t=none
 new : ∀ i, ρ1 i ≠ .none->B<=i/\i≠r
 bel:Below B w wr
 rB:B+2<r
theorem RgS.left_eq {w:World} {b r K cnt:Nat} {h:List UInt8->Option Value} {left:List UInt8->Bool} (R:RgS w b r h K left cnt):w.rangeLeft b r=cnt:=by
 obtain⟨lf,h1,_⟩:=R;exact h1.left_eq
theorem KJ.step {w wr w4 w5 w6:World} {B r K cnt cnt3:Nat} {G:List (List UInt8)->Option Nd} {C:List (List UInt8)->Nat->Option Z.St} {p:List (List UInt8)} {x x1:Nd} {left:List UInt8->Bool} {ρ1:Nat->Role} {G1:List (List UInt8)->Option Nd} {C1:List (List UInt8)->Nat->Option Z.St}
 {l:List UInt8} {x2:Nd} {ρ2:Nat->Role} {G2:List (List UInt8)->Option Nd} {C2:List (List UInt8)->Nat->Option Z.St}
 (I:KJ w B r K G C p x x1 left cnt wr ρ1 G1 C1) (T4:TreeAt w4 ρ1 G1 C1 K) (hrg:RgS w4 x.b r (fun l=>(G (p ++ [l])).map fun y=>ptr y.n) K (fun s=>left s && !decide (s=l)) cnt3)
 (hB4:Below B w w4) (hrw:r<w4.heap.size) (hlt:left l=true) (hc3:cnt3<cnt) (B5:Below w4.heap.size w4 w5)
 (T2:TreeAt w5 ρ2 G2 C2 K) (hx2:G2 []=some x2) (hG2 : ∀ q,(G2 q).isSome=(G (p ++ [l]++q)).isSome) (hC2 : ∀ q t,C2 q t=C (p ++ [l]++q) t) (hn2 : ∀ i, ρ2 i ≠ .none->w4.heap.size<=i)
 (hM6:MapAt 9 w6 (B+1) (fput (fS fun l=>(G1 [l]).map fun y=>ptr y.n) (.string l) (.pointer (some ⟨x2.n,0,none⟩))) (K - cnt+1)) (ht6:Turn (B+1) w5 w6) (hxb:x.b<B) :
 ∃ ρ' G' C',KJ w B r K G C p x x1 (fun s=>left s && !decide (s=l)) cnt3 w6 ρ' G' C':=by
 have hck:=I.ck
 have hrB:=I.rB
 have hsz56:w6.heap.size=w5.heap.size:=ht6.size
 have hsz:=B5.size
 have hk : ∀ i,i<w4.heap.size->i≠B+1->w6.heap[i]?=w4.heap[i]?:=fun i h1 h2=>(ht6.block i h2).trans (B5.block i h1)
 have hM6':MapS w6 (B+1) (sput (fun s=>(G1 [s]).map fun y=>ptr y.n) l (ptr x2.n)) (K - cnt+1):=MapAt.congr hM6 fun k=>fput_S _ l _ k
 have T6:=(T4.below_ B5).graft (w':=w6) (K':=K) T2 I.root hx2 l (fun i hi=>Classical.byContradiction fun h=>by have:=(T4.kind i h).lt;have:=hn2 i hi;omega) (by omega) (fun i _ h2=>ht6.block i (by rw[<- I.xb];exact h2)) (Nat.le_refl _) (by rw[I.xb];exact hM6'.mono (by omega))
 refine⟨_,_,_,hrg.heap (hk _ (by omega) (by omega)) (hk _ (by omega) (by omega)),by omega,T6,by rw[graft_nil];exact I.root,I.xn,I.xs,I.xb,?_,fun t=>by rw[graft_nil];exact I.zero t,?_,?_,?_,?_,I.rB⟩
 ·refine MapAt.mono (K:=K - cnt+1) (MapS.ext hM6' fun s=>?_) (by omega)
  by_cases e:s=l
  ·subst e;rw[graft_in,hx2];simp[sput]
  ·rw[graft_out _ _ _ e];simp[sput,e]
 ·intro s q hs
  by_cases e:s=l
  ·subst e
   rw[graft_in,graft_in,hG2,List.append_assoc]
   exact⟨rfl,fun t=>by rw[hC2,List.append_assoc];rfl⟩
  ·have:left s=false:=by simpa [e] using hs
   rw[graft_out _ _ _ e,graft_out _ _ _ e];exact I.got s q this
 ·intro s q hs
  have h1:left s=true/\s≠l:=by simpa using hs
  rw[graft_out _ _ _ h1.2,graft_out _ _ _ h1.2];exact I.no s q h1.1
 ·intro i hi
  by_cases h : ρ1 i = .none
  ·have h2 : ρ2 i ≠ .none:=fun h2=>hi (by rw[h,h2];rfl)
   have:=hn2 i h2
   have:=hB4.size
   omega
  ·exact I.new i h
 ·have hB6:Below B w5 w6:=⟨ht6.os,ht6.tape,ht6.output,by omega,fun i hi=>ht6.block i (by omega)⟩
  exact hB4.trans ((B5.mono (by omega)).trans hB6)
theorem slL_but {w w':World} {r:Nat} (hsz:w.heap.size<=w'.heap.size) (hb : ∀ i,i<w.heap.size->i≠r->w'.heap[i]?=w.heap[i]?) (hr : ∀ j,w.cell? ⟨r,j,none⟩=none) {ao:Option Addr} {l:List UInt8} (h:SlL w ao l):SlL w' ao l:=fun hn=>by
 obtain⟨b,o,e,hlt,hc⟩:=h hn
 have hz:b≠r:=fun hz=>by
  have:=hc 0 hn
  rw[hz,hr] at this;cases this
 exact⟨b,o,e,Nat.lt_of_lt_of_le hlt hsz,fun j hj=>(World.cell?_of_block (hb b hlt hz)).trans (hc j hj)⟩
theorem RgA.nocell {k:TypeId} {w:World} {b r K cnt:Nat} {f:Lit->Option Value} {left:Lit->Bool} (h:RgA k w b r f K left cnt) (j:Nat):w.cell? ⟨r,j,none⟩=none:=by
 obtain⟨D,⟨es,clock,since,seen,c0,h1,F,h2,h3,h4,h5⟩,hv⟩:=h
 simp[World.cell?,h4]
theorem RgU.left_eq {w:World} {b r K cnt:Nat} {h:Nat->Option Value} {left:Nat->Bool} (R:RgU w b r h K left cnt):w.rangeLeft b r=cnt:=by
 obtain⟨lf,h1,_⟩:=R;exact h1.left_eq
theorem KI.step {w wr w4 w5 w6:World} {B K cnt cnt3 m5 t:Nat} {C:List (List UInt8)->Nat->Option Z.St} {p:List (List UInt8)} {x:Nd} {left:Nat->Bool} {ρ1:Nat->Role} {C1:List (List UInt8)->Nat->Option Z.St} {x1:Nd} {S:Z.St} {dm:List UInt8->Option Value}
 (I:KI w B (B+3) K C p x left cnt wr ρ1 C1 x1) (T4:TreeAt w4 ρ1 (gput (fun _=>none) [] (some x1)) C1 K) (hrg:RgU w4 x.s (B+3) (fun t=>(C p t).map fun S=>setV S (x.dm t)) K (fun s=>left s && !decide (s=t)) cnt3)
 (hbl:MapS w4 (B+1) (fun _=>none) 0) (hB4:Below B w w4) (hS:C p t=some S) (ht:t<65536) (hlt:left t=true) (hc3:cnt3<cnt) (hdd : ∀ c,DIs w4 (S.g c) (dm c)) (B5:Below w4.heap.size w4 w5) (hM5:MapAt 9 w5 m5 (fS dm) K) (hm54:w4.heap.size<=m5)
 (hM6:MapAt 36 w6 B (fput (fU fun t=>(C1 [] t).map fun S=>setV S (x1.dm t)) (.int .u16 (t:Int)) (.agg #[.int .u32 (S.ttl:Int),.map (some m5)])) (K - cnt+1)) (ht6:Turn B w5 w6) (hsz5:B+3<w4.heap.size) (hxs:x.s<B) :
 ∃ ρ' C' x',KI w B (B+3) K C p x (fun s=>left s && !decide (s=t)) cnt3 w6 ρ' C' x':=by
 have hck:=I.ck
 have hsz56:w6.heap.size=w5.heap.size:=ht6.size
 have hsz:=B5.size
 have hk : ∀ i,i<w4.heap.size->i≠B->w6.heap[i]?=w4.heap[i]?:=fun i h1 h2=>(ht6.block i h2).trans (B5.block i h1)
 have hno:C1 [] t=none:=by rw[I.got t ht,if_pos hlt]
 have hBk : ∀ i, ρ1 i = .none->i=B->False:=fun i h1 h2=>by
  have:=I.tree.rs [] x1 (gput_same _ _ _)
  rw[I.xs, <- h2,h1] at this;cases this
 have hZ:ZObj w4 B:=T4.kind B fun h=>hBk B h rfl
 have hslL : ∀ ao l,SlL w4 ao l->SlL w6 ao l:=fun ao l=>slL_keep (by omega) fun i hi hz=>hk i hi fun e=>hz (by rw[e];exact hZ)
 have hM6':MapU w6 B (uput (fun s=>(C1 [] s).map fun S=>setV S (x1.dm s)) t (setV S m5)) (K - cnt+1):=MapAt.congr hM6 fun k=>fput_U _ t ht _ k
 obtain⟨ρ',x',T6,h1,h2,h3,h4,h5⟩:=TreeAt.setnew T4 (gput_same _ _ _) t ht S m5 hno hm54 (by omega) (fun i hi hne=>hk i hi (by rw[<- I.xs];exact hne)) (by rw[I.xs];exact hM6'.mono (by omega))
  ⟨dm,hM5.heap (ht6.block m5 (by omega)),fun c=>(hdd c).keep hslL⟩
 rw[gput_twice] at T6
 refine⟨ρ',_,x',hrg.heap (hk _ (by omega) (by omega)) (hk _ (by omega) (by omega)),by omega,T6,h1.trans I.xn,h2.trans I.xs,h3.trans I.xb,?_,MapAt.heap hbl (hk _ (by omega) (by omega)),?_,?_,?_,?_⟩
 ·refine MapAt.mono (K:=K - cnt+1) (MapU.ext hM6' fun s hs=>?_) (by omega)
  by_cases e:s=t
  ·subst e
   show uput _ s _ s=Option.map _ (cset C1 [] s S [] s)
   unfold cset uput;rw[h4];simp
  ·show uput _ t _ s=Option.map _ (cset C1 [] t S [] s)
   unfold cset uput;rw[h4];simp[e]
 ·intro s hs
  unfold cset
  by_cases e:s=t
  ·subst e;simp[hS]
  ·simp[e,I.got s hs]
 ·intro q s hq
  unfold cset
  rw[if_neg (fun e=>hq e.1)];exact I.no q s hq
 ·intro i hi
  rw[h5] at hi
  by_cases e:i=m5
  ·omega
  ·rw[if_neg e] at hi;exact I.new i hi
 ·have hB6:Below B w5 w6:=⟨ht6.os,ht6.tape,ht6.output,by omega,fun i hi=>ht6.block i (by omega)⟩
  exact hB4.trans ((B5.mono (by omega)).trans hB6)
set_option maxRecDepth 20000 in
set_option maxHeartbeats 1500000 in
theorem kclone_any : ∀ (d:Nat) (w:World) (ρ : Nat->Role) (G:List (List UInt8)->Option Nd) (C:List (List UInt8)->Nat->Option Z.St) (K:Nat) (p:List (List UInt8)) (x:Nd),TreeAt w ρ G C K->G p=some x->(∀ q,(G (p++q)).isSome->q.length<d)->K<=1000000 ->
 Calls Tryz.prog 67 #[.pointer (some ⟨x.n,0,none⟩)] w fun e w' => ∃ x' ρ' G' C',e = .returned (.pointer (some ⟨x'.n,0,none⟩))/\TreeAt w' ρ' G' C' K/\G' []=some x'/\(∀ q,(G' q).isSome=(G (p++q)).isSome)/\(∀ q t,C' q t=C (p++q) t)/\(∀ i, ρ' i ≠ .none->w.heap.size<=i)/\Below w.heap.size w w':=by
 intro d
 induction d with
 | zero =>
  intro w ρ G C K p x T hx hd
  have:=hd [] (by rw[List.append_nil,hx];rfl)
  omega
 | succ d ih =>
  intro w ρ G C K p x T hx hd hK
  obtain⟨B,hB⟩ : ∃ B,B=w.heap.size:=⟨_,rfl⟩
  have HIH:=hide ih
  have HT:=hide T
  have HX:=hide hx
  have HD:=hide hd
  have HN:=hide (T.node p x hx)
  have hnew:=newNode_any w
  rw[<- hB] at hnew ⊢
  unfold ptr at hnew
  obtain⟨w1,hw1⟩ : ∃ w1,w1=((w.alloc (.map #[] 0)).alloc (.map #[] 0)).alloc (.cells #[.map (some B),.map (some (B+1))] 106):=⟨_,rfl⟩
  rw[<- hw1] at hnew
  have hb1:Below B w w1:=by
   rw[hw1,hB]
   exact (((Below.refl _ w).alloc (Nat.le_refl _) _).alloc (by simp) _).alloc (by simp;omega) _
  have hs1:w1.heap.size=B+3:=by rw[hw1,hB];simp
  have hsets1:MapU w1 x.s (fun t=>(C p t).map fun S=>setV S (x.dm t)) K:=(T.below_ (hB ▸ hb1)).node p x hx |>.sets
  have y0:w1.cell? ⟨x.n,0,none⟩=some (.map (some x.s)):=((T.below_ (hB ▸ hb1)).node p x hx).row.cell 0
  have hnt:TreeAt w1 (role3 (fun _ => .none) [] ⟨B+2,B,B+1,fun _=>0⟩) (gput (fun _=>none) [] (some ⟨B+2,B,B+1,fun _=>0⟩)) (fun _ _=>none) 0:=by
   refine TreeAt.new ?_ ?_ ?_ (by omega) (by omega) (by omega)
   ·rw[hw1,hB]
    have:=RowAt.new ((w.alloc (.map #[] 0)).alloc (.map #[] 0)) 106 #[.map (some w.heap.size),.map (some (w.heap.size+1))]
    simpa using this
   ·have h:=MapU.made w 0
    rw[<- hB] at h
    refine h.heap ?_
    rw[hw1,hB]
    exact ((((Below.refl _ (w.alloc (.map #[] 0))).alloc (Nat.le_refl _) (.map #[] 0)).alloc (by simp) _).block _ (by simp))
   ·have h:=MapS.made (w.alloc (.map #[] 0)) 0
    have e:(w.alloc (.map #[] 0)).heap.size=B+1:=by rw[hB];simp
    rw[e] at h
    refine h.heap ?_
    rw[hw1]
    exact (((Below.refl _ ((w.alloc (.map #[] 0)).alloc (.map #[] 0))).alloc (Nat.le_refl _) _).block _ (by simp[hB]))
  have HNEW:=hide hnew
  have HB1:=hide hb1
  have HNT:=hide hnt
  have HS1:=hide hsets1
  have HBe:=hide hB
  have HSZ:=hide hs1
  clear ih T hx hd hnew hb1 hnt hw1 hsets1 hB hs1
  go_enter Tryz.func67,Tryz.ntmps67
  go_wp2_with (first
   | (at_range;refine wpList_range_U _ rfl _ 103 101 rfl Tryz.underlying103 x.s K _ rfl HS1.out ?_;intro w2 cnt0 hrg hcl hg2 hs2)
   | (go_at_call 48;refine HNEW.out.mono ?_;rintro e wq ⟨rfl,hwq⟩;have hwq2:=hwq.symm;subst hwq2;clear hwq)
   | go_in)
  go_frame
  rw[HSZ.out] at hrg hs2 ⊢
  have hB2:Below B w w2:=HB1.out.grown hg2 (by rw[HSZ.out];omega) (fun j hj=>by cases hj)
  have hk2 : ∀ i,i<B+3->w2.heap[i]?=w1.heap[i]?:=fun i hi=>hg2.block i (by rw[HSZ.out];exact hi) (by simp)
  have hsl2:Below w1.heap.size w1 w2:=(Below.refl _ w1).grown hg2 (Nat.le_refl _) (fun j hj=>by cases hj)
  have hT2:=(HNT.out.mono (Nat.zero_le K)).below_ hsl2
  have hnw : ∀ i,role3 (fun _ => .none) [] ⟨B+2,B,B+1,fun _=>0⟩ i ≠ .none->B<=i/\i≠B+3:=fun i hi=>by
   unfold role3 at hi
   by_cases e1:i=B+2
   ·omega
   ·by_cases e2:i=B
    ·omega
    ·by_cases e3:i=B+1
     ·omega
     ·exact absurd (by show (if i=B+2 then Role.node [] else if i=B then .sets [] else if i=B+1 then .below [] else .none) = .none;rw[if_neg e1,if_neg e2,if_neg e3]) hi
  have HI0:=hide (⟨hrg,hcl,hT2,rfl,rfl,rfl,MapU.ext (((HNT.out.node [] _ (gput_same _ _ _)).sets.heap (hk2 _ (by simp))).mono (Nat.zero_le _)) fun _ _=>rfl,
   MapS.ext ((HNT.out.node [] _ (gput_same _ _ _)).below.heap (hk2 _ (by simp))) fun s=>by rw[gput_other _ (by simp)];rfl,
   fun s hs=>by cases hC:C p s <;> simp,fun _ _ _=>rfl,hnw,hB2⟩:KI w B (B+3) K C p x (fun t=>((C p t).map fun S=>setV S (x.dm t)).isSome) cnt0 w2 (role3 (fun _ => .none) [] ⟨B+2,B,B+1,fun _=>0⟩) (fun _ _=>none) ⟨B+2,B,B+1,fun _=>0⟩)
  clear hrg hcl hg2 hs2 hB2 hk2 hsl2 hT2 y0 hnw
  go_loopw [4] (fun _ wr => ∃ (left:Nat->Bool) (cnt:Nat) (ρ1:Nat->Role) (C1:List (List UInt8)->Nat->Option Z.St) (x1:Nd),KI w B (B+3) K C p x left cnt wr ρ1 C1 x1) (fun _ wr=>wr.rangeLeft x.s (B+3))
  case atStart=>exact⟨_,_,_,_,_,HI0.out⟩
  case round =>
   obtain⟨left,cnt, ρ1,C1,x1,I⟩:=hrel
   have HI:=hide I
   have hrg0:=I.rg
   clear I HI0
   go_wp2_with (first
    | (at_next;refine wpList_next_U _ rfl _ rfl x.s (B+3) K cnt _ left rfl hrg0 ?_ ?_)
    | go_in)
   ·intro hc0 hl0
    have I:=HI.out
    have hTr:=HT.out.below_ (HBe.out ▸ I.bel)
    have y1:wr.cell? ⟨x.n,1,none⟩=some (.map (some x.b)):=(hTr.node p x HX.out).row.cell 1
    have hbel:=(hTr.node p x HX.out).below
    have HBL:=hide hbel
    clear I hTr hbel
    go_wp2_with (first
     | (at_range;refine wpList_range_S _ rfl _ 104 90 rfl Tryz.underlying104 x.b K _ rfl HBL.out ?_;intro w2 cnt2 hrg hcl hg2 hs2)
     | go_in)
    go_frame
    have I:=HI.out
    obtain⟨lfA,hA,_⟩:=I.rg
    have hrlt:=hA.lt
    obtain⟨r2,hr2⟩ : ∃ r2,r2=wr.heap.size:=⟨_,rfl⟩
    rw[<- hr2] at hrg ⊢
    have hsl2:Below wr.heap.size wr w2:=(Below.refl _ wr).grown hg2 (Nat.le_refl _) (fun j hj=>by cases hj)
    have hzero : ∀ s,C1 [] s=C p s:=fun s=>by
     rcases Nat.lt_or_ge s 65536 with h | h
     ·rw[I.got s h,if_neg (by rw[hl0 s h];simp)]
     ·have e1:C1 [] s=none:=by
       cases hc:C1 [] s with
       | none=>rfl
       | some S=>have:=(I.tree.cov [] s S hc).2;omega
      have e2:C p s=none:=by
       cases hc:C p s with
       | none=>rfl
       | some S=>have:=(HT.out.cov p s S hc).2;omega
      rw[e1,e2]
    have hgot : ∀ l q,((G (p ++ [l])).map fun y=>ptr y.n).isSome=false->(gput (fun _=>none) [] (some x1) (l::q)).isSome=(G (p++l::q)).isSome /\ ∀ t,C1 (l::q) t=C (p++l::q) t:=fun l q h=>by
     have h0:G (p ++ [l])=none:=by simpa using h
     have h1:=HT.out.no_below h0 q
     rw[List.append_assoc] at h1
     have h1:G (p++l::q)=none:=h1
     rw[gput_other _ (by simp),h1]
     exact⟨rfl,fun t=>by rw[I.no _ t (by simp),HT.out.no_sets h1]⟩
    have HJ0:=hide (⟨hrg,hcl,I.tree.below_ hsl2,gput_same _ _ _,I.xn,I.xs,I.xb,
     MapS.ext ((MapAt.heap I.below (hsl2.block _ (by omega))).mono (Nat.zero_le _)) fun s=>by rw[gput_other _ (by simp)];rfl,
     hzero,hgot,fun l q _=>⟨by rw[gput_other _ (by simp)],fun s=>I.no _ s (by simp)⟩,fun i hi=>⟨(I.new i hi).1,by have:=(I.tree.kind i hi).lt;omega⟩,I.bel.trans (hsl2.mono (by have:=I.bel.size;have:=HBe.out;omega)),by omega⟩:KJ w B r2 K G C p x x1 (fun l=>((G (p ++ [l])).map fun y=>ptr y.n).isSome) cnt2 w2 ρ1 (gput (fun _=>none) [] (some x1)) C1)
    clear hrg hcl hg2 hs2 hsl2 hzero hgot I hA hrlt hr2 hrg0 y1 hl0 hc0 HBL
    go_loopw [6] (fun _ wr => ∃ (left:List UInt8->Bool) (cnt:Nat) (ρ1:Nat->Role) (G1:List (List UInt8)->Option Nd) (C1:List (List UInt8)->Nat->Option Z.St),KJ w B r2 K G C p x x1 left cnt wr ρ1 G1 C1) (fun _ wr=>wr.rangeLeft x.b r2)
    case atStart=>exact⟨_,_,_,_,_,HJ0.out⟩
    case round =>
     obtain⟨lef2,cnt4, ρ3,G3,C3,I⟩:=hrel
     have HJ:=hide I
     have hrg0:=I.rg
     clear I HJ0
     go_wp2_with (first
      | (at_next;refine wpList_next_S _ rfl _ rfl x.b r2 K cnt4 _ lef2 rfl hrg0 ?_ ?_)
      | go_in)
     ·intro hc0 hl0
      go_wp2
      go_ret
      have I:=HJ.out
      refine⟨x1, ρ3,G3,C3,by rw[I.xn];rfl,I.tree,I.root,fun q=>?_,fun q t=>?_,fun i hi=>(I.new i hi).1,I.bel⟩
      ·match q with
       | []=>rw[I.root,List.append_nil,HX.out];rfl
       | l::q=>exact (I.got l q (hl0 l)).1
      ·match q with
       | []=>rw[List.append_nil];exact I.zero t
       | l::q=>exact (I.got l q (hl0 l)).2 t
     ·intro l key v w3 cnt5 hkey hlt y hy hv hrg3 hc3 hg3 hs3 hen
      subst hv
      unfold ptr at hen ⊢
      go_wp2
      have I:=HJ.out
      obtain⟨lfA,hA,_⟩:=I.rg
      have hrlt:=hA.lt
      have hrB:=I.rB
      have hxb:x.b<B:=by rw[HBe.out];exact (HT.out.kind _ (by rw[HT.out.rb p x HX.out];simp)).lt
      have hk3 : ∀ i,i<wr.heap.size->i≠r2->w3.heap[i]?=wr.heap[i]?:=fun i h1 h2=>hg3.block i h1 (fun e=>h2 (by injection e))
      have hslL3 : ∀ ao l,SlL wr ao l->SlL w3 ao l:=fun ao l=>slL_but (by omega) hk3 hA.nocell
      have hB3:Below B w w3:=I.bel.grown hg3 (by omega) (fun j hj=>by injection hj with hj;omega)
      have HT3:=hide (I.tree.keep (fun i hi=>hk3 i (I.tree.kind i hi).lt (I.new i hi).2) hslL3)
      have HB3:=hide hB3
      have HRG:=hide hrg3
      have HBL:=hide (show MapS w3 (B+1) _ _ from MapAt.heap I.below (hk3 (B+1) (by omega) (by omega)))
      have hrow:RowAt w3 (B+2) 106 #[.map (some B),.map (some (B+1))]:=by
       have h:=(HT3.out.node [] _ I.root).row
       rw[I.xn,I.xs,I.xb] at h;exact h
      have hszr:r2<w3.heap.size:=by omega
      have hck:=I.ck
      have hold : ∀ W,Below w3.heap.size w3 W->TreeAt W ρ G C _:=fun W hW=>HT.out.below_ (HBe.out ▸ hB3.trans (hW.mono (by omega)))
      have HOLD:=hide hold
      have SAll:Hid (∀ w',Below w3.heap.size w3 w'->w'.cell? ⟨B+2,1,none⟩=some (.map (some (B+1)))):=hide fun W hW=>(hrow.below hW hrow.lt).cell 1
      have HC3:=hide hc3
      have HLT:=hide hlt
      have HY:=hide hy
      have HDD:Hid (∀ q,(G (p ++ [l]++q)).isSome->q.length<d):=hide fun q hq=>by
       have h:=HD.out (l::q) (by rw[List.append_assoc] at hq;exact hq)
       rw[List.length_cons] at h;omega
      clear hk3 hslL3 hB3 hrg3 hA hg3 hs3 hen hrg0 hrow I hlt hc3 hy hold
      refine wp_region_X (S:=fun w'=>w'.cell? ⟨B+2,1,none⟩=some (.map (some (B+1)))) (jS:=7) (by kernel_rfl) ?_
      have BA:Hid (Below w3.heap.size w3 w3.drew):=hide ((Below.refl _ w3).drew)
      have SA:=hide (SAll.out _ BA.out)
      generalize w3.drew=w1d at BA SA ⊢
      refine tk gt0 SA.out ?_
      refine tk gt1 SA.out ?_
      refine tk gt2 SA.out ?_
      refine tk gt3 SA.out ?_
      refine tk gt4 SA.out ?_
      refine tk gt5 SA.out ?_
      refine rdy gt6 (fun K hKK=>?_)
      have hcl:=HIH.out w1d ρ G C _ (p ++ [l]) y (HOLD.out _ BA.out) HY.out HDD.out hK
      refine step_fng (by rfl) _ _ (by go_simp) hcl (by rintro e w' ⟨x2,_,_,_,rfl,_⟩;exact⟨_,rfl⟩) ?_
      rintro _ w5 ⟨x2, ρ2,G2,C2,he,hT5,hx2,hG2,hC2,hn2,hb⟩
      cases he
      have hn3 : ∀ i, ρ2 i ≠ .none->w3.heap.size<=i:=fun i hi=>Nat.le_trans BA.out.size (hn2 i hi)
      have B5:=hide (BA.out.trans (hb.mono BA.out.size))
      have HT5:=hide hT5
      have HX2:=hide hx2
      have HG2:=hide hG2
      have HC2:=hide hC2
      have HN3:=hide hn3
      have SB:=hide (SAll.out _ B5.out)
      refine kk hKK (Or.inr SB.out) ?_
      clear hKK hb hcl hT5 hx2 hG2 hC2 hn2 hn3
      refine rdy gt7 (fun K hKK=>?_)
      obtain⟨w6,hrun6,hM6,ht6⟩:=MapAt.update (HBL.out.heap (B5.out.block (B+1) (by omega))) keyedS Tryz.underlying104 (by omega) hkey (.pointer (some ⟨x2.n,0,none⟩))
      have HM6:=hide hM6
      have HT6:=hide ht6
      clear hM6 ht6
      go_simp
      refine kk hKK (Or.inl rfl) ?_
      clear hKK
      refine wpAnyX_done (by kernel_rfl) ?_ _
      go_wp2
      go_roundw
      case rel =>
       obtain⟨ρ',G',C',h⟩:=KJ.step HJ.out HT3.out HRG.out HB3.out hszr HLT.out HC3.out B5.out HT5.out HX2.out HG2.out HC2.out HN3.out HM6.out HT6.out hxb
       exact⟨_,_, ρ',G',C',h⟩
      case measure =>
       obtain⟨ρ',G',C',h⟩:=KJ.step HJ.out HT3.out HRG.out HB3.out hszr HLT.out HC3.out B5.out HT5.out HX2.out HG2.out HC2.out HN3.out HM6.out HT6.out hxb
       rw[h.rg.left_eq,HJ.out.rg.left_eq];exact HC3.out
   ·intro t v w3 cnt3 ht hlt S hS hv hrg3 hc3 hg3 hs3 hen
    subst hv
    unfold setV at hen ⊢
    go_wp2
    have I:=HI.out
    obtain⟨lfA,hA,_⟩:=I.rg
    have hrlt:=hA.lt
    have hxs:x.s<B:=by rw[HBe.out];exact (HT.out.kind _ (by rw[HT.out.rs p x HX.out];simp)).lt
    obtain⟨w4,hw4⟩ : ∃ w4,w4=w3.alloc (.cells #[.int .u32 (S.ttl:Int),.map (some (x.dm t))] 101):=⟨_,rfl⟩
    obtain⟨g,hg⟩ : ∃ g,g=wr.heap.size:=⟨_,rfl⟩
    have hal:Below w3.heap.size w3 w4:=by rw[hw4];exact (Below.refl _ w3).alloc (Nat.le_refl _) _
    have hbox:RowAt w4 g 101 #[.int .u32 (S.ttl:Int),.map (some (x.dm t))]:=by rw[hw4,hg, <- hs3];exact RowAt.new w3 _ _
    rw[<- hw4, <- hg]
    have hk3 : ∀ i,i<wr.heap.size->i≠B+3->w3.heap[i]?=wr.heap[i]?:=fun i h1 h2=>hg3.block i h1 (fun e=>h2 (by injection e))
    have hk4 : ∀ i,i<wr.heap.size->i≠B+3->w4.heap[i]?=wr.heap[i]?:=fun i h1 h2=>(hal.block i (by rw[hs3];exact h1)).trans (hk3 i h1 h2)
    have hsz4:wr.heap.size<=w4.heap.size:=by have:=hal.size;omega
    have hslL4 : ∀ ao l,SlL wr ao l->SlL w4 ao l:=fun ao l=>slL_but hsz4 hk4 hA.nocell
    have hB4:Below B w w4:=(I.bel.grown hg3 (by omega) (fun j hj=>by injection hj with hj;omega)).trans (hal.mono (by omega))
    have HT4:=hide (I.tree.keep (fun i hi=>hk4 i (I.tree.kind i hi).lt (I.new i hi).2) hslL4)
    obtain⟨dm,hdm,hdd⟩:=((HT.out.below_ (HBe.out ▸ hB4)).node p x HX.out).data t S hS
    have HDM:=hide hdm
    have HDD:=hide hdd
    have HB4:=hide hB4
    have HRG:=hide (hrg3.heap (hal.block _ (by omega)) (hal.block _ (by omega)))
    have HS4:=hide (show MapU w4 B _ _ from I.sets.heap (hk4 B (by omega) (by omega)))
    have HBL:=hide (show MapS w4 (B+1) _ _ from I.below.heap (hk4 (B+1) (by omega) (by omega)))
    have hrow:RowAt w4 (B+2) 106 #[.map (some B),.map (some (B+1))]:=by
     have h:=(HT4.out.node [] _ (gput_same _ _ _)).row
     rw[I.xn,I.xs,I.xb] at h;exact h
    have hsz5:B+3<w4.heap.size:=by omega
    have hck:=I.ck
    have SAll:Hid (∀ w',Below w4.heap.size w4 w'->w'.cell? ⟨B+2,0,none⟩=some (.map (some B))/\w'.cell? ⟨g,0,none⟩=some (.int .u32 (S.ttl:Int))/\w'.cell? ⟨g,1,none⟩=some (.map (some (x.dm t)))):=hide fun W hW=>⟨(hrow.below hW hrow.lt).cell 0,(hbox.below hW hbox.lt).cell 0,(hbox.below hW hbox.lt).cell 1⟩
    have HC3:=hide hc3
    have HLT:=hide hlt
    have HCP:=hide hS
    clear hw4 hg hal hbox hk3 hk4 hsz4 hslL4 hB4 hdm hdd hrg3 hA hg3 hs3 hen hrg0 hrow I hlt hS hc3
    refine wp_region_X (S:=fun w'=>w'.cell? ⟨B+2,0,none⟩=some (.map (some B))/\w'.cell? ⟨g,0,none⟩=some (.int .u32 (S.ttl:Int))/\w'.cell? ⟨g,1,none⟩=some (.map (some (x.dm t)))) (jS:=11) (by kernel_rfl) ?_
    have BA:Hid (Below w4.heap.size w4 w4.drew):=hide ((Below.refl _ w4).drew)
    have SA:=hide (SAll.out _ BA.out)
    generalize w4.drew=w1d at BA SA ⊢
    refine tk gt0 SA.out ?_
    refine tk gt1 SA.out ?_
    refine tk gt2 SA.out ?_
    refine tk gt3 SA.out ?_
    refine tk gt4 SA.out ?_
    refine tk gt5 SA.out ?_
    refine tk gt6 SA.out ?_
    refine tk gt7 SA.out ?_
    refine tk gt8 SA.out ?_
    refine rdy gt9 (fun K hKK=>?_)
    have hcl:=mclone_any w1d (x.dm t) _ (fS dm) (MapAt.heap HDM.out (BA.out.block _ (MapAt.lt HDM.out)))
    refine step_fng (by rfl) _ _ (by go_simp) hcl (by rintro e w' ⟨rfl,_⟩;exact⟨_,rfl⟩) ?_
    rintro _ w5 ⟨he,hM5,hb,hz5⟩
    cases he
    obtain⟨m5,hm5⟩ : ∃ m5,m5=w1d.heap.size:=⟨_,rfl⟩
    rw[<- hm5] at hM5 ⊢
    have hm54:w4.heap.size<=m5:=by rw[hm5];exact BA.out.size
    have B5:=hide (BA.out.trans (hb.mono BA.out.size))
    have HM5:=hide hM5
    have SB:=hide (SAll.out _ B5.out)
    refine kk hKK (Or.inr SB.out) ?_
    clear hKK hb hcl hM5 hm5 hz5
    refine tk gt10 SB.out ?_
    refine rdy gt11 (fun K hKK=>?_)
    obtain⟨w6,hrun6,hM6,ht6⟩:=MapAt.update (HS4.out.heap (B5.out.block B (by omega))) keyedH Tryz.underlying103 (by omega) (keyH t ht) (.agg #[.int .u32 (S.ttl:Int),.map (some m5)])
    have HM6:=hide hM6
    have HT6:=hide ht6
    clear hM6 ht6
    go_simp
    refine kk hKK (Or.inl rfl) ?_
    clear hKK
    refine wpAnyX_done (by kernel_rfl) ?_ _
    go_wp2
    go_roundw
    case rel =>
     obtain⟨ρ',C',x',h⟩:=KI.step HI.out HT4.out HRG.out HBL.out HB4.out HCP.out ht HLT.out HC3.out HDD.out B5.out HM5.out hm54 HM6.out HT6.out hsz5 hxs
     exact⟨_,_, ρ',C',x',h⟩
    case measure =>
     obtain⟨ρ',C',x',h⟩:=KI.step HI.out HT4.out HRG.out HBL.out HB4.out HCP.out ht HLT.out HC3.out HDD.out B5.out HM5.out hm54 HM6.out HT6.out hsz5 hxs
     rw[h.rg.left_eq,HI.out.rg.left_eq];exact HC3.out
end Go.Proofs.YtbkegikdmmnkaaaGreat
namespace Go.Proofs.YtbkegikdmmnkaaaGreat
set_option maxRecDepth 5000
open Go.RowKit
set_option maxRecDepth 20000 in
set_option maxHeartbeats 1500000 in
theorem zcopy_live {X:Nat->Prop} {w:World} {Zb:Nat} {A:List (List UInt8)} {L:List Z.R} {K:Nat} (Z0:ZLive X w Zb A L K) (hK:K<=1000000) (hA:0<A.length) (hA2:A.length<=1000000) :
 Calls Tryz.prog 34 #[.pointer (some ⟨Zb,0,none⟩)] w fun e w' => ∃ N,e = .returned (.pointer (some ⟨N,0,none⟩))/\ZLive (fun i=>i<w.heap.size) w' N A L K/\Below w.heap.size w w':=by
 obtain⟨ρ,G,C,Zx,hX,hth⟩:=Z0
 obtain⟨ao,cap,hrow,hsA,hcap⟩:=Zx.row
 obtain⟨al,hal⟩ : ∃ al,al=A.length:=⟨_,rfl⟩
 obtain⟨k,hk⟩ : ∃ k,k=L.length:=⟨_,rfl⟩
 obtain⟨x,hx⟩ : ∃ x,G []=some x:=Option.isSome_iff_exists.1 Zx.tree.root
 rw[<- hal, <- hk,nodeN_of hx] at hrow
 unfold ptr at hrow
 have hcl : ∀ W,Below w.heap.size w W->Calls Tryz.prog 55 #[.slice ao al cap] W fun e w' => ∃ v,e = .returned v/\OwnS w' W.heap.size v A/\Below W.heap.size W w':=fun W hW=>by
  rw[hal];exact nclone_any W ao cap A hA hA2 (hsA.below hW (Nat.le_refl _))
 have hd : ∀ q,(G ([]++q)).isSome->q.length<200:=fun q hq=>by
  rcases Zx.cov q hq with h | ⟨y,hy,hp⟩
  ·rw[h];decide
  ·have h1:=hp.length_le
   have h2:=(Zx.okk y hy).2.2.2.2
   omega
 have SAll:Hid (∀ w',Below w.heap.size w w'->w'.cell? ⟨Zb,0,none⟩=some (.slice ao al cap)/\w'.cell? ⟨Zb,1,none⟩=some (.pointer (some ⟨x.n,0,none⟩))/\w'.cell? ⟨Zb,2,none⟩=some (.int .i64 (k:Int))):=hide fun W hW=>⟨(hrow.below hW hrow.lt).cell 0,(hrow.below hW hrow.lt).cell 1,(hrow.below hW hrow.lt).cell 2⟩
 have HCL:=hide hcl
 have HD:=hide hd
 have HAL:=hide hal
 have HK:=hide hk
 have HX:=hide hx
 clear hcl hd hal hk hx hsA hrow hcap
 go_enter Tryz.func34,Tryz.ntmps34
 go_wp2
 refine wp_region_X (S:=fun w'=>w'.cell? ⟨Zb,0,none⟩=some (.slice ao al cap)/\w'.cell? ⟨Zb,1,none⟩=some (.pointer (some ⟨x.n,0,none⟩))/\w'.cell? ⟨Zb,2,none⟩=some (.int .i64 (k:Int))) (jS:=1000) (by kernel_rfl) ?_
 have BA:Hid (Below w.heap.size w w.drew):=hide ((Below.refl _ w).drew)
 have SA:=hide (SAll.out _ BA.out)
 generalize w.drew=w1d at BA SA ⊢
 refine tk gt0 SA.out ?_
 refine tk gt1 SA.out ?_
 refine tk gt2 SA.out ?_
 refine tk gt3 SA.out ?_
 refine tk gt5 SA.out ?_
 refine tk gt6 SA.out ?_
 refine tk gt7 SA.out ?_
 refine tk gt8 SA.out ?_
 refine tk gt10 SA.out ?_
 refine tk gt11 SA.out ?_
 refine tk gt12 SA.out ?_
 refine tk gt13 SA.out ?_
 refine rdy gt4 (fun K hKK=>?_)
 have hcl:=HCL.out w1d BA.out
 refine step_fng (by rfl) _ _ (by go_simp) hcl (by rintro e w' ⟨v,rfl,_⟩;exact⟨_,rfl⟩) ?_
 rintro _ w2 ⟨v,he,hO,hb⟩
 cases he
 obtain⟨a2,c2,rfl,hS2,_,hc2,_⟩:=hO.open
 rw[<- HAL.out] at hc2 ⊢
 have B2:=hide (BA.out.trans (hb.mono BA.out.size))
 have HS2:=hide hS2
 have SB:=hide (SAll.out _ B2.out)
 refine kk hKK (Or.inr SB.out) ?_
 clear hKK hb hcl hO hS2
 refine rdy gt9 (fun K hKK=>?_)
 have hcl:=kclone_any 200 w2 ρ G C _ [] x (Zx.tree.below_ B2.out) HX.out HD.out hK
 refine step_fng (by rfl) _ _ (by go_simp) hcl (by rintro e w' ⟨x2,_,_,_,rfl,_⟩;exact⟨_,rfl⟩) ?_
 rintro _ w3 ⟨x2, ρ2,G2,C2,he,hT,hx2,hG2,hC2,hn2,hb⟩
 cases he
 have hsz2:w.heap.size<=w2.heap.size:=B2.out.size
 have B23:=hide hb
 have B3:=hide (B2.out.trans (hb.mono B2.out.size))
 have HT:=hide hT
 have HX2:=hide hx2
 have HG2:=hide hG2
 have HC2:=hide hC2
 have HN2:=hide hn2
 have SC:=hide (SAll.out _ B3.out)
 refine kk hKK (Or.inr SC.out) ?_
 clear hKK hb hcl hT hx2 hG2 hC2 hn2
 refine tk gt14 SC.out ?_
 refine rdy gt15 (fun K hKK=>?_)
 go_simp
 have B34:=hide ((Below.refl w3.heap.size w3).alloc (Nat.le_refl _) (.cells #[.slice a2 al c2,.pointer (some ⟨x2.n,0,none⟩),.int .i64 (k:Int)] 93))
 have B4:=hide (B3.out.trans (B34.out.mono B3.out.size))
 have SD:=hide (SAll.out _ B4.out)
 refine kk hKK (Or.inr SD.out) ?_
 clear hKK
 refine tk gt16 SD.out ?_
 refine wpAnyX_done (by kernel_rfl) ?_ _
 go_wp2
 go_ret
 refine⟨w3.heap.size,rfl,⟨ρ2,G2,C2,?_,?_,hth⟩,B4.out⟩
 ·have eC:C2=C:=by funext q t;rw[HC2.out];rfl
  subst eC
  refine { of:=Zx.of,rise:=Zx.rise,lows:=Zx.lows,num:=Zx.num,okk:=Zx.okk,tree:=HT.out.below_ B34.out,cov:=?_,zr:=?_,row:=⟨a2,c2,?_,HS2.out.below (B23.out.trans (B34.out.mono B23.out.size)) (Nat.le_refl _),by rw[<- HAL.out];exact hc2⟩ }
  ·rw[<- HAL.out, <- HK.out,nodeN_of HX2.out];exact RowAt.new w3 _ _
  ·intro q hq;rw[HG2.out] at hq;exact Zx.cov q hq
  ·exact Classical.byContradiction fun h=>by have:=(HT.out.kind _ h).lt;omega
 ·intro i hi
  have h1:=B4.out.size
  refine⟨by omega,?_,?_⟩
  ·have:=B3.out.size;omega
  ·exact Classical.byContradiction fun h=>by have:=HN2.out i h;omega
end Go.Proofs.YtbkegikdmmnkaaaGreat
namespace Go.Proofs.YtbkegikdmmnkaaaGreat
set_option maxRecDepth 5000
open Go.RowKit
theorem run_append_cl {w:World} (ty:TypeId) {a:Option Addr} {m c:Nat} {L:List Z.R} {vss:List (List Value)} (h2:SegR w a L vss) (hm:L.length=m) (hbd:m<=100000) :
 ∃ a' c' w',(Builtin.append_ #[31,31] ty #[.slice none 0 0,.slice a m c]).run Tryz.prog w = .ok (.slice a' m c') w'/\RL w' w.heap.size a' c' L/\Below w.heap.size w w':=by
 by_cases h0:m=0
 ·subst h0
  have e:L = []:=List.eq_nil_of_length_eq_zero hm
  subst e
  exact⟨none,0,w,run_append_same _ _ _ _ _ _,RL.nil _ _ _ _ (fun _=>rfl),Below.refl _ _⟩
 ·obtain⟨v',w',hr,hO,hb⟩:=run_append_newR (L1 := []) (L2:=L) ty 0 0 m c (SegR.nil w none) rfl (fun _=>rfl) h2 hm (by omega) (by omega) (by omega)
  rw[List.nil_append] at hO
  obtain⟨a',c',rfl,_,_⟩:=hO.slice
  exact⟨a',c',w',by rw[hr,hm],RL.of_own hO,hb⟩
theorem step_append_cl {ops:Array Oper} {o:Oper} {a:Act} {w:World} {K:Act->World->Prop} {Q:Exit->Act->World->Prop} {F:Prop} (hgd:o.guard=none) (s x:Operand)
 (ho:o.op = .call { callee := .builtin .append,args := #[s,x],argTypes := #[31,31] }) (a2:Option Addr) (m c:Nat) (L:List Z.R) {vss:List (List Value)} (hs:a.eval s = .slice none 0 0) (hx:a.eval x = .slice a2 m c) (h2:SegR w a2 L vss) (hm:L.length=m) (hbd:m<=100000)
 (h : ∀ a' c' w',RL w' w.heap.size a' c' L->Below w.heap.size w w'->K (a.put o.dst (.slice a' m c')) w'):if Region.wanted o (yielded ops a.tmps)=true then Oper.wp Tryz.prog o a w K Q else F:=by
 have hw:Region.wanted o (yielded ops a.tmps)=true:=by simp[Region.wanted,hgd]
 rw[if_pos hw]
 obtain⟨a',c',w',hr,k2,k3⟩:=run_append_cl (c:=c) o.type h2 hm hbd
 unfold Oper.wp execOp
 simp only[ho,resolve,invoke,builtin,Sem.run_bind,Sem.run_pure,Result.andThen_ok,List.map_toArray,List.map_cons,List.map_nil,hs,hx,hr]
 exact h a' c' w' k2 k3
set_option maxRecDepth 20000 in
set_option maxHeartbeats 1000000 in
theorem mCopy_any (w:World) (base m:Nat) (A:List (List UInt8)) (L:List Z.R) (hR:RZAt w base m A L) :
 Calls Tryz.prog 35 #[.pointer (some ⟨m,0,none⟩)] w fun e w' => ∃ n,e = .returned (.pointer (some ⟨n,0,none⟩))/\w.heap.size<=n/\RZAt w' w.heap.size n A L/\Below w.heap.size w w':=by
 obtain⟨aa,ac,a,c,hrow,hsA,hac,hRL⟩:=hR.row
 obtain⟨k,hk⟩ : ∃ k,k=L.length:=⟨_,rfl⟩
 obtain⟨al,hal⟩ : ∃ al,al=A.length:=⟨_,rfl⟩
 rw[<- hk, <- hal] at hrow
 have hk2:k<=100000:=by rw[hk];have:=hR.num;omega
 obtain⟨vss,hseg⟩:=hRL.seg
 have HR:=hide hR
 have HK:=hide hk
 have HAL:=hide hal
 have HSA:=hide hsA
 have HAC:=hide hac
 have HSEG:=hide hseg
 have SAll:Hid (∀ w',Below w.heap.size w w'->w'.cell? ⟨m,0,none⟩=some (.slice aa al ac)/\w'.cell? ⟨m,1,none⟩=some (.slice a k c)):=hide fun W hW=>⟨(hrow.below hW hrow.lt).cell 0,(hrow.below hW hrow.lt).cell 1⟩
 clear hR hk hal hsA hac hseg hrow hRL
 go_enter Tryz.func35,Tryz.ntmps35
 go_wp2
 refine wp_region_X (S:=fun w'=>w'.cell? ⟨m,0,none⟩=some (.slice aa al ac)/\w'.cell? ⟨m,1,none⟩=some (.slice a k c)) (jS:=1000) (by kernel_rfl) ?_
 have BA:Hid (Below w.heap.size w w.drew):=hide ((Below.refl _ w).drew)
 have SA:=hide (SAll.out _ BA.out)
 have HVS:=HSEG.out.bel BA.out
 generalize w.drew=w1d at BA SA HVS ⊢
 refine tk gt0 SA.out ?_
 refine tk gt1 SA.out ?_
 refine tk gt2 SA.out ?_
 refine tk gt3 SA.out ?_
 refine tk gt4 SA.out ?_
 refine tk gt5 SA.out ?_
 refine tk gt6 SA.out ?_
 refine tk gt7 SA.out ?_
 refine rdy gt8 (fun K hKK=>?_)
 refine step_append_cl (by rfl) (.const (.slice none 0 0)) (.tmp 10) (by rfl) a k c L (by rfl) (by rfl) HVS HK.out.symm hk2 ?_
 intro a2 c2 w2 hL2 hb2
 have B2:=hide (BA.out.trans (hb2.mono BA.out.size))
 have HL2:=hide (hL2.low BA.out.size)
 have SB:=hide (SAll.out _ B2.out)
 refine kk hKK (Or.inr SB.out) ?_
 clear hKK hb2 hL2
 refine tk gt9 SB.out ?_
 refine rdy gt10 (fun K hKK=>?_)
 go_simp
 have B3:=hide (B2.out.trans (((Below.refl _ w2).alloc (Nat.le_refl _) (.cells #[.slice aa al ac,.slice a2 k c2] 33)).mono B2.out.size))
 have SB3:=hide (SAll.out _ B3.out)
 refine kk hKK (Or.inr SB3.out) ?_
 clear hKK
 refine tk gt11 SB3.out ?_
 refine wpAnyX_done (by kernel_rfl) ?_ _
 go_wp2
 go_ret
 refine⟨w2.heap.size,rfl,B2.out.size,?_,B3.out⟩
 refine { HR.out with row:=⟨aa,ac,a2,c2,?_,HSA.out.below B3.out (Nat.le_refl _),HAC.out,?_⟩ }
 ·rw[<- HAL.out, <- HK.out];exact RowAt.new w2 _ _
 ·exact HL2.out.bel ((Below.refl _ w2).alloc (Nat.le_refl _) _)
end Go.Proofs.YtbkegikdmmnkaaaGreat
namespace Go.Proofs.YtbkegikdmmnkaaaGreat
open Go.RowKit
set_option maxRecDepth 5000
def AcT.from_ (A:List (List UInt8)) (L:List Z.R) (l:List AcT):List Z.R:=l.foldl (AcT.act A) L
set_option maxRecDepth 5000 in
theorem AcT.from_snoc (A:List (List UInt8)) (L:List Z.R) (l:List AcT) (j:Nat) (x:AcT) (hx:l[j]?=some x):AcT.from_ A L (l.take (j+1))=AcT.act A (AcT.from_ A L (l.take j)) x:=by
 unfold AcT.from_
 rw[List.take_add_one,hx,List.foldl_append]
 rfl
set_option maxRecDepth 20000 in
set_option maxHeartbeats 1500000 in
theorem zoneCopies_walk (l:List AcT) (ao:Option Addr) (len cap:Nat) (l2:List AcT) (ao2:Option Addr) (len2 cap2:Nat) (w:World) (hl:Hid (l.length=len)) (hs:SlA w ao l) (hok:Hid (∀ x∈l,x.Ok)) (hm:len<=9223372036854775807)
 (hl2:Hid (l2.length=len2)) (hs2:SlA w ao2 l2) (hok2:Hid (∀ x∈l2,x.Ok)) (hm2:len2<=9223372036854775807) :
 Calls Tryz.prog 5 #[.slice ao len cap,.slice ao2 len2 cap2] w fun e w'=>e = .returned (.bool true)/\Below w.heap.size w w':=by
 have HS:=hide hs
 have HS2:=hide hs2
 obtain⟨B,hB⟩ : ∃ B,B=w.heap.size:=⟨_,rfl⟩
 have HBe:=hide hB
 have hT0:True:=trivial
 clear hs hs2 hB
 go_enter Tryz.func5,Tryz.ntmps5
 go_wp2_with (first
  | (go_at_call 12;have hq:=HZ1.out;clear hq;refine (apex_any w1).mono ?_;rintro e wb ⟨vb,rfl,hOb,hBb⟩;obtain⟨ab,cb,rfl,hSb,_,hcb,_⟩:=hOb.open)
  | (go_at_call 11;refine (znew_live (fun i=>i<B) wa (fun i hi=>by have:=hB0a.size;have:=HBe.out;omega) Z.exA aa _ ca (hide rfl) hSa (hide exA_small)).mono ?_;rintro e w1 ⟨V,rfl,_,hZ1,hB1⟩;rw[exA_low] at hZ1;have hb1:=hB0a.trans (hB1.mono hB0a.size);have HZ1:=hide hZ1;have HB1:=hide hb1;clear hZ1 hB1 hb1)
  | (go_at_call 12;have hq:=HLN.out;clear hq;refine (apex_any w0).mono ?_;rintro e wa ⟨va,rfl,hOa,hBa⟩;obtain⟨aa,ca,rfl,hSa,_,hca,_⟩:=hOa.open;have hB0a:=HB0.out.trans (hBa.mono HB0.out.size))
  | (go_at_call 10;have hq:=HLI.out;clear hq;refine (zlight_any l2 ao2 len2 cap2 w0 hl2 (HS2.out.below HB0.out (Nat.le_refl _)) hm2).mono ?_;rintro e wq ⟨t',rfl,ht',hwq⟩;have hwq2:=hwq.symm;subst hwq2;have HLN:=hide ht';clear ht' hwq;cases t')
  | (go_at_call 10;have hq:=HB0.out;clear hq;refine (zlight_any l ao len cap w0 hl (HS.out.below HB0.out (Nat.le_refl _)) hm).mono ?_;rintro e wq ⟨t',rfl,ht',hwq⟩;have hwq2:=hwq.symm;subst hwq2;have HLI:=hide ht';clear ht' hwq;cases t')
  | (go_at_call 9;have hT0q:=hT0;clear hT0q hT0;refine (known_any w).mono ?_;rintro e w0 ⟨rfl,hB0⟩;have HB0:=hide hB0;clear hB0)
  | fail)
 ·go_ret
  exact⟨rfl,HB0.out⟩
 ·go_ret
  exact⟨rfl,HB0.out⟩
 ·obtain⟨h40,hli⟩:=HLI.out trivial
  obtain⟨h402,hli2⟩:=HLN.out trivial
  have HL:=hide hli
  have HL2:=hide hli2
  have hw3:=RZAt.empty wb wb.heap.size ab _ cb rfl hSb hcb
  have hb3:Below wb.heap.size wb (wb.alloc (.cells #[.slice ab Z.exA.length cb,.slice none 0 0] 33)):=(Below.refl _ wb).alloc (Nat.le_refl _) _
  have hsz:B<=w1.heap.size:=by have:=HB1.out.size;have:=HBe.out;omega
  have hD:Duo B (wb.alloc (.cells #[.slice ab Z.exA.length cb,.slice none 0 0] 33)) V wb.heap.size wb.heap.size Z.exA [] 0:=⟨(HZ1.out.bel hBb).bel hb3,hw3,Nat.le_trans hsz hBb.size,Nat.le_trans hsz hBb.size,hb3.size⟩
  have hBw:Below B w (wb.alloc (.cells #[.slice ab Z.exA.length cb,.slice none 0 0] 33)):=by
   rw[HBe.out]
   exact HB1.out.trans ((hBb.trans (hb3.mono hBb.size)).mono HB1.out.size)
  obtain⟨m,hmm⟩ : ∃ m,m=wb.heap.size:=⟨_,rfl⟩
  rw[<- hmm] at hD ⊢
  obtain⟨base,hbs⟩ : ∃ base,base=m:=⟨_,rfl⟩
  have hD:Duo B (wb.alloc (.cells #[.slice ab Z.exA.length cb,.slice none 0 0] 33)) V base m Z.exA [] 0:=by rw[hbs];exact hD
  have HD0:=hide hD
  have HBW:=hide hBw
  clear hw3 hb3 hsz hD hBw hmm hbs hli hBb hOb hSb hcb hB0a hBa hOa hSa hca HZ1 HB1 HB0 HLI HLN hli2
  go_loopw [7] (fun i wr => ∃ j:Nat,i = .int .i64 (j:Int)/\j<=len/\Duo B wr V base m Z.exA (AcT.run Z.exA (l.take j)) (j*300)/\Below B w wr) (fun i _=>len - (intOf i).toNat)
  case atStart=>exact⟨0,rfl,by omega,HD0.out,HBW.out⟩
  case round =>
   obtain⟨j,rfl,hj,hD,hB⟩:=hrel
   have HD:=hide hD
   have HB:=hide hB
   clear hD hB HD0 HBW
   by_cases hlt:j<len
   ·have hjl:j<l.length:=by have:=hl.out;omega
    obtain⟨x,hx⟩ : ∃ x,l[j]?=some x:=⟨_,List.getElem?_eq_getElem hjl⟩
    have hxl:x∈l:=List.mem_of_getElem? hx
    obtain⟨b,o,rfl,_,_⟩:=HS.out (by omega)
    obtain⟨na,nc,da,dc,hblt,hac,hcc⟩:=HS.out.cells hx
    obtain⟨nl,hnl⟩ : ∃ nl,nl=x.n.length:=⟨_,rfl⟩
    obtain⟨dl,hdl⟩ : ∃ dl,dl=x.d.length:=⟨_,rfl⟩
    obtain⟨wh,hwh⟩ : ∃ wh,wh=x.what:=⟨_,rfl⟩
    unfold acRow at hcc
    rw[<- hnl, <- hdl, <- hwh] at hcc
    have hk9 : ∀ i,i<9->wr.cell? ⟨b,o+j*9+i,none⟩=w.cell? ⟨b,o+j*9+i,none⟩:=fun i _=>World.cell?_of_block (HB.out.block b (by rw[HBe.out];exact hblt))
    have q0:=(hk9 0 (by omega)).trans (hcc 0 (by omega))
    have q1:=(hk9 1 (by omega)).trans (hcc 1 (by omega))
    have q2:=(hk9 2 (by omega)).trans (hcc 2 (by omega))
    have q3:=(hk9 3 (by omega)).trans (hcc 3 (by omega))
    have q4:=(hk9 4 (by omega)).trans (hcc 4 (by omega))
    have q5:=(hk9 5 (by omega)).trans (hcc 5 (by omega))
    have q6:=(hk9 6 (by omega)).trans (hcc 6 (by omega))
    have q7:=(hk9 7 (by omega)).trans (hcc 7 (by omega))
    have q8:=(hk9 8 (by omega)).trans (hcc 8 (by omega))
    simp only[List.getElem?_cons_zero,List.getElem?_cons_succ,Nat.add_zero] at q0 q1 q2 q3 q4 q5 q6 q7 q8
    obtain⟨L,hL⟩ : ∃ L,L=AcT.run Z.exA (l.take j):=⟨_,rfl⟩
    rw[<- hL] at HD
    have hdo:=does_any B wr V base m Z.exA L (j*300) HD.out (hide exA_small) x (hok.out x hxl) (HL.out x hxl) wh (hide hwh.symm) na nl nc da dl dc (hide hnl) (hide hdl) (hac.below HB.out (by rw[HBe.out];exact Nat.le_refl _)) (by omega)
    obtain⟨L',hL'⟩ : ∃ L',L'=AcT.act Z.exA L x:=⟨_,rfl⟩
    rw[<- hL'] at hdo
    have hrun:AcT.run Z.exA (l.take (j+1))=L':=by rw[AcT.run_snoc Z.exA l j x hx, <- hL, <- hL']
    have HRUN:=hide hrun
    have HDO:=hide hdo
    have hjk:(j:Int)<(len:Int):=by omega
    clear hx hxl hblt hac hcc hnl hdl hwh hL hL' hdo hrun hk9
    go_wp2_with (go_at_call 13;refine HDO.out.mono ?_;rintro e w6 ⟨rfl,hD6,hB6⟩)
    go_roundw
    case rel =>
     refine⟨j+1,by go_num,by omega,?_,HB.out.trans hB6⟩
     rw[HRUN.out]
     exact hD6.mono (by omega)
    case measure=>simp[intOf];omega
   ·obtain rfl:j=len:=by omega
    have hT:l.take j=l:=List.take_of_length_le (by have:=hl.out;omega)
    rw[hT] at HD
    obtain⟨L,hL⟩ : ∃ L,L=AcT.run Z.exA l:=⟨_,rfl⟩
    rw[<- hL] at HD
    have hK:j*300<=12000:=by omega
    obtain⟨K,hKe⟩ : ∃ K,K=j*300:=⟨_,rfl⟩
    rw[<- hKe] at HD hK
    clear hT hL hKe
    go_wp2_with (first
     | (go_at_call 35;have hq:=HZN.out;clear hq;refine (mCopy_any w1 base m Z.exA L (HD.out.bel HB01.out).r).mono ?_;rintro e w2 ⟨n,rfl,hn,hRN,hB2⟩)
     | (go_at_call 34;have hq:=HB.out;clear hq;refine (zcopy_live HD.out.z (by omega) (by decide) (by decide)).mono ?_;rintro e w1 ⟨N,rfl,hZN,hB01⟩;have HZN:=hide hZN;have HB01:=hide hB01;clear hZN hB01)
     | fail)
    obtain⟨w9,hw9⟩ : ∃ w9,w9=wr:=⟨_,rfl⟩
    subst hw9
    obtain⟨P,hP⟩ : ∃ P,P=w9.heap.size:=⟨_,rfl⟩
    have hBP:B<=P:=by rw[hP];exact HD.out.le
    obtain⟨base2,hb2⟩ : ∃ base2,base2=w1.heap.size:=⟨_,rfl⟩
    have hs01:=HB01.out.size
    have hDC:Duo P w2 N base2 n Z.exA L K:=⟨by rw[hP];exact HZN.out.bel hB2,by rw[hb2];exact hRN,by omega,by omega,by rw[hb2];exact hB2.size⟩
    have hBC:Below P w9 w2:=by rw[hP];exact HB01.out.trans (hB2.mono HB01.out.size)
    have HP:=hide hP
    have HDC0:=hide hDC
    have HBC0:=hide hBC
    clear hP hb2 hs01 hDC hBC HZN HB01 hRN hB2 hn
    go_loopw [10] (fun i ws => ∃ j:Nat,i = .int .i64 (j:Int)/\j<=len2/\Duo P ws N base2 n Z.exA (AcT.from_ Z.exA L (l2.take j)) (K+j*300)/\Below P w9 ws) (fun i _=>len2 - (intOf i).toNat)
    case atStart=>exact⟨0,rfl,by omega,HDC0.out,HBC0.out⟩
    case round =>
     obtain⟨j,rfl,hj,hD,hB⟩:=hrel
     have HC:=hide hD
     have HBC:=hide hB
     have HBW:=hide (HB.out.trans (hB.mono hBP))
     clear hD hB HDC0 HBC0
     by_cases hlt:j<len2
     ·have hjl:j<l2.length:=by have:=hl2.out;omega
      obtain⟨x,hx⟩ : ∃ x,l2[j]?=some x:=⟨_,List.getElem?_eq_getElem hjl⟩
      have hxl:x∈l2:=List.mem_of_getElem? hx
      obtain⟨b,o,rfl,_,_⟩:=HS2.out (by omega)
      obtain⟨na,nc,da,dc,hblt,hac,hcc⟩:=HS2.out.cells hx
      obtain⟨nl,hnl⟩ : ∃ nl,nl=x.n.length:=⟨_,rfl⟩
      obtain⟨dl,hdl⟩ : ∃ dl,dl=x.d.length:=⟨_,rfl⟩
      obtain⟨wh,hwh⟩ : ∃ wh,wh=x.what:=⟨_,rfl⟩
      unfold acRow at hcc
      rw[<- hnl, <- hdl, <- hwh] at hcc
      have hk9 : ∀ i,i<9->wr.cell? ⟨b,o+j*9+i,none⟩=w.cell? ⟨b,o+j*9+i,none⟩:=fun i _=>World.cell?_of_block (HBW.out.block b (by rw[HBe.out];exact hblt))
      have q0:=(hk9 0 (by omega)).trans (hcc 0 (by omega))
      have q1:=(hk9 1 (by omega)).trans (hcc 1 (by omega))
      have q2:=(hk9 2 (by omega)).trans (hcc 2 (by omega))
      have q3:=(hk9 3 (by omega)).trans (hcc 3 (by omega))
      have q4:=(hk9 4 (by omega)).trans (hcc 4 (by omega))
      have q5:=(hk9 5 (by omega)).trans (hcc 5 (by omega))
      have q6:=(hk9 6 (by omega)).trans (hcc 6 (by omega))
      have q7:=(hk9 7 (by omega)).trans (hcc 7 (by omega))
      have q8:=(hk9 8 (by omega)).trans (hcc 8 (by omega))
      simp only[List.getElem?_cons_zero,List.getElem?_cons_succ,Nat.add_zero] at q0 q1 q2 q3 q4 q5 q6 q7 q8
      obtain⟨M,hM⟩ : ∃ M,M=AcT.from_ Z.exA L (l2.take j):=⟨_,rfl⟩
      rw[<- hM] at HC
      have hdo:=does_any P wr N base2 n Z.exA M (K+j*300) HC.out (hide exA_small) x (hok2.out x hxl) (HL2.out x hxl) wh (hide hwh.symm) na nl nc da dl dc (hide hnl) (hide hdl) (hac.below HBW.out (by rw[HBe.out];exact Nat.le_refl _)) (by omega)
      obtain⟨M',hM'⟩ : ∃ M',M'=AcT.act Z.exA M x:=⟨_,rfl⟩
      rw[<- hM'] at hdo
      have hrun:AcT.from_ Z.exA L (l2.take (j+1))=M':=by rw[AcT.from_snoc Z.exA L l2 j x hx, <- hM, <- hM']
      have HRUN:=hide hrun
      have HDO:=hide hdo
      have hjk:(j:Int)<(len2:Int):=by omega
      clear hx hxl hblt hac hcc hnl hdl hwh hM hM' hdo hrun hk9
      go_wp2_with (go_at_call 13;refine HDO.out.mono ?_;rintro e w6 ⟨rfl,hD6,hB6⟩)
      go_roundw
      case rel =>
       refine⟨j+1,by go_num,by omega,?_,HBC.out.trans hB6⟩
       rw[HRUN.out]
       exact hD6.mono (by omega)
      case measure=>simp[intOf];omega
     ·obtain rfl:j=len2:=by omega
      have hT:l2.take j=l2:=List.take_of_length_le (by have:=hl2.out;omega)
      rw[hT] at HC
      obtain⟨M,hM⟩ : ∃ M,M=AcT.from_ Z.exA L l2:=⟨_,rfl⟩
      rw[<- hM] at HC
      have HDM:=hide (HD.out.bel (show Below w9.heap.size w9 wr by rw[<- HP.out];exact HBC.out))
      obtain⟨_,_,a,c,hrow,_,_,hRL⟩:=HDM.out.r.row
      obtain⟨k,hk⟩ : ∃ k,k=L.length:=⟨_,rfl⟩
      rw[<- hk] at hrow
      have hk2:k<=2000:=by rw[hk];exact HDM.out.z.num
      obtain⟨_,_,a4,c4,hrow4,_,_,hRL4⟩:=HC.out.r.row
      obtain⟨k4,hk4⟩ : ∃ k4,k4=M.length:=⟨_,rfl⟩
      rw[<- hk4] at hrow4
      have hk42:k4<=2000:=by rw[hk4];exact HC.out.z.num
      have HK:=hide hk
      have HK4:=hide hk4
      have HRL:=hide hRL
      have HRL4:=hide hRL4
      have HSH:Hid (∀ x∈L,x.p.length<=128):=hide fun x hx=>(HDM.out.r.okk x hx).2.2.2.2
      have HSH4:Hid (∀ x∈M,x.p.length<=128):=hide fun x hx=>(HC.out.r.okk x hx).2.2.2.2
      have SAll:Hid (∀ w',Below wr.heap.size wr w'->w'.cell? ⟨m,1,none⟩=some (.slice a k c)/\w'.cell? ⟨n,1,none⟩=some (.slice a4 k4 c4)):=hide fun W hW=>⟨(hrow.below hW hrow.lt).cell 1,(hrow4.below hW hrow4.lt).cell 1⟩
      have hK2:K+j*300<=1000000:=by omega
      have hK3:K<=1000000:=by omega
      clear hT hM hrow hRL hk hrow4 hRL4 hk4
      go_wp2
      refine wp_region_X (S:=fun w'=>w'.cell? ⟨m,1,none⟩=some (.slice a k c)/\w'.cell? ⟨n,1,none⟩=some (.slice a4 k4 c4)) (jS:=1000) (by kernel_rfl) ?_
      have BA:Hid (Below wr.heap.size wr wr.drew):=hide ((Below.refl _ wr).drew)
      have SA:=hide (SAll.out _ BA.out)
      generalize wr.drew=w1d at BA SA ⊢
      refine tk gt0 SA.out ?_
      refine tk gt2 SA.out ?_
      refine tk gt3 SA.out ?_
      refine tk gt4 SA.out ?_
      refine tk gt5 SA.out ?_
      refine rdy gt1 (fun K hKK=>?_)
      refine step_fng (by rfl) _ _ (by go_simp) (zrecords_live (HDM.out.bel BA.out).z hK3) (by rintro e w' ⟨v,rfl,_⟩;exact⟨_,rfl⟩) ?_
      rintro _ w2 ⟨v,he,hO,hb⟩
      cases he
      obtain⟨av,cv,hv,_,_⟩:=hO.slice
      rw[<- HK.out] at hv
      subst hv
      have HO1:=hide (RL.of_own hO)
      clear hO
      have B1:=hide (BA.out.trans (hb.mono BA.out.size))
      have SA1:=hide (SAll.out _ B1.out)
      refine kk hKK (Or.inr SA1.out) ?_
      clear hKK hb
      refine rdy gt6 (fun K hKK=>?_)
      refine step_fng (by rfl) _ _ (by go_simp) (hrecords_same L av a k cv c _ _ w2 (hide HK.out) HO1.out (HRL.out.bel B1.out) (by omega) HSH) (by rintro e w' ⟨rfl,_⟩;exact⟨_,rfl⟩) ?_
      rintro _ w3 ⟨he,hb⟩
      cases he
      have B2:=hide (B1.out.trans (hb.mono B1.out.size))
      have SA2:=hide (SAll.out _ B2.out)
      refine kk hKK (Or.inr SA2.out) ?_
      clear hKK hb
      refine tk gt7 SA2.out ?_
      refine tk gt8 SA2.out ?_
      refine tk gt10 SA2.out ?_
      refine tk gt11 SA2.out ?_
      refine tk gt12 SA2.out ?_
      refine tk gt13 SA2.out ?_
      refine rdy gt9 (fun K hKK=>?_)
      refine step_fng (by rfl) _ _ (by go_simp) (zrecords_live (HC.out.bel B2.out).z hK2) (by rintro e w' ⟨v,rfl,_⟩;exact⟨_,rfl⟩) ?_
      rintro _ w4 ⟨v,he,hO,hb⟩
      cases he
      obtain⟨av4,cv4,hv,_,_⟩:=hO.slice
      rw[<- HK4.out] at hv
      subst hv
      have HO4:=hide (RL.of_own hO)
      clear hO
      have B3:=hide (B2.out.trans (hb.mono B2.out.size))
      have SA3:=hide (SAll.out _ B3.out)
      refine kk hKK (Or.inr SA3.out) ?_
      clear hKK hb
      refine rdy gt14 (fun K hKK=>?_)
      refine step_fng (by rfl) _ _ (by go_simp) (hrecords_same M av4 a4 k4 cv4 c4 _ _ w4 (hide HK4.out) HO4.out (HRL4.out.bel B3.out) (by omega) HSH4) (by rintro e w' ⟨rfl,_⟩;exact⟨_,rfl⟩) ?_
      rintro _ w5 ⟨he,hb⟩
      cases he
      have B4:=hide (B3.out.trans (hb.mono B3.out.size))
      have SA4:=hide (SAll.out _ B4.out)
      refine kk hKK (Or.inr SA4.out) ?_
      clear hKK hb
      refine tk gt15 SA4.out ?_
      refine tk gt16 SA4.out ?_
      refine wpAnyX_done (by kernel_rfl) ?_ _
      go_wp2
      go_ret
      exact⟨by simp,by rw[<- HBe.out];exact HBW.out.trans (B4.out.mono (Nat.le_trans hBP HC.out.le))⟩
end Go.Proofs.YtbkegikdmmnkaaaGreat
