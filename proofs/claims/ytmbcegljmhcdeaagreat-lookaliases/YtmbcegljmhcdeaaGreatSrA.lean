/- slices.Sort at uint16, first part (texts of stage 4, at this seat). -/
import Derived.Test.YtmbcegljmhcdeaaGreatDat
import Derived.Recover
import Derived.Laws.BitsAllLaws
import Derived.Deep.RegionLaw
import Derived.Test.YtmbcegljmhcdeaaGreatZrc
import Derived.Lib.ItoaNum
import Derived.WalkKit
import Derived.BigCall
import Derived.BigQuiet
import Derived.Shelf.SlSortCmp.Kit1
import Derived.Sort.WalkB3
import Derived.Sort.Walk7
import Derived.Sort.LotD1
import Derived.Laws.Bits64b
namespace Go.Proofs.YtmbcegljmhcdeaaGreat
set_option maxRecDepth 5000
open Go.RowKit
def fell50:Ending := .panicked [{ v := .iface 80 (.int .i64 50),recovered:=false }]
def SlB (B:Nat) (w:World) (ao:Option Addr) (l:List UInt8):Prop:=0<l.length -> ∃ b o,ao=some ⟨b,o,none⟩/\b<B /\ ∀ j,j<l.length->w.cell? ⟨b,o+j,none⟩=some (.int .u8 (l.getD j 0).toNat)
theorem SlB.sl {B:Nat} {w:World} {ao:Option Addr} {l:List UInt8} (h:SlB B w ao l) (hB:B<=w.heap.size):SlL w ao l:=fun hn=>by
 obtain⟨b,o,e,hlt,hc⟩:=h hn
 exact⟨b,o,e,Nat.lt_of_lt_of_le hlt hB,hc⟩
theorem SlL.slB {w:World} {ao:Option Addr} {l:List UInt8} (h:SlL w ao l):SlB w.heap.size w ao l:=h
theorem SlB.below {B:Nat} {w w':World} {ao:Option Addr} {l:List UInt8} (h:SlB B w ao l) (hb:Below B w w'):SlB B w' ao l:=fun hn=>by
 obtain⟨b,o,e,hlt,hc⟩:=h hn
 exact⟨b,o,e,hlt,fun j hj=>(hb.cell (p:=⟨b,o+j,none⟩) hlt).trans (hc j hj)⟩
theorem SlB.part {B:Nat} {w:World} {ao:Option Addr} {l:List UInt8} {cap k:Nat} (m:Nat) (h:SlB B w ao l) (hk:k+m<=l.length) (hc:l.length<=cap):SlB B w (if cap=k then ao else ao.map (·.add (k*1))) ((l.drop k).take m):=fun hn=>by
 rw[List.length_take,List.length_drop] at hn
 obtain⟨b,o,rfl,hlt,hc'⟩:=h (by omega)
 rw[if_neg (by omega)]
 refine⟨b,o+k,by rw[Option.map_some,Nat.mul_one,addr_add],hlt,fun j hj=>?_⟩
 rw[List.length_take,List.length_drop] at hj
 rw[show o+k+j=o+(k+j) by omega,hc' (k+j) (by omega)]
 have hjm:j<m:=by omega
 simp[List.getD_eq_getElem?_getD,List.getElem?_drop,hjm]
def Mv (T:Nat) (w w':World):Prop:=w.grownBy w' (some T)
theorem Mv.refl (T:Nat) (w:World):Mv T w w:=⟨rfl,rfl,rfl,Nat.le_refl _,fun _ _ _=>rfl⟩
theorem Mv.trans {T:Nat} {a b c:World} (h:Mv T a b) (k:Mv T b c):Mv T a c:=⟨k.os.trans h.os,k.tape.trans h.tape,k.output.trans h.output,Nat.le_trans h.size k.size,fun i hi hn=>(k.block i (Nat.lt_of_lt_of_le hi h.size) hn).trans (h.block i hi hn)⟩
theorem Mv.of {T:Nat} {w w':World} (h:Below w.heap.size w w'):Mv T w w':=⟨h.os,h.tape,h.output,h.size,fun k hk _=>h.block k hk⟩
theorem Mv.set (T j:Nat) (w:World) (v:Value):Mv T w (w.setCell ⟨T,j,none⟩ v):=⟨rfl,rfl,rfl,by simp[World.setCell],fun k _ hn=>Below.heap_setCell _ _ _ _ (fun e=>hn (by rw[e]))⟩
theorem Mv.below {T B:Nat} {w w':World} (h:Mv T w w') (hT:B<=T) (hB:B<=w.heap.size):Below B w w':=⟨h.os,h.tape,h.output,h.size,fun k hk=>h.block k (by omega) (fun e=>by cases e;omega)⟩
theorem own_mv {w w':World} {B e n T t:Nat} {v:Value} {xs:List Value} {c:Array Value} (h:w.ownsRow B e 1 v n xs) (hT:RowAt w T t c) (hne:t≠e) (hg:Mv T w w'):w'.ownsRow B e 1 v n xs:=by
 refine⟨h.1,?_⟩
 rcases h.2 with h1 | ⟨g,cap,cur,e1,hb,hg',hr⟩
 ·exact Or.inl h1
 ·refine Or.inr ⟨g,cap,cur,e1,hb,?_,hr⟩
  rw[hg.block g (Array.getElem?_eq_some_iff.1 hg').1 (fun e2=>?_)]
  ·exact hg'
  ·cases e2
   unfold RowAt at hT
   rw[hT] at hg'
   simp at hg'
   exact hne hg'.2
theorem row_mv {w w':World} {g T t:Nat} {c:Array Value} (h:RowAt w g t c) (hne:g≠T) (hg:Mv T w w'):RowAt w' g t c:=by
 unfold RowAt;rw[hg.block g h.lt (fun e=>hne (by cases e;rfl))];exact h
def Rdr (B T:Nat) (l:List UInt8) (w:World):Prop := ∃ ao c,RowAt w T 203 #[.slice ao l.length c]/\SlB B w ao l/\l.length<=c/\(ao=none->c=0)/\B<=T/\l.length<=8192/\B<=w.heap.size
theorem Rdr.below {B T:Nat} {l:List UInt8} {w w':World} (h:Rdr B T l w) (hb:Below w.heap.size w w'):Rdr B T l w':=by
 obtain⟨ao,c,h1,h2,h3,h4,h5,h6,h7⟩:=h
 have:=h1.lt
 exact⟨ao,c,h1.below hb (by omega),h2.below (hb.mono h7),h3,h4,h5,h6,Nat.le_trans h7 hb.size⟩
theorem Rdr.lt {B T:Nat} {l:List UInt8} {w:World} (h:Rdr B T l w):T<w.heap.size:=by
 obtain⟨ao,c,h1,_⟩:=h
 exact h1.lt
theorem Rdr.own {B T:Nat} {l:List UInt8} {w w':World} {b n:Nat} {v:Value} {xs:List Value} (h:Rdr B T l w) (hg:Mv T w w') (ho:w.ownsRow b 5 1 v n xs):w'.ownsRow b 5 1 v n xs:=by
 obtain⟨ao,c,h1,_⟩:=h
 exact own_mv ho h1 (by decide) hg
theorem Rdr.ownB {B T:Nat} {l:List UInt8} {w w':World} {b:Nat} {v:Value} {x:List UInt8} (h:Rdr B T l w) (hg:Mv T w w') (ho:OwnB w b v x):OwnB w' b v x:=h.own hg ho
theorem Rdr.ownS {B T:Nat} {l:List UInt8} {w w':World} {b:Nat} {v:Value} {x:List (List UInt8)} (h:Rdr B T l w) (hg:Mv T w w') (ho:OwnS w b v x):OwnS w' b v x:=by
 obtain⟨ao,c,h1,_⟩:=h
 have ho':w.ownsRow b 9 1 v x.length (vs x):=ho
 exact own_mv ho' h1 (by decide) hg
theorem OwnB.lower {w:World} {base base':Nat} {v:Value} {n:List UInt8} (h:OwnB w base v n) (hb:base'<=base):OwnB w base' v n:=by
 have h0:w.ownsRow base 5 1 v n.length (vb n):=h
 refine⟨h0.1,?_⟩
 rcases h0.2 with h1 | ⟨g,cap,cur,e,h1,h2,h3⟩
 ·exact Or.inl h1
 ·exact Or.inr ⟨g,cap,cur,e,Nat.le_trans hb h1,h2,h3⟩
theorem equalIn_nil (w:World) (d:Nat) (t e:TypeId) (a:Option Addr) (l c:Nat) (h:Tryz.prog.underlying t=some (.slice e)):(Op.equalIn (d+1) t (.slice a l c) (.slice none 0 0)).run Tryz.prog w = .ok a.isNone w:=by
 cases a <;> simp[Op.equalIn,run_underlying h]
theorem eql_nil (w:World) (t e:TypeId) (a:Option Addr) (l c:Nat) (h:Tryz.prog.underlying t=some (.slice e)):(binOp .eql t (.slice a l c) (.slice none 0 0)).run Tryz.prog w = .ok (.bool a.isNone) w:=by
 have h2:(Op.equal t (.slice a l c) (.slice none 0 0)).run Tryz.prog w = .ok a.isNone w:=equalIn_nil w 9999 t e a l c h
 simp[binOp,h2]
def Got {α : Type} (B T:Nat) (o:Option (α × List UInt8)) (R : α -> Value->World->Prop) (w:World) (e:Ending) (w':World):Prop :=
 ((∃ x r v,o=some (x,r)/\e = .returned v/\R x v w'/\Rdr B T r w')\/(o=none/\e=fell50))/\Mv T w w'
theorem clone_any (l:List UInt8) (ao:Option Addr) (len cap:Nat) (w:World) (hl:Hid (l.length=len)) (hs:SlL w ao l) (hnil:ao=none->cap=0) (hn:len<=1000000000) :
 Calls Tryz.prog 100 #[.slice ao len cap] w fun e w' => ∃ v,e = .returned v/\OwnB w' w.heap.size v l/\Below w.heap.size w w':=by
 have heq : ∀ W,(binOp .eql 37 (.slice ao len cap) (.slice none 0 0)).run Tryz.prog W = .ok (.bool ao.isNone) W:=fun W=>eql_nil W 37 5 ao len cap Tryz.underlying37
 cases ao with
 | none =>
  have h0:l = []:=by
   rcases Nat.eq_zero_or_pos l.length with h | h
   ·exact List.eq_nil_of_length_eq_zero h
   ·obtain⟨b,o,e,_⟩:=hs h;cases e
  subst h0
  clear hs
  obtain rfl:=hnil rfl
  obtain rfl:len=0:=hl.out.symm
  clear hnil
  replace heq : ∀ W,(binOp .eql 37 (.slice none 0 0) (.slice none 0 0)).run Tryz.prog W = .ok (.bool true) W:=heq
  go_enter Tryz.func100,Tryz.ntmps100
  go_wp2
  go_ret
  exact⟨_,rfl,OwnB.nil _ _,Below.refl _ _⟩
 | some a =>
  have HS:=hide hs
  clear hs
  clear hnil
  replace heq : ∀ W,(binOp .eql 37 (.slice (some a) len cap) (.slice none 0 0)).run Tryz.prog W = .ok (.bool false) W:=heq
  go_enter Tryz.func100,Tryz.ntmps100
  have hO:OwnB (w.alloc (.cells #[] 5)) w.heap.size (.slice (some ⟨w.heap.size,0,none⟩) 0 0) []:=⟨rfl,Or.inr ⟨w.heap.size,0,#[],rfl,Nat.le_refl _,heap_alloc_last w _,Nat.le_refl _,by unfold maxLen;omega,rfl,rfl⟩⟩
  have hb:=(Below.refl w.heap.size w).alloc (Nat.le_refl _) (.cells #[] 5)
  go_wp2_with (at_builtin;refine wpList_append_B rfl (.tmp 5) (.tmp 6) rfl w.heap.size _ [] rfl (by exact hO) _ _ _ l rfl hl.out (by exact HS.out.alloc _) (by intro h;cases h) (by simp;omega) (by simp) ?_;intro v4 w4 hO4 hG4;have hB4:=grown_below hO hG4 hb (by simp);clear hG4 hO hb)
  go_ret
  exact⟨_,rfl,hO4,hB4⟩
theorem slice_hd {B:Nat} {w:World} {ao:Option Addr} {l:List UInt8} {cap:Nat} (k:Nat) (hs:SlB B w ao l) (hk:k<=l.length) (hc:l.length<=cap) (hnil:ao=none->cap=0) :
 ∃ ao',(∀ W,(Instr.slice 37 (.slice ao l.length cap) none (some (.int .i64 (k:Int))) none).run Tryz.prog W = .ok (.slice ao' k cap) W)/\SlB B w ao' (l.take k)/\(ao'=none->cap=0):=by
 refine⟨if cap=0 then ao else ao.map (·.add (0*1)),fun W=>?_,?_,?_⟩
 ·rw[run_slice_h W 37 ao l.length cap Tryz.underlying37 .i64 (k:Int) (by omega) (by omega)]
  have hz:(sizeOf (Tryz.prog.elem 37)).run Tryz.prog W = .ok 1 W:=Tryz.sizeOf5 W
  rw[hz]
  simp only[Result.andThen,sliced,Int.toNat_natCast,Nat.sub_zero]
 ·have:=hs.part (k:=0) (cap:=cap) k (by omega) hc
  rwa [List.drop_zero] at this
 ·intro h
  split at h
  ·assumption
  ·rw[Option.map_eq_none_iff] at h;exact hnil h
theorem slice_tl {B:Nat} {w:World} {ao:Option Addr} {l:List UInt8} {cap:Nat} (k:Nat) (hs:SlB B w ao l) (hk:k<=l.length) (hc:l.length<=cap) (hnil:ao=none->cap=0) :
 ∃ ao',(∀ W,(Instr.slice 37 (.slice ao l.length cap) (some (.int .i64 (k:Int))) none none).run Tryz.prog W = .ok (.slice ao' (l.length - k) (cap - k)) W)/\SlB B w ao' (l.drop k)/\(ao'=none->cap - k=0):=by
 refine⟨if cap=k then ao else ao.map (·.add (k*1)),fun W=>?_,?_,?_⟩
 ·rw[run_slice_l W 37 ao l.length cap Tryz.underlying37 .i64 (k:Int) (by omega) (by omega)]
  have hz:(sizeOf (Tryz.prog.elem 37)).run Tryz.prog W = .ok 1 W:=Tryz.sizeOf5 W
  rw[hz]
  simp only[Result.andThen,sliced,Int.toNat_natCast]
 ·have:=hs.part (k:=k) (cap:=cap) (l.length - k) (by omega) hc
  rwa [List.take_of_length_le (by rw[List.length_drop];omega)] at this
 ·intro h
  split at h
  ·omega
  ·rw[Option.map_eq_none_iff] at h;have:=hnil h;omega
theorem rbytes_any (B T k:Nat) (l:List UInt8) (w:World) (hR:Rdr B T l w) (hk:k<=1000000) :
 Calls Tryz.prog 144 #[.pointer (some ⟨T,0,none⟩),.int .i64 (k:Int)] w fun e w'=>Got B T (D.by_ k l) (fun x v w'=>OwnB w' w.heap.size v x) w e w':=by
 obtain⟨ao,c,hT,hs,hc,hnil,hBT,hl,hB⟩:=hR
 have c0:w.cell? ⟨T,0,none⟩=some (.slice ao l.length c):=by rw[hT.cell 0];rfl
 rcases Nat.lt_or_ge l.length k with hlt | hge
 ·have hR:D.by_ k l=none:=by unfold D.by_;rw[if_pos hlt]
  have HR:=hide hR
  clear hT hs hR
  go_enter Tryz.func144,Tryz.ntmps144
  go_wp2
  exact⟨rfl,Or.inr ⟨HR.out,rfl⟩,Mv.refl _ _⟩
 ·have hR:D.by_ k l=some (l.take k,l.drop k):=by unfold D.by_;rw[if_neg (by omega)]
  obtain⟨a1,r1,s1,n1⟩:=slice_hd k hs hge hc hnil
  obtain⟨a2,r2,s2,n2⟩:=slice_tl k hs hge hc hnil
  have HR:=hide hR
  have HT:=hide hT
  have H1:=hide s1
  have H2:=hide s2
  clear hT hs hR s1 s2
  go_enter Tryz.func144,Tryz.ntmps144
  go_wp2_with (go_at_call 100;refine (clone_any (l.take k) a1 k c _ (by show _=_;rw[List.length_take];omega) (by exact H1.out.sl hB) n1 (by omega)).mono ?_;rintro e w1 ⟨v,rfl,hO,hb1⟩;have hT1:=HT.out.below hb1 HT.out.lt;have c1:w1.cell? ⟨T,0,none⟩=some (.slice ao l.length c):=hT1.cell 0;have f1:=hT1.frozen 0)
  go_ret
  refine⟨Or.inl ⟨_,_,v,HR.out,rfl,?_,?_⟩,(Mv.of hb1).trans (Mv.set T 0 _ _)⟩
  ·exact own_set hO hT1 (by decide) _ _
  ·refine⟨a2,c - k,?_,?_,by rw[List.length_drop];omega,n2,hBT,by rw[List.length_drop];omega,by simp[World.setCell];have:=hb1.size;omega⟩
   ·rw[List.length_drop];exact hT1.set 0 _
   ·exact (H2.out.below (hb1.mono hB)).below ((Below.refl B w1).setCell hBT _)
open Go.RowKit
theorem rdone_any (B T:Nat) (l:List UInt8) (w:World) (hR:Rdr B T l w) :
 Calls Tryz.prog 143 #[.pointer (some ⟨T,0,none⟩)] w fun e w'=>e = .returned (.bool (decide (l = [])))/\w'=w:=by
 obtain⟨ao,c,hT,hs,hc,hnil,hBT,hl,hB⟩:=hR
 have c0:w.cell? ⟨T,0,none⟩=some (.slice ao l.length c):=by rw[hT.cell 0];rfl
 have he:((l.length:Int) == 0)=decide (l = []):=by cases l <;> simp;omega
 generalize decide (l = [])=q at he
 clear hT hs
 go_enter Tryz.func143,Tryz.ntmps143
 go_wp2
 go_ret
 exact⟨rfl,rfl⟩
theorem rothers_any (B T:Nat) (l:List UInt8) (w:World) (hR:Rdr B T l w) :
 Calls Tryz.prog 149 #[.pointer (some ⟨T,0,none⟩)] w fun e w' => ∃ v,e = .returned v/\OwnB w' w.heap.size v l/\Rdr B T [] w'/\Mv T w w':=by
 have HR:=hide hR
 obtain⟨ao,c,hT,hs,hc,hnil,hBT,hl,hB⟩:=hR
 have c0:w.cell? ⟨T,0,none⟩=some (.slice ao l.length c):=by rw[hT.cell 0];rfl
 have hby:D.by_ l.length l=some (l, []):=by unfold D.by_;rw[if_neg (by omega),List.take_length,List.drop_length]
 have HY:=hide hby
 clear hT hs hby
 go_enter Tryz.func149,Tryz.ntmps149
 go_wp2_with fail
 refine (rbytes_any B T l.length l _ (by exact HR.out) (by omega)).mono ?_
 rw[HY.out]
 rintro e w1 ⟨⟨x,r,v,ho,rfl,hx,hr⟩ | ⟨ho,rfl⟩,hm⟩
 ·cases ho
  go_wp2
  go_ret
  exact⟨v,rfl,hx,hr,hm⟩
 ·cases ho
theorem rn8_any (B T:Nat) (l:List UInt8) (w:World) (hR:Rdr B T l w) :
 Calls Tryz.prog 183 #[.pointer (some ⟨T,0,none⟩)] w fun e w'=>Got B T (D.n8 l) (fun x v _=>v = .int .u8 (x:Int)) w e w':=by
 go_enter Tryz.func183,Tryz.ntmps183
 go_wp2_with fail
 refine (rbytes_any B T 1 l _ hR (by omega)).mono ?_
 rintro e w1 ⟨⟨x,r,v,ho,rfl,hx,hr⟩ | ⟨ho,rfl⟩,hm⟩
 ·obtain⟨e1,e2⟩:=D.by_back ho
  match x,e2,hx with
  | [y],_,hx =>
   obtain⟨g,cap,rfl,_,_,_,_,hc⟩:=hx.form (by simp)
   have c0:w1.cell? ⟨g,0,none⟩=some (.int .u8 (y.toNat:Int)):=hc 0 (by simp)
   clear hc
   go_wp2
   go_ret
   exact⟨Or.inl ⟨y.toNat,r,_,by rw[e1];rfl,rfl,rfl,hr⟩,hm⟩
 ·unfold fell50
  go_wp2
  refine⟨rfl,Or.inr ⟨?_,rfl⟩,hm⟩
  cases l with
  | nil=>rfl
  | cons a l=>unfold D.by_ at ho;rw[if_neg (by simp)] at ho;cases ho
theorem or_16 (x y:Nat) (hx:x<256) (hy:y<256):bits .or .u16 ((x:Int)*256) (y:Int)=((x*256+y:Nat):Int):=by
 have:=u16_or_nat (x*256) y (by omega) (by omega)
 rw[nat_join 8 (x*256) y (by omega) (by omega),Int.natCast_mul] at this
 exact this
theorem or_32 (x y:Nat) (hx:x<65536) (hy:y<65536):bits .or .u32 ((x:Int)*65536) (y:Int)=((x*65536+y:Nat):Int):=by
 have:=u32_or_nat (x*65536) y (by omega) (by omega)
 rw[nat_join 16 (x*65536) y (by omega) (by omega),Int.natCast_mul] at this
 exact this
theorem rn16_any (B T:Nat) (l:List UInt8) (w:World) (hR:Rdr B T l w) :
 Calls Tryz.prog 182 #[.pointer (some ⟨T,0,none⟩)] w fun e w'=>Got B T (D.n16 l) (fun x v _=>v = .int .u16 (x:Int)) w e w':=by
 go_enter Tryz.func182,Tryz.ntmps182
 go_wp2_with fail
 refine (rbytes_any B T 2 l _ hR (by omega)).mono ?_
 rintro e w1 ⟨⟨x,r,v,ho,rfl,hx,hr⟩ | ⟨ho,rfl⟩,hm⟩
 ·obtain⟨e1,e2⟩:=D.by_back ho
  match x,e2,hx with
  | [y,z],_,hx =>
   obtain⟨g,cap,rfl,_,_,_,_,hc⟩:=hx.form (by simp)
   have c0:w1.cell? ⟨g,0,none⟩=some (.int .u8 (y.toNat:Int)):=hc 0 (by simp)
   have c1:w1.cell? ⟨g,1,none⟩=some (.int .u8 (z.toNat:Int)):=hc 1 (by simp)
   have hy:=y.toNat_lt
   have hz:=z.toNat_lt
   have ho2:=or_16 y.toNat z.toNat hy hz
   clear hc
   go_wp2
   go_quiet (fail)
   go_wp2
   go_ret
   refine⟨Or.inl ⟨y.toNat*256+z.toNat,r,_,by rw[e1];rfl,rfl,?_,hr.below (drew_below _ ⟨_,rfl⟩)⟩,hm.trans (Mv.of (drew_below _ ⟨_,rfl⟩))⟩
   show Value.int .u16 ((y.toNat:Int)*256+(z.toNat:Int)) = .int .u16 ((y.toNat*256+z.toNat:Nat):Int)
   rw[Int.natCast_add,Int.natCast_mul];rfl
 ·unfold fell50
  go_wp2
  refine⟨rfl,Or.inr ⟨?_,rfl⟩,hm⟩
  match l with
  | []=>rfl
  | [a]=>rfl
  | a::b::l=>unfold D.by_ at ho;rw[if_neg (by simp)] at ho;cases ho
theorem rn32_any (B T:Nat) (l:List UInt8) (w:World) (hR:Rdr B T l w) :
 Calls Tryz.prog 180 #[.pointer (some ⟨T,0,none⟩)] w fun e w'=>Got B T (D.n32 l) (fun x v _=>v = .int .u32 (x:Int)) w e w':=by
 go_enter Tryz.func180,Tryz.ntmps180
 go_wp2_with fail
 refine (rn16_any B T l _ hR).mono ?_
 rintro e w1 ⟨⟨x,r,v,ho,rfl,rfl,hr⟩ | ⟨ho,rfl⟩,hm⟩
 ·obtain⟨_,hx⟩:=D.n16_back ho
  go_wp2_with fail
  refine (rn16_any B T r _ hr).mono ?_
  rintro e w2 ⟨⟨y,q,v,ho2,rfl,rfl,hq⟩ | ⟨ho2,rfl⟩,hm2⟩
  ·obtain⟨_,hy⟩:=D.n16_back ho2
   have hor:=or_32 x y hx hy
   go_wp2
   go_ret
   refine⟨Or.inl ⟨x*65536+y,q,_,by unfold D.n32;rw[ho];simp[ho2],rfl,?_,hq⟩,hm.trans hm2⟩
   show Value.int .u32 ((x:Int)*65536+(y:Int)) = .int .u32 ((x*65536+y:Nat):Int)
   rw[Int.natCast_add,Int.natCast_mul];rfl
  ·unfold fell50
   go_wp2
   exact⟨rfl,Or.inr ⟨by unfold D.n32;rw[ho];simp[ho2],rfl⟩,hm.trans hm2⟩
 ·unfold fell50
  go_wp2
  exact⟨rfl,Or.inr ⟨by unfold D.n32;rw[ho];rfl,rfl⟩,hm⟩
theorem rcounted_any (B T:Nat) (l:List UInt8) (w:World) (hR:Rdr B T l w) :
 Calls Tryz.prog 157 #[.pointer (some ⟨T,0,none⟩)] w fun e w'=>Got B T (D.cnt l) (fun x v w'=>OwnB w' w.heap.size v x) w e w':=by
 go_enter Tryz.func157,Tryz.ntmps157
 go_wp2_with fail
 refine (rn8_any B T l _ hR).mono ?_
 rintro e w1 ⟨⟨x,r,v,ho,rfl,rfl,hr⟩ | ⟨ho,rfl⟩,hm⟩
 ·obtain⟨_,hx⟩:=D.n8_back ho
  go_wp2_with fail
  refine (rbytes_any B T x r _ hr (by omega)).mono ?_
  rintro e w2 ⟨⟨y,q,v,ho2,rfl,hO,hq⟩ | ⟨ho2,rfl⟩,hm2⟩
  ·go_wp2
   go_ret
   exact⟨Or.inl ⟨y,q,_,by unfold D.cnt;rw[ho];exact ho2,rfl,hO.lower hm.size,hq⟩,hm.trans hm2⟩
  ·unfold fell50
   go_wp2
   exact⟨rfl,Or.inr ⟨by unfold D.cnt;rw[ho];exact ho2,rfl⟩,hm.trans hm2⟩
 ·unfold fell50
  go_wp2
  exact⟨rfl,Or.inr ⟨by unfold D.cnt;rw[ho];rfl,rfl⟩,hm⟩
theorem rname_any (B T:Nat) (l:List UInt8) (w:World) (hR:Rdr B T l w) :
 Calls Tryz.prog 177 #[.pointer (some ⟨T,0,none⟩)] w fun e w'=>Got B T (D.nm l) (fun x v w'=>OwnS w' w.heap.size v x) w e w':=by
 obtain⟨ao,c,hT,hs,hc,hnil,hBT,hl,hB⟩:=hR
 have c0:w.cell? ⟨T,0,none⟩=some (.slice ao l.length c):=by rw[hT.cell 0];rfl
 have HT:=hide hT
 have HS:=hide hs
 clear hT hs
 go_enter Tryz.func177,Tryz.ntmps177
 go_wp2_with fail
 refine (open_any l ao l.length c _ rfl (by exact HS.out.sl hB) (by omega) hc).mono ?_
 rintro e w1 ⟨⟨n,v,hn,hz,rfl,hO⟩ | ⟨hn,rfl⟩ | ⟨n,hn,hz,rfl⟩,hb1⟩
 ·obtain⟨_,_,hsz⟩:=N.opn_small l n hn
  have hR:D.nm l=some (n,l.drop (N.size n)):=by unfold D.nm;rw[hn,Option.bind_some,if_pos hz]
  obtain⟨a2,r2,s2,n2⟩:=slice_tl (N.size n) HS.out hsz hc hnil
  have hT1:=HT.out.below hb1 HT.out.lt
  have c1:w1.cell? ⟨T,0,none⟩=some (.slice ao l.length c):=hT1.cell 0
  have f1:=hT1.frozen 0
  have HR:=hide hR
  have H2:=hide s2
  have HO:=hide hO
  have HT1:=hide hT1
  have HB1:=hide hb1
  clear hR s2 hO hT1 hn hb1
  go_wp2
  go_ret
  refine⟨Or.inl ⟨_,_,v,HR.out,rfl,?_,?_⟩,(Mv.of HB1.out).trans (Mv.set T 0 _ _)⟩
  ·exact own_set HO.out HT1.out (by decide) _ _
  ·refine⟨a2,c - N.size n,?_,?_,by rw[List.length_drop];omega,n2,hBT,by rw[List.length_drop];omega,by simp[World.setCell];have:=HB1.out.size;omega⟩
   ·rw[List.length_drop];exact HT1.out.set 0 _
   ·exact (H2.out.below (HB1.out.mono hB)).below ((Below.refl B w1).setCell hBT _)
 ·have hR:D.nm l=none:=by unfold D.nm;rw[hn];rfl
  have HR:=hide hR
  clear hR hn
  go_wp2
  exact⟨rfl,Or.inr ⟨HR.out,rfl⟩,Mv.of hb1⟩
 ·have hR:D.nm l=none:=by unfold D.nm;rw[hn,Option.bind_some,if_neg (by omega)]
  have HR:=hide hR
  clear hR hn
  go_wp2
  exact⟨rfl,Or.inr ⟨HR.out,rfl⟩,Mv.of hb1⟩
open Go.RowKit
theorem step_call {ops:Array Oper} {o:Oper} {a:Act} {w:World} {K:Act->World->Prop} {Q:Exit->Act->World->Prop} {E:Prop} (hgd:o.guard=none) (f:FuncId) (vals:Array Value)
 (hx:(execOp a.eval o).run Tryz.prog w = .ok (.enter f vals) w) {R:Ending->World->Prop} (hc:Calls Tryz.prog f vals w R) (hr : ∀ e w',R e w' -> ∃ v,e = .returned v)
 (h : ∀ v w',R (.returned v) w'->K (a.put o.dst v) w'):if Region.wanted o (yielded ops a.tmps)=true then Oper.wp Tryz.prog o a w K Q else E:=by
 have hw:Region.wanted o (yielded ops a.tmps)=true:=by simp[Region.wanted,hgd]
 rw[if_pos hw]
 unfold Oper.wp
 rw[hx,Oper.upon_enter]
 refine hc.mono fun e w' he=>?_
 obtain⟨v,rfl⟩:=hr e w' he
 exact h v w' he
def Kp (base:Nat) (w w':World):Prop:=Below base w w' /\ ∀ g t c,RowAt w g t c->t≠5->RowAt w' g t c
theorem Kp.refl (base:Nat) (w:World):Kp base w w:=⟨Below.refl _ _,fun _ _ _ h _=>h⟩
theorem Kp.trans {base:Nat} {a b c:World} (h:Kp base a b) (k:Kp base b c):Kp base a c:=⟨h.1.trans k.1,fun g t x hx ht=>k.2 g t x (h.2 g t x hx ht) ht⟩
theorem Kp.of {base:Nat} {w w':World} (h:Below w.heap.size w w') (hb:base<=w.heap.size):Kp base w w':=⟨h.mono hb,fun _ _ _ hx _=>hx.below h hx.lt⟩
theorem Kp.grown {base:Nat} {w w':World} {v:Value} {l:List UInt8} (hO:OwnB w base v l) (hg:w.grownBy w' v.ownBlock) (hb:base<=w.heap.size):Kp base w w':=⟨grown_below hO hg (Below.refl _ _) hb,fun _ _ _ hx ht=>row_grown hO hx ht hg⟩
theorem Kp.size {base:Nat} {w w':World} (h:Kp base w w') (hb:base<=w.heap.size):base<=w'.heap.size:=Nat.le_trans hb h.1.size
theorem Kp.app {base:Nat} {w w':World} {v:Value} {l:List UInt8} {o:Obj} (hO:OwnB w base v l) (hg:(w.alloc o).grownBy w' v.ownBlock) (hb:base<=w.heap.size):Kp base w w' :=
 (Kp.of ((Below.refl w.heap.size w).alloc (Nat.le_refl _) o) hb).trans (Kp.grown (hO.alloc o) hg (by simp;omega))
theorem append16_any (n:Nat) (hn:n<65536) (base:Nat) (v:Value) (l:List UInt8) (w:World) (hO:OwnB w base v l) (hb:base<=w.heap.size) (hl:l.length<=1000000) :
 Calls Tryz.prog 184 #[v,.int .u16 (n:Int)] w fun e w' => ∃ v',e = .returned v'/\OwnB w' base v' (l++D.p16 n)/\Kp base w w':=by
 have HO:=hide hO
 clear hO
 go_enter Tryz.func184,Tryz.ntmps184
 have h1:Hid ((n:Int) / 256=((UInt8.ofNat (n / 256)).toNat:Int)):=by show _=_;rw[UInt8.toNat_ofNat'];omega
 have h2:Hid ((n:Int) % 256=((UInt8.ofNat n).toNat:Int)):=by show _=_;rw[UInt8.toNat_ofNat'];omega
 go_wp2_with (at_builtin;refine wpList_append_B rfl (.tmp 5) (.tmp 11) rfl base _ l rfl (by exact HO.out.alloc _) _ _ _ (D.p16 n) rfl rfl (by refine SlL.litm w (D.p16 n) _ 5 (0,0) ?_;show _ = #[Value.int .u8 ((UInt8.ofNat (n / 256)).toNat:Int),Value.int .u8 ((UInt8.ofNat n).toNat:Int)];rw[<- h1.out, <- h2.out]) (by intro h;cases h) (by simp;omega) (by simp;omega) ?_;intro v4 w4 hO4 hG4)
 go_ret
 exact⟨_,rfl,hO4,Kp.app HO.out hG4 hb⟩
theorem append16_nil (n:Nat) (hn:n<65536) (w:World) :
 Calls Tryz.prog 184 #[.slice none 0 0,.int .u16 (n:Int)] w fun e w' => ∃ v',e = .returned v'/\OwnB w' w.heap.size v' (D.p16 n)/\Below w.heap.size w w' :=
 (append16_any n hn w.heap.size (.slice none 0 0) [] w (OwnB.nil _ _) (Nat.le_refl _) (by simp)).mono fun _ _ ⟨v',h1,h2,h3⟩=>⟨v',h1,h2,h3.1⟩
theorem append32_any (n:Nat) (hn:n<4294967296) (base:Nat) (v:Value) (l:List UInt8) (w:World) (hO:OwnB w base v l) (hb:base<=w.heap.size) (hl:l.length<=900000) :
 Calls Tryz.prog 205 #[v,.int .u32 (n:Int)] w fun e w' => ∃ v',e = .returned v'/\OwnB w' base v' (l++D.p32 n)/\Kp base w w':=by
 have HO:=hide hO
 clear hO
 have h1:(n:Int) / 65536=((n / 65536:Nat):Int):=by omega
 have h2:IntKind.u16.wrap (n:Int)=((n % 65536:Nat):Int):=by rw[IntKind.wrap_u16];omega
 have b1:n / 65536<65536:=by omega
 have b2:n % 65536<65536:=by omega
 have e0:l++D.p32 n=l++D.p16 (n / 65536)++D.p16 (n % 65536):=by rw[D.p32,List.append_assoc]
 rw[e0]
 clear e0
 generalize n / 65536=x at h1 b1
 generalize n % 65536=y at h2 b2
 go_enter Tryz.func205,Tryz.ntmps205
 go_wp2_with fail
 refine (append16_any x b1 base v l _ (by exact HO.out) (by exact hb) (by omega)).mono ?_
 rintro e w1 ⟨v1,rfl,hO1,hK1⟩
 go_wp2_with fail
 refine (append16_any y b2 base v1 (l++D.p16 x) _ (by exact hO1) (by exact hK1.size hb) (by simp[D.p16];omega)).mono ?_
 rintro e w2 ⟨v2,rfl,hO2,hK2⟩
 go_wp2
 go_ret
 exact⟨_,rfl,hO2,hK1.trans hK2⟩
theorem SlL.grown {w w':World} {ao:Option Addr} {x:List UInt8} {row:Option Nat} (h:SlL w ao x) (hg:w.grownBy w' row) (hne:0<x.length -> ∀ b o,ao=some ⟨b,o,none⟩->some b≠row):SlL w' ao x:=fun hn=>by
 obtain⟨b,o,e,hlt,hc⟩:=h hn
 exact⟨b,o,e,Nat.lt_of_lt_of_le hlt hg.size,fun j hj=>(World.cell?_of_block (w:=w) (a:=⟨b,o+j,none⟩) (hg.block b hlt (hne hn b o e))).trans (hc j hj)⟩
theorem appendCounted_any (x:List UInt8) (ao:Option Addr) (len cap:Nat) (base:Nat) (v:Value) (l:List UInt8) (w:World) (hO:OwnB w base v l) (hb:base<=w.heap.size) (hl:l.length<=900000) (hx:Hid (x.length=len)) (hs:SlL w ao x) (hnil:ao=none->cap=0) (hlen:len<=100000) (hne:0<x.length -> ∀ b o,ao=some ⟨b,o,none⟩->some b≠v.ownBlock) :
 Calls Tryz.prog 156 #[v,.slice ao len cap] w fun e w' => ∃ v',e = .returned v'/\OwnB w' base v' (l++D.pc x)/\Kp base w w':=by
 have HO:=hide hO
 have HS:=hide hs
 have HN:=hide hne
 have HNI:=hide hnil
 clear hO hs hne hnil
 have h1:Hid ((len:Int) % 256=((UInt8.ofNat x.length).toNat:Int)):=by show _=_;rw[UInt8.toNat_ofNat',hx.out];omega
 go_enter Tryz.func156,Tryz.ntmps156
 go_wp2_with (first
  | (at_builtin;refine wpList_append_B rfl (.tmp 5) (.tmp 9) rfl base _ l rfl (by exact HO.out.alloc _) _ _ _ [UInt8.ofNat x.length] rfl rfl (by exact SlL.oneI _ _ _ _ h1.out) (by intro h;cases h) (by simp;omega) (by simp;omega) ?_;intro v4 w4 hO4 hG4;have hS4:=(HS.out.alloc _).grown hG4 HN.out;have hK4:=Kp.app HO.out hG4 hb;clear hG4)
  | (at_builtin;refine wpList_append_B rfl (.tmp 10) (.tmp 11) rfl base _ _ rfl hO4 _ _ _ x rfl hx.out hS4 HNI.out (by simp;omega) (hK4.size hb) ?_;intro v5 w5 hO5 hG5;have hK5:=Kp.grown hO4 hG5 (hK4.size hb);clear hG5))
 go_ret
 refine⟨_,rfl,?_,hK4.trans hK5⟩
 rw[List.append_assoc] at hO5
 exact hO5
theorem OwnB.blk {w:World} {base:Nat} {v:Value} {l:List UInt8} (h:OwnB w base v l) {g:Nat} (hg:some g=v.ownBlock):base<=g/\g<w.heap.size:=by
 have h0:w.ownsRow base 5 1 v l.length (vb l):=h
 rcases h0.2 with⟨rfl,_⟩ | ⟨g',cap,cur,rfl,hb,hg',_⟩
 ·simp[Value.ownBlock] at hg
 ·simp[Value.ownBlock] at hg;subst hg;exact⟨hb,(Array.getElem?_eq_some_iff.1 hg').1⟩
theorem SlL.apart {w0 w:World} {ao:Option Addr} {x:List UInt8} {base:Nat} {v:Value} {l:List UInt8} (hs:SlL w0 ao x) (hO:OwnB w base v l) (hb:w0.heap.size<=base):0<x.length -> ∀ b o,ao=some ⟨b,o,none⟩->some b≠v.ownBlock:=by
 intro hn b o e e2
 obtain⟨b',o',e',hlt,_⟩:=hs hn
 rw[e'] at e
 cases e
 have:=(hO.blk e2).1
 omega
theorem OwnB.two (w:World) (x y:UInt8) (base:Nat) (hb:base<=w.heap.size):OwnB (w.alloc (.cells #[.int .u8 x.toNat,.int .u8 y.toNat] 5)) base (.slice (some ⟨w.heap.size,0,none⟩) 2 2) [x,y] :=
 ⟨rfl,Or.inr ⟨w.heap.size,2,_,rfl,hb,heap_alloc_last w _,by simp,by unfold maxLen;omega,rfl,rfl⟩⟩
open Go.RowKit
theorem below_allocs {B:Nat} {w W:World} {o:Obj} (h:Below B w (w.alloc o)) (hB:B<=w.heap.size) (hW:W=(w.alloc o).drew \/ ∃ q,W=((w.alloc o).alloc q).drew):Below B w W:=by
 rcases hW with rfl | ⟨q,rfl⟩
 ·exact h.drew
 ·exact (h.alloc (by simp;omega) q).drew
set_option maxHeartbeats 800000 in
theorem keyBytes_any (k:D.Key) (ao:Option Addr) (len cap:Nat) (w:World) (hk:k.Ok) (hx:Hid (k.key.length=len)) (hs:SlL w ao k.key) (hnil:ao=none->cap=0) (hlen:len<=100000) :
 Calls Tryz.prog 152 #[.agg #[.int .u16 (k.flags:Int),.int .u8 (k.proto:Int),.int .u8 (k.alg:Int),.slice ao len cap]] w fun e w' => ∃ v',e = .returned v'/\OwnB w' w.heap.size v' (D.keyB k)/\Below w.heap.size w w':=by
 have HS:=hide hs
 have HNI:=hide hnil
 clear hs hnil
 obtain⟨k1,k2,k3⟩:=hk
 have q1:(k.proto:Int)=((UInt8.ofNat k.proto).toNat:Int):=by rw[D.nat_u8 _ k2]
 have q2:(k.alg:Int)=((UInt8.ofNat k.alg).toNat:Int):=by rw[D.nat_u8 _ k3]
 have hk1:=k1
 rw[q1,q2]
 clear q1 q2
 have hrow:=RowAt.new w 179 #[.int .u16 (k.flags:Int),.int .u8 ((UInt8.ofNat k.proto).toNat:Int),.int .u8 ((UInt8.ofNat k.alg).toNat:Int),.slice ao len cap]
 have HROW:=hide hrow
 clear hrow
 have HB0:=hide ((Below.refl w.heap.size w).alloc (Nat.le_refl _) (.cells #[.int .u16 (k.flags:Int),.int .u8 ((UInt8.ofNat k.proto).toNat:Int),.int .u8 ((UInt8.ofNat k.alg).toNat:Int),.slice ao len cap] 179))
 show Calls _ _ _ _ fun e w' => ∃ v',e = .returned v'/\OwnB w' w.heap.size v' (D.p16 k.flags ++ [UInt8.ofNat k.proto,UInt8.ofNat k.alg]++k.key)/\Below w.heap.size w w'
 generalize UInt8.ofNat k.proto=x at HROW HB0 ⊢
 generalize UInt8.ofNat k.alg=y at HROW HB0 ⊢
 go_enter Tryz.func152,Tryz.ntmps152
 go_wp2
 go_region_law (first
  | (refine step_call rfl 184 #[.slice none 0 0,.int .u16 (k.flags:Int)] (by go_simp) (append16_nil k.flags k1 _) (by rintro e w' ⟨v,rfl,_⟩;exact⟨v,rfl⟩) ?_;rintro v1 w1 ⟨_,he,hO1,hb1⟩;cases he;have r1:=RowAt.below (by first | exact HROW.out | exact HROW.out.alloc _) hb1 (by simp <;> omega);have p1:w1.cell? ⟨w.heap.size,1,none⟩=some (.int .u8 (x.toNat:Int)):=r1.cell 1;have p2:w1.cell? ⟨w.heap.size,2,none⟩=some (.int .u8 (y.toNat:Int)):=r1.cell 2;have R1:=hide r1;have O1:=hide (OwnB.lower (base':=w.heap.size) hO1 (by simp <;> omega));have z1:w.heap.size<=w1.heap.size:=Nat.le_trans (by simp <;> omega) hb1.size;have B1:=hide ((below_allocs HB0.out (Nat.le_refl _) (by first | exact Or.inl rfl | exact Or.inr ⟨_,rfl⟩)).trans (hb1.mono (by simp <;> omega)));(try (have S1:Hid (SlL w1 (some ⟨w.heap.size+1,0,none⟩) [x,y]):=SlL.below (by have h:=SlL.litm (w.alloc (.cells #[.int .u16 (k.flags:Int),.int .u8 (x.toNat:Int),.int .u8 (y.toNat:Int),.slice ao len cap] 179)) [x,y] _ 5 (0,0) rfl;rw[World.size_alloc] at h;exact h) hb1 (by simp <;> omega)));clear r1 hO1 hb1)
  | (refine step_append_B rfl (.tmp 6) (.tmp 11) rfl w.heap.size v1 (D.p16 k.flags) (by simp[Act.eval]) (by exact O1.out.alloc _) ⟨w1.heap.size,0,none⟩ 2 2 [x,y] (by simp[Act.eval]) rfl (by exact SlL.litm w1 [x,y] _ 5 (0,0) rfl) (by simp[D.p16]) (by simp;omega) ?_;intro v4 w4 hO4 hG4;have K4:=hide (Kp.app O1.out hG4 z1);have O4:=hide hO4;clear hG4 hO4)
  | (refine step_append_B rfl (.tmp 6) (.tmp 11) rfl w.heap.size v1 (D.p16 k.flags) (by simp[Act.eval]) (by exact O1.out) ⟨w.heap.size+1,0,none⟩ 2 2 [x,y] (by simp[Act.eval]) rfl (by exact S1.out) (by simp[D.p16]) (by exact z1) ?_;intro v4 w4 hO4 hG4;have K4:=hide (Kp.grown O1.out hG4 z1);have O4:=hide hO4;clear hG4 hO4))
 all_goals
  have p3:w4.cell? ⟨w.heap.size,3,none⟩=some (.slice ao len cap):=(K4.out.2 _ _ _ R1.out (by decide)).cell 3
  have HS4:=hide (HS.out.below (B1.out.trans K4.out.1) (Nat.le_refl _))
  go_wp2_with (at_builtin;refine wpList_append_B rfl (.tmp 13) (.tmp 15) rfl w.heap.size _ _ rfl (by exact O4.out) _ _ _ k.key rfl hx.out (by exact HS4.out) HNI.out (by simp[D.p16];omega) (by exact K4.out.size z1) ?_;intro v5 w5 hO5 hG5;have hK5:=Kp.grown O4.out hG5 (K4.out.size z1);clear hG5)
  go_ret
  exact⟨_,rfl,hO5,(B1.out.trans K4.out.1).trans hK5.1⟩
open Go.RowKit Go.Sort
theorem dC {W:World} {N g o:Nat} {G:Nat->UInt16} (n:Nat) (h : ∀ t,t<N->W.cell? ⟨g,o+t,none⟩=some (.int .u16 ((G t).toNat:Int))) : ∀ t,t<N->(W.drewN n).cell? ⟨g,o+t,none⟩=some (.int .u16 ((G t).toNat:Int)):=h
theorem dF {W:World} {N g o:Nat} (n:Nat) (h : ∀ t,t<N->W.frozen? ⟨g,o+t,none⟩=false) : ∀ t,t<N->(W.drewN n).frozen? ⟨g,o+t,none⟩=false:=h
namespace Q
def enc (x:UInt16):Value := .int .u16 (x.toNat:Int)
def lt (x y:UInt16):Bool:=decide (x.toNat<y.toNat)
theorem swo:SWO lt where
 irrefl x:=by simp[lt]
 trans x y z h1 h2:=by simp only[lt,decide_eq_true_eq] at *; omega
 ntrans x y z h1 h2:=by simp only[lt,decide_eq_false_iff_not] at *; omega
structure Rw (w0:World) (g o N:Nat):Prop where
 row : ∃ d0:Array UInt16,d0.size=N/\Row1 enc w0 g o d0
 small:N<4611686018427387904
structure St (w0:World) (g o N:Nat) (d:Array UInt16) (W:World):Prop where
 size:d.size=N
 sw:SW enc w0 g o d W
theorem St.look {w0 W:World} {g o N:Nat} {d:Array UInt16} (h:St w0 g o N d W) (R:Rw w0 g o N) :
 ∃ G:Nat->UInt16,Hid (∀ t,d[t]! = G t)/\(∀ t,t<N->W.cell? ⟨g,o+t,none⟩=some (.int .u16 ((G t).toNat:Int)))/\(∀ t,t<N->W.frozen? ⟨g,o+t,none⟩=false):=by
 obtain⟨⟨d0,h0,R1⟩,_⟩:=R
 obtain⟨hd,hS⟩:=h
 exact⟨fun t=>d[t]!,fun _=>rfl,fun t ht=>hS.c1 R1 (by omega) t (by omega),fun t ht=>hS.f1 R1 (by omega) t (by omega)⟩
theorem St.drewN {w0 W:World} {g o N:Nat} {d:Array UInt16} (h:St w0 g o N d W) (q:Nat):St w0 g o N d (W.drewN q):=⟨h.1,h.2.drewN q⟩
theorem St.swap {w0 W:World} {g o N:Nat} {d:Array UInt16} (h:St w0 g o N d W) (R:Rw w0 g o N) {G:Nat->UInt16} (hG : ∀ t,d[t]! = G t) (q i j:Nat) (hi:i<N) (hj:j<N) :
 St w0 g o N (swp d i j) (((W.drewN q).setCell ⟨g,o+i,none⟩ (.int .u16 ((G j).toNat:Int))).setCell ⟨g,o+j,none⟩ (.int .u16 ((G i).toNat:Int))):=by
 obtain⟨⟨d0,h0,R1⟩,_⟩:=R
 obtain⟨hd,hS⟩:=h
 refine⟨by rw[size_swp];exact hd,?_⟩
 have:=(hS.drewN q).swap R1.hblk i j (by omega) (by omega)
 rw[hG,hG] at this
 exact this
end Q
open Q
theorem nan_any (x:UInt16) (w:World):Calls Tryz.prog 201 #[.int .u16 (x.toNat:Int)] w fun e w'=>e = .returned (.bool false)/\w'=w:=by
 go_enter Tryz.func201,Tryz.ntmps201
 go_wp2
 go_ret
 exact⟨rfl,rfl⟩
theorem less_any (x y:UInt16) (w:World):Calls Tryz.prog 169 #[.int .u16 (x.toNat:Int),.int .u16 (y.toNat:Int)] w fun e w'=>e = .returned (.bool (lt x y))/\w'=w:=by
 unfold lt
 go_enter Tryz.func169,Tryz.ntmps169
 go_wp2_with (go_at_call 201;refine (nan_any x _).mono ?_;rintro e w' ⟨rfl,rfl⟩)
 go_ret
 exact⟨rfl,rfl⟩
set_option maxHeartbeats 3200000 in
theorem ins_any (w0 w:World) (g o N cap a b:Nat) (d:Array UInt16) (R:Rw w0 g o N) (h:St w0 g o N d w) (hab:a<=b) (hb:b<=N) :
 Calls Tryz.prog 163 #[.slice (some ⟨g,o,none⟩) N cap,.int .i64 a,.int .i64 b] w fun e w'=>e = .returned (.tuple #[])/\St w0 g o N (Sort.insertionSort lt d a b) w':=by
 have hsm:=R.small
 go_enter Tryz.func163,Tryz.ntmps163
 go_wp2
 go_loopw [6] (fun v W => ∃ (i:Nat) (dk:Array UInt16),v = .int .i64 (i:Int)/\a<i/\i<=b+1/\St w0 g o N dk W/\insOuter lt a b i dk=insOuter lt a b (a+1) d) (fun v _=>b+1 - (intOf v).toNat)
 case atStart=>exact⟨a+1,d,by go_num,by omega,by omega,h,rfl⟩
 case round =>
  clear h
  obtain⟨i,dk,rfl,hai,hib,hS,hO⟩:=hrel
  have HO:Hid _:=hO
  clear hO
  go_wp2
  ·have hlt:i<b:=by assumption
   go_loopw [7] (fun v W => ∃ (j:Nat) (dj:Array UInt16),v = .int .i64 (j:Int)/\a<=j/\j<=i/\St w0 g o N dj W/\insInner lt a j dj=insInner lt a i dk) (fun v _=>(intOf v).toNat)
   case atStart=>exact⟨i,dk,rfl,by omega,Nat.le_refl _,hS,rfl⟩
   case round =>
    clear hS
    obtain⟨j,dj,rfl,haj,hji,hS,hI⟩:=hrel
    obtain⟨G,HG,hc,hf⟩:=hS.look R
    have HS:Hid _:=hS
    have HI:Hid _:=hI
    clear hS hI
    have OUT:(j<=a\/lt (G j) (G (j - 1))=false) -> ∀ q,∃ (i':Nat) (dk':Array UInt16),Value.int .i64 ((i:Int)+1) = .int .i64 (i':Int)/\a<i'/\i'<=b+1/\St w0 g o N dk' (wr.drewN q)/\insOuter lt a b i' dk'=insOuter lt a b (a+1) d:=fun hs q =>
     ⟨i+1,dj,by go_num,by omega,by omega,HS.out.drewN q,by rw[<- HO.out,insOuter_go _ _ _ _ _ hlt, <- HI.out,insInner_stop _ _ _ _ (by rw[HG.out,HG.out];exact hs)]⟩
    have OUT':Hid _:=OUT
    clear OUT
    go_wp2
    by_cases hja:a<j
    ·go_quiet (first | (go_at_call 169;refine Calls.quiet_of_same (less_any _ _ _)))
     go_wp2
     ·have hl:lt (G j) (G (j - 1))=true:=by assumption
      go_region
      all_goals go_wp2
      go_roundw
      case rel=>exact⟨j - 1,swp dj j (j - 1),by congr 1;omega,by omega,by omega,HS.out.swap R HG.out _ j (j - 1) (by omega) (by omega),by rw[<- HI.out,insInner_go lt a j dj hja (by rw[HG.out,HG.out];exact hl)]⟩
      case measure=>simp[intOf];omega
     ·have hl:lt (G j) (G (j - 1))=false:=by assumption
      go_roundw
      case rel=>exact OUT'.out (Or.inr hl) nq
      case measure=>simp[intOf];omega
    ·go_quiet (first | (go_at_call 169;refine Calls.quiet_of_same (less_any _ _ _)))
     go_wp2
     go_roundw
     case rel=>exact OUT'.out (Or.inl (by omega)) nq
     case measure=>simp[intOf];omega
  ·have hge : ¬ i<b:=by assumption
   go_end0
   exact⟨rfl,by unfold Sort.insertionSort;rw[<- HO.out,insOuter_stop _ _ _ _ _ hge];exact hS⟩
open Go.RowKit Go.Sort Q
set_option maxHeartbeats 3200000 in
theorem rev_any (w0 w:World) (g o N cap a b:Nat) (d:Array UInt16) (R:Rw w0 g o N) (h:St w0 g o N d w) (hab:a<=b) (hb:b<=N) :
 Calls Tryz.prog 167 #[.slice (some ⟨g,o,none⟩) N cap,.int .i64 a,.int .i64 b] w fun e w'=>e = .returned (.tuple #[])/\St w0 g o N (Sort.reverseRange d a b) w':=by
 have hsm:=R.small
 go_enter Tryz.func167,Tryz.ntmps167
 go_wp2
 go_loopw [6,7] (fun v u W => ∃ (i j:Nat) (dk:Array UInt16),v = .int .i64 (i:Int)/\u = .int .i64 ((j:Int) - 1)/\i<=N/\j<=N/\St w0 g o N dk W/\reverseLoop i (j - 1) dk=reverseLoop a (b - 1) d) (fun v u _=>((intOf u) - (intOf v)).toNat)
 case atStart=>exact⟨a,b,d,rfl,rfl,by omega,hb,h,rfl⟩
 case round =>
  clear h
  obtain⟨i,j,dk,rfl,rfl,hi,hj,hS,hO⟩:=hrel
  obtain⟨G,HG,hc,hf⟩:=hS.look R
  have HO:Hid _:=hO
  have HS:Hid _:=hS
  clear hO hS
  by_cases hlt:i<j - 1
  ·have e1:(i:Int)<(j:Int) - 1:=by omega
   have e2:((j:Int) - 1)=((j - 1:Nat):Int):=by omega
   rw[e2] at *
   go_wp2
   go_region
   all_goals go_wp2
   go_roundw
   case rel=>exact⟨i+1,j - 1,swp dk i (j - 1),by go_num,by go_num,by omega,by omega,HS.out.swap R HG.out _ i (j - 1) (by omega) (by omega),by rw[<- HO.out];conv=>rhs;rw[reverseLoop,if_pos hlt]⟩
   case measure=>simp[intOf];omega
  ·have e1 : ¬ ((i:Int)<(j:Int) - 1):=by omega
   go_wp2
   go_end0
   refine⟨rfl,?_⟩
   unfold Sort.reverseRange
   rw[<- HO.out,reverseLoop,if_neg hlt];exact HS.out
set_option maxHeartbeats 6400000 in
theorem sift_any (w0 w:World) (g o N cap l hi F:Nat) (d:Array UInt16) (R:Rw w0 g o N) (h:St w0 g o N d w) (hb:F+hi<=N) (hl:l<=N) :
 Calls Tryz.prog 196 #[.slice (some ⟨g,o,none⟩) N cap,.int .i64 l,.int .i64 hi,.int .i64 F] w fun e w'=>e = .returned (.tuple #[])/\St w0 g o N (Sort.siftDown lt hi F l d) w':=by
 have hsm:=R.small
 go_enter Tryz.func196,Tryz.ntmps196
 go_wp2
 go_loopw [8] (fun v W => ∃ (r:Nat) (dk:Array UInt16),v = .int .i64 (r:Int)/\r<=N/\St w0 g o N dk W/\siftDown lt hi F r dk=siftDown lt hi F l d) (fun v _=>N+1 - (intOf v).toNat)
 case atStart=>exact⟨l,d,rfl,hl,h,rfl⟩
 case round =>
  clear h
  obtain⟨r,dk,rfl,hr,hS,hO⟩:=hrel
  obtain⟨G,HG,hc,hf⟩:=hS.look R
  have HO:Hid _:=hO
  have HS:Hid _:=hS
  clear hO hS
  by_cases hend:hi<=2*r+1
  ·have e1:(hi:Int)<=2*(r:Int)+1:=by omega
   go_wp2
   go_end0
   exact⟨rfl,by rw[<- HO.out,sd_end lt dk hend];exact HS.out⟩
  ·have e1 : ¬ (hi:Int)<=2*(r:Int)+1:=by omega
   obtain⟨c,hcc⟩ : ∃ c,2*r+1=c:=⟨_,rfl⟩
   have e2:2*(r:Int)+1=(c:Int):=by omega
   have HC:Hid _:=hcc
   clear hcc
   rw[e2] at e1
   have hcN:F+c<N:=by omega
   have hrN:F+r<N:=by have:=HC.out;omega
   go_wp2
   by_cases hc1:c+1<hi
   ·have e3:(c:Int)+1<(hi:Int):=by omega
    have hcN1:F+c+1<N:=by omega
    go_quiet (first | (go_at_call 169;refine Calls.quiet_of_same (less_any _ _ _)))
    go_wp2
    ·have hl1:lt (G (F+c)) (G (F+c+1))=true:=by assumption
     have hXr:r<c+1:=by have:=HC.out;omega
     have hXN:F+(c+1)<N:=by omega
     go_wp2
     replace HS:Hid (St w0 g o N dk (wr.drewN nq)):=HS.out.drewN nq
     replace hc:=dC nq hc
     replace hf:=dF nq hf
     generalize wr.drewN nq=wr2 at HS hc hf ⊢
     clear nq
     go_quiet (first | (go_at_call 169;refine Calls.quiet_of_same (less_any _ _ _)))
     go_wp2
     ·have hl:lt (G (F+r)) (G (F+(c+1)))=false:=by
       have:(!lt (G (F+r)) (G (F+(c+1))))=true:=by assumption
       simpa using this
      (try simp only[Exit.inBlock,Exit.then]);refine bodyPost_ret (results_none rfl _ _ _) rfl ?_
      have:=HC.out
      exact⟨rfl,by rw[<- HO.out,sd_right_stop lt dk (by omega) (by rw[HG.out,HG.out,show F+(2*r+1)=F+c by omega,show F+(2*r+2)=F+c+1 by omega];exact hl1) (by rw[HG.out,HG.out,show F+(2*r+2)=F+(c+1) by omega];exact hl)];exact HS.out.drewN _⟩
     ·have hl:lt (G (F+r)) (G (F+(c+1)))=true:=by
       have:(!lt (G (F+r)) (G (F+(c+1))))=false:=by assumption
       simpa using this
      replace HS:Hid (St w0 g o N dk (wr2.drewN nq)):=HS.out.drewN nq
      replace hc : ∀ t,t<N->(wr2.drewN nq).cell? ⟨g,o+t,none⟩=some (.int .u16 ((G t).toNat:Int)):=hc
      replace hf : ∀ t,t<N->(wr2.drewN nq).frozen? ⟨g,o+t,none⟩=false:=hf
      generalize wr2.drewN nq=wr3 at HS hc hf ⊢
      clear nq
      go_region
      all_goals go_wp2
      go_roundw
      case rel =>
       have:=HC.out
       exact⟨c+1,swp dk (F+r) (F+(c+1)),by go_num,by omega,HS.out.swap R HG.out _ (F+r) (F+(c+1)) (by omega) (by omega),by rw[<- HO.out,sd_right_go lt dk (by omega) (by rw[HG.out,HG.out,show F+(2*r+1)=F+c by omega,show F+(2*r+2)=F+c+1 by omega];exact hl1) (by rw[HG.out,HG.out,show F+(2*r+2)=F+(c+1) by omega];exact hl),show 2*r+2=c+1 by omega]⟩
      case measure=>simp[intOf];omega
    ·have hl1:lt (G (F+c)) (G (F+c+1))=false:=by assumption
     have hXr:r<c:=by have:=HC.out;omega
     have hXN:F+(c)<N:=by omega
     go_wp2
     replace HS:Hid (St w0 g o N dk (wr.drewN nq)):=HS.out.drewN nq
     replace hc:=dC nq hc
     replace hf:=dF nq hf
     generalize wr.drewN nq=wr2 at HS hc hf ⊢
     clear nq
     go_quiet (first | (go_at_call 169;refine Calls.quiet_of_same (less_any _ _ _)))
     go_wp2
     ·have hl:lt (G (F+r)) (G (F+(c)))=false:=by
       have:(!lt (G (F+r)) (G (F+(c))))=true:=by assumption
       simpa using this
      (try simp only[Exit.inBlock,Exit.then]);refine bodyPost_ret (results_none rfl _ _ _) rfl ?_
      have:=HC.out
      exact⟨rfl,by rw[<- HO.out,sd_left_stop lt dk (by omega) (fun _=>(by rw[HG.out,HG.out,show F+(2*r+1)=F+c by omega,show F+(2*r+2)=F+c+1 by omega];exact hl1)) (by rw[HG.out,HG.out,show F+(2*r+1)=F+c by omega];exact hl)];exact HS.out.drewN _⟩
     ·have hl:lt (G (F+r)) (G (F+(c)))=true:=by
       have:(!lt (G (F+r)) (G (F+(c))))=false:=by assumption
       simpa using this
      replace HS:Hid (St w0 g o N dk (wr2.drewN nq)):=HS.out.drewN nq
      replace hc : ∀ t,t<N->(wr2.drewN nq).cell? ⟨g,o+t,none⟩=some (.int .u16 ((G t).toNat:Int)):=hc
      replace hf : ∀ t,t<N->(wr2.drewN nq).frozen? ⟨g,o+t,none⟩=false:=hf
      generalize wr2.drewN nq=wr3 at HS hc hf ⊢
      clear nq
      go_region
      all_goals go_wp2
      go_roundw
      case rel =>
       have:=HC.out
       exact⟨c,swp dk (F+r) (F+(c)),by go_num,by omega,HS.out.swap R HG.out _ (F+r) (F+(c)) (by omega) (by omega),by rw[<- HO.out,sd_left_go lt dk (by omega) (fun _=>(by rw[HG.out,HG.out,show F+(2*r+1)=F+c by omega,show F+(2*r+2)=F+c+1 by omega];exact hl1)) (by rw[HG.out,HG.out,show F+(2*r+1)=F+c by omega];exact hl),this]⟩
      case measure=>simp[intOf];omega
   ·have e3:decide ((c:Int)+1<(hi:Int))=false:=decide_eq_false (by omega)
    go_quiet (first | (go_at_call 169;refine Calls.quiet_of_same (less_any _ _ _)))
    have hXr:r<c:=by have:=HC.out;omega
    have hXN:F+(c)<N:=by omega
    go_wp2
    replace HS:Hid (St w0 g o N dk (wr.drewN nq)):=HS.out.drewN nq
    replace hc:=dC nq hc
    replace hf:=dF nq hf
    generalize wr.drewN nq=wr2 at HS hc hf ⊢
    clear nq
    go_quiet (first | (go_at_call 169;refine Calls.quiet_of_same (less_any _ _ _)))
    go_wp2
    ·have hl:lt (G (F+r)) (G (F+(c)))=false:=by
      have:(!lt (G (F+r)) (G (F+(c))))=true:=by assumption
      simpa using this
     (try simp only[Exit.inBlock,Exit.then]);refine bodyPost_ret (results_none rfl _ _ _) rfl ?_
     have:=HC.out
     exact⟨rfl,by rw[<- HO.out,sd_left_stop lt dk (by omega) (fun h=>absurd h (by omega)) (by rw[HG.out,HG.out,show F+(2*r+1)=F+c by omega];exact hl)];exact HS.out.drewN _⟩
    ·have hl:lt (G (F+r)) (G (F+(c)))=true:=by
      have:(!lt (G (F+r)) (G (F+(c))))=false:=by assumption
      simpa using this
     replace HS:Hid (St w0 g o N dk (wr2.drewN nq)):=HS.out.drewN nq
     replace hc : ∀ t,t<N->(wr2.drewN nq).cell? ⟨g,o+t,none⟩=some (.int .u16 ((G t).toNat:Int)):=hc
     replace hf : ∀ t,t<N->(wr2.drewN nq).frozen? ⟨g,o+t,none⟩=false:=hf
     generalize wr2.drewN nq=wr3 at HS hc hf ⊢
     clear nq
     go_region
     all_goals go_wp2
     go_roundw
     case rel =>
      have:=HC.out
      exact⟨c,swp dk (F+r) (F+(c)),by go_num,by omega,HS.out.swap R HG.out _ (F+r) (F+(c)) (by omega) (by omega),by rw[<- HO.out,sd_left_go lt dk (by omega) (fun h=>absurd h (by omega)) (by rw[HG.out,HG.out,show F+(2*r+1)=F+c by omega];exact hl),this]⟩
     case measure=>simp[intOf];omega
open Go.RowKit Go.Sort Q
namespace Q
theorem two {W:World} {g o N:Nat} {G:Nat->UInt16} (hc : ∀ t,t<N->W.cell? ⟨g,o+t,none⟩=some (.int .u16 ((G t).toNat:Int))) (i j:Nat) (hi:i<N) (hj:j<N) (v:Value) : ∃ u,(W.setCell ⟨g,o+i,none⟩ v).cell? ⟨g,o+j,none⟩=some u:=by
 by_cases e:i=j
 ·subst e;exact⟨v,World.cell?_setCell_same _ _ _ (hc i hi)⟩
 ·exact⟨_,(World.cell?_setCell_other _ _ _ _ (by intro e';simp only[Addr.mk.injEq] at e';omega)).trans (hc j hj)⟩
end Q
set_option maxHeartbeats 6400000 in
theorem heap_any (w0 w:World) (g o N cap a b:Nat) (d:Array UInt16) (R:Rw w0 g o N) (h:St w0 g o N d w) (hab:a<=b) (hb:b<=N) :
 Calls Tryz.prog 164 #[.slice (some ⟨g,o,none⟩) N cap,.int .i64 a,.int .i64 b] w fun e w'=>e = .returned (.tuple #[])/\St w0 g o N (Sort.heapSort lt d a b) w':=by
 have hsm:=R.small
 obtain⟨H,hH⟩ : ∃ H:Nat,b - a=H:=⟨_,rfl⟩
 have e0:(b:Int) - (a:Int)=(H:Int):=by omega
 have hs:=half_start hab
 rw[e0,hH] at hs
 have HB:Hid _:=hH
 clear hH
 go_enter Tryz.func164,Tryz.ntmps164
 go_wp2
 go_loopw [9] (fun v W => ∃ (k:Nat) (dk:Array UInt16),v = .int .i64 ((k:Int) - 1)/\k<=(H - 1) / 2+1/\St w0 g o N dk W/\heapBuild lt H a k dk=heapBuild lt H a ((H - 1) / 2+1) d) (fun v _=>((intOf v)+1).toNat)
 case atStart=>exact⟨(H - 1) / 2+1,d,by congr 1;omega,Nat.le_refl _,h,rfl⟩
 case round =>
  clear h
  obtain⟨k,dk,rfl,hk,hS,hO⟩:=hrel
  have HO:Hid _:=hO
  clear hO
  by_cases hk0:k=0
  ·subst hk0
   have e1:((0:Nat):Int) - 1 = -1:=by omega
   rw[e1]
   clear e1
   go_wp2
   go_loopw [10] (fun v W => ∃ (k:Nat) (dj:Array UInt16),v = .int .i64 ((k:Int) - 1)/\k<=H/\St w0 g o N dj W/\heapPop lt a k dj=heapPop lt a H dk) (fun v _=>((intOf v)+1).toNat)
   case atStart=>exact⟨H,dk,rfl,Nat.le_refl _,hS,rfl⟩
   case round =>
    clear hS hk
    obtain⟨k,dj,rfl,hk,hS,hP⟩:=hrel
    have HP:Hid _:=hP
    clear hP
    by_cases hk0:k=0
    ·subst hk0
     go_wp2
     go_end0
     refine⟨rfl,?_⟩
     unfold Sort.heapSort
     have e:=HO.out
     rw[heapBuild] at e
     rw[HB.out, <- e, <- HP.out];exact hS
    ·obtain⟨m,rfl⟩ : ∃ m,k=m+1:=⟨k - 1,by omega⟩
     have e1:((m+1:Nat):Int) - 1=(m:Int):=by omega
     rw[e1] at *
     obtain⟨G,HG,hc,hf⟩:=hS.look R
     have haN:a<N:=by have:=HB.out;omega
     have hamN:a+m<N:=by have:=HB.out;omega
     have HS:Hid _:=hS
     clear hS
     obtain⟨x0,hx0⟩:=two hc a (a+m) haN hamN (.int .u16 ((G (a+m)).toNat:Int))
     go_wp2
     go_region
     all_goals go_wp2_with fail
     go_wp2_with (go_at_call 196;refine (sift_any w0 _ g o N cap 0 m a (swp dj a (a+m)) R (HS.out.swap R HG.out _ a (a+m) haN hamN) (by omega) (by omega)).mono ?_;rintro e w' ⟨rfl,hS'⟩)
     go_roundw
     case rel=>exact⟨m,_,rfl,by omega,hS',HP.out⟩
     case measure=>simp[intOf]
  ·obtain⟨m,rfl⟩ : ∃ m,k=m+1:=⟨k - 1,by omega⟩
   have e1:((m+1:Nat):Int) - 1=(m:Int):=by omega
   rw[e1] at *
   go_wp2_with (go_at_call 196;refine (sift_any w0 _ g o N cap m H a dk R hS (by have:=HB.out;omega) (by omega)).mono ?_;rintro e w' ⟨rfl,hS'⟩)
   go_roundw
   case rel=>exact⟨m,siftDown lt H a m dk,rfl,by omega,hS',HO.out⟩
   case measure=>simp[intOf]
open Go.RowKit Go.Sort Q
namespace Q
structure Cn (w0:World) (g o N:Nat) (d:Array UInt16) (c:Nat) (W:World):Prop where
 st:St w0 g o N d W
 cell : ∃ z:Int,W.cell? ⟨c,0,none⟩=some (.int .i64 z)
 frozen:W.frozen? ⟨c,0,none⟩=false
 new:w0.heap.size<=c
 lt:c<W.heap.size
theorem Cn.drewN {w0 W:World} {g o N c:Nat} {d:Array UInt16} (h:Cn w0 g o N d c W) (q:Nat):Cn w0 g o N d c (W.drewN q):=⟨h.st.drewN q,h.cell,h.frozen,h.new,h.lt⟩
theorem Cn.bump {w0 W:World} {g o N c:Nat} {d:Array UInt16} (h:Cn w0 g o N d c W) (z:Int):Cn w0 g o N d c (W.setCell ⟨c,0,none⟩ (.int .i64 z)):=by
 obtain⟨z0,hz⟩:=h.cell
 exact⟨⟨h.st.size,h.st.sw.setCell_new c 0 _ h.new⟩,⟨z,World.cell?_setCell_same _ _ _ hz⟩,by rw[World.frozen?_setCell];exact h.frozen,h.new,by simpa using h.lt⟩
theorem Cn.start {w0 W:World} {g o N:Nat} {d:Array UInt16} (h:St w0 g o N d W) (T:TypeId):Cn w0 g o N d W.heap.size (W.alloc (.cells #[.int .i64 0] T)) :=
 ⟨⟨h.size,h.sw.alloc _⟩,⟨0,by simp⟩,by simp,h.sw.le,by simp⟩
end Q
set_option maxHeartbeats 3200000 in
theorem ord2_any (w0 w:World) (g o N cap a b c:Nat) (d:Array UInt16) (R:Rw w0 g o N) (C:Cn w0 g o N d c w) (ha:a<N) (hb:b<N) :
 Calls Tryz.prog 215 #[.slice (some ⟨g,o,none⟩) N cap,.int .i64 a,.int .i64 b,.pointer (some ⟨c,0,none⟩)] w fun e w' => ∃ x y:Nat,e = .returned (.tuple #[.int .i64 x,.int .i64 y])/\((x=a/\y=b)\/(x=b/\y=a))/\Cn w0 g o N d c w':=by
 have hsm:=R.small
 obtain⟨G,HG,hc,hf⟩:=C.st.look R
 obtain⟨z,hz⟩:=C.cell
 have hfz:=C.frozen
 have HS:Hid _:=C
 clear C
 go_enter Tryz.func215,Tryz.ntmps215
 go_wp2
 go_quiet (first | (go_at_call 169;refine Calls.quiet_of_same (less_any _ _ _)))
 go_wp2
 ·go_ret2
  exact⟨b,a,rfl,Or.inr ⟨rfl,rfl⟩,(HS.out.drewN _).bump _⟩
 ·go_ret2
  exact⟨a,b,rfl,Or.inl ⟨rfl,rfl⟩,HS.out.drewN _⟩
set_option maxHeartbeats 3200000 in
theorem med_any (w0 w:World) (g o N cap a b k c:Nat) (d:Array UInt16) (R:Rw w0 g o N) (C:Cn w0 g o N d c w) (ha:a<N) (hb:b<N) (hk:k<N) :
 Calls Tryz.prog 200 #[.slice (some ⟨g,o,none⟩) N cap,.int .i64 a,.int .i64 b,.int .i64 k,.pointer (some ⟨c,0,none⟩)] w fun e w' => ∃ x:Nat,e = .returned (.int .i64 x)/\(x=a\/x=b\/x=k)/\Cn w0 g o N d c w':=by
 go_enter Tryz.func200,Tryz.ntmps200
 go_wp2_with fail
 go_at_call 215
 refine (ord2_any w0 _ g o N cap a b c d R C ha hb).mono ?_
 rintro e w1 ⟨x1,y1,rfl,h1,C1⟩
 have hx1:x1<N:=by omega
 have hy1:y1<N:=by omega
 go_wp2_with fail
 go_at_call 215
 refine (ord2_any w0 _ g o N cap y1 k c d R C1 hy1 hk).mono ?_
 rintro e w2 ⟨x2,y2,rfl,h2,C2⟩
 have hx2:x2<N:=by omega
 go_wp2_with fail
 go_at_call 215
 refine (ord2_any w0 _ g o N cap x1 x2 c d R C2 hx1 hx2).mono ?_
 rintro e w3 ⟨x3,y3,rfl,h3,C3⟩
 have HH:Hid (y3=a\/y3=b\/y3=k):=by show y3=a\/y3=b\/y3=k;omega
 clear h1 h2 h3
 go_wp2_with fail
 go_ret
 exact⟨y3,rfl,HH.out,C3⟩
set_option maxHeartbeats 3200000 in
theorem medadj_any (w0 w:World) (g o N cap a c:Nat) (d:Array UInt16) (R:Rw w0 g o N) (C:Cn w0 g o N d c w) (ha:0<a) (hb:a+1<N) :
 Calls Tryz.prog 199 #[.slice (some ⟨g,o,none⟩) N cap,.int .i64 a,.pointer (some ⟨c,0,none⟩)] w fun e w' => ∃ x:Nat,e = .returned (.int .i64 x)/\a - 1<=x/\x<=a+1/\Cn w0 g o N d c w':=by
 have hsm:=R.small
 go_enter Tryz.func199,Tryz.ntmps199
 go_wp2_with fail
 go_at_call 200
 rw[show (a:Int) - 1=((a - 1:Nat):Int) by omega,show (a:Int)+1=((a+1:Nat):Int) by omega]
 refine (med_any w0 _ g o N cap (a - 1) a (a+1) c d R C (by omega) (by omega) (by omega)).mono ?_
 rintro e w1 ⟨x1,rfl,h1,C1⟩
 have HH:Hid (a - 1<=x1/\x1<=a+1):=by show a - 1<=x1/\x1<=a+1;omega
 clear h1
 go_wp2_with fail
 go_ret
 exact⟨x1,rfl,HH.out.1,HH.out.2,C1⟩
set_option maxHeartbeats 6400000 in
theorem piv_any (w0 w:World) (g o N cap a b:Nat) (d:Array UInt16) (R:Rw w0 g o N) (h:St w0 g o N d w) (hab:a+12<b) (hb:b<=N) :
 Calls Tryz.prog 166 #[.slice (some ⟨g,o,none⟩) N cap,.int .i64 a,.int .i64 b] w fun e w' => ∃ (x:Nat) (z:Int),e = .returned (.tuple #[.int .i64 x,.int .i64 z])/\a<=x/\x<b/\St w0 g o N d w':=by
 have hsm:=R.small
 obtain⟨L,hL⟩ : ∃ L:Nat,b - a=L:=⟨_,rfl⟩
 obtain⟨q,hq⟩ : ∃ q:Nat,L / 4=q:=⟨_,rfl⟩
 have e0:(b:Int) - (a:Int)=(L:Int):=by omega
 have e1:(L:Int) / 4=(q:Int):=by omega
 have e2:Int.tdiv (L:Int) 4=(q:Int):=by rw[Int.tdiv_eq_ediv_of_nonneg (by omega)];exact e1
 have h8:(8:Int)<=(L:Int):=by omega
 have HL:Hid (L=b - a/\q=L / 4):=⟨hL.symm,hq.symm⟩
 have b1:a+q*3+1<b/\3<=q:=by omega
 obtain⟨b1,b2⟩:=b1
 have hLN:L<=N:=by omega
 clear hL hq
 obtain⟨i,hi⟩ : ∃ i:Nat,a+q=i:=⟨_,rfl⟩
 obtain⟨j,hj⟩ : ∃ i:Nat,a+q*2=i:=⟨_,rfl⟩
 obtain⟨k,hk⟩ : ∃ i:Nat,a+q*3=i:=⟨_,rfl⟩
 have ei:(a:Int)+(q:Int)=(i:Int):=by omega
 have ej:(a:Int)+(q:Int)*2=(j:Int):=by omega
 have ek:(a:Int)+(q:Int)*3=(k:Int):=by omega
 have hB:Hid (a+1<=i/\i+2<=j/\j+2<=k/\k+1<b):=by show a+1<=i/\i+2<=j/\j+2<=k/\k+1<b;omega
 clear hi hj hk
 have C:=Cn.start h 3
 go_enter Tryz.func166,Tryz.ntmps166
 by_cases h50:50<=L
 ·have e50:(50:Int)<=(L:Int):=by omega
  go_wp2_with fail
  refine (medadj_any w0 _ g o N cap i _ d R C (by have:=hB.out;omega) (by have:=hB.out;omega)).mono ?_
  rintro e w1 ⟨x1,rfl,h1,h1',C1⟩
  generalize w.heap.size=c at C1
  go_wp2_with fail
  refine (medadj_any w0 _ g o N cap j _ d R C1 (by have:=hB.out;omega) (by have:=hB.out;omega)).mono ?_
  rintro e w2 ⟨x2,rfl,h2,h2',C2⟩
  go_wp2_with fail
  refine (medadj_any w0 _ g o N cap k _ d R C2 (by have:=hB.out;omega) (by have:=hB.out;omega)).mono ?_
  rintro e w3 ⟨x3,rfl,h3,h3',C3⟩
  go_wp2_with fail
  refine (med_any w0 _ g o N cap x1 x2 x3 _ d R C3 (by have:=hB.out;omega) (by have:=hB.out;omega) (by have:=hB.out;omega)).mono ?_
  rintro e w4 ⟨x,rfl,hx,C4⟩
  have HX:Hid (a<=x/\x<b):=by have:=hB.out;show a<=x/\x<b;omega
  clear hx C C1 C2 C3 h
  obtain⟨z,hz⟩:=C4.cell
  go_wp2
  all_goals
   go_ret2
   exact⟨x,_,rfl,HX.out.1,HX.out.2,C4.st⟩
 ·have e50 : ¬ (50:Int)<=(L:Int):=by omega
  go_wp2_with fail
  refine (med_any w0 _ g o N cap i j k _ d R C (by have:=hB.out;omega) (by have:=hB.out;omega) (by have:=hB.out;omega)).mono ?_
  rintro e w4 ⟨x,rfl,hx,C4⟩
  have HX:Hid (a<=x/\x<b):=by have:=hB.out;show a<=x/\x<b;omega
  clear hx C h
  obtain⟨z,hz⟩:=C4.cell
  go_wp2
  all_goals
   go_ret2
   exact⟨x,_,rfl,HX.out.1,HX.out.2,C4.st⟩
open Go.RowKit Go.Sort Q
namespace Q
structure Cx (w0:World) (g o N:Nat) (d:Array UInt16) (c:Nat) (W:World):Prop where
 st:St w0 g o N d W
 cell : ∃ X:Nat,X<18446744073709551616/\W.cell? ⟨c,0,none⟩=some (.int .u64 (X:Int))
 frozen:W.frozen? ⟨c,0,none⟩=false
 new:w0.heap.size<=c
 lt:c<W.heap.size
theorem Cx.drewN {w0 W:World} {g o N c:Nat} {d:Array UInt16} (h:Cx w0 g o N d c W) (q:Nat):Cx w0 g o N d c (W.drewN q):=⟨h.st.drewN q,h.cell,h.frozen,h.new,h.lt⟩
theorem Cx.put {w0 W:World} {g o N c:Nat} {d:Array UInt16} (h:Cx w0 g o N d c W) (X:Nat) (hX:X<18446744073709551616):Cx w0 g o N d c (W.setCell ⟨c,0,none⟩ (.int .u64 (X:Int))):=by
 obtain⟨z0,_,hz⟩:=h.cell
 exact⟨⟨h.st.size,h.st.sw.setCell_new c 0 _ h.new⟩,⟨X,hX,World.cell?_setCell_same _ _ _ hz⟩,by rw[World.frozen?_setCell];exact h.frozen,h.new,by simpa using h.lt⟩
end Q
set_option maxHeartbeats 3200000 in
theorem xnext_any (w0 w:World) (g o N c:Nat) (d:Array UInt16) (C:Cx w0 g o N d c w) :
 Calls Tryz.prog 198 #[.pointer (some ⟨c,0,none⟩)] w fun e w' => ∃ X:Nat,X<18446744073709551616/\e = .returned (.int .u64 (X:Int))/\Cx w0 g o N d c w':=by
 obtain⟨X,hX,hc⟩:=C.cell
 have hf:=C.frozen
 obtain⟨A,hA⟩ : ∃ A:Nat,A=X ^^^ (X*8192 % 18446744073709551616):=⟨_,rfl⟩
 obtain⟨B,hB⟩ : ∃ B:Nat,B=A ^^^ (A / 128):=⟨_,rfl⟩
 obtain⟨D,hD⟩ : ∃ D:Nat,D=B ^^^ (B*131072 % 18446744073709551616):=⟨_,rfl⟩
 have lA:A<18446744073709551616:=by rw[hA];exact Nat.xor_lt_two_pow (n:=64) (by omega) (by omega)
 have lB:B<18446744073709551616:=by rw[hB];exact Nat.xor_lt_two_pow (n:=64) (by omega) (by omega)
 have lD:D<18446744073709551616:=by rw[hD];exact Nat.xor_lt_two_pow (n:=64) (by omega) (by omega)
 have e1:bits .xor .u64 (X:Int) (IntKind.u64.wrap ((X:Int)*8192))=(A:Int):=by
  rw[IntKind.wrap_u64,show (X:Int)*8192 % 18446744073709551616=((X*8192 % 18446744073709551616:Nat):Int) by omega,bits_xor_u64_nat _ _ hX (by omega),hA]
 have e2:bits .xor .u64 (A:Int) ((A:Int) / 128)=(B:Int):=by
  rw[show (A:Int) / 128=((A / 128:Nat):Int) by omega,bits_xor_u64_nat _ _ lA (by omega),hB]
 have e3:bits .xor .u64 (B:Int) (IntKind.u64.wrap ((B:Int)*131072))=(D:Int):=by
  rw[IntKind.wrap_u64,show (B:Int)*131072 % 18446744073709551616=((B*131072 % 18446744073709551616:Nat):Int) by omega,bits_xor_u64_nat _ _ lB (by omega),hD]
 clear hA hB hD
 have HC:Hid _:=C
 clear C
 go_enter Tryz.func198,Tryz.ntmps198
 go_wp2
 go_region
 have hf2:((w.setCell ⟨c,0,none⟩ (.int .u64 (A:Int))).drew).frozen? ⟨c,0,none⟩=false:=((HC.out.put A lA).drewN 1).frozen
 have hc2:((w.setCell ⟨c,0,none⟩ (.int .u64 (A:Int))).drew).cell? ⟨c,0,none⟩=some (.int .u64 (A:Int)):=World.cell?_setCell_same _ _ _ hc
 have HC2:Hid (Cx w0 g o N d c (w.setCell ⟨c,0,none⟩ (.int .u64 (A:Int))).drew):=(HC.out.put A lA).drewN 1
 clear HC hf hc
 have HC:=HC2
 have hf:=hf2
 have hc:=hc2
 clear HC2 hf2 hc2
 generalize (w.setCell ⟨c,0,none⟩ (.int .u64 (A:Int))).drew=w1 at HC hf hc ⊢
 go_wp2
 go_region
 have hf2:((w1.setCell ⟨c,0,none⟩ (.int .u64 (B:Int))).drew).frozen? ⟨c,0,none⟩=false:=((HC.out.put B lB).drewN 1).frozen
 have hc2:((w1.setCell ⟨c,0,none⟩ (.int .u64 (B:Int))).drew).cell? ⟨c,0,none⟩=some (.int .u64 (B:Int)):=World.cell?_setCell_same _ _ _ hc
 have HC2:Hid (Cx w0 g o N d c (w1.setCell ⟨c,0,none⟩ (.int .u64 (B:Int))).drew):=(HC.out.put B lB).drewN 1
 clear HC hf hc
 have HC:=HC2
 have hf:=hf2
 have hc:=hc2
 clear HC2 hf2 hc2
 generalize (w1.setCell ⟨c,0,none⟩ (.int .u64 (B:Int))).drew=w2 at HC hf hc ⊢
 go_wp2
 go_region
 have hf2:((w2.setCell ⟨c,0,none⟩ (.int .u64 (D:Int))).drew).frozen? ⟨c,0,none⟩=false:=((HC.out.put D lD).drewN 1).frozen
 have hc2:((w2.setCell ⟨c,0,none⟩ (.int .u64 (D:Int))).drew).cell? ⟨c,0,none⟩=some (.int .u64 (D:Int)):=World.cell?_setCell_same _ _ _ hc
 have HC2:Hid (Cx w0 g o N d c (w2.setCell ⟨c,0,none⟩ (.int .u64 (D:Int))).drew):=(HC.out.put D lD).drewN 1
 clear HC hf hc
 have HC:=HC2
 have hf:=hf2
 have hc:=hc2
 clear HC2 hf2 hc2
 generalize (w2.setCell ⟨c,0,none⟩ (.int .u64 (D:Int))).drew=w3 at HC hf hc ⊢
 go_wp2
 go_ret
 exact⟨D,lD,rfl,HC.out⟩
theorem npow_any (n:Nat) (hn:0<n) (hn2:n<4611686018427387904) (w:World) :
 Calls Tryz.prog 197 #[.int .i64 n] w fun e w' => ∃ M:Nat,0<M/\M<=2*n/\e = .returned (.int .u64 (M:Int))/\w'=w:=by
 obtain⟨b1,b2,b3⟩:=Lib.bitLenAux_bounds 64 n (by omega) (by omega)
 have hk:Lib.bitLen n<=62:=Lib.bitLen_le n 62 (by omega) (by omega)
 have hp:=wrap_two_pow (Lib.bitLen n) hk
 have hle:1 <<< Lib.bitLen n<=2*n:=by
  rw[Nat.one_shiftLeft]
  have:2 ^ Lib.bitLen n=2*2 ^ (Lib.bitLen n - 1):=by
   rw[<- Nat.pow_succ'];congr 1;unfold Lib.bitLen;omega
  unfold Lib.bitLen at *; omega
 have h0:0<1 <<< Lib.bitLen n:=by rw[Nat.one_shiftLeft];exact Nat.pow_pos (by omega)
 generalize 1 <<< Lib.bitLen n=M at hp hle h0
 have c0:=Tryz.bits_Len (n:Int) w (by omega) (by omega)
 rw[Int.toNat_natCast] at c0
 clear b1 b2 b3
 generalize Lib.bitLen n=k at *
 go_enter Tryz.func197,Tryz.ntmps197
 go_wp2_with (go_at_call 134;refine c0.mono ?_;rintro e w' ⟨rfl,rfl⟩)
 go_ret
 exact⟨M,h0,hle,rfl,rfl⟩
namespace Q
theorem Cx.start {w0 W:World} {g o N:Nat} {d:Array UInt16} (h:St w0 g o N d W) (T:TypeId) (X:Nat) (hX:X<18446744073709551616):Cx w0 g o N d W.heap.size (W.alloc (.cells #[.int .u64 (X:Int)] T)) :=
 ⟨⟨h.size,h.sw.alloc _⟩,⟨X,hX,by simp⟩,by simp,h.sw.le,by simp⟩
theorem Cx.swap {w0 W:World} {g o N c:Nat} {d:Array UInt16} (h:Cx w0 g o N d c W) (R:Rw w0 g o N) {G:Nat->UInt16} (hG : ∀ t,d[t]! = G t) (q i j:Nat) (hi:i<N) (hj:j<N) :
 Cx w0 g o N (swp d i j) c (((W.drewN q).setCell ⟨g,o+i,none⟩ (.int .u16 ((G j).toNat:Int))).setCell ⟨g,o+j,none⟩ (.int .u16 ((G i).toNat:Int))):=by
 have hne:c≠g:=by
  obtain⟨⟨d0,_,R1⟩,_⟩:=R
  have:=R1.hblk;have:=h.new;omega
 obtain⟨X,hX,hc⟩:=h.cell
 refine⟨h.st.swap R hG q i j hi hj,⟨X,hX,?_⟩,?_,h.new,by simpa using h.lt⟩
 ·rw[World.cell?_setCell_other _ _ _ _ (by intro e;simp only[Addr.mk.injEq] at e;exact hne e.1.symm),World.cell?_setCell_other _ _ _ _ (by intro e;simp only[Addr.mk.injEq] at e;exact hne e.1.symm)];exact hc
 ·rw[World.frozen?_setCell,World.frozen?_setCell];exact h.frozen
end Q
set_option maxHeartbeats 6400000 in
theorem brk_any (w0 w:World) (g o N cap a b:Nat) (d:Array UInt16) (R:Rw w0 g o N) (h:St w0 g o N d w) (hab:a+12<b) (hb:b<=N) :
 Calls Tryz.prog 165 #[.slice (some ⟨g,o,none⟩) N cap,.int .i64 a,.int .i64 b] w fun e w'=>e = .returned (.tuple #[]) /\ ∃ d',PermIn a b d d'/\St w0 g o N d' w':=by
 have hsm:=R.small
 obtain⟨L,hL⟩ : ∃ L:Nat,b - a=L:=⟨_,rfl⟩
 obtain⟨q,hq⟩ : ∃ q:Nat,L / 4=q:=⟨_,rfl⟩
 have e0:(b:Int) - (a:Int)=(L:Int):=by omega
 have e1:(L:Int) / 4=(q:Int):=by omega
 have e2:Int.tdiv (L:Int) 4=(q:Int):=by rw[Int.tdiv_eq_ediv_of_nonneg (by omega)];exact e1
 have h8:(8:Int)<=(L:Int):=by omega
 obtain⟨j,hj⟩ : ∃ i:Nat,a+q*2=i:=⟨_,rfl⟩
 have ej:(a:Int)+(q:Int)*2=(j:Int):=by omega
 have hB:Hid (a+1<=j/\j+1<b/\a+L=b/\b<=N):=by show a+1<=j/\j+1<b/\a+L=b/\b<=N;omega
 have hL1:L<4611686018427387904:=by omega
 have hL0:0<L:=by omega
 have hq1:q<4611686018427387904:=by omega
 have hj1:j<4611686018427387904:=by omega
 have hj0:1<=j:=by omega
 clear hL hq hj
 have C:=Cx.start h 246 L (by omega)
 go_enter Tryz.func165,Tryz.ntmps165
 go_wp2_with fail
 refine (npow_any L hL0 hL1 _).mono ?_
 rintro e w1 ⟨M,hM0,hM1,rfl,rfl⟩
 generalize w.heap.size=c at C ⊢
 generalize w.alloc (.cells #[.int .u64 (L:Int)] 246)=w1 at C ⊢
 clear h
 go_wp2
 go_loopw [9] (fun v W => ∃ (i:Nat) (dk:Array UInt16),v = .int .i64 (i:Int)/\j<=i+1/\i<=j+2/\Cx w0 g o N dk c W/\PermIn a b d dk) (fun v _=>j+2 - (intOf v).toNat)
 case atStart=>exact⟨j - 1,d,by congr 1;omega,by omega,by omega,C,permIn_refl _ _ _⟩
 case round =>
  clear C
  obtain⟨i,dk,rfl,hi1,hi2,C,hP⟩:=hrel
  have HP:Hid _:=hP
  clear hP
  have hi3:i<4611686018427387904:=by omega
  by_cases hlt:i<=j+1
  ·have elt:(i:Int)<=(j:Int)+1:=by omega
   go_wp2_with fail
   refine (xnext_any w0 _ g o N c dk C).mono ?_
   rintro e w2 ⟨X,hX,rfl,C2⟩
   clear C
   obtain⟨r,hr⟩ : ∃ r:Nat,X &&& (M - 1)=r:=⟨_,rfl⟩
   have hr1:r<=M - 1:=by rw[<- hr];exact Nat.and_le_right
   have ea:bits .and .u64 (X:Int) ((M:Int) - 1)=(r:Int):=by
    rw[show (M:Int) - 1=((M - 1:Nat):Int) by omega,bits_and_u64_nat _ _ hX (by omega),hr]
   clear hr
   obtain⟨G,HG,hc,hf⟩:=C2.st.look R
   have HC:Hid _:=C2
   clear C2
   by_cases hrl:L<=r
   ·have erl:(L:Int)<=(r:Int):=by omega
    obtain⟨k,hk⟩ : ∃ k:Nat,r - L=k:=⟨_,rfl⟩
    have ek:(r:Int) - (L:Int)=(k:Int):=by omega
    have hkL:a+k<b/\b<=N:=by have:=hB.out;omega
    have hiN:i<N/\a<=i/\i<b:=by have:=hB.out;omega
    obtain⟨hkb,hbN⟩:=hkL
    obtain⟨hiN,hia,hib⟩:=hiN
    have hkN:a+k<N:=by omega
    obtain⟨x0,hx0⟩:=two hc i (a+k) hiN hkN (.int .u16 ((G (a+k)).toNat:Int))
    clear hk
    go_wp2
    go_region
    all_goals go_wp2
    go_roundw
    case rel=>exact⟨i+1,swp dk i (a+k),by go_num,by omega,by omega,HC.out.swap R HG.out _ i (a+k) hiN hkN,permIn_trans _ _ _ _ _ HP.out (swp_permIn _ _ _ _ _ hia hib (by omega) hkb (by rw[HC.out.st.size];exact hbN))⟩
    case measure=>simp[intOf];omega
   ·have erl : ¬ (L:Int)<=(r:Int):=by omega
    have hkL:a+r<b/\b<=N:=by have:=hB.out;omega
    have hiN:i<N/\a<=i/\i<b:=by have:=hB.out;omega
    obtain⟨hkb,hbN⟩:=hkL
    obtain⟨hiN,hia,hib⟩:=hiN
    have hkN:a+r<N:=by omega
    obtain⟨x0,hx0⟩:=two hc i (a+r) hiN hkN (.int .u16 ((G (a+r)).toNat:Int))
    go_wp2
    go_region
    all_goals go_wp2
    go_roundw
    case rel=>exact⟨i+1,swp dk i (a+r),by go_num,by omega,by omega,HC.out.swap R HG.out _ i (a+r) hiN hkN,permIn_trans _ _ _ _ _ HP.out (swp_permIn _ _ _ _ _ hia hib (by omega) hkb (by rw[HC.out.st.size];exact hbN))⟩
    case measure=>simp[intOf];omega
  ·have elt : ¬ (i:Int)<=(j:Int)+1:=by omega
   go_wp2
   go_end0
   exact⟨rfl,dk,HP.out,C.st⟩
end Go.Proofs.YtmbcegljmhcdeaaGreat
