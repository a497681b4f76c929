/- Contracts of functions of the library, laid at this program by the kit's own tools. -/
import Derived.Test.YtmbcegljmhcdeaaGreatRefG
import Derived.Test.YtmbcegljmhcdeaaGreatTyR
import Derived.Deep.RegionHeld3
import Derived.Test.YtmbcegljmhcdeaaGreatSh
import Derived.Laws.MakeOwn
import Derived.Ground.SlgmProg
import Derived.Ground.GgzProg
import Derived.Ground.SlgnProg
import Derived.Ground.SlmcProg
import Derived.Shelf.SortM.Plain
import Derived.Shelf.SortM.SortNone
import Derived.Shelf.SlIter.Nil
import Derived.Shelf.SlIter.Sorted
import Derived.Shelf.SlicesE.Clone
import Derived.Shelf.SlMaps.Clone
import Derived.Test.YtmbcegljmhcdeaaGreatChecked
namespace Go.Proofs.YtmbcegljmhcdeaaGreat
set_option maxRecDepth 5000
open Go.RowKit
theorem list4 : ∀ {b:List UInt8},4<=b.length -> ∃ x0 x1 x2 x3 r,b=x0::x1::x2::x3::r
 | x0::x1::x2::x3::r,_=>⟨x0,x1,x2,x3,r,rfl⟩
 | [],h=>by simp at h
 | [_],h=>by simp at h
 | [_,_],h=>by simp at h
 | [_,_,_],h=>by simp at h
theorem cut_hd {w:World} {b o:Nat} {l:List UInt8} {len cap:Nat} (k:Nat) (hs:SlL w (some ⟨b,o,none⟩) l) (hl:l.length=len) (hk:k<=len) (hc:len<=cap) :
 ∃ ad,(∀ W,(Instr.slice 37 (.slice (some ⟨b,o,none⟩) len cap) none (some (.int .i64 (k:Int))) none).run Tryz.prog W = .ok (.slice (some ad) k cap) W)/\SlL w (some ad) (l.take k):=by
 subst hl
 have h:=hs.slB
 refine⟨if cap=0 then ⟨b,o,none⟩ else (⟨b,o,none⟩:Addr).add (0*1),fun W=>?_,?_⟩
 ·rw[run_slice_h W 37 _ l.length cap Tryz.underlying37 .i64 (k:Int) (by omega) (by omega)]
  have hz:(sizeOf (Tryz.prog.elem 37)).run Tryz.prog W = .ok 1 W:=Tryz.sizeOf5 W
  rw[hz]
  simp only[Result.andThen,sliced,Int.toNat_natCast,Nat.sub_zero,Option.map_some]
  split <;> rfl
 ·have:=SlB.sl (h.part (k:=0) (cap:=cap) k (by omega) hc) (Nat.le_refl _)
  rw[List.drop_zero] at this
  split
  ·rename_i h0;rwa [if_pos h0] at this
  ·rename_i h0;rwa [if_neg h0,Option.map_some] at this
theorem cut_tl {w:World} {b o:Nat} {l:List UInt8} {len cap:Nat} (k:Nat) (hs:SlL w (some ⟨b,o,none⟩) l) (hl:l.length=len) (hk:k<=len) (hc:len<=cap) :
 ∃ ad,(∀ W,(Instr.slice 37 (.slice (some ⟨b,o,none⟩) len cap) (some (.int .i64 (k:Int))) none none).run Tryz.prog W = .ok (.slice (some ad) (len - k) (cap - k)) W)/\SlL w (some ad) (l.drop k):=by
 subst hl
 have h:=hs.slB
 refine⟨if cap=k then ⟨b,o,none⟩ else (⟨b,o,none⟩:Addr).add (k*1),fun W=>?_,?_⟩
 ·rw[run_slice_l W 37 _ l.length cap Tryz.underlying37 .i64 (k:Int) (by omega) (by omega)]
  have hz:(sizeOf (Tryz.prog.elem 37)).run Tryz.prog W = .ok 1 W:=Tryz.sizeOf5 W
  rw[hz]
  simp only[Result.andThen,sliced,Int.toNat_natCast,Option.map_some]
  split <;> rfl
 ·have:=SlB.sl (h.part (k:=k) (cap:=cap) (l.length - k) (by omega) hc) (Nat.le_refl _)
  rw[List.take_of_length_le (by rw[List.length_drop];omega)] at this
  split
  ·rename_i h0;rwa [if_pos h0] at this
  ·rename_i h0;rwa [if_neg h0,Option.map_some] at this
theorem cut_mid {w:World} {b o:Nat} {l:List UInt8} {len cap:Nat} (k m:Nat) (hs:SlL w (some ⟨b,o,none⟩) l) (hl:l.length=len) (hk:k+m<=len) (hc:len<=cap) :
 ∃ ad,(∀ W,(Instr.slice 37 (.slice (some ⟨b,o,none⟩) len cap) (some (.int .i64 (k:Int))) (some (.int .i64 ((k+m:Nat):Int))) none).run Tryz.prog W = .ok (.slice (some ad) m (cap - k)) W)/\SlL w (some ad) ((l.drop k).take m):=by
 subst hl
 have h:=hs.slB
 refine⟨if cap=k then ⟨b,o,none⟩ else (⟨b,o,none⟩:Addr).add (k*1),fun W=>?_,?_⟩
 ·rw[run_slice_lh W 37 _ l.length cap Tryz.underlying37 .i64 .i64 (k:Int) ((k+m:Nat):Int) (by omega) (by omega) (by omega)]
  have hz:(sizeOf (Tryz.prog.elem 37)).run Tryz.prog W = .ok 1 W:=Tryz.sizeOf5 W
  rw[hz]
  simp only[Result.andThen,sliced,Int.toNat_natCast,Option.map_some]
  rw[show k+m - k=m by omega]
  split <;> rfl
 ·have:=SlB.sl (h.part (k:=k) (cap:=cap) m (by omega) hc) (Nat.le_refl _)
  split
  ·rename_i h0;rwa [if_pos h0] at this
  ·rename_i h0;rwa [if_neg h0,Option.map_some] at this
set_option maxHeartbeats 1600000 in
theorem sKey_any (b:List UInt8) (ao:Option Addr) (len cap:Nat) (w:World) (hl:Hid (b.length=len)) (hs:SlL w ao b) (hc:len<=cap) (h8:len<=8192) :
 Calls Tryz.prog 122 #[.slice ao len cap] w fun e w'=>Ans (D.full b (D.key b)) KeyV (.agg #[.int .u16 0,.int .u8 0,.int .u8 0,.slice none 0 0]) w e w':=by
 rcases Nat.lt_or_ge len 4 with hlt | hge
 ·have hlt':(len:Int)<4:=by omega
  have HF:Hid (D.full b (D.key b)=none):=by
   refine D.full_none ?_
   have hl':=hl.out
   match b with
   | []=>rfl
   | [x]=>rfl
   | [x,y]=>rfl
   | [x,y,z]=>rfl
   | x::y::z::u::r=>simp at hl';omega
  have hb0:=(Below.refl w.heap.size w).alloc (Nat.le_refl _) (.cells #[.int .u16 0,.int .u8 0,.int .u8 0,.slice none 0 0] 179)
  have R0:=RowAt.new w 179 #[.int .u16 0,.int .u8 0,.int .u8 0,.slice none 0 0]
  have HB:=hide hb0
  have HR:=hide R0
  clear hs hb0 R0
  go_enter Tryz.func122,Tryz.ntmps122
  go_wp2
  generalize (w.alloc (.cells #[.int .u16 0,.int .u8 0,.int .u8 0,.slice none 0 0] 179))=F at HB HR ⊢
  have q0:F.cell? ⟨w.heap.size,0,none⟩=some (.int .u16 0):=HR.out.cell 0
  have q1:F.cell? ⟨w.heap.size,1,none⟩=some (.int .u8 0):=HR.out.cell 1
  have q2:F.cell? ⟨w.heap.size,2,none⟩=some (.int .u8 0):=HR.out.cell 2
  have q3:F.cell? ⟨w.heap.size,3,none⟩=some (.slice none 0 0):=HR.out.cell 3
  simp[bodyPost,results,Tryz.results122,go_sem,q0,q1,q2,q3]
  exact⟨Or.inr ⟨HF.out,rfl⟩,HB.out⟩
 ·have hge' : ¬ (len:Int)<4:=by omega
  have hl':=hl.out
  obtain⟨x0,x1,x2,x3,r,rfl⟩:=list4 (by omega:4<=b.length)
  obtain⟨blk,o,rfl,hblt,hcell⟩:=hs (by simp)
  have hb0:=(Below.refl w.heap.size w).alloc (Nat.le_refl _) (.cells #[.int .u16 0,.int .u8 0,.int .u8 0,.slice none 0 0] 179)
  have c2:w.cell? ⟨blk,o+2,none⟩=some (.int .u8 (x2.toNat:Int)):=hcell 2 (by simp)
  have c3:w.cell? ⟨blk,o+3,none⟩=some (.int .u8 (x3.toNat:Int)):=hcell 3 (by simp)
  obtain⟨ad1,r1,s1⟩:=cut_hd 2 hs hl.out (by omega) hc
  obtain⟨ad2,r2,s2⟩:=cut_tl 4 hs hl.out (by omega) hc
  replace r1 : ∀ W,(Instr.slice 37 (.slice (some ⟨blk,o,none⟩) len cap) none (some (.int .i64 2)) none).run Tryz.prog W = .ok (.slice (some ad1) 2 cap) W:=r1
  replace r2 : ∀ W,(Instr.slice 37 (.slice (some ⟨blk,o,none⟩) len cap) (some (.int .i64 4)) none none).run Tryz.prog W = .ok (.slice (some ad2) (len - 4) (cap - 4)) W:=r2
  have S1:Hid (SlL w (some ad1) [x0,x1]):=s1
  have S2:Hid (SlL w (some ad2) r):=s2
  have hrl:Hid (r.length=len - 4):=by simp at hl';show _=_;omega
  have hrl2:r.length<=8192:=by simp at hl';omega
  have hw16:IntKind.u16.wrap (D.gv [x0,x1]:Int)=(D.gv [x0,x1]:Int):=by
   have:=D.gv_lt [x0,x1]
   rw[IntKind.wrap_u16]
   simp at this;omega
  have HF:Hid (D.full (x0::x1::x2::x3::r) (D.key (x0::x1::x2::x3::r))=some ⟨D.gv [x0,x1],x2.toNat,x3.toNat,r⟩) :=
   D.full_some (by rw[hl.out];exact h8) (by unfold D.key;rw[D.n16_gv];rfl)
  have C2:=hide c2
  have C3:=hide c3
  have e2:(w.alloc (.cells #[.int .u16 0,.int .u8 0,.int .u8 0,.slice none 0 0] 179)).cell? ⟨blk,o+2,none⟩=some (.int .u8 (x2.toNat:Int)):=(hb0.cell (p:=⟨blk,o+2,none⟩) hblt).trans c2
  have e3:(w.alloc (.cells #[.int .u16 0,.int .u8 0,.int .u8 0,.slice none 0 0] 179)).cell? ⟨blk,o+3,none⟩=some (.int .u8 (x3.toNat:Int)):=(hb0.cell (p:=⟨blk,o+3,none⟩) hblt).trans c3
  have HB:=hide hb0
  have HR:=hide (RowAt.new w 179 #[.int .u16 0,.int .u8 0,.int .u8 0,.slice none 0 0])
  have i2:(2:Int)<(len:Int):=by omega
  have i3:(3:Int)<(len:Int):=by omega
  clear hs hb0 c2 c3 hcell s1 s2
  have hget : ∀ W,SlL W (some ad1) [x0,x1]->Calls Tryz.prog 158 #[.slice (some ad1) 2 cap] W fun e w'=>e = .returned (.int .u32 (D.gv [x0,x1]:Int))/\w'=W:=fun W h=>get_any [x0,x1] (some ad1) 2 cap W rfl h (by omega)
  generalize D.gv [x0,x1]=g at hw16 HF hget
  go_enter Tryz.func122,Tryz.ntmps122
  go_wp2
  go_region_law (first
   | (refine step_fn 158 _ _ rfl rfl #[.slice (some ad1) 2 cap] (by go_simp) (hget _ (by first | exact S1.out.alloc _ | exact S1.out.below B4.out (Nat.le_refl _))) (by rintro e w' ⟨rfl,_⟩;exact⟨_,rfl⟩) ?_;rintro v1 w1 ⟨he,rfl⟩;cases he)
   | (refine step_append_B rfl (.const (.slice none 0 0)) (.tmp 19) rfl w.heap.size (.slice none 0 0) [] rfl (OwnB.nil _ _) ad2 (len - 4) (cap - 4) r (by rfl) hrl.out (by exact S2.out.alloc _) (by simp;omega) (by simp) ?_;intro v4 w4 hO4 hG4;obtain⟨a4,c4,rfl,_,_,_⟩:=hO4.open;have K4:=hide (Kp.grown (OwnB.nil _ w.heap.size) hG4 (by simp));have B4:=hide (HB.out.drew.trans K4.out.1);have R4:=hide (K4.out.2 _ _ _ HR.out (by decide));have d2:w4.cell? ⟨blk,o+2,none⟩=some (.int .u8 (x2.toNat:Int)):=(B4.out.cell (p:=⟨blk,o+2,none⟩) hblt).trans C2.out;have d3:w4.cell? ⟨blk,o+3,none⟩=some (.int .u8 (x3.toNat:Int)):=(B4.out.cell (p:=⟨blk,o+3,none⟩) hblt).trans C3.out;have O4:=hide hO4;have k0:w4.cell? ⟨w.heap.size,0,none⟩=some (.int .u16 0):=R4.out.cell 0;have k1:w4.cell? ⟨w.heap.size,1,none⟩=some (.int .u8 0):=R4.out.cell 1;have k2:w4.cell? ⟨w.heap.size,2,none⟩=some (.int .u8 0):=R4.out.cell 2;have k3:w4.cell? ⟨w.heap.size,3,none⟩=some (.slice none 0 0):=R4.out.cell 3;have f0:=R4.out.frozen 0;have f1:=R4.out.frozen 1;have f2:=R4.out.frozen 2;have f3:=R4.out.frozen 3;clear hO4 hG4 K4))
  all_goals
   have E0:=R4.out
   have E1:RowAt ((w4).setCell ⟨w.heap.size,0,none⟩ (.int .u16 (g:Int))) w.heap.size 179 #[.int .u16 (g:Int),.int .u8 0,.int .u8 0,.slice none 0 0]:=E0.set 0 _
   have E2:RowAt (((w4).setCell ⟨w.heap.size,0,none⟩ (.int .u16 (g:Int))).setCell ⟨w.heap.size,1,none⟩ (.int .u8 (x2.toNat:Int))) w.heap.size 179 #[.int .u16 (g:Int),.int .u8 (x2.toNat:Int),.int .u8 0,.slice none 0 0]:=E1.set 1 _
   have E3:RowAt ((((w4).setCell ⟨w.heap.size,0,none⟩ (.int .u16 (g:Int))).setCell ⟨w.heap.size,1,none⟩ (.int .u8 (x2.toNat:Int))).setCell ⟨w.heap.size,2,none⟩ (.int .u8 (x3.toNat:Int))) w.heap.size 179 #[.int .u16 (g:Int),.int .u8 (x2.toNat:Int),.int .u8 (x3.toNat:Int),.slice none 0 0]:=E2.set 2 _
   have E4:RowAt (((((w4).setCell ⟨w.heap.size,0,none⟩ (.int .u16 (g:Int))).setCell ⟨w.heap.size,1,none⟩ (.int .u8 (x2.toNat:Int))).setCell ⟨w.heap.size,2,none⟩ (.int .u8 (x3.toNat:Int))).setCell ⟨w.heap.size,3,none⟩ (.slice a4 r.length c4)) w.heap.size 179 #[.int .u16 (g:Int),.int .u8 (x2.toNat:Int),.int .u8 (x3.toNat:Int),.slice a4 r.length c4]:=E3.set 3 _
   have UE:Upd w.heap.size w4 (((((w4).setCell ⟨w.heap.size,0,none⟩ (.int .u16 (g:Int))).setCell ⟨w.heap.size,1,none⟩ (.int .u8 (x2.toNat:Int))).setCell ⟨w.heap.size,2,none⟩ (.int .u8 (x3.toNat:Int))).setCell ⟨w.heap.size,3,none⟩ (.slice a4 r.length c4)):=(((((Upd.refl w.heap.size w4).set 0 (.int .u16 (g:Int))).set 1 (.int .u8 (x2.toNat:Int))).set 2 (.int .u8 (x3.toNat:Int))).set 3 (.slice a4 r.length c4))
   have HE:=hide E4
   have HU:=hide UE
   clear E0 E1 E2 E3 E4 UE
   go_wp2
   obtain⟨F,hwo⟩ : ∃ F,F=wof HE.out:=⟨_,rfl⟩
   unfold wof at hwo
   rw[<- hwo] at HE HU ⊢
   clear hwo
   have q0:F.cell? ⟨w.heap.size,0,none⟩=some (.int .u16 (g:Int)):=HE.out.cell 0
   have q1:F.cell? ⟨w.heap.size,1,none⟩=some (.int .u8 (x2.toNat:Int)):=HE.out.cell 1
   have q2:F.cell? ⟨w.heap.size,2,none⟩=some (.int .u8 (x3.toNat:Int)):=HE.out.cell 2
   have q3:F.cell? ⟨w.heap.size,3,none⟩=some (.slice a4 r.length c4):=HE.out.cell 3
   simp[bodyPost,results,Tryz.results122,go_sem,q0,q1,q2,q3]
   exact⟨Or.inl ⟨_,_,HF.out,rfl,⟨_,_,rfl,HU.out.own R4.out (by decide) O4.out⟩⟩,B4.out.trans (HU.out.below (Nat.le_refl _))⟩
open Go.RowKit
theorem nil_grown {w w':World} (h:w.drew.grownBy w' (Value.slice none 0 0).ownBlock):Below w.heap.size w w':=⟨h.os,h.tape,h.output,h.size,fun k hk=>h.block k hk (by simp[Value.ownBlock])⟩
theorem cell_far {W:World} {b g j o:Nat} {v:Value} (h:b≠g):(W.setCell ⟨g,j,none⟩ v).cell? ⟨b,o,none⟩=W.cell? ⟨b,o,none⟩:=World.cell?_of_block (w:=W) (a:=⟨b,o,none⟩) (Below.heap_setCell _ _ _ _ h)
theorem Upd.drew {g:Nat} {W F:World} (h:Upd g W F):Upd g W F.drew:=h
theorem RowAt.drew {w:World} {g t:Nat} {c:Array Value} (h:RowAt w g t c):RowAt w.drew g t c:=h
theorem row_facts9 {w:World} {g t:Nat} {c0 c1 c2 c3 c4 c5 c6 c7 c8:Value} (h:RowAt w g t #[c0,c1,c2,c3,c4,c5,c6,c7,c8]):w.cell? ⟨g,0,none⟩=some c0/\w.cell? ⟨g,1,none⟩=some c1/\w.cell? ⟨g,2,none⟩=some c2/\w.cell? ⟨g,3,none⟩=some c3/\w.cell? ⟨g,4,none⟩=some c4/\w.cell? ⟨g,5,none⟩=some c5/\w.cell? ⟨g,6,none⟩=some c6/\w.cell? ⟨g,7,none⟩=some c7/\w.cell? ⟨g,8,none⟩=some c8/\w.frozen? ⟨g,0,none⟩=false/\w.frozen? ⟨g,1,none⟩=false/\w.frozen? ⟨g,2,none⟩=false/\w.frozen? ⟨g,3,none⟩=false/\w.frozen? ⟨g,4,none⟩=false/\w.frozen? ⟨g,5,none⟩=false/\w.frozen? ⟨g,6,none⟩=false/\w.frozen? ⟨g,7,none⟩=false/\w.frozen? ⟨g,8,none⟩=false :=
 ⟨h.cell 0,h.cell 1,h.cell 2,h.cell 3,h.cell 4,h.cell 5,h.cell 6,h.cell 7,h.cell 8,h.frozen 0,h.frozen 1,h.frozen 2,h.frozen 3,h.frozen 4,h.frozen 5,h.frozen 6,h.frozen 7,h.frozen 8⟩
theorem row_facts6 {w:World} {g t:Nat} {c0 c1 c2 c3 c4 c5:Value} (h:RowAt w g t #[c0,c1,c2,c3,c4,c5]):w.cell? ⟨g,0,none⟩=some c0/\w.cell? ⟨g,1,none⟩=some c1/\w.cell? ⟨g,2,none⟩=some c2/\w.cell? ⟨g,3,none⟩=some c3/\w.cell? ⟨g,4,none⟩=some c4/\w.cell? ⟨g,5,none⟩=some c5/\w.frozen? ⟨g,0,none⟩=false/\w.frozen? ⟨g,1,none⟩=false/\w.frozen? ⟨g,2,none⟩=false/\w.frozen? ⟨g,3,none⟩=false/\w.frozen? ⟨g,4,none⟩=false/\w.frozen? ⟨g,5,none⟩=false :=
 ⟨h.cell 0,h.cell 1,h.cell 2,h.cell 3,h.cell 4,h.cell 5,h.frozen 0,h.frozen 1,h.frozen 2,h.frozen 3,h.frozen 4,h.frozen 5⟩
namespace D
theorem n8_take {l:List UInt8} (h:1<=l.length):n8 l=some ((l.getD 0 0).toNat,l.drop 1):=by
 match l with
 | x::r=>rfl
 | []=>simp at h
theorem n16_take {l:List UInt8} (h:2<=l.length):n16 l=some (gv (l.take 2),l.drop 2):=by
 match l with
 | x::y::r=>exact n16_gv x y r
 | [x]=>simp at h
 | []=>simp at h
theorem n32_take {l:List UInt8} (h:4<=l.length):n32 l=some (gv (l.take 4),l.drop 4):=by
 obtain⟨x,y,z,u,r,rfl⟩:=list4 h
 exact n32_gv x y z u r
theorem soa_len {l r1 r2 r:List UInt8} {m x:List (List UInt8)} {s:Soa} (h1:nm l=some (m,r1)) (h2:nm r1=some (x,r2)) (h:soa l=some (s,r)):r2.length=20+r.length:=by
 simp only[soa,Option.bind_eq_some_iff,Option.map_eq_some_iff,Prod.exists] at h
 obtain⟨m',q1,g1,x',q2,g2,a,r3,h3,b,r4,h4,c,r5,h5,d,r6,h6,e,r7,h7,h⟩:=h
 rw[h1] at g1;cases g1
 rw[h2] at g2;cases g2
 cases h
 have l3:=congrArg List.length (n32_back h3).1
 have l4:=congrArg List.length (n32_back h4).1
 have l5:=congrArg List.length (n32_back h5).1
 have l6:=congrArg List.length (n32_back h6).1
 have l7:=congrArg List.length (n32_back h7).1
 simp only[List.length_append,p32_len] at l3 l4 l5 l6 l7
 omega
theorem soa_ref {l r1 r2:List UInt8} {m x:List (List UInt8)} (h1:nm l=some (m,r1)) (h2:nm r1=some (x,r2)) (h:r2.length=20) :
 soa l=some (⟨m,x,gv (r2.take 4),gv ((r2.drop 4).take 4),gv ((r2.drop 8).take 4),gv ((r2.drop 12).take 4),gv (r2.drop 16)⟩, []):=by
 unfold soa
 rw[h1];simp only[Option.bind_some]
 rw[h2];simp only[Option.bind_some]
 rw[n32_take (by omega)];simp only[Option.bind_some]
 rw[n32_take (by rw[List.length_drop];omega)];simp only[Option.bind_some,List.drop_drop]
 rw[n32_take (by rw[List.length_drop];omega)];simp only[Option.bind_some,List.drop_drop]
 rw[n32_take (by rw[List.length_drop];omega)];simp only[Option.bind_some,List.drop_drop]
 rw[n32_take (by rw[List.length_drop];omega)];simp only[Option.map_some,List.drop_drop]
 have e1:(r2.drop 16).take 4=r2.drop 16:=List.take_of_length_le (by rw[List.length_drop];omega)
 have e2:r2.drop 20 = []:=List.drop_eq_nil_of_le (by omega)
 show some ((⟨m,x,gv (r2.take 4),gv ((r2.drop 4).take 4),gv ((r2.drop 8).take 4),gv ((r2.drop 12).take 4),gv ((r2.drop 16).take 4)⟩:Soa),r2.drop 20)=_
 rw[e1,e2]
theorem soa_not {l r1 r2:List UInt8} {m x:List (List UInt8)} (h1:nm l=some (m,r1)) (h2:nm r1=some (x,r2)) (h:r2.length≠20):full l (soa l)=none:=by
 cases hh:full l (soa l) with
 | none=>rfl
 | some s =>
  have:=soa_len h1 h2 (full_iff.1 hh).2
  simp at this;omega
theorem soa_no1 {l:List UInt8} (h1:nm l=none):full l (soa l)=none:=full_none (by unfold soa;rw[h1];rfl)
theorem soa_no2 {l r1:List UInt8} {m:List (List UInt8)} (h1:nm l=some (m,r1)) (h2:nm r1=none):full l (soa l)=none:=full_none (by unfold soa;rw[h1];simp only[Option.bind_some];rw[h2];rfl)
theorem sig_ref {l r:List UInt8} {n:List (List UInt8)} (hl:18<=l.length) (h:nm (l.drop 18)=some (n,r)) :
 sig l=some (⟨gv (l.take 2),(l.getD 2 0).toNat,(l.getD 3 0).toNat,gv ((l.drop 4).take 4),gv ((l.drop 8).take 4),gv ((l.drop 12).take 4),gv ((l.drop 16).take 2),n,r⟩, []):=by
 unfold sig
 rw[n16_take (by omega)];simp only[Option.bind_some]
 rw[n8_take (by rw[List.length_drop];omega)];simp only[Option.bind_some,List.drop_drop]
 rw[n8_take (by rw[List.length_drop];omega)];simp only[Option.bind_some,List.drop_drop]
 rw[n32_take (by rw[List.length_drop];omega)];simp only[Option.bind_some,List.drop_drop]
 rw[n32_take (by rw[List.length_drop];omega)];simp only[Option.bind_some,List.drop_drop]
 rw[n32_take (by rw[List.length_drop];omega)];simp only[Option.bind_some,List.drop_drop]
 rw[n16_take (by rw[List.length_drop];omega)];simp only[Option.bind_some,List.drop_drop]
 rw[h]
 simp[List.getD_eq_getElem?_getD,List.getElem?_drop]
theorem sig_no {l:List UInt8} (h:l.length<18\/nm (l.drop 18)=none):full l (sig l)=none:=by
 cases hh:full l (sig l) with
 | none=>rfl
 | some s =>
  have h2:=(full_iff.1 hh).2
  simp only[sig,Option.bind_eq_some_iff,Option.map_eq_some_iff,Prod.exists] at h2
  obtain⟨t,r1,h1,a,r2,h2,k,r3,h3,x,r4,h4,y,r5,h5,z,r6,h6,g,r7,h7,n,r8,h8,_⟩:=h2
  have e1:=(n16_back h1).1
  have e2:=(n8_back h2).1
  have e3:=(n8_back h3).1
  have e4:=(n32_back h4).1
  have e5:=(n32_back h5).1
  have e6:=(n32_back h6).1
  have e7:=(n16_back h7).1
  have hd:l.drop 18=r7:=by rw[e1,e2,e3,e4,e5,e6,e7];rfl
  have hl:l.length=18+r7.length:=by rw[e1,e2,e3,e4,e5,e6,e7];simp only[List.length_append,List.length_cons,p16_len,p32_len];omega
  rcases h with h | h
  ·omega
  ·rw[hd,h8] at h;cases h
end D
open Go.RowKit
theorem nil_grown0 {w w':World} (h:w.grownBy w' (Value.slice none 0 0).ownBlock):Below w.heap.size w w':=⟨h.os,h.tape,h.output,h.size,fun k hk=>h.block k hk (by simp[Value.ownBlock])⟩
namespace D
theorem cnt_take {l:List UInt8} (h:1<=l.length):cnt l=by_ (l.getD 0 0).toNat (l.drop 1):=by
 unfold cnt
 rw[n8_take h];rfl
theorem getD_drop (l:List UInt8) (i j:Nat):(l.drop i).getD j 0=l.getD (i+j) 0:=by
 simp[List.getD_eq_getElem?_getD,List.getElem?_drop]
theorem chain_eq {l:List UInt8} (h:5<=l.length) :
 chain l=(by_ (l.getD 4 0).toNat (l.drop 5)).bind fun s=>(cnt s.2).bind fun n=>if n.1.length=0 then none else (T.opn 0 n.2).map fun t=>((⟨(l.getD 0 0).toNat,(l.getD 1 0).toNat,gv ((l.drop 2).take 2),s.1,n.1,t⟩:Chain),([]:List UInt8)):=by
 unfold chain
 rw[n8_take (by omega)];simp only[Option.bind_some]
 rw[n8_take (by rw[List.length_drop];omega)];simp only[Option.bind_some,List.drop_drop]
 rw[n16_take (by rw[List.length_drop];omega)];simp only[Option.bind_some,List.drop_drop]
 rw[cnt_take (by rw[List.length_drop];omega),List.drop_drop,getD_drop,getD_drop]
theorem chain_no1 {l:List UInt8} (h:l.length<5):full l (chain l)=none:=by
 refine full_none ?_
 match l with
 | []=>rfl
 | [x]=>rfl
 | [x,y]=>rfl
 | [x,y,z]=>rfl
 | [x,y,z,u]=>rfl
 | x::y::z::u::v::r=>simp at h;omega
theorem chain_no2 {l:List UInt8} (h:5<=l.length) (h2:l.length<5+(l.getD 4 0).toNat+1):full l (chain l)=none:=by
 refine full_none ?_
 rw[chain_eq h]
 unfold by_
 split
 ·rfl
 ·rename_i h3
  rw[List.length_drop] at h3
  simp only[Option.bind_some,List.drop_drop]
  have:l.drop (5+(l.getD 4 0).toNat) = []:=List.drop_eq_nil_of_le (by omega)
  rw[this];rfl
theorem chain_next {l:List UInt8} {i:Nat} (h:5<=l.length) (hi:5+(l.getD 4 0).toNat=i) (h2:i+1<=l.length) :
 chain l=(by_ (l.getD i 0).toNat (l.drop (i+1))).bind fun n=>if n.1.length=0 then none else (T.opn 0 n.2).map fun t=>((⟨(l.getD 0 0).toNat,(l.getD 1 0).toNat,gv ((l.drop 2).take 2),(l.drop 5).take (l.getD 4 0).toNat,n.1,t⟩:Chain),([]:List UInt8)):=by
 rw[chain_eq h]
 have e:by_ (l.getD 4 0).toNat (l.drop 5)=some ((l.drop 5).take (l.getD 4 0).toNat,l.drop i):=by
  unfold by_
  rw[if_neg (by rw[List.length_drop];omega),List.drop_drop,hi]
 rw[e]
 simp only[Option.bind_some]
 rw[cnt_take (by rw[List.length_drop];omega),List.drop_drop,getD_drop,Nat.add_zero]
theorem chain_no3 {l:List UInt8} {i:Nat} (h:5<=l.length) (hi:5+(l.getD 4 0).toNat=i) (h2:i+1<=l.length) (h3:(l.getD i 0).toNat=0\/l.length<i+1+(l.getD i 0).toNat):full l (chain l)=none:=by
 refine full_none ?_
 rw[chain_next h hi h2]
 unfold by_
 split
 ·rfl
 ·rename_i h4
  rw[List.length_drop] at h4
  simp only[Option.bind_some]
  rw[if_pos]
  rw[List.length_take];omega
theorem chain_last {l:List UInt8} {i k:Nat} (h:5<=l.length) (hi:5+(l.getD 4 0).toNat=i) (h2:i+1<=l.length) (h0:(l.getD i 0).toNat≠0) (hk:i+1+(l.getD i 0).toNat=k) (h3:k<=l.length) :
 chain l=(T.opn 0 (l.drop k)).map fun t=>((⟨(l.getD 0 0).toNat,(l.getD 1 0).toNat,gv ((l.drop 2).take 2),(l.drop 5).take (l.getD 4 0).toNat,(l.drop (i+1)).take (l.getD i 0).toNat,t⟩:Chain),([]:List UInt8)):=by
 rw[chain_next h hi h2]
 unfold by_
 rw[if_neg (by rw[List.length_drop];omega)]
 simp only[Option.bind_some,List.drop_drop]
 rw[if_neg (by rw[List.length_take,List.length_drop];omega),hk]
theorem chain_no4 {l:List UInt8} {i k:Nat} (h:5<=l.length) (hi:5+(l.getD 4 0).toNat=i) (h2:i+1<=l.length) (h0:(l.getD i 0).toNat≠0) (hk:i+1+(l.getD i 0).toNat=k) (h3:k<=l.length) (ho:T.opn 0 (l.drop k)=none):full l (chain l)=none :=
 full_none (by rw[chain_last h hi h2 h0 hk h3,ho];rfl)
end D
open Go.RowKit
theorem cls23456 {W:World} {g t:Nat} {x0 x1 x2 x3 x4 x5 x6:Value} (h:RowAt W g t #[x0,x1,x2,x3,x4,x5,x6]):W.cell? ⟨g,2,none⟩=some x2/\W.cell? ⟨g,3,none⟩=some x3/\W.cell? ⟨g,4,none⟩=some x4/\W.cell? ⟨g,5,none⟩=some x5/\W.cell? ⟨g,6,none⟩=some x6:=⟨h.cell 2,h.cell 3,h.cell 4,h.cell 5,h.cell 6⟩
theorem cls012 {W:World} {g t:Nat} {x0 x1 x2 x3 x4 x5 x6 x7 x8:Value} (h:RowAt W g t #[x0,x1,x2,x3,x4,x5,x6,x7,x8]):W.cell? ⟨g,0,none⟩=some x0/\W.cell? ⟨g,1,none⟩=some x1/\W.cell? ⟨g,2,none⟩=some x2:=⟨h.cell 0,h.cell 1,h.cell 2⟩
theorem cls345 {W:World} {g t:Nat} {x0 x1 x2 x3 x4 x5 x6 x7 x8:Value} (h:RowAt W g t #[x0,x1,x2,x3,x4,x5,x6,x7,x8]):W.cell? ⟨g,3,none⟩=some x3/\W.cell? ⟨g,4,none⟩=some x4/\W.cell? ⟨g,5,none⟩=some x5:=⟨h.cell 3,h.cell 4,h.cell 5⟩
theorem cls678 {W:World} {g t:Nat} {x0 x1 x2 x3 x4 x5 x6 x7 x8:Value} (h:RowAt W g t #[x0,x1,x2,x3,x4,x5,x6,x7,x8]):W.cell? ⟨g,6,none⟩=some x6/\W.cell? ⟨g,7,none⟩=some x7/\W.cell? ⟨g,8,none⟩=some x8:=⟨h.cell 6,h.cell 7,h.cell 8⟩
set_option maxHeartbeats 3200000 in
theorem sSoaBytes_any (s:D.Soa) (a1 a2:Option Addr) (n1 c1 n2 c2:Nat) (w:World) (h1:Hid (s.main.length=n1)) (h2:Hid (s.box.length=n2)) (hs1:SlS w a1 s.main) (hs2:SlS w a2 s.box) (hz1:N.size s.main<=1000) (hz2:N.size s.box<=1000)
 (ha:s.a<4294967296) (hb:s.b<4294967296) (hc:s.c<4294967296) (hd:s.d<4294967296) (he:s.e<4294967296) :
 Calls Tryz.prog 114 #[.agg #[.slice a1 n1 c1,.slice a2 n2 c2,.int .u32 (s.a:Int),.int .u32 (s.b:Int),.int .u32 (s.c:Int),.int .u32 (s.d:Int),.int .u32 (s.e:Int)]] w fun e w' => ∃ v',e = .returned v'/\OwnB w' w.heap.size v' (D.soaB s)/\Below w.heap.size w w':=by
 have S1:=hide hs1
 have S2:=hide hs2
 have m1:=hide (small_of hz1)
 have m2:=hide (small_of hz2)
 have l1:=N.wire_len s.main
 have l2:=N.wire_len s.box
 clear hs1 hs2
 unfold D.soaB
 obtain⟨main,box,a,b,c,d,e⟩:=s
 simp only at h1 h2 S1 S2 m1 m2 l1 l2 hz1 hz2 ha hb hc hd he ⊢
 have HROW:=hide (RowAt.new w 166 #[.slice a1 n1 c1,.slice a2 n2 c2,.int .u32 (a:Int),.int .u32 (b:Int),.int .u32 (c:Int),.int .u32 (d:Int),.int .u32 (e:Int)])
 have HB0:=hide ((Below.refl w.heap.size w).alloc (Nat.le_refl _) (.cells #[.slice a1 n1 c1,.slice a2 n2 c2,.int .u32 (a:Int),.int .u32 (b:Int),.int .u32 (c:Int),.int .u32 (d:Int),.int .u32 (e:Int)] 166))
 have HL1:Hid ((N.wire main).length<=1000):=by show _<=_;omega
 have HL2:Hid ((N.wire box).length<=1000):=by show _<=_;omega
 clear l1 l2
 go_enter Tryz.func114,Tryz.ntmps114
 go_wp2
 have x0:(w.alloc (.cells #[.slice a1 n1 c1,.slice a2 n2 c2,.int .u32 (a:Int),.int .u32 (b:Int),.int .u32 (c:Int),.int .u32 (d:Int),.int .u32 (e:Int)] 166)).cell? ⟨w.heap.size,0,none⟩=some (.slice a1 n1 c1):=HROW.out.cell 0
 have x1:(w.alloc (.cells #[.slice a1 n1 c1,.slice a2 n2 c2,.int .u32 (a:Int),.int .u32 (b:Int),.int .u32 (c:Int),.int .u32 (d:Int),.int .u32 (e:Int)] 166)).cell? ⟨w.heap.size,1,none⟩=some (.slice a2 n2 c2):=HROW.out.cell 1
 go_region_held3 (fun w'=>w'.cell? ⟨w.heap.size,0,none⟩=some (.slice a1 n1 c1)/\w'.cell? ⟨w.heap.size,1,none⟩=some (.slice a2 n2 c2)) ((first | (with_reducible exact⟨x0,x1⟩) | exact⟨x0,x1⟩)) ((first
  | (refine step_fn 47 #[.tmp 5] _ rfl rfl #[.slice a1 n1 c1] (by go_simp) (rWire_any main a1 n1 c1 _ h1 (by exact S1.out.alloc _) m1) (by rintro e w' ⟨v,rfl,_⟩;exact⟨v,rfl⟩) ?_;rintro v1 w1 ⟨_,he,hO1,hb1⟩;cases he;have r1:=RowAt.below (by exact HROW.out) hb1 (by simp <;> omega);have p1:w1.cell? ⟨w.heap.size,1,none⟩=some (.slice a2 n2 c2):=r1.cell 1;have x0:w1.cell? ⟨w.heap.size,0,none⟩=some (.slice a1 n1 c1):=r1.cell 0;have x1:w1.cell? ⟨w.heap.size,1,none⟩=some (.slice a2 n2 c2):=r1.cell 1;have R1:=hide r1;have O1:=hide (OwnB.lower (base':=w.heap.size) hO1 (by simp <;> omega));have z1:w.heap.size<=w1.heap.size:=Nat.le_trans (by simp <;> omega) hb1.size;have B1:=hide ((below_allocs HB0.out (Nat.le_refl _) (Or.inl rfl)).trans (hb1.mono (by simp <;> omega)));clear r1 hO1 hb1)
  | (refine step_fn 47 #[.tmp 8] _ rfl rfl #[.slice a2 n2 c2] (by go_simp) (rWire_any box a2 n2 c2 _ h2 (by exact S2.out.below B1.out (Nat.le_refl _)) m2) (by rintro e w' ⟨v,rfl,_⟩;exact⟨v,rfl⟩) ?_;rintro v2 w2 ⟨_,he,hO2,hb2⟩;cases he;have R2:=hide (R1.out.below hb2 R1.out.lt);have x0:w2.cell? ⟨w.heap.size,0,none⟩=some (.slice a1 n1 c1):=R2.out.cell 0;have x1:w2.cell? ⟨w.heap.size,1,none⟩=some (.slice a2 n2 c2):=R2.out.cell 1;have OM:=hide (O1.out.below hb2);obtain⟨g9,c9,rfl,_,_,_,_,_⟩:=hO2.form (by simp[N.wire]);have S9:=hide hO2.sl;have z2:w.heap.size<=w2.heap.size:=Nat.le_trans z1 hb2.size;have B2:=hide (B1.out.trans (hb2.mono z1));clear hO2 hb2)
  | (refine step_append_B rfl (.tmp 6) (.tmp 9) rfl w.heap.size v1 (N.wire main) (by simp[Act.eval]) (by exact OM.out) ⟨g9,0,none⟩ (N.wire box).length c9 (N.wire box) (by simp[Act.eval]) rfl (by exact S9.out) (by have:=HL1.out;have:=HL2.out;omega) (by exact z2) ?_;intro v4 w4 hO4 hG4;have K4:=hide (Kp.grown OM.out hG4 z2);have O4:=hide hO4;have R4:=hide (K4.out.2 _ _ _ R2.out (by decide));have x0:w4.cell? ⟨w.heap.size,0,none⟩=some (.slice a1 n1 c1):=R4.out.cell 0;have x1:w4.cell? ⟨w.heap.size,1,none⟩=some (.slice a2 n2 c2):=R4.out.cell 1;clear hG4 hO4)))
 all_goals
  have z4:w.heap.size<=w4.heap.size:=K4.out.size z2
  have B4:=hide (B2.out.trans K4.out.1)
  have R4:=hide (K4.out.2 _ _ _ R2.out (by decide))
  have L4:Hid ((N.wire main++N.wire box).length<=2000):=by have:=HL1.out;have:=HL2.out;show _<=_;rw[List.length_append];omega
  obtain⟨q,hq⟩ : ∃ q,N.wire main++N.wire box=q:=⟨_,rfl⟩
  rw[hq] at O4 L4
  have HQ:=hide hq
  clear hq
  have m2:w4.cell? ⟨w.heap.size,2,none⟩=some (.int .u32 (a:Int)):=R4.out.cell 2
  have m3:w4.cell? ⟨w.heap.size,3,none⟩=some (.int .u32 (b:Int)):=R4.out.cell 3
  have m4:w4.cell? ⟨w.heap.size,4,none⟩=some (.int .u32 (c:Int)):=R4.out.cell 4
  have m5:w4.cell? ⟨w.heap.size,5,none⟩=some (.int .u32 (d:Int)):=R4.out.cell 5
  have m6:w4.cell? ⟨w.heap.size,6,none⟩=some (.int .u32 (e:Int)):=R4.out.cell 6
  clear R2 B2 K4 S9 OM R1 B1 O1
  go_wp2
  replace O4:Hid (OwnB w4.drew w.heap.size v4 q):=hide (by exact O4.out)
  replace B4:=hide B4.out.drew
  replace R4:=hide R4.out.drew
  replace z4:w.heap.size<=w4.drew.heap.size:=z4
  go_region_held3 (fun w'=>w'.cell? ⟨w.heap.size,2,none⟩=some (.int .u32 (a:Int))/\w'.cell? ⟨w.heap.size,3,none⟩=some (.int .u32 (b:Int))/\w'.cell? ⟨w.heap.size,4,none⟩=some (.int .u32 (c:Int))/\w'.cell? ⟨w.heap.size,5,none⟩=some (.int .u32 (d:Int))/\w'.cell? ⟨w.heap.size,6,none⟩=some (.int .u32 (e:Int))) ((first | (with_reducible exact⟨m2,m3,m4,m5,m6⟩) | exact⟨m2,m3,m4,m5,m6⟩)) ((first
   | (refine step_fn 141 #[.tmp 11,.tmp 13,.const (.int .i64 4)] _ rfl rfl #[v4,.int .u32 (a:Int),.int .i64 ((4:Nat):Int)] (by go_simp) (put_any a 4 (by omega) w.heap.size v4 (q) _ O4.out z4 (by have:=L4.out;first | omega | (simp only[List.length_append,p32_len];omega))) (by rintro e w' ⟨v,rfl,_⟩;exact⟨v,rfl⟩) ?_;rintro v5 w5 ⟨_,he,hO5,hK5⟩;cases he;have z5:w.heap.size<=w5.heap.size:=hK5.size z4;have B5:=hide (B4.out.trans hK5.1);have R5:=hide (hK5.2 _ _ _ R4.out (by decide));rw[D.put_4] at hO5;have O5:=hide hO5;obtain⟨m2,m3,m4,m5,m6⟩:=cls23456 R5.out;clear hO5 hK5)
   | (refine step_fn 141 #[.tmp 14,.tmp 16,.const (.int .i64 4)] _ rfl rfl #[v5,.int .u32 (b:Int),.int .i64 ((4:Nat):Int)] (by go_simp) (put_any b 4 (by omega) w.heap.size v5 (q++D.p32 a) _ O5.out z5 (by have:=L4.out;first | omega | (simp only[List.length_append,p32_len];omega))) (by rintro e w' ⟨v,rfl,_⟩;exact⟨v,rfl⟩) ?_;rintro v6 w6 ⟨_,he,hO6,hK6⟩;cases he;have z6:w.heap.size<=w6.heap.size:=hK6.size z5;have B6:=hide (B5.out.trans hK6.1);have R6:=hide (hK6.2 _ _ _ R5.out (by decide));rw[D.put_4] at hO6;have O6:=hide hO6;obtain⟨m2,m3,m4,m5,m6⟩:=cls23456 R6.out;clear hO6 hK6)
   | (refine step_fn 141 #[.tmp 17,.tmp 19,.const (.int .i64 4)] _ rfl rfl #[v6,.int .u32 (c:Int),.int .i64 ((4:Nat):Int)] (by go_simp) (put_any c 4 (by omega) w.heap.size v6 (q++D.p32 a++D.p32 b) _ O6.out z6 (by have:=L4.out;first | omega | (simp only[List.length_append,p32_len];omega))) (by rintro e w' ⟨v,rfl,_⟩;exact⟨v,rfl⟩) ?_;rintro v7 w7 ⟨_,he,hO7,hK7⟩;cases he;have z7:w.heap.size<=w7.heap.size:=hK7.size z6;have B7:=hide (B6.out.trans hK7.1);have R7:=hide (hK7.2 _ _ _ R6.out (by decide));rw[D.put_4] at hO7;have O7:=hide hO7;obtain⟨m2,m3,m4,m5,m6⟩:=cls23456 R7.out;clear hO7 hK7)
   | (refine step_fn 141 #[.tmp 20,.tmp 22,.const (.int .i64 4)] _ rfl rfl #[v7,.int .u32 (d:Int),.int .i64 ((4:Nat):Int)] (by go_simp) (put_any d 4 (by omega) w.heap.size v7 (q++D.p32 a++D.p32 b++D.p32 c) _ O7.out z7 (by have:=L4.out;first | omega | (simp only[List.length_append,p32_len];omega))) (by rintro e w' ⟨v,rfl,_⟩;exact⟨v,rfl⟩) ?_;rintro v8 w8 ⟨_,he,hO8,hK8⟩;cases he;have z8:w.heap.size<=w8.heap.size:=hK8.size z7;have B8:=hide (B7.out.trans hK8.1);have R8:=hide (hK8.2 _ _ _ R7.out (by decide));rw[D.put_4] at hO8;have O8:=hide hO8;obtain⟨m2,m3,m4,m5,m6⟩:=cls23456 R8.out;clear hO8 hK8)
   | (refine step_fn 141 #[.tmp 23,.tmp 25,.const (.int .i64 4)] _ rfl rfl #[v8,.int .u32 (e:Int),.int .i64 ((4:Nat):Int)] (by go_simp) (put_any e 4 (by omega) w.heap.size v8 (q++D.p32 a++D.p32 b++D.p32 c++D.p32 d) _ O8.out z8 (by have:=L4.out;first | omega | (simp only[List.length_append,p32_len];omega))) (by rintro e w' ⟨v,rfl,_⟩;exact⟨v,rfl⟩) ?_;rintro v9 w9 ⟨_,he,hO9,hK9⟩;cases he;have z9:w.heap.size<=w9.heap.size:=hK9.size z8;have B9:=hide (B8.out.trans hK9.1);have R9:=hide (hK9.2 _ _ _ R8.out (by decide));rw[D.put_4] at hO9;have O9:=hide hO9;obtain⟨m2,m3,m4,m5,m6⟩:=cls23456 R9.out;clear hO9 hK9)))
  all_goals
   go_wp2
   go_ret
   exact⟨_,rfl,by rw[HQ.out];exact O9.out,B9.out⟩
open Go.RowKit
theorem step_append_Bo {ops:Array Oper} {o:Oper} {a:Act} {w:World} {K:Act->World->Prop} {Q:Exit->Act->World->Prop} {E:Prop} (hgd:o.guard=none) (s x:Operand)
 (ho:o.op = .call { callee := .builtin .append,args := #[s,x],argTypes := #[37,37] }) (base:Nat) (v:Value) (l:List UInt8) (hs:a.eval s=v) (hown:OwnB w base v l)
 (ao:Option Addr) (m c:Nat) (l2:List UInt8) (hx:a.eval x = .slice ao m c) (hm:l2.length=m) (hsrc:SlL w ao l2) (hnil:ao=none->c=0) (hbound:l.length+m<=1099511627776) (hbase:base<=w.heap.size)
 (h : ∀ v' w',OwnB w' base v' (l++l2)->w.grownBy w' v.ownBlock->K (a.put o.dst v') w'):if Region.wanted o (yielded ops a.tmps)=true then Oper.wp Tryz.prog o a w K Q else E:=by
 cases ao with
 | some ad=>exact step_append_B hgd s x ho base v l hs hown ad m c l2 hx hm hsrc hbound hbase h
 | none =>
  subst hm
  have h0:l2.length=0:=by
   rcases Nat.eq_zero_or_pos l2.length with h | h
   ·exact h
   ·obtain⟨b,o,e,_⟩:=hsrc h;cases e
  obtain rfl:l2 = []:=List.eq_nil_of_length_eq_zero h0
  obtain rfl:=hnil rfl
  obtain⟨i0,hi,_,_,_⟩:=info_parts infoB
  have hw:Region.wanted o (yielded ops a.tmps)=true:=by simp[Region.wanted,hgd]
  rw[if_pos hw]
  have hrun:=run_append_owned_none (P:=Tryz.prog) (w:=w) base 37 o.type 5 i0 1 Tryz.underlying37 hi v l.length (vb l) hown
  unfold Oper.wp
  simp[execOp,ho,resolve,invoke,builtin,hs,hx,hrun,Result.andThen]
  exact h v w (by rw[List.append_nil];exact hown) ⟨rfl,rfl,rfl,Nat.le_refl _,fun _ _ _=>rfl⟩
set_option maxHeartbeats 3200000 in
theorem sSigBytes_any (s:D.Sig) (a1 a2:Option Addr) (n1 c1 n2 c2:Nat) (w:World) (h1:Hid (s.signer.length=n1)) (h2:Hid (s.sig.length=n2)) (hs1:SlS w a1 s.signer) (hs2:SlL w a2 s.sig) (hnil:a2=none->c2=0) (hz1:N.size s.signer<=1000) (hz2:n2<=100000)
 (ht:s.type<65536) (ha:s.alg<256) (hb:s.labels<256) (hc:s.ttl<4294967296) (hd:s.expire<4294967296) (he:s.begin_<4294967296) (hg:s.tag<65536) :
 Calls Tryz.prog 160 #[.agg #[.int .u16 (s.type:Int),.int .u8 (s.alg:Int),.int .u8 (s.labels:Int),.int .u32 (s.ttl:Int),.int .u32 (s.expire:Int),.int .u32 (s.begin_:Int),.int .u16 (s.tag:Int),.slice a1 n1 c1,.slice a2 n2 c2]] w fun e w' => ∃ v',e = .returned v'/\OwnB w' w.heap.size v' (D.sigB s)/\Below w.heap.size w w':=by
 have S1:=hide hs1
 have S2:=hide hs2
 have NI:=hide hnil
 have m1':=hide (small_of hz1)
 have l1:=N.wire_len s.signer
 clear hs1 hs2 hnil
 unfold D.sigB
 obtain⟨type,alg,labels,ttl,expire,begin_,tag,signer,sig⟩:=s
 simp only at h1 h2 S1 S2 m1' l1 hz1 ht ha hb hc hd he hg ⊢
 have q1:(alg:Int)=((UInt8.ofNat alg).toNat:Int):=by rw[D.nat_u8 _ ha]
 have q2:(labels:Int)=((UInt8.ofNat labels).toNat:Int):=by rw[D.nat_u8 _ hb]
 rw[q1,q2]
 clear q1 q2
 generalize UInt8.ofNat alg=x
 generalize UInt8.ofNat labels=y
 have R0:=hide (RowAt.new w 175 #[.int .u16 (type:Int),.int .u8 (x.toNat:Int),.int .u8 (y.toNat:Int),.int .u32 (ttl:Int),.int .u32 (expire:Int),.int .u32 (begin_:Int),.int .u16 (tag:Int),.slice a1 n1 c1,.slice a2 n2 c2])
 have B0:=hide ((Below.refl w.heap.size w).alloc (Nat.le_refl _) (.cells #[.int .u16 (type:Int),.int .u8 (x.toNat:Int),.int .u8 (y.toNat:Int),.int .u32 (ttl:Int),.int .u32 (expire:Int),.int .u32 (begin_:Int),.int .u16 (tag:Int),.slice a1 n1 c1,.slice a2 n2 c2] 175))
 have HL1:Hid ((N.wire signer).length<=1000):=by show _<=_;omega
 clear l1
 go_enter Tryz.func160,Tryz.ntmps160
 go_wp2
 have m0:(w.alloc (.cells #[.int .u16 (type:Int),.int .u8 (x.toNat:Int),.int .u8 (y.toNat:Int),.int .u32 (ttl:Int),.int .u32 (expire:Int),.int .u32 (begin_:Int),.int .u16 (tag:Int),.slice a1 n1 c1,.slice a2 n2 c2] 175)).cell? ⟨w.heap.size,0,none⟩=some (.int .u16 (type:Int)):=R0.out.cell 0
 have m1:(w.alloc (.cells #[.int .u16 (type:Int),.int .u8 (x.toNat:Int),.int .u8 (y.toNat:Int),.int .u32 (ttl:Int),.int .u32 (expire:Int),.int .u32 (begin_:Int),.int .u16 (tag:Int),.slice a1 n1 c1,.slice a2 n2 c2] 175)).cell? ⟨w.heap.size,1,none⟩=some (.int .u8 (x.toNat:Int)):=R0.out.cell 1
 have m2:(w.alloc (.cells #[.int .u16 (type:Int),.int .u8 (x.toNat:Int),.int .u8 (y.toNat:Int),.int .u32 (ttl:Int),.int .u32 (expire:Int),.int .u32 (begin_:Int),.int .u16 (tag:Int),.slice a1 n1 c1,.slice a2 n2 c2] 175)).cell? ⟨w.heap.size,2,none⟩=some (.int .u8 (y.toNat:Int)):=R0.out.cell 2
 have hwt:IntKind.u32.wrap (type:Int)=(type:Int):=by rw[IntKind.wrap_u32];omega
 have hwg:IntKind.u32.wrap (tag:Int)=(tag:Int):=by rw[IntKind.wrap_u32];omega
 go_region_held3 (fun w'=>w'.cell? ⟨w.heap.size,0,none⟩=some (.int .u16 (type:Int))/\w'.cell? ⟨w.heap.size,1,none⟩=some (.int .u8 (x.toNat:Int))/\w'.cell? ⟨w.heap.size,2,none⟩=some (.int .u8 (y.toNat:Int))) ((first | (with_reducible exact⟨m0,m1,m2⟩) | exact⟨m0,m1,m2⟩ | exact⟨(R1.out.alloc _).cell 0,(R1.out.alloc _).cell 1,(R1.out.alloc _).cell 2⟩ | exact⟨(R0.out.alloc _).cell 0,(R0.out.alloc _).cell 1,(R0.out.alloc _).cell 2⟩)) ((first
  | (refine step_fn 141 #[.const (.slice none 0 0),.tmp 6,.const (.int .i64 2)] _ rfl rfl #[.slice none 0 0,.int .u32 (type:Int),.int .i64 ((2:Nat):Int)] (by go_simp) (put_any type 2 (by omega) _ (.slice none 0 0) [] _ (OwnB.nil _ _) (Nat.le_refl _) (by simp)) (by rintro e w' ⟨v,rfl,_⟩;exact⟨v,rfl⟩) ?_;rintro v1 w1 ⟨_,he,hO1,hK1⟩;cases he;have R1:=hide (RowAt.below (by exact R0.out) hK1.1 (by simp <;> omega));have B1:=hide ((below_allocs B0.out (Nat.le_refl _) (Or.inl rfl)).trans (hK1.1.mono (by simp <;> omega)));have z1:w.heap.size<=w1.heap.size:=Nat.le_trans (by simp <;> omega) hK1.1.size;rw[D.put_2,List.nil_append] at hO1;have O1:=hide (OwnB.lower (base':=w.heap.size) hO1 (by simp <;> omega));obtain⟨m0,m1,m2⟩:=cls012 R1.out;clear hO1 hK1)
  | (refine step_fn 141 #[.const (.slice none 0 0),.tmp 6,.const (.int .i64 2)] _ rfl rfl #[.slice none 0 0,.int .u32 (type:Int),.int .i64 ((2:Nat):Int)] (by go_simp) (put_any type 2 (by omega) _ (.slice none 0 0) [] _ (OwnB.nil _ _) (Nat.le_refl _) (by simp)) (by rintro e w' ⟨v,rfl,_⟩;exact⟨v,rfl⟩) ?_;rintro v1 w1 ⟨_,he,hO1,hK1⟩;cases he;have R1:=hide (RowAt.below (by exact R0.out.alloc _) hK1.1 (by simp <;> omega));have B1:=hide ((below_allocs B0.out (Nat.le_refl _) (Or.inr ⟨_,rfl⟩)).trans (hK1.1.mono (by simp <;> omega)));have sl:=SlL.below (by exact SlL.litm (w.alloc (.cells #[.int .u16 (type:Int),.int .u8 (x.toNat:Int),.int .u8 (y.toNat:Int),.int .u32 (ttl:Int),.int .u32 (expire:Int),.int .u32 (begin_:Int),.int .u16 (tag:Int),.slice a1 n1 c1,.slice a2 n2 c2] 175)) [x,y] _ 5 (0,0) rfl) hK1.1 (Nat.le_refl _);rw[show (w.alloc (.cells #[.int .u16 (type:Int),.int .u8 (x.toNat:Int),.int .u8 (y.toNat:Int),.int .u32 (ttl:Int),.int .u32 (expire:Int),.int .u32 (begin_:Int),.int .u16 (tag:Int),.slice a1 n1 c1,.slice a2 n2 c2] 175)).heap.size=w.heap.size+1 by simp] at sl;have SL:=hide sl;clear sl;have z1:w.heap.size<=w1.heap.size:=Nat.le_trans (by simp <;> omega) hK1.1.size;rw[D.put_2,List.nil_append] at hO1;have O1:=hide (OwnB.lower (base':=w.heap.size) hO1 (by simp <;> omega));obtain⟨m0,m1,m2⟩:=cls012 R1.out;clear hO1 hK1)
  | (refine step_append_B rfl (.tmp 7) (.tmp 12) rfl w.heap.size v1 (D.p16 type) (by simp[Act.eval]) (by exact O1.out.alloc _) ⟨w1.heap.size,0,none⟩ 2 2 [x,y] (by simp[Act.eval]) rfl (by exact SlL.litm w1 [x,y] _ 5 (0,0) rfl) (by simp[p16_len]) (by simp;omega) ?_;intro v2 w2 hO2 hG2;have K2:=hide (Kp.app O1.out hG2 z1);have z2:w.heap.size<=w2.heap.size:=K2.out.size z1;have B2:=hide (B1.out.trans K2.out.1);have R2:=hide (K2.out.2 _ _ _ R1.out (by decide));have O2:=hide hO2;obtain⟨m0,m1,m2⟩:=cls012 R2.out;clear hG2 hO2)
  | (refine step_append_B rfl (.tmp 7) (.tmp 12) rfl w.heap.size v1 (D.p16 type) (by simp[Act.eval]) (by exact O1.out) _ 2 2 [x,y] (by simp[Act.eval];rfl) rfl (by exact SL.out) (by simp[p16_len]) z1 ?_;intro v2 w2 hO2 hG2;have K2:=hide (Kp.grown O1.out hG2 z1);have z2:w.heap.size<=w2.heap.size:=K2.out.size z1;have B2:=hide (B1.out.trans K2.out.1);have R2:=hide (K2.out.2 _ _ _ R1.out (by decide));have O2:=hide hO2;obtain⟨m0,m1,m2⟩:=cls012 R2.out;clear hG2 hO2)))
 all_goals
  clear B0 R0 B1 R1 O1 m0 m1 m2 K2
  try clear SL
  have L2:Hid ((D.p16 type ++ [x,y]).length<=4):=by show _<=_;simp[p16_len]
  obtain⟨q,hq⟩ : ∃ q,D.p16 type ++ [x,y]=q:=⟨_,rfl⟩
  rw[hq] at O2 L2
  have HQ:=hide hq
  clear hq
  go_wp2
  replace O2:Hid (OwnB w2.drew w.heap.size v2 q):=hide (by exact O2.out)
  replace B2:=hide B2.out.drew
  replace R2:=hide R2.out.drew
  replace z2:w.heap.size<=w2.drew.heap.size:=z2
  have m3:w2.drew.cell? ⟨w.heap.size,3,none⟩=some (.int .u32 (ttl:Int)):=R2.out.cell 3
  have m4:w2.drew.cell? ⟨w.heap.size,4,none⟩=some (.int .u32 (expire:Int)):=R2.out.cell 4
  have m5:w2.drew.cell? ⟨w.heap.size,5,none⟩=some (.int .u32 (begin_:Int)):=R2.out.cell 5
  go_region_held3 (fun w'=>w'.cell? ⟨w.heap.size,3,none⟩=some (.int .u32 (ttl:Int))/\w'.cell? ⟨w.heap.size,4,none⟩=some (.int .u32 (expire:Int))/\w'.cell? ⟨w.heap.size,5,none⟩=some (.int .u32 (begin_:Int))) ((first | (with_reducible exact⟨m3,m4,m5⟩) | exact⟨m3,m4,m5⟩)) ((first
   | (refine step_fn 141 #[.tmp 14,.tmp 16,.const (.int .i64 4)] _ rfl rfl #[v2,.int .u32 (ttl:Int),.int .i64 ((4:Nat):Int)] (by go_simp) (put_any ttl 4 (by omega) w.heap.size v2 (q) _ O2.out z2 (by have:=L2.out;first | omega | (simp only[List.length_append,p32_len];omega))) (by rintro e w' ⟨v,rfl,_⟩;exact⟨v,rfl⟩) ?_;rintro v3 w3 ⟨_,he,hO3,hK3⟩;cases he;have z3:w.heap.size<=w3.heap.size:=hK3.size z2;have B3:=hide (B2.out.trans hK3.1);have R3:=hide (hK3.2 _ _ _ R2.out (by decide));rw[D.put_4] at hO3;have O3:=hide hO3;obtain⟨m3,m4,m5⟩:=cls345 R3.out;clear hO3 hK3)
   | (refine step_fn 141 #[.tmp 17,.tmp 19,.const (.int .i64 4)] _ rfl rfl #[v3,.int .u32 (expire:Int),.int .i64 ((4:Nat):Int)] (by go_simp) (put_any expire 4 (by omega) w.heap.size v3 (q++D.p32 ttl) _ O3.out z3 (by have:=L2.out;first | omega | (simp only[List.length_append,p32_len];omega))) (by rintro e w' ⟨v,rfl,_⟩;exact⟨v,rfl⟩) ?_;rintro v4 w4 ⟨_,he,hO4,hK4⟩;cases he;have z4:w.heap.size<=w4.heap.size:=hK4.size z3;have B4:=hide (B3.out.trans hK4.1);have R4:=hide (hK4.2 _ _ _ R3.out (by decide));rw[D.put_4] at hO4;have O4:=hide hO4;obtain⟨m3,m4,m5⟩:=cls345 R4.out;clear hO4 hK4)
   | (refine step_fn 141 #[.tmp 20,.tmp 22,.const (.int .i64 4)] _ rfl rfl #[v4,.int .u32 (begin_:Int),.int .i64 ((4:Nat):Int)] (by go_simp) (put_any begin_ 4 (by omega) w.heap.size v4 (q++D.p32 ttl++D.p32 expire) _ O4.out z4 (by have:=L2.out;first | omega | (simp only[List.length_append,p32_len];omega))) (by rintro e w' ⟨v,rfl,_⟩;exact⟨v,rfl⟩) ?_;rintro v5 w5 ⟨_,he,hO5,hK5⟩;cases he;have z5:w.heap.size<=w5.heap.size:=hK5.size z4;have B5:=hide (B4.out.trans hK5.1);have R5:=hide (hK5.2 _ _ _ R4.out (by decide));rw[D.put_4] at hO5;have O5:=hide hO5;obtain⟨m3,m4,m5⟩:=cls345 R5.out;clear hO5 hK5)))
  all_goals
   clear B2 R2 O2 B3 R3 O3 B4 R4 O4 m3 m4 m5
   have L5:Hid ((q++D.p32 ttl++D.p32 expire++D.p32 begin_).length<=16):=by have:=L2.out;show _<=_;simp only[List.length_append,p32_len];omega
   obtain⟨q5,hq5⟩ : ∃ q5,q++D.p32 ttl++D.p32 expire++D.p32 begin_=q5:=⟨_,rfl⟩
   rw[hq5] at O5 L5
   have HQ5:=hide hq5
   clear hq5
   go_wp2
   replace O5:Hid (OwnB w5.drew w.heap.size v5 q5):=hide (by exact O5.out)
   replace B5:=hide B5.out.drew
   replace R5:=hide R5.out.drew
   replace z5:w.heap.size<=w5.drew.heap.size:=z5
   have m6:w5.drew.cell? ⟨w.heap.size,6,none⟩=some (.int .u16 (tag:Int)):=R5.out.cell 6
   have m7:w5.drew.cell? ⟨w.heap.size,7,none⟩=some (.slice a1 n1 c1):=R5.out.cell 7
   have m8:w5.drew.cell? ⟨w.heap.size,8,none⟩=some (.slice a2 n2 c2):=R5.out.cell 8
   go_region_held3 (fun w'=>w'.cell? ⟨w.heap.size,6,none⟩=some (.int .u16 (tag:Int))/\w'.cell? ⟨w.heap.size,7,none⟩=some (.slice a1 n1 c1)/\w'.cell? ⟨w.heap.size,8,none⟩=some (.slice a2 n2 c2)) ((first | (with_reducible exact⟨m6,m7,m8⟩) | exact⟨m6,m7,m8⟩)) ((first
    | (refine step_fn 141 #[.tmp 24,.tmp 27,.const (.int .i64 2)] _ rfl rfl #[v5,.int .u32 (tag:Int),.int .i64 ((2:Nat):Int)] (by go_simp) (put_any tag 2 (by omega) w.heap.size v5 q5 _ O5.out z5 (by have:=L5.out;omega)) (by rintro e w' ⟨v,rfl,_⟩;exact⟨v,rfl⟩) ?_;rintro v6 w6 ⟨_,he,hO6,hK6⟩;cases he;have z6:w.heap.size<=w6.heap.size:=hK6.size z5;have B6:=hide (B5.out.trans hK6.1);have R6:=hide (hK6.2 _ _ _ R5.out (by decide));rw[D.put_2] at hO6;have O6:=hide hO6;obtain⟨m6,m7,m8⟩:=cls678 R6.out;clear hO6 hK6)
    | (refine step_fn 47 #[.tmp 30] _ rfl rfl #[.slice a1 n1 c1] (by go_simp) (rWire_any signer a1 n1 c1 _ h1 (S1.out.below B6.out (Nat.le_refl _)) m1') (by rintro e w' ⟨v,rfl,_⟩;exact⟨v,rfl⟩) ?_;rintro v7 w7 ⟨_,he,hO7,hb7⟩;cases he;have R7:=hide (R6.out.below hb7 R6.out.lt);have OM:=hide (O6.out.below hb7);obtain⟨g9,c9,rfl,_,_,_,_,_⟩:=hO7.form (by simp[N.wire]);have S9:=hide hO7.sl;have z7:w.heap.size<=w7.heap.size:=Nat.le_trans z6 hb7.size;have B7:=hide (B6.out.trans (hb7.mono z6));obtain⟨m6,m7,m8⟩:=cls678 R7.out;clear hO7 hb7)
    | (refine step_append_B rfl (.tmp 28) (.tmp 31) rfl w.heap.size v6 (q5++D.p16 tag) (by simp[Act.eval]) OM.out ⟨g9,0,none⟩ (N.wire signer).length c9 (N.wire signer) (by simp[Act.eval]) rfl S9.out (by have:=HL1.out;have:=L5.out;simp only[List.length_append,p16_len];omega) z7 ?_;intro v8 w8 hO8 hG8;have K8:=hide (Kp.grown OM.out hG8 z7);have z8:w.heap.size<=w8.heap.size:=K8.out.size z7;have B8:=hide (B7.out.trans K8.out.1);have R8:=hide (K8.out.2 _ _ _ R7.out (by decide));have O8:=hide hO8;obtain⟨m6,m7,m8⟩:=cls678 R8.out;clear hG8 hO8)
    | (refine step_append_Bo rfl (.tmp 32) (.tmp 34) rfl w.heap.size v8 (q5++D.p16 tag++N.wire signer) (by simp[Act.eval]) O8.out a2 n2 c2 sig (by simp[Act.eval]) h2.out (S2.out.below B8.out (Nat.le_refl _)) NI.out (by have:=HL1.out;have:=L5.out;simp only[List.length_append,p16_len];omega) z8 ?_;intro v9 w9 hO9 hG9;have K9:=hide (Kp.grown O8.out hG9 z8);have B9:=hide (B8.out.trans K9.out.1);have R9:=hide (K9.out.2 _ _ _ R8.out (by decide));have O9:=hide hO9;obtain⟨m6,m7,m8⟩:=cls678 R9.out;clear hG9 hO9)))
   all_goals
    go_wp2
    go_ret
    exact⟨_,rfl,by rw[HQ.out,HQ5.out];exact O9.out,B9.out⟩
open Go.RowKit
theorem u8mod (k m:Nat) (hm:0<m) (hm2:m<=256):((UInt8.ofNat (k % m)).toNat:Int)=(k:Int) % (m:Int):=by
 have h:k % m<m:=Nat.mod_lt _ hm
 have:(UInt8.ofNat (k % m)).toNat=k % m:=UInt8.toNat_ofNat_of_lt' (by show _<256;omega)
 rw[this];omega
theorem u8add (k:Nat):((UInt8.ofNat (97+k % 4)).toNat:Int)=97+(k:Int) % 4:=by
 have:(UInt8.ofNat (97+k % 4)).toNat=97+k % 4:=UInt8.toNat_ofNat_of_lt' (by show _<256;omega)
 rw[this];omega
theorem u8id (k:Nat) (hk:k<256):((UInt8.ofNat k).toNat:Int)=(k:Int):=by
 have:(UInt8.ofNat k).toNat=k:=UInt8.toNat_ofNat_of_lt' (by show _<256;omega)
 rw[this]
theorem pick3 (w2 W:World) {a1 a2:Option Addr} {n1 n2:List (List UInt8)} {c1 c2:Nat} (hW:W=(w2.alloc (.cells #[.string ⟨#[102,97,114]⟩,.string ⟨#[110,101,116]⟩] 9)).alloc (.cells #[.slice a1 n1.length c1,.slice a2 n2.length c2,.slice (some ⟨w2.heap.size,0,none⟩) 2 2] 28)) (j:Nat) (hj:j<3) (h1:SlS w2 a1 n1) (h2:SlS w2 a2 n2) (h3:SlS (w2.alloc (.cells #[.string ⟨#[102,97,114]⟩,.string ⟨#[110,101,116]⟩] 9)) (some ⟨w2.heap.size,0,none⟩) Z.farN) {nm:List (List UInt8)} (hnm:nm = [n1,n2,Z.farN].getD j []) :
 ∃ av nv cv,W.cell? ⟨w2.heap.size+1,j,none⟩=some (.slice av nv cv)/\SlS W av nm/\nm.length=nv /\ ∀ h,(#[.slice a1 n1.length c1,.slice a2 n2.length c2,.slice (some ⟨w2.heap.size,0,none⟩) 2 2]:Array Value)[j]'h = .slice av nv cv:=by
 have hr:RowAt W (w2.heap.size+1) 28 #[.slice a1 n1.length c1,.slice a2 n2.length c2,.slice (some ⟨w2.heap.size,0,none⟩) 2 2]:=by
  rw[hW]
  have:=RowAt.new (w2.alloc (.cells #[.string ⟨#[102,97,114]⟩,.string ⟨#[110,101,116]⟩] 9)) 28 #[.slice a1 n1.length c1,.slice a2 n2.length c2,.slice (some ⟨w2.heap.size,0,none⟩) 2 2]
  rw[World.size_alloc] at this
  exact this
 rcases (by omega:j=0\/j=1\/j=2) with h | h | h <;> subst h
 ·exact⟨a1,n1.length,c1,hr.cell 0,by rw[hnm,hW];exact (h1.alloc _).alloc _,by rw[hnm];rfl,fun _=>rfl⟩
 ·exact⟨a2,n2.length,c2,hr.cell 1,by rw[hnm,hW];exact (h2.alloc _).alloc _,by rw[hnm];rfl,fun _=>rfl⟩
 ·exact⟨_,2,2,hr.cell 2,by rw[hnm,hW];exact h3.alloc _,by rw[hnm];rfl,fun _=>rfl⟩
theorem make15 (W:World):(Instr.makeSlice 37 (.int .i64 15) (.int .i64 15)).run Tryz.prog W = .ok (.slice (some ⟨W.heap.size,0,none⟩) 15 15) (W.alloc (.cells #[.int .u8 0,.int .u8 0,.int .u8 0,.int .u8 0,.int .u8 0,.int .u8 0,.int .u8 0,.int .u8 0,.int .u8 0,.int .u8 0,.int .u8 0,.int .u8 0,.int .u8 0,.int .u8 0,.int .u8 0] 5)):=by
 obtain⟨i0,hi,hz0,hz1,hz2⟩:=info_parts infoB
 rw[run_make (P:=Tryz.prog) W 37 5 i0 (.int .u8 0) Tryz.underlying37 hi hz0 .i64 .i64 15 15 (by omega) (Int.le_refl _) (by rw[hz2];omega) (by omega)]
 rw[hz1,Nat.mul_one]
 have e:(Value.int .u8 0).cells = #[.int .u8 0]:=rfl
 have e2:madeCells #[.int .u8 0] 15 = #[.int .u8 0,.int .u8 0,.int .u8 0,.int .u8 0,.int .u8 0,.int .u8 0,.int .u8 0,.int .u8 0,.int .u8 0,.int .u8 0,.int .u8 0,.int .u8 0,.int .u8 0,.int .u8 0,.int .u8 0]:=by
  apply Array.toList_inj.1
  rw[toList_madeCells_one]
  rfl
 have e3:Int.toNat 15=15:=rfl
 rw[e,e3,e2]
set_option maxHeartbeats 1000000 in
theorem seatData_1 (k:Nat) (hk:k<256) (w:World):Calls Tryz.prog 81 #[.int .u16 1,.int .u8 (k:Int)] w fun e w' => ∃ v,e = .returned v/\OwnB w' w.heap.size v (Z.dataK 1 k)/\Below w.heap.size w w':=by
 have e:Z.dataK 1 k = [10,0,0,UInt8.ofNat (k % 4)]:=by unfold Z.dataK;rw[if_pos rfl]
 rw[e]
 go_enter Tryz.func81,Tryz.ntmps81
 go_wp2
 go_ret
 exact⟨_,rfl,OwnB.lit w _ _ _ (Nat.le_refl _) (by simp only[vb,List.map_cons,List.map_nil];rw[u8mod k 4 (by decide) (by decide)];rfl) (by simp) 4 rfl,(Below.refl _ w).alloc (Nat.le_refl _) _⟩
set_option maxHeartbeats 1000000 in
theorem seatData_28 (k:Nat) (hk:k<256) (w:World):Calls Tryz.prog 81 #[.int .u16 28,.int .u8 (k:Int)] w fun e w' => ∃ v,e = .returned v/\OwnB w' w.heap.size v (Z.dataK 28 k)/\Below w.heap.size w w':=by
 have e:Z.dataK 28 k=List.replicate 15 0 ++ [UInt8.ofNat (k % 3)]:=by unfold Z.dataK;rw[if_neg (by decide),if_pos rfl]
 rw[e]
 go_enter Tryz.func81,Tryz.ntmps81
 have hmk:=make15 w
 go_wp2_with (at_builtin;go_loud (refine wpList_append_B rfl (.tmp 13) (.tmp 16) rfl w.heap.size (.slice (some ⟨w.heap.size,0,none⟩) 15 15) (List.replicate 15 0) rfl ((OwnB.lit w (List.replicate 15 0) _ _ (Nat.le_refl _) rfl (by decide) 15 rfl).alloc _) (some ⟨w.heap.size+1,0,none⟩) 1 1 [UInt8.ofNat (k % 3)] (by first | rfl | simp[Act.eval]) rfl (by have:=SlL.litm (w.alloc (.cells #[.int .u8 0,.int .u8 0,.int .u8 0,.int .u8 0,.int .u8 0,.int .u8 0,.int .u8 0,.int .u8 0,.int .u8 0,.int .u8 0,.int .u8 0,.int .u8 0,.int .u8 0,.int .u8 0,.int .u8 0] 5)) [UInt8.ofNat (k % 3)] #[.int .u8 ((k:Int) % 3)] 5 (0,0) (by simp only[vb,List.map_cons,List.map_nil];rw[u8mod k 3 (by decide) (by decide)];rfl);simpa using this) (by intro h;cases h) (by simp) (by simp <;> omega) ?_);intro v5 w5 hO5 hG5;have b5:=grown_below ((OwnB.lit w (List.replicate 15 0) _ _ (Nat.le_refl _) rfl (by decide) 15 rfl).alloc _) hG5 (((Below.refl _ w).alloc (Nat.le_refl _) _).alloc (by simp <;> omega) _) (by simp <;> omega))
 go_ret
 exact⟨v5,rfl,hO5,b5⟩
set_option maxHeartbeats 1000000 in
theorem seatData_15 (k:Nat) (hk:k<256) (w:World):Calls Tryz.prog 81 #[.int .u16 15,.int .u8 (k:Int)] w fun e w' => ∃ v,e = .returned v/\OwnB w' w.heap.size v (Z.dataK 15 k)/\Below w.heap.size w w':=by
 have e:Z.dataK 15 k = [0,UInt8.ofNat (k % 3)]++N.wire (Z.underK k):=by unfold Z.dataK;rw[if_neg (by decide),if_neg (by decide),if_pos rfl]
 rw[e]
 go_enter Tryz.func81,Tryz.ntmps81
 have hu:=under_any k hk (w.alloc (.cells #[.int .u8 0,.int .u8 ((k:Int) % 3)] 5))
 have hO1:=hide (OwnB.lit w [0,UInt8.ofNat (k % 3)] #[.int .u8 0,.int .u8 ((k:Int) % 3)] _ (Nat.le_refl _) (by simp only[vb,List.map_cons,List.map_nil];rw[u8mod k 3 (by decide) (by decide)];rfl) (by simp) 2 rfl)
 have hB1:=hide ((Below.refl _ w).alloc (Nat.le_refl _) (.cells #[.int .u8 0,.int .u8 ((k:Int) % 3)] 5))
 go_wp2_with (first
  | (go_at_call 113;refine hu.mono ?_;rintro e w2 ⟨v2,rfl,hO2,hB2⟩;obtain⟨a2,c2,rfl,hS2,hn2,hc2,_⟩:=hO2.open)
  | (go_at_call 47;refine (rWire_any (Z.underK k) a2 _ c2 w2 rfl hS2 (Z.underK_small k)).mono ?_;rintro e w3 ⟨v3,rfl,hO3,hB3⟩;have OM:=hide ((hO1.out.below hB2).below hB3);have BM:=hide (hB1.out.trans ((hB2.mono (by simp)).trans (hB3.mono (by have:=hB2.size;simp at this;omega))));obtain⟨g3,c3,rfl,_,_⟩:=hO3.form (by simp[N.wire]);have S3:=hide hO3.sl)
  | (at_builtin;go_loud (refine wpList_append_B rfl (.tmp 22) (.tmp 25) rfl w.heap.size _ _ rfl (by exact OM.out) _ _ _ (N.wire (Z.underK k)) rfl rfl (by exact S3.out) (by intro h;cases h) (by have:=Z.underK_wire k;simp;omega) (by exact BM.out.size) ?_);intro v5 w5 hO5 hG5;have b5:=grown_below OM.out hG5 BM.out BM.out.size)
  | fail)
 go_ret
 exact⟨v5,rfl,hO5,b5⟩
set_option maxHeartbeats 1000000 in
theorem seatData_16 (k:Nat) (hk:k<256) (w:World):Calls Tryz.prog 81 #[.int .u16 16,.int .u8 (k:Int)] w fun e w' => ∃ v,e = .returned v/\OwnB w' w.heap.size v (Z.dataK 16 k)/\Below w.heap.size w w':=by
 have e:Z.dataK 16 k = [2,104,UInt8.ofNat (97+k % 4)]:=by unfold Z.dataK;rw[if_neg (by decide),if_neg (by decide),if_neg (by decide),if_pos rfl]
 rw[e]
 go_enter Tryz.func81,Tryz.ntmps81
 go_wp2
 go_ret
 exact⟨_,rfl,OwnB.lit w _ _ _ (Nat.le_refl _) (by simp only[vb,List.map_cons,List.map_nil];rw[u8add k];rfl) (by simp) 3 rfl,(Below.refl _ w).alloc (Nat.le_refl _) _⟩
set_option maxHeartbeats 1000000 in
theorem seatData_5 (k:Nat) (hk:k<256) (w:World):Calls Tryz.prog 81 #[.int .u16 5,.int .u8 (k:Int)] w fun e w' => ∃ v,e = .returned v/\OwnB w' w.heap.size v (Z.dataK 5 k)/\Below w.heap.size w w':=by
 have e:Z.dataK 5 k=N.wire (Z.underK k):=by unfold Z.dataK;rw[if_neg (by decide),if_neg (by decide),if_neg (by decide),if_neg (by decide),if_neg (by decide),if_pos rfl]
 rw[e]
 go_enter Tryz.func81,Tryz.ntmps81
 have hu:=under_any k hk w
 go_wp2_with (first
  | (go_at_call 113;refine hu.mono ?_;rintro e w2 ⟨v2,rfl,hO2,hB2⟩;obtain⟨a2,c2,rfl,hS2,hn2,hc2,_⟩:=hO2.open)
  | (go_at_call 47;refine (rWire_any (Z.underK k) a2 _ c2 w2 rfl hS2 (Z.underK_small k)).mono ?_;rintro e w3 ⟨v3,rfl,hO3,hB3⟩)
  | fail)
 go_ret
 exact⟨v3,rfl,hO3.lower hB2.size,hB2.trans (hB3.mono hB2.size)⟩
set_option maxHeartbeats 1000000 in
theorem seatData_43 (k:Nat) (hk:k<256) (w:World):Calls Tryz.prog 81 #[.int .u16 43,.int .u8 (k:Int)] w fun e w' => ∃ v,e = .returned v/\OwnB w' w.heap.size v (Z.dataK 43 k)/\Below w.heap.size w w':=by
 have e:Z.dataK 43 k = [0,UInt8.ofNat (k % 3),253,2,1,2,3]:=by unfold Z.dataK;rw[if_neg (by decide),if_neg (by decide),if_neg (by decide),if_neg (by decide),if_neg (by decide),if_neg (by decide),if_pos rfl]
 rw[e]
 go_enter Tryz.func81,Tryz.ntmps81
 go_wp2
 go_ret
 exact⟨_,rfl,OwnB.lit w _ _ _ (Nat.le_refl _) (by simp only[vb,List.map_cons,List.map_nil];rw[u8mod k 3 (by decide) (by decide)];rfl) (by simp) 7 rfl,(Below.refl _ w).alloc (Nat.le_refl _) _⟩
set_option maxHeartbeats 1000000 in
theorem seatData_2 (k:Nat) (hk:k<256) (w:World):Calls Tryz.prog 81 #[.int .u16 2,.int .u8 (k:Int)] w fun e w' => ∃ v,e = .returned v/\OwnB w' w.heap.size v (Z.dataK 2 k)/\Below w.heap.size w w':=by
 have e:Z.dataK 2 k=N.wire ([Z.owner 8,Z.owner 1,Z.farN].getD (k % 3) []):=by unfold Z.dataK;rw[if_neg (by decide),if_neg (by decide),if_neg (by decide),if_neg (by decide),if_pos rfl]
 rw[e]
 obtain⟨j,hj⟩ : ∃ j,j=k % 3:=⟨_,rfl⟩
 have hj3:j<3:=by omega
 have hmod:((k:Int) % 3)=(j:Int):=by omega
 have hjb:(j:Int)<3:=by omega
 rw[<- hj]
 obtain⟨nm,hnm⟩ : ∃ nm,nm = [Z.owner 8,Z.owner 1,Z.farN].getD j []:=⟨_,rfl⟩
 have hns:N.Small nm:=by
  rw[hnm]
  rcases (by omega:j=0\/j=1\/j=2) with h | h | h <;> subst h
  ·exact Z.owner_small 8
  ·exact Z.owner_small 1
  ·exact Z.far_small
 rw[<- hnm]
 have h8:=owner_any 8 (by decide) w
 have h1:=fun W=>owner_any 1 (by decide) W
 have H1:=hide h1
 have HNM:=hide hnm
 have HNS:=hide hns
 clear hj h1 hnm hns
 go_enter Tryz.func81,Tryz.ntmps81
 go_wp2_with (first
  | (go_at_call 22;refine h8.mono ?_;rintro e w1 ⟨v1,rfl,hO1,hB1⟩;obtain⟨a1,c1,rfl,hS1,hn1,hc1,_⟩:=hO1.open;clear h8)
  | (go_at_call 22;refine (H1.out w1).mono ?_;rintro e w2 ⟨v2,rfl,hO2,hB2⟩;obtain⟨a2,c2,rfl,hS2,hn2,hc2,_⟩:=hO2.open;obtain⟨W,hW⟩ : ∃ W,W=(w2.alloc (.cells #[.string ⟨#[102,97,114]⟩,.string ⟨#[110,101,116]⟩] 9)).alloc (.cells #[.slice a1 (Z.owner 8).length c1,.slice a2 (Z.owner 1).length c2,.slice (some ⟨w2.heap.size,0,none⟩) 2 2] 28):=⟨_,rfl⟩;have hfar:=SlS.litm w2 Z.farN #[.string ⟨#[102,97,114]⟩,.string ⟨#[110,101,116]⟩] 9 (0,0) rfl;obtain⟨av,nv,cv,_,hsl,hln,hget⟩:=pick3 w2 _ hW j hj3 (hS1.below hB2 (Nat.le_refl _)) hS2 hfar HNM.out;have HW:=hide hW;have hb2W:Below w2.heap.size w2 W:=by rw[hW];exact ((Below.refl _ w2).alloc (Nat.le_refl _) _).alloc (by simp) _)
  | (go_at_call 47;rw[<- hW];refine (rWire_any nm av nv cv W hln hsl HNS.out).mono ?_;rintro e w3 ⟨v3,rfl,hO3,hB3⟩)
  | fail)
 go_ret
 have hz1:=hB1.size
 have hz2:=hB2.size
 have hzW:=hb2W.size
 have hb0W:Below w.heap.size w W:=hB1.trans ((hB2.trans (hb2W.mono hz2)).mono hz1)
 exact⟨v3,rfl,hO3.lower (by omega),hb0W.trans (hB3.mono (by omega))⟩
set_option maxHeartbeats 1000000 in
theorem seatData_6 (k:Nat) (hk:k<256) (w:World):Calls Tryz.prog 81 #[.int .u16 6,.int .u8 (k:Int)] w fun e w' => ∃ v,e = .returned v/\OwnB w' w.heap.size v (Z.dataK 6 k)/\Below w.heap.size w w':=by
 have e:Z.dataK 6 k=D.soaB (Z.soaK k):=by unfold Z.dataK;rw[if_neg (by decide),if_neg (by decide),if_neg (by decide),if_neg (by decide),if_neg (by decide),if_neg (by decide),if_neg (by decide),if_pos rfl]
 rw[e]
 have h1:=owner_any 1 (by decide) w
 have h2:=fun W=>owner_any 2 (by decide) W
 have H2:=hide h2
 have hm1:IntKind.u32.wrap ((k:Int)*16777216)=(((Z.soaK k).a:Nat):Int):=by
  show _=((k*16777216 % 4294967296:Nat):Int)
  rw[IntKind.wrap_u32];omega
 have HSE:Hid (10+(k:Int) % 4*20=(((Z.soaK k).e:Nat):Int)):=by
  show _=((10+k % 4*20:Nat):Int)
  omega
 obtain⟨sa,hsa⟩ : ∃ sa,sa=(Z.soaK k).a:=⟨_,rfl⟩
 rw[<- hsa] at hm1
 have HSA:=hide hsa
 clear h2 hsa
 go_enter Tryz.func81,Tryz.ntmps81
 go_wp2_with (first
  | (go_at_call 22;refine h1.mono ?_;rintro e w1 ⟨v1,rfl,hO1,hB1⟩;obtain⟨a1,c1,rfl,hS1,hn1,hc1,_⟩:=hO1.open;clear h1)
  | (go_at_call 22;refine (H2.out w1).mono ?_;rintro e w2 ⟨v2,rfl,hO2,hB2⟩;obtain⟨a2,c2,rfl,hS2,hn2,hc2,_⟩:=hO2.open)
  | (go_at_call 114;go_loud (rw[HSA.out,HSE.out]);go_loud (refine (sSoaBytes_any (Z.soaK k) a1 a2 _ c1 _ c2 w2 rfl rfl (hS1.below hB2 (Nat.le_refl _)) hS2 (Z.soaK_ok k).1 (Z.soaK_ok k).2.1 (Z.soaK_ok k).2.2.1 (show 1<4294967296 by decide) (show 2<4294967296 by decide) (show 3<4294967296 by decide) (Z.soaK_ok k).2.2.2).mono ?_);rintro e w3 ⟨v3,rfl,hO3,hB3⟩)
  | fail)
 go_ret
 have hz1:=hB1.size
 have hz2:=hB2.size
 have hb02:Below w.heap.size w w2:=hB1.trans (hB2.mono hz1)
 exact⟨v3,rfl,hO3.lower (by omega),hb02.trans (hB3.mono (by omega))⟩
set_option maxHeartbeats 1000000 in
theorem seatData_0 (t k:Nat) (hk:k<256) (hne:t≠1/\t≠28/\t≠15/\t≠16/\t≠2/\t≠5/\t≠43/\t≠6) (w:World):Calls Tryz.prog 81 #[.int .u16 (t:Int),.int .u8 (k:Int)] w fun e w' => ∃ v,e = .returned v/\OwnB w' w.heap.size v (Z.dataK t k)/\Below w.heap.size w w':=by
 obtain⟨k1,k2,k3,k4,k5,k6,k7,k8⟩:=hne
 have e:Z.dataK t k = [UInt8.ofNat k]:=by unfold Z.dataK;rw[if_neg k1,if_neg k2,if_neg k3,if_neg k4,if_neg k5,if_neg k6,if_neg k7,if_neg k8]
 rw[e]
 have g0:((t:Int) == 1)=false:=by simp;omega
 have g1:((t:Int) == 28)=false:=by simp;omega
 have g2:((t:Int) == 15)=false:=by simp;omega
 have g3:((t:Int) == 16)=false:=by simp;omega
 have g4:((t:Int) == 2)=false:=by simp;omega
 have g5:((t:Int) == 5)=false:=by simp;omega
 have g6:((t:Int) == 43)=false:=by simp;omega
 have g7:((t:Int) == 6)=false:=by simp;omega
 clear k1 k2 k3 k4 k5 k6 k7 k8
 go_enter Tryz.func81,Tryz.ntmps81
 go_wp2
 go_ret
 exact⟨_,rfl,OwnB.lit w _ _ _ (Nat.le_refl _) (by simp only[vb,List.map_cons,List.map_nil];rw[u8id k hk]) (by simp) 1 rfl,(Below.refl _ w).alloc (Nat.le_refl _) _⟩
theorem seatData_any (t k:Nat) (hk:k<256) (w:World):Calls Tryz.prog 81 #[.int .u16 (t:Int),.int .u8 (k:Int)] w fun e w' => ∃ v,e = .returned v/\OwnB w' w.heap.size v (Z.dataK t k)/\Below w.heap.size w w':=by
 by_cases e1:t=1
 ·subst e1;exact seatData_1 k hk w
 by_cases e28:t=28
 ·subst e28;exact seatData_28 k hk w
 by_cases e15:t=15
 ·subst e15;exact seatData_15 k hk w
 by_cases e16:t=16
 ·subst e16;exact seatData_16 k hk w
 by_cases e2:t=2
 ·subst e2;exact seatData_2 k hk w
 by_cases e5:t=5
 ·subst e5;exact seatData_5 k hk w
 by_cases e43:t=43
 ·subst e43;exact seatData_43 k hk w
 by_cases e6:t=6
 ·subst e6;exact seatData_6 k hk w
 exact seatData_0 t k hk ⟨e1,e28,e15,e16,e2,e5,e43,e6⟩ w
end Go.Proofs.YtmbcegljmhcdeaaGreat
namespace Go.Proofs
open Go.Shelf
def Tryz.sortSA_ren:Go.Shelf.Ren:=⟨fun | 6=>127 | 8=>134 | 9=>162 | 19=>172 | 20=>173 | 21=>187 | 22=>188 | 23=>189 | 24=>190 | 25=>191 | 26=>192 | 27=>193 | 28=>194 | 29=>195 | 36=>211 | 31=>197 | 32=>198 | 37=>212 | 38=>213 | 39=>214 | 41=>220 | n=>n,fun | 27=>27 | 29=>9 | 3=>3 | 32=>131 | 26=>27 | 0=>0 | 44=>35 | 46=>230 | 4=>4 | 36=>221 | 35=>220 | 41=>226 | 5=>5 | 9=>9 | 53=>246 | 57=>250 | 63=>264 | 64=>265 | n=>n,fun | n=>n⟩
theorem Tryz.sortSA:Go.Proofs.SlLaysM.n6 Tryz.prog Tryz.sortSA_ren := {
 mixed:=by kernel_rfl
 f6:=⟨Tryz.f127.name,by decide,Tryz.func127.trans (congrArg some (by kernel_rfl))⟩
 f8:=Tryz.func134.trans (congrArg some (by kernel_rfl))
 f9:=⟨Tryz.f162.name,by decide,Tryz.func162.trans (congrArg some (by kernel_rfl))⟩
 f19:=Tryz.func172.trans (congrArg some (by kernel_rfl))
 f20:=Tryz.func173.trans (congrArg some (by kernel_rfl))
 f21:=⟨Tryz.f187.name,by decide,Tryz.func187.trans (congrArg some (by kernel_rfl))⟩
 f22:=⟨Tryz.f188.name,by decide,Tryz.func188.trans (congrArg some (by kernel_rfl))⟩
 f23:=⟨Tryz.f189.name,by decide,Tryz.func189.trans (congrArg some (by kernel_rfl))⟩
 f24:=⟨Tryz.f190.name,by decide,Tryz.func190.trans (congrArg some (by kernel_rfl))⟩
 f25:=⟨Tryz.f191.name,by decide,Tryz.func191.trans (congrArg some (by kernel_rfl))⟩
 f26:=⟨Tryz.f192.name,by decide,Tryz.func192.trans (congrArg some (by kernel_rfl))⟩
 f27:=⟨Tryz.f193.name,by decide,Tryz.func193.trans (congrArg some (by kernel_rfl))⟩
 f28:=⟨Tryz.f194.name,by decide,Tryz.func194.trans (congrArg some (by kernel_rfl))⟩
 f29:=⟨Tryz.f195.name,by decide,Tryz.func195.trans (congrArg some (by kernel_rfl))⟩
 f31:=Tryz.func197.trans (congrArg some (by kernel_rfl))
 f32:=Tryz.func198.trans (congrArg some (by kernel_rfl))
 f36:=⟨Tryz.f211.name,by decide,Tryz.func211.trans (congrArg some (by kernel_rfl))⟩
 f37:=⟨Tryz.f212.name,by decide,Tryz.func212.trans (congrArg some (by kernel_rfl))⟩
 f38:=⟨Tryz.f213.name,by decide,Tryz.func213.trans (congrArg some (by kernel_rfl))⟩
 f39:=⟨Tryz.f214.name,by decide,Tryz.func214.trans (congrArg some (by kernel_rfl))⟩
 f41:=⟨Tryz.f220.name,by decide,Tryz.func220.trans (congrArg some (by kernel_rfl))⟩
 t0:=Tryz.underlying0
 a0:=Tryz.isAgg0
 z0:=Tryz.sizeOf0
 v0:=Tryz.zeroValue0
 t3:=Tryz.underlying3
 a3:=Tryz.isAgg3
 z3:=Tryz.sizeOf3
 v3:=Tryz.zeroValue3
 t4:=Tryz.underlying4
 a4:=Tryz.isAgg4
 z4:=Tryz.sizeOf4
 v4:=Tryz.zeroValue4
 t5:=Tryz.underlying5
 a5:=Tryz.isAgg5
 z5:=Tryz.sizeOf5
 v5:=Tryz.zeroValue5
 t9:=Tryz.underlying9
 a9:=Tryz.isAgg9
 z9:=Tryz.sizeOf9
 v9:=Tryz.zeroValue9
 t26:=Tryz.underlying27
 a26:=Tryz.isAgg27
 z26:=Tryz.sizeOf27
 v26:=Tryz.zeroValue27
 t27:=Tryz.underlying27
 a27:=Tryz.isAgg27
 z27:=Tryz.sizeOf27
 v27:=Tryz.zeroValue27
 t29:=Tryz.underlying9
 a29:=Tryz.isAgg9
 z29:=Tryz.sizeOf9
 v29:=Tryz.zeroValue9
 t32:=Tryz.underlying131
 a32:=Tryz.isAgg131
 z32:=Tryz.sizeOf131
 v32:=Tryz.zeroValue131
 t35:=Tryz.underlying220
 a35:=Tryz.isAgg220
 z35:=Tryz.sizeOf220
 v35:=Tryz.zeroValue220
 t36:=Tryz.underlying221
 a36:=Tryz.isAgg221
 z36:=Tryz.sizeOf221
 v36:=Tryz.zeroValue221
 t41:=Tryz.underlying226
 a41:=Tryz.isAgg226
 z41:=Tryz.sizeOf226
 v41:=Tryz.zeroValue226
 t44:=Tryz.underlying35
 a44:=Tryz.isAgg35
 z44:=Tryz.sizeOf35
 v44:=Tryz.zeroValue35
 t46:=Tryz.underlying230
 a46:=Tryz.isAgg230
 z46:=Tryz.sizeOf230
 v46:=Tryz.zeroValue230
 t53:=Tryz.underlying246
 a53:=Tryz.isAgg246
 z53:=Tryz.sizeOf246
 v53:=Tryz.zeroValue246
 t57:=Tryz.underlying250
 a57:=Tryz.isAgg250
 z57:=Tryz.sizeOf250
 v57:=Tryz.zeroValue250
 t63:=Tryz.underlying264
 a63:=Tryz.isAgg264
 z63:=Tryz.sizeOf264
 v63:=Tryz.zeroValue264
 t64:=Tryz.underlying265
 a64:=Tryz.isAgg265
 z64:=Tryz.sizeOf265
 v64:=Tryz.zeroValue265 }
def Tryz.keysNA_ren:Go.Shelf.Ren:=⟨fun | 7=>97 | 10=>128 | n=>n,fun | 23=>105 | 26=>9 | 3=>91 | 28=>146 | 0=>0 | 27=>145 | 33=>190 | 4=>4 | n=>n,fun | n=>n⟩
theorem Tryz.keysNA:Go.Proofs.SlLaysZ.n7 Tryz.prog Tryz.keysNA_ren := {
 mixed:=by kernel_rfl
 f7:=⟨Tryz.f97.name,by decide,Tryz.func97.trans (congrArg some (by kernel_rfl))⟩
 f10:=⟨Tryz.f128.name,by decide,Tryz.func128.trans (congrArg some (by kernel_rfl))⟩
 t0:=Tryz.underlying0
 a0:=Tryz.isAgg0
 z0:=Tryz.sizeOf0
 v0:=Tryz.zeroValue0
 t4:=Tryz.underlying4
 a4:=Tryz.isAgg4
 z4:=Tryz.sizeOf4
 v4:=Tryz.zeroValue4
 t23:=Tryz.underlying105
 a23:=Tryz.isAgg105
 z23:=Tryz.sizeOf105
 v23:=Tryz.zeroValue105
 t26:=Tryz.underlying9
 a26:=Tryz.isAgg9
 z26:=Tryz.sizeOf9
 v26:=Tryz.zeroValue9
 t27:=Tryz.underlying145
 a27:=Tryz.isAgg145
 z27:=Tryz.sizeOf145
 v27:=Tryz.zeroValue145
 t28:=Tryz.underlying146
 a28:=Tryz.isAgg146
 z28:=Tryz.sizeOf146
 v28:=Tryz.zeroValue146
 t33:=Tryz.underlying190
 a33:=Tryz.isAgg190
 z33:=Tryz.sizeOf190
 v33:=Tryz.zeroValue190 }
def Tryz.keysDA_ren:Go.Shelf.Ren:=⟨fun | 7=>99 | 10=>130 | n=>n,fun | 23=>100 | 26=>9 | 3=>37 | 28=>146 | 0=>0 | 27=>145 | 33=>190 | 4=>4 | n=>n,fun | n=>n⟩
theorem Tryz.keysDA:Go.Proofs.SlLaysZ.n7 Tryz.prog Tryz.keysDA_ren := {
 mixed:=by kernel_rfl
 f7:=⟨Tryz.f99.name,by decide,Tryz.func99.trans (congrArg some (by kernel_rfl))⟩
 f10:=⟨Tryz.f130.name,by decide,Tryz.func130.trans (congrArg some (by kernel_rfl))⟩
 t0:=Tryz.underlying0
 a0:=Tryz.isAgg0
 z0:=Tryz.sizeOf0
 v0:=Tryz.zeroValue0
 t4:=Tryz.underlying4
 a4:=Tryz.isAgg4
 z4:=Tryz.sizeOf4
 v4:=Tryz.zeroValue4
 t23:=Tryz.underlying100
 a23:=Tryz.isAgg100
 z23:=Tryz.sizeOf100
 v23:=Tryz.zeroValue100
 t26:=Tryz.underlying9
 a26:=Tryz.isAgg9
 z26:=Tryz.sizeOf9
 v26:=Tryz.zeroValue9
 t27:=Tryz.underlying145
 a27:=Tryz.isAgg145
 z27:=Tryz.sizeOf145
 v27:=Tryz.zeroValue145
 t28:=Tryz.underlying146
 a28:=Tryz.isAgg146
 z28:=Tryz.sizeOf146
 v28:=Tryz.zeroValue146
 t33:=Tryz.underlying190
 a33:=Tryz.isAgg190
 z33:=Tryz.sizeOf190
 v33:=Tryz.zeroValue190 }
def Tryz.sortedSA_ren:Go.Shelf.Ren:=⟨fun | 6=>96 | 8=>126 | 9=>127 | 11=>161 | 13=>134 | 12=>162 | 23=>172 | 24=>173 | 14=>187 | 15=>188 | 16=>189 | 17=>190 | 18=>191 | 19=>192 | 20=>193 | 21=>194 | 22=>195 | 25=>211 | 26=>197 | 27=>198 | 28=>212 | 29=>213 | 30=>214 | 31=>220 | n=>n,fun | 26=>9 | 28=>146 | 24=>27 | 0=>0 | 3=>3 | 37=>131 | 48=>35 | 50=>230 | 4=>4 | 40=>221 | 39=>220 | 45=>226 | 5=>5 | 9=>9 | 51=>246 | 55=>250 | 57=>264 | 58=>265 | 33=>190 | n=>n,fun | n=>n⟩
theorem Tryz.sortedSA:Go.Proofs.SlLaysZ.n6 Tryz.prog Tryz.sortedSA_ren := {
 mixed:=by kernel_rfl
 f6:=⟨Tryz.f96.name,by decide,Tryz.func96.trans (congrArg some (by kernel_rfl))⟩
 f8:=⟨Tryz.f126.name,by decide,Tryz.func126.trans (congrArg some (by kernel_rfl))⟩
 f11:=⟨Tryz.f161.name,by decide,Tryz.func161.trans (congrArg some (by kernel_rfl))⟩
 t0:=Tryz.underlying0
 a0:=Tryz.isAgg0
 z0:=Tryz.sizeOf0
 v0:=Tryz.zeroValue0
 t24:=Tryz.underlying27
 a24:=Tryz.isAgg27
 z24:=Tryz.sizeOf27
 v24:=Tryz.zeroValue27
 t26:=Tryz.underlying9
 a26:=Tryz.isAgg9
 z26:=Tryz.sizeOf9
 v26:=Tryz.zeroValue9
 t28:=Tryz.underlying146
 a28:=Tryz.isAgg146
 z28:=Tryz.sizeOf146
 v28:=Tryz.zeroValue146
 i26:=by kernel_rfl }
def Tryz.nCloneA_ren:Go.Shelf.Ren:=⟨fun | 41=>56 | n=>n,fun | 22=>28 | 23=>9 | 4=>4 | n=>n,fun | n=>n⟩
theorem Tryz.nCloneA:Go.Proofs.SlLaysE0.n41 Tryz.prog Tryz.nCloneA_ren := {
 mixed:=by kernel_rfl
 f41:=⟨Tryz.f56.name,by decide,Tryz.func56.trans (congrArg some (by kernel_rfl))⟩
 t4:=Tryz.underlying4
 a4:=Tryz.isAgg4
 z4:=Tryz.sizeOf4
 v4:=Tryz.zeroValue4
 t22:=Tryz.underlying28
 a22:=Tryz.isAgg28
 z22:=Tryz.sizeOf28
 v22:=Tryz.zeroValue28 }
end Go.Proofs
