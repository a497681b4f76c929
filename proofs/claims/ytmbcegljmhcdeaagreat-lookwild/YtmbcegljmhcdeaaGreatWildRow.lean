/- For every input the law LookWild returns true and leaves its arguments as they were; no condition. -/
import Derived.Test.YtmbcegljmhcdeaaGreatArgU
namespace Go.Proofs.YtmbcegljmhcdeaaGreat.lookWild
set_option maxRecDepth 5000
open Go.ChangeShapes Go.WideShapes Go.ChangeAt Go.WideMaps Go.WideElems Go.RowKit
set_option maxRecDepth 100000 in
theorem lifted (os:Os) (started:os.Started) (H:Type) (enc:TypeId × Value->H) :
 ReturnsInHanded {} Tryz.checked os 9 .any (Rows.lookWildSpec.pre6 enc Tryz.prog Tryz.f9 Rows.lookWildRow.domain false) (Rows.lookWildSpec.post enc Tryz.prog Tryz.f9 false true false false):=by
 refine returnsInHanded_of_change (C:=Tryz.checked) ownK started (by kernel_rfl) Tryz.func9
  (ChangeSpec.witness6 (enc:=enc) (C:=Tryz.checked) false ⟨#[],#[.slice none 0 0,.slice none 0 0], []⟩ 8 (by kernel_rfl) (by kernel_rfl) (by kernel_rfl) (by kernel_rfl)) ?_
 intro W base args ds gs before hval0 hW _ _
 have hval : ∀ (j:Nat) t v,Tryz.f9.params[j]?=some t->args[j]?=some v->Value.okWide Tryz.prog W .any base t v:=hval0
 have hW':=hW
 obtain⟨p,q,hA0,hV,rfl,hfz,hnd⟩:=hW
 have hA:DataW.TrodAll enc Tryz.prog W 0 (fun _=>true) true Tryz.f9.params.toList args.toList ds p:=hA0
 rw[Tryz.params9] at hA hval
 obtain⟨v0,vs0,d0,ds0,p0,q0,hargs,rfl,rfl,h0,r0⟩:=trodAll_cons hA
 obtain⟨v1,vs1,d1,ds1,p1,q1,rfl,rfl,rfl,h1,r1⟩:=trodAll_cons r0
 obtain⟨rfl,rfl,rfl⟩:=trodAll_nil r1
 obtain rfl:args = #[v0,v1]:=by cases args;simp_all
 obtain⟨rfl,rfl⟩:=trodVars_none hV
 obtain⟨a0,l0,c0,rfl⟩:=okWide_slice Tryz.underlying37 (hval 0 37 v0 rfl rfl)
 obtain⟨a1,l1,c1,rfl⟩:=okWide_slice Tryz.underlying37 (hval 1 37 v1 rfl rfl)
 clear hA0 hval0
 have hlt0 : ∀ x∈p0,x.block<W.heap.size:=fun x hx=>by simpa using hW'.lt x (by simp[hx])
 have ha0 : ∀ (W':World),Below W.heap.size W W'->DataW.Trod enc Tryz.prog W' 0 (fun b=>decide (b<W.heap.size)) true 37 (.slice a0 l0 c0) d0 p0 :=
  fun W' hn=>Below.trod laidOutT (by kernel_rfl) (of_decide_eq_true (by kernel_rfl)) h0 hn hlt0
 obtain⟨n0,hn0,hs0,hnil0,hlc0,hcm0⟩:=open_bytes h0
 have hlt1 : ∀ x∈p1,x.block<W.heap.size:=fun x hx=>by simpa using hW'.lt x (by simp[hx])
 have ha1 : ∀ (W':World),Below W.heap.size W W'->DataW.Trod enc Tryz.prog W' 0 (fun b=>decide (b<W.heap.size)) true 37 (.slice a1 l1 c1) d1 p1 :=
  fun W' hn=>Below.trod laidOutT (by kernel_rfl) (of_decide_eq_true (by kernel_rfl)) h1 hn hlt1
 obtain⟨n1,hn1,hs1,hnil1,hlc1,hcm1⟩:=open_bytes h1
 have hwalk:Calls Tryz.prog 9 #[.slice a0 l0 c0,.slice a1 l1 c1] W fun e w'=>e = .returned (.bool true)/\Below W.heap.size W w':=by
  exact lookWild_walk n0 a0 l0 c0 n1 a1 l1 c1 W (hide hn0) hs0 (by unfold maxLen at hcm0;omega) (hide hn1) hs1 (by unfold maxLen at hcm1;omega)
 refine hwalk.mono fun e W' ⟨he,hb⟩=>?_
 subst he
 refine⟨_,rfl,_,_,_, [],(p0++(p1 ++ [])), [],by simpa using hW',?_,?_,?_,hb.frame _,fun h=>by cases h⟩
 ·exact trodAll_cons_mk (shut_bool Tryz.underlying4 _) trodAll_mk0
 ·exact trodAll_cons_mk (ha0 _ hb) (trodAll_cons_mk (ha1 _ hb) trodAll_mk0)
 ·rfl
theorem over:Rows.lookWildRow.holds Tryz.pinned (OpenSpec.ofChange Rows.lookWildSpec) :=
 OpenClaim.holds_of_wide 9 Tryz.f9 rfl rfl rfl rfl rfl rfl rfl ⟨rfl,rfl,rfl,rfl,rfl⟩ rfl rfl rfl rfl rfl (by kernel_rfl) Tryz.func9 (by kernel_rfl)
  (of_decide_eq_true (by kernel_rfl)) (by unfold Func.isWrapper;first | (rw[if_pos (by decide +kernel)];kernel_rfl) | (rw[if_neg (by decide +kernel)];exact⟨rfl,rfl⟩))
  (fun os started H enc _=>lifted os started H enc)
end Go.Proofs.YtmbcegljmhcdeaaGreat.lookWild
namespace Go.Proofs.YtmbcegljmhcdeaaGreat
theorem lookWild_holds:Rows.LookWildSaid:=lookWild.over
#print axioms lookWild_holds
end Go.Proofs.YtmbcegljmhcdeaaGreat
