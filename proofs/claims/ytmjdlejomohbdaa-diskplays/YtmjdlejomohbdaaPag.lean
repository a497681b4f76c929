/- What the model and the disk say, step by step, plain. -/
import Derived.Test.YtmjdlejomohbdaaPtl
namespace Go.Proofs.Ytmjdlejomohbdaa
open Go.RowKit
section
variable {s : K.St} {L O : Nat → List UInt8} {Fh : Nat → Bool} {dead armed : Bool} {mn : Int}
set_option maxRecDepth 5000 in
theorem Agr.can (h : Agr s L O Fh dead armed mn) : (!(armed && mn == 0)) = s.can := by
  unfold K.St.can
  rw [h.a]
  cases hc : s.cut
  · rfl
  · rw [h.m hc]
    by_cases e : s.left = 0
    · simp [e]
    · have e1 : ((s.left : Int) == 0) = false := by simp; exact e
      have e2 : (s.left == 0) = false := by simpa using e
      rw [e1, e2]
set_option maxRecDepth 5000 in
theorem rd_spent (s : K.St) (i : Nat) : s.spent.rd i = s.rd i := by unfold K.St.rd K.St.old; rw [spent_un, spent_su, spent_sz]
set_option maxRecDepth 5000 in
theorem old_spent (s : K.St) (i : Nat) : s.spent.old i = s.old i := by unfold K.St.old; rw [spent_su, spent_sz]
set_option maxRecDepth 5000 in
theorem fr_spent (s : K.St) (i : Nat) : K.fr s.spent i = K.fr s i := by unfold K.fr; rw [spent_un]
set_option maxRecDepth 5000 in
theorem cut_spent (s : K.St) : s.spent.cut = s.cut := by unfold K.St.spent; split <;> rfl
set_option maxRecDepth 5000 in
theorem Agr.spent (h : Agr s L O Fh dead armed mn) : Agr s.spent L O Fh (dead || (armed && mn == 0)) armed (mdec armed mn) := by
  have hcan := h.can
  refine ⟨fun i hi => ?_, fun i hi => ?_, fun i hi => ?_, ?_, ?_, fun hc => ?_, ?_, ?_⟩
  · rw [spent_n] at hi; rw [rd_spent]; exact h.l i hi
  · rw [spent_n] at hi; rw [old_spent]; exact h.o i hi
  · rw [spent_n] at hi; rw [fr_spent]; exact h.f i hi
  · unfold K.St.spent
    rw [← hcan, h.d]
    cases armed && mn == 0 <;> simp
  · rw [cut_spent]; exact h.a
  · rw [cut_spent] at hc
    have hm := h.m hc
    have ha := h.a
    rw [hc] at ha
    unfold K.St.spent mdec
    rw [← hcan, ha, hm]
    by_cases e : s.left = 0
    · simp [e]
    · simp [e, hc]
      omega
  · unfold mdec
    have := h.b0
    split
    · rename_i hq
      simp at hq
      have := hq.2
      omega
    · exact this
  · unfold mdec
    have := h.b1
    split
    · omega
    · exact this
set_option maxRecDepth 5000 in
theorem Agr.synced (h : Agr s L O Fh dead armed mn) (hc : s.can = true) (hd : dead = false) : Agr s.synced L L (fun _ => false) false armed (mdec armed mn) := by
  have h1 := h.spent
  have hcan := h.can
  rw [hc] at hcan
  have hz : (armed && mn == 0) = false := by
    cases hq : (armed && mn == 0)
    · rfl
    · rw [hq] at hcan; cases hcan
  rw [hz, hd] at h1
  have e1 : ∀ i, s.synced.old i = s.rd i := fun i => by
    show (((s.un i).orElse fun _ => s.su i).getD (List.replicate s.spent.sz 0)) = (s.un i).getD ((s.su i).getD (List.replicate s.sz 0))
    rw [spent_sz]
    cases s.un i <;> rfl
  have e2 : s.synced.n = s.n := spent_n s
  refine ⟨fun i hi => ?_, fun i hi => ?_, fun _ _ => rfl, h1.d, h1.a, h1.m, h1.b0, h1.b1⟩
  · rw [e2] at hi
    show L i = s.synced.old i
    rw [e1]; exact h.l i hi
  · rw [e2] at hi
    rw [e1]; exact h.l i hi
set_option maxRecDepth 5000 in
theorem Agr.put (h : Agr s L O Fh dead armed mn) (hc : s.can = true) (hd : dead = false) (p : Nat) (l : List UInt8) : Agr (s.put p l) (fput L p l) O (fput Fh p true) false armed (mdec armed mn) := by
  have h1 := h.spent
  have hcan := h.can
  rw [hc] at hcan
  have hz : (armed && mn == 0) = false := by
    cases hq : (armed && mn == 0)
    · rfl
    · rw [hq] at hcan; cases hcan
  rw [hz, hd] at h1
  have e2 : (s.put p l).n = s.n := spent_n s
  have e3 : ∀ i, (s.put p l).old i = s.old i := fun i => old_spent s i
  refine ⟨fun i hi => ?_, fun i hi => ?_, fun i hi => ?_, h1.d, h1.a, h1.m, h1.b0, h1.b1⟩
  · rw [e2] at hi
    show fput L p l i = ((K.upd s.un p l) i).getD ((s.put p l).old i)
    unfold fput K.upd
    by_cases e : i = p
    · rw [if_pos e, if_pos e]; rfl
    · rw [if_neg e, if_neg e, e3]; exact h.l i hi
  · rw [e2] at hi
    rw [e3]; exact h.o i hi
  · rw [e2] at hi
    show fput Fh p true i = ((K.upd s.un p l) i).isSome
    unfold fput K.upd
    by_cases e : i = p
    · rw [if_pos e, if_pos e]; rfl
    · rw [if_neg e, if_neg e]; exact h.f i hi
set_option maxRecDepth 5000 in
theorem Agr.congr {L' O' : Nat → List UInt8} {F' : Nat → Bool} (h : Agr s L O Fh dead armed mn) (h1 : ∀ i, i < s.n → L' i = L i) (h2 : ∀ i, i < s.n → O' i = O i) (h3 : ∀ i, i < s.n → F' i = Fh i) : Agr s L' O' F' dead armed mn :=
  ⟨fun i hi => (h1 i hi).trans (h.l i hi), fun i hi => (h2 i hi).trans (h.o i hi), fun i hi => (h3 i hi).trans (h.f i hi), h.d, h.a, h.m, h.b0, h.b1⟩
/- behind a crash -/
def crL (s : K.St) (kp : Nat) (i : Nat) : List UInt8 := if K.fr s i && !K.bit kp (K.cnt (K.fr s) i) then s.old i else s.rd i
set_option maxRecDepth 5000 in
theorem crL_is (s : K.St) (kp i : Nat) : (s.crashed kp).old i = crL s kp i := by
  show (if K.fr s i && K.bit kp (K.cnt (K.fr s) i) then s.un i else s.su i).getD (List.replicate s.sz 0) = _
  unfold crL K.St.rd K.St.old
  cases hf : K.fr s i
  · have hu : s.un i = none := by
      unfold K.fr at hf
      cases hq : s.un i
      · rfl
      · rw [hq] at hf; cases hf
    simp [hu]
  · cases K.bit kp (K.cnt (K.fr s) i)
    · simp
    · unfold K.fr at hf
      cases hq : s.un i
      · rw [hq] at hf; cases hf
      · simp
set_option maxRecDepth 5000 in
theorem Agr.crashed (h : Agr s L O Fh dead armed mn) (kp : Nat) {L' : Nat → List UInt8} (hL : ∀ i, i < s.n → L' i = crL s kp i) : Agr (s.crashed kp) L' L' (fun _ => false) false false mn :=
  ⟨fun i hi => (by rw [hL i hi]; exact (crL_is s kp i).symm), fun i hi => (by rw [hL i hi]; exact (crL_is s kp i).symm), fun _ _ => rfl, rfl, rfl, fun e => (by cases e), h.b0, h.b1⟩
end
end Go.Proofs.Ytmjdlejomohbdaa
