/- signetlaw5.DataNames: the walk. -/
import Derived.Test.YtagopkmehlpjpaaWhlS
import Derived.Test.YtagopkmehlpjpaaRefG
import Derived.Test.YtagopkmehlpjpaaMk
namespace Go.Proofs.Ytagopkmehlpjpaa
open Go.RowKit
namespace D
set_option maxRecDepth 5000 in
theorem right_good {n : List (List UInt8)} (h : Right n) : Good n := ⟨fun e => (h.2.1 [] e).1 rfl, fun l hl => (h.2.1 l hl).2, h.2.2⟩
set_option maxRecDepth 5000 in
theorem opn_body : ∀ (n : List (List UInt8)), [] ∉ n → (∀ l ∈ n, l.length ≤ 63) → N.opn (N.body n) = none
  | [], _, _ => by show N.opn [] = none; exact N.opn_nil
  | l :: n, h0, h1 => by
    have hl := h1 l (by simp)
    have hl0 : l ≠ [] := fun e => h0 (by rw [e]; simp)
    have hk : (UInt8.ofNat l.length).toNat = l.length := by rw [UInt8.toNat_ofNat']; omega
    have hp : 0 < l.length := List.length_pos_iff.2 hl0
    have e : N.body (l :: n) = UInt8.ofNat l.length :: (l ++ N.body n) := by simp [N.body]
    rw [e, N.opn, hk, if_neg (by omega), if_neg (by rw [List.length_append]; omega), List.drop_left, opn_body n (fun e => h0 (by simp [e])) (fun x hx => h1 x (by simp [hx]))]
    rfl
set_option maxRecDepth 5000 in
theorem tgt_ns {n : List (List UInt8)} (h : Good n) : full (N.wire n) (tgt 2 (N.wire n)) = some n := by
  have e := nm_fwd n [] h
  rw [List.append_nil] at e
  exact full_some (by rw [N.wire_len]; have := h.2.2; omega) e
set_option maxRecDepth 5000 in
theorem tgt_mx {n : List (List UInt8)} (h : Good n) (p : Nat) : full (p16 p ++ N.wire n) (tgt 15 (p16 p ++ N.wire n)) = some n := by
  have e := nm_fwd n [] h
  rw [List.append_nil] at e
  refine full_some (by rw [List.length_append, N.wire_len, p16_len]; have := h.2.2; omega) ?_
  show ((by_ 2 (p16 p ++ N.wire n)).bind fun q => nm q.2) = _
  rw [by_fwd _ _ 2 rfl]
  exact e
set_option maxRecDepth 5000 in
theorem soa_zeros {n m : List (List UInt8)} (h : Good n) (h' : Good m) : full (N.wire n ++ N.wire m ++ List.replicate 20 0) (soa (N.wire n ++ N.wire m ++ List.replicate 20 0)) = some ⟨n, m, 0, 0, 0, 0, 0⟩ := by
  have e := soa_fwd ⟨n, m, 0, 0, 0, 0, 0⟩ [] ⟨h, h', Nat.zero_lt_succ _, Nat.zero_lt_succ _, Nat.zero_lt_succ _, Nat.zero_lt_succ _, Nat.zero_lt_succ _⟩
  rw [List.append_nil] at e
  have e2 : soaB ⟨n, m, 0, 0, 0, 0, 0⟩ = N.wire n ++ N.wire m ++ List.replicate 20 0 := by
    unfold soaB
    simp only [List.append_assoc]
    rfl
  rw [e2] at e
  exact full_some (by simp only [List.length_append, N.wire_len, List.length_replicate]; have := h.2.2; have := h'.2.2; omega) e
set_option maxRecDepth 5000 in
theorem code_ns {n : List (List UInt8)} (h : Good n) (b : UInt8) : codeOf (full (N.wire n ++ [b]) (can 2 (N.wire n ++ [b]))) = 50 := by
  have e : can 2 (N.wire n ++ [b]) = some (N.wire (N.lowN n), [b]) := by
    show small _ = _
    unfold small
    rw [nm_fwd n [b] h]; rfl
  rw [full_more e (by simp)]; rfl
set_option maxRecDepth 5000 in
theorem code_cname {n : List (List UInt8)} (h : Good n) : codeOf (full (N.wire n) (can 5 (N.wire n))) = 0 := by
  have e := nm_fwd n [] h
  rw [List.append_nil] at e
  have e : can 5 (N.wire n) = some (N.wire (N.lowN n), []) := by
    show small _ = _
    unfold small
    rw [e]; rfl
  rw [full_some (by rw [N.wire_len]; have := h.2.2; omega) e]; rfl
set_option maxRecDepth 5000 in
theorem code_mx {n : List (List UInt8)} (h : Good n) (p : Nat) : codeOf (full (p16 p ++ N.body n) (can 15 (p16 p ++ N.body n))) = 50 := by
  have e : can 15 (p16 p ++ N.body n) = none := by
    show ((by_ 2 (p16 p ++ N.body n)).bind fun p => (small p.2).map fun q => (p.1 ++ q.1, q.2)) = none
    rw [by_fwd _ _ 2 rfl]
    simp only [Option.bind_some]
    unfold small nm
    rw [opn_body n h.1 h.2.1]; rfl
  rw [full_none e]; rfl
set_option maxRecDepth 5000 in
theorem code_soa {n m : List (List UInt8)} (h : Good n) (h' : Good m) (b : UInt8) : codeOf (full (N.wire n ++ N.wire m ++ List.replicate 20 0 ++ [b]) (can 6 (N.wire n ++ N.wire m ++ List.replicate 20 0 ++ [b]))) = 50 := by
  have e := soa_fwd ⟨n, m, 0, 0, 0, 0, 0⟩ [b] ⟨h, h', Nat.zero_lt_succ _, Nat.zero_lt_succ _, Nat.zero_lt_succ _, Nat.zero_lt_succ _, Nat.zero_lt_succ _⟩
  have e2 : soaB ⟨n, m, 0, 0, 0, 0, 0⟩ = N.wire n ++ N.wire m ++ List.replicate 20 0 := by
    unfold soaB
    simp only [List.append_assoc]
    rfl
  rw [e2] at e
  have e3 : can 6 (N.wire n ++ N.wire m ++ List.replicate 20 0 ++ [b]) = some (soaB (Soa.low ⟨n, m, 0, 0, 0, 0, 0⟩), [b]) := by
    show (soa _).map _ = _
    rw [e]; rfl
  rw [full_more e3 (by simp)]; rfl
end D
set_option maxRecDepth 5000 in
theorem OwnB.keep {w w' : World} {base : Nat} {v : Value} {l : List UInt8} {row : Option Nat} (h : OwnB w base v l) (hg : w.grownBy w' row) (hne : ∀ g, some g = v.ownBlock → some g ≠ row) : OwnB w' base v l := by
  have h0 : w.ownsRow base 5 1 v l.length (vb l) := h
  refine ⟨h0.1, ?_⟩
  rcases h0.2 with h1 | ⟨g, cap, cur, e, h1, h2, h3⟩
  · exact Or.inl h1
  · exact Or.inr ⟨g, cap, cur, e, h1, by rw [hg.block g (Array.getElem?_eq_some_iff.1 h2).1 (hne g (by rw [e]; rfl))]; exact h2, h3⟩
set_option maxRecDepth 5000 in
theorem wpList_append_Bg {w : World} {ops : Array Oper} {rest : List Oper} {o : Oper} {a : Act} {Q : Exit → Act → World → Prop} (s x : Operand)
    (ho : o.op = .call { callee := .builtin .append, args := #[s, x], argTypes := #[23, 23] }) (hgd : Region.wanted o (yielded ops a.tmps) = true) (base : Nat) (v : Value) (l : List UInt8) (hs : a.eval s = v) (hown : OwnB w base v l)
    (ad : Addr) (m c : Nat) (l2 : List UInt8) (hx : a.eval x = .slice (some ad) m c) (hm : l2.length = m) (hsrc : SlL w (some ad) l2) (hbound : l.length + m ≤ 1099511627776) (hbase : base ≤ w.heap.size)
    (h : ∀ v' w', OwnB w' base v' (l ++ l2) → w.grownBy w' v.ownBlock → wpList Try.prog ops Q rest (a.put o.dst v') w') : wpList Try.prog ops Q (o :: rest) a w :=
  wpList_step fun K hK => by
    rw [if_pos hgd]
    obtain ⟨v', w', hr, h2, h3⟩ := run_append_B o.type hown ad m c l2 hm hsrc hbound hbase
    unfold Oper.wp execOp
    simp only [ho, resolve, invoke, builtin, Sem.run_bind, Sem.run_pure, Result.andThen_ok, List.map_toArray, List.map_cons, List.map_nil, hs, hx, hr]
    exact hK _ _ (h v' w' h2 h3)
set_option maxHeartbeats 3200000 in
set_option maxRecDepth 5000 in
theorem names_walk (n m : List (List UInt8)) (ao bo : Option Addr) (la ca lb cb p : Nat) (bh : UInt8) (w : World) (hla : Hid (n.length = la)) (hlb : Hid (m.length = lb)) (hsa : SlS w ao n) (hsb : SlS w bo m) (hma : la ≤ 9223372036854775807) (hmb : lb ≤ 9223372036854775807) (hp : p < 65536) :
    Calls Try.prog 8 #[.slice ao la ca, .slice bo lb cb, .int .u16 (p : Int), .int .u8 (bh.toNat : Int)] w fun e w' => e = .returned (.bool true) ∧ Below w.heap.size w w' := by
  have SA := hide hsa
  have SB := hide hsb
  clear hsa hsb
  go_enter Try.func8, Try.ntmps8
  go_wp2_with fail
  refine (known_any _).mono ?_
  rintro e w1 ⟨rfl, hb1⟩
  have B1 := hide hb1
  clear hb1
  go_wp2_with fail
  refine (right_any n ao la ca _ hla (by exact SA.out.below B1.out (Nat.le_refl _)) hma).mono ?_
  rintro e w1' ⟨t, rfl, hr, rfl⟩
  cases t with
  | false =>
    go_wp2
    go_ret
    exact ⟨rfl, B1.out⟩
  | true =>
  have GN := hide (D.right_good (hr rfl))
  clear hr
  go_wp2_with fail
  refine (right_any m bo lb cb _ hlb (by exact SB.out.below B1.out (Nat.le_refl _)) hmb).mono ?_
  rintro e w1'' ⟨t, rfl, hr, rfl⟩
  cases t with
  | false =>
    go_wp2
    go_ret
    exact ⟨rfl, B1.out⟩
  | true =>
  have GM := hide (D.right_good (hr rfl))
  clear hr
  have z1 := B1.out.size
  have LN : Hid ((N.wire n).length ≤ 255) := by show _ ≤ _; rw [N.wire_len]; exact GN.out.2.2
  have LM : Hid ((N.wire m).length ≤ 255) := by show _ ≤ _; rw [N.wire_len]; exact GM.out.2.2
  have LP : Hid (0 < (N.wire n).length) := by show _ < _; simp [N.wire]
  go_wp2_with fail
  refine (rWire_any n ao la ca _ hla (by exact SA.out.below B1.out (Nat.le_refl _)) (hide (good_small GN.out))).mono ?_
  rintro e w2 ⟨v2, rfl, hO2, hb2⟩
  obtain ⟨g2, c2, rfl, hg2, hgc2, hcm2, hgl2, _⟩ := hO2.form LP.out
  have B2 := hide (B1.out.trans (hb2.mono z1))
  have z2 := B2.out.size
  have O2 := hide (hO2.lower z1)
  clear hO2 hb2
  go_wp2_with fail
  refine (put_any p 2 (by omega) w2.heap.size (.slice none 0 0) [] _ (OwnB.nil _ _) (Nat.le_refl _) (by simp)).mono ?_
  rw [List.nil_append, D.put_2]
  rintro e w3 ⟨v3, rfl, hO3, hK3⟩
  have T3 := hide hK3.1
  have O23 := hide (O2.out.below hK3.1)
  have S23 := hide O23.out.sl
  have O3 := hide hO3
  have z3 := hK3.1.size
  clear hO3 hK3
  go_wp2_with (first
    | (at_builtin; refine wpList_append_B rfl (.tmp 32) (.tmp 33) rfl w2.heap.size _ (D.p16 p) rfl (by exact O3.out) _ _ _ (N.wire n) rfl rfl (by exact S23.out) (by intro h; cases h) (by have := LN.out; rw [p16_len]; omega) z3 ?_; intro v4 w4 hO4 hG4; have T4 := hide (grown_below O3.out hG4 T3.out z3); have O24 := hide (O2.out.below T4.out); have S24 := hide O24.out.sl; have O4 := hide hO4; clear hO4 hG4)
    | (at_builtin; refine wpList_append_B rfl (.const (.slice none 0 0)) (.tmp 35) rfl w4.heap.size _ [] rfl (OwnB.nil _ _) _ _ _ (N.wire n) rfl rfl (by exact S24.out) (by intro h; cases h) (by have := LN.out; simp; omega) (Nat.le_refl _) ?_; intro v5 w5 hO5 hG5; have F5 := hide (grown_below (OwnB.nil _ w4.heap.size) hG5 (Below.refl _ _) (Nat.le_refl _)); have O5 := hide hO5; clear hO5 hG5))
  have z4 := T4.out.size
  have z5 := F5.out.size
  have B5 := hide ((B2.out.trans (T4.out.mono z2)).trans (F5.out.mono (Nat.le_trans z2 z4)))
  refine (rWire_any m bo lb cb _ hlb (by exact SB.out.below B5.out (Nat.le_refl _)) (hide (good_small GM.out))).mono ?_
  rintro e w6 ⟨v6, rfl, hO6, hb6⟩
  obtain ⟨a6, c6, rfl, hs6, hn6, _⟩ := hO6.open
  have S6 := hide hs6
  have N6 := hide hn6
  have O56 := hide (O5.out.below hb6)
  have F6 := hide (F5.out.trans (hb6.mono z5))
  have z6 := F6.out.size
  clear hO6 hs6 hn6 hb6
  go_wp2_with (first
    | (at_builtin; refine wpList_append_B rfl (.tmp 36) (.tmp 38) rfl w4.heap.size _ (N.wire n) rfl (by exact O56.out) _ _ _ (N.wire m) rfl rfl (by exact S6.out) N6.out (by have := LN.out; have := LM.out; omega) z6 ?_; intro v7 w7 hO7 hG7; have F7 := hide (grown_below O56.out hG7 F6.out z6); have z7 := F7.out.size; have O7 := hide hO7; clear hO7 hG7)
    | (at_builtin; refine wpList_append_make rfl (.tmp 39) (.const (.int .i64 20)) rfl w4.heap.size _ (N.wire n ++ N.wire m) rfl (by exact O7.out) 20 rfl (by omega) (by have := LN.out; have := LM.out; rw [List.length_append]; omega) z7 ?_; intro v8 w8 hO8 hG8; have F8 := hide (grown_below O7.out hG8 F7.out z7); have O8 := hide hO8; clear hO8 hG8))
  have z8 := F8.out.size
  obtain ⟨a8, c8, rfl, hs8, hn8, hc8, _⟩ := O8.out.open
  obtain ⟨L8, hL8⟩ : ∃ L, (N.wire n ++ N.wire m ++ List.replicate 20 0).length = L := ⟨_, rfl⟩
  rw [hL8] at hc8 ⊢
  have HL8 := hide hL8
  have O8L : Hid (OwnB w8 w4.heap.size (.slice a8 L8 c8) (N.wire n ++ N.wire m ++ List.replicate 20 0)) := by rw [← hL8]; exact O8.out
  have S8 := hide hs8
  have N8 := hide hn8
  have O28 := hide (O24.out.below F8.out)
  have O48 := hide (O4.out.below F8.out)
  obtain ⟨a4, c4, rfl, hs4, hn4, hc4, _⟩ := O48.out.open
  obtain ⟨L4, hL4⟩ : ∃ L, (D.p16 p ++ N.wire n).length = L := ⟨_, rfl⟩
  rw [hL4] at hc4 ⊢
  have HL4 := hide hL4
  have S4 := hide hs4
  have N4 := hide hn4
  have S28 := hide O28.out.sl
  have B8 := hide ((B2.out.trans (T4.out.mono z2)).trans (F8.out.mono (Nat.le_trans z2 z4)))
  clear hL4 hL8 hs8 hn8 hs4 hn4 O56 F5 F6 F7 O5 O7 S23 S24 O23 O3 T3 B5
  refine (Target_any 2 (N.wire n) (some ⟨g2, 0, none⟩) (N.wire n).length c2 _ rfl (by exact S28.out) hgc2 (by intro h; cases h)).mono ?_
  rw [D.tgt_ns GN.out]
  rintro e w9 ⟨⟨x, v, ho, rfl, hx⟩ | ⟨ho, _⟩, hb9⟩
  rotate_left
  · cases ho
  cases ho
  obtain ⟨a9, c9, rfl, hs9, _⟩ := OwnS.open hx
  have S9 := hide hs9
  have W9 := hide hb9
  clear hx hs9 hb9
  go_wp2_with fail
  refine (Target_any 15 (D.p16 p ++ N.wire n) a4 L4 c4 _ HL4 (by exact S4.out.below W9.out (Nat.le_refl _)) hc4 N4.out).mono ?_
  rw [D.tgt_mx GN.out p]
  rintro e w10 ⟨⟨x, v, ho, rfl, hx⟩ | ⟨ho, _⟩, hb10⟩
  rotate_left
  · cases ho
  cases ho
  obtain ⟨a10, c10, rfl, hs10, _⟩ := OwnS.open hx
  have S10 := hide hs10
  have S9b := hide (S9.out.below hb10 (Nat.le_refl _))
  have W10 := hide (W9.out.trans (hb10.mono W9.out.size))
  clear hx hs10 hb10 S9 W9
  go_wp2_with fail
  refine (Soa_any (N.wire n ++ N.wire m ++ List.replicate 20 0) a8 L8 c8 _ HL8 (by exact S8.out.below W10.out (Nat.le_refl _)) hc8 N8.out).mono ?_
  rw [D.soa_zeros GN.out GM.out]
  rintro e w11 ⟨⟨x, v, ho, rfl, hx⟩ | ⟨ho, _⟩, hb11⟩
  rotate_left
  · cases ho
  cases ho
  obtain ⟨a11, c11, a12, c12, rfl, hOm, hOb⟩ := hx
  have Sm := hide (OwnS.sl hOm)
  have Sb := hide (OwnS.sl hOb)
  have S9c := hide (S9b.out.below hb11 (Nat.le_refl _))
  have S10b := hide (S10.out.below hb11 (Nat.le_refl _))
  have W11 := hide (W10.out.trans (hb11.mono W10.out.size))
  clear hOm hOb hb11 S9b S10 W10
  have al := (Below.refl w11.heap.size w11).alloc (Nat.le_refl _) (.cells #[.slice a11 n.length c11, .slice a12 m.length c12, .int .u32 0, .int .u32 0, .int .u32 0, .int .u32 0, .int .u32 0] 43)
  have R12 := hide (RowAt.new w11 43 #[.slice a11 n.length c11, .slice a12 m.length c12, .int .u32 0, .int .u32 0, .int .u32 0, .int .u32 0, .int .u32 0])
  have W12 := hide (W11.out.trans (al.mono W11.out.size))
  have SA12 := hide (SA.out.below (B8.out.trans (W12.out.mono B8.out.size)) (Nat.le_refl _))
  have SB12 := hide (SB.out.below (B8.out.trans (W12.out.mono B8.out.size)) (Nat.le_refl _))
  have S9d := hide (S9c.out.below al (Nat.le_refl _))
  have S10c := hide (S10b.out.below al (Nat.le_refl _))
  have Sm12 := hide (Sm.out.below al (Nat.le_refl _))
  have Sb12 := hide (Sb.out.below al (Nat.le_refl _))
  clear al S9c S10b Sm Sb W11
  go_wp2_with fail
  refine (name_same n a9 ao n.length la c9 ca _ rfl hla (by exact S9d.out) (by exact SA12.out) (by have := hla.out; omega)).mono ?_
  rintro e w13 ⟨rfl, hd13⟩
  have b13 := drew_below (w11.alloc (.cells #[.slice a11 n.length c11, .slice a12 m.length c12, .int .u32 0, .int .u32 0, .int .u32 0, .int .u32 0, .int .u32 0] 43)).heap.size hd13
  have R13 := hide (R12.out.below b13 R12.out.lt)
  have W13 := hide (W12.out.trans (b13.mono W12.out.size))
  have SA13 := hide (SA12.out.below b13 (Nat.le_refl _))
  have SB13 := hide (SB12.out.below b13 (Nat.le_refl _))
  have S10d := hide (S10c.out.below b13 (Nat.le_refl _))
  have Sm13 := hide (Sm12.out.below b13 (Nat.le_refl _))
  have Sb13 := hide (Sb12.out.below b13 (Nat.le_refl _))
  clear b13 hd13 R12 W12 SA12 SB12 S10c Sm12 Sb12
  go_wp2_with fail
  refine (name_same n a10 ao n.length la c10 ca _ rfl hla (by exact S10d.out) (by exact SA13.out) (by have := hla.out; omega)).mono ?_
  rintro e w14 ⟨rfl, hd14⟩
  have b14 := drew_below w13.heap.size hd14
  have R14 := hide (R13.out.below b14 R13.out.lt)
  have W14 := hide (W13.out.trans (b14.mono W13.out.size))
  have SA14 := hide (SA13.out.below b14 (Nat.le_refl _))
  have SB14 := hide (SB13.out.below b14 (Nat.le_refl _))
  have Sm14 := hide (Sm13.out.below b14 (Nat.le_refl _))
  have Sb14 := hide (Sb13.out.below b14 (Nat.le_refl _))
  have k14 : w14.cell? ⟨w11.heap.size, 0, none⟩ = some (.slice a11 n.length c11) := R14.out.cell 0
  clear b14 hd14 R13 W13 SA13 SB13 Sm13 Sb13
  go_wp2_with fail
  refine (name_same n a11 ao n.length la c11 ca _ rfl hla (by exact Sm14.out) (by exact SA14.out) (by have := hla.out; omega)).mono ?_
  rintro e w15 ⟨rfl, hd15⟩
  have b15 := drew_below w14.heap.size hd15
  have R15 := hide (R14.out.below b15 R14.out.lt)
  have W15 := hide (W14.out.trans (b15.mono W14.out.size))
  have SA15 := hide (SA14.out.below b15 (Nat.le_refl _))
  have SB15 := hide (SB14.out.below b15 (Nat.le_refl _))
  have Sb15 := hide (Sb14.out.below b15 (Nat.le_refl _))
  have k15 : w15.cell? ⟨w11.heap.size, 1, none⟩ = some (.slice a12 m.length c12) := R15.out.cell 1
  clear b15 hd15 R14 W14 SA14 SB14 Sb14 Sm14
  go_wp2_with fail
  refine (name_same m a12 bo m.length lb c12 cb _ rfl hlb (by exact Sb15.out) (by exact SB15.out) (by have := hlb.out; omega)).mono ?_
  rintro e w16 ⟨rfl, hd16⟩
  have b16 := drew_below w15.heap.size hd16
  have W16 := hide (W15.out.trans (b16.mono W15.out.size))
  clear b16 hd16 R15 W15 SA15 SB15 Sb15 k14 k15
  have Oa := hide (O28.out.below W16.out)
  have Ob := hide (O48.out.below W16.out)
  have Oc := hide (O8L.out.below W16.out)
  have B16 := hide (B8.out.trans (W16.out.mono B8.out.size))
  have z16 := B16.out.size
  have HCN := hide (D.code_ns GN.out bh)
  have HCM := hide (D.code_mx GN.out p)
  have HCS := hide (D.code_soa GN.out GM.out bh)
  have HCC := hide (D.code_cname GN.out)
  go_wp2_with (at_builtin; refine wpList_append_B rfl (.tmp 88) (.tmp 90) rfl w.heap.size _ (N.wire n) rfl (by exact Oa.out.alloc _) _ _ _ [bh] rfl rfl (by exact SlL.one w16 bh 5) (by intro h; cases h) (by have := LN.out; simp; omega) (by simp; omega) ?_; intro v17 w17 hO17 hG17)
  have hne : ∀ (base : Nat) (v : Value) (l : List UInt8), w2.heap.size ≤ base → OwnB w16 base v l → ∀ g, some g = v.ownBlock → some g ≠ some g2 := by
    intro base v l hb ho g hg e
    have := (ho.blk hg).1
    cases e
    omega
  have hG17' : (w16.alloc (.cells #[.int .u8 (bh.toNat : Int)] 5)).grownBy w17 (some g2) := hG17
  have zA : w8.heap.size ≤ w16.heap.size := W16.out.size
  have zB : w16.heap.size ≤ w17.heap.size := Nat.le_trans (by simp) hG17'.size
  have Ob17 := hide ((Ob.out.alloc _).keep hG17' (hne _ _ _ (Nat.le_refl _) Ob.out))
  have Oc17 := hide ((Oc.out.alloc _).keep hG17' (hne _ _ _ (by omega) Oc.out))
  have K17 := hide (Kp.app Oa.out hG17 z16)
  have B17 := hide (B16.out.trans K17.out.1)
  have z17 := B17.out.size
  obtain ⟨a17, c17, rfl, hs17, hn17, hc17, _⟩ := hO17.open
  obtain ⟨L17, hL17⟩ : ∃ L, (N.wire n ++ [bh]).length = L := ⟨_, rfl⟩
  rw [hL17] at hc17 ⊢
  have HL17 := hide hL17
  have S17 := hide hs17
  have N17 := hide hn17
  clear hne hG17' hG17 hO17 hL17 hs17 hn17 K17 Oa Ob Oc
  refine (dCheck_any 2 (N.wire n ++ [bh]) a17 L17 c17 _ HL17 (by exact S17.out) hc17 N17.out).mono ?_
  rw [HCN.out]
  rintro e w18 ⟨rfl, hb18⟩
  have zC : w17.heap.size ≤ w18.heap.size := hb18.size
  have Ob18 := hide (Ob17.out.below hb18)
  have Oc18 := hide (Oc17.out.below hb18)
  have B18 := hide (B17.out.trans (hb18.mono z17))
  have z18 := B18.out.size
  have hL4p : 0 < L4 := by rw [← HL4.out]; simp [N.wire]; omega
  obtain ⟨Q, hQ⟩ : ∃ Q, L4 - 1 = Q := ⟨_, rfl⟩
  have hL4i : (L4 : Int) - 1 = (Q : Int) := by omega
  have hL4b : L4 ≤ 257 := by rw [← HL4.out, List.length_append, p16_len]; have := LN.out; omega
  have hQb : Q ≤ 257 := by omega
  have hQl : (Q : Int) ≤ (L4 : Int) := by omega
  have sl4 := (OwnB.open Ob18.out)
  obtain ⟨a4', c4', e4, hs4', hn4', hc4', _⟩ := sl4
  have e4' : a4' = a4 ∧ c4' = c4 := by cases e4; exact ⟨rfl, rfl⟩
  obtain ⟨rfl, rfl⟩ := e4'
  obtain ⟨a19, r19, s19, n19⟩ := slice_hd (L4 - 1) hs4'.slB (by rw [HL4.out]; omega) hc4' hn4'
  rw [HL4.out] at r19
  have ht : (D.p16 p ++ N.wire n).take (L4 - 1) = D.p16 p ++ N.body n := by
    have e : D.p16 p ++ N.wire n = (D.p16 p ++ N.body n) ++ [0] := by simp [N.wire]
    have el : (D.p16 p ++ N.body n).length = L4 - 1 := by
      have := HL4.out
      rw [e, List.length_append] at this
      simp only [List.length_singleton] at this
      omega
    rw [e, ← el, List.take_left]
  rw [ht] at s19
  have HL19 : Hid ((D.p16 p ++ N.body n).length = L4 - 1) := by
    show _ = _
    rw [← ht, List.length_take, HL4.out]; omega
  have S19 := hide (s19.sl (Nat.le_refl _))
  have N19 := hide n19
  have hc19 : L4 - 1 ≤ c4' := by rw [HL4.out] at hc4'; omega
  rw [hQ] at r19 HL19 hc19
  clear s19 ht hb18 hs4' hn4' hc4' e4 n19 Ob17 Oc17
  go_wp2_with fail
  refine (dCheck_any 15 (D.p16 p ++ N.body n) a19 Q c4' _ HL19 (by exact S19.out) hc19 N19.out).mono ?_
  rw [HCM.out]
  rintro e w20 ⟨rfl, hb20⟩
  have Oc20 := hide (Oc18.out.below hb20)
  have B20 := hide (B18.out.trans (hb20.mono z18))
  have z20 := B20.out.size
  have zD : w18.heap.size ≤ w20.heap.size := hb20.size
  have hz4 : w4.heap.size ≤ w20.heap.size := by omega
  clear hb20 Oc18 Ob18
  go_wp2_with (at_builtin; refine wpList_append_Bg (.tmp 104) (.tmp 106) rfl (by first | rfl | decide | simp [Region.wanted, yielded]) w4.heap.size _ (N.wire n ++ N.wire m ++ List.replicate 20 0) rfl (by exact Oc20.out.alloc _) _ _ _ [bh] rfl rfl (by exact SlL.one w20 bh 5) (by have := LN.out; have := LM.out; simp only [List.length_append, List.length_replicate]; omega) (by simp; omega) ?_; intro v21 w21 hO21 hG21)
  have K21 := hide (Kp.app Oc20.out hG21 hz4)
  have B21 := hide (B20.out.trans (K21.out.1.mono (Nat.le_trans z2 z4)))
  obtain ⟨a21, c21, rfl, hs21, hn21, hc21, _⟩ := hO21.open
  obtain ⟨L21, hL21⟩ : ∃ L, (N.wire n ++ N.wire m ++ List.replicate 20 0 ++ [bh]).length = L := ⟨_, rfl⟩
  rw [hL21] at hc21 ⊢
  have HL21 := hide hL21
  have S21 := hide hs21
  have N21 := hide hn21
  clear hG21 hO21 hL21 hs21 hn21 K21
  refine (dCheck_any 6 (N.wire n ++ N.wire m ++ List.replicate 20 0 ++ [bh]) a21 L21 c21 _ HL21 (by exact S21.out) hc21 N21.out).mono ?_
  rw [HCS.out]
  rintro e w22 ⟨rfl, hb22⟩
  have B22 := hide (B21.out.trans (hb22.mono B21.out.size))
  clear hb22
  go_wp2_with fail
  refine (rWire_any n ao la ca _ hla (by exact SA.out.below B22.out (Nat.le_refl _)) (hide (good_small GN.out))).mono ?_
  rintro e w23 ⟨v23, rfl, hO23, hb23⟩
  obtain ⟨a23, c23, rfl, hs23, hn23, hc23, _⟩ := hO23.open
  have S23 := hide hs23
  have N23 := hide hn23
  have B23 := hide (B22.out.trans (hb23.mono B22.out.size))
  clear hO23 hs23 hn23 hb23
  go_wp2_with fail
  refine (dCheck_any 5 (N.wire n) a23 (N.wire n).length c23 _ rfl (by exact S23.out) hc23 N23.out).mono ?_
  rw [HCC.out]
  rintro e w24 ⟨rfl, hb24⟩
  have B24 := hide (B23.out.trans (hb24.mono B23.out.size))
  clear hb24
  go_wp2
  go_ret
  exact ⟨rfl, B24.out⟩
end Go.Proofs.Ytagopkmehlpjpaa
