/- The walks of the statements AlphaPacks and AlphaRound. -/
import Derived.Test.YtdolmhnajofkoaaLawA
namespace Go.Proofs.Ytdolmhnajofkoaa
open Go.RowKit
set_option linter.unusedSimpArgs false

theorem up_len (l : List UInt8) : (upZ (unpackL l)).length ≤ 8 * l.length := by
  cases h : unpackL l with
  | ok r =>
    obtain ⟨m, r2, hl, hu, _, _⟩ := unp_ok _ [] r (unb l) (Nat.le_refl _) (isBits_unb l) h
    rw [List.nil_append] at hl
    subst hl
    have e := congrArg List.length hu
    rw [unb_len, List.length_append, List.length_append, flat5_len] at e
    show r.length ≤ _
    omega
  | _ => exact Nat.zero_le _

theorem up_range (l : List UInt8) : ∀ z ∈ upZ (unpackL l), 0 ≤ z ∧ z < 32 := by
  intro z hz
  cases h : unpackL l with
  | ok r =>
    rw [h] at hz
    have hz2 : z ∈ r := hz
    have key : ∀ (k : Nat) (acc : List Int) (u : List Nat), u.length ≤ k → isBits u → (∀ y ∈ acc, 0 ≤ y ∧ y < 32) → unp acc u = .ok r → ∀ y ∈ r, 0 ≤ y ∧ y < 32 := by
      intro k
      induction k with
      | zero =>
        intro acc u hu _ _ he
        rw [List.eq_nil_of_length_eq_zero (by omega : u.length = 0)] at he
        cases he
      | succ k ih =>
        intro acc u hu hb ha he
        by_cases h5 : 5 ≤ u.length
        · obtain ⟨a, b, c, d, e, r2, rfl⟩ := five h5
          rw [unp_five] at he
          split at he
          · split at he
            · cases he
            · split at he
              · cases he
              · injection he with he
                subst he
                exact ha
          · refine ih _ r2 (by simp only [List.length_cons] at hu; omega) (fun x hx => hb x (by simp [hx])) ?_ he
            intro y hy
            rcases List.mem_append.1 hy with hy | hy
            · exact ha y hy
            · rw [List.mem_singleton] at hy
              have hlt := num2_lt 5 [a, b, c, d, e] rfl (fun x hx => hb x (by
                simp only [List.mem_cons, List.not_mem_nil, or_false] at hx
                simp only [List.mem_cons]
                rcases hx with rfl | rfl | rfl | rfl | rfl <;> simp))
              have h32 : (2 : Nat) ^ 5 = 32 := rfl
              omega
        · rw [unp_short acc (by omega)] at he
          cases he
    exact key _ [] (unb l) (Nat.le_refl _) (isBits_unb l) (by simp) h z hz2
  | _ => rw [h] at hz; cases hz

theorem up_fit (l : List UInt8) : FitI (upZ (unpackL l)) := FitI.of_mem fun z hz => by have := up_range l z hz; omega

set_option maxRecDepth 100000 in
set_option maxHeartbeats 6400000 in
theorem packs_walk (A : Option Addr) (n c : Nat) (zs : List Int) (A0 : Option Addr) (m c0 : Nat) (l : List UInt8) (w : World) (h : RdI w w.heap.size A n zs) (h0 : Rd w w.heap.size A0 m l) :
    Calls Try.prog 5 #[.slice A n c, .slice A0 m c0] w fun e w' => e = .returned (.bool true) ∧ Below w.heap.size w w' := by
  by_cases hn : (n : Int) ≤ 500 ∧ (m : Int) ≤ 500
  · obtain ⟨hn, hm⟩ := hn
    have H := Lib.hid h
    have H0 := Lib.hid h0
    clear h h0
    have ES := Lib.hid (eqI_self (upZ (unpackL l)))
    have HF := Lib.hid (up_fit l)
    have HL := Lib.hid (up_len l)
    go_enter Try.func5, Try.ntmps5
    go_wp2_with fail
    refine (unpack_any w A0 m c0 l H0.out (by omega)).mono ?_
    rintro e w1 ⟨A1, n1, c1, rfl, ho1, hb1⟩
    have hn1 : n1 ≤ 10000 := by have := ownI_len ho1; have := HL.out; have := H0.out.1; omega
    have HO1 := Lib.hid ho1
    clear ho1
    go_wp2_with fail
    refine (runpack_any w1 A0 m c0 l ((H0.out.below hb1).more hb1.size) (by omega)).mono ?_
    rintro e w2 ⟨A2, n2, c2, rfl, ho2, hb2⟩
    have hn2 : n2 ≤ 10000 := by have := ownI_len ho2; have := HL.out; have := H0.out.1; omega
    have R1 := Lib.hid (RdI.of_iv (own_below HO1.out hb2) HF.out).drew
    have R2 := Lib.hid (RdI.of_iv ho2 HF.out).drew
    have HB2 := Lib.hid (hb1.trans (hb2.mono hb1.size))
    clear ho2 hb1 hb2 HO1
    go_wp2_with fail
    refine wp_region_held_drew (S := Held2 w w2) (by kernel_rfl) (Held2.start HB2.out) (fun hHeld => ?_)
    refine held_take (i := 0) (fuel := 20) (v := ?_) (by rw [List.getElem?_toArray]; rfl) (by kernel_rfl) (by kernel_rfl) (by kernel_rfl) hHeld ?_ ?_ ?_ ?_
    rotate_left
    · intro u hSw
      go_simp
      try with_reducible rfl
    · rfl
    · exact fun _ _ _ h => h
    try simp only [Act.put, List.setIfInBounds_toArray, List.set_cons_zero, List.set_cons_succ]
    refine held_take (i := 3) (fuel := 19) (v := ?_) (by rw [List.getElem?_toArray]; rfl) (by kernel_rfl) (by kernel_rfl) (by kernel_rfl) hHeld ?_ ?_ ?_ ?_
    rotate_left
    · intro u hSw
      go_simp
      try with_reducible rfl
    · rfl
    · exact fun _ _ _ h => h
    try simp only [Act.put, List.setIfInBounds_toArray, List.set_cons_zero, List.set_cons_succ]
    refine held_one (i := 1) (fuel := 18) (by kernel_rfl) (by rw [List.getElem?_toArray]; rfl) (fun K hK => ?_)
    go_simp
    refine (pack_any _ A n c zs ((H.out.below hHeld.1).more hHeld.1.size) (by omega)).mono ?_
    rintro e w3 ⟨A3, n3, c3, rfl, ho3, hb3⟩
    refine hK.out _ _ ?_ (fun hHeld => ?_)
    · exact hHeld.call hb3
    clear hK K
    try simp only [Act.put, List.setIfInBounds_toArray, List.set_cons_zero, List.set_cons_succ]
    refine held_more (Held2 w w3) (fun w h => hHeld.imp h) (hHeld.new) (fun hHeld => ?_)
    have k3 : ∀ u, Held2 w w3 u → (convert 33 9 (.slice A3 n3 c3)).run Try.prog u = .ok (.string ⟨(packL zs).toArray⟩) u := fun u hu => toStr6 ((Rd.of_own ho3).below hu.2) c3
    have R1 := Lib.hid ((R1.out.below hb3).more hb3.size)
    have R2 := Lib.hid ((R2.out.below hb3).more hb3.size)
    clear ho3 hb3
    refine held_take (i := 2) (fuel := 17) (v := ?_) (by rw [List.getElem?_toArray]; rfl) (by kernel_rfl) (by kernel_rfl) (by kernel_rfl) hHeld ?_ ?_ ?_ ?_
    rotate_left
    · intro u hSw
      go_simp
      try with_reducible rfl
    · rfl
    · exact fun _ _ _ h => h
    try simp only [Act.put, List.setIfInBounds_toArray, List.set_cons_zero, List.set_cons_succ]
    refine held_one (i := 4) (fuel := 16) (by kernel_rfl) (by rw [List.getElem?_toArray]; rfl) (fun K hK => ?_)
    go_simp
    refine (rpack_any _ A n c zs ((H.out.below hHeld.1).more hHeld.1.size) (by omega)).mono ?_
    rintro e w4 ⟨A4, n4, c4, rfl, ho4, hb4⟩
    refine hK.out _ _ ?_ (fun hHeld => ?_)
    · exact hHeld.call hb4
    clear hK K
    try simp only [Act.put, List.setIfInBounds_toArray, List.set_cons_zero, List.set_cons_succ]
    refine held_more (Held2 w w4) (fun w h => hHeld.imp h) (hHeld.new) (fun hHeld => ?_)
    have k4 : ∀ u, Held2 w w4 u → (convert 33 9 (.slice A4 n4 c4)).run Try.prog u = .ok (.string ⟨(packL zs).toArray⟩) u := fun u hu => toStr6 ((Rd.of_own ho4).below hu.2) c4
    have R1 := Lib.hid ((R1.out.below hb4).more hb4.size)
    have R2 := Lib.hid ((R2.out.below hb4).more hb4.size)
    clear ho4 hb4 k3
    refine held_take (i := 5) (fuel := 15) (v := ?_) (by rw [List.getElem?_toArray]; rfl) (by kernel_rfl) (by kernel_rfl) (by kernel_rfl) hHeld ?_ ?_ ?_ ?_
    rotate_left
    · intro u hSw
      go_simp
      try with_reducible rfl
    · rfl
    · exact fun _ _ _ h => h
    try simp only [Act.put, List.setIfInBounds_toArray, List.set_cons_zero, List.set_cons_succ]
    refine held_take (i := 6) (fuel := 14) (v := ?_) (by rw [List.getElem?_toArray]; rfl) (by kernel_rfl) (by kernel_rfl) (by kernel_rfl) hHeld ?_ ?_ ?_ ?_
    rotate_left
    · intro u hSw
      go_simp
      try with_reducible rfl
    · rfl
    · exact fun _ _ _ h => h
    try simp only [Act.put, List.setIfInBounds_toArray, List.set_cons_zero, List.set_cons_succ]
    refine held_take (i := 7) (fuel := 13) (v := ?_) (by rw [List.getElem?_toArray]; rfl) (by kernel_rfl) (by kernel_rfl) (by kernel_rfl) hHeld ?_ ?_ ?_ ?_
    rotate_left
    · intro u hSw
      go_simp
      try with_reducible rfl
    · rfl
    · exact fun _ _ _ h => h
    try simp only [Act.put, List.setIfInBounds_toArray, List.set_cons_zero, List.set_cons_succ]
    refine held_take (i := 8) (fuel := 12) (v := ?_) (by rw [List.getElem?_toArray]; rfl) (by kernel_rfl) (by kernel_rfl) (by kernel_rfl) hHeld ?_ ?_ ?_ ?_
    rotate_left
    · intro u hSw
      go_simp
      try with_reducible rfl
    · rfl
    · exact fun _ _ _ h => h
    try simp only [Act.put, List.setIfInBounds_toArray, List.set_cons_zero, List.set_cons_succ]
    refine held_take (i := 9) (fuel := 11) (v := ?_) (by rw [List.getElem?_toArray]; rfl) (by kernel_rfl) (by kernel_rfl) (by kernel_rfl) hHeld ?_ ?_ ?_ ?_
    rotate_left
    · intro u hSw
      go_simp
      try with_reducible rfl
    · rfl
    · exact fun _ _ _ h => h
    try simp only [Act.put, List.setIfInBounds_toArray, List.set_cons_zero, List.set_cons_succ]
    refine held_one (i := 10) (fuel := 10) (by kernel_rfl) (by rw [List.getElem?_toArray]; rfl) (fun K hK => ?_)
    go_simp
    refine (same6_any _ _ _ A1 A2 n1 n2 c1 c2 _ _ R1.out R2.out (by omega) (by omega)).mono ?_
    rintro e w5 ⟨rfl, hb5⟩
    rw [ES.out]
    refine hK.out _ _ ?_ (fun hHeld => ?_)
    · exact hHeld.call hb5
    clear hK K
    try simp only [Act.put, List.setIfInBounds_toArray, List.set_cons_zero, List.set_cons_succ]
    refine held_more (Held2 w w5) (fun w h => hHeld.imp h) (hHeld.new) (fun hHeld => ?_)
    clear hb5
    refine held_take (i := 11) (fuel := 9) (v := ?_) (by rw [List.getElem?_toArray]; rfl) (by kernel_rfl) (by kernel_rfl) (by kernel_rfl) hHeld ?_ ?_ ?_ ?_
    rotate_left
    · intro u hSw
      go_simp
      try with_reducible rfl
    · rfl
    · exact fun _ _ _ h => h
    try simp only [Act.put, List.setIfInBounds_toArray, List.set_cons_zero, List.set_cons_succ]
    refine held_take (i := 12) (fuel := 8) (v := ?_) (by rw [List.getElem?_toArray]; rfl) (by kernel_rfl) (by kernel_rfl) (by kernel_rfl) hHeld ?_ ?_ ?_ ?_
    rotate_left
    · intro u hSw
      go_simp
      try with_reducible rfl
    · rfl
    · exact fun _ _ _ h => h
    try simp only [Act.put, List.setIfInBounds_toArray, List.set_cons_zero, List.set_cons_succ]
    refine held_take (i := 13) (fuel := 7) (v := ?_) (by rw [List.getElem?_toArray]; rfl) (by kernel_rfl) (by kernel_rfl) (by kernel_rfl) hHeld ?_ ?_ ?_ ?_
    rotate_left
    · intro u hSw
      go_simp
      try with_reducible rfl
    · rfl
    · exact fun _ _ _ h => h
    try simp only [Act.put, List.setIfInBounds_toArray, List.set_cons_zero, List.set_cons_succ]
    refine held_take (i := 14) (fuel := 6) (v := ?_) (by rw [List.getElem?_toArray]; rfl) (by kernel_rfl) (by kernel_rfl) (by kernel_rfl) hHeld ?_ ?_ ?_ ?_
    rotate_left
    · intro u hSw
      go_simp
      try with_reducible rfl
    · rfl
    · exact fun _ _ _ h => h
    try simp only [Act.put, List.setIfInBounds_toArray, List.set_cons_zero, List.set_cons_succ]
    refine held_take (i := 15) (fuel := 5) (v := ?_) (by rw [List.getElem?_toArray]; rfl) (by kernel_rfl) (by kernel_rfl) (by kernel_rfl) hHeld ?_ ?_ ?_ ?_
    rotate_left
    · intro u hSw
      go_simp
      try with_reducible rfl
    · rfl
    · exact fun _ _ _ h => h
    try simp only [Act.put, List.setIfInBounds_toArray, List.set_cons_zero, List.set_cons_succ]
    refine held_take (i := 16) (fuel := 4) (v := ?_) (by rw [List.getElem?_toArray]; rfl) (by kernel_rfl) (by kernel_rfl) (by kernel_rfl) hHeld ?_ ?_ ?_ ?_
    rotate_left
    · intro u hSw
      go_simp
      try with_reducible rfl
    · rfl
    · exact fun _ _ _ h => h
    try simp only [Act.put, List.setIfInBounds_toArray, List.set_cons_zero, List.set_cons_succ]
    refine held_take (i := 17) (fuel := 3) (v := ?_) (by rw [List.getElem?_toArray]; rfl) (by kernel_rfl) (by kernel_rfl) (by kernel_rfl) hHeld ?_ ?_ ?_ ?_
    rotate_left
    · intro u hSw
      go_simp
      try with_reducible rfl
    · rfl
    · exact fun _ _ _ h => h
    try simp only [Act.put, List.setIfInBounds_toArray, List.set_cons_zero, List.set_cons_succ]
    refine held_one (i := 18) (fuel := 2) (by kernel_rfl) (by rw [List.getElem?_toArray]; rfl) (fun K hK => ?_)
    go_simp
    refine (awake_any _).mono ?_
    rintro e w6 ⟨rfl, hb6⟩
    refine hK.out _ _ ?_ (fun hHeld => ?_)
    · exact hHeld.call hb6
    clear hK K
    try simp only [Act.put, List.setIfInBounds_toArray, List.set_cons_zero, List.set_cons_succ]
    refine held_take (i := 19) (fuel := 1) (v := ?_) (by rw [List.getElem?_toArray]; rfl) (by kernel_rfl) (by kernel_rfl) (by kernel_rfl) hHeld ?_ ?_ ?_ ?_
    rotate_left
    · intro u hSw
      go_simp
      try with_reducible rfl
    · rfl
    · exact fun _ _ _ h => h
    try simp only [Act.put, List.setIfInBounds_toArray, List.set_cons_zero, List.set_cons_succ]
    refine held_take (i := 20) (fuel := 0) (v := ?_) (by rw [List.getElem?_toArray]; rfl) (by kernel_rfl) (by kernel_rfl) (by kernel_rfl) hHeld ?_ ?_ ?_ ?_
    rotate_left
    · intro u hSw
      go_simp
      try with_reducible rfl
    · rfl
    · exact fun _ _ _ h => h
    try simp only [Act.put, List.setIfInBounds_toArray, List.set_cons_zero, List.set_cons_succ]
    refine wpAnyH_done (by kernel_rfl) ?_ _
    have J6 := hHeld.1
    go_wp2
    go_ret
    exact ⟨rfl, J6⟩
  · clear h h0
    by_cases hn1 : (n : Int) ≤ 500
    · have hm : ¬ (m : Int) ≤ 500 := fun e => hn ⟨hn1, e⟩
      clear hn
      go_enter Try.func5, Try.ntmps5
      go_wp2_with fail
      refine (awake_any _).mono ?_
      rintro e w4 ⟨rfl, hb4⟩
      go_wp2_with fail
      go_ret
      exact ⟨rfl, hb4⟩
    · clear hn
      go_enter Try.func5, Try.ntmps5
      go_wp2_with fail
      refine (awake_any _).mono ?_
      rintro e w4 ⟨rfl, hb4⟩
      go_wp2_with fail
      go_ret
      exact ⟨rfl, hb4⟩

end Go.Proofs.Ytdolmhnajofkoaa
