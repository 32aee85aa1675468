/- The walk of the statement PoolTexts. -/
import Derived.Test.YtpfkkmjodhpkoaaGreatDoorAwake8
import Derived.Test.YtpfkkmjodhpkoaaGreatDoorPolJ
import Derived.Deep.RegionHeld3
namespace Go.Proofs.YtpfkkmjodhpkoaaGreatDoor
open Go.RowKit

theorem textAt_text {ab : List (List UInt8)} {at_ : List Int} {l : List UInt8} {i : Int} (h : (textAt ab at_ l i).2 = 0) : textB (textAt ab at_ l i).1 = true := by
  rw [textAt_by] at h ⊢
  split at h
  · rename_i h0
    exact absurd h h0
  · rename_i h0
    rw [if_neg h0]
    unfold bytesT at h ⊢
    cases hu : unpackL (byL at_ l i) with
    | ok zs =>
      rw [hu] at h
      simp only at h ⊢
      split at h
      · rename_i h1
        exact absurd h h1
      · rename_i h1
        rw [if_neg h1]
        split at h
        · rename_i h2
          rw [if_pos h2]
          exact h2
        · exact absurd h (by decide)
    | short => rw [hu] at h; exact absurd h (show ¬ ((2 : Int) = 0) by decide)
    | long => rw [hu] at h; exact absurd h (show ¬ ((3 : Int) = 0) by decide)
    | form => rw [hu] at h; exact absurd h (show ¬ ((4 : Int) = 0) by decide)

theorem allF_facts (ab : List (List UInt8)) (at_ : List Int) (l : List UInt8) : ∀ (f j : Nat) (acc : List (List UInt8)), (∀ x ∈ acc, textB x = true) → (∀ x ∈ (allF ab at_ l f j acc).1, textB x = true) ∧ (allF ab at_ l f j acc).1.length ≤ acc.length + f := by
  intro f
  induction f with
  | zero => intro j acc h; exact ⟨h, Nat.le_refl _⟩
  | succ f ih =>
    intro j acc h
    unfold allF
    by_cases h0 : (textAt ab at_ l j).2 ≠ 0
    · rw [if_pos h0]
      exact ⟨fun x hx => (by cases hx), Nat.zero_le _⟩
    · rw [if_neg h0]
      obtain ⟨k1, k2⟩ := ih (j + 1) (acc ++ [(textAt ab at_ l j).1]) (fun x hx => by
        rcases List.mem_append.mp hx with hx | hx
        · exact h x hx
        · rw [List.mem_singleton] at hx
          subst hx
          exact textAt_text (by omega))
      refine ⟨k1, ?_⟩
      rw [List.length_append, List.length_singleton] at k2
      omega

theorem tot_le_of {ls : List (List UInt8)} (h : ∀ x ∈ ls, textB x = true) : tot ls ≤ 1024 * ls.length := by
  induction ls with
  | nil => exact Nat.zero_le _
  | cons x l ih =>
    have h1 := textB_cases (h x (by simp))
    have h2 := ih (fun y hy => h y (by simp [hy]))
    rw [tot_cons, List.length_cons]
    omega

theorem eqT_self (ls : List (List UInt8)) : eqT ls ls = true := by
  unfold eqT
  exact decide_eq_true rfl

theorem few8_facts {ls : List (List UInt8)} {many long : Nat} (h : few8 ls many long = true) : ls.length ≤ many ∧ ∀ x ∈ ls, x.length ≤ long := by
  unfold few8 at h
  rw [Bool.and_eq_true, decide_eq_true_eq, List.all_eq_true] at h
  exact ⟨h.1, fun x hx => by simpa using h.2 x hx⟩

set_option maxRecDepth 100000 in
set_option maxHeartbeats 12800000 in
theorem texts_walk (Aa At Ab : Option Addr) (na ca nt ct nb cb : Nat) (ab : List (List UInt8)) (at_ : List Int) (l : List UInt8) (i : Int) (w : World) (ha : RdS w w.heap.size Aa na ab) (ht : RdI w w.heap.size At nt at_) (hb : Rd w w.heap.size Ab nb l)
    (hcb : nb ≤ cb) (hnt : (nt : Int) ≤ 9223372036854775807) (hnb : (nb : Int) ≤ 9223372036854775807) (hm : MaxL w) :
    Calls Tryz.prog 3 #[pv Aa na ca At nt ct Ab nb cb, .int .i64 i] w fun e w' => e = .returned (.bool true) ∧ Below w.heap.size w w' := by
  have HA := Lib.hid ha
  have HT := Lib.hid ht
  have HR := Lib.hid hb
  have HCB := Lib.hid hcb
  have HMX := Lib.hid hm
  obtain ⟨W, hW⟩ : ∃ W, W = w.alloc (.cells #[.slice Aa na ca, .slice At nt ct, .slice Ab nb cb] 26) := ⟨_, rfl⟩
  have HB0 : Hid (Below w.heap.size w W) := Lib.hid (by rw [hW]; exact al8 _ _)
  have HK0 : Hid (Blk W w.heap.size 26 #[.slice Aa na ca, .slice At nt ct, .slice Ab nb cb]) := Lib.hid (by rw [hW]; exact Blk.new _ _ _)
  clear ha ht hb hcb hm
  by_cases hs : (decide (nt ≤ 30) && (decide (nb ≤ 400) && few8 ab 40 40)) = true
  · have HS := Lib.hid hs
    rw [Bool.and_eq_true, Bool.and_eq_true, decide_eq_true_eq, decide_eq_true_eq] at hs
    obtain ⟨s1, s2, s3⟩ := hs
    obtain ⟨f1, f2⟩ := few8_facts s3
    have HM : Hid (Short_ 1000 ab) := Lib.hid (short_of_mem fun q hq => by have := f2 q hq; omega)
    have hna : na ≤ 40 := by have := HA.out.1; omega
    clear s3 f1 f2 hnt hnb
    go_enter Tryz.func3, Tryz.ntmps3
    go_wp2_with fail
    rw [← hW]
    clear hW
    refine (small8_any W Aa At Ab na ca nt ct nb cb ab ((HA.out.below HB0.out).more HB0.out.size) (by omega) (by omega)).mono ?_
    rintro e W1 ⟨rfl, hb1⟩
    rw [HS.out]
    have HB1 := Lib.hid (after8 HB0.out hb1)
    have HK1 := Lib.hid (HK0.out.below hb1 HK0.out.lt)
    have f0 : W1.cell? ⟨w.heap.size, 0, none⟩ = some (.slice Aa na ca) := HK1.out.cell 0
    have f1 : W1.cell? ⟨w.heap.size, 1, none⟩ = some (.slice At nt ct) := HK1.out.cell 1
    have f2 : W1.cell? ⟨w.heap.size, 2, none⟩ = some (.slice Ab nb cb) := HK1.out.cell 2
    clear hb1
    go_wp2_with fail
    refine (ptext_any W1 Aa At Ab na ca nt ct nb cb ab at_ l i ((HA.out.below HB1.out).more HB1.out.size) ((HT.out.below HB1.out).more HB1.out.size) ((HR.out.below HB1.out).more HB1.out.size) HM.out (by omega) (by omega) (by omega) HCB.out).mono ?_
    rintro e W2 ⟨rfl, hb2⟩
    have HB2 := Lib.hid (after8 HB1.out hb2)
    have HK2 := Lib.hid (HK1.out.below hb2 HK1.out.lt)
    clear f0 f1 f2
    have f0 : W2.cell? ⟨w.heap.size, 0, none⟩ = some (.slice Aa na ca) := HK2.out.cell 0
    have f1 : W2.cell? ⟨w.heap.size, 1, none⟩ = some (.slice At nt ct) := HK2.out.cell 1
    have f2 : W2.cell? ⟨w.heap.size, 2, none⟩ = some (.slice Ab nb cb) := HK2.out.cell 2
    clear hb2
    go_wp2_with fail
    refine (rPtext_any W2 Aa At Ab na ca nt ct nb cb ab at_ l i ((HA.out.below HB2.out).more HB2.out.size) ((HT.out.below HB2.out).more HB2.out.size) ((HR.out.below HB2.out).more HB2.out.size) HM.out (by omega) (by omega) (by omega) HCB.out).mono ?_
    rintro e W3 ⟨rfl, hb3⟩
    have HB3 := Lib.hid (after8 HB2.out hb3)
    have HK3 := Lib.hid (HK2.out.below hb3 HK2.out.lt)
    clear f0 f1 f2
    have f0 : W3.cell? ⟨w.heap.size, 0, none⟩ = some (.slice Aa na ca) := HK3.out.cell 0
    have f1 : W3.cell? ⟨w.heap.size, 1, none⟩ = some (.slice At nt ct) := HK3.out.cell 1
    have f2 : W3.cell? ⟨w.heap.size, 2, none⟩ = some (.slice Ab nb cb) := HK3.out.cell 2
    clear hb3
    obtain ⟨⟨tx, te⟩, htx⟩ : ∃ r, r = textAt ab at_ l i := ⟨_, rfl⟩
    rw [← htx]
    clear htx
    have hfa := allF_facts ab at_ l at_.length 0 [] (fun x hx => (by cases hx))
    have HFA : Hid ((∀ x ∈ (allL ab at_ l).1, textB x = true) ∧ (allL ab at_ l).1.length ≤ [].length (α := List UInt8) + at_.length) := Lib.hid hfa
    clear hfa
    go_wp2_with fail
    refine (pall_any W3 Aa At Ab na ca nt ct nb cb ab at_ l ((HA.out.below HB3.out).more HB3.out.size) ((HT.out.below HB3.out).more HB3.out.size) ((HR.out.below HB3.out).more HB3.out.size) HM.out (by omega) (by omega) (by omega) HCB.out).mono ?_
    rintro e W4 ⟨A3, n3, c3, rfl, ho3, hb4⟩
    have HB4 := Lib.hid (after8 HB3.out hb4)
    have HK4 := Lib.hid (HK3.out.below hb4 HK3.out.lt)
    clear f0 f1 f2
    have f0 : W4.cell? ⟨w.heap.size, 0, none⟩ = some (.slice Aa na ca) := HK4.out.cell 0
    have f1 : W4.cell? ⟨w.heap.size, 1, none⟩ = some (.slice At nt ct) := HK4.out.cell 1
    have f2 : W4.cell? ⟨w.heap.size, 2, none⟩ = some (.slice Ab nb cb) := HK4.out.cell 2
    have HR3a := Lib.hid (RdS.of_own ho3)
    clear hb4 ho3
    go_wp2_with fail
    refine (rPall_any W4 Aa At Ab na ca nt ct nb cb ab at_ l ((HA.out.below HB4.out).more HB4.out.size) ((HT.out.below HB4.out).more HB4.out.size) ((HR.out.below HB4.out).more HB4.out.size) HM.out (by omega) (by omega) (by omega) HCB.out).mono ?_
    rintro e X ⟨A4, n4, c4, rfl, ho4, hb5⟩
    have HBX := Lib.hid (after8 HB4.out hb5)
    have HKX := Lib.hid (HK4.out.below hb5 HK4.out.lt)
    have HR3b := Lib.hid ((HR3a.out.below hb5).more hb5.size)
    have HR4b := Lib.hid (RdS.of_own ho4)
    clear hb5 ho4 f0 f1 f2
    obtain ⟨⟨bt, ae⟩, hae⟩ : ∃ r, r = allL ab at_ l := ⟨_, rfl⟩
    have HALL := Lib.hid hae.symm
    have HFB := HFA
    rw [← hae] at HFB HR3b HR4b ⊢
    have HR3 : Hid (RdS X X.heap.size A3 n3 bt) := HR3b
    have HR4 : Hid (RdS X X.heap.size A4 n4 bt) := HR4b
    have hn4 : n4 ≤ 30 := by
      have h1 := HFB.out.2
      have h2 := HR4.out.1
      have h3 := HT.out.1
      change bt.length ≤ 0 + at_.length at h1
      omega
    have hn3 : n3 ≤ 30 := by
      have h2 := HR4.out.1
      have h3 := HR3.out.1
      omega
    have HTOT : Hid (tot bt ≤ 40000) := Lib.hid (by
      have h1 := tot_le_of (ls := bt) HFB.out.1
      have h2 := HR4.out.1
      omega)
    have HXL : Hid (∀ k : Nat, (bt[k]?.getD []).length ≤ 1024) := Lib.hid (fun k => by
      by_cases hk : k < bt.length
      · rw [List.getElem?_eq_getElem hk]
        exact textB_cases (HFB.out.1 _ (List.getElem_mem hk))
      · rw [List.getElem?_eq_none (by omega)]
        exact Nat.zero_le _)
    have hcell0 : ∀ u, Below X.heap.size X u → u.cell? ⟨w.heap.size, 0, none⟩ = some (.slice Aa na ca) := fun u hu => (HKX.out.below hu HKX.out.lt).cell 0
    have hcell1 : ∀ u, Below X.heap.size X u → u.cell? ⟨w.heap.size, 1, none⟩ = some (.slice At nt ct) := fun u hu => (HKX.out.below hu HKX.out.lt).cell 1
    have hcell2 : ∀ u, Below X.heap.size X u → u.cell? ⟨w.heap.size, 2, none⟩ = some (.slice Ab nb cb) := fun u hu => (HKX.out.below hu HKX.out.lt).cell 2
    clear hae HFA HFB HR3a HR3b HR4b
    go_wp2_with fail
    refine wp_region_held_drew (S := Below X.heap.size X) (by kernel_rfl) ((Below.refl _ _).drew) (fun hHeld => ?_)
    refine held_take (i := 0) (fuel := 26) (v := ?_) (by rw [List.getElem?_toArray]; rfl) (by kernel_rfl) (by kernel_rfl) (by kernel_rfl) hHeld ?_ ?_ ?_ ?_
    rotate_left
    · intro u hSw
      go_simp
      try with_reducible rfl
    · rfl
    · exact fun _ _ _ h => h
    try simp only [Act.put, List.setIfInBounds_toArray, List.set_cons_zero, List.set_cons_succ]
    refine held_take (i := 1) (fuel := 25) (v := ?_) (by rw [List.getElem?_toArray]; rfl) (by kernel_rfl) (by kernel_rfl) (by kernel_rfl) hHeld ?_ ?_ ?_ ?_
    rotate_left
    · intro u hSw
      go_simp
      try with_reducible rfl
    · rfl
    · exact fun _ _ _ h => h
    try simp only [Act.put, List.setIfInBounds_toArray, List.set_cons_zero, List.set_cons_succ]
    refine held_take (i := 2) (fuel := 24) (v := ?_) (by rw [List.getElem?_toArray]; rfl) (by kernel_rfl) (by kernel_rfl) (by kernel_rfl) hHeld ?_ ?_ ?_ ?_
    rotate_left
    · intro u hSw
      go_simp
      try with_reducible rfl
    · rfl
    · exact fun _ _ _ h => h
    try simp only [Act.put, List.setIfInBounds_toArray, List.set_cons_zero, List.set_cons_succ]
    refine held_take (i := 3) (fuel := 23) (v := ?_) (by rw [List.getElem?_toArray]; rfl) (by kernel_rfl) (by kernel_rfl) (by kernel_rfl) hHeld ?_ ?_ ?_ ?_
    rotate_left
    · intro u hSw
      go_simp
      try with_reducible rfl
    · rfl
    · exact fun _ _ _ h => h
    try simp only [Act.put, List.setIfInBounds_toArray, List.set_cons_zero, List.set_cons_succ]
    refine held_take (i := 4) (fuel := 22) (v := ?_) (by rw [List.getElem?_toArray]; rfl) (by kernel_rfl) (by kernel_rfl) (by kernel_rfl) hHeld ?_ ?_ ?_ ?_
    rotate_left
    · intro u hSw
      go_simp
      try with_reducible rfl
    · rfl
    · exact fun _ _ _ h => h
    try simp only [Act.put, List.setIfInBounds_toArray, List.set_cons_zero, List.set_cons_succ]
    refine held_take (i := 5) (fuel := 21) (v := ?_) (by rw [List.getElem?_toArray]; rfl) (by kernel_rfl) (by kernel_rfl) (by kernel_rfl) hHeld ?_ ?_ ?_ ?_
    rotate_left
    · intro u hSw
      go_simp
      try with_reducible rfl
    · rfl
    · exact fun _ _ _ h => h
    try simp only [Act.put, List.setIfInBounds_toArray, List.set_cons_zero, List.set_cons_succ]
    refine held_take (i := 6) (fuel := 20) (v := ?_) (by rw [List.getElem?_toArray]; rfl) (by kernel_rfl) (by kernel_rfl) (by kernel_rfl) hHeld ?_ ?_ ?_ ?_
    rotate_left
    · intro u hSw
      go_simp
      try with_reducible rfl
    · rfl
    · exact fun _ _ _ h => h
    try simp only [Act.put, List.setIfInBounds_toArray, List.set_cons_zero, List.set_cons_succ]
    refine held_take (i := 7) (fuel := 19) (v := ?_) (by rw [List.getElem?_toArray]; rfl) (by kernel_rfl) (by kernel_rfl) (by kernel_rfl) hHeld ?_ ?_ ?_ ?_
    rotate_left
    · intro u hSw
      go_simp
      try with_reducible rfl
    · rfl
    · exact fun _ _ _ h => h
    try simp only [Act.put, List.setIfInBounds_toArray, List.set_cons_zero, List.set_cons_succ]
    refine held_take (i := 8) (fuel := 18) (v := ?_) (by rw [List.getElem?_toArray]; rfl) (by kernel_rfl) (by kernel_rfl) (by kernel_rfl) hHeld ?_ ?_ ?_ ?_
    rotate_left
    · intro u hSw
      go_simp
      try with_reducible rfl
    · rfl
    · exact fun _ _ _ h => h
    try simp only [Act.put, List.setIfInBounds_toArray, List.set_cons_zero, List.set_cons_succ]
    refine held_take (i := 9) (fuel := 17) (v := ?_) (by rw [List.getElem?_toArray]; rfl) (by kernel_rfl) (by kernel_rfl) (by kernel_rfl) hHeld ?_ ?_ ?_ ?_
    rotate_left
    · intro u hSw
      go_simp
      try with_reducible rfl
    · rfl
    · exact fun _ _ _ h => h
    try simp only [Act.put, List.setIfInBounds_toArray, List.set_cons_zero, List.set_cons_succ]
    refine held_take (i := 10) (fuel := 16) (v := ?_) (by rw [List.getElem?_toArray]; rfl) (by kernel_rfl) (by kernel_rfl) (by kernel_rfl) hHeld ?_ ?_ ?_ ?_
    rotate_left
    · intro u hSw
      go_simp
      try with_reducible rfl
    · rfl
    · exact fun _ _ _ h => h
    try simp only [Act.put, List.setIfInBounds_toArray, List.set_cons_zero, List.set_cons_succ]
    refine held_one (i := 11) (fuel := 15) (by kernel_rfl) (by rw [List.getElem?_toArray]; rfl) (fun K hK => ?_)
    go_simp
    refine (rtexts_any _ _ _ A3 A4 n3 n4 c3 c4 bt bt (HR3.out.below hHeld) (HR4.out.below hHeld) (by omega) (by omega)).mono ?_
    rintro e w7 ⟨rfl, hb7⟩
    rw [eqT_self]
    refine hK.out _ _ ?_ (fun hHeld => ?_)
    · exact hHeld.trans (hb7.mono hHeld.size)
    clear hK K
    try simp only [Act.put, List.setIfInBounds_toArray, List.set_cons_zero, List.set_cons_succ]
    refine held_take (i := 12) (fuel := 14) (v := ?_) (by rw [List.getElem?_toArray]; rfl) (by kernel_rfl) (by kernel_rfl) (by kernel_rfl) hHeld ?_ ?_ ?_ ?_
    rotate_left
    · intro u hSw
      go_simp
      try with_reducible rfl
    · rfl
    · exact fun _ _ _ h => h
    try simp only [Act.put, List.setIfInBounds_toArray, List.set_cons_zero, List.set_cons_succ]
    refine held_take (i := 13) (fuel := 13) (v := ?_) (by rw [List.getElem?_toArray]; rfl) (by kernel_rfl) (by kernel_rfl) (by kernel_rfl) hHeld ?_ ?_ ?_ ?_
    rotate_left
    · intro u hSw
      go_simp
      try with_reducible rfl
    · rfl
    · exact fun _ _ _ h => h
    try simp only [Act.put, List.setIfInBounds_toArray, List.set_cons_zero, List.set_cons_succ]
    refine held_take (i := 14) (fuel := 12) (v := ?_) (by rw [List.getElem?_toArray]; rfl) (by kernel_rfl) (by kernel_rfl) (by kernel_rfl) hHeld ?_ ?_ ?_ ?_
    rotate_left
    · intro u hSw
      go_simp
      try with_reducible rfl
    · rfl
    · exact fun _ _ _ h => h
    try simp only [Act.put, List.setIfInBounds_toArray, List.set_cons_zero, List.set_cons_succ]
    refine held_take (i := 15) (fuel := 11) (v := ?_) (by rw [List.getElem?_toArray]; rfl) (by kernel_rfl) (by kernel_rfl) (by kernel_rfl) hHeld ?_ ?_ ?_ ?_
    rotate_left
    · intro u hSw
      go_simp
      try with_reducible rfl
    · rfl
    · exact fun _ _ _ h => h
    try simp only [Act.put, List.setIfInBounds_toArray, List.set_cons_zero, List.set_cons_succ]
    refine held_take (i := 16) (fuel := 10) (v := ?_) (by rw [List.getElem?_toArray]; rfl) (by kernel_rfl) (by kernel_rfl) (by kernel_rfl) hHeld ?_ ?_ ?_ ?_
    rotate_left
    · intro u hSw
      go_simp
      try with_reducible rfl
    · rfl
    · exact fun _ _ _ h => h
    try simp only [Act.put, List.setIfInBounds_toArray, List.set_cons_zero, List.set_cons_succ]
    refine held_take (i := 17) (fuel := 9) (v := ?_) (by rw [List.getElem?_toArray]; rfl) (by kernel_rfl) (by kernel_rfl) (by kernel_rfl) hHeld ?_ ?_ ?_ ?_
    rotate_left
    · intro u hSw
      go_simp
      try with_reducible rfl
    · rfl
    · exact fun _ _ _ h => h
    try simp only [Act.put, List.setIfInBounds_toArray, List.set_cons_zero, List.set_cons_succ]
    refine held_take (i := 18) (fuel := 8) (v := ?_) (by rw [List.getElem?_toArray]; rfl) (by kernel_rfl) (by kernel_rfl) (by kernel_rfl) hHeld ?_ ?_ ?_ ?_
    rotate_left
    · intro u hSw
      go_simp
      try with_reducible rfl
    · rfl
    · exact fun _ _ _ h => h
    try simp only [Act.put, List.setIfInBounds_toArray, List.set_cons_zero, List.set_cons_succ]
    refine held_take (i := 19) (fuel := 7) (v := ?_) (by rw [List.getElem?_toArray]; rfl) (by kernel_rfl) (by kernel_rfl) (by kernel_rfl) hHeld ?_ ?_ ?_ ?_
    rotate_left
    · intro u hSw
      go_simp
      try with_reducible rfl
    · rfl
    · exact fun _ _ _ h => h
    try simp only [Act.put, List.setIfInBounds_toArray, List.set_cons_zero, List.set_cons_succ]
    refine held_take (i := 20) (fuel := 6) (v := ?_) (by rw [List.getElem?_toArray]; rfl) (by kernel_rfl) (by kernel_rfl) (by kernel_rfl) hHeld ?_ ?_ ?_ ?_
    rotate_left
    · intro u hSw
      have hc0 := hcell0 u hSw
      have hc1 := hcell1 u hSw
      have hc2 := hcell2 u hSw
      go_simp
      try with_reducible rfl
    · rfl
    · exact fun _ _ _ h => h
    try simp only [Act.put, List.setIfInBounds_toArray, List.set_cons_zero, List.set_cons_succ]
    refine held_take (i := 22) (fuel := 5) (v := ?_) (by rw [List.getElem?_toArray]; rfl) (by kernel_rfl) (by kernel_rfl) (by kernel_rfl) hHeld ?_ ?_ ?_ ?_
    rotate_left
    · intro u hSw
      go_simp
      try with_reducible rfl
    · rfl
    · exact fun _ _ _ h => h
    try simp only [Act.put, List.setIfInBounds_toArray, List.set_cons_zero, List.set_cons_succ]
    refine held_take (i := 23) (fuel := 4) (v := ?_) (by rw [List.getElem?_toArray]; rfl) (by kernel_rfl) (by kernel_rfl) (by kernel_rfl) hHeld ?_ ?_ ?_ ?_
    rotate_left
    · intro u hSw
      have hc1 := hcell1 u hSw
      go_simp
      try with_reducible rfl
    · rfl
    · exact fun _ _ _ h => h
    try simp only [Act.put, List.setIfInBounds_toArray, List.set_cons_zero, List.set_cons_succ]
    refine wpAnyH_ready (rs := [21, 24]) (fuel := 3) (by kernel_rfl) (by simp) ?_
    refine AllReadyH.cons (by rw [List.getElem?_toArray]; rfl) (fun K hK => ?_) ?_
    ·
      go_simp
      refine (pcount_any _ Aa At Ab na ca nt ct nb cb).mono ?_
      rintro e w8 ⟨rfl, hb8⟩
      refine hK.out _ _ ?_ (fun hHeld => ?_)
      · exact hHeld.trans (hb8.mono hHeld.size)
      clear hK K
      try simp only [Act.put, List.setIfInBounds_toArray, List.set_cons_zero, List.set_cons_succ]
      refine held_one (i := 24) (fuel := 2) (by kernel_rfl) (by rw [List.getElem?_toArray]; rfl) (fun K hK => ?_)
      go_simp
      refine hK.out _ _ ?_ (fun hHeld => ?_)
      · exact hHeld
      clear hK K
      try simp only [Act.put, List.setIfInBounds_toArray, List.set_cons_zero, List.set_cons_succ]
      refine held_take (i := 25) (fuel := 1) (v := ?_) (by rw [List.getElem?_toArray]; rfl) (by kernel_rfl) (by kernel_rfl) (by kernel_rfl) hHeld ?_ ?_ ?_ ?_
      rotate_left
      · intro u hSw
        go_simp
        try with_reducible rfl
      · rfl
      · exact fun _ _ _ h => h
      try simp only [Act.put, List.setIfInBounds_toArray, List.set_cons_zero, List.set_cons_succ]
      refine held_take (i := 26) (fuel := 0) (v := ?_) (by rw [List.getElem?_toArray]; rfl) (by kernel_rfl) (by kernel_rfl) (by kernel_rfl) hHeld ?_ ?_ ?_ ?_
      rotate_left
      · intro u hSw
        go_simp
        try with_reducible rfl
      · rfl
      · exact fun _ _ _ h => h
      try simp only [Act.put, List.setIfInBounds_toArray, List.set_cons_zero, List.set_cons_succ]
      refine wpAnyH_done (by kernel_rfl) ?_ _
      have HBY := Lib.hid hHeld
      clear hHeld
      go_wp2_with fail
      go_loopw [13, 14] (fun v i wr => ∃ (k q : Nat), k ≤ n4 ∧ i = .int .i64 k ∧ v = .int .i64 q ∧ Hid (q = tot (bt.take k)) ∧ Hid (Below X.heap.size X wr)) (fun _ i _ => n4 - (intOf i).toNat)
      case atStart => exact ⟨0, 0, Nat.zero_le _, rfl, rfl, Lib.hid rfl, HBY⟩
      case round =>
        obtain ⟨k, q, hk, rfl, rfl, HQT, HBXR⟩ := hrel
        have hqb : q ≤ 40000 := by
          have h1 := tot_take_le bt k
          have h2 := HTOT.out
          have h3 := HQT.out
          omega
        by_cases hlt : k < n4
        · obtain ⟨ad, rfl, hab, hcl⟩ := HR4.out.2 (by omega)
          have kx := (HBXR.out.cell (p := ad.add k) (by rw [blk_add]; exact hab)).trans (hcl k (by rw [HR4.out.1]; exact hlt))
          have HTK := Lib.hid (tot_take (ls := bt) (j := k) (by rw [HR4.out.1]; exact hlt))
          have hxl := HXL.out k
          obtain ⟨x, hx⟩ : ∃ x, x = bt[k]?.getD [] := ⟨_, rfl⟩
          rw [← hx] at kx HTK hxl
          have hsz : (bs x).size = x.length := bs_size x
          obtain ⟨xn, hxn⟩ : ∃ xn, xn = x.length := ⟨_, rfl⟩
          rw [← hxn] at HTK hxl hsz
          clear hcl hx hxn
          go_wp2_with fail
          go_roundw
          case rel => exact ⟨k + 1, q + xn, by omega, by go_num, by go_num, Lib.hid (by rw [HTK.out, ← HQT.out]), HBXR⟩
          case measure => simp [intOf]; omega
        · have HQE : Hid (q = tot bt) := Lib.hid (by rw [HQT.out, List.take_of_length_le (by rw [HR4.out.1]; omega)])
          have HBZ := Lib.hid (HBX.out.trans (HBXR.out.mono HBX.out.size))
          have hkk := HKX.out.below HBXR.out HKX.out.lt
          have HKZ := Lib.hid hkk
          have hcell0 : ∀ u, Below wr.heap.size wr u → u.cell? ⟨w.heap.size, 0, none⟩ = some (.slice Aa na ca) := fun u hu => (HKZ.out.below hu HKZ.out.lt).cell 0
          have hcell1 : ∀ u, Below wr.heap.size wr u → u.cell? ⟨w.heap.size, 1, none⟩ = some (.slice At nt ct) := fun u hu => (HKZ.out.below hu HKZ.out.lt).cell 1
          have hcell2 : ∀ u, Below wr.heap.size wr u → u.cell? ⟨w.heap.size, 2, none⟩ = some (.slice Ab nb cb) := fun u hu => (HKZ.out.below hu HKZ.out.lt).cell 2
          clear hkk
          by_cases hbig : (600 : Int) < q
          · have d0 : decide ((600 : Int) < (q : Int)) = true := decide_eq_true hbig
            go_wp2_with fail
            refine wp_region_held_drew (S := Below wr.heap.size wr) (by kernel_rfl) ((Below.refl _ _).drew) (fun hHeld => ?_)
            refine held_take (i := 0) (fuel := 12) (v := ?_) (by rw [List.getElem?_toArray]; rfl) (by kernel_rfl) (by kernel_rfl) (by kernel_rfl) hHeld ?_ ?_ ?_ ?_
            rotate_left
            · intro u hSw
              go_simp
              try with_reducible rfl
            · rfl
            · exact fun _ _ _ h => h
            try simp only [Act.put, List.setIfInBounds_toArray, List.set_cons_zero, List.set_cons_succ]
            refine held_take (i := 1) (fuel := 11) (v := ?_) (by rw [List.getElem?_toArray]; rfl) (by kernel_rfl) (by kernel_rfl) (by kernel_rfl) hHeld ?_ ?_ ?_ ?_
            rotate_left
            · intro u hSw
              go_simp
              try with_reducible rfl
            · rfl
            · exact fun _ _ _ h => h
            try simp only [Act.put, List.setIfInBounds_toArray, List.set_cons_zero, List.set_cons_succ]
            refine held_take (i := 2) (fuel := 10) (v := ?_) (by rw [List.getElem?_toArray]; rfl) (by kernel_rfl) (by kernel_rfl) (by kernel_rfl) hHeld ?_ ?_ ?_ ?_
            rotate_left
            · intro u hSw
              go_simp
              try with_reducible rfl
            · rfl
            · exact fun _ _ _ h => h
            try simp only [Act.put, List.setIfInBounds_toArray, List.set_cons_zero, List.set_cons_succ]
            refine held_skip (i := 3) (fuel := 9) (by rw [List.getElem?_toArray]; rfl) (by kernel_rfl) (by kernel_rfl) (by kernel_rfl) hHeld ?_ ?_ ?_
            · rfl
            · exact fun _ _ _ h => h
            try simp only [Act.put, List.setIfInBounds_toArray, List.set_cons_zero, List.set_cons_succ]
            refine held_skip (i := 4) (fuel := 8) (by rw [List.getElem?_toArray]; rfl) (by kernel_rfl) (by kernel_rfl) (by kernel_rfl) hHeld ?_ ?_ ?_
            · rfl
            · exact fun _ _ _ h => h
            try simp only [Act.put, List.setIfInBounds_toArray, List.set_cons_zero, List.set_cons_succ]
            refine held_skip (i := 5) (fuel := 7) (by rw [List.getElem?_toArray]; rfl) (by kernel_rfl) (by kernel_rfl) (by kernel_rfl) hHeld ?_ ?_ ?_
            · rfl
            · exact fun _ _ _ h => h
            try simp only [Act.put, List.setIfInBounds_toArray, List.set_cons_zero, List.set_cons_succ]
            refine held_skip (i := 6) (fuel := 6) (by rw [List.getElem?_toArray]; rfl) (by kernel_rfl) (by kernel_rfl) (by kernel_rfl) hHeld ?_ ?_ ?_
            · rfl
            · exact fun _ _ _ h => h
            try simp only [Act.put, List.setIfInBounds_toArray, List.set_cons_zero, List.set_cons_succ]
            refine held_skip (i := 7) (fuel := 5) (by rw [List.getElem?_toArray]; rfl) (by kernel_rfl) (by kernel_rfl) (by kernel_rfl) hHeld ?_ ?_ ?_
            · rfl
            · exact fun _ _ _ h => h
            try simp only [Act.put, List.setIfInBounds_toArray, List.set_cons_zero, List.set_cons_succ]
            refine held_take (i := 8) (fuel := 4) (v := ?_) (by rw [List.getElem?_toArray]; rfl) (by kernel_rfl) (by kernel_rfl) (by kernel_rfl) hHeld ?_ ?_ ?_ ?_
            rotate_left
            · intro u hSw
              go_simp
              try with_reducible rfl
            · rfl
            · exact fun _ _ _ h => h
            try simp only [Act.put, List.setIfInBounds_toArray, List.set_cons_zero, List.set_cons_succ]
            refine held_take (i := 9) (fuel := 3) (v := ?_) (by rw [List.getElem?_toArray]; rfl) (by kernel_rfl) (by kernel_rfl) (by kernel_rfl) hHeld ?_ ?_ ?_ ?_
            rotate_left
            · intro u hSw
              go_simp
              try with_reducible rfl
            · rfl
            · exact fun _ _ _ h => h
            try simp only [Act.put, List.setIfInBounds_toArray, List.set_cons_zero, List.set_cons_succ]
            refine held_one (i := 10) (fuel := 2) (by kernel_rfl) (by rw [List.getElem?_toArray]; rfl) (fun K hK => ?_)
            go_simp
            refine (awake8_any _ (HMX.out.up (HBZ.out.trans (hHeld.mono HBZ.out.size)))).mono ?_
            rintro e wz ⟨rfl, hbz⟩
            refine hK.out _ _ ?_ (fun hHeld => ?_)
            · exact hHeld.trans (hbz.mono hHeld.size)
            clear hK K
            try simp only [Act.put, List.setIfInBounds_toArray, List.set_cons_zero, List.set_cons_succ]
            refine held_take (i := 11) (fuel := 1) (v := ?_) (by rw [List.getElem?_toArray]; rfl) (by kernel_rfl) (by kernel_rfl) (by kernel_rfl) hHeld ?_ ?_ ?_ ?_
            rotate_left
            · intro u hSw
              go_simp
              try with_reducible rfl
            · rfl
            · exact fun _ _ _ h => h
            try simp only [Act.put, List.setIfInBounds_toArray, List.set_cons_zero, List.set_cons_succ]
            refine held_take (i := 12) (fuel := 0) (v := ?_) (by rw [List.getElem?_toArray]; rfl) (by kernel_rfl) (by kernel_rfl) (by kernel_rfl) hHeld ?_ ?_ ?_ ?_
            rotate_left
            · intro u hSw
              go_simp
              try with_reducible rfl
            · rfl
            · exact fun _ _ _ h => h
            try simp only [Act.put, List.setIfInBounds_toArray, List.set_cons_zero, List.set_cons_succ]
            refine wpAnyH_done (by kernel_rfl) ?_ _
            have J6 := HBZ.out.trans (hHeld.mono HBZ.out.size)
            go_wp2
            go_ret
            exact ⟨rfl, J6⟩
          · have d0 : decide ((600 : Int) < (q : Int)) = false := decide_eq_false hbig
            have HSB : Hid (Short_ 1000 (allL ab at_ l).1) := Lib.hid (by
              rw [HALL.out]
              refine short_of_mem fun y hy => ?_
              have h1 := tot_mem hy
              change y.length ≤ tot bt at h1
              have h2 := HQE.out
              show y.length ≤ 1000
              omega)
            have HTB : Hid ((allL ab at_ l).1.length + tot (allL ab at_ l).1 ≤ 10000) := Lib.hid (by
              rw [HALL.out]
              show bt.length + tot bt ≤ 10000
              have h1 := HQE.out
              have h2 := HR4.out.1
              omega)
            obtain ⟨qq, hqq⟩ : ∃ qq, qq = rightL ab at_ l := ⟨_, rfl⟩
            have HQ := Lib.hid hqq.symm
            have t9 : (qq == qq) = true := by simp
            clear hqq
            go_wp2_with fail
            refine wp_region_held_drew (S := Below wr.heap.size wr) (by kernel_rfl) ((Below.refl _ _).drew) (fun hHeld => ?_)
            refine held_take (i := 0) (fuel := 12) (v := ?_) (by rw [List.getElem?_toArray]; rfl) (by kernel_rfl) (by kernel_rfl) (by kernel_rfl) hHeld ?_ ?_ ?_ ?_
            rotate_left
            · intro u hSw
              go_simp
              try with_reducible rfl
            · rfl
            · exact fun _ _ _ h => h
            try simp only [Act.put, List.setIfInBounds_toArray, List.set_cons_zero, List.set_cons_succ]
            refine held_take (i := 1) (fuel := 11) (v := ?_) (by rw [List.getElem?_toArray]; rfl) (by kernel_rfl) (by kernel_rfl) (by kernel_rfl) hHeld ?_ ?_ ?_ ?_
            rotate_left
            · intro u hSw
              go_simp
              try with_reducible rfl
            · rfl
            · exact fun _ _ _ h => h
            try simp only [Act.put, List.setIfInBounds_toArray, List.set_cons_zero, List.set_cons_succ]
            refine held_take (i := 2) (fuel := 10) (v := ?_) (by rw [List.getElem?_toArray]; rfl) (by kernel_rfl) (by kernel_rfl) (by kernel_rfl) hHeld ?_ ?_ ?_ ?_
            rotate_left
            · intro u hSw
              go_simp
              try with_reducible rfl
            · rfl
            · exact fun _ _ _ h => h
            try simp only [Act.put, List.setIfInBounds_toArray, List.set_cons_zero, List.set_cons_succ]
            refine held_take (i := 3) (fuel := 9) (v := ?_) (by rw [List.getElem?_toArray]; rfl) (by kernel_rfl) (by kernel_rfl) (by kernel_rfl) hHeld ?_ ?_ ?_ ?_
            rotate_left
            · intro u hSw
              have hc0 := hcell0 u hSw
              have hc1 := hcell1 u hSw
              have hc2 := hcell2 u hSw
              go_simp
              try with_reducible rfl
            · rfl
            · exact fun _ _ _ h => h
            try simp only [Act.put, List.setIfInBounds_toArray, List.set_cons_zero, List.set_cons_succ]
            refine held_take (i := 5) (fuel := 8) (v := ?_) (by rw [List.getElem?_toArray]; rfl) (by kernel_rfl) (by kernel_rfl) (by kernel_rfl) hHeld ?_ ?_ ?_ ?_
            rotate_left
            · intro u hSw
              have hc0 := hcell0 u hSw
              have hc1 := hcell1 u hSw
              have hc2 := hcell2 u hSw
              go_simp
              try with_reducible rfl
            · rfl
            · exact fun _ _ _ h => h
            try simp only [Act.put, List.setIfInBounds_toArray, List.set_cons_zero, List.set_cons_succ]
            refine held_one (i := 4) (fuel := 7) (by kernel_rfl) (by rw [List.getElem?_toArray]; rfl) (fun K hK => ?_)
            go_simp
            refine (pright_any _ Aa At Ab na ca nt ct nb cb ab at_ l ((HA.out.below (HBZ.out.trans (hHeld.mono HBZ.out.size))).more (Nat.le_trans HBZ.out.size hHeld.size)) ((HT.out.below (HBZ.out.trans (hHeld.mono HBZ.out.size))).more (Nat.le_trans HBZ.out.size hHeld.size)) ((HR.out.below (HBZ.out.trans (hHeld.mono HBZ.out.size))).more (Nat.le_trans HBZ.out.size hHeld.size)) HM.out (by omega) (by omega) (by omega) HCB.out HSB.out HTB.out (HMX.out.up (HBZ.out.trans (hHeld.mono HBZ.out.size)))).mono ?_
            rintro e w8 ⟨rfl, hb8⟩
            rw [HQ.out]
            refine hK.out _ _ ?_ (fun hHeld => ?_)
            · exact hHeld.trans (hb8.mono hHeld.size)
            clear hK K
            try simp only [Act.put, List.setIfInBounds_toArray, List.set_cons_zero, List.set_cons_succ]
            refine held_one (i := 6) (fuel := 6) (by kernel_rfl) (by rw [List.getElem?_toArray]; rfl) (fun K hK => ?_)
            go_simp
            refine (rright_any _ Aa At Ab na ca nt ct nb cb ab at_ l ((HA.out.below (HBZ.out.trans (hHeld.mono HBZ.out.size))).more (Nat.le_trans HBZ.out.size hHeld.size)) ((HT.out.below (HBZ.out.trans (hHeld.mono HBZ.out.size))).more (Nat.le_trans HBZ.out.size hHeld.size)) ((HR.out.below (HBZ.out.trans (hHeld.mono HBZ.out.size))).more (Nat.le_trans HBZ.out.size hHeld.size)) HM.out (by omega) (by omega) (by omega) HCB.out HSB.out HTB.out).mono ?_
            rintro e w9 ⟨rfl, hb9⟩
            rw [HQ.out]
            refine hK.out _ _ ?_ (fun hHeld => ?_)
            · exact hHeld.trans (hb9.mono hHeld.size)
            clear hK K
            try simp only [Act.put, List.setIfInBounds_toArray, List.set_cons_zero, List.set_cons_succ]
            refine held_take (i := 7) (fuel := 5) (v := ?_) (by rw [List.getElem?_toArray]; rfl) (by kernel_rfl) (by kernel_rfl) (by kernel_rfl) hHeld ?_ ?_ ?_ ?_
            rotate_left
            · intro u hSw
              go_simp
              try with_reducible rfl
            · rfl
            · exact fun _ _ _ h => h
            try simp only [Act.put, List.setIfInBounds_toArray, List.set_cons_zero, List.set_cons_succ]
            refine held_take (i := 8) (fuel := 4) (v := ?_) (by rw [List.getElem?_toArray]; rfl) (by kernel_rfl) (by kernel_rfl) (by kernel_rfl) hHeld ?_ ?_ ?_ ?_
            rotate_left
            · intro u hSw
              go_simp
              try with_reducible rfl
            · rfl
            · exact fun _ _ _ h => h
            try simp only [Act.put, List.setIfInBounds_toArray, List.set_cons_zero, List.set_cons_succ]
            refine held_take (i := 9) (fuel := 3) (v := ?_) (by rw [List.getElem?_toArray]; rfl) (by kernel_rfl) (by kernel_rfl) (by kernel_rfl) hHeld ?_ ?_ ?_ ?_
            rotate_left
            · intro u hSw
              go_simp
              try with_reducible rfl
            · rfl
            · exact fun _ _ _ h => h
            try simp only [Act.put, List.setIfInBounds_toArray, List.set_cons_zero, List.set_cons_succ]
            refine held_one (i := 10) (fuel := 2) (by kernel_rfl) (by rw [List.getElem?_toArray]; rfl) (fun K hK => ?_)
            go_simp
            refine (awake8_any _ (HMX.out.up (HBZ.out.trans (hHeld.mono HBZ.out.size)))).mono ?_
            rintro e wz ⟨rfl, hbz⟩
            refine hK.out _ _ ?_ (fun hHeld => ?_)
            · exact hHeld.trans (hbz.mono hHeld.size)
            clear hK K
            try simp only [Act.put, List.setIfInBounds_toArray, List.set_cons_zero, List.set_cons_succ]
            refine held_take (i := 11) (fuel := 1) (v := ?_) (by rw [List.getElem?_toArray]; rfl) (by kernel_rfl) (by kernel_rfl) (by kernel_rfl) hHeld ?_ ?_ ?_ ?_
            rotate_left
            · intro u hSw
              go_simp
              try with_reducible rfl
            · rfl
            · exact fun _ _ _ h => h
            try simp only [Act.put, List.setIfInBounds_toArray, List.set_cons_zero, List.set_cons_succ]
            refine held_take (i := 12) (fuel := 0) (v := ?_) (by rw [List.getElem?_toArray]; rfl) (by kernel_rfl) (by kernel_rfl) (by kernel_rfl) hHeld ?_ ?_ ?_ ?_
            rotate_left
            · intro u hSw
              go_simp
              try with_reducible rfl
            · rfl
            · exact fun _ _ _ h => h
            try simp only [Act.put, List.setIfInBounds_toArray, List.set_cons_zero, List.set_cons_succ]
            refine wpAnyH_done (by kernel_rfl) ?_ _
            have J6 := HBZ.out.trans (hHeld.mono HBZ.out.size)
            go_wp2
            go_ret
            exact ⟨rfl, J6⟩
    refine AllReadyH.cons (by rw [List.getElem?_toArray]; rfl) (fun K hK => ?_) ?_
    ·
      go_simp
      refine hK.out _ _ ?_ (fun hHeld => ?_)
      · exact hHeld
      clear hK K
      try simp only [Act.put, List.setIfInBounds_toArray, List.set_cons_zero, List.set_cons_succ]
      refine held_one (i := 21) (fuel := 2) (by kernel_rfl) (by rw [List.getElem?_toArray]; rfl) (fun K hK => ?_)
      go_simp
      refine (pcount_any _ Aa At Ab na ca nt ct nb cb).mono ?_
      rintro e w8 ⟨rfl, hb8⟩
      refine hK.out _ _ ?_ (fun hHeld => ?_)
      · exact hHeld.trans (hb8.mono hHeld.size)
      clear hK K
      try simp only [Act.put, List.setIfInBounds_toArray, List.set_cons_zero, List.set_cons_succ]
      refine held_take (i := 25) (fuel := 1) (v := ?_) (by rw [List.getElem?_toArray]; rfl) (by kernel_rfl) (by kernel_rfl) (by kernel_rfl) hHeld ?_ ?_ ?_ ?_
      rotate_left
      · intro u hSw
        go_simp
        try with_reducible rfl
      · rfl
      · exact fun _ _ _ h => h
      try simp only [Act.put, List.setIfInBounds_toArray, List.set_cons_zero, List.set_cons_succ]
      refine held_take (i := 26) (fuel := 0) (v := ?_) (by rw [List.getElem?_toArray]; rfl) (by kernel_rfl) (by kernel_rfl) (by kernel_rfl) hHeld ?_ ?_ ?_ ?_
      rotate_left
      · intro u hSw
        go_simp
        try with_reducible rfl
      · rfl
      · exact fun _ _ _ h => h
      try simp only [Act.put, List.setIfInBounds_toArray, List.set_cons_zero, List.set_cons_succ]
      refine wpAnyH_done (by kernel_rfl) ?_ _
      have HBY := Lib.hid hHeld
      clear hHeld
      go_wp2_with fail
      go_loopw [13, 14] (fun v i wr => ∃ (k q : Nat), k ≤ n4 ∧ i = .int .i64 k ∧ v = .int .i64 q ∧ Hid (q = tot (bt.take k)) ∧ Hid (Below X.heap.size X wr)) (fun _ i _ => n4 - (intOf i).toNat)
      case atStart => exact ⟨0, 0, Nat.zero_le _, rfl, rfl, Lib.hid rfl, HBY⟩
      case round =>
        obtain ⟨k, q, hk, rfl, rfl, HQT, HBXR⟩ := hrel
        have hqb : q ≤ 40000 := by
          have h1 := tot_take_le bt k
          have h2 := HTOT.out
          have h3 := HQT.out
          omega
        by_cases hlt : k < n4
        · obtain ⟨ad, rfl, hab, hcl⟩ := HR4.out.2 (by omega)
          have kx := (HBXR.out.cell (p := ad.add k) (by rw [blk_add]; exact hab)).trans (hcl k (by rw [HR4.out.1]; exact hlt))
          have HTK := Lib.hid (tot_take (ls := bt) (j := k) (by rw [HR4.out.1]; exact hlt))
          have hxl := HXL.out k
          obtain ⟨x, hx⟩ : ∃ x, x = bt[k]?.getD [] := ⟨_, rfl⟩
          rw [← hx] at kx HTK hxl
          have hsz : (bs x).size = x.length := bs_size x
          obtain ⟨xn, hxn⟩ : ∃ xn, xn = x.length := ⟨_, rfl⟩
          rw [← hxn] at HTK hxl hsz
          clear hcl hx hxn
          go_wp2_with fail
          go_roundw
          case rel => exact ⟨k + 1, q + xn, by omega, by go_num, by go_num, Lib.hid (by rw [HTK.out, ← HQT.out]), HBXR⟩
          case measure => simp [intOf]; omega
        · have HQE : Hid (q = tot bt) := Lib.hid (by rw [HQT.out, List.take_of_length_le (by rw [HR4.out.1]; omega)])
          have HBZ := Lib.hid (HBX.out.trans (HBXR.out.mono HBX.out.size))
          have hkk := HKX.out.below HBXR.out HKX.out.lt
          have HKZ := Lib.hid hkk
          have hcell0 : ∀ u, Below wr.heap.size wr u → u.cell? ⟨w.heap.size, 0, none⟩ = some (.slice Aa na ca) := fun u hu => (HKZ.out.below hu HKZ.out.lt).cell 0
          have hcell1 : ∀ u, Below wr.heap.size wr u → u.cell? ⟨w.heap.size, 1, none⟩ = some (.slice At nt ct) := fun u hu => (HKZ.out.below hu HKZ.out.lt).cell 1
          have hcell2 : ∀ u, Below wr.heap.size wr u → u.cell? ⟨w.heap.size, 2, none⟩ = some (.slice Ab nb cb) := fun u hu => (HKZ.out.below hu HKZ.out.lt).cell 2
          clear hkk
          by_cases hbig : (600 : Int) < q
          · have d0 : decide ((600 : Int) < (q : Int)) = true := decide_eq_true hbig
            go_wp2_with fail
            refine wp_region_held_drew (S := Below wr.heap.size wr) (by kernel_rfl) ((Below.refl _ _).drew) (fun hHeld => ?_)
            refine held_take (i := 0) (fuel := 12) (v := ?_) (by rw [List.getElem?_toArray]; rfl) (by kernel_rfl) (by kernel_rfl) (by kernel_rfl) hHeld ?_ ?_ ?_ ?_
            rotate_left
            · intro u hSw
              go_simp
              try with_reducible rfl
            · rfl
            · exact fun _ _ _ h => h
            try simp only [Act.put, List.setIfInBounds_toArray, List.set_cons_zero, List.set_cons_succ]
            refine held_take (i := 1) (fuel := 11) (v := ?_) (by rw [List.getElem?_toArray]; rfl) (by kernel_rfl) (by kernel_rfl) (by kernel_rfl) hHeld ?_ ?_ ?_ ?_
            rotate_left
            · intro u hSw
              go_simp
              try with_reducible rfl
            · rfl
            · exact fun _ _ _ h => h
            try simp only [Act.put, List.setIfInBounds_toArray, List.set_cons_zero, List.set_cons_succ]
            refine held_take (i := 2) (fuel := 10) (v := ?_) (by rw [List.getElem?_toArray]; rfl) (by kernel_rfl) (by kernel_rfl) (by kernel_rfl) hHeld ?_ ?_ ?_ ?_
            rotate_left
            · intro u hSw
              go_simp
              try with_reducible rfl
            · rfl
            · exact fun _ _ _ h => h
            try simp only [Act.put, List.setIfInBounds_toArray, List.set_cons_zero, List.set_cons_succ]
            refine held_skip (i := 3) (fuel := 9) (by rw [List.getElem?_toArray]; rfl) (by kernel_rfl) (by kernel_rfl) (by kernel_rfl) hHeld ?_ ?_ ?_
            · rfl
            · exact fun _ _ _ h => h
            try simp only [Act.put, List.setIfInBounds_toArray, List.set_cons_zero, List.set_cons_succ]
            refine held_skip (i := 4) (fuel := 8) (by rw [List.getElem?_toArray]; rfl) (by kernel_rfl) (by kernel_rfl) (by kernel_rfl) hHeld ?_ ?_ ?_
            · rfl
            · exact fun _ _ _ h => h
            try simp only [Act.put, List.setIfInBounds_toArray, List.set_cons_zero, List.set_cons_succ]
            refine held_skip (i := 5) (fuel := 7) (by rw [List.getElem?_toArray]; rfl) (by kernel_rfl) (by kernel_rfl) (by kernel_rfl) hHeld ?_ ?_ ?_
            · rfl
            · exact fun _ _ _ h => h
            try simp only [Act.put, List.setIfInBounds_toArray, List.set_cons_zero, List.set_cons_succ]
            refine held_skip (i := 6) (fuel := 6) (by rw [List.getElem?_toArray]; rfl) (by kernel_rfl) (by kernel_rfl) (by kernel_rfl) hHeld ?_ ?_ ?_
            · rfl
            · exact fun _ _ _ h => h
            try simp only [Act.put, List.setIfInBounds_toArray, List.set_cons_zero, List.set_cons_succ]
            refine held_skip (i := 7) (fuel := 5) (by rw [List.getElem?_toArray]; rfl) (by kernel_rfl) (by kernel_rfl) (by kernel_rfl) hHeld ?_ ?_ ?_
            · rfl
            · exact fun _ _ _ h => h
            try simp only [Act.put, List.setIfInBounds_toArray, List.set_cons_zero, List.set_cons_succ]
            refine held_take (i := 8) (fuel := 4) (v := ?_) (by rw [List.getElem?_toArray]; rfl) (by kernel_rfl) (by kernel_rfl) (by kernel_rfl) hHeld ?_ ?_ ?_ ?_
            rotate_left
            · intro u hSw
              go_simp
              try with_reducible rfl
            · rfl
            · exact fun _ _ _ h => h
            try simp only [Act.put, List.setIfInBounds_toArray, List.set_cons_zero, List.set_cons_succ]
            refine held_take (i := 9) (fuel := 3) (v := ?_) (by rw [List.getElem?_toArray]; rfl) (by kernel_rfl) (by kernel_rfl) (by kernel_rfl) hHeld ?_ ?_ ?_ ?_
            rotate_left
            · intro u hSw
              go_simp
              try with_reducible rfl
            · rfl
            · exact fun _ _ _ h => h
            try simp only [Act.put, List.setIfInBounds_toArray, List.set_cons_zero, List.set_cons_succ]
            refine held_one (i := 10) (fuel := 2) (by kernel_rfl) (by rw [List.getElem?_toArray]; rfl) (fun K hK => ?_)
            go_simp
            refine (awake8_any _ (HMX.out.up (HBZ.out.trans (hHeld.mono HBZ.out.size)))).mono ?_
            rintro e wz ⟨rfl, hbz⟩
            refine hK.out _ _ ?_ (fun hHeld => ?_)
            · exact hHeld.trans (hbz.mono hHeld.size)
            clear hK K
            try simp only [Act.put, List.setIfInBounds_toArray, List.set_cons_zero, List.set_cons_succ]
            refine held_take (i := 11) (fuel := 1) (v := ?_) (by rw [List.getElem?_toArray]; rfl) (by kernel_rfl) (by kernel_rfl) (by kernel_rfl) hHeld ?_ ?_ ?_ ?_
            rotate_left
            · intro u hSw
              go_simp
              try with_reducible rfl
            · rfl
            · exact fun _ _ _ h => h
            try simp only [Act.put, List.setIfInBounds_toArray, List.set_cons_zero, List.set_cons_succ]
            refine held_take (i := 12) (fuel := 0) (v := ?_) (by rw [List.getElem?_toArray]; rfl) (by kernel_rfl) (by kernel_rfl) (by kernel_rfl) hHeld ?_ ?_ ?_ ?_
            rotate_left
            · intro u hSw
              go_simp
              try with_reducible rfl
            · rfl
            · exact fun _ _ _ h => h
            try simp only [Act.put, List.setIfInBounds_toArray, List.set_cons_zero, List.set_cons_succ]
            refine wpAnyH_done (by kernel_rfl) ?_ _
            have J6 := HBZ.out.trans (hHeld.mono HBZ.out.size)
            go_wp2
            go_ret
            exact ⟨rfl, J6⟩
          · have d0 : decide ((600 : Int) < (q : Int)) = false := decide_eq_false hbig
            have HSB : Hid (Short_ 1000 (allL ab at_ l).1) := Lib.hid (by
              rw [HALL.out]
              refine short_of_mem fun y hy => ?_
              have h1 := tot_mem hy
              change y.length ≤ tot bt at h1
              have h2 := HQE.out
              show y.length ≤ 1000
              omega)
            have HTB : Hid ((allL ab at_ l).1.length + tot (allL ab at_ l).1 ≤ 10000) := Lib.hid (by
              rw [HALL.out]
              show bt.length + tot bt ≤ 10000
              have h1 := HQE.out
              have h2 := HR4.out.1
              omega)
            obtain ⟨qq, hqq⟩ : ∃ qq, qq = rightL ab at_ l := ⟨_, rfl⟩
            have HQ := Lib.hid hqq.symm
            have t9 : (qq == qq) = true := by simp
            clear hqq
            go_wp2_with fail
            refine wp_region_held_drew (S := Below wr.heap.size wr) (by kernel_rfl) ((Below.refl _ _).drew) (fun hHeld => ?_)
            refine held_take (i := 0) (fuel := 12) (v := ?_) (by rw [List.getElem?_toArray]; rfl) (by kernel_rfl) (by kernel_rfl) (by kernel_rfl) hHeld ?_ ?_ ?_ ?_
            rotate_left
            · intro u hSw
              go_simp
              try with_reducible rfl
            · rfl
            · exact fun _ _ _ h => h
            try simp only [Act.put, List.setIfInBounds_toArray, List.set_cons_zero, List.set_cons_succ]
            refine held_take (i := 1) (fuel := 11) (v := ?_) (by rw [List.getElem?_toArray]; rfl) (by kernel_rfl) (by kernel_rfl) (by kernel_rfl) hHeld ?_ ?_ ?_ ?_
            rotate_left
            · intro u hSw
              go_simp
              try with_reducible rfl
            · rfl
            · exact fun _ _ _ h => h
            try simp only [Act.put, List.setIfInBounds_toArray, List.set_cons_zero, List.set_cons_succ]
            refine held_take (i := 2) (fuel := 10) (v := ?_) (by rw [List.getElem?_toArray]; rfl) (by kernel_rfl) (by kernel_rfl) (by kernel_rfl) hHeld ?_ ?_ ?_ ?_
            rotate_left
            · intro u hSw
              go_simp
              try with_reducible rfl
            · rfl
            · exact fun _ _ _ h => h
            try simp only [Act.put, List.setIfInBounds_toArray, List.set_cons_zero, List.set_cons_succ]
            refine held_take (i := 3) (fuel := 9) (v := ?_) (by rw [List.getElem?_toArray]; rfl) (by kernel_rfl) (by kernel_rfl) (by kernel_rfl) hHeld ?_ ?_ ?_ ?_
            rotate_left
            · intro u hSw
              have hc0 := hcell0 u hSw
              have hc1 := hcell1 u hSw
              have hc2 := hcell2 u hSw
              go_simp
              try with_reducible rfl
            · rfl
            · exact fun _ _ _ h => h
            try simp only [Act.put, List.setIfInBounds_toArray, List.set_cons_zero, List.set_cons_succ]
            refine held_take (i := 5) (fuel := 8) (v := ?_) (by rw [List.getElem?_toArray]; rfl) (by kernel_rfl) (by kernel_rfl) (by kernel_rfl) hHeld ?_ ?_ ?_ ?_
            rotate_left
            · intro u hSw
              have hc0 := hcell0 u hSw
              have hc1 := hcell1 u hSw
              have hc2 := hcell2 u hSw
              go_simp
              try with_reducible rfl
            · rfl
            · exact fun _ _ _ h => h
            try simp only [Act.put, List.setIfInBounds_toArray, List.set_cons_zero, List.set_cons_succ]
            refine held_one (i := 4) (fuel := 7) (by kernel_rfl) (by rw [List.getElem?_toArray]; rfl) (fun K hK => ?_)
            go_simp
            refine (pright_any _ Aa At Ab na ca nt ct nb cb ab at_ l ((HA.out.below (HBZ.out.trans (hHeld.mono HBZ.out.size))).more (Nat.le_trans HBZ.out.size hHeld.size)) ((HT.out.below (HBZ.out.trans (hHeld.mono HBZ.out.size))).more (Nat.le_trans HBZ.out.size hHeld.size)) ((HR.out.below (HBZ.out.trans (hHeld.mono HBZ.out.size))).more (Nat.le_trans HBZ.out.size hHeld.size)) HM.out (by omega) (by omega) (by omega) HCB.out HSB.out HTB.out (HMX.out.up (HBZ.out.trans (hHeld.mono HBZ.out.size)))).mono ?_
            rintro e w8 ⟨rfl, hb8⟩
            rw [HQ.out]
            refine hK.out _ _ ?_ (fun hHeld => ?_)
            · exact hHeld.trans (hb8.mono hHeld.size)
            clear hK K
            try simp only [Act.put, List.setIfInBounds_toArray, List.set_cons_zero, List.set_cons_succ]
            refine held_one (i := 6) (fuel := 6) (by kernel_rfl) (by rw [List.getElem?_toArray]; rfl) (fun K hK => ?_)
            go_simp
            refine (rright_any _ Aa At Ab na ca nt ct nb cb ab at_ l ((HA.out.below (HBZ.out.trans (hHeld.mono HBZ.out.size))).more (Nat.le_trans HBZ.out.size hHeld.size)) ((HT.out.below (HBZ.out.trans (hHeld.mono HBZ.out.size))).more (Nat.le_trans HBZ.out.size hHeld.size)) ((HR.out.below (HBZ.out.trans (hHeld.mono HBZ.out.size))).more (Nat.le_trans HBZ.out.size hHeld.size)) HM.out (by omega) (by omega) (by omega) HCB.out HSB.out HTB.out).mono ?_
            rintro e w9 ⟨rfl, hb9⟩
            rw [HQ.out]
            refine hK.out _ _ ?_ (fun hHeld => ?_)
            · exact hHeld.trans (hb9.mono hHeld.size)
            clear hK K
            try simp only [Act.put, List.setIfInBounds_toArray, List.set_cons_zero, List.set_cons_succ]
            refine held_take (i := 7) (fuel := 5) (v := ?_) (by rw [List.getElem?_toArray]; rfl) (by kernel_rfl) (by kernel_rfl) (by kernel_rfl) hHeld ?_ ?_ ?_ ?_
            rotate_left
            · intro u hSw
              go_simp
              try with_reducible rfl
            · rfl
            · exact fun _ _ _ h => h
            try simp only [Act.put, List.setIfInBounds_toArray, List.set_cons_zero, List.set_cons_succ]
            refine held_take (i := 8) (fuel := 4) (v := ?_) (by rw [List.getElem?_toArray]; rfl) (by kernel_rfl) (by kernel_rfl) (by kernel_rfl) hHeld ?_ ?_ ?_ ?_
            rotate_left
            · intro u hSw
              go_simp
              try with_reducible rfl
            · rfl
            · exact fun _ _ _ h => h
            try simp only [Act.put, List.setIfInBounds_toArray, List.set_cons_zero, List.set_cons_succ]
            refine held_take (i := 9) (fuel := 3) (v := ?_) (by rw [List.getElem?_toArray]; rfl) (by kernel_rfl) (by kernel_rfl) (by kernel_rfl) hHeld ?_ ?_ ?_ ?_
            rotate_left
            · intro u hSw
              go_simp
              try with_reducible rfl
            · rfl
            · exact fun _ _ _ h => h
            try simp only [Act.put, List.setIfInBounds_toArray, List.set_cons_zero, List.set_cons_succ]
            refine held_one (i := 10) (fuel := 2) (by kernel_rfl) (by rw [List.getElem?_toArray]; rfl) (fun K hK => ?_)
            go_simp
            refine (awake8_any _ (HMX.out.up (HBZ.out.trans (hHeld.mono HBZ.out.size)))).mono ?_
            rintro e wz ⟨rfl, hbz⟩
            refine hK.out _ _ ?_ (fun hHeld => ?_)
            · exact hHeld.trans (hbz.mono hHeld.size)
            clear hK K
            try simp only [Act.put, List.setIfInBounds_toArray, List.set_cons_zero, List.set_cons_succ]
            refine held_take (i := 11) (fuel := 1) (v := ?_) (by rw [List.getElem?_toArray]; rfl) (by kernel_rfl) (by kernel_rfl) (by kernel_rfl) hHeld ?_ ?_ ?_ ?_
            rotate_left
            · intro u hSw
              go_simp
              try with_reducible rfl
            · rfl
            · exact fun _ _ _ h => h
            try simp only [Act.put, List.setIfInBounds_toArray, List.set_cons_zero, List.set_cons_succ]
            refine held_take (i := 12) (fuel := 0) (v := ?_) (by rw [List.getElem?_toArray]; rfl) (by kernel_rfl) (by kernel_rfl) (by kernel_rfl) hHeld ?_ ?_ ?_ ?_
            rotate_left
            · intro u hSw
              go_simp
              try with_reducible rfl
            · rfl
            · exact fun _ _ _ h => h
            try simp only [Act.put, List.setIfInBounds_toArray, List.set_cons_zero, List.set_cons_succ]
            refine wpAnyH_done (by kernel_rfl) ?_ _
            have J6 := HBZ.out.trans (hHeld.mono HBZ.out.size)
            go_wp2
            go_ret
            exact ⟨rfl, J6⟩
    exact AllReadyH.nil
  · rw [Bool.not_eq_true] at hs
    have HS := Lib.hid hs
    clear hs
    go_enter Tryz.func3, Tryz.ntmps3
    go_wp2_with fail
    rw [← hW]
    clear hW
    refine (small8_any W Aa At Ab na ca nt ct nb cb ab ((HA.out.below HB0.out).more HB0.out.size) hnt hnb).mono ?_
    rintro e W1 ⟨rfl, hb1⟩
    rw [HS.out]
    have HB1 := Lib.hid (after8 HB0.out hb1)
    clear hb1
    go_wp2_with fail
    refine (awake8_any W1 (HMX.out.up HB1.out)).mono ?_
    rintro e wz ⟨rfl, hbz⟩
    go_wp2_with fail
    go_ret
    exact ⟨rfl, after8 HB1.out hbz⟩

end Go.Proofs.YtpfkkmjodhpkoaaGreatDoor
