/- The walk of the statement SumSeals. -/
import Derived.Test.YtpenilbnhhcmiaaAwake
import Derived.Test.YtpenilbnhhcmiaaOpenR
import Derived.Test.YtpenilbnhhcmiaaRegion
namespace Go.Proofs.Ytpenilbnhhcmiaa
open Go.RowKit

set_option maxRecDepth 100000 in
set_option maxHeartbeats 8000000 in
theorem seals_walk (A : Option Addr) (n c : Nat) (l : List UInt8) (w : World) (h : Rd w w.heap.size A n l) (hc : n ≤ c) (_hcm : (c : Int) ≤ 9223372036854775807) (hn : (n : Int) ≤ 2000) :
    Calls Try.prog 4 #[.slice A n c] w fun e w' => e = .returned (.bool true) ∧ Below w.heap.size w w' := by
  obtain ⟨i0, hi, hz, hsz, hb⟩ := info_parts Try.infoB
  have H := Lib.hid h
  clear h
  go_enter Try.func4, Try.ntmps4
  go_wp2_with (at_builtin; refine wpList_app _ rfl _ _ 22 rfl w.heap.size 5 i0 Try.underlying22 hi hz hsz hb _ 0 [] rfl (own_nil _ _ _) w.heap.size A n c l rfl H.out (by omega) (Nat.le_refl _) ?_; intro A1 c1 w1 hown1 hg1)
  have hb1 := (Below.refl w.heap.size w).grown hg1 (Nat.le_refl _) (own_from (own_nil w w.heap.size 5))
  have hs1 := hb1.size
  simp only [Nat.zero_add, List.nil_append] at hown1
  obtain ⟨hc1, hcm1⟩ := own_cap hown1
  have R1 := Lib.hid (Rd.of_own hown1)
  clear hown1 hg1
  go_wp2_with fail
  refine (sOpen_any w1 w1.heap.size A1 n c1 l R1.out (Nat.le_refl _) hc1 hcm1 (by omega)).mono ?_
  rintro e w2 ⟨A2, n2, c2, rfl, hr2, hb2⟩
  have R2 := Lib.hid hr2
  have R1b := Lib.hid (R1.out.below hb2)
  have hb2' := hb1.trans (hb2.mono hs1)
  have hs12 := hb2.size
  have hs2 := hb2'.size
  clear hr2 hb2 R1 hb1
  go_wp2_with fail
  refine (rOpen_any w2 w.heap.size A n c l (H.out.below hb2') hs2 hc (by omega)).mono ?_
  rintro e w3 ⟨A3, n3, c3, rfl, hr3, hb3⟩
  have R3 := Lib.hid hr3
  have R2b := Lib.hid (R2.out.below hb3)
  have R1c := Lib.hid (R1b.out.below (hb3.mono hs12))
  have hb3' := hb2'.trans (hb3.mono hs2)
  have hs23 := hb3.size
  have H3 := Lib.hid (H.out.below hb3')
  have HB3 := Lib.hid hb3'
  have hs3 := hb3'.size
  clear hr3 hb3 hb2' R1b R2 hb3'
  go_wp2_with fail
  refine wp_region_held_drew (S := fun w' => Below w.heap.size w w') (by kernel_rfl) HB3.out.drew (fun hHeld => ?_)
  refine held_take (i := 0) (fuel := 29) (v := ?_) (by rw [List.getElem?_toArray]; rfl) (by kernel_rfl) (by kernel_rfl) (by kernel_rfl) hHeld ?_ ?_ ?_ ?_
  rotate_left
  · intro u hSw
    go_simp
    try with_reducible rfl
  · rfl
  · exact fun _ _ _ h => h
  try simp only [Act.put, List.setIfInBounds_toArray, List.set_cons_zero, List.set_cons_succ]
  refine held_take (i := 3) (fuel := 28) (v := ?_) (by rw [List.getElem?_toArray]; rfl) (by kernel_rfl) (by kernel_rfl) (by kernel_rfl) hHeld ?_ ?_ ?_ ?_
  rotate_left
  · intro u hSw
    go_simp
    try with_reducible rfl
  · rfl
  · exact fun _ _ _ h => h
  try simp only [Act.put, List.setIfInBounds_toArray, List.set_cons_zero, List.set_cons_succ]
  refine held_one (i := 1) (fuel := 27) (by kernel_rfl) (by rw [List.getElem?_toArray]; rfl) (fun K hK => ?_)
  go_simp
  refine (sSeal_any w3.drew w1.heap.size A1 n c1 l R1c.out.drew (by simp; omega) (by omega)).mono ?_
  rintro e w4 ⟨A4, n4, c4, rfl, ho4, hb4⟩
  refine hK.out _ _ ?_ (fun hHeld => ?_)
  · exact hHeld.trans (hb4.mono (by simp; omega))
  clear hK K
  try simp only [Act.put, List.setIfInBounds_toArray, List.set_cons_zero, List.set_cons_succ]
  refine held_more (fun w' => Below w4.heap.size w4 w') (fun w h => hHeld.trans (h.mono hHeld.size)) (Below.refl _ _) (fun hHeld => ?_)
  have k4 : ∀ u, Below w4.heap.size w4 u → (convert 22 9 (.slice A4 n4 c4)).run Try.prog u = .ok (.string ⟨(seal_ l).toArray⟩) u := fun u hu => toS ((Rd.of_own ho4).below hu) c4
  have J4 := Lib.hid (HB3.out.drew.trans (hb4.mono hs3))
  have B4 := Lib.hid hb4
  have s4 : w3.heap.size ≤ w4.heap.size := hb4.size
  clear ho4 hb4
  refine held_take (i := 2) (fuel := 26) (v := ?_) (by rw [List.getElem?_toArray]; rfl) (by kernel_rfl) (by kernel_rfl) (by kernel_rfl) hHeld ?_ ?_ ?_ ?_
  rotate_left
  · intro u hSw
    go_simp
    try with_reducible rfl
  · rfl
  · exact fun _ _ _ h => h
  try simp only [Act.put, List.setIfInBounds_toArray, List.set_cons_zero, List.set_cons_succ]
  refine held_one (i := 4) (fuel := 25) (by kernel_rfl) (by rw [List.getElem?_toArray]; rfl) (fun K hK => ?_)
  go_simp
  refine (rSeal_any w4 w.heap.size A n c l (H.out.below J4.out) J4.out.size (by omega)).mono ?_
  rintro e w5 ⟨A5, n5, c5, rfl, ho5, hb5⟩
  refine hK.out _ _ ?_ (fun hHeld => ?_)
  · exact hb5
  clear hK K
  try simp only [Act.put, List.setIfInBounds_toArray, List.set_cons_zero, List.set_cons_succ]
  refine held_more (fun w' => Below w5.heap.size w5 w') (fun w h => hHeld.trans (h.mono hHeld.size)) (Below.refl _ _) (fun hHeld => ?_)
  have k5 : ∀ u, Below w5.heap.size w5 u → (convert 22 9 (.slice A5 n5 c5)).run Try.prog u = .ok (.string ⟨(seal_ l).toArray⟩) u := fun u hu => toS ((Rd.of_own ho5).below hu) c5
  have J5 := Lib.hid (J4.out.trans (hb5.mono J4.out.size))
  have J35 : Hid (Below w3.heap.size w3.drew w5) := Lib.hid (B4.out.trans (hb5.mono s4))
  clear ho5 k4
  have kb : ∀ u, Below w5.heap.size w5 u → (convert 22 9 (.slice A n c)).run Try.prog u = .ok (.string ⟨l.toArray⟩) u := fun u hu => toS ((H.out.below J5.out).below (hu.mono J5.out.size)) c
  have kg : ∀ u, Below w5.heap.size w5 u → (convert 22 9 (.slice A1 n c1)).run Try.prog u = .ok (.string ⟨l.toArray⟩) u := fun u hu => toS ((R1c.out.drew.below (J35.out.mono (by omega))).below (hu.mono (by have := J35.out.size; simp at this; omega))) c1
  have ks : ∀ u, Below w5.heap.size w5 u → (convert 22 9 (.slice A2 n2 c2)).run Try.prog u = .ok (.string ⟨(opn l).1.toArray⟩) u := fun u hu => toS ((R2b.out.drew.below (J35.out.mono (by omega))).below (hu.mono (by have := J35.out.size; simp at this; omega))) c2
  have kt : ∀ u, Below w5.heap.size w5 u → (convert 22 9 (.slice A3 n3 c3)).run Try.prog u = .ok (.string ⟨(opn l).1.toArray⟩) u := fun u hu => toS ((R3.out.drew.below J35.out).below (hu.mono (by have := J35.out.size; simp at this; omega))) c3
  clear hb5
  refine held_take (i := 5) (fuel := 24) (v := ?_) (by rw [List.getElem?_toArray]; rfl) (by kernel_rfl) (by kernel_rfl) (by kernel_rfl) hHeld ?_ ?_ ?_ ?_
  rotate_left
  · intro u hSw
    go_simp
    try with_reducible rfl
  · rfl
  · exact fun _ _ _ h => h
  try simp only [Act.put, List.setIfInBounds_toArray, List.set_cons_zero, List.set_cons_succ]
  refine held_take (i := 6) (fuel := 23) (v := ?_) (by rw [List.getElem?_toArray]; rfl) (by kernel_rfl) (by kernel_rfl) (by kernel_rfl) hHeld ?_ ?_ ?_ ?_
  rotate_left
  · intro u hSw
    go_simp
    try with_reducible rfl
  · rfl
  · exact fun _ _ _ h => h
  try simp only [Act.put, List.setIfInBounds_toArray, List.set_cons_zero, List.set_cons_succ]
  refine held_take (i := 7) (fuel := 22) (v := ?_) (by rw [List.getElem?_toArray]; rfl) (by kernel_rfl) (by kernel_rfl) (by kernel_rfl) hHeld ?_ ?_ ?_ ?_
  rotate_left
  · intro u hSw
    go_simp
    try with_reducible rfl
  · rfl
  · exact fun _ _ _ h => h
  try simp only [Act.put, List.setIfInBounds_toArray, List.set_cons_zero, List.set_cons_succ]
  refine held_take (i := 8) (fuel := 21) (v := ?_) (by rw [List.getElem?_toArray]; rfl) (by kernel_rfl) (by kernel_rfl) (by kernel_rfl) hHeld ?_ ?_ ?_ ?_
  rotate_left
  · intro u hSw
    go_simp
    try with_reducible rfl
  · rfl
  · exact fun _ _ _ h => h
  try simp only [Act.put, List.setIfInBounds_toArray, List.set_cons_zero, List.set_cons_succ]
  refine held_take (i := 9) (fuel := 20) (v := ?_) (by rw [List.getElem?_toArray]; rfl) (by kernel_rfl) (by kernel_rfl) (by kernel_rfl) hHeld ?_ ?_ ?_ ?_
  rotate_left
  · intro u hSw
    go_simp
    try with_reducible rfl
  · rfl
  · exact fun _ _ _ h => h
  try simp only [Act.put, List.setIfInBounds_toArray, List.set_cons_zero, List.set_cons_succ]
  refine held_take (i := 10) (fuel := 19) (v := ?_) (by rw [List.getElem?_toArray]; rfl) (by kernel_rfl) (by kernel_rfl) (by kernel_rfl) hHeld ?_ ?_ ?_ ?_
  rotate_left
  · intro u hSw
    go_simp
    try with_reducible rfl
  · rfl
  · exact fun _ _ _ h => h
  try simp only [Act.put, List.setIfInBounds_toArray, List.set_cons_zero, List.set_cons_succ]
  refine held_take (i := 11) (fuel := 18) (v := ?_) (by rw [List.getElem?_toArray]; rfl) (by kernel_rfl) (by kernel_rfl) (by kernel_rfl) hHeld ?_ ?_ ?_ ?_
  rotate_left
  · intro u hSw
    go_simp
    try with_reducible rfl
  · rfl
  · exact fun _ _ _ h => h
  try simp only [Act.put, List.setIfInBounds_toArray, List.set_cons_zero, List.set_cons_succ]
  refine held_take (i := 12) (fuel := 17) (v := ?_) (by rw [List.getElem?_toArray]; rfl) (by kernel_rfl) (by kernel_rfl) (by kernel_rfl) hHeld ?_ ?_ ?_ ?_
  rotate_left
  · intro u hSw
    go_simp
    try with_reducible rfl
  · rfl
  · exact fun _ _ _ h => h
  try simp only [Act.put, List.setIfInBounds_toArray, List.set_cons_zero, List.set_cons_succ]
  refine held_take (i := 13) (fuel := 16) (v := ?_) (by rw [List.getElem?_toArray]; rfl) (by kernel_rfl) (by kernel_rfl) (by kernel_rfl) hHeld ?_ ?_ ?_ ?_
  rotate_left
  · intro u hSw
    go_simp
    try with_reducible rfl
  · rfl
  · exact fun _ _ _ h => h
  try simp only [Act.put, List.setIfInBounds_toArray, List.set_cons_zero, List.set_cons_succ]
  refine held_take (i := 14) (fuel := 15) (v := ?_) (by rw [List.getElem?_toArray]; rfl) (by kernel_rfl) (by kernel_rfl) (by kernel_rfl) hHeld ?_ ?_ ?_ ?_
  rotate_left
  · intro u hSw
    go_simp
    try with_reducible rfl
  · rfl
  · exact fun _ _ _ h => h
  try simp only [Act.put, List.setIfInBounds_toArray, List.set_cons_zero, List.set_cons_succ]
  refine held_take (i := 15) (fuel := 14) (v := ?_) (by rw [List.getElem?_toArray]; rfl) (by kernel_rfl) (by kernel_rfl) (by kernel_rfl) hHeld ?_ ?_ ?_ ?_
  rotate_left
  · intro u hSw
    go_simp
    try with_reducible rfl
  · rfl
  · exact fun _ _ _ h => h
  try simp only [Act.put, List.setIfInBounds_toArray, List.set_cons_zero, List.set_cons_succ]
  refine held_take (i := 16) (fuel := 13) (v := ?_) (by rw [List.getElem?_toArray]; rfl) (by kernel_rfl) (by kernel_rfl) (by kernel_rfl) hHeld ?_ ?_ ?_ ?_
  rotate_left
  · intro u hSw
    go_simp
    try with_reducible rfl
  · rfl
  · exact fun _ _ _ h => h
  try simp only [Act.put, List.setIfInBounds_toArray, List.set_cons_zero, List.set_cons_succ]
  refine held_take (i := 17) (fuel := 12) (v := ?_) (by rw [List.getElem?_toArray]; rfl) (by kernel_rfl) (by kernel_rfl) (by kernel_rfl) hHeld ?_ ?_ ?_ ?_
  rotate_left
  · intro u hSw
    go_simp
    try with_reducible rfl
  · rfl
  · exact fun _ _ _ h => h
  try simp only [Act.put, List.setIfInBounds_toArray, List.set_cons_zero, List.set_cons_succ]
  refine held_take (i := 18) (fuel := 11) (v := ?_) (by rw [List.getElem?_toArray]; rfl) (by kernel_rfl) (by kernel_rfl) (by kernel_rfl) hHeld ?_ ?_ ?_ ?_
  rotate_left
  · intro u hSw
    go_simp
    try with_reducible rfl
  · rfl
  · exact fun _ _ _ h => h
  try simp only [Act.put, List.setIfInBounds_toArray, List.set_cons_zero, List.set_cons_succ]
  refine held_take (i := 19) (fuel := 10) (v := ?_) (by rw [List.getElem?_toArray]; rfl) (by kernel_rfl) (by kernel_rfl) (by kernel_rfl) hHeld ?_ ?_ ?_ ?_
  rotate_left
  · intro u hSw
    go_simp
    try with_reducible rfl
  · rfl
  · exact fun _ _ _ h => h
  try simp only [Act.put, List.setIfInBounds_toArray, List.set_cons_zero, List.set_cons_succ]
  refine held_take (i := 20) (fuel := 9) (v := ?_) (by rw [List.getElem?_toArray]; rfl) (by kernel_rfl) (by kernel_rfl) (by kernel_rfl) hHeld ?_ ?_ ?_ ?_
  rotate_left
  · intro u hSw
    go_simp
    try with_reducible rfl
  · rfl
  · exact fun _ _ _ h => h
  try simp only [Act.put, List.setIfInBounds_toArray, List.set_cons_zero, List.set_cons_succ]
  refine held_take (i := 21) (fuel := 8) (v := ?_) (by rw [List.getElem?_toArray]; rfl) (by kernel_rfl) (by kernel_rfl) (by kernel_rfl) hHeld ?_ ?_ ?_ ?_
  rotate_left
  · intro u hSw
    go_simp
    try with_reducible rfl
  · rfl
  · exact fun _ _ _ h => h
  try simp only [Act.put, List.setIfInBounds_toArray, List.set_cons_zero, List.set_cons_succ]
  refine held_take (i := 22) (fuel := 7) (v := ?_) (by rw [List.getElem?_toArray]; rfl) (by kernel_rfl) (by kernel_rfl) (by kernel_rfl) hHeld ?_ ?_ ?_ ?_
  rotate_left
  · intro u hSw
    go_simp
    try with_reducible rfl
  · rfl
  · exact fun _ _ _ h => h
  try simp only [Act.put, List.setIfInBounds_toArray, List.set_cons_zero, List.set_cons_succ]
  refine held_take (i := 23) (fuel := 6) (v := ?_) (by rw [List.getElem?_toArray]; rfl) (by kernel_rfl) (by kernel_rfl) (by kernel_rfl) hHeld ?_ ?_ ?_ ?_
  rotate_left
  · intro u hSw
    go_simp
    try with_reducible rfl
  · rfl
  · exact fun _ _ _ h => h
  try simp only [Act.put, List.setIfInBounds_toArray, List.set_cons_zero, List.set_cons_succ]
  refine held_take (i := 24) (fuel := 5) (v := ?_) (by rw [List.getElem?_toArray]; rfl) (by kernel_rfl) (by kernel_rfl) (by kernel_rfl) hHeld ?_ ?_ ?_ ?_
  rotate_left
  · intro u hSw
    go_simp
    try with_reducible rfl
  · rfl
  · exact fun _ _ _ h => h
  try simp only [Act.put, List.setIfInBounds_toArray, List.set_cons_zero, List.set_cons_succ]
  refine held_take (i := 25) (fuel := 4) (v := ?_) (by rw [List.getElem?_toArray]; rfl) (by kernel_rfl) (by kernel_rfl) (by kernel_rfl) hHeld ?_ ?_ ?_ ?_
  rotate_left
  · intro u hSw
    go_simp
    try with_reducible rfl
  · rfl
  · exact fun _ _ _ h => h
  try simp only [Act.put, List.setIfInBounds_toArray, List.set_cons_zero, List.set_cons_succ]
  refine held_take (i := 26) (fuel := 3) (v := ?_) (by rw [List.getElem?_toArray]; rfl) (by kernel_rfl) (by kernel_rfl) (by kernel_rfl) hHeld ?_ ?_ ?_ ?_
  rotate_left
  · intro u hSw
    go_simp
    try with_reducible rfl
  · rfl
  · exact fun _ _ _ h => h
  try simp only [Act.put, List.setIfInBounds_toArray, List.set_cons_zero, List.set_cons_succ]
  refine held_one (i := 27) (fuel := 2) (by kernel_rfl) (by rw [List.getElem?_toArray]; rfl) (fun K hK => ?_)
  go_simp
  refine (awake_any _).mono ?_
  rintro e w6 ⟨rfl, hb6⟩
  refine hK.out _ _ ?_ (fun hHeld => ?_)
  · exact hb6
  clear hK K
  try simp only [Act.put, List.setIfInBounds_toArray, List.set_cons_zero, List.set_cons_succ]
  refine held_take (i := 28) (fuel := 1) (v := ?_) (by rw [List.getElem?_toArray]; rfl) (by kernel_rfl) (by kernel_rfl) (by kernel_rfl) hHeld ?_ ?_ ?_ ?_
  rotate_left
  · intro u hSw
    go_simp
    try with_reducible rfl
  · rfl
  · exact fun _ _ _ h => h
  try simp only [Act.put, List.setIfInBounds_toArray, List.set_cons_zero, List.set_cons_succ]
  refine held_take (i := 29) (fuel := 0) (v := ?_) (by rw [List.getElem?_toArray]; rfl) (by kernel_rfl) (by kernel_rfl) (by kernel_rfl) hHeld ?_ ?_ ?_ ?_
  rotate_left
  · intro u hSw
    go_simp
    try with_reducible rfl
  · rfl
  · exact fun _ _ _ h => h
  try simp only [Act.put, List.setIfInBounds_toArray, List.set_cons_zero, List.set_cons_succ]
  refine wpAnyH_done (by kernel_rfl) ?_ _
  have J6 := J5.out.trans (hHeld.mono J5.out.size)
  go_wp2
  go_ret
  exact ⟨rfl, J6⟩

set_option maxRecDepth 100000 in
set_option maxHeartbeats 800000 in
theorem seals_long (A : Option Addr) (n c : Nat) (w : World) (_hn : ¬ (n : Int) ≤ 2000) :
    Calls Try.prog 4 #[.slice A n c] w fun e w' => e = .returned (.bool true) ∧ Below w.heap.size w w' := by
  go_enter Try.func4, Try.ntmps4
  go_wp2_with fail
  refine (awake_any _).mono ?_
  rintro e w4 ⟨rfl, hb4⟩
  go_wp2_with fail
  go_ret
  exact ⟨rfl, hb4⟩

end Go.Proofs.Ytpenilbnhhcmiaa
