/- Contract of chapter 6's examples, which every statement of the layer asks. -/
import Derived.Test.YtdolmhnajofkoaaAlp
import Derived.Test.YtdolmhnajofkoaaRegion
namespace Go.Proofs.Ytdolmhnajofkoaa
open Go.RowKit
set_option linter.unusedSimpArgs false

theorem toStr6 {w : World} {B : Nat} {A : Option Addr} {n : Nat} {l : List UInt8} (h : Rd w B A n l) (c : Nat) : (convert 33 9 (.slice A n c)).run Try.prog w = .ok (.string ⟨l.toArray⟩) w :=
  h.toStr 33 9 5 c Try.underlying33 Try.underlying5 Try.underlying9

theorem ex_codes : cdZ [97, 32, 66, 60] = [1, 0, 27, 2, 28, 30] := by decide
theorem ex_codesE : cdE [97, 32, 66, 60] = 0 := by decide
theorem ex_unp : upE (unpackL []) = 2 := by decide
theorem ex_pack : packL [1] = [15, 192] := by decide
theorem ex_cost : ((costL [126] : Nat) : Int) = 3 := by decide
theorem ex_same : eqI [1, 0, 27, 2, 28, 30] [1, 0, 27, 2, 28, 30] = true := by decide

set_option maxRecDepth 100000 in
set_option maxHeartbeats 6400000 in
theorem awake_any (w : World) : Calls Try.prog 9 #[] w fun e w' => e = .returned (.bool true) ∧ Below w.heap.size w w' := by
  have E1 : Hid (cdZ (⟨#[97, 32, 66, 60]⟩ : ByteArray).data.toList = [1, 0, 27, 2, 28, 30]) := Lib.hid ex_codes
  have E2 : Hid (cdE (⟨#[97, 32, 66, 60]⟩ : ByteArray).data.toList = 0) := Lib.hid ex_codesE
  have E3 := Lib.hid ex_unp
  have E4 := Lib.hid ex_pack
  have E5 : Hid (((costL (⟨#[126]⟩ : ByteArray).data.toList : Nat) : Int) = 3) := Lib.hid ex_cost
  have E6 := Lib.hid ex_same
  go_enter Try.func9, Try.ntmps9
  go_wp2_with fail
  refine (codes_any w ⟨#[97, 32, 66, 60]⟩ (by decide)).mono ?_
  rintro e w1 ⟨A1, n1, c1, rfl, ho1, hb1⟩
  rw [E1.out] at ho1
  rw [E2.out]
  have hn1 : (n1 : Int) ≤ 1000000 := by have := ownI_len ho1; simp at this; omega
  have HO1 := Lib.hid ho1
  clear ho1
  go_wp2_with fail
  refine (unpack_any w1 none 0 0 [] (Rd.nil _ _) (by decide)).mono ?_
  rintro e w2 ⟨A2, n2, c2, rfl, ho2, hb2⟩
  rw [E3.out]
  have R1 := Lib.hid (RdI.of_iv (own_below HO1.out hb2) (FitI.of_mem (by simp)))
  have HB2 := Lib.hid (hb1.trans (hb2.mono hb1.size))
  clear ho2 hb1 hb2 HO1
  go_wp2_with fail
  refine wp_region_held_drew (S := Held2 w w2) (by kernel_rfl) (Held2.start HB2.out) (fun hHeld => ?_)
  refine held_take (i := 0) (fuel := 23) (v := ?_) (by rw [List.getElem?_toArray]; rfl) (by kernel_rfl) (by kernel_rfl) (by kernel_rfl) hHeld ?_ ?_ ?_ ?_
  rotate_left
  · intro u hSw
    go_simp
    try with_reducible rfl
  · rfl
  · exact fun _ _ _ h => h
  try simp only [Act.put, List.setIfInBounds_toArray, List.set_cons_zero, List.set_cons_succ]
  refine held_one (i := 1) (fuel := 22) (by kernel_rfl) (by rw [List.getElem?_toArray]; rfl) (fun K hK => ?_)
  go_simp
  refine hK.out _ _ ?_ (fun hHeld => ?_)
  · exact hHeld.alloc _
  clear hK K
  try simp only [Act.put, List.setIfInBounds_toArray, List.set_cons_zero, List.set_cons_succ]
  refine held_one (i := 2) (fuel := 21) (by kernel_rfl) (by rw [List.getElem?_toArray]; rfl) (fun K hK => ?_)
  go_simp
  refine (same6_any _ _ _ A1 _ n1 6 c1 6 _ [1, 0, 27, 2, 28, 30] (R1.out.drew.alloc (Nat.le_refl _) _) (RdI.lit w2.drew [1, 0, 27, 2, 28, 30] (FitI.of_mem (by simp)) _ _ rfl) hn1 (by decide)).mono ?_
  rintro e w3 ⟨rfl, hb3⟩
  rw [E6.out]
  refine hK.out _ _ ?_ (fun hHeld => ?_)
  · exact hHeld.call hb3
  clear hK K
  try simp only [Act.put, List.setIfInBounds_toArray, List.set_cons_zero, List.set_cons_succ]
  refine held_more (Held2 w w3) (fun w h => hHeld.imp h) (hHeld.new) (fun hHeld => ?_)
  clear hb3
  refine held_take (i := 3) (fuel := 20) (v := ?_) (by rw [List.getElem?_toArray]; rfl) (by kernel_rfl) (by kernel_rfl) (by kernel_rfl) hHeld ?_ ?_ ?_ ?_
  rotate_left
  · intro u hSw
    go_simp
    try with_reducible rfl
  · rfl
  · exact fun _ _ _ h => h
  try simp only [Act.put, List.setIfInBounds_toArray, List.set_cons_zero, List.set_cons_succ]
  refine held_take (i := 4) (fuel := 19) (v := ?_) (by rw [List.getElem?_toArray]; rfl) (by kernel_rfl) (by kernel_rfl) (by kernel_rfl) hHeld ?_ ?_ ?_ ?_
  rotate_left
  · intro u hSw
    go_simp
    try with_reducible rfl
  · rfl
  · exact fun _ _ _ h => h
  try simp only [Act.put, List.setIfInBounds_toArray, List.set_cons_zero, List.set_cons_succ]
  refine held_take (i := 5) (fuel := 18) (v := ?_) (by rw [List.getElem?_toArray]; rfl) (by kernel_rfl) (by kernel_rfl) (by kernel_rfl) hHeld ?_ ?_ ?_ ?_
  rotate_left
  · intro u hSw
    go_simp
    try with_reducible rfl
  · rfl
  · exact fun _ _ _ h => h
  try simp only [Act.put, List.setIfInBounds_toArray, List.set_cons_zero, List.set_cons_succ]
  refine held_take (i := 6) (fuel := 17) (v := ?_) (by rw [List.getElem?_toArray]; rfl) (by kernel_rfl) (by kernel_rfl) (by kernel_rfl) hHeld ?_ ?_ ?_ ?_
  rotate_left
  · intro u hSw
    go_simp
    try with_reducible rfl
  · rfl
  · exact fun _ _ _ h => h
  try simp only [Act.put, List.setIfInBounds_toArray, List.set_cons_zero, List.set_cons_succ]
  refine held_take (i := 7) (fuel := 16) (v := ?_) (by rw [List.getElem?_toArray]; rfl) (by kernel_rfl) (by kernel_rfl) (by kernel_rfl) hHeld ?_ ?_ ?_ ?_
  rotate_left
  · intro u hSw
    go_simp
    try with_reducible rfl
  · rfl
  · exact fun _ _ _ h => h
  try simp only [Act.put, List.setIfInBounds_toArray, List.set_cons_zero, List.set_cons_succ]
  refine wpAnyH_ready (rs := [8, 11]) (fuel := 15) (by kernel_rfl) (by simp) ?_
  refine AllReadyH.cons (by rw [List.getElem?_toArray]; rfl) (fun K hK => ?_) ?_
  ·
    go_simp
    refine hK.out _ _ ?_ (fun hHeld => ?_)
    · exact hHeld.alloc _
    clear hK K
    try simp only [Act.put, List.setIfInBounds_toArray, List.set_cons_zero, List.set_cons_succ]
    have R8 := Lib.hid (RdI.lit_at w3 (w3.heap.size) (by simp) [1] (FitI.of_mem (by simp)) 3 _ rfl)
    refine wpAnyH_ready (rs := [9, 11]) (fuel := 14) (by kernel_rfl) (by simp) ?_
    refine AllReadyH.cons (by rw [List.getElem?_toArray]; rfl) (fun K hK => ?_) ?_
    ·
      go_simp
      refine (pack_any _ _ _ _ [1] (R8.out.more (by simp)) (by decide)).mono ?_
      rintro e w4 ⟨A4, n4, c4, rfl, ho4, hb4⟩
      rw [E4.out] at ho4
      refine hK.out _ _ ?_ (fun hHeld => ?_)
      · exact hHeld.call hb4
      clear hK K
      try simp only [Act.put, List.setIfInBounds_toArray, List.set_cons_zero, List.set_cons_succ]
      refine held_more (Held2 w w4) (fun w h => hHeld.imp h) (hHeld.new) (fun hHeld => ?_)
      have k22 : ∀ u, Held2 w w4 u → (convert 33 9 (.slice A4 n4 c4)).run Try.prog u = .ok (.string ⟨#[15, 192]⟩) u := fun u hu => toStr6 ((Rd.of_own ho4).below hu.2) c4
      clear ho4 hb4
      refine held_take (i := 10) (fuel := 13) (v := ?_) (by rw [List.getElem?_toArray]; rfl) (by kernel_rfl) (by kernel_rfl) (by kernel_rfl) hHeld ?_ ?_ ?_ ?_
      rotate_left
      · intro u hSw
        go_simp
        try with_reducible rfl
      · rfl
      · exact fun _ _ _ h => h
      try simp only [Act.put, List.setIfInBounds_toArray, List.set_cons_zero, List.set_cons_succ]
      refine held_one (i := 11) (fuel := 12) (by kernel_rfl) (by rw [List.getElem?_toArray]; rfl) (fun K hK => ?_)
      go_simp
      refine hK.out _ _ ?_ (fun hHeld => ?_)
      · exact hHeld.alloc _
      clear hK K
      try simp only [Act.put, List.setIfInBounds_toArray, List.set_cons_zero, List.set_cons_succ]
      refine held_more (Held2 w (w4.alloc (.cells #[.int .u8 15, .int .u8 192] 5))) (fun w h => hHeld.imp h) (hHeld.new) (fun hHeld => ?_)
      have k24 : ∀ u, Held2 w (w4.alloc (.cells #[.int .u8 15, .int .u8 192] 5)) u → (convert 33 9 (.slice (some ⟨w4.heap.size, 0, none⟩) 2 2)).run Try.prog u = .ok (.string ⟨#[15, 192]⟩) u := fun u hu => by
        have h := toStr6 ((Rd.lit w4 [15, 192] 5 _ rfl).below (hu.2.mono (by simp))) 2
        simpa using h
      refine held_take (i := 12) (fuel := 11) (v := ?_) (by rw [List.getElem?_toArray]; rfl) (by kernel_rfl) (by kernel_rfl) (by kernel_rfl) hHeld ?_ ?_ ?_ ?_
      rotate_left
      · intro u hSw
        go_simp
        try with_reducible rfl
      · rfl
      · exact fun _ _ _ h => h
      try simp only [Act.put, List.setIfInBounds_toArray, List.set_cons_zero, List.set_cons_succ]
      refine held_take (i := 13) (fuel := 10) (v := ?_) (by rw [List.getElem?_toArray]; rfl) (by kernel_rfl) (by kernel_rfl) (by kernel_rfl) hHeld ?_ ?_ ?_ ?_
      rotate_left
      · intro u hSw
        go_simp
        try with_reducible rfl
      · rfl
      · exact fun _ _ _ h => h
      try simp only [Act.put, List.setIfInBounds_toArray, List.set_cons_zero, List.set_cons_succ]
      refine held_take (i := 14) (fuel := 9) (v := ?_) (by rw [List.getElem?_toArray]; rfl) (by kernel_rfl) (by kernel_rfl) (by kernel_rfl) hHeld ?_ ?_ ?_ ?_
      rotate_left
      · intro u hSw
        go_simp
        try with_reducible rfl
      · rfl
      · exact fun _ _ _ h => h
      try simp only [Act.put, List.setIfInBounds_toArray, List.set_cons_zero, List.set_cons_succ]
      refine held_take (i := 15) (fuel := 8) (v := ?_) (by rw [List.getElem?_toArray]; rfl) (by kernel_rfl) (by kernel_rfl) (by kernel_rfl) hHeld ?_ ?_ ?_ ?_
      rotate_left
      · intro u hSw
        go_simp
        try with_reducible rfl
      · rfl
      · exact fun _ _ _ h => h
      try simp only [Act.put, List.setIfInBounds_toArray, List.set_cons_zero, List.set_cons_succ]
      refine held_take (i := 16) (fuel := 7) (v := ?_) (by rw [List.getElem?_toArray]; rfl) (by kernel_rfl) (by kernel_rfl) (by kernel_rfl) hHeld ?_ ?_ ?_ ?_
      rotate_left
      · intro u hSw
        go_simp
        try with_reducible rfl
      · rfl
      · exact fun _ _ _ h => h
      try simp only [Act.put, List.setIfInBounds_toArray, List.set_cons_zero, List.set_cons_succ]
      refine held_take (i := 17) (fuel := 6) (v := ?_) (by rw [List.getElem?_toArray]; rfl) (by kernel_rfl) (by kernel_rfl) (by kernel_rfl) hHeld ?_ ?_ ?_ ?_
      rotate_left
      · intro u hSw
        go_simp
        try with_reducible rfl
      · rfl
      · exact fun _ _ _ h => h
      try simp only [Act.put, List.setIfInBounds_toArray, List.set_cons_zero, List.set_cons_succ]
      refine held_take (i := 18) (fuel := 5) (v := ?_) (by rw [List.getElem?_toArray]; rfl) (by kernel_rfl) (by kernel_rfl) (by kernel_rfl) hHeld ?_ ?_ ?_ ?_
      rotate_left
      · intro u hSw
        go_simp
        try with_reducible rfl
      · rfl
      · exact fun _ _ _ h => h
      try simp only [Act.put, List.setIfInBounds_toArray, List.set_cons_zero, List.set_cons_succ]
      refine held_take (i := 19) (fuel := 4) (v := ?_) (by rw [List.getElem?_toArray]; rfl) (by kernel_rfl) (by kernel_rfl) (by kernel_rfl) hHeld ?_ ?_ ?_ ?_
      rotate_left
      · intro u hSw
        go_simp
        try with_reducible rfl
      · rfl
      · exact fun _ _ _ h => h
      try simp only [Act.put, List.setIfInBounds_toArray, List.set_cons_zero, List.set_cons_succ]
      refine held_one (i := 20) (fuel := 3) (by kernel_rfl) (by rw [List.getElem?_toArray]; rfl) (fun K hK => ?_)
      go_simp
      refine (cost_any _ ⟨#[126]⟩ (by decide)).mono ?_
      rintro e w6 ⟨rfl, hb6⟩
      rw [E5.out]
      refine hK.out _ _ ?_ (fun hHeld => ?_)
      · exact hHeld.call hb6
      clear hK K
      try simp only [Act.put, List.setIfInBounds_toArray, List.set_cons_zero, List.set_cons_succ]
      refine held_more (Held2 w w6) (fun w h => hHeld.imp h) (hHeld.new) (fun hHeld => ?_)
      refine held_take (i := 21) (fuel := 2) (v := ?_) (by rw [List.getElem?_toArray]; rfl) (by kernel_rfl) (by kernel_rfl) (by kernel_rfl) hHeld ?_ ?_ ?_ ?_
      rotate_left
      · intro u hSw
        go_simp
        try with_reducible rfl
      · rfl
      · exact fun _ _ _ h => h
      try simp only [Act.put, List.setIfInBounds_toArray, List.set_cons_zero, List.set_cons_succ]
      refine held_take (i := 22) (fuel := 1) (v := ?_) (by rw [List.getElem?_toArray]; rfl) (by kernel_rfl) (by kernel_rfl) (by kernel_rfl) hHeld ?_ ?_ ?_ ?_
      rotate_left
      · intro u hSw
        go_simp
        try with_reducible rfl
      · rfl
      · exact fun _ _ _ h => h
      try simp only [Act.put, List.setIfInBounds_toArray, List.set_cons_zero, List.set_cons_succ]
      refine held_take (i := 23) (fuel := 0) (v := ?_) (by rw [List.getElem?_toArray]; rfl) (by kernel_rfl) (by kernel_rfl) (by kernel_rfl) hHeld ?_ ?_ ?_ ?_
      rotate_left
      · intro u hSw
        go_simp
        try with_reducible rfl
      · rfl
      · exact fun _ _ _ h => h
      try simp only [Act.put, List.setIfInBounds_toArray, List.set_cons_zero, List.set_cons_succ]
      refine wpAnyH_done (by kernel_rfl) ?_ _
      have J6 := hHeld.1
      go_wp2
      go_ret
      exact ⟨rfl, J6⟩
    refine AllReadyH.cons (by rw [List.getElem?_toArray]; rfl) (fun K hK => ?_) ?_
    ·
      go_simp
      refine hK.out _ _ ?_ (fun hHeld => ?_)
      · exact hHeld.alloc _
      clear hK K
      try simp only [Act.put, List.setIfInBounds_toArray, List.set_cons_zero, List.set_cons_succ]
      refine held_more (Held2 w ((w3.alloc (.cells #[.int .i64 1] 3)).alloc (.cells #[.int .u8 15, .int .u8 192] 5))) (fun w h => hHeld.imp h) (hHeld.new) (fun hHeld => ?_)
      have k24 : ∀ u, Held2 w ((w3.alloc (.cells #[.int .i64 1] 3)).alloc (.cells #[.int .u8 15, .int .u8 192] 5)) u → (convert 33 9 (.slice (some ⟨w3.heap.size + 1, 0, none⟩) 2 2)).run Try.prog u = .ok (.string ⟨#[15, 192]⟩) u := fun u hu => by
        have h := toStr6 ((Rd.lit (w3.alloc (.cells #[.int .i64 1] 3)) [15, 192] 5 _ rfl).below (hu.2.mono (by simp))) 2
        simpa using h
      have R8 := Lib.hid (R8.out.alloc (by simp) (.cells #[.int .u8 15, .int .u8 192] 5))
      refine held_take (i := 12) (fuel := 13) (v := ?_) (by rw [List.getElem?_toArray]; rfl) (by kernel_rfl) (by kernel_rfl) (by kernel_rfl) hHeld ?_ ?_ ?_ ?_
      rotate_left
      · intro u hSw
        go_simp
        try with_reducible rfl
      · rfl
      · exact fun _ _ _ h => h
      try simp only [Act.put, List.setIfInBounds_toArray, List.set_cons_zero, List.set_cons_succ]
      refine held_one (i := 9) (fuel := 12) (by kernel_rfl) (by rw [List.getElem?_toArray]; rfl) (fun K hK => ?_)
      go_simp
      refine (pack_any _ _ _ _ [1] (R8.out.more (by simp)) (by decide)).mono ?_
      rintro e w4 ⟨A4, n4, c4, rfl, ho4, hb4⟩
      rw [E4.out] at ho4
      refine hK.out _ _ ?_ (fun hHeld => ?_)
      · exact hHeld.call hb4
      clear hK K
      try simp only [Act.put, List.setIfInBounds_toArray, List.set_cons_zero, List.set_cons_succ]
      refine held_more (Held2 w w4) (fun w h => hHeld.imp h) (hHeld.new) (fun hHeld => ?_)
      have k22 : ∀ u, Held2 w w4 u → (convert 33 9 (.slice A4 n4 c4)).run Try.prog u = .ok (.string ⟨#[15, 192]⟩) u := fun u hu => toStr6 ((Rd.of_own ho4).below hu.2) c4
      clear ho4 hb4
      refine held_take (i := 10) (fuel := 11) (v := ?_) (by rw [List.getElem?_toArray]; rfl) (by kernel_rfl) (by kernel_rfl) (by kernel_rfl) hHeld ?_ ?_ ?_ ?_
      rotate_left
      · intro u hSw
        go_simp
        try with_reducible rfl
      · rfl
      · exact fun _ _ _ h => h
      try simp only [Act.put, List.setIfInBounds_toArray, List.set_cons_zero, List.set_cons_succ]
      refine held_take (i := 13) (fuel := 10) (v := ?_) (by rw [List.getElem?_toArray]; rfl) (by kernel_rfl) (by kernel_rfl) (by kernel_rfl) hHeld ?_ ?_ ?_ ?_
      rotate_left
      · intro u hSw
        go_simp
        try with_reducible rfl
      · rfl
      · exact fun _ _ _ h => h
      try simp only [Act.put, List.setIfInBounds_toArray, List.set_cons_zero, List.set_cons_succ]
      refine held_take (i := 14) (fuel := 9) (v := ?_) (by rw [List.getElem?_toArray]; rfl) (by kernel_rfl) (by kernel_rfl) (by kernel_rfl) hHeld ?_ ?_ ?_ ?_
      rotate_left
      · intro u hSw
        go_simp
        try with_reducible rfl
      · rfl
      · exact fun _ _ _ h => h
      try simp only [Act.put, List.setIfInBounds_toArray, List.set_cons_zero, List.set_cons_succ]
      refine held_take (i := 15) (fuel := 8) (v := ?_) (by rw [List.getElem?_toArray]; rfl) (by kernel_rfl) (by kernel_rfl) (by kernel_rfl) hHeld ?_ ?_ ?_ ?_
      rotate_left
      · intro u hSw
        go_simp
        try with_reducible rfl
      · rfl
      · exact fun _ _ _ h => h
      try simp only [Act.put, List.setIfInBounds_toArray, List.set_cons_zero, List.set_cons_succ]
      refine held_take (i := 16) (fuel := 7) (v := ?_) (by rw [List.getElem?_toArray]; rfl) (by kernel_rfl) (by kernel_rfl) (by kernel_rfl) hHeld ?_ ?_ ?_ ?_
      rotate_left
      · intro u hSw
        go_simp
        try with_reducible rfl
      · rfl
      · exact fun _ _ _ h => h
      try simp only [Act.put, List.setIfInBounds_toArray, List.set_cons_zero, List.set_cons_succ]
      refine held_take (i := 17) (fuel := 6) (v := ?_) (by rw [List.getElem?_toArray]; rfl) (by kernel_rfl) (by kernel_rfl) (by kernel_rfl) hHeld ?_ ?_ ?_ ?_
      rotate_left
      · intro u hSw
        go_simp
        try with_reducible rfl
      · rfl
      · exact fun _ _ _ h => h
      try simp only [Act.put, List.setIfInBounds_toArray, List.set_cons_zero, List.set_cons_succ]
      refine held_take (i := 18) (fuel := 5) (v := ?_) (by rw [List.getElem?_toArray]; rfl) (by kernel_rfl) (by kernel_rfl) (by kernel_rfl) hHeld ?_ ?_ ?_ ?_
      rotate_left
      · intro u hSw
        go_simp
        try with_reducible rfl
      · rfl
      · exact fun _ _ _ h => h
      try simp only [Act.put, List.setIfInBounds_toArray, List.set_cons_zero, List.set_cons_succ]
      refine held_take (i := 19) (fuel := 4) (v := ?_) (by rw [List.getElem?_toArray]; rfl) (by kernel_rfl) (by kernel_rfl) (by kernel_rfl) hHeld ?_ ?_ ?_ ?_
      rotate_left
      · intro u hSw
        go_simp
        try with_reducible rfl
      · rfl
      · exact fun _ _ _ h => h
      try simp only [Act.put, List.setIfInBounds_toArray, List.set_cons_zero, List.set_cons_succ]
      refine held_one (i := 20) (fuel := 3) (by kernel_rfl) (by rw [List.getElem?_toArray]; rfl) (fun K hK => ?_)
      go_simp
      refine (cost_any _ ⟨#[126]⟩ (by decide)).mono ?_
      rintro e w6 ⟨rfl, hb6⟩
      rw [E5.out]
      refine hK.out _ _ ?_ (fun hHeld => ?_)
      · exact hHeld.call hb6
      clear hK K
      try simp only [Act.put, List.setIfInBounds_toArray, List.set_cons_zero, List.set_cons_succ]
      refine held_more (Held2 w w6) (fun w h => hHeld.imp h) (hHeld.new) (fun hHeld => ?_)
      refine held_take (i := 21) (fuel := 2) (v := ?_) (by rw [List.getElem?_toArray]; rfl) (by kernel_rfl) (by kernel_rfl) (by kernel_rfl) hHeld ?_ ?_ ?_ ?_
      rotate_left
      · intro u hSw
        go_simp
        try with_reducible rfl
      · rfl
      · exact fun _ _ _ h => h
      try simp only [Act.put, List.setIfInBounds_toArray, List.set_cons_zero, List.set_cons_succ]
      refine held_take (i := 22) (fuel := 1) (v := ?_) (by rw [List.getElem?_toArray]; rfl) (by kernel_rfl) (by kernel_rfl) (by kernel_rfl) hHeld ?_ ?_ ?_ ?_
      rotate_left
      · intro u hSw
        go_simp
        try with_reducible rfl
      · rfl
      · exact fun _ _ _ h => h
      try simp only [Act.put, List.setIfInBounds_toArray, List.set_cons_zero, List.set_cons_succ]
      refine held_take (i := 23) (fuel := 0) (v := ?_) (by rw [List.getElem?_toArray]; rfl) (by kernel_rfl) (by kernel_rfl) (by kernel_rfl) hHeld ?_ ?_ ?_ ?_
      rotate_left
      · intro u hSw
        go_simp
        try with_reducible rfl
      · rfl
      · exact fun _ _ _ h => h
      try simp only [Act.put, List.setIfInBounds_toArray, List.set_cons_zero, List.set_cons_succ]
      refine wpAnyH_done (by kernel_rfl) ?_ _
      have J6 := hHeld.1
      go_wp2
      go_ret
      exact ⟨rfl, J6⟩
    exact AllReadyH.nil
  refine AllReadyH.cons (by rw [List.getElem?_toArray]; rfl) (fun K hK => ?_) ?_
  ·
    go_simp
    refine hK.out _ _ ?_ (fun hHeld => ?_)
    · exact hHeld.alloc _
    clear hK K
    try simp only [Act.put, List.setIfInBounds_toArray, List.set_cons_zero, List.set_cons_succ]
    refine held_more (Held2 w (w3.alloc (.cells #[.int .u8 15, .int .u8 192] 5))) (fun w h => hHeld.imp h) (hHeld.new) (fun hHeld => ?_)
    have k24 : ∀ u, Held2 w (w3.alloc (.cells #[.int .u8 15, .int .u8 192] 5)) u → (convert 33 9 (.slice (some ⟨w3.heap.size, 0, none⟩) 2 2)).run Try.prog u = .ok (.string ⟨#[15, 192]⟩) u := fun u hu => by
      have h := toStr6 ((Rd.lit w3 [15, 192] 5 _ rfl).below (hu.2.mono (by simp))) 2
      simpa using h
    refine held_take (i := 12) (fuel := 14) (v := ?_) (by rw [List.getElem?_toArray]; rfl) (by kernel_rfl) (by kernel_rfl) (by kernel_rfl) hHeld ?_ ?_ ?_ ?_
    rotate_left
    · intro u hSw
      go_simp
      try with_reducible rfl
    · rfl
    · exact fun _ _ _ h => h
    try simp only [Act.put, List.setIfInBounds_toArray, List.set_cons_zero, List.set_cons_succ]
    refine held_one (i := 8) (fuel := 13) (by kernel_rfl) (by rw [List.getElem?_toArray]; rfl) (fun K hK => ?_)
    go_simp
    refine hK.out _ _ ?_ (fun hHeld => ?_)
    · exact hHeld.alloc _
    clear hK K
    try simp only [Act.put, List.setIfInBounds_toArray, List.set_cons_zero, List.set_cons_succ]
    have R8 := Lib.hid (RdI.lit_at (w3.alloc (.cells #[.int .u8 15, .int .u8 192] 5)) (w3.heap.size + 1) (by simp) [1] (FitI.of_mem (by simp)) 3 _ rfl)
    refine held_one (i := 9) (fuel := 12) (by kernel_rfl) (by rw [List.getElem?_toArray]; rfl) (fun K hK => ?_)
    go_simp
    refine (pack_any _ _ _ _ [1] (R8.out.more (by simp)) (by decide)).mono ?_
    rintro e w4 ⟨A4, n4, c4, rfl, ho4, hb4⟩
    rw [E4.out] at ho4
    refine hK.out _ _ ?_ (fun hHeld => ?_)
    · exact hHeld.call hb4
    clear hK K
    try simp only [Act.put, List.setIfInBounds_toArray, List.set_cons_zero, List.set_cons_succ]
    refine held_more (Held2 w w4) (fun w h => hHeld.imp h) (hHeld.new) (fun hHeld => ?_)
    have k22 : ∀ u, Held2 w w4 u → (convert 33 9 (.slice A4 n4 c4)).run Try.prog u = .ok (.string ⟨#[15, 192]⟩) u := fun u hu => toStr6 ((Rd.of_own ho4).below hu.2) c4
    clear ho4 hb4
    refine held_take (i := 10) (fuel := 11) (v := ?_) (by rw [List.getElem?_toArray]; rfl) (by kernel_rfl) (by kernel_rfl) (by kernel_rfl) hHeld ?_ ?_ ?_ ?_
    rotate_left
    · intro u hSw
      go_simp
      try with_reducible rfl
    · rfl
    · exact fun _ _ _ h => h
    try simp only [Act.put, List.setIfInBounds_toArray, List.set_cons_zero, List.set_cons_succ]
    refine held_take (i := 13) (fuel := 10) (v := ?_) (by rw [List.getElem?_toArray]; rfl) (by kernel_rfl) (by kernel_rfl) (by kernel_rfl) hHeld ?_ ?_ ?_ ?_
    rotate_left
    · intro u hSw
      go_simp
      try with_reducible rfl
    · rfl
    · exact fun _ _ _ h => h
    try simp only [Act.put, List.setIfInBounds_toArray, List.set_cons_zero, List.set_cons_succ]
    refine held_take (i := 14) (fuel := 9) (v := ?_) (by rw [List.getElem?_toArray]; rfl) (by kernel_rfl) (by kernel_rfl) (by kernel_rfl) hHeld ?_ ?_ ?_ ?_
    rotate_left
    · intro u hSw
      go_simp
      try with_reducible rfl
    · rfl
    · exact fun _ _ _ h => h
    try simp only [Act.put, List.setIfInBounds_toArray, List.set_cons_zero, List.set_cons_succ]
    refine held_take (i := 15) (fuel := 8) (v := ?_) (by rw [List.getElem?_toArray]; rfl) (by kernel_rfl) (by kernel_rfl) (by kernel_rfl) hHeld ?_ ?_ ?_ ?_
    rotate_left
    · intro u hSw
      go_simp
      try with_reducible rfl
    · rfl
    · exact fun _ _ _ h => h
    try simp only [Act.put, List.setIfInBounds_toArray, List.set_cons_zero, List.set_cons_succ]
    refine held_take (i := 16) (fuel := 7) (v := ?_) (by rw [List.getElem?_toArray]; rfl) (by kernel_rfl) (by kernel_rfl) (by kernel_rfl) hHeld ?_ ?_ ?_ ?_
    rotate_left
    · intro u hSw
      go_simp
      try with_reducible rfl
    · rfl
    · exact fun _ _ _ h => h
    try simp only [Act.put, List.setIfInBounds_toArray, List.set_cons_zero, List.set_cons_succ]
    refine held_take (i := 17) (fuel := 6) (v := ?_) (by rw [List.getElem?_toArray]; rfl) (by kernel_rfl) (by kernel_rfl) (by kernel_rfl) hHeld ?_ ?_ ?_ ?_
    rotate_left
    · intro u hSw
      go_simp
      try with_reducible rfl
    · rfl
    · exact fun _ _ _ h => h
    try simp only [Act.put, List.setIfInBounds_toArray, List.set_cons_zero, List.set_cons_succ]
    refine held_take (i := 18) (fuel := 5) (v := ?_) (by rw [List.getElem?_toArray]; rfl) (by kernel_rfl) (by kernel_rfl) (by kernel_rfl) hHeld ?_ ?_ ?_ ?_
    rotate_left
    · intro u hSw
      go_simp
      try with_reducible rfl
    · rfl
    · exact fun _ _ _ h => h
    try simp only [Act.put, List.setIfInBounds_toArray, List.set_cons_zero, List.set_cons_succ]
    refine held_take (i := 19) (fuel := 4) (v := ?_) (by rw [List.getElem?_toArray]; rfl) (by kernel_rfl) (by kernel_rfl) (by kernel_rfl) hHeld ?_ ?_ ?_ ?_
    rotate_left
    · intro u hSw
      go_simp
      try with_reducible rfl
    · rfl
    · exact fun _ _ _ h => h
    try simp only [Act.put, List.setIfInBounds_toArray, List.set_cons_zero, List.set_cons_succ]
    refine held_one (i := 20) (fuel := 3) (by kernel_rfl) (by rw [List.getElem?_toArray]; rfl) (fun K hK => ?_)
    go_simp
    refine (cost_any _ ⟨#[126]⟩ (by decide)).mono ?_
    rintro e w6 ⟨rfl, hb6⟩
    rw [E5.out]
    refine hK.out _ _ ?_ (fun hHeld => ?_)
    · exact hHeld.call hb6
    clear hK K
    try simp only [Act.put, List.setIfInBounds_toArray, List.set_cons_zero, List.set_cons_succ]
    refine held_more (Held2 w w6) (fun w h => hHeld.imp h) (hHeld.new) (fun hHeld => ?_)
    refine held_take (i := 21) (fuel := 2) (v := ?_) (by rw [List.getElem?_toArray]; rfl) (by kernel_rfl) (by kernel_rfl) (by kernel_rfl) hHeld ?_ ?_ ?_ ?_
    rotate_left
    · intro u hSw
      go_simp
      try with_reducible rfl
    · rfl
    · exact fun _ _ _ h => h
    try simp only [Act.put, List.setIfInBounds_toArray, List.set_cons_zero, List.set_cons_succ]
    refine held_take (i := 22) (fuel := 1) (v := ?_) (by rw [List.getElem?_toArray]; rfl) (by kernel_rfl) (by kernel_rfl) (by kernel_rfl) hHeld ?_ ?_ ?_ ?_
    rotate_left
    · intro u hSw
      go_simp
      try with_reducible rfl
    · rfl
    · exact fun _ _ _ h => h
    try simp only [Act.put, List.setIfInBounds_toArray, List.set_cons_zero, List.set_cons_succ]
    refine held_take (i := 23) (fuel := 0) (v := ?_) (by rw [List.getElem?_toArray]; rfl) (by kernel_rfl) (by kernel_rfl) (by kernel_rfl) hHeld ?_ ?_ ?_ ?_
    rotate_left
    · intro u hSw
      go_simp
      try with_reducible rfl
    · rfl
    · exact fun _ _ _ h => h
    try simp only [Act.put, List.setIfInBounds_toArray, List.set_cons_zero, List.set_cons_succ]
    refine wpAnyH_done (by kernel_rfl) ?_ _
    have J6 := hHeld.1
    go_wp2
    go_ret
    exact ⟨rfl, J6⟩
  exact AllReadyH.nil

end Go.Proofs.Ytdolmhnajofkoaa
