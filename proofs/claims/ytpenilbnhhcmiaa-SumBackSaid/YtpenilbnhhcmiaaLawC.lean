/- The walk of the statement SumBack. -/
import Derived.Test.YtpenilbnhhcmiaaAwake
import Derived.Test.YtpenilbnhhcmiaaOpenR
import Derived.Test.YtpenilbnhhcmiaaRegion
namespace Go.Proofs.Ytpenilbnhhcmiaa
open Go.RowKit

theorem opn_seal (l : List UInt8) : opn (seal_ l) = (l, 0) := by
  have hl : (seal_ l).length = l.length + 4 := by unfold seal_; rw [List.length_append, beL_length]
  have hd : (seal_ l).drop l.length = beL 4 (Crc.on 0 l : Nat) := by unfold seal_; exact List.drop_left
  have ht : (seal_ l).take l.length = l := by unfold seal_; exact List.take_left
  unfold opn
  rw [if_neg (by omega), hl, show l.length + 4 - 4 = l.length from by omega, hd, ht, beN_beL4 _ (Crc.on_lt (by omega) l), if_pos rfl]

theorem seal_opn (l : List UInt8) (h : (opn l).2 = 0) : seal_ (opn l).1 = l := by
  unfold opn at h ⊢
  split at h
  · simp at h
  · split at h
    · rename_i h4 he
      rw [if_neg h4, if_pos he]
      have e := (tail_eq (l.drop (l.length - 4)) (by rw [List.length_drop]; omega) (Crc.on 0 (l.take (l.length - 4))) (Crc.on_lt (by omega) _)).2 he
      show l.take (l.length - 4) ++ beL 4 (Crc.on 0 (l.take (l.length - 4)) : Nat) = l
      rw [← e, List.take_append_drop]
    · simp at h

set_option maxRecDepth 100000 in
set_option maxHeartbeats 1600000 in
theorem back_walk (A : Option Addr) (n c : Nat) (l : List UInt8) (w : World) (h : Rd w w.heap.size A n l) (hc : n ≤ c) (hcm : (c : Int) ≤ 9223372036854775807) (hn : (n : Int) ≤ 2000) :
    Calls Try.prog 5 #[.slice A n c] w fun e w' => e = .returned (.bool true) ∧ Below w.heap.size w w' := by
  have H := Lib.hid h
  clear h
  have hlen : (seal_ l).length = n + 4 := by unfold seal_; rw [List.length_append, beL_length, H.out.1]
  have HLEN := Lib.hid hlen
  have hlen2 := opn_seal l
  have HOS := Lib.hid hlen2
  clear hlen hlen2
  go_enter Try.func5, Try.ntmps5
  go_wp2_with fail
  refine (sSeal_any w w.heap.size A n c l H.out (Nat.le_refl _) (by omega)).mono ?_
  rintro e w1 ⟨A1, n1, c1, rfl, ho1, hb1⟩
  have hs1 := hb1.size
  obtain ⟨hc1, hcm1⟩ := own_cap ho1
  have hn1 : n1 ≤ 2004 := by have := own_len ho1; rw [HLEN.out] at this; omega
  have R1 := Lib.hid (Rd.of_own ho1)
  clear ho1
  go_wp2_with fail
  refine (sOpen_any w1 w1.heap.size A1 n1 c1 (seal_ l) R1.out (Nat.le_refl _) hc1 hcm1 (by omega)).mono ?_
  rw [HOS.out]
  rintro e w2 ⟨A2, n2, c2, rfl, hr2, hb2⟩
  have hb2' := hb1.trans (hb2.mono hs1)
  have hs2 := hb2'.size
  have k2 := toS hr2 c2
  have kb := toS (H.out.below hb2') c
  clear hr2 hb2 hb1
  go_wp2_with fail
  clear k2 kb
  refine (sOpen_any w2 w.heap.size A n c l (H.out.below hb2') hs2 hc hcm (by omega)).mono ?_
  rintro e w3 ⟨A3, n3, c3, rfl, hr3, hb3⟩
  have hb3' := hb2'.trans (hb3.mono hs2)
  have hs3 := hb3'.size
  have R3 := Lib.hid hr3
  have N3 : Hid (n3 ≤ 100000) := by
    have h1 := hr3.1
    have h2 : (opn l).1.length ≤ l.length := by
      unfold opn
      split
      · simp
      · split
        · simp [List.length_take]
        · simp
    have h3 := H.out.1
    show n3 ≤ 100000
    omega
  have HB3 := Lib.hid hb3'
  clear hr3 hb3 hb2' hb3'
  obtain ⟨err, herr⟩ : ∃ err, err = (opn l).2 := ⟨_, rfl⟩
  rw [← herr]
  have HERR := Lib.hid herr
  clear herr
  by_cases he : err = 0
  · have hne : (err != 0) = false := by rw [bne_eq_false_iff_eq]; exact he
    have HSO : Hid (seal_ (opn l).1 = l) := Lib.hid (seal_opn l (by rw [← HERR.out]; exact he))
    clear he
    go_wp2_with fail
    have kb : ∀ u, Below w.heap.size w u → (convert 22 9 (.slice A n c)).run Try.prog u = .ok (.string ⟨l.toArray⟩) u := fun u hu => toS (H.out.below hu) c
    refine wp_region_held_drew (S := fun w' => Below w.heap.size w w') (by kernel_rfl) HB3.out.drew (fun hHeld => ?_)
    refine held_take (i := 0) (fuel := 13) (v := ?_) (by rw [List.getElem?_toArray]; rfl) (by kernel_rfl) (by kernel_rfl) (by kernel_rfl) hHeld ?_ ?_ ?_ ?_
    rotate_left
    · intro u hSw
      go_simp
      try with_reducible rfl
    · rfl
    · exact fun _ _ _ h => h
    try simp only [Act.put, List.setIfInBounds_toArray, List.set_cons_zero, List.set_cons_succ]
    refine held_take (i := 1) (fuel := 12) (v := ?_) (by rw [List.getElem?_toArray]; rfl) (by kernel_rfl) (by kernel_rfl) (by kernel_rfl) hHeld ?_ ?_ ?_ ?_
    rotate_left
    · intro u hSw
      go_simp
      try with_reducible rfl
    · rfl
    · exact fun _ _ _ h => h
    try simp only [Act.put, List.setIfInBounds_toArray, List.set_cons_zero, List.set_cons_succ]
    refine held_take (i := 2) (fuel := 11) (v := ?_) (by rw [List.getElem?_toArray]; rfl) (by kernel_rfl) (by kernel_rfl) (by kernel_rfl) hHeld ?_ ?_ ?_ ?_
    rotate_left
    · intro u hSw
      go_simp
      try with_reducible rfl
    · rfl
    · exact fun _ _ _ h => h
    try simp only [Act.put, List.setIfInBounds_toArray, List.set_cons_zero, List.set_cons_succ]
    refine held_take (i := 3) (fuel := 10) (v := ?_) (by rw [List.getElem?_toArray]; rfl) (by kernel_rfl) (by kernel_rfl) (by kernel_rfl) hHeld ?_ ?_ ?_ ?_
    rotate_left
    · intro u hSw
      go_simp
      try with_reducible rfl
    · rfl
    · exact fun _ _ _ h => h
    try simp only [Act.put, List.setIfInBounds_toArray, List.set_cons_zero, List.set_cons_succ]
    refine held_take (i := 6) (fuel := 9) (v := ?_) (by rw [List.getElem?_toArray]; rfl) (by kernel_rfl) (by kernel_rfl) (by kernel_rfl) hHeld ?_ ?_ ?_ ?_
    rotate_left
    · intro u hSw
      go_simp
      try with_reducible rfl
    · rfl
    · exact fun _ _ _ h => h
    try simp only [Act.put, List.setIfInBounds_toArray, List.set_cons_zero, List.set_cons_succ]
    refine held_take (i := 7) (fuel := 8) (v := ?_) (by rw [List.getElem?_toArray]; rfl) (by kernel_rfl) (by kernel_rfl) (by kernel_rfl) hHeld ?_ ?_ ?_ ?_
    rotate_left
    · intro u hSw
      go_simp
      try with_reducible rfl
    · rfl
    · exact fun _ _ _ h => h
    try simp only [Act.put, List.setIfInBounds_toArray, List.set_cons_zero, List.set_cons_succ]
    refine held_one (i := 4) (fuel := 7) (by kernel_rfl) (by rw [List.getElem?_toArray]; rfl) (fun K hK => ?_)
    go_simp
    refine (sSeal_any w3.drew w3.heap.size A3 n3 c3 (opn l).1 R3.out.drew (by simp) N3.out).mono ?_
    rw [HSO.out]
    rintro e w4 ⟨A4, n4, c4, rfl, ho4, hb4⟩
    refine hK.out _ _ ?_ (fun hHeld => ?_)
    · exact hHeld.trans (hb4.mono (by simp; omega))
    clear hK K
    try simp only [Act.put, List.setIfInBounds_toArray, List.set_cons_zero, List.set_cons_succ]
    refine held_more (fun w' => Below w4.heap.size w4 w') (fun w h => hHeld.trans (h.mono hHeld.size)) (Below.refl _ _) (fun hHeld => ?_)
    have k4 : ∀ u, Below w4.heap.size w4 u → (convert 22 9 (.slice A4 n4 c4)).run Try.prog u = .ok (.string ⟨l.toArray⟩) u := fun u hu => toS ((Rd.of_own ho4).below hu) c4
    have J4 := Lib.hid (HB3.out.drew.trans (hb4.mono hs3))
    clear ho4 hb4
    refine held_take (i := 5) (fuel := 6) (v := ?_) (by rw [List.getElem?_toArray]; rfl) (by kernel_rfl) (by kernel_rfl) (by kernel_rfl) hHeld ?_ ?_ ?_ ?_
    rotate_left
    · intro u hSw
      go_simp
      try with_reducible rfl
    · rfl
    · exact fun _ _ _ h => h
    try simp only [Act.put, List.setIfInBounds_toArray, List.set_cons_zero, List.set_cons_succ]
    refine held_take (i := 8) (fuel := 5) (v := ?_) (by rw [List.getElem?_toArray]; rfl) (by kernel_rfl) (by kernel_rfl) (by kernel_rfl) hHeld ?_ ?_ ?_ ?_
    rotate_left
    · intro u hSw
      go_simp
      try with_reducible rfl
    · rfl
    · exact fun _ _ _ h => h
    try simp only [Act.put, List.setIfInBounds_toArray, List.set_cons_zero, List.set_cons_succ]
    refine held_take (i := 9) (fuel := 4) (v := ?_) (by rw [List.getElem?_toArray]; rfl) (by kernel_rfl) (by kernel_rfl) (by kernel_rfl) hHeld ?_ ?_ ?_ ?_
    rotate_left
    · intro u hSw
      go_simp
      try with_reducible rfl
    · rfl
    · exact fun _ _ _ h => h
    try simp only [Act.put, List.setIfInBounds_toArray, List.set_cons_zero, List.set_cons_succ]
    refine held_take (i := 10) (fuel := 3) (v := ?_) (by rw [List.getElem?_toArray]; rfl) (by kernel_rfl) (by kernel_rfl) (by kernel_rfl) hHeld ?_ ?_ ?_ ?_
    rotate_left
    · intro u hSw
      go_simp
      try with_reducible rfl
    · rfl
    · exact fun _ _ _ h => h
    try simp only [Act.put, List.setIfInBounds_toArray, List.set_cons_zero, List.set_cons_succ]
    refine held_one (i := 11) (fuel := 2) (by kernel_rfl) (by rw [List.getElem?_toArray]; rfl) (fun K hK => ?_)
    go_simp
    refine (awake_any _).mono ?_
    rintro e w6 ⟨rfl, hb6⟩
    refine hK.out _ _ ?_ (fun hHeld => ?_)
    · exact hb6
    clear hK K
    try simp only [Act.put, List.setIfInBounds_toArray, List.set_cons_zero, List.set_cons_succ]
    refine held_take (i := 12) (fuel := 1) (v := ?_) (by rw [List.getElem?_toArray]; rfl) (by kernel_rfl) (by kernel_rfl) (by kernel_rfl) hHeld ?_ ?_ ?_ ?_
    rotate_left
    · intro u hSw
      go_simp
      try with_reducible rfl
    · rfl
    · exact fun _ _ _ h => h
    try simp only [Act.put, List.setIfInBounds_toArray, List.set_cons_zero, List.set_cons_succ]
    refine held_take (i := 13) (fuel := 0) (v := ?_) (by rw [List.getElem?_toArray]; rfl) (by kernel_rfl) (by kernel_rfl) (by kernel_rfl) hHeld ?_ ?_ ?_ ?_
    rotate_left
    · intro u hSw
      go_simp
      try with_reducible rfl
    · rfl
    · exact fun _ _ _ h => h
    try simp only [Act.put, List.setIfInBounds_toArray, List.set_cons_zero, List.set_cons_succ]
    refine wpAnyH_done (by kernel_rfl) ?_ _
    have J6 := J4.out.trans (hHeld.mono J4.out.size)
    go_wp2
    go_ret
    exact ⟨rfl, J6⟩
  · have hne : (err != 0) = true := by rw [bne_iff_ne]; exact he
    clear he
    go_wp2_with fail
    refine wp_region_held_drew (S := fun w' => Below w.heap.size w w') (by kernel_rfl) HB3.out.drew (fun hHeld => ?_)
    refine held_take (i := 0) (fuel := 13) (v := ?_) (by rw [List.getElem?_toArray]; rfl) (by kernel_rfl) (by kernel_rfl) (by kernel_rfl) hHeld ?_ ?_ ?_ ?_
    rotate_left
    · intro u hSw
      go_simp
      try with_reducible rfl
    · rfl
    · exact fun _ _ _ h => h
    try simp only [Act.put, List.setIfInBounds_toArray, List.set_cons_zero, List.set_cons_succ]
    refine held_take (i := 1) (fuel := 12) (v := ?_) (by rw [List.getElem?_toArray]; rfl) (by kernel_rfl) (by kernel_rfl) (by kernel_rfl) hHeld ?_ ?_ ?_ ?_
    rotate_left
    · intro u hSw
      go_simp
      try with_reducible rfl
    · rfl
    · exact fun _ _ _ h => h
    try simp only [Act.put, List.setIfInBounds_toArray, List.set_cons_zero, List.set_cons_succ]
    refine held_take (i := 2) (fuel := 11) (v := ?_) (by rw [List.getElem?_toArray]; rfl) (by kernel_rfl) (by kernel_rfl) (by kernel_rfl) hHeld ?_ ?_ ?_ ?_
    rotate_left
    · intro u hSw
      go_simp
      try with_reducible rfl
    · rfl
    · exact fun _ _ _ h => h
    try simp only [Act.put, List.setIfInBounds_toArray, List.set_cons_zero, List.set_cons_succ]
    refine held_skip (i := 3) (fuel := 10) (by rw [List.getElem?_toArray]; rfl) (by kernel_rfl) (by kernel_rfl) (by kernel_rfl) hHeld ?_ ?_ ?_
    · rfl
    · exact fun _ _ _ h => h
    try simp only [Act.put, List.setIfInBounds_toArray, List.set_cons_zero, List.set_cons_succ]
    refine held_skip (i := 4) (fuel := 9) (by rw [List.getElem?_toArray]; rfl) (by kernel_rfl) (by kernel_rfl) (by kernel_rfl) hHeld ?_ ?_ ?_
    · rfl
    · exact fun _ _ _ h => h
    try simp only [Act.put, List.setIfInBounds_toArray, List.set_cons_zero, List.set_cons_succ]
    refine held_skip (i := 5) (fuel := 8) (by rw [List.getElem?_toArray]; rfl) (by kernel_rfl) (by kernel_rfl) (by kernel_rfl) hHeld ?_ ?_ ?_
    · rfl
    · exact fun _ _ _ h => h
    try simp only [Act.put, List.setIfInBounds_toArray, List.set_cons_zero, List.set_cons_succ]
    refine held_skip (i := 6) (fuel := 7) (by rw [List.getElem?_toArray]; rfl) (by kernel_rfl) (by kernel_rfl) (by kernel_rfl) hHeld ?_ ?_ ?_
    · rfl
    · exact fun _ _ _ h => h
    try simp only [Act.put, List.setIfInBounds_toArray, List.set_cons_zero, List.set_cons_succ]
    refine held_skip (i := 7) (fuel := 6) (by rw [List.getElem?_toArray]; rfl) (by kernel_rfl) (by kernel_rfl) (by kernel_rfl) hHeld ?_ ?_ ?_
    · rfl
    · exact fun _ _ _ h => h
    try simp only [Act.put, List.setIfInBounds_toArray, List.set_cons_zero, List.set_cons_succ]
    refine held_skip (i := 8) (fuel := 5) (by rw [List.getElem?_toArray]; rfl) (by kernel_rfl) (by kernel_rfl) (by kernel_rfl) hHeld ?_ ?_ ?_
    · rfl
    · exact fun _ _ _ h => h
    try simp only [Act.put, List.setIfInBounds_toArray, List.set_cons_zero, List.set_cons_succ]
    refine held_take (i := 9) (fuel := 4) (v := ?_) (by rw [List.getElem?_toArray]; rfl) (by kernel_rfl) (by kernel_rfl) (by kernel_rfl) hHeld ?_ ?_ ?_ ?_
    rotate_left
    · intro u hSw
      go_simp
      try with_reducible rfl
    · rfl
    · exact fun _ _ _ h => h
    try simp only [Act.put, List.setIfInBounds_toArray, List.set_cons_zero, List.set_cons_succ]
    refine held_take (i := 10) (fuel := 3) (v := ?_) (by rw [List.getElem?_toArray]; rfl) (by kernel_rfl) (by kernel_rfl) (by kernel_rfl) hHeld ?_ ?_ ?_ ?_
    rotate_left
    · intro u hSw
      go_simp
      try with_reducible rfl
    · rfl
    · exact fun _ _ _ h => h
    try simp only [Act.put, List.setIfInBounds_toArray, List.set_cons_zero, List.set_cons_succ]
    refine held_one (i := 11) (fuel := 2) (by kernel_rfl) (by rw [List.getElem?_toArray]; rfl) (fun K hK => ?_)
    go_simp
    refine (awake_any _).mono ?_
    rintro e w6 ⟨rfl, hb6⟩
    refine hK.out _ _ ?_ (fun hHeld => ?_)
    · exact hHeld.trans (hb6.mono hHeld.size)
    clear hK K
    try simp only [Act.put, List.setIfInBounds_toArray, List.set_cons_zero, List.set_cons_succ]
    refine held_take (i := 12) (fuel := 1) (v := ?_) (by rw [List.getElem?_toArray]; rfl) (by kernel_rfl) (by kernel_rfl) (by kernel_rfl) hHeld ?_ ?_ ?_ ?_
    rotate_left
    · intro u hSw
      go_simp
      try with_reducible rfl
    · rfl
    · exact fun _ _ _ h => h
    try simp only [Act.put, List.setIfInBounds_toArray, List.set_cons_zero, List.set_cons_succ]
    refine held_take (i := 13) (fuel := 0) (v := ?_) (by rw [List.getElem?_toArray]; rfl) (by kernel_rfl) (by kernel_rfl) (by kernel_rfl) hHeld ?_ ?_ ?_ ?_
    rotate_left
    · intro u hSw
      go_simp
      try with_reducible rfl
    · rfl
    · exact fun _ _ _ h => h
    try simp only [Act.put, List.setIfInBounds_toArray, List.set_cons_zero, List.set_cons_succ]
    refine wpAnyH_done (by kernel_rfl) ?_ _
    go_wp2
    go_ret
    exact ⟨rfl, hHeld⟩

set_option maxRecDepth 100000 in
set_option maxHeartbeats 800000 in
theorem back_long (A : Option Addr) (n c : Nat) (w : World) (_hn : ¬ (n : Int) ≤ 2000) :
    Calls Try.prog 5 #[.slice A n c] w fun e w' => e = .returned (.bool true) ∧ Below w.heap.size w w' := by
  go_enter Try.func5, Try.ntmps5
  go_wp2_with fail
  refine (awake_any _).mono ?_
  rintro e w4 ⟨rfl, hb4⟩
  go_wp2_with fail
  go_ret
  exact ⟨rfl, hb4⟩

end Go.Proofs.Ytpenilbnhhcmiaa
