/- Contract of chapter 5's examples, which every statement of the layer asks. -/
import Derived.Test.YtjcddmelkgmiiaaMixR
namespace Go.Proofs.Ytjcddmelkgmiiaa
open Go.RowKit

theorem ex_from : Mx.nz (fromV 0) = 1 := by decide
theorem ex_next : Mx.next 0 = Mx.next 1 := rfl
theorem ex_ne : ((Mx.next 1 : Int) != 0) = true := by
  have := Mx.next_ne (s := 1) (by decide)
  rw [bne_iff_ne]
  omega
theorem ex_b1 : belowN 7 0 = 0 := rfl
theorem ex_b2 : belowS 7 0 = 7 := rfl
theorem ex_s : Mx.skip 9 (stepsN (-1)) = 9 := rfl

set_option maxRecDepth 100000 in
set_option maxHeartbeats 1600000 in
theorem awake_any (w : World) : Calls Try.prog 14 #[] w fun e w' => e = .returned (.bool true) ∧ Below w.heap.size w w' := by
  have E1 := Lib.hid ex_from
  have E2 := Lib.hid ex_next
  have E3 := Lib.hid ex_ne
  have E4 := Lib.hid ex_b1
  have E5 := Lib.hid ex_b2
  have E6 := Lib.hid ex_s
  go_enter Try.func14, Try.ntmps14
  go_wp2_with fail
  refine (below_any w 7 0 (by decide) (by decide)).mono ?_
  rintro e w1 ⟨rfl, hb1⟩
  rw [E4.out, E5.out]
  go_wp2_with fail
  refine (from_any w1 0).mono ?_
  rintro e w2 ⟨rfl, rfl⟩
  rw [E1.out]
  go_wp2_with fail
  refine (next_any _ 0 (by decide)).mono ?_
  rintro e w3 ⟨rfl, hb3⟩
  rw [E2.out]
  have hb4 := hb1.trans (hb3.mono hb1.size)
  clear hb1 hb3
  go_wp2_with fail
  refine (next_any _ 1 (by decide)).mono ?_
  rintro e w4 ⟨rfl, hb5⟩
  have hb6 := hb4.trans (hb5.mono hb4.size)
  clear hb4 hb5
  go_wp2_with fail
  refine (next_any _ 1 (by decide)).mono ?_
  rintro e w5 ⟨rfl, hb7⟩
  have hb8 := hb6.trans (hb7.mono hb6.size)
  clear hb6 hb7
  have hne := E3.out
  go_wp2_with fail
  refine (skip_any _ 9 (-1) (by decide)).mono ?_
  rintro e w6 ⟨rfl, hb9⟩
  rw [E6.out]
  have hb10 := hb8.trans (hb9.mono hb8.size)
  clear hb8 hb9
  go_wp2_with fail
  go_ret
  exact ⟨rfl, hb10⟩

end Go.Proofs.Ytjcddmelkgmiiaa
