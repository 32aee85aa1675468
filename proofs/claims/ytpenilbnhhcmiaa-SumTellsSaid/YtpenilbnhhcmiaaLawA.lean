/- The walk of the statement SumTells. -/
import Derived.Test.YtpenilbnhhcmiaaAwake
namespace Go.Proofs.Ytpenilbnhhcmiaa
open Go.RowKit

set_option maxRecDepth 100000 in
set_option maxHeartbeats 1600000 in
theorem tells_walk (A : Option Addr) (n c : Nat) (l : List UInt8) (s : Nat) (w : World) (h : Rd w w.heap.size A n l) (hs : s < 4294967296) :
    Calls Try.prog 3 #[.slice A n c, .int .u32 s] w fun e w' => e = .returned (.bool true) ∧ Below w.heap.size w w' := by
  have H := Lib.hid h
  clear h
  by_cases hn : (n : Int) ≤ 2000
  · go_enter Try.func3, Try.ntmps3
    go_wp2_with fail
    refine (sOf_any _ w.heap.size A n c l H.out (Nat.le_refl _) (by omega)).mono ?_
    rintro e w1 ⟨rfl, hb1⟩
    go_wp2_with fail
    refine (rOf_any _ w.heap.size A n c l (H.out.below hb1) (by omega)).mono ?_
    rintro e w2 ⟨rfl, rfl⟩
    go_wp2_with fail
    refine (sOn_any _ w.heap.size A n c l s (H.out.below hb1) hb1.size (by omega) hs).mono ?_
    rintro e w2 ⟨rfl, hb2⟩
    have hb3 := hb1.trans (hb2.mono hb1.size)
    clear hb1 hb2
    go_wp2_with fail
    refine (rOn_any _ w.heap.size A n c l s (H.out.below hb3) (by omega) hs).mono ?_
    rintro e w3 ⟨rfl, rfl⟩
    go_wp2_with fail
    refine (awake_any _).mono ?_
    rintro e w4 ⟨rfl, hb4⟩
    go_wp2_with fail
    go_ret
    exact ⟨rfl, hb3.trans (hb4.mono hb3.size)⟩
  · go_enter Try.func3, Try.ntmps3
    go_wp2_with fail
    refine (awake_any _).mono ?_
    rintro e w4 ⟨rfl, hb4⟩
    go_wp2_with fail
    go_ret
    exact ⟨rfl, hb4⟩

end Go.Proofs.Ytpenilbnhhcmiaa
