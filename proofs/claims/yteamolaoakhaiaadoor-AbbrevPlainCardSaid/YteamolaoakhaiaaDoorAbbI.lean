/- Contract of layer 7's reference: Same. -/
import Derived.Test.YteamolaoakhaiaaDoorAbbH
namespace Go.Proofs.YteamolaoakhaiaaDoor
open Go.RowKit

set_option maxRecDepth 100000 in
set_option maxHeartbeats 3200000 in
theorem rPsame_same (w : World) (B B' : Nat) (A A' : Option Addr) (n n' c c' : Nat) (ps : List Pc) (h : RdP w B A n ps) (h' : RdP w B' A' n' ps) (_hn : (n : Int) ≤ 1000000) :
    Calls Tryd.prog 15 #[.slice A n c, .slice A' n' c'] w fun e w' => e = .returned (.bool true) ∧ Below w.heap.size w w' := by
  obtain rfl : n' = n := by rw [← h.1, ← h'.1]
  have H := Lib.hid h
  have H' := Lib.hid h'
  clear h h'
  go_enter Tryd.func15, Tryd.ntmps15
  go_wp2_with fail
  go_loopw [5] (fun i wr => ∃ (j : Nat), j ≤ n' ∧ i = .int .i64 j ∧ Below w.heap.size w wr ∧ ∀ p, wr.cell? p = w.cell? p) (fun i _ => n' - (intOf i).toNat)
  case atStart => exact ⟨0, Nat.zero_le _, rfl, Below.refl _ _, fun _ => rfl⟩
  case round =>
    obtain ⟨j, hj, rfl, hbel, hcells⟩ := hrel
    by_cases hlt : j < n'
    · obtain ⟨ad, rfl, _, hc⟩ := H.out.2 (by omega)
      obtain ⟨ad', rfl, _, hc'⟩ := H'.out.2 (by omega)
      have k1 := (hcells _).trans (hc j (by rw [H.out.1]; exact hlt)).1
      have k2 := (hcells _).trans (hc j (by rw [H.out.1]; exact hlt)).2
      have k3 := (hcells _).trans (hc' j (by rw [H.out.1]; exact hlt)).1
      have k4 := (hcells _).trans (hc' j (by rw [H.out.1]; exact hlt)).2
      obtain ⟨z, hz⟩ : ∃ z, z = bs (ps[j]?.getD ([], 0)).1 := ⟨_, rfl⟩
      obtain ⟨y, hy⟩ : ∃ z, z = (ps[j]?.getD ([], 0)).2 := ⟨_, rfl⟩
      rw [← hz] at k1 k3
      rw [← hy] at k2 k4
      have HC := Lib.hid hcells
      clear hc hc' hz hcells hy
      go_wp2_with fail
      go_quiet (fail)
      go_wp2_with fail
      go_roundw
      case rel => exact ⟨j + 1, by omega, by go_num, ⟨hbel.os, hbel.tape, hbel.output, hbel.size, hbel.block⟩, HC.out⟩
      case measure => simp [intOf]; omega
    · have HC := Lib.hid hcells
      clear hcells
      go_wp2_with fail
      go_ret
      exact ⟨rfl, hbel⟩

end Go.Proofs.YteamolaoakhaiaaDoor
