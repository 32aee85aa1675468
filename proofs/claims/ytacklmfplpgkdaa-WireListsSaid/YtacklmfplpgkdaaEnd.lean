/- Contracts of End, of the reference's End, and of the reference's comparison of two readers. -/
import Derived.Test.YtacklmfplpgkdaaSizeR
import Derived.Test.YtacklmfplpgkdaaAwake
namespace Go.Proofs.Ytacklmfplpgkdaa
open Go.RowKit

set_option maxRecDepth 100000 in
set_option maxHeartbeats 800000 in
theorem reader_same (w : World) (B : Nat) (A : Option Addr) (n c : Nat) (l : List UInt8) (x err : Int) (h : Rd w B A n l) (hB : B ≤ w.heap.size) :
    Calls Try.prog 34 #[rv A n c x err, rv A n c x err] w fun e w' => e = .returned (.bool true) ∧ Below w.heap.size w w' := by
  have H := Lib.hid h
  clear h
  go_enter Try.func34, Try.ntmps34
  go_wp2_with fail
  refine (bytes_same _ B B A A n n c c l l (H.out.below ((((Below.refl _ _).alloc (Nat.le_refl _) _).alloc (by simp) _).mono hB)) (H.out.below ((((Below.refl _ _).alloc (Nat.le_refl _) _).alloc (by simp) _).mono hB)) rfl).mono ?_
  rintro e w1 ⟨rfl, rfl⟩
  go_wp2_with fail
  go_ret
  exact ⟨rfl, ((Below.refl _ _).alloc (Nat.le_refl _) _).alloc (by simp) _⟩

/-- what End tells -/
def endv (n : Nat) (x err : Int) : Int := if err ≠ 0 then err else if x < n then 3 else 0

set_option maxRecDepth 100000 in
set_option maxHeartbeats 800000 in
theorem end_any (w : World) (A : Option Addr) (n c : Nat) (x err : Int) :
    Calls Try.prog 35 #[rv A n c x err] w fun e w' => e = .returned (.int .i64 (endv n x err)) ∧ Below w.heap.size w w' := by
  by_cases he : err = 0
  · subst he
    by_cases hx : x < n
    · have e : endv n x 0 = 3 := by unfold endv; rw [if_neg (by simp), if_pos hx]
      rw [e]
      go_enter Try.func35, Try.ntmps35
      go_wp2
      go_ret
      exact ⟨rfl, (Below.refl _ _).alloc (Nat.le_refl _) _⟩
    · have e : endv n x 0 = 0 := by unfold endv; rw [if_neg (by simp), if_neg hx]
      rw [e]
      clear e
      go_enter Try.func35, Try.ntmps35
      go_wp2
      go_ret
      exact ⟨rfl, (Below.refl _ _).alloc (Nat.le_refl _) _⟩
  · have e : endv n x err = err := by unfold endv; rw [if_pos he]
    rw [e]
    clear e
    have hb : (err == 0) = false := beq_eq_false_iff_ne.2 he
    have hb2 : (err != 0) = true := by rw [bne_iff_ne]; exact he
    go_enter Try.func35, Try.ntmps35
    go_wp2
    go_ret
    exact ⟨rfl, (Below.refl _ _).alloc (Nat.le_refl _) _⟩

set_option maxRecDepth 100000 in
set_option maxHeartbeats 800000 in
theorem rend_any (w : World) (A : Option Addr) (n c : Nat) (x err : Int) :
    Calls Try.prog 36 #[rv A n c x err] w fun e w' => e = .returned (.int .i64 (endv n x err)) ∧ Below w.heap.size w w' := by
  by_cases he : err = 0
  · subst he
    by_cases hx : x < n
    · have e : endv n x 0 = 3 := by unfold endv; rw [if_neg (by simp), if_pos hx]
      rw [e]
      go_enter Try.func36, Try.ntmps36
      go_wp2
      go_ret
      exact ⟨rfl, (Below.refl _ _).alloc (Nat.le_refl _) _⟩
    · have e : endv n x 0 = 0 := by unfold endv; rw [if_neg (by simp), if_neg hx]
      rw [e]
      clear e
      go_enter Try.func36, Try.ntmps36
      go_wp2
      go_ret
      exact ⟨rfl, (Below.refl _ _).alloc (Nat.le_refl _) _⟩
  · have e : endv n x err = err := by unfold endv; rw [if_pos he]
    rw [e]
    clear e
    have hb : (err == 0) = false := beq_eq_false_iff_ne.2 he
    have hb2 : (err != 0) = true := by rw [bne_iff_ne]; exact he
    go_enter Try.func36, Try.ntmps36
    go_wp2
    go_ret
    exact ⟨rfl, (Below.refl _ _).alloc (Nat.le_refl _) _⟩

end Go.Proofs.Ytacklmfplpgkdaa
