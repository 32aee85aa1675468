/- Contracts of the reference's Same and Few on slices of strings. -/
import Derived.Test.YteamolaoakhaiaaDoorRows
import Derived.Test.YteamolaoakhaiaaDoorStrs
import Derived.Lib.Join
import Derived.Lib.Strings
namespace Go.Proofs.YteamolaoakhaiaaDoor
open Go.RowKit

set_option maxRecDepth 100000 in
set_option maxHeartbeats 3200000 in
theorem rsame_same (w : World) (B B' : Nat) (A A' : Option Addr) (n n' c c' : Nat) (ls : List (List UInt8)) (h : RdS w B A n ls) (h' : RdS w B' A' n' ls) (_hn : (n : Int) ≤ 1000000) :
    Calls Tryd.prog 11 #[.slice A n c, .slice A' n' c'] w fun e w' => e = .returned (.bool true) ∧ Below w.heap.size w w' := by
  obtain rfl : n' = n := by rw [← h.1, ← h'.1]
  have H := Lib.hid h
  have H' := Lib.hid h'
  clear h h'
  go_enter Tryd.func11, Tryd.ntmps11
  go_wp2_with fail
  go_loopw [5] (fun i wr => ∃ (j : Nat), j ≤ n' ∧ i = .int .i64 j ∧ Below w.heap.size w wr ∧ ∀ p, wr.cell? p = w.cell? p) (fun i _ => n' - (intOf i).toNat)
  case atStart => exact ⟨0, Nat.zero_le _, rfl, Below.refl _ _, fun _ => rfl⟩
  case round =>
    obtain ⟨j, hj, rfl, hbel, hcells⟩ := hrel
    by_cases hlt : j < n'
    · obtain ⟨ad, rfl, _, hc⟩ := H.out.2 (by omega)
      obtain ⟨ad', rfl, _, hc'⟩ := H'.out.2 (by omega)
      have k1 := (hcells (ad.add j)).trans (hc j (by rw [H.out.1]; exact hlt))
      have k2 := (hcells (ad'.add j)).trans (hc' j (by rw [H.out.1]; exact hlt))
      obtain ⟨z, hz⟩ : ∃ z, z = bs (ls[j]?.getD []) := ⟨_, rfl⟩
      rw [← hz] at k1 k2
      have HC := Lib.hid hcells
      clear hc hc' hz hcells
      go_wp2_with fail
      go_quiet (fail)
      go_wp2_with fail
      go_roundw
      case rel => exact ⟨j + 1, by omega, by go_num, ⟨hbel.os, hbel.tape, hbel.output, hbel.size, hbel.block⟩, HC.out⟩
      case measure => simp [intOf]; omega
    · have HC := Lib.hid hcells
      clear hcells
      go_wp2_with fail
      go_ret
      exact ⟨rfl, hbel⟩

/-- few texts, with few bytes in all -/
def fewB (ls : List (List UInt8)) (N M : Int) : Bool := decide ((ls.length : Int) ≤ N) && decide ((Lib.lens ls : Int) ≤ M)

theorem lens_one {ls : List (List UInt8)} {j : Nat} (h : j < ls.length) : Lib.lens (ls.take (j + 1)) = Lib.lens (ls.take j) + (bs (ls[j]?.getD [])).size := by
  rw [bs_size, Lib.lens_take_succ ls j ls[j] (List.getElem?_eq_getElem h), List.getElem?_eq_getElem h]
  rfl

theorem few_many {ls : List (List UInt8)} {N M : Int} (h : N < (ls.length : Int)) : fewB ls N M = false := by
  unfold fewB
  rw [show decide ((ls.length : Int) ≤ N) = false from by simp; omega, Bool.false_and]

theorem few_great {ls : List (List UInt8)} {N M : Int} {j : Nat} (hj : j < ls.length) (h : M < ((bs (ls[j]?.getD [])).size : Int)) : fewB ls N M = false := by
  have h1 := lens_one hj
  have h2 := Lib.lens_take_le ls (j + 1)
  unfold fewB
  rw [show decide ((Lib.lens ls : Int) ≤ M) = false from by simp; omega, Bool.and_false]

theorem few_end {ls : List (List UInt8)} {N M : Int} (h : (ls.length : Int) ≤ N) {j : Nat} (hj : ls.length ≤ j) : fewB ls N M = decide ((Lib.lens (ls.take j) : Int) ≤ M) := by
  unfold fewB
  rw [List.take_of_length_le hj, show decide ((ls.length : Int) ≤ N) = true from by simpa using h, Bool.true_and]

theorem bool_ret' {a b : Bool} (h : a = b) : Ending.returned (.bool a) = .returned (.bool b) := by rw [h]

set_option maxRecDepth 100000 in
set_option maxHeartbeats 3200000 in
theorem rfew_any (w : World) (B : Nat) (A : Option Addr) (n c : Nat) (ls : List (List UInt8)) (N M : Int) (h : RdS w B A n ls) (hN : N ≤ 1000000) (hM0 : 0 ≤ M) (hM : M ≤ 1000000) (hn : (n : Int) ≤ 9223372036854775807) (hsz : ∀ j : Nat, ((bs (ls[j]?.getD [])).size : Int) ≤ 9223372036854775807) :
    Calls Tryd.prog 9 #[.slice A n c, .int .i64 N, .int .i64 M] w fun e w' => e = .returned (.bool (fewB ls N M)) ∧ w = w' := by
  have hl := h.1
  by_cases hmany : N < (n : Int)
  · rw [few_many (by omega)]
    clear h hl hsz
    go_enter Tryd.func9, Tryd.ntmps9
    go_wp2_with fail
    go_ret
    exact ⟨rfl, rfl⟩
  · have H := Lib.hid h
    have HL := Lib.hid hl
    have HSZ := Lib.hid hsz
    clear h hl hsz
    go_enter Tryd.func9, Tryd.ntmps9
    go_wp2_with fail
    go_loop [7, 8] (fun t i => ∃ (j : Nat) (S : Nat), j ≤ n ∧ i = .int .i64 j ∧ t = .int .i64 S ∧ Hid (S = Lib.lens (ls.take j)) ∧ (S : Int) ≤ j * 1000000) (fun _ i => n - (intOf i).toNat)
    case atStart => exact ⟨0, 0, Nat.zero_le _, rfl, rfl, Lib.hid (by simp [Lib.lens]), by simp⟩
    case round =>
      obtain ⟨j, S, hj, rfl, rfl, hS, hSb⟩ := hrel
      by_cases hlt : j < n
      · obtain ⟨ad, rfl, _, hc⟩ := H.out.2 (by omega)
        have k1 := hc j (by rw [HL.out]; exact hlt)
        obtain ⟨z, hz⟩ : ∃ z, z = bs (ls[j]?.getD []) := ⟨_, rfl⟩
        have hz63 : (z.size : Int) ≤ 9223372036854775807 := by rw [hz]; exact HSZ.out j
        rw [← hz] at k1
        have HZ := Lib.hid hz
        clear hc hz
        by_cases hbig : M < (z.size : Int)
        · have hr := Lib.hid (few_great (N := N) (M := M) (ls := ls) (j := j) (by rw [HL.out]; exact hlt) (by rw [← HZ.out]; exact hbig))
          go_wp2_with fail
          go_ret
          exact ⟨bool_ret' hr.out.symm, rfl⟩
        · have hnext := Lib.hid (lens_one (ls := ls) (j := j) (by rw [HL.out]; exact hlt))
          go_wp2_with fail
          go_round
          case rel => exact ⟨j + 1, S + z.size, by omega, by go_num, by go_num, Lib.hid (by rw [hnext.out, ← hS.out, ← HZ.out]), by omega⟩
          case measure => simp [intOf]; omega
      · have hr := Lib.hid (few_end (ls := ls) (N := N) (M := M) (j := j) (by rw [HL.out]; omega) (by rw [HL.out]; omega))
        have HR : Hid (fewB ls N M = decide ((S : Int) ≤ M)) := Lib.hid (by rw [hS.out]; exact hr.out)
        clear hr
        go_wp2_with fail
        go_ret
        exact ⟨bool_ret' HR.out.symm, rfl⟩

end Go.Proofs.YteamolaoakhaiaaDoor
