/- The walk of the statement LetterJoins. -/
import Derived.Test.YteglmkifpdedbaaAwake
import Derived.Test.YteglmkifpdedbaaJoin
namespace Go.Proofs.Yteglmkifpdedbaa
open Go.RowKit

/-- What is known of a slice of texts that came in: it is nil; or it leads to a row of 'cap' cells, the texts 'ss' (the first 'len' are its elements). -/
def IsRowS (w : World) (a : Option Addr) (len cap : Nat) (ss : List ByteArray) : Prop :=
  (a = none ∧ len = 0 ∧ cap = 0) ∨
  ∃ x, a = some x ∧ len ≤ cap ∧ cap ≤ maxLen ∧ len ≤ ss.length ∧ (∀ i, i < ss.length → w.cell? (x.add i) = some (.string (ss.getD i ByteArray.empty))) ∧ ∀ s ∈ ss, s.size ≤ maxLen

theorem IsRowS.rdS {w : World} {a : Option Addr} {len cap : Nat} {ss : List ByteArray} (h : IsRowS w a len cap ss) :
    ∃ ls, RdS w w.heap.size a len ls ∧ len ≤ cap ∧ (cap : Int) ≤ 9223372036854775807 ∧ ∀ j : Nat, ((bs (ls[j]?.getD [])).size : Int) ≤ 9223372036854775807 := by
  rcases h with ⟨rfl, rfl, rfl⟩ | ⟨x, rfl, h1, h2, h3, hc, hs⟩
  · exact ⟨[], RdS.nil _ _ _, Nat.le_refl _, by omega, fun j => by simp [bs_size]⟩
  · unfold maxLen at h2 hs
    have hl : ((ss.take len).map (·.data.toList)).length = len := by simp; omega
    have hat : ∀ j, j < len → bs (((ss.take len).map (·.data.toList))[j]?.getD []) = ss.getD j ByteArray.empty := fun j hj => by
      have hj2 : j < ss.length := by omega
      simp [List.getD, hj, hj2, bs_data]
    refine ⟨(ss.take len).map (·.data.toList), ⟨hl, fun hn => ⟨x, rfl, ?_, fun j hj => ?_⟩⟩, h1, by omega, fun j => ?_⟩
    · have := World.block_lt_of_cell? w _ (hc 0 (by omega))
      rw [blk_add] at this
      exact this
    · rw [hat j (by omega)]
      exact hc j (by omega)
    · by_cases hj : j < len
      · rw [hat j hj]
        have hj2 : j < ss.length := by omega
        have := hs (ss.getD j ByteArray.empty) (by simp [List.getD, hj2])
        omega
      · rw [List.getElem?_eq_none (by omega)]
        simp [bs_size]

theorem below_dn (w : World) (m : Nat) : Below w.heap.size w (w.drewN m) := ⟨rfl, rfl, rfl, Nat.le_refl _, fun _ _ => rfl⟩

theorem few_true {ls : List (List UInt8)} (h : fewB ls 300 3000 = true) : ls.length ≤ 300 ∧ Lib.lens ls ≤ 3000 := by
  simp [fewB] at h
  omega

theorem join_len' (ls : List (List UInt8)) (sep : List UInt8) : (Lib.join ls sep).length ≤ Lib.lens ls + sep.length * ls.length := by
  cases ls with
  | nil => simp [Lib.join_nil]
  | cons x r =>
    rw [Lib.join_length, List.length_cons, Nat.mul_succ]
    omega

set_option maxRecDepth 100000 in
set_option maxHeartbeats 3200000 in
theorem joins_walk (A : Option Addr) (n c : Nat) (ls : List (List UInt8)) (sep : ByteArray) (w : World) (h : RdS w w.heap.size A n ls) (hc : n ≤ c) (hc63 : (c : Int) ≤ 9223372036854775807) (hsz : ∀ j : Nat, ((bs (ls[j]?.getD [])).size : Int) ≤ 9223372036854775807) (_hs : (sep.size : Int) ≤ 9223372036854775807) :
    Calls Try.prog 6 #[.slice A n c, .string sep] w fun e w' => e = .returned (.bool true) ∧ Below w.heap.size w w' := by
  have H := Lib.hid h
  have HS := Lib.hid hsz
  clear h hsz
  by_cases hf : fewB ls 300 3000 = true
  · by_cases hn : (sep.size : Int) ≤ 300
    · obtain ⟨f1, f2⟩ := few_true hf
      have hjl := join_len' ls sep.data.toList
      rw [← Lib.size_eq] at hjl
      have hm : sep.size * ls.length ≤ 300 * 300 := Nat.mul_le_mul (by omega) f1
      have hT : ((Lib.join ls sep.data.toList).length : Int) ≤ 1000000 := by omega
      have hn3 : n ≤ 300 := by rw [← H.out.1]; exact f1
      have HT := Lib.hid hT
      have HF := Lib.hid hf
      clear hf hjl hm hT f1 f2
      go_enter Try.func6, Try.ntmps6
      go_wp2_with fail
      refine (rfew_any w _ A n c ls 300 3000 H.out (by omega) (by omega) (by omega) (by omega) HS.out).mono ?_
      rintro e w1 ⟨rfl, rfl⟩
      rw [HF.out]
      go_wp2_with fail
      refine (join_any w _ A n c ls sep H.out (Nat.le_refl _) hc (by omega) (Int.le_trans HT.out (by omega))).mono ?_
      rintro e w1 ⟨rfl, hb1⟩
      go_wp2_with fail
      refine (rjoin_any sep ls.length w1 _ A n c ls (Nat.le_refl _) (H.out.below hb1) hc hc63 (Int.le_trans HT.out (by omega))).mono ?_
      rintro e w2 ⟨rfl, m, rfl⟩
      go_wp2_with fail
      refine (awake_any _).mono ?_
      rintro e w3 ⟨rfl, hb3⟩
      go_wp2_with fail
      go_ret
      exact ⟨rfl, hb1.trans (((below_dn w1 m).trans hb3).mono hb1.size)⟩
    · have HF := Lib.hid hf
      clear hf
      go_enter Try.func6, Try.ntmps6
      go_wp2_with fail
      refine (rfew_any w _ A n c ls 300 3000 H.out (by omega) (by omega) (by omega) (by omega) HS.out).mono ?_
      rintro e w1 ⟨rfl, rfl⟩
      rw [HF.out]
      go_wp2_with fail
      refine (awake_any _).mono ?_
      rintro e w3 ⟨rfl, hb3⟩
      go_wp2_with fail
      go_ret
      exact ⟨rfl, hb3⟩
  · rw [Bool.not_eq_true] at hf
    have HF := Lib.hid hf
    clear hf
    go_enter Try.func6, Try.ntmps6
    go_wp2_with fail
    refine (rfew_any w _ A n c ls 300 3000 H.out (by omega) (by omega) (by omega) (by omega) HS.out).mono ?_
    rintro e w1 ⟨rfl, rfl⟩
    rw [HF.out]
    go_wp2_with fail
    refine (awake_any _).mono ?_
    rintro e w3 ⟨rfl, hb3⟩
    go_wp2_with fail
    go_ret
    exact ⟨rfl, hb3⟩

end Go.Proofs.Yteglmkifpdedbaa
