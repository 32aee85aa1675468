/- Contract of the reference's Join. -/
import Derived.Test.YteglmkifpdedbaaStrsR
import Derived.Laws.Concat
namespace Go.Proofs.Yteglmkifpdedbaa
open Go.RowKit

theorem join_two (x y : List UInt8) (r : List (List UInt8)) (sep : List UInt8) : Lib.join (x :: y :: r) sep = x ++ sep ++ Lib.join (y :: r) sep := by
  rw [Lib.join_cons, Lib.join_cons]
  simp [Lib.joinTail, List.append_assoc]

theorem bs_app (x : List UInt8) (s : ByteArray) : bs x ++ s = bs (x ++ s.data.toList) := by
  have h : (bs x ++ s).data.toList = x ++ s.data.toList := by simp [bs]
  rw [← h, bs_data]

/-- only draws -/
def Drawn (v : Value) (w : World) (e : Ending) (w' : World) : Prop := e = .returned v ∧ ∃ m, w' = w.drewN m

theorem str_ret {a b : ByteArray} (h : a = b) : Ending.returned (.string a) = .returned (.string b) := by rw [h]

theorem rds_draw {w : World} {B : Nat} {A : Option Addr} {n : Nat} {ls : List (List UInt8)} (h : RdS w B A n ls) (m : Nat) : RdS (w.drewN m) B A n ls := h

set_option maxRecDepth 100000 in
set_option maxHeartbeats 3200000 in
theorem rjoin_any (sep : ByteArray) (k : Nat) : ∀ (w : World) (B : Nat) (A : Option Addr) (n c : Nat) (ls : List (List UInt8)), ls.length ≤ k → RdS w B A n ls → n ≤ c → (c : Int) ≤ 9223372036854775807 → ((Lib.join ls sep.data.toList).length : Int) ≤ 1000000000 →
    Calls Try.prog 24 #[.slice A n c, .string sep] w (Drawn (.string (bs (Lib.join ls sep.data.toList))) w) := by
  induction k with
  | zero =>
    intro w B A n c ls hk h hc hc63 hT
    obtain rfl : ls = [] := List.eq_nil_of_length_eq_zero (by omega)
    have h1 := h.1
    obtain rfl : n = 0 := by simp at h1; omega
    clear h h1
    go_enter Try.func24, Try.ntmps24
    go_wp2_with fail
    go_ret
    exact ⟨rfl, 0, rfl⟩
  | succ k ih =>
    intro w B A n c ls hk h hc hc63 hT
    match ls, hk, h, hT with
    | [], hk, h, hT =>
      have h1 := h.1
      obtain rfl : n = 0 := by simp at h1; omega
      clear h h1
      go_enter Try.func24, Try.ntmps24
      go_wp2_with fail
      go_ret
      exact ⟨rfl, 0, rfl⟩
    | [x], hk, h, hT =>
      have h1 := h.1
      obtain rfl : n = 1 := by simp at h1; omega
      obtain ⟨ad, rfl, _, hcell⟩ := h.2 (by omega)
      have k1 := hcell 0 (by simp)
      simp only [List.getElem?_cons_zero, Option.getD_some] at k1
      have k0 : w.cell? ad = some (.string (bs x)) := k1
      rw [Lib.join_one]
      clear h h1 hcell ih hk hT
      go_enter Try.func24, Try.ntmps24
      go_wp2_with fail
      go_ret
      exact ⟨rfl, 0, rfl⟩
    | x :: y :: r, hk, h, hT =>
      have h1 := h.1
      obtain ⟨ad, rfl, _, hcell⟩ := h.2 (by simp at h1; omega)
      have k1 := hcell 0 (by simp)
      simp only [List.getElem?_cons_zero, Option.getD_some] at k1
      have k0 : w.cell? ad = some (.string (bs x)) := k1
      rw [join_two] at hT ⊢
      have htail := h.tail (k := 1) (cap := c) (by simp at h1; omega) hc
      simp only [List.length_append] at hT
      have hn2 : 2 ≤ n := by simp at h1; omega
      rw [if_neg (by omega), Option.map_some, add_pos ad 1 (by omega)] at htail
      have HI := Lib.hid (fun W hW => ih W B (some ⟨ad.block, ad.off + 1, none⟩) (n - 1) (c - 1) (y :: r) (by simp at hk ⊢; omega) hW (by omega) (by omega) (by omega))
      have HT := Lib.hid htail
      have hp0 : 0 < n := by omega
      have hp1 : (0 : Int) < (n : Int) := by omega
      have hp2 : (1 : Int) ≤ (n : Int) := by omega
      have hp3 : 1 ≤ n := by omega
      have ha1 : ∀ W : World, (Op.stringOp .add (bs x) sep).run Try.prog W = .ok (.string (bs (x ++ sep.data.toList))) W := fun W => by
        rw [run_string_add_sum W (bs x) sep (by rw [bs_size, Lib.size_eq]; omega), bs_app]
      have ha2 : ∀ W : World, (Op.stringOp .add (bs (x ++ sep.data.toList)) (bs (Lib.join (y :: r) sep.data.toList))).run Try.prog W = .ok (.string (bs (x ++ sep.data.toList ++ Lib.join (y :: r) sep.data.toList))) W := fun W => by
        rw [run_string_add_sum W (bs (x ++ sep.data.toList)) (bs (Lib.join (y :: r) sep.data.toList)) (by rw [bs_size, bs_size, List.length_append]; omega), bs_app, data_bs]
      clear h h1 hcell ih hk htail
      go_enter Try.func24, Try.ntmps24
      go_wp2_with fail
      go_quiet ((go_at_call 24; exact Calls.quiet_of (HI.out _ (rds_draw HT.out _))))
      go_wp2_with fail
      go_ret
      exact ⟨str_ret (by rw [List.append_assoc]), _, rfl⟩

end Go.Proofs.Yteglmkifpdedbaa
