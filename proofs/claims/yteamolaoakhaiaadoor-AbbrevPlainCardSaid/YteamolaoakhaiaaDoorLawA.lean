/- The walks of the statements AbbrevChooses, AbbrevCuts, AbbrevBack. -/
import Derived.Test.YteamolaoakhaiaaDoorAwake
namespace Go.Proofs.YteamolaoakhaiaaDoor
open Go.RowKit

theorem few_tot {ls : List (List UInt8)} {N M : Int} (h : fewB ls N M = true) : (ls.length : Int) ≤ N ∧ (tot ls : Int) ≤ M := by
  unfold fewB at h
  simp only [Bool.and_eq_true, decide_eq_true_eq] at h
  exact ⟨h.1, h.2⟩

/-- texts that came in, each no longer than an int tells -/
def Sized (ls : List (List UInt8)) : Prop := ∀ j : Nat, ((bs (ls[j]?.getD [])).size : Int) ≤ 9223372036854775807

set_option maxRecDepth 100000 in
set_option maxHeartbeats 3200000 in
theorem chooses_walk (A : Option Addr) (n c : Nat) (ls : List (List UInt8)) (most : Int) (w : World) (h : RdS w w.heap.size A n ls) (hc : n ≤ c) (hc63 : (c : Int) ≤ 9223372036854775807) (hsz : Sized ls) (hm : MaxL w) :
    Calls Tryd.prog 3 #[.slice A n c, .int .i64 most] w fun e w' => e = .returned (.bool true) ∧ Below w.heap.size w w' := by
  have H := Lib.hid h
  have HMX := Lib.hid hm
  clear hm
  have HS := Lib.hid hsz
  have HC := Lib.hid hc
  have HL := Lib.hid h.1
  clear h hsz
  by_cases hf : fewB ls 8 120 = true
  · obtain ⟨f1, f2⟩ := few_tot hf
    have ht : n + tot ls ≤ 1000 := by have := HL.out; omega
    have HTT := Lib.hid ht
    have HF := Lib.hid hf
    have hlen := choose_pays ls most
    have HLN := Lib.hid hlen.1
    clear hf ht f1 f2 hlen hc
    go_enter Tryd.func3, Tryd.ntmps3
    go_wp2_with fail
    refine (rfew_any w _ A n c ls 8 120 H.out (by omega) (by omega) (by omega) (by have := HC.out; omega) HS.out).mono ?_
    rintro e w1 ⟨rfl, rfl⟩
    rw [HF.out]
    go_wp2_with fail
    refine (choose_any w A n c ls most H.out HC.out HTT.out HMX.out).mono ?_
    rintro e w1 ⟨A1, n1, c1, rfl, ho1, hb1⟩
    have HR1 := Lib.hid (RdS.of_own ho1)
    have HB1 := Lib.hid hb1
    have hn1 : n1 ≤ 32 := by have := ownS_len ho1; have := HLN.out; omega
    clear ho1 hb1
    go_wp2_with fail
    refine (rChoose_any w1 A n c ls most (H.out.at_ (Nat.le_refl _) HB1.out) HTT.out).mono ?_
    rintro e w2 ⟨A2, n2, c2, rfl, ho2, hb2⟩
    have HR2 := Lib.hid (RdS.of_own ho2)
    have HB2 := Lib.hid hb2
    clear ho2 hb2
    go_wp2_with fail
    refine (rsame_same w2 _ _ A1 A2 n1 n2 c1 c2 _ (HR1.out.at_ (Nat.le_refl _) HB2.out) HR2.out (by omega)).mono ?_
    rintro e w3 ⟨rfl, hb3⟩
    have HB3 := Lib.hid (after (after HB1.out HB2.out) hb3)
    clear hb3
    go_wp2_with fail
    refine (awake_any w3 (HMX.out.up HB3.out)).mono ?_
    rintro e w4 ⟨rfl, hb4⟩
    go_wp2_with fail
    go_ret
    exact ⟨rfl, after HB3.out hb4⟩
  · rw [Bool.not_eq_true] at hf
    have HF := Lib.hid hf
    clear hf
    go_enter Tryd.func3, Tryd.ntmps3
    go_wp2_with fail
    refine (rfew_any w _ A n c ls 8 120 H.out (by omega) (by omega) (by omega) (by have := HC.out; omega) HS.out).mono ?_
    rintro e w1 ⟨rfl, rfl⟩
    rw [HF.out]
    go_wp2_with fail
    refine (awake_any w HMX.out).mono ?_
    rintro e w4 ⟨rfl, hb4⟩
    go_wp2_with fail
    go_ret
    exact ⟨rfl, hb4⟩

/-- pieces of a cut are few and short -/
theorem stepsF_len (ab : List (List UInt8)) : ∀ (f : Nat) (s : List UInt8), (stepsF ab f s).length ≤ f := by
  intro f
  induction f with
  | zero => intro s; exact Nat.le_refl _
  | succ f ih =>
    intro s
    cases s with
    | nil => exact Nat.zero_le _
    | cons c r =>
      unfold stepsF
      split
      · rw [List.length_cons]; have := ih r; omega
      · rw [List.length_cons]; have := ih ((c :: r).drop (ab.getD (firstA ab (c :: r)) []).length); omega

theorem putS_size (out : List Pc) (x : Step) (k : Nat) (h1 : out.length ≤ k) (h2 : ∀ p ∈ out, p.1.length ≤ k) : (putS out x).length ≤ k + 1 ∧ ∀ p ∈ putS out x, p.1.length ≤ k + 1 := by
  have snoc : ∀ q : Pc, q.1.length ≤ k + 1 → (out ++ [q]).length ≤ k + 1 ∧ ∀ p ∈ out ++ [q], p.1.length ≤ k + 1 := by
    intro q hq
    refine ⟨by rw [List.length_append, List.length_singleton]; omega, fun p hp => ?_⟩
    rcases List.mem_append.1 hp with hp | hp
    · have := h2 p hp; omega
    · rw [List.mem_singleton] at hp; subst hp; exact hq
  cases x with
  | abb j => exact snoc ([], (j : Int)) (Nat.zero_le _)
  | lit c =>
    unfold putS
    cases hl : out.getLast? with
    | none => exact ⟨by simp, fun p hp => by rw [List.mem_singleton] at hp; subst hp; simp⟩
    | some p =>
      obtain ⟨o, rfl⟩ : ∃ o, out = o ++ [p] := by rw [List.getLast?_eq_some_iff] at hl; exact hl
      have hp0 := h2 p (by simp)
      by_cases hp : 0 < p.2
      · simp only [if_pos hp]
        exact snoc ([c], 0) (by simp)
      · simp only [if_neg hp, List.dropLast_concat]
        refine ⟨by rw [List.length_append] at h1 ⊢; simp at h1 ⊢; omega, fun q hq => ?_⟩
        rcases List.mem_append.1 hq with hq | hq
        · have := h2 q (by simp [hq]); omega
        · rw [List.mem_singleton] at hq
          subst hq
          show (p.1 ++ [c]).length ≤ k + 1
          rw [List.length_append, List.length_singleton]
          omega

theorem fold_size : ∀ (xs : List Step) (out : List Pc) (k : Nat), out.length ≤ k → (∀ p ∈ out, p.1.length ≤ k) → (xs.foldl putS out).length ≤ k + xs.length ∧ ∀ p ∈ xs.foldl putS out, p.1.length ≤ k + xs.length := by
  intro xs
  induction xs with
  | nil => intro out k h1 h2; exact ⟨h1, h2⟩
  | cons x xs ih =>
    intro out k h1 h2
    obtain ⟨k1, k2⟩ := putS_size out x k h1 h2
    have h3 := ih (putS out x) (k + 1) k1 k2
    rw [List.foldl_cons, List.length_cons, show k + (xs.length + 1) = k + 1 + xs.length from by omega]
    exact h3

theorem cut_size (ab : List (List UInt8)) (s : List UInt8) : (cutL ab s).length ≤ s.length ∧ ShortP s.length (cutL ab s) := by
  have h1 := stepsF_len ab s.length s
  obtain ⟨h2, h3⟩ := fold_size (stepsF ab s.length s) [] 0 (Nat.le_refl _) (fun p hp => by simp at hp)
  refine ⟨by unfold cutL; omega, fun j => ?_⟩
  by_cases hj : j < (cutL ab s).length
  · have e : (cutL ab s)[j]?.getD ([], 0) = (cutL ab s)[j] := by rw [List.getElem?_eq_getElem hj]; rfl
    rw [e]
    have h4 := h3 ((cutL ab s)[j]) (List.getElem_mem hj)
    omega
  · rw [List.getElem?_eq_none (by omega)]
    simp

end Go.Proofs.YteamolaoakhaiaaDoor
