/- Tokens of a source, for a program that goes from left to right: rows of words, tokens without line feeds, decimal forms. No function of the program is named here. -/
import Derived.Test.YtgeglhgkibcpfaaDoorLexP
namespace Go.Proofs.YtgeglhgkibcpfaaDoor
open Go.RowKit
set_option linter.unusedVariables false

/-- words, each with a blank behind it -/
def rowOf (ws : List (List UInt8)) : List UInt8 := ws.flatMap fun w => w ++ [32]
def idxF (s : List UInt8) : List (List UInt8) → Nat → Nat × Bool
  | [], _ => (0, false)
  | w :: ws, n => if w = s then (n, true) else idxF s ws (n + 1)

theorem holdF_row (s : List UInt8) : ∀ (ws : List (List UInt8)) (n : Nat), (∀ w ∈ ws, ∀ c ∈ w, (c.toNat : Int) ≠ 32) → holdF s (rowOf ws) [] n = idxF s ws n := by
  intro ws
  induction ws with
  | nil => intro n _; rfl
  | cons w ws ih =>
    intro n h
    have e : rowOf (w :: ws) = w ++ 32 :: rowOf ws := by unfold rowOf; simp
    rw [e, holdF_word s w (rowOf ws) [] n (h w (by simp)), List.nil_append, ih (n + 1) (fun x hx => h x (by simp [hx]))]
    rfl

theorem idxF_no (s : List UInt8) : ∀ (ws : List (List UInt8)) (n : Nat), s ∉ ws → idxF s ws n = (0, false) := by
  intro ws
  induction ws with
  | nil => intro n _; rfl
  | cons w ws ih =>
    intro n h
    have e : idxF s (w :: ws) n = if w = s then (n, true) else idxF s ws (n + 1) := rfl
    rw [e, if_neg (fun e => h (by simp [e])), ih (n + 1) (fun hx => h (by simp [hx]))]

theorem idxF_in (s : List UInt8) : ∀ (ws : List (List UInt8)) (n : Nat), s ∈ ws → (idxF s ws n).2 = true := by
  intro ws
  induction ws with
  | nil => intro n h; cases h
  | cons w ws ih =>
    intro n h
    have e : idxF s (w :: ws) n = if w = s then (n, true) else idxF s ws (n + 1) := rfl
    rw [e]
    by_cases hw : w = s
    · rw [if_pos hw]
    · rw [if_neg hw]
      refine ih (n + 1) ?_
      rcases List.mem_cons.mp h with h | h
      · exact absurd h.symm hw
      · exact h

/-- no line feed -/
def noF (l : List UInt8) : Prop := ∀ c ∈ l, (c.toNat : Int) ≠ 10

theorem noF_nil : noF [] := fun _ h => absurd h List.not_mem_nil
theorem noF_app {a b : List UInt8} (ha : noF a) (hb : noF b) : noF (a ++ b) := fun c h => (List.mem_append.mp h).elim (ha c) (hb c)
theorem noF_cons {c : UInt8} {l : List UInt8} (hc : (c.toNat : Int) ≠ 10) (h : noF l) : noF (c :: l) := fun d hd => (List.mem_cons.mp hd).elim (fun e => by rw [e]; exact hc) (h d)

theorem posL_flat (a : List UInt8) : ∀ m : List UInt8, noF m → posL (a ++ m) = ((posL a).1, (posL a).2 + m.length) := by
  intro m
  have key : ∀ (m : List UInt8) (p : Nat × Nat), noF m → m.foldl stepP p = (p.1, p.2 + m.length) := by
    intro m
    induction m with
    | nil => intro p _; rfl
    | cons c m ih =>
      intro p h
      have e : stepP p c = (p.1, p.2 + 1) := if_neg (h c (by simp))
      rw [List.foldl_cons, e, ih _ (fun d hd => h d (by simp [hd]))]
      simp only [List.length_cons]
      rw [Nat.add_assoc, Nat.add_comm 1]
  intro h
  have e : posL (a ++ m) = m.foldl stepP (posL a) := by unfold posL; rw [List.foldl_append]
  rw [e, key m _ h]

theorem take_more (l : List UInt8) (k m : Nat) : l.take (k + m) = l.take k ++ (l.drop k).take m := by
  rw [List.take_add]

theorem noF_row (nm : Bool) : ∀ l : List UInt8, noF (l.take (rowF nm l)) := by
  intro l
  induction l with
  | nil => exact noF_nil
  | cons c r ih =>
    by_cases h : (isDg c || (nm && (isSm c || decide ((c.toNat : Int) = 95)))) = true
    · have e : rowF nm (c :: r) = rowF nm r + 1 := if_pos h
      rw [e, List.take_succ_cons]
      refine noF_cons ?_ ih
      intro h10
      have a1 : isDg c = false := by unfold isDg; simp; omega
      have a2 : isSm c = false := by unfold isSm; simp; omega
      have a3 : decide ((c.toNat : Int) = 95) = false := by simp; omega
      rw [a1, a2, a3] at h
      simp at h
    · have e : rowF nm (c :: r) = 0 := if_neg h
      rw [e]
      exact noF_nil

/-- what is read of a text has no line feed, up to its end or its error's place -/
theorem noF_text : ∀ (n k : Nat) (acc r : List UInt8), r.length ≤ n → 1 ≤ k → ((textF k acc r).2.2.1 = 0 → k ≤ (textF k acc r).2.1 ∧ noF (r.take ((textF k acc r).2.1 - k))) ∧
    ((textF k acc r).2.2.1 ≠ 0 → (textF k acc r).2.2.2 = 0 ∨ (k ≤ (textF k acc r).2.2.2 ∧ noF (r.take ((textF k acc r).2.2.2 - k)))) := by
  intro n
  induction n with
  | zero =>
    intro k acc r h _
    rw [List.eq_nil_of_length_eq_zero (by omega : r.length = 0)]
    exact ⟨fun h => absurd h (show ¬ ((2 : Int) = 0) by decide), fun _ => .inl rfl⟩
  | succ n ih =>
    intro k acc r h hk
    cases r with
    | nil => exact ⟨fun h => absurd h (show ¬ ((2 : Int) = 0) by decide), fun _ => .inl rfl⟩
    | cons c r =>
      rw [List.length_cons] at h
      by_cases h10 : (c.toNat : Int) = 10
      · have e : textF k acc (c :: r) = ([], 0, 2, 0) := (textF_cons ..).trans (if_pos h10)
        rw [e]
        exact ⟨fun h => absurd h (show ¬ ((2 : Int) = 0) by decide), fun _ => .inl rfl⟩
      · by_cases h34 : (c.toNat : Int) = 34
        · by_cases hl : 1024 < acc.length
          · have e : textF k acc (c :: r) = ([], 0, 3, 0) := (textF_cons ..).trans ((if_neg h10).trans ((if_pos h34).trans (if_pos hl)))
            rw [e]
            exact ⟨fun h => absurd h (show ¬ ((3 : Int) = 0) by decide), fun _ => .inl rfl⟩
          · have e : textF k acc (c :: r) = (acc, k + 1, 0, 0) := (textF_cons ..).trans ((if_neg h10).trans ((if_pos h34).trans (if_neg hl)))
            rw [e]
            refine ⟨fun _ => ⟨Nat.le_succ _, ?_⟩, fun h => absurd rfl h⟩
            show noF ((c :: r).take (k + 1 - k))
            rw [Nat.add_sub_cancel_left]
            exact noF_cons h10 (by rw [List.take_zero]; exact noF_nil)
        · by_cases hb : mayB c = false ∨ (c.toNat : Int) = 9
          · have e : textF k acc (c :: r) = ([], 0, 13, k) := (textF_cons ..).trans ((if_neg h10).trans ((if_neg h34).trans (if_pos hb)))
            rw [e]
            refine ⟨fun h => absurd h (show ¬ ((13 : Int) = 0) by decide), fun _ => .inr ⟨Nat.le_refl _, ?_⟩⟩
            show noF ((c :: r).take (k - k))
            rw [Nat.sub_self]
            exact noF_nil
          · by_cases h92 : (c.toNat : Int) ≠ 92
            · have e : textF k acc (c :: r) = textF (k + 1) (acc ++ [c]) r := (textF_cons ..).trans ((if_neg h10).trans ((if_neg h34).trans ((if_neg hb).trans (if_pos h92))))
              obtain ⟨i1, i2⟩ := ih (k + 1) (acc ++ [c]) r (by omega) (by omega)
              rw [e]
              refine ⟨fun h0 => ?_, fun h0 => ?_⟩
              · obtain ⟨a1, a2⟩ := i1 h0
                refine ⟨by omega, ?_⟩
                rw [show (textF (k + 1) (acc ++ [c]) r).2.1 - k = ((textF (k + 1) (acc ++ [c]) r).2.1 - (k + 1)) + 1 from by omega, List.take_succ_cons]
                exact noF_cons h10 a2
              · rcases i2 h0 with a | ⟨a1, a2⟩
                · exact .inl a
                · refine .inr ⟨by omega, ?_⟩
                  rw [show (textF (k + 1) (acc ++ [c]) r).2.2.2 - k = ((textF (k + 1) (acc ++ [c]) r).2.2.2 - (k + 1)) + 1 from by omega, List.take_succ_cons]
                  exact noF_cons h10 a2
            · cases r with
              | nil =>
                have e : textF k acc [c] = ([], 0, 4, k) := (textF_cons ..).trans ((if_neg h10).trans ((if_neg h34).trans ((if_neg hb).trans (if_neg h92))))
                rw [e]
                refine ⟨fun h => absurd h (show ¬ ((4 : Int) = 0) by decide), fun _ => .inr ⟨Nat.le_refl _, ?_⟩⟩
                show noF ([c].take (k - k))
                rw [Nat.sub_self]
                exact noF_nil
              | cons d r =>
                rw [List.length_cons] at h
                have e0 : textF k acc (c :: d :: r) = if (d.toNat : Int) = 110 then textF (k + 2) (acc ++ [10]) r else if (d.toNat : Int) = 34 ∨ (d.toNat : Int) = 92 then textF (k + 2) (acc ++ [d]) r else ([], 0, 4, k) :=
                  (textF_cons ..).trans ((if_neg h10).trans ((if_neg h34).trans ((if_neg hb).trans (if_neg h92))))
                by_cases hd : (d.toNat : Int) = 110 ∨ (d.toNat : Int) = 34 ∨ (d.toNat : Int) = 92
                · obtain ⟨x, e⟩ : ∃ x, textF k acc (c :: d :: r) = textF (k + 2) (acc ++ [x]) r := by
                    by_cases h110 : (d.toNat : Int) = 110
                    · exact ⟨10, e0.trans (if_pos h110)⟩
                    · exact ⟨d, e0.trans ((if_neg h110).trans (if_pos (by omega)))⟩
                  obtain ⟨i1, i2⟩ := ih (k + 2) (acc ++ [x]) r (by omega) (by omega)
                  rw [e]
                  refine ⟨fun h0 => ?_, fun h0 => ?_⟩
                  · obtain ⟨a1, a2⟩ := i1 h0
                    refine ⟨by omega, ?_⟩
                    rw [show (textF (k + 2) (acc ++ [x]) r).2.1 - k = ((textF (k + 2) (acc ++ [x]) r).2.1 - (k + 2)) + 1 + 1 from by omega, List.take_succ_cons, List.take_succ_cons]
                    exact noF_cons h10 (noF_cons (by omega) a2)
                  · rcases i2 h0 with a | ⟨a1, a2⟩
                    · exact .inl a
                    · refine .inr ⟨by omega, ?_⟩
                      rw [show (textF (k + 2) (acc ++ [x]) r).2.2.2 - k = ((textF (k + 2) (acc ++ [x]) r).2.2.2 - (k + 2)) + 1 + 1 from by omega, List.take_succ_cons, List.take_succ_cons]
                      exact noF_cons h10 (noF_cons (by omega) a2)
                · have e : textF k acc (c :: d :: r) = ([], 0, 4, k) := e0.trans ((if_neg (by omega)).trans (if_neg (by omega)))
                  rw [e]
                  refine ⟨fun h => absurd h (show ¬ ((4 : Int) = 0) by decide), fun _ => .inr ⟨Nat.le_refl _, ?_⟩⟩
                  show noF ((c :: d :: r).take (k - k))
                  rw [Nat.sub_self]
                  exact noF_nil

theorem signs_may : ∀ c ∈ signs1, mayB c = true ∧ (c.toNat : Int) ≠ 10 := by decide

theorem noF_sign (l : List UInt8) : noF (l.take (signL l)) := by
  by_cases h : l.take 2 = [61, 61] ∨ l.take 2 = [33, 61] ∨ l.take 2 = [60, 61] ∨ l.take 2 = [62, 61]
  · have e : signL l = 2 := if_pos h
    rw [e]
    rcases h with h | h | h | h <;> rw [h] <;> intro c hc <;> (simp at hc; rcases hc with rfl | rfl <;> decide)
  · cases l with
    | nil => rw [List.take_nil]; exact noF_nil
    | cons c r =>
      by_cases hc : c ∈ signs1
      · have e : signL (c :: r) = 1 := (if_neg h).trans (if_pos hc)
        rw [e]
        exact noF_cons (signs_may c hc).2 (by rw [List.take_zero]; exact noF_nil)
      · have e : signL (c :: r) = 0 := (if_neg h).trans (if_neg hc)
        rw [e]
        exact noF_nil

/-- a token has no line feed; nor what lies ahead of an error's place within it -/
theorem oneTk_flat (keys : List UInt8 → Bool) {l : List UInt8} {t : Tk} {n wh : Nat} {e : Int} (h : oneTk keys l = (t, n, e, wh)) : (e = 0 → noF (l.take n)) ∧ (e ≠ 0 → noF (l.take wh)) := by
  cases l with
  | nil => exact ⟨fun _ => by rw [List.take_nil]; exact noF_nil, fun _ => by rw [List.take_nil]; exact noF_nil⟩
  | cons c r =>
    by_cases h34 : (c.toNat : Int) = 34
    · have e1 : oneTk keys (c :: r) = (⟨3, (textF 1 [] r).1, 0, 0, 0⟩, (textF 1 [] r).2.1, (textF 1 [] r).2.2.1, (textF 1 [] r).2.2.2) := if_pos h34
      rw [e1] at h
      injection h with ha hb
      injection hb with hb hc
      injection hc with hc hd
      obtain ⟨i1, i2⟩ := noF_text r.length 1 [] r (Nat.le_refl _) (Nat.le_refl _)
      rw [hb, hc] at i1
      rw [hc, hd] at i2
      have h10 : (c.toNat : Int) ≠ 10 := by omega
      refine ⟨fun h0 => ?_, fun h0 => ?_⟩
      · obtain ⟨a1, a2⟩ := i1 h0
        rw [show n = (n - 1) + 1 from by omega, List.take_succ_cons]
        exact noF_cons h10 a2
      · rcases i2 h0 with a | ⟨a1, a2⟩
        · rw [a]
          exact noF_nil
        · rw [show wh = (wh - 1) + 1 from by omega, List.take_succ_cons]
          exact noF_cons h10 a2
    · by_cases hd : isDg c = true
      · have e1 : oneTk keys (c :: r) = (let n := rowF false (c :: r)
            let e : Int := if (match ((c :: r).drop n).head? with | some d => isSm d || isCp d || decide ((d.toNat : Int) = 95) | none => false) || (decide ((c.toNat : Int) = 48) && decide (1 < n)) then 4 else if 32767 < numL ((c :: r).take n) then 5 else 0
            (⟨2, [], if e = 0 then (numL ((c :: r).take n) : Int) else 0, 0, 0⟩, n, e, 0)) := (if_neg h34).trans (if_pos hd)
        rw [e1] at h
        injection h with ha hb
        injection hb with hb hc
        injection hc with hc hd2
        exact ⟨fun _ => by rw [← hb]; exact noF_row false _, fun _ => by rw [← hd2]; exact noF_nil⟩
      · by_cases hs : isSm c = true
        · have e1 : oneTk keys (c :: r) = (let n := rowF true (c :: r)
              (⟨if keys ((c :: r).take n) then 4 else 1, (c :: r).take n, 0, 0, 0⟩, n, if 24 < n then 9 else 0, 0)) := (if_neg h34).trans ((if_neg hd).trans (if_pos hs))
          rw [e1] at h
          injection h with ha hb
          injection hb with hb hc
          injection hc with hc hd2
          exact ⟨fun _ => by rw [← hb]; exact noF_row true _, fun _ => by rw [← hd2]; exact noF_nil⟩
        · by_cases hg : signL (c :: r) = 0
          · have e1 : oneTk keys (c :: r) = (⟨0, [], 0, 0, 0⟩, 0, 13, 0) := (if_neg h34).trans ((if_neg hd).trans ((if_neg hs).trans (if_pos hg)))
            rw [e1] at h
            injection h with ha hb
            injection hb with hb hc
            injection hc with hc hd2
            exact ⟨fun _ => by rw [← hb]; exact noF_nil, fun _ => by rw [← hd2]; exact noF_nil⟩
          · have e1 : oneTk keys (c :: r) = (⟨5, (c :: r).take (signL (c :: r)), 0, 0, 0⟩, signL (c :: r), 0, 0) := (if_neg h34).trans ((if_neg hd).trans ((if_neg hs).trans (if_neg hg)))
            rw [e1] at h
            injection h with ha hb
            injection hb with hb hc
            injection hc with hc hd2
            exact ⟨fun _ => by rw [← hb]; exact noF_sign _, fun _ => by rw [← hd2]; exact noF_nil⟩

/-- a byte that may not be begins no token -/
theorem oneTk_bad (keys : List UInt8 → Bool) {c : UInt8} {r : List UInt8} (h : mayB c = false) : oneTk keys (c :: r) = (⟨0, [], 0, 0, 0⟩, 0, 13, 0) := by
  have hv : ((c.toNat : Int) < 32 ∨ 126 < (c.toNat : Int)) ∧ (c.toNat : Int) ≠ 10 ∧ (c.toNat : Int) ≠ 9 := by
    unfold mayB at h
    simp at h
    omega
  have h34 : ¬ (c.toNat : Int) = 34 := by omega
  have a1 : ¬ isDg c = true := by unfold isDg; simp; omega
  have a2 : ¬ isSm c = true := by unfold isSm; simp; omega
  have hs : c ∉ signs1 := fun hc => by have := (signs_may c hc).1; rw [h] at this; cases this
  have n1 : c ≠ 61 := fun e => by rw [e] at h; exact absurd h (by decide)
  have n2 : c ≠ 33 := fun e => by rw [e] at h; exact absurd h (by decide)
  have n3 : c ≠ 60 := fun e => by rw [e] at h; exact absurd h (by decide)
  have n4 : c ≠ 62 := fun e => by rw [e] at h; exact absurd h (by decide)
  have hg : signL (c :: r) = 0 := by
    have hn : ¬ ((c :: r).take 2 = [61, 61] ∨ (c :: r).take 2 = [33, 61] ∨ (c :: r).take 2 = [60, 61] ∨ (c :: r).take 2 = [62, 61]) := by
      rw [List.take_succ_cons]
      rintro (h | h | h | h)
      · injection h with h _; exact n1 h
      · injection h with h _; exact n2 h
      · injection h with h _; exact n3 h
      · injection h with h _; exact n4 h
    exact (if_neg hn).trans (if_neg hs)
  exact (if_neg h34).trans ((if_neg a1).trans ((if_neg a2).trans (if_pos hg)))

theorem gapF_bad : ∀ (l : List UInt8) (m : Bool) (g : Nat), gapF m l = (g, false) → ∃ c r, l.drop g = c :: r ∧ mayB c = false := by
  intro l
  induction l with
  | nil =>
    intro m g h
    rw [gapF_nil] at h
    injection h with _ h
    cases h
  | cons c r ih =>
    intro m g h
    by_cases hm : mayB c = false
    · have e : gapF m (c :: r) = (0, false) := by unfold gapF; rw [if_pos hm]
      rw [e] at h
      injection h with h _
      subst h
      exact ⟨c, r, rfl, hm⟩
    · obtain ⟨m2, hm2⟩ : ∃ m2, m2 = ((r.head? == some 47 && decide ((c.toNat : Int) = 47)) || (m && decide ((c.toNat : Int) ≠ 10))) := ⟨_, rfl⟩
      by_cases hst : m2 = false ∧ (c.toNat : Int) ≠ 32 ∧ (c.toNat : Int) ≠ 10 ∧ (c.toNat : Int) ≠ 9
      · have e1 : gapF m (c :: r) = (0, true) := by
          unfold gapF
          rw [if_neg hm]
          simp only [← hm2]
          rw [if_pos hst]
        rw [e1] at h
        injection h with _ h
        cases h
      · have e1 : gapF m (c :: r) = ((gapF m2 r).1 + 1, (gapF m2 r).2) := by
          conv => lhs; unfold gapF
          rw [if_neg hm]
          simp only [← hm2]
          rw [if_neg hst]
        rw [e1] at h
        injection h with h1 h2
        obtain ⟨d, x, h3, h4⟩ := ih m2 (gapF m2 r).1 (by rw [← h2])
        refine ⟨d, x, ?_, h4⟩
        rw [← h1, List.drop_succ_cons]
        exact h3

section
variable {keys : List UInt8 → Bool} {src : List UInt8} {f i k n wh : Nat} {out : List Tk} {t : Tk} {e : Int}

/-- a step of lexing, the gap behind it: k is where it ends -/
theorem lexG_bad (hk : i + (gapF false (src.drop i)).1 = k) (hf : (gapF false (src.drop i)).2 = false) : k < src.length ∧ oneTk keys (src.drop k) = (⟨0, [], 0, 0, 0⟩, 0, 13, 0) := by
  obtain ⟨c, r, h1, h2⟩ := gapF_bad (src.drop i) false (gapF false (src.drop i)).1 (Prod.ext rfl hf)
  rw [List.drop_drop, hk] at h1
  refine ⟨?_, by rw [h1]; exact oneTk_bad keys h2⟩
  have := congrArg List.length h1
  rw [List.length_drop, List.length_cons] at this
  omega

theorem lexG_stop (hk : i + (gapF false (src.drop i)).1 = k) (hl : src.length ≤ k) : lexF keys src (f + 1) i out = (out ++ [endTk src k], (0, 0, 0)) := by
  cases hf : (gapF false (src.drop i)).2 with
  | false => have := (lexG_bad (keys := keys) hk hf).1; omega
  | true =>
    rw [← hk]
    exact lexF_stop (g := (gapF false (src.drop i)).1) (Prod.ext rfl hf) (by omega)

theorem lexG_err (hk : i + (gapF false (src.drop i)).1 = k) (hl : k < src.length) (ho : oneTk keys (src.drop k) = (t, n, e, wh)) (he : e ≠ 0) : lexF keys src (f + 1) i out = ([], failAt src (k + wh) e) := by
  cases hf : (gapF false (src.drop i)).2 with
  | false =>
    have h := (lexG_bad (keys := keys) hk hf).2
    rw [h] at ho
    injection ho with _ ho
    injection ho with _ ho
    injection ho with h1 h2
    rw [← h1, ← h2, ← hk]
    exact lexF_gap (g := (gapF false (src.drop i)).1) (Prod.ext rfl hf)
  | true =>
    rw [← hk] at ho hl ⊢
    exact lexF_err (g := (gapF false (src.drop i)).1) (Prod.ext rfl hf) hl ho he

theorem lexG_flag (hk : i + (gapF false (src.drop i)).1 = k) (ho : oneTk keys (src.drop k) = (t, n, 0, wh)) : (gapF false (src.drop i)).2 = true := by
  cases hf : (gapF false (src.drop i)).2 with
  | true => rfl
  | false =>
    have h := (lexG_bad (keys := keys) hk hf).2
    rw [h] at ho
    injection ho with _ ho
    injection ho with _ ho
    injection ho with h1 h2
    cases h1

theorem lexG_many (hk : i + (gapF false (src.drop i)).1 = k) (hl : k < src.length) (ho : oneTk keys (src.drop k) = (t, n, 0, wh)) (hc : out.length = 16384) : lexF keys src (f + 1) i out = ([], failAt src k 7) := by
  have hf := lexG_flag hk ho
  rw [← hk] at ho hl ⊢
  exact lexF_many (g := (gapF false (src.drop i)).1) (Prod.ext rfl hf) hl ho hc

theorem lexG_go (hk : i + (gapF false (src.drop i)).1 = k) (hl : k < src.length) (ho : oneTk keys (src.drop k) = (t, n, 0, wh)) (hc : out.length ≠ 16384) : lexF keys src (f + 1) i out = lexF keys src f (k + n) (out ++ [putTk src k t]) := by
  have hf := lexG_flag hk ho
  rw [← hk] at ho hl ⊢
  exact lexF_go (g := (gapF false (src.drop i)).1) (Prod.ext rfl hf) hl ho hc
end

/-- a place on the line of another -/
theorem failAt_flat {src : List UInt8} {k wh : Nat} {e : Int} (h : noF ((src.drop k).take wh)) (hl : k + wh ≤ src.length) : failAt src (k + wh) e = (e, ((posL (src.take k)).1 : Int), (((posL (src.take k)).2 + wh : Nat) : Int)) := by
  unfold failAt
  rw [take_more, posL_flat _ _ h, List.length_take, List.length_drop, Nat.min_eq_left (by omega)]

/-- decimal forms: the digits' number, and the five digits of the greatest -/
theorem numF_app : ∀ (a b : List UInt8) (n : Nat), numF n (a ++ b) = numF (numF n a) b := by
  intro a
  induction a with
  | nil => intro b n; rfl
  | cons c a ih => intro b n; exact ih b _

theorem numF_cons (n : Nat) (c : UInt8) (l : List UInt8) : numF n (c :: l) = numF (10 * n + (c.toNat - 48)) l := by
  conv => lhs; unfold numF

theorem numF_lin : ∀ (l : List UInt8) (n : Nat), numF n l = n * 10 ^ l.length + numF 0 l := by
  intro l
  induction l with
  | nil => intro n; show n = n * 1 + 0; rw [Nat.mul_one, Nat.add_zero]
  | cons c l ih =>
    intro n
    obtain ⟨d, hd⟩ : ∃ d, d = c.toNat - 48 := ⟨_, rfl⟩
    rw [numF_cons, numF_cons, ← hd, ih (10 * n + d), ih (10 * 0 + d), List.length_cons, Nat.pow_succ, Nat.mul_zero, Nat.zero_add, Nat.add_mul, Nat.add_assoc]
    congr 1
    rw [Nat.mul_comm 10 n, Nat.mul_assoc, Nat.mul_comm 10]

theorem dg_val {c : UInt8} (h : isDg c = true) : 48 ≤ c.toNat ∧ c.toNat ≤ 57 := by
  unfold isDg at h
  simp at h
  omega

theorem numF_lt : ∀ (l : List UInt8), (∀ c ∈ l, isDg c = true) → numF 0 l < 10 ^ l.length := by
  intro l
  induction l with
  | nil => intro _; exact Nat.one_pos
  | cons c l ih =>
    intro h
    have hc := dg_val (h c (by simp))
    have hi := ih (fun d hd => h d (by simp [hd]))
    rw [numF_cons, numF_lin, List.length_cons, Nat.pow_succ, Nat.mul_zero, Nat.zero_add]
    have h9 : c.toNat - 48 ≤ 9 := by omega
    generalize 10 ^ l.length = T at *
    have := Nat.mul_le_mul_right T h9
    generalize (c.toNat - 48) * T = X at *
    generalize numF 0 l = Y at *
    omega

theorem numL_lt (l : List UInt8) (h : ∀ c ∈ l, isDg c = true) : numL l < 10 ^ l.length := numF_lt l h

theorem numL_ge {c : UInt8} {l : List UInt8} (hc : isDg c = true) (h0 : (c.toNat : Int) ≠ 48) : 10 ^ l.length ≤ numL (c :: l) := by
  have hv := dg_val hc
  unfold numL
  rw [numF_cons, numF_lin, Nat.mul_zero, Nat.zero_add]
  have h1 : 1 ≤ c.toNat - 48 := by omega
  generalize 10 ^ l.length = T
  have := Nat.mul_le_mul_right T h1
  generalize (c.toNat - 48) * T = X at *
  generalize numF 0 l = Y at *
  omega

end Go.Proofs.YtgeglhgkibcpfaaDoor
