/- Tokens of a source: what lexing comes to, where tokens stand, quoted texts, joined sources. Plain functions on lists of bytes; no function of the program is named here. -/
import Derived.Test.YtgeglhgkibcpfaaDoorLetP
namespace Go.Proofs.YtgeglhgkibcpfaaDoor
open Go.RowKit
set_option linter.unusedVariables false

/-- a byte that a source may have -/
def mayB (c : UInt8) : Bool := (decide (32 ≤ (c.toNat : Int)) && decide ((c.toNat : Int) ≤ 126)) || decide ((c.toNat : Int) = 10) || decide ((c.toNat : Int) = 9)

/-- words, each between blanks: whether one is among them, and how many stand ahead of it -/
def holdF (s : List UInt8) : List UInt8 → List UInt8 → Nat → Nat × Bool
  | [], _, _ => (0, false)
  | c :: r, one, n => if (c.toNat : Int) ≠ 32 then holdF s r (one ++ [c]) n else if one = s then (n, true) else holdF s r [] (n + 1)
def holdL (row s : List UInt8) : Nat × Bool := holdF s (row.drop 1) [] 0

theorem holdF_word (s : List UInt8) : ∀ (w r one : List UInt8) (n : Nat), (∀ c ∈ w, (c.toNat : Int) ≠ 32) → holdF s (w ++ 32 :: r) one n = if one ++ w = s then (n, true) else holdF s r [] (n + 1) := by
  intro w
  induction w with
  | nil =>
    intro r one n _
    show (if ((32 : UInt8).toNat : Int) ≠ 32 then _ else _) = _
    rw [if_neg (by decide), List.append_nil]
  | cons c w ih =>
    intro r one n h
    show (if (c.toNat : Int) ≠ 32 then holdF s (w ++ 32 :: r) (one ++ [c]) n else _) = _
    rw [if_pos (h c (by simp)), ih r (one ++ [c]) n (fun d hd => h d (by simp [hd]))]
    simp

/-- a place's line and column -/
def stepP (p : Nat × Nat) (c : UInt8) : Nat × Nat := if (c.toNat : Int) = 10 then (p.1 + 1, 1) else (p.1, p.2 + 1)
def posL (l : List UInt8) : Nat × Nat := l.foldl stepP (1, 1)

theorem posL_snoc (l : List UInt8) (c : UInt8) : posL (l ++ [c]) = stepP (posL l) c := by
  unfold posL
  rw [List.foldl_append]
  rfl

theorem posL_le (l : List UInt8) : 1 ≤ (posL l).1 ∧ 1 ≤ (posL l).2 ∧ (posL l).1 + (posL l).2 ≤ l.length + 2 := by
  have key : ∀ (l : List UInt8) (p : Nat × Nat), 1 ≤ p.1 → 1 ≤ p.2 → 1 ≤ (l.foldl stepP p).1 ∧ 1 ≤ (l.foldl stepP p).2 ∧ (l.foldl stepP p).1 + (l.foldl stepP p).2 ≤ p.1 + p.2 + l.length := by
    intro l
    induction l with
    | nil => intro p h1 h2; exact ⟨h1, h2, Nat.le_refl _⟩
    | cons c l ih =>
      intro p h1 h2
      rw [List.foldl_cons, List.length_cons]
      have hs : 1 ≤ (stepP p c).1 ∧ 1 ≤ (stepP p c).2 ∧ (stepP p c).1 + (stepP p c).2 ≤ p.1 + p.2 + 1 := by
        unfold stepP
        split
        · simp only; omega
        · simp only; omega
      have := ih (stepP p c) hs.1 hs.2.1
      omega
  have := key l (1, 1) (Nat.le_refl _) (Nat.le_refl _)
  simp only at this
  unfold posL
  omega

/-- what parts tokens: how many bytes, and whether they may all be -/
def gapF : Bool → List UInt8 → Nat × Bool
  | _, [] => (0, true)
  | m, c :: r =>
    if mayB c = false then (0, false) else
    let m2 := (r.head? == some 47 && decide ((c.toNat : Int) = 47)) || (m && decide ((c.toNat : Int) ≠ 10))
    if m2 = false ∧ (c.toNat : Int) ≠ 32 ∧ (c.toNat : Int) ≠ 10 ∧ (c.toNat : Int) ≠ 9 then (0, true) else ((gapF m2 r).1 + 1, (gapF m2 r).2)

theorem gapF_len : ∀ (l : List UInt8) (m : Bool), (gapF m l).1 ≤ l.length := by
  intro l
  induction l with
  | nil => intro m; exact Nat.le_refl _
  | cons c r ih =>
    intro m
    unfold gapF
    split
    · exact Nat.zero_le _
    · dsimp only
      split
      · exact Nat.zero_le _
      · have := ih ((r.head? == some 47 && decide ((c.toNat : Int) = 47)) || (m && decide ((c.toNat : Int) ≠ 10)))
        rw [List.length_cons]
        omega

/-- the text of a text token, from behind its quote (place k on): the text, where it ends, what is wrong, and where (0: at its beginning) -/
def textF : Nat → List UInt8 → List UInt8 → List UInt8 × Nat × Int × Nat
  | _, _, [] => ([], 0, 2, 0)
  | k, acc, c :: r =>
    if (c.toNat : Int) = 10 then ([], 0, 2, 0) else
    if (c.toNat : Int) = 34 then (if 1024 < acc.length then ([], 0, 3, 0) else (acc, k + 1, 0, 0)) else
    if mayB c = false ∨ (c.toNat : Int) = 9 then ([], 0, 13, k) else
    if (c.toNat : Int) ≠ 92 then textF (k + 1) (acc ++ [c]) r else
    match r with
    | [] => ([], 0, 4, k)
    | d :: r2 => if (d.toNat : Int) = 110 then textF (k + 2) (acc ++ [10]) r2 else if (d.toNat : Int) = 34 ∨ (d.toNat : Int) = 92 then textF (k + 2) (acc ++ [d]) r2 else ([], 0, 4, k)

/-- where a row of digits ends, or of names' bytes -/
def rowF (nm : Bool) : List UInt8 → Nat
  | [] => 0
  | c :: r => if isDg c || (nm && (isSm c || decide ((c.toNat : Int) = 95))) then rowF nm r + 1 else 0

theorem rowF_len (nm : Bool) : ∀ l : List UInt8, rowF nm l ≤ l.length := by
  intro l
  induction l with
  | nil => exact Nat.le_refl _
  | cons c r ih =>
    unfold rowF
    split
    · rw [List.length_cons]; omega
    · exact Nat.zero_le _

/-- the number of digits -/
def numF : Nat → List UInt8 → Nat
  | n, [] => n
  | n, c :: r => numF (10 * n + (c.toNat - 48)) r
def numL (l : List UInt8) : Nat := numF 0 l

/-- how long a sign is -/
def signs1 : List UInt8 := [40, 41, 123, 125, 44, 59, 46, 124, 47, 43, 45, 42, 37, 61, 60, 62]
def signL (l : List UInt8) : Nat :=
  if l.take 2 = [61, 61] ∨ l.take 2 = [33, 61] ∨ l.take 2 = [60, 61] ∨ l.take 2 = [62, 61] then 2 else
  match l with
  | [] => 0
  | c :: _ => if c ∈ signs1 then 1 else 0

/-- a token: its kind, text, number, line, column -/
structure Tk where
  kind : Int
  text : List UInt8
  num : Int
  line : Int
  col : Int
deriving DecidableEq

/-- a token that begins here: how long it is, what is wrong, and where (from here on) -/
def oneTk (keys : List UInt8 → Bool) (l : List UInt8) : Tk × Nat × Int × Nat :=
  match l with
  | [] => (⟨0, [], 0, 0, 0⟩, 0, 13, 0)
  | c :: r =>
    if (c.toNat : Int) = 34 then (⟨3, (textF 1 [] r).1, 0, 0, 0⟩, (textF 1 [] r).2.1, (textF 1 [] r).2.2.1, (textF 1 [] r).2.2.2) else
    if isDg c then
      let n := rowF false l
      let e : Int := if (match (l.drop n).head? with | some d => isSm d || isCp d || decide ((d.toNat : Int) = 95) | none => false) || (decide ((c.toNat : Int) = 48) && decide (1 < n)) then 4 else if 32767 < numL (l.take n) then 5 else 0
      (⟨2, [], if e = 0 then (numL (l.take n) : Int) else 0, 0, 0⟩, n, e, 0)
    else if isSm c then
      let n := rowF true l
      (⟨if keys (l.take n) then 4 else 1, l.take n, 0, 0, 0⟩, n, if 24 < n then 9 else 0, 0)
    else if signL l = 0 then (⟨0, [], 0, 0, 0⟩, 0, 13, 0) else (⟨5, l.take (signL l), 0, 0, 0⟩, signL l, 0, 0)

/-- an error at a place -/
def failAt (src : List UInt8) (i : Nat) (e : Int) : Int × Int × Int := (e, ((posL (src.take i)).1 : Int), ((posL (src.take i)).2 : Int))

/-- a source's tokens -/
def lexF (keys : List UInt8 → Bool) (src : List UInt8) : Nat → Nat → List Tk → List Tk × (Int × Int × Int)
  | 0, _, _ => ([], (0, 0, 0))
  | f + 1, i, out =>
    let k := i + (gapF false (src.drop i)).1
    if (gapF false (src.drop i)).2 = false then ([], failAt src k 13) else
    if src.length ≤ k then (out ++ [⟨0, [], 0, ((posL (src.take k)).1 : Int), ((posL (src.take k)).2 : Int)⟩], (0, 0, 0)) else
    if (oneTk keys (src.drop k)).2.2.1 ≠ 0 then ([], failAt src (k + (oneTk keys (src.drop k)).2.2.2) (oneTk keys (src.drop k)).2.2.1) else
    if out.length = 16384 then ([], failAt src k 7) else
    lexF keys src f (k + (oneTk keys (src.drop k)).2.1) (out ++ [{ (oneTk keys (src.drop k)).1 with line := ((posL (src.take k)).1 : Int), col := ((posL (src.take k)).2 : Int) }])
def lexL (keys : List UInt8 → Bool) (src : List UInt8) : List Tk × (Int × Int × Int) := if 65536 < src.length then ([], (3, 1, 1)) else lexF keys src (src.length + 1) 0 []

/-- a text as a token -/
def quo1 (c : UInt8) : List UInt8 := if (c.toNat : Int) = 10 then [92, 110] else if (c.toNat : Int) = 34 ∨ (c.toNat : Int) = 92 then [92, c] else [c]
def quoL (s : List UInt8) : List UInt8 := 34 :: (s.flatMap quo1 ++ [34])

/-- a quoted text is read back -/
theorem textF_quo : ∀ (s : List UInt8) (k : Nat) (acc r : List UInt8), s.all isTx = true → acc.length + s.length ≤ 1024 → textF k acc (s.flatMap quo1 ++ 34 :: r) = (acc ++ s, k + (s.flatMap quo1).length + 1, 0, 0) := by
  intro s
  induction s with
  | nil =>
    intro k acc r _ hl
    show textF k acc (34 :: r) = _
    unfold textF
    rw [if_neg (by decide), if_pos (by decide), if_neg (by rw [List.length_nil] at hl; omega)]
    simp
  | cons c s ih =>
    intro k acc r h hl
    rw [List.all_cons, Bool.and_eq_true] at h
    rw [List.length_cons] at hl
    have hx := h.1
    simp [isTx] at hx
    have hc := c.toNat_lt
    rw [List.flatMap_cons, List.append_assoc]
    by_cases h10 : (c.toNat : Int) = 10
    · have e10 : c = 10 := UInt8.toNat_inj.mp (by have : (10 : UInt8).toNat = 10 := rfl; omega)
      have eq : quo1 c = [92, 110] := by unfold quo1; rw [if_pos h10]
      rw [eq]
      show textF k acc (92 :: 110 :: (s.flatMap quo1 ++ 34 :: r)) = _
      unfold textF
      rw [if_neg (by decide), if_neg (by decide), if_neg (by decide), if_neg (by decide)]
      show (if ((110 : UInt8).toNat : Int) = 110 then textF (k + 2) (acc ++ [10]) (s.flatMap quo1 ++ 34 :: r) else _) = _
      rw [if_pos (by decide), ih (k + 2) (acc ++ [10]) r h.2 (by rw [List.length_append, List.length_singleton]; omega), e10]
      simp
      omega
    · by_cases hq : (c.toNat : Int) = 34 ∨ (c.toNat : Int) = 92
      · have eq : quo1 c = [92, c] := by unfold quo1; rw [if_neg h10, if_pos hq]
        rw [eq]
        show textF k acc (92 :: c :: (s.flatMap quo1 ++ 34 :: r)) = _
        unfold textF
        rw [if_neg (by decide), if_neg (by decide), if_neg (by decide), if_neg (by decide)]
        show (if (c.toNat : Int) = 110 then _ else if (c.toNat : Int) = 34 ∨ (c.toNat : Int) = 92 then textF (k + 2) (acc ++ [c]) (s.flatMap quo1 ++ 34 :: r) else _) = _
        rw [if_neg (by omega), if_pos hq, ih (k + 2) (acc ++ [c]) r h.2 (by rw [List.length_append, List.length_singleton]; omega)]
        simp
        omega
      · have eq : quo1 c = [c] := by unfold quo1; rw [if_neg h10, if_neg hq]
        rw [eq]
        show textF k acc (c :: (s.flatMap quo1 ++ 34 :: r)) = _
        have hm : mayB c = true := by simp [mayB]; omega
        unfold textF
        rw [if_neg h10, if_neg (by omega), if_neg (by rw [hm]; simp; omega), if_pos (by omega), ih (k + 1) (acc ++ [c]) r h.2 (by rw [List.length_append, List.length_singleton]; omega)]
        simp
        omega

section
variable {keys : List UInt8 → Bool} {src : List UInt8} {f i g n wh : Nat} {out : List Tk} {t : Tk} {e : Int}

def endTk (src : List UInt8) (k : Nat) : Tk := ⟨0, [], 0, ((posL (src.take k)).1 : Int), ((posL (src.take k)).2 : Int)⟩
def putTk (src : List UInt8) (k : Nat) (t : Tk) : Tk := { t with line := ((posL (src.take k)).1 : Int), col := ((posL (src.take k)).2 : Int) }

theorem lexF_gap (hg : gapF false (src.drop i) = (g, false)) : lexF keys src (f + 1) i out = ([], failAt src (i + g) 13) := by
  unfold lexF
  simp only [hg, if_true]

theorem lexF_stop (hg : gapF false (src.drop i) = (g, true)) (hk : src.length ≤ i + g) : lexF keys src (f + 1) i out = (out ++ [endTk src (i + g)], (0, 0, 0)) := by
  unfold lexF
  simp only [hg, if_pos hk]
  rw [if_neg (by decide)]
  rfl

theorem lexF_err (hg : gapF false (src.drop i) = (g, true)) (hk : i + g < src.length) (ho : oneTk keys (src.drop (i + g)) = (t, n, e, wh)) (he : e ≠ 0) : lexF keys src (f + 1) i out = ([], failAt src (i + g + wh) e) := by
  unfold lexF
  simp only [hg, ho]
  rw [if_neg (by decide), if_neg (by omega), if_pos he]

theorem lexF_many (hg : gapF false (src.drop i) = (g, true)) (hk : i + g < src.length) (ho : oneTk keys (src.drop (i + g)) = (t, n, 0, wh)) (hc : out.length = 16384) : lexF keys src (f + 1) i out = ([], failAt src (i + g) 7) := by
  unfold lexF
  simp only [hg, ho]
  rw [if_neg (by decide), if_neg (by omega), if_neg (by simp), if_pos hc]

theorem lexF_go (hg : gapF false (src.drop i) = (g, true)) (hk : i + g < src.length) (ho : oneTk keys (src.drop (i + g)) = (t, n, 0, wh)) (hc : out.length ≠ 16384) : lexF keys src (f + 1) i out = lexF keys src f (i + g + n) (out ++ [putTk src (i + g) t]) := by
  conv => lhs; unfold lexF
  simp only [hg, ho]
  rw [if_neg (by decide), if_neg (by omega), if_neg (by simp), if_neg hc]
  rfl
end

theorem gapF_nil (m : Bool) : gapF m [] = (0, true) := by cases m <;> rfl

/-- a byte that begins a token ends the gap -/
theorem gapF_at {c : UInt8} {r : List UInt8} (hm : mayB c = true) (h1 : (c.toNat : Int) ≠ 32) (h2 : (c.toNat : Int) ≠ 10) (h3 : (c.toNat : Int) ≠ 9) (h4 : (c.toNat : Int) ≠ 47 ∨ r.head? ≠ some 47) : gapF false (c :: r) = (0, true) := by
  unfold gapF
  rw [if_neg (by rw [hm]; decide)]
  dsimp only
  rw [if_pos]
  refine ⟨?_, h1, h2, h3⟩
  rcases h4 with h4 | h4
  · simp [h4]
  · simp [h4]

theorem quo_len (s : List UInt8) : (s.flatMap quo1).length ≤ 2 * s.length := by
  induction s with
  | nil => exact Nat.le_refl _
  | cons c s ih =>
    have h : (quo1 c).length ≤ 2 := by unfold quo1; split; exact Nat.le_refl _; split; exact Nat.le_refl _; exact Nat.le_succ _
    rw [List.flatMap_cons, List.length_append, List.length_cons]
    omega

theorem one_text (keys : List UInt8 → Bool) (r : List UInt8) : oneTk keys (34 :: r) = (⟨3, (textF 1 [] r).1, 0, 0, 0⟩, (textF 1 [] r).2.1, (textF 1 [] r).2.2.1, (textF 1 [] r).2.2.2) := by
  rfl

theorem gap_quo (s : List UInt8) : gapF false (quoL s) = (0, true) := gapF_at (by decide) (by decide) (by decide) (by decide) (.inl (by decide))

/-- a text, quoted, is one token -/
theorem lex_quote (keys : List UInt8 → Bool) {s : List UInt8} (h : textB s = true) : ∃ e, lexL keys (quoL s) = ([⟨3, s, 0, 1, 1⟩, e], (0, 0, 0)) := by
  have h2 := h
  unfold textB at h2
  rw [Bool.and_eq_true, decide_eq_true_eq] at h2
  have hq := quo_len s
  have hl : (quoL s).length = (s.flatMap quo1).length + 2 := by unfold quoL; simp
  have ht := textF_quo s 1 [] [] h2.2 (by rw [List.length_nil]; omega)
  rw [List.nil_append] at ht
  have ho : oneTk keys ((quoL s).drop (0 + 0)) = (⟨3, s, 0, 0, 0⟩, 1 + (s.flatMap quo1).length + 1, 0, 0) := by
    show oneTk keys (34 :: (s.flatMap quo1 ++ [34])) = _
    rw [one_text, ht]
  unfold lexL
  rw [if_neg (by omega), lexF_go (src := quoL s) (i := 0) (g := 0) (gap_quo s) (by omega) ho (by decide)]
  obtain ⟨f, hf⟩ : ∃ f, (quoL s).length = f + 1 := ⟨(s.flatMap quo1).length + 1, hl⟩
  refine ⟨endTk (quoL s) ((quoL s).length + 0), ?_⟩
  have hd : (quoL s).drop (0 + 0 + (1 + (s.flatMap quo1).length + 1)) = [] := List.drop_of_length_le (by omega)
  rw [hf, lexF_stop (g := 0) (by rw [hd]; exact gapF_nil _) (by omega)]
  have e1 : 0 + 0 + (1 + (s.flatMap quo1).length + 1) + 0 = (quoL s).length + 0 := by omega
  rw [e1]
  rw [← hf]
  rfl

/-- a byte that no text has -/
theorem textF_bad : ∀ (s : List UInt8) (k : Nat) (acc r : List UInt8), s.all isTx = false → (textF k acc (s.flatMap quo1 ++ r)).2.2.1 = 13 := by
  intro s
  induction s with
  | nil => intro k acc r h; cases h
  | cons c s ih =>
    intro k acc r h
    rw [List.all_cons] at h
    have hc := c.toNat_lt
    rw [List.flatMap_cons, List.append_assoc]
    by_cases h10 : (c.toNat : Int) = 10
    · have eq : quo1 c = [92, 110] := by unfold quo1; rw [if_pos h10]
      have hx : isTx c = true := by simp [isTx]; omega
      rw [hx, Bool.true_and] at h
      rw [eq]
      show (textF k acc (92 :: 110 :: (s.flatMap quo1 ++ r))).2.2.1 = _
      unfold textF
      rw [if_neg (by decide), if_neg (by decide), if_neg (by decide), if_neg (by decide)]
      show (if ((110 : UInt8).toNat : Int) = 110 then textF (k + 2) (acc ++ [10]) (s.flatMap quo1 ++ r) else _).2.2.1 = _
      rw [if_pos (by decide)]
      exact ih _ _ _ h
    · by_cases hq : (c.toNat : Int) = 34 ∨ (c.toNat : Int) = 92
      · have eq : quo1 c = [92, c] := by unfold quo1; rw [if_neg h10, if_pos hq]
        have hx : isTx c = true := by simp [isTx]; omega
        rw [hx, Bool.true_and] at h
        rw [eq]
        show (textF k acc (92 :: c :: (s.flatMap quo1 ++ r))).2.2.1 = _
        unfold textF
        rw [if_neg (by decide), if_neg (by decide), if_neg (by decide), if_neg (by decide)]
        show (if (c.toNat : Int) = 110 then _ else if (c.toNat : Int) = 34 ∨ (c.toNat : Int) = 92 then textF (k + 2) (acc ++ [c]) (s.flatMap quo1 ++ r) else _).2.2.1 = _
        rw [if_neg (by omega), if_pos hq]
        exact ih _ _ _ h
      · have eq : quo1 c = [c] := by unfold quo1; rw [if_neg h10, if_neg hq]
        rw [eq]
        show (textF k acc (c :: (s.flatMap quo1 ++ r))).2.2.1 = _
        unfold textF
        rw [if_neg h10, if_neg (by omega)]
        by_cases hx : isTx c = true
        · rw [hx, Bool.true_and] at h
          have hm : mayB c = true ∧ ¬ (c.toNat : Int) = 9 := by simp [isTx] at hx; simp [mayB]; omega
          rw [if_neg (by rw [hm.1]; simp; omega), if_pos (by omega)]
          exact ih _ _ _ h
        · have hb : mayB c = false ∨ (c.toNat : Int) = 9 := by
            simp only [Bool.not_eq_true] at hx
            simp [isTx] at hx
            by_cases h9 : (c.toNat : Int) = 9
            · exact .inr h9
            · left; simp [mayB]; omega
          rw [if_pos hb]

theorem textF_long : ∀ (s : List UInt8) (k : Nat) (acc r : List UInt8), s.all isTx = true → 1024 < acc.length + s.length → (textF k acc (s.flatMap quo1 ++ 34 :: r)).2.2.1 = 3 := by
  intro s
  induction s with
  | nil =>
    intro k acc r _ hl
    show (textF k acc (34 :: r)).2.2.1 = _
    unfold textF
    rw [if_neg (by decide), if_pos (by decide), if_pos (by rw [List.length_nil] at hl; omega)]
  | cons c s ih =>
    intro k acc r h hl
    rw [List.all_cons, Bool.and_eq_true] at h
    rw [List.length_cons] at hl
    have hx := h.1
    simp [isTx] at hx
    have hc := c.toNat_lt
    rw [List.flatMap_cons, List.append_assoc]
    by_cases h10 : (c.toNat : Int) = 10
    · have eq : quo1 c = [92, 110] := by unfold quo1; rw [if_pos h10]
      rw [eq]
      show (textF k acc (92 :: 110 :: (s.flatMap quo1 ++ 34 :: r))).2.2.1 = _
      unfold textF
      rw [if_neg (by decide), if_neg (by decide), if_neg (by decide), if_neg (by decide)]
      show (if ((110 : UInt8).toNat : Int) = 110 then textF (k + 2) (acc ++ [10]) (s.flatMap quo1 ++ 34 :: r) else _).2.2.1 = _
      rw [if_pos (by decide)]
      exact ih _ _ _ h.2 (by rw [List.length_append, List.length_singleton]; omega)
    · by_cases hq : (c.toNat : Int) = 34 ∨ (c.toNat : Int) = 92
      · have eq : quo1 c = [92, c] := by unfold quo1; rw [if_neg h10, if_pos hq]
        rw [eq]
        show (textF k acc (92 :: c :: (s.flatMap quo1 ++ 34 :: r))).2.2.1 = _
        unfold textF
        rw [if_neg (by decide), if_neg (by decide), if_neg (by decide), if_neg (by decide)]
        show (if (c.toNat : Int) = 110 then _ else if (c.toNat : Int) = 34 ∨ (c.toNat : Int) = 92 then textF (k + 2) (acc ++ [c]) (s.flatMap quo1 ++ 34 :: r) else _).2.2.1 = _
        rw [if_neg (by omega), if_pos hq]
        exact ih _ _ _ h.2 (by rw [List.length_append, List.length_singleton]; omega)
      · have eq : quo1 c = [c] := by unfold quo1; rw [if_neg h10, if_neg hq]
        rw [eq]
        show (textF k acc (c :: (s.flatMap quo1 ++ 34 :: r))).2.2.1 = _
        have hm : mayB c = true := by simp [mayB]; omega
        unfold textF
        rw [if_neg h10, if_neg (by omega), if_neg (by rw [hm]; simp; omega), if_pos (by omega)]
        exact ih _ _ _ h.2 (by rw [List.length_append, List.length_singleton]; omega)

/-- what is no text, quoted, is no token -/
theorem lex_quote_no (keys : List UInt8 → Bool) {s : List UInt8} (h : textB s = false) (hl : s.length ≤ 30000) : (lexL keys (quoL s)).1 = [] ∧ (lexL keys (quoL s)).2.1 ≠ 0 := by
  have hq := quo_len s
  have hlen : (quoL s).length = (s.flatMap quo1).length + 2 := by unfold quoL; simp
  have he : (textF 1 [] (s.flatMap quo1 ++ [34])).2.2.1 ≠ 0 := by
    by_cases ha : s.all isTx = true
    · unfold textB at h
      rw [ha, Bool.and_true, decide_eq_false_iff_not] at h
      rw [textF_long s 1 [] [] ha (by rw [List.length_nil]; omega)]
      decide
    · rw [Bool.not_eq_true] at ha
      rw [textF_bad s 1 [] [34] ha]
      decide
  have ho : oneTk keys ((quoL s).drop (0 + 0)) = _ := one_text keys (s.flatMap quo1 ++ [34])
  unfold lexL
  rw [if_neg (by omega), lexF_err (src := quoL s) (i := 0) (g := 0) (gap_quo s) (by omega) ho he]
  exact ⟨rfl, he⟩

/-- how many line feeds -/
def feedsL (l : List UInt8) : Nat := (l.filter fun c => decide ((c.toNat : Int) = 10)).length

theorem feedsL_snoc (l : List UInt8) (c : UInt8) : feedsL (l ++ [c]) = feedsL l + if (c.toNat : Int) = 10 then 1 else 0 := by
  unfold feedsL
  rw [List.filter_append, List.length_append]
  by_cases h : (c.toNat : Int) = 10
  · simp [h]
  · simp [h]

theorem posL_line (l : List UInt8) : (posL l).1 = 1 + feedsL l := by
  have key : ∀ (l : List UInt8) (p : Nat × Nat), (l.foldl stepP p).1 = p.1 + feedsL l := by
    intro l
    induction l with
    | nil => intro p; rfl
    | cons c l ih =>
      intro p
      rw [List.foldl_cons, ih]
      unfold feedsL stepP
      by_cases h : (c.toNat : Int) = 10
      · rw [if_pos h, List.filter_cons_of_pos (by simpa using h), List.length_cons]
        simp only
        omega
      · rw [if_neg h, List.filter_cons_of_neg (by simpa using h)]
  exact key l (1, 1)

theorem feedsL_take (l : List UInt8) (k : Nat) : feedsL (l.take k) ≤ feedsL l := by
  have e : l = l.take k ++ l.drop k := (List.take_append_drop k l).symm
  conv => rhs; rw [e]
  unfold feedsL
  rw [List.filter_append, List.length_append]
  omega

/-- a place ahead of another -/
def ltP (p q : Nat × Nat) : Prop := p.1 < q.1 ∨ (p.1 = q.1 ∧ p.2 < q.2)

theorem ltP_trans {p q r : Nat × Nat} (h : ltP p q) (h2 : ltP q r) : ltP p r := by
  unfold ltP at *
  omega

theorem posL_step (l : List UInt8) (k : Nat) (h : k < l.length) : ltP (posL (l.take k)) (posL (l.take (k + 1))) := by
  rw [List.take_succ_eq_append_getElem h, posL_snoc]
  unfold ltP stepP
  split
  · exact .inl (Nat.lt_succ_self _)
  · exact .inr ⟨rfl, Nat.lt_succ_self _⟩

theorem posL_lt (l : List UInt8) (i : Nat) : ∀ d, i + d + 1 ≤ l.length → ltP (posL (l.take i)) (posL (l.take (i + d + 1))) := by
  intro d
  induction d with
  | zero => intro h; exact posL_step l i (by omega)
  | succ d ih => intro h; exact ltP_trans (ih (by omega)) (posL_step l (i + d + 1) (by omega))

theorem posL_rise {l : List UInt8} {i j : Nat} (h : i < j) (hj : j ≤ l.length) : ltP (posL (l.take i)) (posL (l.take j)) := by
  have := posL_lt l i (j - i - 1) (by omega)
  rw [show i + (j - i - 1) + 1 = j from by omega] at this
  exact this

theorem textF_cons (k : Nat) (acc : List UInt8) (c : UInt8) (r : List UInt8) : textF k acc (c :: r) =
    if (c.toNat : Int) = 10 then ([], 0, 2, 0) else
    if (c.toNat : Int) = 34 then (if 1024 < acc.length then ([], 0, 3, 0) else (acc, k + 1, 0, 0)) else
    if mayB c = false ∨ (c.toNat : Int) = 9 then ([], 0, 13, k) else
    if (c.toNat : Int) ≠ 92 then textF (k + 1) (acc ++ [c]) r else
    match r with
    | [] => ([], 0, 4, k)
    | d :: r2 => if (d.toNat : Int) = 110 then textF (k + 2) (acc ++ [10]) r2 else if (d.toNat : Int) = 34 ∨ (d.toNat : Int) = 92 then textF (k + 2) (acc ++ [d]) r2 else ([], 0, 4, k) := by
  conv => lhs; unfold textF
  first | done | (cases r <;> rfl)

/-- a step of a text -/
theorem textF_cases (k : Nat) (acc r : List UInt8) : (∃ e wh, textF k acc r = ([], 0, e, wh) ∧ e ≠ 0 ∧ (wh = 0 ∨ (wh = k ∧ 0 < r.length))) ∨ (∃ r2, r = 34 :: r2 ∧ textF k acc r = (acc, k + 1, 0, 0)) ∨
    ∃ p x r2, r = p ++ r2 ∧ (p.length = 1 ∨ p.length = 2) ∧ textF k acc r = textF (k + p.length) (acc ++ [x]) r2 := by
  cases r with
  | nil => exact .inl ⟨2, 0, rfl, by decide, .inl rfl⟩
  | cons c r =>
    by_cases h10 : (c.toNat : Int) = 10
    · exact .inl ⟨2, 0, (textF_cons ..).trans (if_pos h10), by decide, .inl rfl⟩
    · by_cases h34 : (c.toNat : Int) = 34
      · by_cases hl : 1024 < acc.length
        · exact .inl ⟨3, 0, (textF_cons ..).trans ((if_neg h10).trans ((if_pos h34).trans (if_pos hl))), by decide, .inl rfl⟩
        · have e : c = 34 := UInt8.toNat_inj.mp (by have : (34 : UInt8).toNat = 34 := rfl; omega)
          exact .inr (.inl ⟨r, by rw [e], (textF_cons ..).trans ((if_neg h10).trans ((if_pos h34).trans (if_neg hl)))⟩)
      · by_cases hb : mayB c = false ∨ (c.toNat : Int) = 9
        · exact .inl ⟨13, k, (textF_cons ..).trans ((if_neg h10).trans ((if_neg h34).trans (if_pos hb))), by decide, .inr ⟨rfl, by simp⟩⟩
        · by_cases h92 : (c.toNat : Int) ≠ 92
          · exact .inr (.inr ⟨[c], c, r, rfl, .inl rfl, (textF_cons ..).trans ((if_neg h10).trans ((if_neg h34).trans ((if_neg hb).trans (if_pos h92))))⟩)
          · cases r with
            | nil => exact .inl ⟨4, k, (textF_cons ..).trans ((if_neg h10).trans ((if_neg h34).trans ((if_neg hb).trans (if_neg h92)))), by decide, .inr ⟨rfl, by simp⟩⟩
            | cons d r =>
              have e0 : textF k acc (c :: d :: r) = if (d.toNat : Int) = 110 then textF (k + 2) (acc ++ [10]) r else if (d.toNat : Int) = 34 ∨ (d.toNat : Int) = 92 then textF (k + 2) (acc ++ [d]) r else ([], 0, 4, k) :=
                (textF_cons ..).trans ((if_neg h10).trans ((if_neg h34).trans ((if_neg hb).trans (if_neg h92))))
              by_cases hd : (d.toNat : Int) = 110
              · exact .inr (.inr ⟨[c, d], 10, r, rfl, .inr rfl, e0.trans (if_pos hd)⟩)
              · by_cases hq : (d.toNat : Int) = 34 ∨ (d.toNat : Int) = 92
                · exact .inr (.inr ⟨[c, d], d, r, rfl, .inr rfl, e0.trans ((if_neg hd).trans (if_pos hq))⟩)
                · exact .inl ⟨4, k, e0.trans ((if_neg hd).trans (if_neg hq)), by decide, .inr ⟨rfl, by simp⟩⟩

theorem textF_used : ∀ (n k : Nat) (acc r : List UInt8), r.length ≤ n → ((textF k acc r).2.2.1 = 0 → k < (textF k acc r).2.1 ∧ (textF k acc r).2.1 ≤ k + r.length ∧ (textF k acc r).2.2.2 = 0) ∧ ((textF k acc r).2.2.1 ≠ 0 → (textF k acc r).2.2.2 = 0 ∨ (k ≤ (textF k acc r).2.2.2 ∧ (textF k acc r).2.2.2 < k + r.length)) := by
  intro n
  induction n with
  | zero =>
    intro k acc r h
    rw [List.eq_nil_of_length_eq_zero (by omega : r.length = 0)]
    exact ⟨fun h => absurd h (show ¬ ((2 : Int) = 0) by decide), fun _ => .inl rfl⟩
  | succ n ih =>
    intro k acc r h
    rcases textF_cases k acc r with ⟨e, wh, h1, h2, h3⟩ | ⟨r2, rfl, h1⟩ | ⟨p, x, r2, rfl, hp, h1⟩
    · rw [h1]
      exact ⟨fun h => absurd h h2, fun _ => by show wh = 0 ∨ (k ≤ wh ∧ wh < k + r.length); omega⟩
    · rw [h1, List.length_cons]
      exact ⟨fun _ => ⟨Nat.lt_succ_self _, by show k + 1 ≤ _; omega, rfl⟩, fun h => absurd rfl h⟩
    · rw [List.length_append] at h
      obtain ⟨i1, i2⟩ := ih (k + p.length) (acc ++ [x]) r2 (by omega)
      rw [h1, List.length_append]
      exact ⟨fun h => by have := i1 h; omega, fun h => by have := i2 h; omega⟩

theorem signL_len (l : List UInt8) : signL l ≤ l.length := by
  unfold signL
  split
  · rename_i h
    have : (l.take 2).length = 2 := by rcases h with h | h | h | h <;> rw [h] <;> rfl
    rw [List.length_take] at this
    omega
  · cases l with
    | nil => exact Nat.le_refl _
    | cons c r =>
      show (if c ∈ signs1 then 1 else 0) ≤ _
      split
      · exact Nat.succ_le_succ (Nat.zero_le _)
      · exact Nat.zero_le _

/-- a token has at least one byte, none beyond the source, and is no end; an error lies in the source -/
theorem oneTk_facts (keys : List UInt8 → Bool) {l : List UInt8} (hl : l ≠ []) {t : Tk} {n wh : Nat} {e : Int} (h : oneTk keys l = (t, n, e, wh)) : (e = 0 → 1 ≤ n ∧ n ≤ l.length ∧ t.kind ≠ 0) ∧ wh ≤ l.length := by
  cases l with
  | nil => exact absurd rfl hl
  | cons c r =>
    by_cases h34 : (c.toNat : Int) = 34
    · have e1 : oneTk keys (c :: r) = (⟨3, (textF 1 [] r).1, 0, 0, 0⟩, (textF 1 [] r).2.1, (textF 1 [] r).2.2.1, (textF 1 [] r).2.2.2) := if_pos h34
      rw [e1] at h
      injection h with ha hb
      injection hb with hb hc
      injection hc with hc hd
      obtain ⟨i1, i2⟩ := textF_used r.length 1 [] r (Nat.le_refl _)
      rw [hb, hc, hd] at i1
      rw [hc, hd] at i2
      rw [List.length_cons]
      refine ⟨fun h0 => ?_, ?_⟩
      · have := i1 h0
        exact ⟨by omega, by omega, by rw [← ha]; show (3 : Int) ≠ 0; decide⟩
      · by_cases h0 : e = 0
        · have := i1 h0
          omega
        · have := i2 h0
          omega
    · by_cases hd : isDg c = true
      · have e1 : oneTk keys (c :: r) = (let n := rowF false (c :: r)
            let e : Int := if (match ((c :: r).drop n).head? with | some d => isSm d || isCp d || decide ((d.toNat : Int) = 95) | none => false) || (decide ((c.toNat : Int) = 48) && decide (1 < n)) then 4 else if 32767 < numL ((c :: r).take n) then 5 else 0
            (⟨2, [], if e = 0 then (numL ((c :: r).take n) : Int) else 0, 0, 0⟩, n, e, 0)) := (if_neg h34).trans (if_pos hd)
        rw [e1] at h
        injection h with ha hb
        injection hb with hb hc
        injection hc with hc hd2
        have hn1 : 1 ≤ rowF false (c :: r) := by
          unfold rowF
          rw [if_pos (by rw [hd]; rfl)]
          omega
        have hn2 := rowF_len false (c :: r)
        exact ⟨fun _ => ⟨by omega, by omega, by rw [← ha]; show (2 : Int) ≠ 0; decide⟩, by omega⟩
      · by_cases hs : isSm c = true
        · have e1 : oneTk keys (c :: r) = (let n := rowF true (c :: r)
              (⟨if keys ((c :: r).take n) then 4 else 1, (c :: r).take n, 0, 0, 0⟩, n, if 24 < n then 9 else 0, 0)) := (if_neg h34).trans ((if_neg hd).trans (if_pos hs))
          rw [e1] at h
          injection h with ha hb
          injection hb with hb hc
          injection hc with hc hd2
          have hn1 : 1 ≤ rowF true (c :: r) := by
            unfold rowF
            rw [if_pos (by rw [hs]; simp)]
            omega
          have hn2 := rowF_len true (c :: r)
          refine ⟨fun _ => ⟨by omega, by omega, ?_⟩, by omega⟩
          rw [← ha]
          show (if keys ((c :: r).take _) = true then (4 : Int) else 1) ≠ 0
          split <;> decide
        · by_cases hg : signL (c :: r) = 0
          · have e1 : oneTk keys (c :: r) = (⟨0, [], 0, 0, 0⟩, 0, 13, 0) := (if_neg h34).trans ((if_neg hd).trans ((if_neg hs).trans (if_pos hg)))
            rw [e1] at h
            injection h with ha hb
            injection hb with hb hc
            injection hc with hc hd2
            exact ⟨fun h0 => absurd (hc.trans h0) (show ¬ ((13 : Int) = 0) by decide), by omega⟩
          · have e1 : oneTk keys (c :: r) = (⟨5, (c :: r).take (signL (c :: r)), 0, 0, 0⟩, signL (c :: r), 0, 0) := (if_neg h34).trans ((if_neg hd).trans ((if_neg hs).trans (if_neg hg)))
            rw [e1] at h
            injection h with ha hb
            injection hb with hb hc
            injection hc with hc hd2
            have := signL_len (c :: r)
            exact ⟨fun _ => ⟨by omega, by omega, by rw [← ha]; show (5 : Int) ≠ 0; decide⟩, by omega⟩

/-- a token ahead of another -/
def ltT (a b : Tk) : Prop := a.line < b.line ∨ (a.line = b.line ∧ a.col < b.col)

/-- what is known of a source's tokens -/
def LexOk (src : List UInt8) (r : List Tk × (Int × Int × Int)) : Prop :=
  (r.2.1 ≠ 0 → r.1 = [] ∧ 1 ≤ r.2.2.1 ∧ r.2.2.1 ≤ 1 + feedsL src ∧ 1 ≤ r.2.2.2 ∧ r.2.2.2 ≤ src.length + 1) ∧
  (r.2.1 = 0 → r.2 = (0, 0, 0) ∧ ∃ ts, r.1 = ts ++ [endTk src src.length] ∧ (∀ t ∈ ts, t.kind ≠ 0) ∧ r.1.Pairwise ltT ∧ ts.length ≤ src.length)

theorem failAt_ok (src : List UInt8) (i : Nat) {e : Int} (he : e ≠ 0) : LexOk src ([], failAt src i e) := by
  refine ⟨fun _ => ⟨rfl, ?_⟩, fun h => absurd h he⟩
  have h1 := posL_le (src.take i)
  have h2 := posL_line (src.take i)
  have h3 := feedsL_take src i
  have h4 : (src.take i).length ≤ src.length := by rw [List.length_take]; omega
  unfold failAt
  simp only
  omega

theorem endTk_eq (src : List UInt8) {k : Nat} (h : src.length ≤ k) : endTk src k = endTk src src.length := by
  unfold endTk
  rw [List.take_of_length_le h, List.take_length]

theorem lexF_ok (keys : List UInt8 → Bool) (src : List UInt8) : ∀ (f i : Nat) (out : List Tk), src.length < i + f → i ≤ src.length → out.length ≤ i → (∀ t ∈ out, t.kind ≠ 0) → out.Pairwise ltT →
    (∀ t ∈ out, ∃ k, k < i ∧ t.line = ((posL (src.take k)).1 : Int) ∧ t.col = ((posL (src.take k)).2 : Int)) → LexOk src (lexF keys src f i out) := by
  intro f
  induction f with
  | zero => intro i out h1 h2; omega
  | succ f ih =>
    intro i out h1 h2 h3 hk hp hpl
    obtain ⟨g, ok, hg⟩ : ∃ g ok, gapF false (src.drop i) = (g, ok) := ⟨_, _, rfl⟩
    have hgl := gapF_len (src.drop i) false
    rw [hg, List.length_drop] at hgl
    change g ≤ _ at hgl
    cases ok with
    | false =>
      rw [lexF_gap hg]
      exact failAt_ok src _ (by decide)
    | true =>
      by_cases hkl : src.length ≤ i + g
      · rw [lexF_stop hg hkl, endTk_eq src hkl]
        refine ⟨fun h => absurd rfl h, fun _ => ⟨rfl, out, rfl, hk, ?_, by omega⟩⟩
        rw [List.pairwise_append]
        refine ⟨hp, List.pairwise_singleton _ _, fun t ht x hx => ?_⟩
        rw [List.mem_singleton] at hx
        subst hx
        obtain ⟨k, k1, k2, k3⟩ := hpl t ht
        have hr := posL_rise (l := src) (i := k) (j := src.length) (by omega) (Nat.le_refl _)
        unfold ltT endTk
        unfold ltP at hr
        simp only
        omega
      · obtain ⟨t, n, e, wh, ho⟩ : ∃ t n e wh, oneTk keys (src.drop (i + g)) = (t, n, e, wh) := ⟨_, _, _, _, rfl⟩
        have hne : src.drop (i + g) ≠ [] := fun h => by
          have := congrArg List.length h
          rw [List.length_drop, List.length_nil] at this
          omega
        obtain ⟨q1, q2⟩ := oneTk_facts keys hne ho
        rw [List.length_drop] at q1 q2
        by_cases he : e = 0
        · subst he
          obtain ⟨n1, n2, n3⟩ := q1 rfl
          by_cases hc : out.length = 16384
          · rw [lexF_many hg (by omega) ho hc]
            exact failAt_ok src _ (by decide)
          · rw [lexF_go hg (by omega) ho hc]
            refine ih (i + g + n) _ (by omega) (by omega) (by rw [List.length_append, List.length_singleton]; omega) (fun x hx => ?_) ?_ (fun x hx => ?_)
            · rcases List.mem_append.mp hx with hx | hx
              · exact hk x hx
              · rw [List.mem_singleton] at hx
                subst hx
                exact n3
            · rw [List.pairwise_append]
              refine ⟨hp, List.pairwise_singleton _ _, fun y hy x hx => ?_⟩
              rw [List.mem_singleton] at hx
              subst hx
              obtain ⟨k, k1, k2, k3⟩ := hpl y hy
              have hr := posL_rise (l := src) (i := k) (j := i + g) (by omega) (by omega)
              unfold ltT putTk
              unfold ltP at hr
              simp only
              omega
            · rcases List.mem_append.mp hx with hx | hx
              · obtain ⟨k, k1, k2⟩ := hpl x hx
                exact ⟨k, by omega, k2⟩
              · rw [List.mem_singleton] at hx
                subst hx
                exact ⟨i + g, by omega, rfl, rfl⟩
        · rw [lexF_err hg (by omega) ho he]
          exact failAt_ok src _ he

theorem lexL_ok (keys : List UInt8 → Bool) (src : List UInt8) : LexOk src (lexL keys src) := by
  unfold lexL
  split
  · exact ⟨fun _ => ⟨rfl, by show (1 : Int) ≤ 1; omega, by show (1 : Int) ≤ _; omega, by show (1 : Int) ≤ 1; omega, by show (1 : Int) ≤ _; omega⟩, fun h => absurd h (show ¬ ((3 : Int) = 0) by decide)⟩
  · exact lexF_ok keys src _ 0 [] (by omega) (Nat.zero_le _) (Nat.zero_le _) (fun t h => absurd h List.not_mem_nil) List.Pairwise.nil (fun t h => absurd h List.not_mem_nil)

/-- a line feed behind ends a gap, a text, a row, a sign -/
theorem gap_join (b : List UInt8) : ∀ (r : List UInt8) (m : Bool), gapF m (r ++ 10 :: b) = if (gapF m r).2 = true ∧ (gapF m r).1 = r.length then (r.length + 1 + (gapF false b).1, (gapF false b).2) else gapF m r := by
  intro r
  induction r with
  | nil =>
    intro m
    have e : gapF m (10 :: b) = ((gapF false b).1 + 1, (gapF false b).2) := by
      conv => lhs; unfold gapF
      rw [if_neg (by decide)]
      have h2 : (b.head? == some 47 && decide (((10 : UInt8).toNat : Int) = 47) || m && decide (((10 : UInt8).toNat : Int) ≠ 10)) = false := by
        have a1 : decide (((10 : UInt8).toNat : Int) = 47) = false := rfl
        have a2 : decide (((10 : UInt8).toNat : Int) ≠ 10) = false := rfl
        rw [a1, a2, Bool.and_false, Bool.and_false]
        rfl
      simp only [h2]
      rw [if_neg (by rintro ⟨_, _, h, _⟩; exact h rfl)]
    rw [List.nil_append, e, gapF_nil, if_pos ⟨rfl, rfl⟩]
    simp only [List.length_nil]
    rw [Nat.zero_add, Nat.add_comm]
  | cons c r ih =>
    intro m
    have hh : ((r ++ 10 :: b).head? == some 47) = (r.head? == some 47) := by
      cases r with
      | nil => rfl
      | cons d r => rfl
    by_cases hm : mayB c = false
    · have e1 : ∀ x, gapF m (c :: x) = (0, false) := fun x => by unfold gapF; rw [if_pos hm]
      rw [List.cons_append, e1, e1, if_neg (by rintro ⟨h, _⟩; cases h)]
    · obtain ⟨m2, hm2⟩ : ∃ m2, m2 = ((r.head? == some 47 && decide ((c.toNat : Int) = 47)) || (m && decide ((c.toNat : Int) ≠ 10))) := ⟨_, rfl⟩
      by_cases hst : m2 = false ∧ (c.toNat : Int) ≠ 32 ∧ (c.toNat : Int) ≠ 10 ∧ (c.toNat : Int) ≠ 9
      · have e1 : gapF m (c :: r) = (0, true) := by
          unfold gapF
          rw [if_neg hm]
          simp only [← hm2]
          rw [if_pos hst]
        have e2 : gapF m (c :: (r ++ 10 :: b)) = (0, true) := by
          unfold gapF
          rw [if_neg hm]
          simp only [hh, ← hm2]
          rw [if_pos hst]
        rw [List.cons_append, e1, e2, if_neg (by rintro ⟨_, h⟩; rw [List.length_cons] at h; simp only at h; omega)]
      · have e1 : gapF m (c :: r) = ((gapF m2 r).1 + 1, (gapF m2 r).2) := by
          conv => lhs; unfold gapF
          rw [if_neg hm]
          simp only [← hm2]
          rw [if_neg hst]
        have e2 : gapF m (c :: (r ++ 10 :: b)) = ((gapF m2 (r ++ 10 :: b)).1 + 1, (gapF m2 (r ++ 10 :: b)).2) := by
          conv => lhs; unfold gapF
          rw [if_neg hm]
          simp only [hh, ← hm2]
          rw [if_neg hst]
        rw [List.cons_append, e1, e2, ih m2]
        by_cases hc : (gapF m2 r).2 = true ∧ (gapF m2 r).1 = r.length
        · rw [if_pos hc, if_pos ⟨hc.1, by rw [List.length_cons, hc.2]⟩]
          simp only [List.length_cons]
          congr 1
          omega
        · rw [if_neg hc, if_neg (by rintro ⟨x1, x2⟩; rw [List.length_cons] at x2; exact hc ⟨x1, by simp only at x2; omega⟩)]

theorem text_join (b : List UInt8) : ∀ (n : Nat) (r : List UInt8) (k : Nat) (acc : List UInt8), r.length ≤ n → textF k acc (r ++ 10 :: b) = textF k acc r := by
  intro n
  induction n with
  | zero =>
    intro r k acc h
    rw [List.eq_nil_of_length_eq_zero (by omega : r.length = 0), List.nil_append, textF_cons, if_pos (by decide)]
    rfl
  | succ n ih =>
    intro r k acc h
    cases r with
    | nil => rw [List.nil_append, textF_cons, if_pos (by decide)]; rfl
    | cons c r =>
      rw [List.length_cons] at h
      rw [List.cons_append, textF_cons, textF_cons, ih r (k + 1) (acc ++ [c]) (by omega)]
      cases r with
      | nil =>
        have e : (match ([] : List UInt8) ++ 10 :: b with
          | [] => (([], 0, 4, k) : List UInt8 × Nat × Int × Nat)
          | d :: r2 => if (d.toNat : Int) = 110 then textF (k + 2) (acc ++ [10]) r2 else if (d.toNat : Int) = 34 ∨ (d.toNat : Int) = 92 then textF (k + 2) (acc ++ [d]) r2 else ([], 0, 4, k)) = ([], 0, 4, k) := by
          show (if ((10 : UInt8).toNat : Int) = 110 then _ else if ((10 : UInt8).toNat : Int) = 34 ∨ ((10 : UInt8).toNat : Int) = 92 then _ else _) = _
          rw [if_neg (by decide), if_neg (by decide)]
        rw [e]
      | cons d r =>
        rw [List.length_cons] at h
        have e : ∀ acc2, textF (k + 2) acc2 (r ++ 10 :: b) = textF (k + 2) acc2 r := fun acc2 => ih r (k + 2) acc2 (by omega)
        simp only [List.cons_append, e]

theorem row_join (b : List UInt8) (nm : Bool) : ∀ r : List UInt8, rowF nm (r ++ 10 :: b) = rowF nm r := by
  intro r
  induction r with
  | nil =>
    show (if isDg 10 || (nm && (isSm 10 || decide (((10 : UInt8).toNat : Int) = 95))) then _ else 0) = 0
    rw [if_neg]
    have a1 : isDg 10 = false := rfl
    have a2 : (isSm 10 || decide (((10 : UInt8).toNat : Int) = 95)) = false := rfl
    rw [a1, a2, Bool.and_false]
    decide
  | cons c r ih =>
    show (if isDg c || (nm && (isSm c || decide ((c.toNat : Int) = 95))) then rowF nm (r ++ 10 :: b) + 1 else 0) = (if isDg c || (nm && (isSm c || decide ((c.toNat : Int) = 95))) then rowF nm r + 1 else 0)
    rw [ih]

theorem sign_join (b : List UInt8) {l : List UInt8} (hl : l ≠ []) : signL (l ++ 10 :: b) = signL l := by
  cases l with
  | nil => exact absurd rfl hl
  | cons c r =>
    cases r with
    | nil =>
      have h1 : ∀ x : UInt8, [c, 10] ≠ [x, 61] := fun x h => by injection h with _ h; injection h with h _; exact absurd h (by decide)
      have h2 : ∀ x : UInt8, [c] ≠ [x, 61] := fun x h => by injection h with _ h; cases h
      unfold signL
      show (if [c, 10] = [61, 61] ∨ [c, 10] = [33, 61] ∨ [c, 10] = [60, 61] ∨ [c, 10] = [62, 61] then 2 else if c ∈ signs1 then 1 else 0) = (if [c] = [61, 61] ∨ [c] = [33, 61] ∨ [c] = [60, 61] ∨ [c] = [62, 61] then 2 else if c ∈ signs1 then 1 else 0)
      exact (if_neg (fun h => h.elim (h1 _) fun h => h.elim (h1 _) fun h => h.elim (h1 _) (h1 _))).trans (if_neg (fun h => h.elim (h2 _) fun h => h.elim (h2 _) fun h => h.elim (h2 _) (h2 _))).symm
    | cons d r => rfl

theorem one_join (keys : List UInt8 → Bool) (b : List UInt8) {l : List UInt8} (hl : l ≠ []) : oneTk keys (l ++ 10 :: b) = oneTk keys l := by
  cases l with
  | nil => exact absurd rfl hl
  | cons c r =>
    have hs := sign_join b hl
    have hr1 := row_join b false (c :: r)
    have hr2 := row_join b true (c :: r)
    have hl1 := rowF_len false (c :: r)
    have hl2 := rowF_len true (c :: r)
    have hsl := signL_len (c :: r)
    have ht : textF 1 [] (r ++ 10 :: b) = textF 1 [] r := text_join b r.length r 1 [] (Nat.le_refl _)
    rw [List.cons_append] at hs hr1 hr2 ⊢
    unfold oneTk
    simp only [ht, hr1, hr2, hs]
    have k1 : ∀ n, n ≤ (c :: r).length → (c :: (r ++ 10 :: b)).take n = (c :: r).take n := fun n hn => by
      rw [← List.cons_append, List.take_append_of_le_length hn]
    rw [k1 _ hl1, k1 _ hl2, k1 _ hsl]
    have k2 : (match ((c :: (r ++ 10 :: b)).drop (rowF false (c :: r))).head? with | some d => isSm d || isCp d || decide ((d.toNat : Int) = 95) | none => false) = (match ((c :: r).drop (rowF false (c :: r))).head? with | some d => isSm d || isCp d || decide ((d.toNat : Int) = 95) | none => false) := by
      rw [← List.cons_append, List.drop_append_of_le_length hl1]
      cases (c :: r).drop (rowF false (c :: r)) with
      | nil => rfl
      | cons d x => rfl
    rw [k2]

theorem fold_shift (d : Nat) : ∀ (l : List UInt8) (p q : Nat), l.foldl stepP (p + d, q) = ((l.foldl stepP (p, q)).1 + d, (l.foldl stepP (p, q)).2) := by
  intro l
  induction l with
  | nil => intro p q; rfl
  | cons c l ih =>
    intro p q
    rw [List.foldl_cons, List.foldl_cons]
    by_cases h : (c.toNat : Int) = 10
    · have e1 : stepP (p + d, q) c = (p + 1 + d, 1) := by
        unfold stepP
        rw [if_pos h]
        simp only
        congr 1
        omega
      have e2 : stepP (p, q) c = (p + 1, 1) := by unfold stepP; rw [if_pos h]
      rw [e1, e2, ih]
    · have e1 : stepP (p + d, q) c = (p + d, q + 1) := by unfold stepP; rw [if_neg h]
      have e2 : stepP (p, q) c = (p, q + 1) := by unfold stepP; rw [if_neg h]
      rw [e1, e2, ih]

theorem pos_join (a b : List UInt8) (j : Nat) : posL ((a ++ 10 :: b).take (a.length + 1 + j)) = ((posL (b.take j)).1 + (posL a).1, (posL (b.take j)).2) := by
  have e : (a ++ 10 :: b).take (a.length + 1 + j) = (a ++ [10]) ++ b.take j := by
    rw [show a.length + 1 + j = (a ++ [10]).length + j from by rw [List.length_append]; rfl, show a ++ 10 :: b = (a ++ [10]) ++ b from by simp, List.take_length_add_append]
  have e2 : posL (a ++ [10]) = (1 + (posL a).1, 1) := by
    rw [posL_snoc]
    unfold stepP
    rw [if_pos (by decide), Nat.add_comm]
  rw [e]
  have e3 : posL ((a ++ [10]) ++ b.take j) = (b.take j).foldl stepP (posL (a ++ [10])) := by
    unfold posL
    rw [List.foldl_append]
  rw [e3, e2, fold_shift]
  rfl

/-- a token so many lines below -/
def shTk (d : Nat) (t : Tk) : Tk := { t with line := t.line + (d : Int) }

theorem sh_put (a b : List UInt8) (j : Nat) (t : Tk) : putTk (a ++ 10 :: b) (a.length + 1 + j) t = shTk (posL a).1 (putTk b j t) := by
  unfold putTk shTk
  rw [pos_join]
  simp only [Int.natCast_add]

theorem sh_end (a b : List UInt8) (j : Nat) : endTk (a ++ 10 :: b) (a.length + 1 + j) = shTk (posL a).1 (endTk b j) := by
  unfold endTk shTk
  rw [pos_join]
  simp only [Int.natCast_add]

def shR (d : Nat) (pre : List Tk) (r : List Tk × (Int × Int × Int)) : List Tk × (Int × Int × Int) := if r.2.1 = 0 then (pre ++ r.1.map (shTk d), (0, 0, 0)) else ([], (r.2.1, r.2.2.1 + (d : Int), r.2.2.2))

theorem sh_fail (a b : List UInt8) (j : Nat) {e : Int} (he : e ≠ 0) (pre : List Tk) : ([], failAt (a ++ 10 :: b) (a.length + 1 + j) e) = shR (posL a).1 pre ([], failAt b j e) := by
  unfold shR failAt
  rw [if_neg he, pos_join]
  simp only [Int.natCast_add]

theorem lexF_shift (keys : List UInt8 → Bool) (a b : List UInt8) (pre : List Tk) (hpre : pre.length + b.length < 16384) : ∀ (F j : Nat) (out : List Tk), b.length < j + F → j ≤ b.length → out.length ≤ j →
    lexF keys (a ++ 10 :: b) F (a.length + 1 + j) (pre ++ out.map (shTk (posL a).1)) = shR (posL a).1 pre (lexF keys b F j out) := by
  intro F
  induction F with
  | zero => intro j out h1 h2; omega
  | succ F ih =>
    intro j out h1 h2 h3
    have hd : ∀ k, (a ++ 10 :: b).drop (a.length + 1 + k) = b.drop k := fun k => by
      rw [show a.length + 1 + k = (a ++ [10]).length + k from by rw [List.length_append]; rfl, show a ++ 10 :: b = (a ++ [10]) ++ b from by simp, List.drop_length_add_append]
    have hlen : (a ++ 10 :: b).length = a.length + 1 + b.length := by rw [List.length_append, List.length_cons]; omega
    obtain ⟨g, ok, hg⟩ : ∃ g ok, gapF false (b.drop j) = (g, ok) := ⟨_, _, rfl⟩
    have hgA : gapF false ((a ++ 10 :: b).drop (a.length + 1 + j)) = (g, ok) := by rw [hd]; exact hg
    cases ok with
    | false =>
      rw [lexF_gap hg, lexF_gap hgA, Nat.add_assoc (a.length + 1)]
      exact sh_fail a b _ (by decide) pre
    | true =>
      by_cases hkl : b.length ≤ j + g
      · rw [lexF_stop hg hkl, lexF_stop hgA (by omega), Nat.add_assoc (a.length + 1), sh_end]
        unfold shR
        rw [if_pos rfl, List.map_append, List.append_assoc]
        rfl
      · obtain ⟨t, n, e, wh, ho⟩ : ∃ t n e wh, oneTk keys (b.drop (j + g)) = (t, n, e, wh) := ⟨_, _, _, _, rfl⟩
        have hoA : oneTk keys ((a ++ 10 :: b).drop (a.length + 1 + j + g)) = (t, n, e, wh) := by rw [Nat.add_assoc (a.length + 1), hd]; exact ho
        by_cases he : e = 0
        · subst he
          have hne : b.drop (j + g) ≠ [] := fun h => by
            have := congrArg List.length h
            rw [List.length_drop, List.length_nil] at this
            omega
          obtain ⟨n1, n2, _⟩ := (oneTk_facts keys hne ho).1 rfl
          rw [List.length_drop] at n2
          rw [lexF_go hg (by omega) ho (by omega), lexF_go hgA (by omega) hoA (by rw [List.length_append, List.length_map]; omega), Nat.add_assoc (a.length + 1) j g, sh_put, Nat.add_assoc (a.length + 1) (j + g) n, List.append_assoc]
          have e1 : out.map (shTk (posL a).1) ++ [shTk (posL a).1 (putTk b (j + g) t)] = (out ++ [putTk b (j + g) t]).map (shTk (posL a).1) := by rw [List.map_append]; rfl
          rw [e1]
          exact ih (j + g + n) _ (by omega) (by omega) (by rw [List.length_append, List.length_singleton]; omega)
        · rw [lexF_err hg (by omega) ho he, lexF_err hgA (by omega) hoA he, Nat.add_assoc (a.length + 1) j g, Nat.add_assoc (a.length + 1) (j + g) wh]
          exact sh_fail a b _ he pre

theorem lexF_ahead (keys : List UInt8 → Bool) (a b : List UInt8) (ha : a.length < 16384) : ∀ (f F i : Nat) (out : List Tk), a.length < i + f → i ≤ a.length → out.length ≤ i → a.length + 1 + b.length < i + F →
    ((lexF keys a f i out).2.1 ≠ 0 → lexF keys (a ++ 10 :: b) F i out = lexF keys a f i out) ∧
    ((lexF keys a f i out).2.1 = 0 → ∃ ts F2, (lexF keys a f i out).1 = ts ++ [endTk a a.length] ∧ ts.length ≤ a.length ∧ b.length < F2 ∧ lexF keys (a ++ 10 :: b) F i out = lexF keys (a ++ 10 :: b) F2 (a.length + 1) ts) := by
  intro f
  induction f with
  | zero => intro F i out h1 h2; omega
  | succ f ih =>
    intro F i out h1 h2 h3 h4
    obtain ⟨F, rfl⟩ : ∃ G, F = G + 1 := ⟨F - 1, by omega⟩
    have hd : ∀ k, k ≤ a.length → (a ++ 10 :: b).drop k = a.drop k ++ 10 :: b := fun k hk => List.drop_append_of_le_length hk
    have ht : ∀ k, k ≤ a.length → (a ++ 10 :: b).take k = a.take k := fun k hk => List.take_append_of_le_length hk
    have hlen : (a ++ 10 :: b).length = a.length + 1 + b.length := by rw [List.length_append, List.length_cons]; omega
    have hf : ∀ k e, k ≤ a.length → failAt (a ++ 10 :: b) k e = failAt a k e := fun k e hk => by unfold failAt; rw [ht k hk]
    have hpt : ∀ k t, k ≤ a.length → putTk (a ++ 10 :: b) k t = putTk a k t := fun k t hk => by unfold putTk; rw [ht k hk]
    obtain ⟨g, ok, hg⟩ : ∃ g ok, gapF false (a.drop i) = (g, ok) := ⟨_, _, rfl⟩
    have hgl := gapF_len (a.drop i) false
    rw [hg, List.length_drop] at hgl
    change g ≤ _ at hgl
    have hj := gap_join b (a.drop i) false
    rw [hg, List.length_drop] at hj
    cases ok with
    | false =>
      rw [if_neg (by rintro ⟨h, _⟩; cases h)] at hj
      rw [lexF_gap hg, lexF_gap (by rw [hd i h2]; exact hj), hf _ _ (by omega)]
      exact ⟨fun _ => rfl, fun h => absurd h (show ¬ ((13 : Int) = 0) by decide)⟩
    | true =>
      by_cases hkl : a.length ≤ i + g
      · have hgi : g = a.length - i := by omega
        rw [if_pos ⟨rfl, hgi⟩] at hj
        rw [lexF_stop hg hkl, endTk_eq a hkl]
        refine ⟨fun h => absurd rfl h, fun _ => ⟨out, F + 1, rfl, by omega, by omega, ?_⟩⟩
        have hgA : gapF false ((a ++ 10 :: b).drop i) = (a.length - i + 1 + (gapF false b).1, (gapF false b).2) := by rw [hd i h2]; exact hj
        have hgB : gapF false ((a ++ 10 :: b).drop (a.length + 1)) = ((gapF false b).1, (gapF false b).2) := by
          have e : (a ++ 10 :: b).drop (a.length + 1) = b := by
            rw [show a.length + 1 = (a ++ [10]).length + 0 from by rw [List.length_append]; rfl, show a ++ 10 :: b = (a ++ [10]) ++ b from by simp, List.drop_length_add_append]
            rfl
          rw [e]
        have ek : i + (a.length - i + 1 + (gapF false b).1) = a.length + 1 + (gapF false b).1 := by omega
        unfold lexF
        simp only [hgA, hgB, ek]
      · rw [if_neg (by rintro ⟨_, h⟩; simp only at h; omega)] at hj
        have hgA : gapF false ((a ++ 10 :: b).drop i) = (g, true) := by rw [hd i h2]; exact hj
        obtain ⟨t, n, e, wh, ho⟩ : ∃ t n e wh, oneTk keys (a.drop (i + g)) = (t, n, e, wh) := ⟨_, _, _, _, rfl⟩
        have hne : a.drop (i + g) ≠ [] := fun h => by
          have := congrArg List.length h
          rw [List.length_drop, List.length_nil] at this
          omega
        have hoA : oneTk keys ((a ++ 10 :: b).drop (i + g)) = (t, n, e, wh) := by rw [hd _ (by omega), one_join keys b hne]; exact ho
        obtain ⟨q1, q2⟩ := oneTk_facts keys hne ho
        rw [List.length_drop] at q1 q2
        by_cases he : e = 0
        · subst he
          obtain ⟨n1, n2, _⟩ := q1 rfl
          rw [lexF_go hg (by omega) ho (by omega), lexF_go hgA (by omega) hoA (by omega), hpt _ _ (by omega)]
          exact ih F (i + g + n) _ (by omega) (by omega) (by rw [List.length_append, List.length_singleton]; omega) (by omega)
        · rw [lexF_err hg (by omega) ho he, lexF_err hgA (by omega) hoA he, hf _ _ (by omega)]
          exact ⟨fun _ => rfl, fun h => absurd h he⟩

/-- enough fuel is enough -/
theorem lexF_fuel (keys : List UInt8 → Bool) (src : List UInt8) : ∀ (F G i : Nat) (out : List Tk), src.length < i + F → src.length < i + G → i ≤ src.length → lexF keys src F i out = lexF keys src G i out := by
  intro F
  induction F with
  | zero => intro G i out h1 h2 h3; omega
  | succ F ih =>
    intro G i out h1 h2 h3
    obtain ⟨G, rfl⟩ : ∃ H, G = H + 1 := ⟨G - 1, by omega⟩
    obtain ⟨g, ok, hg⟩ : ∃ g ok, gapF false (src.drop i) = (g, ok) := ⟨_, _, rfl⟩
    cases ok with
    | false => rw [lexF_gap hg, lexF_gap hg]
    | true =>
      by_cases hkl : src.length ≤ i + g
      · rw [lexF_stop hg hkl, lexF_stop hg hkl]
      · obtain ⟨t, n, e, wh, ho⟩ : ∃ t n e wh, oneTk keys (src.drop (i + g)) = (t, n, e, wh) := ⟨_, _, _, _, rfl⟩
        have hne : src.drop (i + g) ≠ [] := fun h => by
          have := congrArg List.length h
          rw [List.length_drop, List.length_nil] at this
          omega
        by_cases he : e = 0
        · subst he
          obtain ⟨n1, n2, _⟩ := (oneTk_facts keys hne ho).1 rfl
          rw [List.length_drop] at n2
          by_cases hc : out.length = 16384
          · rw [lexF_many hg (by omega) ho hc, lexF_many hg (by omega) ho hc]
          · rw [lexF_go hg (by omega) ho hc, lexF_go hg (by omega) ho hc]
            exact ih G (i + g + n) _ (by omega) (by omega) (by omega)
        · rw [lexF_err hg (by omega) ho he, lexF_err hg (by omega) ho he]

theorem lex_join (keys : List UInt8 → Bool) (a b : List UInt8) (ha : a.length ≤ 8000) (hb : b.length ≤ 8000) :
    ((lexL keys a).2.1 ≠ 0 → lexL keys (a ++ 10 :: b) = lexL keys a) ∧
    ((lexL keys a).2.1 = 0 → ∃ ts, (lexL keys a).1 = ts ++ [endTk a a.length] ∧ ts.length ≤ a.length ∧ lexL keys (a ++ 10 :: b) = shR (posL a).1 ts (lexL keys b)) := by
  have hlen : (a ++ 10 :: b).length = a.length + 1 + b.length := by rw [List.length_append, List.length_cons]; omega
  have e1 : lexL keys a = lexF keys a (a.length + 1) 0 [] := by unfold lexL; rw [if_neg (by omega)]
  have e2 : lexL keys b = lexF keys b (b.length + 1) 0 [] := by unfold lexL; rw [if_neg (by omega)]
  have e3 : lexL keys (a ++ 10 :: b) = lexF keys (a ++ 10 :: b) ((a ++ 10 :: b).length + 1) 0 [] := by unfold lexL; rw [if_neg (by omega)]
  obtain ⟨h1, h2⟩ := lexF_ahead keys a b (by omega) (a.length + 1) ((a ++ 10 :: b).length + 1) 0 [] (by omega) (Nat.zero_le _) (Nat.zero_le _) (by omega)
  rw [e1, e3]
  refine ⟨h1, fun h => ?_⟩
  obtain ⟨ts, F2, k1, k2, k3, k4⟩ := h2 h
  refine ⟨ts, k1, k2, ?_⟩
  rw [k4]
  have hs := lexF_shift keys a b ts (by omega) F2 0 [] (by omega) (Nat.zero_le _) (Nat.zero_le _)
  rw [List.map_nil, List.append_nil] at hs
  have hfuel : ∀ (F : Nat), b.length < F → lexF keys b F 0 [] = lexF keys b (b.length + 1) 0 [] := fun F hF => lexF_fuel keys b F (b.length + 1) 0 [] (by omega) (by omega) (Nat.zero_le _)
  rw [e2, ← hfuel F2 k3]
  exact hs

end Go.Proofs.YtgeglhgkibcpfaaDoor
