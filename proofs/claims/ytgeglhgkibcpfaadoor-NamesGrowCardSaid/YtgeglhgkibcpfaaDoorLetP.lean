/- Letters, names and words of lines, as plain functions on lists of bytes. No function of the program is named here. -/
import Derived.Test.YtgeglhgkibcpfaaDoorBase
import Derived.Lib.Join
namespace Go.Proofs.YtgeglhgkibcpfaaDoor

def isSm (c : UInt8) : Bool := decide (97 ≤ (c.toNat : Int)) && decide ((c.toNat : Int) ≤ 122)
def isCp (c : UInt8) : Bool := decide (65 ≤ (c.toNat : Int)) && decide ((c.toNat : Int) ≤ 90)
def isDg (c : UInt8) : Bool := decide (48 ≤ (c.toNat : Int)) && decide ((c.toNat : Int) ≤ 57)
/-- '-' and the apostrophe -/
def isIn (c : UInt8) : Bool := decide ((c.toNat : Int) = 45) || decide ((c.toNat : Int) = 39)
/-- '.' and ',' -/
def isMk (c : UInt8) : Bool := decide ((c.toNat : Int) = 46) || decide ((c.toNat : Int) = 44)
/-- a byte that stands in a word of a line -/
def isRow (c : UInt8) : Bool := isSm c || isCp c || isDg c || isIn c
/-- a byte that stands in a word of a dictionary -/
def isWd (c : UInt8) : Bool := isSm c || isDg c || isIn c
/-- a byte that stands in a name -/
def isNm (c : UInt8) : Bool := isSm c || isDg c || decide ((c.toNat : Int) = 95)
/-- a byte of a text -/
def isTx (c : UInt8) : Bool := (decide (32 ≤ (c.toNat : Int)) && decide ((c.toNat : Int) ≤ 126)) || decide ((c.toNat : Int) = 10)

/-- a byte in small letters -/
def lowC (c : UInt8) : UInt8 := if isCp c then byt ((c.toNat : Int) + 32) else c
def lower (l : List UInt8) : List UInt8 := l.map lowC
/-- a great letter ahead -/
def capL : List UInt8 → List UInt8
  | [] => []
  | c :: r => (if isSm c then byt ((c.toNat : Int) - 32) else c) :: r

theorem lowC_cp {c : UInt8} (h : isCp c = true) : (lowC c).toNat = c.toNat + 32 := by
  unfold lowC
  rw [if_pos h]
  have e := byt_val ((c.toNat : Int) + 32)
  simp [isCp] at h
  omega

theorem lowC_no {c : UInt8} (h : isCp c = false) : lowC c = c := by
  unfold lowC
  rw [if_neg (by rw [h]; decide)]

theorem lowC_low (c : UInt8) : isCp (lowC c) = false := by
  by_cases h : isCp c = true
  · have e := lowC_cp h
    simp [isCp] at h ⊢
    omega
  · rw [Bool.not_eq_true] at h
    rw [lowC_no h, h]

theorem lower_lower (l : List UInt8) : lower (lower l) = lower l := by
  unfold lower
  rw [List.map_map]
  exact List.map_congr_left fun c _ => lowC_no (lowC_low c)

theorem lower_length (l : List UInt8) : (lower l).length = l.length := by simp [lower]

theorem lower_cap (l : List UInt8) : lower (capL l) = lower l := by
  cases l with
  | nil => rfl
  | cons c r =>
    simp only [capL, lower, List.map_cons, List.cons.injEq, and_true]
    by_cases h : isSm c = true
    · rw [if_pos h]
      have e := byt_val ((c.toNat : Int) - 32)
      have hs := h
      simp [isSm] at hs
      have hc : isCp (byt ((c.toNat : Int) - 32)) = true := by simp [isCp]; omega
      have hn : isCp c = false := by simp [isCp]; omega
      rw [lowC_no hn]
      apply UInt8.toNat_inj.1
      rw [lowC_cp hc]
      omega
    · rw [if_neg h]

theorem isRow_lowC {c : UInt8} (h : isRow c = true) : isWd (lowC c) = true := by
  by_cases hc : isCp c = true
  · have e := lowC_cp hc
    simp [isCp] at hc
    simp [isWd, isSm]
    omega
  · rw [Bool.not_eq_true] at hc
    rw [lowC_no hc]
    simpa [isRow, isWd, hc] using h

theorem isRow_of_wd {c : UInt8} (h : isWd c = true) : isRow c = true := by
  simp only [isWd, Bool.or_eq_true] at h
  simp only [isRow, Bool.or_eq_true]
  rcases h with (h | h) | h
  · exact .inl (.inl (.inl h))
  · exact .inl (.inr h)
  · exact .inr h

theorem isCp_of_wd {c : UInt8} (h : isWd c = true) : isCp c = false := by
  simp [isWd, isSm, isDg, isIn] at h
  simp [isCp]
  omega

/-- how many bytes of a class a text begins with -/
def runL (p : UInt8 → Bool) : List UInt8 → Nat
  | [] => 0
  | c :: r => if p c then runL p r + 1 else 0

theorem runL_le (p : UInt8 → Bool) (l : List UInt8) : runL p l ≤ l.length := by
  induction l with
  | nil => simp [runL]
  | cons c r ih =>
    unfold runL
    split <;> simp <;> omega

theorem runL_all (p : UInt8 → Bool) (l : List UInt8) : runL p l = l.length ↔ l.all p = true := by
  induction l with
  | nil => simp [runL]
  | cons c r ih =>
    unfold runL
    by_cases h : p c = true
    · simp [h, ih]
    · simp [h]

/-- the run is found by a search from the left -/
theorem runL_stop (p : UInt8 → Bool) (l : List UInt8) : ∀ (k : Nat) (h : k < l.length), (∀ j (hj : j < k), p (l[j]'(by omega)) = true) → p l[k] = false → runL p l = k := by
  induction l with
  | nil => intro k h; simp at h
  | cons c r ih =>
    intro k h ha hs
    cases k with
    | zero => simp at hs; simp [runL, hs]
    | succ k =>
      have h0 := ha 0 (by omega)
      simp at h0
      simp only [List.length_cons] at h
      simp only [List.getElem_cons_succ] at hs
      unfold runL
      rw [if_pos h0, ih k (by omega) (fun j hj => by simpa using ha (j + 1) (by omega)) hs]

theorem runL_end (p : UInt8 → Bool) (l : List UInt8) (ha : ∀ j (hj : j < l.length), p l[j] = true) : runL p l = l.length := by
  rw [runL_all, List.all_eq_true]
  intro c hc
  obtain ⟨j, hj, rfl⟩ := List.mem_iff_getElem.1 hc
  exact ha j hj

theorem runL_mem (p : UInt8 → Bool) (l : List UInt8) : ∀ c ∈ l.take (runL p l), p c = true := by
  induction l with
  | nil => simp [runL]
  | cons d r ih =>
    unfold runL
    by_cases h : p d = true
    · rw [if_pos h]
      intro c hc
      rw [List.take_succ_cons, List.mem_cons] at hc
      rcases hc with rfl | hc
      · exact h
      · exact ih c hc
    · rw [if_neg h]
      intro c hc
      simp at hc

/-- the run of a word that a byte of another class stands behind -/
theorem runL_app (p : UInt8 → Bool) (w : List UInt8) (c : UInt8) (r : List UInt8) (hw : ∀ d ∈ w, p d = true) (hc : p c = false) : runL p (w ++ c :: r) = w.length := by
  induction w with
  | nil => simp [runL, hc]
  | cons d w ih =>
    have hd := hw d (by simp)
    simp only [List.cons_append, runL, hd, if_true, List.length_cons]
    rw [ih (fun e he => hw e (by simp [he]))]

theorem runL_whole (p : UInt8 → Bool) (w : List UInt8) (hw : ∀ d ∈ w, p d = true) : runL p w = w.length := by
  rw [runL_all, List.all_eq_true]; exact hw

/-- the words of a line; 'f' bounds the rounds -/
def wordsF : Nat → List UInt8 → List (List UInt8)
  | 0, _ => []
  | _ + 1, [] => []
  | f + 1, c :: r =>
    if isRow c then lower ((c :: r).take (runL isRow (c :: r))) :: wordsF f ((c :: r).drop (runL isRow (c :: r)))
    else if isMk c then [c] :: wordsF f r
    else wordsF f r

def words (l : List UInt8) : List (List UInt8) := wordsF l.length l

theorem wordsF_more : ∀ (f g : Nat) (l : List UInt8), l.length ≤ f → l.length ≤ g → wordsF f l = wordsF g l := by
  intro f
  induction f with
  | zero =>
    intro g l hf _
    have : l = [] := List.eq_nil_of_length_eq_zero (by omega)
    subst this
    cases g <;> rfl
  | succ f ih =>
    intro g l hf hg
    cases l with
    | nil => cases g <;> rfl
    | cons c r =>
      cases g with
      | zero => simp at hg
      | succ g =>
        simp only [List.length_cons] at hf hg
        unfold wordsF
        by_cases h : isRow c = true
        · rw [if_pos h, if_pos h]
          have h1 : 1 ≤ runL isRow (c :: r) := by unfold runL; rw [if_pos h]; omega
          rw [ih g _ (by rw [List.length_drop, List.length_cons]; omega) (by rw [List.length_drop, List.length_cons]; omega)]
        · rw [if_neg h, if_neg h, ih g r (by omega) (by omega)]

theorem words_nil : words [] = [] := rfl

theorem words_row {c : UInt8} {r : List UInt8} (h : isRow c = true) : words (c :: r) = lower ((c :: r).take (runL isRow (c :: r))) :: words ((c :: r).drop (runL isRow (c :: r))) := by
  have h1 : 1 ≤ runL isRow (c :: r) := by unfold runL; rw [if_pos h]; omega
  unfold words
  rw [List.length_cons, wordsF, if_pos h]
  rw [wordsF_more r.length _ _ (by rw [List.length_drop, List.length_cons]; omega) (Nat.le_refl _)]

theorem words_mark {c : UInt8} {r : List UInt8} (h : isRow c = false) (h2 : isMk c = true) : words (c :: r) = [c] :: words r := by
  unfold words
  rw [List.length_cons, wordsF, if_neg (by rw [h]; decide), if_pos h2]

theorem words_skip {c : UInt8} {r : List UInt8} (h : isRow c = false) (h2 : isMk c = false) : words (c :: r) = words r := by
  unfold words
  rw [List.length_cons, wordsF, if_neg (by rw [h]; decide), if_neg (by rw [h2]; decide)]

theorem mk_row {c : UInt8} (h : isMk c = true) : isRow c = false := by
  simp [isMk] at h
  simp [isRow, isSm, isCp, isDg, isIn]
  omega

/-- what a word of a line is: bytes of words in small letters, or a sign -/
def Wordish (x : List UInt8) : Prop := (x ≠ [] ∧ ∀ c ∈ x, isWd c = true) ∨ ∃ c, isMk c = true ∧ x = [c]

theorem wordsF_wordish : ∀ (f : Nat) (l : List UInt8), ∀ x ∈ wordsF f l, Wordish x := by
  intro f
  induction f with
  | zero => intro l x hx; simp [wordsF] at hx
  | succ f ih =>
    intro l x hx
    cases l with
    | nil => simp [wordsF] at hx
    | cons c r =>
      unfold wordsF at hx
      by_cases h : isRow c = true
      · rw [if_pos h, List.mem_cons] at hx
        rcases hx with rfl | hx
        · left
          have h1 : 1 ≤ runL isRow (c :: r) := by unfold runL; rw [if_pos h]; omega
          refine ⟨?_, ?_⟩
          · intro e
            have := congrArg List.length e
            rw [lower_length, List.length_take, List.length_cons] at this
            simp at this
            omega
          · intro d hd
            obtain ⟨e, he, rfl⟩ := List.mem_map.1 hd
            exact isRow_lowC (runL_mem _ _ e he)
        · exact ih _ x hx
      · rw [if_neg h] at hx
        by_cases h2 : isMk c = true
        · rw [if_pos h2, List.mem_cons] at hx
          rcases hx with rfl | hx
          · exact .inr ⟨c, h2, rfl⟩
          · exact ih _ x hx
        · rw [if_neg h2] at hx
          exact ih _ x hx

theorem words_wordish (l : List UInt8) : ∀ x ∈ words l, Wordish x := wordsF_wordish _ l

theorem lower_wd {x : List UInt8} (h : ∀ c ∈ x, isWd c = true) : lower x = x := by
  unfold lower
  have : x.map lowC = x.map id := List.map_congr_left fun c hc => lowC_no (isCp_of_wd (h c hc))
  rw [this, List.map_id]

/-- a word, with nothing or a blank behind it -/
theorem words_of_word {x : List UInt8} (hx : Wordish x) : words x = [x] := by
  rcases hx with ⟨hne, hw⟩ | ⟨c, hc, rfl⟩
  · cases x with
    | nil => exact absurd rfl hne
    | cons c r =>
      have hr : ∀ d ∈ c :: r, isRow d = true := fun d hd => isRow_of_wd (hw d hd)
      rw [words_row (hr c (by simp)), runL_whole _ _ hr, List.take_length, List.drop_length, words_nil, lower_wd hw]
  · rw [words_mark (mk_row hc) hc, words_nil]

theorem words_of_word_behind {x : List UInt8} (hx : Wordish x) (r : List UInt8) : words (x ++ 32 :: r) = x :: words r := by
  have hb : isRow 32 = false := by decide
  have hb2 : isMk 32 = false := by decide
  rcases hx with ⟨hne, hw⟩ | ⟨c, hc, rfl⟩
  · have hr : ∀ d ∈ x, isRow d = true := fun d hd => isRow_of_wd (hw d hd)
    have hrun := runL_app isRow x 32 r hr hb
    cases x with
    | nil => exact absurd rfl hne
    | cons c q =>
      rw [List.cons_append] at hrun ⊢
      rw [words_row (hr c (by simp)), hrun, ← List.cons_append, List.take_left, List.drop_left, words_skip hb hb2, lower_wd hw]
  · rw [List.cons_append, List.nil_append, words_mark (mk_row hc) hc, words_skip hb hb2]

/-- the words of a line joined by blanks are the same words -/
theorem words_join : ∀ (ws : List (List UInt8)), (∀ x ∈ ws, Wordish x) → words (Lib.join ws [32]) = ws := by
  intro ws
  induction ws with
  | nil => intro _; rfl
  | cons x r ih =>
    intro h
    have hx := h x (by simp)
    have ihr := ih (fun y hy => h y (by simp [hy]))
    cases r with
    | nil => rw [Lib.join_one]; exact words_of_word hx
    | cons y r =>
      rw [Lib.join_cons] at ihr ⊢
      have e : x ++ Lib.joinTail [32] (y :: r) = x ++ 32 :: (y ++ Lib.joinTail [32] r) := by simp [Lib.joinTail]
      rw [e, words_of_word_behind hx, ihr]

theorem words_lens (l : List UInt8) : Lib.lens (words l) ≤ l.length ∧ (words l).length ≤ l.length := by
  have key : ∀ (f : Nat) (l : List UInt8), Lib.lens (wordsF f l) ≤ l.length ∧ (wordsF f l).length ≤ l.length := by
    intro f
    induction f with
    | zero => intro l; simp [wordsF, Lib.lens]
    | succ f ih =>
      intro l
      cases l with
      | nil => simp [wordsF, Lib.lens]
      | cons c r =>
        unfold wordsF
        by_cases h : isRow c = true
        · rw [if_pos h]
          have h1 : 1 ≤ runL isRow (c :: r) := by unfold runL; rw [if_pos h]; omega
          have h2 := runL_le isRow (c :: r)
          have h3 := ih ((c :: r).drop (runL isRow (c :: r)))
          rw [List.length_drop] at h3
          simp only [Lib.lens, List.map_cons, List.sum_cons, lower_length, List.length_take, List.length_cons] at h2 h3 ⊢
          omega
        · rw [if_neg h]
          by_cases h2 : isMk c = true
          · rw [if_pos h2]
            have h3 := ih r
            simp only [Lib.lens, List.map_cons, List.sum_cons, List.length_cons, List.length_nil] at h3 ⊢
            omega
          · rw [if_neg h2]
            have h3 := ih r
            simp only [List.length_cons]
            omega
  exact key _ l

/-- what the functions tell of a text -/
def nameB (l : List UInt8) : Bool := match l with | [] => false | c :: _ => isSm c && decide (l.length ≤ 24) && l.all isNm
def wordB (l : List UInt8) : Bool := match l with | [] => false | c :: _ => (isSm c || isDg c) && decide (l.length ≤ 9) && l.all isWd
def textB (l : List UInt8) : Bool := decide (l.length ≤ 1024) && l.all isTx

/-- a word of a line, cut to nine bytes -/
theorem wordish_short {x : List UInt8} (h : Wordish x) : (x = [46] ∨ x = [44]) ∨ ∃ c r, x = c :: r ∧ (isIn c = true ∨ wordB (x.take 9) = true) := by
  rcases h with ⟨hne, hw⟩ | ⟨c, hc, rfl⟩
  · cases x with
    | nil => exact absurd rfl hne
    | cons c r =>
      refine .inr ⟨c, r, rfl, ?_⟩
      by_cases hi : isIn c = true
      · exact .inl hi
      · right
        have h0 := hw c (by simp)
        have h1 : (isSm c || isDg c) = true := by
          simp only [isWd, Bool.or_eq_true] at h0 ⊢
          rcases h0 with h0 | h0
          · exact h0
          · exact absurd h0 hi
        have e : (c :: r).take 9 = c :: r.take 8 := rfl
        rw [e]
        unfold wordB
        simp only [h1, Bool.true_and, Bool.and_eq_true, decide_eq_true_eq, List.length_cons, List.length_take, List.all_eq_true]
        refine ⟨by omega, fun d hd => hw d ?_⟩
        rw [List.mem_cons] at hd
        rcases hd with rfl | hd
        · simp
        · exact List.mem_cons_of_mem _ (List.mem_of_mem_take hd)
  · left
    simp [isMk] at hc
    rcases hc with hc | hc
    · left; congr 1; apply UInt8.toNat_inj.1; show c.toNat = 46; omega
    · right; congr 1; apply UInt8.toNat_inj.1; show c.toNat = 44; omega

end Go.Proofs.YtgeglhgkibcpfaaDoor
