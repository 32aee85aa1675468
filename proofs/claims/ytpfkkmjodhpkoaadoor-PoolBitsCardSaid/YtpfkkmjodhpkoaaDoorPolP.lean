/- What a pool's texts are: the codes of pieces, the text of codes, where a text's bytes lie; a pool's texts, made and read back; how codes are read from left to right. -/
import Derived.Test.YtpfkkmjodhpkoaaDoorAbbP
import Derived.Test.YtpfkkmjodhpkoaaDoorAlpR
namespace Go.Proofs.YtpfkkmjodhpkoaaDoor
open Go.RowKit
set_option linter.unusedVariables false

/-- the codes of a piece, of pieces -/
def pcode (p : List UInt8 × Int) : List Int := if 0 < p.2 then [30, p.2 - 1] else cdZ p.1
def pcodes (ps : List (List UInt8 × Int)) : List Int := ps.flatMap pcode

theorem pcodes_append (a b : List (List UInt8 × Int)) : pcodes (a ++ b) = pcodes a ++ pcodes b := by unfold pcodes; rw [List.flatMap_append]

/-- the text of codes, byte by byte -/
def decF : Nat → List Int → Option (List UInt8)
  | 0, zs => if zs = [] then some [] else none
  | f + 1, zs => if zs = [] then some [] else
    if isTx (UInt8.ofNat (decL zs)) && begI zs (oneL (UInt8.ofNat (decL zs))) then (decF f (zs.drop (oneL (UInt8.ofNat (decL zs))).length)).map (UInt8.ofNat (decL zs) :: ·) else none

/-- the text of codes, if there is one -/
def txt (zs : List Int) : Option (List UInt8) := (decF zs.length zs).bind fun t => if textB t then some t else none

theorem decF_of : ∀ (t : List UInt8) (f : Nat), t.all isTx = true → (codes t).length ≤ f → decF f (codes t) = some t := by
  intro t
  induction t with
  | nil => intro f _ _; cases f <;> rfl
  | cons c t ih =>
    intro f h hf
    rw [List.all_cons, Bool.and_eq_true] at h
    have h1 := (oneL_len c).1
    have hne : oneL c ++ codes t ≠ [] := fun e => by
      have := congrArg List.length e
      rw [List.length_append, List.length_nil] at this
      omega
    rw [codes_cons] at hf ⊢
    rw [List.length_append] at hf
    obtain ⟨f, rfl⟩ : ∃ g, f = g + 1 := ⟨f - 1, by omega⟩
    have hd : UInt8.ofNat (decL (oneL c ++ codes t)) = c := by rw [decL_one]; exact UInt8.ofNat_toNat
    have hb : begI (oneL c ++ codes t) (oneL c) = true := by
      unfold begI
      rw [decide_eq_true_eq, List.take_left]
    unfold decF
    rw [if_neg hne, hd, h.1, hb, List.drop_left, ih f h.2 (by omega)]
    rfl

theorem decF_is : ∀ (f : Nat) (zs : List Int) (t : List UInt8), decF f zs = some t → codes t = zs := by
  intro f
  induction f with
  | zero =>
    intro zs t h
    unfold decF at h
    split at h
    · rename_i hz
      cases h
      rw [hz]
      rfl
    · cases h
  | succ f ih =>
    intro zs t h
    unfold decF at h
    split at h
    · rename_i hz
      cases h
      rw [hz]
      rfl
    · split at h
      · rename_i _ hc
        obtain ⟨u, hu, rfl⟩ := Option.map_eq_some_iff.mp h
        rw [Bool.and_eq_true] at hc
        have hb := hc.2
        unfold begI at hb
        rw [decide_eq_true_eq] at hb
        rw [codes_cons, ih _ _ hu]
        conv => rhs; rw [← List.take_append_drop (oneL (UInt8.ofNat (decL zs))).length zs, hb]
      · cases h

theorem txt_of {t : List UInt8} (h : textB t = true) : txt (codes t) = some t := by
  unfold txt
  rw [decF_of t _ (textB_all h) (Nat.le_refl _)]
  show (if textB t = true then some t else none) = some t
  rw [if_pos h]

theorem txt_is {zs : List Int} {t : List UInt8} (h : txt zs = some t) : textB t = true ∧ codes t = zs := by
  unfold txt at h
  obtain ⟨u, hu, h⟩ := Option.bind_eq_some_iff.mp h
  split at h
  · cases h
    exact ⟨by assumption, decF_is _ _ _ hu⟩
  · cases h

theorem txt_rel {zs : List Int} {t : List UInt8} {er : Int} (h : TextRel zs t er) : (txt zs = some t ∧ er = 0) ∨ (txt zs = none ∧ t = [] ∧ er = 16) := by
  rcases h with ⟨h1, rfl, h3⟩ | ⟨h1, h2, h3⟩
  · exact .inl ⟨txt_of h1, h3⟩
  · refine .inr ⟨?_, h1, h2⟩
    cases hx : txt zs with
    | none => rfl
    | some u => exact absurd (txt_is hx).2 (h3 u (txt_is hx).1)

theorem txt_len {zs : List Int} {t : List UInt8} (h : txt zs = some t) : t.length ≤ zs.length := by
  rw [← (txt_is h).2]
  exact (codes_len t).1

/-- how many codes belong together, where a code stands -/
def wideI (c : Int) : Nat := if c = 27 ∨ c = 28 ∨ c = 30 then 2 else if c = 29 then 3 else 1

/-- where a row without abbreviations ends -/
def spanF : Nat → Nat → List Int → Nat
  | 0, n, _ => n
  | f + 1, n, l => if n < l.length ∧ l.getD n 0 ≠ 30 then spanF f (n + wideI (l.getD n 0)) l else n
def spanL (l : List Int) : Nat := spanF l.length 0 l

theorem wide_pos (c : Int) : 1 ≤ wideI c ∧ wideI c ≤ 3 := by
  unfold wideI
  split
  · omega
  · split <;> omega

theorem spanF_go {f n : Nat} {l : List Int} (h : n < l.length) (h2 : l.getD n 0 ≠ 30) (hf : l.length - n ≤ f) : spanF f n l = spanF (f - 1) (n + wideI (l.getD n 0)) l := by
  obtain ⟨g, rfl⟩ : ∃ g, f = g + 1 := ⟨f - 1, by omega⟩
  show (if n < l.length ∧ l.getD n 0 ≠ 30 then spanF g (n + wideI (l.getD n 0)) l else n) = _
  rw [if_pos ⟨h, h2⟩]
  rfl

theorem spanF_stop {f n : Nat} {l : List Int} (h : ¬ (n < l.length ∧ l.getD n 0 ≠ 30)) : spanF f n l = n := by
  cases f with
  | zero => rfl
  | succ f =>
    show (if n < l.length ∧ l.getD n 0 ≠ 30 then spanF f (n + wideI (l.getD n 0)) l else n) = _
    rw [if_neg h]

theorem spanF_ge : ∀ (f n : Nat) (l : List Int), n ≤ spanF f n l ∧ (spanF f n l ≤ n ∨ spanF f n l ≤ l.length + 2) := by
  intro f
  induction f with
  | zero => intro n l; exact ⟨Nat.le_refl _, .inl (Nat.le_refl _)⟩
  | succ f ih =>
    intro n l
    by_cases h : n < l.length ∧ l.getD n 0 ≠ 30
    · have e : spanF (f + 1) n l = spanF f (n + wideI (l.getD n 0)) l := by
        show (if n < l.length ∧ l.getD n 0 ≠ 30 then spanF f (n + wideI (l.getD n 0)) l else n) = _
        rw [if_pos h]
      have hw := wide_pos (l.getD n 0)
      have := ih (n + wideI (l.getD n 0)) l
      rw [e]
      omega
    · rw [spanF_stop h]
      omega

/-- the text of codes, with abbreviations -/
def sayF (ab : List (List UInt8)) : Nat → List UInt8 → List Int → List UInt8 × Int
  | 0, acc, _ => (acc, 0)
  | f + 1, acc, l =>
    if l = [] then (acc, 0) else
    if l.getD 0 0 = 30 then
      if l.length < 2 then ([], 16) else
      if (ab.length : Int) ≤ l.getD 1 0 then ([], 11) else sayF ab f (acc ++ ab.getD (l.getD 1 0).toNat []) (l.drop 2)
    else if l.length < spanL l then ([], 16) else
      match txt (l.take (spanL l)) with
      | none => ([], 16)
      | some t => sayF ab f (acc ++ t) (l.drop (spanL l))
def sayL (ab : List (List UInt8)) (l : List Int) : List UInt8 × Int := sayF ab l.length [] l

theorem sayF_end {ab : List (List UInt8)} {f : Nat} {acc : List UInt8} : sayF ab f acc [] = (acc, 0) := by
  cases f <;> rfl

theorem sayF_step {ab : List (List UInt8)} {f : Nat} {acc : List UInt8} {l : List Int} (h : l ≠ []) (hf : l.length ≤ f) : sayF ab f acc l =
    if l.getD 0 0 = 30 then
      if l.length < 2 then ([], 16) else
      if (ab.length : Int) ≤ l.getD 1 0 then ([], 11) else sayF ab (f - 1) (acc ++ ab.getD (l.getD 1 0).toNat []) (l.drop 2)
    else if l.length < spanL l then ([], 16) else
      match txt (l.take (spanL l)) with
      | none => ([], 16)
      | some t => sayF ab (f - 1) (acc ++ t) (l.drop (spanL l)) := by
  have hp : 0 < l.length := List.length_pos_iff.mpr h
  obtain ⟨g, rfl⟩ : ∃ g, f = g + 1 := ⟨f - 1, by omega⟩
  conv => lhs; unfold sayF
  rw [if_neg h]
  rfl

theorem spanL_pos {l : List Int} (h : l ≠ []) (h2 : l.getD 0 0 ≠ 30) : 1 ≤ spanL l := by
  have hp : 0 < l.length := List.length_pos_iff.mpr h
  unfold spanL
  rw [spanF_go hp h2 (by omega)]
  have := (spanF_ge (l.length - 1) (0 + wideI (l.getD 0 0)) l).1
  have := (wide_pos (l.getD 0 0)).1
  omega

theorem textB_pre {a b : List UInt8} (h : textB (a ++ b) = true) : textB a = true ∧ textB b = true := by
  unfold textB at *
  rw [Bool.and_eq_true, decide_eq_true_eq, List.length_append, List.all_append, Bool.and_eq_true] at h
  rw [Bool.and_eq_true, Bool.and_eq_true, decide_eq_true_eq, decide_eq_true_eq]
  exact ⟨⟨by omega, h.2.1⟩, ⟨by omega, h.2.2⟩⟩

theorem textB_nil : textB [] = true := rfl

/-- the first of a byte's codes -/
theorem oneL_head (c : UInt8) (r : List Int) : (oneL c ++ r).getD 0 0 ≠ 30 ∧ wideI ((oneL c ++ r).getD 0 0) = (oneL c).length := by
  unfold oneL
  have hc := c.toNat_lt
  split
  · exact ⟨by simp, rfl⟩
  · split
    · rename_i h0 h1
      have h2 : isSm c = true := h1
      have : (97 : Int) ≤ c.toNat ∧ (c.toNat : Int) ≤ 122 := by simpa [isSm] using h2
      simp only [List.cons_append, List.getD_cons_zero, List.length_cons, List.length_nil]
      refine ⟨by omega, ?_⟩
      unfold wideI
      rw [if_neg (by omega), if_neg (by omega)]
    · split
      · exact ⟨by simp, rfl⟩
      · split
        · exact ⟨by simp, rfl⟩
        · exact ⟨by simp, rfl⟩

theorem getD_pre (P l : List Int) : (P ++ l).getD P.length 0 = l.getD 0 0 := by
  unfold List.getD
  rw [List.getElem?_append_right (Nat.le_refl _), Nat.sub_self]

theorem span_codes {R : List Int} (hR : R = [] ∨ R.getD 0 0 = 30) : ∀ (t : List UInt8) (P : List Int) (f : Nat), (codes t ++ R).length ≤ f → spanF f P.length (P ++ (codes t ++ R)) = P.length + (codes t).length := by
  intro t
  induction t with
  | nil =>
    intro P f _
    rw [codes_nil, List.nil_append, spanF_stop]
    · rfl
    · rintro ⟨h1, h2⟩
      rw [getD_pre] at h2
      rcases hR with rfl | hR
      · rw [List.length_append, List.length_nil] at h1; omega
      · exact h2 hR
  | cons c t ih =>
    intro P f hf
    have e : P ++ (codes (c :: t) ++ R) = (P ++ oneL c) ++ (codes t ++ R) := by rw [codes_cons]; simp only [List.append_assoc]
    have hl := (oneL_len c).1
    have hd := oneL_head c (codes t ++ R)
    rw [← List.append_assoc, ← codes_cons] at hd
    have hg := getD_pre P (codes (c :: t) ++ R)
    rw [codes_cons, List.append_assoc, List.length_append] at hf
    rw [spanF_go (by rw [List.length_append, codes_cons, List.append_assoc, List.length_append]; omega) (by rw [hg]; exact hd.1) (by rw [List.length_append, codes_cons, List.append_assoc, List.length_append]; omega),
      hg, hd.2, e, ← List.length_append, ih (P ++ oneL c) (f - 1) (by omega), codes_cons, List.length_append, List.length_append]
    omega

/-- a literal run is said -/
theorem say_lit {ab : List (List UInt8)} {t : List UInt8} {R : List Int} {f : Nat} {acc : List UInt8} (ht : textB t = true) (hn : t ≠ []) (hR : R = [] ∨ R.getD 0 0 = 30) (hf : (codes t ++ R).length ≤ f) :
    sayF ab f acc (codes t ++ R) = sayF ab (f - 1) (acc ++ t) R := by
  obtain ⟨c, u, rfl⟩ : ∃ c u, t = c :: u := by cases t with | nil => exact absurd rfl hn | cons c u => exact ⟨c, u, rfl⟩
  have hl := (oneL_len c).1
  have hne : codes (c :: u) ++ R ≠ [] := fun e => by
    have := congrArg List.length e
    rw [codes_cons, List.append_assoc, List.length_append, List.length_nil] at this
    omega
  have hd := (oneL_head c (codes u ++ R)).1
  rw [← List.append_assoc, ← codes_cons] at hd
  have hs : spanL (codes (c :: u) ++ R) = (codes (c :: u)).length := by
    have := span_codes hR (c :: u) [] _ (Nat.le_refl _)
    rw [List.nil_append, List.length_nil, Nat.zero_add] at this
    exact this
  rw [sayF_step hne hf, if_neg hd, hs, if_neg (by rw [List.length_append]; omega), List.take_left, txt_of ht, List.drop_left]

theorem say_abb {ab : List (List UInt8)} {x : Int} {R : List Int} {f : Nat} {acc : List UInt8} (h : x < ab.length) (hf : R.length + 2 ≤ f) :
    sayF ab f acc ([30, x] ++ R) = sayF ab (f - 1) (acc ++ ab.getD x.toNat []) R := by
  rw [sayF_step (by simp) (by simp only [List.length_append, List.length_cons, List.length_nil]; omega)]
  show (if (30 : Int) = 30 then if R.length + 1 + 1 < 2 then ([], 16) else if (ab.length : Int) ≤ x then ([], 11) else sayF ab (f - 1) (acc ++ ab.getD x.toNat []) R else _) = _
  rw [if_pos rfl, if_neg (by omega), if_neg (by omega)]

theorem pcodes_cons (p : List UInt8 × Int) (r : List (List UInt8 × Int)) : pcodes (p :: r) = pcode p ++ pcodes r := rfl

/-- the codes of pieces say what the pieces stand for -/
theorem say_pieces {ab : List (List UInt8)} : ∀ (ps : List (List UInt8 × Int)) (t : List UInt8), (∀ p ∈ ps, pOk ab p) → textB (t ++ ps.flatMap (ptext ab)) = true → ∀ (f : Nat) (acc : List UInt8), (codes t ++ pcodes ps).length ≤ f →
    sayF ab f acc (codes t ++ pcodes ps) = (acc ++ t ++ ps.flatMap (ptext ab), 0) := by
  intro ps
  induction ps with
  | nil =>
    intro t _ ht f acc hf
    have e : pcodes [] = [] := rfl
    rw [e] at hf ⊢
    have ht' := (textB_pre ht).1
    by_cases hn : t = []
    · subst hn
      rw [codes_nil, List.nil_append, sayF_end]
      simp
    · rw [say_lit ht' hn (.inl rfl) hf, sayF_end]
      simp
  | cons p r ih =>
    intro t ho ht f acc hf
    obtain ⟨h1, h2, h3⟩ := ho p (by simp)
    have ho' : ∀ q ∈ r, pOk ab q := fun q hq => ho q (by simp [hq])
    rw [List.flatMap_cons, ← List.append_assoc] at ht
    by_cases hp : 0 < p.2
    · have ep : pcode p = [30, p.2 - 1] := by unfold pcode; rw [if_pos hp]
      have et : ptext ab p = ab.getD (p.2 - 1).toNat [] := by unfold ptext; rw [if_pos hp]
      rw [pcodes_cons, ep] at hf ⊢
      rw [et] at ht
      have hr := (textB_pre ht).2
      have htt := (textB_pre (textB_pre ht).1).1
      have key : ∀ (g : Nat) (a : List UInt8), (pcodes r).length + 2 ≤ g → sayF ab g a ([30, p.2 - 1] ++ pcodes r) = (a ++ (p :: r).flatMap (ptext ab), 0) := by
        intro g a hg
        rw [say_abb (by omega) hg]
        have := ih [] ho' hr (g - 1) (a ++ ab.getD (p.2 - 1).toNat []) (by rw [codes_nil, List.nil_append]; omega)
        rw [codes_nil, List.nil_append] at this
        rw [this, List.flatMap_cons, et]
        simp
      by_cases hn : t = []
      · subst hn
        rw [codes_nil, List.nil_append] at hf ⊢
        rw [key f acc (by simp only [List.length_append, List.length_cons, List.length_nil] at hf; omega)]
        simp
      · have hcl := (codes_len t).1
        have hpos : 0 < t.length := List.length_pos_iff.mpr hn
        rw [say_lit htt hn (.inr rfl) hf, key (f - 1) (acc ++ t) (by simp only [List.length_append, List.length_cons, List.length_nil] at hf; omega)]
    · have et : ptext ab p = p.1 := by unfold ptext; rw [if_neg hp]
      rw [et] at ht
      have hpt := (textB_pre (textB_pre ht).1).2
      have ep : pcode p = codes p.1 := by unfold pcode cdZ; rw [if_neg hp, if_pos hpt]
      rw [pcodes_cons, ep, ← List.append_assoc, ← codes_append] at hf ⊢
      rw [ih (t ++ p.1) ho' ht f acc hf, List.flatMap_cons, et]
      simp

theorem cut_spec (ab : List (List UInt8)) (s : List UInt8) : (cutL ab s).flatMap (ptext ab) = s ∧ ∀ p ∈ cutL ab s, pOk ab p := by
  obtain ⟨h1, _, h3⟩ := steps_spec ab s.length s (Nat.le_refl _)
  obtain ⟨k1, _, k3⟩ := fold_spec ab (stepsF ab s.length s) [] (fun p hp => by simp at hp) h3
  exact ⟨by unfold cutL; rw [k1, h1]; rfl, k3⟩

/-- the codes of a text, cut -/
def ccodes (ab : List (List UInt8)) (s : List UInt8) : List Int := pcodes (cutL ab s)

theorem ccodes_say {ab : List (List UInt8)} {s : List UInt8} (h : textB s = true) : sayL ab (ccodes ab s) = (s, 0) := by
  obtain ⟨h1, h2⟩ := cut_spec ab s
  have := say_pieces (cutL ab s) [] h2 (by rw [List.nil_append, h1]; exact h) (ccodes ab s).length [] (by rw [codes_nil, List.nil_append]; exact Nat.le_refl _)
  rw [codes_nil, List.nil_append, h1] at this
  exact this

theorem mem_infix {ab : List (List UInt8)} {ps : List (List UInt8 × Int)} {p : List UInt8 × Int} (h : textB (ps.flatMap (ptext ab)) = true) (hp : p ∈ ps) : textB (ptext ab p) = true := by
  obtain ⟨a, b, rfl⟩ := List.append_of_mem hp
  rw [List.flatMap_append, List.flatMap_cons] at h
  exact (textB_pre (textB_pre h).2).1

/-- a text's codes: as many as its cut costs, and none is the end code -/
theorem ccodes_len {ab : List (List UInt8)} {s : List UInt8} (h : textB s = true) : (ccodes ab s).length = least ab s := by
  obtain ⟨h1, h2⟩ := cut_spec ab s
  rw [← cut_cost]
  unfold ccodes
  have : ∀ ps : List (List UInt8 × Int), (∀ p ∈ ps, textB (ptext ab p) = true) → (pcodes ps).length = pcost ps := by
    intro ps
    induction ps with
    | nil => intro _; rfl
    | cons p r ih =>
      intro hh
      rw [pcodes_cons, List.length_append, ih (fun q hq => hh q (by simp [hq]))]
      have h0 := hh p (by simp)
      have e : pcost (p :: r) = pcost [p] + pcost r := pcost_append [p] r
      rw [e]
      congr 1
      by_cases hp : 0 < p.2
      · unfold pcode pcost
        simp [hp]
      · have et : ptext ab p = p.1 := by unfold ptext; rw [if_neg hp]
        rw [et] at h0
        unfold pcode pcost cdZ
        rw [if_neg hp, if_pos h0]
        simp [hp, costL_text (textB_all h0)]
  exact this _ fun p hp => mem_infix (by rw [h1]; exact h) hp

theorem ccodes_le {ab : List (List UInt8)} {s : List UInt8} (h : textB s = true) : (ccodes ab s).length ≤ 3 * s.length := by
  rw [ccodes_len h]
  have := least_le_cost ab s
  have := costL_le s
  omega

theorem ccodes_range {ab : List (List UInt8)} (hab : ab.length ≤ 31) (s : List UInt8) : ∀ z ∈ ccodes ab s, 0 ≤ z ∧ z ≤ 30 := by
  obtain ⟨_, h2⟩ := cut_spec ab s
  intro z hz
  unfold ccodes pcodes at hz
  obtain ⟨p, hp, hz⟩ := List.mem_flatMap.mp hz
  obtain ⟨k1, k2, k3⟩ := h2 p hp
  unfold pcode cdZ at hz
  split at hz
  · simp only [List.mem_cons, List.not_mem_nil, or_false] at hz
    omega
  · split at hz
    · exact codes_range _ z hz
    · exact absurd hz List.not_mem_nil

theorem packL_len (l : List Int) : (packL l).length = (5 * (l.length + 1) + 7) / 8 := by
  have h := congrArg List.length (unb_packL l)
  rw [unb_len, List.length_append, pad_len, raw_len] at h
  omega

/-- a text's bytes; the bytes of texts; where each of them begins -/
def bitsOf (ab : List (List UInt8)) (s : List UInt8) : List UInt8 := packL (ccodes ab s)
def bitsP (ab : List (List UInt8)) (ls : List (List UInt8)) : List UInt8 := ls.flatMap (bitsOf ab)
def offP (ab : List (List UInt8)) (ls : List (List UInt8)) (j : Nat) : Nat := (bitsP ab (ls.take j)).length
def offs (ab : List (List UInt8)) (ls : List (List UInt8)) : List Int := (List.range ls.length).map fun j => (offP ab ls j : Int)

theorem bitsP_append (ab : List (List UInt8)) (a b : List (List UInt8)) : bitsP ab (a ++ b) = bitsP ab a ++ bitsP ab b := by unfold bitsP; rw [List.flatMap_append]

theorem offs_len (ab : List (List UInt8)) (ls : List (List UInt8)) : (offs ab ls).length = ls.length := by unfold offs; rw [List.length_map, List.length_range]

theorem offs_getD (ab : List (List UInt8)) (ls : List (List UInt8)) {j : Nat} (h : j < ls.length) : (offs ab ls).getD j 0 = offP ab ls j := by
  unfold offs
  simp [List.getD, h]

theorem take_oneP {ls : List (List UInt8)} {j : Nat} (h : j < ls.length) : ls.take (j + 1) = ls.take j ++ [ls[j]?.getD []] := by
  rw [List.take_succ_eq_append_getElem h, List.getElem?_eq_getElem h]
  rfl

theorem bitsP_take {ab ls : List (List UInt8)} {j : Nat} (h : j < ls.length) : bitsP ab (ls.take (j + 1)) = bitsP ab (ls.take j) ++ bitsOf ab (ls[j]?.getD []) := by
  rw [take_oneP h, bitsP_append]
  unfold bitsP
  rw [List.flatMap_cons, List.flatMap_nil, List.append_nil]

theorem offP_succ {ab ls : List (List UInt8)} {j : Nat} (h : j < ls.length) : offP ab ls (j + 1) = offP ab ls j + (bitsOf ab (ls[j]?.getD [])).length := by
  unfold offP
  rw [bitsP_take h, List.length_append]

theorem offP_all (ab ls : List (List UInt8)) : offP ab ls ls.length = (bitsP ab ls).length := by unfold offP; rw [List.take_length]

theorem offs_take {ab ls : List (List UInt8)} {j : Nat} (h : j < ls.length) : offs ab (ls.take (j + 1)) = offs ab (ls.take j) ++ [(offP ab ls j : Int)] := by
  have hl : ∀ k, k ≤ ls.length → (ls.take k).length = k := fun k hk => by rw [List.length_take]; omega
  have hm : ∀ k, k ≤ ls.length → ∀ i, i ≤ k → offP ab (ls.take k) i = offP ab ls i := fun k hk i hi => by
    unfold offP
    rw [List.take_take, Nat.min_eq_left hi]
  unfold offs
  rw [hl _ (by omega), hl _ (by omega), List.range_succ, List.map_append, List.map_cons, List.map_nil, hm (j + 1) (by omega) j (by omega)]
  congr 1
  refine List.map_congr_left fun i hi => ?_
  rw [List.mem_range] at hi
  rw [hm _ (by omega) i (by omega), hm _ (by omega) i (by omega)]

theorem bitsP_split {ab ls : List (List UInt8)} {j : Nat} (h : j < ls.length) : ((bitsP ab ls).drop (offP ab ls j)).take (offP ab ls (j + 1) - offP ab ls j) = bitsOf ab (ls[j]?.getD []) := by
  have e : bitsP ab ls = bitsP ab (ls.take j) ++ (bitsOf ab (ls[j]?.getD []) ++ bitsP ab (ls.drop (j + 1))) := by
    rw [← List.append_assoc, ← bitsP_take h, ← bitsP_append, List.take_append_drop]
  rw [offP_succ h, Nat.add_sub_cancel_left]
  unfold offP
  rw [e, List.drop_left, List.take_left]

theorem bitsOf_len {ab : List (List UInt8)} {s : List UInt8} (h : textB s = true) : (bitsOf ab s).length ≤ 3 * s.length + 2 := by
  unfold bitsOf
  rw [packL_len]
  have := ccodes_le (ab := ab) h
  omega

theorem bitsP_len {ab : List (List UInt8)} : ∀ {ls : List (List UInt8)}, (∀ s ∈ ls, textB s = true) → (bitsP ab ls).length ≤ 3 * tot ls + 2 * ls.length := by
  intro ls
  induction ls with
  | nil => intro _; exact Nat.zero_le _
  | cons s ls ih =>
    intro h
    have h1 := bitsOf_len (ab := ab) (h s (by simp))
    have h2 := ih (fun x hx => h x (by simp [hx]))
    have e : bitsP ab (s :: ls) = bitsOf ab s ++ bitsP ab ls := rfl
    rw [e, List.length_append, tot_cons, List.length_cons]
    omega

/-- a text that grows, until it is too long -/
def extT (T s : List UInt8) : List UInt8 := if 1024 < T.length then T else T ++ s
def Appr (T acc : List UInt8) : Prop := T = acc ∨ (1024 < T.length ∧ 1024 < acc.length)

theorem Appr.ext {T acc : List UInt8} (h : Appr T acc) (s : List UInt8) : Appr (extT T s) (acc ++ s) := by
  unfold extT
  rcases h with rfl | ⟨h1, h2⟩
  · split
    · exact .inr ⟨by assumption, by rw [List.length_append]; omega⟩
    · exact .inl rfl
  · rw [if_pos h1]
    exact .inr ⟨h1, by rw [List.length_append]; omega⟩

theorem Appr.text {T acc : List UInt8} (h : Appr T acc) : textB T = textB acc ∧ (textB acc = true → T = acc) := by
  rcases h with rfl | ⟨h1, h2⟩
  · exact ⟨rfl, fun _ => rfl⟩
  · have e : ∀ l : List UInt8, 1024 < l.length → textB l = false := fun l hl => by
      unfold textB
      rw [decide_eq_false (by omega)]
      rfl
    rw [e _ h1, e _ h2]
    exact ⟨rfl, fun h => by cases h⟩

theorem extT_len (T s : List UInt8) : (extT T s).length ≤ max T.length (1024 + s.length) := by
  unfold extT
  split
  · omega
  · rw [List.length_append]
    omega

theorem textB_cases {l : List UInt8} (h : textB l = true) : l.length ≤ 1024 := by
  unfold textB at h
  rw [Bool.and_eq_true, decide_eq_true_eq] at h
  exact h.1

/-- up to 'a' the codes are read; those from 'L' on are behind the last abbreviation -/
structure Dec (ab : List (List UInt8)) (zs : List Int) (acc : List UInt8) (L a : Nat) : Prop where
  la : L ≤ a
  an : a ≤ zs.length
  say : ∃ f, (zs.drop L).length ≤ f ∧ sayL ab zs = sayF ab f acc (zs.drop L)
  span : ∃ g, zs.length - a ≤ g ∧ spanL (zs.drop L) = spanF g (a - L) (zs.drop L)
  lit : L < a → zs.getD L 0 ≠ 30

theorem Dec.at {ab : List (List UInt8)} {zs : List Int} {acc : List UInt8} {L : Nat} (hL : L ≤ zs.length) (h : ∃ f, (zs.drop L).length ≤ f ∧ sayL ab zs = sayF ab f acc (zs.drop L)) : Dec ab zs acc L L :=
  ⟨Nat.le_refl _, hL, h, ⟨(zs.drop L).length, by rw [List.length_drop]; omega, by rw [Nat.sub_self]; rfl⟩, fun h => absurd h (by omega)⟩

theorem Dec.start (ab : List (List UInt8)) (zs : List Int) : Dec ab zs [] 0 0 := Dec.at (Nat.zero_le _) ⟨zs.length, by simp, rfl⟩

theorem drop_getD (zs : List Int) (L a : Nat) (h : L ≤ a) : (zs.drop L).getD (a - L) 0 = zs.getD a 0 := by
  rw [getD_drop, show L + (a - L) = a from by omega]

section
variable {ab : List (List UInt8)} {zs : List Int} {acc : List UInt8} {L a : Nat}

theorem Dec.next (h : Dec ab zs acc L a) (ha : a < zs.length) (hc : zs.getD a 0 ≠ 30) (hw : a + wideI (zs.getD a 0) ≤ zs.length) : Dec ab zs acc L (a + wideI (zs.getD a 0)) := by
  obtain ⟨la, an, say, ⟨g, hg, hs⟩, lit⟩ := h
  have hwp := wide_pos (zs.getD a 0)
  refine ⟨by omega, hw, say, ⟨g - 1, by omega, ?_⟩, fun _ => ?_⟩
  · rw [hs, spanF_go (by rw [List.length_drop]; omega) (by rw [drop_getD zs L a la]; exact hc) (by rw [List.length_drop]; omega), drop_getD zs L a la]
    congr 1
    omega
  · by_cases e : L < a
    · exact lit e
    · have : L = a := by omega
      rw [this]
      exact hc

theorem Dec.pos (h : Dec ab zs acc L a) (ha : a < zs.length) : zs.drop L ≠ [] := fun e => by
  have h1 := congrArg List.length e
  have h2 := h.la
  rw [List.length_drop, List.length_nil] at h1
  omega

/-- the codes behind the last abbreviation end here -/
theorem Dec.cut (h : Dec ab zs acc L a) (hc : ¬ (a < zs.length ∧ zs.getD a 0 ≠ 30)) (hl : L < a) : ∃ f, zs.length - L ≤ f ∧ sayL ab zs = match txt ((zs.drop L).take (a - L)) with
    | none => ([], 16)
    | some t => sayF ab (f - 1) (acc ++ t) (zs.drop a) := by
  obtain ⟨la, an, ⟨f, hf, say⟩, ⟨g, hg, hs⟩, lit⟩ := h
  have hn : zs.drop L ≠ [] := fun e => by
    have h1 := congrArg List.length e
    rw [List.length_drop, List.length_nil] at h1
    omega
  have hsp : spanL (zs.drop L) = a - L := by
    rw [hs, spanF_stop]
    rintro ⟨h1, h2⟩
    rw [List.length_drop] at h1
    rw [drop_getD zs L a la] at h2
    exact hc ⟨by omega, h2⟩
  refine ⟨f, by rw [List.length_drop] at hf; exact hf, ?_⟩
  have h0 : (zs.drop L).getD 0 0 = zs.getD L 0 := by
    have := drop_getD zs L L (Nat.le_refl _)
    rw [Nat.sub_self] at this
    exact this
  rw [say, sayF_step hn hf, if_neg (by rw [h0]; exact lit hl), hsp, if_neg (by rw [List.length_drop]; omega), List.drop_drop, show L + (a - L) = a from by omega]
  first | done | (cases txt ((zs.drop L).take (a - L)) <;> rfl)

theorem txt_nil : txt [] = some [] := txt_of textB_nil

/-- whatever stands behind the last abbreviation, up to here -/
theorem Dec.run (h : Dec ab zs acc L a) (hc : ¬ (a < zs.length ∧ zs.getD a 0 ≠ 30)) : ∃ f, zs.length - a ≤ f ∧ sayL ab zs = match txt ((zs.drop L).take (a - L)) with
    | none => ([], 16)
    | some t => sayF ab f (acc ++ t) (zs.drop a) := by
  by_cases hl : L < a
  · obtain ⟨f, hf, e⟩ := h.cut hc hl
    exact ⟨f - 1, by omega, e⟩
  · obtain ⟨f, hf, e⟩ := h.say
    have hla := h.la
    have : L = a := by omega
    subst this
    refine ⟨f, by rw [List.length_drop] at hf; exact hf, ?_⟩
    rw [Nat.sub_self, List.take_zero, txt_nil, e]
    show _ = sayF ab f (acc ++ []) (zs.drop L)
    rw [List.append_nil]

theorem getD_first (zs : List Int) (a : Nat) : (zs.drop a).getD 0 0 = zs.getD a 0 := by rw [getD_drop, Nat.add_zero]

theorem Dec.none (h : Dec ab zs acc L a) (hc : ¬ (a < zs.length ∧ zs.getD a 0 ≠ 30)) (ht : txt ((zs.drop L).take (a - L)) = none) : sayL ab zs = ([], 16) := by
  obtain ⟨f, _, e⟩ := h.run hc
  rw [e, ht]

theorem Dec.missing (h : Dec ab zs acc L a) (ha : a < zs.length) (hw : zs.length < a + wideI (zs.getD a 0)) : sayL ab zs = ([], 16) := by
  by_cases hc : zs.getD a 0 = 30
  · have hw2 : wideI (zs.getD a 0) = 2 := by rw [hc]; rfl
    obtain ⟨f, hf, e⟩ := h.run (by rintro ⟨_, h2⟩; exact h2 hc)
    cases ht : txt ((zs.drop L).take (a - L)) with
    | none => rw [e, ht]
    | some t =>
      rw [e, ht]
      show sayF ab f (acc ++ t) (zs.drop a) = _
      rw [sayF_step (fun e => by have := congrArg List.length e; rw [List.length_drop, List.length_nil] at this; omega) (by rw [List.length_drop]; exact hf), if_pos (by rw [getD_first]; exact hc), if_pos (by rw [List.length_drop]; omega)]
  · obtain ⟨la, an, ⟨f, hf, say⟩, ⟨g, hg, hs⟩, lit⟩ := h
    have hn : zs.drop L ≠ [] := fun e => by
      have h1 := congrArg List.length e
      rw [List.length_drop, List.length_nil] at h1
      omega
    have h0 : zs.getD L 0 ≠ 30 := by
      by_cases e : L < a
      · exact lit e
      · have : L = a := by omega
        rw [this]
        exact hc
    have hsp : spanL (zs.drop L) = a - L + wideI (zs.getD a 0) := by
      rw [hs, spanF_go (by rw [List.length_drop]; omega) (by rw [drop_getD zs L a la]; exact hc) (by rw [List.length_drop]; omega), drop_getD zs L a la, spanF_stop]
      rintro ⟨h1, _⟩
      rw [List.length_drop] at h1
      omega
    rw [say, sayF_step hn hf, if_neg (by rw [getD_first]; exact h0), hsp, if_pos (by rw [List.length_drop]; omega)]

theorem Dec.abbr {t : List UInt8} (h : Dec ab zs acc L a) (hc : zs.getD a 0 = 30) (ha : a + 2 ≤ zs.length) (ht : txt ((zs.drop L).take (a - L)) = some t) :
    ((ab.length : Int) ≤ zs.getD (a + 1) 0 → sayL ab zs = ([], 11)) ∧ (zs.getD (a + 1) 0 < ab.length → Dec ab zs (acc ++ t ++ ab.getD (zs.getD (a + 1) 0).toNat []) (a + 2) (a + 2)) := by
  obtain ⟨f, hf, e⟩ := h.run (by rintro ⟨_, h2⟩; exact h2 hc)
  rw [ht] at e
  have e2 : sayL ab zs = sayF ab f (acc ++ t) (zs.drop a) := e
  rw [sayF_step (fun e => by have := congrArg List.length e; rw [List.length_drop, List.length_nil] at this; omega) (by rw [List.length_drop]; exact hf), if_pos (by rw [getD_first]; exact hc), if_neg (by rw [List.length_drop]; omega), getD_drop] at e2
  refine ⟨fun hx => by rw [e2, if_pos hx], fun hx => Dec.at ha ⟨f - 1, by rw [List.length_drop]; omega, ?_⟩⟩
  rw [e2, if_neg (by omega), List.drop_drop]

theorem Dec.done {t : List UInt8} (h : Dec ab zs acc L zs.length) (ht : txt (zs.drop L) = some t) : sayL ab zs = (acc ++ t, 0) := by
  obtain ⟨f, hf, e⟩ := h.run (by rintro ⟨h1, _⟩; omega)
  rw [List.take_of_length_le (by rw [List.length_drop]; omega), ht, List.drop_length] at e
  rw [e]
  exact sayF_end

theorem Dec.bad (h : Dec ab zs acc L zs.length) (ht : txt (zs.drop L) = Option.none) : sayL ab zs = ([], 16) :=
  h.none (by rintro ⟨h1, _⟩; omega) (by rw [List.take_of_length_le (by rw [List.length_drop]; omega)]; exact ht)

end

end Go.Proofs.YtpfkkmjodhpkoaaDoor
