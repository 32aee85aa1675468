/- A census of substrings in memory: a map of texts to candidates' blocks; contracts of its functions and of Choose. -/
import Derived.Test.YtpfkkmjodhpkoaaDoorAbbP
import Derived.Test.YtpfkkmjodhpkoaaDoorAbbK
import Derived.Maps.RangeWalk
import Derived.Maps.OwnSet
import Derived.Deep.QuietTactic
import Derived.BigQuiet
import Derived.Test.YtpfkkmjodhpkoaaDoorAbbC
import Derived.Test.YtpfkkmjodhpkoaaDoorAlpF
import Derived.Test.YtpfkkmjodhpkoaaDoorAbbR
import Derived.Test.YtpfkkmjodhpkoaaDoorCtn
namespace Go.Proofs.YtpfkkmjodhpkoaaDoor
open Go.RowKit
set_option linter.unusedVariables false

/-- how a pointer in a map reads: by its block's number -/
def ptrEl : Value → Option (DataW Unit × List MemPlace)
  | .pointer none => some (.nil, [])
  | .pointer (some ⟨g, 0, none⟩) => some (.lit (.int .i64 (g : Int)), [])
  | _ => none

theorem ptrEl_ptr {v : Value} {y : DataW Unit × List MemPlace} (h : ptrEl v = some y) : ∃ a, v = .pointer a := by
  unfold ptrEl at h
  split at h
  · exact ⟨_, rfl⟩
  · exact ⟨_, rfl⟩
  · cases h

theorem ptrEl_nil {v : Value} {ps : List MemPlace} (h : ptrEl v = some (.nil, ps)) : v = .pointer none := by
  unfold ptrEl at h
  split at h
  · rfl
  · simp at h
  · cases h

theorem ptrEl_at {v : Value} {g : Nat} {ps : List MemPlace} (h : ptrEl v = some (.lit (.int .i64 (g : Int)), ps)) : v = .pointer (some ⟨g, 0, none⟩) := by
  unfold ptrEl at h
  split at h
  · simp at h
  · simp at h
    obtain ⟨h, _⟩ := h
    have : _ = g := Int.ofNat.inj h
    rw [this]
  · cases h

/-- what a census' map holds at a key -/
def elOf (o : Option Nat) (zd : DataW Unit) : DataW Unit := match o with | some g => .lit (.int .i64 (g : Int)) | none => zd

/-- block b is a map of texts to candidates' blocks -/
def CM (w : World) (b n : Nat) (F : List UInt8 → Option Nat) : Prop :=
  ∃ D : DataW Unit, w.ownsMap Tryd.prog 9 ptrEl b n D ∧ ∀ (x : List UInt8) (zd : DataW Unit), D.atKey (.string x) zd = elOf (F x) zd

theorem Tryd.keyedS : Go.Maps.Keyed Tryd.prog 9 := Go.Maps.string_keyed Tryd.underlying9

theorem key_str {s : ByteArray} (hs : s.size ≤ maxLen) : keyOf Tryd.prog 9 (.string s) = some (.string s.data.toList) := Go.WideMaps.keyOf_string_mk Tryd.underlying9 hs

theorem key_str_inv {v : Value} {kl : Lit} (h : keyOf Tryd.prog 9 v = some kl) : ∃ s : ByteArray, v = .string s ∧ kl = .string s.data.toList := by
  rw [keyOf_string Tryd.underlying9] at h
  cases v <;> simp [mapKey, Tryd.underlying9] at h
  obtain ⟨_, rfl⟩ := h
  exact ⟨_, rfl, rfl⟩

theorem CM.lt {w : World} {b n : Nat} {F : List UInt8 → Option Nat} (h : CM w b n F) : b < w.heap.size := by obtain ⟨D, h, _⟩ := h; exact h.lt
theorem CM.isMap {w : World} {b n : Nat} {F : List UInt8 → Option Nat} (h : CM w b n F) : ∃ es c, w.heap[b]? = some (.map es c) := by obtain ⟨D, ⟨es, c, h, _⟩, _⟩ := h; exact ⟨es, c, h⟩
theorem CM.kept {w w' : World} {b n : Nat} {F : List UInt8 → Option Nat} {row : Option Nat} (h : CM w b n F) (hg : w.grownBy w' row) (hne : some b ≠ row) : CM w' b n F := by
  obtain ⟨D, h, hd⟩ := h
  exact ⟨D, h.kept hg hne, hd⟩
theorem CM.mono {w : World} {b n n' : Nat} {F : List UInt8 → Option Nat} (h : CM w b n F) (hn : n ≤ n') : CM w b n' F := by
  obtain ⟨D, h, hd⟩ := h
  exact ⟨D, h.mono hn, hd⟩
theorem CM.congr {w : World} {b n : Nat} {F F' : List UInt8 → Option Nat} (h : CM w b n F) (e : ∀ x, F x = F' x) : CM w b n F' := by
  obtain ⟨D, h, hd⟩ := h
  exact ⟨D, h, fun x zd => by rw [hd, e]⟩
theorem CM.made (w : World) : CM (w.alloc (.map #[] 0)) w.heap.size 0 fun _ => none := ⟨.map [], World.ownsMap_made w _ _ _, fun x zd => rfl⟩

theorem CM.lookup {w : World} {b n : Nat} {F : List UInt8 → Option Nat} (h : CM w b n F) (s : ByteArray) (hs : s.size ≤ maxLen) :
    (Instr.lookup 70 (.map (some b)) (.string s) false).run Tryd.prog w = .ok (.pointer ((F s.data.toList).map fun g => ⟨g, 0, none⟩)) w := by
  obtain ⟨D, ho, hat⟩ := h
  obtain ⟨v, ps, hrun, hv⟩ := ho.lookup Tryd.keyedS Tryd.underlying70 (z := .pointer none) (Tryd.zeroValue74 w) (zd := .nil) (zp := []) rfl (key_str hs)
  rw [hat] at hv
  cases hF : F s.data.toList with
  | none => rw [hF] at hv; rw [hrun, ptrEl_nil hv]; rfl
  | some g => rw [hF] at hv; rw [hrun, ptrEl_at hv]; rfl

/-- a key more -/
def putF (F : List UInt8 → Option Nat) (k : List UInt8) (g : Nat) : List UInt8 → Option Nat := fun x => if x = k then some g else F x

theorem CM.update {w : World} {b n : Nat} {F : List UInt8 → Option Nat} (h : CM w b n F) (hn : n < maxLen) (s : ByteArray) (hs : s.size ≤ maxLen) (g : Nat) :
    ∃ w', (Instr.mapUpdate 70 (.map (some b)) (.string s) (.pointer (some ⟨g, 0, none⟩))).run Tryd.prog w = .ok () w' ∧ CM w' b (n + 1) (putF F s.data.toList g) ∧ w.grownBy w' (some b) := by
  obtain ⟨D, ho, hat⟩ := h
  obtain ⟨w', hrun, ho', hg⟩ := ho.update Tryd.keyedS Tryd.underlying70 hn (val := .pointer (some ⟨g, 0, none⟩)) (d := .lit (.int .i64 (g : Int))) (ps := []) (key_str hs) rfl
  refine ⟨w', hrun, ⟨_, ho', fun x zd => ?_⟩, hg⟩
  unfold putF
  by_cases e : x = s.data.toList
  · subst e
    rw [if_pos rfl, Go.Maps.atKey_put_same ho.isMap (k := .string s.data.toList) (by simp [WideAt.IsKeyLit])]
    rfl
  · rw [if_neg e, Go.Maps.atKey_put_other (fun e' => e (by injection e')), hat]

/-- 'm[k] = v' at the operation -/
theorem wpList_putC {w : World} {ops : Array Oper} {rest : List Oper} {o : Oper} {a : Act} {Q : Exit → Act → World → Prop} (hg : o.guard = none) (m x v : Operand) (hop : o.op = Op.mapUpdate 70 m x v)
    (b n : Nat) (F : List UInt8 → Option Nat) (hm : a.eval m = .map (some b)) (h : CM w b n F) (hn : n < maxLen) (s : ByteArray) (hs : s.size ≤ maxLen) (g : Nat) (hx : a.eval x = .string s) (hv : a.eval v = .pointer (some ⟨g, 0, none⟩))
    (hK : ∀ w', CM w' b (n + 1) (putF F s.data.toList g) → w.grownBy w' (some b) → wpList Tryd.prog ops Q rest (a.put o.dst undef) w') : wpList Tryd.prog ops Q (o :: rest) a w := by
  refine wpList_plain hg fun K' hK' => ?_
  obtain ⟨w', hrun, r1, r2⟩ := h.update hn s hs g
  unfold Oper.wp
  simp [execOp, hop, hm, hx, hv, hrun, Result.andThen]
  exact hK' _ _ (hK w' r1 r2)

/-- a range over such a map, under way: 'left': what is still to come -/
def CR (w : World) (b r n : Nat) (F : List UInt8 → Option Nat) (left : List UInt8 → Bool) (cnt : Nat) : Prop :=
  ∃ (D : DataW Unit) (lf : Lit → Bool), w.ranges Tryd.prog 9 ptrEl b r n D lf cnt ∧ (∀ (x : List UInt8) (zd : DataW Unit), D.atKey (.string x) zd = elOf (F x) zd) ∧ ∀ x, left x = lf (.string x)

theorem CR.cm {w : World} {b r n : Nat} {F : List UInt8 → Option Nat} {left : List UInt8 → Bool} {cnt : Nat} (h : CR w b r n F left cnt) : CM w b n F := by obtain ⟨D, lf, h, hd, _⟩ := h; exact ⟨D, h.owns, hd⟩
theorem CR.left_eq {w : World} {b r n : Nat} {F : List UInt8 → Option Nat} {left : List UInt8 → Bool} {cnt : Nat} (h : CR w b r n F left cnt) : w.rangeLeft b r = cnt := by obtain ⟨D, lf, h, _⟩ := h; exact h.left_eq
theorem CR.kept {w w' : World} {b r n : Nat} {F : List UInt8 → Option Nat} {left : List UInt8 → Bool} {cnt : Nat} {row : Option Nat} (h : CR w b r n F left cnt) (hg : w.grownBy w' row) (h1 : some b ≠ row) (h2 : some r ≠ row) : CR w' b r n F left cnt := by
  obtain ⟨D, lf, h, hd⟩ := h
  exact ⟨D, lf, h.kept hg h1 h2, hd⟩
theorem CR.isIter {w : World} {b r n : Nat} {F : List UInt8 → Option Nat} {left : List UInt8 → Bool} {cnt : Nat} (h : CR w b r n F left cnt) : ∃ m s seen c, w.heap[r]? = some (.mapIter m s seen c) := by
  obtain ⟨D, lf, ⟨es, clock, since, seen, c0, _, _, _, _, hr, _⟩, _⟩ := h
  exact ⟨_, _, _, _, hr⟩

theorem wpList_rangeC {w : World} {ops : Array Oper} {rest : List Oper} {o : Oper} {a : Act} {Q : Exit → Act → World → Prop} (hg : o.guard = none) (m : Operand) (hop : o.op = Op.range 70 m)
    (b n : Nat) (F : List UInt8 → Option Nat) (hm : a.eval m = .map (some b)) (h : CM w b n F)
    (hK : ∀ w' cnt, CR w' b w.heap.size n F (fun x => (F x).isSome) cnt → w.grownBy w' none → w'.heap.size = w.heap.size + 1 → wpList Tryd.prog ops Q rest (a.put o.dst (.pointer (some ⟨w.heap.size, 0, none⟩))) w') : wpList Tryd.prog ops Q (o :: rest) a w := by
  obtain ⟨D, ho, hat⟩ := h
  refine wpList_range_own w hg m _ hop _ _ Tryd.keyedS Tryd.underlying70 ptrEl b n D hm ho fun w' h1 h2 h3 => ?_
  refine hK w' _ ⟨D, _, h1, hat, fun x => ?_⟩ h2 h3
  show (F x).isSome = _
  cases hF : F x with
  | none => exact (Go.Maps.has_false_of_atKey (fun z => by rw [hat, hF]; rfl)).symm
  | some g => exact (Go.Maps.has_true_of_atKey (fun z => by rw [hat, hF]; rfl)).symm

theorem wpList_nextC {w : World} {ops : Array Oper} {rest : List Oper} {o : Oper} {a : Act} {Q : Exit → Act → World → Prop} (hg : o.guard = none) (it : Operand) (hop : o.op = Op.next it false)
    (b r n : Nat) (F : List UInt8 → Option Nat) (left : List UInt8 → Bool) (cnt : Nat) (hit : a.eval it = .pointer (some ⟨r, 0, none⟩)) (h : CR w b r n F left cnt)
    (hDone : cnt = 0 → (∀ x, left x = false) → wpList Tryd.prog ops Q rest (a.put o.dst (.tuple #[.bool false])) w)
    (hMore : ∀ (s : ByteArray) (g : Nat) (w' : World) (cnt' : Nat), F s.data.toList = some g → left s.data.toList = true → CR w' b r n F (fun x => left x && !decide (x = s.data.toList)) cnt' → cnt' < cnt → w.grownBy w' (some r) → w'.heap.size = w.heap.size →
      (Instr.entry (.pointer (some ⟨r, 0, none⟩))).run Tryd.prog w' = .ok (.tuple #[.string s, .pointer (some ⟨g, 0, none⟩)]) w' → wpList Tryd.prog ops Q rest (a.put o.dst (.tuple #[.bool true, .string s, .pointer (some ⟨g, 0, none⟩)])) w') : wpList Tryd.prog ops Q (o :: rest) a w := by
  obtain ⟨D, lf, hr, hat, hlf⟩ := h
  refine wpList_next_ranges w hg it hop _ Tryd.keyedS ptrEl Value.string Value.pointer (fun key kl hk => by obtain ⟨s, e, _⟩ := key_str_inv hk; exact ⟨s, e⟩) (fun v y hv => ptrEl_ptr hv) b r n D lf cnt hit hr (fun h0 hl => hDone h0 fun x => by rw [hlf, hl]) ?_
  intro s c kl y w' cnt' hk hl hv hd hr' hc hgr hsz hen
  obtain ⟨s', e, rfl⟩ := key_str_inv hk
  obtain rfl : s = s' := by injection e
  obtain ⟨g, hF⟩ : ∃ g, F s.data.toList = some g := by
    cases hF : F s.data.toList with
    | some g => exact ⟨g, rfl⟩
    | none =>
      have e1 := hd .nil
      have e2 := hd (.lit (.bool true))
      rw [hat, hF] at e1 e2
      have e3 : (DataW.nil : DataW Unit) = .lit (.bool true) := e1.trans e2.symm
      cases e3
  have hv' : Value.pointer c = .pointer (some ⟨g, 0, none⟩) := by
    have e1 := hd .nil
    rw [hat, hF] at e1
    refine ptrEl_at (ps := y.2) ?_
    rw [hv]
    show some y = some (.lit (.int .i64 (g : Int)), y.2)
    rw [show (DataW.lit (.int .i64 (g : Int)) : DataW Unit) = y.1 from e1]
  obtain rfl : c = some ⟨g, 0, none⟩ := by injection hv'
  refine hMore s g w' cnt' hF (by rw [hlf]; exact hl) ⟨D, _, hr', hat, fun x => ?_⟩ hc hgr hsz hen
  show (left x && !decide (x = s.data.toList)) = _
  rw [hlf]
  by_cases e : x = s.data.toList
  · subst e
    rw [WideAt.sameKey_self (a := .string s.data.toList) (by simp [WideAt.IsKeyLit])]
    simp
  · rw [Go.Maps.sameKey_ne (a := .string x) (b := .string s.data.toList) (fun e' => e (by injection e'))]
    simp [e]

/-- below block lo, and where texts lie, all is as it was -/
structure Kp (lo : Nat) (w w' : World) : Prop where
  os : w'.os = w.os
  tape : w'.tape = w.tape
  output : w'.output = w.output
  size : w.heap.size ≤ w'.heap.size
  low : ∀ i, i < lo → w'.heap[i]? = w.heap[i]?
  str : ∀ (i : Nat) (cs : Array Value) (fr : Nat × Nat), w.heap[i]? = some (.cells cs 9 fr) → w'.heap[i]? = w.heap[i]?

theorem Kp.refl (lo : Nat) (w : World) : Kp lo w w := ⟨rfl, rfl, rfl, Nat.le_refl _, fun _ _ => rfl, fun _ _ _ _ => rfl⟩
theorem Kp.trans {lo : Nat} {a b c : World} (h : Kp lo a b) (k : Kp lo b c) : Kp lo a c :=
  ⟨k.os.trans h.os, k.tape.trans h.tape, k.output.trans h.output, Nat.le_trans h.size k.size, fun i hi => (k.low i hi).trans (h.low i hi),
    fun i cs fr e => (k.str i cs fr ((h.str i cs fr e).trans e)).trans (h.str i cs fr e)⟩
theorem Kp.below {lo : Nat} {w w' : World} (h : Kp lo w w') : Below lo w w' := ⟨h.os, h.tape, h.output, h.size, h.low⟩
theorem Kp.of_below {lo : Nat} {w w' : World} (h : Below w.heap.size w w') (hlo : lo ≤ w.heap.size) : Kp lo w w' :=
  ⟨h.os, h.tape, h.output, h.size, fun i hi => h.block i (by omega), fun i cs fr e => h.block i (Array.getElem?_eq_some_iff.1 e).1⟩
theorem Kp.grown {lo : Nat} {w w' : World} {row : Option Nat} (h : w.grownBy w' row) (hlo : lo ≤ w.heap.size) (h1 : ∀ j, row = some j → lo ≤ j) (h2 : ∀ (j : Nat) (cs : Array Value) (fr : Nat × Nat), row = some j → w.heap[j]? ≠ some (.cells cs 9 fr)) : Kp lo w w' :=
  ⟨h.os, h.tape, h.output, h.size, fun i hi => h.block i (by omega) (fun e => by have := h1 i e.symm; omega), fun i cs fr e => h.block i (Array.getElem?_eq_some_iff.1 e).1 (fun e2 => h2 i cs fr e2.symm e)⟩
theorem Kp.mono {lo lo' : Nat} {w w' : World} (h : Kp lo w w') (hl : lo' ≤ lo) : Kp lo' w w' := ⟨h.os, h.tape, h.output, h.size, fun i hi => h.low i (by omega), h.str⟩

/-- a candidate's block: its count, the part that had it last, where it ended there -/
def Cd (w : World) (g : Nat) (k : List UInt8) (s : Int × Int × Int) : Prop := Blk w g 79 #[.string (bs k), .int .i64 ((costL k : Nat) : Int), .int .i64 s.1, .int .i64 s.2.1, .int .i64 s.2.2]

theorem Cd.ne {w : World} {g : Nat} {k : List UInt8} {s : Int × Int × Int} (h : Cd w g k s) (cs : Array Value) (fr : Nat × Nat) : w.heap[g]? ≠ some (.cells cs 9 fr) := by
  unfold Cd Blk at h
  rw [h]
  intro e
  injection e with e
  injection e with _ e
  exact absurd e (by decide)
theorem Cd.lt {w : World} {g : Nat} {k : List UInt8} {s : Int × Int × Int} (h : Cd w g k s) : g < w.heap.size := Blk.lt h
theorem Cd.key {w : World} {g : Nat} {k k' : List UInt8} {s s' : Int × Int × Int} (h : Cd w g k s) (h' : Cd w g k' s') : k = k' := by
  have e : (Blk.cell h 0).symm.trans (Blk.cell h' 0) = (Blk.cell h 0).symm.trans (Blk.cell h' 0) := rfl
  have e2 := (Blk.cell h 0).symm.trans (Blk.cell h' 0)
  simp at e2
  have e3 := congrArg (fun b : ByteArray => b.data.toList) e2
  simp only [data_bs] at e3
  exact e3

/-- a census: a map of texts to candidates, each in a block of its own -/
structure Cen (w : World) (lo b n : Nat) (F : List UInt8 → Option Nat) (S : List UInt8 → Int × Int × Int) : Prop where
  map : CM w b n F
  lob : lo ≤ b
  los : lo ≤ w.heap.size
  cd : ∀ k g, F k = some g → lo ≤ g ∧ Cd w g k (S k)

section
variable {w w' : World} {lo b n : Nat} {F : List UInt8 → Option Nat} {S : List UInt8 → Int × Int × Int}

theorem Cen.mapne (h : Cen w lo b n F S) {j : Nat} {cs : Array Value} {t : TypeId} {fr : Nat × Nat} (e : w.heap[j]? = some (.cells cs t fr)) : b ≠ j := by
  obtain ⟨es, c, hm⟩ := h.map.isMap
  rintro rfl
  rw [hm] at e
  cases e

theorem Cen.kept {row : Option Nat} (h : Cen w lo b n F S) (hg : w.grownBy w' row) (hr : ∀ j, row = some j → ∃ cs fr, w.heap[j]? = some (.cells cs 9 fr)) : Cen w' lo b n F S :=
  ⟨h.map.kept hg (fun e => by obtain ⟨cs, fr, e2⟩ := hr b e.symm; exact h.mapne e2 rfl), h.lob, Nat.le_trans h.los hg.size, fun k g e => ⟨(h.cd k g e).1, (h.cd k g e).2.grown hg (fun e2 => by
    obtain ⟨cs, fr, e3⟩ := hr g e2.symm
    exact (h.cd k g e).2.ne cs fr e3)⟩⟩

theorem Cen.keptBelow (h : Cen w lo b n F S) (hb : Below w.heap.size w w') : Cen w' lo b n F S := h.kept (gb_below hb none) (fun j e => by cases e)

/-- another block is written: neither the map nor a candidate -/
theorem Cen.far {j : Nat} (h : Cen w lo b n F S) (hg : w.grownBy w' (some j)) (h1 : b ≠ j) (h2 : ∀ k g, F k = some g → g ≠ j) : Cen w' lo b n F S :=
  ⟨h.map.kept hg (some_ne h1), h.lob, Nat.le_trans h.los hg.size, fun k g e => ⟨(h.cd k g e).1, (h.cd k g e).2.grown hg (some_ne (h2 k g e))⟩⟩

theorem Cen.congr {S' : List UInt8 → Int × Int × Int} (h : Cen w lo b n F S) (e : ∀ k g, F k = some g → S k = S' k) : Cen w lo b n F S' :=
  ⟨h.map, h.lob, h.los, fun k g hk => ⟨(h.cd k g hk).1, by rw [← e k g hk]; exact (h.cd k g hk).2⟩⟩

/-- one candidate turned -/
def updS (S : List UInt8 → Int × Int × Int) (k : List UInt8) (s : Int × Int × Int) : List UInt8 → Int × Int × Int := fun x => if x = k then s else S x

theorem Cen.turn {k : List UInt8} {g : Nat} {s : Int × Int × Int} (h : Cen w lo b n F S) (hk : F k = some g) (hg : w.grownBy w' (some g)) (hc : Cd w' g k s) : Cen w' lo b n F (updS S k s) := by
  refine ⟨h.map.kept hg (some_ne (h.mapne (h.cd k g hk).2)), h.lob, Nat.le_trans h.los hg.size, fun k' g' e => ⟨(h.cd k' g' e).1, ?_⟩⟩
  unfold updS
  by_cases e2 : k' = k
  · subst e2
    obtain rfl : g' = g := by rw [hk] at e; injection e with e; exact e.symm
    rw [if_pos rfl]
    exact hc
  · rw [if_neg e2]
    refine (h.cd k' g' e).2.grown hg (some_ne fun e3 => e2 ?_)
    subst e3
    exact (h.cd k' g' e).2.key (h.cd k g' hk).2

/-- a key more -/
theorem Cen.put {k : List UInt8} {g n' : Nat} {s : Int × Int × Int} (h : Cen w lo b n F S) (hm : CM w' b n' (putF F k g)) (hg : w.grownBy w' (some b)) (hlo : lo ≤ g) (hc : Cd w g k s) : Cen w' lo b n' (putF F k g) (updS S k s) := by
  refine ⟨hm, h.lob, Nat.le_trans h.los hg.size, fun k' g' e => ?_⟩
  unfold putF at e
  unfold updS
  by_cases e2 : k' = k
  · subst e2
    rw [if_pos rfl] at e
    injection e with e
    subst e
    rw [if_pos rfl]
    exact ⟨hlo, hc.grown hg (some_ne (Ne.symm (h.mapne hc)))⟩
  · rw [if_neg e2] at e
    rw [if_neg e2]
    exact ⟨(h.cd k' g' e).1, (h.cd k' g' e).2.grown hg (some_ne (Ne.symm (h.mapne (h.cd k' g' e).2)))⟩

end

/-- .. and how many parts were gone through -/
structure CenS (w : World) (lo gc b n : Nat) (F : List UInt8 → Option Nat) (S : List UInt8 → Int × Int × Int) (V : Int) : Prop where
  cen : Cen w lo b n F S
  lo : lo ≤ gc
  blk : Blk w gc 72 #[.map (some b), .int .i64 V]

section
variable {w w' : World} {lo gc b n : Nat} {F : List UInt8 → Option Nat} {S : List UInt8 → Int × Int × Int} {V : Int}

theorem CenS.gne (h : CenS w lo gc b n F S V) {k : List UInt8} {g : Nat} (e : F k = some g) : gc ≠ g := by
  rintro rfl
  have h1 := (h.cen.cd k gc e).2
  have h2 := h.blk
  unfold Cd Blk at h1
  unfold Blk at h2
  rw [h1] at h2
  injection h2 with e
  injection e with _ e
  exact absurd e (by decide)

theorem CenS.bne (h : CenS w lo gc b n F S V) : b ≠ gc := h.cen.mapne h.blk
theorem CenS.sne (h : CenS w lo gc b n F S V) (cs : Array Value) (fr : Nat × Nat) : w.heap[gc]? ≠ some (.cells cs 9 fr) := by
  have h2 := h.blk
  unfold Blk at h2
  rw [h2]
  intro e
  injection e with e
  injection e with _ e
  exact absurd e (by decide)

theorem CenS.kept {row : Option Nat} (h : CenS w lo gc b n F S V) (hg : w.grownBy w' row) (hr : ∀ j, row = some j → ∃ cs fr, w.heap[j]? = some (.cells cs 9 fr)) : CenS w' lo gc b n F S V :=
  ⟨h.cen.kept hg hr, h.lo, h.blk.grown hg (fun e => by obtain ⟨cs, fr, e2⟩ := hr gc e.symm; exact h.sne cs fr e2)⟩
theorem CenS.keptBelow (h : CenS w lo gc b n F S V) (hb : Below w.heap.size w w') : CenS w' lo gc b n F S V := h.kept (gb_below hb none) (fun j e => by cases e)
theorem CenS.congr {S' : List UInt8 → Int × Int × Int} (h : CenS w lo gc b n F S V) (e : ∀ k g, F k = some g → S k = S' k) : CenS w lo gc b n F S' V := ⟨h.cen.congr e, h.lo, h.blk⟩
theorem CenS.turn {k : List UInt8} {g : Nat} {s : Int × Int × Int} (h : CenS w lo gc b n F S V) (hk : F k = some g) (hg : w.grownBy w' (some g)) (hc : Cd w' g k s) : CenS w' lo gc b n F (updS S k s) V :=
  ⟨h.cen.turn hk hg hc, h.lo, h.blk.grown hg (some_ne (h.gne hk))⟩
/-- a part more -/
theorem CenS.next (h : CenS w lo gc b n F S V) (V' : Int) : CenS (w.setCell ⟨gc, 1, none⟩ (.int .i64 V')) lo gc b n F S V' := by
  have hg := gb_set (gb_below (Below.refl w.heap.size w) (some gc)) 1 (.int .i64 V')
  refine ⟨h.cen.far hg h.bne (fun k g e => Ne.symm (h.gne e)), h.lo, ?_⟩
  have := h.blk.set_ 1 (.int .i64 V')
  simpa using this
theorem CenS.kpNext (h : CenS w lo gc b n F S V) (V' : Int) : Kp lo w (w.setCell ⟨gc, 1, none⟩ (.int .i64 V')) :=
  Kp.grown (gb_set (gb_below (Below.refl w.heap.size w) (some gc)) 1 (.int .i64 V')) h.cen.los (fun j e => by injection e with e; subst e; exact h.lo) (fun j cs fr e => by injection e with e; subst e; exact h.sne cs fr)
theorem CenS.kpTurn {k : List UInt8} {g : Nat} (h : CenS w lo gc b n F S V) (hk : F k = some g) (hg : w.grownBy w' (some g)) : Kp lo w w' :=
  Kp.grown hg h.cen.los (fun j e => by injection e with e; subst e; exact (h.cen.cd k _ hk).1) (fun j cs fr e => by injection e with e; subst e; exact (h.cen.cd k _ hk).2.ne cs fr)

end

/-- an occurrence met: it counts unless it overlaps the last one of the same part -/
def mt (V start d : Int) (k : List UInt8) (s : Int × Int × Int) : Int × Int × Int := if s.2.1 = V ∧ start < s.2.2 then s else (s.1 + d, V, start + (k.length : Int))

theorem cd_write {w : World} {g : Nat} {k : List UInt8} {s : Int × Int × Int} (h : Cd w g k s) (a b c : Int) : Cd (((w.setCell ⟨g, 3, none⟩ (.int .i64 b)).setCell ⟨g, 4, none⟩ (.int .i64 c)).setCell ⟨g, 2, none⟩ (.int .i64 a)) g k (a, b, c) := by
  have h2 := ((Blk.set_ h 3 (.int .i64 b)).set_ 4 (.int .i64 c)).set_ 2 (.int .i64 a)
  unfold Cd
  simpa using h2

set_option maxRecDepth 100000 in
set_option maxHeartbeats 3200000 in
theorem meet_any (w : World) (g : Nat) (k : List UInt8) (c p f V start d : Int) (h : Cd w g k (c, p, f)) (hk : (k.length : Int) ≤ 1000) (hs0 : 0 ≤ start) (hs1 : start ≤ 100000) (hc0 : -1000000000 ≤ c) (hc1 : c ≤ 1000000000) (hd0 : -1 ≤ d) (hd1 : d ≤ 1) :
    Calls Tryd.prog 77 #[.pointer (some ⟨g, 0, none⟩), .int .i64 V, .int .i64 start, .int .i64 d] w fun e w' => e = .returned (.tuple #[]) ∧ w.grownBy w' (some g) ∧ Cd w' g k (mt V start d k (c, p, f)) := by
  have H := Lib.hid h
  have c0 := Blk.cell h 0
  have c2 := Blk.cell h 2
  have c3 := Blk.cell h 3
  have c4 := Blk.cell h 4
  have f2 := Blk.frozen h 2
  have f3 := Blk.frozen h 3
  have f4 := Blk.frozen h 4
  simp at c0 c2 c3 c4
  have hsz : ((bs k).size : Int) = (k.length : Int) := by rw [bs_size]
  have HSZ := Lib.hid hsz
  have hsz2 : ((bs k).size : Int) ≤ 1000 := by omega
  obtain ⟨x, hx⟩ : ∃ x, x = bs k := ⟨_, rfl⟩
  rw [← hx] at c0 HSZ hsz2
  have HG : Hid (∀ a b c : Int, w.grownBy (((w.setCell ⟨g, 3, none⟩ (.int .i64 b)).setCell ⟨g, 4, none⟩ (.int .i64 c)).setCell ⟨g, 2, none⟩ (.int .i64 a)) (some g)) := Lib.hid fun a b c => gb_set (gb_set (gb_set (gb_below (Below.refl w.heap.size w) (some g)) 3 _) 4 _) 2 _
  clear hx hsz h
  by_cases hp : p = V
  · subst hp
    by_cases hf : start < f
    · have e : mt p start d k (c, p, f) = (c, p, f) := by unfold mt; rw [if_pos ⟨rfl, hf⟩]
      rw [e]
      clear e
      go_enter Tryd.func77, Tryd.ntmps77
      go_wp2_with fail
      (try simp only [Exit.inBlock, Exit.then])
      refine bodyPost_ret (results_none rfl _ _ _) rfl ?_
      exact ⟨rfl, gb_below (Below.refl _ _) _, H.out⟩
    · have e : mt p start d k (c, p, f) = (c + d, p, start + (k.length : Int)) := by unfold mt; rw [if_neg (fun h => hf h.2)]
      rw [e]
      clear e
      go_enter Tryd.func77, Tryd.ntmps77
      go_wp2_with fail
      go_end0
      rw [← HSZ.out]
      exact ⟨rfl, HG.out _ _ _, cd_write H.out _ _ _⟩
  · have e : mt V start d k (c, p, f) = (c + d, V, start + (k.length : Int)) := by unfold mt; rw [if_neg (fun h => hp h.1)]
    rw [e]
    clear e
    go_enter Tryd.func77, Tryd.ntmps77
    go_wp2_with fail
    go_end0
    rw [← HSZ.out]
    exact ⟨rfl, HG.out _ _ _, cd_write H.out _ _ _⟩

/-- what a candidate saves -/
def sv (k : List UInt8) (s : Int × Int × Int) : Int := ((costL k : Int) - 2) * s.1 - (costL k : Int)

set_option maxRecDepth 100000 in
set_option maxHeartbeats 3200000 in
theorem saving_any (w : World) (g : Nat) (k : List UInt8) (c p f : Int) (h : Cd w g k (c, p, f)) (hk : k.length ≤ 8) (hc0 : -1000000 ≤ c) (hc1 : c ≤ 1000000) :
    Calls Tryd.prog 41 #[.pointer (some ⟨g, 0, none⟩)] w fun e w' => e = .returned (.int .i64 (sv k (c, p, f))) ∧ ∃ nq, w' = w.drewN nq := by
  have c1 := Blk.cell h 1
  have c2 := Blk.cell h 2
  simp at c1 c2
  have hle := costL_le k
  obtain ⟨z, hz⟩ : ∃ z, z = costL k := ⟨_, rfl⟩
  have hz24 : z ≤ 24 := by omega
  have e : sv k (c, p, f) = ((z : Int) - 2) * c - (z : Int) := by unfold sv; rw [hz]
  rw [e]
  rw [← hz] at c1
  have b0 : -24000000 ≤ ((z : Int) - 2) * c ∧ ((z : Int) - 2) * c ≤ 24000000 := by
    have h1 : -2 ≤ (z : Int) - 2 := by omega
    have h2 : (z : Int) - 2 ≤ 22 := by omega
    generalize (z : Int) - 2 = y at *
    rcases Int.le_total 0 y with h3 | h3
    · have k1 := Int.mul_le_mul_of_nonneg_left hc1 h3
      have k2 := Int.mul_le_mul_of_nonneg_left hc0 h3
      omega
    · have k1 := Int.mul_le_mul_of_nonpos_left h3 hc1
      have k2 := Int.mul_le_mul_of_nonpos_left h3 hc0
      constructor <;> omega
  have b1 : IntKind.i64.wrap ((z : Int) - 2) = (z : Int) - 2 := IntWalk.i64_in _ (by omega)
  have b2 : IntKind.i64.wrap (((z : Int) - 2) * c) = ((z : Int) - 2) * c := IntWalk.i64_in _ (by omega)
  have b3 : IntKind.i64.wrap (((z : Int) - 2) * c - (z : Int)) = ((z : Int) - 2) * c - (z : Int) := IntWalk.i64_in _ (by omega)
  clear hz e hle h b0
  go_enter Tryd.func41, Tryd.ntmps41
  go_wp2_with fail
  go_quiet (fail)
  go_wp2_with fail
  go_ret
  exact ⟨rfl, nq, rfl⟩

theorem CM.drew {w : World} {b n : Nat} {F : List UInt8 → Option Nat} (h : CM w b n F) (m : Nat) : CM (w.drewN m) b n F := h.kept (gb_below (below_drewN (Below.refl _ _) m) none) (by simp)

/-- the candidates' numbers, the part p read up to place i -/
def scS (S : List UInt8 → Int × Int × Int) (V d : Int) (p : List UInt8) (i : Nat) (k : List UInt8) : Int × Int × Int :=
  if (scan k p i).1 = 0 then S k else ((S k).1 + d * ((scan k p i).1 : Int), V, ((scan k p i).2 : Int))
/-- .. and at place i the rows that end ahead of e -/
def scI (S : List UInt8 → Int × Int × Int) (V d : Int) (p : List UInt8) (i e : Nat) (k : List UInt8) : Int × Int × Int :=
  if i + k.length < e then scS S V d p (i + 1) k else scS S V d p i k

theorem scan_none (k p : List UInt8) : ∀ i, (scan k p i).1 = 0 → (scan k p i).2 = 0 := by
  intro i
  induction i with
  | zero => intro _; rfl
  | succ i ih =>
    rw [scan_succ]
    split
    · intro h; simp at h
    · exact ih

theorem scS_skip {S : List UInt8 → Int × Int × Int} {V d : Int} {p : List UInt8} {i : Nat} {k : List UInt8} (h : isPre k (p.drop i) = false) : scS S V d p (i + 1) k = scS S V d p i k := by
  unfold scS
  rw [scan_skip h]

theorem scS_step {S : List UInt8 → Int × Int × Int} {V d : Int} {p : List UInt8} {i : Nat} {k : List UInt8} (hp : (S k).2.1 < V) (hm : isPre k (p.drop i) = true) : mt V (i : Int) d k (scS S V d p i k) = scS S V d p (i + 1) k := by
  have h1 := scan_none k p i
  unfold mt scS
  rw [scan_succ]
  generalize scan k p i = x at *
  by_cases h0 : x.1 = 0
  · have hn : ¬ ((S k).2.1 = V ∧ (i : Int) < (S k).2.2) := fun h => by omega
    have hy : x.2 ≤ i ∧ isPre k (p.drop i) = true := ⟨by have := h1 h0; omega, hm⟩
    rw [if_pos h0, if_neg hn, if_pos hy]
    dsimp only
    rw [if_neg (by omega), h0]
    refine Prod.ext ?_ (Prod.ext rfl ?_)
    · show (S k).1 + d = (S k).1 + d * ((0 + 1 : Nat) : Int)
      omega
    · show (i : Int) + (k.length : Int) = ((i + k.length : Nat) : Int)
      omega
  · rw [if_neg h0]
    dsimp only
    by_cases hi : x.2 ≤ i
    · have hn : ¬ (V = V ∧ (i : Int) < (x.2 : Int)) := fun h => by omega
      have hy : x.2 ≤ i ∧ isPre k (p.drop i) = true := ⟨hi, hm⟩
      rw [if_neg hn, if_pos hy]
      dsimp only
      rw [if_neg (by omega)]
      refine Prod.ext ?_ (Prod.ext rfl ?_)
      · show (S k).1 + d * (x.1 : Int) + d = (S k).1 + d * ((x.1 + 1 : Nat) : Int)
        rw [Int.natCast_add, Int.mul_add, Int.add_assoc]
        congr 2
        omega
      · show (i : Int) + (k.length : Int) = ((i + k.length : Nat) : Int)
        omega
    · have hn : ¬ (x.2 ≤ i ∧ isPre k (p.drop i) = true) := fun h => hi h.1
      have hy : V = V ∧ (i : Int) < (x.2 : Int) := ⟨rfl, by omega⟩
      rw [if_pos hy, if_neg hn, if_neg h0]

theorem scS_zero {S : List UInt8 → Int × Int × Int} {V d : Int} {p k : List UInt8} : scS S V d p 0 k = S k := rfl

theorem scS_count {S : List UInt8 → Int × Int × Int} {V d : Int} {p k : List UInt8} {i : Nat} : (scS S V d p i k).1 = (S k).1 + d * ((scan k p i).1 : Int) := by
  unfold scS
  split
  · rename_i h; rw [h]; omega
  · rfl

theorem scS_part {S : List UInt8 → Int × Int × Int} {V d : Int} {p k : List UInt8} {i : Nat} (h : (S k).2.1 < V) : (scS S V d p i k).2.1 ≤ V := by
  unfold scS
  split
  · omega
  · exact Int.le_refl _

/-- keys of a census: 2 to 8 bytes, each with its beginnings -/
def KeysOk (F : List UInt8 → Option Nat) : Prop := ∀ k g, F k = some g → 2 ≤ k.length ∧ k.length ≤ 8 ∧ ∀ m, 2 ≤ m → m ≤ k.length → ∃ g', F (k.take m) = some g'

theorem KeysOk.ne {F : List UInt8 → Option Nat} (h : KeysOk F) {k : List UInt8} {g : Nat} (e : F k = some g) : k ≠ [] := by
  have := (h k g e).1
  intro e2
  rw [e2] at this
  simp at this

theorem scI_start {F : List UInt8 → Option Nat} {S : List UInt8 → Int × Int × Int} {V d : Int} {p : List UInt8} {i : Nat} (h : KeysOk F) (k : List UInt8) (g : Nat) (e : F k = some g) : scS S V d p i k = scI S V d p i (i + 2) k := by
  unfold scI
  rw [if_neg (by have := (h k g e).1; omega)]

theorem scI_step {F : List UInt8 → Option Nat} {S : List UInt8 → Int × Int × Int} {V d : Int} {p t : List UInt8} {i e g : Nat} (h : KeysOk F) (hp : ∀ k g, F k = some g → (S k).2.1 < V) (ht : F t = some g) (htl : i + t.length = e) (htp : t = (p.drop i).take t.length)
    (k : List UInt8) (g' : Nat) (hk : F k = some g') : updS (scI S V d p i e) t (mt V (i : Int) d t (scI S V d p i e t)) k = scI S V d p i (e + 1) k := by
  unfold updS
  by_cases ek : k = t
  · subst ek
    rw [if_pos rfl]
    have e1 : scI S V d p i e k = scS S V d p i k := by unfold scI; rw [if_neg (by omega)]
    have e2 : scI S V d p i (e + 1) k = scS S V d p (i + 1) k := by unfold scI; rw [if_pos (by omega)]
    rw [e1, e2]
    exact scS_step (hp k g ht) (isPre_iff.2 htp.symm)
  · rw [if_neg ek]
    unfold scI
    by_cases h1 : i + k.length < e
    · rw [if_pos h1, if_pos (by omega)]
    · rw [if_neg h1]
      by_cases h2 : i + k.length < e + 1
      · rw [if_pos h2]
        refine (scS_skip ?_).symm
        rw [Bool.eq_false_iff]
        intro hc
        refine ek ?_
        have e3 := isPre_iff.1 hc
        rw [htp, ← e3]
        congr 1
        omega
      · rw [if_neg h2]

theorem scI_end {F : List UInt8 → Option Nat} {S : List UInt8 → Int × Int × Int} {V d : Int} {p : List UInt8} {i e : Nat} (h : KeysOk F) (he : i + 2 ≤ e) (hs : p.length < e ∨ i + 8 < e ∨ F ((p.drop i).take (e - i)) = none) (k : List UInt8) (g : Nat) (hk : F k = some g) : scI S V d p i e k = scS S V d p (i + 1) k := by
  unfold scI
  by_cases h1 : i + k.length < e
  · rw [if_pos h1]
  · rw [if_neg h1]
    refine (scS_skip ?_).symm
    rw [Bool.eq_false_iff]
    intro hc
    have hl := isPre_len hc
    rw [List.length_drop] at hl
    obtain ⟨k2, k8, kp⟩ := h k g hk
    rcases hs with hs | hs | hs
    · omega
    · omega
    · obtain ⟨g', hg'⟩ := kp (e - i) (by omega) (by omega)
      have e3 : k.take (e - i) = (p.drop i).take (e - i) := by
        rw [← isPre_iff.1 hc, List.take_take, Nat.min_eq_left (by omega)]
      rw [e3, hs] at hg'
      cases hg'

theorem ext_take (p : ByteArray) (i e : Nat) : (p.extract i e).data.toList = (p.data.toList.drop i).take (e - i) := by
  rw [ByteArray.data_extract, Array.toList_extract, List.extract_eq_take_drop]

theorem scI_bound {S : List UInt8 → Int × Int × Int} {V d : Int} {p k : List UInt8} {i e : Nat} (hk : k ≠ []) (hd0 : -1 ≤ d) (hd1 : d ≤ 1) (hi : i ≤ 10000) (hb : -1000000 ≤ (S k).1 ∧ (S k).1 ≤ 1000000) : -1000000000 ≤ (scI S V d p i e k).1 ∧ (scI S V d p i e k).1 ≤ 1000000000 := by
  have key : ∀ j, j ≤ 10001 → -1000000000 ≤ (scS S V d p j k).1 ∧ (scS S V d p j k).1 ≤ 1000000000 := by
    intro j hj
    rw [scS_count]
    have h1 := (scan_le (p := p) hk j).2.2
    generalize (scan k p j).1 = x at *
    rcases (by omega : d = -1 ∨ d = 0 ∨ d = 1) with rfl | rfl | rfl <;> constructor <;> omega
  unfold scI
  split
  · exact key _ (by omega)
  · exact key _ (by omega)

set_option maxRecDepth 100000 in
set_option maxHeartbeats 12800000 in
theorem change_any (w : World) (lo gc b n : Nat) (F : List UInt8 → Option Nat) (S : List UInt8 → Int × Int × Int) (V d : Int) (p : ByteArray) (h : CenS w lo gc b n F S V) (hk : KeysOk F) (hp : ∀ k g, F k = some g → (S k).2.1 ≤ V)
    (hb : ∀ k g, F k = some g → -1000000 ≤ (S k).1 ∧ (S k).1 ≤ 1000000) (hV0 : 0 ≤ V) (hV1 : V ≤ 1000000) (hd0 : -1 ≤ d) (hd1 : d ≤ 1) (hs : (p.size : Int) ≤ 10000) :
    Calls Tryd.prog 68 #[.pointer (some ⟨gc, 0, none⟩), .string p, .int .i64 d] w fun e w' => e = .returned (.tuple #[]) ∧ CenS w' lo gc b n F (scS S (V + 1) d p.data.toList p.size) (V + 1) ∧ Kp lo w w' := by
  have c0 := h.blk.cell 0
  have c1 := h.blk.cell 1
  have f1 := h.blk.frozen 1
  simp at c0 c1
  have b1 : IntKind.i64.wrap (V + 1) = V + 1 := IntWalk.i64_in _ (by omega)
  have HC0 : Hid (CenS (w.setCell ⟨gc, 1, none⟩ (.int .i64 (V + 1))) lo gc b n F (scS S (V + 1) d p.data.toList 0) (V + 1)) := Lib.hid ((h.next (V + 1)).congr fun k g e => scS_zero.symm)
  have HK0 := Lib.hid (h.kpNext (V + 1))
  have HKO := Lib.hid hk
  have HP : Hid (∀ k g, F k = some g → (S k).2.1 < V + 1) := Lib.hid fun k g e => by have := hp k g e; omega
  have HB := Lib.hid hb
  have hpl : p.data.toList.length = p.size := by rw [Array.length_toList]; rfl
  have HPL := Lib.hid hpl
  clear h hk hp hb hpl
  go_enter Tryd.func68, Tryd.ntmps68
  go_wp2_with fail
  generalize w.setCell ⟨gc, 1, none⟩ (.int .i64 (V + 1)) = w1 at *
  clear c0 c1 f1 b1
  obtain ⟨V', hV'⟩ : ∃ V' : Int, V' = V + 1 := ⟨_, rfl⟩
  rw [← hV'] at HC0 HP ⊢
  have HVV := Lib.hid hV'
  clear hV'
  go_loopw [19] (fun i wr => ∃ j : Nat, j ≤ p.size ∧ i = .int .i64 j ∧ Hid (CenS wr lo gc b n F (scS S V' d p.data.toList j) V') ∧ Hid (Kp lo w wr)) (fun i _ => p.size - (intOf i).toNat)
  case atStart => exact ⟨0, Nat.zero_le _, rfl, HC0, HK0⟩
  case round =>
    clear HC0 HK0
    obtain ⟨j, hj, rfl, HC, HK⟩ := hrel
    by_cases hlt : j < p.size
    · have HCI : Hid (CenS wr lo gc b n F (scI S V' d p.data.toList j (j + 2)) V') := Lib.hid (HC.out.congr (scI_start HKO.out))
      obtain ⟨e0, he0⟩ : ∃ e0, e0 = j + 2 := ⟨_, rfl⟩
      rw [← he0] at HCI
      have hez : (j : Int) + 2 = (e0 : Int) := by omega
      have HE0 := Lib.hid he0
      clear he0
      by_cases hm : (j : Int) + 8 ≤ (p.size : Int)
      all_goals
        go_wp2_with fail
        go_loopw [8] (fun ev wi => ∃ e : Nat, j + 2 ≤ e ∧ e ≤ j + 9 ∧ e ≤ p.size + 1 ∧ ev = .int .i64 e ∧ Hid (CenS wi lo gc b n F (scI S V' d p.data.toList j e) V') ∧ Hid (Kp lo w wi)) (fun ev _ => p.size + 1 - (intOf ev).toNat)
        case atStart => exact ⟨e0, by have := HE0.out; omega, by have := HE0.out; omega, by have := HE0.out; omega, rfl, HCI, HK⟩
        case round =>
          clear HC HCI HK hez HE0
          obtain ⟨e, he2, he9, hes, rfl, HC, HK⟩ := hrel
          by_cases hle : (e : Int) ≤ (j : Int) + 8 ∧ (e : Int) ≤ (p.size : Int)
          · obtain ⟨hl1, hl2⟩ := hle
            have c0 := HC.out.blk.cell 0
            have c1 := HC.out.blk.cell 1
            simp at c0 c1
            have hext := ext_take p j e
            obtain ⟨t, ht⟩ : ∃ t, t = (p.data.toList.drop j).take (e - j) := ⟨_, rfl⟩
            rw [← ht] at hext
            have htl : t.length = e - j := by rw [ht, List.length_take, List.length_drop, HPL.out]; omega
            have hxs : (p.extract j e).size ≤ maxLen := by rw [ByteArray.size_extract]; unfold maxLen; omega
            have i1 : 0 ≤ (j : Int) ∧ (j : Int) ≤ (e : Int) := by omega
            have i2 : 0 ≤ (e : Int) ∧ (e : Int) ≤ (p.size : Int) := by omega
            cases hF : F t with
            | none =>
              have hlk : ∀ nq, (Instr.lookup 70 (.map (some b)) (.string (p.extract j e)) false).run Tryd.prog (wr.drewN nq) = .ok (.pointer none) (wr.drewN nq) := fun nq => by
                have := (HC.out.cen.map.drew nq).lookup (p.extract j e) hxs
                rw [hext, hF] at this
                exact this
              have HC2 : Hid (CenS wr lo gc b n F (scS S V' d p.data.toList (j + 1)) V') := Lib.hid (HC.out.congr (scI_end HKO.out he2 (.inr (.inr (by rw [← ht]; exact hF)))))
              clear hF ht htl hext hxs HC
              go_wp2_with fail
              go_quiet (fail)
              have HC3 := Lib.hid (HC2.out.keptBelow (below_drewN (Below.refl _ _) nq))
              have HK3 := Lib.hid (HK.out.trans (Kp.of_below (below_drewN (Below.refl wr.heap.size wr) nq) HC2.out.cen.los))
              go_wp2_with fail
              go_roundw
              case rel => exact ⟨j + 1, by omega, by go_num, HC3, HK3⟩
              case measure => simp [intOf]; omega
            | some g =>
              have hlk : ∀ nq, (Instr.lookup 70 (.map (some b)) (.string (p.extract j e)) false).run Tryd.prog (wr.drewN nq) = .ok (.pointer (some ⟨g, 0, none⟩)) (wr.drewN nq) := fun nq => by
                have := (HC.out.cen.map.drew nq).lookup (p.extract j e) hxs
                rw [hext, hF] at this
                exact this
              have HST := Lib.hid (scI_step (S := S) (V := V') (d := d) HKO.out HP.out hF (by omega : j + t.length = e) (by rw [htl]; exact ht))
              have HBD := Lib.hid (scI_bound (V := V') (p := p.data.toList) (i := j) (e := e) (HKO.out.ne hF) hd0 hd1 (by omega) (HB.out t g hF))
              have HCD := Lib.hid (HC.out.cen.cd t g hF)
              obtain ⟨x, hx⟩ : ∃ x, x = scI S V' d p.data.toList j e t := ⟨_, rfl⟩
              rw [← hx] at HST HBD HCD
              obtain ⟨c, pt, f⟩ := x
              have htl8 := (HKO.out t g hF).2.1
              have HF := Lib.hid hF
              clear hF ht htl hext hxs hx
              go_wp2_with fail
              go_quiet (fail)
              have HC3 := Lib.hid (HC.out.keptBelow (below_drewN (Below.refl _ _) nq))
              have HK3 := Lib.hid (HK.out.trans (Kp.of_below (below_drewN (Below.refl wr.heap.size wr) nq) HC.out.cen.los))
              have k1 : (wr.drewN nq).cell? ⟨gc, 1, none⟩ = some (.int .i64 V') := c1
              have HCD3 : Hid (Cd (wr.drewN nq) g t (c, pt, f)) := Lib.hid HCD.out.2
              clear HC HK HCD c0 c1 hlk
              generalize wr.drewN nq = w5 at *
              go_wp2_with fail
              refine (meet_any w5 g t c pt f V' j d HCD3.out (by omega) (by omega) (by omega) HBD.out.1 HBD.out.2 hd0 hd1).mono ?_
              rintro e2 w6 ⟨rfl, hg6, hc6⟩
              have HC6 := Lib.hid ((HC3.out.turn HF.out hg6 hc6).congr HST.out)
              have HK6 := Lib.hid (HK3.out.trans (HC3.out.kpTurn HF.out hg6))
              clear hg6 hc6 k1 HC3 HK3 HCD3 HST
              go_wp2_with fail
              go_roundw
              case rel => exact ⟨e + 1, by omega, by omega, by omega, by go_num, HC6, HK6⟩
              case measure => simp [intOf]; omega
          · have hn1 : p.data.toList.length < e ∨ j + 8 < e := by rw [HPL.out]; omega
            have HC2 : Hid (CenS wr lo gc b n F (scS S V' d p.data.toList (j + 1)) V') := Lib.hid (HC.out.congr (scI_end HKO.out he2 (by rcases hn1 with h | h; exact .inl h; exact .inr (.inl h))))
            first
              | (have hn2 : ¬ (e : Int) ≤ (j : Int) + 8 := by omega)
              | (have hn2 : ¬ (e : Int) ≤ (p.size : Int) := by omega)
            clear hn1 hle HC
            go_wp2_with fail
            go_roundw
            case rel => exact ⟨j + 1, by omega, by go_num, HC2, HK⟩
            case measure => simp [intOf]; omega
    · obtain rfl : j = p.size := by omega
      go_wp2_with fail
      go_end0
      have hc := HC.out
      rw [HVV.out] at hc
      exact ⟨rfl, hc, HK.out⟩

theorem Cd.drew {w : World} {g : Nat} {k : List UInt8} {s : Int × Int × Int} (h : Cd w g k s) (m : Nat) : Cd (w.drewN m) g k s := Blk.below h (below_drewN (Below.refl w.heap.size w) m) (Cd.lt h)

set_option maxRecDepth 100000 in
set_option maxHeartbeats 6400000 in
theorem better_any (w : World) (g gb gv : Nat) (k t : List UInt8) (c p f c' p' f' : Int) (h : Cd w g k (c, p, f)) (h' : Cd w gb t (c', p', f')) (hv : w.cell? ⟨gv, 0, none⟩ = some (.pointer (some ⟨gb, 0, none⟩)))
    (hk : k.length ≤ 8) (ht : t.length ≤ 8) (hc0 : -1000000 ≤ c) (hc1 : c ≤ 1000000) (hc0' : -1000000 ≤ c') (hc1' : c' ≤ 1000000) :
    Calls Tryd.prog 65 #[.pointer (some ⟨g, 0, none⟩), .pointer (some ⟨gv, 0, none⟩)] w fun e w' => ∃ q, e = .returned (.bool q) ∧ (q = true ↔ btx (sv k (c, p, f)) k (sv t (c', p', f')) t) ∧ ∃ nq, w' = w.drewN nq := by
  have c0 := Blk.cell h 0
  have d0 := Blk.cell h' 0
  simp at c0 d0
  have s1 : ∀ nq, Calls Tryd.prog 41 #[.pointer (some ⟨g, 0, none⟩)] (w.drewN nq) fun e w' => e = .returned (.int .i64 (sv k (c, p, f))) ∧ ∃ m, w' = (w.drewN nq).drewN m := fun nq => saving_any _ g k c p f (h.drew nq) hk hc0 hc1
  have s2 : ∀ nq, Calls Tryd.prog 41 #[.pointer (some ⟨gb, 0, none⟩)] (w.drewN nq) fun e w' => e = .returned (.int .i64 (sv t (c', p', f'))) ∧ ∃ m, w' = (w.drewN nq).drewN m := fun nq => saving_any _ gb t c' p' f' (h'.drew nq) ht hc0' hc1'
  obtain ⟨x, hx⟩ : ∃ x, x = sv k (c, p, f) := ⟨_, rfl⟩
  obtain ⟨y, hy⟩ : ∃ y, y = sv t (c', p', f') := ⟨_, rfl⟩
  obtain ⟨a, ha⟩ : ∃ a, a = bs k := ⟨_, rfl⟩
  obtain ⟨b, hb⟩ : ∃ b, b = bs t := ⟨_, rfl⟩
  have hak : a.data.toList = k := by rw [ha, data_bs]
  have hbt : b.data.toList = t := by rw [hb, data_bs]
  have has : a.size = k.length := by rw [ha, bs_size]
  have hbs : b.size = t.length := by rw [hb, bs_size]
  rw [← hx] at s1 ⊢
  rw [← hy] at s2 ⊢
  rw [← ha] at c0
  rw [← hb] at d0
  have HAK := Lib.hid hak
  have HBT := Lib.hid hbt
  have HAS := Lib.hid has
  have HBS := Lib.hid hbs
  have hz1 : (a.size : Int) ≤ 8 := by omega
  have hz2 : (b.size : Int) ≤ 8 := by omega
  have S1 := Lib.hid s1
  have S2 := Lib.hid s2
  clear hx hy ha hb hak hbt has hbs h h' s1 s2
  obtain ⟨W0, hW1⟩ : ∃ W0, W0 = w := ⟨_, rfl⟩
  have HW0 : Hid (w = W0.drewN 0) := Lib.hid (by rw [hW1]; rfl)
  have HW1 := Lib.hid hW1
  have HN : Hid (∃ m, w = W0.drewN m) := Lib.hid ⟨0, HW0.out⟩
  clear hW1
  by_cases hxy : x = y
  · subst hxy
    by_cases hl : (a.size : Int) = (b.size : Int)
    · have HL := Lib.hid hl
      have HQ : Hid (Op.bytesLess a.toList b.toList = true ↔ k < t) := Lib.hid (by rw [Lib.toList_data, Lib.toList_data, HAK.out, HBT.out]; exact ltB_iff k t)
      obtain ⟨q, hq⟩ : ∃ q, q = Op.bytesLess a.toList b.toList := ⟨_, rfl⟩
      rw [← hq] at HQ
      have hq2 := hq.symm
      clear hq
      go_enter Tryd.func65, Tryd.ntmps65
      go_wp2_with fail
      go_quiet (first | (go_at_call_of 41 (Value.pointer (some ⟨g, 0, none⟩)); exact Calls.quiet_of (S1.out _)) | (go_at_call_of 41 (Value.pointer (some ⟨gb, 0, none⟩)); exact Calls.quiet_of (S2.out _)))
      have k1 : (w.drewN nq).cell? ⟨g, 0, none⟩ = some (.string a) := c0
      have k2 : (w.drewN nq).cell? ⟨gb, 0, none⟩ = some (.string b) := d0
      have k3 : (w.drewN nq).cell? ⟨gv, 0, none⟩ = some (.pointer (some ⟨gb, 0, none⟩)) := hv
      have HN2 : Hid (∃ m, w.drewN nq = W0.drewN m) := Lib.hid (by obtain ⟨m, hm⟩ := HN.out; exact ⟨m + nq, by rw [hm, World.drewN_drewN]⟩)
      clear c0 d0 hv HN S1 S2 HW0
      generalize w.drewN nq = w2 at *
      have c0 := k1
      have d0 := k2
      have hv := k3
      have HN := HN2
      clear k1 k2 k3 HN2
      go_wp2_with fail
      go_quiet (fail)
      have k1 : (w2.drewN nq).cell? ⟨g, 0, none⟩ = some (.string a) := c0
      have k2 : (w2.drewN nq).cell? ⟨gb, 0, none⟩ = some (.string b) := d0
      have k3 : (w2.drewN nq).cell? ⟨gv, 0, none⟩ = some (.pointer (some ⟨gb, 0, none⟩)) := hv
      have HN2 : Hid (∃ m, w2.drewN nq = W0.drewN m) := Lib.hid (by obtain ⟨m, hm⟩ := HN.out; exact ⟨m + nq, by rw [hm, World.drewN_drewN]⟩)
      clear c0 d0 hv HN
      generalize w2.drewN nq = w3 at *
      have c0 := k1
      have d0 := k2
      have hv := k3
      have HN := HN2
      clear k1 k2 k3 HN2
      go_wp2_with fail
      go_quiet (fail)
      have k1 : (w3.drewN nq).cell? ⟨g, 0, none⟩ = some (.string a) := c0
      have k2 : (w3.drewN nq).cell? ⟨gb, 0, none⟩ = some (.string b) := d0
      have k3 : (w3.drewN nq).cell? ⟨gv, 0, none⟩ = some (.pointer (some ⟨gb, 0, none⟩)) := hv
      have HN2 : Hid (∃ m, w3.drewN nq = W0.drewN m) := Lib.hid (by obtain ⟨m, hm⟩ := HN.out; exact ⟨m + nq, by rw [hm, World.drewN_drewN]⟩)
      clear c0 d0 hv HN
      generalize w3.drewN nq = w4 at *
      have c0 := k1
      have d0 := k2
      have hv := k3
      have HN := HN2
      clear k1 k2 k3 HN2
      go_wp2_with fail
      go_ret
      obtain ⟨m, hm⟩ := HN.out
      rw [HW1.out] at hm
      exact ⟨q, rfl, by unfold btx; rw [HQ.out]; have h1 := HL.out; have h2 := HAS.out; have h3 := HBS.out; exact ⟨fun h => .inr ⟨rfl, .inr ⟨by omega, h⟩⟩, fun h => by rcases h with h | ⟨_, h | ⟨_, h⟩⟩; exact absurd h (Int.lt_irrefl _); omega; exact h⟩, m, hm⟩
    · have HL := Lib.hid hl
      go_enter Tryd.func65, Tryd.ntmps65
      go_wp2_with fail
      go_quiet (first | (go_at_call_of 41 (Value.pointer (some ⟨g, 0, none⟩)); exact Calls.quiet_of (S1.out _)) | (go_at_call_of 41 (Value.pointer (some ⟨gb, 0, none⟩)); exact Calls.quiet_of (S2.out _)))
      have k1 : (w.drewN nq).cell? ⟨g, 0, none⟩ = some (.string a) := c0
      have k2 : (w.drewN nq).cell? ⟨gb, 0, none⟩ = some (.string b) := d0
      have k3 : (w.drewN nq).cell? ⟨gv, 0, none⟩ = some (.pointer (some ⟨gb, 0, none⟩)) := hv
      have HN2 : Hid (∃ m, w.drewN nq = W0.drewN m) := Lib.hid (by obtain ⟨m, hm⟩ := HN.out; exact ⟨m + nq, by rw [hm, World.drewN_drewN]⟩)
      clear c0 d0 hv HN S1 S2 HW0
      generalize w.drewN nq = w2 at *
      have c0 := k1
      have d0 := k2
      have hv := k3
      have HN := HN2
      clear k1 k2 k3 HN2
      go_wp2_with fail
      go_quiet (fail)
      have k1 : (w2.drewN nq).cell? ⟨g, 0, none⟩ = some (.string a) := c0
      have k2 : (w2.drewN nq).cell? ⟨gb, 0, none⟩ = some (.string b) := d0
      have k3 : (w2.drewN nq).cell? ⟨gv, 0, none⟩ = some (.pointer (some ⟨gb, 0, none⟩)) := hv
      have HN2 : Hid (∃ m, w2.drewN nq = W0.drewN m) := Lib.hid (by obtain ⟨m, hm⟩ := HN.out; exact ⟨m + nq, by rw [hm, World.drewN_drewN]⟩)
      clear c0 d0 hv HN
      generalize w2.drewN nq = w3 at *
      have c0 := k1
      have d0 := k2
      have hv := k3
      have HN := HN2
      clear k1 k2 k3 HN2
      go_wp2_with fail
      go_quiet (fail)
      have k1 : (w3.drewN nq).cell? ⟨g, 0, none⟩ = some (.string a) := c0
      have k2 : (w3.drewN nq).cell? ⟨gb, 0, none⟩ = some (.string b) := d0
      have k3 : (w3.drewN nq).cell? ⟨gv, 0, none⟩ = some (.pointer (some ⟨gb, 0, none⟩)) := hv
      have HN2 : Hid (∃ m, w3.drewN nq = W0.drewN m) := Lib.hid (by obtain ⟨m, hm⟩ := HN.out; exact ⟨m + nq, by rw [hm, World.drewN_drewN]⟩)
      clear c0 d0 hv HN
      generalize w3.drewN nq = w4 at *
      have c0 := k1
      have d0 := k2
      have hv := k3
      have HN := HN2
      clear k1 k2 k3 HN2
      go_wp2_with fail
      go_ret
      obtain ⟨m, hm⟩ := HN.out
      rw [HW1.out] at hm
      exact ⟨_, rfl, by unfold btx; have h1 := HL.out; have h2 := HAS.out; have h3 := HBS.out; simp only [decide_eq_true_eq]; exact ⟨fun h => .inr ⟨trivial, .inl (by omega)⟩, fun h => by rcases h with h | ⟨_, h | ⟨h, _⟩⟩; exact absurd h (Int.lt_irrefl _); omega; omega⟩, m, hm⟩
  · have HX := Lib.hid hxy
    go_enter Tryd.func65, Tryd.ntmps65
    go_wp2_with fail
    go_quiet (first | (go_at_call_of 41 (Value.pointer (some ⟨g, 0, none⟩)); exact Calls.quiet_of (S1.out _)) | (go_at_call_of 41 (Value.pointer (some ⟨gb, 0, none⟩)); exact Calls.quiet_of (S2.out _)))
    have k1 : (w.drewN nq).cell? ⟨g, 0, none⟩ = some (.string a) := c0
    have k2 : (w.drewN nq).cell? ⟨gb, 0, none⟩ = some (.string b) := d0
    have k3 : (w.drewN nq).cell? ⟨gv, 0, none⟩ = some (.pointer (some ⟨gb, 0, none⟩)) := hv
    have HN2 : Hid (∃ m, w.drewN nq = W0.drewN m) := Lib.hid (by obtain ⟨m, hm⟩ := HN.out; exact ⟨m + nq, by rw [hm, World.drewN_drewN]⟩)
    clear c0 d0 hv HN S1 S2 HW0
    generalize w.drewN nq = w2 at *
    have c0 := k1
    have d0 := k2
    have hv := k3
    have HN := HN2
    clear k1 k2 k3 HN2
    go_wp2_with fail
    go_ret
    obtain ⟨m, hm⟩ := HN.out
    rw [HW1.out] at hm
    exact ⟨_, rfl, by unfold btx; have h1 := HX.out; simp only [decide_eq_true_eq]; exact ⟨fun h => .inl h, fun h => by rcases h with h | ⟨h, _⟩; exact h; exact absurd h h1⟩, m, hm⟩

/-- block r is an iterator -/
def It (w : World) (r : Nat) : Prop := ∃ m s seen c, w.heap[r]? = some (.mapIter m s seen c)

theorem It.ne_cells {w : World} {r j : Nat} {cs : Array Value} {t : TypeId} {fr : Nat × Nat} (h : It w r) (e : w.heap[j]? = some (.cells cs t fr)) : j ≠ r := by
  obtain ⟨m, s, seen, c, h⟩ := h
  rintro rfl
  rw [e] at h
  cases h

theorem Blk.iter {w w' : World} {g r : Nat} {t : TypeId} {cs : Array Value} (h : Blk w g t cs) (hr : It w r) (hg : w.grownBy w' (some r)) : Blk w' g t cs := h.grown hg (some_ne (hr.ne_cells h))

section
variable {w w' : World} {lo gc b n r : Nat} {F : List UInt8 → Option Nat} {S : List UInt8 → Int × Int × Int} {V : Int}

theorem Cen.iter (h : Cen w lo b n F S) (hr : It w r) (hg : w.grownBy w' (some r)) : Cen w' lo b n F S := by
  refine h.far hg ?_ (fun k g e => hr.ne_cells (h.cd k g e).2)
  obtain ⟨es, c, hm⟩ := h.map.isMap
  obtain ⟨m, s, seen, c, hr⟩ := hr
  rintro rfl
  rw [hm] at hr
  cases hr
theorem CenS.iter (h : CenS w lo gc b n F S V) (hr : It w r) (hg : w.grownBy w' (some r)) : CenS w' lo gc b n F S V := ⟨h.cen.iter hr hg, h.lo, h.blk.iter hr hg⟩
theorem Kp.iter (hr : It w r) (hlo : lo ≤ r) (hlo2 : lo ≤ w.heap.size) (hg : w.grownBy w' (some r)) : Kp lo w w' :=
  Kp.grown hg hlo2 (fun j e => by injection e with e; subst e; exact hlo) (fun j cs fr e e2 => by injection e with e; subst e; exact hr.ne_cells e2 rfl)

theorem CenS.tag {j : Nat} {t : TypeId} {cs : Array Value} (h : CenS w lo gc b n F S V) (hb : Blk w j t cs) (h1 : t ≠ 79) (h2 : t ≠ 72) (hg : w.grownBy w' (some j)) : CenS w' lo gc b n F S V := by
  have ne : ∀ {i : Nat} {t' : TypeId} {cs' : Array Value}, Blk w i t' cs' → t ≠ t' → i ≠ j := by
    intro i t' cs' hi ht e
    subst e
    unfold Blk at hi hb
    rw [hb] at hi
    injection hi with hi
    injection hi with _ hi
    exact ht hi
  exact ⟨h.cen.far hg (h.cen.mapne hb) (fun k g e => ne (h.cen.cd k g e).2 h1), h.lo, h.blk.grown hg (some_ne (ne h.blk h2))⟩
theorem Kp.tag {j : Nat} {t : TypeId} {cs : Array Value} (hb : Blk w j t cs) (ht : t ≠ 9) (hlo : lo ≤ j) (hlo2 : lo ≤ w.heap.size) (hg : w.grownBy w' (some j)) : Kp lo w w' :=
  Kp.grown hg hlo2 (fun i e => by injection e with e; subst e; exact hlo) (fun i cs' fr e e2 => by
    injection e with e
    subst e
    unfold Blk at hb
    rw [hb] at e2
    injection e2 with e2
    injection e2 with _ e2
    exact ht e2)

theorem CM.drewS (h : CenS w lo gc b n F S V) (m : Nat) : CenS (w.drewN m) lo gc b n F S V := h.keptBelow (below_drewN (Below.refl _ _) m)
end

theorem CR.drew {w : World} {b r n : Nat} {F : List UInt8 → Option Nat} {left : List UInt8 → Bool} {cnt : Nat} (h : CR w b r n F left cnt) (m : Nat) : CR (w.drewN m) b r n F left cnt :=
  h.kept (gb_below (below_drewN (Below.refl _ _) m) none) (by simp) (by simp)

/-- the best so far: none, or a candidate; and what was gone through is not better -/
def BestSo (F : List UInt8 → Option Nat) (S : List UInt8 → Int × Int × Int) (left : List UInt8 → Bool) (t : List UInt8) (gb : Nat) (st : Int × Int × Int) : Prop :=
  ((t = [] ∧ st = (0, 0, 0)) ∨ (F t = some gb ∧ st = S t)) ∧ ∀ k g, F k = some g → left k = false → ¬ btx (sv k (S k)) k (sv t st) t

theorem BestSo.yes {F : List UInt8 → Option Nat} {S : List UInt8 → Int × Int × Int} {left : List UInt8 → Bool} {t k : List UInt8} {gb g : Nat} {st : Int × Int × Int} (h : BestSo F S left t gb st) (hk : F k = some g) (hb : btx (sv k (S k)) k (sv t st) t) :
    BestSo F S (fun x => left x && !decide (x = k)) k g (S k) := by
  refine ⟨.inr ⟨hk, rfl⟩, fun k2 g2 hk2 hl => ?_⟩
  by_cases e : k2 = k
  · subst e; exact btx_self
  · intro hc
    refine h.2 k2 g2 hk2 ?_ (btx_trans hc hb)
    simpa [e] using hl

theorem BestSo.no {F : List UInt8 → Option Nat} {S : List UInt8 → Int × Int × Int} {left : List UInt8 → Bool} {t k : List UInt8} {gb : Nat} {st : Int × Int × Int} (h : BestSo F S left t gb st) (hb : ¬ btx (sv k (S k)) k (sv t st) t) :
    BestSo F S (fun x => left x && !decide (x = k)) t gb st := by
  refine ⟨h.1, fun k2 g2 hk2 hl => ?_⟩
  by_cases e : k2 = k
  · subst e; exact hb
  · exact h.2 k2 g2 hk2 (by simpa [e] using hl)

set_option maxRecDepth 100000 in
set_option maxHeartbeats 12800000 in
theorem best_any (w : World) (lo gc b n : Nat) (F : List UInt8 → Option Nat) (S : List UInt8 → Int × Int × Int) (V : Int) (h : CenS w lo gc b n F S V) (hk : ∀ k g, F k = some g → k.length ≤ 8) (hb : ∀ k g, F k = some g → -1000000 ≤ (S k).1 ∧ (S k).1 ≤ 1000000) :
    Calls Tryd.prog 40 #[.pointer (some ⟨gc, 0, none⟩)] w fun e w' => ∃ gb t st, e = .returned (.pointer (some ⟨gb, 0, none⟩)) ∧ Cd w' gb t st ∧ CenS w' lo gc b n F S V ∧ Kp lo w w' ∧ BestSo F S (fun _ => false) t gb st := by
  have H := Lib.hid h
  have HK := Lib.hid hk
  have HB := Lib.hid hb
  have c0 := h.blk.cell 0
  simp at c0
  have hgl := Blk.lt h.blk
  obtain ⟨W2, hW2⟩ : ∃ W2, W2 = (w.alloc (.cells #[.string ⟨#[]⟩, .int .i64 0, .int .i64 0, .int .i64 0, .int .i64 0] 79)).alloc (.cells #[.pointer (some ⟨w.heap.size, 0, none⟩)] 74) := ⟨_, rfl⟩
  obtain ⟨gz, hgz⟩ : ∃ gz, gz = w.heap.size := ⟨_, rfl⟩
  obtain ⟨gv, hgv⟩ : ∃ gv, gv = w.heap.size + 1 := ⟨_, rfl⟩
  obtain ⟨r, hr⟩ : ∃ r, r = W2.heap.size := ⟨_, rfl⟩
  have hb2 : Below w.heap.size w W2 := by rw [hW2]; exact ((Below.refl _ w).alloc (Nat.le_refl _) _).alloc (by simp) _
  have HZ : Hid (Cd W2 gz [] (0, 0, 0)) := Lib.hid (by
    rw [hW2, hgz]
    exact Blk.alloc (Blk.new w 79 #[.string ⟨#[]⟩, .int .i64 0, .int .i64 0, .int .i64 0, .int .i64 0]) _)
  have HGV : Hid (Blk W2 gv 74 #[.pointer (some ⟨gz, 0, none⟩)]) := Lib.hid (by
    rw [hW2, hgz]
    exact Blk.new_at _ _ _ _ (by rw [hgv]; simp))
  have HC := Lib.hid (H.out.keptBelow hb2)
  have HKP := Lib.hid (Kp.of_below hb2 H.out.cen.los)
  have HLO : Hid (lo ≤ gv ∧ lo ≤ r) := Lib.hid (by
    have h1 := H.out.cen.los
    have h2 := hb2.size
    rw [hgv, hr]
    constructor <;> omega)
  have hmap : CM ((w.alloc (.cells #[.string ⟨#[]⟩, .int .i64 0, .int .i64 0, .int .i64 0, .int .i64 0] 79)).alloc (.cells #[.pointer (some ⟨w.heap.size, 0, none⟩)] 74)) b n F := by rw [← hW2]; exact HC.out.cen.map
  have HM := Lib.hid hmap
  have HB0 : Hid (BestSo F S (fun x => (F x).isSome) [] gz (0, 0, 0)) := Lib.hid ⟨.inl ⟨rfl, rfl⟩, fun k g e hl => by
    have hl2 : (F k).isSome = false := hl
    rw [e] at hl2
    cases hl2⟩
  clear h hk hb hb2 hmap
  have HW2 := Lib.hid hW2
  have HGZ := Lib.hid hgz
  have HGVE := Lib.hid hgv
  have HRE := Lib.hid hr
  clear hW2 hgz hgv hr
  go_enter Tryd.func40, Tryd.ntmps40
  go_wp2_with (at_range; refine wpList_rangeC rfl _ rfl b n F rfl HM.out ?_; intro w1 cnt0 hr0 hg0 hs0)
  go_frame
  rw [← HW2.out] at hr0 hg0 ⊢
  rw [← HRE.out] at hr0 ⊢
  rw [← HGVE.out, ← HGZ.out]
  have HC1 := Lib.hid (HC.out.kept hg0 (fun j e => by cases e))
  have HKP1 := Lib.hid (HKP.out.trans (Kp.grown hg0 HC.out.cen.los (fun j e => by cases e) (fun j cs fr e => by cases e)))
  have HGV1 := Lib.hid (HGV.out.grown hg0 (by simp))
  have HZ1 : Hid (Cd w1 gz [] (0, 0, 0)) := Lib.hid (Blk.grown HZ.out hg0 (by simp))
  have HCR1 := Lib.hid hr0
  clear hr0 hg0 hs0 HC HKP HGV HZ HM c0 hgl
  go_loopw [6] (fun _ wr => ∃ left cnt t gb st, Hid (CR wr b r n F left cnt) ∧ Hid (CenS wr lo gc b n F S V) ∧ Hid (Kp lo w wr) ∧ Hid (Blk wr gv 74 #[.pointer (some ⟨gb, 0, none⟩)]) ∧ Hid (Cd wr gb t st) ∧ Hid (BestSo F S left t gb st)) (fun _ w' => w'.rangeLeft b r)
  case atStart => exact ⟨_, _, _, _, _, HCR1, HC1, HKP1, HGV1, HZ1, HB0⟩
  case round =>
    clear HCR1 HC1 HKP1 HGV1 HZ1 HB0
    obtain ⟨left, cnt, t, gb, st, HCR, HC, HKP, HGV, HCD, HBS⟩ := hrel
    go_wp2_with (at_next; refine wpList_nextC rfl _ rfl b r n F left cnt rfl HCR.out ?_ ?_)
    · intro hc0 hl0
      have HEND : Hid (BestSo F S (fun _ => false) t gb st) := Lib.hid ⟨HBS.out.1, fun k g e _ => HBS.out.2 k g e (hl0 k)⟩
      have cv := HGV.out.cell 0
      simp at cv
      clear hc0 hl0
      try go_frame
      go_wp2_with fail
      go_ret
      exact ⟨gb, t, st, rfl, HCD.out, HC.out, HKP.out, HEND.out⟩
    · intro s g w2 cnt2 hF hl hcr hlt hgr hsz hen
      obtain ⟨k, hk⟩ : ∃ k, k = s.data.toList := ⟨_, rfl⟩
      have hit : It wr r := HCR.out.isIter
      rw [← hk] at hF hcr
      have HC2 := Lib.hid (HC.out.iter hit hgr)
      have HKP2 := Lib.hid (HKP.out.trans (Kp.iter hit HLO.out.2 HC.out.cen.los hgr))
      have HGV2 := Lib.hid (HGV.out.iter hit hgr)
      have HCD2 : Hid (Cd w2 gb t st) := Lib.hid (Blk.iter HCD.out hit hgr)
      have HCR2 := Lib.hid hcr
      have HF := Lib.hid hF
      have HCK := Lib.hid (HC2.out.cen.cd k g hF)
      have HBK := Lib.hid (HB.out k g hF)
      have HKK := Lib.hid (HK.out k g hF)
      have HCNT : Hid (cnt2 < cnt) := Lib.hid hlt
      have HLE := Lib.hid HCR.out.left_eq
      have HT : Hid (t.length ≤ 8 ∧ -1000000 ≤ st.1 ∧ st.1 ≤ 1000000) := Lib.hid (by
        rcases HBS.out.1 with ⟨h1, h2⟩ | ⟨h1, h2⟩
        · rw [h1, h2]; exact ⟨by simp, by decide, by decide⟩
        · rw [h2]; exact ⟨HK.out t gb h1, HB.out t gb h1⟩)
      have cv := HGV2.out.cell 0
      simp at cv
      have CV := Lib.hid cv
      have fv := Blk.frozen HGV2.out 0
      clear hF hl hcr hlt hgr hsz hk hit HC HKP HGV HCD HCR
      try go_frame
      go_wp2_with fail
      obtain ⟨sk, hsk⟩ : ∃ sk, sk = S k := ⟨_, rfl⟩
      have HSK := Lib.hid hsk
      rw [← hsk] at HCK HBK
      obtain ⟨c, pt, f⟩ := sk
      obtain ⟨c', pt', f'⟩ := st
      clear hsk hen
      refine (better_any w2 g gb gv k t c pt f c' pt' f' HCK.out.2 HCD2.out CV.out HKK.out HT.out.1 HBK.out.1 HBK.out.2 HT.out.2.1 HT.out.2.2).mono ?_
      rintro e w3 ⟨q, rfl, hq, nq, rfl⟩
      have HQ := Lib.hid hq
      rw [HSK.out] at HQ
      have HC3 := Lib.hid (HC2.out.keptBelow (below_drewN (Below.refl _ _) nq))
      have HKP3 := Lib.hid (HKP2.out.trans (Kp.of_below (below_drewN (Below.refl w2.heap.size w2) nq) HC2.out.cen.los))
      have HGV3 : Hid (Blk (w2.drewN nq) gv 74 #[.pointer (some ⟨gb, 0, none⟩)]) := Lib.hid (HGV2.out.below (below_drewN (Below.refl w2.heap.size w2) nq) HGV2.out.lt)
      have HCD3 := Lib.hid (HCD2.out.drew nq)
      have HCK3 := Lib.hid (HCK.out.2.drew nq)
      have HCR3 := Lib.hid (HCR2.out.drew nq)
      have fv3 := Blk.frozen HGV3.out 0
      have cv3 : (w2.drewN nq).cell? ⟨gv, 0, none⟩ = some (.pointer (some ⟨gb, 0, none⟩)) := HGV3.out.cell 0
      clear hq HC2 HKP2 HGV2 HCD2 HCK HCR2 fv cv CV
      generalize w2.drewN nq = w4 at *
      cases q with
      | false =>
        have HBS4 := Lib.hid (HBS.out.no (k := k) (fun h => by have := HQ.out.2 h; cases this))
        clear HBS HQ
        go_wp2_with fail
        go_roundw
        case rel => exact ⟨_, _, _, _, _, HCR3, HC3, HKP3, HGV3, HCD3, HBS4⟩
        case measure => rw [HCR3.out.left_eq, HLE.out]; exact HCNT.out
      | true =>
        have hb4 := HBS.out.yes HF.out (HQ.out.1 rfl)
        rw [← HSK.out] at hb4
        have HBS4 := Lib.hid hb4
        have hg4 : w4.grownBy (w4.setCell ⟨gv, 0, none⟩ (.pointer (some ⟨g, 0, none⟩))) (some gv) := gb_set (gb_below (Below.refl w4.heap.size w4) (some gv)) 0 _
        have HC4 := Lib.hid (HC3.out.tag HGV3.out (by decide) (by decide) hg4)
        have HKP4 := Lib.hid (HKP3.out.trans (Kp.tag HGV3.out (by decide) HLO.out.1 HC3.out.cen.los hg4))
        have HGV4 : Hid (Blk (w4.setCell ⟨gv, 0, none⟩ (.pointer (some ⟨g, 0, none⟩))) gv 74 #[.pointer (some ⟨g, 0, none⟩)]) := Lib.hid (by simpa using HGV3.out.set_ 0 (.pointer (some ⟨g, 0, none⟩)))
        have hne : ∀ {i : Nat} {m s c' x}, w4.heap[i]? = some (.mapIter m s c' x) → some i ≠ some gv := fun h e => by
          injection e with e
          subst e
          have h2 := HGV3.out
          unfold Blk at h2
          rw [h] at h2
          cases h2
        have HCD4 : Hid (Cd (w4.setCell ⟨gv, 0, none⟩ (.pointer (some ⟨g, 0, none⟩))) g k (c, pt, f)) := Lib.hid (Blk.grown HCK3.out hg4 (some_ne (fun e => by
          subst e
          have h2 := HGV3.out
          have h3 := HCK3.out
          unfold Cd Blk at h3
          unfold Blk at h2
          rw [h2] at h3
          injection h3 with h3
          injection h3 with _ h3
          exact absurd h3 (by decide))))
        have HCR4 := Lib.hid (HCR3.out.kept hg4 (some_ne (HC3.out.cen.mapne HGV3.out)) (by
          obtain ⟨m, s, c', x, h⟩ := HCR3.out.isIter
          exact hne h))
        clear HBS HQ hb4 hg4 hne
        go_wp2_with fail
        go_roundw
        case rel => exact ⟨_, _, _, _, _, HCR4, HC4, HKP4, HGV4, HCD4, HBS4⟩
        case measure => rw [HCR4.out.left_eq, HLE.out]; exact HCNT.out

theorem CR.cnt_le {w : World} {b r n : Nat} {F : List UInt8 → Option Nat} {left : List UInt8 → Bool} {cnt : Nat} (h : CR w b r n F left cnt) : cnt ≤ n := by
  obtain ⟨D, lf, ⟨es, clock, since, seen, c0, _, _, hs, _, _, _, hc, _⟩, _⟩ := h
  rw [← hc]
  unfold leftOf
  exact Nat.le_trans (Array.size_filter_le) hs

theorem tot_take {ls : List (List UInt8)} {j : Nat} (h : j < ls.length) : tot (ls.take (j + 1)) = tot (ls.take j) + (ls[j]?.getD []).length := by
  rw [List.take_succ_eq_append_getElem h, tot_append]
  simp [tot, h]

theorem cnt_le_tot {row : List UInt8} (hr : row ≠ []) (ls : List (List UInt8)) : cnt row ls ≤ tot ls := by
  induction ls with
  | nil => exact Nat.le_refl _
  | cons p ls ih =>
    rw [cnt_cons, tot_cons]
    have h := cntA_le row hr p.length p (Nat.le_refl _)
    show cntA row p + _ ≤ _
    omega

theorem tot_take_le (ls : List (List UInt8)) (j : Nat) : tot (ls.take j) ≤ tot ls := by
  have e : tot ls = tot (ls.take j) + tot (ls.drop j) := by rw [← tot_append, List.take_append_drop]
  omega

/-- a row of this length may be counted: its beginning is a candidate -/
def okp (len : Nat) (F : List UInt8 → Option Nat) (k : List UInt8) : Prop := len = 2 ∨ ∃ g, F (k.take (len - 1)) = some g

/-- the substrings' map, j parts gone through -/
def SubJ (len : Nat) (F : List UInt8 → Option Nat) (ls : List (List UInt8)) (j : Nat) (V : Int) (F2 : List UInt8 → Option Nat) (S2 : List UInt8 → Int × Int × Int) : Prop :=
  (∀ k g, F2 k = some g → k.length = len ∧ okp len F k) ∧
  (∀ k, k.length = len → okp len F k → (S2 k).1 = (cnt k (ls.take j) : Int) ∧ (S2 k).2.1 ≤ V ∧ (F2 k = none → S2 k = (0, 0, 0)))

/-- .. and of part p so many places -/
def SubI (len : Nat) (F : List UInt8 → Option Nat) (p : List UInt8) (i : Nat) (V : Int) (F2 : List UInt8 → Option Nat) (S0 : List UInt8 → Int × Int × Int) : Prop :=
  (∀ k g, F2 k = some g → k.length = len ∧ okp len F k) ∧ (∀ k, k.length = len → okp len F k → F2 k = none → scS S0 V 1 p i k = (0, 0, 0))

theorem SubJ.start (len : Nat) (F : List UInt8 → Option Nat) (ls : List (List UInt8)) {V : Int} (hV : 0 ≤ V) : SubJ len F ls 0 V (fun _ => none) (fun _ => (0, 0, 0)) :=
  ⟨fun k g h => by simp at h, fun k _ _ => ⟨by simp [cnt], hV, fun _ => rfl⟩⟩

theorem SubJ.part {len : Nat} {F : List UInt8 → Option Nat} {ls : List (List UInt8)} {j : Nat} {V : Int} {F2 : List UInt8 → Option Nat} {S2 : List UInt8 → Int × Int × Int} (h : SubJ len F ls j V F2 S2) (p : List UInt8) : SubI len F p 0 (V + 1) F2 S2 :=
  ⟨h.1, fun k hk ho hn => by rw [scS_zero]; exact (h.2 k hk ho).2.2 hn⟩

theorem SubI.done {len : Nat} {F : List UInt8 → Option Nat} {ls : List (List UInt8)} {j i : Nat} {V : Int} {F0 F2 : List UInt8 → Option Nat} {S2 : List UInt8 → Int × Int × Int} (h0 : SubJ len F ls j V F0 S2) (hj : j < ls.length) (hl : 2 ≤ len)
    (hi : (ls[j]?.getD []).length < i + len) (h : SubI len F (ls[j]?.getD []) i (V + 1) F2 S2) : SubJ len F ls (j + 1) (V + 1) F2 (scS S2 (V + 1) 1 (ls[j]?.getD []) i) := by
  refine ⟨h.1, fun k hk ho => ⟨?_, scS_part (by have := (h0.2 k hk ho).2.1; omega), h.2 k hk ho⟩⟩
  have hk0 : k ≠ [] := by intro e; rw [e, List.length_nil] at hk; omega
  rw [scS_count, (h0.2 k hk ho).1, scan_all hk0 _ _ (by rw [hk]; exact hi), cnt_take hj]
  omega

section
variable {len : Nat} {F : List UInt8 → Option Nat} {p : List UInt8} {i : Nat} {V : Int} {F2 : List UInt8 → Option Nat} {S0 : List UInt8 → Int × Int × Int}

theorem SubI.skip (h : SubI len F p i V F2 S0) (hn : ∀ k, k.length = len → okp len F k → isPre k (p.drop i) = false) : SubI len F p (i + 1) V F2 S0 :=
  ⟨h.1, fun k hk ho hn2 => by rw [scS_skip (hn k hk ho)]; exact h.2 k hk ho hn2⟩

theorem SubI.same (h : SubI len F p i V F2 S0) (hn : ∀ k, k.length = len → okp len F k → isPre k (p.drop i) = false) (k : List UInt8) (g : Nat) (hk : F2 k = some g) : scS S0 V 1 p i k = scS S0 V 1 p (i + 1) k :=
  (scS_skip (hn k (h.1 k g hk).1 (h.1 k g hk).2)).symm

theorem not_okp {t : List UInt8} (ht : t = (p.drop i).take len) (ho : ¬ okp len F t) (k : List UInt8) (hk : k.length = len) (hok : okp len F k) : isPre k (p.drop i) = false := by
  rw [Bool.eq_false_iff]
  intro hc
  have e := isPre_iff.1 hc
  rw [hk, ← ht] at e
  subst e
  exact ho hok

theorem SubI.found {t : List UInt8} {g : Nat} (h : SubI len F p i V F2 S0) (ht : t = (p.drop i).take len) (hg : F2 t = some g) : SubI len F p (i + 1) V F2 S0 := by
  refine ⟨h.1, fun k hk ho hn => ?_⟩
  rw [scS_skip, h.2 k hk ho hn]
  rw [Bool.eq_false_iff]
  intro hc
  have e := isPre_iff.1 hc
  rw [hk, ← ht] at e
  rw [← e, hg] at hn
  cases hn

theorem SubI.made {t : List UInt8} {g : Nat} (h : SubI len F p i V F2 S0) (hl : t.length = len) (ho : okp len F t) : SubI len F p i V (putF F2 t g) S0 := by
  refine ⟨fun k g' hk => ?_, fun k hk hok hn => ?_⟩
  · unfold putF at hk
    by_cases e : k = t
    · subst e; exact ⟨hl, ho⟩
    · rw [if_neg e] at hk; exact h.1 k g' hk
  · unfold putF at hn
    by_cases e : k = t
    · rw [if_pos e] at hn; cases hn
    · rw [if_neg e] at hn; exact h.2 k hk hok hn

theorem putF_self (k : List UInt8) (g : Nat) : putF F k g k = some g := by unfold putF; rw [if_pos rfl]

theorem SubI.put {t : List UInt8} (h : SubI len F p i V F2 S0) (hl : t.length = len) (ho : okp len F t) (hn : F2 t = none) (k : List UInt8) : updS (scS S0 V 1 p i) t (0, 0, 0) k = scS S0 V 1 p i k := by
  unfold updS
  by_cases e : k = t
  · subst e; rw [if_pos rfl, h.2 k hl ho hn]
  · rw [if_neg e]

theorem SubI.meet {t : List UInt8} (hS : (S0 t).2.1 < V) (ht : t = (p.drop i).take len) (hl : t.length = len) (h : SubI len F p i V F2 S0) (k : List UInt8) (g : Nat) (hk : F2 k = some g) :
    updS (scS S0 V 1 p i) t (mt V (i : Int) 1 t (scS S0 V 1 p i t)) k = scS S0 V 1 p (i + 1) k := by
  have htp : isPre t (p.drop i) = true := isPre_iff.2 (by rw [hl]; exact ht.symm)
  unfold updS
  by_cases e : k = t
  · subst e; rw [if_pos rfl]; exact scS_step hS htp
  · rw [if_neg e]
    refine (scS_skip ?_).symm
    rw [Bool.eq_false_iff]
    intro hc
    have e2 := isPre_iff.1 hc
    rw [(h.1 k g hk).1, ← ht] at e2
    exact e e2.symm
end

theorem CenS.old {w w' : World} {lo gc b n j lo2 : Nat} {F : List UInt8 → Option Nat} {S : List UInt8 → Int × Int × Int} {V : Int} (h : CenS w lo gc b n F S V) (hg : w.grownBy w' (some j)) (hj : lo2 ≤ j) (hl : b < lo2 ∧ gc < lo2 ∧ ∀ k g, F k = some g → g < lo2) : CenS w' lo gc b n F S V :=
  ⟨h.cen.far hg (by omega) (fun k g e => by have := hl.2.2 k g e; omega), h.lo, h.blk.grown hg (some_ne (by omega))⟩

theorem CenS.lts {w : World} {lo gc b n : Nat} {F : List UInt8 → Option Nat} {S : List UInt8 → Int × Int × Int} {V : Int} (h : CenS w lo gc b n F S V) : b < w.heap.size ∧ gc < w.heap.size ∧ ∀ k g, F k = some g → g < w.heap.size :=
  ⟨h.cen.map.lt, h.blk.lt, fun k g e => (h.cen.cd k g e).2.lt⟩

set_option maxRecDepth 100000 in
set_option maxHeartbeats 12800000 in
theorem ofLength_any (w : World) (lo gc b n : Nat) (F : List UInt8 → Option Nat) (S : List UInt8 → Int × Int × Int) (V : Int) (A : Option Addr) (np cp : Nat) (ls : List (List UInt8)) (len : Nat) (h : CenS w lo gc b n F S V) (hr : RdS w lo A np ls)
    (ht : np + tot ls ≤ 10000) (h2 : 2 ≤ len) (h8 : (len : Int) ≤ 8) (hV0 : 0 ≤ V) (hV1 : V ≤ 200000) :
    Calls Tryd.prog 64 #[.pointer (some ⟨gc, 0, none⟩), .slice A np cp, .int .i64 len] w fun e w' => ∃ b2 n2 F2 S2, e = .returned (.map (some b2)) ∧ Cen w' w.heap.size b2 n2 F2 S2 ∧ n2 ≤ 10000 ∧
      CenS w' lo gc b n F S (V + np) ∧ Kp lo w w' ∧ SubJ len F ls np (V + np) F2 S2 := by
  have hmm := @run_makeMap Tryd.prog
  have H := Lib.hid h
  have HL := Lib.hid hr.1
  have HR := Lib.hid hr
  have HTT := Lib.hid ht
  obtain ⟨lo2, hlo2⟩ : ∃ lo2, lo2 = w.heap.size := ⟨_, rfl⟩
  have HLO2 := Lib.hid hlo2
  have HLT : Hid (b < lo2 ∧ gc < lo2 ∧ ∀ k g, F k = some g → g < lo2) := Lib.hid (by rw [hlo2]; exact h.lts)
  have HLL : Hid (lo ≤ lo2) := Lib.hid (by rw [hlo2]; exact h.cen.los)
  obtain ⟨W1, hW1⟩ : ∃ W1, W1 = w.alloc (.map #[] 0) := ⟨_, rfl⟩
  have hb1 : Below w.heap.size w W1 := by rw [hW1]; exact (Below.refl _ w).alloc (Nat.le_refl _) _
  have HC0 : Hid (Cen W1 lo2 lo2 0 (fun _ => none) (fun _ => (0, 0, 0))) := Lib.hid (by
    rw [hlo2, hW1]
    exact ⟨CM.made w, Nat.le_refl _, by simp, fun k g e => by cases e⟩)
  have HS0 := Lib.hid (H.out.keptBelow hb1)
  have HK0 := Lib.hid (Kp.of_below hb1 H.out.cen.los)
  have HJ0 : Hid (SubJ len F ls 0 (V + ((0 : Nat) : Int)) (fun _ => none) (fun _ => (0, 0, 0))) := Lib.hid (SubJ.start len F ls (by omega))
  have HS0' : Hid (CenS W1 lo gc b n F S (V + ((0 : Nat) : Int))) := Lib.hid (by simpa using HS0.out)
  have HN0 : Hid (0 ≤ tot (ls.take 0)) := Lib.hid (Nat.zero_le _)
  have HW1 := Lib.hid hW1
  obtain ⟨b2, hb2⟩ : ∃ b2, b2 = lo2 := ⟨_, rfl⟩
  have HB2 := Lib.hid hb2
  have HC1 : Hid (Cen W1 lo2 b2 0 (fun _ => none) (fun _ => (0, 0, 0))) := Lib.hid (by rw [HB2.out]; exact HC0.out)
  have hsh := short_tot (Nat.le_trans (Nat.le_add_left _ _) ht)
  have HSH := Lib.hid hsh
  have hnp : (np : Int) ≤ 10000 := by omega
  clear h hr ht hlo2 hW1 hb1 HC0 HS0 hb2 hsh
  go_enter Tryd.func64, Tryd.ntmps64
  go_wp2_with fail
  try go_frame
  rw [← HW1.out, ← HLO2.out, ← HB2.out]
  go_loopw [16] (fun i wr => ∃ (j n2 : Nat) (F2 : List UInt8 → Option Nat) (S2 : List UInt8 → Int × Int × Int), j ≤ np ∧ i = .int .i64 j ∧ Hid (n2 ≤ tot (ls.take j)) ∧ Hid (Cen wr lo2 b2 n2 F2 S2) ∧ Hid (CenS wr lo gc b n F S (V + j)) ∧ Hid (Kp lo w wr) ∧ Hid (SubJ len F ls j (V + j) F2 S2)) (fun i _ => np - (intOf i).toNat)
  case atStart => exact ⟨0, 0, _, _, by omega, rfl, HN0, HC1, HS0', HK0, HJ0⟩
  case round =>
    clear HN0 HC1 HS0' HK0 HJ0
    obtain ⟨j, n2, F2, S2, hj, rfl, HN, HC, HS, HK, HJ⟩ := hrel
    by_cases hlt : j < np
    · obtain ⟨ad, rfl, hab, hcell⟩ := HR.out.2 (by omega)
      have hc : wr.cell? (ad.add j) = some (.string (bs (ls[j]?.getD []))) := (HK.out.below.cell (p := ad.add j) (by rw [blk_add]; omega)).trans (hcell j (by rw [HL.out]; exact hlt))
      obtain ⟨P, hP⟩ : ∃ P, P = bs (ls[j]?.getD []) := ⟨_, rfl⟩
      have hPl : P.data.toList = ls[j]?.getD [] := by rw [hP, data_bs]
      have hPs : (P.size : Int) ≤ 10000 := by rw [hP, bs_size]; have := HSH.out j; omega
      have hpl : P.data.toList.length = P.size := by rw [Array.length_toList]; rfl
      rw [← hP] at hc
      have HPE := Lib.hid hPl
      have HPL := Lib.hid hpl
      have c1 := HS.out.blk.cell 1
      have f1 := HS.out.blk.frozen 1
      simp at c1
      obtain ⟨V0, hV0'⟩ : ∃ V0 : Int, V0 = V + j := ⟨_, rfl⟩
      obtain ⟨V', hV'⟩ : ∃ V' : Int, V' = V0 + 1 := ⟨_, rfl⟩
      have HVV : Hid (V + ((j + 1 : Nat) : Int) = V') := Lib.hid (by omega)
      have hVb : 0 ≤ V' ∧ V' ≤ 300000 := by omega
      have b1 : IntKind.i64.wrap (V0 + 1) = V0 + 1 := IntWalk.i64_in _ (by omega)
      rw [← hV0'] at c1 HS HJ
      rw [← hV'] at b1
      have HS1 : Hid (CenS (wr.setCell ⟨gc, 1, none⟩ (.int .i64 V')) lo gc b n F S V') := Lib.hid (HS.out.next _)
      have HK1 := Lib.hid (HK.out.trans (HS.out.kpNext V'))
      have HC1 : Hid (Cen (wr.setCell ⟨gc, 1, none⟩ (.int .i64 V')) lo2 b2 n2 F2 S2) := Lib.hid (HC.out.far (gb_set (gb_below (Below.refl _ wr) (some gc)) 1 _) (HC.out.mapne HS.out.blk) (fun k g e => by have := (HC.out.cd k g e).1; have := HLT.out.2.1; omega))
      have HI1 : Hid (SubI len F P.data.toList 0 V' F2 S2) := Lib.hid (by rw [hV']; exact HJ.out.part _)
      have HJ1 : Hid (∀ (i : Nat) (F3 : List UInt8 → Option Nat), P.size < i + len → SubI len F P.data.toList i V' F3 S2 → SubJ len F ls (j + 1) V' F3 (scS S2 V' 1 P.data.toList i)) := Lib.hid (fun i F3 hi h => by
        rw [hPl, hV'] at h ⊢
        exact SubI.done HJ.out (by rw [HL.out]; exact hlt) h2 (by rw [← hPl, hpl]; exact hi) h)
      have HS2V : Hid (∀ k, k.length = len → okp len F k → (S2 k).2.1 < V' ∧ -10000 ≤ (S2 k).1 ∧ (S2 k).1 ≤ 10000) := Lib.hid (fun k hk ho => by
        obtain ⟨h1, h3, _⟩ := HJ.out.2 k hk ho
        have hk0 : k ≠ [] := by intro e; rw [e, List.length_nil] at hk; omega
        have h4 := cnt_le_tot hk0 (ls.take j)
        have h5 := tot_take_le ls j
        have h6 := HTT.out
        refine ⟨by omega, ?_, ?_⟩ <;> omega)
      have HTK : Hid (tot (ls.take (j + 1)) = tot (ls.take j) + P.size) := Lib.hid (by rw [tot_take (by rw [HL.out]; exact hlt), ← hPl, hpl])
      clear hcell hP hPl hpl hV0' HS HK HC HJ
      go_wp2_with fail
      have h1' : (V0 : Int) + 1 = V' := hV'.symm
      try rw [h1']
      try rw [b1]
      generalize wr.setCell ⟨gc, 1, none⟩ (.int .i64 V') = w1 at *
      clear c1 f1 b1 hV' h1' hc
      go_loopw [32] (fun ev wi => ∃ (i n3 : Nat) (F3 : List UInt8 → Option Nat), ev = .int .i64 i ∧ i ≤ P.size ∧ (i + len ≤ P.size + 1 ∨ i = 0) ∧ n3 ≤ n2 + i ∧ Hid (Cen wi lo2 b2 n3 F3 (scS S2 V' 1 P.data.toList i)) ∧ Hid (CenS wi lo gc b n F S V') ∧ Hid (Kp lo w wi) ∧ Hid (SubI len F P.data.toList i V' F3 S2)) (fun ev _ => P.size + 1 - (intOf ev).toNat)
      case atStart => exact ⟨0, n2, F2, rfl, by omega, .inr rfl, by omega, Lib.hid (HC1.out.congr fun _ _ _ => scS_zero.symm), HS1, HK1, HI1⟩
      case round =>
        clear HC1 HS1 HK1 HI1
        obtain ⟨i, n3, F3, rfl, hi, hil, hn3, HC, HS, HK, HI⟩ := hrel
        by_cases hlt2 : i + len ≤ P.size
        · have hXs : (P.extract i (i + len)).size = len := by rw [ByteArray.size_extract]; omega
          have hext := ext_take P i (i + len)
          rw [Nat.add_sub_cancel_left] at hext
          obtain ⟨t, ht⟩ : ∃ t, t = (P.data.toList.drop i).take len := ⟨_, rfl⟩
          rw [← ht] at hext
          have HT := Lib.hid ht
          have c0 := HS.out.blk.cell 0
          simp at c0
          have hn3b : n3 ≤ 20000 := by have := HN.out; have := tot_take_le ls j; have := HTT.out; omega
          clear ht
          go_wp2_with fail
          obtain ⟨X, hX⟩ : ∃ X, X = P.extract i (i + len) := ⟨_, rfl⟩
          try rw [← hX]
          rw [← hX] at hext hXs
          have HTL : Hid (t.length = len) := Lib.hid (by rw [← hext, Array.length_toList]; exact hXs)
          have HTN : Hid (t ≠ []) := Lib.hid (by intro e; have := HTL.out; rw [e, List.length_nil] at this; omega)
          have HXB : Hid (X = bs t) := Lib.hid (by rw [← hext, bs_data])
          have HXS := Lib.hid hXs
          have HEX := Lib.hid hext
          obtain ⟨m, hm⟩ : ∃ m : Nat, m + 1 = len := ⟨len - 1, by omega⟩
          have hmi : (len : Int) - 1 = (m : Int) := by omega
          have i1 : 0 ≤ (m : Int) ∧ (m : Int) ≤ (X.size : Int) := by omega
          have hmx : (X.extract 0 m).data.toList = t.take (len - 1) := by rw [ext_take, hext, List.drop_zero]; congr 1; omega
          have hmz : (X.extract 0 m).size ≤ maxLen := by rw [ByteArray.size_extract]; unfold maxLen; omega
          have HM1 : Hid (m + 1 = len) := Lib.hid hm
          have HEXT := Lib.hid hX
          clear hX hext hm
          by_cases hok : okp len F t
          · have HOK := Lib.hid hok
            have hcase : ((len : Int) ≤ 2) ∨ (2 < (len : Int) ∧ ∃ g, F (t.take (len - 1)) = some g) := by
              rcases hok with h | h
              · exact .inl (by omega)
              · by_cases e : len = 2
                · exact .inl (by omega)
                · exact .inr ⟨by omega, h⟩
            clear hok
            rcases hcase with e2 | ⟨e2, g0, hg0⟩
            all_goals first
              | (have hlk : ∀ nq, (Instr.lookup 70 (.map (some b)) (.string (X.extract 0 m)) false).run Tryd.prog (wr.drewN nq) = .ok (.pointer (some ⟨g0, 0, none⟩)) (wr.drewN nq) := fun nq => by
                  have := (HS.out.cen.map.drew nq).lookup (X.extract 0 m) hmz
                  rw [hmx, hg0] at this
                  exact this
                 have hd : decide ((2 : Int) < (len : Int)) = true := decide_eq_true (by omega)
                 clear hg0)
              | (have hlk : True := trivial
                 have hd : decide ((2 : Int) < (len : Int)) = false := decide_eq_false (by omega))
            all_goals
              clear hmx hmz
              go_quiet (fail)
              have HC3 := Lib.hid (HC.out.keptBelow (below_drewN (Below.refl _ _) nq))
              have HS3 := Lib.hid (HS.out.keptBelow (below_drewN (Below.refl _ _) nq))
              have HK3 := Lib.hid (HK.out.trans (Kp.of_below (below_drewN (Below.refl wr.heap.size wr) nq) HS.out.cen.los))
              clear c0 hlk HC HS HK
              generalize wr.drewN nq = w5 at *
              have HM3 := Lib.hid HC3.out.map
              have hxz : X.size ≤ maxLen := by rw [HXS.out]; unfold maxLen; omega
              have hlu := HC3.out.map.lookup X hxz
              rw [HEX.out] at hlu
              cases hF : F3 t with
              | some g =>
                rw [hF] at hlu
                have HF := Lib.hid hF
                clear hF hxz
                have c1 := HS3.out.blk.cell 1
                simp at c1
                have HCD := Lib.hid (HC3.out.cd t g HF.out)
                have HMT := Lib.hid (fun k g' hk => SubI.meet (V := V') (HS2V.out t HTL.out HOK.out).1 HT.out HTL.out HI.out k g' hk)
                have HBD : Hid (-1000000000 ≤ (scS S2 V' 1 P.data.toList i t).1 ∧ (scS S2 V' 1 P.data.toList i t).1 ≤ 1000000000) := Lib.hid (by
                  have h1 := HS2V.out t HTL.out HOK.out
                  have h3 := HPL.out
                  have h4 := (scan_le (p := P.data.toList) HTN.out i).2.2
                  rw [scS_count]
                  constructor <;> omega)
                have HI9 := Lib.hid (HI.out.found HT.out HF.out)
                obtain ⟨x, hx⟩ : ∃ x, x = scS S2 V' 1 P.data.toList i t := ⟨_, rfl⟩
                rw [← hx] at HMT HBD HCD
                obtain ⟨c, pt, f⟩ := x
                have htl : (t.length : Int) ≤ 1000 := by have := HTL.out; omega
                clear hx
                go_wp2_with fail
                refine (meet_any w5 g t c pt f V' i 1 HCD.out.2 htl (by omega) (by omega) HBD.out.1 HBD.out.2 (by omega) (by omega)).mono ?_
                rintro e2 w9 ⟨rfl, hg9, hc9⟩
                have HC9 := Lib.hid ((HC3.out.turn HF.out hg9 hc9).congr HMT.out)
                have HS9 := Lib.hid (HS3.out.old hg9 HCD.out.1 HLT.out)
                have HK9 := Lib.hid (HK3.out.trans (Kp.tag HCD.out.2 (by decide) (Nat.le_trans HLL.out HCD.out.1) HS3.out.cen.los hg9))
                clear hg9 hc9 c1 HCD HMT HBD
                go_wp2_with fail
                go_roundw
                case rel => exact ⟨i + 1, n3, F3, by go_num, by omega, by omega, by omega, HC9, HS9, HK9, HI9⟩
                case measure => simp [intOf]; omega
              | none =>
                rw [hF] at hlu
                have HF := Lib.hid hF
                have hx1 : (X.size : Int) ≤ 100000 := by rw [HXS.out]; omega
                clear hF hxz
                go_wp2_with fail
                refine (cost_any w5 X hx1).mono ?_
                rintro e4 w6 ⟨rfl, hb6⟩
                rw [HEX.out]
                have HC6 := Lib.hid (HC3.out.keptBelow hb6)
                have HS6 := Lib.hid (HS3.out.keptBelow hb6)
                have HK6 := Lib.hid (HK3.out.trans (Kp.of_below hb6 HS3.out.cen.los))
                obtain ⟨g, hg⟩ : ∃ g, g = w6.heap.size := ⟨_, rfl⟩
                obtain ⟨w7, hw7⟩ : ∃ w7, w7 = w6.alloc (.cells #[.string X, .int .i64 ((costL t : Nat) : Int), .int .i64 0, .int .i64 0, .int .i64 0] 79) := ⟨_, rfl⟩
                have hb7 : Below w6.heap.size w6 w7 := by rw [hw7]; exact (Below.refl _ w6).alloc (Nat.le_refl _) _
                have HC7 := Lib.hid (HC6.out.keptBelow hb7)
                have HS7 := Lib.hid (HS6.out.keptBelow hb7)
                have HK7 := Lib.hid (HK6.out.trans (Kp.of_below hb7 HS6.out.cen.los))
                have HCD7 : Hid (Cd w7 g t (0, 0, 0)) := Lib.hid (by
                  unfold Cd
                  rw [hw7, hg, ← HXB.out]
                  exact Blk.new w6 _ _)
                have HG7 : Hid (lo2 ≤ g) := Lib.hid (by rw [hg]; exact HC6.out.los)
                have hcm7 : CM (w6.alloc (.cells #[.string X, .int .i64 ((costL t : Nat) : Int), .int .i64 0, .int .i64 0, .int .i64 0] 79)) b2 n3 F3 := by rw [← hw7]; exact HC7.out.map
                have HM7 := Lib.hid hcm7
                have HGE := Lib.hid hg
                have HW7 := Lib.hid hw7
                have HCL : Hid (∀ v, (w6.alloc (.cells #[.string X, .int .i64 ((costL t : Nat) : Int), .int .i64 0, .int .i64 0, .int .i64 0] 79)).grownBy v (some b2) → v.cell? ⟨gc, 1, none⟩ = some (.int .i64 V')) := Lib.hid (fun v hv => by
                  rw [← hw7] at hv
                  exact (HS7.out.old hv HC7.out.lob HLT.out).blk.cell 1)
                clear hb6 hb7 hg hw7 hcm7 hlu hx1 HC3 HS3 HK3 HM3
                go_wp2_with (at_mapUpdate; refine wpList_putC rfl _ _ _ rfl b2 n3 F3 rfl HM7.out (by unfold maxLen; omega) X (by rw [HXS.out]; unfold maxLen; omega) _ rfl rfl ?_; intro w8 hcm8 hg8; have c1 := HCL.out w8 hg8)
                try go_frame
                rw [← HW7.out] at hg8
                rw [← HGE.out, HEX.out] at hcm8
                try rw [← HGE.out]
                have HC8 := Lib.hid ((HC7.out.put hcm8 hg8 HG7.out HCD7.out).congr (fun k g' _ => HI.out.put HTL.out HOK.out HF.out k))
                have HS8 := Lib.hid (HS7.out.old hg8 HC7.out.lob HLT.out)
                have HK8 := Lib.hid (HK7.out.trans (Kp.grown hg8 HS7.out.cen.los (fun j e => by injection e with e; subst e; exact Nat.le_trans HLL.out HC7.out.lob) (fun j cs fr e e5 => by injection e with e; subst e; exact HC7.out.mapne e5 rfl)))
                have HI8 := Lib.hid (HI.out.made (g := g) HTL.out HOK.out)
                have HF8 : Hid (putF F3 t g t = some g) := Lib.hid (putF_self t g)
                clear hcm8 hg8 HC7 HS7 HK7 HCD7
                have HCD := Lib.hid (HC8.out.cd t g HF8.out)
                have HMT := Lib.hid (fun k g' hk => SubI.meet (V := V') (HS2V.out t HTL.out HOK.out).1 HT.out HTL.out HI8.out k g' hk)
                have HBD : Hid (-1000000000 ≤ (scS S2 V' 1 P.data.toList i t).1 ∧ (scS S2 V' 1 P.data.toList i t).1 ≤ 1000000000) := Lib.hid (by
                  have h1 := HS2V.out t HTL.out HOK.out
                  have h3 := HPL.out
                  have h4 := (scan_le (p := P.data.toList) HTN.out i).2.2
                  rw [scS_count]
                  constructor <;> omega)
                have HI9 := Lib.hid (HI8.out.found HT.out HF8.out)
                obtain ⟨x, hx⟩ : ∃ x, x = scS S2 V' 1 P.data.toList i t := ⟨_, rfl⟩
                rw [← hx] at HMT HBD HCD
                obtain ⟨c, pt, f⟩ := x
                have htl : (t.length : Int) ≤ 1000 := by have := HTL.out; omega
                clear hx
                refine (meet_any w8 g t c pt f V' i 1 HCD.out.2 htl (by omega) (by omega) HBD.out.1 HBD.out.2 (by omega) (by omega)).mono ?_
                rintro e2 w9 ⟨rfl, hg9, hc9⟩
                have HC9 := Lib.hid ((HC8.out.turn HF8.out hg9 hc9).congr HMT.out)
                have HS9 := Lib.hid (HS8.out.old hg9 HCD.out.1 HLT.out)
                have HK9 := Lib.hid (HK8.out.trans (Kp.tag HCD.out.2 (by decide) (Nat.le_trans HLL.out HCD.out.1) HS8.out.cen.los hg9))
                clear hg9 hc9 c1 HCD HMT HBD
                go_wp2_with fail
                go_roundw
                case rel => exact ⟨i + 1, (n3 + 1), _, by go_num, by omega, by omega, by omega, HC9, HS9, HK9, HI9⟩
                case measure => simp [intOf]; omega
          · have hn0 : (2 : Int) < (len : Int) := by
              have : len ≠ 2 := fun e => hok (.inl e)
              omega
            have hF : F (t.take (len - 1)) = none := by
              cases e : F (t.take (len - 1)) with
              | none => rfl
              | some g => exact absurd (.inr ⟨g, e⟩) hok
            have hlk : ∀ nq, (Instr.lookup 70 (.map (some b)) (.string (X.extract 0 m)) false).run Tryd.prog (wr.drewN nq) = .ok (.pointer none) (wr.drewN nq) := fun nq => by
              have := (HS.out.cen.map.drew nq).lookup (X.extract 0 m) hmz
              rw [hmx, hF] at this
              exact this
            have hd : decide ((2 : Int) < (len : Int)) = true := decide_eq_true hn0
            have HNO := Lib.hid (not_okp HT.out hok)
            clear hok hF hmx hmz
            go_quiet (fail)
            have HC3 := Lib.hid ((HC.out.congr (HI.out.same HNO.out)).keptBelow (below_drewN (Below.refl _ _) nq))
            have HS3 := Lib.hid (HS.out.keptBelow (below_drewN (Below.refl _ _) nq))
            have HK3 := Lib.hid (HK.out.trans (Kp.of_below (below_drewN (Below.refl wr.heap.size wr) nq) HS.out.cen.los))
            have HI3 := Lib.hid (HI.out.skip HNO.out)
            clear c0 hlk HC HS HK
            generalize wr.drewN nq = w5 at *
            go_wp2_with fail
            go_roundw
            case rel => exact ⟨i + 1, n3, F3, by go_num, by omega, by omega, by omega, HC3, HS3, HK3, HI3⟩
            case measure => simp [intOf]; omega
        · have HJ2 := Lib.hid (HJ1.out i F3 (by omega) HI.out)
          go_wp2_with fail
          go_roundw
          case rel => exact ⟨j + 1, n3, F3, _, by omega, by go_num, Lib.hid (by have := HN.out; have := HTK.out; omega), HC, Lib.hid (by rw [HVV.out]; exact HS.out), HK, Lib.hid (by rw [HVV.out]; exact HJ2.out)⟩
          case measure => simp [intOf]; omega
    · obtain rfl : j = np := by omega
      go_wp2_with fail
      go_ret
      exact ⟨b2, n2, F2, S2, rfl, by rw [← HLO2.out]; exact HC.out, by have := HN.out; have := tot_take_le ls j; have := HTT.out; omega, HS.out, HK.out, HJ.out⟩

/-- the census of rows shorter than 'len' -/
def GoodL (len : Nat) (ls : List (List UInt8)) (F : List UInt8 → Option Nat) (S : List UInt8 → Int × Int × Int) (V : Int) : Prop :=
  (∀ k g, F k = some g → 2 ≤ k.length ∧ k.length < len ∧ (∀ m, 2 ≤ m → m ≤ k.length → ∃ g', F (k.take m) = some g') ∧ (S k).1 = (cnt k ls : Int) ∧ (S k).2.1 ≤ V) ∧
  (∀ k, 2 ≤ k.length → k.length < len → F k = none → cnt k ls ≤ 1)

/-- the numbers of both maps -/
def SS (len : Nat) (S S2 : List UInt8 → Int × Int × Int) : List UInt8 → Int × Int × Int := fun k => if k.length = len then S2 k else S k

/-- so many of the second map's rows are in the first one -/
def CI (len : Nat) (F F2 : List UInt8 → Option Nat) (S2 : List UInt8 → Int × Int × Int) (left : List UInt8 → Bool) (F' : List UInt8 → Option Nat) : Prop :=
  (∀ k, k.length ≠ len → F' k = F k) ∧ (∀ k, k.length = len → ∀ g, F' k = some g ↔ (left k = false ∧ F2 k = some g ∧ 1 < (S2 k).1))

theorem GoodL.start (ls : List (List UInt8)) : GoodL 2 ls (fun _ => none) (fun _ => (0, 0, 0)) 0 := ⟨fun k g h => by simp at h, fun k h1 h2 => by omega⟩

theorem CI.start {len : Nat} {F F2 : List UInt8 → Option Nat} {S2 : List UInt8 → Int × Int × Int} (hF : ∀ k g, F k = some g → k.length < len) : CI len F F2 S2 (fun x => (F2 x).isSome) F := by
  refine ⟨fun _ _ => rfl, fun k hk g => ⟨fun h => ?_, fun ⟨h1, h2, _⟩ => ?_⟩⟩
  · have := hF k g h
    omega
  · simp only [h2] at h1
    cases h1

theorem CI.no {len : Nat} {F F2 F' : List UInt8 → Option Nat} {S2 : List UInt8 → Int × Int × Int} {left : List UInt8 → Bool} {k : List UInt8} (h : CI len F F2 S2 left F') (hl : left k = true) (hn : ¬ 1 < (S2 k).1) : CI len F F2 S2 (fun x => left x && !decide (x = k)) F' := by
  refine ⟨h.1, fun x hx g => ?_⟩
  rw [h.2 x hx g]
  by_cases e : x = k
  · subst e
    constructor
    · rintro ⟨h1, _⟩; rw [hl] at h1; cases h1
    · rintro ⟨_, _, h3⟩; exact absurd h3 hn
  · simp [e]

theorem CI.yes {len : Nat} {F F2 F' : List UInt8 → Option Nat} {S2 : List UInt8 → Int × Int × Int} {left : List UInt8 → Bool} {k : List UInt8} {g : Nat} (h : CI len F F2 S2 left F') (hk : k.length = len) (hg : F2 k = some g) (hn : 1 < (S2 k).1) :
    CI len F F2 S2 (fun x => left x && !decide (x = k)) (putF F' k g) := by
  refine ⟨fun x hx => ?_, fun x hx g' => ?_⟩
  · unfold putF
    rw [if_neg (by rintro rfl; exact hx hk), h.1 x hx]
  · unfold putF
    by_cases e : x = k
    · subst e
      rw [if_pos rfl, hg]
      simp [hn]
    · rw [if_neg e, h.2 x hx g']
      simp [e]

theorem GoodL.next {len np : Nat} {ls : List (List UInt8)} {F F2 F' : List UInt8 → Option Nat} {S S2 : List UInt8 → Int × Int × Int} {V V2 : Int} (h : GoodL len ls F S V) (hs : SubJ len F ls np V2 F2 S2) (hV : V ≤ V2) (hl : ls.length = np) (h2 : 2 ≤ len)
    (hci : CI len F F2 S2 (fun _ => false) F') : GoodL (len + 1) ls F' (SS len S S2) V2 := by
  have ht : ls.take np = ls := List.take_of_length_le (by omega)
  have hlt : ∀ k g, F k = some g → F' k = some g := fun k g e => by rw [hci.1 k (by have := (h.1 k g e).2.1; omega)]; exact e
  refine ⟨fun k g e => ?_, fun k k2 kl e => ?_⟩
  · by_cases hk : k.length = len
    · obtain ⟨_, e2, e3⟩ := (hci.2 k hk g).1 e
      obtain ⟨_, ho⟩ := hs.1 k g e2
      obtain ⟨s1, s2, _⟩ := hs.2 k hk ho
      rw [ht] at s1
      refine ⟨by omega, by omega, fun m hm hml => ?_, ?_, ?_⟩
      · by_cases hml2 : m = len
        · rw [hml2, ← hk, List.take_length]; exact ⟨g, e⟩
        · rcases ho with ho | ⟨g1, ho⟩
          · omega
          · obtain ⟨_, _, hp, _⟩ := h.1 _ _ ho
            obtain ⟨g', hg'⟩ := hp m hm (by rw [List.length_take]; omega)
            rw [List.take_take, Nat.min_eq_left (by omega)] at hg'
            exact ⟨g', hlt _ _ hg'⟩
      · unfold SS; rw [if_pos hk]; exact s1
      · unfold SS; rw [if_pos hk]; exact s2
    · rw [hci.1 k hk] at e
      obtain ⟨a1, a2, a3, a4, a5⟩ := h.1 k g e
      refine ⟨a1, by omega, fun m hm hml => ?_, ?_, ?_⟩
      · obtain ⟨g', hg'⟩ := a3 m hm hml
        exact ⟨g', hlt _ _ hg'⟩
      · unfold SS; rw [if_neg hk]; exact a4
      · unfold SS; rw [if_neg hk]; omega
  · by_cases hk : k.length = len
    · by_cases ho : okp len F k
      · obtain ⟨s1, s2, s3⟩ := hs.2 k hk ho
        rw [ht] at s1
        cases hF2 : F2 k with
        | none =>
          have := s3 hF2
          rw [this] at s1
          simp at s1
          omega
        | some g =>
          have : ¬ 1 < (S2 k).1 := fun hc => by
            have := (hci.2 k hk g).2 ⟨rfl, hF2, hc⟩
            rw [e] at this
            cases this
          omega
      · have h3 : len ≠ 2 := fun e => ho (.inl e)
        have hn : F (k.take (len - 1)) = none := by
          cases e2 : F (k.take (len - 1)) with
          | none => rfl
          | some g => exact absurd (.inr ⟨g, e2⟩) ho
        have hlk : (k.take (len - 1)).length = len - 1 := by rw [List.length_take]; omega
        have := h.2 (k.take (len - 1)) (by omega) (by omega) hn
        have h4 : isPre (k.take (len - 1)) k = true := by rw [isPre_iff, hlk]
        have := cnt_pre (by intro e; rw [e] at hlk; simp at hlk; omega) h4 ls
        omega
    · rw [hci.1 k hk] at e
      exact h.2 k k2 (by omega) e

theorem GoodL.keys {ls : List (List UInt8)} {F : List UInt8 → Option Nat} {S : List UInt8 → Int × Int × Int} {V : Int} (h : GoodL 9 ls F S V) : KeysOk F := fun k g e => by
  obtain ⟨h1, h2, h3, _⟩ := h.1 k g e
  exact ⟨h1, by omega, h3⟩

theorem Cen.mono {w : World} {lo lo' b n : Nat} {F : List UInt8 → Option Nat} {S : List UInt8 → Int × Int × Int} (h : Cen w lo b n F S) (hl : lo' ≤ lo) : Cen w lo' b n F S :=
  ⟨h.map, Nat.le_trans hl h.lob, Nat.le_trans hl h.los, fun k g e => ⟨Nat.le_trans hl (h.cd k g e).1, (h.cd k g e).2⟩⟩

theorem Cen.upS {w : World} {lo b n : Nat} {F : List UInt8 → Option Nat} {S S' : List UInt8 → Int × Int × Int} (h : Cen w lo b n F S) (e : ∀ k, S k = S' k) : Cen w lo b n F S' := h.congr fun k _ _ => e k

theorem CenS.putK {w w' : World} {lo gc b n n' : Nat} {F : List UInt8 → Option Nat} {S : List UInt8 → Int × Int × Int} {V : Int} {k : List UInt8} {g : Nat} {s : Int × Int × Int} (h : CenS w lo gc b n F S V) (hm : CM w' b n' (putF F k g)) (hg : w.grownBy w' (some b)) (hlo : lo ≤ g) (hc : Cd w g k s) :
    CenS w' lo gc b n' (putF F k g) (updS S k s) V := ⟨h.cen.put hm hg hlo hc, h.lo, h.blk.grown hg (some_ne (Ne.symm h.bne))⟩

theorem CenS.kpPut {w w' : World} {lo gc b n : Nat} {F : List UInt8 → Option Nat} {S : List UInt8 → Int × Int × Int} {V : Int} (h : CenS w lo gc b n F S V) (hg : w.grownBy w' (some b)) : Kp lo w w' :=
  Kp.grown hg h.cen.los (fun j e => by injection e with e; subst e; exact h.cen.lob) (fun j cs fr e e2 => by injection e with e; subst e; exact h.cen.mapne e2 rfl)

theorem SS_upd {len : Nat} {S S2 : List UInt8 → Int × Int × Int} {k : List UInt8} (hk : k.length = len) (x : List UInt8) : updS (SS len S S2) k (S2 k) x = SS len S S2 x := by
  unfold updS
  by_cases e : x = k
  · subst e; rw [if_pos rfl]; unfold SS; rw [if_pos hk]
  · rw [if_neg e]

/-- a row's map stays when another map is written -/
theorem Cen.other {w w' : World} {lo b b2 n : Nat} {F : List UInt8 → Option Nat} {S : List UInt8 → Int × Int × Int} (h : Cen w lo b n F S) (hm : ∃ es c, w.heap[b2]? = some (.map es c)) (hg : w.grownBy w' (some b2)) (hne : b ≠ b2) : Cen w' lo b n F S := by
  refine h.far hg hne fun k g e => ?_
  obtain ⟨es, c, hm⟩ := hm
  have h2 := (h.cd k g e).2
  unfold Cd Blk at h2
  rintro rfl
  rw [hm] at h2
  cases h2

set_option maxRecDepth 100000 in
set_option maxHeartbeats 12800000 in
theorem counted_any (w : World) (A : Option Addr) (np cp : Nat) (ls : List (List UInt8)) (hr : RdS w w.heap.size A np ls) (ht : np + tot ls ≤ 10000) :
    Calls Tryd.prog 39 #[.slice A np cp] w fun e w' => ∃ b n F S V, e = .returned (.agg #[.map (some b), .int .i64 V]) ∧ Cen w' w.heap.size b n F S ∧ Below w.heap.size w w' ∧ GoodL 9 ls F S V ∧ 0 ≤ V ∧ V ≤ 70000 := by
  have hmm := @run_makeMap Tryd.prog
  have HL := Lib.hid hr.1
  have HR := Lib.hid hr
  have HTT := Lib.hid ht
  have hnp : (np : Int) ≤ 10000 := by omega
  obtain ⟨rc, hrc⟩ : ∃ rc, rc = w.heap.size := ⟨_, rfl⟩
  obtain ⟨b, hb⟩ : ∃ b, b = w.heap.size + 1 := ⟨_, rfl⟩
  obtain ⟨gc, hgc⟩ : ∃ gc, gc = w.heap.size + 1 + 1 := ⟨_, rfl⟩
  obtain ⟨W1, hW1⟩ : ∃ W1, W1 = ((w.alloc (.cells #[.map none, .int .i64 0] 72)).alloc (.map #[] 0)).alloc (.cells #[.map (some (w.heap.size + 1)), .int .i64 0] 72) := ⟨_, rfl⟩
  have HRC : Hid (Blk W1 rc 72 #[.map none, .int .i64 0]) := Lib.hid (by
    rw [hW1, hrc]
    exact Blk.alloc (Blk.alloc (Blk.new w _ _) _) _)
  have HS0 : Hid (CenS W1 b gc b 0 (fun _ => none) (fun _ => (0, 0, 0)) 0) := Lib.hid (by
    rw [hW1, hgc, hb]
    refine ⟨⟨?_, Nat.le_refl _, by simp, fun k g e => by cases e⟩, by omega, ?_⟩
    · have h := CM.made (w.alloc (.cells #[.map none, .int .i64 0] 72))
      have h2 := h.kept (World.grownBy_alloc _ (.cells #[.map (some (w.heap.size + 1)), .int .i64 0] 72) none) (by simp)
      have e : (w.alloc (.cells #[.map none, .int .i64 0] 72)).heap.size = w.heap.size + 1 := by simp
      rw [e] at h2
      exact h2
    · exact Blk.new_at _ _ _ _ (by simp))
  have HW : Hid (Below w.heap.size w W1) := Lib.hid (by
    rw [hW1]
    exact ((((Below.refl _ w).alloc (Nat.le_refl _) _).alloc (by simp) _).alloc (by simp; omega) _))
  have HG0 : Hid (GoodL 2 ls (fun _ => none) (fun _ => (0, 0, 0)) 0) := Lib.hid (GoodL.start ls)
  have HW1 := Lib.hid hW1
  have HRCE := Lib.hid hrc
  have HBE := Lib.hid hb
  have HGCE := Lib.hid hgc
  clear hr ht hrc hb hgc hW1
  go_enter Tryd.func39, Tryd.ntmps39
  go_wp2_with fail
  try go_frame
  rw [← HW1.out, ← HGCE.out]
  rw [← HBE.out, ← HRCE.out]
  have HBW : Hid (w.heap.size ≤ b ∧ rc < b) := Lib.hid (by have := HBE.out; have := HRCE.out; omega)
  go_loopw [4] (fun lv wr => ∃ (len n : Nat) (F : List UInt8 → Option Nat) (S : List UInt8 → Int × Int × Int) (V : Int), lv = .int .i64 len ∧ 2 ≤ len ∧ len ≤ 9 ∧ n ≤ 10000 * (len - 2) ∧ 0 ≤ V ∧ V ≤ 10000 * ((len : Int) - 2) ∧
    Hid (CenS wr b gc b n F S V) ∧ Hid (Blk wr rc 72 #[.map none, .int .i64 0]) ∧ Hid (Below w.heap.size w wr) ∧ Hid (GoodL len ls F S V)) (fun lv _ => 9 - (intOf lv).toNat)
  case atStart => exact ⟨2, 0, _, _, 0, rfl, by omega, by omega, by omega, by omega, by omega, HS0, HRC, HW, HG0⟩
  case round =>
    clear HS0 HRC HW HG0
    obtain ⟨len, n, F, S, V, rfl, hl2, hl9, hn, hV0, hV1, HS, HRC, HW, HG⟩ := hrel
    by_cases hlt : (len : Int) ≤ 8
    · have HRD : Hid (RdS wr b A np ls) := Lib.hid ((HR.out.below HW.out).more HBW.out.1)
      go_wp2_with fail
      refine (ofLength_any wr b gc b n F S V A np cp ls len HS.out HRD.out HTT.out hl2 hlt hV0 (by omega)).mono ?_
      rintro e w2 ⟨b2, n2, F2, S2, rfl, hC2, hn2, hS2, hK2, hJ2⟩
      have HC2 := Lib.hid hC2
      have HS2 := Lib.hid hS2
      have HJ2 := Lib.hid hJ2
      have HRC2 : Hid (Blk w2 rc 72 #[.map none, .int .i64 0]) := Lib.hid (HRC.out.below hK2.below HBW.out.2)
      have HW2 := Lib.hid (HW.out.trans (hK2.below.mono HBW.out.1))
      have HLO2 : Hid (b < wr.heap.size) := Lib.hid HS.out.cen.map.lt
      obtain ⟨lo2, hlo2⟩ : ∃ lo2, lo2 = wr.heap.size := ⟨_, rfl⟩
      rw [← hlo2] at HC2 HLO2
      obtain ⟨r, hr⟩ : ∃ r, r = w2.heap.size := ⟨_, rfl⟩
      have HRE := Lib.hid hr
      have HRR : Hid (b ≤ r) := Lib.hid (by rw [hr]; exact HS2.out.cen.los)
      have HBB : Hid (b ≠ b2) := Lib.hid (by have := HC2.out.lob; have := HLO2.out; omega)
      have HM2 := Lib.hid HC2.out.map
      clear hC2 hS2 hK2 hJ2 hlo2 hr HRC HW HRD
      go_wp2_with (at_range; refine wpList_rangeC rfl _ rfl b2 n2 F2 rfl HM2.out ?_; intro w3 cnt0 hr0 hg0 hs0)
      try go_frame
      rw [← HRE.out] at hr0 ⊢
      have HCR3 := Lib.hid hr0
      have HS3 := Lib.hid ((HS2.out.kept hg0 (fun j e => by cases e)).congr (S' := SS len S S2) (fun k g e => by unfold SS; rw [if_neg (by have := (HG.out.1 k g e).2.1; omega)]))
      have HC3 := Lib.hid (HC2.out.kept hg0 (fun j e => by cases e))
      have HRC3 := Lib.hid (HRC2.out.grown hg0 (by simp))
      have HW3 := Lib.hid (HW2.out.trans (Kp.grown (lo := w.heap.size) hg0 HW2.out.size (fun j e => by cases e) (fun j cs fr e => by cases e)).below)
      have HCI3 := Lib.hid (CI.start (len := len) (F := F) (F2 := F2) (S2 := S2) (fun k g e => (HG.out.1 k g e).2.1))
      have hc0 := hr0.cnt_le
      clear hr0 hg0 hs0 HC2 HS2 HRC2 HW2 HM2 HS
      go_loopw [5] (fun _ wr => ∃ (left : List UInt8 → Bool) (cnt n' : Nat) (F' : List UInt8 → Option Nat), n' + cnt ≤ n + 10000 ∧ Hid (CR wr b2 r n2 F2 left cnt) ∧ Hid (CenS wr b gc b n' F' (SS len S S2) (V + np)) ∧ Hid (Cen wr lo2 b2 n2 F2 S2) ∧
        Hid (Blk wr rc 72 #[.map none, .int .i64 0]) ∧ Hid (Below w.heap.size w wr) ∧ Hid (CI len F F2 S2 left F')) (fun _ w' => w'.rangeLeft b2 r)
      case atStart => exact ⟨_, _, _, _, by omega, HCR3, HS3, HC3, HRC3, HW3, HCI3⟩
      case round =>
        clear HCR3 HS3 HC3 HRC3 HW3 HCI3
        obtain ⟨left, cnt, n', F', hn', HCR, HS, HC, HRC, HW, HCI⟩ := hrel
        go_wp2_with (at_next; refine wpList_nextC rfl _ rfl b2 r n2 F2 left cnt rfl HCR.out ?_ ?_)
        · intro hc0 hl0
          have HG2 : Hid (GoodL (len + 1) ls F' (SS len S S2) (V + np)) := Lib.hid (by
            refine HG.out.next HJ2.out (by omega) HL.out hl2 ?_
            have e : left = fun _ => false := funext hl0
            have h := HCI.out
            rw [e] at h
            exact h)
          clear hc0 hl0
          try go_frame
          go_wp2_with fail
          go_roundw
          case rel => exact ⟨len + 1, n', F', _, V + np, by go_num, by omega, by omega, by omega, by omega, by omega, HS, HRC, HW, HG2⟩
          case measure => simp [intOf]; omega
        · intro s g w4 cnt4 hF hl hcr hlt4 hgr hsz hen
          obtain ⟨k, hk⟩ : ∃ k, k = s.data.toList := ⟨_, rfl⟩
          have hit : It wr r := HCR.out.isIter
          rw [← hk] at hF hl hcr
          have HS4 := Lib.hid (HS.out.iter hit hgr)
          have HC4 := Lib.hid (HC.out.iter hit hgr)
          have HRC4 := Lib.hid (HRC.out.iter hit hgr)
          have HW4 := Lib.hid (HW.out.trans ((Kp.iter hit HRR.out HS.out.cen.los hgr).below.mono HBW.out.1))
          have HCR4 := Lib.hid hcr
          have HF := Lib.hid hF
          have HLK := Lib.hid hl
          have HKL : Hid (k.length = len) := Lib.hid (HJ2.out.1 k g hF).1
          have HCNT : Hid (cnt4 < cnt) := Lib.hid hlt4
          have HLE := Lib.hid HCR.out.left_eq
          have HSZ : Hid (s.size ≤ maxLen) := Lib.hid (by
            have h1 : s.data.toList.length = s.size := by rw [Array.length_toList]; rfl
            have h3 := HKL.out
            rw [hk, h1] at h3
            unfold maxLen
            omega)
          have HKE := Lib.hid hk
          have c2 := (HC4.out.cd k g hF).2.cell 2
          simp at c2
          have g0 := HS4.out.blk.cell 0
          simp at g0
          clear hF hl hcr hlt4 hgr hsz hk hit HS HC HRC HW HCR
          by_cases hgt : 1 < (S2 k).1
          · have HCI4 := Lib.hid (HCI.out.yes HKL.out HF.out hgt)
            have HM4 := Lib.hid HS4.out.cen.map
            clear HCI
            try go_frame
            go_wp2_with (at_mapUpdate; refine wpList_putC rfl _ _ _ rfl b n' F' rfl HM4.out (by unfold maxLen; omega) s HSZ.out g rfl rfl ?_; intro w5 hcm5 hg5)
            rw [← HKE.out] at hcm5
            have hcd := HC4.out.cd k g HF.out
            have HS5 := Lib.hid ((HS4.out.putK hcm5 hg5 (Nat.le_trans (Nat.le_of_lt HLO2.out) hcd.1) hcd.2).congr (fun x _ _ => SS_upd HKL.out x))
            have HC5 := Lib.hid (HC4.out.other HM4.out.isMap hg5 (Ne.symm HBB.out))
            have HRC5 := Lib.hid (HRC4.out.grown hg5 (some_ne (by have := HBW.out.2; omega)))
            have HW5 := Lib.hid (HW4.out.trans ((HS4.out.kpPut hg5).below.mono HBW.out.1))
            have HCR5 := Lib.hid (HCR4.out.kept hg5 (some_ne (Ne.symm HBB.out)) (some_ne (fun e => by
              obtain ⟨es, c, hm⟩ := HM4.out.isMap
              obtain ⟨m, sn, sc', c', hi⟩ := HCR4.out.isIter
              rw [e, hm] at hi
              cases hi)))
            clear hcm5 hg5 hcd
            try go_frame
            go_roundw
            case rel => exact ⟨_, cnt4, n' + 1, _, by have := HCNT.out; omega, HCR5, HS5, HC5, HRC5, HW5, HCI4⟩
            case measure => rw [HCR5.out.left_eq, HLE.out]; exact HCNT.out
          · have HCI4 := Lib.hid (HCI.out.no HLK.out hgt)
            clear HCI
            try go_frame
            go_wp2_with fail
            go_roundw
            case rel => exact ⟨_, cnt4, n', _, by have := HCNT.out; omega, HCR4, HS4, HC4, HRC4, HW4, HCI4⟩
            case measure => rw [HCR4.out.left_eq, HLE.out]; exact HCNT.out
    · obtain rfl : len = 9 := by omega
      have g0 := HS.out.blk.cell 0
      have g1 := HS.out.blk.cell 1
      have r0 := HRC.out.cell 0
      have r1 := HRC.out.cell 1
      have f0 := HRC.out.frozen 0
      have f1 := HRC.out.frozen 1
      simp at g0 g1 r0 r1
      clear hlt
      have hfin : Blk ((wr.setCell ⟨rc, 0, none⟩ (.map (some b))).setCell ⟨rc, 1, none⟩ (.int .i64 V)) rc 72 #[.map (some b), .int .i64 V] := by
        have h := (HRC.out.set_ 0 (.map (some b))).set_ 1 (.int .i64 V)
        simpa using h
      have HFIN := Lib.hid hfin
      have hgr : wr.grownBy ((wr.setCell ⟨rc, 0, none⟩ (.map (some b))).setCell ⟨rc, 1, none⟩ (.int .i64 V)) (some rc) := gb_set (gb_set (gb_below (Below.refl wr.heap.size wr) (some rc)) 0 _) 1 _
      have HCEN := Lib.hid ((HS.out.cen.far hgr (by have := HBW.out.2; omega) (fun k g e => by have := (HS.out.cen.cd k g e).1; have := HBW.out.2; omega)).mono HBW.out.1)
      have HWF : Hid (Below w.heap.size w ((wr.setCell ⟨rc, 0, none⟩ (.map (some b))).setCell ⟨rc, 1, none⟩ (.int .i64 V))) := Lib.hid (HW.out.trans ⟨rfl, rfl, rfl, hgr.size, fun i hi => hgr.block i (by have := HW.out.size; omega) (some_ne (by have := HRCE.out; omega))⟩)
      clear hfin hgr
      go_wp2_with fail
      (try simp only [Exit.inBlock, Exit.then])
      refine bodyPost_ret (results_cell_row rfl _ _ _ _ _ _ _ rfl HFIN.out Tryd.underlying72 rfl (by kernel_rfl)) rfl ?_
      exact ⟨b, n, F, S, V, rfl, HCEN.out, HWF.out, HG.out, hV0, by omega⟩

/-- texts that are read, and that a census' change leaves as they were -/
def RdK (w : World) (lo : Nat) (A : Option Addr) (n : Nat) (ls : List (List UInt8)) : Prop :=
  RdS w w.heap.size A n ls ∧ (0 < n → ∀ ad, A = some ad → ad.block < lo ∨ ∃ cs fr, w.heap[ad.block]? = some (.cells cs 9 fr))

theorem own_str {w : World} {base : Nat} {A : Option Addr} {n c : Nat} {xs : List Value} (h : w.ownsRow base 9 1 (.slice A n c) n xs) : ∀ j, (Value.slice A n c).ownBlock = some j → ∃ cs fr, w.heap[j]? = some (.cells cs 9 fr) := by
  intro j hj
  rcases h.2 with ⟨hv, _⟩ | ⟨g, cap, cur, hv, _, hh, _⟩
  · rw [hv] at hj
    cases hj
  · rw [hv] at hj
    injection hj with hj
    subst hj
    exact ⟨cur, (0, 0), hh⟩

theorem own_kp {w w' : World} {lo base : Nat} {A : Option Addr} {n c : Nat} {xs : List Value} (h : w.ownsRow base 9 1 (.slice A n c) n xs) (hk : Kp lo w w') : w'.ownsRow base 9 1 (.slice A n c) n xs := by
  refine ⟨h.1, ?_⟩
  rcases h.2 with h2 | ⟨g, cap, cur, hv, hg, hh, r⟩
  · exact .inl h2
  · exact .inr ⟨g, cap, cur, hv, hg, (hk.str g cur (0, 0) hh).trans hh, r⟩

theorem RdK.of_rd {w : World} {lo : Nat} {A : Option Addr} {n : Nat} {ls : List (List UInt8)} (h : RdS w lo A n ls) (hlo : lo ≤ w.heap.size) : RdK w lo A n ls :=
  ⟨h.more hlo, fun hn ad hA => by
    obtain ⟨ad', e, hb, _⟩ := h.2 hn
    rw [hA] at e
    injection e with e
    subst e
    exact .inl hb⟩

theorem RdK.of_own {w : World} {lo base : Nat} {A : Option Addr} {n c : Nat} {ls : List (List UInt8)} (h : w.ownsRow base 9 1 (.slice A n c) n (sc ls)) : RdK w lo A n ls :=
  ⟨RdS.of_own h, fun hn ad hA => .inr (by
    obtain ⟨g, cap, hv, _, _⟩ := h.form hn
    have hA2 : A = some ⟨g, 0, none⟩ := by injection hv
    rw [hA] at hA2
    injection hA2 with hA2
    subst hA2
    refine own_str h g ?_
    rw [hA]
    rfl)⟩

theorem RdK.kp {w w' : World} {lo : Nat} {A : Option Addr} {n : Nat} {ls : List (List UInt8)} (h : RdK w lo A n ls) (hk : Kp lo w w') : RdK w' lo A n ls := by
  have key : 0 < n → ∀ ad, A = some ad → w'.heap[ad.block]? = w.heap[ad.block]? := fun hn ad hA => by
    rcases h.2 hn ad hA with h1 | ⟨cs, fr, h1⟩
    · exact hk.low _ h1
    · exact hk.str _ cs fr h1
  refine ⟨⟨h.1.1, fun hn => ?_⟩, fun hn ad hA => ?_⟩
  · obtain ⟨ad, e, hb, hc⟩ := h.1.2 hn
    refine ⟨ad, e, Nat.lt_of_lt_of_le hb hk.size, fun j hj => ?_⟩
    rw [← hc j hj]
    exact World.cell?_of_block (by rw [blk_add]; exact key hn ad e)
  · rcases h.2 hn ad hA with h1 | ⟨cs, fr, h1⟩
    · exact .inl h1
    · exact .inr ⟨cs, fr, (key hn ad hA).trans h1⟩

theorem RdK.grown {w w' : World} {lo : Nat} {A : Option Addr} {n : Nat} {ls : List (List UInt8)} {row : Option Nat} (h : RdK w lo A n ls) (hg : w.grownBy w' row) (hs : 0 < n → ∀ ad, A = some ad → row ≠ some ad.block) : RdK w' lo A n ls :=
  ⟨(h.1.grown hg (Nat.le_refl _) hs).more hg.size, fun hn ad hA => by
    rcases h.2 hn ad hA with h1 | ⟨cs, fr, h1⟩
    · exact .inl h1
    · exact .inr ⟨cs, fr, (hg.block _ (Array.getElem?_eq_some_iff.1 h1).1 (fun e => hs hn ad hA e.symm)).trans h1⟩⟩

/-- A row of texts of the call's own, and texts that are read, apart. -/
structure TwoK (base lo : Nat) (wr : World) (A : Option Addr) (n c : Nat) (xs : List Value) (A1 : Option Addr) (m : Nat) (ys : List (List UInt8)) : Prop where
  own : wr.ownsRow base 9 1 (.slice A n c) n xs
  rd : RdK wr lo A1 m ys
  off : 0 < m → ∀ ad, A1 = some ad → (Value.slice A n c).ownBlock ≠ some ad.block

theorem TwoK.kp {base lo : Nat} {wr w' : World} {A : Option Addr} {n c : Nat} {xs : List Value} {A1 : Option Addr} {m : Nat} {ys : List (List UInt8)} (h : TwoK base lo wr A n c xs A1 m ys) (hk : Kp lo wr w') : TwoK base lo w' A n c xs A1 m ys :=
  ⟨own_kp h.own hk, h.rd.kp hk, h.off⟩

theorem TwoK.push {base lo : Nat} {wr w' : World} {A A' : Option Addr} {n c n' c' : Nat} {xs xs' : List Value} {A1 : Option Addr} {m : Nat} {ys : List (List UInt8)} {o : Obj}
    (h : TwoK base lo wr A n c xs A1 m ys) (ho : w'.ownsRow base 9 1 (.slice A' n' c') n' xs') (hg : (wr.alloc o).grownBy w' (Value.slice A n c).ownBlock)
    (hw : (Value.slice A' n' c').ownBlock = (Value.slice A n c).ownBlock ∨ (Value.slice A' n' c').ownBlock = some (wr.alloc o).heap.size) : TwoK base lo w' A' n' c' xs' A1 m ys := by
  refine ⟨ho, ?_, ?_⟩
  · exact (h.rd.grown (World.grownBy_alloc wr o none) (fun _ _ _ => by simp)).grown hg (fun hm ad hA e => h.off hm ad hA e)
  · intro hm ad hA e
    rcases hw with hw | hw
    · exact h.off hm ad hA (hw.symm.trans e)
    · rw [hw] at e
      injection e with e
      obtain ⟨ad', hA', hb', _⟩ := h.rd.1.2 hm
      rw [hA] at hA'
      injection hA' with hA'
      subst hA'
      simp at e
      omega

theorem Kp.app {w wr w' : World} {lo : Nat} {v : Value} {n : Nat} {xs : List Value} {o : Obj} (ho : wr.ownsRow w.heap.size 9 1 v n xs) (hk : Kp lo w wr) (hlo : lo ≤ w.heap.size) (hg : (wr.alloc o).grownBy w' v.ownBlock) : Kp lo w w' := by
  have hz : (wr.alloc o).heap.size = wr.heap.size + 1 := by simp
  have key : ∀ i, i < w.heap.size → w'.heap[i]? = wr.heap[i]? := fun i hi => by
    rw [hg.block i (by have := hk.size; omega) (fun e => by have := (ho.lt i e.symm).1; omega)]
    exact Below.heap_alloc wr o i (by have := hk.size; omega)
  refine ⟨hg.os.trans hk.os, hg.tape.trans hk.tape, hg.output.trans hk.output, ?_, fun i hi => ?_, fun i cs fr e => ?_⟩
  · have h1 := hg.size
    have h2 := hk.size
    omega
  · exact (key i (by omega)).trans (hk.low i hi)
  · exact (key i (Array.getElem?_eq_some_iff.1 e).1).trans (hk.str i cs fr e)

theorem CenS.app {wr w' : World} {lo base gc b n : Nat} {F : List UInt8 → Option Nat} {S : List UInt8 → Int × Int × Int} {V : Int} {A : Option Addr} {m c : Nat} {xs : List Value} {o : Obj} (h : CenS wr lo gc b n F S V) (ho : wr.ownsRow base 9 1 (.slice A m c) m xs)
    (hg : (wr.alloc o).grownBy w' (Value.slice A m c).ownBlock) : CenS w' lo gc b n F S V :=
  (h.keptBelow ((Below.refl _ wr).alloc (Nat.le_refl _) o)).kept hg (own_str (ho.alloc o))

/-- the census of parts -/
def GoodC (ls : List (List UInt8)) (F : List UInt8 → Option Nat) (S : List UInt8 → Int × Int × Int) (V : Int) : Prop :=
  (∀ k g, F k = some g → (S k).1 = (cnt k ls : Int) ∧ (S k).2.1 ≤ V) ∧ (∀ k, 2 ≤ k.length → k.length ≤ 8 → F k = none → cnt k ls ≤ 1)

theorem GoodL.good {ls : List (List UInt8)} {F : List UInt8 → Option Nat} {S : List UInt8 → Int × Int × Int} {V : Int} (h : GoodL 9 ls F S V) : GoodC ls F S V :=
  ⟨fun k g e => ⟨(h.1 k g e).2.2.2.1, (h.1 k g e).2.2.2.2⟩, fun k h2 h8 hn => h.2 k h2 (by omega) hn⟩

theorem cnt_append (k : List UInt8) (a b : List (List UInt8)) : cnt k (a ++ b) = cnt k a + cnt k b := by unfold cnt; rw [List.map_append, List.sum_append]

/-- parts under way: some are divided, some are not yet -/
def GoodM (done todo : List (List UInt8)) (F : List UInt8 → Option Nat) (S : List UInt8 → Int × Int × Int) (V : Int) : Prop :=
  ∀ k g, F k = some g → (S k).1 = (cnt k done : Int) + (cnt k todo : Int) ∧ (S k).2.1 ≤ V

theorem GoodM.move {done todo : List (List UInt8)} {F : List UInt8 → Option Nat} {S : List UInt8 → Int × Int × Int} {V : Int} {p : List UInt8} (h : GoodM done (p :: todo) F S V) : GoodM (done ++ [p]) todo F S V := fun k g e => by
  obtain ⟨h1, h2⟩ := h k g e
  rw [cnt_cons] at h1
  rw [cnt_append]
  have : cnt k [p] = cnt1 k p := by simp [cnt]
  exact ⟨by omega, h2⟩

theorem GoodM.minus {done todo : List (List UInt8)} {F : List UInt8 → Option Nat} {S : List UInt8 → Int × Int × Int} {V : Int} {p : List UInt8} (h : GoodM done (p :: todo) F S V) (hk : KeysOk F) : GoodM done todo F (scS S (V + 1) (-1) p p.length) (V + 1) := fun k g e => by
  obtain ⟨h1, h2⟩ := h k g e
  have h3 := scan_all (hk.ne e) p p.length (by have := (hk k g e).1; omega)
  rw [cnt_cons] at h1
  rw [scS_count, h3]
  exact ⟨by omega, scS_part (by omega)⟩

theorem GoodM.plus {done todo : List (List UInt8)} {F : List UInt8 → Option Nat} {S : List UInt8 → Int × Int × Int} {V : Int} (p : List UInt8) (h : GoodM done todo F S V) (hk : KeysOk F) : GoodM (done ++ [p]) todo F (scS S (V + 1) 1 p p.length) (V + 1) := fun k g e => by
  obtain ⟨h1, h2⟩ := h k g e
  have h3 := scan_all (hk.ne e) p p.length (by have := (hk k g e).1; omega)
  rw [cnt_append, scS_count, h3]
  have : cnt k [p] = cnt1 k p := by simp [cnt]
  exact ⟨by omega, scS_part (by omega)⟩

theorem GoodC.start {ls : List (List UInt8)} {F : List UInt8 → Option Nat} {S : List UInt8 → Int × Int × Int} {V : Int} (h : GoodC ls F S V) : GoodM [] ls F S V := fun k g e => by
  obtain ⟨h1, h2⟩ := h.1 k g e
  exact ⟨by rw [h1]; simp [cnt], h2⟩

theorem GoodC.next {ls : List (List UInt8)} {F : List UInt8 → Option Nat} {S S' : List UInt8 → Int × Int × Int} {V V' : Int} {row : List UInt8} (h : GoodC ls F S V) (hr : row ≠ []) (hm : GoodM (ls.flatMap (spl row)) [] F S' V') : GoodC (ls.flatMap (spl row)) F S' V' := by
  refine ⟨fun k g e => ?_, fun k h2 h8 hn => ?_⟩
  · obtain ⟨h1, h2⟩ := hm k g e
    exact ⟨by rw [h1]; simp [cnt], h2⟩
  · have hk : k ≠ [] := by intro e; rw [e] at h2; simp at h2
    exact Nat.le_trans (flat_cnt hr hk ls) (h.2 k h2 h8 hn)

/-- the counts are small -/
theorem GoodM.bound {done todo : List (List UInt8)} {F : List UInt8 → Option Nat} {S : List UInt8 → Int × Int × Int} {V : Int} (h : GoodM done todo F S V) (hk : KeysOk F) (h1 : tot done ≤ 10000) (h2 : tot todo ≤ 10000) (k : List UInt8) (g : Nat) (e : F k = some g) : -1000000 ≤ (S k).1 ∧ (S k).1 ≤ 1000000 := by
  have h3 := (h k g e).1
  have h4 := cnt_le_tot (hk.ne e) done
  have h5 := cnt_le_tot (hk.ne e) todo
  constructor <;> omega

theorem drop_cons {ls : List (List UInt8)} {j : Nat} (h : j < ls.length) : ls.drop j = (ls[j]?.getD []) :: ls.drop (j + 1) := by
  rw [List.drop_eq_getElem_cons h]
  simp [h]

theorem take_snoc {ls : List (List UInt8)} {j : Nat} (h : j < ls.length) : ls.take (j + 1) = ls.take j ++ [ls[j]?.getD []] := by
  rw [List.take_succ_eq_append_getElem h]
  simp [h]

theorem tot_flat_take {row : List UInt8} (hr : row ≠ []) (ls : List (List UInt8)) (j : Nat) : tot ((ls.take j).flatMap (spl row)) ≤ tot ls ∧ ((ls.take j).flatMap (spl row)).length ≤ ls.length + tot ls := by
  obtain ⟨h1, h2⟩ := flat_tot hr (ls.take j)
  have h3 := tot_take_le ls j
  have h4 := cnt_le_tot hr (ls.take j)
  have h5 : (ls.take j).length ≤ ls.length := by rw [List.length_take]; omega
  constructor <;> omega

/-- internal/bytealg.MaxLen holds some int -/
def MaxL (w : World) : Prop := ∃ m, w.cell? ⟨0, 0, none⟩ = some (.int .i64 m)

theorem MaxL.below {w w' : World} {lo : Nat} (h : MaxL w) (hb : Below lo w w') (hlo : 0 < lo) : MaxL w' := by
  obtain ⟨m, h⟩ := h
  exact ⟨m, (hb.cell (p := ⟨0, 0, none⟩) hlo).trans h⟩

set_option maxRecDepth 100000 in
set_option maxHeartbeats 12800000 in
theorem remove_any (w : World) (lo gc b n : Nat) (F : List UInt8 → Option Nat) (S : List UInt8 → Int × Int × Int) (V : Int) (A : Option Addr) (np cp : Nat) (ls : List (List UInt8)) (t : ByteArray) (h : CenS w lo gc b n F S V) (hr : RdK w lo A np ls) (hg : GoodC ls F S V) (hk : KeysOk F)
    (ht : np + tot ls ≤ 10000) (ht1 : 1 ≤ t.size) (ht8 : (t.size : Int) ≤ 8) (hm : MaxL w) (hM : 0 < lo) (hV0 : 0 ≤ V) (hV1 : V ≤ 900000) :
    Calls Tryd.prog 43 #[.pointer (some ⟨gc, 0, none⟩), .slice A np cp, .string t] w fun e w' => ∃ A2 n2 c2 S2 V2, e = .returned (.slice A2 n2 c2) ∧ w'.ownsRow w.heap.size 9 1 (.slice A2 n2 c2) n2 (sc (ls.flatMap (spl t.data.toList))) ∧
      CenS w' lo gc b n F S2 V2 ∧ Kp lo w w' ∧ GoodC (ls.flatMap (spl t.data.toList)) F S2 V2 ∧ 0 ≤ V2 ∧ V2 ≤ V + 20000 := by
  obtain ⟨i0, hi, hz0, hsz, hby⟩ := inf_parts Tryd.inf_str
  have HI := Lib.hid hi
  have HZ0 := Lib.hid hz0
  have HSZ := Lib.hid hsz
  have HBY := Lib.hid hby
  have H := Lib.hid h
  have HL := Lib.hid hr.1.1
  have HR := Lib.hid hr
  have HG := Lib.hid hg
  have HKO := Lib.hid hk
  have HTT := Lib.hid ht
  have HM := Lib.hid hm
  have HMM := Lib.hid hM
  have HLO : Hid (lo ≤ w.heap.size) := Lib.hid h.cen.los
  have hnp : (np : Int) ≤ 10000 := by omega
  have hnp2 : np ≤ 10000 := by omega
  have hsh := short_tot (Nat.le_trans (Nat.le_add_left _ _) ht)
  have HSH := Lib.hid hsh
  obtain ⟨row, hrow⟩ : ∃ row, row = t.data.toList := ⟨_, rfl⟩
  have hrl : row.length = t.size := by rw [hrow, Array.length_toList]; rfl
  have HROW := Lib.hid hrow
  have HNE : Hid (row ≠ []) := Lib.hid (by intro e; rw [e, List.length_nil] at hrl; omega)
  rw [← hrow]
  have HT0 : Hid (TwoK w.heap.size lo w none 0 0 (sc ((ls.take 0).flatMap (spl row))) A np ls) := Lib.hid ⟨ownS_nil _ _ _, hr, fun _ _ _ e => by cases e⟩
  have HGM0 : Hid (GoodM ((ls.take 0).flatMap (spl row)) (ls.drop 0) F S V) := Lib.hid hg.start
  clear hi hz0 hsz hby h hr hg hk ht hm hM hsh hrow hrl
  go_enter Tryd.func43, Tryd.ntmps43
  go_wp2_with fail
  go_loopw [7, 14] (fun v iv wr => ∃ (j : Nat) (A5 : Option Addr) (n5 c5 : Nat) (S5 : List UInt8 → Int × Int × Int) (V5 : Int), j ≤ np ∧ iv = .int .i64 j ∧ v = .slice A5 n5 c5 ∧ 0 ≤ V5 ∧ V5 ≤ V + j + n5 ∧ n5 ≤ 10000 ∧
    Hid (TwoK w.heap.size lo wr A5 n5 c5 (sc ((ls.take j).flatMap (spl row))) A np ls) ∧ Hid (CenS wr lo gc b n F S5 V5) ∧ Hid (Kp lo w wr) ∧ Hid (GoodM ((ls.take j).flatMap (spl row)) (ls.drop j) F S5 V5)) (fun _ iv _ => np - (intOf iv).toNat)
  case atStart => exact ⟨0, none, 0, 0, S, V, by omega, rfl, rfl, hV0, by omega, by omega, HT0, H, Lib.hid (Kp.refl _ _), HGM0⟩
  case round =>
    clear HT0 HGM0
    obtain ⟨j, A5, n5, c5, S5, V5, hj, rfl, rfl, hv0, hv1, hn5, HT, HS, HK, HGM⟩ := hrel
    by_cases hlt : j < np
    · obtain ⟨ad, rfl, hab, hcell⟩ := HT.out.rd.1.2 (by omega)
      have hc : wr.cell? (ad.add j) = some (.string (bs (ls[j]?.getD []))) := hcell j (by rw [HL.out]; exact hlt)
      obtain ⟨P, hP⟩ : ∃ P, P = bs (ls[j]?.getD []) := ⟨_, rfl⟩
      have hPl : P.data.toList = ls[j]?.getD [] := by rw [hP, data_bs]
      have hPs : (P.size : Int) ≤ 10000 := by rw [hP, bs_size]; have := HSH.out j; omega
      have hpl : P.data.toList.length = P.size := by rw [Array.length_toList]; rfl
      have HPL := Lib.hid hpl
      have HDR : Hid (ls.drop j = P.data.toList :: ls.drop (j + 1)) := Lib.hid (by rw [hPl]; exact drop_cons (by rw [HL.out]; exact hlt))
      have HTK : Hid ((ls.take (j + 1)).flatMap (spl row) = (ls.take j).flatMap (spl row) ++ spl row P.data.toList) := Lib.hid (by rw [hPl]; exact flat_spl (by rw [HL.out]; exact hlt))
      have HFL : Hid (tot ((ls.take j).flatMap (spl row)) ≤ 10000 ∧ n5 ≤ 10000 ∧ tot ((ls.take (j + 1)).flatMap (spl row)) ≤ 10000 ∧ ((ls.take (j + 1)).flatMap (spl row)).length ≤ 10000 ∧ tot (ls.drop (j + 1)) ≤ 10000) := Lib.hid (by
        have h1 := tot_flat_take HNE.out ls j
        have h2 := tot_flat_take HNE.out ls (j + 1)
        have h3 := HTT.out
        have h4 := HL.out
        have h5 : tot ls = tot (ls.take (j + 1)) + tot (ls.drop (j + 1)) := by rw [← tot_append, List.take_append_drop]
        refine ⟨by omega, hn5, by omega, by omega, by omega⟩)
      rw [← hP] at hc
      have HMW : Hid (MaxL wr) := Lib.hid (HM.out.below HK.out.below HMM.out)
      have HADW := Lib.hid hab
      clear hcell hP hPl hpl hab
      go_wp2_with fail
      refine (contains_any wr P t HMW.out (by omega)).mono ?_
      rintro e w2 ⟨rfl, rfl⟩
      rw [← HROW.out]
      have hz := HK.out.size
      cases hcon : Lib.contains P.data.toList row with
      | false =>
        have HSP := Lib.hid (contains_no HNE.out hcon)
        have HX : Hid (P = bs P.data.toList) := Lib.hid (bs_data P).symm
        have HN6 : Hid (((ls.take (j + 1)).flatMap (spl row)).length = n5 + 1) := Lib.hid (by
          rw [HTK.out, HSP.out, List.length_append, ownS_len HT.out.own, List.length_singleton])
        have hn6 : n5 + 1 ≤ 10000 := by have := HN6.out; have := HFL.out.2.2.2.1; omega
        clear hcon
        go_wp2_with (at_builtin; refine wpList_app1L _ rfl _ _ 22 rfl w.heap.size 9 i0 _ 16 Tryd.underlying22 HI.out HZ0.out HSZ.out HBY.out rfl _ n5 _ rfl (HT.out.own.alloc _) ⟨_, 0, none⟩ 1 (.string P) rfl (new_cell _ _ _) rfl (by omega) (by unfold maxLen; omega) (by simp; omega) ?_; intro A7 c7 w8 hown2 hg2 hw2)
        have HS8 := Lib.hid (HS.out.app HT.out.own hg2)
        have HK8 := Lib.hid (Kp.app HT.out.own HK.out HLO.out hg2)
        have hown3 : w8.ownsRow w.heap.size 9 1 (.slice A7 (n5 + 1) c7) (n5 + 1) (sc ((ls.take (j + 1)).flatMap (spl row))) := by
          rw [HTK.out, HSP.out, sc_snoc, ← HX.out]
          exact hown2
        have HT8 := Lib.hid (HT.out.push hown3 hg2 hw2)
        have HGM8 : Hid (GoodM ((ls.take (j + 1)).flatMap (spl row)) (ls.drop (j + 1)) F S5 V5) := Lib.hid (by
          have h1 := HGM.out
          rw [HDR.out] at h1
          rw [HTK.out, HSP.out]
          exact h1.move)
        clear hown2 hown3 hg2 hw2
        go_roundw
        case rel => exact ⟨j + 1, A7, n5 + 1, c7, S5, V5, by omega, by go_num, rfl, hv0, by omega, by omega, HT8, HS8, HK8, HGM8⟩
        case measure => simp [intOf]; omega
      | true =>
        have hbd := HGM.out.bound HKO.out HFL.out.1 (by
          have h5 : tot ls = tot (ls.take j) + tot (ls.drop j) := by rw [← tot_append, List.take_append_drop]
          have := HTT.out
          omega)
        have HBD := Lib.hid hbd
        have HPT := Lib.hid (fun k g e => (HGM.out k g e).2)
        clear hcon hbd
        go_wp2_with fail
        refine (change_any wr lo gc b n F S5 V5 (-1) P HS.out HKO.out HPT.out HBD.out hv0 (by omega) (by omega) (by omega) hPs).mono ?_
        rintro e w3 ⟨rfl, hs3, hk3⟩
        have HT3 := Lib.hid (HT.out.kp hk3)
        have HS3 := Lib.hid hs3
        have HK3 := Lib.hid (HK.out.trans hk3)
        have HGM3 : Hid (GoodM ((ls.take j).flatMap (spl row)) (ls.drop (j + 1)) F (scS S5 (V5 + 1) (-1) P.data.toList P.size) (V5 + 1)) := Lib.hid (by
          have h1 := HGM.out
          rw [HDR.out] at h1
          have h2 := h1.minus HKO.out
          rw [HPL.out] at h2
          exact h2)
        have HMW3 : Hid (MaxL w3) := Lib.hid (HMW.out.below hk3.below HMM.out)
        clear hs3 hk3 HT HS HK HGM HBD HPT
        generalize scS S5 (V5 + 1) (-1) P.data.toList P.size = S6 at *
        go_wp2_with fail
        refine (split_any w3 P t HMW3.out (by omega) ht1).mono ?_
        rintro e w4 ⟨nn, rfl, hnn, hw4⟩
        rw [← HROW.out] at hnn hw4
        obtain ⟨gs, hgs⟩ : ∃ gs, gs = w3.heap.size := ⟨_, rfl⟩
        rw [← hgs]
        have hb4 : Below w3.heap.size w3 w4 := by rw [hw4]; exact (Below.refl _ w3).alloc (Nat.le_refl _) _
        have hk4 : Kp lo w3 w4 := Kp.of_below hb4 HS3.out.cen.los
        have HT4 := Lib.hid (HT3.out.kp hk4)
        have HS4 := Lib.hid (HS3.out.keptBelow hb4)
        have HK4 := Lib.hid (HK3.out.trans hk4)
        have HR4 : Hid (RdK w4 lo (some ⟨gs, 0, none⟩) nn (spl row P.data.toList)) := Lib.hid (by
          rw [hw4]
          refine ⟨RdS.new_at w3 gs hgs _ _ _ rfl nn hnn, fun _ ad' hA => ?_⟩
          injection hA with hA
          subst hA
          rw [hgs]
          exact .inr ⟨_, _, heap_alloc_new w3 _⟩)
        have HU4 : Hid (TwoK w.heap.size lo w4 A5 n5 c5 (sc ((ls.take j).flatMap (spl row) ++ (spl row P.data.toList).take 0)) (some ⟨gs, 0, none⟩) nn (spl row P.data.toList)) := Lib.hid ⟨by rw [List.take_zero, List.append_nil]; exact HT4.out.own, HR4.out, fun _ ad' hA e => by
          injection hA with hA
          subst hA
          have h1 := (HT3.out.own.lt _ e).2
          rw [hgs] at h1
          exact absurd h1 (Nat.lt_irrefl _)⟩
        have HT4' : Hid (TwoK w.heap.size lo w4 A5 n5 c5 (sc ((ls.take j).flatMap (spl row) ++ (spl row P.data.toList).take 0)) (some ad) np ls) := Lib.hid (by rw [List.take_zero, List.append_nil]; exact HT4.out)
        have HGM4 : Hid (GoodM ((ls.take j).flatMap (spl row) ++ (spl row P.data.toList).take 0) (ls.drop (j + 1)) F S6 (V5 + 1)) := Lib.hid (by rw [List.take_zero, List.append_nil]; exact HGM3.out)
        have HNN := Lib.hid hnn
        have htp := splA_tot HNE.out [] P.data.toList
        have HSQ : Hid (Short_ 10000 (spl row P.data.toList)) := Lib.hid (by
          refine short_tot ?_
          rw [spl_eq]
          have := HPL.out
          rw [List.nil_append] at htp
          omega)
        have HLE : Hid (∀ q, ((ls.take j).flatMap (spl row) ++ (spl row P.data.toList).take q).length ≤ 10000 ∧ tot ((ls.take j).flatMap (spl row) ++ (spl row P.data.toList).take q) ≤ 10000) := Lib.hid (fun q => by
          have h1 := HFL.out
          rw [HTK.out] at h1
          have h2 := tot_take_le (spl row P.data.toList) q
          have h3 : ((spl row P.data.toList).take q).length ≤ (spl row P.data.toList).length := by rw [List.length_take]; omega
          rw [List.length_append, tot_append] at h1 ⊢
          omega)
        have hnn2 : (nn : Int) ≤ 10000 := by
          have h1 := HFL.out.2.2.2.1
          rw [HTK.out, List.length_append] at h1
          omega
        clear hnn hgs hb4 hk4 hw4 htp HT3 HS3 HK3 HGM3 HT4 HR4
        obtain ⟨V6, hV6⟩ : ∃ V6 : Int, V6 = V5 + 1 := ⟨_, rfl⟩
        rw [← hV6] at HS4 HGM4
        have hv60 : 0 ≤ V6 := by omega
        have hv61 : V6 ≤ V + (j + 1) + n5 := by omega
        clear hV6 hv0 hv1
        go_wp2_with fail
        go_loopw [7, 33] (fun v iv wi => ∃ (q : Nat) (A6 : Option Addr) (n6 c6 : Nat) (S7 : List UInt8 → Int × Int × Int) (V7 : Int), q ≤ nn ∧ iv = .int .i64 q ∧ v = .slice A6 n6 c6 ∧ 0 ≤ V7 ∧ V7 ≤ V + (j + 1) + n6 ∧ n6 ≤ 10000 ∧
          Hid (TwoK w.heap.size lo wi A6 n6 c6 (sc ((ls.take j).flatMap (spl row) ++ (spl row P.data.toList).take q)) (some ad) np ls) ∧ Hid (TwoK w.heap.size lo wi A6 n6 c6 (sc ((ls.take j).flatMap (spl row) ++ (spl row P.data.toList).take q)) (some ⟨gs, 0, none⟩) nn (spl row P.data.toList)) ∧
          Hid (CenS wi lo gc b n F S7 V7) ∧ Hid (Kp lo w wi) ∧ Hid (GoodM ((ls.take j).flatMap (spl row) ++ (spl row P.data.toList).take q) (ls.drop (j + 1)) F S7 V7)) (fun _ iv _ => nn - (intOf iv).toNat)
        case atStart => exact ⟨0, A5, n5, c5, S6, V6, by omega, rfl, rfl, hv60, hv61, hn5, HT4', HU4, HS4, HK4, HGM4⟩
        case round =>
          clear HT4' HU4 HS4 HK4 HGM4 hv60 hv61 hn5
          obtain ⟨q, A6, n6, c6, S7, V7, hq, rfl, rfl, hv0, hv1, hn6, HT, HU, HS, HK, HGM⟩ := hrel
          by_cases hlt2 : q < nn
          · have hqs := HSQ.out q
            obtain ⟨ad2, hAd, hab2, hcell2⟩ := HU.out.rd.1.2 (by omega)
            injection hAd with hAd
            subst hAd
            have hc2 := hcell2 q (by rw [← HNN.out]; exact hlt2)
            rw [Addr.add_lit, Nat.zero_add] at hc2
            obtain ⟨Q, hQ⟩ : ∃ Q, Q = bs ((spl row P.data.toList)[q]?.getD []) := ⟨_, rfl⟩
            have hQs : (Q.size : Int) ≤ 10000 := by rw [hQ, bs_size]; omega
            have hQl : Q.data.toList = (spl row P.data.toList)[q]?.getD [] := by rw [hQ, data_bs]
            have hql : Q.data.toList.length = Q.size := by rw [Array.length_toList]; rfl
            have HQL := Lib.hid hql
            have HQB : Hid (bs Q.data.toList = Q) := Lib.hid (bs_data Q)
            have HTQ : Hid ((spl row P.data.toList).take (q + 1) = (spl row P.data.toList).take q ++ [Q.data.toList]) := Lib.hid (by rw [hQl]; exact take_snoc (by rw [← HNN.out]; exact hlt2))
            rw [← hQ] at hc2
            have hbd := HGM.out.bound HKO.out (HLE.out q).2 HFL.out.2.2.2.2
            have HBD := Lib.hid hbd
            have HPT := Lib.hid (fun k g e => (HGM.out k g e).2)
            have hn7 : n6 + 1 ≤ 10000 := by
              have h1 := (HLE.out (q + 1)).1
              have h2 := ownS_len HT.out.own
              rw [HTQ.out, ← List.append_assoc, List.length_append, h2, List.length_singleton] at h1
              exact h1
            clear hcell2 hQ hQl hql hbd hqs hab2
            go_wp2_with fail
            refine (change_any wr lo gc b n F S7 V7 1 Q HS.out HKO.out HPT.out HBD.out hv0 (by omega) (by omega) (by omega) hQs).mono ?_
            rintro e w5 ⟨rfl, hs5, hk5⟩
            have HT5 := Lib.hid (HT.out.kp hk5)
            have HU5 := Lib.hid (HU.out.kp hk5)
            have HS5 := Lib.hid hs5
            have HK5 := Lib.hid (HK.out.trans hk5)
            have hz5 := HK5.out.size
            have HGM5 : Hid (GoodM ((ls.take j).flatMap (spl row) ++ (spl row P.data.toList).take (q + 1)) (ls.drop (j + 1)) F (scS S7 (V7 + 1) 1 Q.data.toList Q.size) (V7 + 1)) := Lib.hid (by
              have h2 := HGM.out.plus Q.data.toList HKO.out
              rw [HQL.out, List.append_assoc, ← HTQ.out] at h2
              exact h2)
            clear hs5 hk5 HT HU HS HK HGM HBD HPT hc2
            generalize scS S7 (V7 + 1) 1 Q.data.toList Q.size = S8 at *
            go_wp2_with (at_builtin; refine wpList_app1L _ rfl _ _ 22 rfl w.heap.size 9 i0 _ 16 Tryd.underlying22 HI.out HZ0.out HSZ.out HBY.out rfl _ n6 _ rfl (HT5.out.own.alloc _) ⟨_, 0, none⟩ 1 (.string Q) rfl (new_cell _ _ _) rfl (by omega) (by unfold maxLen; omega) (by simp; omega) ?_; intro A7 c7 w8 hown2 hg2 hw2)
            have HS8 := Lib.hid (HS5.out.app HT5.out.own hg2)
            have HK8 := Lib.hid (Kp.app HT5.out.own HK5.out HLO.out hg2)
            have hown3 : w8.ownsRow w.heap.size 9 1 (.slice A7 (n6 + 1) c7) (n6 + 1) (sc ((ls.take j).flatMap (spl row) ++ (spl row P.data.toList).take (q + 1))) := by
              rw [HTQ.out, ← List.append_assoc, sc_snoc, HQB.out]
              exact hown2
            have HT8 := Lib.hid (HT5.out.push hown3 hg2 hw2)
            have HU8 := Lib.hid (HU5.out.push hown3 hg2 hw2)
            clear hown2 hown3 hg2 hw2
            go_roundw
            case rel => exact ⟨q + 1, A7, n6 + 1, c7, S8, V7 + 1, by omega, by go_num, rfl, by omega, by omega, hn7, HT8, HU8, HS8, HK8, HGM5⟩
            case measure => simp [intOf]; omega
          · have HE : Hid ((spl row P.data.toList).take q = spl row P.data.toList) := Lib.hid (List.take_of_length_le (by rw [← HNN.out]; omega))
            have HT9 : Hid (TwoK w.heap.size lo wr A6 n6 c6 (sc ((ls.take (j + 1)).flatMap (spl row))) (some ad) np ls) := Lib.hid (by
              have h1 := HT.out
              rw [HE.out] at h1
              rw [HTK.out]
              exact h1)
            have HGM9 : Hid (GoodM ((ls.take (j + 1)).flatMap (spl row)) (ls.drop (j + 1)) F S7 V7) := Lib.hid (by
              have h1 := HGM.out
              rw [HE.out] at h1
              rw [HTK.out]
              exact h1)
            obtain rfl : q = nn := by omega
            go_wp2_with fail
            go_roundw
            case rel => exact ⟨j + 1, A6, n6, c6, S7, V7, by omega, by go_num, rfl, hv0, by omega, hn6, HT9, HS, HK, HGM9⟩
            case measure => simp [intOf]; omega
    · obtain rfl : j = np := by omega
      have HE : Hid (ls.take j = ls) := Lib.hid (List.take_of_length_le (by rw [HL.out]; omega))
      have HED : Hid (ls.drop j = []) := Lib.hid (List.drop_of_length_le (by rw [HL.out]; omega))
      go_wp2_with fail
      go_ret
      have h1 := HT.out.own
      have h2 := HGM.out
      rw [HE.out] at h1 h2
      rw [HED.out] at h2
      exact ⟨A5, n5, c5, S5, V5, rfl, h1, HS.out, HK.out, HG.out.next HNE.out h2, hv0, by omega⟩

theorem saves_le1 {k : List UInt8} {ps : List (List UInt8)} (h : cnt k ps ≤ 1) : savesI ps k ≤ 0 := by
  unfold savesI
  rcases (by omega : cnt k ps = 0 ∨ cnt k ps = 1) with e | e
  · rw [e]; omega
  · rw [e]; omega

/-- the best of the census is the best row -/
theorem census_best {ps : List (List UInt8)} {F : List UInt8 → Option Nat} {S : List UInt8 → Int × Int × Int} {V : Int} {t : List UInt8} {gb : Nat} {st : Int × Int × Int} (hg : GoodC ps F S V) (hk : KeysOk F) (hb : BestSo F S (fun _ => false) t gb st) :
    (sv t st ≤ 0 → bestL ps = []) ∧ (0 < sv t st → bestL ps = t ∧ 2 ≤ t.length ∧ t.length ≤ 8) := by
  have hs : ∀ k g, F k = some g → sv k (S k) = savesI ps k := fun k g e => by
    unfold sv savesI
    rw [(hg.1 k g e).1]
  have hle : sv t st ≤ 0 → ∀ r : List UInt8, 2 ≤ r.length → r.length ≤ 8 → savesI ps r ≤ 0 := fun h r h2 h8 => by
    cases hF : F r with
    | none => exact saves_le1 (hg.2 r h2 h8 hF)
    | some g =>
      have h1 := hb.2 r g hF rfl
      rw [hs r g hF] at h1
      unfold btx at h1
      have : ¬ sv t st < savesI ps r := fun e => h1 (.inl e)
      omega
  refine ⟨fun h => bestL_none (hle h), fun h => ?_⟩
  rcases hb.1 with ⟨e1, e2⟩ | ⟨e1, e2⟩
  · rw [e1, e2] at h
    have e3 : costL [] = 0 := by have := costL_le []; simpa using this
    unfold sv at h
    rw [e3] at h
    simp at h
  · have h2 := (hk t gb e1).1
    have h8 := (hk t gb e1).2.1
    refine ⟨?_, h2, h8⟩
    have h3 := h
    rw [e2, hs t gb e1] at h3
    refine bestL_is h2 h8 h3 ?_ fun r r2 r8 r0 hbt => ?_
    · rcases Nat.eq_zero_or_pos (cnt t ps) with e | e
      · have := saves_le1 (k := t) (ps := ps) (by omega)
        omega
      · exact e
    · cases hF : F r with
      | none =>
        have := saves_le1 (hg.2 r r2 r8 hF)
        omega
      | some g =>
        refine hb.2 r g hF rfl ?_
        rw [hs r g hF, e2, hs t gb e1]
        exact hbt

theorem GoodC.bound {ls : List (List UInt8)} {F : List UInt8 → Option Nat} {S : List UInt8 → Int × Int × Int} {V : Int} (h : GoodC ls F S V) (hk : KeysOk F) (h1 : tot ls ≤ 10000) (k : List UInt8) (g : Nat) (e : F k = some g) : -1000000 ≤ (S k).1 ∧ (S k).1 ≤ 1000000 := by
  have h3 := (h.1 k g e).1
  have h4 := cnt_le_tot (hk.ne e) ls
  constructor <;> omega

theorem MaxL.lt {w : World} (h : MaxL w) : 0 < w.heap.size := by
  obtain ⟨m, h⟩ := h
  exact World.block_lt_of_cell? _ _ h

theorem MaxL.up {w w' : World} (h : MaxL w) (hb : Below w.heap.size w w') : MaxL w' := h.below hb h.lt

/-- a row that a call hands back, beside one that was there -/
theorem TwoK.next {base lo : Nat} {wr w' : World} {A : Option Addr} {n c : Nat} {xs : List Value} {A1 A2 : Option Addr} {m m2 c2 : Nat} {ys zs : List (List UInt8)}
    (h : TwoK base lo wr A n c xs A1 m ys) (ho : w'.ownsRow wr.heap.size 9 1 (.slice A2 m2 c2) m2 (sc zs)) (hk : Kp lo wr w') : TwoK base lo w' A n c xs A2 m2 zs :=
  ⟨own_kp h.own hk, RdK.of_own ho, fun _ ad hA e => by
    have h2 := own_ge ho ad hA
    have h3 := (h.own.lt _ e).2
    omega⟩

set_option maxRecDepth 100000 in
set_option maxHeartbeats 12800000 in
theorem choose_any (w : World) (A : Option Addr) (n c : Nat) (ls : List (List UInt8)) (most : Int) (h : RdS w w.heap.size A n ls) (hc : n ≤ c) (ht : n + tot ls ≤ 10000) (hm : MaxL w) :
    Calls Tryd.prog 21 #[.slice A n c, .int .i64 most] w (OutS w.heap.size 9 w (chooseL ls most)) := by
  obtain ⟨i0, hi, hz0, hsz, hby⟩ := inf_parts Tryd.inf_str
  have HI := Lib.hid hi
  have HZ0 := Lib.hid hz0
  have HSZ := Lib.hid hsz
  have HBY := Lib.hid hby
  have HL := Lib.hid h.1
  have HR := Lib.hid h
  have HTT := Lib.hid ht
  have HM := Lib.hid hm
  have HMM := Lib.hid hm.lt
  obtain ⟨K, hK⟩ : ∃ K, K = (min most 32).toNat := ⟨_, rfl⟩
  have HF : Hid (chooseL ls most = chooseF K ls) := Lib.hid (by rw [hK]; rfl)
  have HKK := Lib.hid hK
  obtain ⟨lo, hlo⟩ : ∃ lo, lo = w.heap.size := ⟨_, rfl⟩
  have HLO := Lib.hid hlo
  clear hi hz0 hsz hby h hK hc ht hm
  go_enter Tryd.func21, Tryd.ntmps21
  go_wp2_with fail
  refine (counted_any w A n c ls HR.out HTT.out).mono ?_
  rintro e w1 ⟨b, n1, F, S, V, rfl, hC, hB, hG, hV0, hV1⟩
  obtain ⟨w2, hw2⟩ : ∃ w2, w2 = w1.alloc (.cells #[.map (some b), .int .i64 V] 72) := ⟨_, rfl⟩
  obtain ⟨gc, hgc⟩ : ∃ gc, gc = w1.heap.size := ⟨_, rfl⟩
  have hb2 : Below w1.heap.size w1 w2 := by rw [hw2]; exact (Below.refl _ w1).alloc (Nat.le_refl _) _
  rw [← hlo] at hC
  have HS0 : Hid (CenS w2 lo gc b n1 F S V) := Lib.hid ⟨hC.keptBelow hb2, by rw [hgc]; exact hC.los, by rw [hw2, hgc]; exact Blk.new w1 _ _⟩
  have HB0 : Hid (Below w.heap.size w w2) := Lib.hid (hB.trans (hb2.mono hB.size))
  have HT0 : Hid (TwoK w.heap.size lo w2 none 0 0 (sc []) A n ls) := Lib.hid ⟨ownS_nil _ _ _, RdK.of_rd (by rw [hlo]; exact HR.out.below HB0.out) (by rw [hlo]; exact HB0.out.size), fun _ _ _ e => by cases e⟩
  have HG0 := Lib.hid hG.good
  have HKO := Lib.hid hG.keys
  have HW2 := Lib.hid hw2
  have HGC := Lib.hid hgc
  have HMO : Hid (0 < lo) := Lib.hid (by rw [hlo]; exact HMM.out)
  clear hC hB hG hb2 hw2 hgc hlo
  go_wp2_with fail
  try go_frame
  rw [← HW2.out, ← HGC.out]
  go_loopw [5, 7, 14] (fun v5 v7 v14 wr => ∃ (A5 : Option Addr) (n5 c5 : Nat) (ps : List (List UInt8)) (A7 : Option Addr) (n7 c7 : Nat) (os : List (List UInt8)) (S' : List UInt8 → Int × Int × Int) (V' : Int), v5 = .slice A5 n5 c5 ∧ v7 = .slice A7 n7 c7 ∧ v14 = .int .i64 n7 ∧ n7 ≤ K ∧ 0 ≤ V' ∧ V' ≤ 70000 + 20000 * n7 ∧
    Hid (TwoK w.heap.size lo wr A7 n7 c7 (sc os) A5 n5 ps) ∧ Hid (CenS wr lo gc b n1 F S' V') ∧ Hid (Below w.heap.size w wr) ∧ Hid (GoodC ps F S' V') ∧ Hid (os ++ chooseF (K - n7) ps = chooseF K ls) ∧ Hid (n5 + tot ps ≤ 10000)) (fun _ _ v14 _ => K - (intOf v14).toNat)
  case atStart => exact ⟨A, n, c, ls, none, 0, 0, [], S, V, rfl, rfl, rfl, by omega, hV0, by omega, HT0, HS0, HB0, HG0, Lib.hid rfl, HTT⟩
  case round =>
    clear HT0 HS0 HB0 HG0 hV0 hV1
    obtain ⟨A5, n5, c5, ps, A7, n7, c7, os, S', V', rfl, rfl, rfl, hn7, hv0, hv1, HT, HS, HB, HG, HE, HMT⟩ := hrel
    by_cases hlt : n7 < K
    · have h32 : (n7 : Int) < 32 := by have := HKK.out; omega
      have hmo : (n7 : Int) < min most 32 := by have := HKK.out; omega
      have HBD := Lib.hid (HG.out.bound HKO.out (Nat.le_trans (Nat.le_add_left _ _) HMT.out))
      have HK8 : Hid (∀ k g, F k = some g → k.length ≤ 8) := Lib.hid (fun k g e => (HKO.out k g e).2.1)
      go_wp2_with fail
      refine (best_any wr lo gc b n1 F S' V' HS.out HK8.out HBD.out).mono ?_
      rintro e w3 ⟨gb, t, st, rfl, hcd, hs3, hk3, hbs⟩
      have hcb := census_best HG.out HKO.out hbs
      have hst : -1000000 ≤ st.1 ∧ st.1 ≤ 1000000 ∧ t.length ≤ 8 := by
        rcases hbs.1 with ⟨e1, e2⟩ | ⟨e1, e2⟩
        · rw [e1, e2]; exact ⟨by decide, by decide, by simp⟩
        · rw [e2]; exact ⟨(HBD.out t gb e1).1, (HBD.out t gb e1).2, HK8.out t gb e1⟩
      have HST := Lib.hid hst
      have HT3 := Lib.hid (HT.out.kp hk3)
      have HS3 := Lib.hid hs3
      have HB3 := Lib.hid (HB.out.trans (by have h1 := hk3.below; rw [HLO.out] at h1; exact h1))
      have HCB := Lib.hid hcb
      have HCD := Lib.hid hcd
      clear hcd hs3 hk3 hbs hcb hst HT HS HB HBD HK8
      obtain ⟨cc, pp, ff⟩ := st
      go_wp2_with fail
      refine (saving_any w3 gb t cc pp ff HCD.out HST.out.2.2 HST.out.1 HST.out.2.1).mono ?_
      rintro e w4 ⟨rfl, nq, rfl⟩
      have hbd : Below w3.heap.size w3 (w3.drewN nq) := below_drewN (Below.refl _ _) nq
      have HT4 := Lib.hid (HT3.out.kp (Kp.of_below hbd HS3.out.cen.los))
      have HS4 := Lib.hid (HS3.out.keptBelow hbd)
      have HB4 := Lib.hid (HB3.out.trans (hbd.mono HB3.out.size))
      have HCD4 := Lib.hid (HCD.out.drew nq)
      clear hbd HT3 HS3 HB3 HCD
      generalize w3.drewN nq = w5 at *
      obtain ⟨sav, hsav⟩ : ∃ sav, sav = sv t (cc, pp, ff) := ⟨_, rfl⟩
      rw [← hsav] at HCB ⊢
      clear hsav
      by_cases hle : sav ≤ 0
      · have HE2 : Hid (os = chooseF K ls) := Lib.hid (by
          have h1 := HE.out
          rw [choose_stop (HCB.out.1 hle), List.append_nil] at h1
          exact h1)
        go_wp2_with fail
        go_ret
        rw [HF.out, ← HE2.out]
        exact ⟨A7, n7, c7, rfl, HT4.out.own, HB4.out⟩
      · obtain ⟨hbt, ht2, ht8⟩ := HCB.out.2 (by omega)
        have c0 := HCD4.out.cell 0
        simp at c0
        obtain ⟨x, hx⟩ : ∃ x, x = bs t := ⟨_, rfl⟩
        rw [← hx] at c0
        have hxs : x.size = t.length := by rw [hx, bs_size]
        have hxd : x.data.toList = t := by rw [hx, data_bs]
        have HXD := Lib.hid hxd
        have HXB := Lib.hid hx
        have HBT := Lib.hid hbt
        have hx1 : (x.size : Int) ≤ 8 := by omega
        have hx2 : 2 ≤ x.size := by omega
        have HTN : Hid (t ≠ []) := Lib.hid (by intro e; rw [e] at ht2; simp at ht2)
        clear hx hxs hxd hbt ht2 ht8
        go_wp2_with fail
        refine (clone_any w5 x (by omega)).mono ?_
        rintro e w6 ⟨rfl, hb6⟩
        have HT6 := Lib.hid (HT4.out.kp (Kp.of_below hb6 HS4.out.cen.los))
        have HS6 := Lib.hid (HS4.out.keptBelow hb6)
        have HB6 := Lib.hid (HB4.out.trans (hb6.mono HB4.out.size))
        have HCD6 : Hid (Cd w6 gb t (cc, pp, ff)) := Lib.hid (Blk.below HCD4.out hb6 HCD4.out.lt)
        have HCL : Hid (∀ v, (w6.alloc (.cells #[.string x] 9)).grownBy v (Value.slice A7 n7 c7).ownBlock → v.cell? ⟨gb, 0, none⟩ = some (.string x)) := Lib.hid (fun v hv => by
          have h1 : Cd (w6.alloc (.cells #[.string x] 9)) gb t (cc, pp, ff) := Blk.alloc HCD6.out _
          have h2 : Cd v gb t (cc, pp, ff) := Blk.grown h1 hv (fun e => by
            obtain ⟨cs, fr, e2⟩ := own_str (HT6.out.own.alloc (.cells #[.string x] 9)) gb e.symm
            exact h1.ne cs fr e2)
          rw [HXB.out]
          exact h2.cell 0)
        have hz6 := HB6.out.size
        clear hb6 c0 HT4 HS4 HB4 HCD4
        go_wp2_with (at_builtin; refine wpList_app1L _ rfl _ _ 22 rfl w.heap.size 9 i0 _ 16 Tryd.underlying22 HI.out HZ0.out HSZ.out HBY.out rfl _ n7 _ rfl (HT6.out.own.alloc _) ⟨_, 0, none⟩ 1 (.string x) rfl (new_cell _ _ _) rfl (by omega) (by unfold maxLen; omega) (by simp; omega) ?_; intro A8 c8 w8 hown2 hg2 hw2; have c0 := HCL.out w8 hg2)
        have HS8 := Lib.hid (HS6.out.app HT6.out.own hg2)
        have HB8 := Lib.hid (app_below HT6.out.own HB6.out hg2)
        have HT8 := Lib.hid (HT6.out.push hown2 hg2 hw2)
        have HMW8 : Hid (MaxL w8) := Lib.hid (HM.out.below HB8.out HMM.out)
        clear hown2 hg2 hw2 c0 HT6 HS6 HB6 HCL
        refine (remove_any w8 lo gc b n1 F S' V' A5 n5 c5 ps x HS8.out HT8.out.rd HG.out HKO.out HMT.out (by omega) hx1 HMW8.out HMO.out hv0 (by omega)).mono ?_
        rintro e w9 ⟨A9, n9, c9, S9, V9, rfl, ho9, hs9, hk9, hg9, hv90, hv91⟩
        rw [HXD.out] at ho9 hg9
        have HT9 := Lib.hid (HT8.out.next ho9 hk9)
        have HS9 := Lib.hid hs9
        have HG9 := Lib.hid hg9
        have HB9 := Lib.hid (HB8.out.trans (by have h1 := hk9.below; rw [HLO.out] at h1; exact h1))
        obtain ⟨k, hk⟩ : ∃ k, K - n7 = k + 1 := ⟨K - n7 - 1, by omega⟩
        have HE9 : Hid ((os ++ [t]) ++ chooseF (K - (n7 + 1)) (ps.flatMap (spl t)) = chooseF K ls) := Lib.hid (by
          have h1 := HE.out
          rw [hk, choose_step (by rw [HBT.out]; exact HTN.out), HBT.out] at h1
          rw [List.append_assoc, show K - (n7 + 1) = k from by omega]
          exact h1)
        have HM9 : Hid (n9 + tot (ps.flatMap (spl t)) ≤ 10000) := Lib.hid (by
          obtain ⟨h1, h2⟩ := flat_tot HTN.out ps
          have h3 := HMT.out
          have h4 := HT8.out.rd.1.1
          have h5 : cnt t ps * 1 ≤ cnt t ps * t.length := Nat.mul_le_mul_left _ (pos_of_ne HTN.out)
          have h6 := ownS_len ho9
          omega)
        have HT10 : Hid (TwoK w.heap.size lo w9 A8 (n7 + 1) c8 (sc (os ++ [t])) A9 n9 (ps.flatMap (spl t))) := Lib.hid (by
          rw [sc_snoc, ← HXB.out]
          exact HT9.out)
        clear ho9 hs9 hk9 hg9 hk HT8 HT9
        go_wp2_with fail
        go_roundw
        case rel => exact ⟨A9, n9, c9, _, A8, n7 + 1, c8, _, S9, V9, rfl, rfl, by go_num, by omega, hv90, by omega, HT10, HS9, HB9, HG9, HE9, HM9⟩
        case measure => simp [intOf]; omega
    · have HE2 : Hid (os = chooseF K ls) := Lib.hid (by
        have h1 := HE.out
        rw [show K - n7 = 0 from by omega] at h1
        simpa [chooseF] using h1)
      have hmo : ¬ (n7 : Int) < min most 32 := by have := HKK.out; omega
      go_wp2_with fail
      go_ret
      rw [HF.out, ← HE2.out]
      exact ⟨A7, n7, c7, rfl, HT.out.own, HB.out⟩

end Go.Proofs.YtpfkkmjodhpkoaaDoor
