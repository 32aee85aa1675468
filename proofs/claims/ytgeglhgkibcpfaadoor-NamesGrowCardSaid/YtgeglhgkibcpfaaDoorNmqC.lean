/- A map of names in memory; maps.Values at it, its iterator; slices.AppendSeq and slices.Collect at names. -/
import Derived.Test.YtgeglhgkibcpfaaDoorNamA
import Derived.Maps.RangeWalk
import Derived.Maps.OwnSet
import Derived.Sort.KeysCollected
import Derived.Sort.MapsRangeIn
import Derived.RangeFuncGives
import Derived.WalkKit
import Derived.OwnWalkIn
import Derived.TacticsInMore
import Derived.RegionIn
import Derived.LoopNIn
import Derived.LoopIn
import Derived.Shelf.Abstract
import Derived.Test.YtgeglhgkibcpfaaDoorAppV
import Derived.Maps.AppendAt
namespace Go.Proofs.YtgeglhgkibcpfaaDoor
open Go.RowKit
set_option linter.unusedVariables false

/-- an element of a map, read as it is -/
def heldR (v : Value) : Option (DataW Value × List MemPlace) := some (.held v, [])

/-- what a map of names holds at a key -/
def elN (o : Option Nm) (zd : DataW Value) : DataW Value := match o with | some x => .held (nmV x) | none => zd

theorem nmV_inj {x y : Nm} (h : nmV x = nmV y) : x = y := by
  unfold nmV at h
  injection h with h
  simp at h
  obtain ⟨h1, h2, h3⟩ := h
  have e := congrArg (fun b : ByteArray => b.data.toList) h1
  simp only [data_bs] at e
  cases x
  cases y
  simp_all

/-- block b is a map of texts to names -/
def NM (w : World) (b n : Nat) (F : List UInt8 → Option Nm) : Prop :=
  ∃ D : DataW Value, w.ownsMap Tryd.prog 9 heldR b n D ∧ ∀ (x : List UInt8) (zd : DataW Value), D.atKey (.string x) zd = elN (F x) zd

theorem Tryd.keyedN : Go.Maps.Keyed Tryd.prog 9 := Go.Maps.string_keyed Tryd.underlying9

theorem key_strN {s : ByteArray} (hs : s.size ≤ maxLen) : keyOf Tryd.prog 9 (.string s) = some (.string s.data.toList) := Go.WideMaps.keyOf_string_mk Tryd.underlying9 hs

theorem NM.lt {w : World} {b n : Nat} {F : List UInt8 → Option Nm} (h : NM w b n F) : b < w.heap.size := by obtain ⟨D, h, _⟩ := h; exact h.lt
theorem NM.isMap {w : World} {b n : Nat} {F : List UInt8 → Option Nm} (h : NM w b n F) : ∃ es c, w.heap[b]? = some (.map es c) := by obtain ⟨D, ⟨es, c, h, _⟩, _⟩ := h; exact ⟨es, c, h⟩
theorem NM.kept {w w' : World} {b n : Nat} {F : List UInt8 → Option Nm} {row : Option Nat} (h : NM w b n F) (hg : w.grownBy w' row) (hne : some b ≠ row) : NM w' b n F := by
  obtain ⟨D, h, hd⟩ := h
  exact ⟨D, h.kept hg hne, hd⟩
theorem NM.below {w w' : World} {b n : Nat} {F : List UInt8 → Option Nm} (h : NM w b n F) (hb : Below w.heap.size w w') : NM w' b n F := h.kept (gb_below hb none) (by simp)
theorem NM.mono {w : World} {b n n' : Nat} {F : List UInt8 → Option Nm} (h : NM w b n F) (hn : n ≤ n') : NM w b n' F := by
  obtain ⟨D, h, hd⟩ := h
  exact ⟨D, h.mono hn, hd⟩
theorem NM.congr {w : World} {b n : Nat} {F F' : List UInt8 → Option Nm} (h : NM w b n F) (e : ∀ x, F x = F' x) : NM w b n F' := by
  obtain ⟨D, h, hd⟩ := h
  exact ⟨D, h, fun x zd => by rw [hd, e]⟩
theorem NM.made (w : World) : NM (w.alloc (.map #[] 0)) w.heap.size 0 fun _ => none := ⟨.map [], World.ownsMap_made w _ _ _, fun x zd => rfl⟩
theorem NM.ne {w : World} {b n : Nat} {F : List UInt8 → Option Nm} (h : NM w b n F) {g : Nat} {t : TypeId} {cs : Array Value} (hb : Blk w g t cs) : g ≠ b := by
  obtain ⟨es, c, hm⟩ := h.isMap
  rintro rfl
  unfold Blk at hb
  rw [hm] at hb
  cases hb

theorem NM.lookup {w : World} {b n : Nat} {F : List UInt8 → Option Nm} (h : NM w b n F) (s : ByteArray) (hs : s.size ≤ maxLen) :
    (Instr.lookup 59 (.map (some b)) (.string s) false).run Tryd.prog w = .ok (nmV ((F s.data.toList).getD noNm)) w := by
  obtain ⟨D, ho, hat⟩ := h
  obtain ⟨v, ps, hrun, hv⟩ := ho.lookup Tryd.keyedN Tryd.underlying59 (z := nmV noNm) (Tryd.zeroValue45 w) (zd := .held (nmV noNm)) (zp := []) rfl (key_strN hs)
  rw [hat] at hv
  unfold heldR at hv
  cases hF : F s.data.toList with
  | none =>
    rw [hF] at hv
    simp [elN] at hv
    rw [hrun, hv.1]
    rfl
  | some g =>
    rw [hF] at hv
    simp [elN] at hv
    rw [hrun, hv.1]
    rfl

/-- a key more -/
def putM (F : List UInt8 → Option Nm) (k : List UInt8) (x : Nm) : List UInt8 → Option Nm := fun s => if s = k then some x else F s

theorem NM.update {w : World} {b n : Nat} {F : List UInt8 → Option Nm} (h : NM w b n F) (hn : n < maxLen) (s : ByteArray) (hs : s.size ≤ maxLen) (x : Nm) :
    ∃ w', (Instr.mapUpdate 59 (.map (some b)) (.string s) (nmV x)).run Tryd.prog w = .ok () w' ∧ NM w' b (n + 1) (putM F s.data.toList x) ∧ w.grownBy w' (some b) := by
  obtain ⟨D, ho, hat⟩ := h
  obtain ⟨w', hrun, ho', hg⟩ := ho.update Tryd.keyedN Tryd.underlying59 hn (val := nmV x) (d := .held (nmV x)) (ps := []) (key_strN hs) rfl
  refine ⟨w', hrun, ⟨_, ho', fun y zd => ?_⟩, hg⟩
  unfold putM
  by_cases e : y = s.data.toList
  · subst e
    rw [if_pos rfl, Go.Maps.atKey_put_same ho.isMap (k := .string s.data.toList) (by simp [WideAt.IsKeyLit])]
    rfl
  · rw [if_neg e, Go.Maps.atKey_put_other (fun e' => e (by injection e')), hat]

/-- 'm[k] = v' at the operation -/
theorem wpList_putN {w : World} {ops : Array Oper} {rest : List Oper} {o : Oper} {a : Act} {Q : Exit → Act → World → Prop} (hg : o.guard = none) (m x v : Operand) (hop : o.op = Op.mapUpdate 59 m x v)
    (b n : Nat) (F : List UInt8 → Option Nm) (hm : a.eval m = .map (some b)) (h : NM w b n F) (hn : n < maxLen) (s : ByteArray) (hs : s.size ≤ maxLen) (y : Nm) (hx : a.eval x = .string s) (hv : a.eval v = nmV y)
    (hK : ∀ w', NM w' b (n + 1) (putM F s.data.toList y) → w.grownBy w' (some b) → wpList Tryd.prog ops Q rest (a.put o.dst undef) w') : wpList Tryd.prog ops Q (o :: rest) a w := by
  refine wpList_plain hg fun K' hK' => ?_
  obtain ⟨w', hrun, r1, r2⟩ := h.update hn s hs y
  unfold Oper.wp
  simp [execOp, hop, hm, hx, hv, hrun, Result.andThen]
  exact hK' _ _ (hK w' r1 r2)

/-- all that a map holds, in some order -/
def AllN (F : List UInt8 → Option Nm) (xs : List Nm) : Prop :=
  ∃ ps : List (List UInt8 × Nm), (ps.map (·.1)).Nodup ∧ (∀ s, s ∈ ps.map (·.1) ↔ (F s).isSome = true) ∧ (∀ p ∈ ps, F p.1 = some p.2) ∧ xs = ps.map (·.2)

open Go.RowKit Go.Maps Go.Sort
set_option linter.unusedVariables false

set_option maxRecDepth 100000 in
set_option maxHeartbeats 1000000 in
theorem nvalues_in (F0 : Fence) (n : Nat) (hf : F0.fn 30) (hro : F0.round = none) (mb : Option Nat) (w : World) :
    CallsIn F0 n Tryd.prog 30 #[.map mb] w fun e w' => e = .returned (.func (.func 53) #[] #[.pointer (some ⟨w.heap.size, 0, none⟩)]) ∧ w' = w.alloc (.cells #[.map mb] 59) := by
  refine callsIn_of_wp Tryd.func30 rfl hf ?_ hro
  simp only [Tryd.ntmps30, List.size_toArray, List.length_cons, List.length_nil, Nat.reduceAdd, Nat.reduceSub, Array.replicate_succ, Array.replicate_zero, List.push_toArray, List.append_toArray, List.nil_append, List.cons_append]
  gi_wp2
  go_ret
  exact ⟨rfl, rfl⟩

set_option maxRecDepth 100000 in
set_option maxHeartbeats 1000000 in
/-- the iterator: every name comes, each once, in some order -/
theorem nvals1_in (F0 : Fence) (n : Nat) (hf : F0.fn 53) (hro : F0.round = none) (hn : 1 ≤ n) (l Bm b nn : Nat) (F : List UInt8 → Option Nm) (J : List Nm → World → Prop)
    (hY : ∀ pre x W, J pre W → pre.length < nn → YieldAt F0 (n - 1) Tryd.prog l #[nmV x] W fun e W' => e = .returned (.bool true) ∧ J (pre ++ [x]) W' ∧ KeepsWalks W W')
    (W : World) (hJ : AbidesFrom W.heap.size J) (hm : W.cell? ⟨Bm, 0, none⟩ = some (.map (some b))) (hown : NM W b nn F) (h0 : J [] W) :
    CallsIn F0 n Tryd.prog 53 #[.func (.yield l) #[] #[], .pointer (some ⟨Bm, 0, none⟩)] W fun e W' => (∃ v, e = .returned v) ∧ ∃ xs, AllN F xs ∧ J xs W' := by
  obtain ⟨D, hown, hat⟩ := hown
  have hsz : Maps.size D ≤ nn := by
    obtain ⟨es, clock, hb, Ft, hs, hD⟩ := hown
    subst hD
    simpa [Maps.size, length_sorted] using hs
  refine callsIn_of_wp Tryd.func53 rfl hf ?_ hro
  simp only [Tryd.ntmps53, List.size_toArray, List.length_cons, List.length_nil, Nat.reduceAdd, Nat.reduceSub, Array.replicate_succ, Array.replicate_zero, List.push_toArray, List.append_toArray, List.nil_append, List.cons_append]
  gi_wp2_with (first
    | (gi_at_range; refine wpListIn_range_own _ rfl _ 59 rfl 9 45 Tryd.keyedN Tryd.underlying59 _ b nn _ rfl hown ?_; intro w0 hrg0 hg0 hs0)
    | gi_in)
  go_frame
  gi_loopw [4] (fun _ wr => ∃ (left : Lit → Bool) (cnt : Nat) (ps : List (List UInt8 × Nm)), wr.ranges Tryd.prog 9 heldR b W.heap.size nn D left cnt ∧ ps.length + cnt ≤ Maps.size D ∧ Collected D left (ps.map (·.1)) ∧ (∀ p ∈ ps, F p.1 = some p.2) ∧ J (ps.map (·.2)) wr)
    (fun _ wr => wr.rangeLeft b W.heap.size)
  case atStart =>
    exact ⟨_, _, [], hrg0, by simp, Collected.start D, by simp, hJ [] W w0 none h0 hg0 (fun r e => by cases e)⟩
  case round =>
    obtain ⟨left, cnt, ps, hrg, hcs, hC, hV, hJs⟩ := hrel
    gi_wp2_with (first
      | (gi_at_next; refine wpListIn_next_ranges _ rfl _ rfl 9 Tryd.keyedN heldR encStr id (fun key kl hk => by obtain ⟨x, hx, _⟩ := Maps.keyOf_str Tryd.underlying9 hk; exact ⟨x, hx⟩) (fun v _ _ => ⟨v, rfl⟩) b W.heap.size nn _ _ _ rfl hrg ?_ ?_)
      | gi_in)
    · -- nothing is left
      intro hc0 hl0
      gi_wp2
      go_end0
      refine ⟨⟨_, rfl⟩, _, ⟨ps, hC.1, fun s => ?_, hV, rfl⟩, hJs⟩
      rw [hC.2 s, hl0]
      cases hF : F s with
      | none =>
        simp
        exact Go.Maps.has_false_of_atKey (fun z => by rw [hat, hF]; rfl)
      | some g =>
        simp
        exact Go.Maps.has_true_of_atKey (fun z => by rw [hat, hF]; rfl)
    · -- an entry has come
      intro x c kl yd yp w2 cnt2 hkey hlk hv hat2 hrg2 hlt hg2 hs2 hen
      obtain ⟨x', ex, rfl, _⟩ := Maps.keyOf_str Tryd.underlying9 hkey
      obtain rfl : x = x' := encStr_inj ex
      have hv' : yd = .held c := by
        unfold heldR at hv
        simp at hv
        exact hv.1.symm
      subst hv'
      obtain ⟨y, hF⟩ : ∃ y, F x = some y := by
        cases hF : F x with
        | some g => exact ⟨g, rfl⟩
        | none =>
          have e1 := hat2 .nil
          rw [hat, hF] at e1
          cases e1
      have hcy : c = nmV y := by
        have e1 := hat2 .nil
        rw [hat, hF] at e1
        simp [elN] at e1
        exact e1.symm
      subst hcy
      have hJ2 : J (ps.map (·.2)) w2 := hJ _ wr w2 (some W.heap.size) hJs hg2 (fun r e => by cases e; exact ⟨Nat.le_refl _, hrg.iter_walk⟩)
      obtain ⟨w3, hw3⟩ : ∃ w3, w2.alloc (.cells #[.string (bs y.name), .int .i64 y.kind, .int .i64 y.num] 45) = w3 := ⟨_, rfl⟩
      have hg3 : w2.grownBy w3 none := by rw [← hw3]; exact World.grownBy_alloc w2 _ none
      have hJ3 : J (ps.map (·.2)) w3 := hJ _ w2 w3 none hJ2 hg3 (fun r e => by cases e)
      have hrg3 := hrg2.kept hg3 (by simp) (by simp)
      obtain ⟨fn, tmps, assign, body, hy, hR⟩ := hY (ps.map (·.2)) y w3 hJ3 (by simp; omega)
      clear hs2
      have hk3 : Blk w3 w2.heap.size 45 #[.string (bs y.name), .int .i64 y.kind, .int .i64 y.num] := by rw [← hw3]; exact Blk.new _ _ _
      have hc0 := hk3.cell 0
      have hc1 := hk3.cell 1
      have hc2 := hk3.cell 2
      simp at hc0 hc1 hc2
      clear hk3
      unfold nmV at hy hen
      gi_wp2
      refine hR.mono ?_
      have hC2 : Collected D (fun z => left z && !z.sameKey (.string x)) ((ps ++ [(x, y)]).map (·.1)) := by simpa using hC.step hlk hat2
      have hV2 : ∀ p ∈ ps ++ [(x, y)], F p.1 = some p.2 := fun p hp => (List.mem_append.1 hp).elim (hV p) (fun e => by simp at e; subst e; exact hF)
      rintro e W3 ⟨rfl, hJ4, hk4⟩
      gi_wp2
      have hrg4 := hrg3.of_walks hk4
      go_roundw
      case rel => exact ⟨_, cnt2, ps ++ [(x, y)], hrg4, by simp; omega, hC2, hV2, by simpa using hJ4⟩
      case measure => rw [hrg4.left_eq, hrg.left_eq]; exact hlt

theorem nvals_gives (F0 : Fence) (n : Nat) (hf : F0.fn 53) (hro : F0.round = none) (hn : 1 ≤ n) (Bm b nn : Nat) (F : List UInt8 → Option Nm) (w : World) (hBm : Bm < w.heap.size)
    (hm : w.cell? ⟨Bm, 0, none⟩ = some (.map (some b))) (hown : NM w b nn F) :
    SeqGives F0 n Tryd.prog 53 #[.pointer (some ⟨Bm, 0, none⟩)] nmV (AllN F) nn w := fun l J W hW hJ hY h0 =>
  nvals1_in F0 n hf hro hn l Bm b nn F J hY W hJ ((hW.cell (p := ⟨Bm, 0, none⟩) hBm).trans hm) (hown.below hW) h0

open Go.RowKit Go.Maps Go.Sort
set_option linter.unusedVariables false

def apAssignN : Code := (Code.region 2 #[{ dst := some 5, op := Op.alloc 45, type := 0, pos := "iter.go:51", after := #[], guard := none }, { dst := none, op := Op.store 45 (Operand.tmp 5) (Operand.tmp 7), type := 0, pos := "iter.go:51", after := #[{ on := 0, ground := Ground.data }, { on := 0, ground := Ground.phase }], guard := none }] false)
def apBodyN : Code := (Code.block 1 (Code.region 3 #[{ dst := some 8, op := Op.load 27 (Operand.tmp 2), type := 27, pos := "iter.go:52", after := #[], guard := none }, { dst := some 9, op := Op.load 45 (Operand.tmp 5), type := 45, pos := "iter.go:52", after := #[], guard := none }, { dst := some 10, op := Op.buildSlice 27 1 #[(0, Operand.tmp 9)], type := 27, pos := "iter.go:52", after := #[{ on := 1, ground := Ground.data }], guard := none }, { dst := some 11, op := Op.call { callee := Callee.builtin Builtin.append, args := #[Operand.tmp 8, Operand.tmp 10], argTypes := #[27, 27] }, type := 27, pos := "iter.go:52", after := #[{ on := 0, ground := Ground.data }, { on := 2, ground := Ground.data }], guard := none }, { dst := none, op := Op.store 27 (Operand.tmp 2) (Operand.tmp 11), type := 0, pos := "iter.go:52", after := #[{ on := 3, ground := Ground.data }, { on := 3, ground := Ground.chain }, { on := 0, ground := Ground.phase }, { on := 1, ground := Ground.phase }, { on := 2, ground := Ground.phase }, { on := 3, ground := Ground.phase }], guard := none }] false))
/-- the loop's record -/
def apRecN (fn : FuncId) (sv : Value) (Bs D : Nat) (st : LoopState) (pend : Option Code) : Loop :=
  { state := st, pending := pend, fn, tmps := #[.slice none 0 0, sv, .pointer (some ⟨Bs, 0, none⟩), undef, .slice none 0 0, undef, sv, undef, undef, undef, undef, undef, undef], params := #[7], assign := apAssignN, body := apBodyN, defers := D }

/-- between two rounds -/
structure ApAtN (w0 : World) (fn : FuncId) (sv : Value) (Bs l D : Nat) (ss : List Nm) (W : World) : Prop where
  box : ∃ v, W.heap[Bs]? = some (.cells #[v] 27 (0, 0)) ∧ W.ownsRow w0.heap.size 45 3 v ss.length (nmv ss) ∧ (v = .slice none 0 0 ↔ ss = [])
  L : W.heap[l]? = some (.loop (apRecN fn sv Bs D .ready none))
  K : W.heap[D]? = some (.deferred (some []))
  below : Below w0.heap.size w0 W

theorem ownsRow_abidesN {W W' : World} {row : Option Nat} {base : Nat} {e : TypeId} {size : Nat} {v : Value} {k : Nat} {xs : List Value} (h : W.ownsRow base e size v k xs) (hg : W.grownBy W' row)
    (hrow : ∀ r, row = some r → ∃ o : Obj, W.heap[r]? = some o ∧ o.isWalk = true) : W'.ownsRow base e size v k xs := by
  refine h.kept hg ?_
  rcases h.2 with ⟨rfl, _⟩ | ⟨g, cap, cur, rfl, _, hgb, _⟩
  · exact .inl rfl
  · refine .inr fun e' => ?_
    obtain ⟨o, ho, hw⟩ := hrow g (by simpa [Value.ownBlock] using e'.symm)
    rw [hgb] at ho
    cases ho
    cases hw

theorem apN_abides (w0 : World) (fn : FuncId) (sv : Value) (Bs l D B : Nat) (hB : w0.heap.size ≤ B) : AbidesFrom B (ApAtN w0 fn sv Bs l D) := fun s W W' row h hg hrow => by
  have hrow' : ∀ r, row = some r → ∃ o : Obj, W.heap[r]? = some o ∧ o.isWalk = true := fun r e => (hrow r e).2
  obtain ⟨v, hv, hr, hn⟩ := h.box
  exact ⟨⟨v, (grownBy_keeps hg hrow' hv rfl).trans hv, ownsRow_abidesN hr hg hrow', hn⟩, (grownBy_keeps hg hrow' h.L rfl).trans h.L, (grownBy_keeps hg hrow' h.K rfl).trans h.K,
    h.below.grown hg h.below.size (fun k e => Nat.le_trans hB (hrow k e).1)⟩

theorem grownBy_putObjN (W : World) (l : Nat) (o : Obj) : W.grownBy (W.putObj l o) (some l) :=
  ⟨rfl, rfl, rfl, by simp, fun k _ hk => World.putObj_heap_other (fun e => hk (by rw [e]))⟩
theorem grownBy_setCell0N (W : World) (b : Nat) (v : Value) : W.grownBy (W.setCell ⟨b, 0, none⟩ v) (some b) :=
  ⟨rfl, rfl, rfl, (KeepsWalks.setCell W _ v).size, fun k _ hk => Below.heap_setCell _ _ _ k (fun e => hk (by rw [e]))⟩
theorem ownsRow_neN {W : World} {base : Nat} {e : TypeId} {size : Nat} {v : Value} {k : Nat} {xs : List Value} (h : W.ownsRow base e size v k xs) {j : Nat} {o : Obj} (hj : W.heap[j]? = some o) (hno : ∀ cur, o ≠ .cells cur e (0, 0)) :
    v.ownBlock = none ∨ v.ownBlock ≠ some j := by
  rcases h.2 with ⟨rfl, _⟩ | ⟨g, cap, cur, rfl, _, hgb, _⟩
  · exact .inl rfl
  · refine .inr fun e' => ?_
    have : g = j := by simpa [Value.ownBlock] using e'
    subst this
    rw [hgb] at hj
    cases hj
    exact hno cur rfl
theorem cell_of_boxN {W : World} {B : Nat} {v : Value} {t : TypeId} (h : W.heap[B]? = some (.cells #[v] t (0, 0))) : W.cell? ⟨B, 0, none⟩ = some v ∧ W.frozen? ⟨B, 0, none⟩ = false := by
  constructor <;> simp [World.cell?, World.frozen?, h]
theorem heap_setCell_boxN {W : World} {B : Nat} {v : Value} {t : TypeId} (v' : Value) (h : W.heap[B]? = some (.cells #[v] t (0, 0))) : (W.setCell ⟨B, 0, none⟩ v').heap[B]? = some (.cells #[v'] t (0, 0)) := by
  obtain ⟨hlt, hk⟩ := Array.getElem?_eq_some_iff.1 h
  show (W.heap.modify B _)[B]? = _
  rw [Array.getElem?_eq_getElem (by rw [Array.size_modify]; exact hlt), Array.getElem_modify_self, hk]
  rfl
theorem ownsRow_not_walkN {W : World} {base : Nat} {e : TypeId} {size : Nat} {v : Value} {k : Nat} {xs : List Value} (h : W.ownsRow base e size v k xs) : ∀ (j : Nat) (o : Obj), v.ownBlock = some j → W.heap[j]? = some o → o.isWalk = false := by
  intro j o hj ho
  rcases h.2 with ⟨rfl, _⟩ | ⟨g, cap, cur, rfl, _, hgb, _⟩
  · simp [Value.ownBlock] at hj
  · have : g = j := by simpa [Value.ownBlock] using hj
    subst this
    rw [hgb] at ho
    cases ho
    rfl
theorem cells_newN (W : World) (t : TypeId) (x : Nm) : ∀ (j : Nat) (u : Value), (nmc x)[j]? = some u → (W.alloc (.cells #[.string (bs x.name), .int .i64 x.kind, .int .i64 x.num] t)).cell? (Addr.add ⟨W.heap.size, 0, none⟩ j) = some u := by
  intro j u hu
  rw [Addr.add_lit, Nat.zero_add, (Blk.new W t _).cell]
  rw [show (#[.string (bs x.name), .int .i64 x.kind, .int .i64 x.num] : Array Value) = (nmc x).toArray from rfl, List.getElem?_toArray]
  exact hu

theorem inf_nm : (Tryd.prog.info? 45).map (fun i => (i.zero, i.size, i.bytes)) = some (some (.agg #[.string ⟨#[]⟩, .int .i64 0, .int .i64 0]), 3, 32) := by kernel_rfl

set_option maxRecDepth 100000 in
set_option maxHeartbeats 4000000 in
theorem apYieldN (F : Fence) (m : Nat) (w0 : World) (fn : FuncId) (hfn : F.fn fn) (sv : Value) (Bs l D : Nat) (hBl : Bs ≠ l) (hDl : D ≠ l) (hDB : D ≠ Bs) (h0B : w0.heap.size ≤ Bs) (h0l : w0.heap.size ≤ l)
    (N : Nat) (hN : N ≤ maxLen) (hNb : N * 32 ≤ 140737488355328) (ss : List Nm) (x : Nm) (W : World) (h : ApAtN w0 fn sv Bs l D ss W) (hlen : ss.length < N) :
    YieldAt F m Tryd.prog l #[nmV x] W fun e W' => e = .returned (.bool true) ∧ ApAtN w0 fn sv Bs l D (ss ++ [x]) W' ∧ KeepsWalks W W' := by
  have hne : (27 : TypeId) ≠ 45 := by decide
  obtain ⟨i0, hi, hz0, hz1, hz2⟩ := inf_parts inf_nm
  obtain ⟨v, hv, hrow, _⟩ := h.box
  refine ⟨fn, #[.slice none 0 0, sv, .pointer (some ⟨Bs, 0, none⟩), undef, .slice none 0 0, undef, sv, nmV x, undef, undef, undef, undef, undef], apAssignN, apBodyN, by simpa [apRecN] using run_yield (P := Tryd.prog) (args := #[nmV x]) h.L rfl, roundIn_of_wpIn hfn ?_⟩
  obtain ⟨Wa, hWa⟩ : ∃ Wa, W.alloc (.cells #[.string (bs x.name), .int .i64 x.kind, .int .i64 x.num] 45) = Wa := ⟨_, rfl⟩
  have hka : Blk Wa W.heap.size 45 #[.string (bs x.name), .int .i64 x.kind, .int .i64 x.num] := by rw [← hWa]; exact Blk.new _ _ _
  have hga : W.grownBy Wa none := by rw [← hWa]; exact World.grownBy_alloc W _ none
  have hva : Wa.heap[Bs]? = some (.cells #[v] 27 (0, 0)) := (hga.block Bs (Array.getElem?_eq_some_iff.1 hv).1 (by simp)).trans hv
  have hKa : Wa.heap[D]? = some (.deferred (some [])) := (hga.block D (Array.getElem?_eq_some_iff.1 h.K).1 (by simp)).trans h.K
  have hLa : Wa.heap[l]? = some (.loop (apRecN fn sv Bs D .ready none)) := (hga.block l (Array.getElem?_eq_some_iff.1 h.L).1 (by simp)).trans h.L
  have hrowa : Wa.ownsRow w0.heap.size 45 3 v ss.length (nmv ss) := ownsRow_abidesN hrow hga (fun r e => by cases e)
  have hba : Below w0.heap.size w0 Wa := h.below.grown hga h.below.size (fun k e => by cases e)
  have hkwa : KeepsWalks W Wa := by rw [← hWa]; exact KeepsWalks.alloc _ _
  have hl : l < Wa.heap.size := (Array.getElem?_eq_some_iff.1 hLa).1
  have hlW : l < W.heap.size := (Array.getElem?_eq_some_iff.1 h.L).1
  have hbr := run_beginRound (P := Tryd.prog) hLa rfl
  obtain ⟨W3, hW3⟩ : ∃ W3, Wa.putObj l (.loop { apRecN fn sv Bs D .ready none with state := .busy }) = W3 := ⟨_, rfl⟩
  rw [hW3] at hbr
  have hg3 : Wa.grownBy W3 (some l) := by rw [← hW3]; exact grownBy_putObjN _ _ _
  have hkw3 : KeepsWalks W W3 := hkwa.trans (by rw [← hW3]; exact KeepsWalks.putObj _ hLa rfl)
  have hk3 : Blk W3 W.heap.size 45 #[.string (bs x.name), .int .i64 x.kind, .int .i64 x.num] := hka.grown hg3 (some_ne (by omega))
  have hv3 : W3.heap[Bs]? = some (.cells #[v] 27 (0, 0)) := by rw [← hW3]; exact (World.putObj_heap_other hBl).trans hva
  have hK3 : W3.heap[D]? = some (.deferred (some [])) := by rw [← hW3]; exact (World.putObj_heap_other hDl).trans hKa
  have hL3 : W3.heap[l]? = some (.loop { apRecN fn sv Bs D .ready none with state := .busy }) := by rw [← hW3]; exact World.putObj_heap_same hl
  have hrow3 : W3.ownsRow w0.heap.size 45 3 v ss.length (nmv ss) := hrowa.kept hg3 (ownsRow_neN hrowa hLa (fun cur e => by first | cases e | exact hne (Obj.cells.inj e).2.1))
  have hb3 : Below w0.heap.size w0 W3 := hba.grown hg3 hba.size (fun k e => by cases e; exact h0l)
  clear hW3
  have hc0 := hk3.cell 0
  have hc1 := hk3.cell 1
  have hc2 := hk3.cell 2
  simp at hc0 hc1 hc2
  obtain ⟨hcv, hfv⟩ := cell_of_boxN hv3
  have hBlt : Bs < W3.heap.size := (Array.getElem?_eq_some_iff.1 hv3).1
  have hl3 : l < W3.heap.size := (Array.getElem?_eq_some_iff.1 hL3).1
  have hDlt : D < W3.heap.size := (Array.getElem?_eq_some_iff.1 hK3).1
  have ne_of : ∀ {j : Nat} {o : Obj}, W3.heap[j]? = some o → (∀ cur, o ≠ .cells cur 45 (0, 0)) → some j ≠ v.ownBlock := fun hj hno => by
    rcases ownsRow_neN hrow3 hj hno with e | e
    · rw [e]; simp
    · exact fun e' => e e'.symm
  clear hk3
  unfold apAssignN
  unfold nmV
  gi_wp2_with (rw [Oper.semAt_eq _ _ _ (fun c h => by cases h)]; go_simp; try go_bits)
  unfold apBodyN
  gi_wp2_with (first
    | (gi_at_builtin; refine wpListIn_append_own _ rfl _ _ 27 rfl w0.heap.size 45 i0 (.agg #[.string ⟨#[]⟩, .int .i64 0, .int .i64 0]) 3 32 Tryd.underlying27 hi hz0 hz1 hz2 rfl (by decide) _ _ _ rfl (hrow3.alloc _) ⟨W3.heap.size, 0, none⟩ 1 1 (nmc x) rfl rfl (cells_newN _ _ _) (by simp [Value.oneCell', nmc]) (by omega) (by omega) (by have := hb3.size; simp; omega) ?_; intro v' w5 hown' hg5 hnil5
       have hv5 : w5.heap[Bs]? = some (.cells #[v] 27 (0, 0)) := (hg5.block Bs (by simp; omega) (ne_of hv3 (fun cur e => by first | cases e | exact hne (Obj.cells.inj e).2.1))).trans ((Below.heap_alloc _ _ Bs hBlt).trans hv3)
       obtain ⟨hc5, hf5⟩ := cell_of_boxN hv5
       obtain ⟨g', cap', cur', rfl, hbase', hgb', hr1, hr2, hr3, hr4⟩ : ∃ g' cap' cur', v' = .slice (some ⟨g', 0, none⟩) (ss.length + 1) cap' ∧ w0.heap.size ≤ g' ∧ w5.heap[g']? = some (.cells cur' 45 (0, 0)) ∧ ss.length + 1 ≤ cap' ∧ cap' ≤ maxLen ∧ cur'.size = cap' * 3 ∧ cur'.toList.take ((ss.length + 1) * 3) = nmv ss ++ nmc x := by
         rcases hown'.2 with ⟨_, h0⟩ | h'
         · exact absurd h0 (by omega)
         · exact h'
       go_frame)
    | (rw [Oper.semAt_eq _ _ _ (fun c h => by cases h)]; go_simp; try go_bits))
  have hg5' : (W3.alloc (.cells #[.string (bs x.name), .int .i64 x.kind, .int .i64 x.num] 45)).grownBy w5 v.ownBlock := hg5
  have hL5 : w5.heap[l]? = some (.loop { apRecN fn sv Bs D .ready none with state := .busy }) := (hg5'.block l (by simp; omega) (ne_of hL3 (fun cur e => by first | cases e | exact hne (Obj.cells.inj e).2.1))).trans ((Below.heap_alloc _ _ l hl3).trans hL3)
  have hK5 : w5.heap[D]? = some (.deferred (some [])) := (hg5'.block D (by simp; omega) (ne_of hK3 (fun cur e => by first | cases e | exact hne (Obj.cells.inj e).2.1))).trans ((Below.heap_alloc _ _ D hDlt).trans hK3)
  obtain ⟨w6, hw6⟩ : ∃ w6, w5.setCell ⟨Bs, 0, none⟩ (.slice (some ⟨g', 0, none⟩) (ss.length + 1) cap') = w6 := ⟨_, rfl⟩
  rw [hw6]
  have hg6 : w5.grownBy w6 (some Bs) := by rw [← hw6]; exact grownBy_setCell0N _ _ _
  have hv6 : w6.heap[Bs]? = some (.cells #[.slice (some ⟨g', 0, none⟩) (ss.length + 1) cap'] 27 (0, 0)) := by rw [← hw6]; exact heap_setCell_boxN _ hv5
  have hL6 : w6.heap[l]? = some (.loop { apRecN fn sv Bs D .ready none with state := .busy }) := (hg6.block l (Array.getElem?_eq_some_iff.1 hL5).1 (fun e => hBl (by cases e; rfl))).trans hL5
  have hK6 : w6.heap[D]? = some (.deferred (some [])) := (hg6.block D (Array.getElem?_eq_some_iff.1 hK5).1 (fun e => hDB (by cases e; rfl))).trans hK5
  have hrow6 := hown'.kept hg6 (ownsRow_neN hown' hv5 (fun cur e => by first | cases e | exact hne (Obj.cells.inj e).2.1))
  have hl6 : l < w6.heap.size := (Array.getElem?_eq_some_iff.1 hL6).1
  have hb5 : Below w0.heap.size w0 w5 := (hb3.alloc hb3.size _).grown hg5' (by have := hb3.size; simp; omega) (fun k e => (hrow3.lt k e).1)
  have hb6 : Below w0.heap.size w0 w6 := hb5.grown hg6 hb5.size (fun k e => by cases e; exact h0B)
  have hk6 : KeepsWalks W w6 := ((hkw3.trans (KeepsWalks.alloc _ _)).trans (KeepsWalks.of_grownBy hg5' (ownsRow_not_walkN (hrow3.alloc _)))).trans (by rw [← hw6]; exact KeepsWalks.setCell _ _ _)
  clear hw6
  refine ⟨_, _, run_endRound none hL6, rfl, ⟨⟨_, (World.putObj_heap_other hBl).trans hv6, ?_, by simp⟩, World.putObj_heap_same hl6, (World.putObj_heap_other hDl).trans hK6, hb6.grown (grownBy_putObjN _ _ _) hb6.size (fun k e => by cases e; exact h0l)⟩, hk6.trans (KeepsWalks.putObj _ hL6 rfl)⟩
  have := hrow6.kept (grownBy_putObjN w6 l (.loop { { apRecN fn sv Bs D .ready none with state := .busy } with state := if (none : Option Code).isNone then .ready else .done, pending := none })) (ownsRow_neN hrow6 hL6 (fun cur e => by first | cases e | exact hne (Obj.cells.inj e).2.1))
  rw [nmv_append]
  simpa [nmv] using this

set_option maxRecDepth 100000 in
set_option maxHeartbeats 4000000 in
theorem appendSeqN_in (F : Fence) (n : Nat) (h11 : F.fn 60) (hro : F.round = none) (hn : 2 ≤ n) (g : Nat) (lb : Array Value) (hFg : F.fn g) (eg : ∀ args w, (callFunc g args).run Tryd.prog w = .ok (.enter g args) w)
    (S : List Nm → Prop) (N : Nat) (hN : N ≤ maxLen) (hNb : N * 32 ≤ 140737488355328) (w : World) (hseq : SeqGives F (n - 1) Tryd.prog g lb nmV S N w) :
    CallsIn F n Tryd.prog 60 #[.slice none 0 0, .func (.func g) #[] lb] w fun e w' => ∃ (v : Value) (ss : List Nm), e = .returned v ∧ S ss ∧ w'.ownsRow w.heap.size 45 3 v ss.length (nmv ss) ∧ (v = .slice none 0 0 ↔ ss = []) ∧ Below w.heap.size w w' := by
  have h1 : 1 ≤ n := by omega
  have hne : (27 : TypeId) ≠ 45 := by decide
  refine callsIn_of_wp_marks Tryd.func60 rfl h11 ?_ hro
  simp only [Tryd.ntmps60, List.size_toArray, List.length_cons, List.length_nil, Nat.reduceAdd, Nat.reduceSub, Array.replicate_succ, Array.replicate_zero, List.push_toArray, List.append_toArray, List.nil_append, List.cons_append]
  gi_wp2
  refine wpIn_rangeFunc ?_
  intro fn hfn
  rw [hro]
  obtain ⟨W0, hW0⟩ : ∃ W0, w.alloc (.cells #[.slice none 0 0] 27) = W0 := ⟨_, rfl⟩
  have hs0 : W0.heap.size = w.heap.size + 1 := by rw [← hW0]; simp
  have hv0 : W0.heap[w.heap.size]? = some (.cells #[.slice none 0 0] 27 (0, 0)) := by rw [← hW0]; exact World.alloc_heap_new w _
  have hb0 : Below w.heap.size w W0 := by rw [← hW0]; exact (Below.refl _ w).alloc (Nat.le_refl _) _
  rw [hW0]
  obtain ⟨W1, hW1⟩ : ∃ W1, (W0.alloc (.deferred (some []))).alloc (.loop (apRecN fn (.func (.func g) #[] lb) w.heap.size W0.heap.size .ready none)) = W1 := ⟨_, rfl⟩
  have hold : ∀ k, k < W0.heap.size → W1.heap[k]? = W0.heap[k]? := fun k hk => by
    rw [← hW1]; exact (Below.heap_alloc _ _ k (by simp; omega)).trans (Below.heap_alloc _ _ k hk)
  have hb1 : Below w.heap.size w W1 := by rw [← hW1]; exact (hb0.alloc hb0.size _).alloc (by have := hb0.size; simp; omega) _
  have hs1 : W1.heap.size = W0.heap.size + 2 := by rw [← hW1]; simp
  have hM : ApAtN w fn (.func (.func g) #[] lb) w.heap.size (W0.heap.size + 1) W0.heap.size [] W1 :=
    ⟨⟨_, (hold w.heap.size (by omega)).trans hv0, ⟨rfl, .inl ⟨rfl, rfl⟩⟩, by simp⟩,
     by rw [← hW1]; have := World.alloc_heap_new (W0.alloc (.deferred (some []))) (.loop (apRecN fn (.func (.func g) #[] lb) w.heap.size W0.heap.size .ready none)); rwa [World.size_alloc] at this,
     by rw [← hW1]; exact (Below.heap_alloc _ _ _ (by simp)).trans (World.alloc_heap_new W0 _), hb1⟩
  refine ⟨W0.heap.size + 1, [{ target := .collected W0.heap.size, args := #[] }], W1, { target := .fn (.func g) lb, args := #[.func (.yield (W0.heap.size + 1)) #[] #[]] }, W1, g,
    #[.func (.yield (W0.heap.size + 1)) #[] #[]] ++ lb, W1, ?_, ?_, ?_, ?_, fun _ => h1, ?_⟩
  · rw [← hW1]; exact run_enterLoop_outer _ _ _ _ _
  · simp [resolve, go_sem]
  · intro f' hf'; simp [Target.leads] at hf'; subst hf'; exact hFg
  · simp [invoke, go_sem, eg]
  · refine (hseq (W0.heap.size + 1) (ApAtN w fn (.func (.func g) #[] lb) w.heap.size (W0.heap.size + 1) W0.heap.size) W1 hb1 (apN_abides _ _ _ _ _ _ _ hb1.size)
      (fun pre x W hJ hl => apYieldN F (n - 1 - 1) w fn hfn _ w.heap.size (W0.heap.size + 1) W0.heap.size (by omega) (by omega) (by omega) (Nat.le_refl _) (by omega) N hN hNb pre x W hJ hl) hM).mono ?_
    rintro e W2 ⟨⟨v0, rfl⟩, ss, hS, h2⟩
    obtain ⟨v, hv, hrow, hnil⟩ := h2.box
    have hend := run_endLoop (P := Tryd.prog) h2.L (by simp [apRecN])
    obtain ⟨W3, hW3⟩ : ∃ W3, W2.putObj (W0.heap.size + 1) (.loop { apRecN fn (.func (.func g) #[] lb) w.heap.size W0.heap.size .ready none with state := .exhausted }) = W3 := ⟨_, rfl⟩
    rw [hW3] at hend
    have hg3 : W2.grownBy W3 (some (W0.heap.size + 1)) := by rw [← hW3]; exact grownBy_putObjN _ _ _
    have hv3 : W3.heap[w.heap.size]? = some (.cells #[v] 27 (0, 0)) := by rw [← hW3]; exact (World.putObj_heap_other (by omega)).trans hv
    have hK3 : W3.heap[W0.heap.size]? = some (.deferred (some [])) := by rw [← hW3]; exact (World.putObj_heap_other (by omega)).trans h2.K
    have hrow3 := hrow.kept hg3 (ownsRow_neN hrow h2.L (fun cur e => by first | cases e | exact hne (Obj.cells.inj e).2.1))
    have hb3 : Below w.heap.size w W3 := h2.below.grown hg3 h2.below.size (fun k e => by cases e; omega)
    obtain ⟨hc3, hf3⟩ := cell_of_boxN hv3
    clear hW3
    refine ⟨none, W3, hend, ?_⟩
    gi_wp2
    rw [← hs0]
    refine ⟨by simp, .inl ⟨_, _, rfl, run_takeDeferred hK3, ?_⟩⟩
    exact ⟨_, results_tmp rfl _ _ _, v, ss, rfl, hS, hrow3.kept (grownBy_putObjN _ _ _) (ownsRow_neN hrow3 hK3 (fun cur e => by first | cases e | exact hne (Obj.cells.inj e).2.1)), hnil, hb3.grown (grownBy_putObjN _ _ _) hb3.size (fun k e => by cases e; omega)⟩

set_option maxHeartbeats 1000000 in
theorem collectN_in (F : Fence) (n : Nat) (h8 : F.fn 51) (h11 : F.fn 60) (hro : F.round = none) (hn : 3 ≤ n) (g : Nat) (lb : Array Value) (hFg : F.fn g) (eg : ∀ args w, (callFunc g args).run Tryd.prog w = .ok (.enter g args) w)
    (S : List Nm → Prop) (N : Nat) (hN : N ≤ maxLen) (hNb : N * 32 ≤ 140737488355328) (w : World) (hseq : SeqGives F (n - 1 - 1) Tryd.prog g lb nmV S N w) :
    CallsIn F n Tryd.prog 51 #[.func (.func g) #[] lb] w fun e w' => ∃ (v : Value) (ss : List Nm), e = .returned v ∧ S ss ∧ w'.ownsRow w.heap.size 45 3 v ss.length (nmv ss) ∧ (v = .slice none 0 0 ↔ ss = []) ∧ Below w.heap.size w w' := by
  have h1 : 1 ≤ n := by omega
  refine callsIn_of_wp Tryd.func51 rfl h8 ?_ hro
  simp only [Tryd.ntmps51, List.size_toArray, List.length_cons, List.length_nil, Nat.reduceAdd, Nat.reduceSub, Array.replicate_succ, Array.replicate_zero, List.push_toArray, List.append_toArray, List.nil_append, List.cons_append]
  gi_wp2_with (gi_at_call 60; refine (appendSeqN_in F (n - 1) h11 hro (by omega) g lb hFg eg S N hN hNb _ hseq).mono ?_; rintro e w' ⟨v, ss, rfl, hS, hrow, hnil, hb⟩)
  go_ret
  exact ⟨v, ss, rfl, hS, hrow, hnil, hb⟩

end Go.Proofs.YtgeglhgkibcpfaaDoor
