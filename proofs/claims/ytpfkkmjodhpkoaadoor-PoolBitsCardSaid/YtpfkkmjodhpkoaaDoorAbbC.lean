/- Contracts of the references of stage 7: Fits, Least, Cost, Join, Same, Cut. -/
import Derived.Test.YtpfkkmjodhpkoaaDoorAbbR
import Derived.Test.YtpfkkmjodhpkoaaDoorStrA
import Derived.Deep.RegionLaw
import Derived.Laws.MakeOwn
import Derived.Deep.QuietTactic
import Derived.BigQuiet
import Derived.Test.YtpfkkmjodhpkoaaDoorPcs
import Derived.Deep.RegionHeldLaw
namespace Go.Proofs.YtpfkkmjodhpkoaaDoor
open Go.RowKit
set_option linter.unusedVariables false

/-- abbreviation k (from 0 on) stands at a place -/
def fitB (s : List UInt8) (i : Nat) (ls : List (List UInt8)) (k : Nat) : Bool := decide (k < 32) && decide ((ls[k]?.getD []) ≠ []) && isPre (ls[k]?.getD []) (s.drop i)

theorem size_ne {R : ByteArray} {l : List UInt8} (h : R.data.toList = l) : (0 < R.size) ↔ l ≠ [] := by
  have e : R.data.toList.length = R.size := by rw [Array.length_toList]; rfl
  rw [h] at e
  constructor
  · rintro h1 rfl; rw [List.length_nil] at e; omega
  · intro h1; have := pos_of_ne h1; omega

set_option maxRecDepth 100000 in
set_option maxHeartbeats 3200000 in
theorem rFits_any (w : World) (B : Nat) (s : ByteArray) (i : Nat) (A : Option Addr) (n c k : Nat) (ls : List (List UInt8)) (h : RdS w B A n ls) (hk : k < n) (hs : (s.size : Int) ≤ 100000) (hi : i ≤ s.size) (hm : Short_ 100000 ls) (hn : (n : Int) ≤ 100000) :
    Calls Tryd.prog 51 #[.string s, .int .i64 i, .slice A n c, .int .i64 k] w fun e w' => e = .returned (.bool (fitB s.data.toList i ls k)) ∧ w = w' := by
  obtain ⟨ad, rfl, _, hcell⟩ := h.2 (by omega)
  have hc := hcell k (by rw [h.1]; exact hk)
  have hp := hm k
  obtain ⟨R, hR⟩ : ∃ R, R = bs (ls[k]?.getD []) := ⟨_, rfl⟩
  have hRl : R.data.toList = ls[k]?.getD [] := by rw [hR, data_bs]
  have hRs : (R.size : Int) ≤ 100000 := by rw [hR, bs_size]; omega
  rw [← hR] at hc
  have hf : fitB s.data.toList i ls k = (decide (k < 32) && decide (0 < R.size) && isPre R.data.toList (s.data.toList.drop i)) := by
    unfold fitB
    rw [hRl]
    congr 2
    exact decide_eq_decide.2 (size_ne hRl).symm
  have hlen : R.data.toList.length = R.size := by rw [Array.length_toList]; rfl
  have hsl : s.data.toList.length = s.size := by rw [Array.length_toList]; rfl
  have hcm := cmp_at s R i
  have hlong : ¬ i + R.size ≤ s.size → isPre R.data.toList (s.data.toList.drop i) = false := fun hn => by
    cases hb : isPre R.data.toList (s.data.toList.drop i) with
    | false => rfl
    | true =>
      have := isPre_len hb
      rw [List.length_drop] at this
      omega
  rw [hf]
  clear hcell hp hR hRl hf hm h hlen hsl
  by_cases e1 : (k : Int) < 32
  · have e1n : k < 32 := by omega
    by_cases e2 : 0 < R.size
    · by_cases e3 : i + R.size ≤ s.size
      · obtain ⟨q, hq⟩ : ∃ q, q = isPre R.data.toList (s.data.toList.drop i) := ⟨_, rfl⟩
        rw [← hq] at hcm ⊢
        have e4 : (decide (k < 32) && decide (0 < R.size) && q) = q := by simp [e1n, e2]
        rw [e4]
        clear e4 hq hlong
        go_enter Tryd.func51, Tryd.ntmps51
        go_wp2_with fail
        go_ret
        exact ⟨rfl, rfl⟩
      · rw [hlong e3, Bool.and_false]
        clear hcm hlong
        go_enter Tryd.func51, Tryd.ntmps51
        go_wp2_with fail
        go_ret
        exact ⟨rfl, rfl⟩
    · have e4 : (decide (k < 32) && decide (0 < R.size) && isPre R.data.toList (s.data.toList.drop i)) = false := by simp [e2]
      rw [e4]
      clear hcm hlong e4
      go_enter Tryd.func51, Tryd.ntmps51
      go_wp2_with fail
      go_ret
      exact ⟨rfl, rfl⟩
  · have e4 : (decide (k < 32) && decide (0 < R.size) && isPre R.data.toList (s.data.toList.drop i)) = false := by simp [show ¬ k < 32 from by omega]
    rw [e4]
    clear hcm hlong e4
    go_enter Tryd.func51, Tryd.ntmps51
    go_wp2_with fail
    go_ret
    exact ⟨rfl, rfl⟩

/-- a table of ints: block g, known whole -/
def Tb (w : World) (g : Nat) (zs : List Int) : Prop := Blk w g 3 (iv zs).toArray

theorem Tb.cell {w : World} {g : Nat} {zs : List Int} (h : Tb w g zs) {j : Nat} (hj : j < zs.length) : w.cell? ⟨g, j, none⟩ = some (.int .i64 (zs.getD j 0)) := by
  rw [Blk.cell h, List.getElem?_toArray, iv_at hj]

theorem iv_set (zs : List Int) (j : Nat) (z : Int) : iv (zs.set j z) = (iv zs).set j (.int .i64 z) := by simp [iv, List.map_set]

theorem Tb.set_ {w : World} {g : Nat} {zs : List Int} (h : Tb w g zs) (j : Nat) (z : Int) : Tb (w.setCell ⟨g, j, none⟩ (.int .i64 z)) g (zs.set j z) := by
  have h2 := Blk.set_ h j (.int .i64 z)
  unfold Tb
  rw [iv_set]
  simpa using h2

theorem Tb.below {w w' : World} {g : Nat} {zs : List Int} (h : Tb w g zs) (hb : Below w.heap.size w w') : Tb w' g zs := Blk.below h hb (Blk.lt h)

/-- numbers as ints -/
def ni (l : List Nat) : List Int := l.map fun x : Nat => (x : Int)
theorem ni_getD (l : List Nat) (j : Nat) : (ni l).getD j 0 = ((l.getD j 0 : Nat) : Int) := by
  simp only [ni, List.getD, List.getElem?_map]
  cases l[j]? <;> simp
theorem ni_length (l : List Nat) : (ni l).length = l.length := by simp [ni]

/-- the table where the places from k on are filled, and the one before it holds m -/
def rowK (ab : List (List UInt8)) (s : List UInt8) (k : Nat) : List Int := List.replicate k 0 ++ ni (tab ab (s.drop k))
def rowM (ab : List (List UInt8)) (s : List UInt8) (i : Nat) (m : Nat) : List Int := List.replicate i 0 ++ (m : Int) :: ni (tab ab (s.drop (i + 1)))

theorem rowK_len (ab : List (List UInt8)) (s : List UInt8) {k : Nat} (h : k ≤ s.length) : (rowK ab s k).length = s.length + 1 := by
  unfold rowK
  rw [List.length_append, List.length_replicate, ni_length, tab_len, List.length_drop]
  omega
theorem rowM_len (ab : List (List UInt8)) (s : List UInt8) {i m : Nat} (h : i < s.length) : (rowM ab s i m).length = s.length + 1 := by
  unfold rowM
  rw [List.length_append, List.length_replicate, List.length_cons, ni_length, tab_len, List.length_drop]
  omega
theorem rowK_set (ab : List (List UInt8)) (s : List UInt8) (i m : Nat) : (rowK ab s (i + 1)).set i (m : Int) = rowM ab s i m := by
  unfold rowK rowM
  rw [List.replicate_succ', List.append_assoc, List.set_append_right _ _ (by rw [List.length_replicate]; omega)]
  simp
theorem rowM_set (ab : List (List UInt8)) (s : List UInt8) (i m m' : Nat) : (rowM ab s i m).set i (m' : Int) = rowM ab s i m' := by
  unfold rowM
  rw [List.set_append_right _ _ (by rw [List.length_replicate]; omega)]
  simp
theorem rowK_at (ab : List (List UInt8)) (s : List UInt8) {k j : Nat} (h : k ≤ j) (hj : j ≤ s.length) : (rowK ab s k).getD j 0 = ((least ab (s.drop j) : Nat) : Int) := by
  unfold rowK
  rw [List.getD, List.getElem?_append_right (by rw [List.length_replicate]; exact h), List.length_replicate]
  show (ni (tab ab (s.drop k))).getD (j - k) 0 = _
  rw [ni_getD, tab_get ab _ _ (by rw [List.length_drop]; omega), List.drop_drop, show k + (j - k) = j from by omega]
theorem rowM_at (ab : List (List UInt8)) (s : List UInt8) {i m j : Nat} (h : i < j) (hj : j ≤ s.length) : (rowM ab s i m).getD j 0 = ((least ab (s.drop j) : Nat) : Int) := by
  unfold rowM
  rw [List.getD, List.getElem?_append_right (by rw [List.length_replicate]; omega), List.length_replicate]
  obtain ⟨d, hd⟩ : ∃ d, j - i = d + 1 := ⟨j - i - 1, by omega⟩
  rw [hd, List.getElem?_cons_succ]
  show (ni (tab ab (s.drop (i + 1)))).getD d 0 = _
  rw [ni_getD, tab_get ab _ _ (by rw [List.length_drop]; omega), List.drop_drop, show i + 1 + d = j from by omega]
theorem rowM_head (ab : List (List UInt8)) (s : List UInt8) (i m : Nat) : (rowM ab s i m).getD i 0 = (m : Int) := by
  unfold rowM
  rw [List.getD, List.getElem?_append_right (by rw [List.length_replicate]; omega), List.length_replicate, Nat.sub_self]
  rfl

/-- the least so far, the first j abbreviations tried at place i -/
def mAt (ab : List (List UInt8)) (s : List UInt8) (i j : Nat) : Nat := pickB ((ab.take 32).take j) (s.drop i) (tab ab (s.drop (i + 1))) (costL ((s.drop i).take 1) + least ab (s.drop (i + 1)))

theorem mAt_zero (ab : List (List UInt8)) (s : List UInt8) (i : Nat) : mAt ab s i 0 = costL ((s.drop i).take 1) + least ab (s.drop (i + 1)) := rfl

theorem mAt_all (ab : List (List UInt8)) {s : List UInt8} {i : Nat} (h : i < s.length) : rowM ab s i (mAt ab s i ab.length) = rowK ab s i := by
  unfold rowM rowK mAt
  rw [List.take_of_length_le (l := ab.take 32) (by rw [List.length_take]; omega), List.drop_eq_getElem_cons h]
  rfl

theorem mAt_le (ab : List (List UInt8)) (s : List UInt8) (i j : Nat) : mAt ab s i j ≤ costL ((s.drop i).take 1) + least ab (s.drop (i + 1)) := pickB_le _ _ _ _

theorem pickB_append (a b : List (List UInt8)) (s : List UInt8) (t : List Nat) (m : Nat) : pickB (a ++ b) s t m = pickB b s t (pickB a s t m) := by unfold pickB; rw [List.foldl_append]

theorem mAt_no {ab : List (List UInt8)} {s : List UInt8} {i j : Nat} (hj : j < ab.length) (h : fitB s i ab j = false ∨ mAt ab s i j ≤ 2 + least ab (s.drop (i + (ab[j]?.getD []).length))) (hi : i < s.length) : mAt ab s i (j + 1) = mAt ab s i j := by
  by_cases h32 : j < 32
  · have hl : j < (ab.take 32).length := by rw [List.length_take]; omega
    have e : (ab.take 32)[j] = ab[j]?.getD [] := by rw [List.getElem_take, List.getElem?_eq_getElem hj]; rfl
    unfold mAt
    rw [List.take_succ_eq_append_getElem hl, pickB_append, e]
    show (if _ then _ else _) = _
    rw [if_neg]
    rintro ⟨⟨h1, h2⟩, h3⟩
    rcases h with h | h
    · unfold fitB at h
      rw [h2] at h
      simp [h32] at h
      exact h1 (by simpa using h)
    · have hlen := isPre_len h2
      rw [List.length_drop] at hlen
      have hp := pos_of_ne h1
      rw [tab_get ab _ _ (by rw [List.length_drop]; omega), List.drop_drop, show i + 1 + ((ab[j]?.getD []).length - 1) = i + (ab[j]?.getD []).length from by omega] at h3
      unfold mAt at h
      omega
  · unfold mAt
    rw [List.take_of_length_le (l := ab.take 32) (by rw [List.length_take]; omega), List.take_of_length_le (l := ab.take 32) (by rw [List.length_take]; omega)]

theorem mAt_yes {ab : List (List UInt8)} {s : List UInt8} {i j : Nat} (hj : j < ab.length) (h : fitB s i ab j = true) (h2 : 2 + least ab (s.drop (i + (ab[j]?.getD []).length)) < mAt ab s i j) : mAt ab s i (j + 1) = 2 + least ab (s.drop (i + (ab[j]?.getD []).length)) := by
  unfold fitB at h
  simp only [Bool.and_eq_true, decide_eq_true_eq] at h
  obtain ⟨⟨h32, h1⟩, hp⟩ := h
  have hl : j < (ab.take 32).length := by rw [List.length_take]; omega
  have e : (ab.take 32)[j] = ab[j]?.getD [] := by rw [List.getElem_take, List.getElem?_eq_getElem hj]; rfl
  have hlen := isPre_len hp
  rw [List.length_drop] at hlen
  have hp1 := pos_of_ne h1
  have et : (tab ab (s.drop (i + 1))).getD ((ab[j]?.getD []).length - 1) 0 = least ab (s.drop (i + (ab[j]?.getD []).length)) := by
    rw [tab_get ab _ _ (by rw [List.length_drop]; omega), List.drop_drop, show i + 1 + ((ab[j]?.getD []).length - 1) = i + (ab[j]?.getD []).length from by omega]
  unfold mAt
  rw [List.take_succ_eq_append_getElem hl, pickB_append, e]
  show (if _ then _ else _) = _
  unfold mAt at h2
  rw [if_pos ⟨⟨h1, hp⟩, by rw [et]; exact h2⟩, et]

theorem costL_one_le (l : List UInt8) : costL (l.take 1) ≤ 3 := by
  have h := costL_le (l.take 1)
  rw [List.length_take] at h
  omega

theorem rds_draw7 {w : World} {B : Nat} {A : Option Addr} {n : Nat} {ls : List (List UInt8)} (h : RdS w B A n ls) (m : Nat) : RdS (w.drewN m) B A n ls := h

/-- what Least leaves: the table, in a new block -/
def TbOut (w : World) (zs : List Int) (e : Ending) (w' : World) : Prop := ∃ g, e = .returned (.slice (some ⟨g, 0, none⟩) zs.length zs.length) ∧ Tb w' g zs ∧ Below w.heap.size w w' ∧ w.heap.size ≤ g

theorem made_ints (k : Nat) : madeCells (Value.int .i64 0).cells k = (iv (List.replicate k 0)).toArray := by
  apply Array.ext
  · simp [madeCells, iv]
  · intro i h1 h2
    have : (Value.int .i64 0).cells = #[.int .i64 0] := rfl
    simp [madeCells, this, iv, Nat.mod_one]

set_option maxRecDepth 100000 in
set_option maxHeartbeats 12800000 in
theorem rLeast_any (w : World) (s : ByteArray) (A : Option Addr) (n c : Nat) (ls : List (List UInt8)) (h : RdS w w.heap.size A n ls) (hs : (s.size : Int) ≤ 1000) (hm : Short_ 1000 ls) (hn : (n : Int) ≤ 1000) :
    Calls Tryd.prog 49 #[.string s, .slice A n c] w (TbOut w (ni (tab ls s.data.toList))) := by
  obtain ⟨i0, hi, hz0, hsz, hby⟩ := inf_parts Tryd.inf_int
  have hmk : (Instr.makeSlice 25 (.int .i64 ((s.size : Int) + 1)) (.int .i64 ((s.size : Int) + 1))).run Tryd.prog w = .ok (.slice (some ⟨w.heap.size, 0, none⟩) (s.size + 1) (s.size + 1)) (w.alloc (.cells (iv (List.replicate (s.size + 1) 0)).toArray 3)) := by
    have h := run_make (P := Tryd.prog) w 25 3 i0 _ Tryd.underlying25 hi hz0 .i64 .i64 ((s.size : Int) + 1) ((s.size : Int) + 1) (by omega) (Int.le_refl _) (by rw [hby]; omega) (by omega)
    rw [h, hsz, Nat.mul_one, made_ints, show ((s.size : Int) + 1).toNat = s.size + 1 from by omega]
  have hsl : s.data.toList.length = s.size := by rw [Array.length_toList]; rfl
  have HSL := Lib.hid hsl
  have H := Lib.hid h
  have HL := Lib.hid h.1
  have HM := Lib.hid hm
  obtain ⟨g, hg⟩ : ∃ g, g = w.heap.size := ⟨_, rfl⟩
  obtain ⟨W, hW⟩ : ∃ W, W = w.alloc (.cells (iv (List.replicate (s.size + 1) 0)).toArray 3) := ⟨_, rfl⟩
  have HB0 : Hid (Below w.heap.size w W) := Lib.hid (by rw [hW]; exact (Below.refl _ _).alloc (Nat.le_refl _) _)
  have HT0 : Hid (Tb W g (rowK ls s.data.toList s.size)) := Lib.hid (by
    have e : rowK ls s.data.toList s.size = List.replicate (s.size + 1) 0 := by
      unfold rowK
      rw [List.drop_of_length_le (by omega), List.replicate_succ']
      rfl
    rw [hW, e, hg]
    exact Blk.new _ _ _)
  have HG := Lib.hid hg
  rw [← hg, ← hW] at hmk
  clear hi hz0 hsz hby h hm hsl hW hg
  go_enter Tryd.func49, Tryd.ntmps49
  go_wp2_with fail
  clear hmk
  go_loopw [6] (fun i wr => ∃ (k : Nat) (z : Int), k ≤ s.size ∧ z = (k : Int) - 1 ∧ i = .int .i64 z ∧ Hid (Tb wr g (rowK ls s.data.toList k)) ∧ Hid (Below w.heap.size w wr)) (fun i _ => (intOf i + 1).toNat)
  case atStart => exact ⟨s.size, (s.size : Int) - 1, by omega, rfl, by go_num, HT0, HB0⟩
  case round =>
    clear HT0 HB0
    obtain ⟨k, z, hk, hz, rfl, HT, HB⟩ := hrel
    by_cases hlt : 0 < k
    · obtain ⟨i, rfl⟩ : ∃ i, k = i + 1 := ⟨k - 1, by omega⟩
      have hzi : z = (i : Int) := by omega
      subst hzi
      have hi : i < s.size := by omega
      have hgl : g < wr.heap.size := Blk.lt HT.out
      have hrl := rowK_len ls s.data.toList (k := i + 1) (by rw [HSL.out]; omega)
      rw [HSL.out] at hrl
      have c1 := HT.out.cell (j := i + 1) (by omega)
      have c0 := HT.out.cell (j := i) (by omega)
      have f0 := Blk.frozen HT.out i
      rw [rowK_at _ _ (Nat.le_refl _) (by rw [HSL.out]; omega)] at c1
      have hle := least_le_cost ls (s.data.toList.drop (i + 1))
      have hle2 := costL_le (s.data.toList.drop (i + 1))
      rw [List.length_drop, HSL.out] at hle2
      obtain ⟨v, hv⟩ : ∃ v, v = least ls (s.data.toList.drop (i + 1)) := ⟨_, rfl⟩
      have hv2 : v ≤ 3000 := by omega
      obtain ⟨u, hu⟩ : ∃ u, u = (rowK ls s.data.toList (i + 1)).getD i 0 := ⟨_, rfl⟩
      have hc3 := costL_one_le (s.data.toList.drop i)
      have hex : (s.extract i (i + 1)).data.toList = (s.data.toList.drop i).take 1 := by
        rw [ByteArray.data_extract, Array.toList_extract, List.extract_eq_take_drop, show i + 1 - i = 1 from by omega]
      obtain ⟨x, hx⟩ : ∃ x, x = costL ((s.data.toList.drop i).take 1) := ⟨_, rfl⟩
      have HX : Hid (costL (s.extract i (i + 1)).data.toList = x) := Lib.hid (by rw [hex, hx])
      have HMZ : Hid (x + v = mAt ls s.data.toList i 0) := Lib.hid (by rw [mAt_zero, hx, hv])
      rw [← hv] at c1
      rw [← hu] at c0
      rw [← hx] at hc3
      have hexs : ((s.extract i (i + 1)).size : Int) ≤ 100000 := by rw [ByteArray.size_extract]; omega
      have HEX := Lib.hid hexs
      have b1 : 0 ≤ (i : Int) + 1 ∧ (i : Int) + 1 ≤ (s.size : Int) := by omega
      have b2 : 0 ≤ (i : Int) ∧ (i : Int) ≤ (i : Int) + 1 := by omega
      have b3 : 0 ≤ (i : Int) + 1 ∧ (i : Int) + 1 < (s.size : Int) + 1 := by omega
      have b4 : 0 ≤ (i : Int) ∧ (i : Int) < (s.size : Int) + 1 := by omega
      have b5 : ((i : Int) + 1).toNat = i + 1 := by omega
      have b6 : IntKind.i64.wrap ((i : Int) + 1) = (i : Int) + 1 := IntWalk.i64_in _ (by omega)
      have b7 : IntKind.i64.wrap ((x : Int) + (v : Int)) = (x : Int) + (v : Int) := IntWalk.i64_in _ (by omega)
      have b8 : (i : Int) ≤ (i : Int) + 1 := by omega
      clear hrl hle hle2 hv hu hx hex hz hexs
      go_wp2_with fail
      go_region_with
        (
          go_at_call 50
          refine (rcost_any _ _ HEX.out).mono ?_
          rintro e w2 ⟨rfl, hb2⟩
          rw [HX.out]
          have d1 := (hb2.cell (p := ⟨g, i + 1, none⟩) hgl).trans c1
          have d0 := (hb2.cell (p := ⟨g, i, none⟩) hgl).trans c0
          have e0 := (hb2.frozen (p := ⟨g, i, none⟩) hgl).trans f0)
      all_goals
        have hb3 : Below wr.heap.size wr w2 := ((Below.refl wr.heap.size wr).drew).trans hb2
        have HT2 : Hid (Tb (w2.setCell ⟨g, i, none⟩ (.int .i64 ((x : Int) + (v : Int)))) g (rowM ls s.data.toList i (mAt ls s.data.toList i 0))) := Lib.hid (by
          rw [← HMZ.out, ← rowK_set]
          exact (Tb.below HT.out hb3).set_ i _)
        have HB2 : Hid (Below w.heap.size w (w2.setCell ⟨g, i, none⟩ (.int .i64 ((x : Int) + (v : Int))))) := Lib.hid ((HB.out.trans (hb3.mono HB.out.size)).setCell (Nat.le_of_eq HG.out.symm) _)
        clear c1 c0 f0 d1 d0 e0 hb2 hb3 b7 HT HB hgl hc3 HX HMZ hv2 HEX
        generalize w2.setCell ⟨g, i, none⟩ (.int .i64 ((x : Int) + (v : Int))) = w3 at *
        go_wp2_with fail
        go_loopw [7] (fun jj wi => ∃ j : Nat, j ≤ n ∧ jj = .int .i64 j ∧ Hid (Tb wi g (rowM ls s.data.toList i (mAt ls s.data.toList i j))) ∧ Hid (Below w.heap.size w wi)) (fun jj _ => n - (intOf jj).toNat)
        case atStart => exact ⟨0, by omega, rfl, HT2, HB2⟩
        case round =>
          clear HT2 HB2
          obtain ⟨j, hj, rfl, HT, HB⟩ := hrel
          by_cases hlt2 : j < n
          · obtain ⟨ad, rfl, hab, hcell⟩ := H.out.2 (by omega)
            have ka := (HB.out.cell (p := ad.add j) (by rw [blk_add]; exact hab)).trans (hcell j (by rw [HL.out]; exact hlt2))
            have hp := HM.out j
            obtain ⟨R, hR⟩ : ∃ R, R = bs (ls[j]?.getD []) := ⟨_, rfl⟩
            have hRl : R.data.toList = ls[j]?.getD [] := by rw [hR, data_bs]
            have hRz : (ls[j]?.getD []).length = R.size := by rw [hR, bs_size]
            have hRs : (R.size : Int) ≤ 1000 := by omega
            rw [← hR] at ka
            have d0 := HT.out.cell (j := i) (by rw [rowM_len _ _ (by rw [HSL.out]; omega)]; rw [HSL.out]; omega)
            rw [rowM_head] at d0
            have hml := mAt_le ls s.data.toList i j
            have hle := least_le_cost ls (s.data.toList.drop (i + 1))
            have hle2 := costL_le (s.data.toList.drop (i + 1))
            have hc3 := costL_one_le (s.data.toList.drop i)
            rw [List.length_drop, HSL.out] at hle2
            obtain ⟨m, hm⟩ : ∃ m, m = mAt ls s.data.toList i j := ⟨_, rfl⟩
            have HMM := Lib.hid hm
            have hm4 : m ≤ 4000 := by omega
            rw [← hm] at d0
            have HRD := Lib.hid (H.out.below HB.out)
            have HMM2 : Short_ 100000 ls := fun j => Nat.le_trans (HM.out j) (by omega)
            have HSS := Lib.hid HMM2
            have hjl : j < ls.length := by rw [HL.out]; exact hlt2
            clear hcell hp hle hle2 hml hc3 hm HMM2
            cases hq : fitB s.data.toList i ls j with
            | false =>
              have hfit : ∀ nq, Calls Tryd.prog 51 #[.string s, .int .i64 i, .slice (some ad) n c, .int .i64 j] (wr.drewN nq) fun e w' => e = .returned (.bool false) ∧ w' = wr.drewN nq := fun nq => by
                have h1 := rFits_any (wr.drewN nq) _ s i (some ad) n c j ls (rds_draw7 HRD.out nq) hlt2 (by omega) (by omega) HSS.out (by omega)
                rw [hq] at h1
                exact h1.mono fun e w' ⟨a, b⟩ => ⟨a, b.symm⟩
              have HN : Hid (mAt ls s.data.toList i (j + 1) = mAt ls s.data.toList i j) := Lib.hid (mAt_no hjl (.inl hq) (by rw [HSL.out]; omega))
              clear hq hR hRl hRz hjl
              go_wp2_with fail
              go_quiet ((go_at_call 51; exact Calls.quiet_of_same (hfit _)))
              go_wp2_with fail
              go_roundw
              case rel => exact ⟨j + 1, by omega, by go_num, Lib.hid (by rw [HN.out]; exact HT.out), Lib.hid (below_drewN HB.out _)⟩
              case measure => simp [intOf]; omega
            | true =>
              have hfit : ∀ nq, Calls Tryd.prog 51 #[.string s, .int .i64 i, .slice (some ad) n c, .int .i64 j] (wr.drewN nq) fun e w' => e = .returned (.bool true) ∧ w' = wr.drewN nq := fun nq => by
                have h1 := rFits_any (wr.drewN nq) _ s i (some ad) n c j ls (rds_draw7 HRD.out nq) hlt2 (by omega) (by omega) HSS.out (by omega)
                rw [hq] at h1
                exact h1.mono fun e w' ⟨a, b⟩ => ⟨a, b.symm⟩
              have hq2 := hq
              unfold fitB at hq2
              simp only [Bool.and_eq_true, decide_eq_true_eq] at hq2
              have hq3 := isPre_len hq2.2
              rw [List.length_drop, HSL.out, hRz] at hq3
              have hq4 := pos_of_ne hq2.1.2
              rw [hRz] at hq4
              have d1 := HT.out.cell (j := i + R.size) (by rw [rowM_len _ _ (by rw [HSL.out]; omega), HSL.out]; omega)
              rw [rowM_at _ _ (by omega) (by rw [HSL.out]; omega)] at d1
              have hle := least_le_cost ls (s.data.toList.drop (i + R.size))
              have hle2 := costL_le (s.data.toList.drop (i + R.size))
              rw [List.length_drop, HSL.out] at hle2
              obtain ⟨y, hy⟩ : ∃ y, y = least ls (s.data.toList.drop (i + R.size)) := ⟨_, rfl⟩
              have hy3 : y ≤ 3000 := by omega
              rw [← hy] at d1
              have HYN : Hid (m ≤ 2 + y → mAt ls s.data.toList i (j + 1) = mAt ls s.data.toList i j) := Lib.hid (fun h5 => mAt_no hjl (.inr (by rw [hRz, ← hy, ← HMM.out]; exact h5)) (by rw [HSL.out]; omega))
              have HYY : Hid (2 + y < m → mAt ls s.data.toList i (j + 1) = 2 + y) := Lib.hid (fun h5 => by rw [mAt_yes hjl hq (by rw [hRz, ← hy, ← HMM.out]; exact h5), hRz, ← hy])
              have g1 : IntKind.i64.wrap ((i : Int) + (R.size : Int)) = (i : Int) + (R.size : Int) := IntWalk.i64_in _ (by omega)
              have g2 : 0 ≤ (i : Int) + (R.size : Int) ∧ (i : Int) + (R.size : Int) < (s.size : Int) + 1 := by omega
              have g3 : ((i : Int) + (R.size : Int)).toNat = i + R.size := by omega
              have g4 : IntKind.i64.wrap (2 + (y : Int)) = 2 + (y : Int) := IntWalk.i64_in _ (by omega)
              have g5 : 0 ≤ (i : Int) + (R.size : Int) := by omega
              have g6 : (i : Int) + (R.size : Int) < (s.size : Int) + 1 := by omega
              have g7 : (j : Int) < (n : Int) := by omega
              clear hq hq2 hq3 hR hRl hRz hjl hle hle2 hy
              by_cases hcmp : (2 : Int) + (y : Int) < (m : Int)
              · have HN := Lib.hid (HYY.out (by omega))
                clear HYY HYN
                go_wp2_with fail
                go_quiet ((go_at_call 51; exact Calls.quiet_of_same (hfit _)))
                have k1 : (wr.drewN nq).cell? ⟨g, i + R.size, none⟩ = some (.int .i64 y) := d1
                have k2 : (wr.drewN nq).cell? ⟨g, i, none⟩ = some (.int .i64 m) := d0
                have k3 : (wr.drewN nq).cell? (ad.add j) = some (.string R) := ka
                have k4 : (wr.drewN nq).frozen? ⟨g, i, none⟩ = false := Blk.frozen HT.out i
                have HT5 : Hid (Tb (wr.drewN nq) g (rowM ls s.data.toList i (mAt ls s.data.toList i j))) := Lib.hid HT.out
                have HB5 : Hid (Below w.heap.size w (wr.drewN nq)) := Lib.hid (below_drewN HB.out _)
                clear hfit d1 d0 ka HT HB HRD
                generalize wr.drewN nq = w5 at *
                go_wp2_with fail
                go_roundw
                case rel => exact ⟨j + 1, by omega, by go_num, Lib.hid (by rw [HN.out, ← rowM_set ls s.data.toList i (mAt ls s.data.toList i j)]; exact HT5.out.set_ i _), Lib.hid (HB5.out.setCell (Nat.le_of_eq HG.out.symm) _)⟩
                case measure => simp [intOf]; omega
              · have HN := Lib.hid (HYN.out (by omega))
                have t0 : decide ((2 : Int) + (y : Int) < (m : Int)) = false := by rw [decide_eq_false_iff_not]; exact hcmp
                clear HYY HYN
                go_wp2_with fail
                go_quiet ((go_at_call 51; exact Calls.quiet_of_same (hfit _)))
                go_wp2_with fail
                go_roundw
                case rel => exact ⟨j + 1, by omega, by go_num, Lib.hid (by rw [HN.out]; exact HT.out), Lib.hid (below_drewN HB.out _)⟩
                case measure => simp [intOf]; omega
          · obtain rfl : j = n := by omega
            have HE : Hid (Tb wr g (rowK ls s.data.toList i)) := Lib.hid (by
              have h1 := HT.out
              rw [← HL.out, mAt_all ls (by rw [HSL.out]; omega)] at h1
              exact h1)
            go_wp2_with fail
            go_roundw
            case rel => exact ⟨i, (i : Int) - 1, by omega, rfl, by go_num, HE, HB⟩
            case measure => simp [intOf]
    · obtain rfl : k = 0 := by omega
      have hz2 : z = -1 := by omega
      subst hz2
      have hlen : (ni (tab ls s.data.toList)).length = s.size + 1 := by rw [ni_length, tab_len, HSL.out]
      have HLEN := Lib.hid hlen
      clear hlen hz
      go_wp2_with fail
      go_ret
      refine ⟨g, ?_, HT.out, HB.out, Nat.le_of_eq HG.out.symm⟩
      rw [HLEN.out]
      rfl

theorem pcost_take {ps : List Pc} {j : Nat} (h : j < ps.length) : pcost (ps.take (j + 1)) = pcost (ps.take j) + if 0 < (ps[j]?.getD ([], 0)).2 then 2 else costL (ps[j]?.getD ([], 0)).1 := by
  rw [List.take_succ_eq_append_getElem h, pcost_append]
  have e : ps[j]?.getD ([], 0) = ps[j] := by rw [List.getElem?_eq_getElem h]; rfl
  rw [e]
  unfold pcost
  simp

/-- pieces with texts of at most so many bytes -/
def ShortP (m : Nat) (ps : List Pc) : Prop := ∀ j : Nat, (ps[j]?.getD ([], 0)).1.length ≤ m

theorem pcost_le {ps : List Pc} {m : Nat} (hs : ShortP m ps) (j : Nat) : pcost (ps.take j) ≤ (3 * m + 2) * j := by
  induction j with
  | zero => simp [pcost]
  | succ j ih =>
    by_cases h : j < ps.length
    · rw [pcost_take h, Nat.mul_add, Nat.mul_one]
      have h1 := costL_le (ps[j]?.getD ([], 0)).1
      have h2 := hs j
      split <;> omega
    · rw [List.take_of_length_le (by omega)]
      rw [List.take_of_length_le (by omega)] at ih
      exact Nat.le_trans ih (Nat.mul_le_mul_left _ (by omega))

/-- what Join comes to -/
def jnT (o : Option (List UInt8)) : List UInt8 := o.getD []
def jnE (o : Option (List UInt8)) : Int := if o.isSome then 0 else 11

theorem joinF_len {ab : List (List UInt8)} {m : Nat} (ha : Short_ m ab) : ∀ (ps : List Pc), ShortP m ps → ∀ (acc : List UInt8) (r : List UInt8), joinF ab acc ps = some r → r.length ≤ acc.length + m * ps.length := by
  intro ps
  induction ps with
  | nil => intro _ acc r h; simp [joinF] at h; subst h; simp
  | cons p ps ih =>
    intro hs acc r h
    unfold joinF at h
    split at h
    · cases h
    · have hs2 : ShortP m ps := fun j => hs (j + 1)
      have h2 := ih hs2 _ _ h
      have h3 : (if 0 < p.2 then ab.getD (p.2 - 1).toNat [] else p.1).length ≤ m := by
        split
        · exact ha _
        · exact hs 0
      rw [List.length_append] at h2
      rw [List.length_cons, Nat.mul_add, Nat.mul_one]
      omega

theorem bs_append (a b : List UInt8) : bs a ++ bs b = bs (a ++ b) := by
  apply ByteArray.ext
  simp [bs]

theorem add_bs (a b : List UInt8) (ha : a.length ≤ 200000000) (hb : b.length ≤ 200000000) : ∀ w : World, (Op.stringOp .add (bs a) (bs b)).run Tryd.prog w = .ok (.string (bs (a ++ b))) w := fun w => by
  rw [← bs_append]
  have h1 : (bs a).size = a.length := bs_size a
  have h2 : (bs b).size = b.length := bs_size b
  simp [Op.stringOp, h1, h2]
  omega

theorem join_drop {ab : List (List UInt8)} {acc : List UInt8} {ps : List Pc} {j : Nat} (h : j < ps.length) : joinF ab acc (ps.drop j) =
    if (ps[j]?.getD ([], 0)).2 < 0 ∨ (ab.length : Int) < (ps[j]?.getD ([], 0)).2 ∨ 32 < (ps[j]?.getD ([], 0)).2 then none
    else joinF ab (acc ++ if 0 < (ps[j]?.getD ([], 0)).2 then ab.getD ((ps[j]?.getD ([], 0)).2 - 1).toNat [] else (ps[j]?.getD ([], 0)).1) (ps.drop (j + 1)) := by
  have e : ps[j]?.getD ([], 0) = ps[j] := by rw [List.getElem?_eq_getElem h]; rfl
  rw [List.drop_eq_getElem_cons h, e]
  rfl

/-- equal pieces -/
def eqP (a b : List Pc) : Bool := decide (a = b)

theorem Tryd.inf_piece : (Tryd.prog.info? 58).map (fun i => (i.zero, i.size, i.bytes)) = some (some (.agg #[.string ⟨#[]⟩, .int .i64 0]), 2, 24) := by kernel_rfl

/-- the steps of a text, with fuel enough -/
def stepsA (ab : List (List UInt8)) (s : List UInt8) : List Step := stepsF ab s.length s

theorem stepsF_fuel (ab : List (List UInt8)) : ∀ (f g : Nat) (s : List UInt8), s.length ≤ f → s.length ≤ g → stepsF ab f s = stepsF ab g s := by
  intro f
  induction f with
  | zero =>
    intro g s h _
    rw [List.eq_nil_of_length_eq_zero (by omega : s.length = 0)]
    cases g <;> rfl
  | succ f ih =>
    intro g s h h2
    cases s with
    | nil => cases g <;> rfl
    | cons c r =>
      rw [List.length_cons] at h h2
      cases g with
      | zero => omega
      | succ g =>
        unfold stepsF
        by_cases hc : costL [c] + least ab r = least ab (c :: r)
        · rw [if_pos hc, if_pos hc, ih g r (by omega) (by omega)]
        · rw [if_neg hc, if_neg hc]
          obtain ⟨_, _, k3, _, _⟩ := firstA_spec hc
          have := pos_of_ne k3
          rw [ih g _ (by rw [List.length_drop, List.length_cons]; omega) (by rw [List.length_drop, List.length_cons]; omega)]

theorem stepsA_lit {ab : List (List UInt8)} {c : UInt8} {r : List UInt8} (h : costL [c] + least ab r = least ab (c :: r)) : stepsA ab (c :: r) = .lit c :: stepsA ab r := by
  unfold stepsA
  show stepsF ab (r.length + 1) (c :: r) = _
  conv => lhs; unfold stepsF
  rw [if_pos h]

theorem stepsA_abb {ab : List (List UInt8)} {c : UInt8} {r : List UInt8} (h : costL [c] + least ab r ≠ least ab (c :: r)) :
    stepsA ab (c :: r) = .abb (firstA ab (c :: r) + 1) :: stepsA ab ((c :: r).drop (ab.getD (firstA ab (c :: r)) []).length) := by
  obtain ⟨_, _, k3, _, _⟩ := firstA_spec h
  have := pos_of_ne k3
  unfold stepsA
  show stepsF ab (r.length + 1) (c :: r) = _
  conv => lhs; unfold stepsF
  rw [if_neg h, stepsF_fuel ab r.length _ _ (by rw [List.length_drop, List.length_cons]; omega) (Nat.le_refl _)]

theorem putS_lit_nil (c : UInt8) : putS [] (.lit c) = [([c], 0)] := rfl
theorem putS_lit_new {o : List Pc} {p : Pc} (h : 0 < p.2) (c : UInt8) : putS (o ++ [p]) (.lit c) = (o ++ [p]) ++ [([c], 0)] := by
  unfold putS
  simp [h]
theorem putS_lit_old {o : List Pc} {p : Pc} (h : ¬ 0 < p.2) (c : UInt8) : putS (o ++ [p]) (.lit c) = o ++ [(p.1 ++ [c], p.2)] := by
  unfold putS
  simp [h]

theorem getD_opt (ls : List (List UInt8)) (j : Nat) : ls.getD j [] = ls[j]?.getD [] := rfl

theorem before_first {ls : List (List UInt8)} {s : List UInt8} {k j : Nat} (h : j < firstA ls (s.drop k)) (h32 : firstA ls (s.drop k) < 32) (hl : firstA ls (s.drop k) < ls.length) :
    fitB s k ls j = false ∨ 2 + least ls (s.drop (k + (ls[j]?.getD []).length)) ≠ least ls (s.drop k) := by
  have hjl : j < (ls.take 32).length := by rw [List.length_take]; omega
  have e : (ls.take 32)[j] = ls[j]?.getD [] := by rw [List.getElem_take, List.getElem?_eq_getElem (by omega)]; rfl
  have h1 := List.not_of_lt_findIdx h
  rw [e] at h1
  cases hf : fitB s k ls j with
  | false => exact .inl rfl
  | true =>
    right
    intro he
    unfold fitB at hf
    simp only [Bool.and_eq_true, decide_eq_true_eq] at hf
    rw [hf.2, List.drop_drop, he] at h1
    simp [hf.1.2] at h1

set_option maxRecDepth 100000 in
set_option maxHeartbeats 12800000 in
theorem rCut_any (w : World) (s : ByteArray) (A : Option Addr) (n c : Nat) (ls : List (List UInt8)) (h : RdS w w.heap.size A n ls) (hs : (s.size : Int) ≤ 1000) (hm : Short_ 1000 ls) (hn : (n : Int) ≤ 1000) :
    Calls Tryd.prog 28 #[.string s, .slice A n c] w (OutP w.heap.size 58 w (cutL ls s.data.toList)) := by
  obtain ⟨i0, hi, hz0, hsz, hby⟩ := inf_parts Tryd.inf_piece
  have HI := Lib.hid hi
  have HZ0 := Lib.hid hz0
  have HSZ := Lib.hid hsz
  have HBY := Lib.hid hby
  have hsl : s.data.toList.length = s.size := by rw [Array.length_toList]; rfl
  have HSL := Lib.hid hsl
  have H := Lib.hid h
  have HL := Lib.hid h.1
  have HM := Lib.hid hm
  clear hi hz0 hsz hby h hm hsl
  go_enter Tryd.func28, Tryd.ntmps28
  go_wp2_with fail
  refine (rLeast_any w s A n c ls H.out hs HM.out hn).mono ?_
  rintro e W ⟨g, rfl, ht, hb, hg⟩
  have HT := Lib.hid ht
  have HB0 := Lib.hid hb
  have HG := Lib.hid hg
  have HTL : Hid ((ni (tab ls s.data.toList)).length = s.size + 1) := Lib.hid (by rw [ni_length, tab_len, HSL.out])
  rw [HTL.out]
  clear ht hb hg
  go_wp2_with fail
  go_loopw [6, 7] (fun v i wr => ∃ (A6 : Option Addr) (n6 c6 k : Nat) (ps : List Pc), k ≤ s.size ∧ n6 ≤ k ∧ i = .int .i64 k ∧ v = .slice A6 n6 c6 ∧ Hid (wr.ownsRow W.heap.size 58 2 (.slice A6 n6 c6) n6 (pcv ps)) ∧ Hid (∀ p ∈ ps, p.1.length ≤ k) ∧ Hid (cutL ls s.data.toList = (stepsA ls (s.data.toList.drop k)).foldl putS ps) ∧ Hid (Below W.heap.size W wr)) (fun _ i _ => s.size - (intOf i).toNat)
  case atStart => exact ⟨none, 0, 0, 0, [], by omega, by omega, rfl, rfl, Lib.hid (ownP_nil _ _ _), Lib.hid (fun p hp => by simp at hp), Lib.hid rfl, Lib.hid (Below.refl _ _)⟩
  case round =>
    obtain ⟨A6, n6, c6, k, ps, hk, hn6, rfl, rfl, HO, HPL, HC, HB⟩ := hrel
    by_cases hlt : k < s.size
    · have hgl : g < W.heap.size := Blk.lt HT.out
      have HTW : Hid (Tb wr g (ni (tab ls s.data.toList))) := Lib.hid (Tb.below HT.out HB.out)
      have c1 := HTW.out.cell (j := k + 1) (by rw [HTL.out]; omega)
      have c0 := HTW.out.cell (j := k) (by rw [HTL.out]; omega)
      rw [ni_getD, tab_get _ _ _ (by rw [HSL.out]; omega)] at c1 c0
      have hd : s.data.toList.drop k = (s[k]'hlt) :: s.data.toList.drop (k + 1) := by
        rw [List.drop_eq_getElem_cons (by rw [HSL.out]; exact hlt)]
        rfl
      obtain ⟨cc, hcc⟩ : ∃ cc, cc = s[k]'hlt := ⟨_, rfl⟩
      rw [← hcc] at hd
      have hv1 := least_le_cost ls (s.data.toList.drop (k + 1))
      have hv2 := costL_le (s.data.toList.drop (k + 1))
      have hv3 := least_le_cost ls (s.data.toList.drop k)
      have hv4 := costL_le (s.data.toList.drop k)
      rw [List.length_drop, HSL.out] at hv2 hv4
      have hex : (s.extract k (k + 1)) = bs [cc] := by
        apply ByteArray.ext
        apply Array.toList_inj.1
        rw [ByteArray.data_extract, Array.toList_extract, List.extract_eq_take_drop, show k + 1 - k = 1 from by omega, hd, data_bs]
        rfl
      have hcx := costL_le [cc]
      rw [List.length_singleton] at hcx
      obtain ⟨x, hx⟩ : ∃ x, x = costL [cc] := ⟨_, rfl⟩
      obtain ⟨v, hv⟩ : ∃ v, v = least ls (s.data.toList.drop (k + 1)) := ⟨_, rfl⟩
      obtain ⟨u, hu⟩ : ∃ v, v = least ls (s.data.toList.drop k) := ⟨_, rfl⟩
      rw [← hv] at c1 hv1
      rw [← hu] at c0 hv3
      rw [← hx] at hcx
      have HX : Hid (costL (bs [cc]).data.toList = x) := Lib.hid (by rw [data_bs, hx])
      have hv5 : v ≤ 3000 := by omega
      have hu5 : u ≤ 3000 := by omega
      have HCC := Lib.hid hcc
      have HD := Lib.hid hd
      have HXX := Lib.hid hx
      have HV := Lib.hid hv
      have HU := Lib.hid hu
      have b1 : 0 ≤ (k : Int) + 1 ∧ (k : Int) + 1 ≤ (s.size : Int) := by omega
      have b2 : 0 ≤ (k : Int) ∧ (k : Int) ≤ (k : Int) + 1 := by omega
      have b3 : 0 ≤ (k : Int) + 1 ∧ (k : Int) + 1 < (s.size : Int) + 1 := by omega
      have b4 : 0 ≤ (k : Int) ∧ (k : Int) < (s.size : Int) + 1 := by omega
      have b5 : ((k : Int) + 1).toNat = k + 1 := by omega
      have b6 : IntKind.i64.wrap ((k : Int) + 1) = (k : Int) + 1 := IntWalk.i64_in _ (by omega)
      have b7 : IntKind.i64.wrap ((x : Int) + (v : Int)) = (x : Int) + (v : Int) := IntWalk.i64_in _ (by omega)
      have b8 : (k : Int) ≤ (k : Int) + 1 := by omega
      have hgr : g < wr.heap.size := Nat.lt_of_lt_of_le hgl HB.out.size
      clear hv1 hv2 hv3 hv4 hcc hd hv hu hx
      go_wp2_with fail
      go_region_held_law (fun u' => u'.cell? ⟨g, k + 1, none⟩ = some (.int .i64 v) ∧ u'.cell? ⟨g, k, none⟩ = some (.int .i64 u))
        (first | go_keep | exact ⟨(hb2.cell (p := ⟨g, k + 1, none⟩) hgr).trans c1, (hb2.cell (p := ⟨g, k, none⟩) hgr).trans c0⟩)
        ((go_at_call 50; refine (rcost_any _ (bs [cc]) (by rw [bs_size]; simp)).mono ?_; rintro e w2 ⟨rfl, hb2⟩; rw [HX.out]))
      have hb3 : Below wr.heap.size wr w2 := ((Below.refl wr.heap.size wr).drew).trans hb2
      have HO2 := Lib.hid (own_below HO.out hb3)
      have HB2 := Lib.hid (HB.out.trans (hb3.mono HB.out.size))
      have HT2 := Lib.hid (Tb.below HTW.out hb3)
      clear hb2 hb3 c1 c0 HO HB HTW hgr b7
      by_cases heq : x + v = u
      · have t0 : ((x : Int) + (v : Int) == (u : Int)) = true := by rw [beq_iff_eq]; omega
        have HS := Lib.hid (stepsA_lit (ab := ls) (c := cc) (r := s.data.toList.drop (k + 1)) (by rw [← HXX.out, ← HV.out, ← HD.out, ← HU.out]; exact heq))
        clear heq
        have hcase : ps = [] ∨ ∃ o p, ps = o ++ [p] := by
          rcases List.eq_nil_or_concat ps with h | ⟨o, p, h⟩
          · exact .inl h
          · exact .inr ⟨o, p, by rw [h, List.concat_eq_append]⟩
        rcases hcase with hnil | ⟨o, ⟨t, y⟩, hps⟩
        · subst hnil
          have hn0 : n6 = 0 := by
            have := ownP_len HO2.out
            exact this.symm
          have t1 : ((n6 : Int) == 0) = true := by rw [beq_iff_eq]; omega
          clear hn0
          go_wp2_with (at_builtin; refine wpList_appP _ rfl _ _ 44 rfl W.heap.size 58 i0 Tryd.underlying44 HI.out HZ0.out HSZ.out HBY.out _ n6 [] rfl (HO2.out.alloc _) ⟨w2.heap.size, 0, none⟩ 1 ([], 0) rfl ((Blk.new w2 _ _).cell 0) ((Blk.new w2 _ _).cell 1) (by omega) (by simp; have := HB2.out.size; omega) ?_; intro A8 c8 w8 hown8 hg8)
          have HO8 := Lib.hid hown8
          have HB8 := Lib.hid ((HB2.out.alloc HB2.out.size _).grown hg8 (by simp; have := HB2.out.size; omega) (own_from HO2.out))
          clear hown8 hg8
          obtain ⟨g8, rfl, hg8b, hg8l⟩ := own_some HO8.out (by omega)
          obtain ⟨l1, l2⟩ := last_cells HO8.out
          have hpl8 : ([] : List Pc).length = n6 := ownP_len HO2.out
          rw [hpl8] at l1 l2
          have fz := own_frozen HO8.out (n6 * 2)
          have hadd := add_bs [] [cc] (by simp) (by simp)
          have t2 : (n6 : Int) + 1 - 1 = (n6 : Int) := by omega
          have t4 : IntKind.i64.wrap ((n6 : Int) + 1 - 1) = (n6 : Int) := by rw [t2]; exact IntWalk.i64_in _ (by omega)
          have t5 : 0 ≤ (n6 : Int) ∧ (n6 : Int) < (n6 : Int) + 1 := by omega
          go_region
          all_goals
            have HO3 : Hid ((w8.setCell ⟨g8, n6 * 2, none⟩ (.string (bs ([] ++ [cc])))).ownsRow W.heap.size 58 2 (.slice (some ⟨g8, 0, none⟩) (n6 + 1) c8) (n6 + 1) (pcv ([] ++ [([cc], 0)]))) := Lib.hid (by
              have h1 := own_store HO8.out (n6 * 2) (.string (bs ([] ++ [cc])))
              rw [← hpl8, pcv_set] at h1
              rw [← hpl8]
              exact h1)
            have HB3 : Hid (Below W.heap.size W (w8.setCell ⟨g8, n6 * 2, none⟩ (.string (bs ([] ++ [cc])))).drew) := Lib.hid (HB8.out.setCell hg8b _).drew
            have HC3 : Hid (cutL ls s.data.toList = (stepsA ls (s.data.toList.drop (k + 1))).foldl putS ([] ++ [([cc], 0)])) := Lib.hid (by
              rw [HC.out, HD.out, HS.out, List.foldl_cons, putS_lit_nil, List.nil_append])
            have HP3 : Hid (∀ p ∈ [] ++ [([cc], (0 : Int))], p.1.length ≤ k + 1) := Lib.hid (fun p hp => by
              rcases List.mem_append.1 hp with hp | hp
              · have := HPL.out p hp; omega
              · rw [List.mem_singleton] at hp
                subst hp
                show [cc].length ≤ k + 1
                rw [List.length_singleton]
                omega)
            clear l1 l2 fz hadd t2 t4 t5
            go_wp2_with fail
            go_roundw
            case rel => exact ⟨_, n6 + 1, c8, k + 1, _, by omega, by omega, by go_num, rfl, HO3, HP3, HC3, HB3⟩
            case measure => simp [intOf]; omega
        · subst hps
          have hn7 : n6 = o.length + 1 := by
            have := ownP_len HO2.out
            rw [List.length_append] at this
            exact this.symm
          obtain ⟨q, hq⟩ : ∃ q, q = o.length := ⟨_, rfl⟩
          rw [← hq] at hn7
          obtain ⟨g6, rfl, hg6, hg6l⟩ := own_some HO2.out (by omega)
          obtain ⟨l1, l2⟩ := last_cells HO2.out
          rw [← hq] at l1 l2
          have fz := own_frozen HO2.out (q * 2)
          have t1 : ((n6 : Int) == 0) = false := by rw [beq_eq_false_iff_ne]; omega
          have t2 : (n6 : Int) - 1 = (q : Int) := by omega
          have t3 : (q : Int) < (n6 : Int) := by omega
          have HN7 := Lib.hid hn7
          have HQ := Lib.hid hq
          clear hn7 hq
          by_cases hy : 0 < y
          · go_wp2_with (at_builtin; refine wpList_appP _ rfl _ _ 44 rfl W.heap.size 58 i0 Tryd.underlying44 HI.out HZ0.out HSZ.out HBY.out _ n6 (o ++ [(t, y)]) rfl (HO2.out.alloc _) ⟨w2.heap.size, 0, none⟩ 1 ([], 0) rfl ((Blk.new w2 _ _).cell 0) ((Blk.new w2 _ _).cell 1) (by omega) (by simp; have := HB2.out.size; omega) ?_; intro A8 c8 w8 hown8 hg8)
            have HO8 := Lib.hid hown8
            have HB8 := Lib.hid ((HB2.out.alloc HB2.out.size _).grown hg8 (by simp; have := HB2.out.size; omega) (own_from HO2.out))
            clear hown8 hg8 l1 l2 fz t2 t3
            obtain ⟨g8, rfl, hg8b, hg8l⟩ := own_some HO8.out (by omega)
            obtain ⟨l1, l2⟩ := last_cells HO8.out
            have hpl8 : (o ++ [(t, y)]).length = n6 := ownP_len HO2.out
            rw [hpl8] at l1 l2
            have fz := own_frozen HO8.out (n6 * 2)
            have hadd := add_bs [] [cc] (by simp) (by simp)
            have t2 : (n6 : Int) + 1 - 1 = (n6 : Int) := by omega
            have t4 : IntKind.i64.wrap ((n6 : Int) + 1 - 1) = (n6 : Int) := by rw [t2]; exact IntWalk.i64_in _ (by omega)
            have t5 : 0 ≤ (n6 : Int) ∧ (n6 : Int) < (n6 : Int) + 1 := by omega
            go_region
            all_goals
              have HO3 : Hid ((w8.setCell ⟨g8, n6 * 2, none⟩ (.string (bs ([] ++ [cc])))).ownsRow W.heap.size 58 2 (.slice (some ⟨g8, 0, none⟩) (n6 + 1) c8) (n6 + 1) (pcv ((o ++ [(t, y)]) ++ [([cc], 0)]))) := Lib.hid (by
                have h1 := own_store HO8.out (n6 * 2) (.string (bs ([] ++ [cc])))
                rw [← hpl8, pcv_set] at h1
                rw [← hpl8]
                exact h1)
              have HB3 : Hid (Below W.heap.size W (w8.setCell ⟨g8, n6 * 2, none⟩ (.string (bs ([] ++ [cc])))).drew) := Lib.hid (HB8.out.setCell hg8b _).drew
              have HC3 : Hid (cutL ls s.data.toList = (stepsA ls (s.data.toList.drop (k + 1))).foldl putS ((o ++ [(t, y)]) ++ [([cc], 0)])) := Lib.hid (by
                rw [HC.out, HD.out, HS.out, List.foldl_cons, putS_lit_new (p := (t, y)) hy])
              have HP3 : Hid (∀ p ∈ (o ++ [(t, y)]) ++ [([cc], (0 : Int))], p.1.length ≤ k + 1) := Lib.hid (fun p hp => by
                rcases List.mem_append.1 hp with hp | hp
                · have := HPL.out p hp; omega
                · rw [List.mem_singleton] at hp
                  subst hp
                  show [cc].length ≤ k + 1
                  rw [List.length_singleton]
                  omega)
              clear l1 l2 fz hadd t2 t4 t5
              go_wp2_with fail
              go_roundw
              case rel => exact ⟨_, n6 + 1, c8, k + 1, _, by omega, by omega, by go_num, rfl, HO3, HP3, HC3, HB3⟩
              case measure => simp [intOf]; omega
          · have htl : t.length ≤ k := HPL.out (t, y) (by simp)
            have hadd := add_bs t [cc] (by omega) (by simp)
            have t4 : IntKind.i64.wrap ((n6 : Int) - 1) = (q : Int) := by rw [t2]; exact IntWalk.i64_in _ (by omega)
            have t5 : 0 ≤ (q : Int) ∧ (q : Int) < (n6 : Int) := by omega
            go_wp2_with fail
            go_region
            all_goals
              have HO3 : Hid ((w2.setCell ⟨g6, q * 2, none⟩ (.string (bs (t ++ [cc])))).ownsRow W.heap.size 58 2 (.slice (some ⟨g6, 0, none⟩) n6 c6) n6 (pcv (o ++ [(t ++ [cc], y)]))) := Lib.hid (by
                have h1 := own_store HO2.out (q * 2) (.string (bs (t ++ [cc])))
                rw [HQ.out, pcv_set] at h1
                rw [HQ.out]
                exact h1)
              have HB3 : Hid (Below W.heap.size W (w2.setCell ⟨g6, q * 2, none⟩ (.string (bs (t ++ [cc])))).drew) := Lib.hid (HB2.out.setCell hg6 _).drew
              have HC3 : Hid (cutL ls s.data.toList = (stepsA ls (s.data.toList.drop (k + 1))).foldl putS (o ++ [(t ++ [cc], y)])) := Lib.hid (by
                rw [HC.out, HD.out, HS.out, List.foldl_cons, putS_lit_old (p := (t, y)) (by show ¬ 0 < y; omega)])
              have HP3 : Hid (∀ p ∈ o ++ [(t ++ [cc], y)], p.1.length ≤ k + 1) := Lib.hid (fun p hp => by
                rcases List.mem_append.1 hp with hp | hp
                · have := HPL.out p (by simp [hp]); omega
                · rw [List.mem_singleton] at hp
                  subst hp
                  show (t ++ [cc]).length ≤ k + 1
                  rw [List.length_append, List.length_singleton]
                  omega)
              clear l1 l2 fz hadd
              go_wp2_with fail
              go_roundw
              case rel => exact ⟨_, n6, c6, k + 1, _, by omega, by omega, by go_num, rfl, HO3, HP3, HC3, HB3⟩
              case measure => simp [intOf]; omega
      · have t0 : ((x : Int) + (v : Int) == (u : Int)) = false := by rw [beq_eq_false_iff_ne]; omega
        have hne : costL [cc] + least ls (s.data.toList.drop (k + 1)) ≠ least ls (cc :: s.data.toList.drop (k + 1)) := by rw [← HXX.out, ← HV.out, ← HD.out, ← HU.out]; exact heq
        have HS := Lib.hid (stepsA_abb hne)
        obtain ⟨k1, k2, k3, k4, k5⟩ := firstA_spec hne
        rw [← HD.out] at k1 k2 k3 k4 k5 HS
        rw [← HU.out] at k5
        obtain ⟨F, hF⟩ : ∃ F, F = firstA ls (s.data.toList.drop k) := ⟨_, rfl⟩
        have HBF : Hid (∀ j, j < F → fitB s.data.toList k ls j = false ∨ 2 + least ls (s.data.toList.drop (k + (ls[j]?.getD []).length)) ≠ u) := Lib.hid (fun j hj => by
          have h1 := before_first (ls := ls) (s := s.data.toList) (k := k) (j := j) (by rw [← hF]; exact hj) k2 k1
          rw [← HU.out] at h1
          exact h1)
        rw [← hF] at k1 k2 k3 k4 k5 HS
        have HFT : Hid (fitB s.data.toList k ls F = true ∧ 2 + least ls (s.data.toList.drop (k + (ls[F]?.getD []).length)) = u) := Lib.hid (by
          refine ⟨?_, ?_⟩
          · unfold fitB
            rw [← getD_opt, k4]
            simp [k2]
            exact k3
          · rw [← getD_opt, ← List.drop_drop]
            exact k5)
        have HF32 := Lib.hid k2
        rw [HL.out] at k1
        clear heq hne k2 k3 k4 k5 hF
        go_wp2_with fail
        go_loopw [8] (fun jj wi => ∃ j : Nat, j ≤ F ∧ jj = .int .i64 j ∧ Hid (wi.ownsRow W.heap.size 58 2 (.slice A6 n6 c6) n6 (pcv ps)) ∧ Hid (Below W.heap.size W wi) ∧ Hid (Tb wi g (ni (tab ls s.data.toList)))) (fun jj _ => F - (intOf jj).toNat)
        case atStart => exact ⟨0, by omega, rfl, HO2, HB2, HT2⟩
        case round =>
          clear HO2 HB2 HT2
          obtain ⟨j, hj, rfl, HO2, HB2, HT2⟩ := hrel
          have hBW : Below w.heap.size w wr := HB0.out.trans (HB2.out.mono HB0.out.size)
          obtain ⟨ad, rfl, hab, hcell⟩ := H.out.2 (by omega)
          have ka := (hBW.cell (p := ad.add j) (by rw [blk_add]; exact hab)).trans (hcell j (by rw [HL.out]; omega))
          have hp := HM.out j
          obtain ⟨R, hR⟩ : ∃ R, R = bs (ls[j]?.getD []) := ⟨_, rfl⟩
          have hRz : (ls[j]?.getD []).length = R.size := by rw [hR, bs_size]
          have hRs : (R.size : Int) ≤ 1000 := by omega
          rw [← hR] at ka
          have d0 := HT2.out.cell (j := k) (by rw [HTL.out]; omega)
          rw [ni_getD, tab_get _ _ _ (by rw [HSL.out]; omega), ← HU.out] at d0
          have HRD := Lib.hid (H.out.below hBW)
          have HMM2 : Short_ 100000 ls := fun j => Nat.le_trans (HM.out j) (by omega)
          have HSS := Lib.hid HMM2
          have hjn : j < n := by omega
          clear hcell hp HMM2 hBW
          cases hq : fitB s.data.toList k ls j with
          | false =>
            have hjF : j < F := by
              rcases Nat.lt_or_ge j F with h | h
              · exact h
              · have : j = F := by omega
                subst this
                rw [HFT.out.1] at hq
                cases hq
            have hfit : ∀ nq, Calls Tryd.prog 51 #[.string s, .int .i64 k, .slice (some ad) n c, .int .i64 j] (wr.drewN nq) fun e w' => e = .returned (.bool false) ∧ w' = wr.drewN nq := fun nq => by
              have h1 := rFits_any (wr.drewN nq) _ s k (some ad) n c j ls (rds_draw7 HRD.out nq) hjn (by omega) (by omega) HSS.out (by omega)
              rw [hq] at h1
              exact h1.mono fun e w' ⟨a, b⟩ => ⟨a, b.symm⟩
            clear hq hR hRz
            go_wp2_with fail
            go_quiet ((go_at_call 51; exact Calls.quiet_of_same (hfit _)))
            go_wp2_with fail
            go_roundw
            case rel => exact ⟨j + 1, by omega, by go_num, Lib.hid (own_below HO2.out (below_drewN (Below.refl _ _) _)), Lib.hid (below_drewN HB2.out _), Lib.hid (Tb.below HT2.out (below_drewN (Below.refl _ _) _))⟩
            case measure => simp [intOf]; omega
          | true =>
            have hfit : ∀ nq, Calls Tryd.prog 51 #[.string s, .int .i64 k, .slice (some ad) n c, .int .i64 j] (wr.drewN nq) fun e w' => e = .returned (.bool true) ∧ w' = wr.drewN nq := fun nq => by
              have h1 := rFits_any (wr.drewN nq) _ s k (some ad) n c j ls (rds_draw7 HRD.out nq) hjn (by omega) (by omega) HSS.out (by omega)
              rw [hq] at h1
              exact h1.mono fun e w' ⟨a, b⟩ => ⟨a, b.symm⟩
            have hq2 := hq
            unfold fitB at hq2
            simp only [Bool.and_eq_true, decide_eq_true_eq] at hq2
            have hq3 := isPre_len hq2.2
            rw [List.length_drop, HSL.out, hRz] at hq3
            have hq4 := pos_of_ne hq2.1.2
            rw [hRz] at hq4
            have d1 := HT2.out.cell (j := k + R.size) (by rw [HTL.out]; omega)
            rw [ni_getD, tab_get _ _ _ (by rw [HSL.out]; omega)] at d1
            have hle := least_le_cost ls (s.data.toList.drop (k + R.size))
            have hle2 := costL_le (s.data.toList.drop (k + R.size))
            rw [List.length_drop, HSL.out] at hle2
            obtain ⟨y, hy⟩ : ∃ y, y = least ls (s.data.toList.drop (k + R.size)) := ⟨_, rfl⟩
            have hy3 : y ≤ 3000 := by omega
            rw [← hy] at d1
            have g1 : IntKind.i64.wrap ((k : Int) + (R.size : Int)) = (k : Int) + (R.size : Int) := IntWalk.i64_in _ (by omega)
            have g2 : 0 ≤ (k : Int) + (R.size : Int) ∧ (k : Int) + (R.size : Int) < (s.size : Int) + 1 := by omega
            have g3 : ((k : Int) + (R.size : Int)).toNat = k + R.size := by omega
            have g4 : IntKind.i64.wrap (2 + (y : Int)) = 2 + (y : Int) := IntWalk.i64_in _ (by omega)
            have g5 : 0 ≤ (k : Int) + (R.size : Int) := by omega
            have g6 : (k : Int) + (R.size : Int) < (s.size : Int) + 1 := by omega
            have g7 : (j : Int) < (n : Int) := by omega
            have hbf : j < F → 2 + y ≠ u := fun h => by
              rcases HBF.out j h with h1 | h1
              · rw [hq] at h1; cases h1
              · rw [hRz, ← hy] at h1; exact h1
            have hft : j = F → 2 + y = u := fun h => by
              have h1 := HFT.out.2
              rw [← h, hRz, ← hy] at h1
              exact h1
            clear hq hq2 hle hle2 hy hR
            by_cases hjF : j < F
            · have t1 : ((2 : Int) + (y : Int) != (u : Int)) = true := by rw [bne_iff_ne]; have := hbf hjF; omega
              clear hbf hft hRz hq3 hq4
              go_wp2_with fail
              go_quiet ((go_at_call 51; exact Calls.quiet_of_same (hfit _)))
              go_wp2_with fail
              go_roundw
              case rel => exact ⟨j + 1, by omega, by go_num, Lib.hid (own_below HO2.out (below_drewN (Below.refl _ _) _)), Lib.hid (below_drewN HB2.out _), Lib.hid (Tb.below HT2.out (below_drewN (Below.refl _ _) _))⟩
              case measure => simp [intOf]; omega
            · have hjf : j = F := by omega
              have t1 : ((2 : Int) + (y : Int) != (u : Int)) = false := by rw [bne_eq_false_iff_eq]; have := hft hjf; omega
              have HJF := Lib.hid hjf
              clear hbf hft hjf
              go_wp2_with fail
              go_quiet ((go_at_call 51; exact Calls.quiet_of_same (hfit _)))
              have HO5 : Hid ((wr.drewN nq).ownsRow W.heap.size 58 2 (.slice A6 n6 c6) n6 (pcv ps)) := Lib.hid (own_below HO2.out (below_drewN (Below.refl _ _) _))
              have HB5 : Hid (Below W.heap.size W (wr.drewN nq)) := Lib.hid (below_drewN HB2.out _)
              have k0 : (wr.drewN nq).cell? (ad.add j) = some (.string R) := ka
              have habW : (ad.add j).block < W.heap.size := by rw [blk_add]; exact Nat.lt_of_lt_of_le hab HB0.out.size
              have hk0 : W.cell? (ad.add j) = some (.string R) := (HB5.out.cell (p := ad.add j) habW).symm.trans k0
              clear d1 d0 ka HO2 HB2 HT2 HRD hfit
              generalize wr.drewN nq = w5 at *
              have hz5 := HB5.out.size
              go_wp2_with (at_builtin; refine wpList_appP _ rfl _ _ 44 rfl W.heap.size 58 i0 Tryd.underlying44 HI.out HZ0.out HSZ.out HBY.out _ n6 ps rfl (HO5.out.alloc _) ⟨w5.heap.size, 0, none⟩ 1 ([], (j : Int) + 1) rfl ((Blk.new w5 _ _).cell 0) ((Blk.new w5 _ _).cell 1) (by omega) (by simp; omega) ?_; intro A8 c8 w8 hown8 hg8; have hb8 := ((HB5.out.alloc HB5.out.size _).grown hg8 (by simp; omega) (own_from HO5.out)); have ka8 := (hb8.cell (p := ad.add j) habW).trans hk0)
              have HO8 := Lib.hid hown8
              have HB8 := Lib.hid hb8
              have HC3 : Hid (cutL ls s.data.toList = (stepsA ls (s.data.toList.drop (k + R.size))).foldl putS (ps ++ [([], (j : Int) + 1)])) := Lib.hid (by
                have h1 := HS.out
                rw [← HJF.out, getD_opt, hRz, List.drop_drop] at h1
                rw [HC.out, h1]
                rfl)
              have HP3 : Hid (∀ p ∈ ps ++ [(([] : List UInt8), (j : Int) + 1)], p.1.length ≤ k + R.size) := Lib.hid (fun p hp => by
                rcases List.mem_append.1 hp with hp | hp
                · have := HPL.out p hp; omega
                · rw [List.mem_singleton] at hp
                  subst hp
                  exact Nat.zero_le _)
              clear hown8 hg8 hb8 ka8 k0 hk0
              go_roundw
              case rel => exact ⟨A8, n6 + 1, c8, k + R.size, _, by omega, by omega, by go_num, rfl, HO8, HP3, HC3, HB8⟩
              case measure => simp [intOf]; omega
    · have HE : Hid (cutL ls s.data.toList = ps) := Lib.hid (by
        rw [HC.out, List.drop_of_length_le (by rw [HSL.out]; omega)]
        rfl)
      go_wp2_with fail
      go_ret
      refine ⟨A6, n6, c6, rfl, ?_, HB0.out.trans (HB.out.mono HB0.out.size)⟩
      rw [HE.out]
      exact own_base HO.out HB0.out.size

end Go.Proofs.YtpfkkmjodhpkoaaDoor
