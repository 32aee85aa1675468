/- The table of steps; contracts of stepsThrough, withText, Cut. -/
import Derived.Test.YtpfkkmjodhpkoaaDoorAbbC
import Derived.Test.YtpfkkmjodhpkoaaDoorAbbK
import Derived.Test.YtpfkkmjodhpkoaaDoorAlpF
import Derived.Test.YtpfkkmjodhpkoaaDoorCen
import Derived.Test.YtpfkkmjodhpkoaaDoorRegion
namespace Go.Proofs.YtpfkkmjodhpkoaaDoor
open Go.RowKit
set_option linter.unusedVariables false

/-- the abbreviation that stands first, or none; and how many bytes it stands for -/
def stA (ab : List (List UInt8)) : List UInt8 → Int
  | [] => 0
  | c :: r => if costL [c] + least ab r = least ab (c :: r) then 0 else ((firstA ab (c :: r) + 1 : Nat) : Int)
def stN (ab : List (List UInt8)) : List UInt8 → Int
  | [] => 0
  | c :: r => if costL [c] + least ab r = least ab (c :: r) then 1 else (((ab.getD (firstA ab (c :: r)) []).length : Nat) : Int)

theorem pickB_in {a : List UInt8} (ha : a ≠ []) {s : List UInt8} (hp : isPre a s = true) (t : List Nat) {l : List (List UInt8)} (h : a ∈ l) (m : Nat) : pickB l s t m ≤ 2 + t.getD (a.length - 1) 0 := pickB_mem s t ha hp l m h

/-- an abbreviation that was tried costs no less than the least so far -/
theorem mAt_tried {ab : List (List UInt8)} {s : List UInt8} {i j q : Nat} (hq : q < j) (hql : q < ab.length) (h : fitB s i ab q = true) : mAt ab s i j ≤ 2 + least ab (s.drop (i + (ab[q]?.getD []).length)) := by
  unfold fitB at h
  simp only [Bool.and_eq_true, decide_eq_true_eq] at h
  obtain ⟨⟨h32, h1⟩, hp⟩ := h
  have hlen := isPre_len hp
  rw [List.length_drop] at hlen
  have hp1 := pos_of_ne h1
  have et : (tab ab (s.drop (i + 1))).getD ((ab[q]?.getD []).length - 1) 0 = least ab (s.drop (i + (ab[q]?.getD []).length)) := by
    rw [tab_get ab _ _ (by rw [List.length_drop]; omega), List.drop_drop, show i + 1 + ((ab[q]?.getD []).length - 1) = i + (ab[q]?.getD []).length from by omega]
  have hm : ab[q]?.getD [] ∈ (ab.take 32).take j := by
    have hl : q < ((ab.take 32).take j).length := by rw [List.length_take, List.length_take]; omega
    have e : ((ab.take 32).take j)[q] = ab[q]?.getD [] := by rw [List.getElem_take, List.getElem_take, List.getElem?_eq_getElem hql]; rfl
    rw [← e]
    exact List.getElem_mem hl
  have := pickB_in h1 hp (tab ab (s.drop (i + 1))) hm (costL ((s.drop i).take 1) + least ab (s.drop (i + 1)))
  rw [et] at this
  exact this

/-- what a step is, the first j abbreviations tried -/
def StepOk (ab : List (List UInt8)) (s : List UInt8) (i j : Nat) (a l : Int) : Prop :=
  (mAt ab s i j = mAt ab s i 0 ∧ a = 0 ∧ l = 1) ∨
  (mAt ab s i j < mAt ab s i 0 ∧ ∃ q : Nat, q < j ∧ q < ab.length ∧ a = (q : Int) + 1 ∧ l = (((ab[q]?.getD []).length : Nat) : Int) ∧ fitB s i ab q = true ∧ mAt ab s i j = 2 + least ab (s.drop (i + (ab[q]?.getD []).length)) ∧
    ∀ q' : Nat, q' < q → fitB s i ab q' = true → mAt ab s i j < 2 + least ab (s.drop (i + (ab[q']?.getD []).length)))

theorem StepOk.no {ab : List (List UInt8)} {s : List UInt8} {i j : Nat} {a l : Int} (h : StepOk ab s i j a l) (he : mAt ab s i (j + 1) = mAt ab s i j) : StepOk ab s i (j + 1) a l := by
  rcases h with ⟨h1, h2, h3⟩ | ⟨h1, q, h2, h3, h4, h5, h6, h7, h8⟩
  · exact .inl ⟨by rw [he, h1], h2, h3⟩
  · exact .inr ⟨by rw [he]; exact h1, q, by omega, h3, h4, h5, h6, by rw [he]; exact h7, by rw [he]; exact h8⟩

theorem StepOk.yes {ab : List (List UInt8)} {s : List UInt8} {i j : Nat} (hj : j < ab.length) (hf : fitB s i ab j = true) (h2 : 2 + least ab (s.drop (i + (ab[j]?.getD []).length)) < mAt ab s i j) :
    StepOk ab s i (j + 1) ((j : Int) + 1) (((ab[j]?.getD []).length : Nat) : Int) := by
  have he := mAt_yes hj hf h2
  have hle := mAt_le ab s i j
  rw [← mAt_zero] at hle
  refine .inr ⟨by rw [he]; omega, j, by omega, hj, rfl, rfl, hf, he, fun q' hq' hf' => ?_⟩
  have := mAt_tried (j := j) hq' (by omega) hf'
  rw [he]
  omega

theorem StepOk.done {ab : List (List UInt8)} {s : List UInt8} {i j : Nat} {a l : Int} (hi : i < s.length) (hj : j = min ab.length 32) (h : StepOk ab s i j a l) :
    mAt ab s i j = least ab (s.drop i) ∧ a = stA ab (s.drop i) ∧ l = stN ab (s.drop i) := by
  have hd := List.drop_eq_getElem_cons hi
  have hm : mAt ab s i j = least ab (s.drop i) := by
    unfold mAt
    rw [List.take_of_length_le (l := ab.take 32) (by rw [List.length_take]; omega), hd]
    rfl
  have hm0 : mAt ab s i 0 = costL [s[i]] + least ab (s.drop (i + 1)) := by rw [mAt_zero, hd]; rfl
  refine ⟨hm, ?_⟩
  unfold StepOk at h
  rw [hm0, hm] at h
  rw [hd] at h ⊢
  unfold stA stN
  rcases h with ⟨h1, h2, h3⟩ | ⟨h1, q, h2, h3, h4, h5, h6, h7, h8⟩
  · dsimp only
    rw [if_pos h1.symm, if_pos h1.symm]
    exact ⟨h2, h3⟩
  · dsimp only
    rw [if_neg (by omega), if_neg (by omega)]
    have hdr : ∀ k : Nat, s.drop (i + k) = (s[i] :: s.drop (i + 1)).drop k := fun k => by rw [← hd, List.drop_drop]
    have hq : firstA ab (s[i] :: s.drop (i + 1)) = q := by
      unfold firstA
      have hql : q < (ab.take 32).length := by rw [List.length_take]; omega
      rw [List.findIdx_eq hql]
      have e : ∀ k (hk : k < (ab.take 32).length), (ab.take 32)[k] = ab[k]?.getD [] := fun k hk => by
        rw [List.getElem_take, List.getElem?_eq_getElem (by rw [List.length_take] at hk; omega)]; rfl
      unfold fitB at h6
      simp only [Bool.and_eq_true, decide_eq_true_eq] at h6
      rw [hd] at h6
      refine ⟨?_, fun k hk => ?_⟩
      · rw [e q hql]
        simp only [Bool.and_eq_true, decide_eq_true_eq]
        exact ⟨⟨h6.1.2, h6.2⟩, by rw [← hdr]; exact h7.symm⟩
      · rw [e k (by omega), Bool.eq_false_iff]
        intro hc
        simp only [Bool.and_eq_true, decide_eq_true_eq] at hc
        have := h8 k hk (by
          unfold fitB
          simp only [Bool.and_eq_true, decide_eq_true_eq]
          rw [hd]
          exact ⟨⟨by omega, hc.1.1⟩, hc.1.2⟩)
        rw [hdr (ab[k]?.getD []).length, hc.2] at this
        omega
    rw [hq]
    exact ⟨by rw [h4]; omega, by rw [h5]; rfl⟩

/-- the table of steps, from place k on -/
def StepTab (ab : List (List UInt8)) (s : List UInt8) (k : Nat) (cs : List Int) : Prop :=
  cs.length = 3 * (s.length + 1) ∧ ∀ j, k ≤ j → j ≤ s.length → cs.getD (j * 3) 0 = ((least ab (s.drop j) : Nat) : Int) ∧ cs.getD (j * 3 + 1) 0 = stA ab (s.drop j) ∧ cs.getD (j * 3 + 2) 0 = stN ab (s.drop j)

theorem getD_set_ne (l : List Int) {i j : Nat} (v : Int) (h : i ≠ j) : (l.set i v).getD j 0 = l.getD j 0 := by
  simp only [List.getD, List.getElem?_set_ne h]
theorem getD_set_eq (l : List Int) {i : Nat} (v : Int) (h : i < l.length) : (l.set i v).getD i 0 = v := by
  simp [List.getD, h]

theorem StepTab.fill {ab : List (List UInt8)} {s : List UInt8} {i : Nat} {cs : List Int} (h : StepTab ab s (i + 1) cs) (hi : i < s.length) :
    StepTab ab s i (((cs.set (i * 3) ((least ab (s.drop i) : Nat) : Int)).set (i * 3 + 1) (stA ab (s.drop i))).set (i * 3 + 2) (stN ab (s.drop i))) := by
  obtain ⟨h1, h2⟩ := h
  refine ⟨by simpa using h1, fun j hj hjl => ?_⟩
  rcases Nat.eq_or_lt_of_le hj with rfl | hj
  · refine ⟨?_, ?_, ?_⟩
    · rw [getD_set_ne _ _ (by omega), getD_set_ne _ _ (by omega), getD_set_eq _ _ (by omega)]
    · rw [getD_set_ne _ _ (by omega), getD_set_eq _ _ (by rw [List.length_set]; omega)]
    · rw [getD_set_eq _ _ (by rw [List.length_set, List.length_set]; omega)]
  · obtain ⟨k1, k2, k3⟩ := h2 j (by omega) hjl
    refine ⟨?_, ?_, ?_⟩
    · rw [getD_set_ne _ _ (by omega), getD_set_ne _ _ (by omega), getD_set_ne _ _ (by omega), k1]
    · rw [getD_set_ne _ _ (by omega), getD_set_ne _ _ (by omega), getD_set_ne _ _ (by omega), k2]
    · rw [getD_set_ne _ _ (by omega), getD_set_ne _ _ (by omega), getD_set_ne _ _ (by omega), k3]

theorem StepTab.zero (ab : List (List UInt8)) (s : List UInt8) : StepTab ab s s.length (List.replicate (3 * (s.length + 1)) 0) := by
  refine ⟨by simp, fun j hj hjl => ?_⟩
  obtain rfl : j = s.length := by omega
  rw [List.drop_length]
  have z : ∀ k, k < 3 * (s.length + 1) → (List.replicate (3 * (s.length + 1)) (0 : Int)).getD k 0 = 0 := fun k hk => by simp [List.getD, hk]
  exact ⟨by rw [z _ (by omega)]; rfl, by rw [z _ (by omega)]; rfl, by rw [z _ (by omega)]; rfl⟩

/-- the table in memory -/
def Sb (w : World) (g : Nat) (cs : List Int) : Prop := Blk w g 63 (iv cs).toArray

theorem Sb.cell {w : World} {g : Nat} {zs : List Int} (h : Sb w g zs) {j : Nat} (hj : j < zs.length) : w.cell? ⟨g, j, none⟩ = some (.int .i64 (zs.getD j 0)) := by
  rw [Blk.cell h, List.getElem?_toArray, iv_at hj]
theorem Sb.set_ {w : World} {g : Nat} {zs : List Int} (h : Sb w g zs) (j : Nat) (z : Int) : Sb (w.setCell ⟨g, j, none⟩ (.int .i64 z)) g (zs.set j z) := by
  have h2 := Blk.set_ h j (.int .i64 z)
  unfold Sb
  rw [iv_set]
  simpa using h2
theorem Sb.below {w w' : World} {g : Nat} {zs : List Int} (h : Sb w g zs) (hb : Below w.heap.size w w') : Sb w' g zs := Blk.below h hb (Blk.lt h)

theorem Tryd.inf_step : (Tryd.prog.info? 63).map (fun i => (i.zero, i.size, i.bytes)) = some (some (.agg #[.int .i64 0, .int .i64 0, .int .i64 0]), 3, 24) := by kernel_rfl

theorem made_steps (k : Nat) : madeCells (Value.agg #[.int .i64 0, .int .i64 0, .int .i64 0]).cells k = (iv (List.replicate k 0)).toArray := by
  apply Array.ext
  · simp [madeCells, iv]
  · intro i h1 h2
    have : (Value.agg #[.int .i64 0, .int .i64 0, .int .i64 0]).cells = #[.int .i64 0, .int .i64 0, .int .i64 0] := rfl
    rcases (by omega : i % 3 = 0 ∨ i % 3 = 1 ∨ i % 3 = 2) with e | e | e <;> simp [madeCells, this, iv, e]

/-- the step under way -/
def Lb (w : World) (g : Nat) (m a l : Int) : Prop := Blk w g 63 #[.int .i64 m, .int .i64 a, .int .i64 l]

set_option maxRecDepth 100000 in
set_option maxHeartbeats 12800000 in
theorem steps_any (w : World) (s : ByteArray) (A : Option Addr) (n m c : Nat) (ls : List (List UInt8)) (h : RdS w w.heap.size A n ls) (hmn : m = min n 32) (hs : (s.size : Int) ≤ 1000) (hm : Short_ 1000 ls) (hn : (n : Int) ≤ 1000) :
    Calls Tryd.prog 34 #[.string s, .slice A m c] w fun e w' => ∃ g cs, e = .returned (.slice (some ⟨g, 0, none⟩) (s.size + 1) (s.size + 1)) ∧ w.heap.size ≤ g ∧ Sb w' g cs ∧ StepTab ls s.data.toList 0 cs ∧ Below w.heap.size w w' := by
  obtain ⟨i0, hi, hz0, hsz, hby⟩ := inf_parts Tryd.inf_step
  have hmk : (Instr.makeSlice 59 (.int .i64 ((s.size : Int) + 1)) (.int .i64 ((s.size : Int) + 1))).run Tryd.prog w = .ok (.slice (some ⟨w.heap.size, 0, none⟩) (s.size + 1) (s.size + 1)) (w.alloc (.cells (iv (List.replicate (3 * (s.size + 1)) 0)).toArray 63)) := by
    have h := run_make (P := Tryd.prog) w 59 63 i0 _ Tryd.underlying59 hi hz0 .i64 .i64 ((s.size : Int) + 1) ((s.size : Int) + 1) (by omega) (Int.le_refl _) (by rw [hby]; omega) (by omega)
    rw [h, hsz, made_steps, show ((s.size : Int) + 1).toNat = s.size + 1 from by omega, Nat.mul_comm (s.size + 1) 3]
  have hsl : s.data.toList.length = s.size := by rw [Array.length_toList]; rfl
  have HSL := Lib.hid hsl
  have H := Lib.hid h
  have HL := Lib.hid h.1
  have HM := Lib.hid hm
  have hm32 : m ≤ 32 ∧ m ≤ n := by omega
  have HMN : Hid (m = min ls.length 32) := Lib.hid (by rw [h.1]; exact hmn)
  obtain ⟨g, hg⟩ : ∃ g, g = w.heap.size := ⟨_, rfl⟩
  obtain ⟨W, hW⟩ : ∃ W, W = w.alloc (.cells (iv (List.replicate (3 * (s.size + 1)) 0)).toArray 63) := ⟨_, rfl⟩
  have HB0 : Hid (Below w.heap.size w W) := Lib.hid (by rw [hW]; exact (Below.refl _ _).alloc (Nat.le_refl _) _)
  have HT0 : Hid (Sb W g (List.replicate (3 * (s.size + 1)) 0)) := Lib.hid (by rw [hW, hg]; exact Blk.new _ _ _)
  have HST0 : Hid (StepTab ls s.data.toList s.size (List.replicate (3 * (s.size + 1)) 0)) := Lib.hid (by
    have := StepTab.zero ls s.data.toList
    rw [hsl] at this
    exact this)
  have HG := Lib.hid hg
  rw [← hg, ← hW] at hmk
  clear hi hz0 hsz hby h hm hsl hW hg hmn
  go_enter Tryd.func34, Tryd.ntmps34
  go_wp2_with fail
  clear hmk
  go_loopw [6] (fun i wr => ∃ (k : Nat) (z : Int) (cs : List Int), k ≤ s.size ∧ z = (k : Int) - 1 ∧ i = .int .i64 z ∧ Hid (Sb wr g cs) ∧ Hid (StepTab ls s.data.toList k cs) ∧ Hid (Below w.heap.size w wr)) (fun i _ => (intOf i + 1).toNat)
  case atStart => exact ⟨s.size, (s.size : Int) - 1, _, by omega, rfl, by go_num, HT0, HST0, HB0⟩
  case round =>
    clear HT0 HST0 HB0
    obtain ⟨k, z, cs, hk, hz, rfl, HT, HST, HB⟩ := hrel
    by_cases hlt : 0 < k
    · obtain ⟨i, rfl⟩ : ∃ i, k = i + 1 := ⟨k - 1, by omega⟩
      have hzi : z = (i : Int) := by omega
      subst hzi
      have hi : i < s.size := by omega
      have hgl : g < wr.heap.size := Blk.lt HT.out
      have hcl := HST.out.1
      rw [HSL.out] at hcl
      have c1 := HT.out.cell (j := (i + 1) * 3) (by omega)
      rw [(HST.out.2 (i + 1) (Nat.le_refl _) (by rw [HSL.out]; omega)).1] at c1
      have hle := least_le_cost ls (s.data.toList.drop (i + 1))
      have hle2 := costL_le (s.data.toList.drop (i + 1))
      rw [List.length_drop, HSL.out] at hle2
      obtain ⟨v, hv⟩ : ∃ v, v = least ls (s.data.toList.drop (i + 1)) := ⟨_, rfl⟩
      have hv2 : v ≤ 3000 := by omega
      have hc3 := costL_one_le (s.data.toList.drop i)
      have hex : (s.extract i (i + 1)).data.toList = (s.data.toList.drop i).take 1 := by
        rw [ByteArray.data_extract, Array.toList_extract, List.extract_eq_take_drop, show i + 1 - i = 1 from by omega]
      obtain ⟨x, hx⟩ : ∃ x, x = costL ((s.data.toList.drop i).take 1) := ⟨_, rfl⟩
      have HX : Hid (costL (s.extract i (i + 1)).data.toList = x) := Lib.hid (by rw [hex, hx])
      have HMZ : Hid (mAt ls s.data.toList i 0 = x + v) := Lib.hid (by rw [mAt_zero, hx, hv])
      rw [← hv] at c1
      rw [← hx] at hc3
      have hexs : ((s.extract i (i + 1)).size : Int) ≤ 100000 := by rw [ByteArray.size_extract]; omega
      have HEX := Lib.hid hexs
      have HCL := Lib.hid hcl
      have b1 : 0 ≤ (i : Int) + 1 ∧ (i : Int) + 1 ≤ (s.size : Int) := by omega
      have b2 : 0 ≤ (i : Int) ∧ (i : Int) ≤ (i : Int) + 1 := by omega
      have b3 : 0 ≤ (i : Int) + 1 ∧ (i : Int) + 1 < (s.size : Int) + 1 := by omega
      have b5 : ((i : Int) + 1).toNat = i + 1 := by omega
      have b6 : IntKind.i64.wrap ((i : Int) + 1) = (i : Int) + 1 := IntWalk.i64_in _ (by omega)
      have b7 : IntKind.i64.wrap ((x : Int) + (v : Int)) = (x : Int) + (v : Int) := IntWalk.i64_in _ (by omega)
      have b8 : (i : Int) ≤ (i : Int) + 1 := by omega
      clear hcl hle hle2 hv hx hex hz hexs
      have a0 : ∀ o, (wr.alloc o).cell? ⟨g, (i + 1) * 3, none⟩ = some (.int .i64 v) := fun o => (((Below.refl wr.heap.size wr).alloc (Nat.le_refl _) o).cell (p := ⟨g, (i + 1) * 3, none⟩) hgl).trans c1
      go_wp2_with fail
      go_region_with
        (
          go_at_call 20
          refine (cost_any _ _ HEX.out).mono ?_
          rintro e w2 ⟨rfl, hb2⟩
          rw [HX.out]
          first
            | (have d1 := (hb2.cell (p := ⟨g, (i + 1) * 3, none⟩) hgl).trans c1
               have a1 : ∀ o, (w2.alloc o).cell? ⟨g, (i + 1) * 3, none⟩ = some (.int .i64 v) := fun o => (((Below.refl w2.heap.size w2).alloc (Nat.le_refl _) o).cell (p := ⟨g, (i + 1) * 3, none⟩) (Nat.lt_of_lt_of_le hgl hb2.size)).trans d1)
            | (have hz : g < (wr.alloc (.cells #[.int .i64 0, .int .i64 0, .int .i64 0] 63)).drew.heap.size := Nat.lt_of_lt_of_le hgl (by show wr.heap.size ≤ (wr.heap.push _).size; simp)
               have d1 := (hb2.cell (p := ⟨g, (i + 1) * 3, none⟩) hz).trans (a0 _)
               have n0 : Blk w2 wr.heap.size 63 #[.int .i64 0, .int .i64 0, .int .i64 0] := (hb2.block wr.heap.size (by show wr.heap.size < (wr.heap.push _).size; simp)).trans (Blk.new wr 63 #[.int .i64 0, .int .i64 0, .int .i64 0])
               have e0 := Blk.cell n0 0
               have e1 := Blk.cell n0 1
               have e2 := Blk.cell n0 2
               have z0 := Blk.frozen n0 0
               have z1 := Blk.frozen n0 1
               have z2 := Blk.frozen n0 2
               simp at e0 e1 e2 z0 z1 z2))
      all_goals
        first
          | (obtain ⟨W3, hW3⟩ : ∃ W3, W3 = w2.alloc (.cells #[.int .i64 ((x : Int) + (v : Int)), .int .i64 0, .int .i64 1] 63) := ⟨_, rfl⟩
             obtain ⟨gl, hgl3⟩ : ∃ gl, gl = w2.heap.size := ⟨_, rfl⟩
             have hq2 : wr.heap.size ≤ w2.heap.size := hb2.size
             have HB3 : Hid (Below wr.heap.size wr W3) := Lib.hid (by rw [hW3]; exact (((Below.refl wr.heap.size wr).drew).trans hb2).alloc hq2 _)
             have HLB : Hid (Lb W3 gl ((x : Int) + (v : Int)) 0 1) := Lib.hid (by rw [hW3, hgl3]; exact Blk.new w2 _ _)
             have HGL : Hid (wr.heap.size ≤ gl) := Lib.hid (by rw [hgl3]; exact hq2)
             rw [← hW3, ← hgl3]
             clear hW3 hgl3 hq2 a1)
          | (obtain ⟨W3, hW3⟩ : ∃ W3, W3 = ((w2.setCell ⟨wr.heap.size, 0, none⟩ (.int .i64 ((x : Int) + (v : Int)))).setCell ⟨wr.heap.size, 1, none⟩ (.int .i64 0)).setCell ⟨wr.heap.size, 2, none⟩ (.int .i64 1) := ⟨_, rfl⟩
             obtain ⟨gl, hgl3⟩ : ∃ gl, gl = wr.heap.size := ⟨_, rfl⟩
             have hq2 : wr.heap.size ≤ (wr.alloc (.cells #[.int .i64 0, .int .i64 0, .int .i64 0] 63)).drew.heap.size := by show wr.heap.size ≤ (wr.heap.push _).size; simp
             have HB3 : Hid (Below wr.heap.size wr W3) := Lib.hid (by
               rw [hW3]
               exact ((((((Below.refl wr.heap.size wr).alloc (Nat.le_refl _) _).drew).trans (hb2.mono hq2)).setCell (Nat.le_refl _) _).setCell (Nat.le_refl _) _).setCell (Nat.le_refl _) _)
             have HLB : Hid (Lb W3 gl ((x : Int) + (v : Int)) 0 1) := Lib.hid (by
               rw [hW3, hgl3]
               have h := ((n0.set_ 0 (.int .i64 ((x : Int) + (v : Int)))).set_ 1 (.int .i64 0)).set_ 2 (.int .i64 1)
               unfold Lb
               simpa using h)
             have HGL : Hid (wr.heap.size ≤ gl) := Lib.hid (Nat.le_of_eq hgl3.symm)
             rw [← hW3, ← hgl3]
             clear hW3 hgl3 hq2 n0 e0 e1 e2 z0 z1 z2)
        have HT2 : Hid (Sb W3 g cs) := Lib.hid (HT.out.below HB3.out)
        have HB2 : Hid (Below w.heap.size w W3) := Lib.hid (HB.out.trans (HB3.out.mono HB.out.size))
        have HLB2 : Hid (Lb W3 gl ((mAt ls s.data.toList i 0 : Nat) : Int) 0 1) := Lib.hid (by rw [HMZ.out, Int.natCast_add]; exact HLB.out)
        have HOK2 : Hid (StepOk ls s.data.toList i 0 0 1) := Lib.hid (.inl ⟨rfl, rfl, rfl⟩)
        have HGG : Hid (g < gl ∧ w.heap.size ≤ gl) := Lib.hid (by have := HGL.out; have := HB.out.size; omega)
        clear c1 a0 d1 hb2 HB3 HLB HGL b7 HT HB hgl hc3 HX HMZ hv2 HEX
        go_wp2_with fail
        go_loopw [38] (fun jj wi => ∃ (j : Nat) (a l : Int), j ≤ m ∧ jj = .int .i64 j ∧ Hid (Lb wi gl ((mAt ls s.data.toList i j : Nat) : Int) a l) ∧ Hid (StepOk ls s.data.toList i j a l) ∧ Hid (Sb wi g cs) ∧ Hid (Below w.heap.size w wi)) (fun jj _ => m - (intOf jj).toNat)
        case atStart => exact ⟨0, 0, 1, by omega, rfl, HLB2, HOK2, HT2, HB2⟩
        case round =>
          clear HLB2 HOK2 HT2 HB2
          obtain ⟨j, a, l, hj, rfl, HLB, HOK, HT, HB⟩ := hrel
          by_cases hlt2 : j < m
          · obtain ⟨ad, rfl, hab, hcell⟩ := H.out.2 (by omega)
            have hjl : j < ls.length := by rw [HL.out]; omega
            have ka := (HB.out.cell (p := ad.add j) (by rw [blk_add]; exact hab)).trans (hcell j hjl)
            have hp := HM.out j
            obtain ⟨R, hR⟩ : ∃ R, R = bs (ls[j]?.getD []) := ⟨_, rfl⟩
            have hRl : R.data.toList = ls[j]?.getD [] := by rw [hR, data_bs]
            have hRz : (ls[j]?.getD []).length = R.size := by rw [hR, bs_size]
            have hRs : (R.size : Int) ≤ 1000 := by omega
            rw [← hR] at ka
            clear hcell hp
            by_cases hne : ls[j]?.getD [] = []
            · have t0 : R.toList.isEmpty = true := by rw [Lib.toList_data, hRl, hne]; rfl
              have hfit : fitB s.data.toList i ls j = false := by
                unfold fitB
                rw [hne]
                simp
              have HN : Hid (mAt ls s.data.toList i (j + 1) = mAt ls s.data.toList i j) := Lib.hid (mAt_no hjl (.inl hfit) (by rw [HSL.out]; exact hi))
              have HOK2 := Lib.hid (HOK.out.no HN.out)
              clear hne hfit hR hRl hRz hjl
              go_wp2_with fail
              go_roundw
              case rel => exact ⟨j + 1, a, l, by omega, by go_num, Lib.hid (by rw [HN.out]; exact HLB.out), HOK2, HT, HB⟩
              case measure => simp [intOf]; omega
            · have t0 : R.toList.isEmpty = false := by
                rw [Lib.toList_data, hRl]
                cases hd : ls[j]?.getD [] with
                | nil => exact absurd hd hne
                | cons x y => rfl
              have hexl : (s.extract i s.size).data.toList = s.data.toList.drop i := by
                rw [ext_take, List.take_of_length_le]
                rw [List.length_drop, HSL.out]
                exact Nat.le_refl _
              have hexs : ((s.extract i s.size).size : Int) ≤ 100000 := by rw [ByteArray.size_extract]; omega
              have HEXL := Lib.hid hexl
              have HEXS := Lib.hid hexs
              have HRL := Lib.hid hRl
              have HNE := Lib.hid hne
              clear hexl hexs hne hR hRl
              go_wp2_with fail
              refine (prefix_any wr (s.extract i s.size) R HEXS.out (by omega)).mono ?_
              rintro e w2 ⟨rfl, rfl⟩
              rw [HEXL.out, HRL.out]
              cases hq : isPre (ls[j]?.getD []) (s.data.toList.drop i) with
              | false =>
                have hfit : fitB s.data.toList i ls j = false := by
                  unfold fitB
                  rw [hq]
                  simp
                have HN : Hid (mAt ls s.data.toList i (j + 1) = mAt ls s.data.toList i j) := Lib.hid (mAt_no hjl (.inl hfit) (by rw [HSL.out]; exact hi))
                have HOK2 := Lib.hid (HOK.out.no HN.out)
                clear hq hfit hRz hjl
                go_wp2_with fail
                go_roundw
                case rel => exact ⟨j + 1, a, l, by omega, by go_num, Lib.hid (by rw [HN.out]; exact HLB.out), HOK2, HT, HB⟩
                case measure => simp [intOf]; omega
              | true =>
                have hfit : fitB s.data.toList i ls j = true := by
                  unfold fitB
                  rw [hq]
                  simp [HNE.out, show j < 32 from by omega]
                have hlen := isPre_len hq
                rw [List.length_drop, HSL.out, hRz] at hlen
                have hcl := HCL.out
                have hk1 : i + R.size ≤ s.size := by omega
                have hk0 : i + 1 ≤ i + R.size := by
                  have := pos_of_ne HNE.out
                  rw [hRz] at this
                  omega
                have d1 := HT.out.cell (j := (i + R.size) * 3) (by omega)
                rw [(HST.out.2 (i + R.size) hk0 (by rw [HSL.out]; exact hk1)).1] at d1
                have hle := least_le_cost ls (s.data.toList.drop (i + R.size))
                have hle2 := costL_le (s.data.toList.drop (i + R.size))
                rw [List.length_drop, HSL.out] at hle2
                obtain ⟨y, hy⟩ : ∃ y, y = least ls (s.data.toList.drop (i + R.size)) := ⟨_, rfl⟩
                have hy3 : y ≤ 3000 := by omega
                rw [← hy] at d1
                have l0 := Blk.cell HLB.out 0
                have l1 := Blk.cell HLB.out 1
                have l2 := Blk.cell HLB.out 2
                have f0 := Blk.frozen HLB.out 0
                have f1 := Blk.frozen HLB.out 1
                have f2 := Blk.frozen HLB.out 2
                simp at l0 l1 l2
                obtain ⟨mm, hmm⟩ : ∃ mm, mm = mAt ls s.data.toList i j := ⟨_, rfl⟩
                rw [← hmm] at l0
                have HYN : Hid (mm ≤ 2 + y → mAt ls s.data.toList i (j + 1) = mAt ls s.data.toList i j) := Lib.hid (fun h5 => mAt_no hjl (.inr (by rw [hRz, ← hy, ← hmm]; exact h5)) (by rw [HSL.out]; exact hi))
                have HYY : Hid (2 + y < mm → mAt ls s.data.toList i (j + 1) = 2 + y ∧ StepOk ls s.data.toList i (j + 1) ((j : Int) + 1) (R.size : Int)) := Lib.hid (fun h5 => by
                  have h6 : 2 + least ls (s.data.toList.drop (i + (ls[j]?.getD []).length)) < mAt ls s.data.toList i j := by rw [hRz, ← hy, ← hmm]; exact h5
                  have h7 := StepOk.yes hjl hfit h6
                  rw [hRz] at h7
                  exact ⟨by rw [mAt_yes hjl hfit h6, hRz, ← hy], h7⟩)
                have g2 : (i : Int) + (R.size : Int) < (s.size : Int) + 1 := by omega
                have hmb : mm ≤ 4000 := by
                  have h1 := mAt_le ls s.data.toList i j
                  have h2 := least_le_cost ls (s.data.toList.drop (i + 1))
                  have h3 := costL_le (s.data.toList.drop (i + 1))
                  have h4 := costL_one_le (s.data.toList.drop i)
                  rw [List.length_drop, HSL.out] at h3
                  omega
                have HMM := Lib.hid hmm
                clear hq hfit hRz hjl hlen hcl hle hle2 hy hmm hk0
                by_cases hcmp : (2 : Int) + (y : Int) < (mm : Int)
                · obtain ⟨hN, hS⟩ := HYY.out (by omega)
                  have HN := Lib.hid hN
                  have HS := Lib.hid hS
                  have HLF : Hid (Lb (((wr.setCell ⟨gl, 0, none⟩ (.int .i64 (2 + (y : Int)))).setCell ⟨gl, 1, none⟩ (.int .i64 ((j : Int) + 1))).setCell ⟨gl, 2, none⟩ (.int .i64 (R.size : Int))) gl (2 + (y : Int)) ((j : Int) + 1) (R.size : Int)) := Lib.hid (by
                    have h := ((Blk.set_ HLB.out 0 (.int .i64 (2 + (y : Int)))).set_ 1 (.int .i64 ((j : Int) + 1))).set_ 2 (.int .i64 (R.size : Int))
                    unfold Lb
                    simpa using h)
                  have HBF : Hid (Below w.heap.size w (((wr.setCell ⟨gl, 0, none⟩ (.int .i64 (2 + (y : Int)))).setCell ⟨gl, 1, none⟩ (.int .i64 ((j : Int) + 1))).setCell ⟨gl, 2, none⟩ (.int .i64 (R.size : Int)))) := Lib.hid (((HB.out.setCell HGG.out.2 _).setCell HGG.out.2 _).setCell HGG.out.2 _)
                  have HTF : Hid (Sb (((wr.setCell ⟨gl, 0, none⟩ (.int .i64 (2 + (y : Int)))).setCell ⟨gl, 1, none⟩ (.int .i64 ((j : Int) + 1))).setCell ⟨gl, 2, none⟩ (.int .i64 (R.size : Int))) g cs) := Lib.hid (((Blk.far HT.out (p := ⟨gl, 0, none⟩) (Nat.ne_of_lt HGG.out.1) _).far (p := ⟨gl, 1, none⟩) (Nat.ne_of_lt HGG.out.1) _).far (p := ⟨gl, 2, none⟩) (Nat.ne_of_lt HGG.out.1) _)
                  clear hN hS HYY HYN
                  go_wp2_with fail
                  go_roundw
                  case rel => exact ⟨j + 1, _, _, by omega, by go_num, Lib.hid (by rw [HN.out, Int.natCast_add]; exact HLF.out), HS, HTF, HBF⟩
                  case measure => simp [intOf]; omega
                · have HN := Lib.hid (HYN.out (by omega))
                  have HOK2 := Lib.hid (HOK.out.no HN.out)
                  clear HYY HYN
                  go_wp2_with fail
                  go_roundw
                  case rel => exact ⟨j + 1, a, l, by omega, by go_num, Lib.hid (by rw [HN.out]; exact HLB.out), HOK2, HT, HB⟩
                  case measure => simp [intOf]; omega
          · obtain rfl : j = m := by omega
            obtain ⟨e1, e2, e3⟩ := HOK.out.done (by rw [HSL.out]; exact hi) HMN.out
            have l0 := Blk.cell HLB.out 0
            have l1 := Blk.cell HLB.out 1
            have l2 := Blk.cell HLB.out 2
            simp at l0 l1 l2
            have hcl := HCL.out
            have k0 := HT.out.cell (j := i * 3) (by omega)
            have k1 := HT.out.cell (j := i * 3 + 1) (by omega)
            have k2 := HT.out.cell (j := i * 3 + 2) (by omega)
            have f0 := Blk.frozen HT.out (i * 3)
            have f1 := Blk.frozen HT.out (i * 3 + 1)
            have f2 := Blk.frozen HT.out (i * 3 + 2)
            have HFIL := Lib.hid (HST.out.fill (by rw [HSL.out]; exact hi))
            rw [← e1, ← e2, ← e3] at HFIL
            obtain ⟨mm, hmm⟩ : ∃ mm, mm = mAt ls s.data.toList i j := ⟨_, rfl⟩
            rw [← hmm] at l0 HFIL
            have HTF : Hid (Sb (((wr.setCell ⟨g, i * 3, none⟩ (.int .i64 mm)).setCell ⟨g, i * 3 + 1, none⟩ (.int .i64 a)).setCell ⟨g, i * 3 + 2, none⟩ (.int .i64 l)) g (((cs.set (i * 3) mm).set (i * 3 + 1) a).set (i * 3 + 2) l)) := Lib.hid (((HT.out.set_ _ _).set_ _ _).set_ _ _)
            have HBF : Hid (Below w.heap.size w (((wr.setCell ⟨g, i * 3, none⟩ (.int .i64 mm)).setCell ⟨g, i * 3 + 1, none⟩ (.int .i64 a)).setCell ⟨g, i * 3 + 2, none⟩ (.int .i64 l))) := Lib.hid (((HB.out.setCell (Nat.le_of_eq HG.out.symm) _).setCell (Nat.le_of_eq HG.out.symm) _).setCell (Nat.le_of_eq HG.out.symm) _)
            clear e1 e2 e3 hmm hcl
            go_wp2_with fail
            go_roundw
            case rel => exact ⟨i, (i : Int) - 1, _, by omega, rfl, by go_num, HTF, HFIL, HBF⟩
            case measure => simp [intOf]
    · obtain rfl : k = 0 := by omega
      have hz2 : z = -1 := by omega
      subst hz2
      clear hz
      go_wp2_with fail
      go_ret
      exact ⟨g, cs, rfl, Nat.le_of_eq HG.out.symm, HT.out, HST.out, HB.out⟩

/-- the pieces, and a literal one that is not written yet -/
def flush (ps : List Pc) (pend : List UInt8) : List Pc := if pend = [] then ps else ps ++ [(pend, 0)]
def LastA (ps : List Pc) : Prop := ps = [] ∨ ∃ o p, ps = o ++ [p] ∧ (0 : Int) < p.2

theorem flush_nil (ps : List Pc) : flush ps [] = ps := by unfold flush; rw [if_pos rfl]

theorem flush_lit {ps : List Pc} (h : LastA ps) (pend : List UInt8) (c : UInt8) : putS (flush ps pend) (.lit c) = flush ps (pend ++ [c]) := by
  have hr : flush ps (pend ++ [c]) = ps ++ [(pend ++ [c], 0)] := by unfold flush; rw [if_neg (by simp)]
  rw [hr]
  by_cases hp : pend = []
  · subst hp
    rw [flush_nil]
    rcases h with rfl | ⟨o, p, rfl, hp⟩
    · rfl
    · rw [putS_lit_new hp]; rfl
  · unfold flush
    rw [if_neg hp, putS_lit_old (p := (pend, 0)) (by show ¬ ((0 : Int) < 0); decide)]

theorem step_lit {ls : List (List UInt8)} {s : List UInt8} {k : Nat} (hk : k < s.length) (h : stA ls (s.drop k) = 0) : stN ls (s.drop k) = 1 ∧ stepsA ls (s.drop k) = .lit s[k] :: stepsA ls (s.drop (k + 1)) := by
  rw [List.drop_eq_getElem_cons hk] at h ⊢
  unfold stA at h
  unfold stN
  dsimp only at h ⊢
  by_cases hc : costL [s[k]] + least ls (s.drop (k + 1)) = least ls (s[k] :: s.drop (k + 1))
  · rw [if_pos hc]
    exact ⟨rfl, stepsA_lit hc⟩
  · rw [if_neg hc] at h
    omega

theorem step_abb {ls : List (List UInt8)} {s : List UInt8} {k : Nat} (hk : k < s.length) (h : stA ls (s.drop k) ≠ 0) :
    ∃ a n : Nat, stA ls (s.drop k) = (a : Int) ∧ 0 < a ∧ stN ls (s.drop k) = (n : Int) ∧ 1 ≤ n ∧ k + n ≤ s.length ∧ stepsA ls (s.drop k) = .abb a :: stepsA ls (s.drop (k + n)) := by
  have hd := List.drop_eq_getElem_cons hk
  rw [hd] at h ⊢
  unfold stA at h ⊢
  unfold stN
  dsimp only at h ⊢
  by_cases hc : costL [s[k]] + least ls (s.drop (k + 1)) = least ls (s[k] :: s.drop (k + 1))
  · rw [if_pos hc] at h
    exact absurd rfl h
  · rw [if_neg hc, if_neg hc]
    obtain ⟨k1, k2, k3, k4, k5⟩ := firstA_spec hc
    have h1 := pos_of_ne k3
    refine ⟨_, _, rfl, by omega, rfl, h1, ?_, ?_⟩
    · have := isPre_len k4
      rw [List.length_cons, List.length_drop] at this
      omega
    · rw [stepsA_abb hc, ← hd, List.drop_drop]

theorem take_more {s : List UInt8} {lt k : Nat} (h : lt ≤ k) (hk : k < s.length) : (s.drop lt).take (k - lt) ++ [s[k]] = (s.drop lt).take (k + 1 - lt) := by
  have hl : k - lt < (s.drop lt).length := by rw [List.length_drop]; omega
  rw [show k + 1 - lt = k - lt + 1 from by omega, List.take_succ_eq_append_getElem hl]
  congr 2
  rw [List.getElem_drop]
  congr 1
  omega

/-- withText: what is pending is written -/
def OutW (base : Nat) (w : World) (A : Option Addr) (n c : Nat) (ps : List Pc) (e : Ending) (w' : World) : Prop :=
  ∃ A' n' c', e = .returned (.slice A' n' c') ∧ w'.ownsRow base 58 2 (.slice A' n' c') n' (pcv ps) ∧ w.grownBy w' (Value.slice A n c).ownBlock ∧ ((Value.slice A' n' c').ownBlock = (Value.slice A n c).ownBlock ∨ ∀ k, (Value.slice A' n' c').ownBlock = some k → w.heap.size ≤ k)

set_option maxRecDepth 100000 in
set_option maxHeartbeats 3200000 in
theorem withText_any (w : World) (base : Nat) (A : Option Addr) (n c : Nat) (ps : List Pc) (x : ByteArray) (ho : w.ownsRow base 58 2 (.slice A n c) n (pcv ps)) (hb : base ≤ w.heap.size) (hx : (x.size : Int) ≤ 100000) (hn : (n : Int) ≤ 100000) :
    Calls Tryd.prog 36 #[.slice A n c, .string x] w (OutW base w A n c (flush ps x.data.toList)) := by
  obtain ⟨i0, hi, hz0, hsz, hby⟩ := inf_parts Tryd.inf_piece
  have HI := Lib.hid hi
  have HZ0 := Lib.hid hz0
  have HSZ := Lib.hid hsz
  have HBY := Lib.hid hby
  have HO := Lib.hid ho
  have HB := Lib.hid hb
  clear hi hz0 hsz hby ho hb
  by_cases h0 : x.data.toList = []
  · have t0 : x.toList.isEmpty = true := by rw [Lib.toList_data, h0]; rfl
    have HF : Hid (flush ps x.data.toList = ps) := Lib.hid (by rw [h0, flush_nil])
    clear h0
    go_enter Tryd.func36, Tryd.ntmps36
    go_wp2_with fail
    go_ret
    rw [HF.out]
    exact ⟨A, n, c, rfl, HO.out, World.grownBy.refl w _, .inl rfl⟩
  · have t0 : x.toList.isEmpty = false := by
      rw [Lib.toList_data]
      cases hd : x.data.toList with
      | nil => exact absurd hd h0
      | cons a b => rfl
    have HF : Hid (flush ps x.data.toList = ps ++ [(x.data.toList, 0)]) := Lib.hid (by unfold flush; rw [if_neg h0])
    have HXB : Hid (x = bs x.data.toList) := Lib.hid (bs_data x).symm
    clear h0
    go_enter Tryd.func36, Tryd.ntmps36
    go_wp2_with fail
    refine (clone_any w x hx).mono ?_
    rintro e w2 ⟨rfl, hb2⟩
    have HO2 := Lib.hid (own_below HO.out hb2)
    have HB2 := Lib.hid hb2
    have HZ2 : Hid (w.heap.size ≤ w2.heap.size ∧ base ≤ w2.heap.size) := Lib.hid ⟨hb2.size, Nat.le_trans HB.out hb2.size⟩
    have hcl : ((Blk.new w2 58 #[.string x, .int .i64 0]).cell 0) = ((Blk.new w2 58 #[.string x, .int .i64 0]).cell 0) := rfl
    have HC0 : Hid ((w2.alloc (.cells #[.string x, .int .i64 0] 58)).cell? ⟨w2.heap.size, 0, none⟩ = some (.string (bs x.data.toList))) := Lib.hid (by rw [← HXB.out]; exact (Blk.new w2 58 #[.string x, .int .i64 0]).cell 0)
    clear hb2 hcl
    go_wp2_with (at_builtin; refine wpList_appPL _ rfl _ _ 44 rfl base 58 i0 Tryd.underlying44 HI.out HZ0.out HSZ.out HBY.out _ n ps rfl (HO2.out.alloc _) ⟨w2.heap.size, 0, none⟩ 1 (x.data.toList, 0) rfl HC0.out ((Blk.new w2 _ _).cell 1) (by omega) (by simp; have := HZ2.out; omega) ?_; intro A8 c8 w8 hown8 hg8 hw8)
    go_ret
    rw [HF.out]
    refine ⟨A8, n + 1, c8, rfl, hown8, ((gb_below HB2.out _).trans (World.grownBy_alloc w2 _ _)).trans hg8, ?_⟩
    rcases hw8 with h | h
    · exact .inl h
    · refine .inr fun k hk => ?_
      rw [h] at hk
      injection hk with hk
      have := HZ2.out.1
      simp at hk
      omega

theorem flush_len (ps : List Pc) (x : List UInt8) : (flush ps x).length ≤ ps.length + 1 := by
  unfold flush
  split
  · omega
  · simp

set_option maxRecDepth 100000 in
set_option maxHeartbeats 12800000 in
theorem cut_any (w : World) (s : ByteArray) (A : Option Addr) (n c : Nat) (ls : List (List UInt8)) (h : RdS w w.heap.size A n ls) (hc : n ≤ c) (hs : (s.size : Int) ≤ 1000) (hm : Short_ 1000 ls) (hn : (n : Int) ≤ 1000) :
    Calls Tryd.prog 19 #[.string s, .slice A n c] w (OutP w.heap.size 58 w (cutL ls s.data.toList)) := by
  obtain ⟨i0, hi, hz0, hsz, hby⟩ := inf_parts Tryd.inf_piece
  have HI := Lib.hid hi
  have HZ0 := Lib.hid hz0
  have HSZ := Lib.hid hsz
  have HBY := Lib.hid hby
  have hsl : s.data.toList.length = s.size := by rw [Array.length_toList]; rfl
  have HSL := Lib.hid hsl
  have H := Lib.hid h
  have HM := Lib.hid hm
  clear hi hz0 hsz hby h hm hsl
  go_enter Tryd.func19, Tryd.ntmps19
  go_wp2_with fail
  refine (known_any w A n c hc (by omega)).mono ?_
  rintro e w1 ⟨rfl, rfl⟩
  obtain ⟨m, hmm⟩ : ∃ m, m = min n 32 := ⟨_, rfl⟩
  rw [← hmm]
  have HMM := Lib.hid hmm
  clear hmm
  go_wp2_with fail
  refine (steps_any w s A n m c ls H.out HMM.out hs HM.out hn).mono ?_
  rintro e W ⟨g, cs, rfl, hg, ht, hst, hb⟩
  have HT := Lib.hid ht
  have HST := Lib.hid hst
  have HB0 := Lib.hid hb
  have HGW : Hid (g < W.heap.size) := Lib.hid (Blk.lt ht)
  clear ht hst hb hg
  go_wp2_with fail
  go_loopw [6, 7, 8] (fun v lv kv wr => ∃ (A6 : Option Addr) (n6 c6 k q : Nat) (ps : List Pc), k ≤ s.size ∧ q ≤ k ∧ n6 ≤ 2 * k ∧ kv = .int .i64 k ∧ lv = .int .i64 q ∧ v = .slice A6 n6 c6 ∧ Hid (wr.ownsRow W.heap.size 58 2 (.slice A6 n6 c6) n6 (pcv ps)) ∧
    Hid (cutL ls s.data.toList = (stepsA ls (s.data.toList.drop k)).foldl putS (flush ps ((s.data.toList.drop q).take (k - q)))) ∧ Hid (LastA ps) ∧ Hid (Below W.heap.size W wr)) (fun _ _ kv _ => s.size - (intOf kv).toNat)
  case atStart => exact ⟨none, 0, 0, 0, 0, [], by omega, by omega, by omega, rfl, rfl, rfl, Lib.hid (ownP_nil _ _ _), Lib.hid rfl, Lib.hid (.inl rfl), Lib.hid (Below.refl _ _)⟩
  case round =>
    obtain ⟨A6, n6, c6, k, q, ps, hk, hqk, hn6, rfl, rfl, rfl, HO, HC, HLA, HB⟩ := hrel
    by_cases hlt : k < s.size
    · have hcl := HST.out.1
      rw [HSL.out] at hcl
      have HTW : Hid (Sb wr g cs) := Lib.hid (HT.out.below HB.out)
      have c1 := HTW.out.cell (j := k * 3 + 1) (by omega)
      have c2 := HTW.out.cell (j := k * 3 + 2) (by omega)
      obtain ⟨_, e1, e2⟩ := HST.out.2 k (Nat.zero_le _) (by rw [HSL.out]; omega)
      rw [e1] at c1
      rw [e2] at c2
      have hkl : k < s.data.toList.length := by rw [HSL.out]; exact hlt
      have hgr : g < wr.heap.size := Nat.lt_of_lt_of_le HGW.out HB.out.size
      clear e1 e2
      by_cases ha : stA ls (s.data.toList.drop k) = 0
      · obtain ⟨s1, s2⟩ := step_lit hkl ha
        rw [ha] at c1
        rw [s1] at c2
        have HC2 : Hid (cutL ls s.data.toList = (stepsA ls (s.data.toList.drop (k + 1))).foldl putS (flush ps ((s.data.toList.drop q).take (k + 1 - q)))) := Lib.hid (by
          rw [HC.out, s2, List.foldl_cons, flush_lit HLA.out, take_more hqk hkl])
        clear s1 s2 ha hcl hgr hkl
        go_wp2_with fail
        go_roundw
        case rel => exact ⟨A6, n6, c6, k + 1, q, ps, by omega, by omega, by omega, by go_num, rfl, rfl, HO, HC2, HLA, HB⟩
        case measure => simp [intOf]; omega
      · obtain ⟨a, nn, s1, s2, s3, s4, s5, s6⟩ := step_abb hkl ha
        have HC2V : Hid (cs.getD (k * 3 + 2) 0 = (nn : Int)) := Lib.hid ((HST.out.2 k (Nat.zero_le _) (by rw [HSL.out]; omega)).2.2.trans s3)
        have HCL := Lib.hid hcl
        have hcell : ∀ u, Below W.heap.size W u → u.cell? ⟨g, k * 3 + 1, none⟩ = some (.int .i64 (a : Int)) := fun u hu => by
          have := (HT.out.below hu).cell (j := k * 3 + 1) (by omega)
          rw [(HST.out.2 k (Nat.zero_le _) (by rw [HSL.out]; omega)).2.1, s1] at this
          exact this
        rw [s1] at c1
        rw [s3] at c2
        have HS6 := Lib.hid s6
        rw [HSL.out] at s5
        have hext := ext_take s q k
        have hexs : ((s.extract q k).size : Int) ≤ 100000 := by rw [ByteArray.size_extract]; omega
        have HEXT := Lib.hid hext
        have HEXS := Lib.hid hexs
        have hps : ps.length = n6 := ownP_len HO.out
        have HFL : Hid ((flush ps ((s.data.toList.drop q).take (k - q))).length ≤ n6 + 1) := Lib.hid (by rw [← hps]; exact flush_len _ _)
        have t0 : ((a : Int) == 0) = false := by rw [beq_eq_false_iff_ne]; omega
        have b1 : 0 ≤ (q : Int) ∧ (q : Int) ≤ (k : Int) := by omega
        have b2 : 0 ≤ (k : Int) ∧ (k : Int) ≤ (s.size : Int) := by omega
        have b3 : 0 ≤ (k : Int) ∧ (k : Int) < (s.size : Int) + 1 := by omega
        have b4 : (q : Int) ≤ (k : Int) := by omega
        have HWL : Hid (W.heap.size ≤ wr.heap.size) := Lib.hid HB.out.size
        have hn6b : (n6 : Int) ≤ 2000 := by omega
        have HGO : Hid (∀ r, some r = (Value.slice A6 n6 c6).ownBlock → r ≠ g) := Lib.hid (fun r hr e => by
          have := (HO.out.lt r hr.symm).1
          have := HGW.out
          omega)
        clear s1 s3 s6 ha hcl hkl hext hexs hps
        go_wp2_with fail
        have hzz : wr.heap.size < (wr.alloc (.cells #[.string ⟨#[]⟩, .int .i64 (a : Int)] 58)).drew.heap.size := by show wr.heap.size < (wr.heap.push _).size; simp
        have hxo : (Value.slice A6 n6 c6).ownBlock ≠ some wr.heap.size := fun e => Nat.lt_irrefl _ (HO.out.lt _ e).2
        refine wp_region_held_drew (S := Below W.heap.size W) (by kernel_rfl) HB.out.drew (fun hHeld => ?_)
        refine held_take (i := 0) (fuel := 14) (v := ?_) (by rw [List.getElem?_toArray]; rfl) (by kernel_rfl) (by kernel_rfl) (by kernel_rfl) hHeld ?_ ?_ ?_ ?_
        rotate_left
        · intro u hSw
          go_simp
          try with_reducible rfl
        · rfl
        · exact fun _ _ _ h => h
        try simp only [Act.put, List.setIfInBounds_toArray, List.set_cons_zero, List.set_cons_succ]
        refine held_take (i := 1) (fuel := 13) (v := ?_) (by rw [List.getElem?_toArray]; rfl) (by kernel_rfl) (by kernel_rfl) (by kernel_rfl) hHeld ?_ ?_ ?_ ?_
        rotate_left
        · intro u hSw
          go_simp
          try with_reducible rfl
        · rfl
        · exact fun _ _ _ h => h
        try simp only [Act.put, List.setIfInBounds_toArray, List.set_cons_zero, List.set_cons_succ]
        refine held_take (i := 2) (fuel := 12) (v := ?_) (by rw [List.getElem?_toArray]; rfl) (by kernel_rfl) (by kernel_rfl) (by kernel_rfl) hHeld ?_ ?_ ?_ ?_
        rotate_left
        · intro u hSw
          go_simp
          try with_reducible rfl
        · rfl
        · exact fun _ _ _ h => h
        try simp only [Act.put, List.setIfInBounds_toArray, List.set_cons_zero, List.set_cons_succ]
        refine held_take (i := 3) (fuel := 11) (v := ?_) (by rw [List.getElem?_toArray]; rfl) (by kernel_rfl) (by kernel_rfl) (by kernel_rfl) hHeld ?_ ?_ ?_ ?_
        rotate_left
        · intro u hSw
          go_simp
          try with_reducible rfl
        · rfl
        · exact fun _ _ _ h => h
        try simp only [Act.put, List.setIfInBounds_toArray, List.set_cons_zero, List.set_cons_succ]
        refine held_take (i := 4) (fuel := 10) (v := ?_) (by rw [List.getElem?_toArray]; rfl) (by kernel_rfl) (by kernel_rfl) (by kernel_rfl) hHeld ?_ ?_ ?_ ?_
        rotate_left
        · intro u hSw
          go_simp
          try with_reducible rfl
        · rfl
        · exact fun _ _ _ h => h
        try simp only [Act.put, List.setIfInBounds_toArray, List.set_cons_zero, List.set_cons_succ]
        refine held_take (i := 6) (fuel := 9) (v := ?_) (by rw [List.getElem?_toArray]; rfl) (by kernel_rfl) (by kernel_rfl) (by kernel_rfl) hHeld ?_ ?_ ?_ ?_
        rotate_left
        · intro u hSw
          go_simp
          try with_reducible rfl
        · rfl
        · exact fun _ _ _ h => h
        try simp only [Act.put, List.setIfInBounds_toArray, List.set_cons_zero, List.set_cons_succ]
        refine held_take (i := 7) (fuel := 8) (v := ?_) (by rw [List.getElem?_toArray]; rfl) (by kernel_rfl) (by kernel_rfl) (by kernel_rfl) hHeld ?_ ?_ ?_ ?_
        rotate_left
        · intro u hSw
          go_simp
          try with_reducible rfl
        · rfl
        · exact fun _ _ _ h => h
        try simp only [Act.put, List.setIfInBounds_toArray, List.set_cons_zero, List.set_cons_succ]
        refine held_take (i := 8) (fuel := 7) (v := ?_) (by rw [List.getElem?_toArray]; rfl) (by kernel_rfl) (by kernel_rfl) (by kernel_rfl) hHeld ?_ ?_ ?_ ?_
        rotate_left
        · intro u hSw
          go_simp
          try with_reducible rfl
        · rfl
        · exact fun _ _ _ h => h
        try simp only [Act.put, List.setIfInBounds_toArray, List.set_cons_zero, List.set_cons_succ]
        refine held_take (i := 9) (fuel := 6) (v := ?_) (by rw [List.getElem?_toArray]; rfl) (by kernel_rfl) (by kernel_rfl) (by kernel_rfl) hHeld ?_ ?_ ?_ ?_
        rotate_left
        · intro u hSw
          go_simp
          try with_reducible rfl
        · rfl
        · exact fun _ _ _ h => h
        try simp only [Act.put, List.setIfInBounds_toArray, List.set_cons_zero, List.set_cons_succ]
        refine held_take (i := 10) (fuel := 5) (v := ?_) (by rw [List.getElem?_toArray]; rfl) (by kernel_rfl) (by kernel_rfl) (by kernel_rfl) hHeld ?_ ?_ ?_ ?_
        rotate_left
        · intro u hSw
          have hcu := hcell u hSw
          go_simp
          try with_reducible rfl
        · rfl
        · exact fun _ _ _ h => h
        try simp only [Act.put, List.setIfInBounds_toArray, List.set_cons_zero, List.set_cons_succ]
        refine held_take (i := 11) (fuel := 4) (v := ?_) (by rw [List.getElem?_toArray]; rfl) (by kernel_rfl) (by kernel_rfl) (by kernel_rfl) hHeld ?_ ?_ ?_ ?_
        rotate_left
        · intro u hSw
          go_simp
          try with_reducible rfl
        · rfl
        · exact fun _ _ _ h => h
        try simp only [Act.put, List.setIfInBounds_toArray, List.set_cons_zero, List.set_cons_succ]
        refine wpAnyH_ready (rs := [5, 12]) (fuel := 3) (by kernel_rfl) (by simp) ?_
        refine AllReadyH.cons (by rw [List.getElem?_toArray]; rfl) (fun K hK => ?_) ?_
        ·
          go_simp
          refine (withText_any _ W.heap.size A6 n6 c6 ps (s.extract q k) (HO.out.drew) HWL.out HEXS.out (by omega)).mono ?_
          rintro e w2 ⟨A7, n7, c7, rfl, ho2, hg2, hw2⟩
          rw [HEXT.out] at ho2
          refine hK.out _ _ ?_ (fun hHeld => ?_)
          · exact hHeld.grown hg2 hHeld.size (own_from HO.out)
          clear hK K
          try simp only [Act.put, List.setIfInBounds_toArray, List.set_cons_zero, List.set_cons_succ]
          have HO2 := Lib.hid ho2
          have hn7 : n7 ≤ n6 + 1 := by have := ownP_len ho2; have := HFL.out; omega
          have HZ2 : Hid (W.heap.size ≤ w2.heap.size) := Lib.hid hHeld.size
          clear ho2 hg2 hw2
          refine held_one (i := 12) (fuel := 2) (by kernel_rfl) (by rw [List.getElem?_toArray]; rfl) (fun K hK => ?_)
          go_simp
          refine hK.out _ _ ?_ (fun hHeld => ?_)
          · exact hHeld.alloc hHeld.size _
          clear hK K
          try simp only [Act.put, List.setIfInBounds_toArray, List.set_cons_zero, List.set_cons_succ]
          refine held_one (i := 13) (fuel := 1) (by kernel_rfl) (by rw [List.getElem?_toArray]; rfl) (fun K hK => ?_)
          refine step_append_lies _ (by rfl) _ _ _ (by rfl) W.heap.size 58 i0 _ 2 24 Tryd.underlying44 HI.out HZ0.out HSZ.out HBY.out rfl (by omega) (.slice A7 n7 c7) n7 _ (by rfl) (HO2.out.alloc _)
            ⟨w2.heap.size, 0, none⟩ 1 1 [.string ⟨#[]⟩, .int .i64 (a : Int)] (by rfl) (by rfl) (World.news_of_block (cs := #[.string ⟨#[]⟩, .int .i64 (a : Int)]) (t := 58) (fr := (0, 0)) (heap_alloc_new w2 _)) (by simp [Value.oneCell'])
            (by omega) (by unfold maxLen; omega) (by omega) (by simp; have := HZ2.out; omega) (w2.heap.size + 1) (by simp) ?_
          intro gg cap w8 hown8 hgrow hat hlt8
          refine hK.out _ _ ?_ (fun hHeld => ?_)
          · exact hHeld.grown hgrow hHeld.size (own_from HO2.out)
          clear hK K
          try simp only [Act.put, List.setIfInBounds_toArray, List.set_cons_zero, List.set_cons_succ]
          refine held_take (i := 14) (fuel := 0) (v := ?_) (by rw [List.getElem?_toArray]; rfl) (by kernel_rfl) (by kernel_rfl) (by kernel_rfl) hHeld ?_ ?_ ?_ ?_
          rotate_left
          · intro u hSw
            go_simp
            try with_reducible rfl
          · rfl
          · exact fun _ _ _ h => h
          try simp only [Act.put, List.setIfInBounds_toArray, List.set_cons_zero, List.set_cons_succ]
          refine wpAnyH_done (by kernel_rfl) ?_ _
          have HB8 : Hid (Below W.heap.size W w8) := Lib.hid hHeld
          have HO8 : Hid (w8.ownsRow W.heap.size 58 2 (.slice (some ⟨gg, 0, none⟩) (n7 + 1) cap) (n7 + 1) (pcv (flush ps ((s.data.toList.drop q).take (k - q)) ++ [([], (a : Int))]))) := Lib.hid (by rw [pcv_append]; exact hown8)
          have c3 := (HT.out.below HB8.out).cell (j := k * 3 + 2) (by rw [HCL.out]; omega)
          rw [HC2V.out] at c3
          have HC8 : Hid (cutL ls s.data.toList = (stepsA ls (s.data.toList.drop (k + nn))).foldl putS (flush (flush ps ((s.data.toList.drop q).take (k - q)) ++ [([], (a : Int))]) ((s.data.toList.drop (k + nn)).take (k + nn - (k + nn))))) := Lib.hid (by
            rw [HC.out, HS6.out, List.foldl_cons, Nat.sub_self, List.take_zero, flush_nil]
            rfl)
          have HLA8 : Hid (LastA (flush ps ((s.data.toList.drop q).take (k - q)) ++ [(([] : List UInt8), (a : Int))])) := Lib.hid (.inr ⟨_, _, rfl, by show (0 : Int) < (a : Int); omega⟩)
          clear hown8 hgrow hat hlt8 hHeld
          go_wp2_with fail
          go_roundw
          case rel => exact ⟨_, n7 + 1, cap, k + nn, k + nn, _, by omega, by omega, by omega, by go_num, by go_num, rfl, HO8, HC8, HLA8, HB8⟩
          case measure => simp [intOf]; omega
        refine AllReadyH.cons (by rw [List.getElem?_toArray]; rfl) (fun K hK => ?_) ?_
        ·
          go_simp
          refine hK.out _ _ ?_ (fun hHeld => ?_)
          · exact hHeld.alloc hHeld.size _
          clear hK K
          try simp only [Act.put, List.setIfInBounds_toArray, List.set_cons_zero, List.set_cons_succ]
          refine held_one (i := 5) (fuel := 2) (by kernel_rfl) (by rw [List.getElem?_toArray]; rfl) (fun K hK => ?_)
          go_simp
          refine (withText_any _ W.heap.size A6 n6 c6 ps (s.extract q k) ((HO.out.alloc (.cells #[.string ⟨#[]⟩, .int .i64 (a : Int)] 58)).drew) (Nat.le_trans HWL.out (Nat.le_of_lt hzz)) HEXS.out (by omega)).mono ?_
          rintro e w2 ⟨A7, n7, c7, rfl, ho2, hg2, hw2⟩
          rw [HEXT.out] at ho2
          refine hK.out _ _ ?_ (fun hHeld => ?_)
          · exact hHeld.grown hg2 hHeld.size (own_from HO.out)
          clear hK K
          try simp only [Act.put, List.setIfInBounds_toArray, List.set_cons_zero, List.set_cons_succ]
          have HO2 := Lib.hid ho2
          have hn7 : n7 ≤ n6 + 1 := by have := ownP_len ho2; have := HFL.out; omega
          have HZ2 : Hid (W.heap.size ≤ w2.heap.size) := Lib.hid hHeld.size
          have n0 : w2.heap[wr.heap.size]? = some (.cells #[.string ⟨#[]⟩, .int .i64 (a : Int)] 58 (0, 0)) := (hg2.block wr.heap.size hzz (Ne.symm hxo)).trans (heap_alloc_new wr _)
          clear ho2 hg2 hw2
          refine held_one (i := 13) (fuel := 1) (by kernel_rfl) (by rw [List.getElem?_toArray]; rfl) (fun K hK => ?_)
          refine step_append_lies _ (by rfl) _ _ _ (by rfl) W.heap.size 58 i0 _ 2 24 Tryd.underlying44 HI.out HZ0.out HSZ.out HBY.out rfl (by omega) (.slice A7 n7 c7) n7 _ (by rfl) HO2.out
            ⟨wr.heap.size, 0, none⟩ 1 1 [.string ⟨#[]⟩, .int .i64 (a : Int)] (by rfl) (by rfl) (World.news_of_block (cs := #[.string ⟨#[]⟩, .int .i64 (a : Int)]) (t := 58) (fr := (0, 0)) n0) (by simp [Value.oneCell'])
            (by omega) (by unfold maxLen; omega) (by omega) HZ2.out w2.heap.size rfl ?_
          intro gg cap w8 hown8 hgrow hat hlt8
          refine hK.out _ _ ?_ (fun hHeld => ?_)
          · exact hHeld.grown hgrow hHeld.size (own_from HO2.out)
          clear hK K
          try simp only [Act.put, List.setIfInBounds_toArray, List.set_cons_zero, List.set_cons_succ]
          refine held_take (i := 14) (fuel := 0) (v := ?_) (by rw [List.getElem?_toArray]; rfl) (by kernel_rfl) (by kernel_rfl) (by kernel_rfl) hHeld ?_ ?_ ?_ ?_
          rotate_left
          · intro u hSw
            go_simp
            try with_reducible rfl
          · rfl
          · exact fun _ _ _ h => h
          try simp only [Act.put, List.setIfInBounds_toArray, List.set_cons_zero, List.set_cons_succ]
          refine wpAnyH_done (by kernel_rfl) ?_ _
          have HB8 : Hid (Below W.heap.size W w8) := Lib.hid hHeld
          have HO8 : Hid (w8.ownsRow W.heap.size 58 2 (.slice (some ⟨gg, 0, none⟩) (n7 + 1) cap) (n7 + 1) (pcv (flush ps ((s.data.toList.drop q).take (k - q)) ++ [([], (a : Int))]))) := Lib.hid (by rw [pcv_append]; exact hown8)
          have c3 := (HT.out.below HB8.out).cell (j := k * 3 + 2) (by rw [HCL.out]; omega)
          rw [HC2V.out] at c3
          have HC8 : Hid (cutL ls s.data.toList = (stepsA ls (s.data.toList.drop (k + nn))).foldl putS (flush (flush ps ((s.data.toList.drop q).take (k - q)) ++ [([], (a : Int))]) ((s.data.toList.drop (k + nn)).take (k + nn - (k + nn))))) := Lib.hid (by
            rw [HC.out, HS6.out, List.foldl_cons, Nat.sub_self, List.take_zero, flush_nil]
            rfl)
          have HLA8 : Hid (LastA (flush ps ((s.data.toList.drop q).take (k - q)) ++ [(([] : List UInt8), (a : Int))])) := Lib.hid (.inr ⟨_, _, rfl, by show (0 : Int) < (a : Int); omega⟩)
          clear hown8 hgrow hat hlt8 hHeld
          go_wp2_with fail
          go_roundw
          case rel => exact ⟨_, n7 + 1, cap, k + nn, k + nn, _, by omega, by omega, by omega, by go_num, by go_num, rfl, HO8, HC8, HLA8, HB8⟩
          case measure => simp [intOf]; omega
        exact AllReadyH.nil
    · have hks : k = s.size := by omega
      subst hks
      have HE : Hid (cutL ls s.data.toList = flush ps ((s.data.toList.drop q).take (s.size - q))) := Lib.hid (by
        have hd : s.data.toList.drop s.size = [] := List.drop_of_length_le (by rw [HSL.out]; exact Nat.le_refl _)
        rw [HC.out, hd]
        rfl)
      have hexs : ((s.extract q s.size).size : Int) ≤ 100000 := by rw [ByteArray.size_extract]; omega
      have HEXS := Lib.hid hexs
      have HWL : Hid (W.heap.size ≤ wr.heap.size) := Lib.hid HB.out.size
      have hn6b : (n6 : Int) ≤ 2000 := by omega
      clear hexs
      go_wp2_with fail
      refine (withText_any wr W.heap.size A6 n6 c6 ps (s.extract q s.size) HO.out HWL.out HEXS.out (by omega)).mono ?_
      rintro e w2 ⟨A7, n7, c7, rfl, ho2, hg2, hw2⟩
      rw [ext_take, ← HE.out] at ho2
      have HO2 := Lib.hid ho2
      have HB2 := Lib.hid (HB.out.grown hg2 HB.out.size (own_from HO.out))
      clear ho2 hg2 hw2
      go_wp2_with fail
      go_ret
      exact ⟨A7, n7, c7, rfl, own_base HO2.out HB0.out.size, HB0.out.trans (HB2.out.mono HB0.out.size)⟩

end Go.Proofs.YtpfkkmjodhpkoaaDoor
