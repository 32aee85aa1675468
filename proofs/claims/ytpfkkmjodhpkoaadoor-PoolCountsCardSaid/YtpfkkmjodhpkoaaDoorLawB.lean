/- The walk of the statement PoolCounts. -/
import Derived.Test.YtpfkkmjodhpkoaaDoorAwake8
import Derived.Test.YtpfkkmjodhpkoaaDoorTellsR
namespace Go.Proofs.YtpfkkmjodhpkoaaDoor
open Go.RowKit

theorem made_strs (k : Nat) : madeCells (Value.string ⟨#[]⟩).cells k = (sc (List.replicate k [])).toArray := by
  apply Array.ext
  · simp [madeCells, sc]
  · intro i h1 h2
    have : (Value.string ⟨#[]⟩).cells = #[.string ⟨#[]⟩] := rfl
    simp [madeCells, this, sc, Nat.mod_one]
    rfl

theorem RdS.of_blk {w : World} {g : Nat} {t : TypeId} {ls : List (List UInt8)} {cs : Array Value} (h : Blk w g t cs) (hcs : cs = (sc ls).toArray) (n : Nat) (hn : n = ls.length) : RdS w w.heap.size (some ⟨g, 0, none⟩) n ls := by
  subst hcs hn
  refine ⟨rfl, fun _ => ⟨_, rfl, h.lt, fun j hj => ?_⟩⟩
  rw [Addr.add_lit, Nat.zero_add, h.cell, List.getElem?_toArray, sc_at hj]

/-- one text, and empty ones -/
def oneOf (s : List UInt8) (m : Nat) : List (List UInt8) := s :: List.replicate m []

theorem oneOf_facts (s : List UInt8) (m : Nat) (hs : s.length ≤ 20) : (oneOf s m).length = m + 1 ∧ tot (oneOf s m) ≤ 20 ∧ Short_ 1000 (oneOf s m) ∧ (oneOf s m).all textB = textB s := by
  have h0 : ∀ k, tot (List.replicate k ([] : List UInt8)) = 0 := by
    intro k
    induction k with
    | zero => rfl
    | succ k ih => rw [List.replicate_succ, tot_cons, ih]; rfl
  refine ⟨by unfold oneOf; simp, by unfold oneOf; rw [tot_cons, h0]; omega, short_of_mem fun q hq => ?_, ?_⟩
  · unfold oneOf at hq
    rcases List.mem_cons.mp hq with rfl | hq
    · omega
    · rw [List.eq_of_mem_replicate hq]
      exact Nat.zero_le _
  · unfold oneOf
    rw [List.all_cons]
    have : (List.replicate m ([] : List UInt8)).all textB = true := List.all_eq_true.mpr fun q hq => by rw [List.eq_of_mem_replicate hq]; rfl
    rw [this, Bool.and_true]

theorem oneOf_cells (s : ByteArray) (m : Nat) : ((sc (List.replicate (m + 1) [])).toArray.setIfInBounds 0 (.string s)) = (sc (oneOf s.data.toList m)).toArray := by
  unfold oneOf sc
  rw [List.replicate_succ, List.map_cons, List.map_cons, List.setIfInBounds_toArray, List.set_cons_zero, bs_data]

set_option maxRecDepth 100000 in
set_option maxHeartbeats 6400000 in
theorem counts_walk (x : Int) (s : ByteArray) (w : World) (h0 : 0 ≤ x) (h1 : x ≤ 255) (hs63 : (s.size : Int) ≤ 9223372036854775807) (hm : MaxL w) :
    Calls Tryd.prog 5 #[.int .u8 x, .string s] w fun e w' => e = .returned (.bool true) ∧ Below w.heap.size w w' := by
  have HMX := Lib.hid hm
  clear hm
  by_cases hs : (s.size : Int) ≤ 20
  · obtain ⟨i0, hi, hz0, hsz, hby⟩ := inf_parts Tryd.inf_str
    obtain ⟨m, hm⟩ : ∃ m : Nat, (4090 : Int) + x % 12 = ((m + 1 : Nat) : Int) := ⟨(4089 + x % 12).toNat, by omega⟩
    have hm0 : 4089 ≤ m := by omega
    have hm1 : m ≤ 4100 := by omega
    have hmk : (Instr.makeSlice 22 (.int .i64 ((4090 : Int) + x % 12)) (.int .i64 ((4090 : Int) + x % 12))).run Tryd.prog w = .ok (.slice (some ⟨w.heap.size, 0, none⟩) (m + 1) (m + 1)) (w.alloc (.cells (sc (List.replicate (m + 1) [])).toArray 9)) := by
      have h := run_make (P := Tryd.prog) w 22 9 i0 _ Tryd.underlying22 hi hz0 .i64 .i64 ((4090 : Int) + x % 12) ((4090 : Int) + x % 12) (by omega) (Int.le_refl _) (by rw [hby]; omega) (by omega)
      rw [h, hsz, Nat.mul_one, show ((4090 : Int) + x % 12).toNat = m + 1 from by omega, made_strs]
    have hsl : s.data.toList.length = s.size := by rw [Array.length_toList]; rfl
    obtain ⟨k1, k2, k3, k4⟩ := oneOf_facts s.data.toList m (by omega)
    have HL := Lib.hid k1
    have HTT : Hid ((oneOf s.data.toList m).length + tot (oneOf s.data.toList m) ≤ 10000) := Lib.hid (by omega)
    have HSH := Lib.hid k3
    have HALL := Lib.hid k4
    have HSL := Lib.hid hsl
    obtain ⟨W, hW⟩ : ∃ W, W = w.alloc (.cells (sc (List.replicate (m + 1) [])).toArray 9) := ⟨_, rfl⟩
    have hblk : Blk W w.heap.size 9 (sc (List.replicate (m + 1) [])).toArray := by rw [hW]; exact Blk.new _ _ _
    have c0 : W.cell? ⟨w.heap.size, 0, none⟩ = some (.string ⟨#[]⟩) := by rw [hblk.cell]; rfl
    have z0 : W.frozen? ⟨w.heap.size, 0, none⟩ = false := hblk.frozen 0
    have HB0 : Hid (Below w.heap.size w W) := Lib.hid (by rw [hW]; exact al8 _ _)
    have HBK := Lib.hid (hblk.set_ 0 (.string s))
    have HM1 := Lib.hid hm
    rw [← hW] at hmk
    clear hi hz0 hsz hby k1 k2 k3 k4 hsl hblk hW hm
    go_enter Tryd.func5, Tryd.ntmps5
    go_wp2_with fail
    obtain ⟨X, hX⟩ : ∃ X, X = W.setCell ⟨w.heap.size, 0, none⟩ (.string s) := ⟨_, rfl⟩
    rw [← hX]
    have HBX : Hid (Below w.heap.size w X) := Lib.hid (by rw [hX]; exact HB0.out.setCell (Nat.le_refl _) _)
    have HRX : Hid (RdS X X.heap.size (some ⟨w.heap.size, 0, none⟩) (m + 1) (oneOf s.data.toList m)) := Lib.hid (RdS.of_blk (by rw [hX]; exact HBK.out) (oneOf_cells s m) _ HL.out.symm)
    clear hX hmk c0 z0
    refine (pmake_any X _ (m + 1) (m + 1) (oneOf s.data.toList m) HRX.out (Nat.le_refl _) HSH.out (by have := HL.out; have := HTT.out; omega) (HMX.out.up HBX.out)).mono ?_
    rintro e w2 ⟨Aa, na, ca, At, nt, ct, Ab, nb, cb, rfl, hra, hrt, hrb, hcb, hct, hca, hb2⟩
    have HRA := Lib.hid hra
    have HRT := Lib.hid hrt
    have HRB := Lib.hid hrb
    have HCB := Lib.hid hcb
    have HB2 := Lib.hid (after8 HBX.out hb2)
    clear hra hrt hrb hcb hb2
    obtain ⟨q1, q2, q3, q4, q5⟩ := mk_sizes (oneOf s.data.toList m) HTT.out
    have HZ1 := Lib.hid q1
    have hna : na ≤ 31 := by have := HRA.out.1; omega
    have hnb : nb ≤ 30000 := by have := HRB.out.1; omega
    have hnt : nt ≤ 4101 := by have := HRT.out.1; have := HL.out; omega
    have HQ5 := Lib.hid q5
    clear q1 q2 q3 q4 q5
    by_cases hbig : 4096 < m + 1
    · have HE : Hid (mkE (oneOf s.data.toList m) = 7) := Lib.hid (by unfold mkE; rw [if_pos (by rw [HL.out]; exact hbig)])
      obtain rfl : nt = 0 := by have h1 := HRT.out.1; unfold mkT at h1; rw [if_neg (by rw [HE.out]; decide), List.length_nil] at h1; omega
      rw [HE.out]
      have hbig' : (4096 : Int) < (m : Int) + 1 := by omega
      clear hbig
      go_wp2_with (refine wpList_store_row rfl 28 _ _ rfl w2.heap.size #[.slice Aa na ca, .slice At 0 ct, .slice Ab nb cb] rfl rfl _ _ (Blk.new w2 _ _) pool_size rfl (three_one _ _ _ _ _ _ _ _ _) ?_; obtain ⟨V, hV⟩ : ∃ V, V = (w2.alloc (.cells #[.slice none 0 0, .slice none 0 0, .slice none 0 0] 28)).setRow w2.heap.size #[.slice Aa na ca, .slice At 0 ct, .slice Ab nb cb] := ⟨_, rfl⟩; rw [← hV]; obtain ⟨hkV, hbV⟩ := put_pool hV; have HKV := Lib.hid hkV; have HBV := Lib.hid hbV; clear hV hkV hbV; have f0 : V.cell? ⟨w2.heap.size, 0, none⟩ = some (.slice Aa na ca) := HKV.out.cell 0; have f1 : V.cell? ⟨w2.heap.size, 1, none⟩ = some (.slice At 0 ct) := HKV.out.cell 1; have f2 : V.cell? ⟨w2.heap.size, 2, none⟩ = some (.slice Ab nb cb) := HKV.out.cell 2)
      have HBW := Lib.hid (after8 HB2.out HBV.out)
      refine (awake8_any V (HMX.out.up HBW.out)).mono ?_
      rintro e wz ⟨rfl, hbz⟩
      go_wp2_with fail
      go_ret
      exact ⟨rfl, after8 HBW.out hbz⟩
    · have hbig' : ¬ (4096 : Int) < (m : Int) + 1 := by omega
      have HN := Lib.hid hbig
      clear hbig
      cases ht : textB s.data.toList with
      | false =>
        have HE : Hid (mkE (oneOf s.data.toList m) = 13) := Lib.hid (by unfold mkE; rw [if_neg (by rw [HL.out]; exact HN.out), HALL.out, ht]; rfl)
        rw [HE.out]
        have HT := Lib.hid ht
        clear ht
        go_wp2_with (refine wpList_store_row rfl 28 _ _ rfl w2.heap.size #[.slice Aa na ca, .slice At nt ct, .slice Ab nb cb] rfl rfl _ _ (Blk.new w2 _ _) pool_size rfl (three_one _ _ _ _ _ _ _ _ _) ?_; obtain ⟨V, hV⟩ : ∃ V, V = (w2.alloc (.cells #[.slice none 0 0, .slice none 0 0, .slice none 0 0] 28)).setRow w2.heap.size #[.slice Aa na ca, .slice At nt ct, .slice Ab nb cb] := ⟨_, rfl⟩; rw [← hV]; obtain ⟨hkV, hbV⟩ := put_pool hV; have HKV := Lib.hid hkV; have HBV := Lib.hid hbV; clear hV hkV hbV; have f0 : V.cell? ⟨w2.heap.size, 0, none⟩ = some (.slice Aa na ca) := HKV.out.cell 0; have f1 : V.cell? ⟨w2.heap.size, 1, none⟩ = some (.slice At nt ct) := HKV.out.cell 1; have f2 : V.cell? ⟨w2.heap.size, 2, none⟩ = some (.slice Ab nb cb) := HKV.out.cell 2)
        have HBW := Lib.hid (after8 HB2.out HBV.out)
        refine (rtext_any V s (by omega)).mono ?_
        rintro e wy ⟨rfl, rfl⟩
        rw [HT.out]
        go_wp2_with fail
        refine (awake8_any V (HMX.out.up HBW.out)).mono ?_
        rintro e wz ⟨rfl, hbz⟩
        go_wp2_with fail
        go_ret
        exact ⟨rfl, after8 HBW.out hbz⟩
      | true =>
        have HE : Hid (mkE (oneOf s.data.toList m) = 0) := Lib.hid (by unfold mkE; rw [if_neg (by rw [HL.out]; exact HN.out), HALL.out, ht]; rfl)
        have HTA : Hid (textAt (mkA (oneOf s.data.toList m)) (mkT (oneOf s.data.toList m)) (mkB (oneOf s.data.toList m)) 0 = (s.data.toList, 0)) := Lib.hid (textAt_mk (i := 0) HE.out (by rw [HL.out]; omega))
        obtain rfl : nt = m + 1 := by have h1 := HRT.out.1; have h2 := HQ5.out HE.out; have h3 := HL.out; omega
        rw [HE.out]
        have HT := Lib.hid ht
        clear ht
        go_wp2_with (refine wpList_store_row rfl 28 _ _ rfl w2.heap.size #[.slice Aa na ca, .slice At (m + 1) ct, .slice Ab nb cb] rfl rfl _ _ (Blk.new w2 _ _) pool_size rfl (three_one _ _ _ _ _ _ _ _ _) ?_; obtain ⟨V, hV⟩ : ∃ V, V = (w2.alloc (.cells #[.slice none 0 0, .slice none 0 0, .slice none 0 0] 28)).setRow w2.heap.size #[.slice Aa na ca, .slice At (m + 1) ct, .slice Ab nb cb] := ⟨_, rfl⟩; rw [← hV]; obtain ⟨hkV, hbV⟩ := put_pool hV; have HKV := Lib.hid hkV; have HBV := Lib.hid hbV; clear hV hkV hbV; have f0 : V.cell? ⟨w2.heap.size, 0, none⟩ = some (.slice Aa na ca) := HKV.out.cell 0; have f1 : V.cell? ⟨w2.heap.size, 1, none⟩ = some (.slice At (m + 1) ct) := HKV.out.cell 1; have f2 : V.cell? ⟨w2.heap.size, 2, none⟩ = some (.slice Ab nb cb) := HKV.out.cell 2)
        have HBW := Lib.hid (after8 HB2.out HBV.out)
        refine (rtext_any V s (by omega)).mono ?_
        rintro e wy ⟨rfl, rfl⟩
        rw [HT.out]
        go_wp2_with fail
        refine (ptext_any V Aa At Ab na ca (m + 1) ct nb cb _ _ _ 0 ((HRA.out.below HBV.out).more HBV.out.size) ((HRT.out.below HBV.out).more HBV.out.size) ((HRB.out.below HBV.out).more HBV.out.size) HZ1.out (by omega) (by omega) (by omega) HCB.out).mono ?_
        rintro e V2 ⟨rfl, hb2⟩
        rw [HTA.out, show bs (s.data.toList, (0 : Int)).1 = s from bs_data s]
        have HBV2 := Lib.hid (after8 HBV.out hb2)
        have HBW2 := Lib.hid (after8 HB2.out HBV2.out)
        have HKV2 := Lib.hid (HKV.out.below hb2 HKV.out.lt)
        clear f0 f1 f2
        have f0 : V2.cell? ⟨w2.heap.size, 0, none⟩ = some (.slice Aa na ca) := HKV2.out.cell 0
        have f1 : V2.cell? ⟨w2.heap.size, 1, none⟩ = some (.slice At (m + 1) ct) := HKV2.out.cell 1
        have f2 : V2.cell? ⟨w2.heap.size, 2, none⟩ = some (.slice Ab nb cb) := HKV2.out.cell 2
        clear hb2
        go_wp2_with fail
        refine (awake8_any V2 (HMX.out.up HBW2.out)).mono ?_
        rintro e wz ⟨rfl, hbz⟩
        go_wp2_with fail
        go_ret
        exact ⟨rfl, after8 HBW2.out hbz⟩
  · go_enter Tryd.func5, Tryd.ntmps5
    go_wp2_with fail
    refine (awake8_any w HMX.out).mono ?_
    rintro e w4 ⟨rfl, hb4⟩
    go_wp2_with fail
    go_ret
    exact ⟨rfl, hb4⟩

end Go.Proofs.YtpfkkmjodhpkoaaDoor
