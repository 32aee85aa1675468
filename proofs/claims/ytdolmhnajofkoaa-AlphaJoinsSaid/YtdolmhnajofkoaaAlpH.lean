/- Contracts of slices.Equal on ints, alpha.Codes, Cost. -/
import Derived.Test.YtdolmhnajofkoaaAlpG
import Derived.Test.YtdolmhnajofkoaaLower
import Derived.Deep.QuietTactic
import Derived.BigQuiet
namespace Go.Proofs.Ytdolmhnajofkoaa
open Go.RowKit

theorem field_len (a b c d : Value) (W : World) : (Instr.field 42 (.agg #[a, b, c, d]) 1).run Try.prog W = .ok d W := by kernel_rfl

/-- an array's first m elements as a slice -/
theorem slice3 (W : World) (k m : Nat) (hm : m ≤ 3) : (Instr.sliceAt 40 (.pointer (some ⟨k, 0, none⟩)) none (some (.int .i64 m)) none).run Try.prog W = .ok (.slice (some ⟨k, 0, none⟩) m 3) W := by
  obtain ⟨i0, hi, _, hsz, _⟩ := inf_parts Try.inf_int
  have e3 : Try.prog.arrayLen 40 = 3 := by kernel_rfl
  have ee : Try.prog.elem 40 = 3 := by kernel_rfl
  have ht : Try.prog.underlying 40 = some (.array (Try.prog.arrayLen 40) (Try.prog.elem 40)) := by kernel_rfl
  rw [run_sliceAt_array_h W _ _ ht _ _ (by omega) (by rw [e3]; omega), ee, e3]
  simp [sizeOf, typeInfo, hi, hsz, slicedAt, Addr.add]

/-- a value of ints as a row that reads -/
theorem rd_form (w : World) (c : UInt8) (k : Nat) (hk : k = w.heap.size) (t : TypeId) (a b d n : Int) (ha : c3 c 0 = a) (hb : c3 c 1 = b) (hd : c3 c 2 = d) :
    RdI (w.alloc (.cells #[.int .i64 a, .int .i64 b, .int .i64 d, .int .i64 n] t)) (k + 1) (some ⟨k, 0, none⟩) (oneL c).length (oneL c) := by
  subst hk ha hb hd
  refine ⟨rfl, fun _ => ⟨_, rfl, Nat.lt_succ_self _, fun j hj => ?_⟩, oneL_fit c⟩
  rw [Addr.add_lit, Nat.zero_add, (Blk.new w t _).cell]
  have h3 := (oneL_len c).2
  rcases (by omega : j = 0 ∨ j = 1 ∨ j = 2) with rfl | rfl | rfl <;> rfl

set_option maxRecDepth 100000 in
set_option maxHeartbeats 3200000 in
theorem codes_any (w : World) (s : ByteArray) (hs : (s.size : Int) ≤ 100000) :
    Calls Try.prog 10 #[.string s] w (OutIE w.heap.size 3 w (cdZ s.data.toList) (cdE s.data.toList)) := by
  obtain ⟨i0, hi, hz0, hsz, hby⟩ := inf_parts Try.inf_int
  have HI := Lib.hid hi
  have HZ0 := Lib.hid hz0
  have HSZ := Lib.hid hsz
  have HBY := Lib.hid hby
  clear hi hz0 hsz hby
  by_cases ht : textB s.data.toList = true
  · have e1 : cdZ s.data.toList = codes s.data.toList := by unfold cdZ; rw [if_pos ht]
    have e2 : cdE s.data.toList = 0 := by unfold cdE; rw [if_pos ht]
    rw [e1, e2]
    have HT := Lib.hid ht
    clear e1 e2 ht
    go_enter Try.func10, Try.ntmps10
    go_wp2_with fail
    refine (isText_any w s (by omega)).mono ?_
    rintro e w1 ⟨rfl, hb1⟩
    rw [HT.out]
    have HB1 := Lib.hid hb1
    obtain ⟨cc, w2, hcv, hb2, hz2, hbuf⟩ := conv_bytes w1 s
    obtain ⟨g, hg⟩ : ∃ g, g = w1.heap.size := ⟨_, rfl⟩
    rw [← hg] at hcv hbuf
    have HB2 : Hid (Below w.heap.size w w2) := Lib.hid (hb1.trans (hb2.mono hb1.size))
    have HBUF := Lib.hid hbuf
    have HGL : Hid (g < w2.heap.size) := Lib.hid (by omega)
    clear hb1 hb2 hz2 hbuf hg
    go_wp2_with fail
    go_loopw [4, 14] (fun v i wr => ∃ (A : Option Addr) (n c j : Nat), j ≤ s.size ∧ i = .int .i64 j ∧ v = .slice A n c ∧ Hid (wr.ownsRow w2.heap.size 3 1 (.slice A n c) n (iv (codes (s.data.toList.take j)))) ∧ Hid (Below w2.heap.size w2 wr)) (fun _ i _ => s.size - (intOf i).toNat)
    case atStart => exact ⟨none, 0, 0, 0, Nat.zero_le _, rfl, rfl, Lib.hid (ownI_nil _ _ _), Lib.hid (Below.refl _ _)⟩
    case round =>
      obtain ⟨A, n, c, j, hj, rfl, rfl, HO, HB⟩ := hrel
      by_cases hlt : j < s.size
      · have hl : s.data.toList.length = s.size := by rw [Array.length_toList]; rfl
        have hcell := ((HBUF.out.below HB.out HGL.out).2 j (by omega)).1
        rw [byte_at s j hlt] at hcell
        have HCT := Lib.hid (codes_take hlt)
        obtain ⟨x, hx⟩ : ∃ x, x = s[j]'hlt := ⟨_, rfl⟩
        rw [← hx] at hcell HCT
        have hn : n ≤ 300000 := by
          have h1 := ownI_len HO.out
          have h2 := codes_len (s.data.toList.take j)
          rw [List.length_take] at h2
          omega
        clear hx hl hcv
        go_wp2_with fail
        refine (formOf_any wr x).mono ?_
        rintro e w3 ⟨rfl, hb3⟩
        unfold formV
        have hm := oneL_len x
        have hb3' := hb3.mono HB.out.size
        have HO3 := Lib.hid (own_below HO.out hb3)
        have HB3 := Lib.hid (HB.out.trans hb3')
        clear hb3 hb3' hcell
        obtain ⟨a, ha⟩ : ∃ a, a = c3 x 0 := ⟨_, rfl⟩
        obtain ⟨b, hb⟩ : ∃ a, a = c3 x 1 := ⟨_, rfl⟩
        obtain ⟨d, hd⟩ : ∃ a, a = c3 x 2 := ⟨_, rfl⟩
        obtain ⟨m, hm2⟩ : ∃ m, m = (oneL x).length := ⟨_, rfl⟩
        have hrd := rd_form w3 x w3.heap.size rfl 42 a b d m ha.symm hb.symm hd.symm
        rw [← ha, ← hb, ← hd, ← hm2]
        rw [← hm2] at hm hrd
        have HRD := Lib.hid hrd
        obtain ⟨hm0, hm3⟩ := hm
        have hsz2 := HB3.out.size
        have hsl : ∀ W : World, (Instr.sliceAt 40 (.pointer (some ⟨w3.heap.size, 0, none⟩)) none (some (.int .i64 m)) none).run Try.prog W = .ok (.slice (some ⟨w3.heap.size, 0, none⟩) m 3) W := fun W => slice3 W _ m hm3
        clear ha hb hd hm2 hrd
        go_wp2_with (at_builtin; refine wpList_appI _ rfl _ _ 23 rfl w2.heap.size 3 i0 Try.underlying23 HI.out HZ0.out HSZ.out HBY.out _ n _ rfl (HO3.out.alloc _) _ _ m 3 _ rfl HRD.out (by omega) (by simp; omega) ?_; intro A3 c3 w8 hown2 hg2 hw2)
        have HO4 := Lib.hid hown2
        have HB4 := Lib.hid (app_below HO3.out HB3.out hg2)
        clear hown2 hg2 hw2 hsl
        go_roundw
        case rel => exact ⟨A3, n + m, c3, j + 1, by omega, by go_num, rfl, Lib.hid (by rw [HCT.out]; exact HO4.out), HB4⟩
        case measure => simp [intOf]; omega
      · have HE : Hid (s.data.toList.take j = s.data.toList) := Lib.hid (List.take_of_length_le (by rw [Array.length_toList]; show s.size ≤ j; omega))
        go_wp2_with fail
        go_ret2
        refine ⟨A, n, c, rfl, ?_, HB2.out.trans (HB.out.mono HB2.out.size)⟩
        have h := HO.out
        rw [HE.out] at h
        exact own_base h HB2.out.size
  · rw [Bool.not_eq_true] at ht
    have e1 : cdZ s.data.toList = [] := by unfold cdZ; rw [ht]; rfl
    have e2 : cdE s.data.toList = 13 := by unfold cdE; rw [ht]; rfl
    rw [e1, e2]
    have HT := Lib.hid ht
    clear e1 e2 ht
    go_enter Try.func10, Try.ntmps10
    go_wp2_with fail
    refine (isText_any w s (by omega)).mono ?_
    rintro e w1 ⟨rfl, hb1⟩
    rw [HT.out]
    go_wp2_with fail
    go_ret2
    exact ⟨none, 0, 0, rfl, ownI_nil _ _ _, hb1⟩

set_option maxRecDepth 100000 in
set_option maxHeartbeats 3200000 in
theorem cost_any (w : World) (s : ByteArray) (hs : (s.size : Int) ≤ 100000) :
    Calls Try.prog 13 #[.string s] w fun e w' => e = .returned (.int .i64 (costL s.data.toList : Nat)) ∧ Below w.heap.size w w' := by
  obtain ⟨cc, w2, hcv, hb2, hz2, hbuf⟩ := conv_bytes w s
  obtain ⟨g, hg⟩ : ∃ g, g = w.heap.size := ⟨_, rfl⟩
  rw [← hg] at hcv hbuf
  have HB2 := Lib.hid hb2
  have HBUF := Lib.hid hbuf
  have HGL : Hid (g < w2.heap.size) := Lib.hid (by omega)
  clear hb2 hz2 hbuf hg
  go_enter Try.func13, Try.ntmps13
  go_wp2_with fail
  go_loopw [3, 9] (fun v i wr => ∃ (j q : Nat), j ≤ s.size ∧ i = .int .i64 j ∧ v = .int .i64 q ∧ Hid (q = costL (s.data.toList.take j)) ∧ Hid (Below w2.heap.size w2 wr)) (fun _ i _ => s.size - (intOf i).toNat)
  case atStart => exact ⟨0, 0, Nat.zero_le _, rfl, rfl, Lib.hid rfl, Lib.hid (Below.refl _ _)⟩
  case round =>
    obtain ⟨j, q, hj, rfl, rfl, HQ, HB⟩ := hrel
    by_cases hlt : j < s.size
    · have hl : s.data.toList.length = s.size := by rw [Array.length_toList]; rfl
      have hcell := ((HBUF.out.below HB.out HGL.out).2 j (by omega)).1
      rw [byte_at s j hlt] at hcell
      have HC := Lib.hid (cost_take hlt)
      obtain ⟨x, hx⟩ : ∃ x, x = s[j]'hlt := ⟨_, rfl⟩
      rw [← hx] at hcell HC
      have hq : q ≤ 300000 := by
        have h1 := HQ.out
        have h2 := costL_le (s.data.toList.take j)
        rw [List.length_take] at h2
        omega
      clear hx hl hcv
      by_cases ht : isTx x = true
      · have HC2 : Hid (costL (s.data.toList.take (j + 1)) = costL (s.data.toList.take j) + (oneL x).length) := Lib.hid (by rw [HC.out, if_pos ht])
        have HTX := Lib.hid ht
        clear HC ht
        go_wp2_with fail
        refine (isTextByte_any wr x).mono ?_
        rintro e w3 ⟨rfl, hb3⟩
        rw [HTX.out]
        have HB3 := Lib.hid (HB.out.trans (hb3.mono HB.out.size))
        clear hb3 hcell
        go_wp2_with fail
        refine (formOf_any w3 x).mono ?_
        rintro e w4 ⟨rfl, hb4⟩
        unfold formV
        have HB4 := Lib.hid (HB3.out.trans (hb4.mono HB3.out.size))
        have hm := (oneL_len x).2
        obtain ⟨m, hm2⟩ : ∃ m, m = (oneL x).length := ⟨_, rfl⟩
        rw [← hm2] at hm HC2 ⊢
        clear hb4 hm2
        have hfd := field_len (.int .i64 (c3 x 0)) (.int .i64 (c3 x 1)) (.int .i64 (c3 x 2)) (.int .i64 m)
        go_wp2_with fail
        go_roundw
        case rel => exact ⟨j + 1, q + m, by omega, by go_num, by go_num, Lib.hid (by rw [HC2.out, ← HQ.out]), HB4⟩
        case measure => simp [intOf]; omega
      · rw [Bool.not_eq_true] at ht
        have HC2 : Hid (costL (s.data.toList.take (j + 1)) = costL (s.data.toList.take j)) := Lib.hid (by rw [HC.out, ht]; rfl)
        have HTX := Lib.hid ht
        clear HC ht
        go_wp2_with fail
        refine (isTextByte_any wr x).mono ?_
        rintro e w3 ⟨rfl, hb3⟩
        rw [HTX.out]
        have HB3 := Lib.hid (HB.out.trans (hb3.mono HB.out.size))
        clear hb3 hcell
        go_wp2_with fail
        go_roundw
        case rel => exact ⟨j + 1, q, by omega, by go_num, rfl, Lib.hid (by rw [HC2.out, ← HQ.out]), HB3⟩
        case measure => simp [intOf]; omega
    · have HE : Hid (s.data.toList.take j = s.data.toList) := Lib.hid (List.take_of_length_le (by rw [Array.length_toList]; show s.size ≤ j; omega))
      go_wp2_with fail
      go_ret
      exact ⟨ret_int (by rw [HQ.out, HE.out]), HB2.out.trans (HB.out.mono HB2.out.size)⟩

set_option maxRecDepth 100000 in
set_option maxHeartbeats 3200000 in
theorem equal_any (w : World) (B B' : Nat) (A A' : Option Addr) (n n' c c' : Nat) (zs ys : List Int) (h : RdI w B A n zs) (h' : RdI w B' A' n' ys) (hn : (n : Int) ≤ 1000000) (hn' : (n' : Int) ≤ 1000000) :
    Calls Try.prog 27 #[.slice A n c, .slice A' n' c'] w fun e w' => e = .returned (.bool (eqI zs ys)) ∧ Below w.heap.size w w' := by
  have H := Lib.hid h
  have H' := Lib.hid h'
  clear h h'
  by_cases hl : n = n'
  · obtain rfl := hl
    go_enter Try.func27, Try.ntmps27
    go_wp2_with fail
    go_loopw [13] (fun i wr => ∃ (j : Nat), j ≤ n ∧ i = .int .i64 j ∧ Below w.heap.size w wr ∧ (∀ p, wr.cell? p = w.cell? p) ∧ Hid (∀ m, m < j → zs.getD m 0 = ys.getD m 0)) (fun i _ => n - (intOf i).toNat)
    case atStart => exact ⟨0, Nat.zero_le _, rfl, Below.refl _ _, fun _ => rfl, Lib.hid (fun m hm => absurd hm (by omega))⟩
    case round =>
      obtain ⟨j, hj, rfl, hbel, hcells, HE⟩ := hrel
      by_cases hlt : j < n
      · obtain ⟨ad, rfl, _, hc⟩ := H.out.2.1 (by omega)
        obtain ⟨ad', rfl, _, hc'⟩ := H'.out.2.1 (by omega)
        have k1 := (hcells (ad.add j)).trans (hc j (by rw [H.out.1]; exact hlt))
        have k2 := (hcells (ad'.add j)).trans (hc' j (by rw [H'.out.1]; exact hlt))
        obtain ⟨z, hz⟩ : ∃ z, z = zs.getD j 0 := ⟨_, rfl⟩
        obtain ⟨y, hy⟩ : ∃ y, y = ys.getD j 0 := ⟨_, rfl⟩
        rw [← hz] at k1
        rw [← hy] at k2
        have HC := Lib.hid hcells
        clear hc hc' hcells
        by_cases e : z = y
        · have HE2 : Hid (∀ m, m < j + 1 → zs.getD m 0 = ys.getD m 0) := Lib.hid (fun m hm => by
            by_cases e2 : m = j
            · subst e2; rw [← hz, ← hy, e]
            · exact HE.out m (by omega))
          have t0 : (z != y) = false := by rw [e]; simp
          clear hz hy e HE
          go_wp2_with fail
          go_quiet (fail)
          go_wp2_with fail
          go_roundw
          case rel => exact ⟨j + 1, by omega, by go_num, ⟨hbel.os, hbel.tape, hbel.output, hbel.size, hbel.block⟩, HC.out, HE2⟩
          case measure => simp [intOf]; omega
        · have HF : Hid (eqI zs ys = false) := Lib.hid (eqI_at (j := j) (by rw [← hz, ← hy]; exact e))
          have t0 : (z != y) = true := by rw [bne_iff_ne]; exact e
          clear hz hy e HE
          go_wp2_with fail
          go_quiet (fail)
          go_wp2_with fail
          go_ret
          exact ⟨bool_ret6 HF.out.symm, ⟨hbel.os, hbel.tape, hbel.output, hbel.size, hbel.block⟩⟩
      · have HC := Lib.hid hcells
        have HF : Hid (eqI zs ys = true) := Lib.hid (eqI_all (by rw [H.out.1, H'.out.1]) (fun m hm => HE.out m (by rw [H.out.1] at hm; omega)))
        clear hcells
        go_wp2_with fail
        go_ret
        exact ⟨bool_ret6 HF.out.symm, hbel⟩
  · have HF : Hid (eqI zs ys = false) := Lib.hid (eqI_len (by rw [H.out.1, H'.out.1]; exact hl))
    have t0 : ((n : Int) != (n' : Int)) = true := by rw [bne_iff_ne]; omega
    clear hl
    go_enter Try.func27, Try.ntmps27
    go_wp2_with fail
    go_ret
    exact ⟨bool_ret6 HF.out.symm, Below.refl _ _⟩

end Go.Proofs.Ytdolmhnajofkoaa
