/- Contracts of alpha's formOf, isTextByte, announced, Codes, Cost, Text and slices.Equal at []int. -/
import Derived.Test.YtpfkkmjodhpkoaaDoorAlpR
import Derived.Test.YtpfkkmjodhpkoaaDoorTells
import Derived.Laws.RangeString
import Derived.Laws.RangeAny
import Derived.Laws.CopyOwn
import Derived.Test.YtpfkkmjodhpkoaaDoorLower
import Derived.Deep.QuietTactic
import Derived.BigQuiet
namespace Go.Proofs.YtpfkkmjodhpkoaaDoor
open Go.RowKit
set_option linter.unusedVariables false

/-- the codes of a byte as three numbers -/
def c3 (c : UInt8) (k : Nat) : Int := (oneL c).getD k 0
/-- the codes of a byte as a value -/
def formV (c : UInt8) : Value := .agg #[.int .i64 (c3 c 0), .int .i64 (c3 c 1), .int .i64 (c3 c 2), .int .i64 (oneL c).length]

theorem formV_of {c : UInt8} {a b d n : Int} {l : List Int} (h : oneL c = l) (h0 : l.getD 0 0 = a) (h1 : l.getD 1 0 = b) (h2 : l.getD 2 0 = d) (hn : (l.length : Int) = n) :
    formV c = .agg #[.int .i64 a, .int .i64 b, .int .i64 d, .int .i64 n] := by
  unfold formV c3
  rw [h, h0, h1, h2, hn]

theorem form_size : (Tryd.prog.info? 68).map (·.size) = some 4 := by kernel_rfl

theorem four_one (a b c d : Int) : (#[Value.int .i64 a, .int .i64 b, .int .i64 c, .int .i64 d]).all (·.oneCell') = true := by simp [Value.oneCell']

/-- a struct of four cells, stored into a row of the call's own and handed back -/
theorem form_done {w W : World} {g : Nat} {cs : Array Value} (hb : Below w.heap.size w W) (hg : Blk W g 68 cs) (hl : w.heap.size ≤ g) (ds : Array Value) :
    (W.setRow g ds).heap[g]? = some (.cells ds 68 (0, 0)) ∧ Below w.heap.size w (W.setRow g ds) :=
  ⟨setRow_heap W g cs ds _ _ hg, below_setRow hb hl ds⟩

/-- the symbols as the program holds them -/
def sgB : ByteArray := ⟨#[48, 49, 50, 51, 52, 53, 54, 55, 56, 57, 46, 44, 33, 63, 39, 34, 45, 58, 59, 40, 41, 47, 38, 42, 43, 61, 37, 35, 36, 10, 60]⟩
theorem sgB_at {j : Nat} (h : j < sgB.size) : sgL[j]?.getD 0 = sgB[j] := byte_at sgB j h
theorem sgB_low : ∀ j < 31, (sgL[j]?.getD 0).toNat < 128 := by decide

set_option maxRecDepth 100000 in
set_option maxHeartbeats 1600000 in
theorem formOf_any (w : World) (c : UInt8) : Calls Tryd.prog 38 #[.int .u8 (c.toNat : Int)] w fun e w' => e = .returned (formV c) ∧ Below w.heap.size w w' := by
  have hc := c.toNat_lt
  by_cases a0 : (c.toNat : Int) = 32
  · have HV := Lib.hid (one_sp a0)
    have t0 : ((c.toNat : Int) == 32) = true := by simpa using a0
    clear a0
    go_enter Tryd.func38, Tryd.ntmps38
    go_wp2_with fail
    (try simp only [Exit.inBlock, Exit.then]); refine bodyPost_ret (results_cell_row rfl _ _ _ _ _ _ _ rfl (heap_alloc_new _ _) Tryd.underlying68 rfl (by kernel_rfl)) rfl ?_
    exact ⟨congrArg Ending.returned (formV_of HV.out rfl rfl rfl rfl).symm, (Below.refl _ _).alloc (Nat.le_refl _) _⟩
  · have t0 : ((c.toNat : Int) == 32) = false := by simpa using a0
    by_cases a1 : isSm c = true
    · have HV := Lib.hid (one_sm a0 a1)
      have b1 : 97 ≤ (c.toNat : Int) ∧ (c.toNat : Int) ≤ 122 := by simp [isSm] at a1; omega
      obtain ⟨b1, b2⟩ := b1
      clear a0 a1
      go_enter Tryd.func38, Tryd.ntmps38
      go_wp2_with fail
      (try simp only [Exit.inBlock, Exit.then]); refine bodyPost_ret (results_cell_row rfl _ _ _ _ _ _ _ rfl (heap_alloc_new _ _) Tryd.underlying68 rfl (by kernel_rfl)) rfl ?_
      exact ⟨congrArg Ending.returned (formV_of HV.out (by simp; omega) rfl rfl rfl).symm, (Below.refl _ _).alloc (Nat.le_refl _) _⟩
    · rw [Bool.not_eq_true] at a1
      have b1 : decide (97 ≤ (c.toNat : Int)) = false ∨ decide (97 ≤ (c.toNat : Int)) = true ∧ decide ((c.toNat : Int) ≤ 122) = false := by simp [isSm] at a1 ⊢; omega
      by_cases a2 : isCp c = true
      · have HV := Lib.hid (one_cp a0 a1 a2)
        have b2 : 65 ≤ (c.toNat : Int) ∧ (c.toNat : Int) ≤ 90 := by simp [isCp] at a2; omega
        obtain ⟨b2, b3⟩ := b2
        clear a0 a1 a2
        rcases b1 with b1 | ⟨b1, b1'⟩
        all_goals
          go_enter Tryd.func38, Tryd.ntmps38
          go_wp2_with fail
          (try simp only [Exit.inBlock, Exit.then]); refine bodyPost_ret (results_cell_row rfl _ _ _ _ _ _ _ rfl (heap_alloc_new _ _) Tryd.underlying68 rfl (by kernel_rfl)) rfl ?_
          exact ⟨congrArg Ending.returned (formV_of HV.out rfl (by simp; omega) rfl rfl).symm, (Below.refl _ _).alloc (Nat.le_refl _) _⟩
      · rw [Bool.not_eq_true] at a2
        have b2 : decide (65 ≤ (c.toNat : Int)) = false ∨ decide (65 ≤ (c.toNat : Int)) = true ∧ decide ((c.toNat : Int) ≤ 90) = false := by simp [isCp] at a2 ⊢; omega
        have HS : Hid (∀ j : Nat, j < 31 → sgL[j]?.getD 0 = c → oneL c = [28, (j : Int)]) := Lib.hid (fun j hj h => by
          have e := signI_at hj h
          rw [one_sg a0 a1 a2 (by omega), e])
        have HN : Hid ((∀ m : Nat, m < 31 → sgL[m]?.getD 0 ≠ c) → oneL c = [29, (c.toNat : Int) / 16, (c.toNat : Int) % 16]) := Lib.hid (fun h => one_by a0 a1 a2 (by rw [signI_no h]; omega))
        clear a0 a1 a2
        have hwr : IntKind.i32.wrap (c.toNat : Int) = (c.toNat : Int) := wraps_i32 _ (by omega) (by omega)
        rcases b1 with b1 | ⟨b1, b1'⟩ <;> rcases b2 with b2 | ⟨b2, b2'⟩
        all_goals
          go_enter Tryd.func38, Tryd.ntmps38
          go_wp2_with fail
          go_loopw [3] (fun _ wr => ∃ j : Nat, j ≤ 31 ∧ wr = (w.alloc (.cells #[.int .i64 0, .int .i64 0, .int .i64 0, .int .i64 0] 68)).iter sgB j ∧ Hid (∀ m, m < j → sgL[m]?.getD 0 ≠ c)) (fun _ wr => 31 - wr.iterPos (w.heap.size + 1))
          case atStart => exact ⟨0, by omega, rfl, Lib.hid (fun m hm => absurd hm (by omega))⟩
          case round =>
            obtain ⟨j, hj, rfl, HM⟩ := hrel
            have hz : (w.alloc (.cells #[.int .i64 0, .int .i64 0, .int .i64 0, .int .i64 0] 68)).heap.size = w.heap.size + 1 := by simp
            have hblk := Blk.new w 68 #[.int .i64 0, .int .i64 0, .int .i64 0, .int .i64 0]
            have hbl : Below w.heap.size w (w.alloc (.cells #[.int .i64 0, .int .i64 0, .int .i64 0, .int .i64 0] 68)) := (Below.refl _ _).alloc (Nat.le_refl _) _
            generalize w.alloc (.cells #[.int .i64 0, .int .i64 0, .int .i64 0, .int .i64 0] 68) = W at *
            by_cases hlt : j < 31
            · have hsz : j < sgB.size := hlt
              have hat := sgB_at hsz
              have hlow := sgB_low j hlt
              rw [hat] at hlow
              have hnx : ∀ ty, (Instr.next (.pointer (some ⟨w.heap.size + 1, 0, none⟩)) true ty).run Tryd.prog (W.iter sgB j) = .ok (.tuple #[.bool true, .int .i64 j, .int .i32 (sgB[j]'hsz).toNat]) (W.iter sgB (j + 1)) := fun ty => by rw [← hz]; exact run_next_ascii W sgB j ty hsz hlow
              obtain ⟨x, hx⟩ : ∃ x, x = sgB[j]'hsz := ⟨_, rfl⟩
              rw [← hx] at hat hnx hlow
              clear hx
              by_cases h : x = c
              · have HF := Lib.hid (HS.out j hlt (hat.trans h))
                subst h
                clear hat
                have hg : Blk (W.iter sgB (j + 1)) w.heap.size _ _ := hblk.alloc _
                have hb : Below w.heap.size w (W.iter sgB (j + 1)) := hbl.alloc (by rw [hz]; omega) _
                go_wp2_with (refine wpList_store_row rfl 68 _ _ rfl w.heap.size #[.int .i64 28, .int .i64 j, .int .i64 0, .int .i64 2] rfl rfl _ _ hg form_size rfl (four_one _ _ _ _) ?_)
                obtain ⟨e1, e2⟩ := form_done hb hg (Nat.le_refl _) #[.int .i64 28, .int .i64 j, .int .i64 0, .int .i64 2]
                (try simp only [Exit.inBlock, Exit.then]); refine bodyPost_ret (results_cell_row rfl _ _ _ _ _ _ _ rfl e1 Tryd.underlying68 rfl (by kernel_rfl)) rfl ?_
                exact ⟨congrArg Ending.returned (formV_of HF.out rfl rfl rfl rfl).symm, e2⟩
              · have t1 : ((x.toNat : Int) == (c.toNat : Int)) = false := by
                  rw [beq_eq_false_iff_ne]
                  intro e
                  exact h (UInt8.toNat_inj.1 (Int.ofNat_inj.1 e))
                have HM2 : Hid (∀ m, m < j + 1 → sgL[m]?.getD 0 ≠ c) := Lib.hid (fun m hm => by
                  by_cases e : m = j
                  · subst e; rw [hat]; exact h
                  · exact HM.out m (by omega))
                clear hat h
                go_wp2_with fail
                go_roundw
                case rel => exact ⟨j + 1, by omega, rfl, HM2⟩
                case measure => rw [← hz]; simp; omega
            · obtain rfl : j = 31 := by omega
              have hnx : ∀ ty, (Instr.next (.pointer (some ⟨w.heap.size + 1, 0, none⟩)) true ty).run Tryd.prog (W.iter sgB 31) = .ok (.tuple #[.bool false]) (W.iter sgB 31) := fun ty => by rw [← hz]; exact run_next_end W sgB 31 ty (by decide)
              have HF := Lib.hid (HN.out HM.out)
              have hg : Blk (W.iter sgB 31) w.heap.size _ _ := hblk.alloc _
              have hb : Below w.heap.size w (W.iter sgB 31) := hbl.alloc (by rw [hz]; omega) _
              go_wp2_with (refine wpList_store_row rfl 68 _ _ rfl w.heap.size #[.int .i64 29, .int .i64 ((c.toNat : Int) / 16), .int .i64 ((c.toNat : Int) % 16), .int .i64 3] rfl rfl _ _ hg form_size rfl (four_one _ _ _ _) ?_)
              (try simp only [Exit.inBlock, Exit.then]); refine bodyPost_ret (results_cell_row rfl _ _ _ _ _ _ _ rfl (setRow_heap _ _ _ _ _ _ hg) Tryd.underlying68 rfl (by kernel_rfl)) rfl ?_
              exact ⟨congrArg Ending.returned (formV_of HF.out rfl rfl rfl rfl).symm, below_setRow hb (Nat.le_refl _) _⟩

theorem textB_one (c : UInt8) : textB [c] = isTx c := by
  unfold textB
  simp

set_option maxRecDepth 100000 in
set_option maxHeartbeats 800000 in
theorem isTextByte_any (w : World) (c : UInt8) : Calls Tryd.prog 37 #[.int .u8 (c.toNat : Int)] w fun e w' => e = .returned (.bool (isTx c)) ∧ Below w.heap.size w w' := by
  have hcv := Rd.toStr (P := Tryd.prog) (Rd.one w c 5) 26 9 5 1 Tryd.underlying26 Tryd.underlying5 Tryd.underlying9
  go_enter Tryd.func37, Tryd.ntmps37
  go_wp2_with fail
  refine (isText_any _ (bs [c]) (by rw [bs_size]; simp)).mono ?_
  rintro e w1 ⟨rfl, hb1⟩
  rw [data_bs, textB_one]
  go_wp2_with fail
  go_ret
  exact ⟨rfl, ((Below.refl _ _).alloc (Nat.le_refl _) _).trans (hb1.mono (by simp))⟩

/-- the symbol with that index; 0 if there is none -/
def sgAt (z : Int) : UInt8 := if z < 0 ∨ 31 ≤ z then 0 else sgL[z.toNat]?.getD 0

set_option maxRecDepth 100000 in
set_option maxHeartbeats 800000 in
theorem symbolWith_any (w : World) (z : Int) : Calls Tryd.prog 87 #[.int .i64 z] w fun e w' => e = .returned (.int .u8 ((sgAt z).toNat : Int)) ∧ w = w' := by
  by_cases h0 : z < 0
  · have e : sgAt z = 0 := by unfold sgAt; rw [if_pos (.inl h0)]
    rw [e]
    clear e
    go_enter Tryd.func87, Tryd.ntmps87
    go_wp2_with fail
    go_ret
    exact ⟨rfl, rfl⟩
  · by_cases h1 : 31 ≤ z
    · have e : sgAt z = 0 := by unfold sgAt; rw [if_pos (.inr h1)]
      rw [e]
      clear e
      go_enter Tryd.func87, Tryd.ntmps87
      go_wp2_with fail
      go_ret
      exact ⟨rfl, rfl⟩
    · obtain ⟨j, rfl⟩ : ∃ j : Nat, z = j := ⟨z.toNat, by omega⟩
      have hj : j < 31 := by omega
      have hsz : j < sgB.size := hj
      have e : sgAt (j : Int) = sgB[j] := by unfold sgAt; rw [if_neg (by omega), Int.toNat_natCast]; exact sgB_at hsz
      rw [e]
      have hsz2 : ((⟨#[48, 49, 50, 51, 52, 53, 54, 55, 56, 57, 46, 44, 33, 63, 39, 34, 45, 58, 59, 40, 41, 47, 38, 42, 43, 61, 37, 35, 36, 10, 60]⟩ : ByteArray).size) = 31 := rfl
      clear e h0
      go_enter Tryd.func87, Tryd.ntmps87
      go_wp2_with fail
      go_ret
      exact ⟨rfl, rfl⟩

set_option maxRecDepth 100000 in
set_option maxHeartbeats 800000 in
theorem follow_any (w : World) (B g : Nat) (A : Option Addr) (n c i : Nat) (z : Int) (zs : List Int) (h : RdI w B A n zs) (hg : w.cell? ⟨g, 0, none⟩ = some (.slice A n c)) (hz : z = i) (hn : (n : Int) ≤ 1000000) :
    Calls Tryd.prog 86 #[.int .i64 z, .pointer (some ⟨g, 0, none⟩)] w fun e w' => e = .returned (.int .i64 (zs.getD i 0)) ∧ w = w' := by
  subst hz
  by_cases hlt : i < n
  · obtain ⟨ad, rfl, _, hc⟩ := h.2.1 (by omega)
    have k1 := hc i (by rw [h.1]; exact hlt)
    obtain ⟨y, hy⟩ : ∃ y, y = zs.getD i 0 := ⟨_, rfl⟩
    rw [← hy] at k1 ⊢
    clear hy hc h
    go_enter Tryd.func86, Tryd.ntmps86
    go_wp2_with fail
    go_ret
    exact ⟨rfl, rfl⟩
  · have e : zs.getD i 0 = 0 := by rw [List.getD, List.getElem?_eq_none (by rw [h.1]; omega)]; rfl
    rw [e]
    clear e h
    go_enter Tryd.func86, Tryd.ntmps86
    go_wp2_with fail
    go_ret
    exact ⟨rfl, rfl⟩

/-- the byte that numbers announce, and how many of them tell it -/
def annC (zs : List Int) : UInt8 :=
  if zs.getD 0 0 = 0 then 32 else if zs.getD 0 0 = 27 then byt (64 + zs.getD 1 0) else if zs.getD 0 0 = 28 then sgAt (zs.getD 1 0)
  else if zs.getD 0 0 = 29 then byt (zs.getD 1 0 * 16 + zs.getD 2 0) else byt (96 + zs.getD 0 0)
def annN (zs : List Int) : Nat :=
  if zs.getD 0 0 = 0 then 1 else if zs.getD 0 0 = 27 then 2 else if zs.getD 0 0 = 28 then 2 else if zs.getD 0 0 = 29 then 3 else 1

theorem annN_pos (zs : List Int) : 1 ≤ annN zs ∧ annN zs ≤ 3 := by unfold annN; repeat' split
                                                                   all_goals omega

theorem ann_one (c : UInt8) (r : List Int) : annC (oneL c ++ r) = c ∧ annN (oneL c ++ r) = (oneL c).length := by
  have hc := c.toNat_lt
  have hby : ∀ x : Int, x = c.toNat → byt x = c := fun x hx => by rw [hx, byt_byte]
  unfold oneL annC annN
  split
  · rename_i h
    refine ⟨?_, rfl⟩
    simp
    exact UInt8.toNat_inj.1 (by rw [h]; rfl)
  · split
    · rename_i h0 h
      simp [isSm] at h
      have h1 : ¬ (c.toNat : Int) - 96 = 0 := by omega
      have h2 : ¬ (c.toNat : Int) - 96 = 27 := by omega
      have h3 : ¬ (c.toNat : Int) - 96 = 28 := by omega
      have h4 : ¬ (c.toNat : Int) - 96 = 29 := by omega
      simp only [List.cons_append, List.nil_append, List.getD_cons_zero, if_neg h1, if_neg h2, if_neg h3, if_neg h4]
      exact ⟨hby _ (by omega), rfl⟩
    · split
      · refine ⟨?_, rfl⟩
        simp
        exact hby _ (by omega)
      · split
        · rename_i h
          refine ⟨?_, rfl⟩
          have hl : sgL.idxOf c < sgL.length := h
          have e : sgL[sgL.idxOf c] = c := List.getElem_idxOf hl
          simp
          unfold sgAt
          rw [if_neg (by omega), Int.toNat_natCast, List.getElem?_eq_getElem hl, e]
          rfl
        · refine ⟨?_, rfl⟩
          simp
          exact hby _ (by omega)

theorem ann_ret {zs : List Int} {c : UInt8} {n : Nat} {x y : Int} (hc : annC zs = c) (hn : annN zs = n) (hx : (c.toNat : Int) = x) (hy : (n : Int) = y) :
    Ending.returned (.tuple #[.int .u8 x, .int .i64 y]) = .returned (.tuple #[.int .u8 ((annC zs).toNat : Int), .int .i64 (annN zs : Nat)]) := by
  rw [hc, hn, hx, hy]

set_option maxRecDepth 100000 in
set_option maxHeartbeats 1600000 in
theorem announced_any (w : World) (B : Nat) (A : Option Addr) (n c : Nat) (zs : List Int) (h : RdI w B A n zs) (hB : B ≤ w.heap.size) (h0 : 0 < n) (hn : (n : Int) ≤ 1000000) :
    Calls Tryd.prog 82 #[.slice A n c] w fun e w' => e = .returned (.tuple #[.int .u8 ((annC zs).toNat : Int), .int .i64 (annN zs : Nat)]) ∧ Below w.heap.size w w' := by
  have hmf : ∀ (fn : Fn) (first cap : Array Value) (w : World), (Instr.makeFunc fn first cap).run Tryd.prog w = .ok (.func fn first cap) w := fun _ _ _ _ => rfl
  have hke : Enters 86 := ⟨_, Tryd.func86, by kernel_rfl, by kernel_rfl⟩
  have hk := hke.run
  clear hke
  have hb := (Below.refl w.heap.size w).alloc (Nat.le_refl _) (.cells #[.slice A n c] 25)
  have H := Lib.hid (RdI.alloc h hB (.cells #[.slice A n c] 25))
  have hg := new_cell w 25 (.slice A n c)
  have HB := Lib.hid hb
  have HG := Lib.hid hg
  obtain ⟨ad, rfl, hab, hc⟩ := H.out.2.1 h0
  have k0 := hc 0 (by rw [H.out.1]; exact h0)
  rw [show ad.add 0 = ad from by simp [Addr.add]] at k0
  obtain ⟨x, hx⟩ : ∃ x, x = zs.getD 0 0 := ⟨_, rfl⟩
  obtain ⟨f1, hf1⟩ : ∃ x, x = zs.getD 1 0 := ⟨_, rfl⟩
  obtain ⟨f2, hf2⟩ : ∃ x, x = zs.getD 2 0 := ⟨_, rfl⟩
  rw [← hx] at k0
  have hxr := H.out.2.2 0
  rw [← hx] at hxr
  obtain ⟨hx1, hx2⟩ := hxr
  have HX := Lib.hid hx.symm
  have HF1 := Lib.hid hf1.symm
  have HF2 := Lib.hid hf2.symm
  clear hc hb h hx hf1 hf2
  by_cases a0 : x = 0
  · have HC : Hid (annC zs = 32 ∧ annN zs = 1) := Lib.hid (by unfold annC annN; rw [HX.out, if_pos a0, if_pos a0]; exact ⟨rfl, rfl⟩)
    subst a0
    go_enter Tryd.func82, Tryd.ntmps82
    go_wp2_with fail
    go_ret2
    exact ⟨ann_ret HC.out.1 HC.out.2 rfl rfl, HB.out⟩
  · have t0 : (x == 0) = false := by simpa using a0
    by_cases a1 : x = 27
    · have HC : Hid (annC zs = byt (64 + f1) ∧ annN zs = 2) := Lib.hid (by unfold annC annN; rw [HX.out, HF1.out, if_neg a0, if_neg a0, if_pos a1, if_pos a1]; exact ⟨rfl, rfl⟩)
      subst a1
      clear a0 t0
      go_enter Tryd.func82, Tryd.ntmps82
      go_wp2_with fail
      refine (follow_any _ B _ _ n c 1 1 zs H.out HG.out rfl hn).mono ?_
      rintro e w1 ⟨rfl, rfl⟩
      rw [HF1.out]
      go_wp2_with fail
      go_ret2
      refine ⟨ann_ret HC.out.1 HC.out.2 ?_ rfl, HB.out⟩
      rw [byt_val]; unfold wrap64; omega
    · have t1 : (x == 27) = false := by simpa using a1
      by_cases a2 : x = 28
      · have HC : Hid (annC zs = sgAt f1 ∧ annN zs = 2) := Lib.hid (by unfold annC annN; rw [HX.out, HF1.out, if_neg a0, if_neg a0, if_neg a1, if_neg a1, if_pos a2, if_pos a2]; exact ⟨rfl, rfl⟩)
        subst a2
        clear a0 t0 a1 t1
        go_enter Tryd.func82, Tryd.ntmps82
        go_wp2_with fail
        refine (follow_any _ B _ _ n c 1 1 zs H.out HG.out rfl hn).mono ?_
        rintro e w1 ⟨rfl, rfl⟩
        rw [HF1.out]
        go_wp2_with fail
        refine (symbolWith_any _ f1).mono ?_
        rintro e w1 ⟨rfl, rfl⟩
        go_wp2_with fail
        go_ret2
        exact ⟨ann_ret HC.out.1 HC.out.2 rfl rfl, HB.out⟩
      · have t2 : (x == 28) = false := by simpa using a2
        by_cases a3 : x = 29
        · have HC : Hid (annC zs = byt (f1 * 16 + f2) ∧ annN zs = 3) := Lib.hid (by unfold annC annN; rw [HX.out, HF1.out, HF2.out, if_neg a0, if_neg a0, if_neg a1, if_neg a1, if_neg a2, if_neg a2, if_pos a3, if_pos a3]; exact ⟨rfl, rfl⟩)
          subst a3
          clear a0 t0 a1 t1 a2 t2
          go_enter Tryd.func82, Tryd.ntmps82
          go_wp2_with fail
          refine (follow_any _ B _ _ n c 1 1 zs H.out HG.out rfl hn).mono ?_
          rintro e w1 ⟨rfl, rfl⟩
          rw [HF1.out]
          go_wp2_with fail
          refine (follow_any _ B _ _ n c 2 2 zs H.out HG.out rfl hn).mono ?_
          rintro e w1 ⟨rfl, rfl⟩
          rw [HF2.out]
          go_wp2_with fail
          go_ret2
          refine ⟨ann_ret HC.out.1 HC.out.2 ?_ rfl, HB.out⟩
          rw [byt_val]; unfold wrap64; omega
        · have t3 : (x == 29) = false := by simpa using a3
          have HC : Hid (annC zs = byt (96 + x) ∧ annN zs = 1) := Lib.hid (by unfold annC annN; rw [HX.out, if_neg a0, if_neg a0, if_neg a1, if_neg a1, if_neg a2, if_neg a2, if_neg a3, if_neg a3]; exact ⟨rfl, rfl⟩)
          clear a0 a1 a2 a3
          go_enter Tryd.func82, Tryd.ntmps82
          go_wp2_with fail
          go_ret2
          refine ⟨ann_ret HC.out.1 HC.out.2 ?_ rfl, HB.out⟩
          rw [byt_val]; unfold wrap64; omega

theorem field_len (a b c d : Value) (W : World) : (Instr.field 68 (.agg #[a, b, c, d]) 1).run Tryd.prog W = .ok d W := by kernel_rfl

/-- an array's first m elements as a slice -/
theorem slice3 (W : World) (k m : Nat) (hm : m ≤ 3) : (Instr.sliceAt 66 (.pointer (some ⟨k, 0, none⟩)) none (some (.int .i64 m)) none).run Tryd.prog W = .ok (.slice (some ⟨k, 0, none⟩) m 3) W := by
  obtain ⟨i0, hi, _, hsz, _⟩ := inf_parts Tryd.inf_int
  have e3 : Tryd.prog.arrayLen 66 = 3 := by kernel_rfl
  have ee : Tryd.prog.elem 66 = 3 := by kernel_rfl
  have ht : Tryd.prog.underlying 66 = some (.array (Tryd.prog.arrayLen 66) (Tryd.prog.elem 66)) := by kernel_rfl
  rw [run_sliceAt_array_h W _ _ ht _ _ (by omega) (by rw [e3]; omega), ee, e3]
  simp [sizeOf, typeInfo, hi, hsz, slicedAt, Addr.add]

/-- a value of ints as a row that reads -/
theorem rd_form (w : World) (c : UInt8) (k : Nat) (hk : k = w.heap.size) (t : TypeId) (a b d n : Int) (ha : c3 c 0 = a) (hb : c3 c 1 = b) (hd : c3 c 2 = d) :
    RdI (w.alloc (.cells #[.int .i64 a, .int .i64 b, .int .i64 d, .int .i64 n] t)) (k + 1) (some ⟨k, 0, none⟩) (oneL c).length (oneL c) := by
  subst hk ha hb hd
  refine ⟨rfl, fun _ => ⟨_, rfl, Nat.lt_succ_self _, fun j hj => ?_⟩, oneL_fit c⟩
  rw [Addr.add_lit, Nat.zero_add, (Blk.new w t _).cell]
  have h3 := (oneL_len c).2
  rcases (by omega : j = 0 ∨ j = 1 ∨ j = 2) with rfl | rfl | rfl <;> rfl

set_option maxRecDepth 100000 in
set_option maxHeartbeats 3200000 in
theorem codes_any (w : World) (s : ByteArray) (hs : (s.size : Int) ≤ 100000) :
    Calls Tryd.prog 45 #[.string s] w (OutIE w.heap.size 3 w (cdZ s.data.toList) (cdE s.data.toList)) := by
  obtain ⟨i0, hi, hz0, hsz, hby⟩ := inf_parts Tryd.inf_int
  have HI := Lib.hid hi
  have HZ0 := Lib.hid hz0
  have HSZ := Lib.hid hsz
  have HBY := Lib.hid hby
  clear hi hz0 hsz hby
  by_cases ht : textB s.data.toList = true
  · have e1 : cdZ s.data.toList = codes s.data.toList := by unfold cdZ; rw [if_pos ht]
    have e2 : cdE s.data.toList = 0 := by unfold cdE; rw [if_pos ht]
    rw [e1, e2]
    have HT := Lib.hid ht
    clear e1 e2 ht
    go_enter Tryd.func45, Tryd.ntmps45
    go_wp2_with fail
    refine (isText_any w s (by omega)).mono ?_
    rintro e w1 ⟨rfl, hb1⟩
    rw [HT.out]
    have HB1 := Lib.hid hb1
    obtain ⟨cc, w2, hcv, hb2, hz2, hbuf⟩ := conv_bytes w1 s
    obtain ⟨g, hg⟩ : ∃ g, g = w1.heap.size := ⟨_, rfl⟩
    rw [← hg] at hcv hbuf
    have HB2 : Hid (Below w.heap.size w w2) := Lib.hid (hb1.trans (hb2.mono hb1.size))
    have HBUF := Lib.hid hbuf
    have HGL : Hid (g < w2.heap.size) := Lib.hid (by omega)
    clear hb1 hb2 hz2 hbuf hg
    go_wp2_with fail
    go_loopw [4, 14] (fun v i wr => ∃ (A : Option Addr) (n c j : Nat), j ≤ s.size ∧ i = .int .i64 j ∧ v = .slice A n c ∧ Hid (wr.ownsRow w2.heap.size 3 1 (.slice A n c) n (iv (codes (s.data.toList.take j)))) ∧ Hid (Below w2.heap.size w2 wr)) (fun _ i _ => s.size - (intOf i).toNat)
    case atStart => exact ⟨none, 0, 0, 0, Nat.zero_le _, rfl, rfl, Lib.hid (ownI_nil _ _ _), Lib.hid (Below.refl _ _)⟩
    case round =>
      obtain ⟨A, n, c, j, hj, rfl, rfl, HO, HB⟩ := hrel
      by_cases hlt : j < s.size
      · have hl : s.data.toList.length = s.size := by rw [Array.length_toList]; rfl
        have hcell := ((HBUF.out.below HB.out HGL.out).2 j (by omega)).1
        rw [byte_at s j hlt] at hcell
        have HCT := Lib.hid (codes_take hlt)
        obtain ⟨x, hx⟩ : ∃ x, x = s[j]'hlt := ⟨_, rfl⟩
        rw [← hx] at hcell HCT
        have hn : n ≤ 300000 := by
          have h1 := ownI_len HO.out
          have h2 := codes_len (s.data.toList.take j)
          rw [List.length_take] at h2
          omega
        clear hx hl hcv
        go_wp2_with fail
        refine (formOf_any wr x).mono ?_
        rintro e w3 ⟨rfl, hb3⟩
        unfold formV
        have hm := oneL_len x
        have hb3' := hb3.mono HB.out.size
        have HO3 := Lib.hid (own_below HO.out hb3)
        have HB3 := Lib.hid (HB.out.trans hb3')
        clear hb3 hb3' hcell
        obtain ⟨a, ha⟩ : ∃ a, a = c3 x 0 := ⟨_, rfl⟩
        obtain ⟨b, hb⟩ : ∃ a, a = c3 x 1 := ⟨_, rfl⟩
        obtain ⟨d, hd⟩ : ∃ a, a = c3 x 2 := ⟨_, rfl⟩
        obtain ⟨m, hm2⟩ : ∃ m, m = (oneL x).length := ⟨_, rfl⟩
        have hrd := rd_form w3 x w3.heap.size rfl 68 a b d m ha.symm hb.symm hd.symm
        rw [← ha, ← hb, ← hd, ← hm2]
        rw [← hm2] at hm hrd
        have HRD := Lib.hid hrd
        obtain ⟨hm0, hm3⟩ := hm
        have hsz2 := HB3.out.size
        have hsl : ∀ W : World, (Instr.sliceAt 66 (.pointer (some ⟨w3.heap.size, 0, none⟩)) none (some (.int .i64 m)) none).run Tryd.prog W = .ok (.slice (some ⟨w3.heap.size, 0, none⟩) m 3) W := fun W => slice3 W _ m hm3
        clear ha hb hd hm2 hrd
        go_wp2_with (at_builtin; refine wpList_appI _ rfl _ _ 25 rfl w2.heap.size 3 i0 Tryd.underlying25 HI.out HZ0.out HSZ.out HBY.out _ n _ rfl (HO3.out.alloc _) _ _ m 3 _ rfl HRD.out (by omega) (by simp; omega) ?_; intro A3 c3 w8 hown2 hg2 hw2)
        have HO4 := Lib.hid hown2
        have HB4 := Lib.hid (app_below HO3.out HB3.out hg2)
        clear hown2 hg2 hw2 hsl
        go_roundw
        case rel => exact ⟨A3, n + m, c3, j + 1, by omega, by go_num, rfl, Lib.hid (by rw [HCT.out]; exact HO4.out), HB4⟩
        case measure => simp [intOf]; omega
      · have HE : Hid (s.data.toList.take j = s.data.toList) := Lib.hid (List.take_of_length_le (by rw [Array.length_toList]; show s.size ≤ j; omega))
        go_wp2_with fail
        go_ret2
        refine ⟨A, n, c, rfl, ?_, HB2.out.trans (HB.out.mono HB2.out.size)⟩
        have h := HO.out
        rw [HE.out] at h
        exact own_base h HB2.out.size
  · rw [Bool.not_eq_true] at ht
    have e1 : cdZ s.data.toList = [] := by unfold cdZ; rw [ht]; rfl
    have e2 : cdE s.data.toList = 13 := by unfold cdE; rw [ht]; rfl
    rw [e1, e2]
    have HT := Lib.hid ht
    clear e1 e2 ht
    go_enter Tryd.func45, Tryd.ntmps45
    go_wp2_with fail
    refine (isText_any w s (by omega)).mono ?_
    rintro e w1 ⟨rfl, hb1⟩
    rw [HT.out]
    go_wp2_with fail
    go_ret2
    exact ⟨none, 0, 0, rfl, ownI_nil _ _ _, hb1⟩

set_option maxRecDepth 100000 in
set_option maxHeartbeats 3200000 in
theorem cost_any (w : World) (s : ByteArray) (hs : (s.size : Int) ≤ 100000) :
    Calls Tryd.prog 20 #[.string s] w fun e w' => e = .returned (.int .i64 (costL s.data.toList : Nat)) ∧ Below w.heap.size w w' := by
  obtain ⟨cc, w2, hcv, hb2, hz2, hbuf⟩ := conv_bytes w s
  obtain ⟨g, hg⟩ : ∃ g, g = w.heap.size := ⟨_, rfl⟩
  rw [← hg] at hcv hbuf
  have HB2 := Lib.hid hb2
  have HBUF := Lib.hid hbuf
  have HGL : Hid (g < w2.heap.size) := Lib.hid (by omega)
  clear hb2 hz2 hbuf hg
  go_enter Tryd.func20, Tryd.ntmps20
  go_wp2_with fail
  go_loopw [3, 9] (fun v i wr => ∃ (j q : Nat), j ≤ s.size ∧ i = .int .i64 j ∧ v = .int .i64 q ∧ Hid (q = costL (s.data.toList.take j)) ∧ Hid (Below w2.heap.size w2 wr)) (fun _ i _ => s.size - (intOf i).toNat)
  case atStart => exact ⟨0, 0, Nat.zero_le _, rfl, rfl, Lib.hid rfl, Lib.hid (Below.refl _ _)⟩
  case round =>
    obtain ⟨j, q, hj, rfl, rfl, HQ, HB⟩ := hrel
    by_cases hlt : j < s.size
    · have hl : s.data.toList.length = s.size := by rw [Array.length_toList]; rfl
      have hcell := ((HBUF.out.below HB.out HGL.out).2 j (by omega)).1
      rw [byte_at s j hlt] at hcell
      have HC := Lib.hid (cost_take hlt)
      obtain ⟨x, hx⟩ : ∃ x, x = s[j]'hlt := ⟨_, rfl⟩
      rw [← hx] at hcell HC
      have hq : q ≤ 300000 := by
        have h1 := HQ.out
        have h2 := costL_le (s.data.toList.take j)
        rw [List.length_take] at h2
        omega
      clear hx hl hcv
      by_cases ht : isTx x = true
      · have HC2 : Hid (costL (s.data.toList.take (j + 1)) = costL (s.data.toList.take j) + (oneL x).length) := Lib.hid (by rw [HC.out, if_pos ht])
        have HTX := Lib.hid ht
        clear HC ht
        go_wp2_with fail
        refine (isTextByte_any wr x).mono ?_
        rintro e w3 ⟨rfl, hb3⟩
        rw [HTX.out]
        have HB3 := Lib.hid (HB.out.trans (hb3.mono HB.out.size))
        clear hb3 hcell
        go_wp2_with fail
        refine (formOf_any w3 x).mono ?_
        rintro e w4 ⟨rfl, hb4⟩
        unfold formV
        have HB4 := Lib.hid (HB3.out.trans (hb4.mono HB3.out.size))
        have hm := (oneL_len x).2
        obtain ⟨m, hm2⟩ : ∃ m, m = (oneL x).length := ⟨_, rfl⟩
        rw [← hm2] at hm HC2 ⊢
        clear hb4 hm2
        have hfd := field_len (.int .i64 (c3 x 0)) (.int .i64 (c3 x 1)) (.int .i64 (c3 x 2)) (.int .i64 m)
        go_wp2_with fail
        go_roundw
        case rel => exact ⟨j + 1, q + m, by omega, by go_num, by go_num, Lib.hid (by rw [HC2.out, ← HQ.out]), HB4⟩
        case measure => simp [intOf]; omega
      · rw [Bool.not_eq_true] at ht
        have HC2 : Hid (costL (s.data.toList.take (j + 1)) = costL (s.data.toList.take j)) := Lib.hid (by rw [HC.out, ht]; rfl)
        have HTX := Lib.hid ht
        clear HC ht
        go_wp2_with fail
        refine (isTextByte_any wr x).mono ?_
        rintro e w3 ⟨rfl, hb3⟩
        rw [HTX.out]
        have HB3 := Lib.hid (HB.out.trans (hb3.mono HB.out.size))
        clear hb3 hcell
        go_wp2_with fail
        go_roundw
        case rel => exact ⟨j + 1, q, by omega, by go_num, rfl, Lib.hid (by rw [HC2.out, ← HQ.out]), HB3⟩
        case measure => simp [intOf]; omega
    · have HE : Hid (s.data.toList.take j = s.data.toList) := Lib.hid (List.take_of_length_le (by rw [Array.length_toList]; show s.size ≤ j; omega))
      go_wp2_with fail
      go_ret
      exact ⟨ret_int (by rw [HQ.out, HE.out]), HB2.out.trans (HB.out.mono HB2.out.size)⟩

set_option maxRecDepth 100000 in
set_option maxHeartbeats 3200000 in
theorem equal_any (w : World) (B B' : Nat) (A A' : Option Addr) (n n' c c' : Nat) (zs ys : List Int) (h : RdI w B A n zs) (h' : RdI w B' A' n' ys) (hn : (n : Int) ≤ 1000000) (hn' : (n' : Int) ≤ 1000000) :
    Calls Tryd.prog 53 #[.slice A n c, .slice A' n' c'] w fun e w' => e = .returned (.bool (eqI zs ys)) ∧ Below w.heap.size w w' := by
  have H := Lib.hid h
  have H' := Lib.hid h'
  clear h h'
  by_cases hl : n = n'
  · obtain rfl := hl
    go_enter Tryd.func53, Tryd.ntmps53
    go_wp2_with fail
    go_loopw [13] (fun i wr => ∃ (j : Nat), j ≤ n ∧ i = .int .i64 j ∧ Below w.heap.size w wr ∧ (∀ p, wr.cell? p = w.cell? p) ∧ Hid (∀ m, m < j → zs.getD m 0 = ys.getD m 0)) (fun i _ => n - (intOf i).toNat)
    case atStart => exact ⟨0, Nat.zero_le _, rfl, Below.refl _ _, fun _ => rfl, Lib.hid (fun m hm => absurd hm (by omega))⟩
    case round =>
      obtain ⟨j, hj, rfl, hbel, hcells, HE⟩ := hrel
      by_cases hlt : j < n
      · obtain ⟨ad, rfl, _, hc⟩ := H.out.2.1 (by omega)
        obtain ⟨ad', rfl, _, hc'⟩ := H'.out.2.1 (by omega)
        have k1 := (hcells (ad.add j)).trans (hc j (by rw [H.out.1]; exact hlt))
        have k2 := (hcells (ad'.add j)).trans (hc' j (by rw [H'.out.1]; exact hlt))
        obtain ⟨z, hz⟩ : ∃ z, z = zs.getD j 0 := ⟨_, rfl⟩
        obtain ⟨y, hy⟩ : ∃ y, y = ys.getD j 0 := ⟨_, rfl⟩
        rw [← hz] at k1
        rw [← hy] at k2
        have HC := Lib.hid hcells
        clear hc hc' hcells
        by_cases e : z = y
        · have HE2 : Hid (∀ m, m < j + 1 → zs.getD m 0 = ys.getD m 0) := Lib.hid (fun m hm => by
            by_cases e2 : m = j
            · subst e2; rw [← hz, ← hy, e]
            · exact HE.out m (by omega))
          have t0 : (z != y) = false := by rw [e]; simp
          clear hz hy e HE
          go_wp2_with fail
          go_quiet (fail)
          go_wp2_with fail
          go_roundw
          case rel => exact ⟨j + 1, by omega, by go_num, ⟨hbel.os, hbel.tape, hbel.output, hbel.size, hbel.block⟩, HC.out, HE2⟩
          case measure => simp [intOf]; omega
        · have HF : Hid (eqI zs ys = false) := Lib.hid (eqI_at (j := j) (by rw [← hz, ← hy]; exact e))
          have t0 : (z != y) = true := by rw [bne_iff_ne]; exact e
          clear hz hy e HE
          go_wp2_with fail
          go_quiet (fail)
          go_wp2_with fail
          go_ret
          exact ⟨bool_ret6 HF.out.symm, ⟨hbel.os, hbel.tape, hbel.output, hbel.size, hbel.block⟩⟩
      · have HC := Lib.hid hcells
        have HF : Hid (eqI zs ys = true) := Lib.hid (eqI_all (by rw [H.out.1, H'.out.1]) (fun m hm => HE.out m (by rw [H.out.1] at hm; omega)))
        clear hcells
        go_wp2_with fail
        go_ret
        exact ⟨bool_ret6 HF.out.symm, hbel⟩
  · have HF : Hid (eqI zs ys = false) := Lib.hid (eqI_len (by rw [H.out.1, H'.out.1]; exact hl))
    have t0 : ((n : Int) != (n' : Int)) = true := by rw [bne_iff_ne]; omega
    clear hl
    go_enter Tryd.func53, Tryd.ntmps53
    go_wp2_with fail
    go_ret
    exact ⟨bool_ret6 HF.out.symm, Below.refl _ _⟩

/-- the numbers behind the first k -/
theorem RdI.tail {w : World} {B : Nat} {A : Option Addr} {n : Nat} {zs : List Int} (h : RdI w B A n zs) {k cap : Nat} (hk : k ≤ n) (hc : n ≤ cap) :
    RdI w B (if cap = k then A else A.map (·.add k)) (n - k) (zs.drop k) := by
  have hl := h.1
  refine ⟨by rw [List.length_drop, h.1], fun hn => ?_, fun j => by rw [getD_drop]; exact h.2.2 _⟩
  obtain ⟨ad, rfl, hb, hcell⟩ := h.2.1 (by omega)
  rw [if_neg (by omega)]
  refine ⟨ad.add k, rfl, by rw [blk_add]; exact hb, fun j hj => ?_⟩
  rw [List.length_drop] at hj
  rw [add_add, hcell (k + j) (by omega), getD_drop]

theorem bc_snoc (l : List UInt8) (x : UInt8) : bc l ++ bc [x] = bc (l ++ [x]) := (bc_append l [x]).symm

def slLen : Value → Nat
  | .slice _ n _ => n
  | _ => 0

/-- how far the text is known: a text that has these codes begins so, and goes on with what is left -/
def Went (zs : List Int) (t : List UInt8) (r : List Int) : Prop := ∀ u, codes u = zs → ∃ v, u = t ++ v ∧ codes v = r

theorem Went.start (zs : List Int) : Went zs [] zs := fun u h => ⟨u, rfl, h⟩

theorem Went.split {zs : List Int} {t : List UInt8} {r : List Int} (h : Went zs t r) (hr : r ≠ []) {u : List UInt8} (hu : codes u = zs) :
    ∃ v, u = t ++ annC r :: v ∧ codes v = r.drop (annN r) ∧ annN r ≤ r.length := by
  obtain ⟨v, rfl, hv⟩ := h u hu
  cases v with
  | nil => exact absurd hv.symm hr
  | cons c v =>
    rw [codes_cons] at hv
    obtain ⟨h1, h2⟩ := ann_one c (codes v)
    rw [hv] at h1 h2
    refine ⟨v, by rw [h1], ?_, ?_⟩
    · rw [h2, ← hv, List.drop_left]
    · rw [h2, ← hv, List.length_append]; omega

theorem Went.step {zs : List Int} {t : List UInt8} {r : List Int} (h : Went zs t r) (hr : r ≠ []) : Went zs (t ++ [annC r]) (r.drop (annN r)) := fun u hu => by
  obtain ⟨v, h1, h2, _⟩ := h.split hr hu
  exact ⟨v, by rw [h1, List.append_assoc]; rfl, h2⟩

theorem Went.short {zs : List Int} {t : List UInt8} {r : List Int} (h : Went zs t r) (hr : r ≠ []) (hl : r.length < annN r) : TextRel zs [] 16 :=
  .inr ⟨rfl, rfl, fun u _ hu => by
    obtain ⟨v, _, _, h3⟩ := h.split hr hu
    omega⟩

theorem Went.no {zs : List Int} {t : List UInt8} (h : Went zs t []) (hn : textB t = false ∨ codes t ≠ zs) : TextRel zs [] 16 :=
  .inr ⟨rfl, rfl, fun u hx hu => by
    obtain ⟨v, h1, h2⟩ := h u hu
    have hv : v = [] := by
      cases v with
      | nil => rfl
      | cons c v =>
        have h3 := (oneL_len c).1
        have h4 := congrArg List.length h2
        rw [codes_cons, List.length_append, List.length_nil] at h4
        omega
    rw [hv, List.append_nil] at h1
    subst h1
    rcases hn with hn | hn
    · rw [hn] at hx; cases hx
    · exact hn hu⟩

set_option maxRecDepth 100000 in
set_option maxHeartbeats 6400000 in
theorem textof_any (w : World) (A : Option Addr) (n c : Nat) (zs : List Int) (h : RdI w w.heap.size A n zs) (hn : (n : Int) ≤ 100000) (hc : n ≤ c) :
    Calls Tryd.prog 72 #[.slice A n c] w (TextOut w zs) := by
  obtain ⟨i0, hi, hz0, hsz, hby⟩ := inf_parts Tryd.inf_u8
  have HI := Lib.hid hi
  have HZ0 := Lib.hid hz0
  have HSZ := Lib.hid hsz
  have HBY := Lib.hid hby
  have H := Lib.hid h
  have HC := Lib.hid hc
  clear hi hz0 hsz hby h hc
  go_enter Tryd.func72, Tryd.ntmps72
  go_wp2_with fail
  go_loopw [4, 5] (fun v i wr => ∃ (A4 R : Option Addr) (n4 c4 nr cr : Nat) (t : List UInt8) (r : List Int), v = .slice A4 n4 c4 ∧ i = .slice R nr cr ∧ n4 + nr ≤ n ∧ Hid (nr ≤ cr) ∧ Hid (RdI w w.heap.size R nr r) ∧ Hid (wr.ownsRow w.heap.size 5 1 (.slice A4 n4 c4) n4 (bc t)) ∧ Hid (Below w.heap.size w wr) ∧ Hid (Went zs t r)) (fun _ i _ => slLen i)
  case atStart => exact ⟨none, A, 0, 0, n, c, [], zs, rfl, rfl, by omega, HC, H, Lib.hid (own_nil w _ _), Lib.hid (Below.refl _ _), Lib.hid (Went.start zs)⟩
  case round =>
    obtain ⟨A4, R, n4, c4, nr, cr, t, r, rfl, rfl, hnn, HCR, HR, HO, HB, HW⟩ := hrel
    have HRL := Lib.hid HR.out.1
    by_cases hlt : 0 < nr
    · have HNE : Hid (r ≠ []) := Lib.hid (by
        intro e
        have := HRL.out
        rw [e, List.length_nil] at this
        omega)
      have hrd := HR.out.below HB.out
      go_wp2_with fail
      refine (announced_any wr _ R nr cr r hrd HB.out.size hlt (by omega)).mono ?_
      rintro e w3 ⟨rfl, hb3⟩
      have HB3 := Lib.hid (HB.out.trans (hb3.mono HB.out.size))
      have HO3 := Lib.hid (own_below HO.out hb3)
      have HWS := Lib.hid (HW.out.step HNE.out)
      have HSH := Lib.hid (HW.out.short HNE.out)
      have hm := annN_pos r
      obtain ⟨m, hm2⟩ : ∃ m, m = annN r := ⟨_, rfl⟩
      obtain ⟨x, hx⟩ : ∃ x, x = annC r := ⟨_, rfl⟩
      rw [← hm2, ← hx] at HWS
      rw [← hm2] at HSH hm ⊢
      rw [← hx]
      obtain ⟨hm0, hm3⟩ := hm
      clear hm2 hx hb3 hrd
      by_cases hs : nr < m
      · have HT := Lib.hid (HSH.out (by rw [HRL.out]; exact hs))
        go_wp2_with fail
        go_ret2
        exact ⟨[], 16, HT.out, rfl, HB3.out⟩
      · have htail := HR.out.tail (k := m) (by omega) HCR.out
        obtain ⟨R2, hR2⟩ : ∃ x, x = (if cr = m then R else R.map (·.add m)) := ⟨_, rfl⟩
        rw [← hR2] at htail
        have HR2 := Lib.hid htail
        have hsz2 := HB3.out.size
        clear htail
        go_wp2_with (at_builtin; refine wpList_app _ rfl _ _ 26 rfl w.heap.size 5 i0 Tryd.underlying26 HI.out HZ0.out HSZ.out HBY.out _ n4 _ rfl (HO3.out.alloc _) _ _ 1 1 [x] rfl (Rd.one w3 x _) (by omega) (by simp; omega) ?_; intro A5 c5 w8 hown2 hg2)
        have HO4 := Lib.hid hown2
        have HB4 := Lib.hid (app_below HO3.out HB3.out hg2)
        clear hown2 hg2
        go_roundw
        case rel => exact ⟨A5, _, n4 + 1, c5, nr - m, cr - m, t ++ [x], r.drop m, rfl, rfl, by omega, Lib.hid (by have := HCR.out; omega), Lib.hid (by rw [← hR2]; exact HR2.out), HO4, HB4, HWS⟩
        case measure => simp [slLen]; omega
    · obtain rfl : nr = 0 := by omega
      have hr0 : r = [] := List.eq_nil_of_length_eq_zero HRL.out
      subst hr0
      have ht4 : t.length = n4 := own_len HO.out
      have HT4 := Lib.hid ht4
      have hcv := fun W (hb : Below wr.heap.size wr W) => Rd.toStr (P := Tryd.prog) ((Rd.of_own HO.out).below hb) 26 9 5 c4 Tryd.underlying26 Tryd.underlying5 Tryd.underlying9
      have HCV := Lib.hid hcv
      have hcv1 := hcv wr (Below.refl _ _)
      clear hcv ht4
      go_wp2_with fail
      refine (codes_any wr (bs t) (by rw [bs_size, HT4.out]; omega)).mono ?_
      rw [data_bs]
      rintro e w3 ⟨A1, n1, c1, rfl, ho1, hb1⟩
      clear hcv1
      have HB3 := Lib.hid (HB.out.trans (hb1.mono HB.out.size))
      by_cases ht : textB t = true
      · have e1 : cdZ t = codes t := by unfold cdZ; rw [if_pos ht]
        have e2 : cdE t = 0 := by unfold cdE; rw [if_pos ht]
        rw [e1] at ho1
        rw [e2]
        have HTX := Lib.hid ht
        have R1 := Lib.hid (RdI.of_iv ho1 (codes_fit _))
        have hn1 : n1 ≤ 300000 := by
          have h1 := ownI_len ho1
          have h2 := (codes_len t).2
          have := HT4.out
          omega
        have HB1 := Lib.hid hb1
        clear e1 e2 ht ho1 hb1
        go_wp2_with fail
        refine (equal_any w3 _ _ A1 A n1 n c1 c _ zs R1.out (H.out.below HB3.out) (by omega) (by omega)).mono ?_
        rintro e w4 ⟨rfl, hb4⟩
        have HB4 := Lib.hid (HB3.out.trans (hb4.mono HB3.out.size))
        have hcv2 := HCV.out w4 (HB1.out.trans (hb4.mono HB1.out.size))
        clear hb4
        by_cases heq : codes t = zs
        · have HR1 : Hid (TextRel zs t 0) := Lib.hid (.inl ⟨HTX.out, heq, rfl⟩)
          have e3 : eqI (codes t) zs = true := by unfold eqI; rw [decide_eq_true_eq]; exact heq
          rw [e3]
          clear e3 heq
          go_wp2_with fail
          go_ret2
          exact ⟨t, 0, HR1.out, rfl, HB4.out⟩
        · have HR1 : Hid (TextRel zs [] 16) := Lib.hid (HW.out.no (.inr heq))
          have e3 : eqI (codes t) zs = false := by unfold eqI; rw [decide_eq_false_iff_not]; exact heq
          rw [e3]
          clear e3 heq hcv2
          go_wp2_with fail
          go_ret2
          exact ⟨[], 16, HR1.out, rfl, HB4.out⟩
      · rw [Bool.not_eq_true] at ht
        have e2 : cdE t = 13 := by unfold cdE; rw [ht]; rfl
        have HR1 : Hid (TextRel zs [] 16) := Lib.hid (HW.out.no (.inl ht))
        rw [e2]
        clear e2 ht ho1 hb1
        go_wp2_with fail
        go_ret2
        exact ⟨[], 16, HR1.out, rfl, HB3.out⟩

end Go.Proofs.YtpfkkmjodhpkoaaDoor
