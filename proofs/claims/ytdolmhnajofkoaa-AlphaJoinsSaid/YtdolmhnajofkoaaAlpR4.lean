/- Contract of layer 6's reference: Pack. -/
import Derived.Test.YtdolmhnajofkoaaAlpR2
import Derived.Test.YtdolmhnajofkoaaBitP
namespace Go.Proofs.Ytdolmhnajofkoaa
open Go.RowKit

/-- bits as ints -/
def nb (l : List Nat) : List Int := l.map (fun b : Nat => (b : Int))

theorem nb_length (l : List Nat) : (nb l).length = l.length := by simp [nb]
theorem nb_append (l m : List Nat) : nb (l ++ m) = nb l ++ nb m := by simp [nb]
theorem nb_getD (l : List Nat) (j : Nat) : (nb l).getD j 0 = ((l.getD j 0 : Nat) : Int) := by
  simp only [nb, List.getD, List.getElem?_map]
  cases l[j]? <;> simp
theorem nb_fit {l : List Nat} (h : isBits l) : FitI (nb l) := FitI.of_mem fun z hz => by
  unfold nb at hz
  obtain ⟨b, hb, rfl⟩ := List.mem_map.1 hz
  have := h b hb
  omega

/-- the bits of the first j codes, the end code counted as the last -/
def bitsUp (zs : List Int) (j : Nat) : List Nat := ((zs ++ [31]).take j).flatMap bits5

theorem bitsUp_zero (zs : List Int) : bitsUp zs 0 = [] := rfl
theorem bitsUp_all (zs : List Int) : bitsUp zs (zs.length + 1) = raw zs := by
  unfold bitsUp raw
  rw [List.take_of_length_le (by simp), List.flatMap_append]
  simp
theorem bitsUp_len (zs : List Int) {j : Nat} (h : j ≤ zs.length + 1) : (bitsUp zs j).length = 5 * j := by
  unfold bitsUp
  rw [flat5_len, List.length_take, List.length_append, List.length_singleton]
  omega
theorem bitsUp_code {zs : List Int} {j : Nat} (h : j < zs.length) : bitsUp zs (j + 1) = bitsUp zs j ++ bits5 (zs.getD j 0) := by
  unfold bitsUp
  rw [List.take_succ_eq_append_getElem (by simp; omega), List.flatMap_append]
  simp [List.getD, h]
theorem bitsUp_end (zs : List Int) : bitsUp zs (zs.length + 1) = bitsUp zs zs.length ++ bits5 31 := by
  unfold bitsUp
  rw [List.take_succ_eq_append_getElem (by simp), List.flatMap_append]
  simp

theorem push5 (U : List Nat) (z : Int) (q m k : Nat) (h : (bits5 z)[m]? = some (q / k % 2)) :
    iv (nb (U ++ (bits5 z).take (m + 1))) = iv (nb (U ++ (bits5 z).take m)) ++ [.int .i64 ((q : Int) / (k : Int) % 2)] := by
  have hm : m < (bits5 z).length := (List.getElem?_eq_some_iff.1 h).1
  have he : (bits5 z)[m] = q / k % 2 := (List.getElem?_eq_some_iff.1 h).2
  rw [List.take_succ_eq_append_getElem hm, he, ← List.append_assoc, nb_append (U ++ _), iv_append]
  simp [nb, iv]

def sliceLen : Value → Nat
  | .slice _ n _ => n
  | _ => 0

theorem tmod32 (z : Int) : (z.tmod 32 + 32) % 32 = z % 32 := by
  have h := Int.tmod_eq_emod (a := z) (b := 32)
  split at h <;> omega

theorem tmod32_bd (z : Int) : -32 < z.tmod 32 ∧ z.tmod 32 < 32 := by
  have h := Int.tmod_eq_emod (a := z) (b := 32)
  split at h <;> omega

/-- eight more bits are one more byte -/
theorem byte_more {u : List Nat} {L : List UInt8} {i M : Nat} (hu : u.length = 8 * M) (hb : isBits u) (hi : i < M) (h : unb L = u.take (8 * i)) :
    num2 ((u.drop (8 * i)).take 8) < 256 ∧ unb (L ++ [UInt8.ofNat (num2 ((u.drop (8 * i)).take 8))]) = u.take (8 * (i + 1)) := by
  have hl : ((u.drop (8 * i)).take 8).length = 8 := by rw [List.length_take, List.length_drop]; omega
  have hb2 : isBits ((u.drop (8 * i)).take 8) := fun x hx => hb x (List.mem_of_mem_drop (List.mem_of_mem_take hx))
  refine ⟨num2_lt 8 _ hl hb2, ?_⟩
  rw [unb_append, h, unb_cons, unb_nil, List.append_nil, bits8_of hl hb2, show 8 * (i + 1) = 8 * i + 8 from by omega, List.take_add]

set_option maxRecDepth 100000 in
set_option maxHeartbeats 12800000 in
theorem rpack_any (w : World) (A : Option Addr) (n c : Nat) (zs : List Int) (h : RdI w w.heap.size A n zs) (hn : (n : Int) ≤ 100000) :
    Calls Try.prog 20 #[.slice A n c] w (OutO w.heap.size w (packL zs)) := by
  obtain ⟨i0, hi, hz0, hsz, hby⟩ := inf_parts Try.inf_int
  have HI := Lib.hid hi
  have HZ0 := Lib.hid hz0
  have HSZ := Lib.hid hsz
  have HBY := Lib.hid hby
  clear hi hz0 hsz hby
  have H := Lib.hid h
  have HL := Lib.hid h.1
  clear h
  go_enter Try.func20, Try.ntmps20
  go_wp2_with fail
  go_loopw [3, 4] (fun v i wr => ∃ (A : Option Addr) (nn c j : Nat), j ≤ n + 1 ∧ i = .int .i64 j ∧ v = .slice A nn c ∧ Hid (nn = 5 * j) ∧ Hid (wr.ownsRow w.heap.size 3 1 (.slice A nn c) nn (iv (nb (bitsUp zs j)))) ∧ Hid (Below w.heap.size w wr)) (fun _ i _ => n + 1 - (intOf i).toNat)
  case atStart => exact ⟨none, 0, 0, 0, Nat.zero_le _, rfl, rfl, Lib.hid rfl, Lib.hid (ownI_nil w _ _), Lib.hid (Below.refl _ _)⟩
  case round =>
    obtain ⟨A1, nn, c1, j, hj, rfl, rfl, HN, HO, HB⟩ := hrel
    by_cases hlt : j ≤ n
    · have hnn : nn ≤ 500000 := by have := HN.out; omega
      by_cases hlt2 : j < n
      · obtain ⟨ad, rfl, hab, hcell⟩ := H.out.2.1 (by omega)
        have hc := (HB.out.cell (p := ad.add j) (by rw [blk_add]; exact hab)).trans (hcell j (by rw [HL.out]; exact hlt2))
        obtain ⟨z, hz⟩ : ∃ z, z = zs.getD j 0 := ⟨_, rfl⟩
        rw [← hz] at hc
        clear hcell
        obtain ⟨U, hU⟩ : ∃ U, U = bitsUp zs j := ⟨_, rfl⟩
        have HU := Lib.hid hU
        have HNX : Hid (bitsUp zs (j + 1) = U ++ bits5 z) := Lib.hid (by rw [hU, hz]; exact bitsUp_code (by rw [HL.out]; exact hlt2))
        clear hU hz
        obtain ⟨q, hq⟩ : ∃ q : Nat, q = (z % 32).toNat := ⟨_, rfl⟩
        have hq32 : (z.tmod 32 + 32) % 32 = (q : Int) := by rw [tmod32]; omega
        have hqb : q < 32 := by omega
        obtain ⟨hb1, hb2⟩ := tmod32_bd z
        have HQ := Lib.hid hq.symm
        have HQ32 := Lib.hid hq32
        clear hq hq32
        go_wp2_with fail
        rw [HQ32.out]
        go_loopw [3, 6] (fun v i wi => ∃ (A2 : Option Addr) (n2 c2 m : Nat) (kk : Int), ((m = 0 ∧ kk = 16) ∨ (m = 1 ∧ kk = 8) ∨ (m = 2 ∧ kk = 4) ∨ (m = 3 ∧ kk = 2) ∨ (m = 4 ∧ kk = 1) ∨ (m = 5 ∧ kk = 0)) ∧ i = .int .i64 kk ∧ v = .slice A2 n2 c2 ∧ Hid (n2 = nn + m) ∧ Hid (wi.ownsRow w.heap.size 3 1 (.slice A2 n2 c2) n2 (iv (nb (U ++ (bits5 z).take m)))) ∧ Hid (Below w.heap.size w wi)) (fun _ i _ => (intOf i).toNat)
        case atStart => exact ⟨A1, nn, c1, 0, 16, .inl ⟨rfl, rfl⟩, rfl, rfl, Lib.hid rfl, Lib.hid (by rw [List.take_zero, List.append_nil, HU.out]; exact HO.out), HB⟩
        case round =>
          obtain ⟨A2, n2, c2, m, kk, hmk, rfl, rfl, HN2, HO2, HB2⟩ := hrel
          have hn2 : n2 ≤ 500005 := by have := HN2.out; omega
          have hz2 := HB2.out.size
          rcases hmk with ⟨rfl, rfl⟩ | ⟨rfl, rfl⟩ | ⟨rfl, rfl⟩ | ⟨rfl, rfl⟩ | ⟨rfl, rfl⟩ | ⟨rfl, rfl⟩
          · go_wp2_with (at_builtin; refine wpList_app1L _ rfl _ _ 23 rfl w.heap.size 3 i0 _ 8 Try.underlying23 HI.out HZ0.out HSZ.out HBY.out rfl _ n2 _ rfl (HO2.out.alloc _) ⟨_, 0, none⟩ 1 (.int .i64 ((q : Int) / 16 % 2)) rfl (new_cell _ _ _) rfl (by omega) (by unfold maxLen; omega) (by simp; omega) ?_; intro A3 c3 w8 hown2 hg2 hw2)
            have HO3 := Lib.hid hown2
            have HB3 := Lib.hid (app_below HO2.out HB2.out hg2)
            clear hown2 hg2 hw2
            go_roundw
            case rel => exact ⟨A3, n2 + 1, c3, 1, 8, .inr (.inl ⟨rfl, rfl⟩), rfl, rfl, Lib.hid (by have := HN2.out; omega), Lib.hid (by rw [push5 U z q 0 16 (by rw [← HQ.out]; simp [bits5])]; exact HO3.out), HB3⟩
            case measure => simp [intOf]
          · go_wp2_with (at_builtin; refine wpList_app1L _ rfl _ _ 23 rfl w.heap.size 3 i0 _ 8 Try.underlying23 HI.out HZ0.out HSZ.out HBY.out rfl _ n2 _ rfl (HO2.out.alloc _) ⟨_, 0, none⟩ 1 (.int .i64 ((q : Int) / 8 % 2)) rfl (new_cell _ _ _) rfl (by omega) (by unfold maxLen; omega) (by simp; omega) ?_; intro A3 c3 w8 hown2 hg2 hw2)
            have HO3 := Lib.hid hown2
            have HB3 := Lib.hid (app_below HO2.out HB2.out hg2)
            clear hown2 hg2 hw2
            go_roundw
            case rel => exact ⟨A3, n2 + 1, c3, 2, 4, .inr (.inr (.inl ⟨rfl, rfl⟩)), rfl, rfl, Lib.hid (by have := HN2.out; omega), Lib.hid (by rw [push5 U z q 1 8 (by rw [← HQ.out]; simp [bits5])]; exact HO3.out), HB3⟩
            case measure => simp [intOf]
          · go_wp2_with (at_builtin; refine wpList_app1L _ rfl _ _ 23 rfl w.heap.size 3 i0 _ 8 Try.underlying23 HI.out HZ0.out HSZ.out HBY.out rfl _ n2 _ rfl (HO2.out.alloc _) ⟨_, 0, none⟩ 1 (.int .i64 ((q : Int) / 4 % 2)) rfl (new_cell _ _ _) rfl (by omega) (by unfold maxLen; omega) (by simp; omega) ?_; intro A3 c3 w8 hown2 hg2 hw2)
            have HO3 := Lib.hid hown2
            have HB3 := Lib.hid (app_below HO2.out HB2.out hg2)
            clear hown2 hg2 hw2
            go_roundw
            case rel => exact ⟨A3, n2 + 1, c3, 3, 2, .inr (.inr (.inr (.inl ⟨rfl, rfl⟩))), rfl, rfl, Lib.hid (by have := HN2.out; omega), Lib.hid (by rw [push5 U z q 2 4 (by rw [← HQ.out]; simp [bits5])]; exact HO3.out), HB3⟩
            case measure => simp [intOf]
          · go_wp2_with (at_builtin; refine wpList_app1L _ rfl _ _ 23 rfl w.heap.size 3 i0 _ 8 Try.underlying23 HI.out HZ0.out HSZ.out HBY.out rfl _ n2 _ rfl (HO2.out.alloc _) ⟨_, 0, none⟩ 1 (.int .i64 ((q : Int) / 2 % 2)) rfl (new_cell _ _ _) rfl (by omega) (by unfold maxLen; omega) (by simp; omega) ?_; intro A3 c3 w8 hown2 hg2 hw2)
            have HO3 := Lib.hid hown2
            have HB3 := Lib.hid (app_below HO2.out HB2.out hg2)
            clear hown2 hg2 hw2
            go_roundw
            case rel => exact ⟨A3, n2 + 1, c3, 4, 1, .inr (.inr (.inr (.inr (.inl ⟨rfl, rfl⟩)))), rfl, rfl, Lib.hid (by have := HN2.out; omega), Lib.hid (by rw [push5 U z q 3 2 (by rw [← HQ.out]; simp [bits5])]; exact HO3.out), HB3⟩
            case measure => simp [intOf]
          · go_wp2_with (at_builtin; refine wpList_app1L _ rfl _ _ 23 rfl w.heap.size 3 i0 _ 8 Try.underlying23 HI.out HZ0.out HSZ.out HBY.out rfl _ n2 _ rfl (HO2.out.alloc _) ⟨_, 0, none⟩ 1 (.int .i64 ((q : Int) % 2)) rfl (new_cell _ _ _) rfl (by omega) (by unfold maxLen; omega) (by simp; omega) ?_; intro A3 c3 w8 hown2 hg2 hw2)
            have HO3 := Lib.hid hown2
            have HB3 := Lib.hid (app_below HO2.out HB2.out hg2)
            clear hown2 hg2 hw2
            go_roundw
            case rel => exact ⟨A3, n2 + 1, c3, 5, 0, .inr (.inr (.inr (.inr (.inr ⟨rfl, rfl⟩)))), rfl, rfl, Lib.hid (by have := HN2.out; omega), Lib.hid (by rw [push5 U z q 4 1 (by rw [← HQ.out]; simp [bits5]), show ((1 : Nat) : Int) = 1 from rfl, Int.ediv_one]; exact HO3.out), HB3⟩
            case measure => simp [intOf]
          · go_wp2_with fail
            go_roundw
            case rel => exact ⟨A2, n2, c2, j + 1, by omega, by go_num, rfl, Lib.hid (by have := HN2.out; have := HN.out; omega), Lib.hid (by have h9 := HO2.out; rw [List.take_of_length_le (l := bits5 z) (by rw [bits5_len]; omega), ← HNX.out] at h9; exact h9), HB2⟩
            case measure => simp [intOf] <;> omega
      · obtain rfl : j = n := by omega
        obtain ⟨U, hU⟩ : ∃ U, U = bitsUp zs j := ⟨_, rfl⟩
        have HU := Lib.hid hU
        obtain ⟨z, hz⟩ : ∃ z : Int, z = 31 := ⟨_, rfl⟩
        have HNX : Hid (bitsUp zs (j + 1) = U ++ bits5 z) := Lib.hid (by rw [hU, hz, ← HL.out]; exact bitsUp_end zs)
        obtain ⟨q, hq⟩ : ∃ q : Nat, q = (z % 32).toNat := ⟨_, rfl⟩
        have HQ := Lib.hid hq.symm
        have HZ := Lib.hid hz
        clear hU hz hq HQ
        clear q
        go_wp2_with fail
        go_loopw [3, 6] (fun v i wi => ∃ (A2 : Option Addr) (n2 c2 m : Nat) (kk : Int), ((m = 0 ∧ kk = 16) ∨ (m = 1 ∧ kk = 8) ∨ (m = 2 ∧ kk = 4) ∨ (m = 3 ∧ kk = 2) ∨ (m = 4 ∧ kk = 1) ∨ (m = 5 ∧ kk = 0)) ∧ i = .int .i64 kk ∧ v = .slice A2 n2 c2 ∧ Hid (n2 = nn + m) ∧ Hid (wi.ownsRow w.heap.size 3 1 (.slice A2 n2 c2) n2 (iv (nb (U ++ (bits5 z).take m)))) ∧ Hid (Below w.heap.size w wi)) (fun _ i _ => (intOf i).toNat)
        case atStart => exact ⟨A1, nn, c1, 0, 16, .inl ⟨rfl, rfl⟩, rfl, rfl, Lib.hid rfl, Lib.hid (by rw [List.take_zero, List.append_nil, HU.out]; exact HO.out), HB⟩
        case round =>
          obtain ⟨A2, n2, c2, m, kk, hmk, rfl, rfl, HN2, HO2, HB2⟩ := hrel
          have hn2 : n2 ≤ 500005 := by have := HN2.out; omega
          have hz2 := HB2.out.size
          rcases hmk with ⟨rfl, rfl⟩ | ⟨rfl, rfl⟩ | ⟨rfl, rfl⟩ | ⟨rfl, rfl⟩ | ⟨rfl, rfl⟩ | ⟨rfl, rfl⟩
          · go_wp2_with (at_builtin; refine wpList_app1L _ rfl _ _ 23 rfl w.heap.size 3 i0 _ 8 Try.underlying23 HI.out HZ0.out HSZ.out HBY.out rfl _ n2 _ rfl (HO2.out.alloc _) ⟨_, 0, none⟩ 1 (.int .i64 1) rfl (new_cell _ _ _) rfl (by omega) (by unfold maxLen; omega) (by simp; omega) ?_; intro A3 c3 w8 hown2 hg2 hw2)
            have HO3 := Lib.hid hown2
            have HB3 := Lib.hid (app_below HO2.out HB2.out hg2)
            clear hown2 hg2 hw2
            go_roundw
            case rel => exact ⟨A3, n2 + 1, c3, 1, 8, .inr (.inl ⟨rfl, rfl⟩), rfl, rfl, Lib.hid (by have := HN2.out; omega), Lib.hid (by rw [show iv (nb (U ++ (bits5 z).take (0 + 1))) = iv (nb (U ++ (bits5 z).take 0)) ++ [.int .i64 1] from push5 U z 31 0 16 (by rw [HZ.out]; rfl)]; exact HO3.out), HB3⟩
            case measure => simp [intOf]
          · go_wp2_with (at_builtin; refine wpList_app1L _ rfl _ _ 23 rfl w.heap.size 3 i0 _ 8 Try.underlying23 HI.out HZ0.out HSZ.out HBY.out rfl _ n2 _ rfl (HO2.out.alloc _) ⟨_, 0, none⟩ 1 (.int .i64 1) rfl (new_cell _ _ _) rfl (by omega) (by unfold maxLen; omega) (by simp; omega) ?_; intro A3 c3 w8 hown2 hg2 hw2)
            have HO3 := Lib.hid hown2
            have HB3 := Lib.hid (app_below HO2.out HB2.out hg2)
            clear hown2 hg2 hw2
            go_roundw
            case rel => exact ⟨A3, n2 + 1, c3, 2, 4, .inr (.inr (.inl ⟨rfl, rfl⟩)), rfl, rfl, Lib.hid (by have := HN2.out; omega), Lib.hid (by rw [show iv (nb (U ++ (bits5 z).take (1 + 1))) = iv (nb (U ++ (bits5 z).take 1)) ++ [.int .i64 1] from push5 U z 31 1 8 (by rw [HZ.out]; rfl)]; exact HO3.out), HB3⟩
            case measure => simp [intOf]
          · go_wp2_with (at_builtin; refine wpList_app1L _ rfl _ _ 23 rfl w.heap.size 3 i0 _ 8 Try.underlying23 HI.out HZ0.out HSZ.out HBY.out rfl _ n2 _ rfl (HO2.out.alloc _) ⟨_, 0, none⟩ 1 (.int .i64 1) rfl (new_cell _ _ _) rfl (by omega) (by unfold maxLen; omega) (by simp; omega) ?_; intro A3 c3 w8 hown2 hg2 hw2)
            have HO3 := Lib.hid hown2
            have HB3 := Lib.hid (app_below HO2.out HB2.out hg2)
            clear hown2 hg2 hw2
            go_roundw
            case rel => exact ⟨A3, n2 + 1, c3, 3, 2, .inr (.inr (.inr (.inl ⟨rfl, rfl⟩))), rfl, rfl, Lib.hid (by have := HN2.out; omega), Lib.hid (by rw [show iv (nb (U ++ (bits5 z).take (2 + 1))) = iv (nb (U ++ (bits5 z).take 2)) ++ [.int .i64 1] from push5 U z 31 2 4 (by rw [HZ.out]; rfl)]; exact HO3.out), HB3⟩
            case measure => simp [intOf]
          · go_wp2_with (at_builtin; refine wpList_app1L _ rfl _ _ 23 rfl w.heap.size 3 i0 _ 8 Try.underlying23 HI.out HZ0.out HSZ.out HBY.out rfl _ n2 _ rfl (HO2.out.alloc _) ⟨_, 0, none⟩ 1 (.int .i64 1) rfl (new_cell _ _ _) rfl (by omega) (by unfold maxLen; omega) (by simp; omega) ?_; intro A3 c3 w8 hown2 hg2 hw2)
            have HO3 := Lib.hid hown2
            have HB3 := Lib.hid (app_below HO2.out HB2.out hg2)
            clear hown2 hg2 hw2
            go_roundw
            case rel => exact ⟨A3, n2 + 1, c3, 4, 1, .inr (.inr (.inr (.inr (.inl ⟨rfl, rfl⟩)))), rfl, rfl, Lib.hid (by have := HN2.out; omega), Lib.hid (by rw [show iv (nb (U ++ (bits5 z).take (3 + 1))) = iv (nb (U ++ (bits5 z).take 3)) ++ [.int .i64 1] from push5 U z 31 3 2 (by rw [HZ.out]; rfl)]; exact HO3.out), HB3⟩
            case measure => simp [intOf]
          · go_wp2_with (at_builtin; refine wpList_app1L _ rfl _ _ 23 rfl w.heap.size 3 i0 _ 8 Try.underlying23 HI.out HZ0.out HSZ.out HBY.out rfl _ n2 _ rfl (HO2.out.alloc _) ⟨_, 0, none⟩ 1 (.int .i64 1) rfl (new_cell _ _ _) rfl (by omega) (by unfold maxLen; omega) (by simp; omega) ?_; intro A3 c3 w8 hown2 hg2 hw2)
            have HO3 := Lib.hid hown2
            have HB3 := Lib.hid (app_below HO2.out HB2.out hg2)
            clear hown2 hg2 hw2
            go_roundw
            case rel => exact ⟨A3, n2 + 1, c3, 5, 0, .inr (.inr (.inr (.inr (.inr ⟨rfl, rfl⟩)))), rfl, rfl, Lib.hid (by have := HN2.out; omega), Lib.hid (by rw [show iv (nb (U ++ (bits5 z).take (4 + 1))) = iv (nb (U ++ (bits5 z).take 4)) ++ [.int .i64 1] from push5 U z 31 4 1 (by rw [HZ.out]; rfl)]; exact HO3.out), HB3⟩
            case measure => simp [intOf]
          · go_wp2_with fail
            go_roundw
            case rel => exact ⟨A2, n2, c2, j + 1, by omega, by go_num, rfl, Lib.hid (by have := HN2.out; have := HN.out; omega), Lib.hid (by have h9 := HO2.out; rw [List.take_of_length_le (l := bits5 z) (by rw [bits5_len]; omega), ← HNX.out] at h9; exact h9), HB2⟩
            case measure => simp [intOf] <;> omega
    · have hj1 : j = n + 1 := by omega
      have HJ := Lib.hid hj1
      have hnn : nn = 5 * n + 5 := by have := HN.out; omega
      have HNN := Lib.hid hnn
      have hnb : nn ≤ 500005 := by omega
      obtain ⟨P, hP⟩ : ∃ P, P = (8 - nn % 8) % 8 := ⟨_, rfl⟩
      have hP8 : P < 8 := by omega
      have HP := Lib.hid hP
      have HO2 : Hid (wr.ownsRow w.heap.size 3 1 (.slice A1 nn c1) nn (iv (nb (raw zs ++ List.replicate 0 0)))) := Lib.hid (by
        have h9 := HO.out
        rw [HJ.out, ← HL.out, bitsUp_all] at h9
        rw [List.replicate_zero, List.append_nil]
        exact h9)
      clear hnn hP HO hj1
      go_wp2_with fail
      go_loopw [3] (fun v wi => ∃ (A2 : Option Addr) (n2 c2 p : Nat), p ≤ P ∧ v = .slice A2 n2 c2 ∧ Hid (n2 = nn + p) ∧ Hid (wi.ownsRow w.heap.size 3 1 (.slice A2 n2 c2) n2 (iv (nb (raw zs ++ List.replicate p 0)))) ∧ Hid (Below w.heap.size w wi)) (fun v _ => nn + 8 - sliceLen v)
      case atStart => exact ⟨A1, nn, c1, 0, Nat.zero_le _, rfl, Lib.hid rfl, HO2, HB⟩
      case round =>
        obtain ⟨A2, n2, c2, p, hp, rfl, HN2, HO3, HB2⟩ := hrel
        have hn2 : n2 ≤ 500013 := by have := HN2.out; omega
        by_cases hlp : p < P
        · have t0 : ((n2 : Int) % 8 != 0) = true := by rw [bne_iff_ne]; have := HN2.out; have := HP.out; omega
          have hz2 := HB2.out.size
          go_wp2_with (at_builtin; refine wpList_app1L _ rfl _ _ 23 rfl w.heap.size 3 i0 _ 8 Try.underlying23 HI.out HZ0.out HSZ.out HBY.out rfl _ n2 _ rfl (HO3.out.alloc _) ⟨_, 0, none⟩ 1 (.int .i64 0) rfl (new_cell _ _ _) rfl (by omega) (by unfold maxLen; omega) (by simp; omega) ?_; intro A3 c3 w8 hown2 hg2 hw2)
          have HO4 := Lib.hid hown2
          have HB3 := Lib.hid (app_below HO3.out HB2.out hg2)
          clear hown2 hg2 hw2
          go_roundw
          case rel => exact ⟨A3, n2 + 1, c3, p + 1, by omega, rfl, Lib.hid (by have := HN2.out; omega), Lib.hid (by rw [List.replicate_succ', ← List.append_assoc, nb_append (raw zs ++ List.replicate p 0), iv_append]; exact HO4.out), HB3⟩
          case measure => have := HN2.out; simp [sliceLen]; omega
        · obtain rfl : p = P := by omega
          have t0 : ((n2 : Int) % 8 != 0) = false := by rw [bne_eq_false_iff_eq]; have := HN2.out; have := HP.out; omega
          obtain ⟨u, hu⟩ : ∃ u, u = raw zs ++ List.replicate p 0 := ⟨_, rfl⟩
          obtain ⟨M, hM⟩ : ∃ M, n2 = 8 * M := ⟨n2 / 8, by have := HN2.out; have := HP.out; omega⟩
          have HM := Lib.hid hM
          have hur : u = raw zs ++ pad (raw zs).length := by rw [hu, HP.out]; unfold pad; rw [raw_len, HNN.out, HL.out]
          have HU := Lib.hid hur
          have hub : isBits u := by rw [hur, isBits_append]; exact ⟨isBits_raw zs, isBits_pad _⟩
          have HUB := Lib.hid hub
          rw [← hu] at HO3
          have HUL : Hid (u.length = 8 * M) := Lib.hid (by have h9 := ownI_len HO3.out; rw [nb_length] at h9; omega)
          have HTW : Hid (Two w wr 5 none 0 0 (bc []) A2 n2 (nb u)) := Lib.hid ⟨own_nil _ _ _, HB2.out, RdI.of_iv HO3.out (nb_fit hub), fun _ _ _ e => by cases e⟩
          clear hM hur hub hu HO3 HB2
          obtain ⟨i1, hi, hz0, hsz, hby⟩ := inf_parts Try.inf_u8
          have HI1 := Lib.hid hi
          have HZ1 := Lib.hid hz0
          have HSZ1 := Lib.hid hsz
          have HBY1 := Lib.hid hby
          clear hi hz0 hsz hby
          go_wp2_with fail
          clear t0
          go_loopw [7, 8] (fun v i wj => ∃ (A3 : Option Addr) (n3 c3 t : Nat) (L : List UInt8), t ≤ n2 ∧ i = .int .i64 t ∧ v = .slice A3 n3 c3 ∧ Hid (t = 8 * n3) ∧ Hid (unb L = u.take t) ∧ Hid (Two w wj 5 A3 n3 c3 (bc L) A2 n2 (nb u))) (fun _ i _ => n2 - (intOf i).toNat)
          case atStart => exact ⟨none, 0, 0, 0, [], Nat.zero_le _, rfl, rfl, Lib.hid rfl, Lib.hid rfl, HTW⟩
          case round =>
            obtain ⟨A3, n3, c3, t, L, ht, rfl, rfl, HTN, HL3, HTW2⟩ := hrel
            have hn3 : n3 ≤ 500013 := by have := HTN.out; omega
            by_cases hlt3 : t < n2
            · have hbm := byte_more (i := n3) HUL.out HUB.out (by have := HTN.out; have := HM.out; omega) (by rw [← HTN.out]; exact HL3.out)
              rw [← HTN.out] at hbm
              have HBM := Lib.hid hbm
              clear hbm
              have ht8 : t + 8 ≤ n2 := by have := HTN.out; have := HM.out; omega
              go_wp2_with fail
              go_loop [9, 10] (fun v i => ∃ (k x : Nat), k ≤ 8 ∧ x < 256 ∧ i = .int .i64 k ∧ v = .int .i64 x ∧ Hid (x = num2 ((u.drop t).take k))) (fun _ i => 8 - (intOf i).toNat)
              case atStart => exact ⟨0, 0, by omega, by omega, rfl, rfl, Lib.hid rfl⟩
              case round =>
                obtain ⟨k, x, hk, hx, rfl, rfl, HX⟩ := hrel
                by_cases hlk : k < 8
                · obtain ⟨ad, rfl, hab, hcell⟩ := HTW2.out.rd.2.1 (by omega)
                  have hul : t + k < u.length := by have := HUL.out; have := HM.out; omega
                  have hc := hcell (t + k) (by rw [nb_length]; exact hul)
                  rw [nb_getD] at hc
                  obtain ⟨b, hb⟩ : ∃ b, b = u.getD (t + k) 0 := ⟨_, rfl⟩
                  rw [← hb] at hc
                  have hbu : u[t + k]'hul = b := by rw [hb]; simp [List.getD, hul]
                  have hb2 : b < 2 := by rw [← hbu]; exact HUB.out _ (List.getElem_mem hul)
                  have HX2 : Hid (2 * x + b = num2 ((u.drop t).take (k + 1))) := Lib.hid (by
                    rw [List.take_succ_eq_append_getElem (by rw [List.length_drop]; omega), num2_snoc, ← HX.out, List.getElem_drop, hbu])
                  have hx2 : 2 * x + b < 256 := by
                    have h9 := num2_lt (k + 1) ((u.drop t).take (k + 1)) (by rw [List.length_take, List.length_drop]; omega) (fun y hy => HUB.out y (List.mem_of_mem_drop (List.mem_of_mem_take hy)))
                    rw [← HX2.out] at h9
                    have h10 : 2 ^ (k + 1) ≤ 2 ^ 8 := Nat.pow_le_pow_right (by decide) (by omega)
                    omega
                  clear hcell hb hbu
                  go_wp2_with fail
                  go_round
                  case rel => exact ⟨k + 1, 2 * x + b, by omega, hx2, by go_num, by go_num, HX2⟩
                  case measure => simp [intOf]; omega
                · obtain rfl : k = 8 := by omega
                  have HX3 : Hid (unb (L ++ [UInt8.ofNat x]) = u.take (8 * (n3 + 1))) := Lib.hid (by rw [HX.out]; exact HBM.out.2)
                  have hxm : (x : Int) % 256 = x := by omega
                  have HBC : Hid (bc (L ++ [UInt8.ofNat x]) = bc L ++ [.int .u8 x]) := Lib.hid (by
                    rw [bc_append]
                    show bc L ++ [Value.int .u8 ((UInt8.ofNat x).toNat : Int)] = _
                    rw [UInt8.toNat_ofNat', Nat.mod_eq_of_lt (by omega)])
                  have hz3 := HTW2.out.bel.size
                  go_wp2_with (at_builtin; refine wpList_app1L _ rfl _ _ 33 rfl w.heap.size 5 i1 _ 1 Try.underlying33 HI1.out HZ1.out HSZ1.out HBY1.out rfl _ n3 _ rfl (HTW2.out.own.alloc _) ⟨_, 0, none⟩ 1 (.int .u8 x) rfl (new_cell _ _ _) rfl (by omega) (by unfold maxLen; omega) (by simp; omega) ?_; intro A4 c4 w8 hown2 hg2 hw2)
                  have HTW3 := Lib.hid (HTW2.out.push hown2 hg2 hw2)
                  clear hown2 hg2 hw2 hxm
                  go_roundw
                  case rel => exact ⟨A4, n3 + 1, c4, t + 8, L ++ [UInt8.ofNat x], by omega, by go_num, rfl, Lib.hid (by have := HTN.out; omega), Lib.hid (by rw [HX3.out, HTN.out, Nat.mul_succ]), Lib.hid (by rw [HBC.out]; exact HTW3.out)⟩
                  case measure => simp [intOf]; omega
            · obtain rfl : t = n2 := by omega
              have HE : Hid (L = packL zs) := Lib.hid (by
                apply unb_inj
                rw [unb_packL, ← HU.out, HL3.out, List.take_of_length_le]
                have := HUL.out; have := HM.out; omega)
              go_wp2_with fail
              go_ret
              exact ⟨A3, n3, c3, rfl, by rw [← HE.out]; exact HTW2.out.own, HTW2.out.bel⟩

end Go.Proofs.Ytdolmhnajofkoaa
