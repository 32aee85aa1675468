/- Contracts of the program's nextText, next. -/
import Derived.Test.YtahpfbmaaccejaaDoorLexR
import Derived.WalkMore
import Derived.Test.YtahpfbmaaccejaaDoorInfo
namespace Go.Proofs.YtahpfbmaaccejaaDoor
open Go.RowKit

/-- a text's end -/
def finT (k : Nat) (acc : List UInt8) : List UInt8 × Nat × Int × Nat := if 1024 < acc.length then ([], 0, 3, 0) else (acc, k, 0, 0)

theorem text_feed {k : Nat} {acc : List UInt8} {c : UInt8} {r : List UInt8} (h : (c.toNat : Int) = 10) : textF k acc (c :: r) = ([], 0, 2, 0) := (textF_cons ..).trans (if_pos h)
theorem text_quo {k : Nat} {acc : List UInt8} {c : UInt8} {r : List UInt8} (h : (c.toNat : Int) = 34) : textF k acc (c :: r) = finT (k + 1) acc := (textF_cons ..).trans ((if_neg (by omega)).trans (if_pos h))
theorem may_pr {c : UInt8} (h10 : ¬ (c.toNat : Int) = 10) : (mayB c = false ∨ (c.toNat : Int) = 9) ↔ prB c = false := by
  unfold mayB prB
  simp
  omega
theorem text_bad {k : Nat} {acc : List UInt8} {c : UInt8} {r : List UInt8} (h10 : ¬ (c.toNat : Int) = 10) (h34 : ¬ (c.toNat : Int) = 34) (h : prB c = false) : textF k acc (c :: r) = ([], 0, 13, k) :=
  (textF_cons ..).trans ((if_neg h10).trans ((if_neg h34).trans (if_pos ((may_pr h10).mpr h))))
theorem text_on {k : Nat} {acc : List UInt8} {c : UInt8} {r : List UInt8} (h10 : ¬ (c.toNat : Int) = 10) (h34 : ¬ (c.toNat : Int) = 34) (h92 : ¬ (c.toNat : Int) = 92) (h : prB c = true) : textF k acc (c :: r) = textF (k + 1) (acc ++ [c]) r :=
  (textF_cons ..).trans ((if_neg h10).trans ((if_neg h34).trans ((if_neg (fun h2 => by rw [(may_pr h10).mp h2] at h; cases h)).trans (if_pos h92))))
theorem text_esc {k : Nat} {acc : List UInt8} {c : UInt8} {r : List UInt8} (h92 : (c.toNat : Int) = 92) : textF k acc (c :: r) = if (escL r).2 = true then textF (k + 2) (acc ++ [(escL r).1]) (r.drop 1) else ([], 0, 4, k) := by
  have h10 : ¬ (c.toNat : Int) = 10 := by omega
  have h34 : ¬ (c.toNat : Int) = 34 := by omega
  have hp : prB c = true := by unfold prB; simp; omega
  have e := (textF_cons k acc c r).trans ((if_neg h10).trans ((if_neg h34).trans ((if_neg (fun h2 => by rw [(may_pr h10).mp h2] at hp; cases hp)).trans (if_neg (fun h => h h92)))))
  rw [e]
  cases r with
  | nil => rfl
  | cons d r =>
    have e1 : escL (d :: r) = if (d.toNat : Int) = 110 then (10, true) else if (d.toNat : Int) = 34 ∨ (d.toNat : Int) = 92 then (d, true) else (0, false) := rfl
    rw [e1, List.drop_succ_cons, List.drop_zero]
    by_cases h1 : (d.toNat : Int) = 110
    · rw [if_pos h1, if_pos rfl]; exact if_pos h1
    · by_cases h2 : (d.toNat : Int) = 34 ∨ (d.toNat : Int) = 92
      · rw [if_neg h1, if_pos h2, if_pos rfl]; exact (if_neg h1).trans (if_pos h2)
      · rw [if_neg h1, if_neg h2, if_neg (show ¬ (false = true) by decide)]; exact (if_neg h1).trans (if_neg h2)

set_option maxRecDepth 100000 in
set_option maxHeartbeats 12800000 in
theorem nextText_any (w : World) (s : ByteArray) (h0 : 0 < s.size) (hq : (s[0].toNat : Int) = 34) (hs : (s.size : Int) ≤ 100000) :
    Calls Tryd.prog 34 #[.string s] w fun e w' => NxOut (oneTk keyB s.data.toList) e ∧ Below w.heap.size w w' := by
  have hl : s.data.toList.length = s.size := by rw [Array.length_toList]; rfl
  have hd := drop_at h0
  rw [List.drop_zero] at hd
  obtain ⟨T, hT⟩ : ∃ T, T = oneTk keyB s.data.toList := ⟨_, rfl⟩
  obtain ⟨X, hX⟩ : ∃ X, X = textF 1 [] (s.data.toList.drop 1) := ⟨_, rfl⟩
  have HT : Hid (T = (⟨3, X.1, 0, 0, 0⟩, X.2.1, X.2.2.1, X.2.2.2)) := Lib.hid (by rw [hT, hX, hd]; exact one_t hq)
  have HX := Lib.hid hX
  rw [← hT]
  obtain ⟨i0, hi, hz0, hsz, hby⟩ := inf_parts Tryd.inf_u8
  have HI := Lib.hid hi
  have HZ0 := Lib.hid hz0
  have HSZ := Lib.hid hsz
  have HBY := Lib.hid hby
  clear hi hz0 hsz hby hT hX hd hl hq
  obtain ⟨W, hW⟩ : ∃ W, W = w.alloc (.cells #[.int .i64 0, .string ⟨#[]⟩, .int .i64 0, .int .i64 0, .int .i64 0] 34) := ⟨_, rfl⟩
  have HK : Hid (Blk W w.heap.size 34 #[.int .i64 0, .string ⟨#[]⟩, .int .i64 0, .int .i64 0, .int .i64 0]) := Lib.hid (by rw [hW]; exact Blk.new _ _ _)
  have HB : Hid (Below w.heap.size w W) := Lib.hid (by rw [hW]; exact (Below.refl _ _).alloc (Nat.le_refl _) _)
  have hwW : W.heap.size = w.heap.size + 1 := by rw [hW]; simp
  go_enter Tryd.func34, Tryd.ntmps34
  go_wp2_with fail
  go_step3
  go_wp2_with fail
  go_step3
  go_wp2_with fail
  rw [← hW]
  clear hW
  go_loopw [5, 6, 7] (fun vc vk vb wr => ∃ (A : Option Addr) (n c k : Nat) (b : Bool) (acc : List UInt8), vc = .slice A n c ∧ vk = .int .i64 k ∧ vb = .bool b ∧ 1 ≤ k ∧ k ≤ s.size ∧ n ≤ k ∧ Hid (wr.ownsRow W.heap.size 5 1 (.slice A n c) n (bc acc)) ∧ Hid (Below W.heap.size W wr) ∧ Hid (X = if b = true then finT k acc else textF k acc (s.data.toList.drop k))) (fun _ vk _ _ => s.size + 1 - (intOf vk).toNat)
  case atStart => exact ⟨none, 0, 0, 1, false, [], rfl, rfl, rfl, Nat.le_refl _, h0, Nat.zero_le _, Lib.hid (own_nil _ _ _), Lib.hid (Below.refl _ _), Lib.hid (by rw [HX.out]; rfl)⟩
  case round =>
    clear HX
    obtain ⟨A, n, c, k, b, acc, rfl, rfl, rfl, hk1, hk, hnk, HO, HB, HX⟩ := hrel
    have hwr := HB.out.size
    have HKR := Lib.hid (HK.out.below HB.out HK.out.lt)
    have hal : acc.length = n := own_len HO.out
    have HBR := Lib.hid (Below.trans ‹Hid (Below w.heap.size w W)›.out (HB.out.mono (by omega)))
    have HAL := Lib.hid hal
    clear hal
    cases b with
    | true =>
      have HF : Hid (X = finT k acc) := Lib.hid (by rw [HX.out]; rfl)
      clear HX
      by_cases hlt : k < s.size
      · have hlti : (k : Int) < (s.size : Int) := by omega
        by_cases h9 : 1024 < n
        · have HE : Hid (T = _) := Lib.hid (HT.out.trans (by rw [HF.out, show finT k acc = _ from if_pos (by rw [HAL.out]; exact h9)]))
          have h9i : (1024 : Int) < (n : Int) := by omega
          clear HF h9
          go_wp2_with (refine wpList_store_row rfl 34 _ _ rfl w.heap.size #[.int .i64 0, .string ⟨#[]⟩, .int .i64 0, .int .i64 0, .int .i64 0] rfl rfl _ _ HKR.out tok_size rfl (five_one _ _ _ _ _) ?_)
          (try rw [Exit.noGoto_ret]); (try simp only [Exit.inBlock, Exit.then]); refine bodyPost_ret (results_c2 rfl _ _ _ _ _ _ _ rfl (setRow_heap _ _ _ _ _ _ HKR.out) Tryd.underlying34 rfl (by kernel_rfl)) rfl ?_
          exact ⟨nx_err HE.out (by decide) _ rfl _ rfl, below_setRow HBR.out (Nat.le_refl _) _⟩
        · have HE : Hid (T = _) := Lib.hid (HT.out.trans (by rw [HF.out, show finT k acc = _ from if_neg (by rw [HAL.out]; exact h9)]))
          have h9i : ¬ (1024 : Int) < (n : Int) := by omega
          have hcv := Rd.toStr (P := Tryd.prog) (Rd.of_own HO.out) 48 9 5 c Tryd.underlying48 Tryd.underlying5 Tryd.underlying9
          have hbi : ((bs acc).size : Int) ≤ 1000000 := by rw [bs_size, HAL.out]; omega
          clear HF h9
          go_wp2_with fail
          refine (token_any wr 3 (bs acc) hbi).mono ?_
          rintro e w2 ⟨rfl, hb⟩
          have HK2 := Lib.hid (HKR.out.below hb HKR.out.lt)
          have HB2 := Lib.hid (HBR.out.trans (hb.mono HBR.out.size))
          clear hb
          go_wp2_with (refine wpList_store_row rfl 34 _ _ rfl w.heap.size #[.int .i64 3, .string (bs acc), .int .i64 0, .int .i64 0, .int .i64 0] rfl rfl _ _ HK2.out tok_size rfl (five_one _ _ _ _ _) ?_)
          (try rw [Exit.noGoto_ret]); (try simp only [Exit.inBlock, Exit.then]); refine bodyPost_ret (results_c2 rfl _ _ _ _ _ _ _ rfl (setRow_heap _ _ _ _ _ _ HK2.out) Tryd.underlying34 rfl (by kernel_rfl)) rfl ?_
          exact ⟨nx_ok HE.out _ (tk_agg 3 _ _ 0 rfl) _ rfl, below_setRow HB2.out (Nat.le_refl _) _⟩
      · have hlti : ¬ (k : Int) < (s.size : Int) := by omega
        by_cases h9 : 1024 < n
        · have HE : Hid (T = _) := Lib.hid (HT.out.trans (by rw [HF.out, show finT k acc = _ from if_pos (by rw [HAL.out]; exact h9)]))
          have h9i : (1024 : Int) < (n : Int) := by omega
          clear HF h9
          go_wp2_with (refine wpList_store_row rfl 34 _ _ rfl w.heap.size #[.int .i64 0, .string ⟨#[]⟩, .int .i64 0, .int .i64 0, .int .i64 0] rfl rfl _ _ HKR.out tok_size rfl (five_one _ _ _ _ _) ?_)
          (try rw [Exit.noGoto_ret]); (try simp only [Exit.inBlock, Exit.then]); refine bodyPost_ret (results_c2 rfl _ _ _ _ _ _ _ rfl (setRow_heap _ _ _ _ _ _ HKR.out) Tryd.underlying34 rfl (by kernel_rfl)) rfl ?_
          exact ⟨nx_err HE.out (by decide) _ rfl _ rfl, below_setRow HBR.out (Nat.le_refl _) _⟩
        · have HE : Hid (T = _) := Lib.hid (HT.out.trans (by rw [HF.out, show finT k acc = _ from if_neg (by rw [HAL.out]; exact h9)]))
          have h9i : ¬ (1024 : Int) < (n : Int) := by omega
          have hcv := Rd.toStr (P := Tryd.prog) (Rd.of_own HO.out) 48 9 5 c Tryd.underlying48 Tryd.underlying5 Tryd.underlying9
          have hbi : ((bs acc).size : Int) ≤ 1000000 := by rw [bs_size, HAL.out]; omega
          clear HF h9
          go_wp2_with fail
          refine (token_any wr 3 (bs acc) hbi).mono ?_
          rintro e w2 ⟨rfl, hb⟩
          have HK2 := Lib.hid (HKR.out.below hb HKR.out.lt)
          have HB2 := Lib.hid (HBR.out.trans (hb.mono HBR.out.size))
          clear hb
          go_wp2_with (refine wpList_store_row rfl 34 _ _ rfl w.heap.size #[.int .i64 3, .string (bs acc), .int .i64 0, .int .i64 0, .int .i64 0] rfl rfl _ _ HK2.out tok_size rfl (five_one _ _ _ _ _) ?_)
          (try rw [Exit.noGoto_ret]); (try simp only [Exit.inBlock, Exit.then]); refine bodyPost_ret (results_c2 rfl _ _ _ _ _ _ _ rfl (setRow_heap _ _ _ _ _ _ HK2.out) Tryd.underlying34 rfl (by kernel_rfl)) rfl ?_
          exact ⟨nx_ok HE.out _ (tk_agg 3 _ _ 0 rfl) _ rfl, below_setRow HB2.out (Nat.le_refl _) _⟩
    | false =>
      have HF : Hid (X = textF k acc (s.data.toList.drop k)) := Lib.hid (by rw [HX.out]; rfl)
      clear HX
      by_cases hlt : k < s.size
      · have HD := Lib.hid (drop_at hlt)
        have hcl := s[k].toNat_lt
        by_cases h10 : (s[k].toNat : Int) = 10
        · have HE : Hid (T = _) := Lib.hid (HT.out.trans (by rw [HF.out, HD.out, text_feed h10]))
          have t10 : ((s[k].toNat : Int) == 10) = true := by simpa using h10
          clear h10
          go_wp2_with (refine wpList_store_row rfl 34 _ _ rfl w.heap.size #[.int .i64 0, .string ⟨#[]⟩, .int .i64 0, .int .i64 0, .int .i64 0] rfl rfl _ _ HKR.out tok_size rfl (five_one _ _ _ _ _) ?_)
          (try rw [Exit.noGoto_ret]); (try simp only [Exit.inBlock, Exit.then]); refine bodyPost_ret (results_c2 rfl _ _ _ _ _ _ _ rfl (setRow_heap _ _ _ _ _ _ HKR.out) Tryd.underlying34 rfl (by kernel_rfl)) rfl ?_
          exact ⟨nx_err HE.out (by decide) _ rfl _ rfl, below_setRow HBR.out (Nat.le_refl _) _⟩
        · have t10 : ((s[k].toNat : Int) == 10) = false := by simpa using h10
          by_cases h34 : (s[k].toNat : Int) = 34
          · have t34 : ((s[k].toNat : Int) == 34) = true := by simpa using h34
            have HN : Hid (X = finT (k + 1) acc) := Lib.hid (by rw [HF.out, HD.out, text_quo h34])
            clear h10 h34 HF
            go_wp2_with fail
            go_roundw
            case rel => exact ⟨A, n, c, k + 1, true, acc, rfl, by go_num, rfl, by omega, by omega, by omega, HO, HB, Lib.hid (by rw [HN.out]; rfl)⟩
            case measure => simp [intOf]; omega
          · have t34 : ((s[k].toNat : Int) == 34) = false := by simpa using h34
            by_cases h92 : (s[k].toNat : Int) = 92
            · have t92 : ((s[k].toNat : Int) == 92) = true := by simpa using h92
              obtain ⟨⟨x, ok⟩, hx⟩ : ∃ p, p = escL (s.data.toList.drop (k + 1)) := ⟨_, rfl⟩
              have hk2 : k + 1 ≤ s.size := hlt
              have HES : Hid (X = if ok = true then textF (k + 2) (acc ++ [x]) (s.data.toList.drop (k + 1 + 1)) else ([], 0, 4, k)) := Lib.hid (by rw [HF.out, HD.out, text_esc h92, ← hx, List.drop_drop])
              have hesc : ∀ W, Calls Tryd.prog 49 #[.string (s.extract (k + 1) s.size)] W fun e w' => e = .returned (.tuple #[.int .u8 (x.toNat : Int), .bool ok]) ∧ W = w' := fun W => by
                have h := pEsc_any W (s.extract (k + 1) s.size)
                have e : (s.extract (k + 1) s.size).data.toList = s.data.toList.drop (k + 1) := by
                  have := ext_list s (k + 1) (s.size - (k + 1))
                  rw [Nat.add_sub_cancel' hk2, List.take_of_length_le (by rw [List.length_drop, Array.length_toList]; exact Nat.le_refl _)] at this
                  exact this
                rw [e, ← hx] at h
                exact h
              have hk3 : ((k : Int) + 1) ≤ (s.size : Int) := by omega
              have hlen2 : ok = true → k + 2 ≤ s.size := fun h => by
                rcases Nat.lt_or_ge (k + 1) s.size with h2 | h2
                · exact h2
                · rw [List.drop_of_length_le (by rw [Array.length_toList]; exact h2)] at hx
                  injection hx with _ hx
                  rw [hx] at h
                  cases h
              have HL2 := Lib.hid hlen2
              clear h10 h34 h92 HF hx hlen2
              cases ok with
              | true =>
                have hk4 : k + 2 ≤ s.size := HL2.out rfl
                have HN : Hid (X = textF (k + 2) (acc ++ [x]) (s.data.toList.drop (k + 2))) := Lib.hid (by rw [HES.out]; rfl)
                clear HES HL2
                go_wp2_with fail
                refine (hesc _).mono ?_
                rintro e w3 ⟨rfl, rfl⟩
                go_wp2_with (at_builtin; refine wpList_app _ rfl _ _ 48 rfl W.heap.size 5 i0 Tryd.underlying48 HI.out HZ0.out HSZ.out HBY.out _ n acc rfl (HO.out.alloc _) _ _ 1 1 [x] rfl (Rd.one wr x _) (by omega) (by simp; omega) ?_; intro A8 c8 w8 hown8 hg8; have HO8 := Lib.hid hown8; have HB8 := Lib.hid (app_below HO.out HB.out hg8); clear hown8 hg8)
                go_roundw
                case rel => exact ⟨A8, n + 1, c8, k + 2, false, acc ++ [x], rfl, by go_num, rfl, by omega, hk4, by omega, HO8, HB8, Lib.hid (by rw [HN.out]; rfl)⟩
                case measure => simp [intOf]; omega
              | false =>
                have HE : Hid (T = _) := Lib.hid (HT.out.trans (by rw [HES.out, if_neg (show ¬ (false = true) by decide)]))
                clear HES HL2
                go_wp2_with fail
                refine (hesc _).mono ?_
                rintro e w3 ⟨rfl, rfl⟩
                go_wp2_with (refine wpList_store_row rfl 34 _ _ rfl w.heap.size #[.int .i64 0, .string ⟨#[]⟩, .int .i64 0, .int .i64 0, .int .i64 0] rfl rfl _ _ HKR.out tok_size rfl (five_one _ _ _ _ _) ?_)
                (try rw [Exit.noGoto_ret]); (try simp only [Exit.inBlock, Exit.then]); refine bodyPost_ret (results_c2 rfl _ _ _ _ _ _ _ rfl (setRow_heap _ _ _ _ _ _ HKR.out) Tryd.underlying34 rfl (by kernel_rfl)) rfl ?_
                exact ⟨nx_err HE.out (by decide) _ rfl _ rfl, below_setRow HBR.out (Nat.le_refl _) _⟩
            · have t92 : ((s[k].toNat : Int) == 92) = false := by simpa using h92
              obtain ⟨p, hp⟩ : ∃ p, p = prB s[k] := ⟨_, rfl⟩
              have hpr : ∀ W, Calls Tryd.prog 22 #[.int .u8 (s[k].toNat : Int)] W fun e w' => e = .returned (.bool p) ∧ W = w' := fun W => by rw [hp]; exact pPrint_any W s[k]
              cases p with
              | true =>
                have HN : Hid (X = textF (k + 1) (acc ++ [s[k]]) (s.data.toList.drop (k + 1))) := Lib.hid (by rw [HF.out, HD.out, text_on h10 h34 h92 hp.symm])
                clear h10 h34 h92 HF hp
                go_wp2_with fail
                refine (hpr _).mono ?_
                rintro e w3 ⟨rfl, rfl⟩
                go_wp2_with (at_builtin; refine wpList_app _ rfl _ _ 48 rfl W.heap.size 5 i0 Tryd.underlying48 HI.out HZ0.out HSZ.out HBY.out _ n acc rfl (HO.out.alloc _) _ _ 1 1 [s[k]] rfl (Rd.one wr s[k] _) (by omega) (by simp; omega) ?_; intro A8 c8 w8 hown8 hg8; have HO8 := Lib.hid hown8; have HB8 := Lib.hid (app_below HO.out HB.out hg8); clear hown8 hg8)
                go_roundw
                case rel => exact ⟨A8, n + 1, c8, k + 1, false, acc ++ [s[k]], rfl, by go_num, rfl, by omega, by omega, by omega, HO8, HB8, Lib.hid (by rw [HN.out]; rfl)⟩
                case measure => simp [intOf]; omega
              | false =>
                have HE : Hid (T = _) := Lib.hid (HT.out.trans (by rw [HF.out, HD.out, text_bad h10 h34 hp.symm]))
                clear h10 h34 h92 HF hp
                go_wp2_with fail
                refine (hpr _).mono ?_
                rintro e w3 ⟨rfl, rfl⟩
                go_wp2_with (refine wpList_store_row rfl 34 _ _ rfl w.heap.size #[.int .i64 0, .string ⟨#[]⟩, .int .i64 0, .int .i64 0, .int .i64 0] rfl rfl _ _ HKR.out tok_size rfl (five_one _ _ _ _ _) ?_)
                (try rw [Exit.noGoto_ret]); (try simp only [Exit.inBlock, Exit.then]); refine bodyPost_ret (results_c2 rfl _ _ _ _ _ _ _ rfl (setRow_heap _ _ _ _ _ _ HKR.out) Tryd.underlying34 rfl (by kernel_rfl)) rfl ?_
                exact ⟨nx_err HE.out (by decide) _ rfl _ rfl, below_setRow HBR.out (Nat.le_refl _) _⟩
      · obtain rfl : k = s.size := by omega
        have HE : Hid (T = (⟨3, [], 0, 0, 0⟩, 0, 2, 0)) := Lib.hid (by rw [HT.out, HF.out, List.drop_of_length_le (by rw [Array.length_toList]; exact Nat.le_refl _)]; rfl)
        go_wp2_with (refine wpList_store_row rfl 34 _ _ rfl w.heap.size #[.int .i64 0, .string ⟨#[]⟩, .int .i64 0, .int .i64 0, .int .i64 0] rfl rfl _ _ HKR.out tok_size rfl (five_one _ _ _ _ _) ?_)
        (try rw [Exit.noGoto_ret]); (try simp only [Exit.inBlock, Exit.then]); refine bodyPost_ret (results_c2 rfl _ _ _ _ _ _ _ rfl (setRow_heap _ _ _ _ _ _ HKR.out) Tryd.underlying34 rfl (by kernel_rfl)) rfl ?_
        exact ⟨nx_err HE.out (by decide) _ rfl _ rfl, below_setRow HBR.out (Nat.le_refl _) _⟩

set_option maxRecDepth 100000 in
set_option maxHeartbeats 6400000 in
theorem next_any (w : World) (s : ByteArray) (h0 : 0 < s.size) (hs : (s.size : Int) ≤ 100000) (hP : Pw w) :
    Calls Tryd.prog 24 #[.string s] w fun e w' => NxOut (oneTk keyB s.data.toList) e ∧ Below w.heap.size w w' := by
  have HP := Lib.hid hP
  clear hP
  obtain ⟨T, hT⟩ : ∃ T, T = oneTk keyB s.data.toList := ⟨_, rfl⟩
  have HT := Lib.hid hT
  obtain ⟨W, hW⟩ : ∃ W, W = w.alloc (.cells #[.int .i64 0, .string ⟨#[]⟩, .int .i64 0, .int .i64 0, .int .i64 0] 34) := ⟨_, rfl⟩
  have HK : Hid (Blk W w.heap.size 34 #[.int .i64 0, .string ⟨#[]⟩, .int .i64 0, .int .i64 0, .int .i64 0]) := Lib.hid (by rw [hW]; exact Blk.new _ _ _)
  have HB : Hid (Below w.heap.size w W) := Lib.hid (by rw [hW]; exact (Below.refl _ _).alloc (Nat.le_refl _) _)
  have HPW : Hid (Pw W) := Lib.hid (by rw [hW]; exact HP.out.alloc _)
  obtain ⟨S, hS⟩ : ∃ S, S = isSm s[0] := ⟨_, rfl⟩
  obtain ⟨G, hG⟩ : ∃ G, G = isDg s[0] := ⟨_, rfl⟩
  have csm : ∀ W, Calls Tryd.prog 30 #[.int .u8 (s[0].toNat : Int)] W fun e w' => e = .returned (.bool S) ∧ W = w' := fun W => by rw [hS]; exact pSmall_any W s[0]
  have cdg : ∀ W, Calls Tryd.prog 32 #[.int .u8 (s[0].toNat : Int)] W fun e w' => e = .returned (.bool G) ∧ W = w' := fun W => by rw [hG]; exact pDigit_any W s[0]
  rw [← hT]
  cases S with
  | true =>
    have hn : ∀ W, Calls Tryd.prog 31 #[.string s] W fun e w' => NxOut T e ∧ Below W.heap.size W w' := fun W => by rw [hT]; exact nextWord_any W s h0 hS.symm hs
    clear hT hS hG
    go_enter Tryd.func24, Tryd.ntmps24
    go_wp2_with fail
    rw [← hW]
    clear hW
    refine (csm _).mono ?_
    rintro e w1 ⟨rfl, rfl⟩
    go_wp2_with fail
    refine (hn _).mono ?_
    rintro e w2 ⟨⟨⟨k1, k2, k3, k4, k5⟩, m, rfl, q1, q2⟩, hb⟩
    have HQ : Hid (NxOut T (.returned (.tuple #[tkV ⟨k1, k2, k3, k4, k5⟩, .int .i64 m, .int .i64 T.2.2.1]))) := Lib.hid ⟨⟨k1, k2, k3, k4, k5⟩, m, rfl, q1, q2⟩
    clear q1 q2
    obtain ⟨er, her⟩ : ∃ er, er = T.2.2.1 := ⟨_, rfl⟩
    rw [← her] at HQ ⊢
    clear her
    have HK2 := Lib.hid (HK.out.below hb HK.out.lt)
    have HB2 := Lib.hid (HB.out.trans (hb.mono HB.out.size))
    clear hb
    go_wp2_with (refine wpList_store_row rfl 34 _ _ rfl w.heap.size #[.int .i64 k1, .string (bs k2), .int .i64 k3, .int .i64 k4, .int .i64 k5] rfl rfl _ _ HK2.out tok_size rfl (five_one _ _ _ _ _) ?_)
    (try rw [Exit.noGoto_ret]); (try simp only [Exit.inBlock, Exit.then]); refine bodyPost_ret (results_c2 rfl _ _ _ _ _ _ _ rfl (setRow_heap _ _ _ _ _ _ HK2.out) Tryd.underlying34 rfl (by kernel_rfl)) rfl ?_
    exact ⟨HQ.out, below_setRow HB2.out (Nat.le_refl _) _⟩
  | false =>
    cases G with
    | true =>
      have hn : ∀ W, Pw W → Calls Tryd.prog 33 #[.string s] W fun e w' => NxOut T e ∧ Below W.heap.size W w' := fun W hW => by rw [hT]; exact nextNumber_any W s h0 hG.symm hs hW
      clear hT hS hG
      go_enter Tryd.func24, Tryd.ntmps24
      go_wp2_with fail
      rw [← hW]
      clear hW
      refine (csm _).mono ?_
      rintro e w1 ⟨rfl, rfl⟩
      go_wp2_with fail
      refine (cdg _).mono ?_
      rintro e w1 ⟨rfl, rfl⟩
      go_wp2_with fail
      refine (hn _ HPW.out).mono ?_
      rintro e w2 ⟨⟨⟨k1, k2, k3, k4, k5⟩, m, rfl, q1, q2⟩, hb⟩
      have HQ : Hid (NxOut T (.returned (.tuple #[tkV ⟨k1, k2, k3, k4, k5⟩, .int .i64 m, .int .i64 T.2.2.1]))) := Lib.hid ⟨⟨k1, k2, k3, k4, k5⟩, m, rfl, q1, q2⟩
      clear q1 q2
      obtain ⟨er, her⟩ : ∃ er, er = T.2.2.1 := ⟨_, rfl⟩
      rw [← her] at HQ ⊢
      clear her
      have HK2 := Lib.hid (HK.out.below hb HK.out.lt)
      have HB2 := Lib.hid (HB.out.trans (hb.mono HB.out.size))
      clear hb
      go_wp2_with (refine wpList_store_row rfl 34 _ _ rfl w.heap.size #[.int .i64 k1, .string (bs k2), .int .i64 k3, .int .i64 k4, .int .i64 k5] rfl rfl _ _ HK2.out tok_size rfl (five_one _ _ _ _ _) ?_)
      (try rw [Exit.noGoto_ret]); (try simp only [Exit.inBlock, Exit.then]); refine bodyPost_ret (results_c2 rfl _ _ _ _ _ _ _ rfl (setRow_heap _ _ _ _ _ _ HK2.out) Tryd.underlying34 rfl (by kernel_rfl)) rfl ?_
      exact ⟨HQ.out, below_setRow HB2.out (Nat.le_refl _) _⟩
    | false =>
      by_cases h34 : (s[0].toNat : Int) = 34
      · have hn : ∀ W, Calls Tryd.prog 34 #[.string s] W fun e w' => NxOut T e ∧ Below W.heap.size W w' := fun W => by rw [hT]; exact nextText_any W s h0 h34 hs
        have t34 : ((s[0].toNat : Int) == 34) = true := by simpa using h34
        clear hT hS hG h34
        go_enter Tryd.func24, Tryd.ntmps24
        go_wp2_with fail
        rw [← hW]
        clear hW
        refine (csm _).mono ?_
        rintro e w1 ⟨rfl, rfl⟩
        go_wp2_with fail
        refine (cdg _).mono ?_
        rintro e w1 ⟨rfl, rfl⟩
        go_wp2_with fail
        refine (hn _).mono ?_
        rintro e w2 ⟨⟨⟨k1, k2, k3, k4, k5⟩, m, rfl, q1, q2⟩, hb⟩
        have HQ : Hid (NxOut T (.returned (.tuple #[tkV ⟨k1, k2, k3, k4, k5⟩, .int .i64 m, .int .i64 T.2.2.1]))) := Lib.hid ⟨⟨k1, k2, k3, k4, k5⟩, m, rfl, q1, q2⟩
        clear q1 q2
        obtain ⟨er, her⟩ : ∃ er, er = T.2.2.1 := ⟨_, rfl⟩
        rw [← her] at HQ ⊢
        clear her
        have HK2 := Lib.hid (HK.out.below hb HK.out.lt)
        have HB2 := Lib.hid (HB.out.trans (hb.mono HB.out.size))
        clear hb
        go_wp2_with (refine wpList_store_row rfl 34 _ _ rfl w.heap.size #[.int .i64 k1, .string (bs k2), .int .i64 k3, .int .i64 k4, .int .i64 k5] rfl rfl _ _ HK2.out tok_size rfl (five_one _ _ _ _ _) ?_)
        (try rw [Exit.noGoto_ret]); (try simp only [Exit.inBlock, Exit.then]); refine bodyPost_ret (results_c2 rfl _ _ _ _ _ _ _ rfl (setRow_heap _ _ _ _ _ _ HK2.out) Tryd.underlying34 rfl (by kernel_rfl)) rfl ?_
        exact ⟨HQ.out, below_setRow HB2.out (Nat.le_refl _) _⟩
      · have hn : ∀ W, Calls Tryd.prog 35 #[.string s] W fun e w' => NxOut T e ∧ Below W.heap.size W w' := fun W => by rw [hT]; exact nextSign_any W s h0 h34 hG.symm hS.symm hs
        have t34 : ((s[0].toNat : Int) == 34) = false := by simpa using h34
        clear hT hS hG h34
        go_enter Tryd.func24, Tryd.ntmps24
        go_wp2_with fail
        rw [← hW]
        clear hW
        refine (csm _).mono ?_
        rintro e w1 ⟨rfl, rfl⟩
        go_wp2_with fail
        refine (cdg _).mono ?_
        rintro e w1 ⟨rfl, rfl⟩
        go_wp2_with fail
        refine (hn _).mono ?_
        rintro e w2 ⟨⟨⟨k1, k2, k3, k4, k5⟩, m, rfl, q1, q2⟩, hb⟩
        have HQ : Hid (NxOut T (.returned (.tuple #[tkV ⟨k1, k2, k3, k4, k5⟩, .int .i64 m, .int .i64 T.2.2.1]))) := Lib.hid ⟨⟨k1, k2, k3, k4, k5⟩, m, rfl, q1, q2⟩
        clear q1 q2
        obtain ⟨er, her⟩ : ∃ er, er = T.2.2.1 := ⟨_, rfl⟩
        rw [← her] at HQ ⊢
        clear her
        have HK2 := Lib.hid (HK.out.below hb HK.out.lt)
        have HB2 := Lib.hid (HB.out.trans (hb.mono HB.out.size))
        clear hb
        go_wp2_with (refine wpList_store_row rfl 34 _ _ rfl w.heap.size #[.int .i64 k1, .string (bs k2), .int .i64 k3, .int .i64 k4, .int .i64 k5] rfl rfl _ _ HK2.out tok_size rfl (five_one _ _ _ _ _) ?_)
        (try rw [Exit.noGoto_ret]); (try simp only [Exit.inBlock, Exit.then]); refine bodyPost_ret (results_c2 rfl _ _ _ _ _ _ _ rfl (setRow_heap _ _ _ _ _ _ HK2.out) Tryd.underlying34 rfl (by kernel_rfl)) rfl ?_
        exact ⟨HQ.out, below_setRow HB2.out (Nat.le_refl _) _⟩

end Go.Proofs.YtahpfbmaaccejaaDoor
