/- Contract of the reference's text. -/
import Derived.Test.YtahpfbmaaccejaaDoorLexB
namespace Go.Proofs.YtahpfbmaaccejaaDoor
open Go.RowKit

theorem results_tmp4 {fn : Func} {t u v x : Tmp} (h : fn.results = #[.tmp t, .tmp u, .tmp v, .tmp x]) (tmps : Array Value) (P : Program) (w : World) :
    (results fn tmps).run P w = .ok (.tuple #[tmps.getD t undef, tmps.getD u undef, tmps.getD v undef, tmps.getD x undef]) w := by
  simp [results, h]

/-- what text hands back, out of what its bytes come to -/
def txV (T : List UInt8 × Nat × Int × Nat) (i : Nat) : Value := .tuple #[.string (bs T.1), .int .i64 ((if T.2.2.1 = 0 then i + T.2.1 else 0 : Nat) : Int), .int .i64 T.2.2.1, .int .i64 ((if T.2.2.1 = 0 then 0 else i + T.2.2.2 : Nat) : Int)]

theorem txV_bad {T : List UInt8 × Nat × Int × Nat} {i k : Nat} {e : Int} (h : T = ([], 0, e, k)) (he : e ≠ 0) : Value.tuple #[.string (bs []), .int .i64 0, .int .i64 e, .int .i64 ((i + k : Nat) : Int)] = txV T i := by
  unfold txV
  rw [h]
  simp only [if_neg he]
  rfl

theorem txV_ok {T : List UInt8 × Nat × Int × Nat} {i n : Nat} {t : List UInt8} (h : T = (t, n, 0, 0)) : Value.tuple #[.string (bs t), .int .i64 ((i + n : Nat) : Int), .int .i64 0, .int .i64 0] = txV T i := by
  unfold txV
  rw [h]
  rfl

set_option maxRecDepth 100000 in
set_option maxHeartbeats 12800000 in
theorem r9text_any (w : World) (s : ByteArray) (i : Nat) (hi : i < s.size) (hs : (s.size : Int) ≤ 100000) :
    Calls Tryd.prog 37 #[.string s, .int .i64 i] w fun e w' => e = .returned (txV (textF 1 [] (s.data.toList.drop (i + 1))) i) ∧ w = w' := by
  obtain ⟨T, hT⟩ : ∃ T, T = textF 1 [] (s.data.toList.drop (i + 1)) := ⟨_, rfl⟩
  have HT0 : Hid (T = textF (i + 1 - i) [] (s.data.toList.drop (i + 1))) := Lib.hid (by rw [hT, Nat.add_sub_cancel_left])
  rw [← hT]
  clear hT
  have hl : s.data.toList.length = s.size := by rw [Array.length_toList]; rfl
  have HL := Lib.hid hl
  clear hl
  go_enter Tryd.func37, Tryd.ntmps37
  go_wp2_with fail
  go_loopw [8, 9] (fun va vk wr => ∃ (k : Nat) (acc : List UInt8), i + 1 ≤ k ∧ k ≤ s.size ∧ vk = .int .i64 k ∧ va = .string (bs acc) ∧ acc.length ≤ k ∧ Hid (w = wr) ∧ Hid (T = textF (k - i) acc (s.data.toList.drop k))) (fun _ vk _ => s.size - (intOf vk).toNat)
  case atStart => exact ⟨i + 1, [], Nat.le_refl _, hi, by go_num, rfl, Nat.zero_le _, Lib.hid rfl, HT0⟩
  case round =>
    clear HT0
    obtain ⟨k, acc, hik, hk, rfl, rfl, hal, HW, HT⟩ := hrel
    have hw := HW.out
    subst hw
    clear HW
    by_cases hlt : k < s.size
    · have HD : Hid (T = _) := Lib.hid (by rw [HT.out, drop_at hlt, textF_cons])
      have HX := Lib.hid (ext_one hlt)
      have hcl := s[k].toNat_lt
      have hasz : (bs acc).size = acc.length := bs_size acc
      clear HT
      by_cases h10 : (s[k].toNat : Int) = 10
      · have HE : Hid (T = ([], 0, 2, 0)) := Lib.hid (HD.out.trans (if_pos h10))
        have t10 : ((s[k].toNat : Int) == 10) = true := by simpa using h10
        clear h10 HD
        go_wp2_with fail
        (try simp only [Exit.inBlock, Exit.then]); refine bodyPost_ret (results_tmp4 rfl _ _ _) rfl ?_
        exact ⟨congrArg Ending.returned (txV_bad (i := i) HE.out (by decide)), rfl⟩
      · have t10 : ((s[k].toNat : Int) == 10) = false := by simpa using h10
        by_cases h34 : (s[k].toNat : Int) = 34
        · have t34 : ((s[k].toNat : Int) == 34) = true := by simpa using h34
          by_cases hbig : 1024 < acc.length
          · have HE : Hid (T = ([], 0, 3, 0)) := Lib.hid (HD.out.trans ((if_neg h10).trans ((if_pos h34).trans (if_pos hbig))))
            have hb : (1024 : Int) < (acc.length : Int) := by omega
            clear h10 h34 HD hbig
            go_wp2_with fail
            (try simp only [Exit.inBlock, Exit.then]); refine bodyPost_ret (results_tmp4 rfl _ _ _) rfl ?_
            exact ⟨congrArg Ending.returned (txV_bad (i := i) HE.out (by decide)), rfl⟩
          · have HE : Hid (T = (acc, k - i + 1, 0, 0)) := Lib.hid (HD.out.trans ((if_neg h10).trans ((if_pos h34).trans (if_neg hbig))))
            have hb : ¬ (1024 : Int) < (acc.length : Int) := by omega
            have HK : Hid (((i + (k - i + 1) : Nat) : Int) = (k : Int) + 1) := Lib.hid (by omega)
            clear h10 h34 HD hbig
            go_wp2_with fail
            (try simp only [Exit.inBlock, Exit.then]); refine bodyPost_ret (results_tmp4 rfl _ _ _) rfl ?_
            refine ⟨congrArg Ending.returned ?_, rfl⟩
            rw [← txV_ok (i := i) HE.out, HK.out]
            rfl
        · have t34 : ((s[k].toNat : Int) == 34) = false := by simpa using h34
          cases hm : mayB s[k] with
          | false =>
            have HE : Hid (T = ([], 0, 13, k - i)) := Lib.hid (HD.out.trans ((if_neg h10).trans ((if_neg h34).trans (if_pos (.inl hm)))))
            have HM := Lib.hid hm
            have HK : Hid (((i + (k - i) : Nat) : Int) = (k : Int)) := Lib.hid (by omega)
            clear h10 h34 HD hm
            go_wp2_with fail
            refine (r9may_any w s[k]).mono ?_
            rintro e w1 ⟨rfl, rfl⟩
            rw [HM.out]
            go_wp2_with fail
            (try simp only [Exit.inBlock, Exit.then]); refine bodyPost_ret (results_tmp4 rfl _ _ _) rfl ?_
            refine ⟨congrArg Ending.returned ?_, rfl⟩
            rw [← txV_bad (i := i) HE.out (by decide), HK.out]
            rfl
          | true =>
            have HM := Lib.hid hm
            by_cases h9 : (s[k].toNat : Int) = 9
            · have t9 : ((s[k].toNat : Int) == 9) = true := by simpa using h9
              have HE : Hid (T = ([], 0, 13, k - i)) := Lib.hid (HD.out.trans ((if_neg h10).trans ((if_neg h34).trans (if_pos (.inr h9)))))
              have HK : Hid (((i + (k - i) : Nat) : Int) = (k : Int)) := Lib.hid (by omega)
              clear h10 h34 HD hm h9
              go_wp2_with fail
              refine (r9may_any w s[k]).mono ?_
              rintro e w1 ⟨rfl, rfl⟩
              rw [HM.out]
              go_wp2_with fail
              (try simp only [Exit.inBlock, Exit.then]); refine bodyPost_ret (results_tmp4 rfl _ _ _) rfl ?_
              refine ⟨congrArg Ending.returned ?_, rfl⟩
              rw [← txV_bad (i := i) HE.out (by decide), HK.out]
              rfl
            · have t9 : ((s[k].toNat : Int) == 9) = false := by simpa using h9
              have hb : ¬ (mayB s[k] = false ∨ (s[k].toNat : Int) = 9) := by rw [hm]; rintro (h | h); cases h; exact h9 h
              by_cases h92 : (s[k].toNat : Int) = 92
              · have t92 : ((s[k].toNat : Int) != 92) = false := by rw [bne_eq_false_iff_eq]; exact h92
                have HD2 : Hid (T = _) := Lib.hid (HD.out.trans ((if_neg h10).trans ((if_neg h34).trans ((if_neg hb).trans (if_neg (fun h => h h92))))))
                by_cases h1 : k + 1 < s.size
                · have h1i : (k : Int) + 1 < s.size := by omega
                  have HD3 : Hid (T = if (s[k + 1].toNat : Int) = 110 then textF (k - i + 2) (acc ++ [10]) (s.data.toList.drop (k + 1 + 1)) else if (s[k + 1].toNat : Int) = 34 ∨ (s[k + 1].toNat : Int) = 92 then textF (k - i + 2) (acc ++ [s[k + 1]]) (s.data.toList.drop (k + 1 + 1)) else ([], 0, 4, k - i)) := Lib.hid (by
                    rw [HD2.out, drop_at h1])
                  have HX1 := Lib.hid (ext_one h1)
                  have hdl := s[k + 1].toNat_lt
                  have HKK : Hid (k - i + 2 = k + 1 + 1 - i) := Lib.hid (by omega)
                  rw [HKK.out] at HD3
                  clear HD HD2 hm h10 h34 h9 hb h92
                  by_cases h110 : (s[k + 1].toNat : Int) = 110
                  · have u110 : ((s[k + 1].toNat : Int) != 110) = false := by rw [bne_eq_false_iff_eq]; exact h110
                    have v110 : ((s[k + 1].toNat : Int) == 110) = true := by simpa using h110
                    have HE : Hid (T = textF (k + 1 + 1 - i) (acc ++ [10]) (s.data.toList.drop (k + 1 + 1))) := Lib.hid (HD3.out.trans (if_pos h110))
                    have hadd : ∀ W : World, (Op.stringOp .add (bs acc) ⟨#[10]⟩).run Tryd.prog W = .ok (.string (bs (acc ++ [10]))) W := fun W => add_bs9 acc [10] (by omega) (by simp) W
                    clear h110 HD3
                    go_wp2_with fail
                    refine (r9may_any w s[k]).mono ?_
                    rintro e w1 ⟨rfl, rfl⟩
                    rw [HM.out]
                    go_wp2_with fail
                    go_roundw
                    case rel => exact ⟨k + 1 + 1, acc ++ [10], by omega, by omega, by go_num, rfl, by rw [List.length_append, List.length_singleton]; omega, Lib.hid (by trivial), HE⟩
                    case measure => simp [intOf]; omega
                  · have u110 : ((s[k + 1].toNat : Int) != 110) = true := by rw [bne_iff_ne]; exact h110
                    have v110 : ((s[k + 1].toNat : Int) == 110) = false := by simpa using h110
                    have HD4 : Hid (T = _) := Lib.hid (HD3.out.trans (if_neg h110))
                    have hadd : ∀ W : World, (Op.stringOp .add (bs acc) (s.extract (k + 1) (k + 1 + 1))).run Tryd.prog W = .ok (.string (bs (acc ++ [s[k + 1]]))) W := fun W => by
                      rw [HX1.out]
                      exact add_bs9 acc [s[k + 1]] (by omega) (by simp) W
                    clear HD3 h110
                    by_cases g34 : (s[k + 1].toNat : Int) = 34
                    · have u34 : ((s[k + 1].toNat : Int) != 34) = false := by rw [bne_eq_false_iff_eq]; exact g34
                      have HE : Hid (T = textF (k + 1 + 1 - i) (acc ++ [s[k + 1]]) (s.data.toList.drop (k + 1 + 1))) := Lib.hid (HD4.out.trans (if_pos (.inl g34)))
                      clear g34 HD4
                      go_wp2_with fail
                      refine (r9may_any w s[k]).mono ?_
                      rintro e w1 ⟨rfl, rfl⟩
                      rw [HM.out]
                      go_wp2_with fail
                      go_roundw
                      case rel => exact ⟨k + 1 + 1, acc ++ [s[k + 1]], by omega, by omega, by go_num, rfl, by rw [List.length_append, List.length_singleton]; omega, Lib.hid (by trivial), HE⟩
                      case measure => simp [intOf]; omega
                    · have u34 : ((s[k + 1].toNat : Int) != 34) = true := by rw [bne_iff_ne]; exact g34
                      by_cases g92 : (s[k + 1].toNat : Int) = 92
                      · have u92 : ((s[k + 1].toNat : Int) != 92) = false := by rw [bne_eq_false_iff_eq]; exact g92
                        have HE : Hid (T = textF (k + 1 + 1 - i) (acc ++ [s[k + 1]]) (s.data.toList.drop (k + 1 + 1))) := Lib.hid (HD4.out.trans (if_pos (.inr g92)))
                        clear g34 g92 HD4
                        go_wp2_with fail
                        refine (r9may_any w s[k]).mono ?_
                        rintro e w1 ⟨rfl, rfl⟩
                        rw [HM.out]
                        go_wp2_with fail
                        go_roundw
                        case rel => exact ⟨k + 1 + 1, acc ++ [s[k + 1]], by omega, by omega, by go_num, rfl, by rw [List.length_append, List.length_singleton]; omega, Lib.hid (by trivial), HE⟩
                        case measure => simp [intOf]; omega
                      · have u92 : ((s[k + 1].toNat : Int) != 92) = true := by rw [bne_iff_ne]; exact g92
                        have HE : Hid (T = ([], 0, 4, k - i)) := Lib.hid (HD4.out.trans (if_neg (by rintro (h | h); exact g34 h; exact g92 h)))
                        have HK : Hid (((i + (k - i) : Nat) : Int) = (k : Int)) := Lib.hid (by omega)
                        clear g34 g92 HD4
                        go_wp2_with fail
                        refine (r9may_any w s[k]).mono ?_
                        rintro e w1 ⟨rfl, rfl⟩
                        rw [HM.out]
                        go_wp2_with fail
                        (try simp only [Exit.inBlock, Exit.then]); refine bodyPost_ret (results_tmp4 rfl _ _ _) rfl ?_
                        refine ⟨congrArg Ending.returned ?_, rfl⟩
                        rw [← txV_bad (i := i) HE.out (by decide), HK.out]
                        rfl
                · have h1i : ¬ (k : Int) + 1 < s.size := by omega
                  have HE : Hid (T = ([], 0, 4, k - i)) := Lib.hid (by rw [HD2.out, List.drop_of_length_le (by rw [HL.out]; omega)])
                  have HK : Hid (((i + (k - i) : Nat) : Int) = (k : Int)) := Lib.hid (by omega)
                  clear HD HD2 hm h10 h34 h9 hb h92
                  go_wp2_with fail
                  refine (r9may_any w s[k]).mono ?_
                  rintro e w1 ⟨rfl, rfl⟩
                  rw [HM.out]
                  go_wp2_with fail
                  (try simp only [Exit.inBlock, Exit.then]); refine bodyPost_ret (results_tmp4 rfl _ _ _) rfl ?_
                  refine ⟨congrArg Ending.returned ?_, rfl⟩
                  rw [← txV_bad (i := i) HE.out (by decide), HK.out]
                  rfl
              · have t92 : ((s[k].toNat : Int) != 92) = true := by rw [bne_iff_ne]; exact h92
                have HE : Hid (T = textF (k + 1 - i) (acc ++ [s[k]]) (s.data.toList.drop (k + 1))) := Lib.hid (by
                  rw [HD.out.trans ((if_neg h10).trans ((if_neg h34).trans ((if_neg hb).trans (if_pos h92)))), show k - i + 1 = k + 1 - i from by omega])
                have hadd : ∀ W : World, (Op.stringOp .add (bs acc) (s.extract k (k + 1))).run Tryd.prog W = .ok (.string (bs (acc ++ [s[k]]))) W := fun W => by
                  rw [HX.out]
                  exact add_bs9 acc [s[k]] (by omega) (by simp) W
                clear h10 h34 HD hm h9 hb h92
                go_wp2_with fail
                refine (r9may_any w s[k]).mono ?_
                rintro e w1 ⟨rfl, rfl⟩
                rw [HM.out]
                go_wp2_with fail
                go_roundw
                case rel => exact ⟨k + 1, acc ++ [s[k]], by omega, by omega, by go_num, rfl, by rw [List.length_append, List.length_singleton]; omega, Lib.hid (by trivial), HE⟩
                case measure => simp [intOf]; omega
    · have HE : Hid (T = ([], 0, 2, 0)) := Lib.hid (by rw [HT.out, List.drop_of_length_le (by rw [HL.out]; omega)]; rfl)
      go_wp2_with fail
      (try simp only [Exit.inBlock, Exit.then]); refine bodyPost_ret (results_tmp4 rfl _ _ _) rfl ?_
      exact ⟨congrArg Ending.returned (txV_bad (i := i) HE.out (by decide)), rfl⟩

end Go.Proofs.YtahpfbmaaccejaaDoor
