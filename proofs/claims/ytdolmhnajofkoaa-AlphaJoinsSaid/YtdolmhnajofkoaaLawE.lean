/- The walk of the statement AlphaJoins. -/
import Derived.Test.YtdolmhnajofkoaaLawC
namespace Go.Proofs.Ytdolmhnajofkoaa
open Go.RowKit

theorem eqI_codes (a b : List UInt8) : eqI (codes a) (codes b) = decide (a = b) := by
  unfold eqI
  by_cases h : a = b
  · subst h; simp
  · rw [decide_eq_false h, decide_eq_false]
    exact fun e => h (codes_inj e)

theorem textB_app {a b : List UInt8} (ha : textB a = true) (hb : textB b = true) (h : a.length + b.length ≤ 1024) : textB (a ++ b) = true := by
  unfold textB at *
  simp only [Bool.and_eq_true, decide_eq_true_eq] at *
  exact ⟨by rw [List.length_append]; omega, by rw [List.all_append, ha.2, hb.2]; rfl⟩

set_option maxRecDepth 100000 in
set_option maxHeartbeats 6400000 in
theorem joins_main (a b : ByteArray) (w : World) (ha : (a.size : Int) ≤ 500) (hb : (b.size : Int) ≤ 500) (ta : textB a.data.toList = true) (tb : textB b.data.toList = true) :
    Calls Try.prog 8 #[.string a, .string b] w fun e w' => e = .returned (.bool true) ∧ Below w.heap.size w w' := by
  obtain ⟨i0, hi, hz0, hsz, hby⟩ := inf_parts Try.inf_int
  have HI := Lib.hid hi
  have HZ0 := Lib.hid hz0
  have HSZ := Lib.hid hsz
  have HBY := Lib.hid hby
  clear hi hz0 hsz hby
  have hla : a.data.toList.length = a.size := by rw [Array.length_toList]; rfl
  have hlb : b.data.toList.length = b.size := by rw [Array.length_toList]; rfl
  have hab : (a ++ b).data.toList = a.data.toList ++ b.data.toList := by simp
  have hsab : (a ++ b).size = a.size + b.size := by simp
  have tab : textB (a ++ b).data.toList = true := by rw [hab]; exact textB_app ta tb (by omega)
  have ea : Hid (cdZ a.data.toList = codes a.data.toList ∧ cdE a.data.toList = 0) := Lib.hid ⟨by unfold cdZ; rw [if_pos ta], by unfold cdE; rw [if_pos ta]⟩
  have eb : Hid (cdZ b.data.toList = codes b.data.toList ∧ cdE b.data.toList = 0) := Lib.hid ⟨by unfold cdZ; rw [if_pos tb], by unfold cdE; rw [if_pos tb]⟩
  have eab : Hid (cdZ (a ++ b).data.toList = codes a.data.toList ++ codes b.data.toList ∧ cdE (a ++ b).data.toList = 0) := Lib.hid ⟨by unfold cdZ; rw [if_pos tab, hab, codes_append], by unfold cdE; rw [if_pos tab]⟩
  have ec : Hid (costL (a ++ b).data.toList = costL a.data.toList + costL b.data.toList) := Lib.hid (by rw [hab, costL_append])
  have la : Hid ((codes a.data.toList).length ≤ 1500) := Lib.hid (by have := (codes_len a.data.toList).2; omega)
  have lb : Hid ((codes b.data.toList).length ≤ 1500) := Lib.hid (by have := (codes_len b.data.toList).2; omega)
  have ka : costL a.data.toList ≤ 1500 := by have := costL_le a.data.toList; omega
  have kb : costL b.data.toList ≤ 1500 := by have := costL_le b.data.toList; omega
  have HTA := Lib.hid ta
  have HTB := Lib.hid tb
  have HSAB := Lib.hid hsab
  have ES := Lib.hid (eqI_self (codes a.data.toList ++ codes b.data.toList))
  obtain ⟨q, hq⟩ : ∃ q, q = (a.toList == b.toList) := ⟨_, rfl⟩
  have EC : Hid (eqI (codes a.data.toList) (codes b.data.toList) = q) := Lib.hid (by
    rw [eqI_codes, hq, Lib.toList_data, Lib.toList_data]
    by_cases h : a.data.toList = b.data.toList
    · rw [h]; simp
    · rw [decide_eq_false h, Eq.comm, beq_eq_false_iff_ne]; exact h)
  have HQ := Lib.hid hq.symm
  clear hq
  clear ta tb tab hab hsab hla hlb
  have hadd : ∀ w9 : World, (Op.stringOp .add a b).run Try.prog w9 = .ok (.string (a ++ b)) w9 := by
    intro w9
    simp [Op.stringOp]
    omega
  go_enter Try.func8, Try.ntmps8
  go_wp2_with fail
  refine (rtext_any w a (by omega)).mono ?_
  rintro e w1 ⟨rfl, rfl⟩
  rw [HTA.out]
  go_wp2_with fail
  refine (rtext_any w b (by omega)).mono ?_
  rintro e w1 ⟨rfl, rfl⟩
  rw [HTB.out]
  go_wp2_with fail
  refine (codes_any w a (by omega)).mono ?_
  rintro e w1 ⟨A1, n1, c1, rfl, ho1, hb1⟩
  rw [ea.out.1] at ho1
  rw [ea.out.2]
  have HO1 := Lib.hid ho1
  have HB1 := Lib.hid hb1
  clear ho1 hb1
  go_wp2_with fail
  refine (codes_any w1 b (by omega)).mono ?_
  rintro e w2 ⟨A2, n2, c2, rfl, ho2, hb2⟩
  rw [eb.out.1] at ho2
  rw [eb.out.2]
  have HO1 := Lib.hid (own_below HO1.out hb2)
  have HO2 := Lib.hid ho2
  have HB2 := Lib.hid (HB1.out.trans (hb2.mono HB1.out.size))
  clear ho2 hb2 HB1
  go_wp2_with fail
  refine (codes_any w2 (a ++ b) (by rw [HSAB.out]; omega)).mono ?_
  rintro e w3 ⟨A3, n3, c3, rfl, ho3, hb3⟩
  rw [eab.out.1] at ho3
  rw [eab.out.2]
  have hn1 : n1 ≤ 1500 := by have := ownI_len HO1.out; have := la.out; omega
  have hn2 : n2 ≤ 1500 := by have := ownI_len HO2.out; have := lb.out; omega
  have hn3 : n3 ≤ 3000 := by have := ownI_len ho3; rw [List.length_append] at this; have := la.out; have := lb.out; omega
  have R1 := Lib.hid (RdI.of_iv (own_below HO1.out hb3) (codes_fit _))
  have R2 := Lib.hid (RdI.of_iv (own_below HO2.out hb3) (codes_fit _))
  have R3 := Lib.hid (RdI.of_iv ho3 (FitI.of_mem (by
    intro z hz
    rcases List.mem_append.1 hz with hz | hz
    · have := codes_range _ z hz; omega
    · have := codes_range _ z hz; omega)))
  have HB3 := Lib.hid (HB2.out.trans (hb3.mono HB2.out.size))
  clear ho3 hb3 HB2 HO1 HO2
  go_wp2_with (at_builtin; first
    | (refine wpList_appI _ rfl _ _ 23 rfl w3.heap.size 3 i0 Try.underlying23 HI.out HZ0.out HSZ.out HBY.out (.slice none 0 0) 0 [] rfl (ownI_nil _ _ _) _ A1 n1 c1 _ rfl R1.out (by omega) (Nat.le_refl _) ?_; intro A4 c4 w4 hown4 hg4 _; simp only [Nat.zero_add, List.nil_append] at hown4; have HO4 := Lib.hid hown4; have HB4 : Hid (Below w3.heap.size w3 w4) := Lib.hid (app_below0 (ownI_nil w3 _ 3) (Below.refl _ _) hg4); clear hown4 hg4)
    | (refine wpList_appI _ rfl _ _ 23 rfl w3.heap.size 3 i0 Try.underlying23 HI.out HZ0.out HSZ.out HBY.out _ _ _ rfl HO4.out _ A2 n2 c2 _ rfl (R2.out.below HB4.out) (by omega) HB4.out.size ?_; intro A5 c5 w5 hown5 hg5 _; have HO5 := Lib.hid hown5; have HB5 : Hid (Below w3.heap.size w3 w5) := Lib.hid (app_below0 HO4.out HB4.out hg5); clear hown5 hg5))
  have hr5 := RdI.of_iv HO5.out R3.out.2.2
  have R5 := Lib.hid hr5
  have R3 := Lib.hid (R3.out.below HB5.out)
  have R1 := Lib.hid (R1.out.below HB5.out)
  have R2 := Lib.hid (R2.out.below HB5.out)
  have HB6 := Lib.hid (HB3.out.trans (HB5.out.mono HB3.out.size))
  clear hr5 HO4 HB4 HO5 HB3
  refine (same6_any w5 _ _ A5 A3 _ n3 c5 c3 _ _ R5.out R3.out (by omega) (by omega)).mono ?_
  rintro e w6 ⟨rfl, hb6⟩
  rw [ES.out]
  have R1 := Lib.hid (R1.out.below (hb6.mono HB5.out.size))
  have R2 := Lib.hid (R2.out.below (hb6.mono HB5.out.size))
  have HB7 := Lib.hid (HB6.out.trans (hb6.mono HB6.out.size))
  clear hb6 HB5 HB6
  go_wp2_with fail
  refine (same6_any w6 _ _ A1 A2 n1 n2 c1 c2 _ _ R1.out R2.out (by omega) (by omega)).mono ?_
  rintro e w7 ⟨rfl, hb7⟩
  rw [EC.out]
  have hq := HQ.out
  have HB8 := Lib.hid (HB7.out.trans (hb7.mono HB7.out.size))
  clear hb7 HB7
  go_wp2_with fail
  clear hq
  refine (cost_any w7 (a ++ b) (by rw [HSAB.out]; omega)).mono ?_
  rintro e w8 ⟨rfl, hb8⟩
  rw [ec.out]
  have HB9 := Lib.hid (HB8.out.trans (hb8.mono HB8.out.size))
  clear hb8 HB8
  go_wp2_with fail
  refine (cost_any w8 a (by omega)).mono ?_
  rintro e w9 ⟨rfl, hb9⟩
  have HB10 := Lib.hid (HB9.out.trans (hb9.mono HB9.out.size))
  clear hb9 HB9
  obtain ⟨ca, hca⟩ : ∃ ca, ca = costL a.data.toList := ⟨_, rfl⟩
  obtain ⟨cb, hcb⟩ : ∃ cb, cb = costL b.data.toList := ⟨_, rfl⟩
  rw [← hca, ← hcb]
  rw [← hca] at ka
  rw [← hcb] at kb
  have HCB := Lib.hid hcb.symm
  clear hca hcb
  go_wp2_with fail
  refine (cost_any w9 b (by omega)).mono ?_
  rintro e w10 ⟨rfl, hb10⟩
  rw [HCB.out]
  have HB11 := Lib.hid (HB10.out.trans (hb10.mono HB10.out.size))
  clear hb10 HB10
  go_wp2_with fail
  refine (awake_any _).mono ?_
  rintro e w11 ⟨rfl, hb11⟩
  go_wp2_with fail
  go_ret
  exact ⟨rfl, HB11.out.trans (hb11.mono HB11.out.size)⟩

set_option maxRecDepth 100000 in
set_option maxHeartbeats 1600000 in
theorem joins_walk (a b : ByteArray) (w : World) :
    Calls Try.prog 8 #[.string a, .string b] w fun e w' => e = .returned (.bool true) ∧ Below w.heap.size w w' := by
  by_cases ha : (a.size : Int) ≤ 500
  · by_cases hb : (b.size : Int) ≤ 500
    · by_cases ta : textB a.data.toList = true
      · by_cases tb : textB b.data.toList = true
        · exact joins_main a b w ha hb ta tb
        · have HTA := Lib.hid ta
          have HTB : Hid (textB b.data.toList = false) := Lib.hid (by rw [Bool.not_eq_true] at tb; exact tb)
          clear ta tb
          go_enter Try.func8, Try.ntmps8
          go_wp2_with fail
          refine (rtext_any w a (by omega)).mono ?_
          rintro e w1 ⟨rfl, rfl⟩
          rw [HTA.out]
          go_wp2_with fail
          refine (rtext_any w b (by omega)).mono ?_
          rintro e w1 ⟨rfl, rfl⟩
          rw [HTB.out]
          go_wp2_with fail
          refine (awake_any _).mono ?_
          rintro e w4 ⟨rfl, hb4⟩
          go_wp2_with fail
          go_ret
          exact ⟨rfl, hb4⟩
      · have HTA : Hid (textB a.data.toList = false) := Lib.hid (by rw [Bool.not_eq_true] at ta; exact ta)
        clear ta
        go_enter Try.func8, Try.ntmps8
        go_wp2_with fail
        refine (rtext_any w a (by omega)).mono ?_
        rintro e w1 ⟨rfl, rfl⟩
        rw [HTA.out]
        go_wp2_with fail
        refine (awake_any _).mono ?_
        rintro e w4 ⟨rfl, hb4⟩
        go_wp2_with fail
        go_ret
        exact ⟨rfl, hb4⟩
    · go_enter Try.func8, Try.ntmps8
      go_wp2_with fail
      refine (awake_any _).mono ?_
      rintro e w4 ⟨rfl, hb4⟩
      go_wp2_with fail
      go_ret
      exact ⟨rfl, hb4⟩
  · go_enter Try.func8, Try.ntmps8
    go_wp2_with fail
    refine (awake_any _).mono ?_
    rintro e w4 ⟨rfl, hb4⟩
    go_wp2_with fail
    go_ret
    exact ⟨rfl, hb4⟩

end Go.Proofs.Ytdolmhnajofkoaa
