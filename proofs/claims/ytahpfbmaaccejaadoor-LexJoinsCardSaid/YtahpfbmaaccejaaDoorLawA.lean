/- The walks of the statements LexKeys, LexAll and LexQuotes. -/
import Derived.Test.YtahpfbmaaccejaaDoorAwake9
namespace Go.Proofs.YtahpfbmaaccejaaDoor
open Go.RowKit

set_option maxRecDepth 100000 in
set_option maxHeartbeats 6400000 in
theorem keys_walk (s : ByteArray) (w : World) (hP : Pw w) :
    Calls Tryd.prog 3 #[.string s] w fun e w' => e = .returned (.bool true) ∧ Below w.heap.size w w' := by
  have HP := Lib.hid hP
  clear hP
  by_cases hn : (s.size : Int) ≤ 100
  · obtain ⟨q, hq⟩ : ∃ q, q = keyB s.data.toList := ⟨_, rfl⟩
    obtain ⟨k, hk⟩ : ∃ k, k = dirN s.data.toList := ⟨_, rfl⟩
    have HQ := Lib.hid hq
    have HK := Lib.hid hk
    have t1 : (q == q) = true := by simp
    have t2 : ((k : Int) == k) = true := by simp
    clear hq hk
    go_enter Tryd.func3, Tryd.ntmps3
    go_wp2_with fail
    refine (Key_any w s).mono ?_
    rintro e w1 ⟨rfl, hb1⟩
    rw [← HQ.out]
    have HB1 := Lib.hid hb1
    clear hb1
    go_wp2_with fail
    refine (r9Key_any w1 s).mono ?_
    rintro e w2 ⟨rfl, rfl⟩
    rw [← HQ.out]
    go_wp2_with fail
    refine (Dir_any w1 s).mono ?_
    rintro e w2 ⟨rfl, hb2⟩
    rw [← HK.out]
    have HB2 := Lib.hid (HB1.out.trans (hb2.mono HB1.out.size))
    clear hb2
    go_wp2_with fail
    refine (r9Dir_any w2 s).mono ?_
    rintro e w3 ⟨rfl, rfl⟩
    rw [← HK.out]
    go_wp2_with fail
    refine (awake_any w2 (HP.out.below HB2.out (Nat.le_refl _))).mono ?_
    rintro e w9 ⟨rfl, hb9⟩
    have HB9 := Lib.hid (HB2.out.trans (hb9.mono HB2.out.size))
    clear hb9
    go_wp2_with fail
    go_ret
    exact ⟨rfl, HB9.out⟩
  · have hbig : (100 : Int) < s.size := by omega
    go_enter Tryd.func3, Tryd.ntmps3
    go_wp2_with fail
    refine (awake_any w HP.out).mono ?_
    rintro e w1 ⟨rfl, hb1⟩
    go_wp2_with fail
    go_ret
    exact ⟨rfl, hb1⟩

theorem lexF_len9 (keys : List UInt8 → Bool) (src : List UInt8) : ∀ (f i : Nat) (out : List Tk), i ≤ src.length → out.length ≤ i → (lexF keys src f i out).1.length ≤ src.length + 1 := by
  intro f
  induction f with
  | zero => intro i out _ _; exact Nat.zero_le _
  | succ f ih =>
    intro i out h1 h2
    obtain ⟨g, ok, hg⟩ : ∃ g ok, gapF false (src.drop i) = (g, ok) := ⟨_, _, rfl⟩
    have hgl := gapF_len (src.drop i) false
    rw [hg, List.length_drop] at hgl
    change g ≤ _ at hgl
    cases ok with
    | false => rw [lexF_gap hg]; exact Nat.zero_le _
    | true =>
      by_cases hk : src.length ≤ i + g
      · rw [lexF_stop hg hk]
        show (out ++ [_]).length ≤ _
        rw [List.length_append, List.length_singleton]
        omega
      · obtain ⟨t, n, e, wh, ho⟩ : ∃ t n e wh, oneTk keys (src.drop (i + g)) = (t, n, e, wh) := ⟨_, _, _, _, rfl⟩
        obtain ⟨q1, _⟩ := oneTk_facts keys (fun h => by have := congrArg List.length h; rw [List.length_drop, List.length_nil] at this; omega) ho
        rw [List.length_drop] at q1
        by_cases he : e = 0
        · subst he
          obtain ⟨n1, n2, _⟩ := q1 rfl
          by_cases hc : out.length = 16384
          · rw [lexF_many hg (by omega) ho hc]; exact Nat.zero_le _
          · rw [lexF_go hg (by omega) ho hc]
            exact ih _ _ (by omega) (by rw [List.length_append, List.length_singleton]; omega)
        · rw [lexF_err hg (by omega) ho he]; exact Nat.zero_le _

theorem lexL_len (keys : List UInt8 → Bool) (src : List UInt8) : (lexL keys src).1.length ≤ src.length + 1 := by
  unfold lexL
  split
  · exact Nat.zero_le _
  · exact lexF_len9 keys src _ 0 [] (Nat.zero_le _) (Nat.zero_le _)

set_option maxRecDepth 100000 in
set_option maxHeartbeats 6400000 in
theorem all_walk (s : ByteArray) (w : World) (hP : Pw w) :
    Calls Tryd.prog 4 #[.string s] w fun e w' => e = .returned (.bool true) ∧ Below w.heap.size w w' := by
  have HP := Lib.hid hP
  clear hP
  by_cases hn : (s.size : Int) ≤ 600
  · have hll := lexL_len keyB s.data.toList
    rw [show s.data.toList.length = s.size from by rw [Array.length_toList]; rfl] at hll
    obtain ⟨⟨ts, a, b, d⟩, hR⟩ : ∃ R, R = lexL keyB s.data.toList := ⟨_, rfl⟩
    rw [← hR] at hll
    have HR := Lib.hid hR
    have r5 : ∀ (x y : Operand) (W : World), (eqGuard .eql 28 x y (.agg #[.int .i64 a, .int .i64 b, .int .i64 d]) (.agg #[.int .i64 a, .int .i64 b, .int .i64 d])).run Tryd.prog W = .ok () W := fun x y W => guard_fail .eql x y (a, b, d) (a, b, d) W
    have r6 : ∀ W : World, (binOp .eql 28 (.agg #[.int .i64 a, .int .i64 b, .int .i64 d]) (.agg #[.int .i64 a, .int .i64 b, .int .i64 d])).run Tryd.prog W = .ok (.bool true) W := fun W => by
      have h := run_eql_fail (a, b, d) (a, b, d) W
      rw [decide_eq_true rfl] at h
      exact h
    clear hR
    go_enter Tryd.func4, Tryd.ntmps4
    go_wp2_with fail
    refine (All_any w s (by omega) HP.out).mono ?_
    rintro e w1 ⟨A, n, c, he, ho, hb⟩
    rw [← HR.out] at he ho
    subst he
    have hn1 := ownT_len ho
    have HO := Lib.hid ho
    have HB := Lib.hid hb
    clear ho hb
    go_wp2_with (refine wpList_store_row rfl 28 _ _ rfl w1.heap.size #[.int .i64 a, .int .i64 b, .int .i64 d] rfl rfl _ _ (Blk.new w1 _ _) fail_size rfl (three_ints _ _ _) ?_; obtain ⟨V1, hV1⟩ : ∃ V, V = (w1.alloc (.cells #[.int .i64 0, .int .i64 0, .int .i64 0] 28)).setRow w1.heap.size #[.int .i64 a, .int .i64 b, .int .i64 d] := ⟨_, rfl⟩; rw [← hV1]; obtain ⟨hkV1, hbV1⟩ := put_tok hV1; have HKV1 := Lib.hid hkV1; have HBV1 := Lib.hid hbV1; clear hV1 hkV1 hbV1)
    refine (r9All_any V1 s (by omega)).mono ?_
    rintro e w2 ⟨A2, n2, c2, he, ho2, hb2⟩
    rw [← HR.out] at he ho2
    subst he
    have hn2 := ownT_len ho2
    have HM2 := Lib.hid ho2
    have HB2 := Lib.hid hb2
    clear ho2 hb2
    have HO2 := Lib.hid (own_below (own_below HO.out HBV1.out) HB2.out)
    have HBX := Lib.hid ((HB.out.trans (HBV1.out.mono HB.out.size)).trans (HB2.out.mono (HB.out.trans (HBV1.out.mono HB.out.size)).size))
    have HK2 := Lib.hid (HKV1.out.below HB2.out HKV1.out.lt)
    go_wp2_with (refine wpList_store_row rfl 28 _ _ rfl w2.heap.size #[.int .i64 a, .int .i64 b, .int .i64 d] rfl rfl _ _ (Blk.new w2 _ _) fail_size rfl (three_ints _ _ _) ?_; obtain ⟨V2, hV2⟩ : ∃ V, V = (w2.alloc (.cells #[.int .i64 0, .int .i64 0, .int .i64 0] 28)).setRow w2.heap.size #[.int .i64 a, .int .i64 b, .int .i64 d] := ⟨_, rfl⟩; rw [← hV2]; obtain ⟨hkV2, hbV2⟩ := put_tok hV2; have HKV2 := Lib.hid hkV2; have HBV2 := Lib.hid hbV2; clear hV2 hkV2 hbV2; have HO3 := Lib.hid (own_below HO2.out HBV2.out); have HBY := Lib.hid (HBX.out.trans (HBV2.out.mono HBX.out.size)); have HK3 := Lib.hid (HK2.out.below HBV2.out HK2.out.lt); have p0 : V2.cell? ⟨w1.heap.size, 0, none⟩ = some (.int .i64 a) := HK3.out.cell 0; have p1 : V2.cell? ⟨w1.heap.size, 1, none⟩ = some (.int .i64 b) := HK3.out.cell 1; have p2 : V2.cell? ⟨w1.heap.size, 2, none⟩ = some (.int .i64 d) := HK3.out.cell 2; have q0 : V2.cell? ⟨w2.heap.size, 0, none⟩ = some (.int .i64 a) := HKV2.out.cell 0; have q1 : V2.cell? ⟨w2.heap.size, 1, none⟩ = some (.int .i64 b) := HKV2.out.cell 1; have q2 : V2.cell? ⟨w2.heap.size, 2, none⟩ = some (.int .i64 d) := HKV2.out.cell 2; have HM3 := Lib.hid (own_below HM2.out HBV2.out))
    clear p0 p1 p2 q0 q1 q2
    refine (sameToks_any V2 A A2 n c n2 c2 ts ts (RdT.of_own HO3.out) (RdT.of_own HM3.out) (by omega) (by omega)).mono ?_
    rintro e w3 ⟨rfl, hb3⟩
    rw [decide_eq_true rfl]
    have HB3 := Lib.hid (HBY.out.trans (hb3.mono HBY.out.size))
    have HK4 := Lib.hid (HK3.out.below hb3 HK3.out.lt)
    have HK5 := Lib.hid (HKV2.out.below hb3 HKV2.out.lt)
    clear hb3
    have p0 : w3.cell? ⟨w1.heap.size, 0, none⟩ = some (.int .i64 a) := HK4.out.cell 0
    have p1 : w3.cell? ⟨w1.heap.size, 1, none⟩ = some (.int .i64 b) := HK4.out.cell 1
    have p2 : w3.cell? ⟨w1.heap.size, 2, none⟩ = some (.int .i64 d) := HK4.out.cell 2
    have q0 : w3.cell? ⟨w2.heap.size, 0, none⟩ = some (.int .i64 a) := HK5.out.cell 0
    have q1 : w3.cell? ⟨w2.heap.size, 1, none⟩ = some (.int .i64 b) := HK5.out.cell 1
    have q2 : w3.cell? ⟨w2.heap.size, 2, none⟩ = some (.int .i64 d) := HK5.out.cell 2
    go_wp2_with fail
    refine (awake_any w3 (HP.out.below HB3.out (Nat.le_refl _))).mono ?_
    rintro e w9 ⟨rfl, hb9⟩
    have HB9 := Lib.hid (HB3.out.trans (hb9.mono HB3.out.size))
    clear hb9
    go_wp2_with fail
    go_ret
    exact ⟨rfl, HB9.out⟩
  · have hbig : (600 : Int) < s.size := by omega
    go_enter Tryd.func4, Tryd.ntmps4
    go_wp2_with fail
    refine (awake_any w HP.out).mono ?_
    rintro e w1 ⟨rfl, hb1⟩
    go_wp2_with fail
    go_ret
    exact ⟨rfl, hb1⟩

end Go.Proofs.YtahpfbmaaccejaaDoor
