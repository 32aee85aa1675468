/- Contracts of the program's nextSign. -/
import Derived.Test.YtahpfbmaaccejaaDoorLexO
import Derived.Lib.IndexAny
namespace Go.Proofs.YtahpfbmaaccejaaDoor
open Go.RowKit

theorem indexB_any (c : UInt8) : ∃ I : Int, (c ∈ signs1 → 0 ≤ I) ∧ (c ∉ signs1 → I < 0) ∧ ∀ W, Calls Tryd.prog 50 #[.string ⟨#[40, 41, 123, 125, 44, 59, 46, 124, 47, 43, 45, 42, 37, 61, 60, 62]⟩, .int .u8 (c.toNat : Int)] W fun e w' => e = .returned (.int .i64 I) ∧ W = w' := by
  have hc := Lib.contains_iff_indexByte signs1 c
  refine ⟨Lib.indexByte signs1 c, fun h => ?_, fun h => ?_, fun W => ?_⟩
  · have h2 : signs1.contains c = true := by simpa using h
    rw [h2] at hc
    exact of_decide_eq_true hc.symm
  · have h2 : signs1.contains c = false := by simpa using h
    rw [h2] at hc
    have := of_decide_eq_false hc.symm
    omega
  · have h := Any.strings_IndexByte ibxLays ⟨#[40, 41, 123, 125, 44, 59, 46, 124, 47, 43, 45, 42, 37, 61, 60, 62]⟩ (c.toNat : Int) W
    refine h.mono fun e w2 ⟨h1, h2⟩ => ⟨?_, h2.symm⟩
    rw [h1]
    have e1 : ((c.toNat : Int)).toNat.toUInt8 = c := by simp
    rw [e1]
    rfl

theorem sg_len {s : ByteArray} {n : Nat} (h : n ≤ s.size) : (s.extract 0 n).size = n := by rw [ByteArray.size_extract]; omega
theorem bs_ext0 (s : ByteArray) (n : Nat) : s.extract 0 n = bs (s.data.toList.take n) := by have := bs_ext s 0 n; rw [Nat.zero_add] at this; exact this

set_option maxRecDepth 100000 in
set_option maxHeartbeats 12800000 in
theorem nextSign_any (w : World) (s : ByteArray) (h0 : 0 < s.size) (hq : ¬ (s[0].toNat : Int) = 34) (hdg : isDg s[0] = false) (hsm : isSm s[0] = false) (hs : (s.size : Int) ≤ 100000) :
    Calls Tryd.prog 35 #[.string s] w fun e w' => NxOut (oneTk keyB s.data.toList) e ∧ Below w.heap.size w w' := by
  have hd := drop_at h0
  rw [List.drop_zero] at hd
  have HD := Lib.hid hd
  obtain ⟨T, hT⟩ : ∃ T, T = oneTk keyB s.data.toList := ⟨_, rfl⟩
  rw [← hT]
  have HT := Lib.hid hT
  clear hT
  obtain ⟨I, i1, i2, hidx⟩ := indexB_any s[0]
  obtain ⟨W, hW⟩ : ∃ W, W = w.alloc (.cells #[.int .i64 0, .string ⟨#[]⟩, .int .i64 0, .int .i64 0, .int .i64 0] 34) := ⟨_, rfl⟩
  have HK : Hid (Blk W w.heap.size 34 #[.int .i64 0, .string ⟨#[]⟩, .int .i64 0, .int .i64 0, .int .i64 0]) := Lib.hid (by rw [hW]; exact Blk.new _ _ _)
  have HB : Hid (Below w.heap.size w W) := Lib.hid (by rw [hW]; exact (Below.refl _ _).alloc (Nat.le_refl _) _)
  by_cases h2 : 1 < s.size
  · have h2i : (2 : Int) ≤ (s.size : Int) := by omega
    have E2 := ext_two (s := s) (i := 0) h2
    rw [Nat.zero_add] at E2
    have HD1 := Lib.hid (drop_at h2)
    have HTK : Hid ((s[0] :: s.data.toList.drop (0 + 1)).take 2 = [s[0], s[0 + 1]]) := Lib.hid (by rw [HD1.out]; rfl)
    have hmin : min (2 : Int) (s.size : Int) = 2 := by omega
    have hmin2 : min 2 s.size = 2 := by omega
    have hx2 : (s.extract 0 2).size = 2 := sg_len (by omega)
    by_cases hp : (s.extract 0 2).toList = [61, 61] ∨ (s.extract 0 2).toList = [33, 61] ∨ (s.extract 0 2).toList = [60, 61] ∨ (s.extract 0 2).toList = [62, 61]
    · have HE : Hid (T = (⟨5, s.data.toList.take 2, 0, 0, 0⟩, 2, 0, 0)) := Lib.hid (by
        have hg : signL (s[0] :: s.data.toList.drop (0 + 1)) = 2 := by rw [HD1.out]; exact sign_two (by rw [← E2]; exact hp)
        have := one_g (keys := keyB) hq hdg hsm (by rw [hg]; decide)
        rw [hg, ← HD.out] at this
        exact HT.out.trans this)
      have HXB : Hid (s.extract 0 2 = bs (s.data.toList.take 2)) := Lib.hid (bs_ext0 s 2)
      have hxi : ((s.extract 0 2).size : Int) ≤ 1000000 := by rw [hx2]; omega
      clear E2 i1 i2 hq hdg hsm HTK HD1
      have h9 : ((s.extract 0 2).toList = [61, 61]) ∨ (¬ (s.extract 0 2).toList = [61, 61] ∧ (s.extract 0 2).toList = [33, 61]) ∨ (¬ (s.extract 0 2).toList = [61, 61] ∧ ¬ (s.extract 0 2).toList = [33, 61] ∧ (s.extract 0 2).toList = [60, 61]) ∨ (¬ (s.extract 0 2).toList = [61, 61] ∧ ¬ (s.extract 0 2).toList = [33, 61] ∧ ¬ (s.extract 0 2).toList = [60, 61] ∧ (s.extract 0 2).toList = [62, 61]) := by
        rcases hp with h | h | h | h
        · exact .inl h
        · exact .inr (.inl ⟨by rw [h]; decide, h⟩)
        · exact .inr (.inr (.inl ⟨by rw [h]; decide, by rw [h]; decide, h⟩))
        · exact .inr (.inr (.inr ⟨by rw [h]; decide, by rw [h]; decide, by rw [h]; decide, h⟩))
      clear hp
      rcases h9 with p1 | ⟨p1, p2⟩ | ⟨p1, p2, p3⟩ | ⟨p1, p2, p3, p4⟩
      all_goals
        go_enter Tryd.func35, Tryd.ntmps35
        go_wp2_with fail
        rw [← hW]
        clear hW
        refine (token_any _ 5 (s.extract 0 2) hxi).mono ?_
        rintro e w2 ⟨rfl, hb⟩
        have HK2 := Lib.hid (HK.out.below hb HK.out.lt)
        have HB2 := Lib.hid (HB.out.trans (hb.mono HB.out.size))
        clear hb
        go_wp2_with (refine wpList_store_row rfl 34 _ _ rfl w.heap.size #[.int .i64 5, .string (s.extract 0 2), .int .i64 0, .int .i64 0, .int .i64 0] rfl rfl _ _ HK2.out tok_size rfl (five_one _ _ _ _ _) ?_)
        (try simp only [Exit.inBlock, Exit.then]); refine bodyPost_ret (results_c2 rfl _ _ _ _ _ _ _ rfl (setRow_heap _ _ _ _ _ _ HK2.out) Tryd.underlying34 rfl (by kernel_rfl)) rfl ?_
        exact ⟨nx_ok HE.out _ (tk_agg 5 _ _ 0 HXB.out) _ (by first | rfl | simp), below_setRow HB2.out (Nat.le_refl _) _⟩
    · have HNP : Hid (¬ ((s[0] :: s.data.toList.drop (0 + 1)).take 2 = [61, 61] ∨ (s[0] :: s.data.toList.drop (0 + 1)).take 2 = [33, 61] ∨ (s[0] :: s.data.toList.drop (0 + 1)).take 2 = [60, 61] ∨ (s[0] :: s.data.toList.drop (0 + 1)).take 2 = [62, 61])) := Lib.hid (by rw [HTK.out, ← E2]; exact hp)
      have p1 : ((s.extract 0 2).toList == [61, 61]) = false := beq_eq_false_iff_ne.2 fun h => hp (.inl h)
      have p2 : ((s.extract 0 2).toList == [33, 61]) = false := beq_eq_false_iff_ne.2 fun h => hp (.inr (.inl h))
      have p3 : ((s.extract 0 2).toList == [60, 61]) = false := beq_eq_false_iff_ne.2 fun h => hp (.inr (.inr (.inl h)))
      have p4 : ((s.extract 0 2).toList == [62, 61]) = false := beq_eq_false_iff_ne.2 fun h => hp (.inr (.inr (.inr h)))
      clear hp E2 HTK HD1
      by_cases hin : s[0] ∈ signs1
      · have HE : Hid (T = (⟨5, s.data.toList.take 1, 0, 0, 0⟩, 1, 0, 0)) := Lib.hid (by
          have hg : signL (s[0] :: s.data.toList.drop (0 + 1)) = 1 := sign_one HNP.out hin
          have := one_g (keys := keyB) hq hdg hsm (by rw [hg]; decide)
          rw [hg, ← HD.out] at this
          exact HT.out.trans this)
        have hi0 := i1 hin
        have hi9 : ¬ I < 0 := by omega
        have HXB : Hid (s.extract 0 1 = bs (s.data.toList.take 1)) := Lib.hid (bs_ext0 s 1)
        have hxi : ((s.extract 0 1).size : Int) ≤ 1000000 := by rw [sg_len (by omega)]; omega
        clear i1 i2 hin hq hdg hsm
        go_enter Tryd.func35, Tryd.ntmps35
        go_wp2_with fail
        rw [← hW]
        clear hW
        refine (hidx _).mono ?_
        rintro e w1 ⟨rfl, rfl⟩
        go_wp2_with fail
        refine (token_any _ 5 (s.extract 0 1) hxi).mono ?_
        rintro e w2 ⟨rfl, hb⟩
        have HK2 := Lib.hid (HK.out.below hb HK.out.lt)
        have HB2 := Lib.hid (HB.out.trans (hb.mono HB.out.size))
        clear hb
        go_wp2_with (refine wpList_store_row rfl 34 _ _ rfl w.heap.size #[.int .i64 5, .string (s.extract 0 1), .int .i64 0, .int .i64 0, .int .i64 0] rfl rfl _ _ HK2.out tok_size rfl (five_one _ _ _ _ _) ?_)
        (try simp only [Exit.inBlock, Exit.then]); refine bodyPost_ret (results_c2 rfl _ _ _ _ _ _ _ rfl (setRow_heap _ _ _ _ _ _ HK2.out) Tryd.underlying34 rfl (by kernel_rfl)) rfl ?_
        exact ⟨nx_ok HE.out _ (tk_agg 5 _ _ 0 HXB.out) _ (by first | rfl | simp), below_setRow HB2.out (Nat.le_refl _) _⟩
      · have HE : Hid (T = (⟨0, [], 0, 0, 0⟩, 0, 13, 0)) := Lib.hid (by
          have hg : signL (s[0] :: s.data.toList.drop (0 + 1)) = 0 := sign_none HNP.out hin
          exact HT.out.trans (by rw [HD.out]; exact one_no (keys := keyB) hq hdg hsm hg))
        have hi0 := i2 hin
        clear i1 i2 hin hq hdg hsm
        go_enter Tryd.func35, Tryd.ntmps35
        go_wp2_with fail
        rw [← hW]
        clear hW
        refine (hidx _).mono ?_
        rintro e w1 ⟨rfl, rfl⟩
        go_wp2_with (refine wpList_store_row rfl 34 _ _ rfl w.heap.size #[.int .i64 0, .string ⟨#[]⟩, .int .i64 0, .int .i64 0, .int .i64 0] rfl rfl _ _ HK.out tok_size rfl (five_one _ _ _ _ _) ?_)
        (try simp only [Exit.inBlock, Exit.then]); refine bodyPost_ret (results_c2 rfl _ _ _ _ _ _ _ rfl (setRow_heap _ _ _ _ _ _ HK.out) Tryd.underlying34 rfl (by kernel_rfl)) rfl ?_
        exact ⟨nx_err HE.out (by decide) _ rfl _ rfl, below_setRow HB.out (Nat.le_refl _) _⟩
  · have h2i : ¬ (2 : Int) ≤ (s.size : Int) := by omega
    have h1 : s.size = 1 := by omega
    have hmin : min (2 : Int) 1 = 1 := by decide
    have h1i : (s.size : Int) = 1 := by omega
    have E1 : (s.extract 0 1).toList = [s[0]] := by
      rw [ext_one h0]
      simp
    have HNP : Hid (¬ ((s[0] :: s.data.toList.drop (0 + 1)).take 2 = [61, 61] ∨ (s[0] :: s.data.toList.drop (0 + 1)).take 2 = [33, 61] ∨ (s[0] :: s.data.toList.drop (0 + 1)).take 2 = [60, 61] ∨ (s[0] :: s.data.toList.drop (0 + 1)).take 2 = [62, 61])) := Lib.hid (by
      rw [List.drop_of_length_le (by rw [Array.length_toList]; show s.size ≤ 0 + 1; omega)]
      show ¬ ([s[0]] = [61, 61] ∨ [s[0]] = [33, 61] ∨ [s[0]] = [60, 61] ∨ [s[0]] = [62, 61])
      simp)
    have p1 : ((s.extract 0 1).toList == [61, 61]) = false := by rw [E1]; exact beq_eq_false_iff_ne.2 (by simp)
    have p2 : ((s.extract 0 1).toList == [33, 61]) = false := by rw [E1]; exact beq_eq_false_iff_ne.2 (by simp)
    have p3 : ((s.extract 0 1).toList == [60, 61]) = false := by rw [E1]; exact beq_eq_false_iff_ne.2 (by simp)
    have p4 : ((s.extract 0 1).toList == [62, 61]) = false := by rw [E1]; exact beq_eq_false_iff_ne.2 (by simp)
    clear E1 h2
    by_cases hin : s[0] ∈ signs1
    · have HE : Hid (T = (⟨5, s.data.toList.take 1, 0, 0, 0⟩, 1, 0, 0)) := Lib.hid (by
        have hg : signL (s[0] :: s.data.toList.drop (0 + 1)) = 1 := sign_one HNP.out hin
        have := one_g (keys := keyB) hq hdg hsm (by rw [hg]; decide)
        rw [hg, ← HD.out] at this
        exact HT.out.trans this)
      have hi0 := i1 hin
      have hi9 : ¬ I < 0 := by omega
      have HXB : Hid (s.extract 0 1 = bs (s.data.toList.take 1)) := Lib.hid (bs_ext0 s 1)
      have hxi : ((s.extract 0 1).size : Int) ≤ 1000000 := by rw [sg_len (by omega)]; omega
      clear i1 i2 hin hq hdg hsm
      go_enter Tryd.func35, Tryd.ntmps35
      go_wp2_with fail
      rw [← hW]
      clear hW
      refine (hidx _).mono ?_
      rintro e w1 ⟨rfl, rfl⟩
      go_wp2_with fail
      refine (token_any _ 5 (s.extract 0 1) hxi).mono ?_
      rintro e w2 ⟨rfl, hb⟩
      have HK2 := Lib.hid (HK.out.below hb HK.out.lt)
      have HB2 := Lib.hid (HB.out.trans (hb.mono HB.out.size))
      clear hb
      go_wp2_with (refine wpList_store_row rfl 34 _ _ rfl w.heap.size #[.int .i64 5, .string (s.extract 0 1), .int .i64 0, .int .i64 0, .int .i64 0] rfl rfl _ _ HK2.out tok_size rfl (five_one _ _ _ _ _) ?_)
      (try simp only [Exit.inBlock, Exit.then]); refine bodyPost_ret (results_c2 rfl _ _ _ _ _ _ _ rfl (setRow_heap _ _ _ _ _ _ HK2.out) Tryd.underlying34 rfl (by kernel_rfl)) rfl ?_
      exact ⟨nx_ok HE.out _ (tk_agg 5 _ _ 0 HXB.out) _ (by first | rfl | simp), below_setRow HB2.out (Nat.le_refl _) _⟩
    · have HE : Hid (T = (⟨0, [], 0, 0, 0⟩, 0, 13, 0)) := Lib.hid (by
        have hg : signL (s[0] :: s.data.toList.drop (0 + 1)) = 0 := sign_none HNP.out hin
        exact HT.out.trans (by rw [HD.out]; exact one_no (keys := keyB) hq hdg hsm hg))
      have hi0 := i2 hin
      clear i1 i2 hin hq hdg hsm
      go_enter Tryd.func35, Tryd.ntmps35
      go_wp2_with fail
      rw [← hW]
      clear hW
      refine (hidx _).mono ?_
      rintro e w1 ⟨rfl, rfl⟩
      go_wp2_with (refine wpList_store_row rfl 34 _ _ rfl w.heap.size #[.int .i64 0, .string ⟨#[]⟩, .int .i64 0, .int .i64 0, .int .i64 0] rfl rfl _ _ HK.out tok_size rfl (five_one _ _ _ _ _) ?_)
      (try simp only [Exit.inBlock, Exit.then]); refine bodyPost_ret (results_c2 rfl _ _ _ _ _ _ _ rfl (setRow_heap _ _ _ _ _ _ HK.out) Tryd.underlying34 rfl (by kernel_rfl)) rfl ?_
      exact ⟨nx_err HE.out (by decide) _ rfl _ rfl, below_setRow HB.out (Nat.le_refl _) _⟩

end Go.Proofs.YtahpfbmaaccejaaDoor
