/- Contracts of the program's token, nextWord, nextNumber, nextSign. -/
import Derived.Test.YtahpfbmaaccejaaDoorLexN
import Derived.Test.YtahpfbmaaccejaaDoorLexL
import Derived.Test.YtahpfbmaaccejaaDoorLexH
import Derived.Test.YtahpfbmaaccejaaDoorTells
namespace Go.Proofs.YtahpfbmaaccejaaDoor
open Go.RowKit

theorem results_c2 {P : Program} {fn : Func} {p u v : Tmp} {ty : TypeId} (h : fn.results = #[.cell p ty, .tmp u, .tmp v]) (tmps : Array Value) (w : World) (g : Nat) (t : TypeId) (cs : Array Value) (fr : Nat × Nat) (d : TypeDesc)
    (hp : tmps.getD p undef = .pointer (some ⟨g, 0, none⟩)) (hg : w.heap[g]? = some (.cells cs t fr))
    (hu : P.underlying ty = some d) (hd : (match d with | .struct _ | .array _ _ => true | _ => false) = true) (hi : (P.info? ty).map (·.size) = some cs.size) :
    (results fn tmps).run P w = .ok (.tuple #[.agg cs, tmps.getD u undef, tmps.getD v undef]) w := by
  have hp' : tmps[p]?.getD undef = .pointer (some ⟨g, 0, none⟩) := by simpa using hp
  simp [results, h, hp', asAddr, run_loadVar_row w g t ty cs fr d hg hu hd hi]

/-- what next and its kin hand back, out of what the token comes to -/
def NxOut (T : Tk × Nat × Int × Nat) (e : Ending) : Prop := ∃ (k : Tk) (n : Nat), e = .returned (.tuple #[tkV k, .int .i64 n, .int .i64 T.2.2.1]) ∧ (T.2.2.1 = 0 → k = T.1 ∧ n = T.2.1) ∧ (T.2.2.1 ≠ 0 → n = T.2.2.2)

theorem nx_ok {T : Tk × Nat × Int × Nat} {t : Tk} {n wh : Nat} (hT : T = (t, n, 0, wh)) (v : Value) (hv : v = tkV t) (k : Int) (hk : k = (n : Int)) : NxOut T (.returned (.tuple #[v, .int .i64 k, .int .i64 0])) := by
  subst hT hv hk
  exact ⟨t, n, rfl, fun _ => ⟨rfl, rfl⟩, fun h => absurd rfl h⟩
theorem nx_err {T : Tk × Nat × Int × Nat} {t : Tk} {n wh : Nat} {er : Int} (hT : T = (t, n, er, wh)) (he : er ≠ 0) (v : Value) (hv : v = tkV noTk) (k : Int) (hk : k = (wh : Int)) : NxOut T (.returned (.tuple #[v, .int .i64 k, .int .i64 er])) := by
  subst hT hv hk
  exact ⟨noTk, wh, rfl, fun h => absurd h he, fun _ => rfl⟩

theorem tk_agg (k : Int) (X : ByteArray) (x : List UInt8) (n : Int) (h : X = bs x) : Value.agg #[.int .i64 k, .string X, .int .i64 n, .int .i64 0, .int .i64 0] = tkV ⟨k, x, n, 0, 0⟩ := by rw [h]; rfl

set_option maxRecDepth 100000 in
set_option maxHeartbeats 3200000 in
theorem token_any (w : World) (k : Int) (s : ByteArray) (hs : (s.size : Int) ≤ 1000000) : Calls Tryd.prog 45 #[.int .i64 k, .string s] w fun e w' => e = .returned (.agg #[.int .i64 k, .string s, .int .i64 0, .int .i64 0, .int .i64 0]) ∧ Below w.heap.size w w' := by
  obtain ⟨W, hW⟩ : ∃ W, W = w.alloc (.cells #[.int .i64 0, .string ⟨#[]⟩, .int .i64 0, .int .i64 0, .int .i64 0] 34) := ⟨_, rfl⟩
  have HK : Hid (Blk W w.heap.size 34 #[.int .i64 0, .string ⟨#[]⟩, .int .i64 0, .int .i64 0, .int .i64 0]) := Lib.hid (by rw [hW]; exact Blk.new _ _ _)
  have HB : Hid (Below w.heap.size w W) := Lib.hid (by rw [hW]; exact (Below.refl _ _).alloc (Nat.le_refl _) _)
  go_enter Tryd.func45, Tryd.ntmps45
  go_wp2_with fail
  rw [← hW]
  clear hW
  refine (clone_any W s hs).mono ?_
  rintro e w1 ⟨rfl, hb⟩
  have HK1 := Lib.hid (HK.out.below hb HK.out.lt)
  have HB1 := Lib.hid (HB.out.trans (hb.mono HB.out.size))
  clear hb
  go_wp2_with (refine wpList_store_row rfl 34 _ _ rfl w.heap.size #[.int .i64 k, .string s, .int .i64 0, .int .i64 0, .int .i64 0] rfl rfl _ _ HK1.out tok_size rfl (five_one _ _ _ _ _) ?_)
  (try simp only [Exit.inBlock, Exit.then]); refine bodyPost_ret (results_cell_row rfl _ _ _ _ _ _ _ rfl (setRow_heap _ _ _ _ _ _ HK1.out) Tryd.underlying34 rfl (by kernel_rfl)) rfl ?_
  exact ⟨rfl, below_setRow HB1.out (Nat.le_refl _) _⟩

theorem key_short {x : List UInt8} (h : keyB x = true) : x.length ≤ 24 := by
  have hk : ∀ y ∈ keyWs, y.length ≤ 24 := by decide
  have hd : ∀ y ∈ dirWs, y.length ≤ 24 := by decide
  by_cases h1 : x ∈ keyWs
  · exact hk x h1
  · by_cases h2 : x ∈ dirWs
    · exact hd x h2
    · rw [keyB_no h1, dirN_zero h2] at h
      cases h

theorem row_all (nm : Bool) : ∀ l : List UInt8, ∀ c ∈ l.take (rowF nm l), (isDg c || (nm && (isSm c || decide ((c.toNat : Int) = 95)))) = true := by
  intro l
  induction l with
  | nil => intro c h; rw [List.take_nil] at h; cases h
  | cons d r ih =>
    intro c h
    by_cases hd : (isDg d || (nm && (isSm d || decide ((d.toNat : Int) = 95)))) = true
    · rw [rowF_on hd, List.take_succ_cons] at h
      rcases List.mem_cons.mp h with h | h
      · rw [h]; exact hd
      · exact ih c h
    · rw [Bool.not_eq_true] at hd
      rw [rowF_end hd] at h
      cases h

theorem name_row {c : UInt8} {r : List UInt8} (hs : isSm c = true) (n : Nat) (hn : n = rowF true (c :: r)) : nameB ((c :: r).take n) = decide (n ≤ 24) := by
  have h1 : 1 ≤ n := by rw [hn, rowF_on (by rw [hs]; simp)]; omega
  have hl := rowF_len true (c :: r)
  rw [← hn] at hl
  obtain ⟨m, rfl⟩ : ∃ m, n = m + 1 := ⟨n - 1, by omega⟩
  have hall : ((c :: r).take (m + 1)).all isNm = true := by
    rw [List.all_eq_true]
    intro d hd
    rw [hn] at hd
    have := row_all true (c :: r) d hd
    unfold isNm
    revert this
    cases isDg d <;> cases isSm d <;> simp
  rw [List.take_succ_cons] at hall ⊢
  have e : nameB (c :: r.take m) = (isSm c && decide ((c :: r.take m).length ≤ 24) && (c :: r.take m).all isNm) := rfl
  rw [e, hs, hall, Bool.true_and, Bool.and_true, List.length_cons, List.length_take]
  rw [List.length_cons] at hl
  rw [Nat.min_eq_left (by omega)]

theorem sm_dg {c : UInt8} (h : isSm c = true) : isDg c = false := by unfold isSm at h; unfold isDg; simp at h ⊢; omega

set_option maxRecDepth 100000 in
set_option maxHeartbeats 6400000 in
theorem nextWord_any (w : World) (s : ByteArray) (h0 : 0 < s.size) (hsm : isSm s[0] = true) (hs : (s.size : Int) ≤ 100000) :
    Calls Tryd.prog 31 #[.string s] w fun e w' => NxOut (oneTk keyB s.data.toList) e ∧ Below w.heap.size w w' := by
  have hl : s.data.toList.length = s.size := by rw [Array.length_toList]; rfl
  have hd := drop_at h0
  rw [List.drop_zero] at hd
  obtain ⟨n, hn⟩ : ∃ n, n = rowF true s.data.toList := ⟨_, rfl⟩
  have hnl := rowF_len true s.data.toList
  rw [← hn, hl] at hnl
  have HN : Hid (n = rowF true s.data.toList) := Lib.hid hn
  obtain ⟨x, hx⟩ : ∃ x, x = s.data.toList.take n := ⟨_, rfl⟩
  have hone := one_w (keys := keyB) (r := s.data.toList.drop (0 + 1)) (isSm_34 hsm) (sm_dg hsm) hsm n (by rw [← hd]; exact hn)
  have hnm := name_row (r := s.data.toList.drop (0 + 1)) hsm n (by rw [← hd]; exact hn)
  rw [← hd, ← hx] at hone hnm
  obtain ⟨T, hT⟩ : ∃ T, T = oneTk keyB s.data.toList := ⟨_, rfl⟩
  rw [← hT] at hone ⊢
  have HT := Lib.hid hone
  obtain ⟨X, hX⟩ : ∃ X, X = s.extract 0 n := ⟨_, rfl⟩
  have HXE := Lib.hid hX
  have hXb : X = bs x := by rw [hX, hx]; have := bs_ext s 0 n; rw [Nat.zero_add] at this; exact this
  have HXB := Lib.hid hXb
  have hXl : X.data.toList = x := by rw [hXb]; simp [bs]
  have hxl : x.length = n := by rw [hx, List.length_take, hl]; omega
  have hXs : X.size = n := by rw [hXb, bs_size, hxl]
  have HXS := Lib.hid hXs
  have hXi : (X.size : Int) ≤ 1000000 := by rw [hXs]; omega
  obtain ⟨K, hK⟩ : ∃ K, K = keyB x := ⟨_, rfl⟩
  have hkey : ∀ W, Calls Tryd.prog 9 #[.string X] W fun e w' => e = .returned (.bool K) ∧ Below W.heap.size W w' := fun W => by rw [hK, ← hXl]; exact Key_any W X
  have hnam : ∀ W, Calls Tryd.prog 46 #[.string X] W fun e w' => e = .returned (.bool (decide (n ≤ 24))) ∧ Below W.heap.size W w' := fun W => by rw [← hnm, ← hXl]; exact isName_any W X hXi
  have htok : ∀ k W, Calls Tryd.prog 45 #[.int .i64 k, .string X] W fun e w' => e = .returned (.agg #[.int .i64 k, .string X, .int .i64 0, .int .i64 0, .int .i64 0]) ∧ Below W.heap.size W w' := fun k W => token_any W k X hXi
  obtain ⟨W, hW⟩ : ∃ W, W = w.alloc (.cells #[.int .i64 0, .string ⟨#[]⟩, .int .i64 0, .int .i64 0, .int .i64 0] 34) := ⟨_, rfl⟩
  have HK : Hid (Blk W w.heap.size 34 #[.int .i64 0, .string ⟨#[]⟩, .int .i64 0, .int .i64 0, .int .i64 0]) := Lib.hid (by rw [hW]; exact Blk.new _ _ _)
  have HB : Hid (Below w.heap.size w W) := Lib.hid (by rw [hW]; exact (Below.refl _ _).alloc (Nat.le_refl _) _)
  have H24 : Hid (K = true → n ≤ 24) := Lib.hid (fun h => by rw [← hxl]; exact key_short (by rw [← hK]; exact h))
  have HKB : Hid (keyB x = K) := Lib.hid hK.symm
  clear hone hnm hT hX hXb hXl hxl hK hn hd hl hx hXs
  have hnI : (n : Int) ≤ (s.size : Int) := by omega
  cases K with
  | true =>
    have HE : Hid (T = (⟨4, x, 0, 0, 0⟩, n, 0, 0)) := Lib.hid (by rw [HT.out, HKB.out, if_pos rfl, if_neg (show ¬ 24 < n by have := H24.out rfl; omega)])
    go_enter Tryd.func31, Tryd.ntmps31
    go_wp2_with fail
    rw [← hW]
    clear hW
    refine (pRun_any W W.heap.size 44 #[] isNm s (cls_name _ _) (Nat.le_refl _) (by omega)).mono ?_
    rintro e w1 ⟨rfl, hb⟩
    rw [run_nrow, ← HN.out]
    have HK1 := Lib.hid (HK.out.below hb HK.out.lt)
    have HB1 := Lib.hid (HB.out.trans (hb.mono HB.out.size))
    clear hb
    go_wp2_with fail
    rw [← HXE.out]
    refine (hkey _).mono ?_
    rintro e w2 ⟨rfl, hb⟩
    have HK2 := Lib.hid (HK1.out.below hb HK1.out.lt)
    have HB2 := Lib.hid (HB1.out.trans (hb.mono HB1.out.size))
    clear hb
    go_wp2_with fail
    refine (htok 4 _).mono ?_
    rintro e w3 ⟨rfl, hb⟩
    have HK3 := Lib.hid (HK2.out.below hb HK2.out.lt)
    have HB3 := Lib.hid (HB2.out.trans (hb.mono HB2.out.size))
    clear hb
    go_wp2_with (refine wpList_store_row rfl 34 _ _ rfl w.heap.size #[.int .i64 4, .string X, .int .i64 0, .int .i64 0, .int .i64 0] rfl rfl _ _ HK3.out tok_size rfl (five_one _ _ _ _ _) ?_)
    (try simp only [Exit.inBlock, Exit.then]); refine bodyPost_ret (results_c2 rfl _ _ _ _ _ _ _ rfl (setRow_heap _ _ _ _ _ _ HK3.out) Tryd.underlying34 rfl (by kernel_rfl)) rfl ?_
    exact ⟨nx_ok HE.out _ (tk_agg 4 X x 0 HXB.out) _ (by rw [HXS.out]), below_setRow HB3.out (Nat.le_refl _) _⟩
  | false =>
    by_cases h24 : n ≤ 24
    · have HE : Hid (T = (⟨1, x, 0, 0, 0⟩, n, 0, 0)) := Lib.hid (by rw [HT.out, HKB.out, if_neg (show ¬ (false = true) by decide), if_neg (show ¬ 24 < n by omega)])
      have hdn : decide (n ≤ 24) = true := decide_eq_true h24
      rw [hdn] at hnam
      clear hdn h24
      go_enter Tryd.func31, Tryd.ntmps31
      go_wp2_with fail
      rw [← hW]
      clear hW
      refine (pRun_any W W.heap.size 44 #[] isNm s (cls_name _ _) (Nat.le_refl _) (by omega)).mono ?_
      rintro e w1 ⟨rfl, hb⟩
      rw [run_nrow, ← HN.out]
      have HK1 := Lib.hid (HK.out.below hb HK.out.lt)
      have HB1 := Lib.hid (HB.out.trans (hb.mono HB.out.size))
      clear hb
      go_wp2_with fail
      rw [← HXE.out]
      refine (hkey _).mono ?_
      rintro e w2 ⟨rfl, hb⟩
      have HK2 := Lib.hid (HK1.out.below hb HK1.out.lt)
      have HB2 := Lib.hid (HB1.out.trans (hb.mono HB1.out.size))
      clear hb
      go_wp2_with fail
      refine (hnam _).mono ?_
      rintro e w3 ⟨rfl, hb⟩
      have HK3 := Lib.hid (HK2.out.below hb HK2.out.lt)
      have HB3 := Lib.hid (HB2.out.trans (hb.mono HB2.out.size))
      clear hb
      go_wp2_with fail
      refine (htok 1 _).mono ?_
      rintro e w4 ⟨rfl, hb⟩
      have HK4 := Lib.hid (HK3.out.below hb HK3.out.lt)
      have HB4 := Lib.hid (HB3.out.trans (hb.mono HB3.out.size))
      clear hb
      go_wp2_with (refine wpList_store_row rfl 34 _ _ rfl w.heap.size #[.int .i64 1, .string X, .int .i64 0, .int .i64 0, .int .i64 0] rfl rfl _ _ HK4.out tok_size rfl (five_one _ _ _ _ _) ?_)
      (try simp only [Exit.inBlock, Exit.then]); refine bodyPost_ret (results_c2 rfl _ _ _ _ _ _ _ rfl (setRow_heap _ _ _ _ _ _ HK4.out) Tryd.underlying34 rfl (by kernel_rfl)) rfl ?_
      exact ⟨nx_ok HE.out _ (tk_agg 1 X x 0 HXB.out) _ (by rw [HXS.out]), below_setRow HB4.out (Nat.le_refl _) _⟩
    · have HE : Hid (T = (⟨1, x, 0, 0, 0⟩, n, 9, 0)) := Lib.hid (by rw [HT.out, HKB.out, if_neg (show ¬ (false = true) by decide), if_pos (show 24 < n by omega)])
      have hdn : decide (n ≤ 24) = false := decide_eq_false h24
      rw [hdn] at hnam
      clear hdn h24
      go_enter Tryd.func31, Tryd.ntmps31
      go_wp2_with fail
      rw [← hW]
      clear hW
      refine (pRun_any W W.heap.size 44 #[] isNm s (cls_name _ _) (Nat.le_refl _) (by omega)).mono ?_
      rintro e w1 ⟨rfl, hb⟩
      rw [run_nrow, ← HN.out]
      have HK1 := Lib.hid (HK.out.below hb HK.out.lt)
      have HB1 := Lib.hid (HB.out.trans (hb.mono HB.out.size))
      clear hb
      go_wp2_with fail
      rw [← HXE.out]
      refine (hkey _).mono ?_
      rintro e w2 ⟨rfl, hb⟩
      have HK2 := Lib.hid (HK1.out.below hb HK1.out.lt)
      have HB2 := Lib.hid (HB1.out.trans (hb.mono HB1.out.size))
      clear hb
      go_wp2_with fail
      refine (hnam _).mono ?_
      rintro e w3 ⟨rfl, hb⟩
      have HK3 := Lib.hid (HK2.out.below hb HK2.out.lt)
      have HB3 := Lib.hid (HB2.out.trans (hb.mono HB2.out.size))
      clear hb
      go_wp2_with (refine wpList_store_row rfl 34 _ _ rfl w.heap.size #[.int .i64 0, .string ⟨#[]⟩, .int .i64 0, .int .i64 0, .int .i64 0] rfl rfl _ _ HK3.out tok_size rfl (five_one _ _ _ _ _) ?_)
      (try simp only [Exit.inBlock, Exit.then]); refine bodyPost_ret (results_c2 rfl _ _ _ _ _ _ _ rfl (setRow_heap _ _ _ _ _ _ HK3.out) Tryd.underlying34 rfl (by kernel_rfl)) rfl ?_
      exact ⟨nx_err HE.out (by decide) _ rfl _ rfl, below_setRow HB3.out (Nat.le_refl _) _⟩

theorem nuV_eq (b : Bool) (N : Nat) : nuV b N = .tuple #[.int .u64 ((if numE b N = 0 then N else 0 : Nat) : Int), .int .i64 (numE b N)] := by
  unfold nuV numE
  cases b with
  | true => simp
  | false =>
    by_cases h : 32767 < N
    · simp [h]
    · simp [h]

theorem numE_ok {b : Bool} {N : Nat} (h : numE b N = 0) : N ≤ 32767 := by
  unfold numE at h
  cases b with
  | true => cases h
  | false =>
    rw [if_neg (show ¬ (false = true) by decide)] at h
    by_cases h2 : 32767 < N
    · rw [if_pos h2] at h; cases h
    · omega

set_option maxRecDepth 100000 in
set_option maxHeartbeats 12800000 in
theorem nextNumber_any (w : World) (s : ByteArray) (h0 : 0 < s.size) (hdg : isDg s[0] = true) (hs : (s.size : Int) ≤ 100000) (hP : Pw w) :
    Calls Tryd.prog 33 #[.string s] w fun e w' => NxOut (oneTk keyB s.data.toList) e ∧ Below w.heap.size w w' := by
  have hl : s.data.toList.length = s.size := by rw [Array.length_toList]; rfl
  have hd := drop_at h0
  rw [List.drop_zero] at hd
  obtain ⟨n, hn⟩ : ∃ n, n = rowF false s.data.toList := ⟨_, rfl⟩
  have hnl := rowF_len false s.data.toList
  rw [← hn, hl] at hnl
  have hn1 : 1 ≤ n := by rw [hn, hd, rowF_on (by rw [hdg]; rfl)]; omega
  have HN : Hid (n = rowF false s.data.toList) := Lib.hid hn
  obtain ⟨x, hx⟩ : ∃ x, x = s.data.toList.take n := ⟨_, rfl⟩
  have hone := one_n (keys := keyB) (r := s.data.toList.drop (0 + 1)) (isDg_34 hdg) hdg n (by rw [← hd]; exact hn)
  rw [← hd, ← hx] at hone
  obtain ⟨T, hT⟩ : ∃ T, T = oneTk keyB s.data.toList := ⟨_, rfl⟩
  rw [← hT] at hone ⊢
  obtain ⟨X, hX⟩ : ∃ X, X = s.extract 0 n := ⟨_, rfl⟩
  have HXE := Lib.hid hX
  have hXb : X = bs x := by rw [hX, hx]; have := bs_ext s 0 n; rw [Nat.zero_add] at this; exact this
  have hXl : X.data.toList = x := by rw [hXb]; simp [bs]
  have hxl : x.length = n := by rw [hx, List.length_take, hl]; omega
  have hXs : X.size = n := by rw [hXb, bs_size, hxl]
  have HXS := Lib.hid hXs
  have hxs : (s.extract 0 n).size = n := by rw [← hX]; exact hXs
  have hdx : ∀ (j : Nat) (h : j < X.size), isDg X[j] = true := fun j h => by
    have hj : j < x.length := by rw [hxl, ← hXs]; exact h
    rw [← byte_at X j h, hXl, List.getElem?_eq_getElem hj]
    have hm : x[j] ∈ s.data.toList.take (rowF false s.data.toList) := by rw [← hn, ← hx]; exact List.getElem_mem hj
    have := row_all false s.data.toList _ hm
    rw [Bool.false_and, Bool.or_false] at this
    exact this
  have hdec : (!decB X) = (decide ((s[0].toNat : Int) = 48) && decide (1 < n)) := by
    have e0 : X.data.toList[0]?.getD 0 = s[0] := by
      rw [hXl, hx, hd]
      obtain ⟨m, rfl⟩ : ∃ m, n = m + 1 := ⟨n - 1, by omega⟩
      rfl
    unfold decB
    rw [Bool.not_not, e0, hXs]
    congr 1
    by_cases h : s[0].toNat = 48
    · rw [decide_eq_true h, decide_eq_true (by omega)]
    · rw [decide_eq_false h, decide_eq_false (by omega)]
  have HP := Lib.hid hP
  obtain ⟨W, hW⟩ : ∃ W, W = w.alloc (.cells #[.int .i64 0, .string ⟨#[]⟩, .int .i64 0, .int .i64 0, .int .i64 0] 34) := ⟨_, rfl⟩
  have HK : Hid (Blk W w.heap.size 34 #[.int .i64 0, .string ⟨#[]⟩, .int .i64 0, .int .i64 0, .int .i64 0]) := Lib.hid (by rw [hW]; exact Blk.new _ _ _)
  have HB : Hid (Below w.heap.size w W) := Lib.hid (by rw [hW]; exact (Below.refl _ _).alloc (Nat.le_refl _) _)
  rw [← hdec] at hone
  by_cases hst : stuckL (s.data.toList.drop n) = true
  · have HE : Hid (T = (_, n, 4, 0)) := Lib.hid (by rw [hone, hst]; rfl)
    have hlt : n < s.size := by
      rcases Nat.lt_or_ge n s.size with h | h
      · exact h
      · rw [List.drop_of_length_le (by rw [hl]; exact h)] at hst; cases hst
    have hgl : glB s[n] = true := by rw [drop_at hlt] at hst; exact hst
    have hys : (s.extract n s.size).size = s.size - n := by rw [ByteArray.size_extract]; omega
    have hy0 : 0 < (s.extract n s.size).size := by rw [hys]; omega
    have hyl : (s.extract n s.size).data.toList = s.data.toList.drop n := by
      have := ext_list s n (s.size - n)
      rw [Nat.add_sub_cancel' (Nat.le_of_lt hlt), List.take_of_length_le (by rw [List.length_drop, hl]; exact Nat.le_refl _)] at this
      exact this
    have hyc : (s.extract n s.size)[0]'hy0 = s[n] := by rw [← byte_at _ 0 hy0, hyl, drop_at hlt]; rfl
    have hne : (s.extract n s.size).toList ≠ [] := by rw [Lib.toList_data, hyl, drop_at hlt]; exact List.cons_ne_nil _ _
    have t0 : ((s.extract n s.size).toList == []) = false := beq_eq_false_iff_ne.2 hne
    have t1 : (s.extract n s.size).toList.isEmpty = false := by rw [Lib.toList_data, hyl, drop_at hlt]; rfl
    have hgc : ∀ W, Calls Tryd.prog 47 #[.int .u8 ((s[n].toNat : Nat) : Int)] W fun e w' => e = .returned (.bool true) ∧ Below W.heap.size W w' := fun W => by rw [← hgl]; exact pGlued_any W s[n]
    have hnI : (n : Int) ≤ (s.size : Int) := by omega
    have hyi : ((s.extract n s.size).size : Int) = s.size - n := by rw [hys]; omega
    clear hone hT hX hXb hXl hxl hXs hdx hdec hn hd hl hx hst hgl hyl hne hP hys
    go_enter Tryd.func33, Tryd.ntmps33
    go_wp2_with fail
    rw [← hW]
    clear hW
    refine (pRun_any W W.heap.size 32 #[] isDg s (cls_digit _ _) (Nat.le_refl _) (by omega)).mono ?_
    rintro e w1 ⟨rfl, hb⟩
    rw [run_row, ← HN.out]
    have HK1 := Lib.hid (HK.out.below hb HK.out.lt)
    have HB1 := Lib.hid (HB.out.trans (hb.mono HB.out.size))
    clear hb
    have HP1 := Lib.hid (HP.out.below HB1.out (Nat.le_refl _))
    go_wp2_with fail
    refine (hgc _).mono ?_
    rintro e w2 ⟨rfl, hb⟩
    have HK2 := Lib.hid (HK1.out.below hb HK1.out.lt)
    have HB2 := Lib.hid (HB1.out.trans (hb.mono HB1.out.size))
    clear hb
    go_wp2_with (refine wpList_store_row rfl 34 _ _ rfl w.heap.size #[.int .i64 0, .string ⟨#[]⟩, .int .i64 0, .int .i64 0, .int .i64 0] rfl rfl _ _ HK2.out tok_size rfl (five_one _ _ _ _ _) ?_)
    (try simp only [Exit.inBlock, Exit.then]); refine bodyPost_ret (results_c2 rfl _ _ _ _ _ _ _ rfl (setRow_heap _ _ _ _ _ _ HK2.out) Tryd.underlying34 rfl (by kernel_rfl)) rfl ?_
    exact ⟨nx_err HE.out (by decide) _ rfl _ rfl, below_setRow HB2.out (Nat.le_refl _) _⟩
  · rw [Bool.not_eq_true] at hst
    obtain ⟨N, hNN⟩ : ∃ N, N = numL x := ⟨_, rfl⟩
    obtain ⟨er, her⟩ : ∃ er, er = numE (!decB X) N := ⟨_, rfl⟩
    have hXi : (X.size : Int) ≤ 100000 := by rw [hXs]; omega
    have hX0 : 0 < X.size := by rw [hXs]; omega
    rw [hst, Bool.false_or, ← hNN, ← her] at hone
    obtain ⟨v, hv⟩ : ∃ v : Nat, v = if er = 0 then N else 0 := ⟨_, rfl⟩
    have hnum : ∀ W, Pw W → Calls Tryd.prog 48 #[.string X, .int .u64 32767] W fun e w' => e = .returned (.tuple #[.int .u64 (v : Int), .int .i64 er]) ∧ Below W.heap.size W w' := fun W hW => by
      have := pNumber_any W X hdx hX0 hXi hW
      rw [hXl, ← hNN, nuV_eq, ← her, ← hv] at this
      exact this
    have HV : Hid (v ≤ 32767 ∧ (er = 0 → (v : Int) = (N : Int))) := Lib.hid (by
      rw [hv]
      by_cases h : er = 0
      · rw [if_pos h]
        exact ⟨numE_ok (by rw [← her]; exact h), fun _ => rfl⟩
      · rw [if_neg h]
        exact ⟨by omega, fun h2 => absurd h2 h⟩)
    have HT := Lib.hid hone
    have hnI : (n : Int) ≤ (s.size : Int) := by omega
    by_cases hlt : n < s.size
    · have hgl : glB s[n] = false := by rw [drop_at hlt] at hst; exact hst
      have hys : (s.extract n s.size).size = s.size - n := by rw [ByteArray.size_extract]; omega
      have hy0 : 0 < (s.extract n s.size).size := by rw [hys]; omega
      have hyl : (s.extract n s.size).data.toList = s.data.toList.drop n := by
        have := ext_list s n (s.size - n)
        rw [Nat.add_sub_cancel' (Nat.le_of_lt hlt), List.take_of_length_le (by rw [List.length_drop, hl]; exact Nat.le_refl _)] at this
        exact this
      have hyc : (s.extract n s.size)[0]'hy0 = s[n] := by rw [← byte_at _ 0 hy0, hyl, drop_at hlt]; rfl
      have hne : (s.extract n s.size).toList ≠ [] := by rw [Lib.toList_data, hyl, drop_at hlt]; exact List.cons_ne_nil _ _
      have t0 : ((s.extract n s.size).toList == []) = false := beq_eq_false_iff_ne.2 hne
      have t1 : (s.extract n s.size).toList.isEmpty = false := by rw [Lib.toList_data, hyl, drop_at hlt]; rfl
      have hgc : ∀ W, Calls Tryd.prog 47 #[.int .u8 ((s[n].toNat : Nat) : Int)] W fun e w' => e = .returned (.bool false) ∧ Below W.heap.size W w' := fun W => by rw [← hgl]; exact pGlued_any W s[n]
      have hyi : ((s.extract n s.size).size : Int) = s.size - n := by rw [hys]; omega
      clear hone hT hX hXb hXl hxl hXs hdx hdec hn hd hl hx hst hgl hyl hne hP hys hv her hNN
      go_enter Tryd.func33, Tryd.ntmps33
      go_wp2_with fail
      rw [← hW]
      clear hW
      refine (pRun_any W W.heap.size 32 #[] isDg s (cls_digit _ _) (Nat.le_refl _) (by omega)).mono ?_
      rintro e w1 ⟨rfl, hb⟩
      rw [run_row, ← HN.out]
      have HK1 := Lib.hid (HK.out.below hb HK.out.lt)
      have HB1 := Lib.hid (HB.out.trans (hb.mono HB.out.size))
      clear hb
      have HP1 := Lib.hid (HP.out.below HB1.out (Nat.le_refl _))
      go_wp2_with fail
      refine (hgc _).mono ?_
      rintro e w2 ⟨rfl, hb⟩
      have HK2 := Lib.hid (HK1.out.below hb HK1.out.lt)
      have HB2 := Lib.hid (HB1.out.trans (hb.mono HB1.out.size))
      clear hb
      have HP2 := Lib.hid (HP.out.below HB2.out (Nat.le_refl _))
      go_wp2_with fail
      rw [← HXE.out]
      refine (hnum _ HP2.out).mono ?_
      rintro e w3 ⟨rfl, hb⟩
      have HK3 := Lib.hid (HK2.out.below hb HK2.out.lt)
      have HB3 := Lib.hid (HB2.out.trans (hb.mono HB2.out.size))
      clear hb
      by_cases he : er = 0
      · have t0 : (er == 0) = true := by rw [beq_iff_eq]; exact he
        have hv1 := HV.out.1
        have hv2 := HV.out.2 he
        have HE : Hid (T = (⟨2, [], (v : Int), 0, 0⟩, n, 0, 0)) := Lib.hid (by rw [HT.out, he, if_pos rfl, hv2])
        have wv : IntKind.i64.wrap (v : Int) = (v : Int) := by rw [IntKind.wrap_i64]; omega
        subst he
        clear hv2
        go_wp2_with (refine wpList_store_row rfl 34 _ _ rfl w.heap.size #[.int .i64 2, .string ⟨#[]⟩, .int .i64 (v : Int), .int .i64 0, .int .i64 0] rfl rfl _ _ HK3.out tok_size rfl (five_one _ _ _ _ _) ?_)
        (try simp only [Exit.inBlock, Exit.then]); refine bodyPost_ret (results_c2 rfl _ _ _ _ _ _ _ rfl (setRow_heap _ _ _ _ _ _ HK3.out) Tryd.underlying34 rfl (by kernel_rfl)) rfl ?_
        exact ⟨nx_ok HE.out _ rfl _ (by first | rfl | rw [HXS.out]), below_setRow HB3.out (Nat.le_refl _) _⟩
      · have t0 : (er == 0) = false := by rw [beq_eq_false_iff_ne]; exact he
        have HE : Hid (T = _) := HT
        have HNE := Lib.hid he
        clear he
        go_wp2_with (refine wpList_store_row rfl 34 _ _ rfl w.heap.size #[.int .i64 0, .string ⟨#[]⟩, .int .i64 0, .int .i64 0, .int .i64 0] rfl rfl _ _ HK3.out tok_size rfl (five_one _ _ _ _ _) ?_)
        (try simp only [Exit.inBlock, Exit.then]); refine bodyPost_ret (results_c2 rfl _ _ _ _ _ _ _ rfl (setRow_heap _ _ _ _ _ _ HK3.out) Tryd.underlying34 rfl (by kernel_rfl)) rfl ?_
        exact ⟨nx_err HE.out HNE.out _ rfl _ rfl, below_setRow HB3.out (Nat.le_refl _) _⟩
    · obtain rfl : n = s.size := by omega
      have hyl : (s.extract s.size s.size).data.toList = [] := by
        have := ext_list s s.size 0
        rw [Nat.add_zero, List.take_zero] at this
        exact this
      have t0 : ((s.extract s.size s.size).toList == []) = true := by rw [Lib.toList_data, hyl]; rfl
      have t1 : (s.extract s.size s.size).toList.isEmpty = true := by rw [Lib.toList_data, hyl]; rfl
      have hXe : X = s := by rw [hX]; simp
      rw [hXe] at hnum
      clear hone hT hX hXb hXl hxl hXs hdx hdec hn hd hl hx hst hP hv her hNN hyl hXe
      go_enter Tryd.func33, Tryd.ntmps33
      go_wp2_with fail
      rw [← hW]
      clear hW
      refine (pRun_any W W.heap.size 32 #[] isDg s (cls_digit _ _) (Nat.le_refl _) (by omega)).mono ?_
      rintro e w1 ⟨rfl, hb⟩
      rw [run_row, ← HN.out]
      have HK1 := Lib.hid (HK.out.below hb HK.out.lt)
      have HB1 := Lib.hid (HB.out.trans (hb.mono HB.out.size))
      clear hb
      have HP1 := Lib.hid (HP.out.below HB1.out (Nat.le_refl _))
      go_wp2_with fail
      skip
      refine (hnum _ HP1.out).mono ?_
      rintro e w3 ⟨rfl, hb⟩
      have HK3 := Lib.hid (HK1.out.below hb HK1.out.lt)
      have HB3 := Lib.hid (HB1.out.trans (hb.mono HB1.out.size))
      clear hb
      by_cases he : er = 0
      · have t0 : (er == 0) = true := by rw [beq_iff_eq]; exact he
        have hv1 := HV.out.1
        have hv2 := HV.out.2 he
        have HE : Hid (T = (⟨2, [], (v : Int), 0, 0⟩, s.size, 0, 0)) := Lib.hid (by rw [HT.out, he, if_pos rfl, hv2])
        have wv : IntKind.i64.wrap (v : Int) = (v : Int) := by rw [IntKind.wrap_i64]; omega
        subst he
        clear hv2
        go_wp2_with (refine wpList_store_row rfl 34 _ _ rfl w.heap.size #[.int .i64 2, .string ⟨#[]⟩, .int .i64 (v : Int), .int .i64 0, .int .i64 0] rfl rfl _ _ HK3.out tok_size rfl (five_one _ _ _ _ _) ?_)
        (try simp only [Exit.inBlock, Exit.then]); refine bodyPost_ret (results_c2 rfl _ _ _ _ _ _ _ rfl (setRow_heap _ _ _ _ _ _ HK3.out) Tryd.underlying34 rfl (by kernel_rfl)) rfl ?_
        exact ⟨nx_ok HE.out _ rfl _ (by first | rfl | rw [HXS.out]), below_setRow HB3.out (Nat.le_refl _) _⟩
      · have t0 : (er == 0) = false := by rw [beq_eq_false_iff_ne]; exact he
        have HE : Hid (T = _) := HT
        have HNE := Lib.hid he
        clear he
        go_wp2_with (refine wpList_store_row rfl 34 _ _ rfl w.heap.size #[.int .i64 0, .string ⟨#[]⟩, .int .i64 0, .int .i64 0, .int .i64 0] rfl rfl _ _ HK3.out tok_size rfl (five_one _ _ _ _ _) ?_)
        (try simp only [Exit.inBlock, Exit.then]); refine bodyPost_ret (results_c2 rfl _ _ _ _ _ _ _ rfl (setRow_heap _ _ _ _ _ _ HK3.out) Tryd.underlying34 rfl (by kernel_rfl)) rfl ?_
        exact ⟨nx_err HE.out HNE.out _ rfl _ rfl, below_setRow HB3.out (Nat.le_refl _) _⟩

end Go.Proofs.YtahpfbmaaccejaaDoor
