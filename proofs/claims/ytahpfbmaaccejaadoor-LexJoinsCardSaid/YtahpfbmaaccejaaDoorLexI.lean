/- Contract of the reference's All: a source's tokens. -/
import Derived.Test.YtahpfbmaaccejaaDoorLexB
import Derived.Test.YtahpfbmaaccejaaDoorLexH
import Derived.Test.YtahpfbmaaccejaaDoorInfo
namespace Go.Proofs.YtahpfbmaaccejaaDoor
open Go.RowKit

theorem Tryd.inf_tok : (Tryd.prog.info? 34).map (fun i => (i.zero, i.size, i.bytes)) = some (some (.agg #[.int .i64 0, .string ⟨#[]⟩, .int .i64 0, .int .i64 0, .int .i64 0]), 5, 48) := by kernel_rfl

theorem results_tc {P : Program} {fn : Func} {p u : Tmp} {ty : TypeId} (h : fn.results = #[.tmp u, .cell p ty]) (tmps : Array Value) (w : World) (g : Nat) (t : TypeId) (cs : Array Value) (fr : Nat × Nat) (d : TypeDesc)
    (hp : tmps.getD p undef = .pointer (some ⟨g, 0, none⟩)) (hg : w.heap[g]? = some (.cells cs t fr))
    (hu : P.underlying ty = some d) (hd : (match d with | .struct _ | .array _ _ => true | _ => false) = true) (hi : (P.info? ty).map (·.size) = some cs.size) :
    (results fn tmps).run P w = .ok (.tuple #[tmps.getD u undef, .agg cs]) w := by
  have hp' : tmps[p]?.getD undef = .pointer (some ⟨g, 0, none⟩) := by simpa using hp
  simp [results, h, hp', asAddr, run_loadVar_row w g t ty cs fr d hg hu hd hi]

theorem outT_err {base : Nat} {t : TypeId} {w w' : World} {R : List Tk × (Int × Int × Int)} {a b c : Int} (h : R = ([], (a, b, c))) (hb : Below base w w') : OutT base t w R (.returned (.tuple #[.slice none 0 0, .agg #[.int .i64 a, .int .i64 b, .int .i64 c]])) w' := by
  subst h
  exact ⟨none, 0, 0, rfl, ownT_nil _ _ _, hb⟩

theorem outT_ok {base : Nat} {t : TypeId} {w w' : World} {R : List Tk × (Int × Int × Int)} {ts : List Tk} {A : Option Addr} {n c : Nat} (h : R = (ts, (0, 0, 0))) (ho : w'.ownsRow base t 5 (.slice A n c) n (tkv ts)) (hb : Below base w w') : OutT base t w R (.returned (.tuple #[.slice A n c, .agg #[.int .i64 0, .int .i64 0, .int .i64 0]])) w' := by
  subst h
  exact ⟨A, n, c, rfl, ho, hb⟩

theorem own_setRow9 {w : World} {base g : Nat} {e : TypeId} {size n : Nat} {v : Value} {xs : List Value} (h : w.ownsRow base e size v n xs) (hg : g < base) (cs : Array Value) : (w.setRow g cs).ownsRow base e size v n xs :=
  h.kept (row := some g) ⟨rfl, rfl, rfl, by rw [size_setRow]; exact Nat.le_refl _, fun k _ hk => setRow_other w g k cs (fun e => hk (by rw [e]))⟩ (.inr fun e => by have := own_from h g e; omega)

set_option maxRecDepth 100000 in
set_option maxHeartbeats 12800000 in
theorem r9All_any (w : World) (s : ByteArray) (hs : (s.size : Int) ≤ 60000) :
    Calls Tryd.prog 14 #[.string s] w (OutT w.heap.size 34 w (lexL keyB s.data.toList)) := by
  have hl : s.data.toList.length = s.size := by rw [Array.length_toList]; rfl
  have HL := Lib.hid hl
  obtain ⟨R, hR⟩ : ∃ R, R = lexL keyB s.data.toList := ⟨_, rfl⟩
  have HR0 : Hid (R = lexF keyB s.data.toList (s.size + 1) 0 []) := Lib.hid (by rw [hR]; unfold lexL; rw [hl, if_neg (by omega)])
  rw [← hR]
  clear hR hl
  have hs1 : (s.size : Int) ≤ 100000 := by omega
  obtain ⟨i0, hi, hz0, hsz, hby⟩ := inf_parts Tryd.inf_tok
  have HI := Lib.hid hi
  have HZ0 := Lib.hid hz0
  have HSZ := Lib.hid hsz
  have HBY := Lib.hid hby
  clear hi hz0 hsz hby
  obtain ⟨W, hW⟩ : ∃ W, W = w.alloc (.cells #[.int .i64 0, .int .i64 0, .int .i64 0] 28) := ⟨_, rfl⟩
  have HK : Hid (Blk W w.heap.size 28 #[.int .i64 0, .int .i64 0, .int .i64 0]) := Lib.hid (by rw [hW]; exact Blk.new _ _ _)
  have HBW : Hid (Below w.heap.size w W) := Lib.hid (by rw [hW]; exact (Below.refl _ _).alloc (Nat.le_refl _) _)
  go_enter Tryd.func14, Tryd.ntmps14
  go_wp2_with fail
  rw [← hW]
  clear hW
  go_loopw [4, 5] (fun vo vi wr => ∃ (f i n c : Nat) (A : Option Addr) (out : List Tk), i ≤ s.size ∧ s.size < i + f ∧ vo = .slice A n c ∧ vi = .int .i64 i ∧ n ≤ i ∧ Hid (wr.ownsRow W.heap.size 34 5 (.slice A n c) n (tkv out)) ∧ Hid (Below W.heap.size W wr) ∧ Hid (R = lexF keyB s.data.toList f i out)) (fun _ vi _ => s.size + 1 - (intOf vi).toNat)
  case atStart => exact ⟨s.size + 1, 0, 0, 0, none, [], Nat.zero_le _, by omega, rfl, rfl, Nat.le_refl _, Lib.hid (ownT_nil _ _ _), Lib.hid (Below.refl _ _), HR0⟩
  case round =>
    clear HR0
    obtain ⟨f, i, n, c, A, out, hi, hf, rfl, rfl, hni, HO, HB, HR⟩ := hrel
    obtain ⟨f2, hf2⟩ : ∃ f2, f = f2 + 1 := ⟨f - 1, by omega⟩
    rw [hf2] at HR
    have HF : Hid (f = f2 + 1) := Lib.hid hf2
    clear hf2
    have HKR := Lib.hid (HK.out.below HB.out HK.out.lt)
    have HBR := Lib.hid (HBW.out.trans (HB.out.mono HBW.out.size))
    obtain ⟨⟨g, b⟩, hg⟩ : ∃ p, p = gapF false (s.data.toList.drop i) := ⟨_, rfl⟩
    have hgl : g ≤ s.size - i := by
      have h := gapF_len (s.data.toList.drop i) false
      rw [← hg, List.length_drop, HL.out] at h
      exact h
    have HG : Hid (gapF false (s.data.toList.drop i) = (g, b)) := Lib.hid hg.symm
    clear hg
    obtain ⟨k, hk⟩ : ∃ k, k = i + g := ⟨_, rfl⟩
    have HKI : Hid (k = i + g) := Lib.hid hk
    have hks : k ≤ s.size := by omega
    have hik : i ≤ k := by omega
    clear hk hgl
    go_wp2_with fail
    refine (r9gap_any wr s i hi hs1).mono ?_
    rintro e w1 ⟨he, rfl⟩
    obtain rfl : e = .returned (.tuple #[.int .i64 k, .bool b]) := he.trans (by simp only [HG.out, HKI.out])
    clear he
    cases b with
    | false =>
      obtain ⟨⟨a, b, d⟩, hF⟩ : ∃ F, F = failAt s.data.toList k 13 := ⟨_, rfl⟩
      have HE : Hid (R = ([], (a, b, d))) := Lib.hid (by rw [HR.out, lexF_gap HG.out, ← HKI.out, hF])
      have HFA : Hid (failAt s.data.toList k 13 = (a, b, d)) := Lib.hid hF.symm
      clear hF HR
      go_wp2_with fail
      refine (r9fail_any wr s k 13 hks hs1).mono ?_
      rintro e w2 ⟨rfl, hb2⟩
      rw [HFA.out]
      have HK2 := Lib.hid (HKR.out.below hb2 HKR.out.lt)
      have HB2 := Lib.hid (HBR.out.trans (hb2.mono HBR.out.size))
      clear hb2
      go_wp2_with (refine wpList_store_row rfl 28 _ _ rfl w.heap.size #[.int .i64 a, .int .i64 b, .int .i64 d] rfl rfl _ _ HK2.out fail_size rfl (three_ints _ _ _) ?_)
      (try simp only [Exit.inBlock, Exit.then]); refine bodyPost_ret (results_tc rfl _ _ _ _ _ _ _ rfl (setRow_heap _ _ _ _ _ _ HK2.out) Tryd.underlying28 rfl (by kernel_rfl)) rfl ?_
      exact outT_err HE.out (below_setRow HB2.out (Nat.le_refl _) _)
    | true =>
      obtain ⟨⟨l, cl⟩, hp⟩ : ∃ p, p = posL (s.data.toList.take k) := ⟨_, rfl⟩
      have HP : Hid (posL (s.data.toList.take k) = (l, cl)) := Lib.hid hp.symm
      clear hp
      go_wp2_with fail
      refine (r9at_any wr s k hks hs1).mono ?_
      rintro e w1 ⟨he, rfl⟩
      obtain rfl : e = .returned (.tuple #[.int .i64 l, .int .i64 cl]) := he.trans (by simp only [HP.out])
      clear he
      by_cases hend : s.size ≤ k
      · have hendi : (s.size : Int) ≤ k := by omega
        have HE : Hid (R = (out ++ [⟨0, [], 0, l, cl⟩], (0, 0, 0))) := Lib.hid (by
          rw [HR.out, lexF_stop HG.out (by rw [HL.out, ← HKI.out]; exact hend), ← HKI.out]
          unfold endTk
          rw [HP.out])
        have hwb := HB.out.size
        clear HR hend
        go_wp2_with (first | (at_builtin; refine wpList_appT _ rfl _ _ 25 rfl W.heap.size 34 i0 _ Tryd.underlying25 HI.out HZ0.out rfl HSZ.out HBY.out _ n out rfl (HO.out.alloc _) wr.heap.size _ ⟨0, [], 0, l, cl⟩ rfl (Blk.new wr _ _) (by omega) (by simp; omega) ?_; intro A8 c8 w8 hown8 hg8; have hb8 := Lib.hid ((HB.out.alloc HB.out.size _).grown hg8 (by simp; omega) (own_from HO.out)); have HB8 := Lib.hid (HBW.out.trans (hb8.out.mono HBW.out.size)); have HK8 := Lib.hid (HK.out.below hb8.out HK.out.lt)) | (refine wpList_store_row rfl 28 _ _ rfl w.heap.size #[.int .i64 0, .int .i64 0, .int .i64 0] rfl rfl _ _ HK8.out fail_size rfl (three_ints _ _ _) ?_))
        (try simp only [Exit.inBlock, Exit.then]); refine bodyPost_ret (results_tc rfl _ _ _ _ _ _ _ rfl (setRow_heap _ _ _ _ _ _ HK8.out) Tryd.underlying28 rfl (by kernel_rfl)) rfl ?_
        exact outT_ok HE.out (own_base (own_setRow9 hown8 HK.out.lt _) HBW.out.size) (below_setRow HB8.out (Nat.le_refl _) _)
      · have hlt : k < s.size := by omega
        have hendi : ¬ (s.size : Int) ≤ k := by omega
        have hkl : i + g < s.data.toList.length := by rw [HL.out, ← HKI.out]; exact hlt
        obtain ⟨⟨⟨kd, x, nm, l0, c0⟩, m, er, wh⟩, hT⟩ : ∃ T, T = oneTk keyB (s.data.toList.drop k) := ⟨_, rfl⟩
        have HT : Hid (oneTk keyB (s.data.toList.drop (i + g)) = (⟨kd, x, nm, l0, c0⟩, m, er, wh)) := Lib.hid (by rw [← HKI.out]; exact hT.symm)
        obtain ⟨q1, q2⟩ := oneTk_facts keyB (l := s.data.toList.drop k) (by rw [drop_at hlt]; exact List.cons_ne_nil _ _) hT.symm
        rw [List.length_drop, HL.out] at q1 q2
        have HQ1 := Lib.hid q1
        have HKL := Lib.hid hkl
        clear q1 hend hkl
        go_wp2_with fail
        refine (r9one_any wr s k hlt hs1).mono ?_
        rintro e w2 ⟨⟨to, wv, he, h1, h2⟩, hb2⟩
        rw [← hT] at he h1 h2
        clear hT
        subst he
        have H1 : Hid (er = 0 → to = k + m) := Lib.hid h1
        have H2 : Hid (er ≠ 0 → wv = k + wh) := Lib.hid h2
        clear h1 h2
        have HO2 := Lib.hid (own_below HO.out hb2)
        have HB2 := Lib.hid (HB.out.trans (hb2.mono HB.out.size))
        clear hb2
        by_cases h0 : er = 0
        · subst h0
          have hto : to = k + m := H1.out rfl
          obtain ⟨m1, m2, _⟩ := HQ1.out rfl
          have htos : to ≤ s.size := by omega
          have hito : i < to := by omega
          have HTO := Lib.hid hto
          clear H1 H2 HQ1 m1 m2 hto q2
          have hol := ownT_len HO.out
          by_cases hc : n = 16384
          · obtain ⟨⟨a, b, d⟩, hF⟩ : ∃ F, F = failAt s.data.toList k 7 := ⟨_, rfl⟩
            have HE : Hid (R = ([], (a, b, d))) := Lib.hid (by rw [HR.out, lexF_many HG.out HKL.out HT.out (by rw [hol]; exact hc), ← HKI.out, hF])
            have HFA : Hid (failAt s.data.toList k 7 = (a, b, d)) := Lib.hid hF.symm
            have tc : ((n : Int) == 16384) = true := by rw [beq_iff_eq]; omega
            clear hF HR hc hol
            go_wp2_with (refine wpList_store_row rfl 34 _ _ rfl w2.heap.size #[.int .i64 kd, .string (bs x), .int .i64 nm, .int .i64 l0, .int .i64 c0] rfl rfl _ _ (Blk.new w2 _ _) tok_size rfl (five_one _ _ _ _ _) ?_; obtain ⟨V, hV⟩ : ∃ V, V = (w2.alloc (.cells #[.int .i64 0, .string ⟨#[]⟩, .int .i64 0, .int .i64 0, .int .i64 0] 34)).setRow w2.heap.size #[.int .i64 kd, .string (bs x), .int .i64 nm, .int .i64 l0, .int .i64 c0] := ⟨_, rfl⟩; rw [← hV]; obtain ⟨hkV, hbV⟩ := put_tok hV; have HKV := Lib.hid hkV; have HBV := Lib.hid hbV; clear hV hkV hbV)
            refine (r9fail_any V s k 7 hks hs1).mono ?_
            rintro e w3 ⟨rfl, hb3⟩
            rw [HFA.out]
            have HB3 := Lib.hid ((HB2.out.trans (HBV.out.mono HB2.out.size)).trans (hb3.mono (HB2.out.trans (HBV.out.mono HB2.out.size)).size))
            have HK3 := Lib.hid (HK.out.below HB3.out HK.out.lt)
            have HB4 := Lib.hid (HBW.out.trans (HB3.out.mono HBW.out.size))
            clear hb3
            go_wp2_with (refine wpList_store_row rfl 28 _ _ rfl w.heap.size #[.int .i64 a, .int .i64 b, .int .i64 d] rfl rfl _ _ HK3.out fail_size rfl (three_ints _ _ _) ?_)
            (try simp only [Exit.inBlock, Exit.then]); refine bodyPost_ret (results_tc rfl _ _ _ _ _ _ _ rfl (setRow_heap _ _ _ _ _ _ HK3.out) Tryd.underlying28 rfl (by kernel_rfl)) rfl ?_
            exact outT_err HE.out (below_setRow HB4.out (Nat.le_refl _) _)
          · have tc : ((n : Int) == 16384) = false := by rw [beq_eq_false_iff_ne]; omega
            have HE : Hid (R = lexF keyB s.data.toList f2 to (out ++ [⟨kd, x, nm, l, cl⟩])) := Lib.hid (by
              rw [HR.out, lexF_go HG.out HKL.out HT.out (by rw [hol]; exact hc), ← HKI.out, ← HTO.out]
              unfold putTk
              rw [HP.out])
            have HF2 : Hid (s.size < to + f2) := Lib.hid (by have := HF.out; omega)
            clear HR hc hol
            go_wp2_with (first | (refine wpList_store_row rfl 34 _ _ rfl w2.heap.size #[.int .i64 kd, .string (bs x), .int .i64 nm, .int .i64 l0, .int .i64 c0] rfl rfl _ _ (Blk.new w2 _ _) tok_size rfl (five_one _ _ _ _ _) ?_; obtain ⟨V, hV⟩ : ∃ V, V = (w2.alloc (.cells #[.int .i64 0, .string ⟨#[]⟩, .int .i64 0, .int .i64 0, .int .i64 0] 34)).setRow w2.heap.size #[.int .i64 kd, .string (bs x), .int .i64 nm, .int .i64 l0, .int .i64 c0] := ⟨_, rfl⟩; rw [← hV]; obtain ⟨hkV, hbV⟩ := put_tok hV; have HKV := Lib.hid hkV; have HBV := Lib.hid hbV; clear hV hkV hbV; have HKV2 : Hid (Blk ((V.setCell ⟨w2.heap.size, 3, none⟩ (.int .i64 l)).setCell ⟨w2.heap.size, 4, none⟩ (.int .i64 cl)) w2.heap.size 34 #[.int .i64 kd, .string (bs x), .int .i64 nm, .int .i64 l, .int .i64 cl]) := Lib.hid ((HKV.out.set_ 3 (.int .i64 l)).set_ 4 (.int .i64 cl)); have z3 : V.frozen? ⟨w2.heap.size, 3, none⟩ = false := HKV.out.frozen 3; have z4 : (V.setCell ⟨w2.heap.size, 3, none⟩ (.int .i64 l)).frozen? ⟨w2.heap.size, 4, none⟩ = false := (HKV.out.set_ 3 (.int .i64 l)).frozen 4; have f3 : V.cell? ⟨w2.heap.size, 3, none⟩ = some (.int .i64 l0) := HKV.out.cell 3; have f4 : (V.setCell ⟨w2.heap.size, 3, none⟩ (.int .i64 l)).cell? ⟨w2.heap.size, 4, none⟩ = some (.int .i64 c0) := (HKV.out.set_ 3 (.int .i64 l)).cell 4; obtain ⟨V2, hV2⟩ : ∃ V2, V2 = (V.setCell ⟨w2.heap.size, 3, none⟩ (.int .i64 l)).setCell ⟨w2.heap.size, 4, none⟩ (.int .i64 cl) := ⟨_, rfl⟩; have HV2 := Lib.hid hV2; have HBV2 : Hid (Below w2.heap.size w2 V2) := Lib.hid (by rw [hV2]; exact (HBV.out.setCell (Nat.le_refl _) _).setCell (Nat.le_refl _) _); have HO3 := Lib.hid (own_below HO2.out HBV2.out); have HB3 := Lib.hid (HB2.out.trans (HBV2.out.mono HB2.out.size)); have hwb := HB3.out.size; clear hV2) | (refine wpList_load_row rfl 34 _ rfl w2.heap.size rfl 34 #[.int .i64 kd, .string (bs x), .int .i64 nm, .int .i64 l, .int .i64 cl] (0, 0) _ HKV2.out Tryd.underlying34 rfl tok_size ?_; rw [← HV2.out]) | (at_builtin; refine wpList_appT _ rfl _ _ 25 rfl W.heap.size 34 i0 _ Tryd.underlying25 HI.out HZ0.out rfl HSZ.out HBY.out _ n out rfl (HO3.out.alloc _) V2.heap.size _ ⟨kd, x, nm, l, cl⟩ rfl (Blk.new V2 _ _) (by omega) (by simp; omega) ?_; intro A8 c8 w8 hown8 hg8; have hb8 := Lib.hid ((HB3.out.alloc HB3.out.size _).grown hg8 (by simp; omega) (own_from HO3.out))))
            go_roundw
            case rel => exact ⟨f2, to, n + 1, c8, A8, _, htos, HF2.out, by go_num, rfl, by omega, Lib.hid hown8, hb8, HE⟩
            case measure => simp [intOf]; omega
        · have hwv : wv = k + wh := H2.out h0
          have hws : wv ≤ s.size := by omega
          obtain ⟨⟨a, b, d⟩, hF⟩ : ∃ F, F = failAt s.data.toList wv er := ⟨_, rfl⟩
          have HE : Hid (R = ([], (a, b, d))) := Lib.hid (by rw [HR.out, lexF_err HG.out HKL.out HT.out h0, ← HKI.out, ← hwv, hF])
          have HFA : Hid (failAt s.data.toList wv er = (a, b, d)) := Lib.hid hF.symm
          have t0 : (er == 0) = false := by rw [beq_eq_false_iff_ne]; exact h0
          clear hF HR H1 H2 HQ1 q2 hwv h0
          go_wp2_with (refine wpList_store_row rfl 34 _ _ rfl w2.heap.size #[.int .i64 kd, .string (bs x), .int .i64 nm, .int .i64 l0, .int .i64 c0] rfl rfl _ _ (Blk.new w2 _ _) tok_size rfl (five_one _ _ _ _ _) ?_; obtain ⟨V, hV⟩ : ∃ V, V = (w2.alloc (.cells #[.int .i64 0, .string ⟨#[]⟩, .int .i64 0, .int .i64 0, .int .i64 0] 34)).setRow w2.heap.size #[.int .i64 kd, .string (bs x), .int .i64 nm, .int .i64 l0, .int .i64 c0] := ⟨_, rfl⟩; rw [← hV]; obtain ⟨hkV, hbV⟩ := put_tok hV; have HKV := Lib.hid hkV; have HBV := Lib.hid hbV; clear hV hkV hbV)
          refine (r9fail_any V s wv er hws hs1).mono ?_
          rintro e w3 ⟨rfl, hb3⟩
          rw [HFA.out]
          have HB3 := Lib.hid ((HB2.out.trans (HBV.out.mono HB2.out.size)).trans (hb3.mono (HB2.out.trans (HBV.out.mono HB2.out.size)).size))
          have HK3 := Lib.hid (HK.out.below HB3.out HK.out.lt)
          have HB4 := Lib.hid (HBW.out.trans (HB3.out.mono HBW.out.size))
          clear hb3
          go_wp2_with (refine wpList_store_row rfl 28 _ _ rfl w.heap.size #[.int .i64 a, .int .i64 b, .int .i64 d] rfl rfl _ _ HK3.out fail_size rfl (three_ints _ _ _) ?_)
          (try simp only [Exit.inBlock, Exit.then]); refine bodyPost_ret (results_tc rfl _ _ _ _ _ _ _ rfl (setRow_heap _ _ _ _ _ _ HK3.out) Tryd.underlying28 rfl (by kernel_rfl)) rfl ?_
          exact outT_err HE.out (below_setRow HB4.out (Nat.le_refl _) _)

end Go.Proofs.YtahpfbmaaccejaaDoor
