/- Contract of the reference's Words. -/
import Derived.Test.YteglmkifpdedbaaCap
import Derived.Test.YteglmkifpdedbaaWords
namespace Go.Proofs.Yteglmkifpdedbaa
open Go.RowKit

theorem drop_at (s : ByteArray) (k : Nat) (h : k < s.size) : s.data.toList.drop k = s[k] :: s.data.toList.drop (k + 1) := by
  have e := byte_at s k h
  have hl : k < s.data.toList.length := by rw [← Lib.size_eq]; exact h
  rw [List.getElem?_eq_getElem hl] at e
  rw [List.drop_eq_getElem_cons hl]
  congr 1

theorem runD_stop (s : ByteArray) (k j : Nat) (hk : k ≤ j) (hj : j < s.size) (ha : ∀ m, k ≤ m → m < j → isRow (s.data.toList[m]?.getD 0) = true) (hp : isRow s[j] = false) : runL isRow (s.data.toList.drop k) = j - k := by
  have hl : s.data.toList.length = s.size := by rw [Array.length_toList]; rfl
  refine runL_stop isRow _ (j - k) (by rw [List.length_drop]; omega) (fun m hm => ?_) ?_
  · have e := ha (k + m) (by omega) (by omega)
    rw [List.getElem?_eq_getElem (by omega)] at e
    rw [List.getElem_drop]
    exact e
  · rw [List.getElem_drop]
    have e := byte_at s j hj
    rw [List.getElem?_eq_getElem (by omega)] at e
    have e3 : s.data.toList[k + (j - k)]'(by omega) = s.data.toList[j]'(by omega) := by congr 1; omega
    rw [e3, ← hp, ← e]
    rfl

theorem runD_end (s : ByteArray) (k : Nat) (hk : k ≤ s.size) (ha : ∀ m, k ≤ m → m < s.size → isRow (s.data.toList[m]?.getD 0) = true) : runL isRow (s.data.toList.drop k) = s.size - k := by
  have hl : s.data.toList.length = s.size := by rw [Array.length_toList]; rfl
  have e0 : s.size - k = (s.data.toList.drop k).length := by rw [List.length_drop, hl]
  rw [e0]
  refine runL_end isRow _ (fun m hm => ?_)
  rw [List.length_drop] at hm
  have e := ha (k + m) (by omega) (by omega)
  rw [List.getElem?_eq_getElem (by omega)] at e
  rw [List.getElem_drop]
  exact e

theorem wordsD_row (s : ByteArray) (k j : Nat) (hkj : k < j) (hj : j ≤ s.size) (hr : runL isRow (s.data.toList.drop k) = j - k) {acc ws : List (List UInt8)} (he : acc ++ words (s.data.toList.drop k) = ws) :
    (acc ++ [lower ((s.data.toList.drop k).take (j - k))]) ++ words (s.data.toList.drop j) = ws ∧ lowB (s.extract k j) = bs (lower ((s.data.toList.drop k).take (j - k))) := by
  refine ⟨?_, by unfold lowB bs; rw [Lib.extract_data]⟩
  have hk : k < s.size := by omega
  have hd := drop_at s k hk
  have hrow : isRow s[k] = true := by
    rw [hd] at hr
    unfold runL at hr
    by_cases h : isRow s[k] = true
    · exact h
    · rw [if_neg h] at hr; omega
  have hw : words (s.data.toList.drop k) = lower ((s.data.toList.drop k).take (j - k)) :: words ((s.data.toList.drop k).drop (j - k)) := by
    rw [← hr, hd]
    exact words_row hrow
  rw [← he, hw, List.drop_drop, show k + (j - k) = j from by omega]
  simp

theorem wordsD_mark (s : ByteArray) (k : Nat) (hk : k < s.size) (hm : isMk s[k] = true) {acc ws : List (List UInt8)} (he : acc ++ words (s.data.toList.drop k) = ws) :
    (acc ++ [[s[k]]]) ++ words (s.data.toList.drop (k + 1)) = ws ∧ s.extract k (k + 1) = bs [s[k]] := by
  have hd := drop_at s k hk
  refine ⟨?_, ?_⟩
  · rw [← he, hd, words_mark (mk_row hm) hm]
    simp
  · have e := bs_data (s.extract k (k + 1))
    rw [Lib.extract_data, hd] at e
    rw [← e]
    simp

theorem wordsD_skip (s : ByteArray) (k : Nat) (hk : k < s.size) (hr : isRow s[k] = false) (hm : isMk s[k] = false) {acc ws : List (List UInt8)} (he : acc ++ words (s.data.toList.drop k) = ws) :
    acc ++ words (s.data.toList.drop (k + 1)) = ws := by
  rw [← he, drop_at s k hk, words_skip hr hm]

set_option maxRecDepth 100000 in
set_option maxHeartbeats 3200000 in
theorem rwords_any (w : World) (s : ByteArray) (hs : (s.size : Int) ≤ 1000000) :
    Calls Try.prog 21 #[.string s] w (OutS w.heap.size 9 w (words s.data.toList)) := by
  obtain ⟨i0, hi, hz, hsz, hby⟩ := info_parts Try.infoS
  go_enter Try.func21, Try.ntmps21
  go_wp2_with fail
  go_loopw [3, 4] (fun v i wr => ∃ (A : Option Addr) (n c : Nat) (acc : List (List UInt8)) (k : Nat), v = .slice A n c ∧ i = .int .i64 k ∧ k ≤ s.size ∧ Hid (acc ++ words (s.data.toList.drop k) = words s.data.toList) ∧ acc.length ≤ k ∧ wr.ownsRow w.heap.size 9 1 (.slice A n c) n (sc acc) ∧ Below w.heap.size w wr) (fun _ i _ => s.size - (intOf i).toNat)
  case atStart => exact ⟨none, 0, 0, [], 0, rfl, rfl, by omega, Lib.hid rfl, by simp, ownS_nil _ _ _, Below.refl _ _⟩
  case round =>
    obtain ⟨A, n, c, acc, k, rfl, rfl, hks, he, hacc, hown, hb⟩ := hrel
    have HO := Lib.hid hown
    clear hown
    have hn := Lib.hid (ownS_len HO.out)
    by_cases hlt : k < s.size
    · go_wp2_with fail
      obtain ⟨wo, rfl⟩ : ∃ wo : World, wo = wr := ⟨_, rfl⟩
      go_loop [5] (fun v => ∃ j : Nat, k ≤ j ∧ j ≤ s.size ∧ v = .int .i64 j ∧ Hid (∀ m, k ≤ m → m < j → isRow (s.data.toList[m]?.getD 0) = true)) (fun v => s.size - (intOf v).toNat)
      case atStart => exact ⟨k, Nat.le_refl _, hks, rfl, Lib.hid (fun m h1 h2 => absurd h2 (by omega))⟩
      case round =>
        obtain ⟨j, hkj, hj, rfl, hall⟩ := hrel
        by_cases hjs : j < s.size
        · by_cases hrow : isRow s[j] = true
          · go_wp2_with fail
            refine (rrow_any _ s[j]).mono ?_
            rintro e w2 ⟨rfl, rfl⟩
            go_wp2_with fail
            go_round
            case rel =>
              refine ⟨j + 1, by omega, by omega, by go_num, Lib.hid (fun m h1 h2 => ?_)⟩
              by_cases e : m = j
              · subst e; rw [byte_at s m hjs]; exact hrow
              · exact hall.out m h1 (by omega)
            case measure => simp [intOf]; omega
          · rw [Bool.not_eq_true] at hrow
            have hrun := Lib.hid (runD_stop s k j hkj hjs hall.out hrow)
            by_cases hkj2 : k < j
            · have hnn0 := hrow
              have hrd := Lib.hid (wordsD_row s k j (by omega) (by omega) hrun.out he.out)
              go_wp2_with fail
              refine (rrow_any _ s[j]).mono ?_
              rintro e w2 ⟨rfl, rfl⟩
              go_wp2_with fail
              refine (rlower_any _ (s.extract k j) (by rw [Lib.size_eq, Lib.extract_data, List.length_take, List.length_drop, ← Lib.size_eq]; omega)).mono ?_
              rintro e w6 ⟨rfl, hb6⟩
              rw [hrd.out.2]
              have hb7 := hb.trans (hb6.mono hb.size)
              have HO6 := Lib.hid (own_below HO.out hb6)
              have hz7 := hb7.size
              have hnn : n ≤ 1000000 := by have := hn.out; omega
              clear hb6
              go_wp2_with (at_builtin; refine wpList_app1 _ rfl _ _ 25 rfl w.heap.size 9 i0 _ 16 Try.underlying25 hi hz hsz hby rfl _ n (sc acc) rfl (HO6.out.alloc _) ⟨w6.heap.size, 0, none⟩ 1 (.string (bs (lower ((s.data.toList.drop k).take (j - k))))) rfl (new_cell _ _ _) rfl (by omega) (by unfold maxLen; omega) (by simp; omega) ?_; intro A2 c2 w8 hown2 hg2)
              have H2 := Lib.hid hown2
              clear hown2
              go_roundw
              case rel =>
                refine ⟨A2, n + 1, c2, acc ++ [lower ((s.data.toList.drop k).take (j - k))], j, rfl, by go_num, by omega, Lib.hid hrd.out.1, ?_, ?_, ?_⟩
                · rw [List.length_append, List.length_singleton]; omega
                · rw [sc_snoc]; exact H2.out
                · exact (hb7.alloc hz7 _).grown hg2 (by simp; omega) (own_from HO6.out)
              case measure => simp [intOf]; omega
            · have hj2 : j = k := by omega
              subst hj2
              by_cases hm : isMk s[j] = true
              · have hrd := Lib.hid (wordsD_mark s j hlt hm he.out)
                have hnn : n ≤ 1000000 := by have := hn.out; omega
                have hz7 := hb.size
                have hmm : (s[j].toNat : Int) = 46 ∨ (s[j].toNat : Int) = 44 := by simp [isMk] at hm; omega
                rcases hmm with hmm | hmm
                · have t1 : ((s[j].toNat : Int) == 46) = true := by simpa using hmm
                  clear hmm
                  go_wp2_with fail
                  refine (rrow_any _ s[j]).mono ?_
                  rintro e w2 ⟨rfl, rfl⟩
                  have hex := hrd.out.2
                  go_wp2_with (at_builtin; refine wpList_app1 _ rfl _ _ 25 rfl w.heap.size 9 i0 _ 16 Try.underlying25 hi hz hsz hby rfl _ n (sc acc) rfl (HO.out.alloc _) ⟨wo.heap.size, 0, none⟩ 1 (.string (bs [s[j]])) rfl (new_cell _ _ _) rfl (by omega) (by unfold maxLen; omega) (by simp; omega) ?_; intro A2 c2 w8 hown2 hg2)
                  have H2 := Lib.hid hown2
                  clear hown2
                  go_roundw
                  case rel =>
                    refine ⟨A2, n + 1, c2, acc ++ [[s[j]]], j + 1, rfl, by go_num, by omega, Lib.hid hrd.out.1, ?_, ?_, ?_⟩
                    · rw [List.length_append, List.length_singleton]; omega
                    · rw [sc_snoc]; exact H2.out
                    · exact (hb.alloc hz7 _).grown hg2 (by simp; omega) (own_from HO.out)
                  case measure => simp [intOf]; omega
                · have t1 : ((s[j].toNat : Int) == 46) = false := by simp; omega
                  have t2 : ((s[j].toNat : Int) == 44) = true := by simpa using hmm
                  clear hmm
                  go_wp2_with fail
                  refine (rrow_any _ s[j]).mono ?_
                  rintro e w2 ⟨rfl, rfl⟩
                  have hex := hrd.out.2
                  go_wp2_with (at_builtin; refine wpList_app1 _ rfl _ _ 25 rfl w.heap.size 9 i0 _ 16 Try.underlying25 hi hz hsz hby rfl _ n (sc acc) rfl (HO.out.alloc _) ⟨wo.heap.size, 0, none⟩ 1 (.string (bs [s[j]])) rfl (new_cell _ _ _) rfl (by omega) (by unfold maxLen; omega) (by simp; omega) ?_; intro A2 c2 w8 hown2 hg2)
                  have H2 := Lib.hid hown2
                  clear hown2
                  go_roundw
                  case rel =>
                    refine ⟨A2, n + 1, c2, acc ++ [[s[j]]], j + 1, rfl, by go_num, by omega, Lib.hid hrd.out.1, ?_, ?_, ?_⟩
                    · rw [List.length_append, List.length_singleton]; omega
                    · rw [sc_snoc]; exact H2.out
                    · exact (hb.alloc hz7 _).grown hg2 (by simp; omega) (own_from HO.out)
                  case measure => simp [intOf]; omega
              · rw [Bool.not_eq_true] at hm
                have hrd := Lib.hid (wordsD_skip s j hlt hrow hm he.out)
                have t1 : ((s[j].toNat : Int) == 46) = false := by simp [isMk] at hm; simp; omega
                have t2 : ((s[j].toNat : Int) == 44) = false := by simp [isMk] at hm; simp; omega
                clear hm
                go_wp2_with fail
                refine (rrow_any _ s[j]).mono ?_
                rintro e w2 ⟨rfl, rfl⟩
                go_wp2_with fail
                go_roundw
                case rel => exact ⟨A, n, c, acc, j + 1, rfl, by go_num, by omega, hrd, by omega, HO.out, hb⟩
                case measure => simp [intOf]; omega
        · have hj3 : j = s.size := by omega
          subst hj3
          have hrun := Lib.hid (runD_end s k hks hall.out)
          have hrd := Lib.hid (wordsD_row s k s.size (by omega) (by omega) hrun.out he.out)
          go_wp2_with fail
          refine (rlower_any _ (s.extract k s.size) (by rw [Lib.size_eq, Lib.extract_data, List.length_take, List.length_drop, ← Lib.size_eq]; omega)).mono ?_
          rintro e w6 ⟨rfl, hb6⟩
          rw [hrd.out.2]
          have hb7 := hb.trans (hb6.mono hb.size)
          have HO6 := Lib.hid (own_below HO.out hb6)
          have hz7 := hb7.size
          have hnn : n ≤ 1000000 := by have := hn.out; omega
          clear hb6
          go_wp2_with (at_builtin; refine wpList_app1 _ rfl _ _ 25 rfl w.heap.size 9 i0 _ 16 Try.underlying25 hi hz hsz hby rfl _ n (sc acc) rfl (HO6.out.alloc _) ⟨w6.heap.size, 0, none⟩ 1 (.string (bs (lower ((s.data.toList.drop k).take (s.size - k))))) rfl (new_cell _ _ _) rfl (by omega) (by unfold maxLen; omega) (by simp; omega) ?_; intro A2 c2 w8 hown2 hg2)
          have H2 := Lib.hid hown2
          clear hown2
          go_roundw
          case rel =>
            refine ⟨A2, n + 1, c2, acc ++ [lower ((s.data.toList.drop k).take (s.size - k))], s.size, rfl, by go_num, by omega, Lib.hid hrd.out.1, ?_, ?_, ?_⟩
            · rw [List.length_append, List.length_singleton]; omega
            · rw [sc_snoc]; exact H2.out
            · exact (hb7.alloc hz7 _).grown hg2 (by simp; omega) (own_from HO6.out)
          case measure => simp [intOf]; omega
    · have hwd : Hid (acc = words s.data.toList) := Lib.hid (by
        have e2 : s.data.toList.drop k = [] := List.drop_of_length_le (by rw [← Lib.size_eq]; omega)
        have e3 := he.out
        rw [e2, words_nil, List.append_nil] at e3
        exact e3)
      go_wp2_with fail
      go_ret
      exact ⟨A, n, c, rfl, hwd.out ▸ HO.out, hb⟩

end Go.Proofs.Yteglmkifpdedbaa
