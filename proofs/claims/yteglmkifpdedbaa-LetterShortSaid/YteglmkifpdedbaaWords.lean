/- Contract of Words. -/
import Derived.Test.YteglmkifpdedbaaLower
import Derived.Test.YteglmkifpdedbaaStrs
namespace Go.Proofs.Yteglmkifpdedbaa
open Go.RowKit

theorem Try.infoS : (Try.prog.info? 9).map (fun i => (i.zero, i.size, i.bytes)) = some (some (.string ⟨#[]⟩), 1, 16) := by kernel_rfl

/-- how long a text in a slot is -/
def strSize : Value → Nat
  | .string s => s.size
  | _ => 0

theorem holds_three (w : World) (k1 k2 k3 : Nat) (c1 c2 c3 : Array Value) (p1 p2 p3 : UInt8 → Bool) (t : TypeId) (h1 : Cls w w.heap.size k1 c1 p1) (h2 : Cls w w.heap.size k2 c2 p2) (h3 : Cls w w.heap.size k3 c3 p3) (W : World)
    (hW : W = ((w.alloc (.cells #[.func (.func k1) #[] c1] t)).alloc (.cells #[.func (.func k2) #[] c2] t)).alloc (.cells #[.func (.func k3) #[] c3] t)) :
    Holds W W.heap.size w.heap.size k1 c1 p1 ∧ Holds W W.heap.size (w.heap.size + 1) k2 c2 p2 ∧ Holds W W.heap.size (w.heap.size + 1 + 1) k3 c3 p3 ∧ Below w.heap.size w W := by
  obtain ⟨a1, a2, ab⟩ := holds_two w k1 k2 c1 c2 p1 p2 t t h1 h2 _ rfl
  have hz : ((w.alloc (.cells #[.func (.func k1) #[] c1] t)).alloc (.cells #[.func (.func k2) #[] c2] t)).heap.size = w.heap.size + 1 + 1 := by simp
  obtain ⟨a3, ab3⟩ := holds_one_at _ (w.heap.size + 1 + 1) k3 hz.symm c3 p3 t ((h3.below ab).more (by omega)) W hW
  exact ⟨(a1.below ab3).more ab3.size, (a2.below ab3).more ab3.size, a3, ab.trans (ab3.mono ab.size)⟩

theorem at_zero (r : ByteArray) (h : 0 < r.size) : ∃ q, r.data.toList = r[0] :: q ∧ q = r.data.toList.drop 1 := by
  have e := byte_at r 0 h
  cases hl : r.data.toList with
  | nil => rw [Lib.size_eq, hl] at h; simp at h
  | cons c q => rw [hl] at e; simp at e; exact ⟨q, by rw [e], rfl⟩

theorem cut_head (r : ByteArray) (k : Nat) : (r.extract 0 k).data.toList = r.data.toList.take k := by rw [Lib.extract_data]; simp
theorem cut_tail (r : ByteArray) (k : Nat) : (r.extract k r.size).data.toList = r.data.toList.drop k := by
  rw [Lib.extract_data, List.take_of_length_le (by rw [List.length_drop, Lib.size_eq]; omega)]

/-- the three ways of a round -/
theorem round_row {r : ByteArray} (h : 0 < r.size) (hr : isRow r[0] = true) (k : Nat) (hk : runL isRow r.data.toList = k) {acc ws : List (List UInt8)} (he : acc ++ words r.data.toList = ws) :
    (acc ++ [lower (r.data.toList.take k)]) ++ words (r.extract k r.size).data.toList = ws ∧ lowB (r.extract 0 k) = bs (lower (r.data.toList.take k)) := by
  obtain ⟨q, hq, _⟩ := at_zero r h
  refine ⟨?_, by unfold lowB bs; rw [cut_head]⟩
  rw [← he, cut_tail, ← hk, hq, words_row hr]
  simp

theorem round_mark {r : ByteArray} (h : 0 < r.size) (hr : isMk r[0] = true) {acc ws : List (List UInt8)} (he : acc ++ words r.data.toList = ws) :
    (acc ++ [[r[0]]]) ++ words (r.extract 1 r.size).data.toList = ws ∧ lowB (r.extract 0 1) = bs [r[0]] := by
  obtain ⟨q, hq, hq2⟩ := at_zero r h
  refine ⟨?_, ?_⟩
  · rw [← he, cut_tail, hq, words_mark (mk_row hr) hr, List.drop_succ_cons, List.drop_zero]
    simp
  · have hc : isCp r[0] = false := by
      have := mk_row hr
      simp only [isRow, Bool.or_eq_false_iff] at this
      exact this.1.1.2
    unfold lowB bs
    rw [cut_head, hq]
    simp [lower, lowC_no hc]

theorem round_skip {r : ByteArray} (h : 0 < r.size) (hr : isRow r[0] = false) (hm : isMk r[0] = false) {acc ws : List (List UInt8)} (he : acc ++ words r.data.toList = ws) :
    acc ++ words (r.extract 1 r.size).data.toList = ws := by
  obtain ⟨q, hq, hq2⟩ := at_zero r h
  rw [← he, cut_tail, hq, words_skip hr hm, List.drop_succ_cons, List.drop_zero]

theorem run_row {r : ByteArray} (h : 0 < r.size) (hr : isRow r[0] = true) : 1 ≤ runL isRow r.data.toList ∧ runL isRow r.data.toList ≤ r.size := by
  obtain ⟨q, hq, _⟩ := at_zero r h
  have h2 := runL_le isRow r.data.toList
  rw [← Lib.size_eq] at h2
  refine ⟨?_, h2⟩
  rw [hq]
  unfold runL
  rw [if_pos hr]
  omega

theorem run_not {r : ByteArray} (h : 0 < r.size) (hr : isRow r[0] = false) : runL isRow r.data.toList = 0 := by
  obtain ⟨q, hq, _⟩ := at_zero r h
  rw [hq]
  unfold runL
  rw [if_neg (by rw [hr]; decide)]

theorem cut_size (r : ByteArray) (k : Nat) : (r.extract k r.size).size = r.size - k := by
  rw [Lib.size_eq, cut_tail, List.length_drop, ← Lib.size_eq]

set_option maxRecDepth 100000 in
set_option maxHeartbeats 3200000 in
theorem words_any (w : World) (s : ByteArray) (hs : (s.size : Int) ≤ 1000000) :
    Calls Try.prog 19 #[.string s] w (OutS w.heap.size 9 w (words s.data.toList)) := by
  obtain ⟨i0, hi, hz, hsz, hby⟩ := info_parts Try.infoS
  have hmf := hmf_
  have hk2 := (cls_words2 w 0).1.run
  go_enter Try.func19, Try.ntmps19
  go_wp2_with fail
  refine (within_any _ 97 122).mono ?_
  rintro e w1 ⟨g1, g1', rfl, hb1, hc1⟩
  have H1 := Lib.hid hc1
  clear hc1
  go_wp2_with fail
  refine (within_any _ 65 90).mono ?_
  rintro e w2 ⟨g2, g2', rfl, hb2, hc2⟩
  have H2 := Lib.hid hc2
  clear hc2
  have hb12 := hb1.trans (hb2.mono hb1.size)
  go_wp2_with fail
  refine (within_any _ 48 57).mono ?_
  rintro e w3 ⟨g3, g3', rfl, hb3, hc3⟩
  have H3 := Lib.hid hc3
  clear hc3
  have hb13 := hb12.trans (hb3.mono hb12.size)
  have hs23 := hb3.size
  have HC2 := Lib.hid ((H2.out.below hb3).more hb3.size)
  have HC1 := Lib.hid ((((H1.out.below hb2).more hb2.size).below hb3).more hb3.size)
  clear hb1 hb2 hb12 hb3 hs23
  go_wp2_with fail
  obtain ⟨hh1, hh2, hh3, hbW⟩ := holds_three w3 _ _ _ _ _ _ _ _ _ 32 HC1.out HC2.out H3.out _ rfl
  have hcl := Lib.hid (cls_words1 hh1 hh2 hh3 (Nat.le_refl _))
  have hbw := hb13.trans (hbW.mono hb13.size)
  clear hh1 hh2 hh3 hbW hb13
  generalize ((w3.alloc (.cells #[.func (.func 43) #[] #[.pointer (some ⟨g1, 0, none⟩), .pointer (some ⟨g1', 0, none⟩)]] 32)).alloc (.cells #[.func (.func 43) #[] #[.pointer (some ⟨g2, 0, none⟩), .pointer (some ⟨g2', 0, none⟩)]] 32)).alloc (.cells #[.func (.func 43) #[] #[.pointer (some ⟨g3, 0, none⟩), .pointer (some ⟨g3', 0, none⟩)]] 32) = W at *
  go_loopw [8, 9] (fun v rest wr => ∃ (A : Option Addr) (n c : Nat) (acc : List (List UInt8)) (r : ByteArray), v = .slice A n c ∧ rest = .string r ∧ Hid (acc ++ words r.data.toList = words s.data.toList) ∧ acc.length + r.size ≤ s.size ∧ wr.ownsRow W.heap.size 9 1 (.slice A n c) n (sc acc) ∧ Below W.heap.size W wr) (fun _ rest _ => strSize rest)
  case atStart => exact ⟨none, 0, 0, [], s, rfl, rfl, Lib.hid rfl, by simp, ownS_nil _ _ _, Below.refl _ _⟩
  case round =>
    obtain ⟨A, n, c, acc, r, rfl, rfl, he, hsz2, hown, hb⟩ := hrel
    have HO := Lib.hid hown
    clear hown
    have hn := Lib.hid (ownS_len HO.out)
    by_cases h0 : r.size = 0
    · have e1 := empty_of h0
      have hwd : Hid (acc = words s.data.toList) := Lib.hid (by
        have e2 : r.data.toList = [] := List.eq_nil_of_length_eq_zero (by rw [Array.length_toList]; exact h0)
        have e3 := he.out
        rw [e2, words_nil, List.append_nil] at e3
        exact e3)
      clear h0
      go_wp2_with fail
      go_ret
      exact ⟨A, n, c, rfl, own_base (hwd.out ▸ HO.out) hbw.size, hbw.trans (hb.mono hbw.size)⟩
    · have h1 : 0 < r.size := by omega
      have e1 := nonempty_of h1
      clear h0
      have hbs := hb.size
      by_cases hr : isRow r[0] = true
      · have hmk : isMk r[0] = false := by
          rw [Bool.eq_false_iff]
          intro e
          rw [mk_row e] at hr
          cases hr
        obtain ⟨k, hk⟩ : ∃ k, runL isRow r.data.toList = k := ⟨_, rfl⟩
        have hrr := run_row h1 hr
        rw [hk] at hrr
        obtain ⟨k1, k2⟩ := hrr
        have hrd := Lib.hid (round_row h1 hr k hk he.out)
        have hks := cut_size r k
        have HKS := Lib.hid hks
        have HK := Lib.hid hk
        clear hr hk hks
        go_wp2_with fail
        refine (run_any _ _ _ _ _ r (hcl.out.below hb) hb.size (by omega)).mono ?_
        rintro e w4 ⟨rfl, hb4⟩
        have hbb := hb.trans (hb4.mono hbs)
        have HO4 := Lib.hid (own_below HO.out hb4)
        rw [show runL (fun c => inB 97 122 c || inB 65 90 c || inB 48 57 c || isIn c) r.data.toList = k from HK.out]
        clear hb4
        go_wp2_with fail
        refine (words2_any _ r[0]).mono ?_
        rintro e w5 ⟨rfl, rfl⟩
        go_wp2_with fail
        refine (lower_any _ (r.extract 0 k) (by rw [Lib.size_eq, cut_head, List.length_take, ← Lib.size_eq]; omega)).mono ?_
        rintro e w6 ⟨rfl, hb6⟩
        rw [hrd.out.2]
        have hb7 := hbb.trans (hb6.mono hbb.size)
        have HO6 := Lib.hid (own_below HO4.out hb6)
        have hz7 := hb7.size
        have hnn : n ≤ 1000000 := by have := hn.out; omega
        clear hb6 hbb HO4
        go_wp2_with (at_builtin; refine wpList_app1 _ rfl _ _ 25 rfl W.heap.size 9 i0 _ 16 Try.underlying25 hi hz hsz hby rfl _ n (sc acc) rfl (HO6.out.alloc _) ⟨w6.heap.size, 0, none⟩ 1 (.string (bs (lower (r.data.toList.take k)))) rfl (new_cell _ _ _) rfl (by omega) (by unfold maxLen; omega) (by simp; omega) ?_; intro A2 c2 w8 hown2 hg2)
        have H2 := Lib.hid hown2
        clear hown2
        go_roundw
        case rel =>
          refine ⟨A2, n + 1, c2, acc ++ [(lower (r.data.toList.take k))], _, rfl, rfl, Lib.hid hrd.out.1, ?_, ?_, ?_⟩
          · rw [HKS.out, List.length_append, List.length_singleton]; omega
          · rw [sc_snoc]; exact H2.out
          · exact (hb7.alloc hz7 _).grown hg2 (by simp; omega) (own_from HO6.out)
        case measure => show (r.extract k r.size).size < r.size; rw [HKS.out]; omega
      · rw [Bool.not_eq_true] at hr
        have hk0 := run_not h1 hr
        have HK := Lib.hid hk0
        have hks := cut_size r 1
        have HKS := Lib.hid hks
        by_cases hmk : isMk r[0] = true
        · have hrd := Lib.hid (round_mark h1 hmk he.out)
          clear hr hk0 hks
          go_wp2_with fail
          refine (run_any _ _ _ _ _ r (hcl.out.below hb) hb.size (by omega)).mono ?_
          rintro e w4 ⟨rfl, hb4⟩
          have hbb := hb.trans (hb4.mono hbs)
          have HO4 := Lib.hid (own_below HO.out hb4)
          rw [show runL (fun c => inB 97 122 c || inB 65 90 c || inB 48 57 c || isIn c) r.data.toList = 0 from HK.out]
          clear hb4
          go_wp2_with fail
          refine (words2_any _ r[0]).mono ?_
          rintro e w5 ⟨rfl, rfl⟩
          go_wp2_with fail
          refine (lower_any _ (r.extract 0 1) (by rw [Lib.size_eq, cut_head, List.length_take, ← Lib.size_eq]; omega)).mono ?_
          rintro e w6 ⟨rfl, hb6⟩
          rw [hrd.out.2]
          have hb7 := hbb.trans (hb6.mono hbb.size)
          have HO6 := Lib.hid (own_below HO4.out hb6)
          have hz7 := hb7.size
          have hnn : n ≤ 1000000 := by have := hn.out; omega
          clear hb6 hbb HO4
          go_wp2_with (at_builtin; refine wpList_app1 _ rfl _ _ 25 rfl W.heap.size 9 i0 _ 16 Try.underlying25 hi hz hsz hby rfl _ n (sc acc) rfl (HO6.out.alloc _) ⟨w6.heap.size, 0, none⟩ 1 (.string (bs [r[0]])) rfl (new_cell _ _ _) rfl (by omega) (by unfold maxLen; omega) (by simp; omega) ?_; intro A2 c2 w8 hown2 hg2)
          have H2 := Lib.hid hown2
          clear hown2
          go_roundw
          case rel =>
            refine ⟨A2, n + 1, c2, acc ++ [[r[0]]], _, rfl, rfl, Lib.hid hrd.out.1, ?_, ?_, ?_⟩
            · rw [HKS.out, List.length_append, List.length_singleton]; omega
            · rw [sc_snoc]; exact H2.out
            · exact (hb7.alloc hz7 _).grown hg2 (by simp; omega) (own_from HO6.out)
          case measure => show (r.extract 1 r.size).size < r.size; rw [HKS.out]; omega
        · rw [Bool.not_eq_true] at hmk
          have hrd := Lib.hid (round_skip h1 hr hmk he.out)
          clear hr hk0 hks
          go_wp2_with fail
          refine (run_any _ _ _ _ _ r (hcl.out.below hb) hb.size (by omega)).mono ?_
          rintro e w4 ⟨rfl, hb4⟩
          have hbb := hb.trans (hb4.mono hbs)
          have HO4 := Lib.hid (own_below HO.out hb4)
          rw [show runL (fun c => inB 97 122 c || inB 65 90 c || inB 48 57 c || isIn c) r.data.toList = 0 from HK.out]
          clear hb4
          go_wp2_with fail
          refine (words2_any _ r[0]).mono ?_
          rintro e w5 ⟨rfl, rfl⟩
          go_wp2_with fail
          go_roundw
          case rel => exact ⟨A, n, c, acc, _, rfl, rfl, hrd, by rw [HKS.out]; omega, HO4.out, hbb⟩
          case measure => show (r.extract 1 r.size).size < r.size; rw [HKS.out]; omega

end Go.Proofs.Yteglmkifpdedbaa
