/- Contract of chapter 4's examples, which every statement of the layer asks. -/
import Derived.Test.YteglmkifpdedbaaCap
import Derived.Test.YteglmkifpdedbaaWords
import Derived.Test.YteglmkifpdedbaaStrsR
namespace Go.Proofs.Yteglmkifpdedbaa
open Go.RowKit

theorem RdS.lit (w : World) (ls : List (List UInt8)) (t : TypeId) (cs : Array Value) (hcs : cs = (sc ls).toArray) : RdS (w.alloc (.cells cs t)) (w.heap.size + 1) (some ⟨w.heap.size, 0, none⟩) ls.length ls := by
  subst hcs
  refine ⟨rfl, fun _ => ⟨_, rfl, Nat.lt_succ_self _, fun j hj => ?_⟩⟩
  rw [Addr.add_lit, Nat.zero_add, (Blk.new w t _).cell, List.getElem?_toArray, sc_at hj]

theorem ex_words : words [84, 97, 107, 101, 32, 108, 97, 109, 112, 44, 32, 103, 111, 32, 78, 46] = [[116, 97, 107, 101], [108, 97, 109, 112], [44], [103, 111], [110], [46]] := by decide
theorem ex_lower : lowB ⟨#[71, 111, 32, 78, 111, 114, 116, 104]⟩ = ⟨#[103, 111, 32, 110, 111, 114, 116, 104]⟩ := by decide
theorem ex_cap : capB ⟨#[97, 32, 116, 105, 110]⟩ = ⟨#[65, 32, 116, 105, 110]⟩ := by decide
theorem ex_short : shortB ⟨#[105, 110, 118, 101, 110, 116, 111, 114, 105, 101, 115]⟩ = ⟨#[105, 110, 118, 101, 110, 116, 111, 114, 105]⟩ := by decide
theorem ex_word : wordB [45, 97] = false := by decide
theorem ex_word2 : wordB [55, 45, 97] = true := by decide

set_option maxRecDepth 100000 in
set_option maxHeartbeats 3200000 in
theorem awake_any (w : World) : Calls Try.prog 8 #[] w fun e w' => e = .returned (.bool true) ∧ Below w.heap.size w w' := by
  have E2 := Lib.hid ex_lower
  have E3 := Lib.hid ex_cap
  have E4 := Lib.hid ex_short
  go_enter Try.func8, Try.ntmps8
  go_wp2_with fail
  refine (words_any w ⟨#[84, 97, 107, 101, 32, 108, 97, 109, 112, 44, 32, 103, 111, 32, 78, 46]⟩ (by decide)).mono ?_
  rintro e w1 ⟨A, n, c, rfl, ho, hb1⟩
  have hl := ownS_len ho
  have HO := Lib.hid ho
  clear ho
  go_wp2_with fail
  refine (lower_any _ _ (by decide)).mono ?_
  rintro e w2 ⟨rfl, hb2⟩
  rw [E2.out]
  have HO2 := Lib.hid (own_below HO.out hb2)
  have hb12 := hb1.trans (hb2.mono hb1.size)
  clear hb1 hb2 HO
  go_wp2_with fail
  refine (cap_any _ _).mono ?_
  rintro e w3 ⟨rfl, hb3⟩
  rw [E3.out]
  have HO3 := Lib.hid (own_below HO2.out hb3)
  have hb13 := hb12.trans (hb3.mono hb12.size)
  clear hb12 hb3 HO2
  go_wp2_with fail
  have hr1 := RdS.of_own (HO3.out.alloc (.cells #[.string ⟨#[116, 97, 107, 101]⟩, .string ⟨#[108, 97, 109, 112]⟩, .string ⟨#[44]⟩, .string ⟨#[103, 111]⟩, .string ⟨#[110]⟩, .string ⟨#[46]⟩] 9))
  rw [ex_words] at hr1
  have hn6 : (n : Int) ≤ 1000000 := by have := hr1.1; simp at this; omega
  refine (rsame_same _ _ _ _ _ _ _ _ _ _ hr1 (RdS.lit w3 [[116, 97, 107, 101], [108, 97, 109, 112], [44], [103, 111], [110], [46]] _ _ rfl) hn6).mono ?_
  rintro e w4 ⟨rfl, hb4⟩
  clear hr1 hl hn6
  have hb14 := (hb13.alloc hb13.size _).trans (hb4.mono (by have := hb13.size; simp; omega))
  clear hb13 hb4
  go_wp2_with fail
  refine (short_any _ _ (by decide)).mono ?_
  rintro e w5 ⟨rfl, rfl⟩
  rw [E4.out]
  go_wp2_with fail
  refine (isWord_any _ _ (by decide)).mono ?_
  rintro e w5 ⟨rfl, hb5⟩
  rw [ex_word]
  have hb15 := hb14.trans (hb5.mono hb14.size)
  clear hb5 hb14
  go_wp2_with fail
  refine (isWord_any _ _ (by decide)).mono ?_
  rintro e w6 ⟨rfl, hb6⟩
  rw [ex_word2]
  have hb16 := hb15.trans (hb6.mono hb15.size)
  clear hb6 hb15
  go_wp2_with fail
  go_ret
  exact ⟨rfl, hb16⟩

end Go.Proofs.Yteglmkifpdedbaa
