/- Contract of chapter 7's examples, which every statement of the layer asks. -/
import Derived.Test.YteamolaoakhaiaaDoorCen
import Derived.Test.YteamolaoakhaiaaDoorAbbU
import Derived.Test.YteamolaoakhaiaaDoorAbbV
import Derived.Test.YteamolaoakhaiaaDoorAbbW
import Derived.Test.YteamolaoakhaiaaDoorStrsR
namespace Go.Proofs.YteamolaoakhaiaaDoor
open Go.RowKit

def lampL : List UInt8 := [116, 104, 101, 32, 108, 97, 109, 112]
def boxL : List UInt8 := [116, 104, 101, 32, 98, 111, 120]
def keyL : List UInt8 := [116, 104, 101, 32, 107, 101, 121]
def theL : List UInt8 := [116, 104, 101, 32]
def hatL : List UInt8 := [104, 97, 116]

set_option maxRecDepth 100000 in
theorem ex_choose : chooseL [lampL, boxL, keyL] 1 = [theL] := by decide +kernel
set_option maxRecDepth 100000 in
theorem ex_choose2 : chooseL [lampL, boxL] 1 = [] := by decide +kernel
set_option maxRecDepth 100000 in
theorem ex_cut : cutL [theL] (theL ++ hatL) = [([], 1), (hatL, 0)] := by decide +kernel
theorem ex_cost : pcost [([], 1), (hatL, 0)] = 5 := by decide +kernel
theorem ex_join : joinL [theL] [([], 2)] = none := by decide +kernel

theorem RdS.lit_at (w : World) (k : Nat) (hk : k = w.heap.size) (ls : List (List UInt8)) (t : TypeId) (cs : Array Value) (hcs : cs = (sc ls).toArray) (n : Nat) (hn : n = ls.length) : RdS (w.alloc (.cells cs t)) (w.alloc (.cells cs t)).heap.size (some ⟨k, 0, none⟩) n ls := by
  subst hk hcs hn
  refine ⟨rfl, fun _ => ⟨_, rfl, by simp, fun j hj => ?_⟩⟩
  rw [Addr.add_lit, Nat.zero_add, (Blk.new w t _).cell, List.getElem?_toArray, sc_at hj]

theorem RdP.lit_at (w : World) (k : Nat) (hk : k = w.heap.size) (ps : List Pc) (t : TypeId) (cs : Array Value) (hcs : cs = (pcv ps).toArray) (n : Nat) (hn : n = ps.length) : RdP (w.alloc (.cells cs t)) (w.alloc (.cells cs t)).heap.size (some ⟨k, 0, none⟩) n ps := by
  subst hk hcs hn
  refine ⟨rfl, fun _ => ⟨_, rfl, by simp, fun j hj => ?_⟩⟩
  obtain ⟨h1, h2⟩ := pcv_at ps j hj
  rw [Addr.add_lit, Nat.zero_add, (Blk.new w t _).cell, (Blk.new w t _).cell, List.getElem?_toArray, List.getElem?_toArray]
  exact ⟨h1, h2⟩

theorem RdS.at_ {w w' : World} {B : Nat} {A : Option Addr} {n : Nat} {ls : List (List UInt8)} (h : RdS w B A n ls) (hB : B ≤ w.heap.size) (hb : Below w.heap.size w w') : RdS w' w'.heap.size A n ls :=
  (h.below (hb.mono hB)).more (Nat.le_trans hB hb.size)
theorem RdP.at_ {w w' : World} {B : Nat} {A : Option Addr} {n : Nat} {ps : List Pc} (h : RdP w B A n ps) (hB : B ≤ w.heap.size) (hb : Below w.heap.size w w') : RdP w' w'.heap.size A n ps :=
  (h.below (hb.mono hB)).more (Nat.le_trans hB hb.size)

theorem al (w : World) (o : Obj) : Below w.heap.size w (w.alloc o) := (Below.refl _ _).alloc (Nat.le_refl _) o
theorem after {w u v : World} (h : Below w.heap.size w u) (h2 : Below u.heap.size u v) : Below w.heap.size w v := h.trans (h2.mono h.size)

set_option maxRecDepth 100000 in
set_option maxHeartbeats 6400000 in
theorem awake_any (w : World) (hm : MaxL w) : Calls Tryd.prog 10 #[] w fun e w' => e = .returned (.bool true) ∧ Below w.heap.size w w' := by
  have HMX := Lib.hid hm
  clear hm
  go_enter Tryd.func10, Tryd.ntmps10
  go_wp2_with fail
  refine (choose_any _ _ 3 3 [lampL, boxL, keyL] 1 (RdS.lit_at w _ rfl _ _ _ rfl 3 rfl) (by omega) (by decide) (HMX.out.up (al w _))).mono ?_
  rintro e w1 ⟨A1, n1, c1, rfl, ho1, hb1⟩
  rw [ex_choose] at ho1
  obtain rfl : n1 = 1 := (ownS_len ho1).symm
  have HB1 := Lib.hid (after (al w _) hb1)
  have HR1 := Lib.hid (RdS.of_own ho1)
  have HC1 := Lib.hid (own_cap ho1).1
  clear ho1 hb1
  go_wp2_with fail
  refine (cut_any w1 _ A1 1 c1 [theL] HR1.out HC1.out (by decide) (short_tot (by decide)) (by omega)).mono ?_
  rintro e w2 ⟨A2, n2, c2, rfl, ho2, hb2⟩
  have ho2 : w2.ownsRow w1.heap.size 39 2 (.slice A2 n2 c2) n2 (pcv [([], 1), (hatL, 0)]) := by rw [← ex_cut]; exact ho2
  obtain rfl : n2 = 2 := (ownP_len ho2).symm
  have HB2 := Lib.hid hb2
  have HB2w := Lib.hid (after HB1.out hb2)
  have HP2 := Lib.hid (RdP.of_own ho2)
  clear ho2 hb2
  go_wp2_with fail
  refine (pjoin_any _ _ A1 1 1 1 c1 [([], 2)] [theL] (RdP.lit_at w2 _ rfl _ _ _ rfl 1 rfl) (HR1.out.at_ (Nat.le_refl _) (after HB2.out (al w2 _))) (fun j => by cases j <;> simp) (short_tot (by decide)) (by omega) (by omega) HC1.out).mono ?_
  rintro e w3 ⟨rfl, hb3⟩
  rw [ex_join]
  have HB3 := Lib.hid (after (al w2 _) hb3)
  clear hb3
  go_wp2_with fail
  refine (rsame_same _ _ _ A1 _ 1 1 c1 1 [theL] (HR1.out.at_ (Nat.le_refl _) (after (after HB2.out HB3.out) (al w3 _))) (RdS.lit_at w3 _ rfl [theL] _ _ rfl 1 rfl) (by omega)).mono ?_
  rintro e w4 ⟨rfl, hb4⟩
  have HB4 := Lib.hid (after (al w3 _) hb4)
  clear hb4
  go_wp2_with fail
  refine (rPsame_same _ _ _ A2 _ 2 2 c2 2 [([], 1), (hatL, 0)] (HP2.out.at_ (Nat.le_refl _) (after (after HB3.out HB4.out) (al w4 _))) (RdP.lit_at w4 _ rfl [([], 1), (hatL, 0)] _ _ rfl 2 rfl) (by omega)).mono ?_
  rintro e w5 ⟨rfl, hb5⟩
  have HB5 := Lib.hid (after (al w4 _) hb5)
  have HB25 := Lib.hid (after (after HB3.out HB4.out) HB5.out)
  clear hb5
  go_wp2_with fail
  refine (pcosts_any w5 A2 A1 2 1 c2 c1 [([], 1), (hatL, 0)] [theL] (HP2.out.at_ (Nat.le_refl _) HB25.out) (HR1.out.at_ (Nat.le_refl _) (after HB2.out HB25.out)) (fun j => by rcases j with _ | _ | j <;> simp [hatL]) (by omega)).mono ?_
  rintro e w6 ⟨rfl, hb6⟩
  rw [ex_cost]
  have HB6 := Lib.hid (after HB25.out hb6)
  clear hb6
  go_wp2_with fail
  refine (choose_any _ _ 2 2 [lampL, boxL] 1 (RdS.lit_at w6 _ rfl _ _ _ rfl 2 rfl) (by omega) (by decide) (HMX.out.up (after (after HB2w.out HB6.out) (al w6 _)))).mono ?_
  rintro e w7 ⟨A7, n7, c7, rfl, ho7, hb7⟩
  rw [ex_choose2] at ho7
  obtain rfl : n7 = 0 := (ownS_len ho7).symm
  have HB7 := Lib.hid (after (al w6 _) hb7)
  clear ho7 hb7
  go_wp2_with fail
  go_ret
  exact ⟨rfl, after (after HB2w.out HB6.out) HB7.out⟩

end Go.Proofs.YteamolaoakhaiaaDoor
