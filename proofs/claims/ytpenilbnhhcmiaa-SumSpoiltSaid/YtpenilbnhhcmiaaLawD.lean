/- The walk of the statement SumSpoilt. -/
import Derived.Test.YtpenilbnhhcmiaaAwake
import Derived.Test.YtpenilbnhhcmiaaOpenR
import Derived.Laws.OwnMore
namespace Go.Proofs.Ytpenilbnhhcmiaa
open Go.RowKit

/-- one changed byte of a sealed buffer is not let by -/
theorem opn_spoilt (l : List UInt8) (i : Nat) (b u : UInt8) (hu : (seal_ l)[i]? = some u) (hb : u ≠ b) : opn ((seal_ l).set i b) = ([], 14) := by
  have hl : (seal_ l).length = l.length + 4 := by unfold seal_; rw [List.length_append, beL_length]
  have hi : i < l.length + 4 := by have := (List.getElem?_eq_some_iff.1 hu).1; omega
  have hs := Crc.on_lt (s := 0) (by omega) l
  unfold opn
  rw [List.length_set, hl, if_neg (by omega), show l.length + 4 - 4 = l.length from by omega, if_neg]
  by_cases hil : i < l.length
  · have e1 : ((seal_ l).set i b).take l.length = l.set i b := by
      unfold seal_
      rw [List.set_append_left _ _ hil, List.take_left' (by rw [List.length_set])]
    have e2 : ((seal_ l).set i b).drop l.length = beL 4 (Crc.on 0 l : Nat) := by
      unfold seal_
      rw [List.set_append_left _ _ hil, List.drop_left' (by rw [List.length_set])]
    have hu2 : l[i] = u := by
      unfold seal_ at hu
      rw [List.getElem?_append_left hil, List.getElem?_eq_getElem hil] at hu
      injection hu
    rw [e1, e2, beN_beL4 _ hs]
    have e3 : l.set i b = l.take i ++ b :: l.drop (i + 1) := List.set_eq_take_append_cons_drop.trans (by rw [if_pos hil])
    have e4 : l = l.take i ++ u :: l.drop (i + 1) := by
      conv => lhs; rw [← List.take_append_drop i l, List.drop_eq_getElem_cons hil, hu2]
    intro h
    rw [e3] at h
    have h2 := Crc.on_changed (l.take i) (l.drop (i + 1)) hb (s := 0) (by omega)
    rw [← e4] at h2
    exact h2 h
  · have e1 : ((seal_ l).set i b).take l.length = l := by
      unfold seal_
      rw [List.set_append_right _ _ (by omega), List.take_left]
    have e2 : ((seal_ l).set i b).drop l.length = (beL 4 (Crc.on 0 l : Nat)).set (i - l.length) b := by
      unfold seal_
      rw [List.set_append_right _ _ (by omega), List.drop_left]
    rw [e1, e2]
    intro h
    have h2 := (tail_eq ((beL 4 (Crc.on 0 l : Nat)).set (i - l.length) b) (by rw [List.length_set, beL_length]) (Crc.on 0 l) hs).2 h
    have h3 := congrArg (·[i - l.length]?) h2
    unfold seal_ at hu
    rw [List.getElem?_append_right (by omega)] at hu
    simp only [hu, List.getElem?_set_self (by rw [beL_length]; omega : i - l.length < (beL 4 (Crc.on 0 l : Nat)).length)] at h3
    injection h3 with h3
    exact hb h3.symm

theorem bc_set (l : List UInt8) (i : Nat) (b : UInt8) : (bc l).set i (.int .u8 (b.toNat : Int)) = bc (l.set i b) := by
  unfold bc
  rw [List.map_set]

set_option maxRecDepth 100000 in
set_option maxHeartbeats 1600000 in
theorem spoilt_walk (A : Option Addr) (n c : Nat) (l : List UInt8) (a : Nat) (b : UInt8) (w : World) (h : Rd w w.heap.size A n l) (ha : a ≤ 65535) (hn : (n : Int) ≤ 2000) :
    Calls Try.prog 6 #[.slice A n c, .int .u16 a, .int .u8 (b.toNat : Int)] w fun e w' => e = .returned (.bool true) ∧ Below w.heap.size w w' := by
  obtain ⟨i0, hi, hz, hsz, hb⟩ := info_parts Try.infoB
  have H := Lib.hid h
  clear h
  have HLEN : Hid ((seal_ l).length = n + 4) := by show (seal_ l).length = n + 4; unfold seal_; rw [List.length_append, beL_length, H.out.1]
  have hbt := b.toNat_lt
  go_enter Try.func6, Try.ntmps6
  go_wp2_with fail
  refine (sSeal_any w w.heap.size A n c l H.out (Nat.le_refl _) (by omega)).mono ?_
  rintro e w1 ⟨A1, n1, c1, rfl, ho1, hb1⟩
  have hs1 := hb1.size
  have hn1 : n1 ≤ 2004 := by have := own_len ho1; rw [HLEN.out] at this; omega
  have hn4 : 4 ≤ n1 := by have := own_len ho1; rw [HLEN.out] at this; omega
  have R1 := Lib.hid (Rd.of_own ho1)
  have HB1 := Lib.hid hb1
  clear ho1 hb1
  go_wp2_with (at_builtin; refine wpList_app _ rfl _ _ 22 rfl w1.heap.size 5 i0 Try.underlying22 hi hz hsz hb _ 0 [] rfl (own_nil _ _ _) w1.heap.size A1 n1 c1 (seal_ l) rfl R1.out (by omega) (Nat.le_refl _) ?_; intro A2 c2 w2 hown2 hg2)
  simp only [Nat.zero_add, List.nil_append] at hown2
  have HB2 := Lib.hid ((Below.refl w1.heap.size w1).grown hg2 (Nat.le_refl _) (own_from (own_nil w1 w1.heap.size 5)))
  clear hg2 R1
  obtain ⟨g, cap, hv, hgb, hgl⟩ := hown2.form (by omega)
  injection hv with hA2 _ hcc
  subst hA2 hcc
  obtain ⟨i, hi0⟩ : ∃ i : Nat, i = a % n1 := ⟨_, rfl⟩
  have hil : i < n1 := by rw [hi0]; exact Nat.mod_lt _ (by omega)
  have hrem : (a : Int) % (n1 : Int) = (i : Int) := by rw [hi0]; omega
  have HL1 : Hid ((seal_ l).length = n1) := Lib.hid (own_len hown2)
  obtain ⟨u, hu⟩ : ∃ u, (seal_ l)[i]? = some u := ⟨_, List.getElem?_eq_getElem (by rw [HL1.out]; exact hil)⟩
  have hcell : w2.cell? ⟨g, i, none⟩ = some (.int .u8 (u.toNat : Int)) := by
    rw [hown2.cellAt i (by omega)]
    simp [bc, hu]
  have hfro := hown2.frozenAt i
  have HU := Lib.hid hu
  have HO2 := Lib.hid hown2
  clear hi0 hu hown2
  have hut := u.toNat_lt
  by_cases hub : u = b
  · subst hub
    go_wp2_with fail
    refine (awake_any _).mono ?_
    rintro e w4 ⟨rfl, hb4⟩
    go_wp2_with fail
    go_ret
    have j2 := HB1.out.trans (HB2.out.mono hs1)
    exact ⟨rfl, j2.trans (hb4.mono j2.size)⟩
  · have hne : ((u.toNat : Int) == (b.toNat : Int)) = false := by
      rw [beq_eq_false_iff_ne]
      intro e
      exact hub (UInt8.toNat_inj.1 (by omega))
    have HSP := Lib.hid (opn_spoilt l i b u HU.out hub)
    clear hub
    have ho3 := (HO2.out.stored i (.int .u8 (b.toNat : Int))).1
    rw [bc_set] at ho3
    have j3 : Below w1.heap.size w1 (w2.setCell ⟨g, i, none⟩ (.int .u8 (b.toNat : Int))) := HB2.out.setCell hgb _
    have J3 := Lib.hid (HB1.out.trans (j3.mono hs1))
    obtain ⟨hc3, hcm3⟩ := own_cap ho3
    have R3 := Lib.hid (Rd.of_own ho3)
    clear ho3 j3
    go_wp2_with fail
    refine (sOpen_any _ _ (some ⟨g, 0, none⟩) n1 c2 ((seal_ l).set i b) R3.out (Nat.le_refl _) hc3 hcm3 (by omega)).mono ?_
    rw [HSP.out]
    rintro e w4 ⟨A4, n4, c4, rfl, hr4, hb4⟩
    obtain rfl : n4 = 0 := hr4.1.symm
    have j4 := J3.out.trans (hb4.mono J3.out.size)
    clear hr4 hb4
    go_wp2_with fail
    refine (awake_any _).mono ?_
    rintro e w5 ⟨rfl, hb5⟩
    go_wp2_with fail
    go_ret
    exact ⟨rfl, j4.trans (hb5.mono j4.size)⟩

set_option maxRecDepth 100000 in
set_option maxHeartbeats 800000 in
theorem spoilt_long (A : Option Addr) (n c : Nat) (x y : Int) (w : World) (_hn : ¬ (n : Int) ≤ 2000) :
    Calls Try.prog 6 #[.slice A n c, .int .u16 x, .int .u8 y] w fun e w' => e = .returned (.bool true) ∧ Below w.heap.size w w' := by
  go_enter Try.func6, Try.ntmps6
  go_wp2_with fail
  refine (awake_any _).mono ?_
  rintro e w4 ⟨rfl, hb4⟩
  go_wp2_with fail
  go_ret
  exact ⟨rfl, hb4⟩

end Go.Proofs.Ytpenilbnhhcmiaa
