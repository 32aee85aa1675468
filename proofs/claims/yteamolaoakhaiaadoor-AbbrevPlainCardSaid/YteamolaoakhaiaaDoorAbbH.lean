/- Contracts of layer 7's reference: Join, Same. -/
import Derived.Test.YteamolaoakhaiaaDoorAbbG
namespace Go.Proofs.YteamolaoakhaiaaDoor
open Go.RowKit

/-- what Join comes to -/
def jnT (o : Option (List UInt8)) : List UInt8 := o.getD []
def jnE (o : Option (List UInt8)) : Int := if o.isSome then 0 else 11

theorem joinF_len {ab : List (List UInt8)} {m : Nat} (ha : Short_ m ab) : ∀ (ps : List Pc), ShortP m ps → ∀ (acc : List UInt8) (r : List UInt8), joinF ab acc ps = some r → r.length ≤ acc.length + m * ps.length := by
  intro ps
  induction ps with
  | nil => intro _ acc r h; simp [joinF] at h; subst h; simp
  | cons p ps ih =>
    intro hs acc r h
    unfold joinF at h
    split at h
    · cases h
    · have hs2 : ShortP m ps := fun j => hs (j + 1)
      have h2 := ih hs2 _ _ h
      have h3 : (if 0 < p.2 then ab.getD (p.2 - 1).toNat [] else p.1).length ≤ m := by
        split
        · exact ha _
        · exact hs 0
      rw [List.length_append] at h2
      rw [List.length_cons, Nat.mul_add, Nat.mul_one]
      omega

theorem bs_append (a b : List UInt8) : bs a ++ bs b = bs (a ++ b) := by
  apply ByteArray.ext
  simp [bs]

theorem add_bs (a b : List UInt8) (ha : a.length ≤ 200000000) (hb : b.length ≤ 200000000) : ∀ w : World, (Op.stringOp .add (bs a) (bs b)).run Tryd.prog w = .ok (.string (bs (a ++ b))) w := fun w => by
  rw [← bs_append]
  have h1 : (bs a).size = a.length := bs_size a
  have h2 : (bs b).size = b.length := bs_size b
  simp [Op.stringOp, h1, h2]
  omega

theorem join_drop {ab : List (List UInt8)} {acc : List UInt8} {ps : List Pc} {j : Nat} (h : j < ps.length) : joinF ab acc (ps.drop j) =
    if (ps[j]?.getD ([], 0)).2 < 0 ∨ (ab.length : Int) < (ps[j]?.getD ([], 0)).2 ∨ 32 < (ps[j]?.getD ([], 0)).2 then none
    else joinF ab (acc ++ if 0 < (ps[j]?.getD ([], 0)).2 then ab.getD ((ps[j]?.getD ([], 0)).2 - 1).toNat [] else (ps[j]?.getD ([], 0)).1) (ps.drop (j + 1)) := by
  have e : ps[j]?.getD ([], 0) = ps[j] := by rw [List.getElem?_eq_getElem h]; rfl
  rw [List.drop_eq_getElem_cons h, e]
  rfl

set_option maxRecDepth 100000 in
set_option maxHeartbeats 6400000 in
theorem rPJoin_any (w : World) (A A' : Option Addr) (n n' c c' : Nat) (ps : List Pc) (ls : List (List UInt8)) (h : RdP w w.heap.size A n ps) (h' : RdS w w.heap.size A' n' ls) (hs : ShortP 1000 ps) (hm : Short_ 1000 ls) (hn : (n : Int) ≤ 10000) (hn' : (n' : Int) ≤ 10000) :
    Calls Tryd.prog 21 #[.slice A n c, .slice A' n' c'] w fun e w' => e = .returned (.tuple #[.string (bs (jnT (joinL ls ps))), .int .i64 (jnE (joinL ls ps))]) ∧ Below w.heap.size w w' := by
  have H := Lib.hid h
  have H' := Lib.hid h'
  have HL := Lib.hid h.1
  have HL' := Lib.hid h'.1
  have HS := Lib.hid hs
  have HM := Lib.hid hm
  clear h h' hs hm
  go_enter Tryd.func21, Tryd.ntmps21
  go_wp2_with fail
  go_loopw [6, 11] (fun v i wr => ∃ (j : Nat) (t : List UInt8), j ≤ n ∧ t.length ≤ 1000 * j ∧ i = .int .i64 j ∧ v = .string (bs t) ∧ Hid (joinL ls ps = joinF ls t (ps.drop j)) ∧ Hid (Below w.heap.size w wr)) (fun _ i _ => n - (intOf i).toNat)
  case atStart => exact ⟨0, [], by omega, by simp, rfl, rfl, Lib.hid rfl, Lib.hid (Below.refl _ _)⟩
  case round =>
    obtain ⟨j, t, hj, htl, rfl, rfl, HJ, HB⟩ := hrel
    by_cases hlt : j < n
    · obtain ⟨ad, rfl, hab, hcell⟩ := H.out.2 (by omega)
      have k1 := (HB.out.cell (p := ad.add (j * 2)) (by rw [blk_add]; omega)).trans (hcell j (by rw [HL.out]; exact hlt)).1
      have k2 := (HB.out.cell (p := ⟨(ad.add (j * 2)).block, (ad.add (j * 2)).off + 1, none⟩) (by show (ad.add (j * 2)).block < _; rw [blk_add]; omega)).trans (hcell j (by rw [HL.out]; exact hlt)).2
      have HT := Lib.hid (join_drop (ab := ls) (acc := t) (ps := ps) (j := j) (by rw [HL.out]; exact hlt))
      have hp := HS.out j
      obtain ⟨p, hpp⟩ : ∃ p, p = ps[j]?.getD ([], 0) := ⟨_, rfl⟩
      rw [← hpp] at k1 k2 hp HT
      obtain ⟨x, y⟩ := p
      change x.length ≤ 1000 at hp
      have HB2 := Lib.hid (HB.out.alloc HB.out.size (.cells #[.string (bs x), .int .i64 y] 39))
      clear hcell hpp
      by_cases hbad : y < 0 ∨ (n' : Int) < y ∨ 32 < y
      · have HF : Hid (joinL ls ps = none) := Lib.hid (by rw [HJ.out, HT.out, if_pos (by rw [HL'.out]; exact hbad)])
        have hcs : y < 0 ∨ (¬ y < 0 ∧ (n' : Int) < y) ∨ (¬ y < 0 ∧ ¬ (n' : Int) < y ∧ 32 < y) := by omega
        clear hbad
        rcases hcs with h1 | ⟨h1, h2⟩ | ⟨h1, h2, h3⟩
        all_goals
          go_wp2_with fail
          go_ret2
          rw [HF.out]
          exact ⟨rfl, HB2.out⟩
      · have HF : Hid (joinL ls ps = joinF ls (t ++ if 0 < y then ls.getD (y - 1).toNat [] else x) (ps.drop (j + 1))) := Lib.hid (by rw [HJ.out, HT.out, if_neg (by rw [HL'.out]; exact hbad)])
        have y0 : ¬ y < 0 := by omega
        have y1 : ¬ (n' : Int) < y := by omega
        have y2 : ¬ 32 < y := by omega
        clear hbad
        by_cases hy : 0 < y
        · obtain ⟨z, hz⟩ : ∃ z : Nat, y = (z : Int) + 1 := ⟨(y - 1).toNat, by omega⟩
          obtain ⟨ad', rfl, hab', hcell'⟩ := H'.out.2 (by omega)
          have k3 := (HB2.out.cell (p := ad'.add z) (by rw [blk_add]; omega)).trans (hcell' z (by rw [HL'.out]; omega))
          have hq := HM.out z
          obtain ⟨a, ha⟩ : ∃ a, a = ls[z]?.getD [] := ⟨_, rfl⟩
          have HF2 : Hid (joinL ls ps = joinF ls (t ++ a) (ps.drop (j + 1))) := Lib.hid (by
            rw [HF.out, if_pos hy, ha, show (y - 1).toNat = z from by omega]
            rfl)
          rw [← ha] at k3 hq
          have hadd := add_bs t a (by omega) (by omega)
          have y3 : y - 1 = (z : Int) := by omega
          have y4 : (z : Int) < (n' : Int) := by omega
          clear hcell' ha hz
          go_wp2_with fail
          go_roundw
          case rel => exact ⟨j + 1, t ++ a, by omega, by rw [List.length_append]; omega, by go_num, rfl, HF2, HB2⟩
          case measure => simp [intOf]; omega
        · have HF2 : Hid (joinL ls ps = joinF ls (t ++ x) (ps.drop (j + 1))) := Lib.hid (by rw [HF.out, if_neg hy])
          have hadd := add_bs t x (by omega) (by omega)
          go_wp2_with fail
          go_roundw
          case rel => exact ⟨j + 1, t ++ x, by omega, by rw [List.length_append]; omega, by go_num, rfl, HF2, HB2⟩
          case measure => simp [intOf]; omega
    · have HF : Hid (joinL ls ps = some t) := Lib.hid (by rw [HJ.out, List.drop_of_length_le (by rw [HL.out]; omega)]; rfl)
      go_wp2_with fail
      go_ret2
      rw [HF.out]
      exact ⟨rfl, HB.out⟩

/-- equal pieces -/
def eqP (a b : List Pc) : Bool := decide (a = b)

end Go.Proofs.YteamolaoakhaiaaDoor
