/- Contracts of layer 6's reference: bit, Unpack. -/
import Derived.Test.YtdolmhnajofkoaaAlpR2
import Derived.Test.YtdolmhnajofkoaaBitP
namespace Go.Proofs.Ytdolmhnajofkoaa
open Go.RowKit

theorem unb_get : ∀ (l : List UInt8) (i : Nat), i < 8 * l.length → (unb l).getD i 0 = (l.getD (i / 8) 0).toNat / 2 ^ (7 - i % 8) % 2 := by
  intro l
  induction l with
  | nil => intro i h; simp at h
  | cons c l ih =>
    intro i h
    rw [List.length_cons] at h
    rw [unb_cons]
    by_cases h8 : i < 8
    · have e0 : i / 8 = 0 := by omega
      have e1 : i % 8 = i := by omega
      rw [e0, e1]
      rcases (by omega : i = 0 ∨ i = 1 ∨ i = 2 ∨ i = 3 ∨ i = 4 ∨ i = 5 ∨ i = 6 ∨ i = 7) with rfl | rfl | rfl | rfl | rfl | rfl | rfl | rfl <;> simp [bits8]
    · have e2 := ih (i - 8) (by omega)
      have e3 : i / 8 = (i - 8) / 8 + 1 := by omega
      have e4 : i % 8 = (i - 8) % 8 := by omega
      rw [e3, e4]
      rw [List.getD, List.getElem?_append_right (by rw [bits8_len]; omega), bits8_len]
      simpa [List.getD] using e2

set_option maxRecDepth 100000 in
set_option maxHeartbeats 800000 in
theorem rbit_any (w : World) (B : Nat) (A : Option Addr) (n c i : Nat) (l : List UInt8) (h : Rd w B A n l) (hi : i < 8 * n) (hn : (n : Int) ≤ 1000000) :
    Calls Try.prog 31 #[.slice A n c, .int .i64 i] w fun e w' => e = .returned (.int .i64 ((unb l).getD i 0 : Nat)) ∧ w = w' := by
  obtain ⟨ad, rfl, _, hcell⟩ := h.2 (by omega)
  have hl := h.1
  have hc := hcell (i / 8) (by omega)
  have HG := Lib.hid (unb_get l i (by omega))
  obtain ⟨x, hx⟩ : ∃ x, x = l[i / 8]'(by omega) := ⟨_, rfl⟩
  have HX : Hid (l.getD (i / 8) 0 = x) := Lib.hid (by rw [hx]; simp [List.getD, show i / 8 < l.length from by omega])
  rw [← hx] at hc
  have hb0 : 0 ≤ (x.toNat : Int) / 2 ^ (7 - i % 8) := Int.ediv_nonneg (by omega) (Int.le_of_lt (Int.pow_pos (by decide)))
  have hb1 : (x.toNat : Int) / 2 ^ (7 - i % 8) ≤ 255 := by
    have h1 : x.toNat / 2 ^ (7 - i % 8) ≤ x.toNat := Nat.div_le_self _ _
    have h2 := x.toNat_lt
    have h3 : ((x.toNat / 2 ^ (7 - i % 8) : Nat) : Int) = (x.toNat : Int) / 2 ^ (7 - i % 8) := by rw [Int.natCast_ediv, Int.natCast_pow]; rfl
    omega
  clear hcell hx h hl
  go_enter Try.func31, Try.ntmps31
  go_wp2_with fail
  go_ret
  refine ⟨ret_int ?_, rfl⟩
  rw [HG.out, HX.out, Int.natCast_emod, Int.natCast_ediv, Int.natCast_pow]
  rfl

/-- what Unpack comes to -/
def upZ : Unp → List Int
  | .ok l => l
  | _ => []
def upE : Unp → Int
  | .ok _ => 0
  | .short => 2
  | .long => 3
  | .form => 4

theorem five {l : List Nat} (h : 5 ≤ l.length) : ∃ a b c d e r, l = a :: b :: c :: d :: e :: r := by
  match l, h with
  | a :: b :: c :: d :: e :: r, _ => exact ⟨a, b, c, d, e, r, rfl⟩

theorem unp_drop (acc : List Int) {u : List Nat} {t : Nat} (h : t + 5 ≤ u.length) : unp acc (u.drop t) =
    if num2 ((u.drop t).take 5) = 31 then (if 8 ≤ u.length - (t + 5) then .long else if (u.drop (t + 5)).any (fun x => x == 1) then .form else .ok acc)
    else unp (acc ++ [(num2 ((u.drop t).take 5) : Int)]) (u.drop (t + 5)) := by
  obtain ⟨a, b, c, d, e, r, he⟩ := five (l := u.drop t) (by rw [List.length_drop]; omega)
  have hr : u.drop (t + 5) = r := by rw [← List.drop_drop, he]; rfl
  have hl : u.length - (t + 5) = r.length := by rw [← hr, List.length_drop]
  rw [hr, hl, he, unp_five]
  rfl

theorem unp_short (acc : List Int) {u : List Nat} (h : u.length < 5) : unp acc u = .short := by
  match u, h with
  | [], _ => rfl
  | [_], _ => rfl
  | [_, _], _ => rfl
  | [_, _, _], _ => rfl
  | [_, _, _, _], _ => rfl

theorem any_at {l : List Nat} {j : Nat} (hj : j < l.length) (h : l.getD j 0 = 1) : l.any (fun x => x == 1) = true := by
  rw [List.any_eq_true]
  refine ⟨l[j], List.getElem_mem hj, ?_⟩
  have e : l[j] = 1 := by simpa [List.getD, hj] using h
  rw [e]
  rfl

theorem any_none {l : List Nat} (h : ∀ j, j < l.length → l.getD j 0 ≠ 1) : l.any (fun x => x == 1) = false := by
  rw [List.any_eq_false]
  intro x hx
  obtain ⟨j, hj, rfl⟩ := List.getElem_of_mem hx
  have := h j hj
  simp only [List.getD, List.getElem?_eq_getElem hj, Option.getD_some] at this
  simpa using this

theorem getD_dropN (u : List Nat) (k m : Nat) : (u.drop k).getD m 0 = u.getD (k + m) 0 := by
  simp [List.getD, List.getElem?_drop]

set_option maxRecDepth 100000 in
set_option maxHeartbeats 12800000 in
theorem runpack_any (w : World) (A : Option Addr) (n c : Nat) (l : List UInt8) (h : Rd w w.heap.size A n l) (hn : (n : Int) ≤ 100000) :
    Calls Try.prog 18 #[.slice A n c] w (OutIE w.heap.size 3 w (upZ (unpackL l)) (upE (unpackL l))) := by
  obtain ⟨i0, hi, hz0, hsz, hby⟩ := inf_parts Try.inf_int
  have HI := Lib.hid hi
  have HZ0 := Lib.hid hz0
  have HSZ := Lib.hid hsz
  have HBY := Lib.hid hby
  clear hi hz0 hsz hby
  have H := Lib.hid h
  clear h
  obtain ⟨u, hu⟩ : ∃ u, u = unb l := ⟨_, rfl⟩
  have HUL : Hid (u.length = 8 * n) := Lib.hid (by rw [hu, unb_len, H.out.1])
  have HUB : Hid (isBits u) := Lib.hid (by rw [hu]; exact isBits_unb l)
  have HU := Lib.hid hu.symm
  have HR : Hid (unpackL l = unp [] u) := Lib.hid (by rw [hu]; rfl)
  clear hu
  go_enter Try.func18, Try.ntmps18
  go_wp2_with fail
  go_loopw [4, 5] (fun v i wr => ∃ (A1 : Option Addr) (nn c1 t : Nat) (acc : List Int), t ≤ 8 * n ∧ nn ≤ t ∧ i = .int .i64 t ∧ v = .slice A1 nn c1 ∧ Hid (unpackL l = unp acc (u.drop t)) ∧ Hid (wr.ownsRow w.heap.size 3 1 (.slice A1 nn c1) nn (iv acc)) ∧ Hid (Below w.heap.size w wr)) (fun _ i _ => 8 * n - (intOf i).toNat)
  case atStart => exact ⟨none, 0, 0, 0, [], Nat.zero_le _, Nat.zero_le _, rfl, rfl, HR, Lib.hid (ownI_nil w _ _), Lib.hid (Below.refl _ _)⟩
  case round =>
    obtain ⟨A1, nn, c1, t, acc, ht, hnt, rfl, rfl, HE, HO, HB⟩ := hrel
    by_cases hlt : t + 5 ≤ 8 * n
    · have HD := Lib.hid (unp_drop acc (u := u) (t := t) (by rw [HUL.out]; exact hlt))
      have hdec : decide ((t : Int) + 5 ≤ 8 * (n : Int)) = true := by rw [decide_eq_true_eq]; omega
      go_wp2_with fail
      clear hdec
      go_loop [6, 7] (fun v i => ∃ (k x : Nat), k ≤ 5 ∧ x < 32 ∧ i = .int .i64 k ∧ v = .int .i64 x ∧ Hid (x = num2 ((u.drop t).take k))) (fun _ i => 5 - (intOf i).toNat)
      case atStart => exact ⟨0, 0, by omega, by omega, rfl, rfl, Lib.hid rfl⟩
      case round =>
        obtain ⟨k, x, hk, hx, rfl, rfl, HX⟩ := hrel
        by_cases hlk : k < 5
        · have hul : t + k < u.length := by have := HUL.out; omega
          obtain ⟨b, hb⟩ : ∃ b, b = u.getD (t + k) 0 := ⟨_, rfl⟩
          have hbu : u[t + k]'hul = b := by rw [hb]; simp [List.getD, hul]
          have hb2 : b < 2 := by rw [← hbu]; exact HUB.out _ (List.getElem_mem hul)
          have HX2 : Hid (2 * x + b = num2 ((u.drop t).take (k + 1))) := Lib.hid (by
            rw [List.take_succ_eq_append_getElem (by rw [List.length_drop]; omega), num2_snoc, ← HX.out, List.getElem_drop, hbu])
          have hx2 : 2 * x + b < 32 := by
            have h9 := num2_lt (k + 1) ((u.drop t).take (k + 1)) (by rw [List.length_take, List.length_drop]; omega) (fun y hy => HUB.out y (List.mem_of_mem_drop (List.mem_of_mem_take hy)))
            rw [← HX2.out] at h9
            have h10 : 2 ^ (k + 1) ≤ 2 ^ 5 := Nat.pow_le_pow_right (by decide) (by omega)
            omega
          have HBB : Hid ((unb l).getD (t + k) 0 = b) := Lib.hid (by rw [HU.out]; exact hb.symm)
          clear hb hbu hul
          go_wp2_with fail
          refine (rbit_any wr _ A n c (t + k) l (H.out.below HB.out) (by omega) (by omega)).mono ?_
          rintro e w1 ⟨rfl, rfl⟩
          rw [HBB.out]
          go_wp2_with fail
          go_round
          case rel => exact ⟨k + 1, 2 * x + b, by omega, hx2, by go_num, by go_num, HX2⟩
          case measure => simp [intOf]; omega
        · obtain rfl : k = 5 := by omega
          by_cases h31 : x = 31
          · subst h31
            have hd := HD.out
            rw [if_pos HX.out.symm] at hd
            have HD2 := Lib.hid hd
            clear hd HD
            by_cases h8 : 8 ≤ 8 * n - (t + 5)
            · have HF : Hid (unpackL l = .long) := Lib.hid (by rw [HE.out, HD2.out, HUL.out, if_pos h8])
              have hq : ((t : Int) + 12) / 8 < (n : Int) := by omega
              clear h8
              go_wp2_with fail
              go_ret2
              rw [HF.out]
              exact ⟨none, 0, 0, rfl, ownI_nil _ _ _, HB.out⟩
            · have hq : ¬ ((t : Int) + 12) / 8 < (n : Int) := by omega
              have HD3 : Hid (unpackL l = if (u.drop (t + 5)).any (fun x => x == 1) then .form else .ok acc) := Lib.hid (by rw [HE.out, HD2.out, HUL.out, if_neg h8])
              clear h8
              go_wp2_with fail
              clear hq
              go_loop [8] (fun i => ∃ (k : Nat), t + 5 ≤ k ∧ k ≤ 8 * n ∧ i = .int .i64 k ∧ Hid (∀ m, t + 5 ≤ m → m < k → u.getD m 0 ≠ 1)) (fun i => 8 * n - (intOf i).toNat)
              case atStart => exact ⟨t + 5, Nat.le_refl _, hlt, by go_num, Lib.hid (fun m h1 h2 => absurd h2 (by omega))⟩
              case round =>
                obtain ⟨k, hk1, hk2, rfl, HM⟩ := hrel
                by_cases hlk2 : k < 8 * n
                · obtain ⟨b, hb⟩ : ∃ b, b = u.getD k 0 := ⟨_, rfl⟩
                  have HBB : Hid ((unb l).getD k 0 = b) := Lib.hid (by rw [HU.out]; exact hb.symm)
                  by_cases hb1 : b = 1
                  · have HF : Hid (unpackL l = .form) := Lib.hid (by
                      rw [HD3.out, any_at (j := k - (t + 5)) (by rw [List.length_drop, HUL.out]; omega) (by rw [getD_dropN, show t + 5 + (k - (t + 5)) = k from by omega, ← hb, hb1])]
                      rfl)
                    subst hb1
                    clear hb
                    go_wp2_with fail
                    refine (rbit_any wr _ A n c k l (H.out.below HB.out) (by omega) (by omega)).mono ?_
                    rintro e w1 ⟨rfl, rfl⟩
                    rw [HBB.out]
                    go_wp2_with fail
                    go_ret2
                    rw [HF.out]
                    exact ⟨none, 0, 0, rfl, ownI_nil _ _ _, HB.out⟩
                  · have t0 : ((b : Int) == 1) = false := by rw [beq_eq_false_iff_ne]; omega
                    have HM2 : Hid (∀ m, t + 5 ≤ m → m < k + 1 → u.getD m 0 ≠ 1) := Lib.hid (fun m h1 h2 => by
                      by_cases e : m = k
                      · subst e; rw [← hb]; exact hb1
                      · exact HM.out m h1 (by omega))
                    clear hb hb1
                    go_wp2_with fail
                    refine (rbit_any wr _ A n c k l (H.out.below HB.out) (by omega) (by omega)).mono ?_
                    rintro e w1 ⟨rfl, rfl⟩
                    rw [HBB.out]
                    go_wp2_with fail
                    go_round
                    case rel => exact ⟨k + 1, by omega, by omega, by go_num, HM2⟩
                    case measure => simp [intOf]; omega
                · have HF : Hid (unpackL l = .ok acc) := Lib.hid (by
                    rw [HD3.out, any_none (fun j hj => by
                      rw [List.length_drop, HUL.out] at hj
                      rw [getD_dropN]
                      exact HM.out _ (by omega) (by omega))]
                    rfl)
                  go_wp2_with fail
                  go_ret2
                  rw [HF.out]
                  exact ⟨A1, nn, c1, rfl, HO.out, HB.out⟩
          · have hd := HD.out
            rw [if_neg (by rw [← HX.out]; exact h31), ← HX.out] at hd
            have HD2 : Hid (unpackL l = unp (acc ++ [(x : Int)]) (u.drop (t + 5))) := Lib.hid (HE.out.trans hd)
            have t0 : ((x : Int) != 31) = true := by rw [bne_iff_ne]; omega
            have hz2 := HB.out.size
            clear hd HD h31
            go_wp2_with (at_builtin; refine wpList_app1L _ rfl _ _ 23 rfl w.heap.size 3 i0 _ 8 Try.underlying23 HI.out HZ0.out HSZ.out HBY.out rfl _ nn _ rfl (HO.out.alloc _) ⟨_, 0, none⟩ 1 (.int .i64 x) rfl (new_cell _ _ _) rfl (by omega) (by unfold maxLen; omega) (by simp; omega) ?_; intro A3 c3 w8 hown2 hg2 hw2)
            have HO3 := Lib.hid hown2
            have HB3 := Lib.hid (app_below HO.out HB.out hg2)
            clear hown2 hg2 hw2
            go_roundw
            case rel => exact ⟨A3, nn + 1, c3, t + 5, acc ++ [(x : Int)], by omega, by omega, by go_num, rfl, HD2, Lib.hid (by rw [iv_snoc]; exact HO3.out), HB3⟩
            case measure => simp [intOf]; omega
    · have HF : Hid (unpackL l = .short) := Lib.hid (by rw [HE.out]; exact unp_short acc (by rw [List.length_drop, HUL.out]; omega))
      go_wp2_with fail
      go_ret2
      rw [HF.out]
      exact ⟨none, 0, 0, rfl, ownI_nil _ _ _, HB.out⟩

end Go.Proofs.Ytdolmhnajofkoaa
