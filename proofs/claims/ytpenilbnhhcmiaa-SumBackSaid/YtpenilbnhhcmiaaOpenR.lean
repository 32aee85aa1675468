/- Contract of the reference's Open. -/
import Derived.Test.YtpenilbnhhcmiaaOpen
namespace Go.Proofs.Ytpenilbnhhcmiaa
open Go.RowKit

theorem beN4 (a b c d : UInt8) : beN [a, b, c, d] = ((a.toNat * 256 + b.toNat) * 256 + c.toNat) * 256 + d.toNat := by
  simp [beN]

theorem beN_beL4 (x : Nat) (h : x < 4294967296) : beN (beL 4 (x : Int)) = x := by
  rw [beL4, beN4]
  have h1 := byt_val ((x : Int) / 16777216)
  have h2 := byt_val ((x : Int) / 65536)
  have h3 := byt_val ((x : Int) / 256)
  have h4 := byt_val (x : Int)
  omega

theorem beL_beN4 (l : List UInt8) (h : l.length = 4) : beL 4 ((beN l : Nat) : Int) = l := by
  match l, h with
  | [a, b, c, d], _ =>
    rw [beL4, beN4]
    have ha := a.toNat_lt
    have hb := b.toNat_lt
    have hc := c.toNat_lt
    have hd := d.toNat_lt
    have e : ∀ (x : Int) (y : UInt8), x % 256 = y.toNat → byt x = y := by
      intro x y h
      apply UInt8.toNat_inj.1
      have := byt_val x
      omega
    rw [e _ a (by omega), e _ b (by omega), e _ c (by omega), e _ d (by omega)]

/-- the four bytes are those of the number, or they are not -/
theorem tail_eq (l : List UInt8) (h : l.length = 4) (x : Nat) (hx : x < 4294967296) : l = beL 4 (x : Int) ↔ beN l = x := by
  constructor
  · intro e; rw [e, beN_beL4 x hx]
  · intro e; rw [← e, beL_beN4 l h]

theorem tail_of_at (l m : List UInt8) (hl : l.length = 4) (hm : m.length = 4) (h : ∀ i, i < 4 → m.getD i 0 = l.getD i 0) : l = m := by
  apply List.ext_getElem (by omega)
  intro i h1 h2
  have := h i (by omega)
  simp [List.getD, h1, h2] at this
  exact this.symm

set_option maxRecDepth 100000 in
set_option maxHeartbeats 400000 in
theorem rOpen_short (w : World) (A : Option Addr) (n c : Nat) (hn : n < 4) :
    Calls Try.prog 15 #[.slice A n c] w (OutP w [] 2) := by
  go_enter Try.func15, Try.ntmps15
  go_wp2_with fail
  go_ret2
  exact ⟨none, 0, 0, rfl, Rd.nil _ _, Below.refl _ _⟩

set_option maxRecDepth 100000 in
set_option maxHeartbeats 800000 in
theorem rOpen_long (w : World) (B : Nat) (ad : Addr) (n c : Nat) (l : List UInt8) (h : Rd w B (some ad) n l) (hB : B ≤ w.heap.size) (hc : n ≤ c) (hn : 4 ≤ n) (hm : n ≤ 100000) :
    Calls Try.prog 15 #[.slice (some ad) n c] w (OutP w (opn l).1 (opn l).2) := by
  obtain ⟨i0, hi, hz, hsz, hb⟩ := info_parts Try.infoB
  have hl := h.1
  have ho : opn l = if beN (l.drop (n - 4)) = Crc.on 0 (l.take (n - 4)) then (l.take (n - 4), 0) else ([], 14) := by
    unfold opn
    rw [if_neg (by omega), hl]
  have hR := h.head (n - 4) (by omega)
  have htl : (l.drop (n - 4)).length = 4 := by rw [List.length_drop]; omega
  have hxb := on0_bounds (l.take (n - 4))
  have hxb2 := Crc.on_lt (s := 0) (by omega) (l.take (n - 4))
  have hS := fun (W : World) (hR : Rd W B (some ad) (n - 4) (l.take (n - 4))) => rOf_any W B (some ad) (n - 4) c (l.take (n - 4)) hR (by omega)
  obtain ⟨s, hs⟩ : ∃ s, s = Crc.on 0 (l.take (n - 4)) := ⟨_, rfl⟩
  rw [← hs] at hS ho hxb hxb2
  have HS := Lib.hid hS
  have HO := Lib.hid ho
  have HR := Lib.hid hR
  have HL := Lib.hid htl
  have H := Lib.hid h
  clear hS hs ho hR hl h htl
  go_enter Try.func15, Try.ntmps15
  go_wp2_with fail
  refine (HS.out _ HR.out).mono ?_
  rintro e w1 ⟨rfl, rfl⟩
  go_wp2_with fail
  refine (rLong_any w 0 none 0 0 [] s (Rd.nil _ _) (Nat.zero_le _) (by simp) (by omega) hxb).mono ?_
  rintro e w1 ⟨A1, n1, c1, rfl, ho1, hb1⟩
  have hn1 : n1 = 4 := by have := own_len ho1; rw [List.nil_append, beL_length] at this; omega
  subst hn1
  have hr1 := Rd.of_own ho1
  rw [List.nil_append] at hr1
  obtain ⟨ad1, rfl, hab1, hcell1⟩ := hr1.2 (by omega)
  have HC1 := Lib.hid hcell1
  have hs1 := hb1.size
  clear hcell1 hr1 ho1
  go_wp2_with fail
  go_loopw [6] (fun i wr => ∃ (j : Nat), j ≤ 4 ∧ i = .int .i64 j ∧ Hid (∀ i, i < j → (beL 4 (s : Int)).getD i 0 = (l.drop (n - 4)).getD i 0) ∧ Below w1.heap.size w1 wr) (fun i _ => 4 - (intOf i).toNat)
  case atStart => exact ⟨0, Nat.zero_le _, rfl, fun i hi => absurd hi (by omega), Below.refl _ _⟩
  case round =>
    obtain ⟨j, hj, rfl, HE, hbel⟩ := hrel
    by_cases hlt : j < 4
    · obtain ⟨ad0, e0, hab0, hcell0⟩ := H.out.2 (by omega)
      obtain rfl : ad = ad0 := by injection e0
      have k1 := (hbel.cell (p := ad1.add j) (by rw [blk_add]; exact hab1)).trans (HC1.out j (by rw [beL_length]; exact hlt))
      have k2 := (hbel.cell (p := ad.add (n - 4 + j)) (by rw [blk_add]; omega)).trans ((hb1.cell (p := ad.add (n - 4 + j)) (by rw [blk_add]; omega)).trans (hcell0 (n - 4 + j) (by rw [H.out.1]; omega)))
      obtain ⟨u, hu⟩ : ∃ u, u = (beL 4 (s : Int))[j]'(by rw [beL_length]; exact hlt) := ⟨_, rfl⟩
      obtain ⟨v, hv⟩ : ∃ v, v = l[n - 4 + j]'(by rw [H.out.1]; omega) := ⟨_, rfl⟩
      rw [← hu] at k1
      rw [← hv] at k2
      have hu2 : (beL 4 (s : Int)).getD j 0 = u := by rw [hu]; simp [List.getD, beL_length, hlt]
      have hv2 : (l.drop (n - 4)).getD j 0 = v := by rw [hv]; simp [List.getD, H.out.1, show n - 4 + j < n from by omega]
      have HU := Lib.hid hu2
      have HV := Lib.hid hv2
      clear hu hv hu2 hv2 hcell0
      have hsum : IntKind.i64.wrap ((n : Int) - 4 + j) = (n : Int) - 4 + j := IntWalk.i64_in _ ⟨by omega, by omega⟩
      have hsum0 : 0 ≤ (n : Int) - 4 + j := by omega
      have hsumt : ((n : Int) - 4 + j).toNat = n - 4 + j := by omega
      have hsuml : (n : Int) - 4 + j < n := by omega
      by_cases huv : u = v
      · have hne : ((u.toNat : Int) != (v.toNat : Int)) = false := by rw [huv, bne_eq_false_iff_eq]
        have HE2 : Hid (∀ i, i < j + 1 → (beL 4 (s : Int)).getD i 0 = (l.drop (n - 4)).getD i 0) := by
          intro i hi
          by_cases e : i = j
          · rw [e, HU.out, HV.out, huv]
          · exact HE.out i (by omega)
        clear huv HE
        go_wp2_with fail
        go_quiet (fail)
        clear hsum hsumt
        go_wp2_with fail
        go_roundw
        case rel => exact ⟨j + 1, by omega, by go_num, HE2, ⟨hbel.os, hbel.tape, hbel.output, hbel.size, hbel.block⟩⟩
        case measure => simp [intOf]; omega
      · have hne : ((u.toNat : Int) != (v.toNat : Int)) = true := by
          rw [bne_iff_ne]
          intro e
          exact huv (UInt8.toNat_inj.1 (by omega))
        have HO2 : Hid (opn l = ([], 14)) := by
          show opn l = ([], 14)
          rw [HO.out, if_neg]
          intro e
          have e2 := (tail_eq (l.drop (n - 4)) HL.out s hxb2).2 e
          exact huv (by rw [← HU.out, ← HV.out, e2])
        clear huv HE
        go_wp2_with fail
        go_quiet (fail)
        clear hsum hsumt
        go_wp2_with fail
        go_ret2
        rw [HO2.out]
        exact ⟨none, 0, 0, rfl, Rd.nil _ _, hb1.trans (Below.mono ⟨hbel.os, hbel.tape, hbel.output, hbel.size, hbel.block⟩ hs1)⟩
    · obtain rfl : j = 4 := by omega
      have HO2 : Hid (opn l = (l.take (n - 4), 0)) := by
        show opn l = (l.take (n - 4), 0)
        rw [HO.out, if_pos]
        exact (tail_eq (l.drop (n - 4)) HL.out s hxb2).1 (tail_of_at _ _ HL.out (beL_length 4 _) HE.out)
      have hb2 := hb1.trans (hbel.mono hs1)
      have hs2 := hb2.size
      clear HE
      go_wp2_with (at_builtin; refine wpList_app _ rfl _ _ 22 rfl w.heap.size 5 i0 Try.underlying22 hi hz hsz hb _ 0 [] rfl (own_nil _ _ _) B (some ad) (n - 4) c (l.take (n - 4)) rfl (HR.out.below (hb2.mono hB)) (by omega) hs2 ?_; intro A3 c3 w3 hown3 hg3)
      simp only [Nat.zero_add, List.nil_append] at hown3
      have hb3 := hb2.grown hg3 hs2 (own_from (own_nil wr w.heap.size 5))
      have H3 := Lib.hid hown3
      clear hown3
      go_wp2_with fail
      go_ret2
      rw [HO2.out]
      exact ⟨A3, _, c3, rfl, Rd.of_own H3.out, hb3⟩

/-- Open, of whatever bytes -/
theorem rOpen_any (w : World) (B : Nat) (A : Option Addr) (n c : Nat) (l : List UInt8) (h : Rd w B A n l) (hB : B ≤ w.heap.size) (hc : n ≤ c) (hm : n ≤ 100000) :
    Calls Try.prog 15 #[.slice A n c] w (OutP w (opn l).1 (opn l).2) := by
  by_cases hn : n < 4
  · have e : opn l = ([], 2) := by unfold opn; rw [if_pos (by rw [h.1]; exact hn)]
    rw [e]
    exact rOpen_short w A n c hn
  · obtain ⟨ad, rfl⟩ := h.some_ (by omega)
    exact rOpen_long w B ad n c l h hB hc (by omega) hm

end Go.Proofs.Ytpenilbnhhcmiaa
