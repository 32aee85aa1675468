/- Contract of sum.Open. -/
import Derived.Test.YtpenilbnhhcmiaaSeal
namespace Go.Proofs.Ytpenilbnhhcmiaa
open Go.RowKit

set_option maxRecDepth 100000 in
set_option maxHeartbeats 400000 in
theorem clone_any (w : World) (B : Nat) (ad : Addr) (n c : Nat) (l : List UInt8) (h : Rd w B (some ad) n l) (hB : B ≤ w.heap.size) (hn : n ≤ 100000) :
    Calls Try.prog 20 #[.slice (some ad) n c] w (OutO w.heap.size w l) := by
  obtain ⟨i0, hi, hz, hs, hb⟩ := info_parts Try.infoB
  have H := Lib.hid h
  clear h
  have hnil : ∀ (W : World), (binOp .eql 22 (.slice (some ad) n c) (.slice none 0 0)).run Try.prog W = .ok (.bool false) W := fun W => Lib.run_eql_slice_nil W _ _ (some ad) n c 0 0 Try.underlying22
  go_enter Try.func20, Try.ntmps20
  go_wp2_with (at_builtin; refine wpList_app _ rfl _ _ 22 rfl w.heap.size 5 i0 Try.underlying22 hi hz hs hb _ 0 [] rfl (own_empty w 5) B (some ad) n c l rfl (H.out.alloc hB _) (by omega) (by simp) ?_; intro A2 c2 w2 hown2 hg2)
  go_ret
  simp only [Nat.zero_add, List.nil_append] at hown2 ⊢
  exact ⟨A2, n, c2, rfl, hown2, ((Below.refl w.heap.size w).alloc (Nat.le_refl _) _).grown hg2 (by simp) (own_from (own_empty w 5))⟩

/-- what Open hands back -/
def OutP (w : World) (l : List UInt8) (err : Int) (e : Ending) (w' : World) : Prop :=
  ∃ A n c, e = .returned (.tuple #[.slice A n c, .int .i64 err]) ∧ Rd w' w'.heap.size A n l ∧ Below w.heap.size w w'

/-- what it comes to -/
def opn (l : List UInt8) : List UInt8 × Int :=
  if l.length < 4 then ([], 2) else if beN (l.drop (l.length - 4)) = Crc.on 0 (l.take (l.length - 4)) then (l.take (l.length - 4), 0) else ([], 14)

set_option maxRecDepth 100000 in
set_option maxHeartbeats 400000 in
theorem sOpen_short (w : World) (B : Nat) (A : Option Addr) (n c : Nat) (l : List UInt8) (h : Rd w B A n l) (hB : B ≤ w.heap.size) (hc : n ≤ c) (hcm : (c : Int) ≤ 9223372036854775807) (hn : n < 4) :
    Calls Try.prog 14 #[.slice A n c] w (OutP w [] 2) := by
  have hT := tLong_any w B A n c l ((n : Int) - 4) 0 h hB (by omega) hc (by omega) hcm
  have e : nx l ((n : Int) - 4) 4 0 = ([], (n : Int) - 4, 2) := by unfold nx; rw [if_neg (by simp), if_pos (by omega)]
  rw [e] at hT
  have HT := Lib.hid hT
  have H := Lib.hid h
  clear h hT e
  go_enter Try.func14, Try.ntmps14
  go_wp2_with fail
  refine HT.out.mono ?_
  rintro e w1 ⟨rfl, hb1⟩
  have hs1 := hb1.size
  go_wp2_with fail
  go_region
  all_goals
    go_wp2
    go_ret2
    exact ⟨none, 0, 0, rfl, Rd.nil _ _, ((hb1.alloc hs1 _).drew)⟩

theorem nx_tail (l : List UInt8) (n : Nat) (hl : l.length = n) (hn : 4 ≤ n) : nx l ((n : Int) - 4) 4 0 = (l.drop (n - 4), (n : Int), 0) := by
  unfold nx
  rw [if_neg (by simp), if_neg (by omega)]
  rw [show ((n : Int) - 4).toNat = n - 4 from by omega, show (4 : Int).toNat = 4 from rfl, List.take_of_length_le (by rw [List.length_drop]; omega), show ((n : Int) - 4 + 4) = n from by omega]

theorem Rd.head {w : World} {B : Nat} {A : Option Addr} {n : Nat} {l : List UInt8} (h : Rd w B A n l) (k : Nat) (hk : k ≤ n) : Rd w B A k (l.take k) := by
  have hl := h.1
  refine ⟨by rw [List.length_take]; omega, fun h0 => ?_⟩
  obtain ⟨ad, e, hb, hc⟩ := h.2 (by omega)
  refine ⟨ad, e, hb, fun j hj => ?_⟩
  have hj2 : j < k := by rw [List.length_take] at hj; omega
  rw [hc j (by omega)]
  simp

theorem Rd.some_ {w : World} {B : Nat} {A : Option Addr} {n : Nat} {l : List UInt8} (h : Rd w B A n l) (hn : 0 < n) : ∃ ad, A = some ad := by
  obtain ⟨ad, e, _⟩ := h.2 hn
  exact ⟨ad, e⟩

set_option maxRecDepth 100000 in
set_option maxHeartbeats 400000 in
theorem sOpen_long (w : World) (B : Nat) (ad : Addr) (n c : Nat) (l : List UInt8) (h : Rd w B (some ad) n l) (hB : B ≤ w.heap.size) (hc : n ≤ c) (hcm : (c : Int) ≤ 9223372036854775807) (hn : 4 ≤ n) (hm : n ≤ 100000) :
    Calls Try.prog 14 #[.slice (some ad) n c] w (OutP w (opn l).1 (opn l).2) := by
  have hl := h.1
  have hT := tLong_any w B (some ad) n c l ((n : Int) - 4) 0 h hB (by omega) hc (by omega) hcm
  rw [nx_tail l n hl hn] at hT
  have ho : opn l = if beN (l.drop (n - 4)) = Crc.on 0 (l.take (n - 4)) then (l.take (n - 4), 0) else ([], 14) := by
    unfold opn
    rw [if_neg (by omega), hl]
  have hR := h.head (n - 4) (by omega)
  have HR := Lib.hid hR
  have HT := Lib.hid hT
  clear h hR hT hl
  obtain ⟨t, ht⟩ : ∃ t, t = beN (l.drop (n - 4)) := ⟨_, rfl⟩
  obtain ⟨s, hs⟩ : ∃ s, s = Crc.on 0 (l.take (n - 4)) := ⟨_, rfl⟩
  have hS := fun (W : World) (hR : Rd W B (some ad) (n - 4) (l.take (n - 4))) (hBW : B ≤ W.heap.size) => sOf_any W B (some ad) (n - 4) c (l.take (n - 4)) hR hBW (by omega)
  rw [← ht] at HT
  rw [← hs] at hS
  rw [← ht, ← hs] at ho
  have HS := Lib.hid hS
  clear hS ht hs
  by_cases hts : t = s
  · rw [if_pos hts] at ho
    rw [ho]
    have hne : ((t : Int) != (s : Int)) = false := by rw [bne_eq_false_iff_eq]; omega
    clear ho hts
    go_enter Try.func14, Try.ntmps14
    go_wp2_with fail
    refine HT.out.mono ?_
    rintro e w1 ⟨rfl, hb1⟩
    have hs1 := hb1.size
    go_wp2_with fail
    refine (HS.out _ (HR.out.below ((hb1.alloc hs1 _).mono hB)) (by simp; omega)).mono ?_
    rintro e w2 ⟨rfl, hb2⟩
    have hb3 := (hb1.alloc hs1 _).trans (hb2.mono (by simp; omega))
    have hs3 := hb3.size
    go_wp2_with fail
    refine (clone_any _ B ad (n - 4) c (l.take (n - 4)) (HR.out.below (hb3.mono hB)) (by omega) (by omega)).mono ?_
    intro e w3 ho3
    obtain ⟨A3, n3, c3, rfl, ho3, hb3⟩ := OutO.after hb3 (Nat.le_refl _) ho3
    have H3 := Lib.hid ho3
    clear ho3
    go_wp2_with fail
    go_ret2
    exact ⟨A3, n3, c3, rfl, Rd.of_own H3.out, hb3⟩
  · rw [if_neg hts] at ho
    rw [ho]
    have hne : ((t : Int) != (s : Int)) = true := by rw [bne_iff_ne]; omega
    clear ho hts
    go_enter Try.func14, Try.ntmps14
    go_wp2_with fail
    refine HT.out.mono ?_
    rintro e w1 ⟨rfl, hb1⟩
    have hs1 := hb1.size
    go_wp2_with fail
    refine (HS.out _ (HR.out.below ((hb1.alloc hs1 _).mono hB)) (by simp; omega)).mono ?_
    rintro e w2 ⟨rfl, hb2⟩
    have hb3 := (hb1.alloc hs1 _).trans (hb2.mono (by simp; omega))
    go_wp2_with fail
    go_ret2
    exact ⟨none, 0, 0, rfl, Rd.nil _ _, hb3⟩

/-- Open, of whatever bytes -/
theorem sOpen_any (w : World) (B : Nat) (A : Option Addr) (n c : Nat) (l : List UInt8) (h : Rd w B A n l) (hB : B ≤ w.heap.size) (hc : n ≤ c) (hcm : (c : Int) ≤ 9223372036854775807) (hm : n ≤ 100000) :
    Calls Try.prog 14 #[.slice A n c] w (OutP w (opn l).1 (opn l).2) := by
  by_cases hn : n < 4
  · have e : opn l = ([], 2) := by unfold opn; rw [if_pos (by rw [h.1]; exact hn)]
    rw [e]
    exact sOpen_short w B A n c l h hB hc hcm hn
  · obtain ⟨ad, rfl⟩ := h.some_ (by omega)
    exact sOpen_long w B ad n c l h hB hc hcm (by omega) hm

end Go.Proofs.Ytpenilbnhhcmiaa
