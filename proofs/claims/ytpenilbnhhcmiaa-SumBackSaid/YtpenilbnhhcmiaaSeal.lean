/- Contracts of Seal, of the program and of the reference. -/
import Derived.Test.YtpenilbnhhcmiaaOn
import Derived.Test.YtpenilbnhhcmiaaPutsR2
import Derived.Test.YtpenilbnhhcmiaaPutsW
namespace Go.Proofs.Ytpenilbnhhcmiaa
open Go.RowKit

theorem own_cap {w : World} {base : Nat} {e : TypeId} {A : Option Addr} {n c : Nat} {xs : List Value} (h : w.ownsRow base e 1 (.slice A n c) n xs) : n ≤ c ∧ (c : Int) ≤ 9223372036854775807 := by
  rcases h.2 with ⟨hv, h0⟩ | ⟨g, cap, cur, hv, _, _, hnc, hcm, _⟩
  · injection hv with _ _ hc
    omega
  · injection hv with _ _ hc
    unfold maxLen at hcm
    omega

/-- bytes and their sum -/
def seal_ (l : List UInt8) : List UInt8 := l ++ beL 4 (Crc.on 0 l : Nat)

theorem on0_bounds (l : List UInt8) : (Crc.on 0 l : Int) ≤ 4294967295 := by
  have := Crc.on_lt (s := 0) (by omega) l
  omega

theorem own_nil (w : World) (base : Nat) (e : TypeId) : w.ownsRow base e 1 (.slice none 0 0) 0 (bc []) := ⟨by simp [bc], .inl ⟨rfl, rfl⟩⟩

set_option maxRecDepth 100000 in
set_option maxHeartbeats 400000 in
theorem sSeal_any (w : World) (B : Nat) (A : Option Addr) (n c : Nat) (l : List UInt8) (h : Rd w B A n l) (hB : B ≤ w.heap.size) (hn : n ≤ 100000) :
    Calls Try.prog 16 #[.slice A n c] w (OutO w.heap.size w (seal_ l)) := by
  have hl := h.1
  have hl2 : l.length ≤ 100000 := by omega
  clear hl
  have hx := on0_bounds l
  have H := Lib.hid h
  clear h
  go_enter Try.func16, Try.ntmps16
  go_wp2_with fail
  refine (sOf_any w B A n c l H.out hB (by omega)).mono ?_
  rintro e w1 ⟨rfl, hb1⟩
  have hs1 := hb1.size
  go_wp2_with fail
  refine (wLong_any w1 B A n c l _ (H.out.below (hb1.mono hB)) (by omega) (by omega) (by omega) hx).mono ?_
  intro e w2 ho2
  obtain ⟨A2, n2, c2, rfl, ho2, hb2⟩ := OutO.after hb1 (Nat.le_refl _) ho2
  have H2 := Lib.hid ho2
  clear ho2
  go_wp2_with fail
  go_ret
  exact ⟨A2, n2, c2, rfl, H2.out, hb2⟩

set_option maxRecDepth 100000 in
set_option maxHeartbeats 400000 in
theorem rSeal_any (w : World) (B : Nat) (A : Option Addr) (n c : Nat) (l : List UInt8) (h : Rd w B A n l) (hB : B ≤ w.heap.size) (hn : n ≤ 100000) :
    Calls Try.prog 17 #[.slice A n c] w (OutO w.heap.size w (seal_ l)) := by
  obtain ⟨i0, hi, hz, hs, hb⟩ := info_parts Try.infoB
  have hl := h.1
  have hl2 : l.length ≤ 100000 := by omega
  clear hl
  have hx := on0_bounds l
  have H := Lib.hid h
  clear h
  go_enter Try.func17, Try.ntmps17
  go_wp2_with (at_builtin; refine wpList_app _ rfl _ _ 22 rfl w.heap.size 5 i0 Try.underlying22 hi hz hs hb _ 0 [] rfl (own_nil _ _ _) B A n c l rfl H.out (by omega) (Nat.le_refl _) ?_; intro A2 c2 w2 hown2 hg2)
  have hb2 := (Below.refl w.heap.size w).grown hg2 (Nat.le_refl _) (own_from (own_nil w w.heap.size 5))
  have hs2 := hb2.size
  simp only [Nat.zero_add, List.nil_append] at hown2
  have H2 := Lib.hid hown2
  clear hown2
  go_wp2_with fail
  refine (rOf_any w2 B A n c l (H.out.below (hb2.mono hB)) (by omega)).mono ?_
  rintro e w3 ⟨rfl, rfl⟩
  go_wp2_with fail
  refine (rLong_any w2 w2.heap.size A2 n c2 l _ (Rd.of_own H2.out) (Nat.le_refl _) (by omega) (by omega) hx).mono ?_
  intro e w3 ho3
  obtain ⟨A3, n3, c3, rfl, ho3, hb3⟩ := OutO.after hb2 (Nat.le_refl _) ho3
  have H3 := Lib.hid ho3
  clear ho3
  go_wp2_with fail
  go_ret
  exact ⟨A3, n3, c3, rfl, H3.out, hb3⟩

end Go.Proofs.Ytpenilbnhhcmiaa
