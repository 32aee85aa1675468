/- The walk of the statement SumGoes. -/
import Derived.Test.YtpenilbnhhcmiaaAwake
namespace Go.Proofs.Ytpenilbnhhcmiaa
open Go.RowKit

set_option maxRecDepth 100000 in
set_option maxHeartbeats 1600000 in
theorem goes_walk (A : Option Addr) (n c : Nat) (l : List UInt8) (A' : Option Addr) (n' c' : Nat) (l' : List UInt8) (s : Nat) (w : World) (h : Rd w w.heap.size A n l) (h' : Rd w w.heap.size A' n' l') (hs : s < 4294967296) (hn : (n : Int) ≤ 1000) (hn' : (n' : Int) ≤ 1000) :
    Calls Try.prog 7 #[.slice A n c, .slice A' n' c', .int .u32 s] w fun e w' => e = .returned (.bool true) ∧ Below w.heap.size w w' := by
  obtain ⟨i0, hi, hz, hsz, hb⟩ := info_parts Try.infoB
  have H := Lib.hid h
  have H' := Lib.hid h'
  clear h h'
  have hnil := fun (W : World) => sOn_any W 0 none 0 0 [] s (Rd.nil _ _) (Nat.zero_le _) (by omega) hs
  rw [Crc.on_nil] at hnil
  have HN := Lib.hid hnil
  clear hnil
  have E1 : Hid (Crc.on (Crc.on 0 l) l' = Crc.on 0 (l ++ l')) := Lib.hid (Crc.on_append 0 l l')
  have E2 : Hid (Crc.on (Crc.on s l) l' = Crc.on s (l ++ l')) := Lib.hid (Crc.on_append s l l')
  have x0 := Crc.on_lt (s := 0) (by omega) l
  have xs := Crc.on_lt (s := s) hs l
  go_enter Try.func7, Try.ntmps7
  go_wp2_with (first
    | (at_builtin; refine wpList_app _ rfl (.const (.slice none 0 0)) _ 22 rfl w.heap.size 5 i0 Try.underlying22 hi hz hsz hb _ 0 [] rfl (own_nil _ _ _) w.heap.size A n c l rfl H.out (by omega) (Nat.le_refl _) ?_; intro A1 c1 w1 hown1 hg1; have hb1 := (Below.refl w.heap.size w).grown hg1 (Nat.le_refl _) (own_from (own_nil w w.heap.size 5)); simp only [Nat.zero_add, List.nil_append] at hown1)
    | (at_builtin; refine wpList_app _ rfl (.tmp 18) (.tmp 19) 22 rfl w.heap.size 5 i0 Try.underlying22 hi hz hsz hb _ n l rfl hown1 w.heap.size A' n' c' l' rfl (H'.out.below hb1) (by omega) hb1.size ?_; intro A2 c2 w2 hown2 hg2))
  have hb2 := hb1.grown hg2 hb1.size (own_from hown1)
  have R2 := Lib.hid (Rd.of_own hown2)
  have HB2 := Lib.hid hb2
  have hs2 := hb2.size
  clear hown2 hown1 hg1 hg2 hb1 hb2
  go_wp2_with fail
  refine (sOf_any w2 w.heap.size A n c l (H.out.below HB2.out) hs2 (by omega)).mono ?_
  rintro e w3 ⟨rfl, hb3⟩
  have j3 := HB2.out.trans (hb3.mono hs2)
  have R3 := Lib.hid (R2.out.below hb3)
  have hs3 := hb3.size
  clear hb3 R2
  go_wp2_with fail
  refine (sOn_any w3 w.heap.size A' n' c' l' (Crc.on 0 l) (H'.out.below j3) j3.size (by omega) x0).mono ?_
  rintro e w4 ⟨rfl, hb4⟩
  have j4 := j3.trans (hb4.mono j3.size)
  have R4 := Lib.hid (R3.out.below (hb4.mono hs3))
  have hs4 := hb4.size
  clear hb4 R3 j3
  go_wp2_with fail
  refine (sOf_any w4 w2.heap.size A2 (n + n') c2 (l ++ l') R4.out (by omega) (by omega)).mono ?_
  rw [← E1.out]
  rintro e w5 ⟨rfl, hb5⟩
  have j5 := j4.trans (hb5.mono j4.size)
  have R5 := Lib.hid (R4.out.below (hb5.mono (by omega)))
  have hs5 := hb5.size
  clear hb5 R4 j4
  go_wp2_with fail
  refine (sOn_any w5 w.heap.size A n c l s (H.out.below j5) j5.size (by omega) hs).mono ?_
  rintro e w6 ⟨rfl, hb6⟩
  have j6 := j5.trans (hb6.mono j5.size)
  have R6 := Lib.hid (R5.out.below (hb6.mono (by omega)))
  have hs6 := hb6.size
  clear hb6 R5 j5
  go_wp2_with fail
  refine (sOn_any w6 w.heap.size A' n' c' l' (Crc.on s l) (H'.out.below j6) j6.size (by omega) xs).mono ?_
  rintro e w7 ⟨rfl, hb7⟩
  have j7 := j6.trans (hb7.mono j6.size)
  have R7 := Lib.hid (R6.out.below (hb7.mono (by omega)))
  have hs7 := hb7.size
  clear hb7 R6 j6
  go_wp2_with fail
  refine (sOn_any w7 w2.heap.size A2 (n + n') c2 (l ++ l') s R7.out (by omega) (by omega) hs).mono ?_
  rw [← E2.out]
  rintro e w8 ⟨rfl, hb8⟩
  have j8 := j7.trans (hb8.mono j7.size)
  clear hb8 R7 j7
  go_wp2_with fail
  refine (HN.out w8).mono ?_
  rintro e w9 ⟨rfl, hb9⟩
  have j9 := j8.trans (hb9.mono j8.size)
  clear hb9 j8
  go_wp2_with fail
  refine (awake_any _).mono ?_
  rintro e w10 ⟨rfl, hb10⟩
  go_wp2_with fail
  go_ret
  exact ⟨rfl, j9.trans (hb10.mono j9.size)⟩

set_option maxRecDepth 100000 in
set_option maxHeartbeats 800000 in
theorem goes_long (A : Option Addr) (n c : Nat) (A' : Option Addr) (n' c' : Nat) (x : Int) (w : World) (_hn : ¬ ((n : Int) ≤ 1000 ∧ (n' : Int) ≤ 1000)) :
    Calls Try.prog 7 #[.slice A n c, .slice A' n' c', .int .u32 x] w fun e w' => e = .returned (.bool true) ∧ Below w.heap.size w w' := by
  by_cases h1 : (n : Int) ≤ 1000
  · have h2 : ¬ (n' : Int) ≤ 1000 := fun h => _hn ⟨h1, h⟩
    clear _hn
    go_enter Try.func7, Try.ntmps7
    go_wp2_with fail
    refine (awake_any _).mono ?_
    rintro e w4 ⟨rfl, hb4⟩
    go_wp2_with fail
    go_ret
    exact ⟨rfl, hb4⟩
  · clear _hn
    go_enter Try.func7, Try.ntmps7
    go_wp2_with fail
    refine (awake_any _).mono ?_
    rintro e w4 ⟨rfl, hb4⟩
    go_wp2_with fail
    go_ret
    exact ⟨rfl, hb4⟩

end Go.Proofs.Ytpenilbnhhcmiaa
