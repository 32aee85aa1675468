/- The walk of the statement WireBack. -/
import Derived.Test.YtacklmfplpgkdaaBackP
import Derived.Test.YtacklmfplpgkdaaPutsW
namespace Go.Proofs.Ytacklmfplpgkdaa
open Go.RowKit

theorem below_set3 {B g : Nat} {a w : World} (h : Below B a w) (hg : B ≤ g) (x y z : Value) : Below B a (((w.setCell ⟨g, 0, none⟩ x).setCell ⟨g, 1, none⟩ y).setCell ⟨g, 2, none⟩ z) :=
  ((h.setCell hg _).setCell hg _).setCell hg _

theorem Rd.far3 {w : World} {B : Nat} {A : Option Addr} {n : Nat} {l : List UInt8} (h : Rd w B A n l) {g : Nat} (hg : B ≤ g) (x y z : Value) : Rd (((w.setCell ⟨g, 0, none⟩ x).setCell ⟨g, 1, none⟩ y).setCell ⟨g, 2, none⟩ z) B A n l :=
  h.below (below_set3 (Below.refl _ _) hg x y z)

theorem RdI.far3 {w : World} {B : Nat} {A : Option Addr} {n : Nat} {zs : List Int} (h : RdI w B A n zs) {g : Nat} (hg : ∀ ad, A = some ad → ad.block ≠ g) (x y z : Value) : RdI (((w.setCell ⟨g, 0, none⟩ x).setCell ⟨g, 1, none⟩ y).setCell ⟨g, 2, none⟩ z) B A n zs := by
  refine ⟨h.1, fun hn => ?_, h.2.2⟩
  obtain ⟨ad, e, hb, hc⟩ := h.2.1 hn
  refine ⟨ad, e, hb, fun j hj => ?_⟩
  have hne := hg ad e
  have hbk : (ad.add j).block ≠ g := by rw [blk_add]; exact hne
  rw [World.cell?_of_block (Below.heap_setCell _ _ _ _ hbk), World.cell?_of_block (Below.heap_setCell _ _ _ _ hbk), World.cell?_of_block (Below.heap_setCell _ _ _ _ hbk)]
  exact hc j hj

set_option maxRecDepth 100000 in
set_option maxHeartbeats 8000000 in
theorem back_walk (A A' : Option Addr) (n c m c' k : Nat) (p : List UInt8) (zs : List Int) (s : ByteArray) (w : World) (h : Rd w w.heap.size A n p) (h' : RdI w w.heap.size A' m zs) (hn : (n : Int) ≤ 300) (hs : (s.size : Int) ≤ 300) (hm : (m : Int) ≤ 300) (hk : (k : Int) ≤ 2147483647) :
    Calls Try.prog 7 #[.slice A n c, .int .i64 k, .string s, .slice A' m c'] w fun e w' => e = .returned (.bool true) ∧ Below w.heap.size w w' := by
  have hpl := h.1
  have hzl := h'.1
  -- the bytes that are put, and what is taken of them
  have hL : p ++ vr k ++ vr s.size ++ s.data.toList ++ vr m ++ wl zs = p ++ (vr k ++ (vr s.size ++ s.data.toList ++ vr m ++ wl zs)) := by simp
  have hsl : s.data.toList.length = s.size := by rw [Array.length_toList]; rfl
  have hv1 := vr_len10 k (by omega)
  have hv2 := vr_len10 s.size (by omega)
  have hv3 := vr_len10 m (by omega)
  have hwl := wl_length zs
  obtain ⟨L, hLd⟩ : ∃ L, L = p ++ vr k ++ vr s.size ++ s.data.toList ++ vr m ++ wl zs := ⟨_, rfl⟩
  have hLl : L.length ≤ 1300 := by rw [hLd]; simp only [List.length_append]; omega
  obtain ⟨x2, hx2⟩ : ∃ x2 : Nat, x2 = n + (vr k).length := ⟨_, rfl⟩
  obtain ⟨x3, hx3⟩ : ∃ x3 : Nat, x3 = x2 + (vr s.size).length + s.size := ⟨_, rfl⟩
  obtain ⟨x4, hx4⟩ : ∃ x4 : Nat, x4 = x3 + (vr m).length + 2 * m := ⟨_, rfl⟩
  have E1 : sz L k n 0 = ((k : Int), (x2 : Int), 0) := by
    have e := sz_vr p (vr s.size ++ s.data.toList ++ vr m ++ wl zs) k k (by omega) (Int.le_refl _)
    rw [← hL, ← hLd, hpl] at e
    rw [e, hx2]
  have E2 : txS L 300 x2 0 = (s.data.toList, (x3 : Int), 0) := by
    have e := txS_back (p ++ vr k) (vr m ++ wl zs) s.data.toList 300 (by omega) (by omega)
    rw [hsl, List.length_append, hpl, ← hx2] at e
    rw [hLd]
    simp only [List.append_assoc] at e ⊢
    rw [e, hx3]
  have E3 : inS L 300 x3 0 = (wsOf (wl zs) m, (x4 : Int), 0) := by
    have e := inS_back (p ++ vr k ++ vr s.size ++ s.data.toList) zs 300 (by omega) (by omega)
    simp only [List.length_append] at e
    rw [hpl, hsl, hzl, ← hx2, ← hx3, wl_length, hzl, ← hx4] at e
    rw [hLd]
    simp only [List.append_assoc] at e ⊢
    exact e
  have hLx : L.length = x4 := by
    rw [hLd]
    simp only [List.length_append]
    omega
  have hx4b : x4 ≤ 1300 := by omega
  have hE4 : endv x4 (x4 : Int) 0 = 0 := by unfold endv; rw [if_neg (by simp), if_neg (by omega)]
  have hx2b : x2 ≤ 1300 := by omega
  have hx3b : x3 ≤ 1300 := by omega
  have hpb : p.length ≤ 300 := by omega
  have hvb1 : p.length + (vr k).length ≤ 310 := by omega
  have hvb2 : (p ++ vr k ++ vr s.size ++ s.data.toList).length ≤ 1000 := by simp only [List.length_append]; omega
  have HE1 := Lib.hid E1
  have HE2 := Lib.hid E2
  have HE3 := Lib.hid E3
  have HE4 := Lib.hid hE4
  have HLD := Lib.hid hLd
  have HLX := Lib.hid hLx
  have HZL := Lib.hid hzl
  have H := Lib.hid h
  have HI := Lib.hid h'
  clear h h' hpl hzl hL hsl hv1 hv2 hv3 hwl E1 E2 E3 hE4 hLd hLl hLx hx2 hx3 hx4
  go_enter Try.func7, Try.ntmps7
  go_wp2_with fail
  refine (wSize_any w w.heap.size A n c p k H.out (Nat.le_refl _) (by omega) (by omega) (by omega)).mono ?_
  rintro e w1 ⟨A1, n1, c1, rfl, ho1, hb1⟩
  have H1 := Lib.hid ho1
  clear ho1
  have hs1 := hb1.size
  go_wp2_with fail
  refine (wText_any w1 w1.heap.size A1 n1 c1 _ s (Rd.of_own H1.out) (Nat.le_refl _) (by rw [List.length_append, Int.toNat_natCast]; omega) (by omega)).mono ?_
  intro e w2 ho2
  obtain ⟨A2, n2, c2, rfl, ho2, hb2⟩ := OutO.after hb1 (Nat.le_refl _) ho2
  rw [Int.toNat_natCast] at ho2
  have H2 := Lib.hid ho2
  clear ho2
  have hs2 := hb2.size
  go_wp2_with fail
  refine (wInts_any w2 w2.heap.size w.heap.size A2 A' n2 c2 m c' _ zs (Rd.of_own H2.out) (Nat.le_refl _) (HI.out.below hb2) hb2.size (by omega) (by omega)).mono ?_
  intro e w3 ho3
  obtain ⟨A3, n3, c3, rfl, ho3, hb3⟩ := OutO.after hb2 (Nat.le_refl _) ho3
  rw [← HLD.out] at ho3
  have hn3 := own_len ho3
  obtain ⟨hc3, hcm3⟩ := own_cap ho3
  have HR3 := Lib.hid (Rd.of_own ho3)
  clear ho3 H1 H2 hb1 hb2
  rw [HLX.out] at hn3
  subst hn3
  have hs3 := hb3.size
  go_wp2_with fail
  -- TakeSize
  have T1 := Lib.hid (tSize_any (w3.alloc (.cells #[.slice A3 x4 c3, .int .i64 (n : Int), .int .i64 0] 37)) w3.heap.size A3 x4 c3 L n 0 k (HR3.out.alloc (Nat.le_refl _) _) (by simp) (by omega) hc3 (by omega) hcm3)
  rw [HE1.out] at T1
  refine T1.out.mono ?_
  rintro e w4 ⟨rfl, hb4⟩
  have hbel4 : Below w.heap.size w w4 := (hb3.alloc hs3 _).trans (hb4.mono (by simp; omega))
  have G4 := Lib.hid ((Blk.new w3 37 #[.slice A3 x4 c3, .int .i64 (n : Int), .int .i64 0]).below hb4 (by simp))
  have R4 := Lib.hid ((HR3.out.alloc (Nat.le_refl _) _).below (hb4.mono (by simp)))
  have q0 := G4.out.cell 0
  have q1 := G4.out.cell 1
  have q2 := G4.out.cell 2
  have q3 := G4.out.frozen 0
  have q4 := G4.out.frozen 1
  have q5 := G4.out.frozen 2
  simp only [List.getElem?_toArray, List.getElem?_cons_zero, List.getElem?_cons_succ] at q0 q1 q2
  have hs4 := hbel4.size
  have hg4 := G4.out.lt
  clear T1 hb4
  go_wp2_with fail
  -- TakeText
  have G5 : Hid (Blk (((w4.setCell ⟨w3.heap.size, 0, none⟩ (.slice A3 x4 c3)).setCell ⟨w3.heap.size, 1, none⟩ (.int .i64 (x2 : Int))).setCell ⟨w3.heap.size, 2, none⟩ (.int .i64 0)) w3.heap.size 37 #[.slice A3 x4 c3, .int .i64 (x2 : Int), .int .i64 0]) := Lib.hid (((G4.out.set_ 0 (.slice A3 x4 c3)).set_ 1 (.int .i64 (x2 : Int))).set_ 2 (.int .i64 0))
  have R5 := Lib.hid (R4.out.far3 (Nat.le_refl _) (.slice A3 x4 c3) (.int .i64 (x2 : Int)) (.int .i64 0))
  have hbel5 := below_set3 hbel4 hs3 (.slice A3 x4 c3) (.int .i64 (x2 : Int)) (.int .i64 0)
  have T2 := Lib.hid (tText_any _ w3.heap.size A3 x4 c3 L x2 0 300 R5.out (by simp; omega) (by omega) hc3 (by omega) hcm3)
  rw [HE2.out] at T2
  clear q0 q1 q2 q3 q4 q5
  refine T2.out.mono ?_
  rintro e w5 ⟨rfl, hb5⟩
  have hbel6 : Below w.heap.size w w5 := hbel5.trans (hb5.mono (by simp; omega))
  have G6 := Lib.hid (G5.out.below hb5 G5.out.lt)
  have R6 := Lib.hid (R5.out.below (hb5.mono (by simp; omega)))
  have q0 := G6.out.cell 0
  have q1 := G6.out.cell 1
  have q2 := G6.out.cell 2
  have q3 := G6.out.frozen 0
  have q4 := G6.out.frozen 1
  have q5 := G6.out.frozen 2
  simp only [List.getElem?_toArray, List.getElem?_cons_zero, List.getElem?_cons_succ] at q0 q1 q2
  have hs5 := hbel6.size
  have hg6 := G6.out.lt
  clear T2 hb5 G4 R4 hbel4 hbel5
  go_wp2_with fail
  -- TakeInts
  have G7 : Hid (Blk (((w5.setCell ⟨w3.heap.size, 0, none⟩ (.slice A3 x4 c3)).setCell ⟨w3.heap.size, 1, none⟩ (.int .i64 (x3 : Int))).setCell ⟨w3.heap.size, 2, none⟩ (.int .i64 0)) w3.heap.size 37 #[.slice A3 x4 c3, .int .i64 (x3 : Int), .int .i64 0]) := Lib.hid (((G6.out.set_ 0 (.slice A3 x4 c3)).set_ 1 (.int .i64 (x3 : Int))).set_ 2 (.int .i64 0))
  have R7 := Lib.hid (R6.out.far3 (Nat.le_refl _) (.slice A3 x4 c3) (.int .i64 (x3 : Int)) (.int .i64 0))
  have hbel7 := below_set3 hbel6 hs3 (.slice A3 x4 c3) (.int .i64 (x3 : Int)) (.int .i64 0)
  have T3 := Lib.hid (tInts_any _ w3.heap.size A3 x4 c3 L x3 0 300 R7.out (by simp; omega) (by omega) hc3 (by omega) hcm3)
  rw [HE3.out] at T3
  clear q0 q1 q2 q3 q4 q5
  refine T3.out.mono ?_
  rintro e w6 ⟨A6, n6, c6, rfl, hI6, hb6, had6⟩
  have hbel8 : Below w.heap.size w w6 := hbel7.trans (hb6.mono (by simp; omega))
  have G8 := Lib.hid (G7.out.below hb6 G7.out.lt)
  have q0 := G8.out.cell 0
  have q1 := G8.out.cell 1
  have q2 := G8.out.cell 2
  have q3 := G8.out.frozen 0
  have q4 := G8.out.frozen 1
  have q5 := G8.out.frozen 2
  simp only [List.getElem?_toArray, List.getElem?_cons_zero, List.getElem?_cons_succ] at q0 q1 q2
  have hn6 : n6 = m := by have := hI6.1; rw [wsOf_length] at this; exact this.symm
  subst hn6
  have hs6 := hbel8.size
  have hg8 := G8.out.lt
  have hbel9 := below_set3 hbel8 hs3 (.slice A3 x4 c3) (.int .i64 (x4 : Int)) (.int .i64 0)
  have HI6 := Lib.hid (hI6.far3 (g := w3.heap.size) (fun ad h => by have h1 := had6 ad h; have h2 := G7.out.lt; omega) (.slice A3 x4 c3) (.int .i64 (x4 : Int)) (.int .i64 0))
  clear had6
  clear T3 hb6 hI6 hbel6 hbel7 R6 R7 R5
  go_wp2_with fail
  have T4 := Lib.hid (fun W : World => end_any W A3 x4 c3 x4 0)
  rw [HE4.out] at T4
  refine (T4.out _).mono ?_
  rintro e w7 ⟨rfl, hb7⟩
  have hbel10 : Below w.heap.size w w7 := hbel9.trans (hb7.mono (by simp; omega))
  have K7 := Lib.hid (HI6.out.below (hb7.mono (by simp)))
  have L7 := Lib.hid (HI.out.below hbel10)
  have hs7 : w6.heap.size ≤ w7.heap.size := by have := hb7.size; simpa using this
  clear T4 hb7 hbel9 HI6 HI q0 q1 q2 q3 q4 q5
  go_wp2_with fail
  go_loopw [14] (fun i wr => ∃ (j : Nat), j ≤ n6 ∧ i = .int .i64 j ∧ Below w7.heap.size w7 wr) (fun i _ => n6 - (intOf i).toNat)
  case atStart => exact ⟨0, Nat.zero_le _, rfl, Below.refl _ _⟩
  case round =>
    obtain ⟨j, hj, rfl, hbel⟩ := hrel
    have hbs := hbel.size
    by_cases hlt : j < n6
    · obtain ⟨ad6, rfl, hab6, hc6⟩ := K7.out.2.1 (by omega)
      obtain ⟨ad, rfl, hab, hcl⟩ := L7.out.2.1 (by omega)
      have hk := (hbel.cell (p := ad6.add j) (by rw [blk_add]; omega)).trans (hc6 j (by rw [wsOf_length]; exact hlt))
      have hl := (hbel.cell (p := ad.add j) (by rw [blk_add]; have := hbel10.size; omega)).trans (hcl j (by rw [L7.out.1]; exact hlt))
      have e : (wsOf (wl zs) n6).getD j 0 = w16 (zs.getD j 0) := by
        have := wsOf_wl zs j (by rw [HZL.out]; exact hlt)
        rw [HZL.out] at this
        exact this
      rw [e] at hk
      obtain ⟨z0, z1⟩ := L7.out.2.2 j
      obtain ⟨z, hz⟩ : ∃ z, z = zs.getD j 0 := ⟨_, rfl⟩
      rw [← hz] at hk hl z0 z1
      clear e hcl hc6 hz
      have hq : ∀ W : World, Calls Try.prog 42 #[.int .i64 z] W fun e w' => e = .returned (.int .i64 (w16 z)) ∧ w' = W := fun W => (rWrap_any W z z0 z1).mono fun _ _ ⟨he, hw⟩ => ⟨he, hw.symm⟩
      have HQ := Lib.hid hq
      clear hq
      go_wp2_with fail
      go_quiet ((go_at_call 42; exact Calls.quiet_of_same (HQ.out _)))
      go_wp2_with fail
      go_roundw
      case rel => exact ⟨j + 1, by omega, by go_num, ⟨hbel.os, hbel.tape, hbel.output, hbel.size, hbel.block⟩⟩
      case measure => simp [intOf]; omega
    · go_wp2_with fail
      refine (awake_any _).mono ?_
      rintro e w9 ⟨rfl, hb9⟩
      go_wp2_with fail
      go_ret
      exact ⟨rfl, (hbel10.trans (hbel.mono hbel10.size)).trans (hb9.mono (by have := hbel10.size; omega))⟩

set_option maxRecDepth 100000 in
set_option maxHeartbeats 4000000 in
theorem back_long (A A' : Option Addr) (n c m c' : Nat) (x : Int) (s : ByteArray) (w : World) (hs0 : (s.size : Int) ≤ 9223372036854775807) (hx : ¬ ((n : Int) ≤ 300 ∧ (s.size : Int) ≤ 300 ∧ (m : Int) ≤ 300 ∧ 0 ≤ x ∧ x ≤ 2147483647)) :
    Calls Try.prog 7 #[.slice A n c, .int .i64 x, .string s, .slice A' m c'] w fun e w' => e = .returned (.bool true) ∧ Below w.heap.size w w' := by
  by_cases h1 : (n : Int) ≤ 300
  · by_cases h2 : (s.size : Int) ≤ 300
    · by_cases h3 : (m : Int) ≤ 300
      · by_cases h4 : 0 ≤ x
        · have h5 : ¬ x ≤ 2147483647 := fun h5 => hx ⟨h1, h2, h3, h4, h5⟩
          clear hx
          go_enter Try.func7, Try.ntmps7
          go_wp2_with fail
          refine (awake_any _).mono ?_
          rintro e w0 ⟨rfl, hc⟩
          go_wp2_with fail
          go_ret
          exact ⟨rfl, hc⟩
        · clear hx
          go_enter Try.func7, Try.ntmps7
          go_wp2_with fail
          refine (awake_any _).mono ?_
          rintro e w0 ⟨rfl, hc⟩
          go_wp2_with fail
          go_ret
          exact ⟨rfl, hc⟩
      · clear hx
        go_enter Try.func7, Try.ntmps7
        go_wp2_with fail
        refine (awake_any _).mono ?_
        rintro e w0 ⟨rfl, hc⟩
        go_wp2_with fail
        go_ret
        exact ⟨rfl, hc⟩
    · clear hx
      go_enter Try.func7, Try.ntmps7
      go_wp2_with fail
      refine (awake_any _).mono ?_
      rintro e w0 ⟨rfl, hc⟩
      go_wp2_with fail
      go_ret
      exact ⟨rfl, hc⟩
  · clear hx
    go_enter Try.func7, Try.ntmps7
    go_wp2_with fail
    refine (awake_any _).mono ?_
    rintro e w0 ⟨rfl, hc⟩
    go_wp2_with fail
    go_ret
    exact ⟨rfl, hc⟩

end Go.Proofs.Ytacklmfplpgkdaa
