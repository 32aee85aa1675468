/- Contract of the reference's all: what a source declares. -/
import Derived.Test.YtgeglhgkibcpfaaDoorNamB
import Derived.Test.YtgeglhgkibcpfaaDoorSrc
namespace Go.Proofs.YtgeglhgkibcpfaaDoor
open Go.RowKit
set_option linter.unusedVariables false

theorem Tryd.inf_en : (Tryd.prog.info? 84).map (fun i => (i.zero, i.size, i.bytes)) = some (some (.agg #[.string ⟨#[]⟩, .int .i64 0, .int .i64 0, .int .i64 0, .int .i64 0, .int .i64 0]), 6, 56) := by kernel_rfl

set_option maxRecDepth 100000 in
set_option maxHeartbeats 12800000 in
theorem r15all_any (X : Src) (w : World) (d : Dl) (h : X.Nam w w.heap.size d) (hn : cntD d ≤ 100000) :
    Calls Tryd.prog 31 #[srcV X] w fun e w' => ∃ A n c, e = .returned (.slice A n c) ∧ w'.ownsRow w.heap.size 84 6 (.slice A n c) n (env (allE d)) ∧ Below w.heap.size w w' := by
  have hcnt := h.cnt
  obtain ⟨s0, s1, s2, r, m, A0, n0, c0, A1, n1, c1, A2, n2, c2, A3, n3, c3, A4, n4, c4, A5, n5, c5, A6, n6, c6, A7, n7, c7⟩ := X
  simp only at hcnt
  have hsum : n0 + n1 + n2 + n3 + n4 + n6 + n7 ≤ 100000 := by omega
  have H := Lib.hid h
  clear h hcnt hn
  obtain ⟨i0, hi, hz0, hsz, hby⟩ := inf_parts Tryd.inf_en
  have HI := Lib.hid hi
  have HZ0 := Lib.hid hz0
  have HSZ := Lib.hid hsz
  have HBY := Lib.hid hby
  clear hi hz0 hsz hby
  show Calls Tryd.prog _ #[.agg #[.string s0, .string s1, .string s2, .int .i64 r, .int .i64 m, .slice A0 n0 c0, .slice A1 n1 c1, .slice A2 n2 c2, .slice A3 n3 c3, .slice A4 n4 c4, .slice A5 n5 c5, .slice A6 n6 c6, .slice A7 n7 c7]] w _
  obtain ⟨W, hW⟩ : ∃ W, W = w.alloc (.cells #[.string s0, .string s1, .string s2, .int .i64 r, .int .i64 m, .slice A0 n0 c0, .slice A1 n1 c1, .slice A2 n2 c2, .slice A3 n3 c3, .slice A4 n4 c4, .slice A5 n5 c5, .slice A6 n6 c6, .slice A7 n7 c7] 39) := ⟨_, rfl⟩
  have HBW : Hid (Below w.heap.size w W) := Lib.hid (by rw [hW]; exact (Below.refl _ _).alloc (Nat.le_refl _) _)
  have HKW : Hid (Blk W w.heap.size 39 #[.string s0, .string s1, .string s2, .int .i64 r, .int .i64 m, .slice A0 n0 c0, .slice A1 n1 c1, .slice A2 n2 c2, .slice A3 n3 c3, .slice A4 n4 c4, .slice A5 n5 c5, .slice A6 n6 c6, .slice A7 n7 c7]) := Lib.hid (by rw [hW]; exact Blk.new _ _ _)
  have HE : Hid (allE d = (((((((([] : List En) ++ entF 1 2 4 12 0 d.fl) ++ entF 2 3 0 16 0 d.pr) ++ entF 3 4 0 64 0 d.gl) ++ entF 4 5 2 126 0 d.ob) ++ entF 5 6 0 64 0 d.ve) ++ entF 6 8 0 64 0 d.fu) ++ entF 7 9 0 16 0 d.da)) := Lib.hid (by unfold allE; simp only [List.append_assoc, List.nil_append])
  go_enter Tryd.func31, Tryd.ntmps31
  go_wp2_with fail
  rw [← hW]
  clear hW
  go_loopw [3, 4] (fun vo vi wr => ∃ (j k c : Nat) (A : Option Addr), j ≤ n0 ∧ vo = .slice A k c ∧ vi = .int .i64 j ∧ Hid (k = 0 + j) ∧ Hid (wr.ownsRow W.heap.size 84 6 (.slice A k c) k (env (([] : List En) ++ entF 1 2 4 12 0 (d.fl.take j)))) ∧ Hid (Below W.heap.size W wr)) (fun _ vi _ => n0 - (intOf vi).toNat)
  case atStart => exact ⟨0, 0, 0, none, Nat.zero_le _, rfl, rfl, Lib.hid rfl, Lib.hid (own_nilV _ _ _ _), Lib.hid (Below.refl _ _)⟩
  case round =>
    obtain ⟨j0, k0, d0, B0, hj0, rfl, rfl, HQ0, HO0, HB0⟩ := hrel
    have hk0 : k0 ≤ 100000 := by have := HQ0.out; omega
    have HK0 := Lib.hid (HKW.out.below HB0.out HKW.out.lt)
    have fld0 : wr.cell? ⟨w.heap.size, 5, none⟩ = some (.slice A0 n0 c0) := HK0.out.cell 5
    by_cases hlt0 : j0 < n0
    · have HR := Lib.hid ((H.out.below (HBW.out.trans (HB0.out.mono HBW.out.size))).fl)
      obtain ⟨ad, rfl, _, a0⟩ := xname HR.out hlt0
      obtain ⟨x, hx⟩ : ∃ t, t = d.fl[j0]?.getD [] := ⟨_, rfl⟩
      change wr.cell? (ad.add (j0 * 1)) = _ at a0
      rw [Nat.mul_one] at a0
      rw [← hx] at a0
      have HN : Hid (([] : List En) ++ entF 1 2 4 12 0 (d.fl.take (j0 + 1)) = (([] : List En) ++ entF 1 2 4 12 0 (d.fl.take j0)) ++ [⟨x, 1, 2, j0, (j0 : Int) + 4, 12⟩]) := Lib.hid (by rw [entF_next (by have he : d.fl.length = n0 := HR.out.1; omega), ← List.append_assoc, ← hx])
      clear hx
      go_wp2_with (at_builtin; refine wpList_appV _ rfl _ _ 81 rfl W.heap.size 84 i0 _ 6 56 Tryd.underlying81 HI.out HZ0.out rfl HSZ.out HBY.out (by omega) _ k0 _ rfl (HO0.out.alloc _) _ _ 1 _ (enc ⟨x, 1, 2, j0, (j0 : Int) + 4, 12⟩) rfl (RdV.one (Blk.new wr 84 (enc ⟨x, 1, 2, j0, (j0 : Int) + 4, 12⟩).toArray) rfl) (enc_one _) (by omega) (by omega) (HB0.out.alloc HB0.out.size _).size ?_; intro A9 c9 w9 hown9 hg9; have HO9 := Lib.hid hown9; have HB9 := Lib.hid ((HB0.out.alloc HB0.out.size _).grown hg9 (HB0.out.alloc HB0.out.size _).size (own_from HO0.out)); clear hown9 hg9)
      go_roundw
      case rel => exact ⟨j0 + 1, k0 + 1, c9, A9, by omega, rfl, by go_num, Lib.hid (by have := HQ0.out; omega), Lib.hid (by rw [HN.out, env_app, env_cons, show env [] = [] from rfl, List.append_nil]; exact HO9.out), HB9⟩
      case measure => simp [intOf]; omega
    · obtain rfl : n0 = j0 := by omega
      have HT0 : Hid (wr.ownsRow W.heap.size 84 6 (.slice B0 k0 d0) k0 (env (([] : List En) ++ entF 1 2 4 12 0 d.fl))) := Lib.hid (by have := HO0.out; rw [List.take_of_length_le (by have he : d.fl.length = _ := (H.out.fl).1; rw [he]; exact Nat.le_refl _)] at this; exact this)
      have HW0 := HB0
      go_wp2_with fail
      go_loopw [3, 5] (fun vo vi wr => ∃ (j k c : Nat) (A : Option Addr), j ≤ n1 ∧ vo = .slice A k c ∧ vi = .int .i64 j ∧ Hid (k = n0 + j) ∧ Hid (wr.ownsRow W.heap.size 84 6 (.slice A k c) k (env ((([] : List En) ++ entF 1 2 4 12 0 d.fl) ++ entF 2 3 0 16 0 (d.pr.take j)))) ∧ Hid (Below W.heap.size W wr)) (fun _ vi _ => n1 - (intOf vi).toNat)
      case atStart => exact ⟨0, k0, d0, B0, Nat.zero_le _, rfl, rfl, Lib.hid (by have := HQ0.out; omega), Lib.hid (by rw [List.take_zero, show entF 2 3 0 16 0 [] = [] from rfl, List.append_nil]; exact HT0.out), HW0⟩
      case round =>
        obtain ⟨j1, k1, d1, B1, hj1, rfl, rfl, HQ1, HO1, HB1⟩ := hrel
        have hk1 : k1 ≤ 100000 := by have := HQ1.out; omega
        have HK1 := Lib.hid (HKW.out.below HB1.out HKW.out.lt)
        have fld1 : wr.cell? ⟨w.heap.size, 6, none⟩ = some (.slice A1 n1 c1) := HK1.out.cell 6
        by_cases hlt1 : j1 < n1
        · have HR := Lib.hid ((H.out.below (HBW.out.trans (HB1.out.mono HBW.out.size))).pr)
          obtain ⟨ad, rfl, _, a0⟩ := xname HR.out hlt1
          obtain ⟨x, hx⟩ : ∃ t, t = d.pr[j1]?.getD [] := ⟨_, rfl⟩
          change wr.cell? (ad.add (j1 * 2)) = _ at a0
          rw [← hx] at a0
          have HN : Hid ((([] : List En) ++ entF 1 2 4 12 0 d.fl) ++ entF 2 3 0 16 0 (d.pr.take (j1 + 1)) = ((([] : List En) ++ entF 1 2 4 12 0 d.fl) ++ entF 2 3 0 16 0 (d.pr.take j1)) ++ [⟨x, 2, 3, j1, (j1 : Int), 16⟩]) := Lib.hid (by rw [entF_next (by have he : d.pr.length = n1 := HR.out.1; omega), ← List.append_assoc, ← hx, Int.add_zero])
          clear hx
          go_wp2_with (at_builtin; refine wpList_appV _ rfl _ _ 81 rfl W.heap.size 84 i0 _ 6 56 Tryd.underlying81 HI.out HZ0.out rfl HSZ.out HBY.out (by omega) _ k1 _ rfl (HO1.out.alloc _) _ _ 1 _ (enc ⟨x, 2, 3, j1, (j1 : Int), 16⟩) rfl (RdV.one (Blk.new wr 84 (enc ⟨x, 2, 3, j1, (j1 : Int), 16⟩).toArray) rfl) (enc_one _) (by omega) (by omega) (HB1.out.alloc HB1.out.size _).size ?_; intro A9 c9 w9 hown9 hg9; have HO9 := Lib.hid hown9; have HB9 := Lib.hid ((HB1.out.alloc HB1.out.size _).grown hg9 (HB1.out.alloc HB1.out.size _).size (own_from HO1.out)); clear hown9 hg9)
          go_roundw
          case rel => exact ⟨j1 + 1, k1 + 1, c9, A9, by omega, rfl, by go_num, Lib.hid (by have := HQ1.out; omega), Lib.hid (by rw [HN.out, env_app, env_cons, show env [] = [] from rfl, List.append_nil]; exact HO9.out), HB9⟩
          case measure => simp [intOf]; omega
        · obtain rfl : n1 = j1 := by omega
          have HT1 : Hid (wr.ownsRow W.heap.size 84 6 (.slice B1 k1 d1) k1 (env ((([] : List En) ++ entF 1 2 4 12 0 d.fl) ++ entF 2 3 0 16 0 d.pr))) := Lib.hid (by have := HO1.out; rw [List.take_of_length_le (by have he : d.pr.length = _ := (H.out.pr).1; rw [he]; exact Nat.le_refl _)] at this; exact this)
          have HW1 := HB1
          go_wp2_with fail
          go_loopw [3, 6] (fun vo vi wr => ∃ (j k c : Nat) (A : Option Addr), j ≤ n2 ∧ vo = .slice A k c ∧ vi = .int .i64 j ∧ Hid (k = n0 + n1 + j) ∧ Hid (wr.ownsRow W.heap.size 84 6 (.slice A k c) k (env (((([] : List En) ++ entF 1 2 4 12 0 d.fl) ++ entF 2 3 0 16 0 d.pr) ++ entF 3 4 0 64 0 (d.gl.take j)))) ∧ Hid (Below W.heap.size W wr)) (fun _ vi _ => n2 - (intOf vi).toNat)
          case atStart => exact ⟨0, k1, d1, B1, Nat.zero_le _, rfl, rfl, Lib.hid (by have := HQ1.out; omega), Lib.hid (by rw [List.take_zero, show entF 3 4 0 64 0 [] = [] from rfl, List.append_nil]; exact HT1.out), HW1⟩
          case round =>
            obtain ⟨j2, k2, d2, B2, hj2, rfl, rfl, HQ2, HO2, HB2⟩ := hrel
            have hk2 : k2 ≤ 100000 := by have := HQ2.out; omega
            have HK2 := Lib.hid (HKW.out.below HB2.out HKW.out.lt)
            have fld2 : wr.cell? ⟨w.heap.size, 7, none⟩ = some (.slice A2 n2 c2) := HK2.out.cell 7
            by_cases hlt2 : j2 < n2
            · have HR := Lib.hid ((H.out.below (HBW.out.trans (HB2.out.mono HBW.out.size))).gl)
              obtain ⟨ad, rfl, _, a0⟩ := xname HR.out hlt2
              obtain ⟨x, hx⟩ : ∃ t, t = d.gl[j2]?.getD [] := ⟨_, rfl⟩
              change wr.cell? (ad.add (j2 * 2)) = _ at a0
              rw [← hx] at a0
              have HN : Hid (((([] : List En) ++ entF 1 2 4 12 0 d.fl) ++ entF 2 3 0 16 0 d.pr) ++ entF 3 4 0 64 0 (d.gl.take (j2 + 1)) = (((([] : List En) ++ entF 1 2 4 12 0 d.fl) ++ entF 2 3 0 16 0 d.pr) ++ entF 3 4 0 64 0 (d.gl.take j2)) ++ [⟨x, 3, 4, j2, (j2 : Int), 64⟩]) := Lib.hid (by rw [entF_next (by have he : d.gl.length = n2 := HR.out.1; omega), ← List.append_assoc, ← hx, Int.add_zero])
              clear hx
              go_wp2_with (at_builtin; refine wpList_appV _ rfl _ _ 81 rfl W.heap.size 84 i0 _ 6 56 Tryd.underlying81 HI.out HZ0.out rfl HSZ.out HBY.out (by omega) _ k2 _ rfl (HO2.out.alloc _) _ _ 1 _ (enc ⟨x, 3, 4, j2, (j2 : Int), 64⟩) rfl (RdV.one (Blk.new wr 84 (enc ⟨x, 3, 4, j2, (j2 : Int), 64⟩).toArray) rfl) (enc_one _) (by omega) (by omega) (HB2.out.alloc HB2.out.size _).size ?_; intro A9 c9 w9 hown9 hg9; have HO9 := Lib.hid hown9; have HB9 := Lib.hid ((HB2.out.alloc HB2.out.size _).grown hg9 (HB2.out.alloc HB2.out.size _).size (own_from HO2.out)); clear hown9 hg9)
              go_roundw
              case rel => exact ⟨j2 + 1, k2 + 1, c9, A9, by omega, rfl, by go_num, Lib.hid (by have := HQ2.out; omega), Lib.hid (by rw [HN.out, env_app, env_cons, show env [] = [] from rfl, List.append_nil]; exact HO9.out), HB9⟩
              case measure => simp [intOf]; omega
            · obtain rfl : n2 = j2 := by omega
              have HT2 : Hid (wr.ownsRow W.heap.size 84 6 (.slice B2 k2 d2) k2 (env (((([] : List En) ++ entF 1 2 4 12 0 d.fl) ++ entF 2 3 0 16 0 d.pr) ++ entF 3 4 0 64 0 d.gl))) := Lib.hid (by have := HO2.out; rw [List.take_of_length_le (by have he : d.gl.length = _ := (H.out.gl).1; rw [he]; exact Nat.le_refl _)] at this; exact this)
              have HW2 := HB2
              go_wp2_with fail
              go_loopw [3, 7] (fun vo vi wr => ∃ (j k c : Nat) (A : Option Addr), j ≤ n3 ∧ vo = .slice A k c ∧ vi = .int .i64 j ∧ Hid (k = n0 + n1 + n2 + j) ∧ Hid (wr.ownsRow W.heap.size 84 6 (.slice A k c) k (env ((((([] : List En) ++ entF 1 2 4 12 0 d.fl) ++ entF 2 3 0 16 0 d.pr) ++ entF 3 4 0 64 0 d.gl) ++ entF 4 5 2 126 0 (d.ob.take j)))) ∧ Hid (Below W.heap.size W wr)) (fun _ vi _ => n3 - (intOf vi).toNat)
              case atStart => exact ⟨0, k2, d2, B2, Nat.zero_le _, rfl, rfl, Lib.hid (by have := HQ2.out; omega), Lib.hid (by rw [List.take_zero, show entF 4 5 2 126 0 [] = [] from rfl, List.append_nil]; exact HT2.out), HW2⟩
              case round =>
                obtain ⟨j3, k3, d3, B3, hj3, rfl, rfl, HQ3, HO3, HB3⟩ := hrel
                have hk3 : k3 ≤ 100000 := by have := HQ3.out; omega
                have HK3 := Lib.hid (HKW.out.below HB3.out HKW.out.lt)
                have fld3 : wr.cell? ⟨w.heap.size, 8, none⟩ = some (.slice A3 n3 c3) := HK3.out.cell 8
                by_cases hlt3 : j3 < n3
                · have HR := Lib.hid ((H.out.below (HBW.out.trans (HB3.out.mono HBW.out.size))).ob)
                  obtain ⟨ad, rfl, _, a0⟩ := xname HR.out hlt3
                  obtain ⟨x, hx⟩ : ∃ t, t = d.ob[j3]?.getD [] := ⟨_, rfl⟩
                  change wr.cell? (ad.add (j3 * 10)) = _ at a0
                  rw [← hx] at a0
                  have HN : Hid ((((([] : List En) ++ entF 1 2 4 12 0 d.fl) ++ entF 2 3 0 16 0 d.pr) ++ entF 3 4 0 64 0 d.gl) ++ entF 4 5 2 126 0 (d.ob.take (j3 + 1)) = ((((([] : List En) ++ entF 1 2 4 12 0 d.fl) ++ entF 2 3 0 16 0 d.pr) ++ entF 3 4 0 64 0 d.gl) ++ entF 4 5 2 126 0 (d.ob.take j3)) ++ [⟨x, 4, 5, j3, (j3 : Int) + 2, 126⟩]) := Lib.hid (by rw [entF_next (by have he : d.ob.length = n3 := HR.out.1; omega), ← List.append_assoc, ← hx])
                  clear hx
                  go_wp2_with (at_builtin; refine wpList_appV _ rfl _ _ 81 rfl W.heap.size 84 i0 _ 6 56 Tryd.underlying81 HI.out HZ0.out rfl HSZ.out HBY.out (by omega) _ k3 _ rfl (HO3.out.alloc _) _ _ 1 _ (enc ⟨x, 4, 5, j3, (j3 : Int) + 2, 126⟩) rfl (RdV.one (Blk.new wr 84 (enc ⟨x, 4, 5, j3, (j3 : Int) + 2, 126⟩).toArray) rfl) (enc_one _) (by omega) (by omega) (HB3.out.alloc HB3.out.size _).size ?_; intro A9 c9 w9 hown9 hg9; have HO9 := Lib.hid hown9; have HB9 := Lib.hid ((HB3.out.alloc HB3.out.size _).grown hg9 (HB3.out.alloc HB3.out.size _).size (own_from HO3.out)); clear hown9 hg9)
                  go_roundw
                  case rel => exact ⟨j3 + 1, k3 + 1, c9, A9, by omega, rfl, by go_num, Lib.hid (by have := HQ3.out; omega), Lib.hid (by rw [HN.out, env_app, env_cons, show env [] = [] from rfl, List.append_nil]; exact HO9.out), HB9⟩
                  case measure => simp [intOf]; omega
                · obtain rfl : n3 = j3 := by omega
                  have HT3 : Hid (wr.ownsRow W.heap.size 84 6 (.slice B3 k3 d3) k3 (env ((((([] : List En) ++ entF 1 2 4 12 0 d.fl) ++ entF 2 3 0 16 0 d.pr) ++ entF 3 4 0 64 0 d.gl) ++ entF 4 5 2 126 0 d.ob))) := Lib.hid (by have := HO3.out; rw [List.take_of_length_le (by have he : d.ob.length = _ := (H.out.ob).1; rw [he]; exact Nat.le_refl _)] at this; exact this)
                  have HW3 := HB3
                  go_wp2_with fail
                  go_loopw [3, 8] (fun vo vi wr => ∃ (j k c : Nat) (A : Option Addr), j ≤ n4 ∧ vo = .slice A k c ∧ vi = .int .i64 j ∧ Hid (k = n0 + n1 + n2 + n3 + j) ∧ Hid (wr.ownsRow W.heap.size 84 6 (.slice A k c) k (env (((((([] : List En) ++ entF 1 2 4 12 0 d.fl) ++ entF 2 3 0 16 0 d.pr) ++ entF 3 4 0 64 0 d.gl) ++ entF 4 5 2 126 0 d.ob) ++ entF 5 6 0 64 0 (d.ve.take j)))) ∧ Hid (Below W.heap.size W wr)) (fun _ vi _ => n4 - (intOf vi).toNat)
                  case atStart => exact ⟨0, k3, d3, B3, Nat.zero_le _, rfl, rfl, Lib.hid (by have := HQ3.out; omega), Lib.hid (by rw [List.take_zero, show entF 5 6 0 64 0 [] = [] from rfl, List.append_nil]; exact HT3.out), HW3⟩
                  case round =>
                    obtain ⟨j4, k4, d4, B4, hj4, rfl, rfl, HQ4, HO4, HB4⟩ := hrel
                    have hk4 : k4 ≤ 100000 := by have := HQ4.out; omega
                    have HK4 := Lib.hid (HKW.out.below HB4.out HKW.out.lt)
                    have fld4 : wr.cell? ⟨w.heap.size, 9, none⟩ = some (.slice A4 n4 c4) := HK4.out.cell 9
                    by_cases hlt4 : j4 < n4
                    · have HR := Lib.hid ((H.out.below (HBW.out.trans (HB4.out.mono HBW.out.size))).ve)
                      obtain ⟨ad, rfl, _, a0⟩ := xname HR.out hlt4
                      obtain ⟨x, hx⟩ : ∃ t, t = d.ve[j4]?.getD [] := ⟨_, rfl⟩
                      change wr.cell? (ad.add (j4 * 3)) = _ at a0
                      rw [← hx] at a0
                      have HN : Hid (((((([] : List En) ++ entF 1 2 4 12 0 d.fl) ++ entF 2 3 0 16 0 d.pr) ++ entF 3 4 0 64 0 d.gl) ++ entF 4 5 2 126 0 d.ob) ++ entF 5 6 0 64 0 (d.ve.take (j4 + 1)) = (((((([] : List En) ++ entF 1 2 4 12 0 d.fl) ++ entF 2 3 0 16 0 d.pr) ++ entF 3 4 0 64 0 d.gl) ++ entF 4 5 2 126 0 d.ob) ++ entF 5 6 0 64 0 (d.ve.take j4)) ++ [⟨x, 5, 6, j4, (j4 : Int), 64⟩]) := Lib.hid (by rw [entF_next (by have he : d.ve.length = n4 := HR.out.1; omega), ← List.append_assoc, ← hx, Int.add_zero])
                      clear hx
                      go_wp2_with (at_builtin; refine wpList_appV _ rfl _ _ 81 rfl W.heap.size 84 i0 _ 6 56 Tryd.underlying81 HI.out HZ0.out rfl HSZ.out HBY.out (by omega) _ k4 _ rfl (HO4.out.alloc _) _ _ 1 _ (enc ⟨x, 5, 6, j4, (j4 : Int), 64⟩) rfl (RdV.one (Blk.new wr 84 (enc ⟨x, 5, 6, j4, (j4 : Int), 64⟩).toArray) rfl) (enc_one _) (by omega) (by omega) (HB4.out.alloc HB4.out.size _).size ?_; intro A9 c9 w9 hown9 hg9; have HO9 := Lib.hid hown9; have HB9 := Lib.hid ((HB4.out.alloc HB4.out.size _).grown hg9 (HB4.out.alloc HB4.out.size _).size (own_from HO4.out)); clear hown9 hg9)
                      go_roundw
                      case rel => exact ⟨j4 + 1, k4 + 1, c9, A9, by omega, rfl, by go_num, Lib.hid (by have := HQ4.out; omega), Lib.hid (by rw [HN.out, env_app, env_cons, show env [] = [] from rfl, List.append_nil]; exact HO9.out), HB9⟩
                      case measure => simp [intOf]; omega
                    · obtain rfl : n4 = j4 := by omega
                      have HT4 : Hid (wr.ownsRow W.heap.size 84 6 (.slice B4 k4 d4) k4 (env (((((([] : List En) ++ entF 1 2 4 12 0 d.fl) ++ entF 2 3 0 16 0 d.pr) ++ entF 3 4 0 64 0 d.gl) ++ entF 4 5 2 126 0 d.ob) ++ entF 5 6 0 64 0 d.ve))) := Lib.hid (by have := HO4.out; rw [List.take_of_length_le (by have he : d.ve.length = _ := (H.out.ve).1; rw [he]; exact Nat.le_refl _)] at this; exact this)
                      have HW4 := HB4
                      go_wp2_with fail
                      go_loopw [3, 9] (fun vo vi wr => ∃ (j k c : Nat) (A : Option Addr), j ≤ n6 ∧ vo = .slice A k c ∧ vi = .int .i64 j ∧ Hid (k = n0 + n1 + n2 + n3 + n4 + j) ∧ Hid (wr.ownsRow W.heap.size 84 6 (.slice A k c) k (env ((((((([] : List En) ++ entF 1 2 4 12 0 d.fl) ++ entF 2 3 0 16 0 d.pr) ++ entF 3 4 0 64 0 d.gl) ++ entF 4 5 2 126 0 d.ob) ++ entF 5 6 0 64 0 d.ve) ++ entF 6 8 0 64 0 (d.fu.take j)))) ∧ Hid (Below W.heap.size W wr)) (fun _ vi _ => n6 - (intOf vi).toNat)
                      case atStart => exact ⟨0, k4, d4, B4, Nat.zero_le _, rfl, rfl, Lib.hid (by have := HQ4.out; omega), Lib.hid (by rw [List.take_zero, show entF 6 8 0 64 0 [] = [] from rfl, List.append_nil]; exact HT4.out), HW4⟩
                      case round =>
                        obtain ⟨j5, k5, d5, B5, hj5, rfl, rfl, HQ5, HO5, HB5⟩ := hrel
                        have hk5 : k5 ≤ 100000 := by have := HQ5.out; omega
                        have HK5 := Lib.hid (HKW.out.below HB5.out HKW.out.lt)
                        have fld5 : wr.cell? ⟨w.heap.size, 11, none⟩ = some (.slice A6 n6 c6) := HK5.out.cell 11
                        by_cases hlt5 : j5 < n6
                        · have HR := Lib.hid ((H.out.below (HBW.out.trans (HB5.out.mono HBW.out.size))).fu)
                          obtain ⟨ad, rfl, _, a0⟩ := xname HR.out hlt5
                          obtain ⟨x, hx⟩ : ∃ t, t = d.fu[j5]?.getD [] := ⟨_, rfl⟩
                          change wr.cell? (ad.add (j5 * 3)) = _ at a0
                          rw [← hx] at a0
                          have HN : Hid ((((((([] : List En) ++ entF 1 2 4 12 0 d.fl) ++ entF 2 3 0 16 0 d.pr) ++ entF 3 4 0 64 0 d.gl) ++ entF 4 5 2 126 0 d.ob) ++ entF 5 6 0 64 0 d.ve) ++ entF 6 8 0 64 0 (d.fu.take (j5 + 1)) = ((((((([] : List En) ++ entF 1 2 4 12 0 d.fl) ++ entF 2 3 0 16 0 d.pr) ++ entF 3 4 0 64 0 d.gl) ++ entF 4 5 2 126 0 d.ob) ++ entF 5 6 0 64 0 d.ve) ++ entF 6 8 0 64 0 (d.fu.take j5)) ++ [⟨x, 6, 8, j5, (j5 : Int), 64⟩]) := Lib.hid (by rw [entF_next (by have he : d.fu.length = n6 := HR.out.1; omega), ← List.append_assoc, ← hx, Int.add_zero])
                          clear hx
                          go_wp2_with (at_builtin; refine wpList_appV _ rfl _ _ 81 rfl W.heap.size 84 i0 _ 6 56 Tryd.underlying81 HI.out HZ0.out rfl HSZ.out HBY.out (by omega) _ k5 _ rfl (HO5.out.alloc _) _ _ 1 _ (enc ⟨x, 6, 8, j5, (j5 : Int), 64⟩) rfl (RdV.one (Blk.new wr 84 (enc ⟨x, 6, 8, j5, (j5 : Int), 64⟩).toArray) rfl) (enc_one _) (by omega) (by omega) (HB5.out.alloc HB5.out.size _).size ?_; intro A9 c9 w9 hown9 hg9; have HO9 := Lib.hid hown9; have HB9 := Lib.hid ((HB5.out.alloc HB5.out.size _).grown hg9 (HB5.out.alloc HB5.out.size _).size (own_from HO5.out)); clear hown9 hg9)
                          go_roundw
                          case rel => exact ⟨j5 + 1, k5 + 1, c9, A9, by omega, rfl, by go_num, Lib.hid (by have := HQ5.out; omega), Lib.hid (by rw [HN.out, env_app, env_cons, show env [] = [] from rfl, List.append_nil]; exact HO9.out), HB9⟩
                          case measure => simp [intOf]; omega
                        · obtain rfl : n6 = j5 := by omega
                          have HT5 : Hid (wr.ownsRow W.heap.size 84 6 (.slice B5 k5 d5) k5 (env ((((((([] : List En) ++ entF 1 2 4 12 0 d.fl) ++ entF 2 3 0 16 0 d.pr) ++ entF 3 4 0 64 0 d.gl) ++ entF 4 5 2 126 0 d.ob) ++ entF 5 6 0 64 0 d.ve) ++ entF 6 8 0 64 0 d.fu))) := Lib.hid (by have := HO5.out; rw [List.take_of_length_le (by have he : d.fu.length = _ := (H.out.fu).1; rw [he]; exact Nat.le_refl _)] at this; exact this)
                          have HW5 := HB5
                          go_wp2_with fail
                          go_loopw [3, 10] (fun vo vi wr => ∃ (j k c : Nat) (A : Option Addr), j ≤ n7 ∧ vo = .slice A k c ∧ vi = .int .i64 j ∧ Hid (k = n0 + n1 + n2 + n3 + n4 + n6 + j) ∧ Hid (wr.ownsRow W.heap.size 84 6 (.slice A k c) k (env (((((((([] : List En) ++ entF 1 2 4 12 0 d.fl) ++ entF 2 3 0 16 0 d.pr) ++ entF 3 4 0 64 0 d.gl) ++ entF 4 5 2 126 0 d.ob) ++ entF 5 6 0 64 0 d.ve) ++ entF 6 8 0 64 0 d.fu) ++ entF 7 9 0 16 0 (d.da.take j)))) ∧ Hid (Below W.heap.size W wr)) (fun _ vi _ => n7 - (intOf vi).toNat)
                          case atStart => exact ⟨0, k5, d5, B5, Nat.zero_le _, rfl, rfl, Lib.hid (by have := HQ5.out; omega), Lib.hid (by rw [List.take_zero, show entF 7 9 0 16 0 [] = [] from rfl, List.append_nil]; exact HT5.out), HW5⟩
                          case round =>
                            obtain ⟨j6, k6, d6, B6, hj6, rfl, rfl, HQ6, HO6, HB6⟩ := hrel
                            have hk6 : k6 ≤ 100000 := by have := HQ6.out; omega
                            have HK6 := Lib.hid (HKW.out.below HB6.out HKW.out.lt)
                            have fld6 : wr.cell? ⟨w.heap.size, 12, none⟩ = some (.slice A7 n7 c7) := HK6.out.cell 12
                            by_cases hlt6 : j6 < n7
                            · have HR := Lib.hid ((H.out.below (HBW.out.trans (HB6.out.mono HBW.out.size))).da)
                              obtain ⟨ad, rfl, _, a0⟩ := xname HR.out hlt6
                              obtain ⟨x, hx⟩ : ∃ t, t = d.da[j6]?.getD [] := ⟨_, rfl⟩
                              change wr.cell? (ad.add (j6 * 3)) = _ at a0
                              rw [← hx] at a0
                              have HN : Hid (((((((([] : List En) ++ entF 1 2 4 12 0 d.fl) ++ entF 2 3 0 16 0 d.pr) ++ entF 3 4 0 64 0 d.gl) ++ entF 4 5 2 126 0 d.ob) ++ entF 5 6 0 64 0 d.ve) ++ entF 6 8 0 64 0 d.fu) ++ entF 7 9 0 16 0 (d.da.take (j6 + 1)) = (((((((([] : List En) ++ entF 1 2 4 12 0 d.fl) ++ entF 2 3 0 16 0 d.pr) ++ entF 3 4 0 64 0 d.gl) ++ entF 4 5 2 126 0 d.ob) ++ entF 5 6 0 64 0 d.ve) ++ entF 6 8 0 64 0 d.fu) ++ entF 7 9 0 16 0 (d.da.take j6)) ++ [⟨x, 7, 9, j6, (j6 : Int), 16⟩]) := Lib.hid (by rw [entF_next (by have he : d.da.length = n7 := HR.out.1; omega), ← List.append_assoc, ← hx, Int.add_zero])
                              clear hx
                              go_wp2_with (at_builtin; refine wpList_appV _ rfl _ _ 81 rfl W.heap.size 84 i0 _ 6 56 Tryd.underlying81 HI.out HZ0.out rfl HSZ.out HBY.out (by omega) _ k6 _ rfl (HO6.out.alloc _) _ _ 1 _ (enc ⟨x, 7, 9, j6, (j6 : Int), 16⟩) rfl (RdV.one (Blk.new wr 84 (enc ⟨x, 7, 9, j6, (j6 : Int), 16⟩).toArray) rfl) (enc_one _) (by omega) (by omega) (HB6.out.alloc HB6.out.size _).size ?_; intro A9 c9 w9 hown9 hg9; have HO9 := Lib.hid hown9; have HB9 := Lib.hid ((HB6.out.alloc HB6.out.size _).grown hg9 (HB6.out.alloc HB6.out.size _).size (own_from HO6.out)); clear hown9 hg9)
                              go_roundw
                              case rel => exact ⟨j6 + 1, k6 + 1, c9, A9, by omega, rfl, by go_num, Lib.hid (by have := HQ6.out; omega), Lib.hid (by rw [HN.out, env_app, env_cons, show env [] = [] from rfl, List.append_nil]; exact HO9.out), HB9⟩
                              case measure => simp [intOf]; omega
                            · obtain rfl : n7 = j6 := by omega
                              have HT6 : Hid (wr.ownsRow W.heap.size 84 6 (.slice B6 k6 d6) k6 (env (((((((([] : List En) ++ entF 1 2 4 12 0 d.fl) ++ entF 2 3 0 16 0 d.pr) ++ entF 3 4 0 64 0 d.gl) ++ entF 4 5 2 126 0 d.ob) ++ entF 5 6 0 64 0 d.ve) ++ entF 6 8 0 64 0 d.fu) ++ entF 7 9 0 16 0 d.da))) := Lib.hid (by have := HO6.out; rw [List.take_of_length_le (by have he : d.da.length = _ := (H.out.da).1; rw [he]; exact Nat.le_refl _)] at this; exact this)
                              have HW6 := HB6
                              go_wp2_with fail
                              first | go_ret | (try simp only [Exit.inBlock, Exit.then]); refine bodyPost_ret (results_tmp rfl _ _ _) rfl ?_
                              refine ⟨_, _, _, rfl, ?_, HBW.out.trans (HW6.out.mono HBW.out.size)⟩
                              rw [HE.out]
                              exact own_base HT6.out HBW.out.size

end Go.Proofs.YtgeglhgkibcpfaaDoor
