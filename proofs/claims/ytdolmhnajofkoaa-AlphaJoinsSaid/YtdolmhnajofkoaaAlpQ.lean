/- Contract of alpha.Pack. -/
import Derived.Test.YtdolmhnajofkoaaAlpO
import Derived.Test.YtdolmhnajofkoaaEnt
namespace Go.Proofs.Ytdolmhnajofkoaa
open Go.RowKit

theorem and31 (z : Int) : bits .and .i64 z 31 = z % 32 := by
  have e1 : (BitVec.ofInt 64 z).toNat = (z % 18446744073709551616).toNat := BitVec.toNat_ofInt z
  have e2 : (BitVec.ofInt 64 (31 : Int)).toNat = 31 := by decide
  show IntKind.i64.wrap (((BitVec.ofInt 64 z &&& BitVec.ofInt 64 (31 : Int)).toNat : Nat) : Int) = _
  rw [BitVec.toNat_and, e1, e2, nat_mask5, wrap_i64_eq]
  unfold wrap64
  omega

theorem St.lens {U : List Nat} {P : List UInt8} {len : Nat} {p : Int} (h : St U P len p) : U.length = 8 * P.length + len := by
  obtain ⟨R, h1, h2, _⟩ := h
  rw [← h1, List.length_append, unb_len, h2]

theorem St.done {zs : List Int} {P : List UInt8} {k : Nat} {p : Int} (h : St (raw zs ++ List.replicate k 0) P 0 p) (hk : k < 8) : P = packL zs := by
  have hl := h.lens
  obtain ⟨R, h1, h2, _⟩ := h
  rw [List.eq_nil_of_length_eq_zero h2, List.append_nil] at h1
  apply unb_inj
  rw [h1, unb_packL]
  unfold pad
  rw [List.length_append, List.length_replicate] at hl
  rw [show (8 - (raw zs).length % 8) % 8 = k from by omega]

theorem flat_take {zs : List Int} {j : Nat} (hj : j < zs.length) : (zs.take (j + 1)).flatMap bits5 = (zs.take j).flatMap bits5 ++ bits5 (zs.getD j 0) := by
  rw [List.take_succ_eq_append_getElem hj, List.flatMap_append]
  simp [List.getD, hj]

theorem num2_zeros (k : Nat) : num2 (List.replicate k 0) = 0 := by
  induction k with
  | zero => rfl
  | succ k ih => rw [List.replicate_succ', num2_snoc, ih]

theorem isBits_zeros (k : Nat) : isBits (List.replicate k 0) := fun x hx => by
  have := List.eq_of_mem_replicate hx
  omega

theorem num5 (z : Int) : z % 32 = (num2 (bits5 z) : Nat) := by rw [num2_5]; omega

theorem Collected.after {w0 wr w' : World} {D B gp gl gs : Nat} {U : List Nat} (hb : Below D w0 wr) (h : Collected wr D B gp gl gs U w') : Collected w0 D B gp gl gs U w' := by
  obtain ⟨p, len, A, n, c, P, h1, h2, h3, h4⟩ := h
  exact ⟨p, len, A, n, c, P, h1, h2, h3, hb.trans h4⟩

set_option maxRecDepth 100000 in
set_option maxHeartbeats 6400000 in
theorem pack_any (w : World) (A : Option Addr) (n c : Nat) (zs : List Int) (h : RdI w w.heap.size A n zs) (hn : (n : Int) ≤ 100000) :
    Calls Try.prog 19 #[.slice A n c] w (OutO w.heap.size w (packL zs)) := by
  have hmf : ∀ (fn : Fn) (first cap : Array Value) (w : World), (Instr.makeFunc fn first cap).run Try.prog w = .ok (.func fn first cap) w := fun _ _ _ _ => rfl
  have hke : Enters 32 := ⟨_, Try.func32, by kernel_rfl, by kernel_rfl⟩
  have hk := hke.run
  clear hke
  have H := Lib.hid h
  have HL := Lib.hid h.1
  clear h
  obtain ⟨g, hg⟩ : ∃ g, g = w.heap.size := ⟨_, rfl⟩
  have b0 : Below g w (((w.alloc (.cells #[.slice none 0 0] 33)).alloc (.cells #[.int .i64 0] 3)).alloc (.cells #[.int .i64 0] 3)) := by
    subst hg
    exact (((Below.refl _ _).alloc (Nat.le_refl _) _).alloc (by simp) _).alloc (by simp; omega) _
  have p0 : Pk (((w.alloc (.cells #[.slice none 0 0] 33)).alloc (.cells #[.int .i64 0] 3)).alloc (.cells #[.int .i64 0] 3)) (g + 3) (g + 1) (g + 1 + 1) g 0 0 none 0 0 [] := by
    subst hg
    refine ⟨(Blk.new_at _ _ _ _ (by simp)).alloc _, Blk.new_at _ _ _ _ (by simp), ((Blk.new _ _ _).alloc _).alloc _, own_nil _ _ _, by omega, by omega, by omega, by omega, by omega, by omega, by simp⟩
  obtain ⟨W, hW⟩ : ∃ W, W = ((w.alloc (.cells #[.slice none 0 0] 33)).alloc (.cells #[.int .i64 0] 3)).alloc (.cells #[.int .i64 0] 3) := ⟨_, rfl⟩
  rw [← hW] at b0 p0
  have HB0 := Lib.hid b0
  have HP0 : Hid (Collected W g (g + 3) (g + 1) (g + 1 + 1) g [] W) := Lib.hid ⟨0, 0, none, 0, 0, [], p0, St.start, by omega, Below.refl _ _⟩
  have HD : Hid (g ≤ g + 1 ∧ g ≤ g + 1 + 1 ∧ g ≤ g ∧ g ≤ g + 3) := Lib.hid ⟨by omega, by omega, by omega, by omega⟩
  have HGW := Lib.hid hg
  clear b0 p0
  go_enter Try.func19, Try.ntmps19
  go_wp2_with fail
  rw [← hg, ← hW]
  have HW := Lib.hid hW
  clear hW hg
  go_loopw [12] (fun i wr => ∃ j : Nat, j ≤ n ∧ i = .int .i64 j ∧ Hid (Collected W g (g + 3) (g + 1) (g + 1 + 1) g ((zs.take j).flatMap bits5) wr)) (fun i _ => n - (intOf i).toNat)
  case atStart => exact ⟨0, Nat.zero_le _, rfl, HP0⟩
  case round =>
    obtain ⟨j, hj, rfl, HC⟩ := hrel
    by_cases hlt : j < n
    · obtain ⟨p, len, A1, n1, c1, P, hpk, hst, hlen, hbel⟩ := HC.out
      have HPK := Lib.hid hpk
      have HST := Lib.hid hst
      have HBE := Lib.hid hbel
      have hgw := HGW.out
      obtain ⟨ad, rfl, _, hc⟩ := (H.out.below (by rw [← hgw]; exact HB0.out.trans hbel)).2.1 (by omega)
      have k1 := hc j (by rw [HL.out]; exact hlt)
      have HF := Lib.hid (flat_take (zs := zs) (j := j) (by rw [HL.out]; exact hlt))
      have hul : ((zs.take j).flatMap bits5).length ≤ 700000 := by rw [flat5_len, List.length_take]; omega
      have HUL := Lib.hid hul
      obtain ⟨z, hz⟩ : ∃ z, z = zs.getD j 0 := ⟨_, rfl⟩
      rw [← hz] at k1 HF
      have hand := and31 z
      clear hc hpk hst hbel hz hul hgw
      go_wp2_with fail
      refine (collect_any wr g (g + 3) (g + 1) (g + 1 + 1) g p (z % 32) 5 len 5 A1 n1 c1 P _ (bits5 z) HPK.out HST.out hlen (by omega) rfl rfl (isBits_5 z) (num5 z) HD.out HUL.out).mono ?_
      rintro e w2 ⟨rfl, hC⟩
      have HC2 : Hid (Collected W g (g + 3) (g + 1) (g + 1 + 1) g ((zs.take (j + 1)).flatMap bits5) w2) := Lib.hid (by rw [HF.out]; exact hC.after HBE.out)
      clear hC hand k1
      go_wp2_with fail
      go_roundw
      case rel => exact ⟨j + 1, by omega, by go_num, HC2⟩
      case measure => simp [intOf]; omega
    · have hjn : zs.take j = zs := List.take_of_length_le (by rw [HL.out]; omega)
      have hC := HC.out
      rw [hjn] at hC
      obtain ⟨p, len, A1, n1, c1, P, hpk, hst, hlen, hbel⟩ := hC
      have HPK := Lib.hid hpk
      have HST := Lib.hid hst
      have HBE := Lib.hid hbel
      have hul : (zs.flatMap bits5).length ≤ 700000 := by rw [flat5_len, HL.out]; omega
      have HUL := Lib.hid hul
      clear hpk hst hbel hul hjn
      go_wp2_with fail
      refine (collect_any wr g (g + 3) (g + 1) (g + 1 + 1) g p 31 5 len 5 A1 n1 c1 P _ (bits5 31) HPK.out HST.out hlen (by omega) rfl rfl (isBits_5 31) (by decide) HD.out HUL.out).mono ?_
      rintro e w2 ⟨rfl, p2, len2, A2, n2, c2, P2, hpk, hst, hlen2, hbel⟩
      have HPK2 := Lib.hid hpk
      have HST2 : Hid (St (raw zs) P2 len2 p2) := Lib.hid hst
      have HBE2 := Lib.hid (HB0.out.trans (HBE.out.trans hbel))
      obtain ⟨d1, d2, d3⟩ := hpk.cells
      clear hpk hst hbel
      by_cases h0 : len2 = 0
      · subst h0
        go_wp2_with fail
        go_ret
        have hP : P2 = packL zs := St.done (k := 0) (by simpa using HST2.out) (by omega)
        have hb := HBE2.out
        have ho := HPK2.out.own
        rw [HGW.out] at hb ho
        rw [← hP]
        exact ⟨A2, n2, c2, rfl, own_base ho (by omega), hb⟩
      · have hl0 : (0 : Int) < (len2 : Int) := by omega
        have hUL2 : (raw zs).length ≤ 700000 := by rw [raw_len, HL.out]; omega
        have HUL2 := Lib.hid hUL2
        clear hUL2
        go_wp2_with fail
        refine (collect_any w2 g (g + 3) (g + 1) (g + 1 + 1) g p2 0 (8 - (len2 : Int)) len2 (8 - len2) A2 n2 c2 P2 _ (List.replicate (8 - len2) 0) HPK2.out HST2.out hlen2 (by omega) (by omega) (by simp) (isBits_zeros _) (by rw [num2_zeros]; rfl) HD.out HUL2.out).mono ?_
        rintro e w3 ⟨rfl, p3, len3, A3, n3, c3, P3, hpk, hst, hlen3, hbel⟩
        have h3 : len3 = 0 := by
          have h4 := hst.lens
          have h5 := HST2.out.lens
          rw [List.length_append, List.length_replicate] at h4
          omega
        subst h3
        have HP : Hid (P3 = packL zs) := Lib.hid (hst.done (by omega))
        have HPK3 := Lib.hid hpk
        have HBE3 := Lib.hid (HBE2.out.trans hbel)
        clear d1 d2 d3
        obtain ⟨d1, d2, d3⟩ := hpk.cells
        clear hpk hst hbel
        go_wp2_with fail
        go_ret
        have hb := HBE3.out
        have ho := HPK3.out.own
        rw [HGW.out] at hb ho
        rw [← HP.out]
        exact ⟨A3, n3, c3, rfl, own_base ho (by omega), hb⟩

end Go.Proofs.Ytdolmhnajofkoaa
