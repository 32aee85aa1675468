/- Contracts of the reference's functions that append: Long, Huge, Size, Text, Ints. -/
import Derived.Test.YtacklmfplpgkdaaPutsR
namespace Go.Proofs.Ytacklmfplpgkdaa
open Go.RowKit

set_option maxRecDepth 100000 in
set_option maxHeartbeats 800000 in
theorem rLong_any (w : World) (B : Nat) (A : Option Addr) (n c : Nat) (l : List UInt8) (x : Int) (h : Rd w B A n l) (hB : B ≤ w.heap.size) (hl : l.length ≤ 900000) (x0 : 0 ≤ x) (x1 : x ≤ 4294967295) :
    Calls Try.prog 15 #[.slice A n c, .int .u32 x] w (OutO w.heap.size w (l ++ beL 4 x)) := by
  have H := Lib.hid h
  clear h
  go_enter Try.func15, Try.ntmps15
  go_wp2_with fail
  refine (rByte_any w B A n c l _ H.out hB (by omega) (by omega) (by omega)).mono ?_
  rintro e w1 ⟨A1, n1, c1, rfl, ho1, hb1⟩
  have H1 := Lib.hid ho1
  clear ho1
  go_wp2_with fail
  refine (rByte_any w1 w1.heap.size A1 n1 c1 _ _ (Rd.of_own H1.out) (Nat.le_refl _) (by simp; omega) (by omega) (by omega)).mono ?_
  intro e w2 ho2
  obtain ⟨A2, n2, c2, rfl, ho2, hb2⟩ := OutO.after hb1 (Nat.le_refl _) ho2
  have H2 := Lib.hid ho2
  clear ho2
  go_wp2_with fail
  refine (rByte_any w2 w2.heap.size A2 n2 c2 _ _ (Rd.of_own H2.out) (Nat.le_refl _) (by simp; omega) (by omega) (by omega)).mono ?_
  intro e w3 ho3
  obtain ⟨A3, n3, c3, rfl, ho3, hb3⟩ := OutO.after hb2 (Nat.le_refl _) ho3
  have H3 := Lib.hid ho3
  clear ho3
  go_wp2_with fail
  refine (rByte_any w3 w3.heap.size A3 n3 c3 _ _ (Rd.of_own H3.out) (Nat.le_refl _) (by simp; omega) (by omega) (by omega)).mono ?_
  intro e w4 ho4
  obtain ⟨A4, n4, c4, rfl, ho4, hb4⟩ := OutO.after hb3 (Nat.le_refl _) ho4
  have H4 := Lib.hid ho4
  clear ho4
  go_wp2_with fail
  go_ret
  refine ⟨A4, n4, c4, rfl, ?_, hb4⟩
  have h6 := H4.out
  rw [beL4, byt_congr (x := x / 65536) (y := x / 65536 % 256) (by omega), byt_congr (x := x / 256) (y := x / 256 % 256) (by omega), byt_congr (x := x) (y := x % 256) (by omega)]
  simp only [List.append_assoc, List.cons_append, List.nil_append] at h6
  exact h6

set_option maxRecDepth 100000 in
set_option maxHeartbeats 800000 in
theorem rHuge_any (w : World) (B : Nat) (A : Option Addr) (n c : Nat) (l : List UInt8) (x : Int) (h : Rd w B A n l) (hB : B ≤ w.heap.size) (hl : l.length ≤ 800000) (x0 : 0 ≤ x) (x1 : x ≤ 18446744073709551615) :
    Calls Try.prog 17 #[.slice A n c, .int .u64 x] w (OutO w.heap.size w (l ++ beL 8 x)) := by
  have H := Lib.hid h
  clear h
  go_enter Try.func17, Try.ntmps17
  go_wp2_with fail
  refine (rLong_any w B A n c l _ H.out hB (by omega) (by omega) (by omega)).mono ?_
  rintro e w1 ⟨A1, n1, c1, rfl, ho1, hb1⟩
  have H1 := Lib.hid ho1
  clear ho1
  go_wp2_with fail
  refine (rLong_any w1 w1.heap.size A1 n1 c1 _ _ (Rd.of_own H1.out) (Nat.le_refl _) (by rw [List.length_append, beL_length]; omega) (by omega) (by omega)).mono ?_
  intro e w2 ho2
  obtain ⟨A2, n2, c2, rfl, ho2, hb2⟩ := OutO.after hb1 (Nat.le_refl _) ho2
  have H2 := Lib.hid ho2
  clear ho2
  go_wp2_with fail
  go_ret
  refine ⟨A2, n2, c2, rfl, ?_, hb2⟩
  have h6 := H2.out
  rw [beL8, ← beL4_mod x]
  simp only [List.append_assoc] at h6
  exact h6

set_option maxRecDepth 100000 in
set_option maxHeartbeats 800000 in
theorem rSize_pos (k : Nat) : ∀ (w : World) (B : Nat) (A : Option Addr) (n c : Nat) (l : List UInt8) (x : Int), x ≤ k → Rd w B A n l → B ≤ w.heap.size → l.length + (vr x.toNat).length ≤ 900000 → 0 ≤ x → x ≤ 9223372036854775807 →
    Calls Try.prog 19 #[.slice A n c, .int .i64 x] w (OutO w.heap.size w (l ++ vr x.toNat)) := by
  induction k with
  | zero =>
    intro w B A n c l x hk h hB hl x0 x1
    obtain rfl : x = 0 := by omega
    have H := Lib.hid h
    clear h
    go_enter Try.func19, Try.ntmps19
    go_wp2_with fail
    refine (rByte_any w B A n c l _ H.out hB (by omega) (by omega) (by omega)).mono ?_
    rintro e w1 ⟨A1, n1, c1, rfl, ho1, hb1⟩
    have H1 := Lib.hid ho1
    clear ho1
    go_wp2_with fail
    go_ret
    exact ⟨A1, n1, c1, rfl, by rw [vr_lt (by simp)]; exact H1.out, hb1⟩
  | succ k ih =>
    intro w B A n c l x hk h hB hl x0 x1
    have H := Lib.hid h
    clear h
    have IH := Lib.hid ih
    clear ih
    by_cases hx : x < 128
    · go_enter Try.func19, Try.ntmps19
      go_wp2_with fail
      refine (rByte_any w B A n c l _ H.out hB (by omega) (by omega) (by omega)).mono ?_
      rintro e w1 ⟨A1, n1, c1, rfl, ho1, hb1⟩
      have H1 := Lib.hid ho1
      clear ho1
      go_wp2_with fail
      go_ret
      refine ⟨A1, n1, c1, rfl, ?_, hb1⟩
      rw [vr_lt (by omega), Int.toNat_of_nonneg x0]
      exact H1.out
    · have hv : vr x.toNat = byt ((x.toNat % 128 + 128 : Nat) : Int) :: vr (x.toNat / 128) := vr_ge (by omega)
      have hv2 : x.toNat / 128 = (x / 128).toNat := by omega
      rw [hv2] at hv
      have hl2 : l.length + 1 + (vr (x / 128).toNat).length ≤ 900000 := by rw [hv, List.length_cons] at hl; omega
      have HV := Lib.hid hv
      clear hv hv2 hl
      go_enter Try.func19, Try.ntmps19
      go_wp2_with fail
      refine (rByte_any w B A n c l _ H.out hB (by omega) (by omega) (by omega)).mono ?_
      rintro e w1 ⟨A1, n1, c1, rfl, ho1, hb1⟩
      have H1 := Lib.hid ho1
      clear ho1
      go_wp2_with fail
      refine (IH.out w1 w1.heap.size A1 n1 c1 _ _ (by omega) (Rd.of_own H1.out) (Nat.le_refl _) (by rw [List.length_append]; exact hl2) (by omega) (by omega)).mono ?_
      intro e w2 ho2
      obtain ⟨A2, n2, c2, rfl, ho2, hb2⟩ := OutO.after hb1 (Nat.le_refl _) ho2
      have H2 := Lib.hid ho2
      clear ho2
      go_wp2_with fail
      go_ret
      refine ⟨A2, n2, c2, rfl, ?_, hb2⟩
      have h6 := H2.out
      rw [HV.out, byt_congr (x := ((x.toNat % 128 + 128 : Nat) : Int)) (y := 128 + x % 128) (by omega)]
      rw [List.append_assoc] at h6
      exact h6

set_option maxRecDepth 100000 in
set_option maxHeartbeats 800000 in
theorem rSize_any (w : World) (B : Nat) (A : Option Addr) (n c : Nat) (l : List UInt8) (x : Int) (h : Rd w B A n l) (hB : B ≤ w.heap.size) (hl : l.length ≤ 800000) (x0 : -9223372036854775808 ≤ x) (x1 : x ≤ 9223372036854775807) :
    Calls Try.prog 19 #[.slice A n c, .int .i64 x] w (OutO w.heap.size w (l ++ vr x.toNat)) := by
  have h10 := vr_len10 x.toNat (by omega)
  by_cases hx : 0 ≤ x
  · exact rSize_pos x.toNat w B A n c l x (by omega) h hB (by omega) hx x1
  · have e : x.toNat = 0 := by omega
    rw [e]
    have H := Lib.hid h
    clear h e h10
    go_enter Try.func19, Try.ntmps19
    go_wp2_with fail
    refine (rByte_any w B A n c l _ H.out hB (by omega) (by omega) (by omega)).mono ?_
    rintro e w1 ⟨A1, n1, c1, rfl, ho1, hb1⟩
    have H1 := Lib.hid ho1
    clear ho1
    go_wp2_with fail
    go_ret
    exact ⟨A1, n1, c1, rfl, by rw [vr_lt (by simp)]; exact H1.out, hb1⟩

/-- what a string's conversion to bytes lays reads as the string -/
theorem Rd.conv (w : World) (s : ByteArray) (cap : Nat) (t : TypeId) (fr : Nat × Nat) : Rd (w.alloc (.cells (bytesRow s cap) t fr)) (w.heap.size + 1) (some ⟨w.heap.size, 0, none⟩) s.size s.data.toList := by
  refine ⟨by rw [Array.length_toList]; rfl, fun _ => ⟨_, rfl, Nat.lt_succ_self _, fun j hj => ?_⟩⟩
  rw [Array.length_toList] at hj
  rw [Addr.add_lit, Nat.zero_add, World.cell?_alloc_mark, bytesRow_at _ _ _ hj]
  simp

set_option maxRecDepth 100000 in
set_option maxHeartbeats 800000 in
theorem rText_any (w : World) (B : Nat) (A : Option Addr) (n c : Nat) (l : List UInt8) (s : ByteArray) (h : Rd w B A n l) (hB : B ≤ w.heap.size) (hl : l.length ≤ 700000) (hs : s.size ≤ 700000) :
    Calls Try.prog 21 #[.slice A n c, .string s] w (OutO w.heap.size w (l ++ vr s.size ++ s.data.toList)) := by
  obtain ⟨i0, hi, hz, hsz, hb⟩ := info_parts Try.infoB
  have H := Lib.hid h
  clear h
  have hconv := fun W : World => run_bytes_of_string (P := Try.prog) W 9 22 5 s Try.underlying9 Try.underlying22 Try.underlying5
  go_enter Try.func21, Try.ntmps21
  go_wp2_with fail
  refine (rSize_any w B A n c l _ H.out hB (by omega) (by omega) (by omega)).mono ?_
  rintro e w1 ⟨A1, n1, c1, rfl, ho1, hb1⟩
  have hn1 : n1 ≤ 700000 + 10 := own_vr_le ho1 (by omega) hl
  have hs1 := hb1.size
  have H1 := Lib.hid ho1
  clear ho1
  have hz1 : Below w.heap.size w (w1.drew.alloc (.cells (bytesRow s (grownCap w1 s.size 0 5)) 5 ((bytesRow s (grownCap w1 s.size 0 5)).size, (bytesRow s (grownCap w1 s.size 0 5)).size + 1))) := hb1.drew.alloc (by simpa using hs1) _
  have HZ := Lib.hid hz1
  clear hz1
  go_wp2_with (at_builtin; refine wpList_app _ rfl _ _ 22 rfl w.heap.size 5 i0 Try.underlying22 hi hz hsz hb _ n1 _ rfl (World.ownsRow.alloc (World.ownsRow.drew H1.out) _) _ _ s.size _ s.data.toList rfl (Rd.conv w1.drew s _ _ _) (by omega) (by simp; omega) ?_)
  intro A3 c3 w3 ho3 hg3
  have H3 := Lib.hid ho3
  clear ho3
  go_wp2_with fail
  go_ret
  refine ⟨A3, _, c3, rfl, by rw [List.append_assoc]; exact H3.out, HZ.out.grown hg3 (by simp; omega) (own_from H1.out)⟩

set_option maxRecDepth 100000 in
set_option maxHeartbeats 800000 in
theorem rInts_any (w : World) (B B' : Nat) (A A' : Option Addr) (n c m c' : Nat) (l : List UInt8) (zs : List Int) (h : Rd w B A n l) (hB : B ≤ w.heap.size) (h' : RdI w B' A' m zs) (hB' : B' ≤ w.heap.size) (hl : l.length ≤ 100000) (hm : m ≤ 100000) :
    Calls Try.prog 23 #[.slice A n c, .slice A' m c'] w (OutO w.heap.size w (l ++ vr m ++ wl zs)) := by
  have H := Lib.hid h
  clear h
  have HI := Lib.hid h'
  clear h'
  go_enter Try.func23, Try.ntmps23
  go_wp2_with fail
  refine (rSize_any w B A n c l _ H.out hB (by omega) (by omega) (by omega)).mono ?_
  rintro e w2 ⟨A2, n2, c2, rfl, ho2, hb2⟩
  have H2 := Lib.hid ho2
  clear ho2
  have HL : Hid ((vr m).length ≤ 10) := Lib.hid (vr_len10 m (by omega))
  have HB := Lib.hid hb2
  clear hb2
  go_wp2_with fail
  go_loopw [5, 6] (fun v i wr => ∃ (j n' : Nat) (A3 : Option Addr) (c3 : Nat), j ≤ m ∧ i = .int .i64 j ∧ v = .slice A3 n' c3 ∧ wr.ownsRow w.heap.size 5 1 (.slice A3 n' c3) n' (bc (l ++ vr m ++ wl (zs.take j))) ∧ Below w.heap.size w wr) (fun _ i _ => m - (intOf i).toNat)
  case atStart => exact ⟨0, n2, A2, c2, Nat.zero_le _, rfl, rfl, by simpa [wl] using H2.out, HB.out⟩
  case round =>
    obtain ⟨j, n', A3, c3, hj, rfl, rfl, ho, hbel⟩ := hrel
    have hbs := hbel.size
    have H3 := Lib.hid ho
    clear ho
    by_cases hlt : j < m
    · obtain ⟨ad, rfl, hab, hcell⟩ := HI.out.2.1 (by omega)
      have hc := (hbel.cell (p := ad.add j) (by rw [blk_add]; omega)).trans (hcell j (by rw [HI.out.1]; exact hlt))
      clear hcell
      obtain ⟨z, hz⟩ : ∃ z, z = zs.getD j 0 := ⟨_, rfl⟩
      rw [← hz] at hc
      have hz0 := (HI.out.2.2 j).1
      have hz1 := (HI.out.2.2 j).2
      rw [← hz] at hz0 hz1
      have HZ := Lib.hid hz
      clear hz
      go_wp2_with fail
      refine (rWord_any wr wr.heap.size A3 n' c3 (l ++ vr m ++ wl (zs.take j)) z (Rd.of_own H3.out) (Nat.le_refl _) ?_ hz0 hz1).mono ?_
      · have h5 := HL.out
        have h6 := HI.out.1
        rw [List.length_append, List.length_append, wl_length, List.length_take]
        omega
      · intro e w4 ho4
        obtain ⟨A4, n4, c4, rfl, ho4, hb4⟩ := OutO.after hbel (by omega) ho4
        have H4 := Lib.hid ho4
        clear ho4
        go_wp2_with fail
        go_roundw
        case rel =>
          refine ⟨j + 1, n4, A4, c4, by omega, by go_num, rfl, ?_, hb4⟩
          rw [wl_take _ _ (by rw [HI.out.1]; exact hlt), ← HZ.out, ← List.append_assoc]
          exact H4.out
        case measure => simp [intOf]; omega
    · go_wp2_with fail
      go_ret
      refine ⟨A3, n', c3, rfl, ?_, hbel⟩
      have h9 := H3.out
      rw [List.take_of_length_le (by rw [HI.out.1]; omega)] at h9
      exact h9

end Go.Proofs.Ytacklmfplpgkdaa
