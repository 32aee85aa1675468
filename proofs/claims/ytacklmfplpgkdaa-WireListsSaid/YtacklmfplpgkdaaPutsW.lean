/- Contracts of wire's exported functions that append, and of the reference's. -/
import Derived.Test.YtacklmfplpgkdaaPuts
namespace Go.Proofs.Ytacklmfplpgkdaa
open Go.RowKit


set_option maxRecDepth 100000 in
set_option maxHeartbeats 400000 in
theorem wByte_any (w : World) (B : Nat) (A : Option Addr) (n c : Nat) (l : List UInt8) (x : Int) (h : Rd w B A n l) (hB : B ≤ w.heap.size) (hl : l.length ≤ 1000000) (x0 : -9223372036854775808 ≤ x) (x1 : x ≤ 9223372036854775807) :
    Calls Try.prog 10 #[.slice A n c, .int .i64 x] w (OutO w.heap.size w (l ++ beL 1 x)) := by
  have H := Lib.hid h
  clear h
  go_enter Try.func10, Try.ntmps10
  go_wp2_with (first
    | (go_at_call 44; refine (copied_any w B A n c l 1 1 rfl H.out hB hl (by omega)).mono ?_; rintro e w1 ⟨A1, n1, c1, rfl, ho1, hb1⟩; have H1 := Lib.hid ho1; clear ho1)
    | (go_at_call 43; refine (beInt_any w1 w.heap.size A1 n1 c1 l x 1 1 rfl H1.out hb1.size (by omega) (by omega) x0 x1).mono ?_; intro e w2 ho2; obtain ⟨A2, n2, c2, rfl, ho2, hb2⟩ := ho2; have H2 := Lib.hid ho2; clear ho2))
  go_ret
  exact ⟨A2, n2, c2, rfl, H2.out, hb1.trans hb2⟩

set_option maxRecDepth 100000 in
set_option maxHeartbeats 400000 in
theorem wWord_any (w : World) (B : Nat) (A : Option Addr) (n c : Nat) (l : List UInt8) (x : Int) (h : Rd w B A n l) (hB : B ≤ w.heap.size) (hl : l.length ≤ 1000000) (x0 : -9223372036854775808 ≤ x) (x1 : x ≤ 9223372036854775807) :
    Calls Try.prog 12 #[.slice A n c, .int .i64 x] w (OutO w.heap.size w (l ++ beL 2 x)) := by
  have H := Lib.hid h
  clear h
  go_enter Try.func12, Try.ntmps12
  go_wp2_with (first
    | (go_at_call 44; refine (copied_any w B A n c l 2 2 rfl H.out hB hl (by omega)).mono ?_; rintro e w1 ⟨A1, n1, c1, rfl, ho1, hb1⟩; have H1 := Lib.hid ho1; clear ho1)
    | (go_at_call 43; refine (beInt_any w1 w.heap.size A1 n1 c1 l x 2 2 rfl H1.out hb1.size (by omega) (by omega) x0 x1).mono ?_; intro e w2 ho2; obtain ⟨A2, n2, c2, rfl, ho2, hb2⟩ := ho2; have H2 := Lib.hid ho2; clear ho2))
  go_ret
  exact ⟨A2, n2, c2, rfl, H2.out, hb1.trans hb2⟩

set_option maxRecDepth 100000 in
set_option maxHeartbeats 400000 in
theorem wLong_any (w : World) (B : Nat) (A : Option Addr) (n c : Nat) (l : List UInt8) (x : Int) (h : Rd w B A n l) (hB : B ≤ w.heap.size) (hl : l.length ≤ 1000000) (x0 : 0 ≤ x) (x1 : x ≤ 4294967295) :
    Calls Try.prog 14 #[.slice A n c, .int .u32 x] w (OutO w.heap.size w (l ++ beL 4 x)) := by
  have H := Lib.hid h
  clear h
  go_enter Try.func14, Try.ntmps14
  go_wp2_with (first
    | (go_at_call 44; refine (copied_any w B A n c l 4 4 rfl H.out hB hl (by omega)).mono ?_; rintro e w1 ⟨A1, n1, c1, rfl, ho1, hb1⟩; have H1 := Lib.hid ho1; clear ho1)
    | (go_at_call 45; refine (beU32_any w1 w.heap.size A1 n1 c1 l x 4 4 rfl H1.out hb1.size (by omega) (by omega) x0 x1).mono ?_; intro e w2 ho2; obtain ⟨A2, n2, c2, rfl, ho2, hb2⟩ := ho2; have H2 := Lib.hid ho2; clear ho2))
  go_ret
  exact ⟨A2, n2, c2, rfl, H2.out, hb1.trans hb2⟩

set_option maxRecDepth 100000 in
set_option maxHeartbeats 400000 in
theorem wHuge_any (w : World) (B : Nat) (A : Option Addr) (n c : Nat) (l : List UInt8) (x : Int) (h : Rd w B A n l) (hB : B ≤ w.heap.size) (hl : l.length ≤ 1000000) (x0 : 0 ≤ x) (x1 : x ≤ 18446744073709551615) :
    Calls Try.prog 16 #[.slice A n c, .int .u64 x] w (OutO w.heap.size w (l ++ beL 8 x)) := by
  have H := Lib.hid h
  clear h
  go_enter Try.func16, Try.ntmps16
  go_wp2_with (first
    | (go_at_call 44; refine (copied_any w B A n c l 8 8 rfl H.out hB hl (by omega)).mono ?_; rintro e w1 ⟨A1, n1, c1, rfl, ho1, hb1⟩; have H1 := Lib.hid ho1; clear ho1)
    | (go_at_call 46; refine (beU64_any w1 w.heap.size A1 n1 c1 l x 8 8 rfl H1.out hb1.size (by omega) (by omega) x0 x1).mono ?_; intro e w2 ho2; obtain ⟨A2, n2, c2, rfl, ho2, hb2⟩ := ho2; have H2 := Lib.hid ho2; clear ho2))
  go_ret
  exact ⟨A2, n2, c2, rfl, H2.out, hb1.trans hb2⟩

set_option maxRecDepth 100000 in
set_option maxHeartbeats 400000 in
theorem wSize_any (w : World) (B : Nat) (A : Option Addr) (n c : Nat) (l : List UInt8) (x : Int) (h : Rd w B A n l) (hB : B ≤ w.heap.size) (hl : l.length ≤ 1000000) (x0 : -9223372036854775808 ≤ x) (x1 : x ≤ 9223372036854775807) :
    Calls Try.prog 18 #[.slice A n c, .int .i64 x] w (OutO w.heap.size w (l ++ vr x.toNat)) := by
  have H := Lib.hid h
  clear h
  go_enter Try.func18, Try.ntmps18
  go_wp2_with (first
    | (go_at_call 44; refine (copied_any w B A n c l 5 5 rfl H.out hB hl (by omega)).mono ?_; rintro e w1 ⟨A1, n1, c1, rfl, ho1, hb1⟩; have H1 := Lib.hid ho1; clear ho1)
    | (go_at_call 47; refine (varint_any w1 w.heap.size A1 n1 c1 l x H1.out hb1.size (by omega) x0 x1).mono ?_; intro e w2 ho2; obtain ⟨A2, n2, c2, rfl, ho2, hb2⟩ := ho2; have H2 := Lib.hid ho2; clear ho2))
  go_ret
  exact ⟨A2, n2, c2, rfl, H2.out, hb1.trans hb2⟩

theorem bc_str (s : ByteArray) : Lib.strCells s = bc s.data.toList := rfl

set_option maxRecDepth 100000 in
set_option maxHeartbeats 400000 in
theorem wText_any (w : World) (B : Nat) (A : Option Addr) (n c : Nat) (l : List UInt8) (s : ByteArray) (h : Rd w B A n l) (hB : B ≤ w.heap.size) (hl : l.length ≤ 1000000) (hs : s.size ≤ 900000) :
    Calls Try.prog 20 #[.slice A n c, .string s] w (OutO w.heap.size w (l ++ vr s.size ++ s.data.toList)) := by
  obtain ⟨i0, hi, hz, hsz, hb⟩ := info_parts Try.infoB
  have H := Lib.hid h
  clear h
  go_enter Try.func20, Try.ntmps20
  go_wp2_with (first
    | (go_at_call 44; refine (copied_any w B A n c l (5 + s.size) _ (by omega) H.out hB hl (by omega)).mono ?_; rintro e w1 ⟨A1, n1, c1, rfl, ho1, hb1⟩; have H1 := Lib.hid ho1; clear ho1)
    | (go_at_call 47; refine (varint_any w1 w.heap.size A1 n1 c1 l s.size H1.out hb1.size (by omega) (by omega) (by omega)).mono ?_; intro e w2 ho2; obtain ⟨A2, n2, c2, rfl, ho2, hb2⟩ := ho2; have hn2 : n2 ≤ 1000000 + 10 := own_vr_le ho2 (by omega) hl; have H2 := Lib.hid ho2; clear ho2; have hs1 := hb1.size; have hs2 := hb2.size)
    | (at_builtin; refine Lib.wpList_append_own_string _ rfl _ _ 22 9 rfl w.heap.size 5 i0 Try.underlying22 Try.underlying9 hi hz hsz hb _ _ _ rfl H2.out s rfl (by unfold maxLen; omega) (by omega) (by omega) ?_))
  intro v3 w3 ho3 hg3 _
  obtain ⟨A3, c3, rfl⟩ := own_slice ho3
  have H3 := Lib.hid ho3
  clear ho3
  go_wp2_with fail
  go_ret
  refine ⟨A3, _, c3, rfl, ?_, (hb1.trans hb2).grown hg3 (by omega) (own_from H2.out)⟩
  have h9 := H3.out
  rw [bc_str, ← bc_append] at h9
  exact h9

set_option maxRecDepth 100000 in
set_option maxHeartbeats 400000 in
theorem wInts_any (w : World) (B B' : Nat) (A A' : Option Addr) (n c m c' : Nat) (l : List UInt8) (zs : List Int) (h : Rd w B A n l) (hB : B ≤ w.heap.size) (h' : RdI w B' A' m zs) (hB' : B' ≤ w.heap.size) (hl : l.length ≤ 100000) (hm : m ≤ 100000) :
    Calls Try.prog 22 #[.slice A n c, .slice A' m c'] w (OutO w.heap.size w (l ++ vr m ++ wl zs)) := by
  have H := Lib.hid h
  clear h
  have HI := Lib.hid h'
  clear h'
  go_enter Try.func22, Try.ntmps22
  go_wp2_with (first
    | (go_at_call 44; refine (copied_any w B A n c l (5 + 2 * m) _ (by omega) H.out hB (by omega) (by omega)).mono ?_; rintro e w1 ⟨A1, n1, c1, rfl, ho1, hb1⟩; have H1 := Lib.hid ho1; clear ho1)
    | (go_at_call 47; refine (varint_any w1 w.heap.size A1 n1 c1 l m H1.out hb1.size (by omega) (by omega) (by omega)).mono ?_; intro e w2 ho2; obtain ⟨A2, n2, c2, rfl, ho2, hb2⟩ := ho2; have H2 := Lib.hid ho2; clear ho2; have hs1 := hb1.size; have hs2 := hb2.size))
  have HL : Hid ((vr m).length ≤ 10) := Lib.hid (vr_len10 m (by omega))
  have HB := Lib.hid (hb1.trans hb2)
  clear hb1 hb2
  go_loopw [5, 19] (fun v i wr => ∃ (j n' : Nat) (A3 : Option Addr) (c3 : Nat), j ≤ m ∧ i = .int .i64 j ∧ v = .slice A3 n' c3 ∧ wr.ownsRow w.heap.size 5 1 (.slice A3 n' c3) n' (bc (l ++ vr m ++ wl (zs.take j))) ∧ Below w.heap.size w wr) (fun _ i _ => m - (intOf i).toNat)
  case atStart => exact ⟨0, n2, A2, c2, Nat.zero_le _, rfl, rfl, by simpa [wl] using H2.out, HB.out⟩
  case round =>
    obtain ⟨j, n', A3, c3, hj, rfl, rfl, ho, hbel⟩ := hrel
    have hbs := hbel.size
    have H3 := Lib.hid ho
    clear ho
    by_cases hlt : j < m
    · obtain ⟨ad, rfl, hab, hcell⟩ := HI.out.2.1 (by omega)
      have hc := (hbel.cell (p := ad.add j) (by rw [blk_add]; omega)).trans (hcell j (by rw [HI.out.1]; exact hlt))
      clear hcell
      obtain ⟨z, hz⟩ : ∃ z, z = zs.getD j 0 := ⟨_, rfl⟩
      rw [← hz] at hc
      have hz0 := (HI.out.2.2 j).1
      have hz1 := (HI.out.2.2 j).2
      rw [← hz] at hz0 hz1
      have HZ := Lib.hid hz
      clear hz
      go_wp2_with (go_at_call 43; refine (beInt_any wr w.heap.size A3 n' c3 (l ++ vr m ++ wl (zs.take j)) z 2 2 rfl H3.out hbs ?_ (by omega) hz0 hz1).mono ?_)
      · have h5 := HL.out
        have h6 := HI.out.1
        rw [List.length_append, List.length_append, wl_length, List.length_take]
        omega
      · intro e w4 ho4
        obtain ⟨A4, n4, c4, rfl, ho4, hb4⟩ := ho4
        have H4 := Lib.hid ho4
        clear ho4
        go_wp2_with fail
        go_roundw
        case rel =>
          refine ⟨j + 1, n4, A4, c4, by omega, by go_num, rfl, ?_, hbel.trans hb4⟩
          rw [wl_take _ _ (by rw [HI.out.1]; exact hlt), ← HZ.out, ← List.append_assoc]
          exact H4.out
        case measure => simp [intOf]; omega
    · go_wp2_with fail
      go_ret
      refine ⟨A3, n', c3, rfl, ?_, hbel⟩
      have h9 := H3.out
      rw [List.take_of_length_le (by rw [HI.out.1]; omega)] at h9
      exact h9
end Go.Proofs.Ytacklmfplpgkdaa
