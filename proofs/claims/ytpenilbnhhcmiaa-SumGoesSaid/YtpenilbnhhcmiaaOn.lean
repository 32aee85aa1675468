/- Contracts of sum.On, Of and of the reference's. -/
import Derived.Test.YtpenilbnhhcmiaaTable
import Derived.Test.YtpenilbnhhcmiaaTakes
namespace Go.Proofs.Ytpenilbnhhcmiaa
open Go.RowKit

theorem byte_step (r b : Nat) (hb : b < 256) : Crc.steps 8 (r ^^^ b) = r / 256 ^^^ Crc.steps 8 (r % 256 ^^^ b) := by
  have h1 : (r ^^^ b) % 256 = r % 256 ^^^ b := by
    have := Nat.xor_mod_two_pow (a := r) (b := b) (n := 8)
    rw [show (2 : Nat) ^ 8 = 256 from rfl] at this
    rw [this, Nat.mod_eq_of_lt hb]
  have h2 : (r ^^^ b) / 256 = r / 256 := by
    have := Nat.xor_div_two_pow (a := r) (b := b) (n := 8)
    rw [show (2 : Nat) ^ 8 = 256 from rfl] at this
    rw [this, Nat.div_eq_of_lt hb, Nat.xor_zero]
  rw [Crc.steps8_table, h1, h2, Nat.xor_comm]

theorem reg_take (c : Nat) (l : List UInt8) (j : Nat) (h : j < l.length) : Crc.reg c (l.take (j + 1)) = Crc.steps 8 (Crc.reg c (l.take j) ^^^ l[j].toNat) := by
  rw [List.take_succ_eq_append_getElem h, Crc.reg_append]
  rfl

theorem not_u32 (r : Nat) (h : r < 4294967296) : bits .xor .u32 IntKind.u32.max (r : Int) = ((r ^^^ Crc.ones : Nat) : Int) := by
  have e := u32_xor_nat 4294967295 r (by omega) h
  rw [Nat.xor_comm] at e
  exact e

theorem xor_u32 (r b : Nat) (h : r < 4294967296) (hb : b < 4294967296) : bits .xor .u32 (r : Int) (b : Int) = ((r ^^^ b : Nat) : Int) := u32_xor_nat r b h hb

theorem xor_low (r : Nat) (b : UInt8) : bits .xor .u8 ((r : Int) % 256) (b.toNat : Int) = ((r % 256 ^^^ b.toNat : Nat) : Int) := by
  have := b.toNat_lt
  have e := u8_xor_nat (r % 256) b.toNat (by omega) (by omega)
  rw [Int.natCast_emod] at e
  exact e

theorem xor_high (r t : Nat) (h : r < 4294967296) (ht : t < 4294967296) : bits .xor .u32 ((r : Int) / 256) (t : Int) = ((r / 256 ^^^ t : Nat) : Int) := by
  have e := u32_xor_nat (r / 256) t (by omega) ht
  rw [Int.natCast_ediv] at e
  exact e

set_option maxRecDepth 100000 in
set_option maxHeartbeats 400000 in
theorem sOn_any (w : World) (B : Nat) (A : Option Addr) (n c : Nat) (l : List UInt8) (s : Nat) (h : Rd w B A n l) (hB : B ≤ w.heap.size) (hn : n ≤ 1000000) (hs : s < 4294967296) :
    Calls Try.prog 12 #[.int .u32 s, .slice A n c] w fun e w' => e = .returned (.int .u32 (Crc.on s l : Nat)) ∧ Below w.heap.size w w' := by
  obtain ⟨hz, hsz⟩ := zero_of_info Try.infoT
  have HSZ := Lib.hid hsz
  clear hsz
  rw [← tabK_zero] at hz
  have H := Lib.hid h
  clear h
  have hsg : IntKind.u32.signed = false := rfl
  have hnot := not_u32 s hs
  have HR0 : Hid (s ^^^ Crc.ones < 4294967296) := Lib.hid (Nat.xor_lt_two_pow (n := 32) hs (by decide))
  go_enter Try.func12, Try.ntmps12
  go_wp2_with fail
  refine (table_any _).mono ?_
  rintro e w1 ⟨rfl, hb1⟩
  go_wp2_with (refine wpList_store_row rfl 39 (.tmp 5) (.tmp 9) rfl w1.heap.size (tabK 256) rfl rfl 39 (tabK 0) (Blk.new w1 _ _) (by rw [tabK_size]; exact HSZ.out) (by rw [tabK_size, tabK_size]) (tabK_one _) ?_; rw [World.setRow_alloc_new])
  have HT : Hid (Blk (w1.alloc (.cells (tabK 256) 39)) w1.heap.size 39 (tabK 256)) := Lib.hid (Blk.new w1 _ _)
  have HW : Hid (Below w.heap.size w (w1.alloc (.cells (tabK 256) 39))) := Lib.hid (hb1.alloc hb1.size _)
  go_loop [6, 14] (fun v i => ∃ (j r : Nat), j ≤ n ∧ i = .int .i64 j ∧ v = .int .u32 r ∧ r < 4294967296 ∧ Hid (r = Crc.reg (s ^^^ Crc.ones) (l.take j))) (fun _ i => n - (intOf i).toNat)
  case atStart => exact ⟨0, s ^^^ Crc.ones, Nat.zero_le _, rfl, rfl, HR0.out, rfl⟩
  case round =>
    obtain ⟨j, r, hj, rfl, rfl, hr, HR⟩ := hrel
    by_cases hlt : j < n
    · obtain ⟨ad, rfl, hab, hcell⟩ := H.out.2 (by omega)
      have hjl : j < l.length := by rw [H.out.1]; exact hlt
      have hc := (HW.out.cell (p := ad.add j) (by rw [blk_add]; omega)).trans (hcell j hjl)
      clear hcell
      obtain ⟨b, hb⟩ : ∃ b, b = l[j] := ⟨_, rfl⟩
      rw [← hb] at hc
      have hb2 := b.toNat_lt
      have HB := Lib.hid hb
      clear hb
      have hlow := xor_low r b
      have hq2 : r % 256 ^^^ b.toNat < 256 := Nat.xor_lt_two_pow (n := 8) (by omega) (by omega)
      have hst := byte_step r b.toNat hb2
      obtain ⟨q, hq⟩ : ∃ q, q = r % 256 ^^^ b.toNat := ⟨_, rfl⟩
      rw [← hq] at hlow hq2 hst
      have ht := Crc.steps_lt 8 (c := q) (by omega)
      have hhigh := xor_high r (Crc.steps 8 q) hr ht
      rw [← hst] at hhigh
      have hr2 := Crc.steps_lt 8 (Crc.xor_byte_lt hr b)
      have htc := (HT.out.cell q).trans (tabK_at 256 q hq2)
      rw [if_pos hq2] at htc
      have HREG : Hid (Crc.steps 8 (r ^^^ b.toNat) = Crc.reg (s ^^^ Crc.ones) (l.take (j + 1))) := by
        have e := reg_take (s ^^^ Crc.ones) l j hjl
        rw [← HR.out, ← HB.out] at e
        exact e.symm
      obtain ⟨r2, hr2e⟩ : ∃ r2, r2 = Crc.steps 8 (r ^^^ b.toNat) := ⟨_, rfl⟩
      rw [← hr2e] at hr2 hhigh HREG
      clear hst hq hr2e HR HB
      go_wp2_with fail
      go_round
      case rel => exact ⟨j + 1, r2, by omega, by go_num, rfl, hr2, HREG⟩
      case measure => simp [intOf]; omega
    · have hnr := not_u32 r hr
      have HE : Hid (r ^^^ Crc.ones = Crc.on s l) := by
        have e := HR.out
        rw [List.take_of_length_le (by rw [H.out.1]; omega)] at e
        rw [e]
        rfl
      clear HR
      go_wp2_with fail
      go_ret
      exact ⟨ret_int (by rw [HE.out]), HW.out⟩

set_option maxRecDepth 100000 in
set_option maxHeartbeats 400000 in
theorem sOf_any (w : World) (B : Nat) (A : Option Addr) (n c : Nat) (l : List UInt8) (h : Rd w B A n l) (hB : B ≤ w.heap.size) (hn : n ≤ 1000000) :
    Calls Try.prog 10 #[.slice A n c] w fun e w' => e = .returned (.int .u32 (Crc.on 0 l : Nat)) ∧ Below w.heap.size w w' := by
  have H := Lib.hid h
  clear h
  go_enter Try.func10, Try.ntmps10
  go_wp2_with fail
  refine (sOn_any w B A n c l 0 H.out hB hn (by omega)).mono ?_
  rintro e w1 ⟨rfl, hb1⟩
  go_wp2_with fail
  go_ret
  exact ⟨rfl, hb1⟩

theorem xor_ones (r : Nat) (h : r < 4294967296) : bits .xor .u32 (r : Int) 4294967295 = ((r ^^^ Crc.ones : Nat) : Int) := xor_u32 r 4294967295 h (by omega)

set_option maxRecDepth 100000 in
set_option maxHeartbeats 400000 in
theorem rOn_any (w : World) (B : Nat) (A : Option Addr) (n c : Nat) (l : List UInt8) (s : Nat) (h : Rd w B A n l) (hn : n ≤ 1000000) (hs : s < 4294967296) :
    Calls Try.prog 13 #[.int .u32 s, .slice A n c] w fun e w' => e = .returned (.int .u32 (Crc.on s l : Nat)) ∧ w = w' := by
  have H := Lib.hid h
  clear h
  have hx0 := xor_ones s hs
  have HR0 : Hid (s ^^^ Crc.ones < 4294967296) := Lib.hid (Nat.xor_lt_two_pow (n := 32) hs (by decide))
  go_enter Try.func13, Try.ntmps13
  go_wp2_with fail
  go_loop [5, 6] (fun v i => ∃ (j r : Nat), j ≤ n ∧ i = .int .i64 j ∧ v = .int .u32 r ∧ r < 4294967296 ∧ Hid (r = Crc.reg (s ^^^ Crc.ones) (l.take j))) (fun _ i => n - (intOf i).toNat)
  case atStart => exact ⟨0, s ^^^ Crc.ones, Nat.zero_le _, rfl, rfl, HR0.out, rfl⟩
  case round =>
    obtain ⟨j, r, hj, rfl, rfl, hr, HR⟩ := hrel
    by_cases hlt : j < n
    · obtain ⟨ad, rfl, hab, hcell⟩ := H.out.2 (by omega)
      have hjl : j < l.length := by rw [H.out.1]; exact hlt
      have hc := hcell j hjl
      clear hcell
      obtain ⟨b, hb⟩ : ∃ b, b = l[j] := ⟨_, rfl⟩
      rw [← hb] at hc
      have hb2 := b.toNat_lt
      have HB := Lib.hid hb
      clear hb
      have hxb := xor_u32 r b.toNat hr (by omega)
      have HREG : Hid (Crc.steps 8 (r ^^^ b.toNat) = Crc.reg (s ^^^ Crc.ones) (l.take (j + 1))) := by
        have e := reg_take (s ^^^ Crc.ones) l j hjl
        rw [← HR.out, ← HB.out] at e
        exact e.symm
      have hr2 := Crc.xor_byte_lt hr b
      obtain ⟨q0, hq0⟩ : ∃ q0, q0 = r ^^^ b.toNat := ⟨_, rfl⟩
      rw [← hq0] at hxb hr2 HREG
      clear hq0 HR HB
      go_wp2_with fail
      go_loop [5, 7] (fun v i => ∃ (k q : Nat), k ≤ 8 ∧ i = .int .i64 k ∧ v = .int .u32 q ∧ q < 4294967296 ∧ Hid (Crc.steps (8 - k) q = Crc.steps 8 q0)) (fun _ i => 8 - (intOf i).toNat)
      case atStart => exact ⟨0, q0, by omega, rfl, rfl, hr2, rfl⟩
      case round =>
        obtain ⟨k, q, hk, rfl, rfl, hq, HK⟩ := hrel
        by_cases hlt2 : k < 8
        · by_cases hodd : q % 2 = 1
          · have hm : ((q : Int) % 2 == 1) = true := by rw [beq_iff_eq]; omega
            have hxor := xor_poly q hq
            rw [← step_odd hodd] at hxor
            have hs2 := Crc.step_lt hq
            clear hodd
            obtain ⟨q2, hq2⟩ : ∃ q2, q2 = Crc.step q := ⟨_, rfl⟩
            rw [← hq2] at hxor hs2
            have HQ := Lib.hid hq2
            clear hq2
            go_wp2_with fail
            go_round
            case rel => exact ⟨k + 1, q2, by omega, by go_num, rfl, hs2, by rw [HQ.out]; exact steps_eat hlt2 HK.out⟩
            case measure => simp [intOf]; omega
          · have hm : ((q : Int) % 2 == 1) = false := by rw [beq_eq_false_iff_ne]; omega
            have HQ := Lib.hid (step_even hodd)
            clear hodd
            go_wp2_with fail
            go_round
            case rel => exact ⟨k + 1, q / 2, by omega, by go_num, by go_num, by omega, by rw [← HQ.out]; exact steps_eat hlt2 HK.out⟩
            case measure => simp [intOf]; omega
        · have HK2 : Hid (q = Crc.reg (s ^^^ Crc.ones) (l.take (j + 1))) := by
            have h9 := HK.out
            rw [show 8 - k = 0 from by omega] at h9
            exact h9.trans HREG.out
          clear HK HREG
          go_wp2_with fail
          go_round
          case rel => exact ⟨j + 1, q, by omega, by go_num, rfl, hq, HK2⟩
          case measure => simp [intOf]; omega
    · have hnr := xor_ones r hr
      have HE : Hid (r ^^^ Crc.ones = Crc.on s l) := by
        have e := HR.out
        rw [List.take_of_length_le (by rw [H.out.1]; omega)] at e
        rw [e]
        rfl
      clear HR
      go_wp2_with fail
      go_ret
      exact ⟨ret_int (by rw [HE.out]), rfl⟩

set_option maxRecDepth 100000 in
set_option maxHeartbeats 400000 in
theorem rOf_any (w : World) (B : Nat) (A : Option Addr) (n c : Nat) (l : List UInt8) (h : Rd w B A n l) (hn : n ≤ 1000000) :
    Calls Try.prog 11 #[.slice A n c] w fun e w' => e = .returned (.int .u32 (Crc.on 0 l : Nat)) ∧ w = w' := by
  have H := Lib.hid h
  clear h
  go_enter Try.func11, Try.ntmps11
  go_wp2_with fail
  refine (rOn_any w B A n c l 0 H.out hn (by omega)).mono ?_
  rintro e w1 ⟨rfl, rfl⟩
  go_wp2_with fail
  go_ret
  exact ⟨rfl, rfl⟩

end Go.Proofs.Ytpenilbnhhcmiaa
