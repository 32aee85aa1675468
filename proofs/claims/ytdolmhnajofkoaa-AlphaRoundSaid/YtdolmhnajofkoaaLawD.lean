/- The walk of the statement AlphaRound. -/
import Derived.Test.YtdolmhnajofkoaaLawB
namespace Go.Proofs.Ytdolmhnajofkoaa
open Go.RowKit
set_option linter.unusedSimpArgs false

/-- bytes as codes below 31 -/
def md31 (l : List UInt8) : List Int := l.map fun c => ((c.toNat % 31 : Nat) : Int)

theorem md31_len (l : List UInt8) : (md31 l).length = l.length := by simp [md31]
theorem md31_range (l : List UInt8) : ∀ z ∈ md31 l, 0 ≤ z ∧ z ≤ 30 := by
  intro z hz
  unfold md31 at hz
  obtain ⟨c, _, rfl⟩ := List.mem_map.1 hz
  omega
theorem md31_fit (l : List UInt8) : FitI (md31 l) := FitI.of_mem fun z hz => by have := md31_range l z hz; omega
theorem md31_take {l : List UInt8} {j : Nat} (h : j < l.length) : iv (md31 (l.take (j + 1))) = iv (md31 (l.take j)) ++ [.int .i64 ((l[j].toNat : Int) % 31)] := by
  rw [List.take_succ_eq_append_getElem h]
  unfold md31
  rw [List.map_append, iv_append]
  simp [iv]

theorem upZ_ok (l : List Int) : upZ (.ok l) = l := rfl
theorem upE_ok (l : List Int) : upE (.ok l) = 0 := rfl

theorem packL_len (zs : List Int) : 8 * (packL zs).length ≤ 5 * zs.length + 12 := by
  have h := congrArg List.length (unb_packL zs)
  rw [unb_len, List.length_append, raw_len, pad_len] at h
  omega

set_option maxRecDepth 100000 in
set_option maxHeartbeats 12800000 in
theorem round_walk (A : Option Addr) (n c : Nat) (l : List UInt8) (A0 : Option Addr) (m c0 : Nat) (l0 : List UInt8) (w : World) (h : Rd w w.heap.size A n l) (h0 : Rd w w.heap.size A0 m l0) :
    Calls Try.prog 7 #[.slice A n c, .slice A0 m c0] w fun e w' => e = .returned (.bool true) ∧ Below w.heap.size w w' := by
  by_cases hn : (n : Int) ≤ 500 ∧ (m : Int) ≤ 500
  · obtain ⟨hn, hm⟩ := hn
    obtain ⟨i0, hi, hz0, hsz, hby⟩ := inf_parts Try.inf_int
    have HI := Lib.hid hi
    have HZ0 := Lib.hid hz0
    have HSZ := Lib.hid hsz
    have HBY := Lib.hid hby
    clear hi hz0 hsz hby
    have H := Lib.hid h
    have H0 := Lib.hid h0
    clear h h0
    go_enter Try.func7, Try.ntmps7
    go_wp2_with fail
    go_loopw [5, 23] (fun v i wr => ∃ (A1 : Option Addr) (j c1 : Nat), j ≤ n ∧ i = .int .i64 j ∧ v = .slice A1 j c1 ∧ Hid (wr.ownsRow w.heap.size 3 1 (.slice A1 j c1) j (iv (md31 (l.take j)))) ∧ Hid (Below w.heap.size w wr)) (fun _ i _ => n - (intOf i).toNat)
    case atStart => exact ⟨none, 0, 0, Nat.zero_le _, rfl, rfl, Lib.hid (ownI_nil w _ _), Lib.hid (Below.refl _ _)⟩
    case round =>
      obtain ⟨A1, j, c1, hj, rfl, rfl, HO, HB⟩ := hrel
      by_cases hlt : j < n
      · obtain ⟨ad, rfl, hab, hcell⟩ := H.out.2 (by omega)
        have hjl : j < l.length := by rw [H.out.1]; exact hlt
        have hc := (HB.out.cell (p := ad.add j) (by rw [blk_add]; exact hab)).trans (hcell j hjl)
        have HT := Lib.hid (md31_take hjl)
        obtain ⟨x, hx⟩ : ∃ x, x = l[j] := ⟨_, rfl⟩
        rw [← hx] at hc HT
        have hx2 := x.toNat_lt
        clear hcell hx
        have hz2 := HB.out.size
        go_wp2_with (at_builtin; refine wpList_app1L _ rfl _ _ 23 rfl w.heap.size 3 i0 _ 8 Try.underlying23 HI.out HZ0.out HSZ.out HBY.out rfl _ j _ rfl (HO.out.alloc _) ⟨_, 0, none⟩ 1 (.int .i64 ((x.toNat : Int) % 31)) rfl (new_cell _ _ _) rfl (by omega) (by unfold maxLen; omega) (by simp; omega) ?_; intro A3 c3 w8 hown2 hg2 hw2)
        have HO3 := Lib.hid hown2
        have HB3 := Lib.hid (app_below HO.out HB.out hg2)
        clear hown2 hg2 hw2
        go_roundw
        case rel => exact ⟨A3, j + 1, c3, by omega, by go_num, rfl, Lib.hid (by rw [HT.out]; exact HO3.out), HB3⟩
        case measure => simp [intOf]; omega
      · obtain rfl : j = n := by omega
        have HM : Hid (md31 (l.take j) = md31 l) := Lib.hid (by rw [List.take_of_length_le (by rw [H.out.1]; omega)])
        have HLN : Hid ((md31 l).length = j) := Lib.hid (by rw [md31_len, H.out.1])
        have R1 : Hid (RdI wr wr.heap.size A1 j (md31 l)) := Lib.hid (by have h9 := HO.out; rw [HM.out] at h9; exact RdI.of_iv h9 (md31_fit l))
        have EU : Hid (unpackL (packL (md31 l)) = .ok (md31 l)) := Lib.hid (unpack_pack _ (md31_range l))
        have ES := Lib.hid (eqI_self (md31 l))
        have EL := Lib.hid (packL_len (md31 l))
        clear HO
        go_wp2_with fail
        refine (pack_any wr A1 j c1 _ R1.out (by omega)).mono ?_
        rintro e w2 ⟨A2, n2, c2, rfl, ho2, hb2⟩
        have hn2 : n2 ≤ 10000 := by have := own_len ho2; have := EL.out; have := HLN.out; omega
        have HB2 := Lib.hid (HB.out.trans (hb2.mono HB.out.size))
        have R2 := Lib.hid ((R1.out.below hb2).more hb2.size)
        have R3 := Lib.hid (Rd.of_own ho2)
        clear ho2 hb2
        go_wp2_with fail
        refine (unpack_any w2 A2 n2 c2 _ R3.out (by omega)).mono ?_
        rintro e w3 ⟨A3, n3, c3, rfl, ho3, hb3⟩
        rw [EU.out, upZ_ok] at ho3
        rw [EU.out, upE_ok]
        have hn3 : n3 ≤ 500 := by have := ownI_len ho3; have := HLN.out; omega
        have HB3 := Lib.hid (HB2.out.trans (hb3.mono HB2.out.size))
        have R4 := Lib.hid ((R2.out.below hb3).more hb3.size)
        have R5 := Lib.hid (RdI.of_iv ho3 (md31_fit l))
        clear ho3 hb3 R1 R2 R3 HB2
        go_wp2_with fail
        refine (same6_any _ _ _ A3 A1 n3 j c3 c1 _ _ R5.out R4.out (by omega) (by omega)).mono ?_
        rintro e w4 ⟨rfl, hb4⟩
        rw [ES.out]
        have HB4 := Lib.hid (HB3.out.trans (hb4.mono HB3.out.size))
        clear hb4 HB3 R4 R5
        go_wp2_with fail
        refine (unpack_any w4 A0 m c0 l0 ((H0.out.below HB4.out).more HB4.out.size) (by omega)).mono ?_
        rintro e w5 ⟨A5, n5, c5, rfl, ho5, hb5⟩
        have hn5 : n5 ≤ 4000 := by have := ownI_len ho5; have := up_len l0; have := H0.out.1; omega
        have HB5 := Lib.hid (HB4.out.trans (hb5.mono HB4.out.size))
        have kb : ∀ u, Held2 w w5 u → (convert 33 9 (.slice A0 m c0)).run Try.prog u = .ok (.string ⟨l0.toArray⟩) u := fun u hu => toStr6 (H0.out.below hu.1) c0
        have R5 := Lib.hid (RdI.of_iv ho5 (up_fit l0)).drew
        clear ho5 hb5 HB4
        by_cases hE : upE (unpackL l0) = 0
        · have HPK : Hid (packL (upZ (unpackL l0)) = l0) := Lib.hid (by
            cases hu : unpackL l0 with
            | ok r => exact pack_unpack l0 r hu
            | _ => rw [hu] at hE; exact absurd hE (by decide))
          rw [hE]
          clear hE
          go_wp2_with fail
          refine wp_region_held_drew (S := Held2 w w5) (by kernel_rfl) (Held2.start HB5.out) (fun hHeld => ?_)
          refine held_take (i := 0) (fuel := 13) (v := ?_) (by rw [List.getElem?_toArray]; rfl) (by kernel_rfl) (by kernel_rfl) (by kernel_rfl) hHeld ?_ ?_ ?_ ?_
          rotate_left
          · intro u hSw
            go_simp
            try with_reducible rfl
          · rfl
          · exact fun _ _ _ h => h
          try simp only [Act.put, List.setIfInBounds_toArray, List.set_cons_zero, List.set_cons_succ]
          refine held_take (i := 1) (fuel := 12) (v := ?_) (by rw [List.getElem?_toArray]; rfl) (by kernel_rfl) (by kernel_rfl) (by kernel_rfl) hHeld ?_ ?_ ?_ ?_
          rotate_left
          · intro u hSw
            go_simp
            try with_reducible rfl
          · rfl
          · exact fun _ _ _ h => h
          try simp only [Act.put, List.setIfInBounds_toArray, List.set_cons_zero, List.set_cons_succ]
          refine held_take (i := 2) (fuel := 11) (v := ?_) (by rw [List.getElem?_toArray]; rfl) (by kernel_rfl) (by kernel_rfl) (by kernel_rfl) hHeld ?_ ?_ ?_ ?_
          rotate_left
          · intro u hSw
            go_simp
            try with_reducible rfl
          · rfl
          · exact fun _ _ _ h => h
          try simp only [Act.put, List.setIfInBounds_toArray, List.set_cons_zero, List.set_cons_succ]
          refine held_take (i := 3) (fuel := 10) (v := ?_) (by rw [List.getElem?_toArray]; rfl) (by kernel_rfl) (by kernel_rfl) (by kernel_rfl) hHeld ?_ ?_ ?_ ?_
          rotate_left
          · intro u hSw
            go_simp
            try with_reducible rfl
          · rfl
          · exact fun _ _ _ h => h
          try simp only [Act.put, List.setIfInBounds_toArray, List.set_cons_zero, List.set_cons_succ]
          refine held_take (i := 6) (fuel := 9) (v := ?_) (by rw [List.getElem?_toArray]; rfl) (by kernel_rfl) (by kernel_rfl) (by kernel_rfl) hHeld ?_ ?_ ?_ ?_
          rotate_left
          · intro u hSw
            go_simp
            try with_reducible rfl
          · rfl
          · exact fun _ _ _ h => h
          try simp only [Act.put, List.setIfInBounds_toArray, List.set_cons_zero, List.set_cons_succ]
          refine held_take (i := 7) (fuel := 8) (v := ?_) (by rw [List.getElem?_toArray]; rfl) (by kernel_rfl) (by kernel_rfl) (by kernel_rfl) hHeld ?_ ?_ ?_ ?_
          rotate_left
          · intro u hSw
            go_simp
            try with_reducible rfl
          · rfl
          · exact fun _ _ _ h => h
          try simp only [Act.put, List.setIfInBounds_toArray, List.set_cons_zero, List.set_cons_succ]
          refine held_one (i := 4) (fuel := 7) (by kernel_rfl) (by rw [List.getElem?_toArray]; rfl) (fun K hK => ?_)
          go_simp
          refine (pack_any _ A5 n5 c5 _ R5.out (by omega)).mono ?_
          rintro e w6 ⟨A6, n6, c6, rfl, ho6, hb6⟩
          rw [HPK.out] at ho6
          refine hK.out _ _ ?_ (fun hHeld => ?_)
          · exact hHeld.call hb6
          clear hK K
          try simp only [Act.put, List.setIfInBounds_toArray, List.set_cons_zero, List.set_cons_succ]
          refine held_more (Held2 w w6) (fun w h => hHeld.imp h) (hHeld.new) (fun hHeld => ?_)
          have k6 : ∀ u, Held2 w w6 u → (convert 33 9 (.slice A6 n6 c6)).run Try.prog u = .ok (.string ⟨l0.toArray⟩) u := fun u hu => toStr6 ((Rd.of_own ho6).below hu.2) c6
          clear ho6 hb6
          refine held_take (i := 5) (fuel := 6) (v := ?_) (by rw [List.getElem?_toArray]; rfl) (by kernel_rfl) (by kernel_rfl) (by kernel_rfl) hHeld ?_ ?_ ?_ ?_
          rotate_left
          · intro u hSw
            go_simp
            try with_reducible rfl
          · rfl
          · exact fun _ _ _ h => h
          try simp only [Act.put, List.setIfInBounds_toArray, List.set_cons_zero, List.set_cons_succ]
          refine held_take (i := 8) (fuel := 5) (v := ?_) (by rw [List.getElem?_toArray]; rfl) (by kernel_rfl) (by kernel_rfl) (by kernel_rfl) hHeld ?_ ?_ ?_ ?_
          rotate_left
          · intro u hSw
            go_simp
            try with_reducible rfl
          · rfl
          · exact fun _ _ _ h => h
          try simp only [Act.put, List.setIfInBounds_toArray, List.set_cons_zero, List.set_cons_succ]
          refine held_take (i := 9) (fuel := 4) (v := ?_) (by rw [List.getElem?_toArray]; rfl) (by kernel_rfl) (by kernel_rfl) (by kernel_rfl) hHeld ?_ ?_ ?_ ?_
          rotate_left
          · intro u hSw
            go_simp
            try with_reducible rfl
          · rfl
          · exact fun _ _ _ h => h
          try simp only [Act.put, List.setIfInBounds_toArray, List.set_cons_zero, List.set_cons_succ]
          refine held_take (i := 10) (fuel := 3) (v := ?_) (by rw [List.getElem?_toArray]; rfl) (by kernel_rfl) (by kernel_rfl) (by kernel_rfl) hHeld ?_ ?_ ?_ ?_
          rotate_left
          · intro u hSw
            go_simp
            try with_reducible rfl
          · rfl
          · exact fun _ _ _ h => h
          try simp only [Act.put, List.setIfInBounds_toArray, List.set_cons_zero, List.set_cons_succ]
          refine held_one (i := 11) (fuel := 2) (by kernel_rfl) (by rw [List.getElem?_toArray]; rfl) (fun K hK => ?_)
          go_simp
          refine (awake_any _).mono ?_
          rintro e w7 ⟨rfl, hb7⟩
          refine hK.out _ _ ?_ (fun hHeld => ?_)
          · exact hHeld.call hb7
          clear hK K
          try simp only [Act.put, List.setIfInBounds_toArray, List.set_cons_zero, List.set_cons_succ]
          refine held_take (i := 12) (fuel := 1) (v := ?_) (by rw [List.getElem?_toArray]; rfl) (by kernel_rfl) (by kernel_rfl) (by kernel_rfl) hHeld ?_ ?_ ?_ ?_
          rotate_left
          · intro u hSw
            go_simp
            try with_reducible rfl
          · rfl
          · exact fun _ _ _ h => h
          try simp only [Act.put, List.setIfInBounds_toArray, List.set_cons_zero, List.set_cons_succ]
          refine held_take (i := 13) (fuel := 0) (v := ?_) (by rw [List.getElem?_toArray]; rfl) (by kernel_rfl) (by kernel_rfl) (by kernel_rfl) hHeld ?_ ?_ ?_ ?_
          rotate_left
          · intro u hSw
            go_simp
            try with_reducible rfl
          · rfl
          · exact fun _ _ _ h => h
          try simp only [Act.put, List.setIfInBounds_toArray, List.set_cons_zero, List.set_cons_succ]
          refine wpAnyH_done (by kernel_rfl) ?_ _
          have J6 := hHeld.1
          go_wp2
          go_ret
          exact ⟨rfl, J6⟩
        · have t0 : (upE (unpackL l0) != 0) = true := by rw [bne_iff_ne]; exact hE
          obtain ⟨er, her⟩ : ∃ er, er = upE (unpackL l0) := ⟨_, rfl⟩
          rw [← her] at t0 ⊢
          clear hE her
          go_wp2_with fail
          refine wp_region_held_drew (S := Held2 w w5) (by kernel_rfl) (Held2.start HB5.out) (fun hHeld => ?_)
          refine held_take (i := 0) (fuel := 13) (v := ?_) (by rw [List.getElem?_toArray]; rfl) (by kernel_rfl) (by kernel_rfl) (by kernel_rfl) hHeld ?_ ?_ ?_ ?_
          rotate_left
          · intro u hSw
            go_simp
            try with_reducible rfl
          · rfl
          · exact fun _ _ _ h => h
          try simp only [Act.put, List.setIfInBounds_toArray, List.set_cons_zero, List.set_cons_succ]
          refine held_take (i := 1) (fuel := 12) (v := ?_) (by rw [List.getElem?_toArray]; rfl) (by kernel_rfl) (by kernel_rfl) (by kernel_rfl) hHeld ?_ ?_ ?_ ?_
          rotate_left
          · intro u hSw
            go_simp
            try with_reducible rfl
          · rfl
          · exact fun _ _ _ h => h
          try simp only [Act.put, List.setIfInBounds_toArray, List.set_cons_zero, List.set_cons_succ]
          refine held_take (i := 2) (fuel := 11) (v := ?_) (by rw [List.getElem?_toArray]; rfl) (by kernel_rfl) (by kernel_rfl) (by kernel_rfl) hHeld ?_ ?_ ?_ ?_
          rotate_left
          · intro u hSw
            go_simp
            try with_reducible rfl
          · rfl
          · exact fun _ _ _ h => h
          try simp only [Act.put, List.setIfInBounds_toArray, List.set_cons_zero, List.set_cons_succ]
          refine held_skip (i := 3) (fuel := 10) (by rw [List.getElem?_toArray]; rfl) (by kernel_rfl) (by kernel_rfl) (by kernel_rfl) hHeld ?_ ?_ ?_
          · rfl
          · exact fun _ _ _ h => h
          try simp only [Act.put, List.setIfInBounds_toArray, List.set_cons_zero, List.set_cons_succ]
          refine held_skip (i := 4) (fuel := 9) (by rw [List.getElem?_toArray]; rfl) (by kernel_rfl) (by kernel_rfl) (by kernel_rfl) hHeld ?_ ?_ ?_
          · rfl
          · exact fun _ _ _ h => h
          try simp only [Act.put, List.setIfInBounds_toArray, List.set_cons_zero, List.set_cons_succ]
          refine held_skip (i := 5) (fuel := 8) (by rw [List.getElem?_toArray]; rfl) (by kernel_rfl) (by kernel_rfl) (by kernel_rfl) hHeld ?_ ?_ ?_
          · rfl
          · exact fun _ _ _ h => h
          try simp only [Act.put, List.setIfInBounds_toArray, List.set_cons_zero, List.set_cons_succ]
          refine held_skip (i := 6) (fuel := 7) (by rw [List.getElem?_toArray]; rfl) (by kernel_rfl) (by kernel_rfl) (by kernel_rfl) hHeld ?_ ?_ ?_
          · rfl
          · exact fun _ _ _ h => h
          try simp only [Act.put, List.setIfInBounds_toArray, List.set_cons_zero, List.set_cons_succ]
          refine held_skip (i := 7) (fuel := 6) (by rw [List.getElem?_toArray]; rfl) (by kernel_rfl) (by kernel_rfl) (by kernel_rfl) hHeld ?_ ?_ ?_
          · rfl
          · exact fun _ _ _ h => h
          try simp only [Act.put, List.setIfInBounds_toArray, List.set_cons_zero, List.set_cons_succ]
          refine held_skip (i := 8) (fuel := 5) (by rw [List.getElem?_toArray]; rfl) (by kernel_rfl) (by kernel_rfl) (by kernel_rfl) hHeld ?_ ?_ ?_
          · rfl
          · exact fun _ _ _ h => h
          try simp only [Act.put, List.setIfInBounds_toArray, List.set_cons_zero, List.set_cons_succ]
          refine held_take (i := 9) (fuel := 4) (v := ?_) (by rw [List.getElem?_toArray]; rfl) (by kernel_rfl) (by kernel_rfl) (by kernel_rfl) hHeld ?_ ?_ ?_ ?_
          rotate_left
          · intro u hSw
            go_simp
            try with_reducible rfl
          · rfl
          · exact fun _ _ _ h => h
          try simp only [Act.put, List.setIfInBounds_toArray, List.set_cons_zero, List.set_cons_succ]
          refine held_take (i := 10) (fuel := 3) (v := ?_) (by rw [List.getElem?_toArray]; rfl) (by kernel_rfl) (by kernel_rfl) (by kernel_rfl) hHeld ?_ ?_ ?_ ?_
          rotate_left
          · intro u hSw
            go_simp
            try with_reducible rfl
          · rfl
          · exact fun _ _ _ h => h
          try simp only [Act.put, List.setIfInBounds_toArray, List.set_cons_zero, List.set_cons_succ]
          refine held_one (i := 11) (fuel := 2) (by kernel_rfl) (by rw [List.getElem?_toArray]; rfl) (fun K hK => ?_)
          go_simp
          refine (awake_any _).mono ?_
          rintro e w7 ⟨rfl, hb7⟩
          refine hK.out _ _ ?_ (fun hHeld => ?_)
          · exact hHeld.call hb7
          clear hK K
          try simp only [Act.put, List.setIfInBounds_toArray, List.set_cons_zero, List.set_cons_succ]
          refine held_take (i := 12) (fuel := 1) (v := ?_) (by rw [List.getElem?_toArray]; rfl) (by kernel_rfl) (by kernel_rfl) (by kernel_rfl) hHeld ?_ ?_ ?_ ?_
          rotate_left
          · intro u hSw
            go_simp
            try with_reducible rfl
          · rfl
          · exact fun _ _ _ h => h
          try simp only [Act.put, List.setIfInBounds_toArray, List.set_cons_zero, List.set_cons_succ]
          refine held_take (i := 13) (fuel := 0) (v := ?_) (by rw [List.getElem?_toArray]; rfl) (by kernel_rfl) (by kernel_rfl) (by kernel_rfl) hHeld ?_ ?_ ?_ ?_
          rotate_left
          · intro u hSw
            go_simp
            try with_reducible rfl
          · rfl
          · exact fun _ _ _ h => h
          try simp only [Act.put, List.setIfInBounds_toArray, List.set_cons_zero, List.set_cons_succ]
          refine wpAnyH_done (by kernel_rfl) ?_ _
          have J6 := hHeld.1
          go_wp2
          go_ret
          exact ⟨rfl, J6⟩
  · clear h h0
    by_cases hn1 : (n : Int) ≤ 500
    · have hm : ¬ (m : Int) ≤ 500 := fun e => hn ⟨hn1, e⟩
      clear hn
      go_enter Try.func7, Try.ntmps7
      go_wp2_with fail
      refine (awake_any _).mono ?_
      rintro e w4 ⟨rfl, hb4⟩
      go_wp2_with fail
      go_ret
      exact ⟨rfl, hb4⟩
    · clear hn
      go_enter Try.func7, Try.ntmps7
      go_wp2_with fail
      refine (awake_any _).mono ?_
      rintro e w4 ⟨rfl, hb4⟩
      go_wp2_with fail
      go_ret
      exact ⟨rfl, hb4⟩

end Go.Proofs.Ytdolmhnajofkoaa
