/- Contract of the reference's Make of a pool. -/
import Derived.Test.YtpfkkmjodhpkoaaGreatDoorPolG
import Derived.Test.YtpfkkmjodhpkoaaGreatDoorAbbC
import Derived.Test.YtpfkkmjodhpkoaaGreatDoorPolR
import Derived.Test.YtpfkkmjodhpkoaaGreatDoorAlpR
import Derived.Test.YtpfkkmjodhpkoaaGreatDoorTellsR
import Derived.Deep.RegionHeld3
namespace Go.Proofs.YtpfkkmjodhpkoaaGreatDoor
open Go.RowKit

set_option maxRecDepth 100000 in
set_option maxHeartbeats 6400000 in
theorem rmake_any (w : World) (A : Option Addr) (n c : Nat) (ls : List (List UInt8)) (h : RdS w w.heap.size A n ls) (hs : Short_ 1000 ls) (htt : n + tot ls ≤ 10000) :
    Calls Tryz.prog 24 #[.slice A n c] w (OutPool w ls) := by
  obtain ⟨i0, hi, hz0, hsz, hby⟩ := inf_parts Tryz.inf_int
  obtain ⟨j0, hji, hjz, hjs, hjb⟩ := inf_parts Tryz.inf_u8
  have HI := Lib.hid hi
  have HZ0 := Lib.hid hz0
  have HSZ := Lib.hid hsz
  have HBY := Lib.hid hby
  have HJ := Lib.hid hji
  have HJZ := Lib.hid hjz
  have HJS := Lib.hid hjs
  have HJB := Lib.hid hjb
  have H := Lib.hid h
  have HL := Lib.hid h.1
  have HS := Lib.hid hs
  have HTT := Lib.hid htt
  have hn : n ≤ 10000 := by omega
  have HB0 : Hid (Below w.heap.size w (w.alloc (.cells #[.slice none 0 0, .slice none 0 0, .slice none 0 0] 26))) := Lib.hid ((Below.refl _ _).alloc (Nat.le_refl _) _)
  have HK0 : Hid (Blk (w.alloc (.cells #[.slice none 0 0, .slice none 0 0, .slice none 0 0] 26)) w.heap.size 26 #[.slice none 0 0, .slice none 0 0, .slice none 0 0]) := Lib.hid (Blk.new w _ _)
  clear hi hz0 hsz hby hji hjz hjs hjb h hs htt
  by_cases h0 : 4096 < n
  · have HE : Hid (mkE ls = 7) := Lib.hid (by unfold mkE; rw [if_pos (by rw [HL.out]; exact h0)])
    have h0' : (4096 : Int) < n := by omega
    have HKZ := HK0
    clear h0
    go_enter Tryz.func24, Tryz.ntmps24
    go_wp2_with (refine wpList_store_row rfl 26 _ _ rfl w.heap.size #[.slice none 0 0, .slice none 0 0, .slice none 0 0] rfl rfl _ _ HKZ.out pool_size rfl (three_one _ _ _ _ _ _ _ _ _) ?_)
    (try simp only [Exit.inBlock, Exit.then]); refine bodyPost_ret (results_pool rfl _ _ _ _ _ _ _ rfl (setRow_heap _ _ _ _ _ _ HKZ.out) Tryz.underlying26 rfl (by kernel_rfl)) rfl ?_
    exact OutPool.bad HE.out (by decide) (below_setRow HB0.out (Nat.le_refl _) _)
  · have h0' : ¬ (4096 : Int) < n := by omega
    have HN := Lib.hid h0
    clear h0
    go_enter Tryz.func24, Tryz.ntmps24
    go_wp2_with fail
    go_loopw [4] (fun i w1 => ∃ j : Nat, j ≤ n ∧ i = .int .i64 j ∧ Hid (∀ m, m < j → textB (ls[m]?.getD []) = true) ∧ Hid (Blk w1 w.heap.size 26 #[.slice none 0 0, .slice none 0 0, .slice none 0 0]) ∧ Hid (Below w.heap.size w w1)) (fun i _ => n - (intOf i).toNat)
    case atStart => exact ⟨0, Nat.zero_le _, rfl, Lib.hid (fun m hm => absurd hm (by omega)), HK0, HB0⟩
    case round =>
      obtain ⟨j, hj, rfl, HT, HKZ, HBZ⟩ := hrel
      by_cases hlt : j < n
      · obtain ⟨ad, rfl, hab, hc⟩ := H.out.2 (by omega)
        have k1 := (HBZ.out.cell (p := ad.add j) (by rw [blk_add]; exact hab)).trans (hc j (by rw [HL.out]; exact hlt))
        have hl := HS.out j
        obtain ⟨x, hx⟩ : ∃ x, x = ls[j]?.getD [] := ⟨_, rfl⟩
        rw [← hx] at k1 hl
        have HX := Lib.hid hx
        clear hc hx
        go_wp2_with fail
        refine (rtext_any _ (bs x) (by rw [bs_size]; omega)).mono ?_
        rintro e w3 ⟨rfl, rfl⟩
        rw [data_bs]
        cases ht : textB x with
        | true =>
          have HT2 : Hid (∀ m, m < j + 1 → textB (ls[m]?.getD []) = true) := Lib.hid (fun m hm => by
            by_cases e2 : m = j
            · subst e2; rw [← HX.out, ht]
            · exact HT.out m (by omega))
          clear ht
          go_wp2_with fail
          go_roundw
          case rel => exact ⟨j + 1, by omega, by go_num, HT2, HKZ, HBZ⟩
          case measure => simp [intOf]; omega
        | false =>
          have HE : Hid (mkE ls = 13) := Lib.hid (mkE_no (j := j) (by have := HN.out; rw [HL.out]; omega) (by rw [HL.out]; exact hlt) (by rw [← HX.out, ht]))
          clear ht
          go_wp2_with (refine wpList_store_row rfl 26 _ _ rfl w.heap.size #[.slice none 0 0, .slice none 0 0, .slice none 0 0] rfl rfl _ _ HKZ.out pool_size rfl (three_one _ _ _ _ _ _ _ _ _) ?_)
          (try simp only [Exit.inBlock, Exit.then]); refine bodyPost_ret (results_pool rfl _ _ _ _ _ _ _ rfl (setRow_heap _ _ _ _ _ _ HKZ.out) Tryz.underlying26 rfl (by kernel_rfl)) rfl ?_
          exact OutPool.bad HE.out (by decide) (below_setRow HBZ.out (Nat.le_refl _) _)
      · have HE : Hid (mkE ls = 0) := Lib.hid (mkE_of (by have := HN.out; rw [HL.out]; omega) (fun s hs => by
          obtain ⟨m, hm, rfl⟩ := List.getElem_of_mem hs
          have h := HT.out m (by rw [HL.out] at hm; omega)
          rw [List.getElem?_eq_getElem hm] at h
          exact h))
        obtain ⟨w1, hw1⟩ : ∃ w1, w1 = wr := ⟨_, rfl⟩
        have HB1 : Hid (Below w.heap.size w w1) := Lib.hid (by rw [hw1]; exact HBZ.out)
        have HK1 : Hid (Blk w1 w.heap.size 26 #[.slice none 0 0, .slice none 0 0, .slice none 0 0]) := Lib.hid (by rw [hw1]; exact HKZ.out)
        have hs1 := HB1.out.size
        have HTX := Lib.hid (mkE_ok HE.out).2
        rw [← hw1]
        clear HT HKZ HBZ hw1
        have HBL : Hid ((bitsP (chooseL ls 31) ls).length ≤ 30000) := Lib.hid (by
          have h1 := bitsP_len (ab := chooseL ls 31) HTX.out
          have h2 := HTT.out
          have h3 := HL.out
          omega)
        have HAB := Lib.hid (mk_ab ls)
        go_wp2_with fail
        refine (rChoose_any w1 A n c ls 31 ((H.out.below HB1.out).more HB1.out.size) (by have := HL.out; have := HTT.out; omega) HS.out).mono ?_
        rintro e w2 ⟨Aa, na, ca, rfl, ho2, hb2⟩
        have HO2 := Lib.hid ho2
        have HB2 := Lib.hid (HB1.out.trans (hb2.mono HB1.out.size))
        have HK2 := Lib.hid (HK1.out.below hb2 HK1.out.lt)
        have hkl := HK1.out.lt
        have HW2 : Hid (w1.heap.size ≤ w2.heap.size) := Lib.hid hb2.size
        clear ho2 hb2
        obtain ⟨ab, hab⟩ : ∃ ab, ab = chooseL ls 31 := ⟨_, rfl⟩
        have HABE := Lib.hid hab
        rw [← hab] at HO2 HBL HAB
        clear hab
        have HNA := Lib.hid (ownS_len HO2.out)
        have HP0 : Hid (Pl w2 ((w2.alloc (.cells #[.slice none 0 0, .slice none 0 0, .slice none 0 0] 26)).setRow w2.heap.size #[.slice Aa na ca, .slice none 0 0, .slice none 0 0]) Aa na ca none 0 none 0 0 ab ls 0) := Lib.hid ⟨setRow_heap _ _ _ _ _ _ (Blk.new w2 _ _), ownI_nil _ _ _, own_nil _ _ _, below_setRow ((Below.refl _ _).alloc (Nat.le_refl _) _) (Nat.le_refl _) _⟩
        go_wp2_with (refine wpList_store_row rfl 26 _ _ rfl w2.heap.size #[.slice Aa na ca, .slice none 0 0, .slice none 0 0] rfl rfl _ _ (Blk.new w2 _ _) pool_size rfl (three_one _ _ _ _ _ _ _ _ _) ?_)
        go_loopw [6] (fun i wr => ∃ (At : Option Addr) (ct : Nat) (Ab : Option Addr) (nb cb j : Nat), j ≤ n ∧ i = .int .i64 j ∧ Hid (Pl w2 wr Aa na ca At ct Ab nb cb ab ls j)) (fun i _ => n - (intOf i).toNat)
        case atStart => exact ⟨none, 0, none, 0, 0, 0, Nat.zero_le _, rfl, HP0⟩
        case round =>
          obtain ⟨At, ct, Ab, nb, cb, j, hj, rfl, HP⟩ := hrel
          have ka : wr.cell? ⟨w2.heap.size, 0, none⟩ = some (.slice Aa na ca) := HP.out.blk.cell 0
          have kt : wr.cell? ⟨w2.heap.size, 1, none⟩ = some (.slice At j ct) := HP.out.blk.cell 1
          have kb : wr.cell? ⟨w2.heap.size, 2, none⟩ = some (.slice Ab nb cb) := HP.out.blk.cell 2
          have hwz := HP.out.blk.lt
          have hnb : nb ≤ 30000 := by
            have h1 := own_len HP.out.oab
            have h2 := offP_le ab ls j
            have h3 := HBL.out
            unfold offP at h2
            omega
          by_cases hlt : j < n
          · obtain ⟨ad, rfl, hadb, hcell⟩ := H.out.2 (by omega)
            have hb02 := HB2.out.trans (HP.out.bel.mono HB2.out.size)
            have kx := (hb02.cell (p := ad.add j) (by rw [blk_add]; exact hadb)).trans (hcell j (by rw [HL.out]; exact hlt))
            have HOF := Lib.hid (offs_take (ab := ab) (ls := ls) (j := j) (by rw [HL.out]; exact hlt))
            have HBT := Lib.hid (bitsP_take (ab := ab) (ls := ls) (j := j) (by rw [HL.out]; exact hlt))
            have HTS : Hid (textB (ls[j]?.getD []) = true) := Lib.hid (by
              rw [List.getElem?_eq_getElem (by rw [HL.out]; exact hlt)]
              exact HTX.out _ (List.getElem_mem _))
            have hsl := HS.out j
            have HNB : Hid (offP ab ls j = nb) := Lib.hid (own_len HP.out.oab)
            obtain ⟨s, hse⟩ : ∃ s, s = ls[j]?.getD [] := ⟨_, rfl⟩
            rw [← hse] at kx HBT HTS hsl
            have HKX0 := Lib.hid ((hcell j (by rw [HL.out]; exact hlt)).trans (by rw [← hse]))
            have HCS := Lib.hid (cut_size ab s)
            have HSP : Hid (ShortP 1000 (cutL ab s)) := Lib.hid (fun k => by have h1 := HCS.out.2 k; omega)
            have HQ2 : Hid (∀ k : Nat, ((cutL ab s)[k]?.getD ([], 0)).2 ≤ 1000) := Lib.hid (fun k => by
              by_cases hk : k < (cutL ab s).length
              · rw [List.getElem?_eq_getElem hk]
                have h1 := ((cut_spec ab s).2 _ (List.getElem_mem hk)).2.2
                show ((cutL ab s)[k]).2 ≤ 1000
                omega
              · rw [List.getElem?_eq_none (by omega)]
                show (0 : Int) ≤ 1000
                omega)
            have hcellx : ∀ u, Below w2.heap.size w2 u → u.cell? (ad.add j) = some (.string (bs s)) := fun u hu => ((HB2.out.trans (hu.mono HB2.out.size)).cell (p := ad.add j) (by rw [blk_add]; exact hadb)).trans HKX0.out
            have HCL : Hid ((ccodes ab s).length ≤ 3000) := Lib.hid (by
              have h1 := ccodes_le (ab := ab) HTS.out
              omega)
            clear hcell hb02 hse
            clear HKX0
            go_wp2_with (at_builtin; refine wpList_app1L _ rfl _ _ 23 rfl (w2.heap.size + 1) 3 i0 _ 8 Tryz.underlying23 HI.out HZ0.out HSZ.out HBY.out rfl _ j _ rfl (HP.out.oat.alloc _) ⟨_, 0, none⟩ 1 (.int .i64 nb) rfl (new_cell _ _ _) rfl (by omega) (by unfold maxLen; omega) (by simp; omega) ?_; intro At5 ct5 w5 hown5 hg5 hw5; have HK5 := Lib.hid ((HP.out.blk.alloc _).grown hg5 (fun e => own_not HP.out.oat (Nat.lt_succ_self _) e.symm)); have HU5 := Lib.hid (own_other HP.out.oab HP.out.oat (by decide) hg5); have HT5 : Hid (w5.ownsRow (w2.heap.size + 1) 3 1 (.slice At5 (j + 1) ct5) (j + 1) (iv (offs ab (ls.take (j + 1))))) := Lib.hid (by rw [HOF.out, iv_snoc, HNB.out]; exact hown5); have HB5 : Hid (Below w2.heap.size w2 w5) := Lib.hid (app_below (own_base HP.out.oat (Nat.le_succ _)) HP.out.bel hg5); have ka5 : w5.cell? ⟨w2.heap.size, 0, none⟩ = some (.slice Aa na ca) := HK5.out.cell 0; have kb5 : w5.cell? ⟨w2.heap.size, 2, none⟩ = some (.slice Ab nb cb) := HK5.out.cell 2; have kt5 : w5.cell? ⟨w2.heap.size, 1, none⟩ = some (.slice At j ct) := HK5.out.cell 1; have kz5 : w5.frozen? ⟨w2.heap.size, 1, none⟩ = false := HK5.out.frozen 1; clear hown5 hg5 hw5)
            obtain ⟨X, hX⟩ : ∃ X, X = w5.setCell ⟨w2.heap.size, 1, none⟩ (.slice At5 (j + 1) ct5) := ⟨_, rfl⟩
            rw [← hX]
            have HKX : Hid (Blk X.drew w2.heap.size 26 #[.slice Aa na ca, .slice At5 (j + 1) ct5, .slice Ab nb cb]) := Lib.hid (by rw [hX]; exact HK5.out.set_ 1 _)
            have HTX5 : Hid (X.drew.ownsRow (w2.heap.size + 1) 3 1 (.slice At5 (j + 1) ct5) (j + 1) (iv (offs ab (ls.take (j + 1))))) := Lib.hid (by rw [hX]; exact (own_set HT5.out (Nat.lt_succ_self _) 1 _).drew)
            have HUX5 : Hid (X.drew.ownsRow (w2.heap.size + 1) 5 1 (.slice Ab nb cb) nb (bc (bitsP ab (ls.take j)))) := Lib.hid (by rw [hX]; exact (own_set HU5.out (Nat.lt_succ_self _) 1 _).drew)
            have HBX : Hid (Below w2.heap.size w2 X) := Lib.hid (by rw [hX]; exact HB5.out.setCell (Nat.le_refl _) _)
            have kaX : X.cell? ⟨w2.heap.size, 0, none⟩ = some (.slice Aa na ca) := HKX.out.cell 0
            have kbX : X.cell? ⟨w2.heap.size, 2, none⟩ = some (.slice Ab nb cb) := HKX.out.cell 2
            clear hX HK5 HU5 HT5 HB5 ka5 kb5 kt5 kz5 ka kt kb kx
            refine wp_region_held_drew (S := Below w2.heap.size w2) (by kernel_rfl) HBX.out.drew (fun hHeld => ?_)
            refine held_take (i := 0) (fuel := 13) (v := ?_) (by rw [List.getElem?_toArray]; rfl) (by kernel_rfl) (by kernel_rfl) (by kernel_rfl) hHeld ?_ ?_ ?_ ?_
            rotate_left
            · intro u hSw
              go_simp
              try with_reducible rfl
            · rfl
            · exact fun _ _ _ h => h
            try simp only [Act.put, List.setIfInBounds_toArray, List.set_cons_zero, List.set_cons_succ]
            refine held_take (i := 2) (fuel := 12) (v := ?_) (by rw [List.getElem?_toArray]; rfl) (by kernel_rfl) (by kernel_rfl) (by kernel_rfl) hHeld ?_ ?_ ?_ ?_
            rotate_left
            · intro u hSw
              go_simp
              try with_reducible rfl
            · rfl
            · exact fun _ _ _ h => h
            try simp only [Act.put, List.setIfInBounds_toArray, List.set_cons_zero, List.set_cons_succ]
            refine held_take (i := 3) (fuel := 11) (v := ?_) (by rw [List.getElem?_toArray]; rfl) (by kernel_rfl) (by kernel_rfl) (by kernel_rfl) hHeld ?_ ?_ ?_ ?_
            rotate_left
            · intro u hSw
              go_simp
              try with_reducible rfl
            · rfl
            · exact fun _ _ _ h => h
            try simp only [Act.put, List.setIfInBounds_toArray, List.set_cons_zero, List.set_cons_succ]
            refine held_take (i := 4) (fuel := 10) (v := ?_) (by rw [List.getElem?_toArray]; rfl) (by kernel_rfl) (by kernel_rfl) (by kernel_rfl) hHeld ?_ ?_ ?_ ?_
            rotate_left
            · intro u hSw
              go_simp
              try with_reducible rfl
            · rfl
            · exact fun _ _ _ h => h
            try simp only [Act.put, List.setIfInBounds_toArray, List.set_cons_zero, List.set_cons_succ]
            refine held_take (i := 5) (fuel := 9) (v := ?_) (by rw [List.getElem?_toArray]; rfl) (by kernel_rfl) (by kernel_rfl) (by kernel_rfl) hHeld ?_ ?_ ?_ ?_
            rotate_left
            · intro u hSw
              have hcu := hcellx u hSw
              go_simp
              try with_reducible rfl
            · rfl
            · exact fun _ _ _ h => h
            try simp only [Act.put, List.setIfInBounds_toArray, List.set_cons_zero, List.set_cons_succ]
            refine held_take (i := 6) (fuel := 8) (v := ?_) (by rw [List.getElem?_toArray]; rfl) (by kernel_rfl) (by kernel_rfl) (by kernel_rfl) hHeld ?_ ?_ ?_ ?_
            rotate_left
            · intro u hSw
              go_simp
              try with_reducible rfl
            · rfl
            · exact fun _ _ _ h => h
            try simp only [Act.put, List.setIfInBounds_toArray, List.set_cons_zero, List.set_cons_succ]
            refine wpAnyH_ready (rs := [1, 7]) (fuel := 7) (by kernel_rfl) (by simp) ?_
            refine AllReadyH.cons (by rw [List.getElem?_toArray]; rfl) (fun K hK => ?_) ?_
            ·
              go_simp
              refine hK.out _ _ ?_ (fun hHeld => ?_)
              · exact hHeld
              clear hK K
              try simp only [Act.put, List.setIfInBounds_toArray, List.set_cons_zero, List.set_cons_succ]
              refine held_one (i := 7) (fuel := 6) (by kernel_rfl) (by rw [List.getElem?_toArray]; rfl) (fun K hK => ?_)
              go_simp
              refine hK.out _ _ ?_ (fun hHeld => ?_)
              · exact hHeld
              clear hK K
              try simp only [Act.put, List.setIfInBounds_toArray, List.set_cons_zero, List.set_cons_succ]
              refine held_one (i := 8) (fuel := 5) (by kernel_rfl) (by rw [List.getElem?_toArray]; rfl) (fun K hK => ?_)
              go_simp
              refine (rCut_any _ (bs s) Aa na ca ab (((RdS.of_own HO2.out).below hHeld).more hHeld.size) (by rw [bs_size]; omega) (short_of_mem fun q hq => by have := HAB.out.2 q hq; omega) (by have := HNA.out; have := HAB.out.1; omega)).mono ?_
              rw [data_bs]
              rintro e w6 ⟨A6, m6, c6, rfl, ho6, hb6⟩
              refine hK.out _ _ ?_ (fun hHeld => ?_)
              · exact hHeld.trans (hb6.mono hHeld.size)
              clear hK K
              try simp only [Act.put, List.setIfInBounds_toArray, List.set_cons_zero, List.set_cons_succ]
              have R6 := Lib.hid (RdP.of_own ho6)
              have hm6 : m6 ≤ 1000 := by
                have h1 := ownP_len ho6
                have h2 := HCS.out.1
                omega
              have HK6 := Lib.hid (HKX.out.below hb6 HKX.out.lt)
              have HT6 := Lib.hid (own_below HTX5.out hb6)
              have HU6 := Lib.hid (own_below HUX5.out hb6)
              have ka6 : w6.cell? ⟨w2.heap.size, 0, none⟩ = some (.slice Aa na ca) := HK6.out.cell 0
              have kb6 : w6.cell? ⟨w2.heap.size, 2, none⟩ = some (.slice Ab nb cb) := HK6.out.cell 2
              clear ho6 hb6
              refine held_one (i := 9) (fuel := 4) (by kernel_rfl) (by rw [List.getElem?_toArray]; rfl) (fun K hK => ?_)
              go_simp
              refine (rpcodes_any _ A6 m6 c6 (cutL ab s) R6.out HSP.out HQ2.out (by omega) (by have := HCL.out; unfold ccodes at this; omega)).mono ?_
              rintro e w7 ⟨A7, m7, c7, rfl, ho7, hb7⟩
              refine hK.out _ _ ?_ (fun hHeld => ?_)
              · exact hHeld.trans (hb7.mono hHeld.size)
              clear hK K
              try simp only [Act.put, List.setIfInBounds_toArray, List.set_cons_zero, List.set_cons_succ]
              have R7 := Lib.hid (RdI.of_iv (zs := ccodes ab s) ho7 (FitI.of_range (ccodes_range HAB.out.1 s)))
              have hm7 : (ccodes ab s).length = m7 := ownI_len ho7
              have hm7b := HCL.out
              have HK7 := Lib.hid (HK6.out.below hb7 HK6.out.lt)
              have HT7 := Lib.hid (own_below HT6.out hb7)
              have HU7 := Lib.hid (own_below HU6.out hb7)
              have ka7 : w7.cell? ⟨w2.heap.size, 0, none⟩ = some (.slice Aa na ca) := HK7.out.cell 0
              have kb7 : w7.cell? ⟨w2.heap.size, 2, none⟩ = some (.slice Ab nb cb) := HK7.out.cell 2
              clear ho7 hb7
              refine held_one (i := 10) (fuel := 3) (by kernel_rfl) (by rw [List.getElem?_toArray]; rfl) (fun K hK => ?_)
              go_simp
              refine (rpack_any _ A7 m7 c7 (ccodes ab s) R7.out (by omega)).mono ?_
              rintro e w8 ⟨A8, m8, c8, rfl, ho8, hb8⟩
              refine hK.out _ _ ?_ (fun hHeld => ?_)
              · exact hHeld.trans (hb8.mono hHeld.size)
              clear hK K
              try simp only [Act.put, List.setIfInBounds_toArray, List.set_cons_zero, List.set_cons_succ]
              have R8 := Lib.hid (Rd.of_own ho8)
              have hm8 : m8 ≤ 5000 := by
                have h1 := own_len ho8
                rw [packL_len] at h1
                have h2 := HCL.out
                omega
              have HK8 := Lib.hid (HK7.out.below hb8 HK7.out.lt)
              have HT8 := Lib.hid (own_below HT7.out hb8)
              have HU8 := Lib.hid (own_below HU7.out hb8)
              have ka8 : w8.cell? ⟨w2.heap.size, 0, none⟩ = some (.slice Aa na ca) := HK8.out.cell 0
              have kb8 : w8.cell? ⟨w2.heap.size, 2, none⟩ = some (.slice Ab nb cb) := HK8.out.cell 2
              clear ho8 hb8
              refine held_one (i := 11) (fuel := 2) (by kernel_rfl) (by rw [List.getElem?_toArray]; rfl) (fun K hK => ?_)
              refine step_appB _ (by rfl) _ _ 24 (by rfl) (w2.heap.size + 1) 5 j0 Tryz.underlying24 HJ.out HJZ.out HJS.out HJB.out _ nb _ (by rfl) HU8.out w8.heap.size A8 m8 c8 _ (by rfl) R8.out (by omega) HK8.out.lt ?_
              intro A9 c9 w9 hown9 hg9
              refine hK.out _ _ ?_ (fun hHeld => ?_)
              · exact hHeld.trans (below_grown_from hg9 hHeld.size (fun k hk => own_ge1 HU8.out k hk))
              clear hK K
              try simp only [Act.put, List.setIfInBounds_toArray, List.set_cons_zero, List.set_cons_succ]
              have HK9 := Lib.hid (HK8.out.grown hg9 (fun e => own_not HU8.out (Nat.lt_succ_self _) e.symm))
              have HT9 := Lib.hid (own_other0 HT8.out HU8.out (by decide) hg9)
              have HU9 : Hid (w9.ownsRow (w2.heap.size + 1) 5 1 (.slice A9 (nb + m8) c9) (nb + m8) (bc (bitsP ab (ls.take (j + 1))))) := Lib.hid (by rw [HBT.out]; exact hown9)
              have kc9 : w9.cell? ⟨w2.heap.size, 2, none⟩ = some (.slice Ab nb cb) := HK9.out.cell 2
              have kz9 : w9.frozen? ⟨w2.heap.size, 2, none⟩ = false := HK9.out.frozen 2
              clear hown9 hg9
              refine held_take (i := 12) (fuel := 1) (v := ?_) (by rw [List.getElem?_toArray]; rfl) (by kernel_rfl) (by kernel_rfl) (by kernel_rfl) hHeld ?_ ?_ ?_ ?_
              rotate_left
              · intro u hSw
                go_simp
                try with_reducible rfl
              · rfl
              · exact fun _ _ _ h => h
              try simp only [Act.put, List.setIfInBounds_toArray, List.set_cons_zero, List.set_cons_succ]
              refine held_one (i := 13) (fuel := 0) (by kernel_rfl) (by rw [List.getElem?_toArray]; rfl) (fun K hK => ?_)
              go_simp
              refine hK.out _ _ ?_ (fun hHeld => ?_)
              · exact hHeld.setCell (Nat.le_refl _) _
              clear hK K
              try simp only [Act.put, List.setIfInBounds_toArray, List.set_cons_zero, List.set_cons_succ]
              refine wpAnyH_done (by kernel_rfl) ?_ _
              have HP2 : Hid (Pl w2 (w9.setCell ⟨w2.heap.size, 2, none⟩ (.slice A9 (nb + m8) c9)) Aa na ca At5 ct5 A9 (nb + m8) c9 ab ls (j + 1)) := Lib.hid ⟨HK9.out.set_ 2 _, own_set HT9.out (Nat.lt_succ_self _) 2 _, own_set HU9.out (Nat.lt_succ_self _) 2 _, hHeld⟩
              clear hHeld
              go_wp2_with fail
              go_roundw
              case rel => exact ⟨At5, ct5, A9, nb + m8, c9, j + 1, by omega, by go_num, HP2⟩
              case measure => simp [intOf]; omega
            refine AllReadyH.cons (by rw [List.getElem?_toArray]; rfl) (fun K hK => ?_) ?_
            ·
              go_simp
              refine hK.out _ _ ?_ (fun hHeld => ?_)
              · exact hHeld
              clear hK K
              try simp only [Act.put, List.setIfInBounds_toArray, List.set_cons_zero, List.set_cons_succ]
              refine wpAnyH_ready (rs := [1, 8]) (fuel := 6) (by kernel_rfl) (by simp) ?_
              refine AllReadyH.cons (by rw [List.getElem?_toArray]; rfl) (fun K hK => ?_) ?_
              ·
                go_simp
                refine hK.out _ _ ?_ (fun hHeld => ?_)
                · exact hHeld
                clear hK K
                try simp only [Act.put, List.setIfInBounds_toArray, List.set_cons_zero, List.set_cons_succ]
                refine held_one (i := 8) (fuel := 5) (by kernel_rfl) (by rw [List.getElem?_toArray]; rfl) (fun K hK => ?_)
                go_simp
                refine (rCut_any _ (bs s) Aa na ca ab (((RdS.of_own HO2.out).below hHeld).more hHeld.size) (by rw [bs_size]; omega) (short_of_mem fun q hq => by have := HAB.out.2 q hq; omega) (by have := HNA.out; have := HAB.out.1; omega)).mono ?_
                rw [data_bs]
                rintro e w6 ⟨A6, m6, c6, rfl, ho6, hb6⟩
                refine hK.out _ _ ?_ (fun hHeld => ?_)
                · exact hHeld.trans (hb6.mono hHeld.size)
                clear hK K
                try simp only [Act.put, List.setIfInBounds_toArray, List.set_cons_zero, List.set_cons_succ]
                have R6 := Lib.hid (RdP.of_own ho6)
                have hm6 : m6 ≤ 1000 := by
                  have h1 := ownP_len ho6
                  have h2 := HCS.out.1
                  omega
                have HK6 := Lib.hid (HKX.out.below hb6 HKX.out.lt)
                have HT6 := Lib.hid (own_below HTX5.out hb6)
                have HU6 := Lib.hid (own_below HUX5.out hb6)
                have ka6 : w6.cell? ⟨w2.heap.size, 0, none⟩ = some (.slice Aa na ca) := HK6.out.cell 0
                have kb6 : w6.cell? ⟨w2.heap.size, 2, none⟩ = some (.slice Ab nb cb) := HK6.out.cell 2
                clear ho6 hb6
                refine held_one (i := 9) (fuel := 4) (by kernel_rfl) (by rw [List.getElem?_toArray]; rfl) (fun K hK => ?_)
                go_simp
                refine (rpcodes_any _ A6 m6 c6 (cutL ab s) R6.out HSP.out HQ2.out (by omega) (by have := HCL.out; unfold ccodes at this; omega)).mono ?_
                rintro e w7 ⟨A7, m7, c7, rfl, ho7, hb7⟩
                refine hK.out _ _ ?_ (fun hHeld => ?_)
                · exact hHeld.trans (hb7.mono hHeld.size)
                clear hK K
                try simp only [Act.put, List.setIfInBounds_toArray, List.set_cons_zero, List.set_cons_succ]
                have R7 := Lib.hid (RdI.of_iv (zs := ccodes ab s) ho7 (FitI.of_range (ccodes_range HAB.out.1 s)))
                have hm7 : (ccodes ab s).length = m7 := ownI_len ho7
                have hm7b := HCL.out
                have HK7 := Lib.hid (HK6.out.below hb7 HK6.out.lt)
                have HT7 := Lib.hid (own_below HT6.out hb7)
                have HU7 := Lib.hid (own_below HU6.out hb7)
                have ka7 : w7.cell? ⟨w2.heap.size, 0, none⟩ = some (.slice Aa na ca) := HK7.out.cell 0
                have kb7 : w7.cell? ⟨w2.heap.size, 2, none⟩ = some (.slice Ab nb cb) := HK7.out.cell 2
                clear ho7 hb7
                refine held_one (i := 10) (fuel := 3) (by kernel_rfl) (by rw [List.getElem?_toArray]; rfl) (fun K hK => ?_)
                go_simp
                refine (rpack_any _ A7 m7 c7 (ccodes ab s) R7.out (by omega)).mono ?_
                rintro e w8 ⟨A8, m8, c8, rfl, ho8, hb8⟩
                refine hK.out _ _ ?_ (fun hHeld => ?_)
                · exact hHeld.trans (hb8.mono hHeld.size)
                clear hK K
                try simp only [Act.put, List.setIfInBounds_toArray, List.set_cons_zero, List.set_cons_succ]
                have R8 := Lib.hid (Rd.of_own ho8)
                have hm8 : m8 ≤ 5000 := by
                  have h1 := own_len ho8
                  rw [packL_len] at h1
                  have h2 := HCL.out
                  omega
                have HK8 := Lib.hid (HK7.out.below hb8 HK7.out.lt)
                have HT8 := Lib.hid (own_below HT7.out hb8)
                have HU8 := Lib.hid (own_below HU7.out hb8)
                have ka8 : w8.cell? ⟨w2.heap.size, 0, none⟩ = some (.slice Aa na ca) := HK8.out.cell 0
                have kb8 : w8.cell? ⟨w2.heap.size, 2, none⟩ = some (.slice Ab nb cb) := HK8.out.cell 2
                clear ho8 hb8
                refine held_one (i := 11) (fuel := 2) (by kernel_rfl) (by rw [List.getElem?_toArray]; rfl) (fun K hK => ?_)
                refine step_appB _ (by rfl) _ _ 24 (by rfl) (w2.heap.size + 1) 5 j0 Tryz.underlying24 HJ.out HJZ.out HJS.out HJB.out _ nb _ (by rfl) HU8.out w8.heap.size A8 m8 c8 _ (by rfl) R8.out (by omega) HK8.out.lt ?_
                intro A9 c9 w9 hown9 hg9
                refine hK.out _ _ ?_ (fun hHeld => ?_)
                · exact hHeld.trans (below_grown_from hg9 hHeld.size (fun k hk => own_ge1 HU8.out k hk))
                clear hK K
                try simp only [Act.put, List.setIfInBounds_toArray, List.set_cons_zero, List.set_cons_succ]
                have HK9 := Lib.hid (HK8.out.grown hg9 (fun e => own_not HU8.out (Nat.lt_succ_self _) e.symm))
                have HT9 := Lib.hid (own_other0 HT8.out HU8.out (by decide) hg9)
                have HU9 : Hid (w9.ownsRow (w2.heap.size + 1) 5 1 (.slice A9 (nb + m8) c9) (nb + m8) (bc (bitsP ab (ls.take (j + 1))))) := Lib.hid (by rw [HBT.out]; exact hown9)
                have kc9 : w9.cell? ⟨w2.heap.size, 2, none⟩ = some (.slice Ab nb cb) := HK9.out.cell 2
                have kz9 : w9.frozen? ⟨w2.heap.size, 2, none⟩ = false := HK9.out.frozen 2
                clear hown9 hg9
                refine held_take (i := 12) (fuel := 1) (v := ?_) (by rw [List.getElem?_toArray]; rfl) (by kernel_rfl) (by kernel_rfl) (by kernel_rfl) hHeld ?_ ?_ ?_ ?_
                rotate_left
                · intro u hSw
                  go_simp
                  try with_reducible rfl
                · rfl
                · exact fun _ _ _ h => h
                try simp only [Act.put, List.setIfInBounds_toArray, List.set_cons_zero, List.set_cons_succ]
                refine held_one (i := 13) (fuel := 0) (by kernel_rfl) (by rw [List.getElem?_toArray]; rfl) (fun K hK => ?_)
                go_simp
                refine hK.out _ _ ?_ (fun hHeld => ?_)
                · exact hHeld.setCell (Nat.le_refl _) _
                clear hK K
                try simp only [Act.put, List.setIfInBounds_toArray, List.set_cons_zero, List.set_cons_succ]
                refine wpAnyH_done (by kernel_rfl) ?_ _
                have HP2 : Hid (Pl w2 (w9.setCell ⟨w2.heap.size, 2, none⟩ (.slice A9 (nb + m8) c9)) Aa na ca At5 ct5 A9 (nb + m8) c9 ab ls (j + 1)) := Lib.hid ⟨HK9.out.set_ 2 _, own_set HT9.out (Nat.lt_succ_self _) 2 _, own_set HU9.out (Nat.lt_succ_self _) 2 _, hHeld⟩
                clear hHeld
                go_wp2_with fail
                go_roundw
                case rel => exact ⟨At5, ct5, A9, nb + m8, c9, j + 1, by omega, by go_num, HP2⟩
                case measure => simp [intOf]; omega
              refine AllReadyH.cons (by rw [List.getElem?_toArray]; rfl) (fun K hK => ?_) ?_
              ·
                go_simp
                refine (rCut_any _ (bs s) Aa na ca ab (((RdS.of_own HO2.out).below hHeld).more hHeld.size) (by rw [bs_size]; omega) (short_of_mem fun q hq => by have := HAB.out.2 q hq; omega) (by have := HNA.out; have := HAB.out.1; omega)).mono ?_
                rw [data_bs]
                rintro e w6 ⟨A6, m6, c6, rfl, ho6, hb6⟩
                refine hK.out _ _ ?_ (fun hHeld => ?_)
                · exact hHeld.trans (hb6.mono hHeld.size)
                clear hK K
                try simp only [Act.put, List.setIfInBounds_toArray, List.set_cons_zero, List.set_cons_succ]
                have R6 := Lib.hid (RdP.of_own ho6)
                have hm6 : m6 ≤ 1000 := by
                  have h1 := ownP_len ho6
                  have h2 := HCS.out.1
                  omega
                have HK6 := Lib.hid (HKX.out.below hb6 HKX.out.lt)
                have HT6 := Lib.hid (own_below HTX5.out hb6)
                have HU6 := Lib.hid (own_below HUX5.out hb6)
                have ka6 : w6.cell? ⟨w2.heap.size, 0, none⟩ = some (.slice Aa na ca) := HK6.out.cell 0
                have kb6 : w6.cell? ⟨w2.heap.size, 2, none⟩ = some (.slice Ab nb cb) := HK6.out.cell 2
                clear ho6 hb6
                refine wpAnyH_ready (rs := [1, 9]) (fuel := 5) (by kernel_rfl) (by simp) ?_
                refine AllReadyH.cons (by rw [List.getElem?_toArray]; rfl) (fun K hK => ?_) ?_
                ·
                  go_simp
                  refine hK.out _ _ ?_ (fun hHeld => ?_)
                  · exact hHeld
                  clear hK K
                  try simp only [Act.put, List.setIfInBounds_toArray, List.set_cons_zero, List.set_cons_succ]
                  refine held_one (i := 9) (fuel := 4) (by kernel_rfl) (by rw [List.getElem?_toArray]; rfl) (fun K hK => ?_)
                  go_simp
                  refine (rpcodes_any _ A6 m6 c6 (cutL ab s) R6.out HSP.out HQ2.out (by omega) (by have := HCL.out; unfold ccodes at this; omega)).mono ?_
                  rintro e w7 ⟨A7, m7, c7, rfl, ho7, hb7⟩
                  refine hK.out _ _ ?_ (fun hHeld => ?_)
                  · exact hHeld.trans (hb7.mono hHeld.size)
                  clear hK K
                  try simp only [Act.put, List.setIfInBounds_toArray, List.set_cons_zero, List.set_cons_succ]
                  have R7 := Lib.hid (RdI.of_iv (zs := ccodes ab s) ho7 (FitI.of_range (ccodes_range HAB.out.1 s)))
                  have hm7 : (ccodes ab s).length = m7 := ownI_len ho7
                  have hm7b := HCL.out
                  have HK7 := Lib.hid (HK6.out.below hb7 HK6.out.lt)
                  have HT7 := Lib.hid (own_below HT6.out hb7)
                  have HU7 := Lib.hid (own_below HU6.out hb7)
                  have ka7 : w7.cell? ⟨w2.heap.size, 0, none⟩ = some (.slice Aa na ca) := HK7.out.cell 0
                  have kb7 : w7.cell? ⟨w2.heap.size, 2, none⟩ = some (.slice Ab nb cb) := HK7.out.cell 2
                  clear ho7 hb7
                  refine held_one (i := 10) (fuel := 3) (by kernel_rfl) (by rw [List.getElem?_toArray]; rfl) (fun K hK => ?_)
                  go_simp
                  refine (rpack_any _ A7 m7 c7 (ccodes ab s) R7.out (by omega)).mono ?_
                  rintro e w8 ⟨A8, m8, c8, rfl, ho8, hb8⟩
                  refine hK.out _ _ ?_ (fun hHeld => ?_)
                  · exact hHeld.trans (hb8.mono hHeld.size)
                  clear hK K
                  try simp only [Act.put, List.setIfInBounds_toArray, List.set_cons_zero, List.set_cons_succ]
                  have R8 := Lib.hid (Rd.of_own ho8)
                  have hm8 : m8 ≤ 5000 := by
                    have h1 := own_len ho8
                    rw [packL_len] at h1
                    have h2 := HCL.out
                    omega
                  have HK8 := Lib.hid (HK7.out.below hb8 HK7.out.lt)
                  have HT8 := Lib.hid (own_below HT7.out hb8)
                  have HU8 := Lib.hid (own_below HU7.out hb8)
                  have ka8 : w8.cell? ⟨w2.heap.size, 0, none⟩ = some (.slice Aa na ca) := HK8.out.cell 0
                  have kb8 : w8.cell? ⟨w2.heap.size, 2, none⟩ = some (.slice Ab nb cb) := HK8.out.cell 2
                  clear ho8 hb8
                  refine held_one (i := 11) (fuel := 2) (by kernel_rfl) (by rw [List.getElem?_toArray]; rfl) (fun K hK => ?_)
                  refine step_appB _ (by rfl) _ _ 24 (by rfl) (w2.heap.size + 1) 5 j0 Tryz.underlying24 HJ.out HJZ.out HJS.out HJB.out _ nb _ (by rfl) HU8.out w8.heap.size A8 m8 c8 _ (by rfl) R8.out (by omega) HK8.out.lt ?_
                  intro A9 c9 w9 hown9 hg9
                  refine hK.out _ _ ?_ (fun hHeld => ?_)
                  · exact hHeld.trans (below_grown_from hg9 hHeld.size (fun k hk => own_ge1 HU8.out k hk))
                  clear hK K
                  try simp only [Act.put, List.setIfInBounds_toArray, List.set_cons_zero, List.set_cons_succ]
                  have HK9 := Lib.hid (HK8.out.grown hg9 (fun e => own_not HU8.out (Nat.lt_succ_self _) e.symm))
                  have HT9 := Lib.hid (own_other0 HT8.out HU8.out (by decide) hg9)
                  have HU9 : Hid (w9.ownsRow (w2.heap.size + 1) 5 1 (.slice A9 (nb + m8) c9) (nb + m8) (bc (bitsP ab (ls.take (j + 1))))) := Lib.hid (by rw [HBT.out]; exact hown9)
                  have kc9 : w9.cell? ⟨w2.heap.size, 2, none⟩ = some (.slice Ab nb cb) := HK9.out.cell 2
                  have kz9 : w9.frozen? ⟨w2.heap.size, 2, none⟩ = false := HK9.out.frozen 2
                  clear hown9 hg9
                  refine held_take (i := 12) (fuel := 1) (v := ?_) (by rw [List.getElem?_toArray]; rfl) (by kernel_rfl) (by kernel_rfl) (by kernel_rfl) hHeld ?_ ?_ ?_ ?_
                  rotate_left
                  · intro u hSw
                    go_simp
                    try with_reducible rfl
                  · rfl
                  · exact fun _ _ _ h => h
                  try simp only [Act.put, List.setIfInBounds_toArray, List.set_cons_zero, List.set_cons_succ]
                  refine held_one (i := 13) (fuel := 0) (by kernel_rfl) (by rw [List.getElem?_toArray]; rfl) (fun K hK => ?_)
                  go_simp
                  refine hK.out _ _ ?_ (fun hHeld => ?_)
                  · exact hHeld.setCell (Nat.le_refl _) _
                  clear hK K
                  try simp only [Act.put, List.setIfInBounds_toArray, List.set_cons_zero, List.set_cons_succ]
                  refine wpAnyH_done (by kernel_rfl) ?_ _
                  have HP2 : Hid (Pl w2 (w9.setCell ⟨w2.heap.size, 2, none⟩ (.slice A9 (nb + m8) c9)) Aa na ca At5 ct5 A9 (nb + m8) c9 ab ls (j + 1)) := Lib.hid ⟨HK9.out.set_ 2 _, own_set HT9.out (Nat.lt_succ_self _) 2 _, own_set HU9.out (Nat.lt_succ_self _) 2 _, hHeld⟩
                  clear hHeld
                  go_wp2_with fail
                  go_roundw
                  case rel => exact ⟨At5, ct5, A9, nb + m8, c9, j + 1, by omega, by go_num, HP2⟩
                  case measure => simp [intOf]; omega
                refine AllReadyH.cons (by rw [List.getElem?_toArray]; rfl) (fun K hK => ?_) ?_
                ·
                  go_simp
                  refine (rpcodes_any _ A6 m6 c6 (cutL ab s) R6.out HSP.out HQ2.out (by omega) (by have := HCL.out; unfold ccodes at this; omega)).mono ?_
                  rintro e w7 ⟨A7, m7, c7, rfl, ho7, hb7⟩
                  refine hK.out _ _ ?_ (fun hHeld => ?_)
                  · exact hHeld.trans (hb7.mono hHeld.size)
                  clear hK K
                  try simp only [Act.put, List.setIfInBounds_toArray, List.set_cons_zero, List.set_cons_succ]
                  have R7 := Lib.hid (RdI.of_iv (zs := ccodes ab s) ho7 (FitI.of_range (ccodes_range HAB.out.1 s)))
                  have hm7 : (ccodes ab s).length = m7 := ownI_len ho7
                  have hm7b := HCL.out
                  have HK7 := Lib.hid (HK6.out.below hb7 HK6.out.lt)
                  have HT7 := Lib.hid (own_below HT6.out hb7)
                  have HU7 := Lib.hid (own_below HU6.out hb7)
                  have ka7 : w7.cell? ⟨w2.heap.size, 0, none⟩ = some (.slice Aa na ca) := HK7.out.cell 0
                  have kb7 : w7.cell? ⟨w2.heap.size, 2, none⟩ = some (.slice Ab nb cb) := HK7.out.cell 2
                  clear ho7 hb7
                  refine wpAnyH_ready (rs := [1, 10]) (fuel := 4) (by kernel_rfl) (by simp) ?_
                  refine AllReadyH.cons (by rw [List.getElem?_toArray]; rfl) (fun K hK => ?_) ?_
                  ·
                    go_simp
                    refine hK.out _ _ ?_ (fun hHeld => ?_)
                    · exact hHeld
                    clear hK K
                    try simp only [Act.put, List.setIfInBounds_toArray, List.set_cons_zero, List.set_cons_succ]
                    refine held_one (i := 10) (fuel := 3) (by kernel_rfl) (by rw [List.getElem?_toArray]; rfl) (fun K hK => ?_)
                    go_simp
                    refine (rpack_any _ A7 m7 c7 (ccodes ab s) R7.out (by omega)).mono ?_
                    rintro e w8 ⟨A8, m8, c8, rfl, ho8, hb8⟩
                    refine hK.out _ _ ?_ (fun hHeld => ?_)
                    · exact hHeld.trans (hb8.mono hHeld.size)
                    clear hK K
                    try simp only [Act.put, List.setIfInBounds_toArray, List.set_cons_zero, List.set_cons_succ]
                    have R8 := Lib.hid (Rd.of_own ho8)
                    have hm8 : m8 ≤ 5000 := by
                      have h1 := own_len ho8
                      rw [packL_len] at h1
                      have h2 := HCL.out
                      omega
                    have HK8 := Lib.hid (HK7.out.below hb8 HK7.out.lt)
                    have HT8 := Lib.hid (own_below HT7.out hb8)
                    have HU8 := Lib.hid (own_below HU7.out hb8)
                    have ka8 : w8.cell? ⟨w2.heap.size, 0, none⟩ = some (.slice Aa na ca) := HK8.out.cell 0
                    have kb8 : w8.cell? ⟨w2.heap.size, 2, none⟩ = some (.slice Ab nb cb) := HK8.out.cell 2
                    clear ho8 hb8
                    refine held_one (i := 11) (fuel := 2) (by kernel_rfl) (by rw [List.getElem?_toArray]; rfl) (fun K hK => ?_)
                    refine step_appB _ (by rfl) _ _ 24 (by rfl) (w2.heap.size + 1) 5 j0 Tryz.underlying24 HJ.out HJZ.out HJS.out HJB.out _ nb _ (by rfl) HU8.out w8.heap.size A8 m8 c8 _ (by rfl) R8.out (by omega) HK8.out.lt ?_
                    intro A9 c9 w9 hown9 hg9
                    refine hK.out _ _ ?_ (fun hHeld => ?_)
                    · exact hHeld.trans (below_grown_from hg9 hHeld.size (fun k hk => own_ge1 HU8.out k hk))
                    clear hK K
                    try simp only [Act.put, List.setIfInBounds_toArray, List.set_cons_zero, List.set_cons_succ]
                    have HK9 := Lib.hid (HK8.out.grown hg9 (fun e => own_not HU8.out (Nat.lt_succ_self _) e.symm))
                    have HT9 := Lib.hid (own_other0 HT8.out HU8.out (by decide) hg9)
                    have HU9 : Hid (w9.ownsRow (w2.heap.size + 1) 5 1 (.slice A9 (nb + m8) c9) (nb + m8) (bc (bitsP ab (ls.take (j + 1))))) := Lib.hid (by rw [HBT.out]; exact hown9)
                    have kc9 : w9.cell? ⟨w2.heap.size, 2, none⟩ = some (.slice Ab nb cb) := HK9.out.cell 2
                    have kz9 : w9.frozen? ⟨w2.heap.size, 2, none⟩ = false := HK9.out.frozen 2
                    clear hown9 hg9
                    refine held_take (i := 12) (fuel := 1) (v := ?_) (by rw [List.getElem?_toArray]; rfl) (by kernel_rfl) (by kernel_rfl) (by kernel_rfl) hHeld ?_ ?_ ?_ ?_
                    rotate_left
                    · intro u hSw
                      go_simp
                      try with_reducible rfl
                    · rfl
                    · exact fun _ _ _ h => h
                    try simp only [Act.put, List.setIfInBounds_toArray, List.set_cons_zero, List.set_cons_succ]
                    refine held_one (i := 13) (fuel := 0) (by kernel_rfl) (by rw [List.getElem?_toArray]; rfl) (fun K hK => ?_)
                    go_simp
                    refine hK.out _ _ ?_ (fun hHeld => ?_)
                    · exact hHeld.setCell (Nat.le_refl _) _
                    clear hK K
                    try simp only [Act.put, List.setIfInBounds_toArray, List.set_cons_zero, List.set_cons_succ]
                    refine wpAnyH_done (by kernel_rfl) ?_ _
                    have HP2 : Hid (Pl w2 (w9.setCell ⟨w2.heap.size, 2, none⟩ (.slice A9 (nb + m8) c9)) Aa na ca At5 ct5 A9 (nb + m8) c9 ab ls (j + 1)) := Lib.hid ⟨HK9.out.set_ 2 _, own_set HT9.out (Nat.lt_succ_self _) 2 _, own_set HU9.out (Nat.lt_succ_self _) 2 _, hHeld⟩
                    clear hHeld
                    go_wp2_with fail
                    go_roundw
                    case rel => exact ⟨At5, ct5, A9, nb + m8, c9, j + 1, by omega, by go_num, HP2⟩
                    case measure => simp [intOf]; omega
                  refine AllReadyH.cons (by rw [List.getElem?_toArray]; rfl) (fun K hK => ?_) ?_
                  ·
                    go_simp
                    refine (rpack_any _ A7 m7 c7 (ccodes ab s) R7.out (by omega)).mono ?_
                    rintro e w8 ⟨A8, m8, c8, rfl, ho8, hb8⟩
                    refine hK.out _ _ ?_ (fun hHeld => ?_)
                    · exact hHeld.trans (hb8.mono hHeld.size)
                    clear hK K
                    try simp only [Act.put, List.setIfInBounds_toArray, List.set_cons_zero, List.set_cons_succ]
                    have R8 := Lib.hid (Rd.of_own ho8)
                    have hm8 : m8 ≤ 5000 := by
                      have h1 := own_len ho8
                      rw [packL_len] at h1
                      have h2 := HCL.out
                      omega
                    have HK8 := Lib.hid (HK7.out.below hb8 HK7.out.lt)
                    have HT8 := Lib.hid (own_below HT7.out hb8)
                    have HU8 := Lib.hid (own_below HU7.out hb8)
                    have ka8 : w8.cell? ⟨w2.heap.size, 0, none⟩ = some (.slice Aa na ca) := HK8.out.cell 0
                    have kb8 : w8.cell? ⟨w2.heap.size, 2, none⟩ = some (.slice Ab nb cb) := HK8.out.cell 2
                    clear ho8 hb8
                    refine held_one (i := 1) (fuel := 3) (by kernel_rfl) (by rw [List.getElem?_toArray]; rfl) (fun K hK => ?_)
                    go_simp
                    refine hK.out _ _ ?_ (fun hHeld => ?_)
                    · exact hHeld
                    clear hK K
                    try simp only [Act.put, List.setIfInBounds_toArray, List.set_cons_zero, List.set_cons_succ]
                    refine held_one (i := 11) (fuel := 2) (by kernel_rfl) (by rw [List.getElem?_toArray]; rfl) (fun K hK => ?_)
                    refine step_appB _ (by rfl) _ _ 24 (by rfl) (w2.heap.size + 1) 5 j0 Tryz.underlying24 HJ.out HJZ.out HJS.out HJB.out _ nb _ (by rfl) HU8.out w8.heap.size A8 m8 c8 _ (by rfl) R8.out (by omega) HK8.out.lt ?_
                    intro A9 c9 w9 hown9 hg9
                    refine hK.out _ _ ?_ (fun hHeld => ?_)
                    · exact hHeld.trans (below_grown_from hg9 hHeld.size (fun k hk => own_ge1 HU8.out k hk))
                    clear hK K
                    try simp only [Act.put, List.setIfInBounds_toArray, List.set_cons_zero, List.set_cons_succ]
                    have HK9 := Lib.hid (HK8.out.grown hg9 (fun e => own_not HU8.out (Nat.lt_succ_self _) e.symm))
                    have HT9 := Lib.hid (own_other0 HT8.out HU8.out (by decide) hg9)
                    have HU9 : Hid (w9.ownsRow (w2.heap.size + 1) 5 1 (.slice A9 (nb + m8) c9) (nb + m8) (bc (bitsP ab (ls.take (j + 1))))) := Lib.hid (by rw [HBT.out]; exact hown9)
                    have kc9 : w9.cell? ⟨w2.heap.size, 2, none⟩ = some (.slice Ab nb cb) := HK9.out.cell 2
                    have kz9 : w9.frozen? ⟨w2.heap.size, 2, none⟩ = false := HK9.out.frozen 2
                    clear hown9 hg9
                    refine held_take (i := 12) (fuel := 1) (v := ?_) (by rw [List.getElem?_toArray]; rfl) (by kernel_rfl) (by kernel_rfl) (by kernel_rfl) hHeld ?_ ?_ ?_ ?_
                    rotate_left
                    · intro u hSw
                      go_simp
                      try with_reducible rfl
                    · rfl
                    · exact fun _ _ _ h => h
                    try simp only [Act.put, List.setIfInBounds_toArray, List.set_cons_zero, List.set_cons_succ]
                    refine held_one (i := 13) (fuel := 0) (by kernel_rfl) (by rw [List.getElem?_toArray]; rfl) (fun K hK => ?_)
                    go_simp
                    refine hK.out _ _ ?_ (fun hHeld => ?_)
                    · exact hHeld.setCell (Nat.le_refl _) _
                    clear hK K
                    try simp only [Act.put, List.setIfInBounds_toArray, List.set_cons_zero, List.set_cons_succ]
                    refine wpAnyH_done (by kernel_rfl) ?_ _
                    have HP2 : Hid (Pl w2 (w9.setCell ⟨w2.heap.size, 2, none⟩ (.slice A9 (nb + m8) c9)) Aa na ca At5 ct5 A9 (nb + m8) c9 ab ls (j + 1)) := Lib.hid ⟨HK9.out.set_ 2 _, own_set HT9.out (Nat.lt_succ_self _) 2 _, own_set HU9.out (Nat.lt_succ_self _) 2 _, hHeld⟩
                    clear hHeld
                    go_wp2_with fail
                    go_roundw
                    case rel => exact ⟨At5, ct5, A9, nb + m8, c9, j + 1, by omega, by go_num, HP2⟩
                    case measure => simp [intOf]; omega
                  exact AllReadyH.nil
                exact AllReadyH.nil
              exact AllReadyH.nil
            exact AllReadyH.nil
          · obtain rfl : j = n := by omega
            have HKR := Lib.hid (HK2.out.below HP.out.bel (Nat.lt_of_lt_of_le hkl HW2.out))
            have HBR := Lib.hid (HB2.out.trans (HP.out.bel.mono HB2.out.size))
            have hlt2 : w.heap.size < wr.heap.size := HKR.out.lt
            go_wp2_with (refine wpList_store_row rfl 26 _ _ rfl w.heap.size #[.slice Aa na ca, .slice At j ct, .slice Ab nb cb] rfl rfl _ _ HKR.out pool_size rfl (three_one _ _ _ _ _ _ _ _ _) ?_)
            (try simp only [Exit.inBlock, Exit.then]); refine bodyPost_ret (results_pool rfl _ _ _ _ _ _ _ rfl (setRow_heap _ _ _ _ _ _ HKR.out) Tryz.underlying26 rfl (by kernel_rfl)) rfl ?_
            have hp := HP.out
            have ho := HO2.out
            have hl := HBL.out
            rw [HABE.out] at hp ho hl
            have hjl : j = ls.length := HL.out.symm
            subst hjl
            exact OutPool.good HE.out hkl HW2.out (below_setRow HBR.out (Nat.le_refl _) _) ho hp (by omega)

end Go.Proofs.YtpfkkmjodhpkoaaGreatDoor
