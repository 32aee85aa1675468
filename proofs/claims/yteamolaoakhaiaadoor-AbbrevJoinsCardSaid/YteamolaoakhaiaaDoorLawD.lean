/- The walk of the statement AbbrevJoins. -/
import Derived.Test.YteamolaoakhaiaaDoorLawB
namespace Go.Proofs.YteamolaoakhaiaaDoor
open Go.RowKit

/-- what the statement counts of pieces -/
def tp (ps : List Pc) : Nat := (ps.map fun p => 1 + p.1.length).sum

theorem tp_take {ps : List Pc} {j : Nat} (h : j < ps.length) : tp (ps.take (j + 1)) = tp (ps.take j) + (1 + (ps[j]?.getD ([], 0)).1.length) := by
  rw [List.take_succ_eq_append_getElem h]
  unfold tp
  rw [List.map_append, List.sum_append]
  simp [h]

theorem tp_short : ∀ (ps : List Pc), ShortP (tp ps) ps := by
  intro ps
  induction ps with
  | nil => intro j; simp
  | cons p ps ih =>
    intro j
    have e : tp (p :: ps) = 1 + p.1.length + tp ps := rfl
    cases j with
    | zero => show p.1.length ≤ _; omega
    | succ j => have := ih j; show (ps[j]?.getD ([], 0)).1.length ≤ _; omega

/-- pieces that came in, each no longer than an int tells -/
def SizedP (ps : List Pc) : Prop := ∀ j : Nat, ((bs (ps[j]?.getD ([], 0)).1).size : Int) ≤ 281474976710656

set_option maxRecDepth 100000 in
set_option maxHeartbeats 6400000 in
theorem joins_walk (A : Option Addr) (n c : Nat) (ps : List Pc) (A' : Option Addr) (n' c' : Nat) (ls : List (List UInt8)) (w : World) (h : RdP w w.heap.size A n ps) (hn63 : (n : Int) ≤ 9223372036854775807) (h' : RdS w w.heap.size A' n' ls) (hc : n' ≤ c') (_hc63 : (c' : Int) ≤ 9223372036854775807) (hszp : SizedP ps) (hsz : Sized ls) (hm : MaxL w) :
    Calls Tryd.prog 6 #[.slice A n c, .slice A' n' c'] w fun e w' => e = .returned (.bool true) ∧ Below w.heap.size w w' := by
  have H := Lib.hid h
  have H' := Lib.hid h'
  have HMX := Lib.hid hm
  have HS := Lib.hid hsz
  have HSP := Lib.hid hszp
  have HC := Lib.hid hc
  have HL := Lib.hid h.1
  have HL' := Lib.hid h'.1
  clear h h' hm hsz hszp hc
  go_enter Tryd.func6, Tryd.ntmps6
  go_wp2_with fail
  go_loopw [5, 6] (fun v i wr => ∃ (j q : Nat), j ≤ n ∧ i = .int .i64 j ∧ v = .int .i64 q ∧ wr = w ∧ Hid (q = tp (ps.take j)) ∧ (q : Int) ≤ 562949953421312) (fun _ i _ => n - (intOf i).toNat)
  case atStart => exact ⟨0, 0, by omega, rfl, rfl, rfl, Lib.hid rfl, by omega⟩
  case round =>
    obtain ⟨j, q, hj, rfl, rfl, rfl, HQ, hq⟩ := hrel
    by_cases hgo : j < n ∧ (q : Int) ≤ 1000
    · obtain ⟨hlt, hq2⟩ := hgo
      obtain ⟨ad, rfl, _, hcell⟩ := H.out.2 (by omega)
      have k1 := (hcell j (by rw [HL.out]; exact hlt)).1
      have HT := Lib.hid (tp_take (ps := ps) (j := j) (by rw [HL.out]; exact hlt))
      have hz := HSP.out j
      obtain ⟨x, hx⟩ : ∃ x, x = bs (ps[j]?.getD ([], 0)).1 := ⟨_, rfl⟩
      have HX : Hid ((ps[j]?.getD ([], 0)).1.length = x.size) := Lib.hid (by rw [hx, bs_size])
      rw [← hx] at k1 hz
      clear hcell hx
      go_wp2_with fail
      go_roundw
      case rel => exact ⟨j + 1, q + (1 + x.size), by omega, by go_num, by go_num, trivial, Lib.hid (by rw [HT.out, HX.out, HQ.out]), by omega⟩
      case measure => simp [intOf]; omega
    · have hend : ((j : Int) < (n : Int) ∧ ¬ (q : Int) ≤ 1000) ∨ ¬ (j : Int) < (n : Int) := by omega
      by_cases hbig : (100 : Int) < (n : Int) ∨ (1000 : Int) < (q : Int)
      · have hcs : (100 : Int) < (n : Int) ∨ (¬ (100 : Int) < (n : Int) ∧ (1000 : Int) < (q : Int)) := by omega
        clear hgo hbig
        rcases hend with ⟨g1, g2⟩ | g1
        all_goals rcases hcs with r1 | ⟨r1, r2⟩
        all_goals
          go_wp2_with fail
          refine (awake_any _ HMX.out).mono ?_
          rintro e w4 ⟨rfl, hb4⟩
          go_wp2_with fail
          go_ret
          exact ⟨rfl, hb4⟩
      · have g1 : ¬ (j : Int) < (n : Int) := by omega
        have r1 : ¬ (100 : Int) < (n : Int) := by omega
        have r2 : ¬ (1000 : Int) < (q : Int) := by omega
        clear hend hgo hbig
        cases hf : fewB ls 40 300 with
        | false =>
          have HF := Lib.hid hf
          clear hf
          go_wp2_with fail
          refine (rfew_any _ _ A' n' c' ls 40 300 H'.out (by omega) (by omega) (by omega) (by have := HC.out; omega) HS.out).mono ?_
          rintro e w1 ⟨rfl, rfl⟩
          rw [HF.out]
          go_wp2_with fail
          refine (awake_any _ HMX.out).mono ?_
          rintro e w4 ⟨rfl, hb4⟩
          go_wp2_with fail
          go_ret
          exact ⟨rfl, hb4⟩
        | true =>
          obtain ⟨f1, f2⟩ := few_tot hf
          have hn40 : n' ≤ 40 := by have := HL'.out; omega
          have HSH := Lib.hid (short_tot (m := 1000) (ls := ls) (by omega))
          have HF := Lib.hid hf
          have HSQ : Hid (ShortP 1000 ps) := Lib.hid (fun i => by
            have h1 := tp_short ps i
            have h2 := HQ.out
            rw [List.take_of_length_le (by rw [HL.out]; omega)] at h2
            omega)
          clear hf f1 f2
          go_wp2_with fail
          refine (rfew_any _ _ A' n' c' ls 40 300 H'.out (by omega) (by omega) (by omega) (by have := HC.out; omega) HS.out).mono ?_
          rintro e w1 ⟨rfl, rfl⟩
          rw [HF.out]
          obtain ⟨T, hT⟩ : ∃ T, T = bs (jnT (joinL ls ps)) := ⟨_, rfl⟩
          obtain ⟨E, hE⟩ : ∃ E, E = jnE (joinL ls ps) := ⟨_, rfl⟩
          obtain ⟨C, hC⟩ : ∃ C, C = pcost ps := ⟨_, rfl⟩
          have HTT := Lib.hid hT.symm
          have HEE := Lib.hid hE.symm
          have HCC := Lib.hid hC.symm
          clear hT hE hC
          go_wp2_with fail
          refine (pjoin_any _ A A' n n' c c' ps ls H.out H'.out HSQ.out HSH.out (by omega) (by omega) HC.out).mono ?_
          rintro e w2 ⟨rfl, hb2⟩
          rw [HTT.out, HEE.out]
          have HB2 := Lib.hid hb2
          clear hb2
          go_wp2_with fail
          refine (rPJoin_any w2 A A' n n' c c' ps ls (H.out.at_ (Nat.le_refl _) HB2.out) (H'.out.at_ (Nat.le_refl _) HB2.out) HSQ.out HSH.out (by omega) (by omega)).mono ?_
          rintro e w3 ⟨rfl, hb3⟩
          rw [HTT.out, HEE.out]
          have HB3 := Lib.hid (after HB2.out hb3)
          clear hb3
          go_wp2_with fail
          refine (pcosts_any w3 A A' n n' c c' ps ls (H.out.at_ (Nat.le_refl _) HB3.out) (H'.out.at_ (Nat.le_refl _) HB3.out) HSQ.out (by omega)).mono ?_
          rintro e w4 ⟨rfl, hb4⟩
          rw [HCC.out]
          have HB4 := Lib.hid (after HB3.out hb4)
          clear hb4
          go_wp2_with fail
          refine (rPCost_any w4 _ A n c ps _ (H.out.at_ (Nat.le_refl _) HB4.out) (Nat.le_refl _) HSQ.out (by omega)).mono ?_
          rintro e w5 ⟨rfl, hb5⟩
          rw [HCC.out]
          have HB5 := Lib.hid (after HB4.out hb5)
          clear hb5
          go_wp2_with fail
          refine (awake_any w5 (HMX.out.up HB5.out)).mono ?_
          rintro e w6 ⟨rfl, hb6⟩
          go_wp2_with fail
          go_ret
          exact ⟨rfl, after HB5.out hb6⟩

end Go.Proofs.YteamolaoakhaiaaDoor
