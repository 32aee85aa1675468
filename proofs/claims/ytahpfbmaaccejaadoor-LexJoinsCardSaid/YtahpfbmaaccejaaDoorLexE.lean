/- Contracts of the references' number and sign. -/
import Derived.Test.YtahpfbmaaccejaaDoorLexD
namespace Go.Proofs.YtahpfbmaaccejaaDoor
open Go.RowKit

theorem rowF_dg : ∀ (l : List UInt8) (j : Nat), j < rowF false l → isDg (l[j]?.getD 0) = true := by
  intro l
  induction l with
  | nil => intro j h; exact absurd h (Nat.not_lt_zero _)
  | cons c r ih =>
    intro j h
    cases hd : isDg c with
    | false => rw [rowF_end (by rw [hd]; rfl)] at h; exact absurd h (Nat.not_lt_zero _)
    | true =>
      rw [rowF_on (by rw [hd]; rfl)] at h
      cases j with
      | zero => exact hd
      | succ j => exact ih j (by omega)

theorem ext_list (s : ByteArray) (i n : Nat) : (s.extract i (i + n)).data.toList = (s.data.toList.drop i).take n := by
  rw [ByteArray.data_extract]
  simp [List.take_drop]

/-- what number hands back -/
def nrV (bad : Bool) (N : Nat) : Value := .tuple #[.int .i64 ((if bad = true ∨ 32767 < N then 0 else N : Nat) : Int), .int .i64 (if bad = true then 4 else if 32767 < N then 5 else 0)]

theorem nrV_bad (N : Nat) : Value.tuple #[.int .i64 0, .int .i64 4] = nrV true N := by unfold nrV; simp
theorem nrV_big {N : Nat} (h : 32767 < N) : Value.tuple #[.int .i64 0, .int .i64 5] = nrV false N := by unfold nrV; simp [h]
theorem nrV_ok {N : Nat} (h : ¬ 32767 < N) : Value.tuple #[.int .i64 (N : Int), .int .i64 0] = nrV false N := by
  unfold nrV
  have h1 : ¬ (false = true ∨ 32767 < N) := by rintro (h2 | h2); cases h2; exact h h2
  rw [if_neg h1, if_neg (by decide), if_neg h]

/-- is the byte behind a number none that ends it? -/
def stuck (s : ByteArray) (t : Nat) : Bool := match (s.data.toList.drop t).head? with
  | some d => isSm d || isCp d || decide ((d.toNat : Int) = 95)
  | none => false

set_option maxRecDepth 100000 in
set_option maxHeartbeats 6400000 in
theorem r9number_any (w : World) (s : ByteArray) (i t n : Nat) (hi : i < s.size) (hn : n = rowF false (s.data.toList.drop i)) (ht : t = i + n) (h1 : 1 ≤ n) (hs : (s.size : Int) ≤ 100000) :
    Calls Tryd.prog 40 #[.string s, .int .i64 i, .int .i64 t] w fun e w' => e = .returned (nrV (stuck s t || (decide ((s[i].toNat : Int) = 48) && decide (1 < n))) (numL ((s.data.toList.drop i).take n))) ∧ w = w' := by
  have hl : s.data.toList.length = s.size := by rw [Array.length_toList]; rfl
  have hnl := rowF_len false (s.data.toList.drop i)
  rw [← hn, List.length_drop, hl] at hnl
  have HDG : Hid (∀ j, j < n → isDg ((s.data.toList.drop i)[j]?.getD 0) = true) := Lib.hid (fun j hj => rowF_dg _ j (by omega))
  have HEX : Hid ((s.extract i t).data.toList = (s.data.toList.drop i).take n) := Lib.hid (by rw [ht]; exact ext_list s i n)
  have hxs : (s.extract i t).size = n := by rw [ByteArray.size_extract]; omega
  have HXS := Lib.hid hxs
  have ht2 : t ≤ s.size := by omega
  have hit : i < t := by omega
  have HN2 : Hid ((1 < n) = (i + 1 < t)) := Lib.hid (by rw [ht]; apply propext; constructor <;> intro h <;> omega)
  obtain ⟨N, hN⟩ : ∃ N, N = numL ((s.data.toList.drop i).take n) := ⟨_, rfl⟩
  have HNN := Lib.hid hN
  rw [← hN]
  have HTI : Hid (t = i + n) := Lib.hid ht
  clear hN hn hl hnl hxs ht
  have fin : stuck s t = false → ((s[i].toNat : Int) = 48 → ¬ i + 1 < t) → Calls Tryd.prog 52 #[.string (s.extract i t), .int .u64 32767] w fun e w' => e = .returned (numV N) ∧ w = w' := fun _ hz => by
    have hsz : (s.extract i t).size = n := HXS.out
    have hb : ∀ (j : Nat) (h : j < (s.extract i t).size), (s.extract i t)[j] = (s.data.toList.drop i)[j]?.getD 0 := fun j h => by
      rw [← byte_at9 _ j h, HEX.out, List.getElem?_take_of_lt (by omega)]
    have h0 : 0 < (s.extract i t).size := by omega
    have hsi : (s.data.toList.drop i)[0]?.getD 0 = s[i] := by rw [drop_at hi]; rfl
    have h := r1number_any w (s.extract i t) (fun j hj => by rw [hb j hj]; exact HDG.out j (by omega)) h0 (by
      by_cases h48 : (s[i].toNat : Int) = 48
      · have := hz h48
        have := HTI.out
        exact .inl (by omega)
      · right
        rw [hb 0 h0, hsi]
        exact h48) (by have := HTI.out; rw [hsz]; omega)
    rw [HEX.out, ← HNN.out] at h
    exact h
  have HFIN := Lib.hid fin
  clear fin HDG HEX HNN
  have hcl := s[i].toNat_lt
  have hz0 : ∀ b : Bool, (b || (decide ((s[i].toNat : Int) = 48) && decide (1 < n))) = (b || (decide ((s[i].toNat : Int) = 48) && decide (i + 1 < t))) := fun b => by
    have e : decide (1 < n) = decide (i + 1 < t) := by rw [decide_eq_decide]; exact (HN2.out ▸ Iff.rfl)
    rw [e]
  rw [hz0]
  clear hz0 HN2
  obtain ⟨B, hBd⟩ : ∃ B, B = (stuck s t || (decide ((s[i].toNat : Int) = 48) && decide (i + 1 < t))) := ⟨_, rfl⟩
  rw [← hBd]
  have HBD := Lib.hid hBd
  clear hBd
  by_cases hlt : t < s.size
  · have hlti : (t : Int) < s.size := by omega
    have HST : Hid (stuck s t = (isSm s[t] || isCp s[t] || decide ((s[t].toNat : Int) = 95))) := Lib.hid (by unfold stuck; rw [head_at hlt])
    have htl := s[t].toNat_lt
    cases hsm : isSm s[t] with
    | true =>
      have HE : Hid (B = true) := Lib.hid (by rw [HBD.out, HST.out, hsm]; rfl)
      have HSM := Lib.hid hsm
      clear hsm
      go_enter Tryd.func40, Tryd.ntmps40
      go_wp2_with fail
      refine (r9small_any w s[t]).mono ?_
      rintro e w1 ⟨rfl, rfl⟩
      rw [HSM.out]
      go_wp2_with fail
      go_ret2
      rw [HE.out]
      exact ⟨congrArg Ending.returned (nrV_bad N), rfl⟩
    | false =>
      have HSM := Lib.hid hsm
      cases hcp : isCp s[t] with
      | true =>
        have HE : Hid (B = true) := Lib.hid (by rw [HBD.out, HST.out, hsm, hcp]; rfl)
        have HCP := Lib.hid hcp
        clear hsm hcp
        go_enter Tryd.func40, Tryd.ntmps40
        go_wp2_with fail
        refine (r9small_any w s[t]).mono ?_
        rintro e w1 ⟨rfl, rfl⟩
        rw [HSM.out]
        go_wp2_with fail
        refine (r9big_any w s[t]).mono ?_
        rintro e w1 ⟨rfl, rfl⟩
        rw [HCP.out]
        go_wp2_with fail
        go_ret2
        rw [HE.out]
        exact ⟨congrArg Ending.returned (nrV_bad N), rfl⟩
      | false =>
        have HCP := Lib.hid hcp
        by_cases h95 : (s[t].toNat : Int) = 95
        · have HE : Hid (B = true) := Lib.hid (by rw [HBD.out, HST.out, decide_eq_true h95, Bool.or_true, Bool.true_or])
          have t95 : ((s[t].toNat : Int) == 95) = true := by simpa using h95
          clear hsm hcp h95
          go_enter Tryd.func40, Tryd.ntmps40
          go_wp2_with fail
          refine (r9small_any w s[t]).mono ?_
          rintro e w1 ⟨rfl, rfl⟩
          rw [HSM.out]
          go_wp2_with fail
          refine (r9big_any w s[t]).mono ?_
          rintro e w1 ⟨rfl, rfl⟩
          rw [HCP.out]
          go_wp2_with fail
          go_ret2
          rw [HE.out]
          exact ⟨congrArg Ending.returned (nrV_bad N), rfl⟩
        · have HE : Hid (stuck s t = false) := Lib.hid (by rw [HST.out, hsm, hcp, decide_eq_false h95]; rfl)
          have t95 : ((s[t].toNat : Int) == 95) = false := by simpa using h95
          clear hsm hcp h95
          by_cases h48 : (s[i].toNat : Int) = 48
          · have t48 : ((s[i].toNat : Int) == 48) = true := by simpa using h48
            by_cases hn1 : i + 1 < t
            · have hn1i : (i : Int) + 1 < t := by omega
              have HB : Hid (B = true) := Lib.hid (by rw [HBD.out, HE.out, decide_eq_true h48, decide_eq_true hn1]; rfl)
              clear h48
              go_enter Tryd.func40, Tryd.ntmps40
              go_wp2_with fail
              refine (r9small_any w s[t]).mono ?_
              rintro e w1 ⟨rfl, rfl⟩
              rw [HSM.out]
              go_wp2_with fail
              refine (r9big_any w s[t]).mono ?_
              rintro e w1 ⟨rfl, rfl⟩
              rw [HCP.out]
              go_wp2_with fail
              go_ret2
              rw [HB.out]
              exact ⟨congrArg Ending.returned (nrV_bad N), rfl⟩
            · have hn1i : ¬ (i : Int) + 1 < t := by omega
              have HB : Hid (B = false) := Lib.hid (by rw [HBD.out, HE.out, decide_eq_false hn1, Bool.and_false]; rfl)
              have HZZ : Hid ((s[i].toNat : Int) = 48 → ¬ i + 1 < t) := Lib.hid (fun _ => hn1)
              clear h48
              go_enter Tryd.func40, Tryd.ntmps40
              go_wp2_with fail
              refine (r9small_any w s[t]).mono ?_
              rintro e w1 ⟨rfl, rfl⟩
              rw [HSM.out]
              go_wp2_with fail
              refine (r9big_any w s[t]).mono ?_
              rintro e w1 ⟨rfl, rfl⟩
              rw [HCP.out]
              go_wp2_with fail
              refine (HFIN.out HE.out HZZ.out).mono ?_
              rintro e w1 ⟨rfl, rfl⟩
              by_cases hbig : 32767 < N
              · have e1 : numV N = .tuple #[.int .u64 0, .int .i64 5] := (numV_big hbig).symm
                rw [e1]
                clear e1
                go_wp2_with fail
                go_ret2
                rw [HB.out]
                exact ⟨congrArg Ending.returned (nrV_big hbig), rfl⟩
              · have e1 : numV N = .tuple #[.int .u64 (N : Int), .int .i64 0] := (numV_ok rfl (by omega)).symm
                have hN2 : (N : Int) ≤ 32767 := by omega
                rw [e1]
                clear e1
                go_wp2_with fail
                go_ret2
                rw [HB.out]
                exact ⟨congrArg Ending.returned (nrV_ok hbig), rfl⟩
          · have t48 : ((s[i].toNat : Int) == 48) = false := by simpa using h48
            have HB : Hid (B = false) := Lib.hid (by rw [HBD.out, HE.out, decide_eq_false h48, Bool.false_and]; rfl)
            have HZZ : Hid ((s[i].toNat : Int) = 48 → ¬ i + 1 < t) := Lib.hid (fun h => absurd h h48)
            clear h48
            go_enter Tryd.func40, Tryd.ntmps40
            go_wp2_with fail
            refine (r9small_any w s[t]).mono ?_
            rintro e w1 ⟨rfl, rfl⟩
            rw [HSM.out]
            go_wp2_with fail
            refine (r9big_any w s[t]).mono ?_
            rintro e w1 ⟨rfl, rfl⟩
            rw [HCP.out]
            go_wp2_with fail
            refine (HFIN.out HE.out HZZ.out).mono ?_
            rintro e w1 ⟨rfl, rfl⟩
            by_cases hbig : 32767 < N
            · have e1 : numV N = .tuple #[.int .u64 0, .int .i64 5] := (numV_big hbig).symm
              rw [e1]
              clear e1
              go_wp2_with fail
              go_ret2
              rw [HB.out]
              exact ⟨congrArg Ending.returned (nrV_big hbig), rfl⟩
            · have e1 : numV N = .tuple #[.int .u64 (N : Int), .int .i64 0] := (numV_ok rfl (by omega)).symm
              have hN2 : (N : Int) ≤ 32767 := by omega
              rw [e1]
              clear e1
              go_wp2_with fail
              go_ret2
              rw [HB.out]
              exact ⟨congrArg Ending.returned (nrV_ok hbig), rfl⟩
  · have hlti : ¬ (t : Int) < s.size := by omega
    have HE : Hid (stuck s t = false) := Lib.hid (by unfold stuck; rw [head_no hlt])
    clear hlt
    by_cases h48 : (s[i].toNat : Int) = 48
    · have t48 : ((s[i].toNat : Int) == 48) = true := by simpa using h48
      by_cases hn1 : i + 1 < t
      · have hn1i : (i : Int) + 1 < t := by omega
        have HB : Hid (B = true) := Lib.hid (by rw [HBD.out, HE.out, decide_eq_true h48, decide_eq_true hn1]; rfl)
        clear h48
        go_enter Tryd.func40, Tryd.ntmps40
        go_wp2_with fail
        go_ret2
        rw [HB.out]
        exact ⟨congrArg Ending.returned (nrV_bad N), rfl⟩
      · have hn1i : ¬ (i : Int) + 1 < t := by omega
        have HB : Hid (B = false) := Lib.hid (by rw [HBD.out, HE.out, decide_eq_false hn1, Bool.and_false]; rfl)
        have HZZ : Hid ((s[i].toNat : Int) = 48 → ¬ i + 1 < t) := Lib.hid (fun _ => hn1)
        clear h48
        go_enter Tryd.func40, Tryd.ntmps40
        go_wp2_with fail
        refine (HFIN.out HE.out HZZ.out).mono ?_
        rintro e w1 ⟨rfl, rfl⟩
        by_cases hbig : 32767 < N
        · have e1 : numV N = .tuple #[.int .u64 0, .int .i64 5] := (numV_big hbig).symm
          rw [e1]
          clear e1
          go_wp2_with fail
          go_ret2
          rw [HB.out]
          exact ⟨congrArg Ending.returned (nrV_big hbig), rfl⟩
        · have e1 : numV N = .tuple #[.int .u64 (N : Int), .int .i64 0] := (numV_ok rfl (by omega)).symm
          have hN2 : (N : Int) ≤ 32767 := by omega
          rw [e1]
          clear e1
          go_wp2_with fail
          go_ret2
          rw [HB.out]
          exact ⟨congrArg Ending.returned (nrV_ok hbig), rfl⟩
    · have t48 : ((s[i].toNat : Int) == 48) = false := by simpa using h48
      have HB : Hid (B = false) := Lib.hid (by rw [HBD.out, HE.out, decide_eq_false h48, Bool.false_and]; rfl)
      have HZZ : Hid ((s[i].toNat : Int) = 48 → ¬ i + 1 < t) := Lib.hid (fun h => absurd h h48)
      clear h48
      go_enter Tryd.func40, Tryd.ntmps40
      go_wp2_with fail
      refine (HFIN.out HE.out HZZ.out).mono ?_
      rintro e w1 ⟨rfl, rfl⟩
      by_cases hbig : 32767 < N
      · have e1 : numV N = .tuple #[.int .u64 0, .int .i64 5] := (numV_big hbig).symm
        rw [e1]
        clear e1
        go_wp2_with fail
        go_ret2
        rw [HB.out]
        exact ⟨congrArg Ending.returned (nrV_big hbig), rfl⟩
      · have e1 : numV N = .tuple #[.int .u64 (N : Int), .int .i64 0] := (numV_ok rfl (by omega)).symm
        have hN2 : (N : Int) ≤ 32767 := by omega
        rw [e1]
        clear e1
        go_wp2_with fail
        go_ret2
        rw [HB.out]
        exact ⟨congrArg Ending.returned (nrV_ok hbig), rfl⟩

end Go.Proofs.YtahpfbmaaccejaaDoor
