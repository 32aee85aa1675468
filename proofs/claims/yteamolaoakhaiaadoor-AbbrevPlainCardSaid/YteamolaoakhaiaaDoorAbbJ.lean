/- Contract of layer 7's reference: Cut. -/
import Derived.Test.YteamolaoakhaiaaDoorAbbI
import Derived.Deep.RegionHeldLaw
namespace Go.Proofs.YteamolaoakhaiaaDoor
open Go.RowKit

theorem Tryd.inf_piece : (Tryd.prog.info? 39).map (fun i => (i.zero, i.size, i.bytes)) = some (some (.agg #[.string ⟨#[]⟩, .int .i64 0]), 2, 24) := by kernel_rfl

/-- the steps of a text, with fuel enough -/
def stepsA (ab : List (List UInt8)) (s : List UInt8) : List Step := stepsF ab s.length s

theorem stepsF_fuel (ab : List (List UInt8)) : ∀ (f g : Nat) (s : List UInt8), s.length ≤ f → s.length ≤ g → stepsF ab f s = stepsF ab g s := by
  intro f
  induction f with
  | zero =>
    intro g s h _
    rw [List.eq_nil_of_length_eq_zero (by omega : s.length = 0)]
    cases g <;> rfl
  | succ f ih =>
    intro g s h h2
    cases s with
    | nil => cases g <;> rfl
    | cons c r =>
      rw [List.length_cons] at h h2
      cases g with
      | zero => omega
      | succ g =>
        unfold stepsF
        by_cases hc : costL [c] + least ab r = least ab (c :: r)
        · rw [if_pos hc, if_pos hc, ih g r (by omega) (by omega)]
        · rw [if_neg hc, if_neg hc]
          obtain ⟨_, _, k3, _, _⟩ := firstA_spec hc
          have := pos_of_ne k3
          rw [ih g _ (by rw [List.length_drop, List.length_cons]; omega) (by rw [List.length_drop, List.length_cons]; omega)]

theorem stepsA_lit {ab : List (List UInt8)} {c : UInt8} {r : List UInt8} (h : costL [c] + least ab r = least ab (c :: r)) : stepsA ab (c :: r) = .lit c :: stepsA ab r := by
  unfold stepsA
  show stepsF ab (r.length + 1) (c :: r) = _
  conv => lhs; unfold stepsF
  rw [if_pos h]

theorem stepsA_abb {ab : List (List UInt8)} {c : UInt8} {r : List UInt8} (h : costL [c] + least ab r ≠ least ab (c :: r)) :
    stepsA ab (c :: r) = .abb (firstA ab (c :: r) + 1) :: stepsA ab ((c :: r).drop (ab.getD (firstA ab (c :: r)) []).length) := by
  obtain ⟨_, _, k3, _, _⟩ := firstA_spec h
  have := pos_of_ne k3
  unfold stepsA
  show stepsF ab (r.length + 1) (c :: r) = _
  conv => lhs; unfold stepsF
  rw [if_neg h, stepsF_fuel ab r.length _ _ (by rw [List.length_drop, List.length_cons]; omega) (Nat.le_refl _)]

theorem putS_lit_nil (c : UInt8) : putS [] (.lit c) = [([c], 0)] := rfl
theorem putS_lit_new {o : List Pc} {p : Pc} (h : 0 < p.2) (c : UInt8) : putS (o ++ [p]) (.lit c) = (o ++ [p]) ++ [([c], 0)] := by
  unfold putS
  simp [h]
theorem putS_lit_old {o : List Pc} {p : Pc} (h : ¬ 0 < p.2) (c : UInt8) : putS (o ++ [p]) (.lit c) = o ++ [(p.1 ++ [c], p.2)] := by
  unfold putS
  simp [h]

theorem getD_opt (ls : List (List UInt8)) (j : Nat) : ls.getD j [] = ls[j]?.getD [] := rfl

theorem before_first {ls : List (List UInt8)} {s : List UInt8} {k j : Nat} (h : j < firstA ls (s.drop k)) (h32 : firstA ls (s.drop k) < 32) (hl : firstA ls (s.drop k) < ls.length) :
    fitB s k ls j = false ∨ 2 + least ls (s.drop (k + (ls[j]?.getD []).length)) ≠ least ls (s.drop k) := by
  have hjl : j < (ls.take 32).length := by rw [List.length_take]; omega
  have e : (ls.take 32)[j] = ls[j]?.getD [] := by rw [List.getElem_take, List.getElem?_eq_getElem (by omega)]; rfl
  have h1 := List.not_of_lt_findIdx h
  rw [e] at h1
  cases hf : fitB s k ls j with
  | false => exact .inl rfl
  | true =>
    right
    intro he
    unfold fitB at hf
    simp only [Bool.and_eq_true, decide_eq_true_eq] at hf
    rw [hf.2, List.drop_drop, he] at h1
    simp [hf.1.2] at h1

set_option maxRecDepth 100000 in
set_option maxHeartbeats 12800000 in
theorem rCut_any (w : World) (s : ByteArray) (A : Option Addr) (n c : Nat) (ls : List (List UInt8)) (h : RdS w w.heap.size A n ls) (hs : (s.size : Int) ≤ 1000) (hm : Short_ 1000 ls) (hn : (n : Int) ≤ 1000) :
    Calls Tryd.prog 16 #[.string s, .slice A n c] w (OutP w.heap.size 39 w (cutL ls s.data.toList)) := by
  obtain ⟨i0, hi, hz0, hsz, hby⟩ := inf_parts Tryd.inf_piece
  have HI := Lib.hid hi
  have HZ0 := Lib.hid hz0
  have HSZ := Lib.hid hsz
  have HBY := Lib.hid hby
  have hsl : s.data.toList.length = s.size := by rw [Array.length_toList]; rfl
  have HSL := Lib.hid hsl
  have H := Lib.hid h
  have HL := Lib.hid h.1
  have HM := Lib.hid hm
  clear hi hz0 hsz hby h hm hsl
  go_enter Tryd.func16, Tryd.ntmps16
  go_wp2_with fail
  refine (rLeast_any w s A n c ls H.out hs HM.out hn).mono ?_
  rintro e W ⟨g, rfl, ht, hb, hg⟩
  have HT := Lib.hid ht
  have HB0 := Lib.hid hb
  have HG := Lib.hid hg
  have HTL : Hid ((ni (tab ls s.data.toList)).length = s.size + 1) := Lib.hid (by rw [ni_length, tab_len, HSL.out])
  rw [HTL.out]
  clear ht hb hg
  go_wp2_with fail
  go_loopw [6, 7] (fun v i wr => ∃ (A6 : Option Addr) (n6 c6 k : Nat) (ps : List Pc), k ≤ s.size ∧ n6 ≤ k ∧ i = .int .i64 k ∧ v = .slice A6 n6 c6 ∧ Hid (wr.ownsRow W.heap.size 39 2 (.slice A6 n6 c6) n6 (pcv ps)) ∧ Hid (∀ p ∈ ps, p.1.length ≤ k) ∧ Hid (cutL ls s.data.toList = (stepsA ls (s.data.toList.drop k)).foldl putS ps) ∧ Hid (Below W.heap.size W wr)) (fun _ i _ => s.size - (intOf i).toNat)
  case atStart => exact ⟨none, 0, 0, 0, [], by omega, by omega, rfl, rfl, Lib.hid (ownP_nil _ _ _), Lib.hid (fun p hp => by simp at hp), Lib.hid rfl, Lib.hid (Below.refl _ _)⟩
  case round =>
    obtain ⟨A6, n6, c6, k, ps, hk, hn6, rfl, rfl, HO, HPL, HC, HB⟩ := hrel
    by_cases hlt : k < s.size
    · have hgl : g < W.heap.size := Blk.lt HT.out
      have HTW : Hid (Tb wr g (ni (tab ls s.data.toList))) := Lib.hid (Tb.below HT.out HB.out)
      have c1 := HTW.out.cell (j := k + 1) (by rw [HTL.out]; omega)
      have c0 := HTW.out.cell (j := k) (by rw [HTL.out]; omega)
      rw [ni_getD, tab_get _ _ _ (by rw [HSL.out]; omega)] at c1 c0
      have hd : s.data.toList.drop k = (s[k]'hlt) :: s.data.toList.drop (k + 1) := by
        rw [List.drop_eq_getElem_cons (by rw [HSL.out]; exact hlt)]
        rfl
      obtain ⟨cc, hcc⟩ : ∃ cc, cc = s[k]'hlt := ⟨_, rfl⟩
      rw [← hcc] at hd
      have hv1 := least_le_cost ls (s.data.toList.drop (k + 1))
      have hv2 := costL_le (s.data.toList.drop (k + 1))
      have hv3 := least_le_cost ls (s.data.toList.drop k)
      have hv4 := costL_le (s.data.toList.drop k)
      rw [List.length_drop, HSL.out] at hv2 hv4
      have hex : (s.extract k (k + 1)) = bs [cc] := by
        apply ByteArray.ext
        apply Array.toList_inj.1
        rw [ByteArray.data_extract, Array.toList_extract, List.extract_eq_take_drop, show k + 1 - k = 1 from by omega, hd, data_bs]
        rfl
      have hcx := costL_le [cc]
      rw [List.length_singleton] at hcx
      obtain ⟨x, hx⟩ : ∃ x, x = costL [cc] := ⟨_, rfl⟩
      obtain ⟨v, hv⟩ : ∃ v, v = least ls (s.data.toList.drop (k + 1)) := ⟨_, rfl⟩
      obtain ⟨u, hu⟩ : ∃ v, v = least ls (s.data.toList.drop k) := ⟨_, rfl⟩
      rw [← hv] at c1 hv1
      rw [← hu] at c0 hv3
      rw [← hx] at hcx
      have HX : Hid (costL (bs [cc]).data.toList = x) := Lib.hid (by rw [data_bs, hx])
      have hv5 : v ≤ 3000 := by omega
      have hu5 : u ≤ 3000 := by omega
      have HCC := Lib.hid hcc
      have HD := Lib.hid hd
      have HXX := Lib.hid hx
      have HV := Lib.hid hv
      have HU := Lib.hid hu
      have b1 : 0 ≤ (k : Int) + 1 ∧ (k : Int) + 1 ≤ (s.size : Int) := by omega
      have b2 : 0 ≤ (k : Int) ∧ (k : Int) ≤ (k : Int) + 1 := by omega
      have b3 : 0 ≤ (k : Int) + 1 ∧ (k : Int) + 1 < (s.size : Int) + 1 := by omega
      have b4 : 0 ≤ (k : Int) ∧ (k : Int) < (s.size : Int) + 1 := by omega
      have b5 : ((k : Int) + 1).toNat = k + 1 := by omega
      have b6 : IntKind.i64.wrap ((k : Int) + 1) = (k : Int) + 1 := IntWalk.i64_in _ (by omega)
      have b7 : IntKind.i64.wrap ((x : Int) + (v : Int)) = (x : Int) + (v : Int) := IntWalk.i64_in _ (by omega)
      have b8 : (k : Int) ≤ (k : Int) + 1 := by omega
      have hgr : g < wr.heap.size := Nat.lt_of_lt_of_le hgl HB.out.size
      clear hv1 hv2 hv3 hv4 hcc hd hv hu hx
      go_wp2_with fail
      go_region_held_law (fun u' => u'.cell? ⟨g, k + 1, none⟩ = some (.int .i64 v) ∧ u'.cell? ⟨g, k, none⟩ = some (.int .i64 u))
        (first | go_keep | exact ⟨(hb2.cell (p := ⟨g, k + 1, none⟩) hgr).trans c1, (hb2.cell (p := ⟨g, k, none⟩) hgr).trans c0⟩)
        ((go_at_call 20; refine (rcost_any _ (bs [cc]) (by rw [bs_size]; simp)).mono ?_; rintro e w2 ⟨rfl, hb2⟩; rw [HX.out]))
      have hb3 : Below wr.heap.size wr w2 := ((Below.refl wr.heap.size wr).drew).trans hb2
      have HO2 := Lib.hid (own_below HO.out hb3)
      have HB2 := Lib.hid (HB.out.trans (hb3.mono HB.out.size))
      have HT2 := Lib.hid (Tb.below HTW.out hb3)
      clear hb2 hb3 c1 c0 HO HB HTW hgr b7
      by_cases heq : x + v = u
      · have t0 : ((x : Int) + (v : Int) == (u : Int)) = true := by rw [beq_iff_eq]; omega
        have HS := Lib.hid (stepsA_lit (ab := ls) (c := cc) (r := s.data.toList.drop (k + 1)) (by rw [← HXX.out, ← HV.out, ← HD.out, ← HU.out]; exact heq))
        clear heq
        have hcase : ps = [] ∨ ∃ o p, ps = o ++ [p] := by
          rcases List.eq_nil_or_concat ps with h | ⟨o, p, h⟩
          · exact .inl h
          · exact .inr ⟨o, p, by rw [h, List.concat_eq_append]⟩
        rcases hcase with hnil | ⟨o, ⟨t, y⟩, hps⟩
        · subst hnil
          have hn0 : n6 = 0 := by
            have := ownP_len HO2.out
            exact this.symm
          have t1 : ((n6 : Int) == 0) = true := by rw [beq_iff_eq]; omega
          clear hn0
          go_wp2_with (at_builtin; refine wpList_appP _ rfl _ _ 28 rfl W.heap.size 39 i0 Tryd.underlying28 HI.out HZ0.out HSZ.out HBY.out _ n6 [] rfl (HO2.out.alloc _) ⟨w2.heap.size, 0, none⟩ 1 ([], 0) rfl ((Blk.new w2 _ _).cell 0) ((Blk.new w2 _ _).cell 1) (by omega) (by simp; have := HB2.out.size; omega) ?_; intro A8 c8 w8 hown8 hg8)
          have HO8 := Lib.hid hown8
          have HB8 := Lib.hid ((HB2.out.alloc HB2.out.size _).grown hg8 (by simp; have := HB2.out.size; omega) (own_from HO2.out))
          clear hown8 hg8
          obtain ⟨g8, rfl, hg8b, hg8l⟩ := own_some HO8.out (by omega)
          obtain ⟨l1, l2⟩ := last_cells HO8.out
          have hpl8 : ([] : List Pc).length = n6 := ownP_len HO2.out
          rw [hpl8] at l1 l2
          have fz := own_frozen HO8.out (n6 * 2)
          have hadd := add_bs [] [cc] (by simp) (by simp)
          have t2 : (n6 : Int) + 1 - 1 = (n6 : Int) := by omega
          have t4 : IntKind.i64.wrap ((n6 : Int) + 1 - 1) = (n6 : Int) := by rw [t2]; exact IntWalk.i64_in _ (by omega)
          have t5 : 0 ≤ (n6 : Int) ∧ (n6 : Int) < (n6 : Int) + 1 := by omega
          go_region
          all_goals
            have HO3 : Hid ((w8.setCell ⟨g8, n6 * 2, none⟩ (.string (bs ([] ++ [cc])))).ownsRow W.heap.size 39 2 (.slice (some ⟨g8, 0, none⟩) (n6 + 1) c8) (n6 + 1) (pcv ([] ++ [([cc], 0)]))) := Lib.hid (by
              have h1 := own_store HO8.out (n6 * 2) (.string (bs ([] ++ [cc])))
              rw [← hpl8, pcv_set] at h1
              rw [← hpl8]
              exact h1)
            have HB3 : Hid (Below W.heap.size W (w8.setCell ⟨g8, n6 * 2, none⟩ (.string (bs ([] ++ [cc])))).drew) := Lib.hid (HB8.out.setCell hg8b _).drew
            have HC3 : Hid (cutL ls s.data.toList = (stepsA ls (s.data.toList.drop (k + 1))).foldl putS ([] ++ [([cc], 0)])) := Lib.hid (by
              rw [HC.out, HD.out, HS.out, List.foldl_cons, putS_lit_nil, List.nil_append])
            have HP3 : Hid (∀ p ∈ [] ++ [([cc], (0 : Int))], p.1.length ≤ k + 1) := Lib.hid (fun p hp => by
              rcases List.mem_append.1 hp with hp | hp
              · have := HPL.out p hp; omega
              · rw [List.mem_singleton] at hp
                subst hp
                show [cc].length ≤ k + 1
                rw [List.length_singleton]
                omega)
            clear l1 l2 fz hadd t2 t4 t5
            go_wp2_with fail
            go_roundw
            case rel => exact ⟨_, n6 + 1, c8, k + 1, _, by omega, by omega, by go_num, rfl, HO3, HP3, HC3, HB3⟩
            case measure => simp [intOf]; omega
        · subst hps
          have hn7 : n6 = o.length + 1 := by
            have := ownP_len HO2.out
            rw [List.length_append] at this
            exact this.symm
          obtain ⟨q, hq⟩ : ∃ q, q = o.length := ⟨_, rfl⟩
          rw [← hq] at hn7
          obtain ⟨g6, rfl, hg6, hg6l⟩ := own_some HO2.out (by omega)
          obtain ⟨l1, l2⟩ := last_cells HO2.out
          rw [← hq] at l1 l2
          have fz := own_frozen HO2.out (q * 2)
          have t1 : ((n6 : Int) == 0) = false := by rw [beq_eq_false_iff_ne]; omega
          have t2 : (n6 : Int) - 1 = (q : Int) := by omega
          have t3 : (q : Int) < (n6 : Int) := by omega
          have HN7 := Lib.hid hn7
          have HQ := Lib.hid hq
          clear hn7 hq
          by_cases hy : 0 < y
          · go_wp2_with (at_builtin; refine wpList_appP _ rfl _ _ 28 rfl W.heap.size 39 i0 Tryd.underlying28 HI.out HZ0.out HSZ.out HBY.out _ n6 (o ++ [(t, y)]) rfl (HO2.out.alloc _) ⟨w2.heap.size, 0, none⟩ 1 ([], 0) rfl ((Blk.new w2 _ _).cell 0) ((Blk.new w2 _ _).cell 1) (by omega) (by simp; have := HB2.out.size; omega) ?_; intro A8 c8 w8 hown8 hg8)
            have HO8 := Lib.hid hown8
            have HB8 := Lib.hid ((HB2.out.alloc HB2.out.size _).grown hg8 (by simp; have := HB2.out.size; omega) (own_from HO2.out))
            clear hown8 hg8 l1 l2 fz t2 t3
            obtain ⟨g8, rfl, hg8b, hg8l⟩ := own_some HO8.out (by omega)
            obtain ⟨l1, l2⟩ := last_cells HO8.out
            have hpl8 : (o ++ [(t, y)]).length = n6 := ownP_len HO2.out
            rw [hpl8] at l1 l2
            have fz := own_frozen HO8.out (n6 * 2)
            have hadd := add_bs [] [cc] (by simp) (by simp)
            have t2 : (n6 : Int) + 1 - 1 = (n6 : Int) := by omega
            have t4 : IntKind.i64.wrap ((n6 : Int) + 1 - 1) = (n6 : Int) := by rw [t2]; exact IntWalk.i64_in _ (by omega)
            have t5 : 0 ≤ (n6 : Int) ∧ (n6 : Int) < (n6 : Int) + 1 := by omega
            go_region
            all_goals
              have HO3 : Hid ((w8.setCell ⟨g8, n6 * 2, none⟩ (.string (bs ([] ++ [cc])))).ownsRow W.heap.size 39 2 (.slice (some ⟨g8, 0, none⟩) (n6 + 1) c8) (n6 + 1) (pcv ((o ++ [(t, y)]) ++ [([cc], 0)]))) := Lib.hid (by
                have h1 := own_store HO8.out (n6 * 2) (.string (bs ([] ++ [cc])))
                rw [← hpl8, pcv_set] at h1
                rw [← hpl8]
                exact h1)
              have HB3 : Hid (Below W.heap.size W (w8.setCell ⟨g8, n6 * 2, none⟩ (.string (bs ([] ++ [cc])))).drew) := Lib.hid (HB8.out.setCell hg8b _).drew
              have HC3 : Hid (cutL ls s.data.toList = (stepsA ls (s.data.toList.drop (k + 1))).foldl putS ((o ++ [(t, y)]) ++ [([cc], 0)])) := Lib.hid (by
                rw [HC.out, HD.out, HS.out, List.foldl_cons, putS_lit_new (p := (t, y)) hy])
              have HP3 : Hid (∀ p ∈ (o ++ [(t, y)]) ++ [([cc], (0 : Int))], p.1.length ≤ k + 1) := Lib.hid (fun p hp => by
                rcases List.mem_append.1 hp with hp | hp
                · have := HPL.out p hp; omega
                · rw [List.mem_singleton] at hp
                  subst hp
                  show [cc].length ≤ k + 1
                  rw [List.length_singleton]
                  omega)
              clear l1 l2 fz hadd t2 t4 t5
              go_wp2_with fail
              go_roundw
              case rel => exact ⟨_, n6 + 1, c8, k + 1, _, by omega, by omega, by go_num, rfl, HO3, HP3, HC3, HB3⟩
              case measure => simp [intOf]; omega
          · have htl : t.length ≤ k := HPL.out (t, y) (by simp)
            have hadd := add_bs t [cc] (by omega) (by simp)
            have t4 : IntKind.i64.wrap ((n6 : Int) - 1) = (q : Int) := by rw [t2]; exact IntWalk.i64_in _ (by omega)
            have t5 : 0 ≤ (q : Int) ∧ (q : Int) < (n6 : Int) := by omega
            go_wp2_with fail
            go_region
            all_goals
              have HO3 : Hid ((w2.setCell ⟨g6, q * 2, none⟩ (.string (bs (t ++ [cc])))).ownsRow W.heap.size 39 2 (.slice (some ⟨g6, 0, none⟩) n6 c6) n6 (pcv (o ++ [(t ++ [cc], y)]))) := Lib.hid (by
                have h1 := own_store HO2.out (q * 2) (.string (bs (t ++ [cc])))
                rw [HQ.out, pcv_set] at h1
                rw [HQ.out]
                exact h1)
              have HB3 : Hid (Below W.heap.size W (w2.setCell ⟨g6, q * 2, none⟩ (.string (bs (t ++ [cc])))).drew) := Lib.hid (HB2.out.setCell hg6 _).drew
              have HC3 : Hid (cutL ls s.data.toList = (stepsA ls (s.data.toList.drop (k + 1))).foldl putS (o ++ [(t ++ [cc], y)])) := Lib.hid (by
                rw [HC.out, HD.out, HS.out, List.foldl_cons, putS_lit_old (p := (t, y)) (by show ¬ 0 < y; omega)])
              have HP3 : Hid (∀ p ∈ o ++ [(t ++ [cc], y)], p.1.length ≤ k + 1) := Lib.hid (fun p hp => by
                rcases List.mem_append.1 hp with hp | hp
                · have := HPL.out p (by simp [hp]); omega
                · rw [List.mem_singleton] at hp
                  subst hp
                  show (t ++ [cc]).length ≤ k + 1
                  rw [List.length_append, List.length_singleton]
                  omega)
              clear l1 l2 fz hadd
              go_wp2_with fail
              go_roundw
              case rel => exact ⟨_, n6, c6, k + 1, _, by omega, by omega, by go_num, rfl, HO3, HP3, HC3, HB3⟩
              case measure => simp [intOf]; omega
      · have t0 : ((x : Int) + (v : Int) == (u : Int)) = false := by rw [beq_eq_false_iff_ne]; omega
        have hne : costL [cc] + least ls (s.data.toList.drop (k + 1)) ≠ least ls (cc :: s.data.toList.drop (k + 1)) := by rw [← HXX.out, ← HV.out, ← HD.out, ← HU.out]; exact heq
        have HS := Lib.hid (stepsA_abb hne)
        obtain ⟨k1, k2, k3, k4, k5⟩ := firstA_spec hne
        rw [← HD.out] at k1 k2 k3 k4 k5 HS
        rw [← HU.out] at k5
        obtain ⟨F, hF⟩ : ∃ F, F = firstA ls (s.data.toList.drop k) := ⟨_, rfl⟩
        have HBF : Hid (∀ j, j < F → fitB s.data.toList k ls j = false ∨ 2 + least ls (s.data.toList.drop (k + (ls[j]?.getD []).length)) ≠ u) := Lib.hid (fun j hj => by
          have h1 := before_first (ls := ls) (s := s.data.toList) (k := k) (j := j) (by rw [← hF]; exact hj) k2 k1
          rw [← HU.out] at h1
          exact h1)
        rw [← hF] at k1 k2 k3 k4 k5 HS
        have HFT : Hid (fitB s.data.toList k ls F = true ∧ 2 + least ls (s.data.toList.drop (k + (ls[F]?.getD []).length)) = u) := Lib.hid (by
          refine ⟨?_, ?_⟩
          · unfold fitB
            rw [← getD_opt, k4]
            simp [k2]
            exact k3
          · rw [← getD_opt, ← List.drop_drop]
            exact k5)
        have HF32 := Lib.hid k2
        rw [HL.out] at k1
        clear heq hne k2 k3 k4 k5 hF
        go_wp2_with fail
        go_loopw [8] (fun jj wi => ∃ j : Nat, j ≤ F ∧ jj = .int .i64 j ∧ Hid (wi.ownsRow W.heap.size 39 2 (.slice A6 n6 c6) n6 (pcv ps)) ∧ Hid (Below W.heap.size W wi) ∧ Hid (Tb wi g (ni (tab ls s.data.toList)))) (fun jj _ => F - (intOf jj).toNat)
        case atStart => exact ⟨0, by omega, rfl, HO2, HB2, HT2⟩
        case round =>
          clear HO2 HB2 HT2
          obtain ⟨j, hj, rfl, HO2, HB2, HT2⟩ := hrel
          have hBW : Below w.heap.size w wr := HB0.out.trans (HB2.out.mono HB0.out.size)
          obtain ⟨ad, rfl, hab, hcell⟩ := H.out.2 (by omega)
          have ka := (hBW.cell (p := ad.add j) (by rw [blk_add]; exact hab)).trans (hcell j (by rw [HL.out]; omega))
          have hp := HM.out j
          obtain ⟨R, hR⟩ : ∃ R, R = bs (ls[j]?.getD []) := ⟨_, rfl⟩
          have hRz : (ls[j]?.getD []).length = R.size := by rw [hR, bs_size]
          have hRs : (R.size : Int) ≤ 1000 := by omega
          rw [← hR] at ka
          have d0 := HT2.out.cell (j := k) (by rw [HTL.out]; omega)
          rw [ni_getD, tab_get _ _ _ (by rw [HSL.out]; omega), ← HU.out] at d0
          have HRD := Lib.hid (H.out.below hBW)
          have HMM2 : Short_ 100000 ls := fun j => Nat.le_trans (HM.out j) (by omega)
          have HSS := Lib.hid HMM2
          have hjn : j < n := by omega
          clear hcell hp HMM2 hBW
          cases hq : fitB s.data.toList k ls j with
          | false =>
            have hjF : j < F := by
              rcases Nat.lt_or_ge j F with h | h
              · exact h
              · have : j = F := by omega
                subst this
                rw [HFT.out.1] at hq
                cases hq
            have hfit : ∀ nq, Calls Tryd.prog 34 #[.string s, .int .i64 k, .slice (some ad) n c, .int .i64 j] (wr.drewN nq) fun e w' => e = .returned (.bool false) ∧ w' = wr.drewN nq := fun nq => by
              have h1 := rFits_any (wr.drewN nq) _ s k (some ad) n c j ls (rds_draw7 HRD.out nq) hjn (by omega) (by omega) HSS.out (by omega)
              rw [hq] at h1
              exact h1.mono fun e w' ⟨a, b⟩ => ⟨a, b.symm⟩
            clear hq hR hRz
            go_wp2_with fail
            go_quiet ((go_at_call 34; exact Calls.quiet_of_same (hfit _)))
            go_wp2_with fail
            go_roundw
            case rel => exact ⟨j + 1, by omega, by go_num, Lib.hid (own_below HO2.out (below_drewN (Below.refl _ _) _)), Lib.hid (below_drewN HB2.out _), Lib.hid (Tb.below HT2.out (below_drewN (Below.refl _ _) _))⟩
            case measure => simp [intOf]; omega
          | true =>
            have hfit : ∀ nq, Calls Tryd.prog 34 #[.string s, .int .i64 k, .slice (some ad) n c, .int .i64 j] (wr.drewN nq) fun e w' => e = .returned (.bool true) ∧ w' = wr.drewN nq := fun nq => by
              have h1 := rFits_any (wr.drewN nq) _ s k (some ad) n c j ls (rds_draw7 HRD.out nq) hjn (by omega) (by omega) HSS.out (by omega)
              rw [hq] at h1
              exact h1.mono fun e w' ⟨a, b⟩ => ⟨a, b.symm⟩
            have hq2 := hq
            unfold fitB at hq2
            simp only [Bool.and_eq_true, decide_eq_true_eq] at hq2
            have hq3 := isPre_len hq2.2
            rw [List.length_drop, HSL.out, hRz] at hq3
            have hq4 := pos_of_ne hq2.1.2
            rw [hRz] at hq4
            have d1 := HT2.out.cell (j := k + R.size) (by rw [HTL.out]; omega)
            rw [ni_getD, tab_get _ _ _ (by rw [HSL.out]; omega)] at d1
            have hle := least_le_cost ls (s.data.toList.drop (k + R.size))
            have hle2 := costL_le (s.data.toList.drop (k + R.size))
            rw [List.length_drop, HSL.out] at hle2
            obtain ⟨y, hy⟩ : ∃ y, y = least ls (s.data.toList.drop (k + R.size)) := ⟨_, rfl⟩
            have hy3 : y ≤ 3000 := by omega
            rw [← hy] at d1
            have g1 : IntKind.i64.wrap ((k : Int) + (R.size : Int)) = (k : Int) + (R.size : Int) := IntWalk.i64_in _ (by omega)
            have g2 : 0 ≤ (k : Int) + (R.size : Int) ∧ (k : Int) + (R.size : Int) < (s.size : Int) + 1 := by omega
            have g3 : ((k : Int) + (R.size : Int)).toNat = k + R.size := by omega
            have g4 : IntKind.i64.wrap (2 + (y : Int)) = 2 + (y : Int) := IntWalk.i64_in _ (by omega)
            have g5 : 0 ≤ (k : Int) + (R.size : Int) := by omega
            have g6 : (k : Int) + (R.size : Int) < (s.size : Int) + 1 := by omega
            have g7 : (j : Int) < (n : Int) := by omega
            have hbf : j < F → 2 + y ≠ u := fun h => by
              rcases HBF.out j h with h1 | h1
              · rw [hq] at h1; cases h1
              · rw [hRz, ← hy] at h1; exact h1
            have hft : j = F → 2 + y = u := fun h => by
              have h1 := HFT.out.2
              rw [← h, hRz, ← hy] at h1
              exact h1
            clear hq hq2 hle hle2 hy hR
            by_cases hjF : j < F
            · have t1 : ((2 : Int) + (y : Int) != (u : Int)) = true := by rw [bne_iff_ne]; have := hbf hjF; omega
              clear hbf hft hRz hq3 hq4
              go_wp2_with fail
              go_quiet ((go_at_call 34; exact Calls.quiet_of_same (hfit _)))
              go_wp2_with fail
              go_roundw
              case rel => exact ⟨j + 1, by omega, by go_num, Lib.hid (own_below HO2.out (below_drewN (Below.refl _ _) _)), Lib.hid (below_drewN HB2.out _), Lib.hid (Tb.below HT2.out (below_drewN (Below.refl _ _) _))⟩
              case measure => simp [intOf]; omega
            · have hjf : j = F := by omega
              have t1 : ((2 : Int) + (y : Int) != (u : Int)) = false := by rw [bne_eq_false_iff_eq]; have := hft hjf; omega
              have HJF := Lib.hid hjf
              clear hbf hft hjf
              go_wp2_with fail
              go_quiet ((go_at_call 34; exact Calls.quiet_of_same (hfit _)))
              have HO5 : Hid ((wr.drewN nq).ownsRow W.heap.size 39 2 (.slice A6 n6 c6) n6 (pcv ps)) := Lib.hid (own_below HO2.out (below_drewN (Below.refl _ _) _))
              have HB5 : Hid (Below W.heap.size W (wr.drewN nq)) := Lib.hid (below_drewN HB2.out _)
              have k0 : (wr.drewN nq).cell? (ad.add j) = some (.string R) := ka
              have habW : (ad.add j).block < W.heap.size := by rw [blk_add]; exact Nat.lt_of_lt_of_le hab HB0.out.size
              have hk0 : W.cell? (ad.add j) = some (.string R) := (HB5.out.cell (p := ad.add j) habW).symm.trans k0
              clear d1 d0 ka HO2 HB2 HT2 HRD hfit
              generalize wr.drewN nq = w5 at *
              have hz5 := HB5.out.size
              go_wp2_with (at_builtin; refine wpList_appP _ rfl _ _ 28 rfl W.heap.size 39 i0 Tryd.underlying28 HI.out HZ0.out HSZ.out HBY.out _ n6 ps rfl (HO5.out.alloc _) ⟨w5.heap.size, 0, none⟩ 1 ([], (j : Int) + 1) rfl ((Blk.new w5 _ _).cell 0) ((Blk.new w5 _ _).cell 1) (by omega) (by simp; omega) ?_; intro A8 c8 w8 hown8 hg8; have hb8 := ((HB5.out.alloc HB5.out.size _).grown hg8 (by simp; omega) (own_from HO5.out)); have ka8 := (hb8.cell (p := ad.add j) habW).trans hk0)
              have HO8 := Lib.hid hown8
              have HB8 := Lib.hid hb8
              have HC3 : Hid (cutL ls s.data.toList = (stepsA ls (s.data.toList.drop (k + R.size))).foldl putS (ps ++ [([], (j : Int) + 1)])) := Lib.hid (by
                have h1 := HS.out
                rw [← HJF.out, getD_opt, hRz, List.drop_drop] at h1
                rw [HC.out, h1]
                rfl)
              have HP3 : Hid (∀ p ∈ ps ++ [(([] : List UInt8), (j : Int) + 1)], p.1.length ≤ k + R.size) := Lib.hid (fun p hp => by
                rcases List.mem_append.1 hp with hp | hp
                · have := HPL.out p hp; omega
                · rw [List.mem_singleton] at hp
                  subst hp
                  exact Nat.zero_le _)
              clear hown8 hg8 hb8 ka8 k0 hk0
              go_roundw
              case rel => exact ⟨A8, n6 + 1, c8, k + R.size, _, by omega, by omega, by go_num, rfl, HO8, HP3, HC3, HB8⟩
              case measure => simp [intOf]; omega
    · have HE : Hid (cutL ls s.data.toList = ps) := Lib.hid (by
        rw [HC.out, List.drop_of_length_le (by rw [HSL.out]; omega)]
        rfl)
      go_wp2_with fail
      go_ret
      refine ⟨A6, n6, c6, rfl, ?_, HB0.out.trans (HB.out.mono HB0.out.size)⟩
      rw [HE.out]
      exact own_base HO.out HB0.out.size

end Go.Proofs.YteamolaoakhaiaaDoor
