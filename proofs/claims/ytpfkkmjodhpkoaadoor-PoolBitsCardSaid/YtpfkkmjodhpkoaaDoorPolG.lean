/- Contracts of pool's checkTexts, encoded, Make, same, Right; a pool in a block of the call's own. -/
import Derived.Test.YtpfkkmjodhpkoaaDoorAbbC
import Derived.Test.YtpfkkmjodhpkoaaDoorPolR
import Derived.Test.YtpfkkmjodhpkoaaDoorAbbU
import Derived.Test.YtpfkkmjodhpkoaaDoorTells
import Derived.Test.YtpfkkmjodhpkoaaDoorAlpF
import Derived.Test.YtpfkkmjodhpkoaaDoorAlpM
import Derived.Test.YtpfkkmjodhpkoaaDoorRegion
import Derived.Test.YtpfkkmjodhpkoaaDoorOwn4
import Derived.Laws.ResultCell
import Derived.Deep.AppendLies
import Derived.Test.YtpfkkmjodhpkoaaDoorCen
import Derived.Deep.RegionHeld3
import Derived.Test.YtpfkkmjodhpkoaaDoorPolB
namespace Go.Proofs.YtpfkkmjodhpkoaaDoor
open Go.RowKit
set_option linter.unusedVariables false

theorem stepsF_len (ab : List (List UInt8)) : ∀ (f : Nat) (s : List UInt8), (stepsF ab f s).length ≤ f := by
  intro f
  induction f with
  | zero => intro s; exact Nat.le_refl _
  | succ f ih =>
    intro s
    cases s with
    | nil => exact Nat.zero_le _
    | cons c r =>
      unfold stepsF
      split
      · rw [List.length_cons]; have := ih r; omega
      · rw [List.length_cons]; have := ih ((c :: r).drop (ab.getD (firstA ab (c :: r)) []).length); omega

theorem putS_size (out : List Pc) (x : Step) (k : Nat) (h1 : out.length ≤ k) (h2 : ∀ p ∈ out, p.1.length ≤ k) : (putS out x).length ≤ k + 1 ∧ ∀ p ∈ putS out x, p.1.length ≤ k + 1 := by
  have snoc : ∀ q : Pc, q.1.length ≤ k + 1 → (out ++ [q]).length ≤ k + 1 ∧ ∀ p ∈ out ++ [q], p.1.length ≤ k + 1 := by
    intro q hq
    refine ⟨by rw [List.length_append, List.length_singleton]; omega, fun p hp => ?_⟩
    rcases List.mem_append.1 hp with hp | hp
    · have := h2 p hp; omega
    · rw [List.mem_singleton] at hp; subst hp; exact hq
  cases x with
  | abb j => exact snoc ([], (j : Int)) (Nat.zero_le _)
  | lit c =>
    unfold putS
    cases hl : out.getLast? with
    | none => exact ⟨by simp, fun p hp => by rw [List.mem_singleton] at hp; subst hp; simp⟩
    | some p =>
      obtain ⟨o, rfl⟩ : ∃ o, out = o ++ [p] := by rw [List.getLast?_eq_some_iff] at hl; exact hl
      have hp0 := h2 p (by simp)
      by_cases hp : 0 < p.2
      · simp only [if_pos hp]
        exact snoc ([c], 0) (by simp)
      · simp only [if_neg hp, List.dropLast_concat]
        refine ⟨by rw [List.length_append] at h1 ⊢; simp at h1 ⊢; omega, fun q hq => ?_⟩
        rcases List.mem_append.1 hq with hq | hq
        · have := h2 q (by simp [hq]); omega
        · rw [List.mem_singleton] at hq
          subst hq
          show (p.1 ++ [c]).length ≤ k + 1
          rw [List.length_append, List.length_singleton]
          omega

theorem fold_size : ∀ (xs : List Step) (out : List Pc) (k : Nat), out.length ≤ k → (∀ p ∈ out, p.1.length ≤ k) → (xs.foldl putS out).length ≤ k + xs.length ∧ ∀ p ∈ xs.foldl putS out, p.1.length ≤ k + xs.length := by
  intro xs
  induction xs with
  | nil => intro out k h1 h2; exact ⟨h1, h2⟩
  | cons x xs ih =>
    intro out k h1 h2
    obtain ⟨k1, k2⟩ := putS_size out x k h1 h2
    have h3 := ih (putS out x) (k + 1) k1 k2
    rw [List.foldl_cons, List.length_cons, show k + (xs.length + 1) = k + 1 + xs.length from by omega]
    exact h3

theorem cut_size (ab : List (List UInt8)) (s : List UInt8) : (cutL ab s).length ≤ s.length ∧ ShortP s.length (cutL ab s) := by
  have h1 := stepsF_len ab s.length s
  obtain ⟨h2, h3⟩ := fold_size (stepsF ab s.length s) [] 0 (Nat.le_refl _) (fun p hp => by simp at hp)
  refine ⟨by unfold cutL; omega, fun j => ?_⟩
  by_cases hj : j < (cutL ab s).length
  · have e : (cutL ab s)[j]?.getD ([], 0) = (cutL ab s)[j] := by rw [List.getElem?_eq_getElem hj]; rfl
    rw [e]
    have h4 := h3 ((cutL ab s)[j]) (List.getElem_mem hj)
    omega
  · rw [List.getElem?_eq_none (by omega)]
    simp

set_option maxRecDepth 100000 in
set_option maxHeartbeats 3200000 in
theorem checkTexts_any (w : World) (A : Option Addr) (n c : Nat) (ls : List (List UInt8)) (h : RdS w w.heap.size A n ls) (hs : Short_ 1000 ls) (hn : (n : Int) ≤ 10000) :
    Calls Tryd.prog 22 #[.slice A n c] w fun e w' => e = .returned (.int .i64 (mkE ls)) ∧ Below w.heap.size w w' := by
  have H := Lib.hid h
  have HL := Lib.hid h.1
  have HS := Lib.hid hs
  clear h hs
  by_cases h0 : 4096 < n
  · have HE : Hid (mkE ls = 7) := Lib.hid (by unfold mkE; rw [if_pos (by rw [HL.out]; exact h0)])
    have h0' : (4096 : Int) < n := by omega
    clear h0
    go_enter Tryd.func22, Tryd.ntmps22
    go_wp2_with fail
    go_ret
    exact ⟨by rw [HE.out]; rfl, Below.refl _ _⟩
  · have h0' : ¬ (4096 : Int) < n := by omega
    have HN := Lib.hid h0
    clear h0
    go_enter Tryd.func22, Tryd.ntmps22
    go_wp2_with fail
    go_loopw [10] (fun i wr => ∃ j : Nat, j ≤ n ∧ i = .int .i64 j ∧ Hid (∀ m, m < j → textB (ls[m]?.getD []) = true) ∧ Hid (Below w.heap.size w wr)) (fun i _ => n - (intOf i).toNat)
    case atStart => exact ⟨0, Nat.zero_le _, rfl, Lib.hid (fun m hm => absurd hm (by omega)), Lib.hid (Below.refl _ _)⟩
    case round =>
      obtain ⟨j, hj, rfl, HT, HB⟩ := hrel
      by_cases hlt : j < n
      · obtain ⟨ad, rfl, hab, hc⟩ := H.out.2 (by omega)
        have k1 := (HB.out.cell (p := ad.add j) (by rw [blk_add]; exact hab)).trans (hc j (by rw [HL.out]; exact hlt))
        have hl := HS.out j
        obtain ⟨x, hx⟩ : ∃ x, x = ls[j]?.getD [] := ⟨_, rfl⟩
        rw [← hx] at k1 hl
        have HX := Lib.hid hx
        clear hc hx
        go_wp2_with fail
        refine (isText_any wr (bs x) (by rw [bs_size]; omega)).mono ?_
        rintro e w3 ⟨rfl, hb3⟩
        rw [data_bs]
        have HB3 := Lib.hid (HB.out.trans (hb3.mono HB.out.size))
        clear hb3
        cases ht : textB x with
        | true =>
          have HT2 : Hid (∀ m, m < j + 1 → textB (ls[m]?.getD []) = true) := Lib.hid (fun m hm => by
            by_cases e2 : m = j
            · subst e2; rw [← HX.out, ht]
            · exact HT.out m (by omega))
          clear ht
          go_wp2_with fail
          go_roundw
          case rel => exact ⟨j + 1, by omega, by go_num, HT2, HB3⟩
          case measure => simp [intOf]; omega
        | false =>
          have HE : Hid (mkE ls = 13) := Lib.hid (mkE_no (j := j) (by have := HN.out; rw [HL.out]; omega) (by rw [HL.out]; exact hlt) (by rw [← HX.out, ht]))
          clear ht
          go_wp2_with fail
          go_ret
          exact ⟨by rw [HE.out]; rfl, HB3.out⟩
      · have HE : Hid (mkE ls = 0) := Lib.hid (mkE_of (by have := HN.out; rw [HL.out]; omega) (fun s hs => by
          obtain ⟨m, hm, rfl⟩ := List.getElem_of_mem hs
          have h := HT.out m (by rw [HL.out] at hm; omega)
          rw [List.getElem?_eq_getElem hm] at h
          exact h))
        go_wp2_with fail
        go_ret
        exact ⟨by rw [HE.out]; rfl, HB.out⟩

set_option maxRecDepth 100000 in
set_option maxHeartbeats 6400000 in
theorem encoded_any (w : World) (s : List UInt8) (A : Option Addr) (n c : Nat) (ab : List (List UInt8)) (h : RdS w w.heap.size A n ab) (hc : n ≤ c) (hs : (s.length : Int) ≤ 1000) (ht : textB s = true) (hm : Short_ 1000 ab) (hn : (n : Int) ≤ 1000) :
    Calls Tryd.prog 24 #[.string (bs s), .slice A n c] w (OutI w.heap.size 3 w (ccodes ab s)) := by
  obtain ⟨i0, hi, hz0, hsz, hby⟩ := inf_parts Tryd.inf_int
  have HI := Lib.hid hi
  have HZ0 := Lib.hid hz0
  have HSZ := Lib.hid hsz
  have HBY := Lib.hid hby
  have H := Lib.hid h
  have HM := Lib.hid hm
  have HC := Lib.hid hc
  have HPO := Lib.hid (cut_spec ab s).2
  have HCS := Lib.hid (cut_size ab s)
  have hcl : (ccodes ab s).length ≤ 3000 := by have := ccodes_le (ab := ab) ht; omega
  have HCL := Lib.hid hcl
  clear hi hz0 hsz hby h hm hc ht hcl
  go_enter Tryd.func24, Tryd.ntmps24
  go_wp2_with fail
  refine (cut_any w (bs s) A n c ab H.out HC.out (by rw [bs_size]; exact hs) HM.out hn).mono ?_
  rw [data_bs]
  rintro e w1 ⟨A1, n1, c1, rfl, ho1, hb1⟩
  have R1 := Lib.hid (RdP.of_own ho1)
  have HL1 := Lib.hid (ownP_len ho1)
  have HB1 := Lib.hid hb1
  have hn1 : n1 ≤ 1000 := by
    have h1 := HL1.out
    have h2 := HCS.out.1
    omega
  have HSP : Hid (ShortP 1000 (cutL ab s)) := Lib.hid (fun j => by have h1 := HCS.out.2 j; omega)
  clear ho1 hb1
  obtain ⟨ps, hps⟩ : ∃ ps, ps = cutL ab s := ⟨_, rfl⟩
  have HPS : Hid (ccodes ab s = pcodes ps) := Lib.hid (by rw [hps]; rfl)
  rw [← hps] at R1 HL1 HSP HPO
  rw [HPS.out] at HCL
  clear hps
  go_wp2_with fail
  go_loopw [5, 14] (fun v i wr => ∃ (A3 : Option Addr) (m c3 j : Nat), j ≤ n1 ∧ i = .int .i64 j ∧ v = .slice A3 m c3 ∧ Hid (wr.ownsRow w1.heap.size 3 1 (.slice A3 m c3) m (iv (pcodes (ps.take j)))) ∧ Hid (Below w1.heap.size w1 wr)) (fun _ i _ => n1 - (intOf i).toNat)
  case atStart => exact ⟨none, 0, 0, 0, Nat.zero_le _, rfl, rfl, Lib.hid (ownI_nil w1 _ _), Lib.hid (Below.refl _ _)⟩
  case round =>
    obtain ⟨A3, m, c3, j, hj, rfl, rfl, HO, HW⟩ := hrel
    have hm : m ≤ 3000 := by
      have h1 := ownI_len HO.out
      have h2 := pcodes_take_le ps j
      have h3 := HCL.out
      omega
    by_cases hlt : j < n1
    · obtain ⟨ad, rfl, hab, hcell⟩ := R1.out.2 (by omega)
      have k1 := (HW.out.cell (p := ad.add (j * 2)) (by rw [blk_add]; omega)).trans (hcell j (by rw [HL1.out]; exact hlt)).1
      have k2 := (HW.out.cell (p := ⟨(ad.add (j * 2)).block, (ad.add (j * 2)).off + 1, none⟩) (by show (ad.add (j * 2)).block < _; rw [blk_add]; omega)).trans (hcell j (by rw [HL1.out]; exact hlt)).2
      have HT := Lib.hid (pcodes_take (ps := ps) (j := j) (by rw [HL1.out]; exact hlt))
      have hle := pcodes_take_le ps (j + 1)
      have hp := HSP.out j
      have hq : 0 ≤ (ps[j]?.getD ([], 0)).2 ∧ (ps[j]?.getD ([], 0)).2 ≤ 32 := by
        rw [List.getElem?_eq_getElem (by rw [HL1.out]; exact hlt)]
        obtain ⟨q1, _, q3⟩ := HPO.out (ps[j]'(by rw [HL1.out]; exact hlt)) (List.getElem_mem _)
        exact ⟨q1, q3⟩
      obtain ⟨p, hpp⟩ : ∃ p, p = ps[j]?.getD ([], 0) := ⟨_, rfl⟩
      rw [← hpp] at k1 k2 hp HT hq
      have hlm := ownI_len HO.out
      rw [HT.out, List.length_append, hlm] at hle
      have h3 := HCL.out
      obtain ⟨x, y⟩ := p
      change x.length ≤ 1000 at hp
      obtain ⟨hq1, hq2⟩ := hq
      change 0 ≤ y at hq1
      change y ≤ 32 at hq2
      have HW2 := Lib.hid (HW.out.alloc HW.out.size (.cells #[.string (bs x), .int .i64 y] 58))
      have HO2 : Hid ((wr.alloc (.cells #[.string (bs x), .int .i64 y] 58)).ownsRow w1.heap.size 3 1 (.slice A3 m c3) m (iv (pcodes (ps.take j)))) := Lib.hid (HO.out.alloc _)
      have hzw1 := HW.out.size
      clear hcell hpp hlm
      by_cases hy : 1 ≤ y
      · have HT2 : Hid (pcodes (ps.take (j + 1)) = pcodes (ps.take j) ++ [30, y - 1]) := Lib.hid (by
          rw [HT.out]
          unfold pcode
          rw [if_pos (by show 0 < y; omega)])
        have HF2 : Hid (FitI [30, y - 1]) := Lib.hid (FitI.of_mem (by
          intro z hz
          simp only [List.mem_cons, List.not_mem_nil, or_false] at hz
          omega))
        go_wp2_with (at_builtin; refine wpList_appI _ rfl _ _ 25 rfl w1.heap.size 3 i0 Tryd.underlying25 HI.out HZ0.out HSZ.out HBY.out _ m _ rfl (HO2.out.alloc _) _ _ 2 2 [30, y - 1] rfl (RdI.lit_at _ (wr.heap.size + 1) (by simp) [30, y - 1] HF2.out 3 _ rfl) (by omega) (by simp; omega) ?_; intro A5 c5 w5 hown5 hg5 hw5; have HO5 := Lib.hid hown5; have HB5 : Hid (Below w1.heap.size w1 w5) := Lib.hid (app_below HO2.out HW2.out hg5); clear hown5 hg5 hw5)
        go_roundw
        case rel => exact ⟨A5, m + 2, c5, j + 1, by omega, by go_num, rfl, Lib.hid (by rw [HT2.out]; exact HO5.out), HB5⟩
        case measure => simp [intOf]; omega
      · have HT2 : Hid (pcodes (ps.take (j + 1)) = pcodes (ps.take j) ++ cdZ x) := Lib.hid (by
          rw [HT.out]
          unfold pcode
          rw [if_neg (by show ¬ 0 < y; omega)])
        have hpl : (pcode (x, y)).length = (cdZ x).length := by unfold pcode; rw [if_neg (by show ¬ 0 < y; omega)]
        rw [hpl] at hle
        go_wp2_with fail
        refine (codes_any _ (bs x) (by rw [bs_size]; omega)).mono ?_
        rw [data_bs]
        rintro e w3 ⟨A6, m6, c6, rfl, ho6, hb6⟩
        have R6 := Lib.hid (RdI.of_iv ho6 (cdZ_fit _))
        have hm6 := ownI_len ho6
        have HO6 := Lib.hid (own_below HO2.out hb6)
        have HW6 := Lib.hid (HW2.out.trans (hb6.mono HW2.out.size))
        have hz6 := HW6.out.size
        clear ho6 hb6
        go_wp2_with (at_builtin; refine wpList_appI _ rfl _ _ 25 rfl w1.heap.size 3 i0 Tryd.underlying25 HI.out HZ0.out HSZ.out HBY.out _ m _ rfl HO6.out _ A6 m6 c6 _ rfl R6.out (by omega) (by omega) ?_; intro A5 c5 w5 hown5 hg5 hw5; have HO5 := Lib.hid hown5; have HB5 : Hid (Below w1.heap.size w1 w5) := Lib.hid (app_below0 HO6.out HW6.out hg5); clear hown5 hg5 hw5)
        go_roundw
        case rel => exact ⟨A5, m + m6, c5, j + 1, by omega, by go_num, rfl, Lib.hid (by rw [HT2.out]; exact HO5.out), HB5⟩
        case measure => simp [intOf]; omega
    · have HE : Hid (ps.take j = ps) := Lib.hid (List.take_of_length_le (by rw [HL1.out]; omega))
      go_wp2_with fail
      go_ret
      rw [HPS.out]
      refine ⟨A3, m, c3, rfl, ?_, HB1.out.trans (HW.out.mono HB1.out.size)⟩
      have h := own_base HO.out HB1.out.size
      rw [HE.out] at h
      exact h

theorem results_pool {P : Program} {fn : Func} {p u : Tmp} {ty : TypeId} (h : fn.results = #[.cell p ty, .tmp u]) (tmps : Array Value) (w : World) (g : Nat) (t : TypeId) (cs : Array Value) (fr : Nat × Nat) (d : TypeDesc)
    (hp : tmps.getD p undef = .pointer (some ⟨g, 0, none⟩)) (hg : w.heap[g]? = some (.cells cs t fr))
    (hu : P.underlying ty = some d) (hd : (match d with | .struct _ | .array _ _ => true | _ => false) = true) (hi : (P.info? ty).map (·.size) = some cs.size) :
    (results fn tmps).run P w = .ok (.tuple #[.agg cs, tmps.getD u undef]) w := by
  rw [results_cell_tmp h, hp]
  simp only [asAddr, Sem.run_pure, Result.andThen_ok, run_loadVar_row w g t ty cs fr d hg hu hd hi]

theorem pool_size : (Tryd.prog.info? 28).map (·.size) = some 3 := by kernel_rfl

theorem three_one (A B C : Option Addr) (n c m d k f : Nat) : (#[Value.slice A n c, .slice B m d, .slice C k f]).all (·.oneCell') = true := by simp [Value.oneCell']

/-- two rows of different types lie apart -/
theorem own_apart {w : World} {b b' n n' : Nat} {t t' : TypeId} {v v' : Value} {xs xs' : List Value} (h : w.ownsRow b t 1 v n xs) (h' : w.ownsRow b' t' 1 v' n' xs') (hne : t ≠ t') : v.ownBlock = none ∨ v'.ownBlock ≠ v.ownBlock := by
  rcases h.2 with ⟨rfl, _⟩ | ⟨g, cap, cur, rfl, _, hh, _⟩
  · exact .inl rfl
  · refine .inr fun e => ?_
    rcases h'.2 with ⟨rfl, _⟩ | ⟨g', cap', cur', rfl, _, hh', _⟩
    · simp [Value.ownBlock] at e
    · have e1 : g' = g := by simpa [Value.ownBlock] using e
      subst e1
      rw [hh] at hh'
      injection hh' with hh'
      injection hh' with _ ht
      exact hne ht

theorem own_other0 {w w' : World} {b b' n n' : Nat} {t t' : TypeId} {v v' : Value} {xs xs' : List Value} (h : w.ownsRow b t 1 v n xs) (h' : w.ownsRow b' t' 1 v' n' xs') (hne : t ≠ t') (hg : w.grownBy w' v'.ownBlock) : w'.ownsRow b t 1 v n xs := by
  refine h.kept hg ?_
  rcases own_apart h h' hne with e | e
  · exact .inl e
  · exact .inr e.symm

theorem own_other {w w' : World} {o : Obj} {b b' n n' : Nat} {t t' : TypeId} {v v' : Value} {xs xs' : List Value} (h : w.ownsRow b t 1 v n xs) (h' : w.ownsRow b' t' 1 v' n' xs') (hne : t ≠ t') (hg : (w.alloc o).grownBy w' v'.ownBlock) : w'.ownsRow b t 1 v n xs :=
  own_other0 (h.alloc o) (h'.alloc o) hne hg

theorem own_not {w : World} {b n g : Nat} {t : TypeId} {v : Value} {xs : List Value} (h : w.ownsRow b t 1 v n xs) (hg : g < b) : v.ownBlock ≠ some g := fun e => by
  have := (h.lt _ e).1
  omega

theorem own_ge1 {w : World} {b n : Nat} {t : TypeId} {v : Value} {xs : List Value} (h : w.ownsRow (b + 1) t 1 v n xs) (k : Nat) (hk : v.ownBlock = some k) : b ≤ k := by
  have := (h.lt _ hk).1
  omega

theorem below_grown_from {a w w' : World} {v : Value} (hg : w.grownBy w' v.ownBlock) (hs : a.heap.size ≤ w.heap.size) (h : ∀ k, v.ownBlock = some k → a.heap.size ≤ k) : Below a.heap.size w w' :=
  ⟨hg.os, hg.tape, hg.output, hg.size, fun k hk => hg.block k (by omega) (fun e => by
    have := h k e.symm
    omega)⟩

/-- the step of a walk in any order: append of bytes -/
theorem step_appB {P : Program} (w : World) {ops : Array Oper} {o : Oper} {a : Act} {K : Act → World → Prop} {Q : Exit → Act → World → Prop} {E : Prop} (hgd : o.guard = none) (s x : Operand) (t : TypeId)
    (ho : o.op = .call { callee := .builtin .append, args := #[s, x], argTypes := #[t, t] })
    (base : Nat) (e : TypeId) (i : TypeInfo) (ht : P.underlying t = some (.slice e)) (hi : P.info? e = some i) (hz : i.zero = some (.int .u8 0)) (hsize : i.size = 1) (hby : i.bytes = 1)
    (v : Value) (n : Nat) (xs : List UInt8) (hs : a.eval s = v) (hown : w.ownsRow base e 1 v n (bc xs))
    (B : Nat) (A : Option Addr) (m c : Nat) (l : List UInt8) (hx : a.eval x = .slice A m c) (hr : Rd w B A m l) (hbytes : n + m ≤ 140737488355328) (hbase : base ≤ w.heap.size)
    (h : ∀ A' c' w', w'.ownsRow base e 1 (.slice A' (n + m) c') (n + m) (bc (xs ++ l)) → w.grownBy w' v.ownBlock → K (a.put o.dst (.slice A' (n + m) c')) w') :
    if Region.wanted o (yielded ops a.tmps) = true then Oper.wp P o a w K Q else E := by
  rw [if_pos (by simp [Region.wanted, hgd])]
  obtain ⟨v', w', hrun, h2, h3, h4⟩ := run_appL (P := P) w base t o.type e i ht hi hz hsize hby v n xs hown B A m c l hr hbytes hbase
  obtain ⟨A', c', rfl⟩ := own_slice h2
  unfold Oper.wp execOp
  simp only [ho, resolve, invoke, builtin, Sem.run_bind, Sem.run_pure, Result.andThen_ok, List.map_toArray, List.map_cons, List.map_nil, hs, hx, hrun]
  exact h A' c' w' h2 h3

/-- a pool being made: its block lies right behind the world w2; j texts are in -/
structure Pl (w2 wr : World) (Aa : Option Addr) (na ca : Nat) (At : Option Addr) (ct : Nat) (Ab : Option Addr) (nb cb : Nat) (ab ls : List (List UInt8)) (j : Nat) : Prop where
  blk : Blk wr w2.heap.size 28 #[.slice Aa na ca, .slice At j ct, .slice Ab nb cb]
  oat : wr.ownsRow (w2.heap.size + 1) 3 1 (.slice At j ct) j (iv (offs ab (ls.take j)))
  oab : wr.ownsRow (w2.heap.size + 1) 5 1 (.slice Ab nb cb) nb (bc (bitsP ab (ls.take j)))
  bel : Below w2.heap.size w2 wr

def OutPool (w : World) (ls : List (List UInt8)) (e : Ending) (w' : World) : Prop :=
  ∃ Aa na ca At nt ct Ab nb cb, e = .returned (.tuple #[pv Aa na ca At nt ct Ab nb cb, .int .i64 (mkE ls)]) ∧ RdS w' w'.heap.size Aa na (mkA ls) ∧ RdI w' w'.heap.size At nt (mkT ls) ∧ Rd w' w'.heap.size Ab nb (mkB ls) ∧ nb ≤ cb ∧ nt ≤ ct ∧ na ≤ ca ∧ Below w.heap.size w w'

theorem OutPool.bad {w w' : World} {ls : List (List UInt8)} {er : Int} (h : mkE ls = er) (h0 : er ≠ 0) (hb : Below w.heap.size w w') : OutPool w ls (.returned (.tuple #[pv none 0 0 none 0 0 none 0 0, .int .i64 er])) w' := by
  have h1 : mkE ls ≠ 0 := by rw [h]; exact h0
  refine ⟨none, 0, 0, none, 0, 0, none, 0, 0, by rw [h], ?_, ?_, ?_, Nat.le_refl _, Nat.le_refl _, Nat.le_refl _, hb⟩
  · unfold mkA
    rw [if_neg h1]
    exact ⟨rfl, fun h => absurd h (by omega)⟩
  · unfold mkT
    rw [if_neg h1]
    exact ⟨rfl, fun h => absurd h (by omega), fun j => by simp⟩
  · unfold mkB
    rw [if_neg h1]
    exact Rd.nil _ _

theorem offs_fit {ab ls : List (List UInt8)} (h : (bitsP ab ls).length ≤ 100000) : FitI (offs ab ls) := FitI.of_mem fun z hz => by
  unfold offs at hz
  obtain ⟨j, _, rfl⟩ := List.mem_map.mp hz
  have := offP_le ab ls j
  omega

theorem OutPool.good {w w1 w2 wr : World} {g : Nat} {cs : Array Value} {Aa At Ab : Option Addr} {na ca ct nb cb : Nat} {ls : List (List UInt8)} (h : mkE ls = 0) (hg : g < w1.heap.size) (h12 : w1.heap.size ≤ w2.heap.size) (hb : Below w.heap.size w (wr.setRow g cs))
    (hs : w2.ownsRow w1.heap.size 9 1 (.slice Aa na ca) na (sc (chooseL ls 31))) (hp : Pl w2 wr Aa na ca At ct Ab nb cb (chooseL ls 31) ls ls.length) (hl : (bitsP (chooseL ls 31) ls).length ≤ 100000) :
    OutPool w ls (.returned (.tuple #[pv Aa na ca At ls.length ct Ab nb cb, .int .i64 0])) (wr.setRow g cs) := by
  have ha := ((RdS.of_own hs).below hp.bel).more hp.bel.size
  have hat : RdI wr wr.heap.size At ls.length (offs (chooseL ls 31) ls) := RdI.of_iv (by have h := hp.oat; rw [List.take_length] at h; exact h) (offs_fit hl)
  have hab : Rd wr wr.heap.size Ab nb (bitsP (chooseL ls 31) ls) := Rd.of_own (by have h := hp.oab; rw [List.take_length] at h; exact h)
  have e : (wr.setRow g cs).heap.size = wr.heap.size := size_setRow _ _ _
  refine ⟨Aa, na, ca, At, ls.length, ct, Ab, nb, cb, by rw [h], ?_, ?_, ?_, (own_cap hp.oab).1, (own_cap hp.oat).1, (own_cap hs).1, hb⟩
  · unfold mkA
    rw [if_pos h, e]
    refine ⟨ha.1, fun hn => ?_⟩
    obtain ⟨ad, rfl, hb1, hc⟩ := ha.2 hn
    have hge := own_ge hs ad rfl
    refine ⟨ad, rfl, hb1, fun j hj => ?_⟩
    rw [cell_setRow_other _ _ _ _ (by rw [blk_add]; omega)]
    exact hc j hj
  · unfold mkT
    rw [if_pos h, e]
    refine ⟨hat.1, fun hn => ?_, hat.2.2⟩
    obtain ⟨ad, rfl, hb1, hc⟩ := hat.2.1 hn
    have hge := own_ge hp.oat ad rfl
    refine ⟨ad, rfl, hb1, fun j hj => ?_⟩
    rw [cell_setRow_other _ _ _ _ (by rw [blk_add]; omega)]
    exact hc j hj
  · unfold mkB
    rw [if_pos h, e]
    refine ⟨hab.1, fun hn => ?_⟩
    obtain ⟨ad, rfl, hb1, hc⟩ := hab.2 hn
    have hge := own_ge hp.oab ad rfl
    refine ⟨ad, rfl, hb1, fun j hj => ?_⟩
    rw [cell_setRow_other _ _ _ _ (by rw [blk_add]; omega)]
    exact hc j hj

set_option maxRecDepth 100000 in
set_option maxHeartbeats 6400000 in
theorem pmake_any (w : World) (A : Option Addr) (n c : Nat) (ls : List (List UInt8)) (h : RdS w w.heap.size A n ls) (hc : n ≤ c) (hs : Short_ 1000 ls) (htt : n + tot ls ≤ 10000) (hm : MaxL w) :
    Calls Tryd.prog 9 #[.slice A n c] w (OutPool w ls) := by
  obtain ⟨i0, hi, hz0, hsz, hby⟩ := inf_parts Tryd.inf_int
  obtain ⟨j0, hji, hjz, hjs, hjb⟩ := inf_parts Tryd.inf_u8
  have HI := Lib.hid hi
  have HZ0 := Lib.hid hz0
  have HSZ := Lib.hid hsz
  have HBY := Lib.hid hby
  have HJ := Lib.hid hji
  have HJZ := Lib.hid hjz
  have HJS := Lib.hid hjs
  have HJB := Lib.hid hjb
  have H := Lib.hid h
  have HL := Lib.hid h.1
  have HC := Lib.hid hc
  have HS := Lib.hid hs
  have HM := Lib.hid hm
  have HTT := Lib.hid htt
  have hn : n ≤ 10000 := by omega
  have HB0 : Hid (Below w.heap.size w (w.alloc (.cells #[.slice none 0 0, .slice none 0 0, .slice none 0 0] 28))) := Lib.hid ((Below.refl _ _).alloc (Nat.le_refl _) _)
  have HK0 : Hid (Blk (w.alloc (.cells #[.slice none 0 0, .slice none 0 0, .slice none 0 0] 28)) w.heap.size 28 #[.slice none 0 0, .slice none 0 0, .slice none 0 0]) := Lib.hid (Blk.new w _ _)
  clear hi hz0 hsz hby hji hjz hjs hjb h hc hs hm htt
  go_enter Tryd.func9, Tryd.ntmps9
  go_wp2_with fail
  refine (checkTexts_any _ A n c ls ((H.out.below HB0.out).more HB0.out.size) HS.out (by omega)).mono ?_
  rintro e w1 ⟨rfl, hb1⟩
  have HB1 := Lib.hid (HB0.out.trans (hb1.mono HB0.out.size))
  have HK1 := Lib.hid (HK0.out.below hb1 HK0.out.lt)
  have hs1 := HB1.out.size
  clear hb1
  obtain ⟨er, he⟩ : ∃ er, er = mkE ls := ⟨_, rfl⟩
  have HE := Lib.hid he.symm
  rw [← he]
  clear he
  by_cases h0 : er = 0
  · subst h0
    obtain ⟨HN4, HTX⟩ := mkE_ok HE.out
    have HTX := Lib.hid HTX
    clear HN4
    have HBL : Hid ((bitsP (chooseL ls 31) ls).length ≤ 30000) := Lib.hid (by
      have h1 := bitsP_len (ab := chooseL ls 31) HTX.out
      have h2 := HTT.out
      have h3 := HL.out
      omega)
    have HAB := Lib.hid (mk_ab ls)
    go_wp2_with fail
    refine (choose_any w1 A n c ls 31 ((H.out.below HB1.out).more HB1.out.size) HC.out HTT.out (HM.out.up HB1.out)).mono ?_
    rintro e w2 ⟨Aa, na, ca, rfl, ho2, hb2⟩
    have HO2 := Lib.hid ho2
    have HB2 := Lib.hid (HB1.out.trans (hb2.mono HB1.out.size))
    have HK2 := Lib.hid (HK1.out.below hb2 HK1.out.lt)
    have hkl := HK1.out.lt
    have HW2 : Hid (w1.heap.size ≤ w2.heap.size) := Lib.hid hb2.size
    clear ho2 hb2
    obtain ⟨ab, hab⟩ : ∃ ab, ab = chooseL ls 31 := ⟨_, rfl⟩
    have HABE := Lib.hid hab
    rw [← hab] at HO2 HBL HAB
    clear hab
    have HNA := Lib.hid (ownS_len HO2.out)
    have HP0 : Hid (Pl w2 ((w2.alloc (.cells #[.slice none 0 0, .slice none 0 0, .slice none 0 0] 28)).setRow w2.heap.size #[.slice Aa na ca, .slice none 0 0, .slice none 0 0]) Aa na ca none 0 none 0 0 ab ls 0) := Lib.hid ⟨setRow_heap _ _ _ _ _ _ (Blk.new w2 _ _), ownI_nil _ _ _, own_nil _ _ _, below_setRow ((Below.refl _ _).alloc (Nat.le_refl _) _) (Nat.le_refl _) _⟩
    go_wp2_with (refine wpList_store_row rfl 28 _ _ rfl w2.heap.size #[.slice Aa na ca, .slice none 0 0, .slice none 0 0] rfl rfl _ _ (Blk.new w2 _ _) pool_size rfl (three_one _ _ _ _ _ _ _ _ _) ?_)
    go_loopw [19] (fun i wr => ∃ (At : Option Addr) (ct : Nat) (Ab : Option Addr) (nb cb j : Nat), j ≤ n ∧ i = .int .i64 j ∧ Hid (Pl w2 wr Aa na ca At ct Ab nb cb ab ls j)) (fun i _ => n - (intOf i).toNat)
    case atStart => exact ⟨none, 0, none, 0, 0, 0, Nat.zero_le _, rfl, HP0⟩
    case round =>
      obtain ⟨At, ct, Ab, nb, cb, j, hj, rfl, HP⟩ := hrel
      have ka : wr.cell? ⟨w2.heap.size, 0, none⟩ = some (.slice Aa na ca) := HP.out.blk.cell 0
      have kt : wr.cell? ⟨w2.heap.size, 1, none⟩ = some (.slice At j ct) := HP.out.blk.cell 1
      have kb : wr.cell? ⟨w2.heap.size, 2, none⟩ = some (.slice Ab nb cb) := HP.out.blk.cell 2
      have hwz := HP.out.blk.lt
      have hnb : nb ≤ 30000 := by
        have h1 := own_len HP.out.oab
        have h2 := offP_le ab ls j
        have h3 := HBL.out
        unfold offP at h2
        omega
      by_cases hlt : j < n
      · obtain ⟨ad, rfl, hadb, hcell⟩ := H.out.2 (by omega)
        have hb02 := HB2.out.trans (HP.out.bel.mono HB2.out.size)
        have kx := (hb02.cell (p := ad.add j) (by rw [blk_add]; exact hadb)).trans (hcell j (by rw [HL.out]; exact hlt))
        have HOF := Lib.hid (offs_take (ab := ab) (ls := ls) (j := j) (by rw [HL.out]; exact hlt))
        have HBT := Lib.hid (bitsP_take (ab := ab) (ls := ls) (j := j) (by rw [HL.out]; exact hlt))
        have HTS : Hid (textB (ls[j]?.getD []) = true) := Lib.hid (by
          rw [List.getElem?_eq_getElem (by rw [HL.out]; exact hlt)]
          exact HTX.out _ (List.getElem_mem _))
        have hsl := HS.out j
        have HNB : Hid (offP ab ls j = nb) := Lib.hid (own_len HP.out.oab)
        obtain ⟨s, hse⟩ : ∃ s, s = ls[j]?.getD [] := ⟨_, rfl⟩
        rw [← hse] at kx HBT HTS hsl
        have HCL : Hid ((ccodes ab s).length ≤ 3000) := Lib.hid (by
          have h1 := ccodes_le (ab := ab) HTS.out
          omega)
        clear hcell hb02 hse
        go_wp2_with (at_builtin; refine wpList_app1L _ rfl _ _ 25 rfl (w2.heap.size + 1) 3 i0 _ 8 Tryd.underlying25 HI.out HZ0.out HSZ.out HBY.out rfl _ j _ rfl (HP.out.oat.alloc _) ⟨_, 0, none⟩ 1 (.int .i64 nb) rfl (new_cell _ _ _) rfl (by omega) (by unfold maxLen; omega) (by simp; omega) ?_; intro At5 ct5 w5 hown5 hg5 hw5; have HK5 := Lib.hid ((HP.out.blk.alloc _).grown hg5 (fun e => own_not HP.out.oat (Nat.lt_succ_self _) e.symm)); have HU5 := Lib.hid (own_other HP.out.oab HP.out.oat (by decide) hg5); have HT5 : Hid (w5.ownsRow (w2.heap.size + 1) 3 1 (.slice At5 (j + 1) ct5) (j + 1) (iv (offs ab (ls.take (j + 1))))) := Lib.hid (by rw [HOF.out, iv_snoc, HNB.out]; exact hown5); have HB5 : Hid (Below w2.heap.size w2 w5) := Lib.hid (app_below (own_base HP.out.oat (Nat.le_succ _)) HP.out.bel hg5); have ka5 : w5.cell? ⟨w2.heap.size, 0, none⟩ = some (.slice Aa na ca) := HK5.out.cell 0; have kb5 : w5.cell? ⟨w2.heap.size, 2, none⟩ = some (.slice Ab nb cb) := HK5.out.cell 2; have kt5 : w5.cell? ⟨w2.heap.size, 1, none⟩ = some (.slice At j ct) := HK5.out.cell 1; have kz5 : w5.frozen? ⟨w2.heap.size, 1, none⟩ = false := HK5.out.frozen 1; clear hown5 hg5 hw5)
        obtain ⟨X, hX⟩ : ∃ X, X = w5.setCell ⟨w2.heap.size, 1, none⟩ (.slice At5 (j + 1) ct5) := ⟨_, rfl⟩
        rw [← hX]
        have HKX : Hid (Blk X.drew w2.heap.size 28 #[.slice Aa na ca, .slice At5 (j + 1) ct5, .slice Ab nb cb]) := Lib.hid (by rw [hX]; exact HK5.out.set_ 1 _)
        have HTX5 : Hid (X.drew.ownsRow (w2.heap.size + 1) 3 1 (.slice At5 (j + 1) ct5) (j + 1) (iv (offs ab (ls.take (j + 1))))) := Lib.hid (by rw [hX]; exact (own_set HT5.out (Nat.lt_succ_self _) 1 _).drew)
        have HUX5 : Hid (X.drew.ownsRow (w2.heap.size + 1) 5 1 (.slice Ab nb cb) nb (bc (bitsP ab (ls.take j)))) := Lib.hid (by rw [hX]; exact (own_set HU5.out (Nat.lt_succ_self _) 1 _).drew)
        have HBX : Hid (Below w2.heap.size w2 X) := Lib.hid (by rw [hX]; exact HB5.out.setCell (Nat.le_refl _) _)
        have kaX : X.cell? ⟨w2.heap.size, 0, none⟩ = some (.slice Aa na ca) := HKX.out.cell 0
        have kbX : X.cell? ⟨w2.heap.size, 2, none⟩ = some (.slice Ab nb cb) := HKX.out.cell 2
        clear hX HK5 HU5 HT5 HB5 ka5 kb5 kt5 kz5 ka kt kb kx
        refine wp_region_held_drew (S := Below w2.heap.size w2) (by kernel_rfl) HBX.out.drew (fun hHeld => ?_)
        refine held_take (i := 0) (fuel := 9) (v := ?_) (by rw [List.getElem?_toArray]; rfl) (by kernel_rfl) (by kernel_rfl) (by kernel_rfl) hHeld ?_ ?_ ?_ ?_
        rotate_left
        · intro u hSw
          go_simp
          try with_reducible rfl
        · rfl
        · exact fun _ _ _ h => h
        try simp only [Act.put, List.setIfInBounds_toArray, List.set_cons_zero, List.set_cons_succ]
        refine held_take (i := 2) (fuel := 8) (v := ?_) (by rw [List.getElem?_toArray]; rfl) (by kernel_rfl) (by kernel_rfl) (by kernel_rfl) hHeld ?_ ?_ ?_ ?_
        rotate_left
        · intro u hSw
          go_simp
          try with_reducible rfl
        · rfl
        · exact fun _ _ _ h => h
        try simp only [Act.put, List.setIfInBounds_toArray, List.set_cons_zero, List.set_cons_succ]
        refine held_take (i := 3) (fuel := 7) (v := ?_) (by rw [List.getElem?_toArray]; rfl) (by kernel_rfl) (by kernel_rfl) (by kernel_rfl) hHeld ?_ ?_ ?_ ?_
        rotate_left
        · intro u hSw
          go_simp
          try with_reducible rfl
        · rfl
        · exact fun _ _ _ h => h
        try simp only [Act.put, List.setIfInBounds_toArray, List.set_cons_zero, List.set_cons_succ]
        refine wpAnyH_ready (rs := [1, 4]) (fuel := 6) (by kernel_rfl) (by simp) ?_
        refine AllReadyH.cons (by rw [List.getElem?_toArray]; rfl) (fun K hK => ?_) ?_
        ·
          go_simp
          refine hK.out _ _ ?_ (fun hHeld => ?_)
          · exact hHeld
          clear hK K
          try simp only [Act.put, List.setIfInBounds_toArray, List.set_cons_zero, List.set_cons_succ]
          refine held_one (i := 4) (fuel := 5) (by kernel_rfl) (by rw [List.getElem?_toArray]; rfl) (fun K hK => ?_)
          go_simp
          refine hK.out _ _ ?_ (fun hHeld => ?_)
          · exact hHeld
          clear hK K
          try simp only [Act.put, List.setIfInBounds_toArray, List.set_cons_zero, List.set_cons_succ]
          refine held_one (i := 5) (fuel := 4) (by kernel_rfl) (by rw [List.getElem?_toArray]; rfl) (fun K hK => ?_)
          go_simp
          refine (encoded_any _ s Aa na ca ab (((RdS.of_own HO2.out).below hHeld).more hHeld.size) (own_cap HO2.out).1 (by omega) HTS.out (short_of_mem fun q hq => by have := HAB.out.2 q hq; omega) (by have := HNA.out; have := HAB.out.1; omega)).mono ?_
          rintro e w7 ⟨A7, m7, c7, rfl, ho7, hb7⟩
          refine hK.out _ _ ?_ (fun hHeld => ?_)
          · exact hHeld.trans (hb7.mono hHeld.size)
          clear hK K
          try simp only [Act.put, List.setIfInBounds_toArray, List.set_cons_zero, List.set_cons_succ]
          have R7 := Lib.hid (RdI.of_iv ho7 (FitI.of_range (ccodes_range HAB.out.1 s)))
          have hm7 := ownI_len ho7
          have hm7b := HCL.out
          have HK7 := Lib.hid (HKX.out.below hb7 HKX.out.lt)
          have HT7 := Lib.hid (own_below HTX5.out hb7)
          have HU7 := Lib.hid (own_below HUX5.out hb7)
          have ka7 : w7.cell? ⟨w2.heap.size, 0, none⟩ = some (.slice Aa na ca) := HK7.out.cell 0
          have kb7 : w7.cell? ⟨w2.heap.size, 2, none⟩ = some (.slice Ab nb cb) := HK7.out.cell 2
          clear ho7 hb7
          refine held_one (i := 6) (fuel := 3) (by kernel_rfl) (by rw [List.getElem?_toArray]; rfl) (fun K hK => ?_)
          go_simp
          refine (pack_any _ A7 m7 c7 (ccodes ab s) R7.out (by omega)).mono ?_
          rintro e w8 ⟨A8, m8, c8, rfl, ho8, hb8⟩
          refine hK.out _ _ ?_ (fun hHeld => ?_)
          · exact hHeld.trans (hb8.mono hHeld.size)
          clear hK K
          try simp only [Act.put, List.setIfInBounds_toArray, List.set_cons_zero, List.set_cons_succ]
          have R8 := Lib.hid (Rd.of_own ho8)
          have hm8 : m8 ≤ 5000 := by
            have h1 := own_len ho8
            rw [packL_len] at h1
            have h2 := HCL.out
            omega
          have HK8 := Lib.hid (HK7.out.below hb8 HK7.out.lt)
          have HT8 := Lib.hid (own_below HT7.out hb8)
          have HU8 := Lib.hid (own_below HU7.out hb8)
          have ka8 : w8.cell? ⟨w2.heap.size, 0, none⟩ = some (.slice Aa na ca) := HK8.out.cell 0
          have kb8 : w8.cell? ⟨w2.heap.size, 2, none⟩ = some (.slice Ab nb cb) := HK8.out.cell 2
          clear ho8 hb8
          refine held_one (i := 7) (fuel := 2) (by kernel_rfl) (by rw [List.getElem?_toArray]; rfl) (fun K hK => ?_)
          refine step_appB _ (by rfl) _ _ 26 (by rfl) (w2.heap.size + 1) 5 j0 Tryd.underlying26 HJ.out HJZ.out HJS.out HJB.out _ nb _ (by rfl) HU8.out w8.heap.size A8 m8 c8 _ (by rfl) R8.out (by omega) HK8.out.lt ?_
          intro A9 c9 w9 hown9 hg9
          refine hK.out _ _ ?_ (fun hHeld => ?_)
          · exact hHeld.trans (below_grown_from hg9 hHeld.size (fun k hk => own_ge1 HU8.out k hk))
          clear hK K
          try simp only [Act.put, List.setIfInBounds_toArray, List.set_cons_zero, List.set_cons_succ]
          have HK9 := Lib.hid (HK8.out.grown hg9 (fun e => own_not HU8.out (Nat.lt_succ_self _) e.symm))
          have HT9 := Lib.hid (own_other0 HT8.out HU8.out (by decide) hg9)
          have HU9 : Hid (w9.ownsRow (w2.heap.size + 1) 5 1 (.slice A9 (nb + m8) c9) (nb + m8) (bc (bitsP ab (ls.take (j + 1))))) := Lib.hid (by rw [HBT.out]; exact hown9)
          have kc9 : w9.cell? ⟨w2.heap.size, 2, none⟩ = some (.slice Ab nb cb) := HK9.out.cell 2
          have kz9 : w9.frozen? ⟨w2.heap.size, 2, none⟩ = false := HK9.out.frozen 2
          clear hown9 hg9
          refine held_take (i := 8) (fuel := 1) (v := ?_) (by rw [List.getElem?_toArray]; rfl) (by kernel_rfl) (by kernel_rfl) (by kernel_rfl) hHeld ?_ ?_ ?_ ?_
          rotate_left
          · intro u hSw
            go_simp
            try with_reducible rfl
          · rfl
          · exact fun _ _ _ h => h
          try simp only [Act.put, List.setIfInBounds_toArray, List.set_cons_zero, List.set_cons_succ]
          refine held_one (i := 9) (fuel := 0) (by kernel_rfl) (by rw [List.getElem?_toArray]; rfl) (fun K hK => ?_)
          go_simp
          refine hK.out _ _ ?_ (fun hHeld => ?_)
          · exact hHeld.setCell (Nat.le_refl _) _
          clear hK K
          try simp only [Act.put, List.setIfInBounds_toArray, List.set_cons_zero, List.set_cons_succ]
          refine wpAnyH_done (by kernel_rfl) ?_ _
          have HP2 : Hid (Pl w2 (w9.setCell ⟨w2.heap.size, 2, none⟩ (.slice A9 (nb + m8) c9)) Aa na ca At5 ct5 A9 (nb + m8) c9 ab ls (j + 1)) := Lib.hid ⟨HK9.out.set_ 2 _, own_set HT9.out (Nat.lt_succ_self _) 2 _, own_set HU9.out (Nat.lt_succ_self _) 2 _, hHeld⟩
          clear hHeld
          go_wp2_with fail
          go_roundw
          case rel => exact ⟨At5, ct5, A9, nb + m8, c9, j + 1, by omega, by go_num, HP2⟩
          case measure => simp [intOf]; omega
        refine AllReadyH.cons (by rw [List.getElem?_toArray]; rfl) (fun K hK => ?_) ?_
        ·
          go_simp
          refine hK.out _ _ ?_ (fun hHeld => ?_)
          · exact hHeld
          clear hK K
          try simp only [Act.put, List.setIfInBounds_toArray, List.set_cons_zero, List.set_cons_succ]
          refine wpAnyH_ready (rs := [1, 5]) (fuel := 5) (by kernel_rfl) (by simp) ?_
          refine AllReadyH.cons (by rw [List.getElem?_toArray]; rfl) (fun K hK => ?_) ?_
          ·
            go_simp
            refine hK.out _ _ ?_ (fun hHeld => ?_)
            · exact hHeld
            clear hK K
            try simp only [Act.put, List.setIfInBounds_toArray, List.set_cons_zero, List.set_cons_succ]
            refine held_one (i := 5) (fuel := 4) (by kernel_rfl) (by rw [List.getElem?_toArray]; rfl) (fun K hK => ?_)
            go_simp
            refine (encoded_any _ s Aa na ca ab (((RdS.of_own HO2.out).below hHeld).more hHeld.size) (own_cap HO2.out).1 (by omega) HTS.out (short_of_mem fun q hq => by have := HAB.out.2 q hq; omega) (by have := HNA.out; have := HAB.out.1; omega)).mono ?_
            rintro e w7 ⟨A7, m7, c7, rfl, ho7, hb7⟩
            refine hK.out _ _ ?_ (fun hHeld => ?_)
            · exact hHeld.trans (hb7.mono hHeld.size)
            clear hK K
            try simp only [Act.put, List.setIfInBounds_toArray, List.set_cons_zero, List.set_cons_succ]
            have R7 := Lib.hid (RdI.of_iv ho7 (FitI.of_range (ccodes_range HAB.out.1 s)))
            have hm7 := ownI_len ho7
            have hm7b := HCL.out
            have HK7 := Lib.hid (HKX.out.below hb7 HKX.out.lt)
            have HT7 := Lib.hid (own_below HTX5.out hb7)
            have HU7 := Lib.hid (own_below HUX5.out hb7)
            have ka7 : w7.cell? ⟨w2.heap.size, 0, none⟩ = some (.slice Aa na ca) := HK7.out.cell 0
            have kb7 : w7.cell? ⟨w2.heap.size, 2, none⟩ = some (.slice Ab nb cb) := HK7.out.cell 2
            clear ho7 hb7
            refine held_one (i := 6) (fuel := 3) (by kernel_rfl) (by rw [List.getElem?_toArray]; rfl) (fun K hK => ?_)
            go_simp
            refine (pack_any _ A7 m7 c7 (ccodes ab s) R7.out (by omega)).mono ?_
            rintro e w8 ⟨A8, m8, c8, rfl, ho8, hb8⟩
            refine hK.out _ _ ?_ (fun hHeld => ?_)
            · exact hHeld.trans (hb8.mono hHeld.size)
            clear hK K
            try simp only [Act.put, List.setIfInBounds_toArray, List.set_cons_zero, List.set_cons_succ]
            have R8 := Lib.hid (Rd.of_own ho8)
            have hm8 : m8 ≤ 5000 := by
              have h1 := own_len ho8
              rw [packL_len] at h1
              have h2 := HCL.out
              omega
            have HK8 := Lib.hid (HK7.out.below hb8 HK7.out.lt)
            have HT8 := Lib.hid (own_below HT7.out hb8)
            have HU8 := Lib.hid (own_below HU7.out hb8)
            have ka8 : w8.cell? ⟨w2.heap.size, 0, none⟩ = some (.slice Aa na ca) := HK8.out.cell 0
            have kb8 : w8.cell? ⟨w2.heap.size, 2, none⟩ = some (.slice Ab nb cb) := HK8.out.cell 2
            clear ho8 hb8
            refine held_one (i := 7) (fuel := 2) (by kernel_rfl) (by rw [List.getElem?_toArray]; rfl) (fun K hK => ?_)
            refine step_appB _ (by rfl) _ _ 26 (by rfl) (w2.heap.size + 1) 5 j0 Tryd.underlying26 HJ.out HJZ.out HJS.out HJB.out _ nb _ (by rfl) HU8.out w8.heap.size A8 m8 c8 _ (by rfl) R8.out (by omega) HK8.out.lt ?_
            intro A9 c9 w9 hown9 hg9
            refine hK.out _ _ ?_ (fun hHeld => ?_)
            · exact hHeld.trans (below_grown_from hg9 hHeld.size (fun k hk => own_ge1 HU8.out k hk))
            clear hK K
            try simp only [Act.put, List.setIfInBounds_toArray, List.set_cons_zero, List.set_cons_succ]
            have HK9 := Lib.hid (HK8.out.grown hg9 (fun e => own_not HU8.out (Nat.lt_succ_self _) e.symm))
            have HT9 := Lib.hid (own_other0 HT8.out HU8.out (by decide) hg9)
            have HU9 : Hid (w9.ownsRow (w2.heap.size + 1) 5 1 (.slice A9 (nb + m8) c9) (nb + m8) (bc (bitsP ab (ls.take (j + 1))))) := Lib.hid (by rw [HBT.out]; exact hown9)
            have kc9 : w9.cell? ⟨w2.heap.size, 2, none⟩ = some (.slice Ab nb cb) := HK9.out.cell 2
            have kz9 : w9.frozen? ⟨w2.heap.size, 2, none⟩ = false := HK9.out.frozen 2
            clear hown9 hg9
            refine held_take (i := 8) (fuel := 1) (v := ?_) (by rw [List.getElem?_toArray]; rfl) (by kernel_rfl) (by kernel_rfl) (by kernel_rfl) hHeld ?_ ?_ ?_ ?_
            rotate_left
            · intro u hSw
              go_simp
              try with_reducible rfl
            · rfl
            · exact fun _ _ _ h => h
            try simp only [Act.put, List.setIfInBounds_toArray, List.set_cons_zero, List.set_cons_succ]
            refine held_one (i := 9) (fuel := 0) (by kernel_rfl) (by rw [List.getElem?_toArray]; rfl) (fun K hK => ?_)
            go_simp
            refine hK.out _ _ ?_ (fun hHeld => ?_)
            · exact hHeld.setCell (Nat.le_refl _) _
            clear hK K
            try simp only [Act.put, List.setIfInBounds_toArray, List.set_cons_zero, List.set_cons_succ]
            refine wpAnyH_done (by kernel_rfl) ?_ _
            have HP2 : Hid (Pl w2 (w9.setCell ⟨w2.heap.size, 2, none⟩ (.slice A9 (nb + m8) c9)) Aa na ca At5 ct5 A9 (nb + m8) c9 ab ls (j + 1)) := Lib.hid ⟨HK9.out.set_ 2 _, own_set HT9.out (Nat.lt_succ_self _) 2 _, own_set HU9.out (Nat.lt_succ_self _) 2 _, hHeld⟩
            clear hHeld
            go_wp2_with fail
            go_roundw
            case rel => exact ⟨At5, ct5, A9, nb + m8, c9, j + 1, by omega, by go_num, HP2⟩
            case measure => simp [intOf]; omega
          refine AllReadyH.cons (by rw [List.getElem?_toArray]; rfl) (fun K hK => ?_) ?_
          ·
            go_simp
            refine (encoded_any _ s Aa na ca ab (((RdS.of_own HO2.out).below hHeld).more hHeld.size) (own_cap HO2.out).1 (by omega) HTS.out (short_of_mem fun q hq => by have := HAB.out.2 q hq; omega) (by have := HNA.out; have := HAB.out.1; omega)).mono ?_
            rintro e w7 ⟨A7, m7, c7, rfl, ho7, hb7⟩
            refine hK.out _ _ ?_ (fun hHeld => ?_)
            · exact hHeld.trans (hb7.mono hHeld.size)
            clear hK K
            try simp only [Act.put, List.setIfInBounds_toArray, List.set_cons_zero, List.set_cons_succ]
            have R7 := Lib.hid (RdI.of_iv ho7 (FitI.of_range (ccodes_range HAB.out.1 s)))
            have hm7 := ownI_len ho7
            have hm7b := HCL.out
            have HK7 := Lib.hid (HKX.out.below hb7 HKX.out.lt)
            have HT7 := Lib.hid (own_below HTX5.out hb7)
            have HU7 := Lib.hid (own_below HUX5.out hb7)
            have ka7 : w7.cell? ⟨w2.heap.size, 0, none⟩ = some (.slice Aa na ca) := HK7.out.cell 0
            have kb7 : w7.cell? ⟨w2.heap.size, 2, none⟩ = some (.slice Ab nb cb) := HK7.out.cell 2
            clear ho7 hb7
            refine wpAnyH_ready (rs := [1, 6]) (fuel := 4) (by kernel_rfl) (by simp) ?_
            refine AllReadyH.cons (by rw [List.getElem?_toArray]; rfl) (fun K hK => ?_) ?_
            ·
              go_simp
              refine hK.out _ _ ?_ (fun hHeld => ?_)
              · exact hHeld
              clear hK K
              try simp only [Act.put, List.setIfInBounds_toArray, List.set_cons_zero, List.set_cons_succ]
              refine held_one (i := 6) (fuel := 3) (by kernel_rfl) (by rw [List.getElem?_toArray]; rfl) (fun K hK => ?_)
              go_simp
              refine (pack_any _ A7 m7 c7 (ccodes ab s) R7.out (by omega)).mono ?_
              rintro e w8 ⟨A8, m8, c8, rfl, ho8, hb8⟩
              refine hK.out _ _ ?_ (fun hHeld => ?_)
              · exact hHeld.trans (hb8.mono hHeld.size)
              clear hK K
              try simp only [Act.put, List.setIfInBounds_toArray, List.set_cons_zero, List.set_cons_succ]
              have R8 := Lib.hid (Rd.of_own ho8)
              have hm8 : m8 ≤ 5000 := by
                have h1 := own_len ho8
                rw [packL_len] at h1
                have h2 := HCL.out
                omega
              have HK8 := Lib.hid (HK7.out.below hb8 HK7.out.lt)
              have HT8 := Lib.hid (own_below HT7.out hb8)
              have HU8 := Lib.hid (own_below HU7.out hb8)
              have ka8 : w8.cell? ⟨w2.heap.size, 0, none⟩ = some (.slice Aa na ca) := HK8.out.cell 0
              have kb8 : w8.cell? ⟨w2.heap.size, 2, none⟩ = some (.slice Ab nb cb) := HK8.out.cell 2
              clear ho8 hb8
              refine held_one (i := 7) (fuel := 2) (by kernel_rfl) (by rw [List.getElem?_toArray]; rfl) (fun K hK => ?_)
              refine step_appB _ (by rfl) _ _ 26 (by rfl) (w2.heap.size + 1) 5 j0 Tryd.underlying26 HJ.out HJZ.out HJS.out HJB.out _ nb _ (by rfl) HU8.out w8.heap.size A8 m8 c8 _ (by rfl) R8.out (by omega) HK8.out.lt ?_
              intro A9 c9 w9 hown9 hg9
              refine hK.out _ _ ?_ (fun hHeld => ?_)
              · exact hHeld.trans (below_grown_from hg9 hHeld.size (fun k hk => own_ge1 HU8.out k hk))
              clear hK K
              try simp only [Act.put, List.setIfInBounds_toArray, List.set_cons_zero, List.set_cons_succ]
              have HK9 := Lib.hid (HK8.out.grown hg9 (fun e => own_not HU8.out (Nat.lt_succ_self _) e.symm))
              have HT9 := Lib.hid (own_other0 HT8.out HU8.out (by decide) hg9)
              have HU9 : Hid (w9.ownsRow (w2.heap.size + 1) 5 1 (.slice A9 (nb + m8) c9) (nb + m8) (bc (bitsP ab (ls.take (j + 1))))) := Lib.hid (by rw [HBT.out]; exact hown9)
              have kc9 : w9.cell? ⟨w2.heap.size, 2, none⟩ = some (.slice Ab nb cb) := HK9.out.cell 2
              have kz9 : w9.frozen? ⟨w2.heap.size, 2, none⟩ = false := HK9.out.frozen 2
              clear hown9 hg9
              refine held_take (i := 8) (fuel := 1) (v := ?_) (by rw [List.getElem?_toArray]; rfl) (by kernel_rfl) (by kernel_rfl) (by kernel_rfl) hHeld ?_ ?_ ?_ ?_
              rotate_left
              · intro u hSw
                go_simp
                try with_reducible rfl
              · rfl
              · exact fun _ _ _ h => h
              try simp only [Act.put, List.setIfInBounds_toArray, List.set_cons_zero, List.set_cons_succ]
              refine held_one (i := 9) (fuel := 0) (by kernel_rfl) (by rw [List.getElem?_toArray]; rfl) (fun K hK => ?_)
              go_simp
              refine hK.out _ _ ?_ (fun hHeld => ?_)
              · exact hHeld.setCell (Nat.le_refl _) _
              clear hK K
              try simp only [Act.put, List.setIfInBounds_toArray, List.set_cons_zero, List.set_cons_succ]
              refine wpAnyH_done (by kernel_rfl) ?_ _
              have HP2 : Hid (Pl w2 (w9.setCell ⟨w2.heap.size, 2, none⟩ (.slice A9 (nb + m8) c9)) Aa na ca At5 ct5 A9 (nb + m8) c9 ab ls (j + 1)) := Lib.hid ⟨HK9.out.set_ 2 _, own_set HT9.out (Nat.lt_succ_self _) 2 _, own_set HU9.out (Nat.lt_succ_self _) 2 _, hHeld⟩
              clear hHeld
              go_wp2_with fail
              go_roundw
              case rel => exact ⟨At5, ct5, A9, nb + m8, c9, j + 1, by omega, by go_num, HP2⟩
              case measure => simp [intOf]; omega
            refine AllReadyH.cons (by rw [List.getElem?_toArray]; rfl) (fun K hK => ?_) ?_
            ·
              go_simp
              refine (pack_any _ A7 m7 c7 (ccodes ab s) R7.out (by omega)).mono ?_
              rintro e w8 ⟨A8, m8, c8, rfl, ho8, hb8⟩
              refine hK.out _ _ ?_ (fun hHeld => ?_)
              · exact hHeld.trans (hb8.mono hHeld.size)
              clear hK K
              try simp only [Act.put, List.setIfInBounds_toArray, List.set_cons_zero, List.set_cons_succ]
              have R8 := Lib.hid (Rd.of_own ho8)
              have hm8 : m8 ≤ 5000 := by
                have h1 := own_len ho8
                rw [packL_len] at h1
                have h2 := HCL.out
                omega
              have HK8 := Lib.hid (HK7.out.below hb8 HK7.out.lt)
              have HT8 := Lib.hid (own_below HT7.out hb8)
              have HU8 := Lib.hid (own_below HU7.out hb8)
              have ka8 : w8.cell? ⟨w2.heap.size, 0, none⟩ = some (.slice Aa na ca) := HK8.out.cell 0
              have kb8 : w8.cell? ⟨w2.heap.size, 2, none⟩ = some (.slice Ab nb cb) := HK8.out.cell 2
              clear ho8 hb8
              refine held_one (i := 1) (fuel := 3) (by kernel_rfl) (by rw [List.getElem?_toArray]; rfl) (fun K hK => ?_)
              go_simp
              refine hK.out _ _ ?_ (fun hHeld => ?_)
              · exact hHeld
              clear hK K
              try simp only [Act.put, List.setIfInBounds_toArray, List.set_cons_zero, List.set_cons_succ]
              refine held_one (i := 7) (fuel := 2) (by kernel_rfl) (by rw [List.getElem?_toArray]; rfl) (fun K hK => ?_)
              refine step_appB _ (by rfl) _ _ 26 (by rfl) (w2.heap.size + 1) 5 j0 Tryd.underlying26 HJ.out HJZ.out HJS.out HJB.out _ nb _ (by rfl) HU8.out w8.heap.size A8 m8 c8 _ (by rfl) R8.out (by omega) HK8.out.lt ?_
              intro A9 c9 w9 hown9 hg9
              refine hK.out _ _ ?_ (fun hHeld => ?_)
              · exact hHeld.trans (below_grown_from hg9 hHeld.size (fun k hk => own_ge1 HU8.out k hk))
              clear hK K
              try simp only [Act.put, List.setIfInBounds_toArray, List.set_cons_zero, List.set_cons_succ]
              have HK9 := Lib.hid (HK8.out.grown hg9 (fun e => own_not HU8.out (Nat.lt_succ_self _) e.symm))
              have HT9 := Lib.hid (own_other0 HT8.out HU8.out (by decide) hg9)
              have HU9 : Hid (w9.ownsRow (w2.heap.size + 1) 5 1 (.slice A9 (nb + m8) c9) (nb + m8) (bc (bitsP ab (ls.take (j + 1))))) := Lib.hid (by rw [HBT.out]; exact hown9)
              have kc9 : w9.cell? ⟨w2.heap.size, 2, none⟩ = some (.slice Ab nb cb) := HK9.out.cell 2
              have kz9 : w9.frozen? ⟨w2.heap.size, 2, none⟩ = false := HK9.out.frozen 2
              clear hown9 hg9
              refine held_take (i := 8) (fuel := 1) (v := ?_) (by rw [List.getElem?_toArray]; rfl) (by kernel_rfl) (by kernel_rfl) (by kernel_rfl) hHeld ?_ ?_ ?_ ?_
              rotate_left
              · intro u hSw
                go_simp
                try with_reducible rfl
              · rfl
              · exact fun _ _ _ h => h
              try simp only [Act.put, List.setIfInBounds_toArray, List.set_cons_zero, List.set_cons_succ]
              refine held_one (i := 9) (fuel := 0) (by kernel_rfl) (by rw [List.getElem?_toArray]; rfl) (fun K hK => ?_)
              go_simp
              refine hK.out _ _ ?_ (fun hHeld => ?_)
              · exact hHeld.setCell (Nat.le_refl _) _
              clear hK K
              try simp only [Act.put, List.setIfInBounds_toArray, List.set_cons_zero, List.set_cons_succ]
              refine wpAnyH_done (by kernel_rfl) ?_ _
              have HP2 : Hid (Pl w2 (w9.setCell ⟨w2.heap.size, 2, none⟩ (.slice A9 (nb + m8) c9)) Aa na ca At5 ct5 A9 (nb + m8) c9 ab ls (j + 1)) := Lib.hid ⟨HK9.out.set_ 2 _, own_set HT9.out (Nat.lt_succ_self _) 2 _, own_set HU9.out (Nat.lt_succ_self _) 2 _, hHeld⟩
              clear hHeld
              go_wp2_with fail
              go_roundw
              case rel => exact ⟨At5, ct5, A9, nb + m8, c9, j + 1, by omega, by go_num, HP2⟩
              case measure => simp [intOf]; omega
            exact AllReadyH.nil
          exact AllReadyH.nil
        exact AllReadyH.nil
      · obtain rfl : j = n := by omega
        have HKR := Lib.hid (HK2.out.below HP.out.bel (Nat.lt_of_lt_of_le hkl HW2.out))
        have HBR := Lib.hid (HB2.out.trans (HP.out.bel.mono HB2.out.size))
        have hlt2 : w.heap.size < wr.heap.size := HKR.out.lt
        go_wp2_with (refine wpList_store_row rfl 28 _ _ rfl w.heap.size #[.slice Aa na ca, .slice At j ct, .slice Ab nb cb] rfl rfl _ _ HKR.out pool_size rfl (three_one _ _ _ _ _ _ _ _ _) ?_)
        (try simp only [Exit.inBlock, Exit.then]); refine bodyPost_ret (results_pool rfl _ _ _ _ _ _ _ rfl (setRow_heap _ _ _ _ _ _ HKR.out) Tryd.underlying28 rfl (by kernel_rfl)) rfl ?_
        have hp := HP.out
        have ho := HO2.out
        have hl := HBL.out
        rw [HABE.out] at hp ho hl
        have hjl : j = ls.length := HL.out.symm
        subst hjl
        exact OutPool.good HE.out hkl HW2.out (below_setRow HBR.out (Nat.le_refl _) _) ho hp (by omega)
  · have h9b : (er != 0) = true := by rw [bne_iff_ne]; exact h0
    go_wp2_with (refine wpList_store_row rfl 28 _ _ rfl w.heap.size #[.slice none 0 0, .slice none 0 0, .slice none 0 0] rfl rfl _ _ HK1.out pool_size rfl (three_one _ _ _ _ _ _ _ _ _) ?_)
    (try simp only [Exit.inBlock, Exit.then]); refine bodyPost_ret (results_pool rfl _ _ _ _ _ _ _ rfl (setRow_heap _ _ _ _ _ _ HK1.out) Tryd.underlying28 rfl (by kernel_rfl)) rfl ?_
    exact OutPool.bad HE.out h0 (below_setRow HB1.out (Nat.le_refl _) _)

theorem box2 (w : World) (o o' : Obj) : Below w.heap.size w ((w.alloc o).alloc o') := ((Below.refl _ _).alloc (Nat.le_refl _) _).alloc (by simp) _

set_option maxRecDepth 100000 in
set_option maxHeartbeats 6400000 in
theorem psame_any (w : World) (Aa At Ab Aa' At' Ab' : Option Addr) (na ca nt ct nb cb na' ca' nt' ct' nb' cb' : Nat) (ab ab' : List (List UInt8)) (at_ at' : List Int) (l l' : List UInt8) (ha : RdS w w.heap.size Aa na ab) (ht : RdI w w.heap.size At nt at_) (hb : Rd w w.heap.size Ab nb l)
    (ha' : RdS w w.heap.size Aa' na' ab') (ht' : RdI w w.heap.size At' nt' at') (hb' : Rd w w.heap.size Ab' nb' l') (hna : (na : Int) ≤ 1000000) (hnt : (nt : Int) ≤ 1000000) (hnb : (nb : Int) ≤ 1000000) (hna' : (na' : Int) ≤ 1000000) (hnt' : (nt' : Int) ≤ 1000000) (hnb' : (nb' : Int) ≤ 1000000) :
    Calls Tryd.prog 29 #[pv Aa na ca At nt ct Ab nb cb, pv Aa' na' ca' At' nt' ct' Ab' nb' cb'] w fun e w' => e = .returned (.bool (eqPool ab ab' at_ at' l l')) ∧ Below w.heap.size w w' := by
  have HA := Lib.hid ha
  have HT := Lib.hid ht
  have HB := Lib.hid hb
  have HA' := Lib.hid ha'
  have HT' := Lib.hid ht'
  have HB' := Lib.hid hb'
  obtain ⟨W, hW⟩ : ∃ W, W = (w.alloc (.cells #[.slice Aa na ca, .slice At nt ct, .slice Ab nb cb] 28)).alloc (.cells #[.slice Aa' na' ca', .slice At' nt' ct', .slice Ab' nb' cb'] 28) := ⟨_, rfl⟩
  have HW : Hid (Below w.heap.size w W) := Lib.hid (by rw [hW]; exact box2 _ _ _)
  have HK : Hid (Blk W w.heap.size 28 #[.slice Aa na ca, .slice At nt ct, .slice Ab nb cb]) := Lib.hid (by rw [hW]; exact (Blk.new _ _ _).alloc _)
  have HK' : Hid (Blk W (w.heap.size + 1) 28 #[.slice Aa' na' ca', .slice At' nt' ct', .slice Ab' nb' cb']) := Lib.hid (by rw [hW]; exact Blk.new_at _ _ _ _ (by simp))
  clear ha ht hb ha' ht' hb'
  go_enter Tryd.func29, Tryd.ntmps29
  go_wp2_with fail
  rw [← hW]
  clear hW
  refine (equalS_any W _ _ Aa Aa' na na' ca ca' ab ab' (HA.out.below HW.out) (HA'.out.below HW.out) hna hna').mono ?_
  rintro e w1 ⟨rfl, hb1⟩
  have HB1 := Lib.hid (HW.out.trans (hb1.mono HW.out.size))
  have HK1 := Lib.hid (HK.out.below hb1 HK.out.lt)
  have HK1' := Lib.hid (HK'.out.below hb1 HK'.out.lt)
  have k1 : w1.cell? ⟨w.heap.size, 1, none⟩ = some (.slice At nt ct) := HK1.out.cell 1
  have k1' : w1.cell? ⟨w.heap.size + 1, 1, none⟩ = some (.slice At' nt' ct') := HK1'.out.cell 1
  clear hb1
  have HE : Hid (eqPool ab ab' at_ at' l l' = (eqT ab ab' && (eqI at_ at' && eqB l l'))) := Lib.hid rfl
  cases hx : eqT ab ab' with
  | false =>
    have HE2 : Hid (eqPool ab ab' at_ at' l l' = false) := Lib.hid (by rw [HE.out, hx]; rfl)
    clear hx
    go_wp2_with fail
    go_ret
    exact ⟨bool_ret8 HE2.out.symm, HB1.out⟩
  | true =>
    rw [hx] at HE
    clear hx
    go_wp2_with fail
    refine (equal_any w1 _ _ At At' nt nt' ct ct' at_ at' (HT.out.below HB1.out) (HT'.out.below HB1.out) hnt hnt').mono ?_
    rintro e w2 ⟨rfl, hb2⟩
    have HB2 := Lib.hid (HB1.out.trans (hb2.mono HB1.out.size))
    have HK2 := Lib.hid (HK1.out.below hb2 HK1.out.lt)
    have HK2' := Lib.hid (HK1'.out.below hb2 HK1'.out.lt)
    have k2 : w2.cell? ⟨w.heap.size, 2, none⟩ = some (.slice Ab nb cb) := HK2.out.cell 2
    have k2' : w2.cell? ⟨w.heap.size + 1, 2, none⟩ = some (.slice Ab' nb' cb') := HK2'.out.cell 2
    clear hb2
    cases hx : eqI at_ at' with
    | false =>
      have HE2 : Hid (eqPool ab ab' at_ at' l l' = false) := Lib.hid (by rw [HE.out, hx]; rfl)
      clear hx
      go_wp2_with fail
      go_ret
      exact ⟨bool_ret8 HE2.out.symm, HB2.out⟩
    | true =>
      rw [hx] at HE
      clear hx
      go_wp2_with fail
      refine (equalB_any w2 _ _ Ab Ab' nb nb' cb cb' l l' (HB.out.below HB2.out) (HB'.out.below HB2.out) hnb hnb').mono ?_
      rintro e w3 ⟨rfl, hb3⟩
      have HB3 := Lib.hid (HB2.out.trans (hb3.mono HB2.out.size))
      clear hb3
      have HE2 : Hid (eqPool ab ab' at_ at' l l' = eqB l l') := Lib.hid (by rw [HE.out]; rfl)
      obtain ⟨q, hq⟩ : ∃ q, q = eqB l l' := ⟨_, rfl⟩
      rw [← hq] at HE2 ⊢
      clear hq
      go_wp2_with fail
      go_ret
      exact ⟨bool_ret8 HE2.out.symm, HB3.out⟩

set_option maxRecDepth 100000 in
set_option maxHeartbeats 6400000 in
theorem pright_any (w : World) (Aa At Ab : Option Addr) (na ca nt ct nb cb : Nat) (ab : List (List UInt8)) (at_ : List Int) (l : List UInt8) (ha : RdS w w.heap.size Aa na ab) (ht : RdI w w.heap.size At nt at_) (hb : Rd w w.heap.size Ab nb l)
    (hm : Short_ 1000 ab) (hna : (na : Int) ≤ 10000) (hnt : (nt : Int) ≤ 10000) (hnb : (nb : Int) ≤ 30000) (hcb : nb ≤ cb) (hs : Short_ 1000 (allL ab at_ l).1) (htt : (allL ab at_ l).1.length + tot (allL ab at_ l).1 ≤ 10000) (hml : MaxL w) :
    Calls Tryd.prog 15 #[pv Aa na ca At nt ct Ab nb cb] w fun e w' => e = .returned (.bool (rightL ab at_ l)) ∧ Below w.heap.size w w' := by
  have HA := Lib.hid ha
  have HT := Lib.hid ht
  have HR := Lib.hid hb
  have HM := Lib.hid hm
  have HS := Lib.hid hs
  have HTT := Lib.hid htt
  have HML := Lib.hid hml
  have HB1 : Hid (Below w.heap.size w (w.alloc (.cells #[.slice Aa na ca, .slice At nt ct, .slice Ab nb cb] 28))) := Lib.hid ((Below.refl _ _).alloc (Nat.le_refl _) _)
  have HK1 : Hid (Blk (w.alloc (.cells #[.slice Aa na ca, .slice At nt ct, .slice Ab nb cb] 28)) w.heap.size 28 #[.slice Aa na ca, .slice At nt ct, .slice Ab nb cb]) := Lib.hid (Blk.new w _ _)
  have HE : Hid (rightL ab at_ l = (decide ((allL ab at_ l).2 = 0) && (decide (mkE (allL ab at_ l).1 = 0) && eqPool ab (mkA (allL ab at_ l).1) at_ (mkT (allL ab at_ l).1) l (mkB (allL ab at_ l).1)))) := Lib.hid rfl
  clear ha ht hb hm hs htt hml
  go_enter Tryd.func15, Tryd.ntmps15
  go_wp2_with fail
  refine (pall_any _ Aa At Ab na ca nt ct nb cb ab at_ l ((HA.out.below HB1.out).more HB1.out.size) ((HT.out.below HB1.out).more HB1.out.size) ((HR.out.below HB1.out).more HB1.out.size) HM.out hna hnt hnb hcb).mono ?_
  rintro e w2 ⟨A2, n2, c2, rfl, ho2, hb2⟩
  have HB2 := Lib.hid (HB1.out.trans (hb2.mono HB1.out.size))
  have HK2 := Lib.hid (HK1.out.below hb2 HK1.out.lt)
  have HRS := Lib.hid (RdS.of_own ho2)
  have HC2 := Lib.hid (own_cap ho2).1
  clear ho2 hb2
  obtain ⟨⟨ts, er⟩, hr⟩ : ∃ r, r = allL ab at_ l := ⟨_, rfl⟩
  rw [← hr] at HE HRS HS HTT ⊢
  have HLT := Lib.hid HRS.out.1
  clear hr
  by_cases h0 : er = 0
  · subst h0
    have HE2 : Hid (rightL ab at_ l = (decide (mkE ts = 0) && eqPool ab (mkA ts) at_ (mkT ts) l (mkB ts))) := Lib.hid (by rw [HE.out]; rfl)
    go_wp2_with fail
    refine (pmake_any w2 A2 n2 c2 ts HRS.out HC2.out HS.out (by have h1 := HTT.out; have h2 := HLT.out; change ts.length = n2 at h2; change ts.length + tot ts ≤ 10000 at h1; omega) (HML.out.up HB2.out)).mono ?_
    rintro e w3 ⟨Aa3, na3, ca3, At3, nt3, ct3, Ab3, nb3, cb3, rfl, hra, hrt, hrb, hcb3, hct3, hca3, hb3⟩
    have HB3 := Lib.hid (HB2.out.trans (hb3.mono HB2.out.size))
    have HK3 := Lib.hid (HK2.out.below hb3 HK2.out.lt)
    have HRA := Lib.hid hra
    have HRT := Lib.hid hrt
    have HRB := Lib.hid hrb
    clear hra hrt hrb hb3
    have HZ : Hid (mkE ts = 0 → (na3 ≤ 31 ∧ nt3 ≤ 10000 ∧ nb3 ≤ 30000)) := Lib.hid (fun h => by
      have h1 := HRA.out.1
      have h2 := HRT.out.1
      have h3 := HRB.out.1
      have h4 := HTT.out
      change ts.length + tot ts ≤ 10000 at h4
      unfold mkA at h1
      unfold mkT at h2
      unfold mkB at h3
      rw [if_pos h] at h1 h2 h3
      rw [offs_len] at h2
      have h5 := (mk_ab ts).1
      have h6 := bitsP_len (ab := chooseL ts 31) (mkE_ok h).2
      omega)
    obtain ⟨er, he⟩ : ∃ er, er = mkE ts := ⟨_, rfl⟩
    rw [← he] at HE2 HZ ⊢
    clear he
    have HK4 : Hid (Blk ((w3.alloc (.cells #[.slice none 0 0, .slice none 0 0, .slice none 0 0] 28)).setRow w3.heap.size #[.slice Aa3 na3 ca3, .slice At3 nt3 ct3, .slice Ab3 nb3 cb3]) w3.heap.size 28 #[.slice Aa3 na3 ca3, .slice At3 nt3 ct3, .slice Ab3 nb3 cb3]) := Lib.hid (setRow_heap _ _ _ _ _ _ (Blk.new w3 _ _))
    have HB4 : Hid (Below w3.heap.size w3 ((w3.alloc (.cells #[.slice none 0 0, .slice none 0 0, .slice none 0 0] 28)).setRow w3.heap.size #[.slice Aa3 na3 ca3, .slice At3 nt3 ct3, .slice Ab3 nb3 cb3])) := Lib.hid (below_setRow ((Below.refl _ _).alloc (Nat.le_refl _) _) (Nat.le_refl _) _)
    by_cases h0 : er = 0
    · subst h0
      obtain ⟨z1, z2, z3⟩ := HZ.out rfl
      have HE3 : Hid (rightL ab at_ l = eqPool (mkA ts) ab (mkT ts) at_ (mkB ts) l) := Lib.hid (by rw [HE2.out, eqPool_symm]; rfl)
      go_wp2_with (refine wpList_store_row rfl 28 _ _ rfl w3.heap.size #[.slice Aa3 na3 ca3, .slice At3 nt3 ct3, .slice Ab3 nb3 cb3] rfl rfl _ _ (Blk.new w3 _ _) pool_size rfl (three_one _ _ _ _ _ _ _ _ _) ?_; obtain ⟨V, hV⟩ : ∃ V, V = (w3.alloc (.cells #[.slice none 0 0, .slice none 0 0, .slice none 0 0] 28)).setRow w3.heap.size #[.slice Aa3 na3 ca3, .slice At3 nt3 ct3, .slice Ab3 nb3 cb3] := ⟨_, rfl⟩; rw [← hV] at HK4 HB4 ⊢; clear hV; have HK5 := Lib.hid (HK3.out.below HB4.out HK3.out.lt); have f0 : V.cell? ⟨w3.heap.size, 0, none⟩ = some (.slice Aa3 na3 ca3) := HK4.out.cell 0; have f1 : V.cell? ⟨w3.heap.size, 1, none⟩ = some (.slice At3 nt3 ct3) := HK4.out.cell 1; have f2 : V.cell? ⟨w3.heap.size, 2, none⟩ = some (.slice Ab3 nb3 cb3) := HK4.out.cell 2; have g0 : V.cell? ⟨w.heap.size, 0, none⟩ = some (.slice Aa na ca) := HK5.out.cell 0; have g1 : V.cell? ⟨w.heap.size, 1, none⟩ = some (.slice At nt ct) := HK5.out.cell 1; have g2 : V.cell? ⟨w.heap.size, 2, none⟩ = some (.slice Ab nb cb) := HK5.out.cell 2)
      have HBV := Lib.hid (HB3.out.trans (HB4.out.mono HB3.out.size))
      refine (psame_any V Aa3 At3 Ab3 Aa At Ab na3 ca3 nt3 ct3 nb3 cb3 na ca nt ct nb cb (mkA ts) ab (mkT ts) at_ (mkB ts) l ((HRA.out.below HB4.out).more HB4.out.size) ((HRT.out.below HB4.out).more HB4.out.size) ((HRB.out.below HB4.out).more HB4.out.size)
        ((HA.out.below HBV.out).more HBV.out.size) ((HT.out.below HBV.out).more HBV.out.size) ((HR.out.below HBV.out).more HBV.out.size) (by omega) (by omega) (by omega) (by omega) (by omega) (by omega)).mono ?_
      rintro e w5 ⟨rfl, hb5⟩
      have HB5 := Lib.hid (HBV.out.trans (hb5.mono HBV.out.size))
      clear hb5
      rw [← HE3.out]
      obtain ⟨q, hq⟩ : ∃ q, q = rightL ab at_ l := ⟨_, rfl⟩
      rw [← hq]
      have HQ := Lib.hid hq
      clear hq f0 f1 f2 g0 g1 g2
      go_wp2_with fail
      go_ret
      exact ⟨bool_ret8 HQ.out, HB5.out⟩
    · have HE3 : Hid (rightL ab at_ l = false) := Lib.hid (by rw [HE2.out, decide_eq_false h0]; rfl)
      have h9b : (er == 0) = false := by rw [beq_eq_false_iff_ne]; exact h0
      go_wp2_with (refine wpList_store_row rfl 28 _ _ rfl w3.heap.size #[.slice Aa3 na3 ca3, .slice At3 nt3 ct3, .slice Ab3 nb3 cb3] rfl rfl _ _ (Blk.new w3 _ _) pool_size rfl (three_one _ _ _ _ _ _ _ _ _) ?_)
      go_ret
      exact ⟨bool_ret8 HE3.out.symm, HB3.out.trans (HB4.out.mono HB3.out.size)⟩
  · have HE2 : Hid (rightL ab at_ l = false) := Lib.hid (by rw [HE.out, decide_eq_false h0]; rfl)
    have h9b : (er != 0) = true := by rw [bne_iff_ne]; exact h0
    go_wp2_with fail
    go_ret
    exact ⟨bool_ret8 HE2.out.symm, HB2.out⟩

theorem al8 (w : World) (o : Obj) : Below w.heap.size w (w.alloc o) := (Below.refl _ _).alloc (Nat.le_refl _) o
theorem after8 {w u v : World} (h : Below w.heap.size w u) (h2 : Below u.heap.size u v) : Below w.heap.size w v := h.trans (h2.mono h.size)

theorem put_pool {W V : World} {cs : Array Value} (h : V = (W.alloc (.cells #[.slice none 0 0, .slice none 0 0, .slice none 0 0] 28)).setRow W.heap.size cs) : Blk V W.heap.size 28 cs ∧ Below W.heap.size W V := by
  subst h
  exact ⟨setRow_heap _ _ _ _ _ _ (Blk.new W _ _), below_setRow ((Below.refl _ _).alloc (Nat.le_refl _) _) (Nat.le_refl _) _⟩

theorem textAt_mk {ls : List (List UInt8)} {i : Nat} (h : mkE ls = 0) (hi : i < ls.length) : textAt (mkA ls) (mkT ls) (mkB ls) i = (ls[i]?.getD [], 0) := by
  unfold mkA mkT mkB
  rw [if_pos h, if_pos h, if_pos h]
  exact textAt_made (mk_ab ls).1 (mkE_ok h).2 hi

theorem textAt_over {ab : List (List UInt8)} {at_ : List Int} {l : List UInt8} {i : Int} (h : (at_.length : Int) ≤ i) : textAt ab at_ l i = ([], 11) := by
  unfold textAt
  rw [if_pos (.inr h)]

theorem allL_mk {ls : List (List UInt8)} (h : mkE ls = 0) : allL (mkA ls) (mkT ls) (mkB ls) = (ls, 0) := by
  unfold mkA mkT mkB
  rw [if_pos h, if_pos h, if_pos h]
  exact allL_made (mk_ab ls).1 (mkE_ok h).2

/-- the sizes of a made pool, and of one that is not made -/
theorem mk_sizes (ls : List (List UInt8)) (ht : ls.length + tot ls ≤ 10000) : Short_ 1000 (mkA ls) ∧ (mkA ls).length ≤ 31 ∧ (mkT ls).length ≤ ls.length ∧ (mkB ls).length ≤ 30000 ∧ (mkE ls = 0 → (mkT ls).length = ls.length) := by
  by_cases h : mkE ls = 0
  · unfold mkA mkT mkB
    rw [if_pos h, if_pos h, if_pos h]
    obtain ⟨h1, h2⟩ := mk_ab ls
    have h3 := bitsP_len (ab := chooseL ls 31) (mkE_ok h).2
    refine ⟨short_of_mem fun q hq => by have := h2 q hq; omega, h1, by rw [offs_len]; exact Nat.le_refl _, by omega, fun _ => offs_len _ _⟩
  · unfold mkA mkT mkB
    rw [if_neg h, if_neg h, if_neg h]
    exact ⟨short_of_mem fun q hq => (by cases hq), Nat.zero_le _, Nat.zero_le _, Nat.zero_le _, fun h2 => absurd h2 h⟩

end Go.Proofs.YtpfkkmjodhpkoaaDoor
