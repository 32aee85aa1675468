/- The Go function PoolTexts returns true for every input, and every argument reads afterwards as before; the card ties the two listed tables of unicode/utf8 to the program's text. Conditions: none beyond the statement's own. -/
import Derived.Test.YtpfkkmjodhpkoaaGreatDoorRows
import Derived.Test.YtpfkkmjodhpkoaaGreatDoorCards
import Derived.Test.YtpfkkmjodhpkoaaGreatDoorTie
import Derived.Test.YtpfkkmjodhpkoaaGreatDoorLawE
import Derived.Test.YtpfkkmjodhpkoaaGreatDoorLift
import Derived.Test.YtpfkkmjodhpkoaaGreatDoorRowS
import Derived.WalkKit
import Derived.ProofKit
import Derived.OpenShut
import Derived.ShutString
import Derived.SliceStrings
import Derived.ChangeOld
import Derived.Below
import Derived.Lib.SmallJoins
import Derived.Deep.SlicePairs
import Derived.SevenTiedAt
namespace Go.Proofs.YtpfkkmjodhpkoaaGreatDoor.poolTexts
open Go.ChangeShapes Go.WideShapes Go.ChangeAt Go.RowKit Go.Joins
open Go.ChangeMaps (open_string shut_string)
set_option linter.unusedVariables false

theorem cellsP : Tryz.prog.cellsOf 26 = 3 := by kernel_rfl

theorem walk (Aa At Ab : Option Addr) (na ca nt ct nb cb : Nat) (za : List ByteArray) (zt zb : List Int) (a1 : Int) (w : World) (wa : IsRowS w Aa na ca za) (wt : IsRow .i64 w At nt ct zt) (wb : IsRow .u8 w Ab nb cb zb) (hm : MaxL w) :
    Calls Tryz.prog 3 #[pv Aa na ca At nt ct Ab nb cb, .int .i64 a1] w fun e w' => e = .returned (.bool true) ∧ Below w.heap.size w w' := by
  obtain ⟨ab, ha, _, _, _⟩ := wa.rdS
  obtain ⟨at_, ht⟩ := wt.rdI
  obtain ⟨l, hb⟩ := wb.rd
  have h1 := wt.cap
  have h2 := wb.cap
  exact texts_walk Aa At Ab na ca nt ct nb cb ab at_ l a1 w ha ht hb h2.1 (by omega) (by omega) hm

set_option maxRecDepth 100000 in
theorem lifted (os : Os) (started : os.Started) (H : Type) (enc : TypeId × Value → H) :
    ReturnsInHanded {} Tryz.checked os 3 .any (fun w args => (Rows.poolTextsSpec.pre enc Tryz.prog Tryz.f3 [] false w args ∧ laidMetH Tryz.prog tablesL w) ∧ sizedMet enc Tryz.prog Tryz.f3 (OpenSpec.ofChange Rows.poolTextsSpec) false w args) (Rows.poolTextsSpec.post enc Tryz.prog Tryz.f3 false true false false) := by
  refine lift_tables started (by kernel_rfl) Tryz.func3 #[.agg #[.slice none 0 0, .slice none 0 0, .slice none 0 0], .int .i64 0] (by kernel_rfl) (by kernel_rfl) (by kernel_rfl) ?_
  intro W base args ds gs before hm hval0 hW _
  have hval : ∀ (j : Nat) t v, Tryz.f3.params[j]? = some t → args[j]? = some v → Value.okWide Tryz.prog W .any base t v := hval0
  have hW' := hW
  obtain ⟨p, q, hA0, hV, rfl, hfz, hnd⟩ := hW
  have hA : DataW.TrodAll enc Tryz.prog W 0 (fun _ => true) true Tryz.f3.params.toList args.toList ds p := hA0
  rw [Tryz.params3] at hA hval
  obtain ⟨v0, vs0, d0, ds0, p0, q0, hargs, rfl, rfl, h0, r0⟩ := trodAll_cons hA
  obtain ⟨v1, vs1, d1, ds1, p1, q1, rfl, rfl, rfl, h1, r1⟩ := trodAll_cons r0
  obtain ⟨rfl, rfl, rfl⟩ := trodAll_nil r1
  obtain rfl : args = #[v0, v1] := by cases args; simp_all
  obtain ⟨rfl, rfl⟩ := trodVars_none hV
  have k0 := h0
  have lt0 : ∀ x ∈ p0, x.block < W.heap.size := by obtain ⟨m, hm⟩ := k0; exact DataW.trod_lt m _ _ _ hm
  obtain ⟨Aa, At, Ab, na, ca, nt, ct, nb, cb, za, zt, zb, hv, wa, wt, wb⟩ : ∃ Aa At Ab na ca nt ct nb cb za zt zb, v0 = pv Aa na ca At nt ct Ab nb cb ∧ IsRowS W Aa na ca za ∧ IsRow .i64 W At nt ct zt ∧ IsRow .u8 W Ab nb cb zb := by
    obtain ⟨c0, c1, c2, y0, y1, y2, m, rfl, _, _, hy0, hy1, hy2⟩ := open_agg3 Tryz.underlying26 (by kernel_rfl) cellsP (hval 0 26 v0 rfl rfl) h0
    have e0 : ∃ a n c z, c0 = .slice a n c ∧ IsRowS W a n c z := by
      rcases open_strings Tryz.underlying22 Tryz.underlying9 (by kernel_rfl) hy0 with ⟨hcs, _⟩ | ⟨x, l, c, zs, hcs, _, hl, hm, hz, _, hcell, hwz⟩
      · simp at hcs
        exact ⟨none, 0, 0, [], hcs, .inl ⟨rfl, rfl, rfl⟩⟩
      · simp at hcs
        exact ⟨some x, l, c, zs, hcs, .inr ⟨_, rfl, hl, hm, by simp at hz; omega, hcell, hwz⟩⟩
    have e1 : ∃ a n c z, c1 = .slice a n c ∧ IsRow .i64 W a n c z := by
      rcases open_ints Tryz.underlying23 Tryz.underlying3 (by kernel_rfl) hy1 with ⟨hcs, _⟩ | ⟨x, l, c, zs, hcs, _, hl, hm, hz, _, hcell, hwz⟩
      · simp at hcs
        exact ⟨none, 0, 0, [], hcs, .inl ⟨rfl, rfl, rfl, rfl⟩⟩
      · simp at hcs
        exact ⟨some x, l, c, zs, hcs, .inr ⟨_, rfl, hl, hm, by simpa using hz, hcell, hwz⟩⟩
    have e2 : ∃ a n c z, c2 = .slice a n c ∧ IsRow .u8 W a n c z := by
      rcases open_ints Tryz.underlying24 Tryz.underlying5 (by kernel_rfl) hy2 with ⟨hcs, _⟩ | ⟨x, l, c, zs, hcs, _, hl, hm, hz, _, hcell, hwz⟩
      · simp at hcs
        exact ⟨none, 0, 0, [], hcs, .inl ⟨rfl, rfl, rfl, rfl⟩⟩
      · simp at hcs
        exact ⟨some x, l, c, zs, hcs, .inr ⟨_, rfl, hl, hm, by simpa using hz, hcell, hwz⟩⟩
    obtain ⟨Aa, na, ca, za, rfl, wa⟩ := e0
    obtain ⟨At, nt, ct, zt, rfl, wt⟩ := e1
    obtain ⟨Ab, nb, cb, zb, rfl, wb⟩ := e2
    exact ⟨Aa, At, Ab, na, ca, nt, ct, nb, cb, za, zt, zb, rfl, wa, wt, wb⟩
  subst hv
  obtain ⟨a1, rfl, rfl, rfl, w1⟩ := open_int Tryz.underlying3 (hval 1 3 v1 rfl rfl) h1
  clear hA0 hval0
  refine (walk Aa At Ab na ca nt ct nb cb za zt zb a1 W wa wt wb hm).mono fun e W' ⟨he, bel⟩ => ?_
  subst he
  exact ⟨_, rfl, _, _, _, [], _, [], hW', trodAll_mk1 (shut_bool Tryz.underlying4 _), (trodAll_cons_mk (Below.trod laidOut (by kernel_rfl) (of_decide_eq_true (by kernel_rfl)) k0 bel lt0) (trodAll_cons_mk (shut_int Tryz.underlying3 w1) trodAll_mk0)), rfl, bel.frame _, fun h => by cases h⟩

theorem over : Rows.poolTextsRow.holds Tryz.pinned (OpenSpec.ofChange Rows.poolTextsSpec) :=
  OpenClaim.holds_of_wide 3 Tryz.f3 rfl rfl rfl rfl rfl rfl rfl ⟨rfl, rfl, rfl, rfl, rfl⟩ rfl rfl rfl rfl rfl (by kernel_rfl) Tryz.func3 (by kernel_rfl)
    (of_decide_eq_true (by kernel_rfl)) (by unfold Func.isWrapper; first | (rw [if_pos (by decide +kernel)]; kernel_rfl) | (rw [if_neg (by decide +kernel)]; exact ⟨rfl, rfl⟩))
    (fun os started H enc _ => lifted os started H enc)

/-- The statement. -/
theorem proved : Rows.PoolTextsCardSaid :=
  Claim7.holds_tied_plain_at .later [] [.data, .pinned] true Rows.poolTextsCard.stood.harness false over (fun _ h => by cases h) (by kernel_rfl) (fun _ h => by cases h) poolTexts_row_tie rfl ⟨rfl, rfl⟩ (by kernel_rfl) rfl
    (fun f fn hf hfn => by
      obtain rfl : f = 3 := Option.some.inj ((show Tryz.prog.funcNamed Rows.poolTextsRow.func = some 3 by kernel_rfl).symm.trans hf) |>.symm
      obtain rfl : fn = Tryz.f3 := (Option.some.inj (Tryz.func3.symm.trans hfn)).symm
      exact ⟨by kernel_rfl, fun j t ht => by
        rw [Tryz.params3] at ht
        have hm : t ∈ [26, 3] := by
          have := Array.mem_of_getElem? ht
          simp at this
          simp
          omega
        have hall : ([26, 3].all fun u => !Tryz.prog.wantsStandIn u) = true := by kernel_rfl
        exact (show Tryz.prog.wantsStandIn t = false by simpa using List.all_eq_true.1 hall t hm)⟩)
    (by kernel_rfl)
#print axioms proved
end Go.Proofs.YtpfkkmjodhpkoaaGreatDoor.poolTexts
