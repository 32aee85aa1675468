/- The Go function AbbrevJoins returns true for every input, and every argument reads afterwards as before; the card ties the two listed tables of unicode/utf8 to the program's text. Conditions: none beyond the statement's own. -/
import Derived.Test.YteamolaoakhaiaaDoorRows
import Derived.Test.YteamolaoakhaiaaDoorCards
import Derived.Test.YteamolaoakhaiaaDoorTie
import Derived.Test.YteamolaoakhaiaaDoorLawD
import Derived.Test.YteamolaoakhaiaaDoorLift
import Derived.Test.YteamolaoakhaiaaDoorRowS
import Derived.WalkKit
import Derived.ProofKit
import Derived.OpenShut
import Derived.ShutString
import Derived.SliceStrings
import Derived.ChangeOld
import Derived.Below
import Derived.Deep.SlicePairs
import Derived.SevenTiedAt
namespace Go.Proofs.YteamolaoakhaiaaDoor.abbrevJoins
open Go.ChangeShapes Go.WideShapes Go.ChangeAt Go.RowKit
open Go.ChangeMaps (open_string shut_string)
set_option linter.unusedVariables false

/-- a slice of pieces that came in -/
def IsRowP (w : World) (a : Option Addr) (len : Nat) (ps : List Pc) : Prop := RdP w w.heap.size a len ps ∧ (len : Int) ≤ 9223372036854775807 ∧ SizedP ps

theorem all_weights {H : Type} {P : Program} {e : TypeId} {b : Nat} : ∀ (l : List (DataW H)) (d : DataW H), d ∈ l → b ∈ d.weights P e → b ∈ DataW.weightsAll P e l
  | [], d, h, _ => by simp at h
  | x :: r, d, h, hb => by
    unfold DataW.weightsAll
    rcases List.mem_cons.1 h with rfl | h
    · exact List.mem_append_left _ hb
    · exact List.mem_append_right _ (all_weights r d h hb)

theorem text_weight {H : Type} (x : List UInt8) (d : DataW H) : x.length ∈ DataW.weights Tryd.prog 39 (.agg [.lit (.string x), d]) := by
  unfold DataW.weights
  rw [Tryd.underlying39]
  simp [DataW.weightsEach, DataW.weights]

theorem row_weight {H : Type} {x : List UInt8} {el sp : List (DataW H)} {d : DataW H} (h : .agg [.lit (.string x), d] ∈ el) : x.length ∈ DataW.weights Tryd.prog 28 (.slice el sp) := by
  unfold DataW.weights
  rw [Tryd.underlying28]
  exact List.mem_cons_of_mem _ (List.mem_append_left _ (all_weights _ _ h (text_weight x d)))

theorem rdP_of {H : Type} {enc : TypeId × Value → H} {w : World} {base : Nat} {spare : Nat → Bool} {held : Bool} {fuel : Nat} {a0 : Option Addr} {len0 cap0 : Nat} {x : DataW H × List MemPlace}
    (h : DataW.trod enc Tryd.prog w base spare held fuel 28 [.slice a0 len0 cap0] = some x) (hw : ∀ b, b ∈ DataW.weights Tryd.prog 28 x.1 → b ≤ 140737488351232) : ∃ ps, IsRowP w a0 len0 ps := by
  rcases Go.Deep.open_slice_pairs Tryd.underlying28 Tryd.underlying39 (by kernel_rfl) rfl rfl (by kernel_rfl) (by kernel_rfl) h with ⟨hcs, _⟩ | ⟨a, len, cap, m, n, V0, V1, D0, D1, P0, P1, hcs, _, hl, hm63, hmm, hx, hi⟩
  · simp at hcs
    obtain ⟨rfl, rfl, rfl⟩ := hcs
    exact ⟨[], ⟨rfl, fun h => absurd h (by omega)⟩, by omega, fun j => by simp [bs_size]⟩
  · simp at hcs
    obtain ⟨rfl, rfl, rfl⟩ := hcs
    have hlm : len0 ≤ m := by rw [hmm]; split <;> omega
    obtain ⟨f, hf⟩ := Go.Deep.choose_lt (α := Pc) (n := len0) (p := fun i t => w.cell? (a.add (i * 2)) = some (.string (bs t.1)) ∧ w.cell? (a.add (i * 2 + 1)) = some (.int .i64 t.2) ∧ t.1.length ≤ 140737488351232) (fun i hil => by
      obtain ⟨c0, c1, g0, g1⟩ := hi i (by omega)
      obtain ⟨s, e0, d0, _⟩ := DataW.trod_string Tryd.underlying9 g0
      obtain ⟨z, e1, _, q1⟩ := DataW.trod_int Tryd.underlying3 g1
      simp at e0 e1
      refine ⟨(s.data.toList, z), ?_, ?_, ?_⟩
      · rw [c0, e0, bs_data]
      · rw [c1, e1]
      · show s.data.toList.length ≤ _
        refine hw _ ?_
        rw [hx]
        have e : D0 i = .lit (.string s.data.toList) := congrArg Prod.fst d0
        exact row_weight (d := D1 i) (List.mem_map.2 ⟨i, List.mem_range.2 hil, by rw [e]⟩))
    refine ⟨(List.range len0).map f, ⟨by simp, fun h0 => ⟨a, rfl, ?_, fun j hj => ?_⟩⟩, ?_, fun j => ?_⟩
    · have := World.block_lt_of_cell? w _ (hf 0 h0).1
      rw [blk_add] at this
      exact this
    · have hj2 : j < len0 := by simpa using hj
      have e : ((List.range len0).map f)[j]?.getD ([], 0) = f j := by simp [hj2]
      rw [e]
      refine ⟨(hf j hj2).1, ?_⟩
      have h2 := (hf j hj2).2.1
      rw [← add_add, add_pos _ 1 (by omega)] at h2
      exact h2
    · unfold maxLen at hm63; omega
    · by_cases hj2 : j < len0
      · have e : ((List.range len0).map f)[j]?.getD ([], 0) = f j := by simp [hj2]
        rw [e, bs_size]
        have := (hf j hj2).2.2
        omega
      · rw [List.getElem?_eq_none (by simp; omega)]
        simp [bs_size]

theorem walk (a0 : Option Addr) (len0 cap0 : Nat) (z0 : List Pc) (a1 : Option Addr) (len1 cap1 : Nat) (z1 : List ByteArray) (w : World) (w0 : IsRowP w a0 len0 z0) (w1 : IsRowS w a1 len1 cap1 z1) (hm : MaxL w) :
    Calls Tryd.prog 6 #[.slice a0 len0 cap0, .slice a1 len1 cap1] w fun e w' => e = .returned (.bool true) ∧ Below w.heap.size w w' := by
  obtain ⟨ls, hl, hc, hc63, hsz⟩ := w1.rdS
  obtain ⟨h0, h63, hsz0⟩ := w0
  exact joins_walk a0 len0 cap0 z0 a1 len1 cap1 ls w h0 h63 hl hc hc63 hsz0 hsz hm

set_option maxRecDepth 100000 in
theorem lifted (os : Os) (started : os.Started) (H : Type) (enc : TypeId × Value → H) :
    ReturnsInHanded {} Tryd.checked os 6 .any (fun w args => (Rows.abbrevJoinsSpec.pre enc Tryd.prog Tryd.f6 [] false w args ∧ laidMetH Tryd.prog tablesL w) ∧ sizedMet enc Tryd.prog Tryd.f6 (OpenSpec.ofChange Rows.abbrevJoinsSpec) false w args) (Rows.abbrevJoinsSpec.post enc Tryd.prog Tryd.f6 false true false false) := by
  refine lift_tables started (by kernel_rfl) Tryd.func6 #[.slice none 0 0, .slice none 0 0] (by kernel_rfl) (by kernel_rfl) (by kernel_rfl) ?_
  intro W base args ds gs before hm hval0 hW heavy
  have hval : ∀ (j : Nat) t v, Tryd.f6.params[j]? = some t → args[j]? = some v → Value.okWide Tryd.prog W .any base t v := hval0
  have hW' := hW
  obtain ⟨p, q, hA0, hV, rfl, hfz, hnd⟩ := hW
  have hA : DataW.TrodAll enc Tryd.prog W 0 (fun _ => true) true Tryd.f6.params.toList args.toList ds p := hA0
  rw [Tryd.params6] at hA hval
  obtain ⟨v0, vs0, d0, ds0, p0, q0, hargs, rfl, rfl, h0, r0⟩ := trodAll_cons hA
  obtain ⟨v1, vs1, d1, ds1, p1, q1, rfl, rfl, rfl, h1, r1⟩ := trodAll_cons r0
  obtain ⟨rfl, rfl, rfl⟩ := trodAll_nil r1
  obtain rfl : args = #[v0, v1] := by cases args; simp_all
  obtain ⟨rfl, rfl⟩ := trodVars_none hV
  obtain ⟨a0, len0, cap0, rfl⟩ := okWide_slice Tryd.underlying28 (hval 0 28 v0 rfl rfl)
  have k0 := h0
  have lt0 : ∀ x ∈ p0, x.block < W.heap.size := by obtain ⟨m, hm⟩ := k0; exact DataW.trod_lt m _ _ _ hm
  obtain ⟨z0, w0⟩ : ∃ zs, IsRowP W a0 len0 zs := by
    obtain ⟨fuel, hf⟩ := h0
    refine rdP_of hf fun b hb => ?_
    have hall := List.all_eq_true.1 heavy b (by
      have e : Tryd.f6.params.toList = [28, 22] := by rw [Tryd.params6]
      rw [e]
      show b ∈ DataW.weights Tryd.prog 28 _ ++ _
      exact List.mem_append_left _ hb)
    exact of_decide_eq_true hall
  obtain ⟨a1, len1, cap1, rfl⟩ := okWide_slice Tryd.underlying22 (hval 1 22 v1 rfl rfl)
  have k1 := h1
  have lt1 : ∀ x ∈ p1, x.block < W.heap.size := by obtain ⟨m, hm⟩ := k1; exact DataW.trod_lt m _ _ _ hm
  obtain ⟨z1, w1⟩ : ∃ zs, IsRowS W a1 len1 cap1 zs := by
    obtain ⟨fuel, hf⟩ := h1
    rcases open_strings Tryd.underlying22 Tryd.underlying9 (by kernel_rfl) hf with ⟨hcs, _⟩ | ⟨x, l, c, zs, hcs, _, hl, hm, hz, _, hcell, hwz⟩
    · simp [Value.cells] at hcs
      obtain ⟨rfl, rfl, rfl⟩ := hcs
      exact ⟨[], .inl ⟨rfl, rfl, rfl⟩⟩
    · simp [Value.cells] at hcs
      obtain ⟨rfl, rfl, rfl⟩ := hcs
      exact ⟨zs, .inr ⟨_, rfl, hl, hm, by simp at hz; omega, hcell, hwz⟩⟩
  clear hA0 hval0
  simp only [List.append_nil] at hW'
  refine (walk a0 len0 cap0 z0 a1 len1 cap1 z1 W w0 w1 hm).mono fun e W' ⟨he, bel⟩ => ?_
  subst he
  exact ⟨_, rfl, _, _, _, [], _, [], hW', trodAll_mk1 (shut_bool Tryd.underlying4 _), (trodAll_cons_mk (Below.trod laidOut (by kernel_rfl) (of_decide_eq_true (by kernel_rfl)) k0 bel lt0) (trodAll_cons_mk (Below.trod laidOut (by kernel_rfl) (of_decide_eq_true (by kernel_rfl)) k1 bel lt1) trodAll_mk0)), rfl, bel.frame _, fun h => by cases h⟩

theorem over : Rows.abbrevJoinsRow.holds Tryd.pinned (OpenSpec.ofChange Rows.abbrevJoinsSpec) :=
  OpenClaim.holds_of_wide 6 Tryd.f6 rfl rfl rfl rfl rfl rfl rfl ⟨rfl, rfl, rfl, rfl, rfl⟩ rfl rfl rfl rfl rfl (by kernel_rfl) Tryd.func6 (by kernel_rfl)
    (of_decide_eq_true (by kernel_rfl)) (by unfold Func.isWrapper; first | (rw [if_pos (by decide +kernel)]; kernel_rfl) | (rw [if_neg (by decide +kernel)]; exact ⟨rfl, rfl⟩))
    (fun os started H enc _ => lifted os started H enc)

/-- The statement. -/
theorem proved : Rows.AbbrevJoinsCardSaid :=
  Claim7.holds_tied_plain_at .later [] [.data, .pinned] true Rows.abbrevJoinsCard.stood.harness false over (fun _ h => by cases h) (by kernel_rfl) (fun _ h => by cases h) abbrevJoins_row_tie rfl ⟨rfl, rfl⟩ (by kernel_rfl) rfl
    (fun f fn hf hfn => by
      obtain rfl : f = 6 := Option.some.inj ((show Tryd.prog.funcNamed Rows.abbrevJoinsRow.func = some 6 by kernel_rfl).symm.trans hf) |>.symm
      obtain rfl : fn = Tryd.f6 := (Option.some.inj (Tryd.func6.symm.trans hfn)).symm
      exact ⟨by kernel_rfl, fun j t ht => by
        rw [Tryd.params6] at ht
        have hm : t ∈ [28, 22] := by
          have := Array.mem_of_getElem? ht
          simp at this
          simp
          omega
        have hall : ([28, 22].all fun u => !Tryd.prog.wantsStandIn u) = true := by kernel_rfl
        exact (show Tryd.prog.wantsStandIn t = false by simpa using List.all_eq_true.1 hall t hm)⟩)
    (by kernel_rfl)
#print axioms proved
end Go.Proofs.YteamolaoakhaiaaDoor.abbrevJoins
