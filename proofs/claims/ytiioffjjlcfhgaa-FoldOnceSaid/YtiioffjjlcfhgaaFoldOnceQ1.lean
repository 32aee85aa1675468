/- Contracts and lemmas that the proofs of this seat use. -/
import Derived.Test.YtiioffjjlcfhgaaQ4
import Derived.Lib.Strings
import Derived.Laws.EntriesVeiled
import Derived.Deep.RegionWith
import Derived.Deep.RegionHeldLaw
import Derived.WalkMore
namespace Go.Proofs.Ytiioffjjlcfhgaa

section
open Go.RowKit
set_option linter.unusedVariables false

/-- so far the same -/
theorem sameEs_at : ∀ {a b : List EL}, a.length = b.length → (sameEs a b = true ↔ ∀ j, j < a.length → sameE (a[j]?.getD nilE) (b[j]?.getD nilE) = true) := by
  intro a
  induction a with
  | nil =>
    intro b h
    rw [List.length_nil] at h
    rw [List.eq_nil_of_length_eq_zero h.symm]
    unfold sameEs
    exact ⟨fun _ j hj => absurd hj (Nat.not_lt_zero _), fun _ => rfl⟩
  | cons x a ih =>
    intro b h
    cases b with
    | nil => rw [List.length_nil, List.length_cons] at h; omega
    | cons y b =>
      rw [List.length_cons, List.length_cons] at h
      rw [sameEs_cons, Bool.and_eq_true, ih (by omega)]
      constructor
      · rintro ⟨h1, h2⟩ j hj
        cases j with
        | zero => exact h1
        | succ j => exact h2 j (by rw [List.length_cons] at hj; omega)
      · intro h2
        exact ⟨h2 0 (by rw [List.length_cons]; omega), fun j hj => h2 (j + 1) (by rw [List.length_cons]; omega)⟩

end

section
open Go.RowKit
set_option linter.unusedVariables false

theorem sameSs_at : ∀ {a b : List SL}, a.length = b.length → (sameSs a b = true ↔ ∀ j, j < a.length → sameS (a[j]?.getD nilS) (b[j]?.getD nilS) = true) := by
  intro a
  induction a with
  | nil =>
    intro b h
    rw [List.length_nil] at h
    rw [List.eq_nil_of_length_eq_zero h.symm]
    unfold sameSs
    exact ⟨fun _ j hj => absurd hj (Nat.not_lt_zero _), fun _ => rfl⟩
  | cons x a ih =>
    intro b h
    cases b with
    | nil => rw [List.length_nil, List.length_cons] at h; omega
    | cons y b =>
      rw [List.length_cons, List.length_cons] at h
      rw [sameSs_cons, Bool.and_eq_true, ih (by omega)]
      constructor
      · rintro ⟨h1, h2⟩ j hj
        cases j with
        | zero => exact h1
        | succ j => exact h2 j (by rw [List.length_cons] at hj; omega)
      · intro h2
        exact ⟨h2 0 (by rw [List.length_cons]; omega), fun j hj => h2 (j + 1) (by rw [List.length_cons]; omega)⟩

end

section
open Go.RowKit

theorem sameEs_no {a b : List EL} {j : Nat} (hl : a.length = b.length) (hj : j < a.length) (h : sameE (a[j]?.getD nilE) (b[j]?.getD nilE) = false) : sameEs a b = false := by
  cases hs : sameEs a b with
  | false => rfl
  | true =>
    have := (sameEs_at hl).1 hs j hj
    rw [h] at this
    cases this

end

section
open Go.RowKit
set_option linter.unusedVariables false
set_option linter.unusedSimpArgs false

def StaysAt (l : List SL) : Prop := ∀ (w : World) (A : Option Addr) (n c : Nat), RowS6 w w.heap.size A n l → (∀ x ∈ l, x.In w w.heap.size) →
  Calls Try.prog 18 #[.slice A n c] w fun e w' => ∃ b : Bool, e = .returned (.bool b) ∧ (b = true ↔ staysPs (l.map plS)) ∧ Below w.heap.size w w'

theorem staysPs_one {l : List SL} {x : SL} (hx : x ∈ l) (h : staysP (plS x)) : staysPs (l.map plS) := staysPs_iff.2 ⟨_, List.mem_map.2 ⟨x, hx, rfl⟩, h⟩
theorem staysPs_none {l : List SL} (h : ∀ x ∈ l, ¬ staysP (plS x)) : ¬ staysPs (l.map plS) := fun g => by
  obtain ⟨p, hp, hs⟩ := staysPs_iff.1 g
  obtain ⟨x, hx, rfl⟩ := List.mem_map.1 hp
  exact h x hx hs

set_option maxRecDepth 100000 in
set_option maxHeartbeats 6400000 in
theorem stays18_of (ss : List SL) (hE : ∀ x ∈ ss, StaysAt x.body ∧ StaysAt x.els) : StaysAt ss := by
  intro w A n c hrow hins
  have hl := hrow.1
  have hn63 := hrow.2.1
  have HE := Lib.hid hE
  have HR := Lib.hid hrow
  have HIN := Lib.hid hins
  have HL := Lib.hid hl
  clear hE hrow hins hl
  go_enter Try.func18, Try.ntmps18
  go_wp2_with fail
  go_loopw [8] (fun vi wr => ∃ j : Nat, j ≤ n ∧ vi = .int .i64 j ∧ Hid (∀ x ∈ ss.take j, ¬ staysP (plS x)) ∧ Hid (Below w.heap.size w wr)) (fun vi _ => n - (intOf vi).toNat)
  case atStart => exact ⟨0, Nat.zero_le _, rfl, Lib.hid (by simp), Lib.hid (Below.refl _ _)⟩
  case round =>
    obtain ⟨j, hj, rfl, HV, HB⟩ := hrel
    by_cases hlt : j < n
    · obtain ⟨ad, rfl, _, hcell⟩ := rowFS_at (HR.out.below HB.out) hlt
      obtain ⟨x, hx⟩ : ∃ x, x = ss[j]?.getD nilS := ⟨_, rfl⟩
      obtain ⟨a0, a1, a2, a3, a4, a5⟩ := hcell x hx
      have hjl : j < ss.length := by rw [HL.out]; exact hlt
      have hmem : x ∈ ss := by rw [hx, List.getElem?_eq_getElem hjl]; exact List.getElem_mem hjl
      have htk : ss.take (j + 1) = ss.take j ++ [x] := by rw [hx, List.getElem?_eq_getElem hjl, List.take_succ_eq_append_getElem hjl]; rfl
      have HTK := Lib.hid htk
      have HME := Lib.hid hmem
      have HXI := Lib.hid (((HIN.out x hmem).below HB.out).more HB.out.size)
      have HEX := Lib.hid (HE.out x hmem)
      clear hx hcell hmem hjl htk
      obtain ⟨k, m, s, A1, n1, c1, es, A2, n2, c2, bo, A3, n3, c3, el⟩ := x
      simp only [SL.kind, SL.num, SL.name, SL.A, SL.n, SL.c, SL.A1, SL.n1, SL.c1, SL.A2, SL.n2, SL.c2] at a0 a1 a2 a3 a4 a5
      have HPL : Hid (plS (SL.mk k m s A1 n1 c1 es A2 n2 c2 bo A3 n3 c3 el) = .mk k m s (es.map plE) (bo.map plS) (el.map plS)) := Lib.hid (plS_eq _)
      have HSP : Hid (staysP (plS (SL.mk k m s A1 n1 c1 es A2 n2 c2 bo A3 n3 c3 el)) ↔ knownIf (.mk k m s (es.map plE) (bo.map plS) (el.map plS)) ∨ staysPs (bo.map plS) ∨ staysPs (el.map plS)) := Lib.hid (by rw [HPL.out, staysP_eq]; exact Iff.rfl)
      have HEN : Hid (es.length = n1) := Lib.hid HXI.out.parts.1.2.2.1.1.1
      by_cases hk9 : k = 9
      · have q9 : (k == 9) = true := by rw [beq_dec18]; exact decide_eq_true hk9
        have HK9 := Lib.hid hk9
        clear hk9
        by_cases hn1 : n1 = 1
        · subst hn1
          obtain ⟨z, hz⟩ : ∃ z, z = es[0]?.getD nilE := ⟨_, rfl⟩
          have hes : es = [z] := by
            have := HEN.out
            match es, this with
            | [u], _ => rw [hz]; rfl
          obtain ⟨zd, hzd, _, hzc⟩ := row_at HXI.out.parts.1.2.2.1.1 (j := 0) Nat.one_pos
          obtain rfl : A1 = some zd := hzd
          have hz0 := (hzc z hz).1
          rw [Nat.zero_mul, add_zeroF] at hz0
          have HZC : Hid (∀ V : World, Below wr.heap.size wr V → V.cell? zd = some (.int .i64 z.kind)) := Lib.hid (fun V hb => (hb.cell (by assumption)).trans hz0)
          have HES := Lib.hid hes
          clear hzc hz0 hz hes
          obtain ⟨zk, hzk⟩ : ∃ q, q = z.kind := ⟨_, rfl⟩
          rw [← hzk] at HZC
          have HZK := Lib.hid hzk
          clear hzk
          have q1 : (((1 : Nat) : Int) == 1) = true := by decide
          by_cases hz1 : zk = 1
          · have qz : (zk == 1) = true := by rw [beq_dec18]; exact decide_eq_true hz1
            have HK : Hid (knownIf (.mk k m s (es.map plE) (bo.map plS) (el.map plS))) := Lib.hid ⟨HK9.out, by show (es.map plE).length = 1; rw [List.length_map, HEN.out], by rw [HES.out]; show (plE z).kind = 1; rw [plE_eq]; exact HZK.out.symm.trans hz1⟩
            clear hz1
            go_wp2_with (refine wpList_store_row rfl 48 _ _ rfl wr.heap.size #[.int .i64 k, .int .i64 m, .string (bs s), .slice (some zd) 1 c1, .slice A2 n2 c2, .slice A3 n3 c3] rfl rfl _ _ (Blk.new wr _ _) stmt_sizeF rfl (stmt_oneF _ _ _ _ _ _ _ _ _ _ _ _) ?_; obtain ⟨V, hV⟩ : ∃ V, V = (wr.alloc (.cells #[.int .i64 0, .int .i64 0, .string ⟨#[]⟩, .slice none 0 0, .slice none 0 0, .slice none 0 0] 48)).setRow wr.heap.size #[.int .i64 k, .int .i64 m, .string (bs s), .slice (some zd) 1 c1, .slice A2 n2 c2, .slice A3 n3 c3] := ⟨_, rfl⟩; rw [← hV]; obtain ⟨hkV0, hbV0⟩ := put_row hV; have HKV := Lib.hid hkV0; have HBV := Lib.hid hbV0; clear hV hkV0 hbV0; have d0 : V.cell? ⟨wr.heap.size, 0, none⟩ = some (.int .i64 k) := HKV.out.cell 0; have d3 : V.cell? ⟨wr.heap.size, 3, none⟩ = some (.slice (some zd) 1 c1) := HKV.out.cell 3; have d4 : V.cell? ⟨wr.heap.size, 4, none⟩ = some (.slice A2 n2 c2) := HKV.out.cell 4; have x0 : V.cell? zd = some (.int .i64 zk) := HZC.out V HBV.out)
            go_ret
            exact ⟨true, rfl, ⟨fun _ => staysPs_one HME.out (HSP.out.2 (.inl HK.out)), fun _ => rfl⟩, HB.out.trans (HBV.out.mono HB.out.size)⟩
          · have qz : (zk == 1) = false := by rw [beq_dec18]; exact decide_eq_false hz1
            have HK : Hid (¬ knownIf (.mk k m s (es.map plE) (bo.map plS) (el.map plS))) := Lib.hid (fun g => hz1 (by have := g.2.2; rw [HES.out] at this; change (plE z).kind = 1 at this; rw [plE_eq] at this; exact HZK.out.trans this))
            clear hz1
            go_wp2_with (refine wpList_store_row rfl 48 _ _ rfl wr.heap.size #[.int .i64 k, .int .i64 m, .string (bs s), .slice (some zd) 1 c1, .slice A2 n2 c2, .slice A3 n3 c3] rfl rfl _ _ (Blk.new wr _ _) stmt_sizeF rfl (stmt_oneF _ _ _ _ _ _ _ _ _ _ _ _) ?_; obtain ⟨V, hV⟩ : ∃ V, V = (wr.alloc (.cells #[.int .i64 0, .int .i64 0, .string ⟨#[]⟩, .slice none 0 0, .slice none 0 0, .slice none 0 0] 48)).setRow wr.heap.size #[.int .i64 k, .int .i64 m, .string (bs s), .slice (some zd) 1 c1, .slice A2 n2 c2, .slice A3 n3 c3] := ⟨_, rfl⟩; rw [← hV]; obtain ⟨hkV0, hbV0⟩ := put_row hV; have HKV := Lib.hid hkV0; have HBV := Lib.hid hbV0; clear hV hkV0 hbV0; have d0 : V.cell? ⟨wr.heap.size, 0, none⟩ = some (.int .i64 k) := HKV.out.cell 0; have d3 : V.cell? ⟨wr.heap.size, 3, none⟩ = some (.slice (some zd) 1 c1) := HKV.out.cell 3; have d4 : V.cell? ⟨wr.heap.size, 4, none⟩ = some (.slice A2 n2 c2) := HKV.out.cell 4; have x0 : V.cell? zd = some (.int .i64 zk) := HZC.out V HBV.out)
            have HBX : Hid (Below w.heap.size w V) := Lib.hid (HB.out.trans (HBV.out.mono HB.out.size))
            refine (HEX.out.1 V A2 n2 c2 ((HXI.out.below HBV.out).more HBV.out.size).parts.1.2.2.2.1 (fun y hy => SL.Ins.mem ((HXI.out.below HBV.out).more HBV.out.size).parts.2.1 y hy)).mono ?_
            rintro e w5 ⟨b1, rfl, hb1, hbel⟩
            have HB5 := Lib.hid (HBV.out.trans (hbel.mono HBV.out.size))
            have HBX5 := Lib.hid (HBX.out.trans (hbel.mono HBX.out.size))
            have HK5 := Lib.hid (HKV.out.below hbel HKV.out.lt)
            have HQ1 := Lib.hid hb1
            clear hbel hb1
            clear d0 d3 d4 x0
            cases b1 with
            | true =>
              go_wp2_with fail
              go_ret
              exact ⟨true, rfl, ⟨fun _ => staysPs_one HME.out (HSP.out.2 (.inr (.inl (HQ1.out.1 (by first | rfl | trivial))))), fun _ => rfl⟩, HBX5.out⟩
            | false =>
              have d5 : w5.cell? ⟨wr.heap.size, 5, none⟩ = some (.slice A3 n3 c3) := HK5.out.cell 5
              go_wp2_with fail
              refine (HEX.out.2 w5 A3 n3 c3 ((HXI.out.below HB5.out).more HB5.out.size).parts.1.2.2.2.2 (fun y hy => SL.Ins.mem ((HXI.out.below HB5.out).more HB5.out.size).parts.2.2 y hy)).mono ?_
              rintro e w6 ⟨b2, rfl, hb2, hbel⟩
              have HB6 := Lib.hid (HBX5.out.trans (hbel.mono HBX5.out.size))
              have HQ2 := Lib.hid hb2
              clear hbel hb2
              cases b2 with
              | true =>
                go_wp2_with fail
                go_ret
                exact ⟨true, rfl, ⟨fun _ => staysPs_one HME.out (HSP.out.2 (.inr (.inr (HQ2.out.1 (by first | rfl | trivial))))), fun _ => rfl⟩, HB6.out⟩
              | false =>
                have HNX : Hid (∀ x ∈ ss.take (j + 1), ¬ staysP (plS x)) := Lib.hid (fun x hx => by
                  rw [HTK.out] at hx
                  rcases List.mem_append.1 hx with hx | hx
                  · exact HV.out x hx
                  · obtain rfl := List.mem_singleton.1 hx
                    rw [HSP.out]
                    rintro (g | g | g)
                    · exact HK.out g
                    · have := HQ1.out.2 g; simp at this
                    · have := HQ2.out.2 g; simp at this)
                go_wp2_with fail
                go_roundw
                case rel => exact ⟨j + 1, by omega, by go_num, HNX, HB6⟩
                case measure => simp [intOf]; omega
        · have q1 : ((n1 : Int) == 1) = false := by rw [beq_dec18]; exact decide_eq_false (by omega)
          have HK : Hid (¬ knownIf (.mk k m s (es.map plE) (bo.map plS) (el.map plS))) := Lib.hid (fun g => hn1 (by have := g.2.1; change (es.map plE).length = 1 at this; rw [List.length_map, HEN.out] at this; exact this))
          go_wp2_with (refine wpList_store_row rfl 48 _ _ rfl wr.heap.size #[.int .i64 k, .int .i64 m, .string (bs s), .slice A1 n1 c1, .slice A2 n2 c2, .slice A3 n3 c3] rfl rfl _ _ (Blk.new wr _ _) stmt_sizeF rfl (stmt_oneF _ _ _ _ _ _ _ _ _ _ _ _) ?_; obtain ⟨V, hV⟩ : ∃ V, V = (wr.alloc (.cells #[.int .i64 0, .int .i64 0, .string ⟨#[]⟩, .slice none 0 0, .slice none 0 0, .slice none 0 0] 48)).setRow wr.heap.size #[.int .i64 k, .int .i64 m, .string (bs s), .slice A1 n1 c1, .slice A2 n2 c2, .slice A3 n3 c3] := ⟨_, rfl⟩; rw [← hV]; obtain ⟨hkV0, hbV0⟩ := put_row hV; have HKV := Lib.hid hkV0; have HBV := Lib.hid hbV0; clear hV hkV0 hbV0; have d0 : V.cell? ⟨wr.heap.size, 0, none⟩ = some (.int .i64 k) := HKV.out.cell 0; have d3 : V.cell? ⟨wr.heap.size, 3, none⟩ = some (.slice A1 n1 c1) := HKV.out.cell 3; have d4 : V.cell? ⟨wr.heap.size, 4, none⟩ = some (.slice A2 n2 c2) := HKV.out.cell 4)
          have HBX : Hid (Below w.heap.size w V) := Lib.hid (HB.out.trans (HBV.out.mono HB.out.size))
          refine (HEX.out.1 V A2 n2 c2 ((HXI.out.below HBV.out).more HBV.out.size).parts.1.2.2.2.1 (fun y hy => SL.Ins.mem ((HXI.out.below HBV.out).more HBV.out.size).parts.2.1 y hy)).mono ?_
          rintro e w5 ⟨b1, rfl, hb1, hbel⟩
          have HB5 := Lib.hid (HBV.out.trans (hbel.mono HBV.out.size))
          have HBX5 := Lib.hid (HBX.out.trans (hbel.mono HBX.out.size))
          have HK5 := Lib.hid (HKV.out.below hbel HKV.out.lt)
          have HQ1 := Lib.hid hb1
          clear hbel hb1
          clear d0 d3 d4
          cases b1 with
          | true =>
            go_wp2_with fail
            go_ret
            exact ⟨true, rfl, ⟨fun _ => staysPs_one HME.out (HSP.out.2 (.inr (.inl (HQ1.out.1 (by first | rfl | trivial))))), fun _ => rfl⟩, HBX5.out⟩
          | false =>
            have d5 : w5.cell? ⟨wr.heap.size, 5, none⟩ = some (.slice A3 n3 c3) := HK5.out.cell 5
            go_wp2_with fail
            refine (HEX.out.2 w5 A3 n3 c3 ((HXI.out.below HB5.out).more HB5.out.size).parts.1.2.2.2.2 (fun y hy => SL.Ins.mem ((HXI.out.below HB5.out).more HB5.out.size).parts.2.2 y hy)).mono ?_
            rintro e w6 ⟨b2, rfl, hb2, hbel⟩
            have HB6 := Lib.hid (HBX5.out.trans (hbel.mono HBX5.out.size))
            have HQ2 := Lib.hid hb2
            clear hbel hb2
            cases b2 with
            | true =>
              go_wp2_with fail
              go_ret
              exact ⟨true, rfl, ⟨fun _ => staysPs_one HME.out (HSP.out.2 (.inr (.inr (HQ2.out.1 (by first | rfl | trivial))))), fun _ => rfl⟩, HB6.out⟩
            | false =>
              have HNX : Hid (∀ x ∈ ss.take (j + 1), ¬ staysP (plS x)) := Lib.hid (fun x hx => by
                rw [HTK.out] at hx
                rcases List.mem_append.1 hx with hx | hx
                · exact HV.out x hx
                · obtain rfl := List.mem_singleton.1 hx
                  rw [HSP.out]
                  rintro (g | g | g)
                  · exact HK.out g
                  · have := HQ1.out.2 g; simp at this
                  · have := HQ2.out.2 g; simp at this)
              go_wp2_with fail
              go_roundw
              case rel => exact ⟨j + 1, by omega, by go_num, HNX, HB6⟩
              case measure => simp [intOf]; omega
      · have q9 : (k == 9) = false := by rw [beq_dec18]; exact decide_eq_false hk9
        have HK : Hid (¬ knownIf (.mk k m s (es.map plE) (bo.map plS) (el.map plS))) := Lib.hid (fun g => hk9 g.1)
        clear hk9
        go_wp2_with (refine wpList_store_row rfl 48 _ _ rfl wr.heap.size #[.int .i64 k, .int .i64 m, .string (bs s), .slice A1 n1 c1, .slice A2 n2 c2, .slice A3 n3 c3] rfl rfl _ _ (Blk.new wr _ _) stmt_sizeF rfl (stmt_oneF _ _ _ _ _ _ _ _ _ _ _ _) ?_; obtain ⟨V, hV⟩ : ∃ V, V = (wr.alloc (.cells #[.int .i64 0, .int .i64 0, .string ⟨#[]⟩, .slice none 0 0, .slice none 0 0, .slice none 0 0] 48)).setRow wr.heap.size #[.int .i64 k, .int .i64 m, .string (bs s), .slice A1 n1 c1, .slice A2 n2 c2, .slice A3 n3 c3] := ⟨_, rfl⟩; rw [← hV]; obtain ⟨hkV0, hbV0⟩ := put_row hV; have HKV := Lib.hid hkV0; have HBV := Lib.hid hbV0; clear hV hkV0 hbV0; have d0 : V.cell? ⟨wr.heap.size, 0, none⟩ = some (.int .i64 k) := HKV.out.cell 0; have d3 : V.cell? ⟨wr.heap.size, 3, none⟩ = some (.slice A1 n1 c1) := HKV.out.cell 3; have d4 : V.cell? ⟨wr.heap.size, 4, none⟩ = some (.slice A2 n2 c2) := HKV.out.cell 4)
        have HBX : Hid (Below w.heap.size w V) := Lib.hid (HB.out.trans (HBV.out.mono HB.out.size))
        refine (HEX.out.1 V A2 n2 c2 ((HXI.out.below HBV.out).more HBV.out.size).parts.1.2.2.2.1 (fun y hy => SL.Ins.mem ((HXI.out.below HBV.out).more HBV.out.size).parts.2.1 y hy)).mono ?_
        rintro e w5 ⟨b1, rfl, hb1, hbel⟩
        have HB5 := Lib.hid (HBV.out.trans (hbel.mono HBV.out.size))
        have HBX5 := Lib.hid (HBX.out.trans (hbel.mono HBX.out.size))
        have HK5 := Lib.hid (HKV.out.below hbel HKV.out.lt)
        have HQ1 := Lib.hid hb1
        clear hbel hb1
        clear d0 d3 d4
        cases b1 with
        | true =>
          go_wp2_with fail
          go_ret
          exact ⟨true, rfl, ⟨fun _ => staysPs_one HME.out (HSP.out.2 (.inr (.inl (HQ1.out.1 (by first | rfl | trivial))))), fun _ => rfl⟩, HBX5.out⟩
        | false =>
          have d5 : w5.cell? ⟨wr.heap.size, 5, none⟩ = some (.slice A3 n3 c3) := HK5.out.cell 5
          go_wp2_with fail
          refine (HEX.out.2 w5 A3 n3 c3 ((HXI.out.below HB5.out).more HB5.out.size).parts.1.2.2.2.2 (fun y hy => SL.Ins.mem ((HXI.out.below HB5.out).more HB5.out.size).parts.2.2 y hy)).mono ?_
          rintro e w6 ⟨b2, rfl, hb2, hbel⟩
          have HB6 := Lib.hid (HBX5.out.trans (hbel.mono HBX5.out.size))
          have HQ2 := Lib.hid hb2
          clear hbel hb2
          cases b2 with
          | true =>
            go_wp2_with fail
            go_ret
            exact ⟨true, rfl, ⟨fun _ => staysPs_one HME.out (HSP.out.2 (.inr (.inr (HQ2.out.1 (by first | rfl | trivial))))), fun _ => rfl⟩, HB6.out⟩
          | false =>
            have HNX : Hid (∀ x ∈ ss.take (j + 1), ¬ staysP (plS x)) := Lib.hid (fun x hx => by
              rw [HTK.out] at hx
              rcases List.mem_append.1 hx with hx | hx
              · exact HV.out x hx
              · obtain rfl := List.mem_singleton.1 hx
                rw [HSP.out]
                rintro (g | g | g)
                · exact HK.out g
                · have := HQ1.out.2 g; simp at this
                · have := HQ2.out.2 g; simp at this)
            go_wp2_with fail
            go_roundw
            case rel => exact ⟨j + 1, by omega, by go_num, HNX, HB6⟩
            case measure => simp [intOf]; omega
    · obtain rfl : j = n := by omega
      go_wp2_with fail
      go_ret
      exact ⟨false, rfl, ⟨fun g => (by simp at g), fun g => absurd g (staysPs_none (fun x hx => HV.out x (by rw [← HL.out, List.take_length]; exact hx)))⟩, HB.out⟩

theorem stays18_any : ∀ ss : List SL, StaysAt ss := by
  have key : ∀ s : SL, StaysAt s.body ∧ StaysAt s.els := SL.ind fun s i1 i2 => ⟨stays18_of s.body i1, stays18_of s.els i2⟩
  exact fun ss => stays18_of ss fun x _ => key x

end

section
open Go.RowKit

theorem sameSs_no {a b : List SL} {j : Nat} (hl : a.length = b.length) (hj : j < a.length) (h : sameS (a[j]?.getD nilS) (b[j]?.getD nilS) = false) : sameSs a b = false := by
  cases hs : sameSs a b with
  | false => rfl
  | true =>
    have := (sameSs_at hl).1 hs j hj
    rw [h] at this
    cases this

end

section
open Go.RowKit
set_option linter.unusedVariables false

/-- what the program's Same does, at an expression -/
def TSameAt (x : EL) : Prop := ∀ (y : EL) (w : World), x.In w w.heap.size → y.In w w.heap.size → Calls Try.prog 8 #[eVal x, eVal y] w fun f w' => f = .returned (.bool (sameE x y)) ∧ Below w.heap.size w w'
/-- what sameStmt does, at a statement -/
def TSameStAt (x : SL) : Prop := ∀ (y : SL) (w : World), x.In w w.heap.size → y.In w w.heap.size → Calls Try.prog 37 #[sVal x, sVal y] w fun f w' => f = .returned (.bool (sameS x y)) ∧ Below w.heap.size w w'

set_option maxRecDepth 100000 in
set_option maxHeartbeats 6400000 in
theorem tEqualE_of (es fs : List EL) (hS : ∀ x ∈ es, TSameAt x) (A B : Option Addr) (n c m d : Nat) (w : World) (hA : RowE w w.heap.size A n es) (hAi : EL.Ins w w.heap.size es) (hB : RowE w w.heap.size B m fs) (hBi : EL.Ins w w.heap.size fs) :
    Calls Try.prog 25 #[.slice A n c, .slice B m d, .func (.func 8) #[] #[]] w fun f w' => f = .returned (.bool (sameEs es fs)) ∧ Below w.heap.size w w' := by
  have hn := hA.1
  have hm := hB.1
  have hn9 := hA.2.1
  have hm9 := hB.2.1
  by_cases hnm : n = m
  · subst hnm
    have HL := Lib.hid hn
    have HLf := Lib.hid hm
    have HR := Lib.hid hA
    have HA := Lib.hid hAi
    have HRf := Lib.hid hB
    have HAf := Lib.hid hBi
    have HS := Lib.hid hS
    have t0 : ((n : Int) != (n : Int)) = false := by simp
    clear hn hm hA hAi hB hBi hS
    go_enter Try.func25, Try.ntmps25
    go_wp2_with fail
    go_loopw [17] (fun vj wr => ∃ j : Nat, j ≤ n ∧ vj = .int .i64 j ∧ Hid (∀ i, i < j → sameE (es[i]?.getD nilE) (fs[i]?.getD nilE) = true) ∧ Hid (Below w.heap.size w wr)) (fun vj _ => n - (intOf vj).toNat)
    case atStart => exact ⟨0, Nat.zero_le _, rfl, Lib.hid (fun i hi => absurd hi (Nat.not_lt_zero _)), Lib.hid (Below.refl _ _)⟩
    case round =>
      obtain ⟨j, hj, rfl, HSO, HBR⟩ := hrel
      by_cases hlt : j < n
      ·
        have hxjl : j < es.length := by rw [HL.out]; exact hlt
        obtain ⟨xad, rfl, xab, xc⟩ := row_at (HR.out.below HBR.out) hlt
        have hx := HA.out.at hxjl
        have hxmem : (es[j]?.getD nilE) ∈ es := by rw [List.getElem?_eq_getElem hxjl]; exact List.getElem_mem _
        obtain ⟨x, hxe⟩ : ∃ x, x = es[j]?.getD nilE := ⟨_, rfl⟩
        obtain ⟨a0, a1, a2, a3, a4⟩ := xc x hxe
        rw [← hxe] at hx hxmem
        have HXx := Lib.hid hx
        have HEx := Lib.hid hxe
        have HMx := Lib.hid hxmem
        obtain ⟨xk, xo, xm, xs, xA, xn, xc', xes⟩ := x
        change wr.cell? (xad.add (j * 5)) = some (.int .i64 xk) at a0
        change wr.cell? ⟨(xad.add (j * 5)).block, (xad.add (j * 5)).off + 1, none⟩ = some (.int .i64 xo) at a1
        change wr.cell? ⟨(xad.add (j * 5)).block, (xad.add (j * 5)).off + 2, none⟩ = some (.int .i64 xm) at a2
        change wr.cell? ⟨(xad.add (j * 5)).block, (xad.add (j * 5)).off + 3, none⟩ = some (.string (bs xs)) at a3
        change wr.cell? ⟨(xad.add (j * 5)).block, (xad.add (j * 5)).off + 4, none⟩ = some (.slice xA xn xc') at a4
        clear xc hxe hx hxmem hxjl
        have hyjl : j < fs.length := by rw [HLf.out]; exact hlt
        obtain ⟨yad, rfl, yab, yc⟩ := row_at (HRf.out.below HBR.out) hlt
        have hy := HAf.out.at hyjl
        have hymem : (fs[j]?.getD nilE) ∈ fs := by rw [List.getElem?_eq_getElem hyjl]; exact List.getElem_mem _
        obtain ⟨y, hye⟩ : ∃ x, x = fs[j]?.getD nilE := ⟨_, rfl⟩
        obtain ⟨b0, b1, b2, b3, b4⟩ := yc y hye
        rw [← hye] at hy hymem
        have HXy := Lib.hid hy
        have HEy := Lib.hid hye
        have HMy := Lib.hid hymem
        obtain ⟨yk, yo, ym, ys, yA, yn, yc', yes⟩ := y
        change wr.cell? (yad.add (j * 5)) = some (.int .i64 yk) at b0
        change wr.cell? ⟨(yad.add (j * 5)).block, (yad.add (j * 5)).off + 1, none⟩ = some (.int .i64 yo) at b1
        change wr.cell? ⟨(yad.add (j * 5)).block, (yad.add (j * 5)).off + 2, none⟩ = some (.int .i64 ym) at b2
        change wr.cell? ⟨(yad.add (j * 5)).block, (yad.add (j * 5)).off + 3, none⟩ = some (.string (bs ys)) at b3
        change wr.cell? ⟨(yad.add (j * 5)).block, (yad.add (j * 5)).off + 4, none⟩ = some (.slice yA yn yc') at b4
        clear yc hye hy hymem hyjl
        obtain ⟨q, hq⟩ : ∃ q, q = sameE (.mk xk xo xm xs xA xn xc' xes) (.mk yk yo ym ys yA yn yc' yes) := ⟨_, rfl⟩
        have HQ := Lib.hid hq
        have HC := Lib.hid (HS.out _ HMx.out (.mk yk yo ym ys yA yn yc' yes))
        have HYB : Hid ((yad.add (j * 5)).block < wr.heap.size) := Lib.hid (by rw [blk_add]; exact Nat.lt_of_lt_of_le yab HBR.out.size)
        have HY0 := Lib.hid b0
        have HY1 := Lib.hid b1
        have HY2 := Lib.hid b2
        have HY3 := Lib.hid b3
        have HY4 := Lib.hid b4
        clear hq b0 b1 b2 b3 b4
        go_wp2_with (first | (refine wpList_store_row rfl 31 _ _ rfl wr.heap.size #[.int .i64 xk, .int .i64 xo, .int .i64 xm, .string (bs xs), .slice xA xn xc'] rfl rfl _ _ (Blk.new wr _ _) expr_size rfl (expr_one _ _ _ _ _ _ _) ?_; obtain ⟨V, hV⟩ : ∃ V0, V0 = (wr.alloc (.cells #[.int .i64 0, .int .i64 0, .int .i64 0, .string ⟨#[]⟩, .slice none 0 0] 31)).setRow wr.heap.size #[.int .i64 xk, .int .i64 xo, .int .i64 xm, .string (bs xs), .slice xA xn xc'] := ⟨_, rfl⟩; rw [← hV]; obtain ⟨hkV, hbV⟩ := put_row hV; have HKV := Lib.hid hkV; have HBV := Lib.hid hbV; clear hV hkV hbV; have HBWV := Lib.hid (HBR.out.trans (HBV.out.mono HBR.out.size)); have b0 : V.cell? (yad.add (j * 5)) = some (.int .i64 yk) := (HBV.out.cell (p := (yad.add (j * 5))) HYB.out).trans HY0.out; have b1 : V.cell? ⟨(yad.add (j * 5)).block, (yad.add (j * 5)).off + 1, none⟩ = some (.int .i64 yo) := (HBV.out.cell (p := ⟨(yad.add (j * 5)).block, (yad.add (j * 5)).off + 1, none⟩) HYB.out).trans HY1.out; have b2 : V.cell? ⟨(yad.add (j * 5)).block, (yad.add (j * 5)).off + 2, none⟩ = some (.int .i64 ym) := (HBV.out.cell (p := ⟨(yad.add (j * 5)).block, (yad.add (j * 5)).off + 2, none⟩) HYB.out).trans HY2.out; have b3 : V.cell? ⟨(yad.add (j * 5)).block, (yad.add (j * 5)).off + 3, none⟩ = some (.string (bs ys)) := (HBV.out.cell (p := ⟨(yad.add (j * 5)).block, (yad.add (j * 5)).off + 3, none⟩) HYB.out).trans HY3.out; have b4 : V.cell? ⟨(yad.add (j * 5)).block, (yad.add (j * 5)).off + 4, none⟩ = some (.slice yA yn yc') := (HBV.out.cell (p := ⟨(yad.add (j * 5)).block, (yad.add (j * 5)).off + 4, none⟩) HYB.out).trans HY4.out) | (refine wpList_store_row rfl 31 _ _ rfl V.heap.size #[.int .i64 yk, .int .i64 yo, .int .i64 ym, .string (bs ys), .slice yA yn yc'] rfl rfl _ _ (Blk.new V _ _) expr_size rfl (expr_one _ _ _ _ _ _ _) ?_; obtain ⟨U, hU⟩ : ∃ V0, V0 = (V.alloc (.cells #[.int .i64 0, .int .i64 0, .int .i64 0, .string ⟨#[]⟩, .slice none 0 0] 31)).setRow V.heap.size #[.int .i64 yk, .int .i64 yo, .int .i64 ym, .string (bs ys), .slice yA yn yc'] := ⟨_, rfl⟩; rw [← hU]; obtain ⟨hkU, hbU⟩ := put_row hU; have HKU := Lib.hid hkU; have HBU := Lib.hid hbU; clear hU hkU hbU; have HKX := Lib.hid (HKV.out.below HBU.out HKV.out.lt)) | (refine wpList_load_row rfl 31 _ rfl wr.heap.size rfl 31 #[.int .i64 xk, .int .i64 xo, .int .i64 xm, .string (bs xs), .slice xA xn xc'] (0, 0) _ HKX.out Try.underlying31 rfl expr_size ?_) | (refine wpList_load_row rfl 31 _ rfl V.heap.size rfl 31 #[.int .i64 yk, .int .i64 yo, .int .i64 ym, .string (bs ys), .slice yA yn yc'] (0, 0) _ HKU.out Try.underlying31 rfl expr_size ?_))
        have HBU2 := Lib.hid (HBWV.out.trans (HBU.out.mono HBWV.out.size))
        refine (HC.out U (EL.In.more HBU2.out.size (HXx.out.below HBU2.out)) (EL.In.more HBU2.out.size (HXy.out.below HBU2.out))).mono ?_
        rintro f w2 ⟨rfl, hb2⟩
        rw [← HQ.out]
        have HBF := Lib.hid (HBU2.out.trans (hb2.mono HBU2.out.size))
        clear hb2
        cases q with
        | true =>
          have HN : Hid (∀ i, i < j + 1 → sameE (es[i]?.getD nilE) (fs[i]?.getD nilE) = true) := Lib.hid (fun i hi => by
            by_cases e : i = j
            · subst e
              rw [← HEx.out, ← HEy.out]
              exact HQ.out.symm
            · exact HSO.out i (by omega))
          go_wp2_with fail
          go_roundw
          case rel => exact ⟨j + 1, by omega, by go_num, HN, HBF⟩
          case measure => simp [intOf]; omega
        | false =>
          have HE : Hid (sameEs es fs = false) := Lib.hid (sameEs_no (by rw [HL.out, HLf.out]) (by rw [HL.out]; exact hlt) (by rw [← HEx.out, ← HEy.out]; exact HQ.out.symm))
          go_wp2_with fail
          go_ret
          rw [HE.out]
          exact ⟨rfl, HBF.out⟩
      · obtain rfl : j = n := by omega
        have HE : Hid (sameEs es fs = true) := Lib.hid ((sameEs_at (by rw [HL.out, HLf.out])).2 (fun i hi => HSO.out i (by rw [HL.out] at hi; exact hi)))
        go_wp2_with fail
        go_ret
        rw [HE.out]
        exact ⟨rfl, HBR.out⟩
  · have HE : Hid (sameEs es fs = false) := Lib.hid (by
      cases hs : sameEs es fs with
      | false => rfl
      | true => exact absurd (sameEs_len hs) (by rw [hn, hm]; exact hnm))
    have t0 : ((n : Int) != (m : Int)) = true := by rw [bne_iff_ne]; omega
    clear hn hm hA hAi hB hBi hS hnm
    go_enter Try.func25, Try.ntmps25
    go_wp2_with fail
    go_ret
    rw [HE.out]
    exact ⟨rfl, Below.refl _ _⟩

set_option maxRecDepth 100000 in
set_option maxHeartbeats 6400000 in
theorem tEqualS_of (es fs : List SL) (hS : ∀ x ∈ es, TSameStAt x) (A B : Option Addr) (n c m d : Nat) (w : World) (hA : RowS6 w w.heap.size A n es) (hAi : SL.Ins w w.heap.size es) (hB : RowS6 w w.heap.size B m fs) (hBi : SL.Ins w w.heap.size fs) :
    Calls Try.prog 36 #[.slice A n c, .slice B m d, .func (.func 37) #[] #[]] w fun f w' => f = .returned (.bool (sameSs es fs)) ∧ Below w.heap.size w w' := by
  have hn := hA.1
  have hm := hB.1
  have hn9 := hA.2.1
  have hm9 := hB.2.1
  by_cases hnm : n = m
  · subst hnm
    have HL := Lib.hid hn
    have HLf := Lib.hid hm
    have HR := Lib.hid hA
    have HA := Lib.hid hAi
    have HRf := Lib.hid hB
    have HAf := Lib.hid hBi
    have HS := Lib.hid hS
    have t0 : ((n : Int) != (n : Int)) = false := by simp
    clear hn hm hA hAi hB hBi hS
    go_enter Try.func36, Try.ntmps36
    go_wp2_with fail
    go_loopw [17] (fun vj wr => ∃ j : Nat, j ≤ n ∧ vj = .int .i64 j ∧ Hid (∀ i, i < j → sameS (es[i]?.getD nilS) (fs[i]?.getD nilS) = true) ∧ Hid (Below w.heap.size w wr)) (fun vj _ => n - (intOf vj).toNat)
    case atStart => exact ⟨0, Nat.zero_le _, rfl, Lib.hid (fun i hi => absurd hi (Nat.not_lt_zero _)), Lib.hid (Below.refl _ _)⟩
    case round =>
      obtain ⟨j, hj, rfl, HSO, HBR⟩ := hrel
      by_cases hlt : j < n
      ·
        have hxjl : j < es.length := by rw [HL.out]; exact hlt
        obtain ⟨xad, rfl, xab, xc⟩ := rowS_at (HR.out.below HBR.out) hlt
        have hx := HA.out.at hxjl
        have hxmem : (es[j]?.getD nilS) ∈ es := by rw [List.getElem?_eq_getElem hxjl]; exact List.getElem_mem _
        obtain ⟨x, hxe⟩ : ∃ x, x = es[j]?.getD nilS := ⟨_, rfl⟩
        obtain ⟨a0, a1, a2, a3, a4, a5⟩ := xc x hxe
        rw [← hxe] at hx hxmem
        have HXx := Lib.hid hx
        have HEx := Lib.hid hxe
        have HMx := Lib.hid hxmem
        obtain ⟨xk, xm, xs, xA, xn, xc', xes, xA1, xn1, xc1, xbo, xA2, xn2, xc2, xel⟩ := x
        change wr.cell? (xad.add (j * 6)) = some (.int .i64 xk) at a0
        change wr.cell? ⟨(xad.add (j * 6)).block, (xad.add (j * 6)).off + 1, none⟩ = some (.int .i64 xm) at a1
        change wr.cell? ⟨(xad.add (j * 6)).block, (xad.add (j * 6)).off + 2, none⟩ = some (.string (bs xs)) at a2
        change wr.cell? ⟨(xad.add (j * 6)).block, (xad.add (j * 6)).off + 3, none⟩ = some (.slice xA xn xc') at a3
        change wr.cell? ⟨(xad.add (j * 6)).block, (xad.add (j * 6)).off + 4, none⟩ = some (.slice xA1 xn1 xc1) at a4
        change wr.cell? ⟨(xad.add (j * 6)).block, (xad.add (j * 6)).off + 5, none⟩ = some (.slice xA2 xn2 xc2) at a5
        clear xc hxe hx hxmem hxjl
        have hyjl : j < fs.length := by rw [HLf.out]; exact hlt
        obtain ⟨yad, rfl, yab, yc⟩ := rowS_at (HRf.out.below HBR.out) hlt
        have hy := HAf.out.at hyjl
        have hymem : (fs[j]?.getD nilS) ∈ fs := by rw [List.getElem?_eq_getElem hyjl]; exact List.getElem_mem _
        obtain ⟨y, hye⟩ : ∃ x, x = fs[j]?.getD nilS := ⟨_, rfl⟩
        obtain ⟨b0, b1, b2, b3, b4, b5⟩ := yc y hye
        rw [← hye] at hy hymem
        have HXy := Lib.hid hy
        have HEy := Lib.hid hye
        have HMy := Lib.hid hymem
        obtain ⟨yk, ym, ys, yA, yn, yc', yes, yA1, yn1, yc1, ybo, yA2, yn2, yc2, yel⟩ := y
        change wr.cell? (yad.add (j * 6)) = some (.int .i64 yk) at b0
        change wr.cell? ⟨(yad.add (j * 6)).block, (yad.add (j * 6)).off + 1, none⟩ = some (.int .i64 ym) at b1
        change wr.cell? ⟨(yad.add (j * 6)).block, (yad.add (j * 6)).off + 2, none⟩ = some (.string (bs ys)) at b2
        change wr.cell? ⟨(yad.add (j * 6)).block, (yad.add (j * 6)).off + 3, none⟩ = some (.slice yA yn yc') at b3
        change wr.cell? ⟨(yad.add (j * 6)).block, (yad.add (j * 6)).off + 4, none⟩ = some (.slice yA1 yn1 yc1) at b4
        change wr.cell? ⟨(yad.add (j * 6)).block, (yad.add (j * 6)).off + 5, none⟩ = some (.slice yA2 yn2 yc2) at b5
        clear yc hye hy hymem hyjl
        obtain ⟨q, hq⟩ : ∃ q, q = sameS (.mk xk xm xs xA xn xc' xes xA1 xn1 xc1 xbo xA2 xn2 xc2 xel) (.mk yk ym ys yA yn yc' yes yA1 yn1 yc1 ybo yA2 yn2 yc2 yel) := ⟨_, rfl⟩
        have HQ := Lib.hid hq
        have HC := Lib.hid (HS.out _ HMx.out (.mk yk ym ys yA yn yc' yes yA1 yn1 yc1 ybo yA2 yn2 yc2 yel))
        have HYB : Hid ((yad.add (j * 6)).block < wr.heap.size) := Lib.hid (by rw [blk_add]; exact Nat.lt_of_lt_of_le yab HBR.out.size)
        have HY0 := Lib.hid b0
        have HY1 := Lib.hid b1
        have HY2 := Lib.hid b2
        have HY3 := Lib.hid b3
        have HY4 := Lib.hid b4
        have HY5 := Lib.hid b5
        clear hq b0 b1 b2 b3 b4 b5
        go_wp2_with (first | (refine wpList_store_row rfl 48 _ _ rfl wr.heap.size #[.int .i64 xk, .int .i64 xm, .string (bs xs), .slice xA xn xc', .slice xA1 xn1 xc1, .slice xA2 xn2 xc2] rfl rfl _ _ (Blk.new wr _ _) stmt_size rfl (stmt_one _ _ _ _ _ _ _ _ _ _ _ _) ?_; obtain ⟨V, hV⟩ : ∃ V0, V0 = (wr.alloc (.cells #[.int .i64 0, .int .i64 0, .string ⟨#[]⟩, .slice none 0 0, .slice none 0 0, .slice none 0 0] 48)).setRow wr.heap.size #[.int .i64 xk, .int .i64 xm, .string (bs xs), .slice xA xn xc', .slice xA1 xn1 xc1, .slice xA2 xn2 xc2] := ⟨_, rfl⟩; rw [← hV]; obtain ⟨hkV, hbV⟩ := put_row hV; have HKV := Lib.hid hkV; have HBV := Lib.hid hbV; clear hV hkV hbV; have HBWV := Lib.hid (HBR.out.trans (HBV.out.mono HBR.out.size)); have b0 : V.cell? (yad.add (j * 6)) = some (.int .i64 yk) := (HBV.out.cell (p := (yad.add (j * 6))) HYB.out).trans HY0.out; have b1 : V.cell? ⟨(yad.add (j * 6)).block, (yad.add (j * 6)).off + 1, none⟩ = some (.int .i64 ym) := (HBV.out.cell (p := ⟨(yad.add (j * 6)).block, (yad.add (j * 6)).off + 1, none⟩) HYB.out).trans HY1.out; have b2 : V.cell? ⟨(yad.add (j * 6)).block, (yad.add (j * 6)).off + 2, none⟩ = some (.string (bs ys)) := (HBV.out.cell (p := ⟨(yad.add (j * 6)).block, (yad.add (j * 6)).off + 2, none⟩) HYB.out).trans HY2.out; have b3 : V.cell? ⟨(yad.add (j * 6)).block, (yad.add (j * 6)).off + 3, none⟩ = some (.slice yA yn yc') := (HBV.out.cell (p := ⟨(yad.add (j * 6)).block, (yad.add (j * 6)).off + 3, none⟩) HYB.out).trans HY3.out; have b4 : V.cell? ⟨(yad.add (j * 6)).block, (yad.add (j * 6)).off + 4, none⟩ = some (.slice yA1 yn1 yc1) := (HBV.out.cell (p := ⟨(yad.add (j * 6)).block, (yad.add (j * 6)).off + 4, none⟩) HYB.out).trans HY4.out; have b5 : V.cell? ⟨(yad.add (j * 6)).block, (yad.add (j * 6)).off + 5, none⟩ = some (.slice yA2 yn2 yc2) := (HBV.out.cell (p := ⟨(yad.add (j * 6)).block, (yad.add (j * 6)).off + 5, none⟩) HYB.out).trans HY5.out) | (refine wpList_store_row rfl 48 _ _ rfl V.heap.size #[.int .i64 yk, .int .i64 ym, .string (bs ys), .slice yA yn yc', .slice yA1 yn1 yc1, .slice yA2 yn2 yc2] rfl rfl _ _ (Blk.new V _ _) stmt_size rfl (stmt_one _ _ _ _ _ _ _ _ _ _ _ _) ?_; obtain ⟨U, hU⟩ : ∃ V0, V0 = (V.alloc (.cells #[.int .i64 0, .int .i64 0, .string ⟨#[]⟩, .slice none 0 0, .slice none 0 0, .slice none 0 0] 48)).setRow V.heap.size #[.int .i64 yk, .int .i64 ym, .string (bs ys), .slice yA yn yc', .slice yA1 yn1 yc1, .slice yA2 yn2 yc2] := ⟨_, rfl⟩; rw [← hU]; obtain ⟨hkU, hbU⟩ := put_row hU; have HKU := Lib.hid hkU; have HBU := Lib.hid hbU; clear hU hkU hbU; have HKX := Lib.hid (HKV.out.below HBU.out HKV.out.lt)) | (refine wpList_load_row rfl 48 _ rfl wr.heap.size rfl 48 #[.int .i64 xk, .int .i64 xm, .string (bs xs), .slice xA xn xc', .slice xA1 xn1 xc1, .slice xA2 xn2 xc2] (0, 0) _ HKX.out Try.underlying48 rfl stmt_size ?_) | (refine wpList_load_row rfl 48 _ rfl V.heap.size rfl 48 #[.int .i64 yk, .int .i64 ym, .string (bs ys), .slice yA yn yc', .slice yA1 yn1 yc1, .slice yA2 yn2 yc2] (0, 0) _ HKU.out Try.underlying48 rfl stmt_size ?_))
        have HBU2 := Lib.hid (HBWV.out.trans (HBU.out.mono HBWV.out.size))
        refine (HC.out U (SL.In.more HBU2.out.size (HXx.out.below HBU2.out)) (SL.In.more HBU2.out.size (HXy.out.below HBU2.out))).mono ?_
        rintro f w2 ⟨rfl, hb2⟩
        rw [← HQ.out]
        have HBF := Lib.hid (HBU2.out.trans (hb2.mono HBU2.out.size))
        clear hb2
        cases q with
        | true =>
          have HN : Hid (∀ i, i < j + 1 → sameS (es[i]?.getD nilS) (fs[i]?.getD nilS) = true) := Lib.hid (fun i hi => by
            by_cases e : i = j
            · subst e
              rw [← HEx.out, ← HEy.out]
              exact HQ.out.symm
            · exact HSO.out i (by omega))
          go_wp2_with fail
          go_roundw
          case rel => exact ⟨j + 1, by omega, by go_num, HN, HBF⟩
          case measure => simp [intOf]; omega
        | false =>
          have HE : Hid (sameSs es fs = false) := Lib.hid (sameSs_no (by rw [HL.out, HLf.out]) (by rw [HL.out]; exact hlt) (by rw [← HEx.out, ← HEy.out]; exact HQ.out.symm))
          go_wp2_with fail
          go_ret
          rw [HE.out]
          exact ⟨rfl, HBF.out⟩
      · obtain rfl : j = n := by omega
        have HE : Hid (sameSs es fs = true) := Lib.hid ((sameSs_at (by rw [HL.out, HLf.out])).2 (fun i hi => HSO.out i (by rw [HL.out] at hi; exact hi)))
        go_wp2_with fail
        go_ret
        rw [HE.out]
        exact ⟨rfl, HBR.out⟩
  · have HE : Hid (sameSs es fs = false) := Lib.hid (by
      cases hs : sameSs es fs with
      | false => rfl
      | true => exact absurd (sameSs_len hs) (by rw [hn, hm]; exact hnm))
    have t0 : ((n : Int) != (m : Int)) = true := by rw [bne_iff_ne]; omega
    clear hn hm hA hAi hB hBi hS hnm
    go_enter Try.func36, Try.ntmps36
    go_wp2_with fail
    go_ret
    rw [HE.out]
    exact ⟨rfl, Below.refl _ _⟩

theorem sameE_fv {x y : EL} (hx : x.args.length = x.n) (hy : y.args.length = y.n) : sameE x y = (decide (x.fv = y.fv) && sameEs x.args y.args) := by
  rw [sameE_eq]
  cases h : sameEs x.args y.args with
  | false => rw [Bool.and_false, Bool.and_false]
  | true =>
    have hl := sameEs_len h
    rw [Bool.and_true, Bool.and_true]
    have e : ((x.n : Int) = (y.n : Int)) = True := by rw [← hx, ← hy, hl]; simp
    unfold EL.fv
    simp only [FV.mk.injEq, e, and_true]
    rw [Bool.eq_iff_iff]
    simp [and_assoc]
theorem sameS_fv {x y : SL} (hx : x.args.length = x.n) (hy : y.args.length = y.n) (hx1 : x.body.length = x.n1) (hy1 : y.body.length = y.n1) (hx2 : x.els.length = x.n2) (hy2 : y.els.length = y.n2) :
    sameS x y = (decide (x.fv = y.fv) && sameEs x.args y.args && sameSs x.body y.body && sameSs x.els y.els) := by
  rw [sameS_eq]
  cases h : sameEs x.args y.args with
  | false => simp
  | true =>
    cases h1 : sameSs x.body y.body with
    | false => simp
    | true =>
      cases h2 : sameSs x.els y.els with
      | false => simp
      | true =>
        have e : ((x.n : Int) = (y.n : Int)) = True := by rw [← hx, ← hy, sameEs_len h]; simp
        have e1 : ((x.n1 : Int) = (y.n1 : Int)) = True := by rw [← hx1, ← hy1, sameSs_len h1]; simp
        have e2 : ((x.n2 : Int) = (y.n2 : Int)) = True := by rw [← hx2, ← hy2, sameSs_len h2]; simp
        unfold SL.fv
        simp only [FV.mk.injEq, e, e1, e2, true_and, and_true, Bool.and_true]
        rw [Bool.eq_iff_iff]
        simp [and_assoc]

/-- what the program's SameBlock does, at a list of statements -/
def TSameL (ss : List SL) : Prop := ∀ (ts : List SL) (A B : Option Addr) (n c m d : Nat) (w : World), RowS6 w w.heap.size A n ss → SL.Ins w w.heap.size ss → RowS6 w w.heap.size B m ts → SL.Ins w w.heap.size ts →
    Calls Try.prog 11 #[.slice A n c, .slice B m d] w fun f w' => f = .returned (.bool (sameSs ss ts)) ∧ Below w.heap.size w w'

set_option maxRecDepth 100000 in
set_option maxHeartbeats 6400000 in
theorem tSameBlock_of (ss : List SL) (hS : ∀ x ∈ ss, TSameStAt x) : TSameL ss := by
  intro ts A B n c m d w hA hAi hB hBi
  have HC := Lib.hid (tEqualS_of ss ts hS A B n c m d w hA hAi hB hBi)
  obtain ⟨z, hz⟩ : ∃ z, z = sameSs ss ts := ⟨_, rfl⟩
  have HZ := Lib.hid hz
  rw [← hz]
  clear hz hA hAi hB hBi hS
  go_enter Try.func11, Try.ntmps11
  go_wp2_with fail
  refine HC.out.mono ?_
  rintro f w2 ⟨rfl, hb2⟩
  rw [← HZ.out]
  go_wp2_with fail
  go_ret
  exact ⟨rfl, hb2⟩

set_option maxRecDepth 100000 in
set_option maxHeartbeats 6400000 in
theorem tSame_any : ∀ x : EL, TSameAt x := by
  refine EL.ind fun x ih y w hx hy => ?_
  have hsz := sameE_fv hx.row.1 hy.row.1
  have hxr := hx.row
  have hxa := hx.args
  have hyr := hy.row
  have hya := hy.args
  rw [hsz]
  clear hsz
  obtain ⟨xk, xo, xm, xs, xA, xn, xc', xes⟩ := x
  obtain ⟨yk, yo, ym, ys, yA, yn, yc', yes⟩ := y
  obtain ⟨r, hr⟩ : ∃ r, r = sameEs xes yes := ⟨_, rfl⟩
  obtain ⟨q, hq⟩ : ∃ q, q = decide (EL.fv (.mk xk xo xm xs xA xn xc' xes) = EL.fv (.mk yk yo ym ys yA yn yc' yes)) := ⟨_, rfl⟩
  have HARGS : Hid (∀ W : World, Below w.heap.size w W → Calls Try.prog 25 #[.slice xA xn xc', .slice yA yn yc', .func (.func 8) #[] #[]] W fun f w' => f = .returned (.bool r) ∧ Below W.heap.size W w') := Lib.hid (fun W hb => by
    rw [hr]
    exact tEqualE_of xes yes ih xA yA xn xc' yn yc' W ((RowE.below hxr hb).more hb.size) ((EL.Ins.below hxa hb).more hb.size) ((RowE.below hyr hb).more hb.size) ((EL.Ins.below hya hb).more hb.size))
  have heq : ∀ W : World, (binOp .eql 52 (EL.fv (.mk xk xo xm xs xA xn xc' xes)).val (EL.fv (.mk yk yo ym ys yA yn yc' yes)).val).run Try.prog W = .ok (.bool q) W := fun W => by rw [hq]; exact run_eql_fv _ _ W
  have hgd : ∀ (a b : Operand) (W : World), (eqGuard .eql 52 a b (EL.fv (.mk xk xo xm xs xA xn xc' xes)).val (EL.fv (.mk yk yo ym ys yA yn yc' yes)).val).run Try.prog W = .ok () W := fun a b W => guard_fv _ _ _ _ _ W
  show Calls Try.prog _ #[.agg #[.int .i64 xk, .int .i64 xo, .int .i64 xm, .string (bs xs), .slice xA xn xc'], .agg #[.int .i64 yk, .int .i64 yo, .int .i64 ym, .string (bs ys), .slice yA yn yc']] w fun f w' => f = .returned (.bool (decide (EL.fv (.mk xk xo xm xs xA xn xc' xes) = EL.fv (.mk yk yo ym ys yA yn yc' yes)) && sameEs xes yes)) ∧ Below w.heap.size w w'
  rw [← hr, ← hq]
  clear ih hx hy hxr hxa hyr hya hr hq
  obtain ⟨W, hW⟩ : ∃ W, W = ((w.alloc (.cells #[.int .i64 xk, .int .i64 xo, .int .i64 xm, .string (bs xs), .slice xA xn xc'] 31)).alloc (.cells #[.int .i64 yk, .int .i64 yo, .int .i64 ym, .string (bs ys), .slice yA yn yc'] 31)) := ⟨_, rfl⟩
  have HBW : Hid (Below w.heap.size w W) := Lib.hid (by rw [hW]; exact ((Below.refl _ _).alloc (Nat.le_refl _) _).alloc (by simp) _)
  have hcx : Hid (∀ u : World, Below W.heap.size W u → u.cell? ⟨w.heap.size, 0, none⟩ = some (.int .i64 xk) ∧ u.cell? ⟨w.heap.size, 1, none⟩ = some (.int .i64 xo) ∧ u.cell? ⟨w.heap.size, 2, none⟩ = some (.int .i64 xm) ∧ u.cell? ⟨w.heap.size, 3, none⟩ = some (.string (bs xs)) ∧ u.cell? ⟨w.heap.size, 4, none⟩ = some (.slice xA xn xc')) := Lib.hid (fun u hb => by
    have hk : Blk W w.heap.size 31 #[.int .i64 xk, .int .i64 xo, .int .i64 xm, .string (bs xs), .slice xA xn xc'] := by rw [hW]; exact (Blk.new w _ _).alloc _
    have hk2 := hk.below hb hk.lt
    exact ⟨hk2.cell 0, hk2.cell 1, hk2.cell 2, hk2.cell 3, hk2.cell 4⟩)
  have hcy : Hid (∀ u : World, Below W.heap.size W u → u.cell? ⟨w.heap.size + 1, 0, none⟩ = some (.int .i64 yk) ∧ u.cell? ⟨w.heap.size + 1, 1, none⟩ = some (.int .i64 yo) ∧ u.cell? ⟨w.heap.size + 1, 2, none⟩ = some (.int .i64 ym) ∧ u.cell? ⟨w.heap.size + 1, 3, none⟩ = some (.string (bs ys)) ∧ u.cell? ⟨w.heap.size + 1, 4, none⟩ = some (.slice yA yn yc')) := Lib.hid (fun u hb => by
    have hk : Blk W (w.heap.size + 1) 31 #[.int .i64 yk, .int .i64 yo, .int .i64 ym, .string (bs ys), .slice yA yn yc'] := by rw [hW]; exact Blk.new_at _ _ _ _ (by simp)
    have hk2 := hk.below hb hk.lt
    exact ⟨hk2.cell 0, hk2.cell 1, hk2.cell 2, hk2.cell 3, hk2.cell 4⟩)
  cases q with
  | true =>
    have HRES : Hid ((true && r) = r) := Lib.hid (Bool.true_and r)
    go_enter Try.func8, Try.ntmps8
    go_wp2_with fail
    rw [← hW]
    clear hW
    refine wp_region_held_drew (S := Below W.heap.size W) (by kernel_rfl) (Below.refl _ _).drew (fun hHeld => ?_)
    refine held_take (i := 0) (fuel := 12) (v := ?_) (by rw [List.getElem?_toArray]; rfl) (by kernel_rfl) (by kernel_rfl) (by kernel_rfl) hHeld ?_ ?_ ?_ ?_
    rotate_left
    · intro u hSw
      obtain ⟨c0, c1, c2, c3, c4⟩ := hcx.out u hSw
      go_simp
      try with_reducible rfl
    · rfl
    · exact fun _ _ _ h => h
    try simp only [Act.put, List.setIfInBounds_toArray, List.set_cons_zero, List.set_cons_succ]
    refine held_take (i := 2) (fuel := 11) (v := ?_) (by rw [List.getElem?_toArray]; rfl) (by kernel_rfl) (by kernel_rfl) (by kernel_rfl) hHeld ?_ ?_ ?_ ?_
    rotate_left
    · intro u hSw
      obtain ⟨c0, c1, c2, c3, c4⟩ := hcy.out u hSw
      go_simp
      try with_reducible rfl
    · rfl
    · exact fun _ _ _ h => h
    try simp only [Act.put, List.setIfInBounds_toArray, List.set_cons_zero, List.set_cons_succ]
    refine held_one (i := 1) (fuel := 10) (by kernel_rfl) (by rw [List.getElem?_toArray]; rfl) (fun K hK => ?_)
    go_simp
    refine (texprFields_any (.mk xk xo xm xs xA xn xc' xes) _).mono ?_
    rintro f w3 ⟨rfl, hb3⟩
    refine hK.out _ _ ?_ (fun hHeld => ?_)
    · exact hHeld.trans (hb3.mono hHeld.size)
    clear hK K
    try simp only [Act.put, List.setIfInBounds_toArray, List.set_cons_zero, List.set_cons_succ]
    refine held_one (i := 3) (fuel := 9) (by kernel_rfl) (by rw [List.getElem?_toArray]; rfl) (fun K hK => ?_)
    go_simp
    refine (texprFields_any (.mk yk yo ym ys yA yn yc' yes) _).mono ?_
    rintro f w4 ⟨rfl, hb4⟩
    refine hK.out _ _ ?_ (fun hHeld => ?_)
    · exact hHeld.trans (hb4.mono hHeld.size)
    clear hK K
    try simp only [Act.put, List.setIfInBounds_toArray, List.set_cons_zero, List.set_cons_succ]
    refine held_take (i := 4) (fuel := 8) (v := ?_) (by rw [List.getElem?_toArray]; rfl) (by kernel_rfl) (by kernel_rfl) (by kernel_rfl) hHeld ?_ ?_ ?_ ?_
    rotate_left
    · intro u hSw
      go_simp
      try with_reducible rfl
    · rfl
    · exact fun _ _ _ h => h
    try simp only [Act.put, List.setIfInBounds_toArray, List.set_cons_zero, List.set_cons_succ]
    refine held_take (i := 5) (fuel := 7) (v := ?_) (by rw [List.getElem?_toArray]; rfl) (by kernel_rfl) (by kernel_rfl) (by kernel_rfl) hHeld ?_ ?_ ?_ ?_
    rotate_left
    · intro u hSw
      go_simp
      try with_reducible rfl
    · rfl
    · exact fun _ _ _ h => h
    try simp only [Act.put, List.setIfInBounds_toArray, List.set_cons_zero, List.set_cons_succ]
    refine held_take (i := 6) (fuel := 6) (v := ?_) (by rw [List.getElem?_toArray]; rfl) (by kernel_rfl) (by kernel_rfl) (by kernel_rfl) hHeld ?_ ?_ ?_ ?_
    rotate_left
    · intro u hSw
      go_simp
      try with_reducible rfl
    · rfl
    · exact fun _ _ _ h => h
    try simp only [Act.put, List.setIfInBounds_toArray, List.set_cons_zero, List.set_cons_succ]
    refine held_take (i := 7) (fuel := 5) (v := ?_) (by rw [List.getElem?_toArray]; rfl) (by kernel_rfl) (by kernel_rfl) (by kernel_rfl) hHeld ?_ ?_ ?_ ?_
    rotate_left
    · intro u hSw
      obtain ⟨c0, c1, c2, c3, c4⟩ := hcx.out u hSw
      go_simp
      try with_reducible rfl
    · rfl
    · exact fun _ _ _ h => h
    try simp only [Act.put, List.setIfInBounds_toArray, List.set_cons_zero, List.set_cons_succ]
    refine held_take (i := 8) (fuel := 4) (v := ?_) (by rw [List.getElem?_toArray]; rfl) (by kernel_rfl) (by kernel_rfl) (by kernel_rfl) hHeld ?_ ?_ ?_ ?_
    rotate_left
    · intro u hSw
      go_simp
      try with_reducible rfl
    · rfl
    · exact fun _ _ _ h => h
    try simp only [Act.put, List.setIfInBounds_toArray, List.set_cons_zero, List.set_cons_succ]
    refine held_take (i := 9) (fuel := 3) (v := ?_) (by rw [List.getElem?_toArray]; rfl) (by kernel_rfl) (by kernel_rfl) (by kernel_rfl) hHeld ?_ ?_ ?_ ?_
    rotate_left
    · intro u hSw
      obtain ⟨c0, c1, c2, c3, c4⟩ := hcy.out u hSw
      go_simp
      try with_reducible rfl
    · rfl
    · exact fun _ _ _ h => h
    try simp only [Act.put, List.setIfInBounds_toArray, List.set_cons_zero, List.set_cons_succ]
    refine held_one (i := 10) (fuel := 2) (by kernel_rfl) (by rw [List.getElem?_toArray]; rfl) (fun K hK => ?_)
    go_simp
    refine (HARGS.out _ (HBW.out.trans (hHeld.mono HBW.out.size))).mono ?_
    rintro f w5 ⟨rfl, hb5⟩
    refine hK.out _ _ ?_ (fun hHeld => ?_)
    · exact hHeld.trans (hb5.mono hHeld.size)
    clear hK K
    try simp only [Act.put, List.setIfInBounds_toArray, List.set_cons_zero, List.set_cons_succ]
    refine held_take (i := 11) (fuel := 1) (v := ?_) (by rw [List.getElem?_toArray]; rfl) (by kernel_rfl) (by kernel_rfl) (by kernel_rfl) hHeld ?_ ?_ ?_ ?_
    rotate_left
    · intro u hSw
      go_simp
      try with_reducible rfl
    · rfl
    · exact fun _ _ _ h => h
    try simp only [Act.put, List.setIfInBounds_toArray, List.set_cons_zero, List.set_cons_succ]
    refine held_take (i := 12) (fuel := 0) (v := ?_) (by rw [List.getElem?_toArray]; rfl) (by kernel_rfl) (by kernel_rfl) (by kernel_rfl) hHeld ?_ ?_ ?_ ?_
    rotate_left
    · intro u hSw
      go_simp
      try with_reducible rfl
    · rfl
    · exact fun _ _ _ h => h
    try simp only [Act.put, List.setIfInBounds_toArray, List.set_cons_zero, List.set_cons_succ]
    refine wpAnyH_done (by kernel_rfl) ?_ _
    have HF := Lib.hid (HBW.out.trans (hHeld.mono HBW.out.size))
    go_wp2_with fail
    go_ret
    rw [HRES.out]
    exact ⟨rfl, HF.out⟩
  | false =>
    have HRES : Hid ((false && r) = false) := Lib.hid (Bool.false_and r)
    go_enter Try.func8, Try.ntmps8
    go_wp2_with fail
    rw [← hW]
    clear hW
    refine wp_region_held_drew (S := Below W.heap.size W) (by kernel_rfl) (Below.refl _ _).drew (fun hHeld => ?_)
    refine held_take (i := 0) (fuel := 12) (v := ?_) (by rw [List.getElem?_toArray]; rfl) (by kernel_rfl) (by kernel_rfl) (by kernel_rfl) hHeld ?_ ?_ ?_ ?_
    rotate_left
    · intro u hSw
      obtain ⟨c0, c1, c2, c3, c4⟩ := hcx.out u hSw
      go_simp
      try with_reducible rfl
    · rfl
    · exact fun _ _ _ h => h
    try simp only [Act.put, List.setIfInBounds_toArray, List.set_cons_zero, List.set_cons_succ]
    refine held_take (i := 2) (fuel := 11) (v := ?_) (by rw [List.getElem?_toArray]; rfl) (by kernel_rfl) (by kernel_rfl) (by kernel_rfl) hHeld ?_ ?_ ?_ ?_
    rotate_left
    · intro u hSw
      obtain ⟨c0, c1, c2, c3, c4⟩ := hcy.out u hSw
      go_simp
      try with_reducible rfl
    · rfl
    · exact fun _ _ _ h => h
    try simp only [Act.put, List.setIfInBounds_toArray, List.set_cons_zero, List.set_cons_succ]
    refine held_one (i := 1) (fuel := 10) (by kernel_rfl) (by rw [List.getElem?_toArray]; rfl) (fun K hK => ?_)
    go_simp
    refine (texprFields_any (.mk xk xo xm xs xA xn xc' xes) _).mono ?_
    rintro f w3 ⟨rfl, hb3⟩
    refine hK.out _ _ ?_ (fun hHeld => ?_)
    · exact hHeld.trans (hb3.mono hHeld.size)
    clear hK K
    try simp only [Act.put, List.setIfInBounds_toArray, List.set_cons_zero, List.set_cons_succ]
    refine held_one (i := 3) (fuel := 9) (by kernel_rfl) (by rw [List.getElem?_toArray]; rfl) (fun K hK => ?_)
    go_simp
    refine (texprFields_any (.mk yk yo ym ys yA yn yc' yes) _).mono ?_
    rintro f w4 ⟨rfl, hb4⟩
    refine hK.out _ _ ?_ (fun hHeld => ?_)
    · exact hHeld.trans (hb4.mono hHeld.size)
    clear hK K
    try simp only [Act.put, List.setIfInBounds_toArray, List.set_cons_zero, List.set_cons_succ]
    refine held_take (i := 4) (fuel := 8) (v := ?_) (by rw [List.getElem?_toArray]; rfl) (by kernel_rfl) (by kernel_rfl) (by kernel_rfl) hHeld ?_ ?_ ?_ ?_
    rotate_left
    · intro u hSw
      go_simp
      try with_reducible rfl
    · rfl
    · exact fun _ _ _ h => h
    try simp only [Act.put, List.setIfInBounds_toArray, List.set_cons_zero, List.set_cons_succ]
    refine held_take (i := 5) (fuel := 7) (v := ?_) (by rw [List.getElem?_toArray]; rfl) (by kernel_rfl) (by kernel_rfl) (by kernel_rfl) hHeld ?_ ?_ ?_ ?_
    rotate_left
    · intro u hSw
      go_simp
      try with_reducible rfl
    · rfl
    · exact fun _ _ _ h => h
    try simp only [Act.put, List.setIfInBounds_toArray, List.set_cons_zero, List.set_cons_succ]
    refine held_skip (i := 6) (fuel := 6) (by rw [List.getElem?_toArray]; rfl) (by kernel_rfl) (by kernel_rfl) (by kernel_rfl) hHeld ?_ ?_ ?_
    · rfl
    · exact fun _ _ _ h => h
    try simp only [Act.put, List.setIfInBounds_toArray, List.set_cons_zero, List.set_cons_succ]
    refine held_skip (i := 7) (fuel := 5) (by rw [List.getElem?_toArray]; rfl) (by kernel_rfl) (by kernel_rfl) (by kernel_rfl) hHeld ?_ ?_ ?_
    · rfl
    · exact fun _ _ _ h => h
    try simp only [Act.put, List.setIfInBounds_toArray, List.set_cons_zero, List.set_cons_succ]
    refine held_skip (i := 8) (fuel := 4) (by rw [List.getElem?_toArray]; rfl) (by kernel_rfl) (by kernel_rfl) (by kernel_rfl) hHeld ?_ ?_ ?_
    · rfl
    · exact fun _ _ _ h => h
    try simp only [Act.put, List.setIfInBounds_toArray, List.set_cons_zero, List.set_cons_succ]
    refine held_skip (i := 9) (fuel := 3) (by rw [List.getElem?_toArray]; rfl) (by kernel_rfl) (by kernel_rfl) (by kernel_rfl) hHeld ?_ ?_ ?_
    · rfl
    · exact fun _ _ _ h => h
    try simp only [Act.put, List.setIfInBounds_toArray, List.set_cons_zero, List.set_cons_succ]
    refine held_skip (i := 10) (fuel := 2) (by rw [List.getElem?_toArray]; rfl) (by kernel_rfl) (by kernel_rfl) (by kernel_rfl) hHeld ?_ ?_ ?_
    · rfl
    · exact fun _ _ _ h => h
    try simp only [Act.put, List.setIfInBounds_toArray, List.set_cons_zero, List.set_cons_succ]
    refine held_take (i := 11) (fuel := 1) (v := ?_) (by rw [List.getElem?_toArray]; rfl) (by kernel_rfl) (by kernel_rfl) (by kernel_rfl) hHeld ?_ ?_ ?_ ?_
    rotate_left
    · intro u hSw
      go_simp
      try with_reducible rfl
    · rfl
    · exact fun _ _ _ h => h
    try simp only [Act.put, List.setIfInBounds_toArray, List.set_cons_zero, List.set_cons_succ]
    refine held_take (i := 12) (fuel := 0) (v := ?_) (by rw [List.getElem?_toArray]; rfl) (by kernel_rfl) (by kernel_rfl) (by kernel_rfl) hHeld ?_ ?_ ?_ ?_
    rotate_left
    · intro u hSw
      go_simp
      try with_reducible rfl
    · rfl
    · exact fun _ _ _ h => h
    try simp only [Act.put, List.setIfInBounds_toArray, List.set_cons_zero, List.set_cons_succ]
    refine wpAnyH_done (by kernel_rfl) ?_ _
    have HF := Lib.hid (HBW.out.trans (hHeld.mono HBW.out.size))
    go_wp2_with fail
    go_ret
    rw [HRES.out]
    exact ⟨rfl, HF.out⟩

set_option maxRecDepth 100000 in
set_option maxHeartbeats 6400000 in
theorem tsameStmt_of (x : SL) (h1 : TSameL x.body) (h2 : TSameL x.els) : TSameStAt x := by
  intro y w hx hy
  obtain ⟨hxp, hxi1, hxi2⟩ := hx.parts
  obtain ⟨hyp, hyi1, hyi2⟩ := hy.parts
  have hxr := hxp.2.2.1.1
  have hxa := hxp.2.2.1.2
  have hyr := hyp.2.2.1.1
  have hya := hyp.2.2.1.2
  have hxr1 := hxp.2.2.2.1
  have hxr2 := hxp.2.2.2.2
  have hyr1 := hyp.2.2.2.1
  have hyr2 := hyp.2.2.2.2
  have hsz := sameS_fv hxr.1 hyr.1 hxr1.1 hyr1.1 hxr2.1 hyr2.1
  rw [hsz]
  clear hsz hxp hyp
  obtain ⟨xk, xm, xs, xA, xn, xc', xes, xA1, xn1, xc1, xbo, xA2, xn2, xc2, xel⟩ := x
  obtain ⟨yk, ym, ys, yA, yn, yc', yes, yA1, yn1, yc1, ybo, yA2, yn2, yc2, yel⟩ := y
  obtain ⟨r, hr⟩ : ∃ r, r = sameEs xes yes := ⟨_, rfl⟩
  obtain ⟨r1, hr1⟩ : ∃ r, r = sameSs xbo ybo := ⟨_, rfl⟩
  obtain ⟨r2, hr2⟩ : ∃ r, r = sameSs xel yel := ⟨_, rfl⟩
  obtain ⟨q, hq⟩ : ∃ q, q = decide (SL.fv (.mk xk xm xs xA xn xc' xes xA1 xn1 xc1 xbo xA2 xn2 xc2 xel) = SL.fv (.mk yk ym ys yA yn yc' yes yA1 yn1 yc1 ybo yA2 yn2 yc2 yel)) := ⟨_, rfl⟩
  have HARGS : Hid (∀ W : World, Below w.heap.size w W → Calls Try.prog 25 #[.slice xA xn xc', .slice yA yn yc', .func (.func 8) #[] #[]] W fun f w' => f = .returned (.bool r) ∧ Below W.heap.size W w') := Lib.hid (fun W hb => by
    rw [hr]
    exact tEqualE_of xes yes (fun z _ => tSame_any z) xA yA xn xc' yn yc' W ((RowE.below hxr hb).more hb.size) ((EL.Ins.below hxa hb).more hb.size) ((RowE.below hyr hb).more hb.size) ((EL.Ins.below hya hb).more hb.size))
  have HBODY : Hid (∀ W : World, Below w.heap.size w W → Calls Try.prog 11 #[.slice xA1 xn1 xc1, .slice yA1 yn1 yc1] W fun f w' => f = .returned (.bool r1) ∧ Below W.heap.size W w') := Lib.hid (fun W hb => by
    rw [hr1]
    exact h1 ybo xA1 yA1 xn1 xc1 yn1 yc1 W ((RowS6.below hxr1 hb).more hb.size) ((SL.Ins.below hxi1 hb).more hb.size) ((RowS6.below hyr1 hb).more hb.size) ((SL.Ins.below hyi1 hb).more hb.size))
  have HELSE : Hid (∀ W : World, Below w.heap.size w W → Calls Try.prog 11 #[.slice xA2 xn2 xc2, .slice yA2 yn2 yc2] W fun f w' => f = .returned (.bool r2) ∧ Below W.heap.size W w') := Lib.hid (fun W hb => by
    rw [hr2]
    exact h2 yel xA2 yA2 xn2 xc2 yn2 yc2 W ((RowS6.below hxr2 hb).more hb.size) ((SL.Ins.below hxi2 hb).more hb.size) ((RowS6.below hyr2 hb).more hb.size) ((SL.Ins.below hyi2 hb).more hb.size))
  have heq : ∀ W : World, (binOp .eql 52 (SL.fv (.mk xk xm xs xA xn xc' xes xA1 xn1 xc1 xbo xA2 xn2 xc2 xel)).val (SL.fv (.mk yk ym ys yA yn yc' yes yA1 yn1 yc1 ybo yA2 yn2 yc2 yel)).val).run Try.prog W = .ok (.bool q) W := fun W => by rw [hq]; exact run_eql_fv _ _ W
  have hgd : ∀ (a b : Operand) (W : World), (eqGuard .eql 52 a b (SL.fv (.mk xk xm xs xA xn xc' xes xA1 xn1 xc1 xbo xA2 xn2 xc2 xel)).val (SL.fv (.mk yk ym ys yA yn yc' yes yA1 yn1 yc1 ybo yA2 yn2 yc2 yel)).val).run Try.prog W = .ok () W := fun a b W => guard_fv _ _ _ _ _ W
  show Calls Try.prog _ #[.agg #[.int .i64 xk, .int .i64 xm, .string (bs xs), .slice xA xn xc', .slice xA1 xn1 xc1, .slice xA2 xn2 xc2], .agg #[.int .i64 yk, .int .i64 ym, .string (bs ys), .slice yA yn yc', .slice yA1 yn1 yc1, .slice yA2 yn2 yc2]] w fun f w' => f = .returned (.bool (decide (SL.fv (.mk xk xm xs xA xn xc' xes xA1 xn1 xc1 xbo xA2 xn2 xc2 xel) = SL.fv (.mk yk ym ys yA yn yc' yes yA1 yn1 yc1 ybo yA2 yn2 yc2 yel)) && sameEs xes yes && sameSs xbo ybo && sameSs xel yel)) ∧ Below w.heap.size w w'
  rw [← hr, ← hr1, ← hr2, ← hq]
  clear hx hy hxr hxa hyr hya hxi1 hxi2 hyi1 hyi2 hxr1 hxr2 hyr1 hyr2 hr hr1 hr2 hq h1 h2
  obtain ⟨W, hW⟩ : ∃ W, W = ((w.alloc (.cells #[.int .i64 xk, .int .i64 xm, .string (bs xs), .slice xA xn xc', .slice xA1 xn1 xc1, .slice xA2 xn2 xc2] 48)).alloc (.cells #[.int .i64 yk, .int .i64 ym, .string (bs ys), .slice yA yn yc', .slice yA1 yn1 yc1, .slice yA2 yn2 yc2] 48)) := ⟨_, rfl⟩
  have HBW : Hid (Below w.heap.size w W) := Lib.hid (by rw [hW]; exact ((Below.refl _ _).alloc (Nat.le_refl _) _).alloc (by simp) _)
  have hcx : Hid (∀ u : World, Below W.heap.size W u → u.cell? ⟨w.heap.size, 0, none⟩ = some (.int .i64 xk) ∧ u.cell? ⟨w.heap.size, 1, none⟩ = some (.int .i64 xm) ∧ u.cell? ⟨w.heap.size, 2, none⟩ = some (.string (bs xs)) ∧ u.cell? ⟨w.heap.size, 3, none⟩ = some (.slice xA xn xc') ∧ u.cell? ⟨w.heap.size, 4, none⟩ = some (.slice xA1 xn1 xc1) ∧ u.cell? ⟨w.heap.size, 5, none⟩ = some (.slice xA2 xn2 xc2)) := Lib.hid (fun u hb => by
    have hk : Blk W w.heap.size 48 #[.int .i64 xk, .int .i64 xm, .string (bs xs), .slice xA xn xc', .slice xA1 xn1 xc1, .slice xA2 xn2 xc2] := by rw [hW]; exact (Blk.new w _ _).alloc _
    have hk2 := hk.below hb hk.lt
    exact ⟨hk2.cell 0, hk2.cell 1, hk2.cell 2, hk2.cell 3, hk2.cell 4, hk2.cell 5⟩)
  have hcy : Hid (∀ u : World, Below W.heap.size W u → u.cell? ⟨w.heap.size + 1, 0, none⟩ = some (.int .i64 yk) ∧ u.cell? ⟨w.heap.size + 1, 1, none⟩ = some (.int .i64 ym) ∧ u.cell? ⟨w.heap.size + 1, 2, none⟩ = some (.string (bs ys)) ∧ u.cell? ⟨w.heap.size + 1, 3, none⟩ = some (.slice yA yn yc') ∧ u.cell? ⟨w.heap.size + 1, 4, none⟩ = some (.slice yA1 yn1 yc1) ∧ u.cell? ⟨w.heap.size + 1, 5, none⟩ = some (.slice yA2 yn2 yc2)) := Lib.hid (fun u hb => by
    have hk : Blk W (w.heap.size + 1) 48 #[.int .i64 yk, .int .i64 ym, .string (bs ys), .slice yA yn yc', .slice yA1 yn1 yc1, .slice yA2 yn2 yc2] := by rw [hW]; exact Blk.new_at _ _ _ _ (by simp)
    have hk2 := hk.below hb hk.lt
    exact ⟨hk2.cell 0, hk2.cell 1, hk2.cell 2, hk2.cell 3, hk2.cell 4, hk2.cell 5⟩)
  cases q with
  | false =>
    have HRES : Hid ((false && r && r1 && r2) = false) := Lib.hid (by simp)
    go_enter Try.func37, Try.ntmps37
    go_wp2_with fail
    rw [← hW]
    clear hW
    refine wp_region_held_drew (S := Below W.heap.size W) (by kernel_rfl) (Below.refl _ _).drew (fun hHeld => ?_)
    refine held_take (i := 0) (fuel := 26) (v := ?_) (by rw [List.getElem?_toArray]; rfl) (by kernel_rfl) (by kernel_rfl) (by kernel_rfl) hHeld ?_ ?_ ?_ ?_
    rotate_left
    · intro u hSw
      obtain ⟨c0, c1, c2, c3, c4, c5⟩ := hcx.out u hSw
      go_simp
      try with_reducible rfl
    · rfl
    · exact fun _ _ _ h => h
    try simp only [Act.put, List.setIfInBounds_toArray, List.set_cons_zero, List.set_cons_succ]
    refine held_take (i := 2) (fuel := 25) (v := ?_) (by rw [List.getElem?_toArray]; rfl) (by kernel_rfl) (by kernel_rfl) (by kernel_rfl) hHeld ?_ ?_ ?_ ?_
    rotate_left
    · intro u hSw
      obtain ⟨c0, c1, c2, c3, c4, c5⟩ := hcy.out u hSw
      go_simp
      try with_reducible rfl
    · rfl
    · exact fun _ _ _ h => h
    try simp only [Act.put, List.setIfInBounds_toArray, List.set_cons_zero, List.set_cons_succ]
    refine held_one (i := 1) (fuel := 24) (by kernel_rfl) (by rw [List.getElem?_toArray]; rfl) (fun K hK => ?_)
    go_simp
    refine (tstmtFields_any (.mk xk xm xs xA xn xc' xes xA1 xn1 xc1 xbo xA2 xn2 xc2 xel) _).mono ?_
    rintro f w3 ⟨rfl, hb3⟩
    refine hK.out _ _ ?_ (fun hHeld => ?_)
    · exact hHeld.trans (hb3.mono hHeld.size)
    clear hK K
    try simp only [Act.put, List.setIfInBounds_toArray, List.set_cons_zero, List.set_cons_succ]
    refine held_one (i := 3) (fuel := 23) (by kernel_rfl) (by rw [List.getElem?_toArray]; rfl) (fun K hK => ?_)
    go_simp
    refine (tstmtFields_any (.mk yk ym ys yA yn yc' yes yA1 yn1 yc1 ybo yA2 yn2 yc2 yel) _).mono ?_
    rintro f w4 ⟨rfl, hb4⟩
    refine hK.out _ _ ?_ (fun hHeld => ?_)
    · exact hHeld.trans (hb4.mono hHeld.size)
    clear hK K
    try simp only [Act.put, List.setIfInBounds_toArray, List.set_cons_zero, List.set_cons_succ]
    refine held_take (i := 4) (fuel := 22) (v := ?_) (by rw [List.getElem?_toArray]; rfl) (by kernel_rfl) (by kernel_rfl) (by kernel_rfl) hHeld ?_ ?_ ?_ ?_
    rotate_left
    · intro u hSw
      go_simp
      try with_reducible rfl
    · rfl
    · exact fun _ _ _ h => h
    try simp only [Act.put, List.setIfInBounds_toArray, List.set_cons_zero, List.set_cons_succ]
    refine held_take (i := 5) (fuel := 21) (v := ?_) (by rw [List.getElem?_toArray]; rfl) (by kernel_rfl) (by kernel_rfl) (by kernel_rfl) hHeld ?_ ?_ ?_ ?_
    rotate_left
    · intro u hSw
      go_simp
      try with_reducible rfl
    · rfl
    · exact fun _ _ _ h => h
    try simp only [Act.put, List.setIfInBounds_toArray, List.set_cons_zero, List.set_cons_succ]
    refine held_skip (i := 6) (fuel := 20) (by rw [List.getElem?_toArray]; rfl) (by kernel_rfl) (by kernel_rfl) (by kernel_rfl) hHeld ?_ ?_ ?_
    · rfl
    · exact fun _ _ _ h => h
    try simp only [Act.put, List.setIfInBounds_toArray, List.set_cons_zero, List.set_cons_succ]
    refine held_skip (i := 7) (fuel := 19) (by rw [List.getElem?_toArray]; rfl) (by kernel_rfl) (by kernel_rfl) (by kernel_rfl) hHeld ?_ ?_ ?_
    · rfl
    · exact fun _ _ _ h => h
    try simp only [Act.put, List.setIfInBounds_toArray, List.set_cons_zero, List.set_cons_succ]
    refine held_skip (i := 8) (fuel := 18) (by rw [List.getElem?_toArray]; rfl) (by kernel_rfl) (by kernel_rfl) (by kernel_rfl) hHeld ?_ ?_ ?_
    · rfl
    · exact fun _ _ _ h => h
    try simp only [Act.put, List.setIfInBounds_toArray, List.set_cons_zero, List.set_cons_succ]
    refine held_skip (i := 9) (fuel := 17) (by rw [List.getElem?_toArray]; rfl) (by kernel_rfl) (by kernel_rfl) (by kernel_rfl) hHeld ?_ ?_ ?_
    · rfl
    · exact fun _ _ _ h => h
    try simp only [Act.put, List.setIfInBounds_toArray, List.set_cons_zero, List.set_cons_succ]
    refine held_skip (i := 10) (fuel := 16) (by rw [List.getElem?_toArray]; rfl) (by kernel_rfl) (by kernel_rfl) (by kernel_rfl) hHeld ?_ ?_ ?_
    · rfl
    · exact fun _ _ _ h => h
    try simp only [Act.put, List.setIfInBounds_toArray, List.set_cons_zero, List.set_cons_succ]
    refine held_take (i := 11) (fuel := 15) (v := ?_) (by rw [List.getElem?_toArray]; rfl) (by kernel_rfl) (by kernel_rfl) (by kernel_rfl) hHeld ?_ ?_ ?_ ?_
    rotate_left
    · intro u hSw
      go_simp
      try with_reducible rfl
    · rfl
    · exact fun _ _ _ h => h
    try simp only [Act.put, List.setIfInBounds_toArray, List.set_cons_zero, List.set_cons_succ]
    refine held_take (i := 12) (fuel := 14) (v := ?_) (by rw [List.getElem?_toArray]; rfl) (by kernel_rfl) (by kernel_rfl) (by kernel_rfl) hHeld ?_ ?_ ?_ ?_
    rotate_left
    · intro u hSw
      go_simp
      try with_reducible rfl
    · rfl
    · exact fun _ _ _ h => h
    try simp only [Act.put, List.setIfInBounds_toArray, List.set_cons_zero, List.set_cons_succ]
    refine held_skip (i := 13) (fuel := 13) (by rw [List.getElem?_toArray]; rfl) (by kernel_rfl) (by kernel_rfl) (by kernel_rfl) hHeld ?_ ?_ ?_
    · rfl
    · exact fun _ _ _ h => h
    try simp only [Act.put, List.setIfInBounds_toArray, List.set_cons_zero, List.set_cons_succ]
    refine held_skip (i := 14) (fuel := 12) (by rw [List.getElem?_toArray]; rfl) (by kernel_rfl) (by kernel_rfl) (by kernel_rfl) hHeld ?_ ?_ ?_
    · rfl
    · exact fun _ _ _ h => h
    try simp only [Act.put, List.setIfInBounds_toArray, List.set_cons_zero, List.set_cons_succ]
    refine held_skip (i := 15) (fuel := 11) (by rw [List.getElem?_toArray]; rfl) (by kernel_rfl) (by kernel_rfl) (by kernel_rfl) hHeld ?_ ?_ ?_
    · rfl
    · exact fun _ _ _ h => h
    try simp only [Act.put, List.setIfInBounds_toArray, List.set_cons_zero, List.set_cons_succ]
    refine held_skip (i := 16) (fuel := 10) (by rw [List.getElem?_toArray]; rfl) (by kernel_rfl) (by kernel_rfl) (by kernel_rfl) hHeld ?_ ?_ ?_
    · rfl
    · exact fun _ _ _ h => h
    try simp only [Act.put, List.setIfInBounds_toArray, List.set_cons_zero, List.set_cons_succ]
    refine held_skip (i := 17) (fuel := 9) (by rw [List.getElem?_toArray]; rfl) (by kernel_rfl) (by kernel_rfl) (by kernel_rfl) hHeld ?_ ?_ ?_
    · rfl
    · exact fun _ _ _ h => h
    try simp only [Act.put, List.setIfInBounds_toArray, List.set_cons_zero, List.set_cons_succ]
    refine held_take (i := 18) (fuel := 8) (v := ?_) (by rw [List.getElem?_toArray]; rfl) (by kernel_rfl) (by kernel_rfl) (by kernel_rfl) hHeld ?_ ?_ ?_ ?_
    rotate_left
    · intro u hSw
      go_simp
      try with_reducible rfl
    · rfl
    · exact fun _ _ _ h => h
    try simp only [Act.put, List.setIfInBounds_toArray, List.set_cons_zero, List.set_cons_succ]
    refine held_take (i := 19) (fuel := 7) (v := ?_) (by rw [List.getElem?_toArray]; rfl) (by kernel_rfl) (by kernel_rfl) (by kernel_rfl) hHeld ?_ ?_ ?_ ?_
    rotate_left
    · intro u hSw
      go_simp
      try with_reducible rfl
    · rfl
    · exact fun _ _ _ h => h
    try simp only [Act.put, List.setIfInBounds_toArray, List.set_cons_zero, List.set_cons_succ]
    refine held_skip (i := 20) (fuel := 6) (by rw [List.getElem?_toArray]; rfl) (by kernel_rfl) (by kernel_rfl) (by kernel_rfl) hHeld ?_ ?_ ?_
    · rfl
    · exact fun _ _ _ h => h
    try simp only [Act.put, List.setIfInBounds_toArray, List.set_cons_zero, List.set_cons_succ]
    refine held_skip (i := 21) (fuel := 5) (by rw [List.getElem?_toArray]; rfl) (by kernel_rfl) (by kernel_rfl) (by kernel_rfl) hHeld ?_ ?_ ?_
    · rfl
    · exact fun _ _ _ h => h
    try simp only [Act.put, List.setIfInBounds_toArray, List.set_cons_zero, List.set_cons_succ]
    refine held_skip (i := 22) (fuel := 4) (by rw [List.getElem?_toArray]; rfl) (by kernel_rfl) (by kernel_rfl) (by kernel_rfl) hHeld ?_ ?_ ?_
    · rfl
    · exact fun _ _ _ h => h
    try simp only [Act.put, List.setIfInBounds_toArray, List.set_cons_zero, List.set_cons_succ]
    refine held_skip (i := 23) (fuel := 3) (by rw [List.getElem?_toArray]; rfl) (by kernel_rfl) (by kernel_rfl) (by kernel_rfl) hHeld ?_ ?_ ?_
    · rfl
    · exact fun _ _ _ h => h
    try simp only [Act.put, List.setIfInBounds_toArray, List.set_cons_zero, List.set_cons_succ]
    refine held_skip (i := 24) (fuel := 2) (by rw [List.getElem?_toArray]; rfl) (by kernel_rfl) (by kernel_rfl) (by kernel_rfl) hHeld ?_ ?_ ?_
    · rfl
    · exact fun _ _ _ h => h
    try simp only [Act.put, List.setIfInBounds_toArray, List.set_cons_zero, List.set_cons_succ]
    refine held_take (i := 25) (fuel := 1) (v := ?_) (by rw [List.getElem?_toArray]; rfl) (by kernel_rfl) (by kernel_rfl) (by kernel_rfl) hHeld ?_ ?_ ?_ ?_
    rotate_left
    · intro u hSw
      go_simp
      try with_reducible rfl
    · rfl
    · exact fun _ _ _ h => h
    try simp only [Act.put, List.setIfInBounds_toArray, List.set_cons_zero, List.set_cons_succ]
    refine held_take (i := 26) (fuel := 0) (v := ?_) (by rw [List.getElem?_toArray]; rfl) (by kernel_rfl) (by kernel_rfl) (by kernel_rfl) hHeld ?_ ?_ ?_ ?_
    rotate_left
    · intro u hSw
      go_simp
      try with_reducible rfl
    · rfl
    · exact fun _ _ _ h => h
    try simp only [Act.put, List.setIfInBounds_toArray, List.set_cons_zero, List.set_cons_succ]
    refine wpAnyH_done (by kernel_rfl) ?_ _
    have HF := Lib.hid (HBW.out.trans (hHeld.mono HBW.out.size))
    go_wp2_with fail
    go_ret
    rw [HRES.out]
    exact ⟨rfl, HF.out⟩
  | true =>
    cases r with
    | false =>
      have HRES : Hid ((true && false && r1 && r2) = false) := Lib.hid (by simp)
      go_enter Try.func37, Try.ntmps37
      go_wp2_with fail
      rw [← hW]
      clear hW
      refine wp_region_held_drew (S := Below W.heap.size W) (by kernel_rfl) (Below.refl _ _).drew (fun hHeld => ?_)
      refine held_take (i := 0) (fuel := 26) (v := ?_) (by rw [List.getElem?_toArray]; rfl) (by kernel_rfl) (by kernel_rfl) (by kernel_rfl) hHeld ?_ ?_ ?_ ?_
      rotate_left
      · intro u hSw
        obtain ⟨c0, c1, c2, c3, c4, c5⟩ := hcx.out u hSw
        go_simp
        try with_reducible rfl
      · rfl
      · exact fun _ _ _ h => h
      try simp only [Act.put, List.setIfInBounds_toArray, List.set_cons_zero, List.set_cons_succ]
      refine held_take (i := 2) (fuel := 25) (v := ?_) (by rw [List.getElem?_toArray]; rfl) (by kernel_rfl) (by kernel_rfl) (by kernel_rfl) hHeld ?_ ?_ ?_ ?_
      rotate_left
      · intro u hSw
        obtain ⟨c0, c1, c2, c3, c4, c5⟩ := hcy.out u hSw
        go_simp
        try with_reducible rfl
      · rfl
      · exact fun _ _ _ h => h
      try simp only [Act.put, List.setIfInBounds_toArray, List.set_cons_zero, List.set_cons_succ]
      refine held_one (i := 1) (fuel := 24) (by kernel_rfl) (by rw [List.getElem?_toArray]; rfl) (fun K hK => ?_)
      go_simp
      refine (tstmtFields_any (.mk xk xm xs xA xn xc' xes xA1 xn1 xc1 xbo xA2 xn2 xc2 xel) _).mono ?_
      rintro f w3 ⟨rfl, hb3⟩
      refine hK.out _ _ ?_ (fun hHeld => ?_)
      · exact hHeld.trans (hb3.mono hHeld.size)
      clear hK K
      try simp only [Act.put, List.setIfInBounds_toArray, List.set_cons_zero, List.set_cons_succ]
      refine held_one (i := 3) (fuel := 23) (by kernel_rfl) (by rw [List.getElem?_toArray]; rfl) (fun K hK => ?_)
      go_simp
      refine (tstmtFields_any (.mk yk ym ys yA yn yc' yes yA1 yn1 yc1 ybo yA2 yn2 yc2 yel) _).mono ?_
      rintro f w4 ⟨rfl, hb4⟩
      refine hK.out _ _ ?_ (fun hHeld => ?_)
      · exact hHeld.trans (hb4.mono hHeld.size)
      clear hK K
      try simp only [Act.put, List.setIfInBounds_toArray, List.set_cons_zero, List.set_cons_succ]
      refine held_take (i := 4) (fuel := 22) (v := ?_) (by rw [List.getElem?_toArray]; rfl) (by kernel_rfl) (by kernel_rfl) (by kernel_rfl) hHeld ?_ ?_ ?_ ?_
      rotate_left
      · intro u hSw
        go_simp
        try with_reducible rfl
      · rfl
      · exact fun _ _ _ h => h
      try simp only [Act.put, List.setIfInBounds_toArray, List.set_cons_zero, List.set_cons_succ]
      refine held_take (i := 5) (fuel := 21) (v := ?_) (by rw [List.getElem?_toArray]; rfl) (by kernel_rfl) (by kernel_rfl) (by kernel_rfl) hHeld ?_ ?_ ?_ ?_
      rotate_left
      · intro u hSw
        go_simp
        try with_reducible rfl
      · rfl
      · exact fun _ _ _ h => h
      try simp only [Act.put, List.setIfInBounds_toArray, List.set_cons_zero, List.set_cons_succ]
      refine held_take (i := 6) (fuel := 20) (v := ?_) (by rw [List.getElem?_toArray]; rfl) (by kernel_rfl) (by kernel_rfl) (by kernel_rfl) hHeld ?_ ?_ ?_ ?_
      rotate_left
      · intro u hSw
        go_simp
        try with_reducible rfl
      · rfl
      · exact fun _ _ _ h => h
      try simp only [Act.put, List.setIfInBounds_toArray, List.set_cons_zero, List.set_cons_succ]
      refine held_take (i := 7) (fuel := 19) (v := ?_) (by rw [List.getElem?_toArray]; rfl) (by kernel_rfl) (by kernel_rfl) (by kernel_rfl) hHeld ?_ ?_ ?_ ?_
      rotate_left
      · intro u hSw
        obtain ⟨c0, c1, c2, c3, c4, c5⟩ := hcx.out u hSw
        go_simp
        try with_reducible rfl
      · rfl
      · exact fun _ _ _ h => h
      try simp only [Act.put, List.setIfInBounds_toArray, List.set_cons_zero, List.set_cons_succ]
      refine held_take (i := 8) (fuel := 18) (v := ?_) (by rw [List.getElem?_toArray]; rfl) (by kernel_rfl) (by kernel_rfl) (by kernel_rfl) hHeld ?_ ?_ ?_ ?_
      rotate_left
      · intro u hSw
        go_simp
        try with_reducible rfl
      · rfl
      · exact fun _ _ _ h => h
      try simp only [Act.put, List.setIfInBounds_toArray, List.set_cons_zero, List.set_cons_succ]
      refine held_take (i := 9) (fuel := 17) (v := ?_) (by rw [List.getElem?_toArray]; rfl) (by kernel_rfl) (by kernel_rfl) (by kernel_rfl) hHeld ?_ ?_ ?_ ?_
      rotate_left
      · intro u hSw
        obtain ⟨c0, c1, c2, c3, c4, c5⟩ := hcy.out u hSw
        go_simp
        try with_reducible rfl
      · rfl
      · exact fun _ _ _ h => h
      try simp only [Act.put, List.setIfInBounds_toArray, List.set_cons_zero, List.set_cons_succ]
      refine held_one (i := 10) (fuel := 16) (by kernel_rfl) (by rw [List.getElem?_toArray]; rfl) (fun K hK => ?_)
      go_simp
      refine (HARGS.out _ (HBW.out.trans (hHeld.mono HBW.out.size))).mono ?_
      rintro f w5 ⟨rfl, hb5⟩
      refine hK.out _ _ ?_ (fun hHeld => ?_)
      · exact hHeld.trans (hb5.mono hHeld.size)
      clear hK K
      try simp only [Act.put, List.setIfInBounds_toArray, List.set_cons_zero, List.set_cons_succ]
      refine held_take (i := 11) (fuel := 15) (v := ?_) (by rw [List.getElem?_toArray]; rfl) (by kernel_rfl) (by kernel_rfl) (by kernel_rfl) hHeld ?_ ?_ ?_ ?_
      rotate_left
      · intro u hSw
        go_simp
        try with_reducible rfl
      · rfl
      · exact fun _ _ _ h => h
      try simp only [Act.put, List.setIfInBounds_toArray, List.set_cons_zero, List.set_cons_succ]
      refine held_take (i := 12) (fuel := 14) (v := ?_) (by rw [List.getElem?_toArray]; rfl) (by kernel_rfl) (by kernel_rfl) (by kernel_rfl) hHeld ?_ ?_ ?_ ?_
      rotate_left
      · intro u hSw
        go_simp
        try with_reducible rfl
      · rfl
      · exact fun _ _ _ h => h
      try simp only [Act.put, List.setIfInBounds_toArray, List.set_cons_zero, List.set_cons_succ]
      refine held_skip (i := 13) (fuel := 13) (by rw [List.getElem?_toArray]; rfl) (by kernel_rfl) (by kernel_rfl) (by kernel_rfl) hHeld ?_ ?_ ?_
      · rfl
      · exact fun _ _ _ h => h
      try simp only [Act.put, List.setIfInBounds_toArray, List.set_cons_zero, List.set_cons_succ]
      refine held_skip (i := 14) (fuel := 12) (by rw [List.getElem?_toArray]; rfl) (by kernel_rfl) (by kernel_rfl) (by kernel_rfl) hHeld ?_ ?_ ?_
      · rfl
      · exact fun _ _ _ h => h
      try simp only [Act.put, List.setIfInBounds_toArray, List.set_cons_zero, List.set_cons_succ]
      refine held_skip (i := 15) (fuel := 11) (by rw [List.getElem?_toArray]; rfl) (by kernel_rfl) (by kernel_rfl) (by kernel_rfl) hHeld ?_ ?_ ?_
      · rfl
      · exact fun _ _ _ h => h
      try simp only [Act.put, List.setIfInBounds_toArray, List.set_cons_zero, List.set_cons_succ]
      refine held_skip (i := 16) (fuel := 10) (by rw [List.getElem?_toArray]; rfl) (by kernel_rfl) (by kernel_rfl) (by kernel_rfl) hHeld ?_ ?_ ?_
      · rfl
      · exact fun _ _ _ h => h
      try simp only [Act.put, List.setIfInBounds_toArray, List.set_cons_zero, List.set_cons_succ]
      refine held_skip (i := 17) (fuel := 9) (by rw [List.getElem?_toArray]; rfl) (by kernel_rfl) (by kernel_rfl) (by kernel_rfl) hHeld ?_ ?_ ?_
      · rfl
      · exact fun _ _ _ h => h
      try simp only [Act.put, List.setIfInBounds_toArray, List.set_cons_zero, List.set_cons_succ]
      refine held_take (i := 18) (fuel := 8) (v := ?_) (by rw [List.getElem?_toArray]; rfl) (by kernel_rfl) (by kernel_rfl) (by kernel_rfl) hHeld ?_ ?_ ?_ ?_
      rotate_left
      · intro u hSw
        go_simp
        try with_reducible rfl
      · rfl
      · exact fun _ _ _ h => h
      try simp only [Act.put, List.setIfInBounds_toArray, List.set_cons_zero, List.set_cons_succ]
      refine held_take (i := 19) (fuel := 7) (v := ?_) (by rw [List.getElem?_toArray]; rfl) (by kernel_rfl) (by kernel_rfl) (by kernel_rfl) hHeld ?_ ?_ ?_ ?_
      rotate_left
      · intro u hSw
        go_simp
        try with_reducible rfl
      · rfl
      · exact fun _ _ _ h => h
      try simp only [Act.put, List.setIfInBounds_toArray, List.set_cons_zero, List.set_cons_succ]
      refine held_skip (i := 20) (fuel := 6) (by rw [List.getElem?_toArray]; rfl) (by kernel_rfl) (by kernel_rfl) (by kernel_rfl) hHeld ?_ ?_ ?_
      · rfl
      · exact fun _ _ _ h => h
      try simp only [Act.put, List.setIfInBounds_toArray, List.set_cons_zero, List.set_cons_succ]
      refine held_skip (i := 21) (fuel := 5) (by rw [List.getElem?_toArray]; rfl) (by kernel_rfl) (by kernel_rfl) (by kernel_rfl) hHeld ?_ ?_ ?_
      · rfl
      · exact fun _ _ _ h => h
      try simp only [Act.put, List.setIfInBounds_toArray, List.set_cons_zero, List.set_cons_succ]
      refine held_skip (i := 22) (fuel := 4) (by rw [List.getElem?_toArray]; rfl) (by kernel_rfl) (by kernel_rfl) (by kernel_rfl) hHeld ?_ ?_ ?_
      · rfl
      · exact fun _ _ _ h => h
      try simp only [Act.put, List.setIfInBounds_toArray, List.set_cons_zero, List.set_cons_succ]
      refine held_skip (i := 23) (fuel := 3) (by rw [List.getElem?_toArray]; rfl) (by kernel_rfl) (by kernel_rfl) (by kernel_rfl) hHeld ?_ ?_ ?_
      · rfl
      · exact fun _ _ _ h => h
      try simp only [Act.put, List.setIfInBounds_toArray, List.set_cons_zero, List.set_cons_succ]
      refine held_skip (i := 24) (fuel := 2) (by rw [List.getElem?_toArray]; rfl) (by kernel_rfl) (by kernel_rfl) (by kernel_rfl) hHeld ?_ ?_ ?_
      · rfl
      · exact fun _ _ _ h => h
      try simp only [Act.put, List.setIfInBounds_toArray, List.set_cons_zero, List.set_cons_succ]
      refine held_take (i := 25) (fuel := 1) (v := ?_) (by rw [List.getElem?_toArray]; rfl) (by kernel_rfl) (by kernel_rfl) (by kernel_rfl) hHeld ?_ ?_ ?_ ?_
      rotate_left
      · intro u hSw
        go_simp
        try with_reducible rfl
      · rfl
      · exact fun _ _ _ h => h
      try simp only [Act.put, List.setIfInBounds_toArray, List.set_cons_zero, List.set_cons_succ]
      refine held_take (i := 26) (fuel := 0) (v := ?_) (by rw [List.getElem?_toArray]; rfl) (by kernel_rfl) (by kernel_rfl) (by kernel_rfl) hHeld ?_ ?_ ?_ ?_
      rotate_left
      · intro u hSw
        go_simp
        try with_reducible rfl
      · rfl
      · exact fun _ _ _ h => h
      try simp only [Act.put, List.setIfInBounds_toArray, List.set_cons_zero, List.set_cons_succ]
      refine wpAnyH_done (by kernel_rfl) ?_ _
      have HF := Lib.hid (HBW.out.trans (hHeld.mono HBW.out.size))
      go_wp2_with fail
      go_ret
      rw [HRES.out]
      exact ⟨rfl, HF.out⟩
    | true =>
      cases r1 with
      | false =>
        have HRES : Hid ((true && true && false && r2) = false) := Lib.hid (by simp)
        go_enter Try.func37, Try.ntmps37
        go_wp2_with fail
        rw [← hW]
        clear hW
        refine wp_region_held_drew (S := Below W.heap.size W) (by kernel_rfl) (Below.refl _ _).drew (fun hHeld => ?_)
        refine held_take (i := 0) (fuel := 26) (v := ?_) (by rw [List.getElem?_toArray]; rfl) (by kernel_rfl) (by kernel_rfl) (by kernel_rfl) hHeld ?_ ?_ ?_ ?_
        rotate_left
        · intro u hSw
          obtain ⟨c0, c1, c2, c3, c4, c5⟩ := hcx.out u hSw
          go_simp
          try with_reducible rfl
        · rfl
        · exact fun _ _ _ h => h
        try simp only [Act.put, List.setIfInBounds_toArray, List.set_cons_zero, List.set_cons_succ]
        refine held_take (i := 2) (fuel := 25) (v := ?_) (by rw [List.getElem?_toArray]; rfl) (by kernel_rfl) (by kernel_rfl) (by kernel_rfl) hHeld ?_ ?_ ?_ ?_
        rotate_left
        · intro u hSw
          obtain ⟨c0, c1, c2, c3, c4, c5⟩ := hcy.out u hSw
          go_simp
          try with_reducible rfl
        · rfl
        · exact fun _ _ _ h => h
        try simp only [Act.put, List.setIfInBounds_toArray, List.set_cons_zero, List.set_cons_succ]
        refine held_one (i := 1) (fuel := 24) (by kernel_rfl) (by rw [List.getElem?_toArray]; rfl) (fun K hK => ?_)
        go_simp
        refine (tstmtFields_any (.mk xk xm xs xA xn xc' xes xA1 xn1 xc1 xbo xA2 xn2 xc2 xel) _).mono ?_
        rintro f w3 ⟨rfl, hb3⟩
        refine hK.out _ _ ?_ (fun hHeld => ?_)
        · exact hHeld.trans (hb3.mono hHeld.size)
        clear hK K
        try simp only [Act.put, List.setIfInBounds_toArray, List.set_cons_zero, List.set_cons_succ]
        refine held_one (i := 3) (fuel := 23) (by kernel_rfl) (by rw [List.getElem?_toArray]; rfl) (fun K hK => ?_)
        go_simp
        refine (tstmtFields_any (.mk yk ym ys yA yn yc' yes yA1 yn1 yc1 ybo yA2 yn2 yc2 yel) _).mono ?_
        rintro f w4 ⟨rfl, hb4⟩
        refine hK.out _ _ ?_ (fun hHeld => ?_)
        · exact hHeld.trans (hb4.mono hHeld.size)
        clear hK K
        try simp only [Act.put, List.setIfInBounds_toArray, List.set_cons_zero, List.set_cons_succ]
        refine held_take (i := 4) (fuel := 22) (v := ?_) (by rw [List.getElem?_toArray]; rfl) (by kernel_rfl) (by kernel_rfl) (by kernel_rfl) hHeld ?_ ?_ ?_ ?_
        rotate_left
        · intro u hSw
          go_simp
          try with_reducible rfl
        · rfl
        · exact fun _ _ _ h => h
        try simp only [Act.put, List.setIfInBounds_toArray, List.set_cons_zero, List.set_cons_succ]
        refine held_take (i := 5) (fuel := 21) (v := ?_) (by rw [List.getElem?_toArray]; rfl) (by kernel_rfl) (by kernel_rfl) (by kernel_rfl) hHeld ?_ ?_ ?_ ?_
        rotate_left
        · intro u hSw
          go_simp
          try with_reducible rfl
        · rfl
        · exact fun _ _ _ h => h
        try simp only [Act.put, List.setIfInBounds_toArray, List.set_cons_zero, List.set_cons_succ]
        refine held_take (i := 6) (fuel := 20) (v := ?_) (by rw [List.getElem?_toArray]; rfl) (by kernel_rfl) (by kernel_rfl) (by kernel_rfl) hHeld ?_ ?_ ?_ ?_
        rotate_left
        · intro u hSw
          go_simp
          try with_reducible rfl
        · rfl
        · exact fun _ _ _ h => h
        try simp only [Act.put, List.setIfInBounds_toArray, List.set_cons_zero, List.set_cons_succ]
        refine held_take (i := 7) (fuel := 19) (v := ?_) (by rw [List.getElem?_toArray]; rfl) (by kernel_rfl) (by kernel_rfl) (by kernel_rfl) hHeld ?_ ?_ ?_ ?_
        rotate_left
        · intro u hSw
          obtain ⟨c0, c1, c2, c3, c4, c5⟩ := hcx.out u hSw
          go_simp
          try with_reducible rfl
        · rfl
        · exact fun _ _ _ h => h
        try simp only [Act.put, List.setIfInBounds_toArray, List.set_cons_zero, List.set_cons_succ]
        refine held_take (i := 8) (fuel := 18) (v := ?_) (by rw [List.getElem?_toArray]; rfl) (by kernel_rfl) (by kernel_rfl) (by kernel_rfl) hHeld ?_ ?_ ?_ ?_
        rotate_left
        · intro u hSw
          go_simp
          try with_reducible rfl
        · rfl
        · exact fun _ _ _ h => h
        try simp only [Act.put, List.setIfInBounds_toArray, List.set_cons_zero, List.set_cons_succ]
        refine held_take (i := 9) (fuel := 17) (v := ?_) (by rw [List.getElem?_toArray]; rfl) (by kernel_rfl) (by kernel_rfl) (by kernel_rfl) hHeld ?_ ?_ ?_ ?_
        rotate_left
        · intro u hSw
          obtain ⟨c0, c1, c2, c3, c4, c5⟩ := hcy.out u hSw
          go_simp
          try with_reducible rfl
        · rfl
        · exact fun _ _ _ h => h
        try simp only [Act.put, List.setIfInBounds_toArray, List.set_cons_zero, List.set_cons_succ]
        refine held_one (i := 10) (fuel := 16) (by kernel_rfl) (by rw [List.getElem?_toArray]; rfl) (fun K hK => ?_)
        go_simp
        refine (HARGS.out _ (HBW.out.trans (hHeld.mono HBW.out.size))).mono ?_
        rintro f w5 ⟨rfl, hb5⟩
        refine hK.out _ _ ?_ (fun hHeld => ?_)
        · exact hHeld.trans (hb5.mono hHeld.size)
        clear hK K
        try simp only [Act.put, List.setIfInBounds_toArray, List.set_cons_zero, List.set_cons_succ]
        refine held_take (i := 11) (fuel := 15) (v := ?_) (by rw [List.getElem?_toArray]; rfl) (by kernel_rfl) (by kernel_rfl) (by kernel_rfl) hHeld ?_ ?_ ?_ ?_
        rotate_left
        · intro u hSw
          go_simp
          try with_reducible rfl
        · rfl
        · exact fun _ _ _ h => h
        try simp only [Act.put, List.setIfInBounds_toArray, List.set_cons_zero, List.set_cons_succ]
        refine held_take (i := 12) (fuel := 14) (v := ?_) (by rw [List.getElem?_toArray]; rfl) (by kernel_rfl) (by kernel_rfl) (by kernel_rfl) hHeld ?_ ?_ ?_ ?_
        rotate_left
        · intro u hSw
          go_simp
          try with_reducible rfl
        · rfl
        · exact fun _ _ _ h => h
        try simp only [Act.put, List.setIfInBounds_toArray, List.set_cons_zero, List.set_cons_succ]
        refine held_take (i := 13) (fuel := 13) (v := ?_) (by rw [List.getElem?_toArray]; rfl) (by kernel_rfl) (by kernel_rfl) (by kernel_rfl) hHeld ?_ ?_ ?_ ?_
        rotate_left
        · intro u hSw
          go_simp
          try with_reducible rfl
        · rfl
        · exact fun _ _ _ h => h
        try simp only [Act.put, List.setIfInBounds_toArray, List.set_cons_zero, List.set_cons_succ]
        refine held_take (i := 14) (fuel := 12) (v := ?_) (by rw [List.getElem?_toArray]; rfl) (by kernel_rfl) (by kernel_rfl) (by kernel_rfl) hHeld ?_ ?_ ?_ ?_
        rotate_left
        · intro u hSw
          obtain ⟨c0, c1, c2, c3, c4, c5⟩ := hcx.out u hSw
          go_simp
          try with_reducible rfl
        · rfl
        · exact fun _ _ _ h => h
        try simp only [Act.put, List.setIfInBounds_toArray, List.set_cons_zero, List.set_cons_succ]
        refine held_take (i := 15) (fuel := 11) (v := ?_) (by rw [List.getElem?_toArray]; rfl) (by kernel_rfl) (by kernel_rfl) (by kernel_rfl) hHeld ?_ ?_ ?_ ?_
        rotate_left
        · intro u hSw
          go_simp
          try with_reducible rfl
        · rfl
        · exact fun _ _ _ h => h
        try simp only [Act.put, List.setIfInBounds_toArray, List.set_cons_zero, List.set_cons_succ]
        refine held_take (i := 16) (fuel := 10) (v := ?_) (by rw [List.getElem?_toArray]; rfl) (by kernel_rfl) (by kernel_rfl) (by kernel_rfl) hHeld ?_ ?_ ?_ ?_
        rotate_left
        · intro u hSw
          obtain ⟨c0, c1, c2, c3, c4, c5⟩ := hcy.out u hSw
          go_simp
          try with_reducible rfl
        · rfl
        · exact fun _ _ _ h => h
        try simp only [Act.put, List.setIfInBounds_toArray, List.set_cons_zero, List.set_cons_succ]
        refine held_one (i := 17) (fuel := 9) (by kernel_rfl) (by rw [List.getElem?_toArray]; rfl) (fun K hK => ?_)
        go_simp
        refine (HBODY.out _ (HBW.out.trans (hHeld.mono HBW.out.size))).mono ?_
        rintro f w6 ⟨rfl, hb6⟩
        refine hK.out _ _ ?_ (fun hHeld => ?_)
        · exact hHeld.trans (hb6.mono hHeld.size)
        clear hK K
        try simp only [Act.put, List.setIfInBounds_toArray, List.set_cons_zero, List.set_cons_succ]
        refine held_take (i := 18) (fuel := 8) (v := ?_) (by rw [List.getElem?_toArray]; rfl) (by kernel_rfl) (by kernel_rfl) (by kernel_rfl) hHeld ?_ ?_ ?_ ?_
        rotate_left
        · intro u hSw
          go_simp
          try with_reducible rfl
        · rfl
        · exact fun _ _ _ h => h
        try simp only [Act.put, List.setIfInBounds_toArray, List.set_cons_zero, List.set_cons_succ]
        refine held_take (i := 19) (fuel := 7) (v := ?_) (by rw [List.getElem?_toArray]; rfl) (by kernel_rfl) (by kernel_rfl) (by kernel_rfl) hHeld ?_ ?_ ?_ ?_
        rotate_left
        · intro u hSw
          go_simp
          try with_reducible rfl
        · rfl
        · exact fun _ _ _ h => h
        try simp only [Act.put, List.setIfInBounds_toArray, List.set_cons_zero, List.set_cons_succ]
        refine held_skip (i := 20) (fuel := 6) (by rw [List.getElem?_toArray]; rfl) (by kernel_rfl) (by kernel_rfl) (by kernel_rfl) hHeld ?_ ?_ ?_
        · rfl
        · exact fun _ _ _ h => h
        try simp only [Act.put, List.setIfInBounds_toArray, List.set_cons_zero, List.set_cons_succ]
        refine held_skip (i := 21) (fuel := 5) (by rw [List.getElem?_toArray]; rfl) (by kernel_rfl) (by kernel_rfl) (by kernel_rfl) hHeld ?_ ?_ ?_
        · rfl
        · exact fun _ _ _ h => h
        try simp only [Act.put, List.setIfInBounds_toArray, List.set_cons_zero, List.set_cons_succ]
        refine held_skip (i := 22) (fuel := 4) (by rw [List.getElem?_toArray]; rfl) (by kernel_rfl) (by kernel_rfl) (by kernel_rfl) hHeld ?_ ?_ ?_
        · rfl
        · exact fun _ _ _ h => h
        try simp only [Act.put, List.setIfInBounds_toArray, List.set_cons_zero, List.set_cons_succ]
        refine held_skip (i := 23) (fuel := 3) (by rw [List.getElem?_toArray]; rfl) (by kernel_rfl) (by kernel_rfl) (by kernel_rfl) hHeld ?_ ?_ ?_
        · rfl
        · exact fun _ _ _ h => h
        try simp only [Act.put, List.setIfInBounds_toArray, List.set_cons_zero, List.set_cons_succ]
        refine held_skip (i := 24) (fuel := 2) (by rw [List.getElem?_toArray]; rfl) (by kernel_rfl) (by kernel_rfl) (by kernel_rfl) hHeld ?_ ?_ ?_
        · rfl
        · exact fun _ _ _ h => h
        try simp only [Act.put, List.setIfInBounds_toArray, List.set_cons_zero, List.set_cons_succ]
        refine held_take (i := 25) (fuel := 1) (v := ?_) (by rw [List.getElem?_toArray]; rfl) (by kernel_rfl) (by kernel_rfl) (by kernel_rfl) hHeld ?_ ?_ ?_ ?_
        rotate_left
        · intro u hSw
          go_simp
          try with_reducible rfl
        · rfl
        · exact fun _ _ _ h => h
        try simp only [Act.put, List.setIfInBounds_toArray, List.set_cons_zero, List.set_cons_succ]
        refine held_take (i := 26) (fuel := 0) (v := ?_) (by rw [List.getElem?_toArray]; rfl) (by kernel_rfl) (by kernel_rfl) (by kernel_rfl) hHeld ?_ ?_ ?_ ?_
        rotate_left
        · intro u hSw
          go_simp
          try with_reducible rfl
        · rfl
        · exact fun _ _ _ h => h
        try simp only [Act.put, List.setIfInBounds_toArray, List.set_cons_zero, List.set_cons_succ]
        refine wpAnyH_done (by kernel_rfl) ?_ _
        have HF := Lib.hid (HBW.out.trans (hHeld.mono HBW.out.size))
        go_wp2_with fail
        go_ret
        rw [HRES.out]
        exact ⟨rfl, HF.out⟩
      | true =>
        have HRES : Hid ((true && true && true && r2) = r2) := Lib.hid (by simp)
        go_enter Try.func37, Try.ntmps37
        go_wp2_with fail
        rw [← hW]
        clear hW
        refine wp_region_held_drew (S := Below W.heap.size W) (by kernel_rfl) (Below.refl _ _).drew (fun hHeld => ?_)
        refine held_take (i := 0) (fuel := 26) (v := ?_) (by rw [List.getElem?_toArray]; rfl) (by kernel_rfl) (by kernel_rfl) (by kernel_rfl) hHeld ?_ ?_ ?_ ?_
        rotate_left
        · intro u hSw
          obtain ⟨c0, c1, c2, c3, c4, c5⟩ := hcx.out u hSw
          go_simp
          try with_reducible rfl
        · rfl
        · exact fun _ _ _ h => h
        try simp only [Act.put, List.setIfInBounds_toArray, List.set_cons_zero, List.set_cons_succ]
        refine held_take (i := 2) (fuel := 25) (v := ?_) (by rw [List.getElem?_toArray]; rfl) (by kernel_rfl) (by kernel_rfl) (by kernel_rfl) hHeld ?_ ?_ ?_ ?_
        rotate_left
        · intro u hSw
          obtain ⟨c0, c1, c2, c3, c4, c5⟩ := hcy.out u hSw
          go_simp
          try with_reducible rfl
        · rfl
        · exact fun _ _ _ h => h
        try simp only [Act.put, List.setIfInBounds_toArray, List.set_cons_zero, List.set_cons_succ]
        refine held_one (i := 1) (fuel := 24) (by kernel_rfl) (by rw [List.getElem?_toArray]; rfl) (fun K hK => ?_)
        go_simp
        refine (tstmtFields_any (.mk xk xm xs xA xn xc' xes xA1 xn1 xc1 xbo xA2 xn2 xc2 xel) _).mono ?_
        rintro f w3 ⟨rfl, hb3⟩
        refine hK.out _ _ ?_ (fun hHeld => ?_)
        · exact hHeld.trans (hb3.mono hHeld.size)
        clear hK K
        try simp only [Act.put, List.setIfInBounds_toArray, List.set_cons_zero, List.set_cons_succ]
        refine held_one (i := 3) (fuel := 23) (by kernel_rfl) (by rw [List.getElem?_toArray]; rfl) (fun K hK => ?_)
        go_simp
        refine (tstmtFields_any (.mk yk ym ys yA yn yc' yes yA1 yn1 yc1 ybo yA2 yn2 yc2 yel) _).mono ?_
        rintro f w4 ⟨rfl, hb4⟩
        refine hK.out _ _ ?_ (fun hHeld => ?_)
        · exact hHeld.trans (hb4.mono hHeld.size)
        clear hK K
        try simp only [Act.put, List.setIfInBounds_toArray, List.set_cons_zero, List.set_cons_succ]
        refine held_take (i := 4) (fuel := 22) (v := ?_) (by rw [List.getElem?_toArray]; rfl) (by kernel_rfl) (by kernel_rfl) (by kernel_rfl) hHeld ?_ ?_ ?_ ?_
        rotate_left
        · intro u hSw
          go_simp
          try with_reducible rfl
        · rfl
        · exact fun _ _ _ h => h
        try simp only [Act.put, List.setIfInBounds_toArray, List.set_cons_zero, List.set_cons_succ]
        refine held_take (i := 5) (fuel := 21) (v := ?_) (by rw [List.getElem?_toArray]; rfl) (by kernel_rfl) (by kernel_rfl) (by kernel_rfl) hHeld ?_ ?_ ?_ ?_
        rotate_left
        · intro u hSw
          go_simp
          try with_reducible rfl
        · rfl
        · exact fun _ _ _ h => h
        try simp only [Act.put, List.setIfInBounds_toArray, List.set_cons_zero, List.set_cons_succ]
        refine held_take (i := 6) (fuel := 20) (v := ?_) (by rw [List.getElem?_toArray]; rfl) (by kernel_rfl) (by kernel_rfl) (by kernel_rfl) hHeld ?_ ?_ ?_ ?_
        rotate_left
        · intro u hSw
          go_simp
          try with_reducible rfl
        · rfl
        · exact fun _ _ _ h => h
        try simp only [Act.put, List.setIfInBounds_toArray, List.set_cons_zero, List.set_cons_succ]
        refine held_take (i := 7) (fuel := 19) (v := ?_) (by rw [List.getElem?_toArray]; rfl) (by kernel_rfl) (by kernel_rfl) (by kernel_rfl) hHeld ?_ ?_ ?_ ?_
        rotate_left
        · intro u hSw
          obtain ⟨c0, c1, c2, c3, c4, c5⟩ := hcx.out u hSw
          go_simp
          try with_reducible rfl
        · rfl
        · exact fun _ _ _ h => h
        try simp only [Act.put, List.setIfInBounds_toArray, List.set_cons_zero, List.set_cons_succ]
        refine held_take (i := 8) (fuel := 18) (v := ?_) (by rw [List.getElem?_toArray]; rfl) (by kernel_rfl) (by kernel_rfl) (by kernel_rfl) hHeld ?_ ?_ ?_ ?_
        rotate_left
        · intro u hSw
          go_simp
          try with_reducible rfl
        · rfl
        · exact fun _ _ _ h => h
        try simp only [Act.put, List.setIfInBounds_toArray, List.set_cons_zero, List.set_cons_succ]
        refine held_take (i := 9) (fuel := 17) (v := ?_) (by rw [List.getElem?_toArray]; rfl) (by kernel_rfl) (by kernel_rfl) (by kernel_rfl) hHeld ?_ ?_ ?_ ?_
        rotate_left
        · intro u hSw
          obtain ⟨c0, c1, c2, c3, c4, c5⟩ := hcy.out u hSw
          go_simp
          try with_reducible rfl
        · rfl
        · exact fun _ _ _ h => h
        try simp only [Act.put, List.setIfInBounds_toArray, List.set_cons_zero, List.set_cons_succ]
        refine held_one (i := 10) (fuel := 16) (by kernel_rfl) (by rw [List.getElem?_toArray]; rfl) (fun K hK => ?_)
        go_simp
        refine (HARGS.out _ (HBW.out.trans (hHeld.mono HBW.out.size))).mono ?_
        rintro f w5 ⟨rfl, hb5⟩
        refine hK.out _ _ ?_ (fun hHeld => ?_)
        · exact hHeld.trans (hb5.mono hHeld.size)
        clear hK K
        try simp only [Act.put, List.setIfInBounds_toArray, List.set_cons_zero, List.set_cons_succ]
        refine held_take (i := 11) (fuel := 15) (v := ?_) (by rw [List.getElem?_toArray]; rfl) (by kernel_rfl) (by kernel_rfl) (by kernel_rfl) hHeld ?_ ?_ ?_ ?_
        rotate_left
        · intro u hSw
          go_simp
          try with_reducible rfl
        · rfl
        · exact fun _ _ _ h => h
        try simp only [Act.put, List.setIfInBounds_toArray, List.set_cons_zero, List.set_cons_succ]
        refine held_take (i := 12) (fuel := 14) (v := ?_) (by rw [List.getElem?_toArray]; rfl) (by kernel_rfl) (by kernel_rfl) (by kernel_rfl) hHeld ?_ ?_ ?_ ?_
        rotate_left
        · intro u hSw
          go_simp
          try with_reducible rfl
        · rfl
        · exact fun _ _ _ h => h
        try simp only [Act.put, List.setIfInBounds_toArray, List.set_cons_zero, List.set_cons_succ]
        refine held_take (i := 13) (fuel := 13) (v := ?_) (by rw [List.getElem?_toArray]; rfl) (by kernel_rfl) (by kernel_rfl) (by kernel_rfl) hHeld ?_ ?_ ?_ ?_
        rotate_left
        · intro u hSw
          go_simp
          try with_reducible rfl
        · rfl
        · exact fun _ _ _ h => h
        try simp only [Act.put, List.setIfInBounds_toArray, List.set_cons_zero, List.set_cons_succ]
        refine held_take (i := 14) (fuel := 12) (v := ?_) (by rw [List.getElem?_toArray]; rfl) (by kernel_rfl) (by kernel_rfl) (by kernel_rfl) hHeld ?_ ?_ ?_ ?_
        rotate_left
        · intro u hSw
          obtain ⟨c0, c1, c2, c3, c4, c5⟩ := hcx.out u hSw
          go_simp
          try with_reducible rfl
        · rfl
        · exact fun _ _ _ h => h
        try simp only [Act.put, List.setIfInBounds_toArray, List.set_cons_zero, List.set_cons_succ]
        refine held_take (i := 15) (fuel := 11) (v := ?_) (by rw [List.getElem?_toArray]; rfl) (by kernel_rfl) (by kernel_rfl) (by kernel_rfl) hHeld ?_ ?_ ?_ ?_
        rotate_left
        · intro u hSw
          go_simp
          try with_reducible rfl
        · rfl
        · exact fun _ _ _ h => h
        try simp only [Act.put, List.setIfInBounds_toArray, List.set_cons_zero, List.set_cons_succ]
        refine held_take (i := 16) (fuel := 10) (v := ?_) (by rw [List.getElem?_toArray]; rfl) (by kernel_rfl) (by kernel_rfl) (by kernel_rfl) hHeld ?_ ?_ ?_ ?_
        rotate_left
        · intro u hSw
          obtain ⟨c0, c1, c2, c3, c4, c5⟩ := hcy.out u hSw
          go_simp
          try with_reducible rfl
        · rfl
        · exact fun _ _ _ h => h
        try simp only [Act.put, List.setIfInBounds_toArray, List.set_cons_zero, List.set_cons_succ]
        refine held_one (i := 17) (fuel := 9) (by kernel_rfl) (by rw [List.getElem?_toArray]; rfl) (fun K hK => ?_)
        go_simp
        refine (HBODY.out _ (HBW.out.trans (hHeld.mono HBW.out.size))).mono ?_
        rintro f w6 ⟨rfl, hb6⟩
        refine hK.out _ _ ?_ (fun hHeld => ?_)
        · exact hHeld.trans (hb6.mono hHeld.size)
        clear hK K
        try simp only [Act.put, List.setIfInBounds_toArray, List.set_cons_zero, List.set_cons_succ]
        refine held_take (i := 18) (fuel := 8) (v := ?_) (by rw [List.getElem?_toArray]; rfl) (by kernel_rfl) (by kernel_rfl) (by kernel_rfl) hHeld ?_ ?_ ?_ ?_
        rotate_left
        · intro u hSw
          go_simp
          try with_reducible rfl
        · rfl
        · exact fun _ _ _ h => h
        try simp only [Act.put, List.setIfInBounds_toArray, List.set_cons_zero, List.set_cons_succ]
        refine held_take (i := 19) (fuel := 7) (v := ?_) (by rw [List.getElem?_toArray]; rfl) (by kernel_rfl) (by kernel_rfl) (by kernel_rfl) hHeld ?_ ?_ ?_ ?_
        rotate_left
        · intro u hSw
          go_simp
          try with_reducible rfl
        · rfl
        · exact fun _ _ _ h => h
        try simp only [Act.put, List.setIfInBounds_toArray, List.set_cons_zero, List.set_cons_succ]
        refine held_take (i := 20) (fuel := 6) (v := ?_) (by rw [List.getElem?_toArray]; rfl) (by kernel_rfl) (by kernel_rfl) (by kernel_rfl) hHeld ?_ ?_ ?_ ?_
        rotate_left
        · intro u hSw
          go_simp
          try with_reducible rfl
        · rfl
        · exact fun _ _ _ h => h
        try simp only [Act.put, List.setIfInBounds_toArray, List.set_cons_zero, List.set_cons_succ]
        refine held_take (i := 21) (fuel := 5) (v := ?_) (by rw [List.getElem?_toArray]; rfl) (by kernel_rfl) (by kernel_rfl) (by kernel_rfl) hHeld ?_ ?_ ?_ ?_
        rotate_left
        · intro u hSw
          obtain ⟨c0, c1, c2, c3, c4, c5⟩ := hcx.out u hSw
          go_simp
          try with_reducible rfl
        · rfl
        · exact fun _ _ _ h => h
        try simp only [Act.put, List.setIfInBounds_toArray, List.set_cons_zero, List.set_cons_succ]
        refine held_take (i := 22) (fuel := 4) (v := ?_) (by rw [List.getElem?_toArray]; rfl) (by kernel_rfl) (by kernel_rfl) (by kernel_rfl) hHeld ?_ ?_ ?_ ?_
        rotate_left
        · intro u hSw
          go_simp
          try with_reducible rfl
        · rfl
        · exact fun _ _ _ h => h
        try simp only [Act.put, List.setIfInBounds_toArray, List.set_cons_zero, List.set_cons_succ]
        refine held_take (i := 23) (fuel := 3) (v := ?_) (by rw [List.getElem?_toArray]; rfl) (by kernel_rfl) (by kernel_rfl) (by kernel_rfl) hHeld ?_ ?_ ?_ ?_
        rotate_left
        · intro u hSw
          obtain ⟨c0, c1, c2, c3, c4, c5⟩ := hcy.out u hSw
          go_simp
          try with_reducible rfl
        · rfl
        · exact fun _ _ _ h => h
        try simp only [Act.put, List.setIfInBounds_toArray, List.set_cons_zero, List.set_cons_succ]
        refine held_one (i := 24) (fuel := 2) (by kernel_rfl) (by rw [List.getElem?_toArray]; rfl) (fun K hK => ?_)
        go_simp
        refine (HELSE.out _ (HBW.out.trans (hHeld.mono HBW.out.size))).mono ?_
        rintro f w7 ⟨rfl, hb7⟩
        refine hK.out _ _ ?_ (fun hHeld => ?_)
        · exact hHeld.trans (hb7.mono hHeld.size)
        clear hK K
        try simp only [Act.put, List.setIfInBounds_toArray, List.set_cons_zero, List.set_cons_succ]
        refine held_take (i := 25) (fuel := 1) (v := ?_) (by rw [List.getElem?_toArray]; rfl) (by kernel_rfl) (by kernel_rfl) (by kernel_rfl) hHeld ?_ ?_ ?_ ?_
        rotate_left
        · intro u hSw
          go_simp
          try with_reducible rfl
        · rfl
        · exact fun _ _ _ h => h
        try simp only [Act.put, List.setIfInBounds_toArray, List.set_cons_zero, List.set_cons_succ]
        refine held_take (i := 26) (fuel := 0) (v := ?_) (by rw [List.getElem?_toArray]; rfl) (by kernel_rfl) (by kernel_rfl) (by kernel_rfl) hHeld ?_ ?_ ?_ ?_
        rotate_left
        · intro u hSw
          go_simp
          try with_reducible rfl
        · rfl
        · exact fun _ _ _ h => h
        try simp only [Act.put, List.setIfInBounds_toArray, List.set_cons_zero, List.set_cons_succ]
        refine wpAnyH_done (by kernel_rfl) ?_ _
        have HF := Lib.hid (HBW.out.trans (hHeld.mono HBW.out.size))
        go_wp2_with fail
        go_ret
        rw [HRES.out]
        exact ⟨rfl, HF.out⟩

theorem tsameStmt_any : ∀ s : SL, TSameStAt s := SL.ind fun s h1 h2 => tsameStmt_of s (tSameBlock_of s.body h1) (tSameBlock_of s.els h2)

theorem tSameBlock_any (ss : List SL) : TSameL ss := tSameBlock_of ss fun x _ => tsameStmt_any x

end

section
open Go.RowKit
set_option linter.unusedVariables false
set_option linter.unusedSimpArgs false

open Go.ChangeShapes Go.WideShapes Go.RowKit

section
variable {H : Type} {enc : TypeId × Value → H} {w : World} {base : Nat} {sp : Nat → Bool} {held : Bool}

set_option maxRecDepth 100000 in
theorem open_treesW : ∀ (fuel : Nat), (∀ (cs : List Value) (x : DataW H × List MemPlace), DataW.trod enc Try.prog w base sp held fuel 31 cs = some x → (∀ b ∈ DataW.weights Try.prog 31 x.1, b ≤ reachBytes) → ∃ e : EL, cs = (eCells e).toList ∧ e.In w w.heap.size ∧ litP (plE e)) ∧
    (∀ (cs : List Value) (x : DataW H × List MemPlace), DataW.trod enc Try.prog w base sp held fuel 29 cs = some x → (∀ b ∈ DataW.weights Try.prog 29 x.1, b ≤ reachBytes) → ∃ (A : Option Addr) (n c : Nat) (es : List EL), cs = [.slice A n c] ∧ RowE w w.heap.size A n es ∧ EL.Ins w w.heap.size es ∧ n * 64 ≤ 140737488355328 ∧ ∀ x ∈ es, litP (plE x)) := by
  intro fuel
  induction fuel using Nat.strongRecOn with
  | _ fuel ih =>
    have hes : ∀ (cs : List Value) (x : DataW H × List MemPlace), DataW.trod enc Try.prog w base sp held fuel 29 cs = some x → (∀ b ∈ DataW.weights Try.prog 29 x.1, b ≤ reachBytes) → ∃ (A : Option Addr) (n c : Nat) (es : List EL), cs = [.slice A n c] ∧ RowE w w.heap.size A n es ∧ EL.Ins w w.heap.size es ∧ n * 64 ≤ 140737488355328 ∧ ∀ x ∈ es, litP (plE x) := by
      intro cs x h hw
      rcases DataW.trod_slice Try.underlying29 h with ⟨rfl, _⟩ | ⟨a, len, cap, elems, rest, m, hm, rfl, hxe, _, hlc, hcm, hlen, hel, _, _⟩
      · exact ⟨none, 0, 0, [], rfl, ⟨rfl, by omega, fun h => absurd h (Nat.lt_irrefl _)⟩, EL.Ins.of fun x hx => absurd hx List.not_mem_nil, by omega, fun x hx => absurd hx List.not_mem_nil⟩
      · have each : ∀ i, i < len → ∃ e : EL, (e.In w w.heap.size ∧ litP (plE e)) ∧ ∃ cs', w.cells? base (a.add (i * 5)) 5 = some cs' ∧ cs' = (eCells e).toList := by
          intro i hi
          have h1 := hel i hi
          rw [cellsE, List.getElem?_eq_getElem (by omega)] at h1
          obtain ⟨cs', h2, h3⟩ := Option.bind_eq_some_iff.1 h1
          obtain ⟨e, he, hin, hlt⟩ := (ih m (by omega)).1 cs' _ h3 (fun b hb => hw b (by
            rw [hxe]
            exact row_weights Try.underlying29 (List.mem_map.2 ⟨_, List.getElem_mem _, rfl⟩) hb))
          exact ⟨e, ⟨hin, hlt⟩, cs', h2, he⟩
        have : Inhabited EL := ⟨nilE⟩
        obtain ⟨f, hf⟩ := Go.Deep.choose_lt each
        have hg : ∀ j, j < len → (((List.range len).map f)[j]?.getD nilE) = f j := fun j hj => by simp [hj]
        refine ⟨some a, len, cap, (List.range len).map f, rfl, ⟨by simp, by unfold maxLen at hcm; omega, fun h0 => ⟨a, rfl, ?_, fun j hj => ?_⟩⟩, EL.Ins.of fun x hx => ?_, ?_, fun x hx => ?_⟩
        · obtain ⟨_, cs', h2, h3⟩ := hf 0 h0
          obtain ⟨_, hl, hc⟩ := World.cells?_some h2
          have h4 := hc 0 (by omega)
          rw [h3] at h4
          have := World.block_lt_of_cell? w _ h4
          rw [blk_add, blk_add] at this
          exact this
        · have hj2 : j < len := by simpa using hj
          rw [hg j hj2]
          obtain ⟨_, cs', h2, h3⟩ := hf j hj2
          obtain ⟨_, hl, hc⟩ := World.cells?_some h2
          rw [h3] at hc hl
          have k0 := hc 0 (by decide)
          have k1 := hc 1 (by decide)
          have k2 := hc 2 (by decide)
          have k3 := hc 3 (by decide)
          have k4 := hc 4 (by decide)
          rw [add_pos _ 1 (by decide)] at k1
          rw [add_pos _ 2 (by decide)] at k2
          rw [add_pos _ 3 (by decide)] at k3
          rw [add_pos _ 4 (by decide)] at k4
          rw [add_zero9] at k0
          exact ⟨k0, k1, k2, k3, k4⟩
        · obtain ⟨i, hi, rfl⟩ := List.mem_map.mp hx
          exact (hf i (List.mem_range.mp hi)).1.1
        · have hb := row_weight_ (P := Try.prog) (H := H) Try.underlying29 (elems.map (·.1)) (rest.map (·.1)) (by rw [hxe] at hw; exact hw)
          rw [bytesEF, List.length_map, hlen] at hb
          exact hb
        · obtain ⟨i, hi, rfl⟩ := List.mem_map.mp hx
          exact (hf i (List.mem_range.mp hi)).1.2
    refine ⟨?_, hes⟩
    intro cs x h hw
    obtain ⟨xs, m, hm, hx, hlen, hxl, hf⟩ := DataW.trod_struct Try.underlying31 h
    rw [cellsE] at hlen
    match cs, hlen, xs, hxl with
    | [v0, v1, v2, v3, v4], _, [y0, y1, y2, y3, y4], _ =>
      have g0 := hf 0 _ rfl
      have g1 := hf 1 _ rfl
      have g2 := hf 2 _ rfl
      have g3 := hf 3 _ rfl
      have g4 := hf 4 _ rfl
      simp [cellsI, cellsT, cellsEs] at g0 g1 g2 g3 g4
      obtain ⟨z0, e0, _, q0⟩ := DataW.trod_int Try.underlying3 g0
      obtain ⟨z1, e1, _, q1⟩ := DataW.trod_int Try.underlying3 g1
      obtain ⟨z2, e2, _, q2⟩ := DataW.trod_int Try.underlying3 g2
      obtain ⟨s, e3, _, q3⟩ := DataW.trod_string Try.underlying9 g3
      obtain ⟨A, n, c, es, e4, hr, hi, hn9, hl9⟩ := (ih m (by omega)).2 [v4] _ g4 (fun b hb => hw b (by
        rw [hx]
        unfold DataW.weights
        rw [Try.underlying31]
        simp only [List.map_cons, List.map_nil, DataW.weightsEach, List.mem_append]
        exact .inr (.inr (.inr (.inr (.inl hb))))))
      simp at e0 e1 e2 e3 e4
      refine ⟨.mk z0 z1 z2 s.data.toList A n c es, ?_, ?_, ?_⟩
      · rw [e0, e1, e2, e3, e4]
        show _ = [_, _, _, Value.string (bs s.data.toList), _]
        rw [bs_data]
        rfl
      · unfold EL.In
        refine ⟨⟨?_, ?_, hr⟩, hi⟩
        · exact wf_int64 q2
        · rw [Array.length_toList]
          show (s.size : Int) ≤ _
          unfold maxLen at q3
          omega
      · rw [plE_eq, litP_eq]
        refine ⟨?_, fun x hx => ?_⟩
        · show (es.map plE).length * 64 ≤ _
          rw [List.length_map, hr.1]
          exact hn9
        · obtain ⟨y, hy, rfl⟩ := List.mem_map.1 hx
          exact hl9 y hy

set_option maxRecDepth 100000 in
theorem open_stmtsW : ∀ (fuel : Nat) (cs : List Value) (x : DataW H × List MemPlace), DataW.trod enc Try.prog w base sp held fuel 32 cs = some x → (∀ b ∈ DataW.weights Try.prog 32 x.1, b ≤ reachBytes) → ∃ (A : Option Addr) (n c : Nat) (ss : List SL), cs = [.slice A n c] ∧ RowS6 w w.heap.size A n ss ∧ SL.Ins w w.heap.size ss ∧ n * 104 ≤ 140737488355328 ∧ ∀ x ∈ ss, litS (plS x) := by
  intro fuel
  induction fuel using Nat.strongRecOn with
  | _ fuel ih =>
    intro cs x h hw
    rcases DataW.trod_slice Try.underlying32 h with ⟨rfl, _⟩ | ⟨a, len, cap, elems, rest, m, hm, rfl, hxe, _, hlc, hcm, hlen, hel, _, _⟩
    · exact ⟨none, 0, 0, [], rfl, ⟨rfl, by omega, fun h => absurd h (Nat.lt_irrefl _)⟩, SL.Ins.of fun x hx => absurd hx List.not_mem_nil, by omega, fun x hx => absurd hx List.not_mem_nil⟩
    · have one : ∀ (cs : List Value) (x : DataW H × List MemPlace), DataW.trod enc Try.prog w base sp held m 48 cs = some x → (∀ b ∈ DataW.weights Try.prog 48 x.1, b ≤ reachBytes) → ∃ s : SL, cs = (sCells s).toList ∧ s.In w w.heap.size ∧ litS (plS s) := by
        intro cs x h hw
        obtain ⟨xs, m2, hm2, hx, hlen, hxl, hf⟩ := DataW.trod_struct Try.underlying48 h
        rw [cellsS] at hlen
        match cs, hlen, xs, hxl with
        | [v0, v1, v2, v3, v4, v5], _, [y0, y1, y2, y3, y4, y5], _ =>
          have g0 := hf 0 _ rfl
          have g1 := hf 1 _ rfl
          have g2 := hf 2 _ rfl
          have g3 := hf 3 _ rfl
          have g4 := hf 4 _ rfl
          have g5 := hf 5 _ rfl
          simp [cellsI, cellsT, cellsEs, cellsSs] at g0 g1 g2 g3 g4 g5
          obtain ⟨z0, e0, _, q0⟩ := DataW.trod_int Try.underlying3 g0
          obtain ⟨z1, e1, _, q1⟩ := DataW.trod_int Try.underlying3 g1
          obtain ⟨s, e2, _, q2⟩ := DataW.trod_string Try.underlying9 g2
          obtain ⟨A, n, c, es, e3, hr, hi, l1, l2⟩ := (open_treesW m2).2 [v3] _ g3 (fun b hb => hw b (by
            rw [hx]
            unfold DataW.weights
            rw [Try.underlying48]
            simp only [List.map_cons, List.map_nil, DataW.weightsEach, List.mem_append]
            exact .inr (.inr (.inr (.inl hb)))))
          obtain ⟨A1, n1, c1, bo, e4, hr1, hi1, l3, l4⟩ := ih m2 (by omega) [v4] _ g4 (fun b hb => hw b (by
            rw [hx]
            unfold DataW.weights
            rw [Try.underlying48]
            simp only [List.map_cons, List.map_nil, DataW.weightsEach, List.mem_append]
            exact .inr (.inr (.inr (.inr (.inl hb))))))
          obtain ⟨A2, n2, c2, el, e5, hr2, hi2, l5, l6⟩ := ih m2 (by omega) [v5] _ g5 (fun b hb => hw b (by
            rw [hx]
            unfold DataW.weights
            rw [Try.underlying48]
            simp only [List.map_cons, List.map_nil, DataW.weightsEach, List.mem_append]
            exact .inr (.inr (.inr (.inr (.inr (.inl hb)))))))
          simp at e0 e1 e2 e3 e4 e5
          refine ⟨.mk z0 z1 s.data.toList A n c es A1 n1 c1 bo A2 n2 c2 el, ?_, ?_, ?_⟩
          · rw [e0, e1, e2, e3, e4, e5]
            show _ = [_, _, Value.string (bs s.data.toList), _, _, _]
            rw [bs_data]
            rfl
          · refine SL.In.mk ⟨⟨wf_int64 q1, ?_, ⟨hr, hi⟩, hr1, hr2⟩, hi1, hi2⟩
            show ((s.data.toList.length : Nat) : Int) ≤ _
            rw [Array.length_toList]
            show (s.size : Int) ≤ _
            unfold maxLen at q2
            omega
          · rw [plS_eq, litS_eq]
            refine ⟨⟨?_, fun x hx => ?_, ?_, ?_⟩, fun x hx => ?_, fun x hx => ?_⟩
            · show (es.map plE).length * 64 ≤ _
              rw [List.length_map, hr.1]
              exact l1
            · obtain ⟨y, hy, rfl⟩ := List.mem_map.1 hx
              exact l2 y hy
            · show (bo.map plS).length * 104 ≤ _
              rw [List.length_map, hr1.1]
              exact l3
            · show (el.map plS).length * 104 ≤ _
              rw [List.length_map, hr2.1]
              exact l5
            · obtain ⟨y, hy, rfl⟩ := List.mem_map.1 hx
              exact l4 y hy
            · obtain ⟨y, hy, rfl⟩ := List.mem_map.1 hx
              exact l6 y hy
      have each : ∀ i, i < len → ∃ s : SL, (s.In w w.heap.size ∧ litS (plS s)) ∧ ∃ cs', w.cells? base (a.add (i * 6)) 6 = some cs' ∧ cs' = (sCells s).toList := by
        intro i hi
        have h1 := hel i hi
        rw [cellsS, List.getElem?_eq_getElem (by omega)] at h1
        obtain ⟨cs', h2, h3⟩ := Option.bind_eq_some_iff.1 h1
        obtain ⟨s, he, hin, hlt⟩ := one cs' _ h3 (fun b hb => hw b (by
          rw [hxe]
          exact row_weights Try.underlying32 (List.mem_map.2 ⟨_, List.getElem_mem _, rfl⟩) hb))
        exact ⟨s, ⟨hin, hlt⟩, cs', h2, he⟩
      have : Inhabited SL := ⟨nilS⟩
      obtain ⟨f, hf⟩ := Go.Deep.choose_lt each
      have hg : ∀ j, j < len → (((List.range len).map f)[j]?.getD nilS) = f j := fun j hj => by simp [hj]
      refine ⟨some a, len, cap, (List.range len).map f, rfl, ⟨by simp, by unfold maxLen at hcm; omega, fun h0 => ⟨a, rfl, ?_, fun j hj => ?_⟩⟩, SL.Ins.of fun x hx => ?_, ?_, fun x hx => ?_⟩
      · obtain ⟨_, cs', h2, h3⟩ := hf 0 h0
        obtain ⟨_, hl, hc⟩ := World.cells?_some h2
        have h4 := hc 0 (by omega)
        rw [h3] at h4
        have := World.block_lt_of_cell? w _ h4
        rw [blk_add, blk_add] at this
        exact this
      · have hj2 : j < len := by simpa using hj
        rw [hg j hj2]
        obtain ⟨_, cs', h2, h3⟩ := hf j hj2
        obtain ⟨_, hl, hc⟩ := World.cells?_some h2
        rw [h3] at hc hl
        have k0 := hc 0 (by decide)
        have k1 := hc 1 (by decide)
        have k2 := hc 2 (by decide)
        have k3 := hc 3 (by decide)
        have k4 := hc 4 (by decide)
        have k5 := hc 5 (by decide)
        rw [add_pos _ 1 (by decide)] at k1
        rw [add_pos _ 2 (by decide)] at k2
        rw [add_pos _ 3 (by decide)] at k3
        rw [add_pos _ 4 (by decide)] at k4
        rw [add_pos _ 5 (by decide)] at k5
        rw [add_zero9] at k0
        exact ⟨k0, k1, k2, k3, k4, k5⟩
      · obtain ⟨i, hi, rfl⟩ := List.mem_map.mp hx
        exact (hf i (List.mem_range.mp hi)).1.1
      · have hb := row_weight_ (P := Try.prog) (H := H) Try.underlying32 (elems.map (·.1)) (rest.map (·.1)) (by rw [hxe] at hw; exact hw)
        rw [bytesSF, List.length_map, hlen] at hb
        exact hb
      · obtain ⟨i, hi, rfl⟩ := List.mem_map.mp hx
        exact (hf i (List.mem_range.mp hi)).1.2
end

end

section
open Go.RowKit
set_option linter.unusedVariables false
set_option linter.unusedSimpArgs false
open Go.ChangeShapes Go.WideShapes Go.RowKit

theorem cellsBit18 : Try.prog.cellsOf 34 = 22 := by kernel_rfl

section
variable {H : Type} {enc : TypeId × Value → H} {w : World} {base : Nat} {sp : Nat → Bool} {held : Bool}

set_option maxRecDepth 100000 in
theorem open_bitW (fuel : Nat) (cs : List Value) (x : DataW H × List MemPlace) (h : DataW.trod enc Try.prog w base sp held fuel 34 cs = some x) (hw : ∀ b ∈ DataW.weights Try.prog 34 x.1, b ≤ reachBytes) : ∃ (T : TV) (e : EL) (A : Option Addr) (n c : Nat) (ss : List SL) (loc : Int), cs = (T.cells ++ eCells e ++ #[Value.slice A n c, Value.int .i64 loc]).toList ∧ T.In w w.heap.size ∧ e.In w w.heap.size ∧ litP (plE e) ∧ RowS6 w w.heap.size A n ss ∧ SL.Ins w w.heap.size ss ∧ n * 104 ≤ 140737488355328 ∧ (∀ z ∈ ss, litS (plS z)) ∧ (-9223372036854775808 ≤ loc ∧ loc ≤ 9223372036854775807) := by
  obtain ⟨xs, m, hm, hx, hlen, hxl, hf⟩ := DataW.trod_struct Try.underlying34 h
  rw [cellsBit18] at hlen
  match cs, hlen, xs, hxl with
  | [v0, v1, v2, v3, v4, v5, v6, v7, v8, v9, v10, v11, v12, v13, v14, v15, v16, v17, v18, v19, v20, v21], _, [y0, y1, y2, y3], _ =>
    have g0 := hf 0 _ rfl
    have g1 := hf 1 _ rfl
    have g2 := hf 2 _ rfl
    have g3 := hf 3 _ rfl
    simp [cellsI, cellsTb, cellsE, cellsSs] at g0 g1 g2 g3
    obtain ⟨T, e0, i0⟩ := open_tables m _ _ g0
    obtain ⟨e, e1, i1, l1⟩ := (open_treesW m).1 _ _ g1 (fun b hb => hw b (by
      rw [hx]
      unfold DataW.weights
      rw [Try.underlying34]
      simp only [List.map_cons, List.map_nil, DataW.weightsEach, List.mem_append]
      exact .inr (.inl hb)))
    obtain ⟨A, n, c, ss, e2, hr, hi, l2, l3⟩ := open_stmtsW m _ _ g2 (fun b hb => hw b (by
      rw [hx]
      unfold DataW.weights
      rw [Try.underlying34]
      simp only [List.map_cons, List.map_nil, DataW.weightsEach, List.mem_append]
      exact .inr (.inr (.inl hb))))
    obtain ⟨z, e3, _, q3⟩ := DataW.trod_int Try.underlying3 g3
    refine ⟨T, e, A, n, c, ss, z, ?_, i0, i1, l1, hr, hi, l2, l3, wf_int64 q3⟩
    rw [Array.toList_append, Array.toList_append, ← e0, ← e1]
    simp at e2 e3
    rw [e2, e3]
    rfl
end

end

end Go.Proofs.Ytiioffjjlcfhgaa
