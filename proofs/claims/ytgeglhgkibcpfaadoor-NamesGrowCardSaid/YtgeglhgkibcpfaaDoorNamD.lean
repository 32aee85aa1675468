/- Contract of the reference's Make: a source's names, or what is wrong first. -/
import Derived.Test.YtgeglhgkibcpfaaDoorNamC
import Derived.Test.YtgeglhgkibcpfaaDoorLexL
import Derived.Test.YtgeglhgkibcpfaaDoorTellsR
import Derived.StillTailTactics
namespace Go.Proofs.YtgeglhgkibcpfaaDoor
open Go.RowKit
set_option linter.unusedVariables false

/-- a right name that is no keyword -/
def gdN (s : List UInt8) : Bool := nameB s && !keyB s

theorem own_newV {w : World} {e : TypeId} {base sz n : Nat} {cs : List Value} (hl : cs.length = n * sz) (hn : n ≤ maxLen) (hb : base ≤ w.heap.size) : (w.alloc (.cells cs.toArray e)).ownsRow base e sz (.slice (some ⟨w.heap.size, 0, none⟩) n n) n cs := by
  refine ⟨hl, .inr ⟨w.heap.size, n, cs.toArray, rfl, hb, heap_alloc_new w _, Nat.le_refl _, hn, by simpa using hl, ?_⟩⟩
  show cs.take (n * sz) = cs
  exact List.take_of_length_le (by omega)
theorem own_capV {w : World} {base sz : Nat} {e : TypeId} {A : Option Addr} {n c : Nat} {xs : List Value} (h : w.ownsRow base e sz (.slice A n c) n xs) : n ≤ c := by
  rcases h.2 with ⟨hv, h0⟩ | ⟨g, cap, cur, hv, _, _, hnc, _⟩
  · omega
  · injection hv with h1 h2 h3
    omega

theorem env_at : ∀ (es : List En) (j r : Nat) (e : En), es[j]? = some e → r < 6 → (env es)[j * 6 + r]? = (enc e)[r]? := by
  intro es
  induction es with
  | nil => intro j r e h; cases h
  | cons x es ih =>
    intro j r e h hr
    rw [env_cons]
    cases j with
    | zero =>
      rw [List.getElem?_cons_zero] at h
      cases h
      rw [Nat.zero_mul, Nat.zero_add, List.getElem?_append_left (by show r < 6; exact hr)]
    | succ j =>
      rw [List.getElem?_cons_succ] at h
      rw [List.getElem?_append_right (by show 6 ≤ _; omega), show (j + 1) * 6 + r - (enc x).length = j * 6 + r from by show (j + 1) * 6 + r - 6 = _; omega]
      exact ih j r e h hr

theorem en_cells {w : World} {B : Nat} {A : Option Addr} {n : Nat} {es : List En} (h : RdV 6 w B A n (env es)) {j : Nat} {e : En} (he : es[j]? = some e) : ∃ ad : Addr, A = some ad ∧ ad.block < B ∧ w.cell? (ad.add (j * 6)) = some (.string (bs e.name)) ∧
    w.cell? ⟨(ad.add (j * 6)).block, (ad.add (j * 6)).off + 1, none⟩ = some (.int .i64 e.kind) ∧ w.cell? ⟨(ad.add (j * 6)).block, (ad.add (j * 6)).off + 2, none⟩ = some (.int .i64 e.part) ∧
    w.cell? ⟨(ad.add (j * 6)).block, (ad.add (j * 6)).off + 3, none⟩ = some (.int .i64 e.at_) ∧ w.cell? ⟨(ad.add (j * 6)).block, (ad.add (j * 6)).off + 4, none⟩ = some (.int .i64 e.num) ∧
    w.cell? ⟨(ad.add (j * 6)).block, (ad.add (j * 6)).off + 5, none⟩ = some (.int .i64 e.most) := by
  have hj : j < es.length := (List.getElem?_eq_some_iff.1 he).1
  have hl := h.1
  rw [env_len] at hl
  obtain ⟨ad, hA, hb, hc⟩ := h.2 (by omega)
  have six : ∀ r, r ≠ 0 → ad.add (j * 6 + r) = ⟨(ad.add (j * 6)).block, (ad.add (j * 6)).off + r, none⟩ := by
    intro r hr
    unfold Addr.add
    by_cases h : j * 6 = 0
    · rw [h, if_pos rfl, Nat.zero_add, if_neg hr]
    · rw [if_neg h, if_neg (by omega)]
      show _ = (⟨ad.block, ad.off + j * 6 + r, none⟩ : Addr)
      rw [Nat.add_assoc]
  have at_ : ∀ r v, r < 6 → (enc e)[r]? = some v → w.cell? (ad.add (j * 6 + r)) = some v := fun r v hr hv => hc _ _ ((env_at es j r e he hr).trans hv)
  refine ⟨ad, hA, hb, at_ 0 _ (by omega) rfl, ?_, ?_, ?_, ?_, ?_⟩
  · rw [← six 1 (by omega)]; exact at_ 1 _ (by omega) rfl
  · rw [← six 2 (by omega)]; exact at_ 2 _ (by omega) rfl
  · rw [← six 3 (by omega)]; exact at_ 3 _ (by omega) rfl
  · rw [← six 4 (by omega)]; exact at_ 4 _ (by omega) rfl
  · rw [← six 5 (by omega)]; exact at_ 5 _ (by omega) rfl

theorem OutN.of {base : Nat} {t : TypeId} {w w' : World} {r : List Nm × (Int × Int × Int × List UInt8)} {A : Option Addr} {n c : Nat} {ts : List Nm} {a b d : Int} {s : List UInt8} (h : r = (ts, (a, b, d, s))) (ho : w'.ownsRow base t 3 (.slice A n c) n (nmv ts)) (hb : Below base w w') :
    OutN base t w r (.returned (.tuple #[.slice A n c, .agg #[.int .i64 a, .int .i64 b, .int .i64 d, .string (bs s)]])) w' := by
  subst h
  exact ⟨A, n, c, rfl, ho, hb⟩

set_option maxRecDepth 100000 in
set_option maxHeartbeats 25600000 in
theorem r15Make_any (X : Src) (w : World) (d : Dl) (h : X.Nam w w.heap.size d) (hn : cntD d ≤ 50000) (hsh : ∀ e ∈ allE d, (e.name.length : Int) ≤ 9223372036854775807) :
    Calls Tryd.prog 12 #[srcV X] w (OutN w.heap.size 45 w (makeN gdN d)) := by
  obtain ⟨R, hR⟩ : ∃ R, R = makeN gdN d := ⟨_, rfl⟩
  have HS : Hid (R = makeF gdN nms0 ((allE d).drop 0)) := Lib.hid (by rw [hR]; rfl)
  rw [← hR]
  clear hR
  have H := Lib.hid h
  have HSH := Lib.hid hsh
  have HLE := Lib.hid (allE_len d)
  clear h hsh
  obtain ⟨N, hN⟩ : ∃ N, N = cntD d := ⟨_, rfl⟩
  have HNN := Lib.hid hN
  rw [← hN] at hn
  clear hN
  obtain ⟨V0, hV0⟩ : ∃ V, V = srcV X := ⟨_, rfl⟩
  rw [← hV0]
  have hVA : V0 = .agg (srcCells X) := hV0
  clear hV0
  obtain ⟨s0, s1, s2, r, m, A0, n0, c0, A1, n1, c1, A2, n2, c2, A3, n3, c3, A4, n4, c4, A5, n5, c5, A6, n6, c6, A7, n7, c7⟩ := X
  have hVA : V0 = .agg #[.string s0, .string s1, .string s2, .int .i64 r, .int .i64 m, .slice A0 n0 c0, .slice A1 n1 c1, .slice A2 n2 c2, .slice A3 n3 c3, .slice A4 n4 c4, .slice A5 n5 c5, .slice A6 n6 c6, .slice A7 n7 c7] := hVA
  subst hVA
  obtain ⟨W, hW⟩ : ∃ W, W = (w.alloc (.cells #[.string s0, .string s1, .string s2, .int .i64 r, .int .i64 m, .slice A0 n0 c0, .slice A1 n1 c1, .slice A2 n2 c2, .slice A3 n3 c3, .slice A4 n4 c4, .slice A5 n5 c5, .slice A6 n6 c6, .slice A7 n7 c7] 39)).alloc (.cells #[.int .i64 0, .int .i64 0, .int .i64 0, .string ⟨#[]⟩] 30) := ⟨_, rfl⟩
  have HBW : Hid (Below w.heap.size w W) := Lib.hid (by rw [hW]; exact ((Below.refl _ _).alloc (Nat.le_refl _) _).alloc (by simp) _)
  have HSW : Hid (W.heap.size = w.heap.size + 1 + 1) := Lib.hid (by rw [hW]; simp)
  have HKW : Hid (Blk W w.heap.size 39 #[.string s0, .string s1, .string s2, .int .i64 r, .int .i64 m, .slice A0 n0 c0, .slice A1 n1 c1, .slice A2 n2 c2, .slice A3 n3 c3, .slice A4 n4 c4, .slice A5 n5 c5, .slice A6 n6 c6, .slice A7 n7 c7]) := Lib.hid (by rw [hW]; exact (Blk.new _ _ _).alloc _)
  have HFW : Hid (Blk W (w.heap.size + 1) 30 #[.int .i64 0, .int .i64 0, .int .i64 0, .string ⟨#[]⟩]) := Lib.hid (by rw [hW]; exact Blk.new_at _ _ _ _ (by simp))
  go_enter Tryd.func12, Tryd.ntmps12
  go_wp2_with fail
  rw [← hW]
  clear hW
  obtain ⟨W1, hW1⟩ : ∃ W1, W1 = W.alloc (.cells (nmv nms0).toArray 45) := ⟨_, rfl⟩
  have HO1 : Hid (W1.ownsRow W.heap.size 45 3 (.slice (some ⟨w.heap.size + 1 + 1, 0, none⟩) 4 4) 4 (nmv nms0)) := Lib.hid (by rw [hW1, ← HSW.out]; exact own_newV rfl (by unfold maxLen; omega) (Nat.le_refl _))
  have HB1 : Hid (Below W.heap.size W W1) := Lib.hid (by rw [hW1]; exact (Below.refl _ _).alloc (Nat.le_refl _) _)
  change Calls _ _ _ (W.alloc (.cells (nmv nms0).toArray 45)) _
  rw [← hW1]
  clear hW1
  have HBX := Lib.hid (HBW.out.trans (HB1.out.mono HBW.out.size))
  refine (r15all_any ⟨s0, s1, s2, r, m, A0, n0, c0, A1, n1, c1, A2, n2, c2, A3, n3, c3, A4, n4, c4, A5, n5, c5, A6, n6, c6, A7, n7, c7⟩ W1 d ((H.out.below HBX.out).more HBX.out.size) (by rw [← HNN.out]; omega)).mono ?_
  rintro e W2 ⟨A, k, c, rfl, ho, hb⟩
  have hk : k = N := by
    have h1 := ho.1
    rw [env_len, HLE.out, ← HNN.out] at h1
    omega
  subst hk
  have HO2 := Lib.hid (own_below HO1.out hb)
  have HB2 := Lib.hid (HB1.out.trans (hb.mono HB1.out.size))
  have HL2 := Lib.hid (RdV.of_own ho)
  clear ho hb HO1 HB1 HBX
  go_wp2_with fail
  go_loopw [4, 6] (fun vt vi wr => ∃ (j n c : Nat) (A : Option Addr) (ts : List Nm), j ≤ k ∧ vt = .slice A n c ∧ vi = .int .i64 j ∧ n ≤ c ∧ n ≤ 4 + j ∧ Hid (wr.ownsRow W.heap.size 45 3 (.slice A n c) n (nmv ts)) ∧ Hid (Below W.heap.size W wr) ∧ Hid (Below W2.heap.size W2 wr) ∧ Hid (R = makeF gdN ts ((allE d).drop j))) (fun _ vi _ => k - (intOf vi).toNat)
  case atStart => exact ⟨0, 4, 4, _, nms0, Nat.zero_le _, rfl, rfl, Nat.le_refl _, by omega, HO2, HB2, Lib.hid (Below.refl _ _), HS⟩
  case round =>
    clear HS HO2
    obtain ⟨j, n, cn, AN, ts, hj, rfl, rfl, hnc, hn4, HO, HB, HB9, HS⟩ := hrel
    have HBR := Lib.hid (HBW.out.trans (HB.out.mono HBW.out.size))
    have HFR := Lib.hid (HFW.out.below HB.out HFW.out.lt)
    have HRN := Lib.hid (RdN.of_own HO.out)
    by_cases hlt : j < k
    · obtain ⟨e, he⟩ : ∃ e, (allE d)[j]? = some e := ⟨_, List.getElem?_eq_getElem (by rw [HLE.out, ← HNN.out]; exact hlt)⟩
      have hmem : e ∈ allE d := List.mem_of_getElem? he
      have hd : (allE d).drop j = e :: (allE d).drop (j + 1) := by
        obtain ⟨h1, h2⟩ := List.getElem?_eq_some_iff.1 he
        rw [List.drop_eq_getElem_cons h1, h2]
      obtain ⟨ad, rfl, hadb, a0, a1, a2, a3, a4, a5⟩ := en_cells (HL2.out.below HB9.out) he
      have HN : Hid (R = if errE gdN ts e = 0 then makeF gdN (putN ts ⟨e.name, e.kind, e.num⟩) ((allE d).drop (j + 1)) else ([], (errE gdN ts e, e.part, (e.at_ : Int), e.name))) := Lib.hid (by rw [HS.out, hd, makeF_cons])
      have HNAM := Lib.hid (HSH.out e hmem)
      have HEJ := Lib.hid he
      clear he hmem hd HS
      obtain ⟨x, kd, pt, at_, nm, ms⟩ := e
      simp only at a0 a1 a2 a3 a4 a5
      go_wp2_with fail
      refine (r15Find_any wr AN n cn ts (bs x) HRN.out (by omega)).mono ?_
      rintro e w3 ⟨he, hb3⟩
      rw [show (bs x).data.toList = x from rfl] at he
      obtain ⟨F, hF⟩ : ∃ F, F = findI ts x := ⟨_, rfl⟩
      rw [← hF] at he
      have HER : Hid (errE gdN ts ⟨x, kd, pt, at_, nm, ms⟩ = if ms ≤ at_ then 7 else if gdN x = false then 9 else if F.isSome = true then 10 else 0) := Lib.hid (by rw [hF]; rfl)
      clear hF
      have HB3 := Lib.hid (HB.out.trans (hb3.mono HB.out.size))
      have HB93 := Lib.hid (HB9.out.trans (hb3.mono HB9.out.size))
      have HO3 := Lib.hid (own_below HO.out hb3)
      clear hb3
      cases F with
      | none =>
        by_cases hc : ms ≤ (at_ : Int)
        · cases hnb : nameB x with
          | false =>
            obtain rfl : e = .returned (.tuple #[.agg #[.string ⟨#[]⟩, .int .i64 0, .int .i64 0], .bool false]) := he
            have HEE : Hid (errE gdN ts ⟨x, kd, pt, at_, nm, ms⟩ = 7) := Lib.hid (by rw [HER.out]; simp [hc])
            obtain ⟨ad1, hA1, _, z0, _, _, _, _, _⟩ := en_cells (HL2.out.below (HB93.out.alloc HB93.out.size (.cells #[.string ⟨#[]⟩, .int .i64 0, .int .i64 0] 45))) HEJ.out
            obtain rfl : ad = ad1 := by injection hA1
            simp only at z0
            go_wp2_with fail
            refine (rname_any _ (bs x) (by rw [bs_size]; exact HNAM.out)).mono ?_
            rintro e w4 ⟨rfl, hw4⟩
            have HB4 := Lib.hid (show Below w3.heap.size w3 w4 by rw [← hw4]; first | exact below_setRow ((Below.refl _ _).alloc (Nat.le_refl _) _) (Nat.le_refl _) _ | exact (Below.refl _ _).alloc (Nat.le_refl _) _)
            rw [show nameB (bs x).data.toList = false from hnb]
            clear hw4
            obtain ⟨ad2, hA2, _, b0, b1, b2, b3, b4, b5⟩ := en_cells (HL2.out.below (HB93.out.trans (HB4.out.mono HB93.out.size))) HEJ.out
            obtain rfl : ad = ad2 := by injection hA2
            simp only at b0 b1 b2 b3 b4 b5
            go_wp2_with fail
            go_quiet (fail)
            obtain ⟨V, hV⟩ : ∃ V0, V0 = w4.drewN nq := ⟨_, rfl⟩
            have v0 : V.cell? (ad.add (j * 6)) = some (.string (bs x)) := by rw [hV]; exact b0
            have v1 : V.cell? ⟨(ad.add (j * 6)).block, (ad.add (j * 6)).off + 1, none⟩ = some (.int .i64 kd) := by rw [hV]; exact b1
            have v2 : V.cell? ⟨(ad.add (j * 6)).block, (ad.add (j * 6)).off + 2, none⟩ = some (.int .i64 pt) := by rw [hV]; exact b2
            have v3 : V.cell? ⟨(ad.add (j * 6)).block, (ad.add (j * 6)).off + 3, none⟩ = some (.int .i64 at_) := by rw [hV]; exact b3
            have v4 : V.cell? ⟨(ad.add (j * 6)).block, (ad.add (j * 6)).off + 4, none⟩ = some (.int .i64 nm) := by rw [hV]; exact b4
            have HBV : Hid (Below W.heap.size W V) := Lib.hid (by rw [hV]; exact below_drewN (HB3.out.trans (HB4.out.mono HB3.out.size)) _)
            have HB9V : Hid (Below W2.heap.size W2 V) := Lib.hid (by rw [hV]; exact below_drewN (HB93.out.trans (HB4.out.mono HB93.out.size)) _)
            have HOV : Hid (V.ownsRow W.heap.size 45 3 (.slice AN n cn) n (nmv ts)) := Lib.hid (by rw [hV]; exact own_below HO3.out (below_drewN HB4.out _))
            have HFV := Lib.hid (HFW.out.below HBV.out HFW.out.lt)
            rw [← hV]
            clear hV b0 b1 b2 b3 b4 b5 z0 a0 a1 a2 a3 a4 a5
            have HRE : Hid (R = ([], (7, pt, (at_ : Int), x))) := Lib.hid (by rw [HN.out, HEE.out, if_neg (by decide)])
            go_wp2_with fail
            go_still_tail 18, (by kernel_rfl)
            change wpList _ _ _ _ _ V.drew
            have HFU : Hid (Blk V.drew (w.heap.size + 1) 30 #[.int .i64 0, .int .i64 0, .int .i64 0, .string ⟨#[]⟩]) := HFV
            have HBU : Hid (Below W.heap.size W V.drew) := Lib.hid HBV.out.drew
            clear v0 v1 v2 v3 v4
            generalize V.drew = U at HFU HBU ⊢
            go_wp2_with (refine wpList_store_row rfl 30 _ _ rfl (w.heap.size + 1) #[.int .i64 7, .int .i64 pt, .int .i64 at_, .string (bs x)] rfl rfl _ _ HFU.out fau_size rfl (fau_one _ _ _ _) ?_)
            (try simp only [Exit.inBlock, Exit.then]); refine bodyPost_ret (results_tc rfl _ _ _ _ _ _ _ rfl (setRow_heap _ _ _ _ _ _ HFU.out) Tryd.underlying30 rfl (by kernel_rfl)) rfl ?_
            exact OutN.of HRE.out (ownN_nil _ _ _) (below_setRow (HBW.out.trans (HBU.out.mono HBW.out.size)) (Nat.le_succ _) _)
          | true =>
            cases hkb : keyB x with
            | false =>
              obtain rfl : e = .returned (.tuple #[.agg #[.string ⟨#[]⟩, .int .i64 0, .int .i64 0], .bool false]) := he
              have HEE : Hid (errE gdN ts ⟨x, kd, pt, at_, nm, ms⟩ = 7) := Lib.hid (by rw [HER.out]; simp [hc])
              obtain ⟨ad1, hA1, _, z0, _, _, _, _, _⟩ := en_cells (HL2.out.below (HB93.out.alloc HB93.out.size (.cells #[.string ⟨#[]⟩, .int .i64 0, .int .i64 0] 45))) HEJ.out
              obtain rfl : ad = ad1 := by injection hA1
              simp only at z0
              go_wp2_with fail
              refine (rname_any _ (bs x) (by rw [bs_size]; exact HNAM.out)).mono ?_
              rintro e w4 ⟨rfl, hw4⟩
              have HB4 := Lib.hid (show Below w3.heap.size w3 w4 by rw [← hw4]; first | exact below_setRow ((Below.refl _ _).alloc (Nat.le_refl _) _) (Nat.le_refl _) _ | exact (Below.refl _ _).alloc (Nat.le_refl _) _)
              rw [show nameB (bs x).data.toList = true from hnb]
              clear hw4
              obtain ⟨ad2, hA2, _, b0, b1, b2, b3, b4, b5⟩ := en_cells (HL2.out.below (HB93.out.trans (HB4.out.mono HB93.out.size))) HEJ.out
              obtain rfl : ad = ad2 := by injection hA2
              simp only at b0 b1 b2 b3 b4 b5
              go_wp2_with fail
              refine (r9Key_any _ (bs x)).mono ?_
              rintro e w5 ⟨rfl, rfl⟩
              rw [show keyB (bs x).data.toList = false from hkb]
              go_wp2_with fail
              go_quiet (fail)
              obtain ⟨V, hV⟩ : ∃ V0, V0 = w4.drewN nq := ⟨_, rfl⟩
              have v0 : V.cell? (ad.add (j * 6)) = some (.string (bs x)) := by rw [hV]; exact b0
              have v1 : V.cell? ⟨(ad.add (j * 6)).block, (ad.add (j * 6)).off + 1, none⟩ = some (.int .i64 kd) := by rw [hV]; exact b1
              have v2 : V.cell? ⟨(ad.add (j * 6)).block, (ad.add (j * 6)).off + 2, none⟩ = some (.int .i64 pt) := by rw [hV]; exact b2
              have v3 : V.cell? ⟨(ad.add (j * 6)).block, (ad.add (j * 6)).off + 3, none⟩ = some (.int .i64 at_) := by rw [hV]; exact b3
              have v4 : V.cell? ⟨(ad.add (j * 6)).block, (ad.add (j * 6)).off + 4, none⟩ = some (.int .i64 nm) := by rw [hV]; exact b4
              have HBV : Hid (Below W.heap.size W V) := Lib.hid (by rw [hV]; exact below_drewN (HB3.out.trans (HB4.out.mono HB3.out.size)) _)
              have HB9V : Hid (Below W2.heap.size W2 V) := Lib.hid (by rw [hV]; exact below_drewN (HB93.out.trans (HB4.out.mono HB93.out.size)) _)
              have HOV : Hid (V.ownsRow W.heap.size 45 3 (.slice AN n cn) n (nmv ts)) := Lib.hid (by rw [hV]; exact own_below HO3.out (below_drewN HB4.out _))
              have HFV := Lib.hid (HFW.out.below HBV.out HFW.out.lt)
              rw [← hV]
              clear hV b0 b1 b2 b3 b4 b5 z0 a0 a1 a2 a3 a4 a5
              have HRE : Hid (R = ([], (7, pt, (at_ : Int), x))) := Lib.hid (by rw [HN.out, HEE.out, if_neg (by decide)])
              go_wp2_with fail
              go_still_tail 18, (by kernel_rfl)
              change wpList _ _ _ _ _ V.drew
              have HFU : Hid (Blk V.drew (w.heap.size + 1) 30 #[.int .i64 0, .int .i64 0, .int .i64 0, .string ⟨#[]⟩]) := HFV
              have HBU : Hid (Below W.heap.size W V.drew) := Lib.hid HBV.out.drew
              clear v0 v1 v2 v3 v4
              generalize V.drew = U at HFU HBU ⊢
              go_wp2_with (refine wpList_store_row rfl 30 _ _ rfl (w.heap.size + 1) #[.int .i64 7, .int .i64 pt, .int .i64 at_, .string (bs x)] rfl rfl _ _ HFU.out fau_size rfl (fau_one _ _ _ _) ?_)
              (try simp only [Exit.inBlock, Exit.then]); refine bodyPost_ret (results_tc rfl _ _ _ _ _ _ _ rfl (setRow_heap _ _ _ _ _ _ HFU.out) Tryd.underlying30 rfl (by kernel_rfl)) rfl ?_
              exact OutN.of HRE.out (ownN_nil _ _ _) (below_setRow (HBW.out.trans (HBU.out.mono HBW.out.size)) (Nat.le_succ _) _)
            | true =>
              obtain rfl : e = .returned (.tuple #[.agg #[.string ⟨#[]⟩, .int .i64 0, .int .i64 0], .bool false]) := he
              have HEE : Hid (errE gdN ts ⟨x, kd, pt, at_, nm, ms⟩ = 7) := Lib.hid (by rw [HER.out]; simp [hc])
              obtain ⟨ad1, hA1, _, z0, _, _, _, _, _⟩ := en_cells (HL2.out.below (HB93.out.alloc HB93.out.size (.cells #[.string ⟨#[]⟩, .int .i64 0, .int .i64 0] 45))) HEJ.out
              obtain rfl : ad = ad1 := by injection hA1
              simp only at z0
              go_wp2_with fail
              refine (rname_any _ (bs x) (by rw [bs_size]; exact HNAM.out)).mono ?_
              rintro e w4 ⟨rfl, hw4⟩
              have HB4 := Lib.hid (show Below w3.heap.size w3 w4 by rw [← hw4]; first | exact below_setRow ((Below.refl _ _).alloc (Nat.le_refl _) _) (Nat.le_refl _) _ | exact (Below.refl _ _).alloc (Nat.le_refl _) _)
              rw [show nameB (bs x).data.toList = true from hnb]
              clear hw4
              obtain ⟨ad2, hA2, _, b0, b1, b2, b3, b4, b5⟩ := en_cells (HL2.out.below (HB93.out.trans (HB4.out.mono HB93.out.size))) HEJ.out
              obtain rfl : ad = ad2 := by injection hA2
              simp only at b0 b1 b2 b3 b4 b5
              go_wp2_with fail
              refine (r9Key_any _ (bs x)).mono ?_
              rintro e w5 ⟨rfl, rfl⟩
              rw [show keyB (bs x).data.toList = true from hkb]
              go_wp2_with fail
              go_quiet (fail)
              obtain ⟨V, hV⟩ : ∃ V0, V0 = w4.drewN nq := ⟨_, rfl⟩
              have v0 : V.cell? (ad.add (j * 6)) = some (.string (bs x)) := by rw [hV]; exact b0
              have v1 : V.cell? ⟨(ad.add (j * 6)).block, (ad.add (j * 6)).off + 1, none⟩ = some (.int .i64 kd) := by rw [hV]; exact b1
              have v2 : V.cell? ⟨(ad.add (j * 6)).block, (ad.add (j * 6)).off + 2, none⟩ = some (.int .i64 pt) := by rw [hV]; exact b2
              have v3 : V.cell? ⟨(ad.add (j * 6)).block, (ad.add (j * 6)).off + 3, none⟩ = some (.int .i64 at_) := by rw [hV]; exact b3
              have v4 : V.cell? ⟨(ad.add (j * 6)).block, (ad.add (j * 6)).off + 4, none⟩ = some (.int .i64 nm) := by rw [hV]; exact b4
              have HBV : Hid (Below W.heap.size W V) := Lib.hid (by rw [hV]; exact below_drewN (HB3.out.trans (HB4.out.mono HB3.out.size)) _)
              have HB9V : Hid (Below W2.heap.size W2 V) := Lib.hid (by rw [hV]; exact below_drewN (HB93.out.trans (HB4.out.mono HB93.out.size)) _)
              have HOV : Hid (V.ownsRow W.heap.size 45 3 (.slice AN n cn) n (nmv ts)) := Lib.hid (by rw [hV]; exact own_below HO3.out (below_drewN HB4.out _))
              have HFV := Lib.hid (HFW.out.below HBV.out HFW.out.lt)
              rw [← hV]
              clear hV b0 b1 b2 b3 b4 b5 z0 a0 a1 a2 a3 a4 a5
              have HRE : Hid (R = ([], (7, pt, (at_ : Int), x))) := Lib.hid (by rw [HN.out, HEE.out, if_neg (by decide)])
              go_wp2_with fail
              go_still_tail 18, (by kernel_rfl)
              change wpList _ _ _ _ _ V.drew
              have HFU : Hid (Blk V.drew (w.heap.size + 1) 30 #[.int .i64 0, .int .i64 0, .int .i64 0, .string ⟨#[]⟩]) := HFV
              have HBU : Hid (Below W.heap.size W V.drew) := Lib.hid HBV.out.drew
              clear v0 v1 v2 v3 v4
              generalize V.drew = U at HFU HBU ⊢
              go_wp2_with (refine wpList_store_row rfl 30 _ _ rfl (w.heap.size + 1) #[.int .i64 7, .int .i64 pt, .int .i64 at_, .string (bs x)] rfl rfl _ _ HFU.out fau_size rfl (fau_one _ _ _ _) ?_)
              (try simp only [Exit.inBlock, Exit.then]); refine bodyPost_ret (results_tc rfl _ _ _ _ _ _ _ rfl (setRow_heap _ _ _ _ _ _ HFU.out) Tryd.underlying30 rfl (by kernel_rfl)) rfl ?_
              exact OutN.of HRE.out (ownN_nil _ _ _) (below_setRow (HBW.out.trans (HBU.out.mono HBW.out.size)) (Nat.le_succ _) _)
        · cases hnb : nameB x with
          | false =>
            obtain rfl : e = .returned (.tuple #[.agg #[.string ⟨#[]⟩, .int .i64 0, .int .i64 0], .bool false]) := he
            have HEE : Hid (errE gdN ts ⟨x, kd, pt, at_, nm, ms⟩ = 9) := Lib.hid (by rw [HER.out]; simp [hc, gdN, hnb])
            obtain ⟨ad1, hA1, _, z0, _, _, _, _, _⟩ := en_cells (HL2.out.below (HB93.out.alloc HB93.out.size (.cells #[.string ⟨#[]⟩, .int .i64 0, .int .i64 0] 45))) HEJ.out
            obtain rfl : ad = ad1 := by injection hA1
            simp only at z0
            go_wp2_with fail
            refine (rname_any _ (bs x) (by rw [bs_size]; exact HNAM.out)).mono ?_
            rintro e w4 ⟨rfl, hw4⟩
            have HB4 := Lib.hid (show Below w3.heap.size w3 w4 by rw [← hw4]; first | exact below_setRow ((Below.refl _ _).alloc (Nat.le_refl _) _) (Nat.le_refl _) _ | exact (Below.refl _ _).alloc (Nat.le_refl _) _)
            rw [show nameB (bs x).data.toList = false from hnb]
            clear hw4
            obtain ⟨ad2, hA2, _, b0, b1, b2, b3, b4, b5⟩ := en_cells (HL2.out.below (HB93.out.trans (HB4.out.mono HB93.out.size))) HEJ.out
            obtain rfl : ad = ad2 := by injection hA2
            simp only at b0 b1 b2 b3 b4 b5
            go_wp2_with fail
            go_quiet (fail)
            obtain ⟨V, hV⟩ : ∃ V0, V0 = w4.drewN nq := ⟨_, rfl⟩
            have v0 : V.cell? (ad.add (j * 6)) = some (.string (bs x)) := by rw [hV]; exact b0
            have v1 : V.cell? ⟨(ad.add (j * 6)).block, (ad.add (j * 6)).off + 1, none⟩ = some (.int .i64 kd) := by rw [hV]; exact b1
            have v2 : V.cell? ⟨(ad.add (j * 6)).block, (ad.add (j * 6)).off + 2, none⟩ = some (.int .i64 pt) := by rw [hV]; exact b2
            have v3 : V.cell? ⟨(ad.add (j * 6)).block, (ad.add (j * 6)).off + 3, none⟩ = some (.int .i64 at_) := by rw [hV]; exact b3
            have v4 : V.cell? ⟨(ad.add (j * 6)).block, (ad.add (j * 6)).off + 4, none⟩ = some (.int .i64 nm) := by rw [hV]; exact b4
            have HBV : Hid (Below W.heap.size W V) := Lib.hid (by rw [hV]; exact below_drewN (HB3.out.trans (HB4.out.mono HB3.out.size)) _)
            have HB9V : Hid (Below W2.heap.size W2 V) := Lib.hid (by rw [hV]; exact below_drewN (HB93.out.trans (HB4.out.mono HB93.out.size)) _)
            have HOV : Hid (V.ownsRow W.heap.size 45 3 (.slice AN n cn) n (nmv ts)) := Lib.hid (by rw [hV]; exact own_below HO3.out (below_drewN HB4.out _))
            have HFV := Lib.hid (HFW.out.below HBV.out HFW.out.lt)
            rw [← hV]
            clear hV b0 b1 b2 b3 b4 b5 z0 a0 a1 a2 a3 a4 a5
            have HRE : Hid (R = ([], (9, pt, (at_ : Int), x))) := Lib.hid (by rw [HN.out, HEE.out, if_neg (by decide)])
            go_wp2_with fail
            go_still_tail 18, (by kernel_rfl)
            change wpList _ _ _ _ _ V.drew
            have HFU : Hid (Blk V.drew (w.heap.size + 1) 30 #[.int .i64 0, .int .i64 0, .int .i64 0, .string ⟨#[]⟩]) := HFV
            have HBU : Hid (Below W.heap.size W V.drew) := Lib.hid HBV.out.drew
            clear v0 v1 v2 v3 v4
            generalize V.drew = U at HFU HBU ⊢
            go_wp2_with (refine wpList_store_row rfl 30 _ _ rfl (w.heap.size + 1) #[.int .i64 9, .int .i64 pt, .int .i64 at_, .string (bs x)] rfl rfl _ _ HFU.out fau_size rfl (fau_one _ _ _ _) ?_)
            (try simp only [Exit.inBlock, Exit.then]); refine bodyPost_ret (results_tc rfl _ _ _ _ _ _ _ rfl (setRow_heap _ _ _ _ _ _ HFU.out) Tryd.underlying30 rfl (by kernel_rfl)) rfl ?_
            exact OutN.of HRE.out (ownN_nil _ _ _) (below_setRow (HBW.out.trans (HBU.out.mono HBW.out.size)) (Nat.le_succ _) _)
          | true =>
            cases hkb : keyB x with
            | false =>
              obtain rfl : e = .returned (.tuple #[.agg #[.string ⟨#[]⟩, .int .i64 0, .int .i64 0], .bool false]) := he
              have HEE : Hid (errE gdN ts ⟨x, kd, pt, at_, nm, ms⟩ = 0) := Lib.hid (by rw [HER.out]; simp [hc, gdN, hnb, hkb])
              obtain ⟨ad1, hA1, _, z0, _, _, _, _, _⟩ := en_cells (HL2.out.below (HB93.out.alloc HB93.out.size (.cells #[.string ⟨#[]⟩, .int .i64 0, .int .i64 0] 45))) HEJ.out
              obtain rfl : ad = ad1 := by injection hA1
              simp only at z0
              go_wp2_with fail
              refine (rname_any _ (bs x) (by rw [bs_size]; exact HNAM.out)).mono ?_
              rintro e w4 ⟨rfl, hw4⟩
              have HB4 := Lib.hid (show Below w3.heap.size w3 w4 by rw [← hw4]; first | exact below_setRow ((Below.refl _ _).alloc (Nat.le_refl _) _) (Nat.le_refl _) _ | exact (Below.refl _ _).alloc (Nat.le_refl _) _)
              rw [show nameB (bs x).data.toList = true from hnb]
              clear hw4
              obtain ⟨ad2, hA2, _, b0, b1, b2, b3, b4, b5⟩ := en_cells (HL2.out.below (HB93.out.trans (HB4.out.mono HB93.out.size))) HEJ.out
              obtain rfl : ad = ad2 := by injection hA2
              simp only at b0 b1 b2 b3 b4 b5
              go_wp2_with fail
              refine (r9Key_any _ (bs x)).mono ?_
              rintro e w5 ⟨rfl, rfl⟩
              rw [show keyB (bs x).data.toList = false from hkb]
              go_wp2_with fail
              go_quiet (fail)
              obtain ⟨V, hV⟩ : ∃ V0, V0 = w4.drewN nq := ⟨_, rfl⟩
              have v0 : V.cell? (ad.add (j * 6)) = some (.string (bs x)) := by rw [hV]; exact b0
              have v1 : V.cell? ⟨(ad.add (j * 6)).block, (ad.add (j * 6)).off + 1, none⟩ = some (.int .i64 kd) := by rw [hV]; exact b1
              have v2 : V.cell? ⟨(ad.add (j * 6)).block, (ad.add (j * 6)).off + 2, none⟩ = some (.int .i64 pt) := by rw [hV]; exact b2
              have v3 : V.cell? ⟨(ad.add (j * 6)).block, (ad.add (j * 6)).off + 3, none⟩ = some (.int .i64 at_) := by rw [hV]; exact b3
              have v4 : V.cell? ⟨(ad.add (j * 6)).block, (ad.add (j * 6)).off + 4, none⟩ = some (.int .i64 nm) := by rw [hV]; exact b4
              have HBV : Hid (Below W.heap.size W V) := Lib.hid (by rw [hV]; exact below_drewN (HB3.out.trans (HB4.out.mono HB3.out.size)) _)
              have HB9V : Hid (Below W2.heap.size W2 V) := Lib.hid (by rw [hV]; exact below_drewN (HB93.out.trans (HB4.out.mono HB93.out.size)) _)
              have HOV : Hid (V.ownsRow W.heap.size 45 3 (.slice AN n cn) n (nmv ts)) := Lib.hid (by rw [hV]; exact own_below HO3.out (below_drewN HB4.out _))
              have HFV := Lib.hid (HFW.out.below HBV.out HFW.out.lt)
              rw [← hV]
              clear hV b0 b1 b2 b3 b4 b5 z0 a0 a1 a2 a3 a4 a5
              go_wp2_with fail
              go_still_tail 17, (by kernel_rfl)
              change wpList _ _ _ _ _ V.drew
              have HOU : Hid (V.drew.ownsRow W.heap.size 45 3 (.slice AN n cn) n (nmv ts)) := HOV
              have HBU : Hid (Below W.heap.size W V.drew) := Lib.hid HBV.out.drew
              have HB9U : Hid (Below W2.heap.size W2 V.drew) := Lib.hid HB9V.out.drew
              clear v0 v1 v2 v3 v4
              generalize V.drew = U at HOU HBU HB9U ⊢
              go_wp2_with fail
              refine (r15put_any U AN n cn ts ⟨x, kd, nm⟩ (RdN.of_own HOU.out) (by omega) hnc).mono ?_
              rintro e w6 ⟨Ap, np, cp, rfl, ho, hb⟩
              obtain rfl : np = n + 1 := by
                have h1 := ownN_len ho
                have h2 := ownN_len HOU.out
                rw [putN_len] at h1
                omega
              have HOP := Lib.hid (own_base ho HBU.out.size)
              have HBP := Lib.hid (HBU.out.trans (hb.mono HBU.out.size))
              have HB9P := Lib.hid (HB9U.out.trans (hb.mono HB9U.out.size))
              have hcp := own_capV ho
              clear ho hb
              go_wp2_with fail
              go_roundw
              case rel => exact ⟨j + 1, n + 1, cp, Ap, putN ts ⟨x, kd, nm⟩, by omega, rfl, by go_num, hcp, by omega, HOP, HBP, HB9P, Lib.hid (by rw [HN.out, HEE.out, if_pos rfl])⟩
              case measure => simp [intOf]; omega
            | true =>
              obtain rfl : e = .returned (.tuple #[.agg #[.string ⟨#[]⟩, .int .i64 0, .int .i64 0], .bool false]) := he
              have HEE : Hid (errE gdN ts ⟨x, kd, pt, at_, nm, ms⟩ = 9) := Lib.hid (by rw [HER.out]; simp [hc, gdN, hnb, hkb])
              obtain ⟨ad1, hA1, _, z0, _, _, _, _, _⟩ := en_cells (HL2.out.below (HB93.out.alloc HB93.out.size (.cells #[.string ⟨#[]⟩, .int .i64 0, .int .i64 0] 45))) HEJ.out
              obtain rfl : ad = ad1 := by injection hA1
              simp only at z0
              go_wp2_with fail
              refine (rname_any _ (bs x) (by rw [bs_size]; exact HNAM.out)).mono ?_
              rintro e w4 ⟨rfl, hw4⟩
              have HB4 := Lib.hid (show Below w3.heap.size w3 w4 by rw [← hw4]; first | exact below_setRow ((Below.refl _ _).alloc (Nat.le_refl _) _) (Nat.le_refl _) _ | exact (Below.refl _ _).alloc (Nat.le_refl _) _)
              rw [show nameB (bs x).data.toList = true from hnb]
              clear hw4
              obtain ⟨ad2, hA2, _, b0, b1, b2, b3, b4, b5⟩ := en_cells (HL2.out.below (HB93.out.trans (HB4.out.mono HB93.out.size))) HEJ.out
              obtain rfl : ad = ad2 := by injection hA2
              simp only at b0 b1 b2 b3 b4 b5
              go_wp2_with fail
              refine (r9Key_any _ (bs x)).mono ?_
              rintro e w5 ⟨rfl, rfl⟩
              rw [show keyB (bs x).data.toList = true from hkb]
              go_wp2_with fail
              go_quiet (fail)
              obtain ⟨V, hV⟩ : ∃ V0, V0 = w4.drewN nq := ⟨_, rfl⟩
              have v0 : V.cell? (ad.add (j * 6)) = some (.string (bs x)) := by rw [hV]; exact b0
              have v1 : V.cell? ⟨(ad.add (j * 6)).block, (ad.add (j * 6)).off + 1, none⟩ = some (.int .i64 kd) := by rw [hV]; exact b1
              have v2 : V.cell? ⟨(ad.add (j * 6)).block, (ad.add (j * 6)).off + 2, none⟩ = some (.int .i64 pt) := by rw [hV]; exact b2
              have v3 : V.cell? ⟨(ad.add (j * 6)).block, (ad.add (j * 6)).off + 3, none⟩ = some (.int .i64 at_) := by rw [hV]; exact b3
              have v4 : V.cell? ⟨(ad.add (j * 6)).block, (ad.add (j * 6)).off + 4, none⟩ = some (.int .i64 nm) := by rw [hV]; exact b4
              have HBV : Hid (Below W.heap.size W V) := Lib.hid (by rw [hV]; exact below_drewN (HB3.out.trans (HB4.out.mono HB3.out.size)) _)
              have HB9V : Hid (Below W2.heap.size W2 V) := Lib.hid (by rw [hV]; exact below_drewN (HB93.out.trans (HB4.out.mono HB93.out.size)) _)
              have HOV : Hid (V.ownsRow W.heap.size 45 3 (.slice AN n cn) n (nmv ts)) := Lib.hid (by rw [hV]; exact own_below HO3.out (below_drewN HB4.out _))
              have HFV := Lib.hid (HFW.out.below HBV.out HFW.out.lt)
              rw [← hV]
              clear hV b0 b1 b2 b3 b4 b5 z0 a0 a1 a2 a3 a4 a5
              have HRE : Hid (R = ([], (9, pt, (at_ : Int), x))) := Lib.hid (by rw [HN.out, HEE.out, if_neg (by decide)])
              go_wp2_with fail
              go_still_tail 18, (by kernel_rfl)
              change wpList _ _ _ _ _ V.drew
              have HFU : Hid (Blk V.drew (w.heap.size + 1) 30 #[.int .i64 0, .int .i64 0, .int .i64 0, .string ⟨#[]⟩]) := HFV
              have HBU : Hid (Below W.heap.size W V.drew) := Lib.hid HBV.out.drew
              clear v0 v1 v2 v3 v4
              generalize V.drew = U at HFU HBU ⊢
              go_wp2_with (refine wpList_store_row rfl 30 _ _ rfl (w.heap.size + 1) #[.int .i64 9, .int .i64 pt, .int .i64 at_, .string (bs x)] rfl rfl _ _ HFU.out fau_size rfl (fau_one _ _ _ _) ?_)
              (try simp only [Exit.inBlock, Exit.then]); refine bodyPost_ret (results_tc rfl _ _ _ _ _ _ _ rfl (setRow_heap _ _ _ _ _ _ HFU.out) Tryd.underlying30 rfl (by kernel_rfl)) rfl ?_
              exact OutN.of HRE.out (ownN_nil _ _ _) (below_setRow (HBW.out.trans (HBU.out.mono HBW.out.size)) (Nat.le_succ _) _)
      | some f =>
        by_cases hc : ms ≤ (at_ : Int)
        · cases hnb : nameB x with
          | false =>
            obtain rfl : e = .returned (.tuple #[.agg #[.string (bs f.name), .int .i64 f.kind, .int .i64 f.num], .bool true]) := he
            have HEE : Hid (errE gdN ts ⟨x, kd, pt, at_, nm, ms⟩ = 7) := Lib.hid (by rw [HER.out]; simp [hc])
            obtain ⟨ad1, hA1, _, z0, _, _, _, _, _⟩ := en_cells (HL2.out.below (HB93.out.alloc HB93.out.size (.cells #[.string (bs f.name), .int .i64 f.kind, .int .i64 f.num] 45))) HEJ.out
            obtain rfl : ad = ad1 := by injection hA1
            simp only at z0
            go_wp2_with fail
            refine (rname_any _ (bs x) (by rw [bs_size]; exact HNAM.out)).mono ?_
            rintro e w4 ⟨rfl, hw4⟩
            have HB4 := Lib.hid (show Below w3.heap.size w3 w4 by rw [← hw4]; first | exact below_setRow ((Below.refl _ _).alloc (Nat.le_refl _) _) (Nat.le_refl _) _ | exact (Below.refl _ _).alloc (Nat.le_refl _) _)
            rw [show nameB (bs x).data.toList = false from hnb]
            clear hw4
            obtain ⟨ad2, hA2, _, b0, b1, b2, b3, b4, b5⟩ := en_cells (HL2.out.below (HB93.out.trans (HB4.out.mono HB93.out.size))) HEJ.out
            obtain rfl : ad = ad2 := by injection hA2
            simp only at b0 b1 b2 b3 b4 b5
            go_wp2_with fail
            go_quiet (fail)
            obtain ⟨V, hV⟩ : ∃ V0, V0 = w4.drewN nq := ⟨_, rfl⟩
            have v0 : V.cell? (ad.add (j * 6)) = some (.string (bs x)) := by rw [hV]; exact b0
            have v1 : V.cell? ⟨(ad.add (j * 6)).block, (ad.add (j * 6)).off + 1, none⟩ = some (.int .i64 kd) := by rw [hV]; exact b1
            have v2 : V.cell? ⟨(ad.add (j * 6)).block, (ad.add (j * 6)).off + 2, none⟩ = some (.int .i64 pt) := by rw [hV]; exact b2
            have v3 : V.cell? ⟨(ad.add (j * 6)).block, (ad.add (j * 6)).off + 3, none⟩ = some (.int .i64 at_) := by rw [hV]; exact b3
            have v4 : V.cell? ⟨(ad.add (j * 6)).block, (ad.add (j * 6)).off + 4, none⟩ = some (.int .i64 nm) := by rw [hV]; exact b4
            have HBV : Hid (Below W.heap.size W V) := Lib.hid (by rw [hV]; exact below_drewN (HB3.out.trans (HB4.out.mono HB3.out.size)) _)
            have HB9V : Hid (Below W2.heap.size W2 V) := Lib.hid (by rw [hV]; exact below_drewN (HB93.out.trans (HB4.out.mono HB93.out.size)) _)
            have HOV : Hid (V.ownsRow W.heap.size 45 3 (.slice AN n cn) n (nmv ts)) := Lib.hid (by rw [hV]; exact own_below HO3.out (below_drewN HB4.out _))
            have HFV := Lib.hid (HFW.out.below HBV.out HFW.out.lt)
            rw [← hV]
            clear hV b0 b1 b2 b3 b4 b5 z0 a0 a1 a2 a3 a4 a5
            have HRE : Hid (R = ([], (7, pt, (at_ : Int), x))) := Lib.hid (by rw [HN.out, HEE.out, if_neg (by decide)])
            go_wp2_with fail
            go_still_tail 18, (by kernel_rfl)
            change wpList _ _ _ _ _ V.drew
            have HFU : Hid (Blk V.drew (w.heap.size + 1) 30 #[.int .i64 0, .int .i64 0, .int .i64 0, .string ⟨#[]⟩]) := HFV
            have HBU : Hid (Below W.heap.size W V.drew) := Lib.hid HBV.out.drew
            clear v0 v1 v2 v3 v4
            generalize V.drew = U at HFU HBU ⊢
            go_wp2_with (refine wpList_store_row rfl 30 _ _ rfl (w.heap.size + 1) #[.int .i64 7, .int .i64 pt, .int .i64 at_, .string (bs x)] rfl rfl _ _ HFU.out fau_size rfl (fau_one _ _ _ _) ?_)
            (try simp only [Exit.inBlock, Exit.then]); refine bodyPost_ret (results_tc rfl _ _ _ _ _ _ _ rfl (setRow_heap _ _ _ _ _ _ HFU.out) Tryd.underlying30 rfl (by kernel_rfl)) rfl ?_
            exact OutN.of HRE.out (ownN_nil _ _ _) (below_setRow (HBW.out.trans (HBU.out.mono HBW.out.size)) (Nat.le_succ _) _)
          | true =>
            cases hkb : keyB x with
            | false =>
              obtain rfl : e = .returned (.tuple #[.agg #[.string (bs f.name), .int .i64 f.kind, .int .i64 f.num], .bool true]) := he
              have HEE : Hid (errE gdN ts ⟨x, kd, pt, at_, nm, ms⟩ = 7) := Lib.hid (by rw [HER.out]; simp [hc])
              obtain ⟨ad1, hA1, _, z0, _, _, _, _, _⟩ := en_cells (HL2.out.below (HB93.out.alloc HB93.out.size (.cells #[.string (bs f.name), .int .i64 f.kind, .int .i64 f.num] 45))) HEJ.out
              obtain rfl : ad = ad1 := by injection hA1
              simp only at z0
              go_wp2_with fail
              refine (rname_any _ (bs x) (by rw [bs_size]; exact HNAM.out)).mono ?_
              rintro e w4 ⟨rfl, hw4⟩
              have HB4 := Lib.hid (show Below w3.heap.size w3 w4 by rw [← hw4]; first | exact below_setRow ((Below.refl _ _).alloc (Nat.le_refl _) _) (Nat.le_refl _) _ | exact (Below.refl _ _).alloc (Nat.le_refl _) _)
              rw [show nameB (bs x).data.toList = true from hnb]
              clear hw4
              obtain ⟨ad2, hA2, _, b0, b1, b2, b3, b4, b5⟩ := en_cells (HL2.out.below (HB93.out.trans (HB4.out.mono HB93.out.size))) HEJ.out
              obtain rfl : ad = ad2 := by injection hA2
              simp only at b0 b1 b2 b3 b4 b5
              go_wp2_with fail
              refine (r9Key_any _ (bs x)).mono ?_
              rintro e w5 ⟨rfl, rfl⟩
              rw [show keyB (bs x).data.toList = false from hkb]
              go_wp2_with fail
              go_quiet (fail)
              obtain ⟨V, hV⟩ : ∃ V0, V0 = w4.drewN nq := ⟨_, rfl⟩
              have v0 : V.cell? (ad.add (j * 6)) = some (.string (bs x)) := by rw [hV]; exact b0
              have v1 : V.cell? ⟨(ad.add (j * 6)).block, (ad.add (j * 6)).off + 1, none⟩ = some (.int .i64 kd) := by rw [hV]; exact b1
              have v2 : V.cell? ⟨(ad.add (j * 6)).block, (ad.add (j * 6)).off + 2, none⟩ = some (.int .i64 pt) := by rw [hV]; exact b2
              have v3 : V.cell? ⟨(ad.add (j * 6)).block, (ad.add (j * 6)).off + 3, none⟩ = some (.int .i64 at_) := by rw [hV]; exact b3
              have v4 : V.cell? ⟨(ad.add (j * 6)).block, (ad.add (j * 6)).off + 4, none⟩ = some (.int .i64 nm) := by rw [hV]; exact b4
              have HBV : Hid (Below W.heap.size W V) := Lib.hid (by rw [hV]; exact below_drewN (HB3.out.trans (HB4.out.mono HB3.out.size)) _)
              have HB9V : Hid (Below W2.heap.size W2 V) := Lib.hid (by rw [hV]; exact below_drewN (HB93.out.trans (HB4.out.mono HB93.out.size)) _)
              have HOV : Hid (V.ownsRow W.heap.size 45 3 (.slice AN n cn) n (nmv ts)) := Lib.hid (by rw [hV]; exact own_below HO3.out (below_drewN HB4.out _))
              have HFV := Lib.hid (HFW.out.below HBV.out HFW.out.lt)
              rw [← hV]
              clear hV b0 b1 b2 b3 b4 b5 z0 a0 a1 a2 a3 a4 a5
              have HRE : Hid (R = ([], (7, pt, (at_ : Int), x))) := Lib.hid (by rw [HN.out, HEE.out, if_neg (by decide)])
              go_wp2_with fail
              go_still_tail 18, (by kernel_rfl)
              change wpList _ _ _ _ _ V.drew
              have HFU : Hid (Blk V.drew (w.heap.size + 1) 30 #[.int .i64 0, .int .i64 0, .int .i64 0, .string ⟨#[]⟩]) := HFV
              have HBU : Hid (Below W.heap.size W V.drew) := Lib.hid HBV.out.drew
              clear v0 v1 v2 v3 v4
              generalize V.drew = U at HFU HBU ⊢
              go_wp2_with (refine wpList_store_row rfl 30 _ _ rfl (w.heap.size + 1) #[.int .i64 7, .int .i64 pt, .int .i64 at_, .string (bs x)] rfl rfl _ _ HFU.out fau_size rfl (fau_one _ _ _ _) ?_)
              (try simp only [Exit.inBlock, Exit.then]); refine bodyPost_ret (results_tc rfl _ _ _ _ _ _ _ rfl (setRow_heap _ _ _ _ _ _ HFU.out) Tryd.underlying30 rfl (by kernel_rfl)) rfl ?_
              exact OutN.of HRE.out (ownN_nil _ _ _) (below_setRow (HBW.out.trans (HBU.out.mono HBW.out.size)) (Nat.le_succ _) _)
            | true =>
              obtain rfl : e = .returned (.tuple #[.agg #[.string (bs f.name), .int .i64 f.kind, .int .i64 f.num], .bool true]) := he
              have HEE : Hid (errE gdN ts ⟨x, kd, pt, at_, nm, ms⟩ = 7) := Lib.hid (by rw [HER.out]; simp [hc])
              obtain ⟨ad1, hA1, _, z0, _, _, _, _, _⟩ := en_cells (HL2.out.below (HB93.out.alloc HB93.out.size (.cells #[.string (bs f.name), .int .i64 f.kind, .int .i64 f.num] 45))) HEJ.out
              obtain rfl : ad = ad1 := by injection hA1
              simp only at z0
              go_wp2_with fail
              refine (rname_any _ (bs x) (by rw [bs_size]; exact HNAM.out)).mono ?_
              rintro e w4 ⟨rfl, hw4⟩
              have HB4 := Lib.hid (show Below w3.heap.size w3 w4 by rw [← hw4]; first | exact below_setRow ((Below.refl _ _).alloc (Nat.le_refl _) _) (Nat.le_refl _) _ | exact (Below.refl _ _).alloc (Nat.le_refl _) _)
              rw [show nameB (bs x).data.toList = true from hnb]
              clear hw4
              obtain ⟨ad2, hA2, _, b0, b1, b2, b3, b4, b5⟩ := en_cells (HL2.out.below (HB93.out.trans (HB4.out.mono HB93.out.size))) HEJ.out
              obtain rfl : ad = ad2 := by injection hA2
              simp only at b0 b1 b2 b3 b4 b5
              go_wp2_with fail
              refine (r9Key_any _ (bs x)).mono ?_
              rintro e w5 ⟨rfl, rfl⟩
              rw [show keyB (bs x).data.toList = true from hkb]
              go_wp2_with fail
              go_quiet (fail)
              obtain ⟨V, hV⟩ : ∃ V0, V0 = w4.drewN nq := ⟨_, rfl⟩
              have v0 : V.cell? (ad.add (j * 6)) = some (.string (bs x)) := by rw [hV]; exact b0
              have v1 : V.cell? ⟨(ad.add (j * 6)).block, (ad.add (j * 6)).off + 1, none⟩ = some (.int .i64 kd) := by rw [hV]; exact b1
              have v2 : V.cell? ⟨(ad.add (j * 6)).block, (ad.add (j * 6)).off + 2, none⟩ = some (.int .i64 pt) := by rw [hV]; exact b2
              have v3 : V.cell? ⟨(ad.add (j * 6)).block, (ad.add (j * 6)).off + 3, none⟩ = some (.int .i64 at_) := by rw [hV]; exact b3
              have v4 : V.cell? ⟨(ad.add (j * 6)).block, (ad.add (j * 6)).off + 4, none⟩ = some (.int .i64 nm) := by rw [hV]; exact b4
              have HBV : Hid (Below W.heap.size W V) := Lib.hid (by rw [hV]; exact below_drewN (HB3.out.trans (HB4.out.mono HB3.out.size)) _)
              have HB9V : Hid (Below W2.heap.size W2 V) := Lib.hid (by rw [hV]; exact below_drewN (HB93.out.trans (HB4.out.mono HB93.out.size)) _)
              have HOV : Hid (V.ownsRow W.heap.size 45 3 (.slice AN n cn) n (nmv ts)) := Lib.hid (by rw [hV]; exact own_below HO3.out (below_drewN HB4.out _))
              have HFV := Lib.hid (HFW.out.below HBV.out HFW.out.lt)
              rw [← hV]
              clear hV b0 b1 b2 b3 b4 b5 z0 a0 a1 a2 a3 a4 a5
              have HRE : Hid (R = ([], (7, pt, (at_ : Int), x))) := Lib.hid (by rw [HN.out, HEE.out, if_neg (by decide)])
              go_wp2_with fail
              go_still_tail 18, (by kernel_rfl)
              change wpList _ _ _ _ _ V.drew
              have HFU : Hid (Blk V.drew (w.heap.size + 1) 30 #[.int .i64 0, .int .i64 0, .int .i64 0, .string ⟨#[]⟩]) := HFV
              have HBU : Hid (Below W.heap.size W V.drew) := Lib.hid HBV.out.drew
              clear v0 v1 v2 v3 v4
              generalize V.drew = U at HFU HBU ⊢
              go_wp2_with (refine wpList_store_row rfl 30 _ _ rfl (w.heap.size + 1) #[.int .i64 7, .int .i64 pt, .int .i64 at_, .string (bs x)] rfl rfl _ _ HFU.out fau_size rfl (fau_one _ _ _ _) ?_)
              (try simp only [Exit.inBlock, Exit.then]); refine bodyPost_ret (results_tc rfl _ _ _ _ _ _ _ rfl (setRow_heap _ _ _ _ _ _ HFU.out) Tryd.underlying30 rfl (by kernel_rfl)) rfl ?_
              exact OutN.of HRE.out (ownN_nil _ _ _) (below_setRow (HBW.out.trans (HBU.out.mono HBW.out.size)) (Nat.le_succ _) _)
        · cases hnb : nameB x with
          | false =>
            obtain rfl : e = .returned (.tuple #[.agg #[.string (bs f.name), .int .i64 f.kind, .int .i64 f.num], .bool true]) := he
            have HEE : Hid (errE gdN ts ⟨x, kd, pt, at_, nm, ms⟩ = 9) := Lib.hid (by rw [HER.out]; simp [hc, gdN, hnb])
            obtain ⟨ad1, hA1, _, z0, _, _, _, _, _⟩ := en_cells (HL2.out.below (HB93.out.alloc HB93.out.size (.cells #[.string (bs f.name), .int .i64 f.kind, .int .i64 f.num] 45))) HEJ.out
            obtain rfl : ad = ad1 := by injection hA1
            simp only at z0
            go_wp2_with fail
            refine (rname_any _ (bs x) (by rw [bs_size]; exact HNAM.out)).mono ?_
            rintro e w4 ⟨rfl, hw4⟩
            have HB4 := Lib.hid (show Below w3.heap.size w3 w4 by rw [← hw4]; first | exact below_setRow ((Below.refl _ _).alloc (Nat.le_refl _) _) (Nat.le_refl _) _ | exact (Below.refl _ _).alloc (Nat.le_refl _) _)
            rw [show nameB (bs x).data.toList = false from hnb]
            clear hw4
            obtain ⟨ad2, hA2, _, b0, b1, b2, b3, b4, b5⟩ := en_cells (HL2.out.below (HB93.out.trans (HB4.out.mono HB93.out.size))) HEJ.out
            obtain rfl : ad = ad2 := by injection hA2
            simp only at b0 b1 b2 b3 b4 b5
            go_wp2_with fail
            go_quiet (fail)
            obtain ⟨V, hV⟩ : ∃ V0, V0 = w4.drewN nq := ⟨_, rfl⟩
            have v0 : V.cell? (ad.add (j * 6)) = some (.string (bs x)) := by rw [hV]; exact b0
            have v1 : V.cell? ⟨(ad.add (j * 6)).block, (ad.add (j * 6)).off + 1, none⟩ = some (.int .i64 kd) := by rw [hV]; exact b1
            have v2 : V.cell? ⟨(ad.add (j * 6)).block, (ad.add (j * 6)).off + 2, none⟩ = some (.int .i64 pt) := by rw [hV]; exact b2
            have v3 : V.cell? ⟨(ad.add (j * 6)).block, (ad.add (j * 6)).off + 3, none⟩ = some (.int .i64 at_) := by rw [hV]; exact b3
            have v4 : V.cell? ⟨(ad.add (j * 6)).block, (ad.add (j * 6)).off + 4, none⟩ = some (.int .i64 nm) := by rw [hV]; exact b4
            have HBV : Hid (Below W.heap.size W V) := Lib.hid (by rw [hV]; exact below_drewN (HB3.out.trans (HB4.out.mono HB3.out.size)) _)
            have HB9V : Hid (Below W2.heap.size W2 V) := Lib.hid (by rw [hV]; exact below_drewN (HB93.out.trans (HB4.out.mono HB93.out.size)) _)
            have HOV : Hid (V.ownsRow W.heap.size 45 3 (.slice AN n cn) n (nmv ts)) := Lib.hid (by rw [hV]; exact own_below HO3.out (below_drewN HB4.out _))
            have HFV := Lib.hid (HFW.out.below HBV.out HFW.out.lt)
            rw [← hV]
            clear hV b0 b1 b2 b3 b4 b5 z0 a0 a1 a2 a3 a4 a5
            have HRE : Hid (R = ([], (9, pt, (at_ : Int), x))) := Lib.hid (by rw [HN.out, HEE.out, if_neg (by decide)])
            go_wp2_with fail
            go_still_tail 18, (by kernel_rfl)
            change wpList _ _ _ _ _ V.drew
            have HFU : Hid (Blk V.drew (w.heap.size + 1) 30 #[.int .i64 0, .int .i64 0, .int .i64 0, .string ⟨#[]⟩]) := HFV
            have HBU : Hid (Below W.heap.size W V.drew) := Lib.hid HBV.out.drew
            clear v0 v1 v2 v3 v4
            generalize V.drew = U at HFU HBU ⊢
            go_wp2_with (refine wpList_store_row rfl 30 _ _ rfl (w.heap.size + 1) #[.int .i64 9, .int .i64 pt, .int .i64 at_, .string (bs x)] rfl rfl _ _ HFU.out fau_size rfl (fau_one _ _ _ _) ?_)
            (try simp only [Exit.inBlock, Exit.then]); refine bodyPost_ret (results_tc rfl _ _ _ _ _ _ _ rfl (setRow_heap _ _ _ _ _ _ HFU.out) Tryd.underlying30 rfl (by kernel_rfl)) rfl ?_
            exact OutN.of HRE.out (ownN_nil _ _ _) (below_setRow (HBW.out.trans (HBU.out.mono HBW.out.size)) (Nat.le_succ _) _)
          | true =>
            cases hkb : keyB x with
            | false =>
              obtain rfl : e = .returned (.tuple #[.agg #[.string (bs f.name), .int .i64 f.kind, .int .i64 f.num], .bool true]) := he
              have HEE : Hid (errE gdN ts ⟨x, kd, pt, at_, nm, ms⟩ = 10) := Lib.hid (by rw [HER.out]; simp [hc, gdN, hnb, hkb])
              obtain ⟨ad1, hA1, _, z0, _, _, _, _, _⟩ := en_cells (HL2.out.below (HB93.out.alloc HB93.out.size (.cells #[.string (bs f.name), .int .i64 f.kind, .int .i64 f.num] 45))) HEJ.out
              obtain rfl : ad = ad1 := by injection hA1
              simp only at z0
              go_wp2_with fail
              refine (rname_any _ (bs x) (by rw [bs_size]; exact HNAM.out)).mono ?_
              rintro e w4 ⟨rfl, hw4⟩
              have HB4 := Lib.hid (show Below w3.heap.size w3 w4 by rw [← hw4]; first | exact below_setRow ((Below.refl _ _).alloc (Nat.le_refl _) _) (Nat.le_refl _) _ | exact (Below.refl _ _).alloc (Nat.le_refl _) _)
              rw [show nameB (bs x).data.toList = true from hnb]
              clear hw4
              obtain ⟨ad2, hA2, _, b0, b1, b2, b3, b4, b5⟩ := en_cells (HL2.out.below (HB93.out.trans (HB4.out.mono HB93.out.size))) HEJ.out
              obtain rfl : ad = ad2 := by injection hA2
              simp only at b0 b1 b2 b3 b4 b5
              go_wp2_with fail
              refine (r9Key_any _ (bs x)).mono ?_
              rintro e w5 ⟨rfl, rfl⟩
              rw [show keyB (bs x).data.toList = false from hkb]
              go_wp2_with fail
              go_quiet (fail)
              obtain ⟨V, hV⟩ : ∃ V0, V0 = w4.drewN nq := ⟨_, rfl⟩
              have v0 : V.cell? (ad.add (j * 6)) = some (.string (bs x)) := by rw [hV]; exact b0
              have v1 : V.cell? ⟨(ad.add (j * 6)).block, (ad.add (j * 6)).off + 1, none⟩ = some (.int .i64 kd) := by rw [hV]; exact b1
              have v2 : V.cell? ⟨(ad.add (j * 6)).block, (ad.add (j * 6)).off + 2, none⟩ = some (.int .i64 pt) := by rw [hV]; exact b2
              have v3 : V.cell? ⟨(ad.add (j * 6)).block, (ad.add (j * 6)).off + 3, none⟩ = some (.int .i64 at_) := by rw [hV]; exact b3
              have v4 : V.cell? ⟨(ad.add (j * 6)).block, (ad.add (j * 6)).off + 4, none⟩ = some (.int .i64 nm) := by rw [hV]; exact b4
              have HBV : Hid (Below W.heap.size W V) := Lib.hid (by rw [hV]; exact below_drewN (HB3.out.trans (HB4.out.mono HB3.out.size)) _)
              have HB9V : Hid (Below W2.heap.size W2 V) := Lib.hid (by rw [hV]; exact below_drewN (HB93.out.trans (HB4.out.mono HB93.out.size)) _)
              have HOV : Hid (V.ownsRow W.heap.size 45 3 (.slice AN n cn) n (nmv ts)) := Lib.hid (by rw [hV]; exact own_below HO3.out (below_drewN HB4.out _))
              have HFV := Lib.hid (HFW.out.below HBV.out HFW.out.lt)
              rw [← hV]
              clear hV b0 b1 b2 b3 b4 b5 z0 a0 a1 a2 a3 a4 a5
              have HRE : Hid (R = ([], (10, pt, (at_ : Int), x))) := Lib.hid (by rw [HN.out, HEE.out, if_neg (by decide)])
              go_wp2_with fail
              go_still_tail 18, (by kernel_rfl)
              change wpList _ _ _ _ _ V.drew
              have HFU : Hid (Blk V.drew (w.heap.size + 1) 30 #[.int .i64 0, .int .i64 0, .int .i64 0, .string ⟨#[]⟩]) := HFV
              have HBU : Hid (Below W.heap.size W V.drew) := Lib.hid HBV.out.drew
              clear v0 v1 v2 v3 v4
              generalize V.drew = U at HFU HBU ⊢
              go_wp2_with (refine wpList_store_row rfl 30 _ _ rfl (w.heap.size + 1) #[.int .i64 10, .int .i64 pt, .int .i64 at_, .string (bs x)] rfl rfl _ _ HFU.out fau_size rfl (fau_one _ _ _ _) ?_)
              (try simp only [Exit.inBlock, Exit.then]); refine bodyPost_ret (results_tc rfl _ _ _ _ _ _ _ rfl (setRow_heap _ _ _ _ _ _ HFU.out) Tryd.underlying30 rfl (by kernel_rfl)) rfl ?_
              exact OutN.of HRE.out (ownN_nil _ _ _) (below_setRow (HBW.out.trans (HBU.out.mono HBW.out.size)) (Nat.le_succ _) _)
            | true =>
              obtain rfl : e = .returned (.tuple #[.agg #[.string (bs f.name), .int .i64 f.kind, .int .i64 f.num], .bool true]) := he
              have HEE : Hid (errE gdN ts ⟨x, kd, pt, at_, nm, ms⟩ = 9) := Lib.hid (by rw [HER.out]; simp [hc, gdN, hnb, hkb])
              obtain ⟨ad1, hA1, _, z0, _, _, _, _, _⟩ := en_cells (HL2.out.below (HB93.out.alloc HB93.out.size (.cells #[.string (bs f.name), .int .i64 f.kind, .int .i64 f.num] 45))) HEJ.out
              obtain rfl : ad = ad1 := by injection hA1
              simp only at z0
              go_wp2_with fail
              refine (rname_any _ (bs x) (by rw [bs_size]; exact HNAM.out)).mono ?_
              rintro e w4 ⟨rfl, hw4⟩
              have HB4 := Lib.hid (show Below w3.heap.size w3 w4 by rw [← hw4]; first | exact below_setRow ((Below.refl _ _).alloc (Nat.le_refl _) _) (Nat.le_refl _) _ | exact (Below.refl _ _).alloc (Nat.le_refl _) _)
              rw [show nameB (bs x).data.toList = true from hnb]
              clear hw4
              obtain ⟨ad2, hA2, _, b0, b1, b2, b3, b4, b5⟩ := en_cells (HL2.out.below (HB93.out.trans (HB4.out.mono HB93.out.size))) HEJ.out
              obtain rfl : ad = ad2 := by injection hA2
              simp only at b0 b1 b2 b3 b4 b5
              go_wp2_with fail
              refine (r9Key_any _ (bs x)).mono ?_
              rintro e w5 ⟨rfl, rfl⟩
              rw [show keyB (bs x).data.toList = true from hkb]
              go_wp2_with fail
              go_quiet (fail)
              obtain ⟨V, hV⟩ : ∃ V0, V0 = w4.drewN nq := ⟨_, rfl⟩
              have v0 : V.cell? (ad.add (j * 6)) = some (.string (bs x)) := by rw [hV]; exact b0
              have v1 : V.cell? ⟨(ad.add (j * 6)).block, (ad.add (j * 6)).off + 1, none⟩ = some (.int .i64 kd) := by rw [hV]; exact b1
              have v2 : V.cell? ⟨(ad.add (j * 6)).block, (ad.add (j * 6)).off + 2, none⟩ = some (.int .i64 pt) := by rw [hV]; exact b2
              have v3 : V.cell? ⟨(ad.add (j * 6)).block, (ad.add (j * 6)).off + 3, none⟩ = some (.int .i64 at_) := by rw [hV]; exact b3
              have v4 : V.cell? ⟨(ad.add (j * 6)).block, (ad.add (j * 6)).off + 4, none⟩ = some (.int .i64 nm) := by rw [hV]; exact b4
              have HBV : Hid (Below W.heap.size W V) := Lib.hid (by rw [hV]; exact below_drewN (HB3.out.trans (HB4.out.mono HB3.out.size)) _)
              have HB9V : Hid (Below W2.heap.size W2 V) := Lib.hid (by rw [hV]; exact below_drewN (HB93.out.trans (HB4.out.mono HB93.out.size)) _)
              have HOV : Hid (V.ownsRow W.heap.size 45 3 (.slice AN n cn) n (nmv ts)) := Lib.hid (by rw [hV]; exact own_below HO3.out (below_drewN HB4.out _))
              have HFV := Lib.hid (HFW.out.below HBV.out HFW.out.lt)
              rw [← hV]
              clear hV b0 b1 b2 b3 b4 b5 z0 a0 a1 a2 a3 a4 a5
              have HRE : Hid (R = ([], (9, pt, (at_ : Int), x))) := Lib.hid (by rw [HN.out, HEE.out, if_neg (by decide)])
              go_wp2_with fail
              go_still_tail 18, (by kernel_rfl)
              change wpList _ _ _ _ _ V.drew
              have HFU : Hid (Blk V.drew (w.heap.size + 1) 30 #[.int .i64 0, .int .i64 0, .int .i64 0, .string ⟨#[]⟩]) := HFV
              have HBU : Hid (Below W.heap.size W V.drew) := Lib.hid HBV.out.drew
              clear v0 v1 v2 v3 v4
              generalize V.drew = U at HFU HBU ⊢
              go_wp2_with (refine wpList_store_row rfl 30 _ _ rfl (w.heap.size + 1) #[.int .i64 9, .int .i64 pt, .int .i64 at_, .string (bs x)] rfl rfl _ _ HFU.out fau_size rfl (fau_one _ _ _ _) ?_)
              (try simp only [Exit.inBlock, Exit.then]); refine bodyPost_ret (results_tc rfl _ _ _ _ _ _ _ rfl (setRow_heap _ _ _ _ _ _ HFU.out) Tryd.underlying30 rfl (by kernel_rfl)) rfl ?_
              exact OutN.of HRE.out (ownN_nil _ _ _) (below_setRow (HBW.out.trans (HBU.out.mono HBW.out.size)) (Nat.le_succ _) _)
    · have HE : Hid (R = (ts, (0, 0, 0, []))) := Lib.hid (by rw [HS.out, List.drop_of_length_le (by rw [HLE.out, ← HNN.out]; omega)]; rfl)
      go_wp2_with (refine wpList_store_row rfl 30 _ _ rfl (w.heap.size + 1) #[.int .i64 0, .int .i64 0, .int .i64 0, .string ⟨#[]⟩] rfl rfl _ _ HFR.out fau_size rfl (fau_one _ _ _ _) ?_)
      (try simp only [Exit.inBlock, Exit.then]); refine bodyPost_ret (results_tc rfl _ _ _ _ _ _ _ rfl (setRow_heap _ _ _ _ _ _ HFR.out) Tryd.underlying30 rfl (by kernel_rfl)) rfl ?_
      exact OutN.of HE.out (own_base (own_setRow9 HO.out HFW.out.lt _) HBW.out.size) (below_setRow HBR.out (Nat.le_succ _) _)

end Go.Proofs.YtgeglhgkibcpfaaDoor
