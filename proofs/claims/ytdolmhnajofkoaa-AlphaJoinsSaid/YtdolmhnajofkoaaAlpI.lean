/- Contract of alpha.Text. -/
import Derived.Test.YtdolmhnajofkoaaAlpH
import Derived.Test.YtdolmhnajofkoaaAlpR3
namespace Go.Proofs.Ytdolmhnajofkoaa
open Go.RowKit

/-- the numbers behind the first k -/
theorem RdI.tail {w : World} {B : Nat} {A : Option Addr} {n : Nat} {zs : List Int} (h : RdI w B A n zs) {k cap : Nat} (hk : k ≤ n) (hc : n ≤ cap) :
    RdI w B (if cap = k then A else A.map (·.add k)) (n - k) (zs.drop k) := by
  have hl := h.1
  refine ⟨by rw [List.length_drop, h.1], fun hn => ?_, fun j => by rw [getD_drop]; exact h.2.2 _⟩
  obtain ⟨ad, rfl, hb, hcell⟩ := h.2.1 (by omega)
  rw [if_neg (by omega)]
  refine ⟨ad.add k, rfl, by rw [blk_add]; exact hb, fun j hj => ?_⟩
  rw [List.length_drop] at hj
  rw [add_add, hcell (k + j) (by omega), getD_drop]

theorem bc_snoc (l : List UInt8) (x : UInt8) : bc l ++ bc [x] = bc (l ++ [x]) := (bc_append l [x]).symm

def slLen : Value → Nat
  | .slice _ n _ => n
  | _ => 0

/-- how far the text is known: a text that has these codes begins so, and goes on with what is left -/
def Went (zs : List Int) (t : List UInt8) (r : List Int) : Prop := ∀ u, codes u = zs → ∃ v, u = t ++ v ∧ codes v = r

theorem Went.start (zs : List Int) : Went zs [] zs := fun u h => ⟨u, rfl, h⟩

theorem Went.split {zs : List Int} {t : List UInt8} {r : List Int} (h : Went zs t r) (hr : r ≠ []) {u : List UInt8} (hu : codes u = zs) :
    ∃ v, u = t ++ annC r :: v ∧ codes v = r.drop (annN r) ∧ annN r ≤ r.length := by
  obtain ⟨v, rfl, hv⟩ := h u hu
  cases v with
  | nil => exact absurd hv.symm hr
  | cons c v =>
    rw [codes_cons] at hv
    obtain ⟨h1, h2⟩ := ann_one c (codes v)
    rw [hv] at h1 h2
    refine ⟨v, by rw [h1], ?_, ?_⟩
    · rw [h2, ← hv, List.drop_left]
    · rw [h2, ← hv, List.length_append]; omega

theorem Went.step {zs : List Int} {t : List UInt8} {r : List Int} (h : Went zs t r) (hr : r ≠ []) : Went zs (t ++ [annC r]) (r.drop (annN r)) := fun u hu => by
  obtain ⟨v, h1, h2, _⟩ := h.split hr hu
  exact ⟨v, by rw [h1, List.append_assoc]; rfl, h2⟩

theorem Went.short {zs : List Int} {t : List UInt8} {r : List Int} (h : Went zs t r) (hr : r ≠ []) (hl : r.length < annN r) : TextRel zs [] 16 :=
  .inr ⟨rfl, rfl, fun u _ hu => by
    obtain ⟨v, _, _, h3⟩ := h.split hr hu
    omega⟩

theorem Went.no {zs : List Int} {t : List UInt8} (h : Went zs t []) (hn : textB t = false ∨ codes t ≠ zs) : TextRel zs [] 16 :=
  .inr ⟨rfl, rfl, fun u hx hu => by
    obtain ⟨v, h1, h2⟩ := h u hu
    have hv : v = [] := by
      cases v with
      | nil => rfl
      | cons c v =>
        have h3 := (oneL_len c).1
        have h4 := congrArg List.length h2
        rw [codes_cons, List.length_append, List.length_nil] at h4
        omega
    rw [hv, List.append_nil] at h1
    subst h1
    rcases hn with hn | hn
    · rw [hn] at hx; cases hx
    · exact hn hu⟩

set_option maxRecDepth 100000 in
set_option maxHeartbeats 6400000 in
theorem textof_any (w : World) (A : Option Addr) (n c : Nat) (zs : List Int) (h : RdI w w.heap.size A n zs) (hn : (n : Int) ≤ 100000) (hc : n ≤ c) :
    Calls Try.prog 15 #[.slice A n c] w (TextOut w zs) := by
  obtain ⟨i0, hi, hz0, hsz, hby⟩ := inf_parts Try.inf_u8
  have HI := Lib.hid hi
  have HZ0 := Lib.hid hz0
  have HSZ := Lib.hid hsz
  have HBY := Lib.hid hby
  have H := Lib.hid h
  have HC := Lib.hid hc
  clear hi hz0 hsz hby h hc
  go_enter Try.func15, Try.ntmps15
  go_wp2_with fail
  go_loopw [4, 5] (fun v i wr => ∃ (A4 R : Option Addr) (n4 c4 nr cr : Nat) (t : List UInt8) (r : List Int), v = .slice A4 n4 c4 ∧ i = .slice R nr cr ∧ n4 + nr ≤ n ∧ Hid (nr ≤ cr) ∧ Hid (RdI w w.heap.size R nr r) ∧ Hid (wr.ownsRow w.heap.size 5 1 (.slice A4 n4 c4) n4 (bc t)) ∧ Hid (Below w.heap.size w wr) ∧ Hid (Went zs t r)) (fun _ i _ => slLen i)
  case atStart => exact ⟨none, A, 0, 0, n, c, [], zs, rfl, rfl, by omega, HC, H, Lib.hid (own_nil w _ _), Lib.hid (Below.refl _ _), Lib.hid (Went.start zs)⟩
  case round =>
    obtain ⟨A4, R, n4, c4, nr, cr, t, r, rfl, rfl, hnn, HCR, HR, HO, HB, HW⟩ := hrel
    have HRL := Lib.hid HR.out.1
    by_cases hlt : 0 < nr
    · have HNE : Hid (r ≠ []) := Lib.hid (by
        intro e
        have := HRL.out
        rw [e, List.length_nil] at this
        omega)
      have hrd := HR.out.below HB.out
      go_wp2_with fail
      refine (announced_any wr _ R nr cr r hrd HB.out.size hlt (by omega)).mono ?_
      rintro e w3 ⟨rfl, hb3⟩
      have HB3 := Lib.hid (HB.out.trans (hb3.mono HB.out.size))
      have HO3 := Lib.hid (own_below HO.out hb3)
      have HWS := Lib.hid (HW.out.step HNE.out)
      have HSH := Lib.hid (HW.out.short HNE.out)
      have hm := annN_pos r
      obtain ⟨m, hm2⟩ : ∃ m, m = annN r := ⟨_, rfl⟩
      obtain ⟨x, hx⟩ : ∃ x, x = annC r := ⟨_, rfl⟩
      rw [← hm2, ← hx] at HWS
      rw [← hm2] at HSH hm ⊢
      rw [← hx]
      obtain ⟨hm0, hm3⟩ := hm
      clear hm2 hx hb3 hrd
      by_cases hs : nr < m
      · have HT := Lib.hid (HSH.out (by rw [HRL.out]; exact hs))
        go_wp2_with fail
        go_ret2
        exact ⟨[], 16, HT.out, rfl, HB3.out⟩
      · have htail := HR.out.tail (k := m) (by omega) HCR.out
        obtain ⟨R2, hR2⟩ : ∃ x, x = (if cr = m then R else R.map (·.add m)) := ⟨_, rfl⟩
        rw [← hR2] at htail
        have HR2 := Lib.hid htail
        have hsz2 := HB3.out.size
        clear htail
        go_wp2_with (at_builtin; refine wpList_app _ rfl _ _ 33 rfl w.heap.size 5 i0 Try.underlying33 HI.out HZ0.out HSZ.out HBY.out _ n4 _ rfl (HO3.out.alloc _) _ _ 1 1 [x] rfl (Rd.one w3 x _) (by omega) (by simp; omega) ?_; intro A5 c5 w8 hown2 hg2)
        have HO4 := Lib.hid hown2
        have HB4 := Lib.hid (app_below HO3.out HB3.out hg2)
        clear hown2 hg2
        go_roundw
        case rel => exact ⟨A5, _, n4 + 1, c5, nr - m, cr - m, t ++ [x], r.drop m, rfl, rfl, by omega, Lib.hid (by have := HCR.out; omega), Lib.hid (by rw [← hR2]; exact HR2.out), HO4, HB4, HWS⟩
        case measure => simp [slLen]; omega
    · obtain rfl : nr = 0 := by omega
      have hr0 : r = [] := List.eq_nil_of_length_eq_zero HRL.out
      subst hr0
      have ht4 : t.length = n4 := own_len HO.out
      have HT4 := Lib.hid ht4
      have hcv := fun W (hb : Below wr.heap.size wr W) => Rd.toStr (P := Try.prog) ((Rd.of_own HO.out).below hb) 33 9 5 c4 Try.underlying33 Try.underlying5 Try.underlying9
      have HCV := Lib.hid hcv
      have hcv1 := hcv wr (Below.refl _ _)
      clear hcv ht4
      go_wp2_with fail
      refine (codes_any wr (bs t) (by rw [bs_size, HT4.out]; omega)).mono ?_
      rw [data_bs]
      rintro e w3 ⟨A1, n1, c1, rfl, ho1, hb1⟩
      clear hcv1
      have HB3 := Lib.hid (HB.out.trans (hb1.mono HB.out.size))
      by_cases ht : textB t = true
      · have e1 : cdZ t = codes t := by unfold cdZ; rw [if_pos ht]
        have e2 : cdE t = 0 := by unfold cdE; rw [if_pos ht]
        rw [e1] at ho1
        rw [e2]
        have HTX := Lib.hid ht
        have R1 := Lib.hid (RdI.of_iv ho1 (codes_fit _))
        have hn1 : n1 ≤ 300000 := by
          have h1 := ownI_len ho1
          have h2 := (codes_len t).2
          have := HT4.out
          omega
        have HB1 := Lib.hid hb1
        clear e1 e2 ht ho1 hb1
        go_wp2_with fail
        refine (equal_any w3 _ _ A1 A n1 n c1 c _ zs R1.out (H.out.below HB3.out) (by omega) (by omega)).mono ?_
        rintro e w4 ⟨rfl, hb4⟩
        have HB4 := Lib.hid (HB3.out.trans (hb4.mono HB3.out.size))
        have hcv2 := HCV.out w4 (HB1.out.trans (hb4.mono HB1.out.size))
        clear hb4
        by_cases heq : codes t = zs
        · have HR1 : Hid (TextRel zs t 0) := Lib.hid (.inl ⟨HTX.out, heq, rfl⟩)
          have e3 : eqI (codes t) zs = true := by unfold eqI; rw [decide_eq_true_eq]; exact heq
          rw [e3]
          clear e3 heq
          go_wp2_with fail
          go_ret2
          exact ⟨t, 0, HR1.out, rfl, HB4.out⟩
        · have HR1 : Hid (TextRel zs [] 16) := Lib.hid (HW.out.no (.inr heq))
          have e3 : eqI (codes t) zs = false := by unfold eqI; rw [decide_eq_false_iff_not]; exact heq
          rw [e3]
          clear e3 heq hcv2
          go_wp2_with fail
          go_ret2
          exact ⟨[], 16, HR1.out, rfl, HB4.out⟩
      · rw [Bool.not_eq_true] at ht
        have e2 : cdE t = 13 := by unfold cdE; rw [ht]; rfl
        have HR1 : Hid (TextRel zs [] 16) := Lib.hid (HW.out.no (.inl ht))
        rw [e2]
        clear e2 ht ho1 hb1
        go_wp2_with fail
        go_ret2
        exact ⟨[], 16, HR1.out, rfl, HB3.out⟩

end Go.Proofs.Ytdolmhnajofkoaa
