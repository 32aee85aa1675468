/- Contracts of layer 6's reference: begins, Text. -/
import Derived.Test.YtdolmhnajofkoaaAlpR2
namespace Go.Proofs.Ytdolmhnajofkoaa
open Go.RowKit

/-- a list begins with another -/
def begI (zs ys : List Int) : Bool := decide (zs.take ys.length = ys)

theorem begI_long {zs ys : List Int} (h : zs.length < ys.length) : begI zs ys = false := by
  unfold begI
  rw [decide_eq_false]
  intro e
  have := congrArg List.length e
  rw [List.length_take] at this
  omega

theorem begI_at {zs ys : List Int} {j : Nat} (hj : j < ys.length) (h : zs.getD j 0 ≠ ys.getD j 0) : begI zs ys = false := by
  unfold begI
  rw [decide_eq_false]
  intro e
  refine h ?_
  rw [← e]
  simp [List.getD, hj]

theorem begI_all {zs ys : List Int} (h0 : ys.length ≤ zs.length) (h : ∀ m, m < ys.length → zs.getD m 0 = ys.getD m 0) : begI zs ys = true := by
  unfold begI
  rw [decide_eq_true_eq]
  refine List.ext_getElem (by rw [List.length_take]; omega) fun m h1 h2 => ?_
  have e := h m h2
  rw [List.getElem_take]
  simpa [List.getD, h2, show m < zs.length from by omega] using e

theorem begI_split {zs ys : List Int} (h : begI zs ys = true) : zs = ys ++ zs.drop ys.length := by
  unfold begI at h
  rw [decide_eq_true_eq] at h
  have e := List.take_append_drop ys.length zs
  rw [h] at e
  exact e.symm

theorem begI_mk (ys r : List Int) : begI (ys ++ r) ys = true := by
  unfold begI
  rw [decide_eq_true_eq, List.take_left]

theorem getD_drop (zs : List Int) (k m : Nat) : (zs.drop k).getD m 0 = zs.getD (k + m) 0 := by
  simp [List.getD, List.getElem?_drop]

set_option maxRecDepth 100000 in
set_option maxHeartbeats 3200000 in
theorem rbegins_any (w : World) (B B' : Nat) (A A' : Option Addr) (n n' c c' k : Nat) (zs ys : List Int) (h : RdI w B A n zs) (h' : RdI w B' A' n' ys) (hk : k ≤ n) (hn : (n : Int) ≤ 1000000) (hn' : (n' : Int) ≤ 1000000) :
    Calls Try.prog 28 #[.slice A n c, .int .i64 k, .slice A' n' c'] w fun e w' => e = .returned (.bool (begI (zs.drop k) ys)) ∧ Below w.heap.size w w' := by
  have H := Lib.hid h
  have H' := Lib.hid h'
  clear h h'
  by_cases hl : (n : Int) - (k : Int) < (n' : Int)
  · have HF : Hid (begI (zs.drop k) ys = false) := Lib.hid (begI_long (by rw [List.length_drop, H.out.1, H'.out.1]; omega))
    go_enter Try.func28, Try.ntmps28
    go_wp2_with fail
    go_ret
    exact ⟨bool_ret6 HF.out.symm, Below.refl _ _⟩
  · go_enter Try.func28, Try.ntmps28
    go_wp2_with fail
    go_loopw [7] (fun i wr => ∃ (j : Nat), j ≤ n' ∧ i = .int .i64 j ∧ Below w.heap.size w wr ∧ (∀ p, wr.cell? p = w.cell? p) ∧ Hid (∀ m, m < j → (zs.drop k).getD m 0 = ys.getD m 0)) (fun i _ => n' - (intOf i).toNat)
    case atStart => exact ⟨0, Nat.zero_le _, rfl, Below.refl _ _, fun _ => rfl, Lib.hid (fun m hm => absurd hm (by omega))⟩
    case round =>
      obtain ⟨j, hj, rfl, hbel, hcells, HE⟩ := hrel
      by_cases hlt : j < n'
      · obtain ⟨ad, rfl, _, hc⟩ := H.out.2.1 (by omega)
        obtain ⟨ad', rfl, _, hc'⟩ := H'.out.2.1 (by omega)
        have k1 := (hcells (ad.add (k + j))).trans (hc (k + j) (by rw [H.out.1]; omega))
        have k2 := (hcells (ad'.add j)).trans (hc' j (by rw [H'.out.1]; exact hlt))
        obtain ⟨z, hz⟩ : ∃ z, z = zs.getD (k + j) 0 := ⟨_, rfl⟩
        obtain ⟨y, hy⟩ : ∃ y, y = ys.getD j 0 := ⟨_, rfl⟩
        rw [← hz] at k1
        rw [← hy] at k2
        have HC := Lib.hid hcells
        have hsum : IntKind.i64.wrap ((k : Int) + (j : Int)) = (k : Int) + (j : Int) := IntWalk.i64_in _ (by omega)
        have hsum0 : 0 ≤ (k : Int) + (j : Int) := by omega
        have hsum1 : (k : Int) + (j : Int) < (n : Int) := by omega
        have hsumt : ((k : Int) + (j : Int)).toNat = k + j := by omega
        clear hc hc' hcells hl
        by_cases e : z = y
        · have HE2 : Hid (∀ m, m < j + 1 → (zs.drop k).getD m 0 = ys.getD m 0) := Lib.hid (fun m hm => by
            by_cases e2 : m = j
            · subst e2; rw [getD_drop, ← hz, ← hy, e]
            · exact HE.out m (by omega))
          have t0 : (z != y) = false := by rw [e]; simp
          clear hz hy e HE
          go_wp2_with fail
          go_quiet (fail)
          clear hsum hsumt
          go_wp2_with fail
          go_roundw
          case rel => exact ⟨j + 1, by omega, by go_num, ⟨hbel.os, hbel.tape, hbel.output, hbel.size, hbel.block⟩, HC.out, HE2⟩
          case measure => simp [intOf]; omega
        · have HF : Hid (begI (zs.drop k) ys = false) := Lib.hid (begI_at (j := j) (by rw [H'.out.1]; exact hlt) (by rw [getD_drop, ← hz, ← hy]; exact e))
          have t0 : (z != y) = true := by rw [bne_iff_ne]; exact e
          clear hz hy e HE
          go_wp2_with fail
          go_quiet (fail)
          clear hsum hsumt
          go_wp2_with fail
          go_ret
          exact ⟨bool_ret6 HF.out.symm, ⟨hbel.os, hbel.tape, hbel.output, hbel.size, hbel.block⟩⟩
      · have HC := Lib.hid hcells
        have HF : Hid (begI (zs.drop k) ys = true) := Lib.hid (begI_all (by rw [List.length_drop, H.out.1, H'.out.1]; omega) (fun m hm => HE.out m (by rw [H'.out.1] at hm; omega)))
        clear hcells hl
        go_wp2_with fail
        go_ret
        exact ⟨bool_ret6 HF.out.symm, hbel⟩

/-- what Text tells of numbers: the text whose codes they are, or that there is none -/
def TextRel (zs : List Int) (t : List UInt8) (er : Int) : Prop :=
  (textB t = true ∧ codes t = zs ∧ er = 0) ∨ (t = [] ∧ er = 16 ∧ ∀ u, textB u = true → codes u ≠ zs)

theorem TextRel.unique {zs : List Int} {t t' : List UInt8} {er er' : Int} (h : TextRel zs t er) (h' : TextRel zs t' er') : t = t' ∧ er = er' := by
  rcases h with ⟨h1, h2, h3⟩ | ⟨h1, h2, h3⟩ <;> rcases h' with ⟨g1, g2, g3⟩ | ⟨g1, g2, g3⟩
  · exact ⟨codes_inj (h2.trans g2.symm), h3.trans g3.symm⟩
  · exact absurd h2 (g3 t h1)
  · exact absurd g2 (h3 t' g1)
  · exact ⟨h1.trans g1.symm, h2.trans g2.symm⟩

def TextOut (w : World) (zs : List Int) (e : Ending) (w' : World) : Prop :=
  ∃ t er, TextRel zs t er ∧ e = .returned (.tuple #[.string (bs t), .int .i64 er]) ∧ Below w.heap.size w w'

/-- the byte that comes next, as far as it was sought -/
def NextOk (zs : List Int) (c : Nat) (d : Int) : Prop :=
  (d = -1 ∧ ∀ b : UInt8, isTx b = true → b.toNat < c → begI zs (oneL b) = false) ∨ ∃ b : UInt8, (b.toNat : Int) = d ∧ isTx b = true ∧ begI zs (oneL b) = true

theorem tx_range {b : UInt8} (h : isTx b = true) : 10 ≤ b.toNat ∧ b.toNat < 127 := by
  simp [isTx] at h
  omega

theorem textB_all {t : List UInt8} (h : textB t = true) : t.all isTx = true := by
  unfold textB at h
  simp only [Bool.and_eq_true] at h
  first | exact h.1 | exact h.2

theorem text_none {zs : List Int} {t : List UInt8} {k : Nat} (hk : k < zs.length) (hc : codes t ++ zs.drop k = zs) (h : NextOk (zs.drop k) 127 (-1)) : TextRel zs [] 16 := by
  refine .inr ⟨rfl, rfl, fun u hu he => ?_⟩
  obtain ⟨c, r', hc1, hr⟩ := no_text (s := t) (r := zs.drop k) (textB_all hu) (he.trans hc.symm) (by
    intro e
    have := congrArg List.length e
    rw [List.length_drop, List.length_nil] at this
    omega)
  rcases h with ⟨_, h⟩ | ⟨b, hb, _⟩
  · have := h c hc1 (tx_range hc1).2
    rw [hr, begI_mk] at this
    cases this
  · omega

theorem NextOk.no {zs : List Int} {c : Nat} {d : Int} (h : NextOk zs c d) (hn : ∀ b : UInt8, isTx b = true → b.toNat = c → begI zs (oneL b) = false) : NextOk zs (c + 1) d := by
  rcases h with ⟨h1, h2⟩ | h
  · refine .inl ⟨h1, fun b hb hlt => ?_⟩
    by_cases e : b.toNat = c
    · exact hn b hb e
    · exact h2 b hb (by omega)
  · exact .inr h

theorem bs_snoc (t : List UInt8) (b : UInt8) : bs t ++ ⟨#[b]⟩ = bs (t ++ [b]) := by
  apply ByteArray.ext
  simp [bs]

set_option maxRecDepth 100000 in
set_option maxHeartbeats 6400000 in
theorem rtextof_any (w : World) (A : Option Addr) (n c : Nat) (zs : List Int) (h : RdI w w.heap.size A n zs) (hn : (n : Int) ≤ 100000) :
    Calls Try.prog 16 #[.slice A n c] w (TextOut w zs) := by
  have H := Lib.hid h
  have HL := Lib.hid h.1
  clear h
  go_enter Try.func16, Try.ntmps16
  go_wp2_with fail
  go_loopw [4, 5] (fun v i wr => ∃ (t : List UInt8) (k : Nat), k ≤ n ∧ i = .int .i64 k ∧ v = .string (bs t) ∧ Hid (t.all isTx = true) ∧ Hid (codes t ++ zs.drop k = zs) ∧ Hid (Below w.heap.size w wr)) (fun _ i _ => n - (intOf i).toNat)
  case atStart => exact ⟨[], 0, Nat.zero_le _, rfl, rfl, Lib.hid rfl, Lib.hid rfl, Lib.hid (Below.refl _ _)⟩
  case round =>
    obtain ⟨t, k, hk, rfl, rfl, HT, HC, HB⟩ := hrel
    by_cases hlt : k < n
    · go_wp2_with fail
      go_loopw [6, 7] (fun v i wi => ∃ (d : Int) (b : Nat), 10 ≤ b ∧ b ≤ 127 ∧ i = .int .i64 b ∧ v = .int .i64 d ∧ Hid (NextOk (zs.drop k) b d) ∧ Hid (Below w.heap.size w wi)) (fun _ i _ => 127 - (intOf i).toNat)
      case atStart => exact ⟨-1, 10, by omega, by omega, rfl, rfl, Lib.hid (.inl ⟨rfl, fun b hb hl => by have := tx_range hb; omega⟩), HB⟩
      case round =>
        obtain ⟨d, b, hb10, hb127, rfl, rfl, HN, HB2⟩ := hrel
        by_cases hb : b < 127
        · obtain ⟨x, rfl⟩ : ∃ x : UInt8, x.toNat = b := ⟨UInt8.ofNat b, by rw [UInt8.toNat_ofNat']; omega⟩
          by_cases htx : isTx x = true
          · have hq : (x.toNat : Int) = 10 ∨ ((x.toNat : Int) ≠ 10 ∧ 32 ≤ (x.toNat : Int)) := by simp [isTx] at htx; omega
            have HX := Lib.hid htx
            clear htx
            have t0 : (((x.toNat : Int) == 10) = true) ∨ (((x.toNat : Int) == 10) = false ∧ 32 ≤ (x.toNat : Int)) := by
              rcases hq with hq | ⟨hq, hq2⟩
              · exact .inl (by simpa using hq)
              · exact .inr ⟨by simpa using hq, hq2⟩
            clear hq
            have hm : (x.toNat : Int) % 256 = x.toNat := by omega
            rcases t0 with t0 | ⟨t0, t1⟩
            all_goals
              go_wp2_with fail
              refine (rone_any _ x).mono ?_
              rintro e w2 ⟨A1, m, c1, rfl, ho1, hb1⟩
              have hm3 : m ≤ 3 := by have := ownI_len ho1; have := oneL_len x; omega
              have HB3 := Lib.hid (HB2.out.trans (hb1.mono HB2.out.size))
              have HO1 := Lib.hid (RdI.of_iv ho1 (oneL_fit _))
              clear ho1 hb1
              go_wp2_with fail
              refine (rbegins_any w2 _ _ _ _ _ _ _ _ k zs (oneL x) (H.out.below HB3.out) HO1.out hk (by omega) (by omega)).mono ?_
              rintro e w3 ⟨rfl, hb4⟩
              have HB4 := Lib.hid (HB3.out.trans (hb4.mono HB3.out.size))
              clear hb4
              by_cases hbg : begI (zs.drop k) (oneL x) = true
              · have HBG := Lib.hid hbg
                clear hbg
                rw [HBG.out]
                go_wp2_with fail
                go_roundw
                case rel => exact ⟨(x.toNat : Int), x.toNat + 1, by omega, by omega, by go_num, rfl, Lib.hid (.inr ⟨x, rfl, HX.out, HBG.out⟩), HB4⟩
                case measure => simp [intOf]; omega
              · rw [Bool.not_eq_true] at hbg
                have HBG := Lib.hid hbg
                clear hbg
                rw [HBG.out]
                go_wp2_with fail
                go_roundw
                case rel => exact ⟨d, x.toNat + 1, by omega, by omega, by go_num, rfl, Lib.hid (HN.out.no fun y _ hy => by rw [UInt8.toNat_inj.1 hy]; exact HBG.out), HB4⟩
                case measure => simp [intOf]; omega
          · have hq : (x.toNat : Int) ≠ 10 ∧ ¬ 32 ≤ (x.toNat : Int) := by simp [isTx] at htx; omega
            have HX : Hid (∀ y : UInt8, isTx y = true → y.toNat = x.toNat → begI (zs.drop k) (oneL y) = false) := Lib.hid (fun y hy he => by rw [UInt8.toNat_inj.1 he] at hy; exact absurd hy htx)
            obtain ⟨q1, q2⟩ := hq
            have t0 : ((x.toNat : Int) == 10) = false := by simpa using q1
            clear q1 htx
            go_wp2_with fail
            go_roundw
            case rel => exact ⟨d, x.toNat + 1, by omega, by omega, by go_num, rfl, Lib.hid (HN.out.no HX.out), HB2⟩
            case measure => simp [intOf]; omega
        · obtain rfl : b = 127 := by omega
          by_cases hd : d < 0
          · have HR : Hid (TextRel zs [] 16) := Lib.hid (by
              have hN := HN.out
              have hd1 : d = -1 := by
                rcases hN with ⟨h1, _⟩ | ⟨y, hy, _⟩
                · exact h1
                · omega
              subst hd1
              exact text_none (by rw [HL.out]; exact hlt) HC.out hN)
            go_wp2_with fail
            go_ret2
            exact ⟨[], 16, HR.out, rfl, HB2.out⟩
          · obtain ⟨y, hy, hytx, hybg⟩ : ∃ y : UInt8, (y.toNat : Int) = d ∧ isTx y = true ∧ begI (zs.drop k) (oneL y) = true := by
              rcases HN.out with ⟨h1, _⟩ | h
              · omega
              · exact h
            subst hy
            have hyr := tx_range hytx
            have hspl := begI_split hybg
            have hoL := oneL_len y
            have hkl : k + (oneL y).length ≤ n := by
              have e := congrArg List.length hspl
              rw [List.length_append, List.length_drop, List.length_drop] at e
              have := HL.out
              omega
            have HC2 : Hid (codes (t ++ [y]) ++ zs.drop (k + (oneL y).length) = zs) := Lib.hid (by
              rw [codes_snoc, List.append_assoc, ← List.drop_drop]
              rw [← hspl]
              exact HC.out)
            have HT2 : Hid ((t ++ [y]).all isTx = true) := Lib.hid (by rw [List.all_append, HT.out]; simp [hytx])
            obtain ⟨m, hm⟩ : ∃ m, m = (oneL y).length := ⟨_, rfl⟩
            rw [← hm] at hkl hoL HC2
            have HM := Lib.hid hm
            clear hspl hybg hytx hm HC HT HN
            have hmod : (y.toNat : Int) % 256 = y.toNat := by omega
            have hcv := Rd.toStr (P := Try.prog) (Rd.one wr y 5) 33 9 5 1 Try.underlying33 Try.underlying5 Try.underlying9
            have hts : (bs t).size ≤ 1000000 := by
              have h1 := codes_len t
              have h2 := congrArg List.length HC2.out
              have h3 := HL.out
              rw [List.length_append, codes_snoc, List.length_append] at h2
              rw [bs_size]
              omega
            have hsn : bs t ++ ⟨[y].toArray⟩ = bs (t ++ [y]) := bs_snoc t y
            have hadd : ∀ w9 : World, (Op.stringOp .add (bs t) ⟨#[y]⟩).run Try.prog w9 = .ok (.string (bs (t ++ [y]))) w9 := by
              intro w9
              rw [← bs_snoc]
              have : (⟨#[y]⟩ : ByteArray).size = 1 := rfl
              simp [Op.stringOp, this]
              omega
            go_wp2_with fail
            refine (rone_any _ y).mono ?_
            rintro e w2 ⟨A1, m1, c1, rfl, ho1, hb1⟩
            have hm1 : m1 = m := by have := ownI_len ho1; have := HM.out; omega
            subst hm1
            have HB3 := Lib.hid ((HB2.out.alloc HB2.out.size _).trans (hb1.mono (by have := HB2.out.size; simp; omega)))
            clear ho1 hb1 hcv
            go_wp2_with fail
            go_roundw
            case rel => exact ⟨t ++ [y], k + m1, by omega, by go_num, by rw [← hsn], HT2, HC2, HB3⟩
            case measure => simp [intOf]; omega
    · obtain rfl : k = n := by omega
      have HE : Hid (codes t = zs) := Lib.hid (by
        have e := HC.out
        rw [List.drop_of_length_le (by rw [HL.out]; omega), List.append_nil] at e
        exact e)
      have hts : ((bs t).size : Int) ≤ 1000000 := by
        have h1 := codes_len t
        rw [HE.out, HL.out] at h1
        rw [bs_size]
        omega
      have HTS := Lib.hid hts
      clear hts
      by_cases hx : textB t = true
      · have HR : Hid (TextRel zs t 0) := Lib.hid (.inl ⟨hx, HE.out, rfl⟩)
        have HX : Hid (textB (bs t).data.toList = true) := Lib.hid (by rw [data_bs]; exact hx)
        clear hx
        go_wp2_with fail
        refine (rtext_any wr (bs t) HTS.out).mono ?_
        rintro e w1 ⟨rfl, rfl⟩
        rw [HX.out]
        go_wp2_with fail
        go_ret2
        exact ⟨t, 0, HR.out, rfl, HB.out⟩
      · have HR : Hid (TextRel zs [] 16) := Lib.hid (.inr ⟨rfl, rfl, fun u hu he => hx (by rw [← codes_inj (he.trans HE.out.symm)]; exact hu)⟩)
        have HX : Hid (textB (bs t).data.toList = false) := Lib.hid (by rw [data_bs]; rw [Bool.not_eq_true] at hx; exact hx)
        clear hx
        go_wp2_with fail
        refine (rtext_any wr (bs t) HTS.out).mono ?_
        rintro e w1 ⟨rfl, rfl⟩
        rw [HX.out]
        go_wp2_with fail
        go_ret2
        exact ⟨[], 16, HR.out, rfl, HB.out⟩

end Go.Proofs.Ytdolmhnajofkoaa
