/- Contracts of the references of stage 8 (codes, said, Text, All, Same), of slices.Equal at []string and []byte, of the statements' few and small; what a made pool holds. -/
import Derived.Test.YtpfkkmjodhpkoaaDoorPolP
import Derived.Test.YtpfkkmjodhpkoaaDoorAbbC
namespace Go.Proofs.YtpfkkmjodhpkoaaDoor
open Go.RowKit
set_option linter.unusedVariables false

/-- the numbers behind the first k; the first k -/
theorem RdI.rest {w : World} {B : Nat} {A : Option Addr} {n : Nat} {zs : List Int} (h : RdI w B A n zs) {k cap : Nat} (hk : k ≤ n) (hc : n ≤ cap) :
    RdI w B (if cap = k then A else A.map (·.add k)) (n - k) (zs.drop k) := by
  have hl := h.1
  refine ⟨by rw [List.length_drop, h.1], fun hn => ?_, fun j => by rw [getD_drop]; exact h.2.2 _⟩
  obtain ⟨ad, rfl, hb, hcell⟩ := h.2.1 (by omega)
  rw [if_neg (by omega)]
  refine ⟨ad.add k, rfl, by rw [blk_add]; exact hb, fun j hj => ?_⟩
  rw [List.length_drop] at hj
  rw [add_add, hcell (k + j) (by omega), getD_drop]

theorem RdI.first {w : World} {B : Nat} {A : Option Addr} {n : Nat} {zs : List Int} (h : RdI w B A n zs) (k : Nat) (hk : k ≤ n) : RdI w B A k (zs.take k) := by
  have hl := h.1
  have ht : ∀ j, j < k → (zs.take k).getD j 0 = zs.getD j 0 := fun j hj => by simp [List.getD, hj]
  refine ⟨by rw [List.length_take]; omega, fun hn => ?_, fun j => ?_⟩
  · obtain ⟨ad, e, hb, hcell⟩ := h.2.1 (by omega)
    refine ⟨ad, e, hb, fun j hj => ?_⟩
    rw [List.length_take] at hj
    rw [hcell j (by omega), ht j (by omega)]
  · by_cases hj : j < k
    · rw [ht j hj]; exact h.2.2 j
    · have e : (zs.take k).getD j 0 = 0 := by
        rw [List.getD, List.getElem?_eq_none (by rw [List.length_take]; omega)]
        rfl
      rw [e]
      omega

def slLn : Value → Nat
  | .slice _ n _ => n
  | _ => 0

theorem getD_in {zs : List Int} {j : Nat} (h : j < zs.length) : zs.getD j 0 ∈ zs := by
  have e : zs.getD j 0 = zs[j] := by simp [List.getD, h]
  rw [e]
  exact List.getElem_mem h

theorem cdZ_fit (l : List UInt8) : FitI (cdZ l) := by
  unfold cdZ
  split
  · exact codes_fit l
  · intro j; simp

theorem pcodes_take {ps : List Pc} {j : Nat} (h : j < ps.length) : pcodes (ps.take (j + 1)) = pcodes (ps.take j) ++ pcode (ps[j]?.getD ([], 0)) := by
  rw [List.take_succ_eq_append_getElem h, pcodes_append]
  have e : ps[j]?.getD ([], 0) = ps[j] := by rw [List.getElem?_eq_getElem h]; rfl
  rw [e]
  unfold pcodes
  simp

theorem pcodes_take_le (ps : List Pc) (j : Nat) : (pcodes (ps.take j)).length ≤ (pcodes ps).length := by
  conv => rhs; rw [← List.take_append_drop j ps, pcodes_append, List.length_append]
  omega

set_option maxRecDepth 100000 in
set_option maxHeartbeats 6400000 in
theorem rpcodes_any (w : World) (A : Option Addr) (n c : Nat) (ps : List Pc) (h : RdP w w.heap.size A n ps) (hs : ShortP 1000 ps) (hq : ∀ j : Nat, (ps[j]?.getD ([], 0)).2 ≤ 1000) (hn : (n : Int) ≤ 10000) (hl : (pcodes ps).length ≤ 100000) :
    Calls Tryd.prog 27 #[.slice A n c] w (OutI w.heap.size 3 w (pcodes ps)) := by
  obtain ⟨i0, hi, hz0, hsz, hby⟩ := inf_parts Tryd.inf_int
  have HI := Lib.hid hi
  have HZ0 := Lib.hid hz0
  have HSZ := Lib.hid hsz
  have HBY := Lib.hid hby
  have H := Lib.hid h
  have HL := Lib.hid h.1
  have HS := Lib.hid hs
  have HQ := Lib.hid hq
  clear hi hz0 hsz hby h hs hq
  go_enter Tryd.func27, Tryd.ntmps27
  go_wp2_with fail
  go_loopw [3, 4] (fun v i wr => ∃ (A3 : Option Addr) (m c3 j : Nat), j ≤ n ∧ i = .int .i64 j ∧ v = .slice A3 m c3 ∧ Hid (wr.ownsRow w.heap.size 3 1 (.slice A3 m c3) m (iv (pcodes (ps.take j)))) ∧ Hid (Below w.heap.size w wr)) (fun _ i _ => n - (intOf i).toNat)
  case atStart => exact ⟨none, 0, 0, 0, Nat.zero_le _, rfl, rfl, Lib.hid (ownI_nil w _ _), Lib.hid (Below.refl _ _)⟩
  case round =>
    obtain ⟨A3, m, c3, j, hj, rfl, rfl, HO, HB⟩ := hrel
    have hm : m ≤ 100000 := by
      have h1 := ownI_len HO.out
      have h2 := pcodes_take_le ps j
      omega
    by_cases hlt : j < n
    · obtain ⟨ad, rfl, hab, hcell⟩ := H.out.2 (by omega)
      have hc1 := (hcell j (by rw [HL.out]; exact hlt)).1
      have hc2 := (hcell j (by rw [HL.out]; exact hlt)).2
      have HT := Lib.hid (pcodes_take (ps := ps) (j := j) (by rw [HL.out]; exact hlt))
      have hp := HS.out j
      have hq := HQ.out j
      have hle := pcodes_take_le ps (j + 1)
      have hlm := ownI_len HO.out
      obtain ⟨p, hpp⟩ : ∃ p, p = ps[j]?.getD ([], 0) := ⟨_, rfl⟩
      rw [← hpp] at hc1 hc2 hp hq HT
      rw [HT.out, List.length_append, hlm] at hle
      obtain ⟨x, y⟩ := p
      change x.length ≤ 1000 at hp
      change y ≤ 1000 at hq
      have HC1 := Lib.hid hc1
      have HC2 := Lib.hid hc2
      have k1 := (HB.out.cell (p := ad.add (j * 2)) (by rw [blk_add]; omega)).trans hc1
      have k2 := (HB.out.cell (p := ⟨(ad.add (j * 2)).block, (ad.add (j * 2)).off + 1, none⟩) (by show (ad.add (j * 2)).block < _; rw [blk_add]; omega)).trans hc2
      have hsz := HB.out.size
      clear hcell hpp hc1 hc2 hlm
      by_cases hy : 0 < y
      · have HT2 : Hid (pcodes (ps.take (j + 1)) = pcodes (ps.take j) ++ [30] ++ [y - 1]) := Lib.hid (by
          rw [HT.out]
          unfold pcode
          rw [if_pos hy, List.append_assoc]
          rfl)
        go_wp2_with (at_builtin; first
          | (refine wpList_app1L _ rfl _ _ 25 rfl w.heap.size 3 i0 _ 8 Tryd.underlying25 HI.out HZ0.out HSZ.out HBY.out rfl _ (m + 1) _ rfl (HO4.out.alloc _) ⟨_, 0, none⟩ 1 (.int .i64 (y - 1)) rfl (new_cell _ _ _) rfl (by omega) (by unfold maxLen; omega) (by simp; omega) ?_; intro A5 c5 w9 hown5 hg5 hw5; have HO5 := Lib.hid hown5; have HB5 : Hid (Below w.heap.size w w9) := Lib.hid (app_below HO4.out HB4.out hg5); clear hown5 hg5 hw5)
          | (refine wpList_app1L _ rfl _ _ 25 rfl w.heap.size 3 i0 _ 8 Tryd.underlying25 HI.out HZ0.out HSZ.out HBY.out rfl _ m _ rfl (HO.out.alloc _) ⟨_, 0, none⟩ 1 (.int .i64 30) rfl (new_cell _ _ _) rfl (by omega) (by unfold maxLen; omega) (by simp; omega) ?_; intro A4 c4 w8 hown4 hg4 hw4; have HO4 := Lib.hid hown4; have HB4 : Hid (Below w.heap.size w w8) := Lib.hid (app_below HO.out HB.out hg4); have k4 := (HB4.out.cell (p := ⟨(ad.add (j * 2)).block, (ad.add (j * 2)).off + 1, none⟩) (by show (ad.add (j * 2)).block < _; rw [blk_add]; omega)).trans HC2.out; have hsz4 := HB4.out.size; clear hown4 hg4 hw4))
        go_roundw
        case rel => exact ⟨A5, m + 1 + 1, c5, j + 1, by omega, by go_num, rfl, Lib.hid (by rw [HT2.out, iv_snoc, iv_snoc]; exact HO5.out), HB5⟩
        case measure => simp [intOf]; omega
      · have HT2 : Hid (pcodes (ps.take (j + 1)) = pcodes (ps.take j) ++ cdZ x) := Lib.hid (by
          rw [HT.out]
          unfold pcode
          rw [if_neg hy])
        have hpl : (pcode (x, y)).length = (cdZ x).length := by unfold pcode; rw [if_neg hy]
        rw [hpl] at hle
        go_wp2_with fail
        refine (rcodes_any wr (bs x) (by rw [bs_size]; omega)).mono ?_
        rw [data_bs]
        rintro e w2 ⟨A1, m1, c1, rfl, ho1, hb1⟩
        have R1 := Lib.hid (RdI.of_iv ho1 (cdZ_fit _))
        have hm1 := ownI_len ho1
        have HO3 := Lib.hid (own_below HO.out hb1)
        have HB3 := Lib.hid (HB.out.trans (hb1.mono HB.out.size))
        have hsz3 := HB3.out.size
        clear ho1 hb1
        go_wp2_with (at_builtin; refine wpList_appI _ rfl _ _ 25 rfl w.heap.size 3 i0 Tryd.underlying25 HI.out HZ0.out HSZ.out HBY.out _ m _ rfl HO3.out _ A1 m1 c1 _ rfl R1.out (by omega) (by omega) ?_; intro A5 c5 w5 hown5 hg5 hw5; have HO5 := Lib.hid hown5; have HB5 : Hid (Below w.heap.size w w5) := Lib.hid (app_below0 HO3.out HB3.out hg5); clear hown5 hg5 hw5)
        go_roundw
        case rel => exact ⟨A5, m + m1, c5, j + 1, by omega, by go_num, rfl, Lib.hid (by rw [HT2.out]; exact HO5.out), HB5⟩
        case measure => simp [intOf]; omega
    · have HE : Hid (ps.take j = ps) := Lib.hid (List.take_of_length_le (by rw [HL.out]; omega))
      go_wp2_with fail
      go_ret
      refine ⟨A3, m, c3, rfl, ?_, HB.out⟩
      have h := HO.out
      rw [HE.out] at h
      exact h

theorem unp_range : ∀ (n : Nat) (acc l : List Int) (u : List Nat), u.length ≤ n → isBits u → (∀ z ∈ acc, 0 ≤ z ∧ z ≤ 30) → unp acc u = .ok l → ∀ z ∈ l, 0 ≤ z ∧ z ≤ 30 := by
  intro n
  induction n with
  | zero =>
    intro acc l u hu _ _ h
    rw [List.eq_nil_of_length_eq_zero (by omega : u.length = 0)] at h
    cases h
  | succ n ih =>
    intro acc l u hu hb ha h
    match u, hu, hb, h with
    | [], _, _, h => cases h
    | [_], _, _, h => cases h
    | [_, _], _, _, h => cases h
    | [_, _, _], _, _, h => cases h
    | [_, _, _, _], _, _, h => cases h
    | a :: b :: c :: d :: e :: r, hu, hb, h =>
      have h1 := hb a (by simp)
      have h2 := hb b (by simp)
      have h3 := hb c (by simp)
      have h4 := hb d (by simp)
      have h5 := hb e (by simp)
      have hv : num2 [a, b, c, d, e] = 2 * (2 * (2 * (2 * (2 * 0 + a) + b) + c) + d) + e := rfl
      unfold unp at h
      split at h
      · split at h
        · cases h
        · split at h
          · cases h
          · have h9 : acc = l := by injection h
            rw [← h9]
            exact ha
      · rename_i h31
        refine ih _ _ r (by simp only [List.length_cons] at hu; omega) (fun x hx => hb x (by simp [hx])) (fun z hz => ?_) h
        rcases List.mem_append.mp hz with hz | hz
        · exact ha z hz
        · rw [List.mem_singleton] at hz
          subst hz
          rw [hv] at h31 ⊢
          omega

theorem unpack_range {b : List UInt8} {l : List Int} (h : unpackL b = .ok l) : ∀ z ∈ l, 0 ≤ z ∧ z ≤ 30 :=
  unp_range _ [] l (unb b) (Nat.le_refl _) (isBits_unb b) (fun _ hz => by cases hz) h

theorem unpack_len {b : List UInt8} {l : List Int} (h : unpackL b = .ok l) : 5 * l.length + 5 ≤ 8 * b.length := by
  obtain ⟨m, r, hl, hu, _, _⟩ := unp_ok _ [] l (unb b) (Nat.le_refl _) (isBits_unb b) h
  rw [List.nil_append] at hl
  subst hl
  have h2 := congrArg List.length hu
  rw [unb_len, List.length_append, List.length_append, flat5_len, bits5_len] at h2
  omega

/-- where a text's bytes end -/
def endI (at_ : List Int) (nb : Nat) (j : Nat) : Int := if j + 1 < at_.length then at_.getD (j + 1) 0 else nb

/-- the text that bytes are -/
def bytesT (ab : List (List UInt8)) (l : List UInt8) : List UInt8 × Int :=
  match unpackL l with
  | .ok zs => if (sayL ab zs).2 ≠ 0 then ([], (sayL ab zs).2) else if textB (sayL ab zs).1 then ((sayL ab zs).1, 0) else ([], 13)
  | u => ([], upE u)

/-- the text at a place -/
def textAt (ab : List (List UInt8)) (at_ : List Int) (l : List UInt8) (i : Int) : List UInt8 × Int :=
  if i < 0 ∨ (at_.length : Int) ≤ i then ([], 11) else
  if at_.getD i.toNat 0 < 0 ∨ (l.length : Int) < endI at_ l.length i.toNat ∨ endI at_ l.length i.toNat < at_.getD i.toNat 0 then ([], 5)
  else bytesT ab ((l.drop (at_.getD i.toNat 0).toNat).take (endI at_ l.length i.toNat - at_.getD i.toNat 0).toNat)

theorem Rd.mid {w : World} {B : Nat} {A : Option Addr} {n : Nat} {l : List UInt8} (h : Rd w B A n l) (a k : Nat) (hk : a + k ≤ n) (c : Nat) (hc : n ≤ c) : Rd w B (if c = a then A else A.map (·.add a)) k ((l.drop a).take k) := by
  have hl := h.1
  refine ⟨by rw [List.length_take, List.length_drop]; omega, fun hk0 => ?_⟩
  obtain ⟨ad, rfl, hb, hc⟩ := h.2 (by omega)
  rw [if_neg (by omega)]
  refine ⟨ad.add a, rfl, by rw [blk_add]; exact hb, fun j hj => ?_⟩
  have hj2 : j < k := by rw [List.length_take] at hj; omega
  rw [add_add, hc (a + j) (by omega)]
  simp

theorem sayF_len {ab : List (List UInt8)} (hm : Short_ 1000 ab) : ∀ (f : Nat) (acc : List UInt8) (l : List Int), (sayF ab f acc l).1.length ≤ acc.length + 1000 * l.length := by
  intro f
  induction f with
  | zero => intro acc l; show acc.length ≤ _; omega
  | succ f ih =>
    intro acc l
    by_cases hl : l = []
    · subst hl; rw [sayF_end]; show acc.length ≤ _; omega
    · have hp : 0 < l.length := List.length_pos_iff.mpr hl
      unfold sayF
      rw [if_neg hl]
      split
      · split
        · simp
        · split
          · simp
          · refine Nat.le_trans (ih _ _) ?_
            have h1 : (ab.getD (l.getD 1 0).toNat []).length ≤ 1000 := hm _
            rw [List.length_append, List.length_drop]
            omega
      · rename_i h30
        have h1 := spanL_pos hl h30
        split
        · simp
        · split
          · simp
          · rename_i t ht
            refine Nat.le_trans (ih _ _) ?_
            have h2 := txt_len ht
            rw [List.length_take] at h2
            rw [List.length_append, List.length_drop]
            omega

theorem FitI.of_range {zs : List Int} (h : ∀ z ∈ zs, 0 ≤ z ∧ z ≤ 30) : FitI zs := FitI.of_mem fun z hz => by have := h z hz; omega

/-- a pool -/
abbrev pv (Aa : Option Addr) (na ca : Nat) (At : Option Addr) (nt ct : Nat) (Ab : Option Addr) (nb cb : Nat) : Value := .agg #[.slice Aa na ca, .slice At nt ct, .slice Ab nb cb]

/-- equal lists of texts -/
def eqT (a b : List (List UInt8)) : Bool := decide (a = b)

theorem eqT_len {a b : List (List UInt8)} (h : a.length ≠ b.length) : eqT a b = false := by
  unfold eqT
  rw [decide_eq_false]
  rintro rfl
  exact h rfl

theorem eqT_at {a b : List (List UInt8)} {j : Nat} (h : bs (a[j]?.getD []) ≠ bs (b[j]?.getD [])) : eqT a b = false := by
  unfold eqT
  rw [decide_eq_false]
  rintro rfl
  exact h rfl

theorem eqT_all {a b : List (List UInt8)} (h0 : a.length = b.length) (h : ∀ m, m < a.length → bs (a[m]?.getD []) = bs (b[m]?.getD [])) : eqT a b = true := by
  unfold eqT
  rw [decide_eq_true_eq]
  refine List.ext_getElem h0 fun m h1 h2 => ?_
  have e := congrArg (fun x : ByteArray => x.data.toList) (h m h1)
  simp only [data_bs] at e
  simpa [h1, h2] using e

theorem bool_ret8 {a b : Bool} (h : a = b) : Ending.returned (.bool a) = .returned (.bool b) := by rw [h]

set_option maxRecDepth 100000 in
set_option maxHeartbeats 3200000 in
theorem rtexts_any (w : World) (B B' : Nat) (A A' : Option Addr) (n n' c c' : Nat) (a b : List (List UInt8)) (h : RdS w B A n a) (h' : RdS w B' A' n' b) (hn : (n : Int) ≤ 1000000) (hn' : (n' : Int) ≤ 1000000) :
    Calls Tryd.prog 13 #[.slice A n c, .slice A' n' c'] w fun e w' => e = .returned (.bool (eqT a b)) ∧ Below w.heap.size w w' := by
  have H := Lib.hid h
  have H' := Lib.hid h'
  clear h h'
  by_cases hl : n = n'
  · obtain rfl := hl
    go_enter Tryd.func13, Tryd.ntmps13
    go_wp2_with fail
    go_loopw [5] (fun i wr => ∃ (j : Nat), j ≤ n ∧ i = .int .i64 j ∧ Below w.heap.size w wr ∧ (∀ p, wr.cell? p = w.cell? p) ∧ Hid (∀ m, m < j → bs (a[m]?.getD []) = bs (b[m]?.getD []))) (fun i _ => n - (intOf i).toNat)
    case atStart => exact ⟨0, Nat.zero_le _, rfl, Below.refl _ _, fun _ => rfl, Lib.hid (fun m hm => absurd hm (by omega))⟩
    case round =>
      obtain ⟨j, hj, rfl, hbel, hcells, HE⟩ := hrel
      by_cases hlt : j < n
      · obtain ⟨ad, rfl, _, hc⟩ := H.out.2 (by omega)
        obtain ⟨ad', rfl, _, hc'⟩ := H'.out.2 (by omega)
        have k1 := (hcells (ad.add j)).trans (hc j (by rw [H.out.1]; exact hlt))
        have k2 := (hcells (ad'.add j)).trans (hc' j (by rw [H'.out.1]; exact hlt))
        obtain ⟨z, hz⟩ : ∃ z, z = bs (a[j]?.getD []) := ⟨_, rfl⟩
        obtain ⟨y, hy⟩ : ∃ y, y = bs (b[j]?.getD []) := ⟨_, rfl⟩
        rw [← hz] at k1
        rw [← hy] at k2
        have HC := Lib.hid hcells
        clear hc hc' hcells
        by_cases e : z = y
        · have HE2 : Hid (∀ m, m < j + 1 → bs (a[m]?.getD []) = bs (b[m]?.getD [])) := Lib.hid (fun m hm => by
            by_cases e2 : m = j
            · subst e2; rw [← hz, ← hy, e]
            · exact HE.out m (by omega))
          clear hz hy HE
          subst e
          go_wp2_with fail
          go_quiet (fail)
          go_wp2_with fail
          go_roundw
          case rel => exact ⟨j + 1, by omega, by go_num, ⟨hbel.os, hbel.tape, hbel.output, hbel.size, hbel.block⟩, HC.out, HE2⟩
          case measure => simp [intOf]; omega
        · have HF : Hid (eqT a b = false) := Lib.hid (eqT_at (j := j) (by rw [← hz, ← hy]; exact e))
          have t0 : (z.toList == y.toList) = false := by
            rw [ByteArray.toList_eq, ByteArray.toList_eq, beq_eq_false_iff_ne]
            intro e2
            exact e (by rw [← bs_data z, ← bs_data y, e2])
          clear hz hy HE
          go_wp2_with fail
          go_quiet (fail)
          go_wp2_with fail
          go_ret
          exact ⟨bool_ret8 HF.out.symm, ⟨hbel.os, hbel.tape, hbel.output, hbel.size, hbel.block⟩⟩
      · have HC := Lib.hid hcells
        have HF : Hid (eqT a b = true) := Lib.hid (eqT_all (by rw [H.out.1, H'.out.1]) (fun m hm => HE.out m (by rw [H.out.1] at hm; omega)))
        clear hcells
        go_wp2_with fail
        go_ret
        exact ⟨bool_ret8 HF.out.symm, hbel⟩
  · have HF : Hid (eqT a b = false) := Lib.hid (eqT_len (by rw [H.out.1, H'.out.1]; exact hl))
    have t0 : ((n : Int) != (n' : Int)) = true := by rw [bne_iff_ne]; omega
    clear hl
    go_enter Tryd.func13, Tryd.ntmps13
    go_wp2_with fail
    go_ret
    exact ⟨bool_ret8 HF.out.symm, Below.refl _ _⟩

/-- all texts, from place j on -/
def allF (ab : List (List UInt8)) (at_ : List Int) (l : List UInt8) : Nat → Nat → List (List UInt8) → List (List UInt8) × Int
  | 0, _, acc => (acc, 0)
  | f + 1, j, acc => if (textAt ab at_ l j).2 ≠ 0 then ([], (textAt ab at_ l j).2) else allF ab at_ l f (j + 1) (acc ++ [(textAt ab at_ l j).1])
def allL (ab : List (List UInt8)) (at_ : List Int) (l : List UInt8) : List (List UInt8) × Int := allF ab at_ l at_.length 0 []

/-- what a function leaves that hands back texts in a row of its own, and an error -/
def OutSE (base : Nat) (t : TypeId) (w : World) (ls : List (List UInt8)) (er : Int) (e : Ending) (w' : World) : Prop :=
  ∃ A n c, e = .returned (.tuple #[.slice A n c, .int .i64 er]) ∧ w'.ownsRow base t 1 (.slice A n c) n (sc ls) ∧ Below base w w'

/-- equal pools -/
def eqPool (ab ab' : List (List UInt8)) (at_ at' : List Int) (l l' : List UInt8) : Bool := eqT ab ab' && (decide (at_ = at') && decide (l = l'))

theorem bytes_ne {l l' : List UInt8} (h : l ≠ l') : ((bs l).toList == (bs l').toList) = false := by
  rw [ByteArray.toList_eq, ByteArray.toList_eq, data_bs, data_bs, beq_eq_false_iff_ne]
  exact h

set_option maxRecDepth 100000 in
set_option maxHeartbeats 6400000 in
theorem rPsamePool_any (w : World) (Aa At Ab Aa' At' Ab' : Option Addr) (na ca nt ct nb cb na' ca' nt' ct' nb' cb' : Nat) (ab ab' : List (List UInt8)) (at_ at' : List Int) (l l' : List UInt8) (ha : RdS w w.heap.size Aa na ab) (ht : RdI w w.heap.size At nt at_) (hb : Rd w w.heap.size Ab nb l)
    (ha' : RdS w w.heap.size Aa' na' ab') (ht' : RdI w w.heap.size At' nt' at') (hb' : Rd w w.heap.size Ab' nb' l') (hna : (na : Int) ≤ 10000) (hnt : (nt : Int) ≤ 10000) (hna' : (na' : Int) ≤ 10000) (hnt' : (nt' : Int) ≤ 10000) :
    Calls Tryd.prog 11 #[pv Aa na ca At nt ct Ab nb cb, pv Aa' na' ca' At' nt' ct' Ab' nb' cb'] w fun e w' => e = .returned (.bool (eqPool ab ab' at_ at' l l')) ∧ Below w.heap.size w w' := by
  have HA := Lib.hid ha
  have HA' := Lib.hid ha'
  have HT := Lib.hid ht
  have HT' := Lib.hid ht'
  have HBR := Lib.hid hb
  have HBR' := Lib.hid hb'
  clear ha ha' ht ht' hb hb'
  have HB2 : Hid (Below w.heap.size w ((w.alloc (.cells #[.slice Aa na ca, .slice At nt ct, .slice Ab nb cb] 28)).alloc (.cells #[.slice Aa' na' ca', .slice At' nt' ct', .slice Ab' nb' cb'] 28))) := Lib.hid (((Below.refl _ _).alloc (Nat.le_refl _) _).alloc (by simp) _)
  have BK1 := Lib.hid ((Blk.new w 28 #[.slice Aa na ca, .slice At nt ct, .slice Ab nb cb]).alloc (.cells #[.slice Aa' na' ca', .slice At' nt' ct', .slice Ab' nb' cb'] 28))
  have BK2 := Lib.hid (Blk.new_at (w.alloc (.cells #[.slice Aa na ca, .slice At nt ct, .slice Ab nb cb] 28)) 28 #[.slice Aa' na' ca', .slice At' nt' ct', .slice Ab' nb' cb'] (w.heap.size + 1) (by simp))
  go_enter Tryd.func11, Tryd.ntmps11
  go_wp2_with fail
  refine (rtexts_any _ w.heap.size w.heap.size Aa Aa' na na' ca ca' ab ab' (HA.out.below HB2.out) (HA'.out.below HB2.out) (by omega) (by omega)).mono ?_
  rintro e w3 ⟨rfl, hb3⟩
  have HB3 := Lib.hid (HB2.out.trans (hb3.mono HB2.out.size))
  have BK13 := Lib.hid (BK1.out.below hb3 BK1.out.lt)
  have BK23 := Lib.hid (BK2.out.below hb3 BK2.out.lt)
  have f0 : w3.cell? ⟨w.heap.size, 0, none⟩ = some (.slice Aa na ca) := BK13.out.cell 0
  have f1 : w3.cell? ⟨w.heap.size, 1, none⟩ = some (.slice At nt ct) := BK13.out.cell 1
  have f2 : w3.cell? ⟨w.heap.size, 2, none⟩ = some (.slice Ab nb cb) := BK13.out.cell 2
  have g0 : w3.cell? ⟨w.heap.size + 1, 0, none⟩ = some (.slice Aa' na' ca') := BK23.out.cell 0
  have g1 : w3.cell? ⟨w.heap.size + 1, 1, none⟩ = some (.slice At' nt' ct') := BK23.out.cell 1
  have g2 : w3.cell? ⟨w.heap.size + 1, 2, none⟩ = some (.slice Ab' nb' cb') := BK23.out.cell 2
  have hcv1 := Rd.toStr (P := Tryd.prog) (HBR.out.below HB3.out) 26 9 5 cb Tryd.underlying26 Tryd.underlying5 Tryd.underlying9
  have hcv2 := Rd.toStr (P := Tryd.prog) (HBR'.out.below HB3.out) 26 9 5 cb' Tryd.underlying26 Tryd.underlying5 Tryd.underlying9
  clear hb3
  cases hab : eqT ab ab' with
  | false =>
    have HF : Hid (eqPool ab ab' at_ at' l l' = false) := Lib.hid (by unfold eqPool; rw [hab]; rfl)
    go_wp2_with fail
    go_ret
    exact ⟨bool_ret8 HF.out.symm, HB3.out⟩
  | true =>
    by_cases hl : nt = nt'
    · subst hl
      by_cases hbe : l = l'
      · subst hbe
        have HEQ : Hid (eqPool ab ab' at_ at' l l = eqI at_ at') := Lib.hid (by unfold eqPool eqI; rw [hab]; simp)
        go_wp2_with fail
        go_loopw [5] (fun i wr => ∃ (j : Nat), j ≤ nt ∧ i = .int .i64 j ∧ Hid (Below w.heap.size w wr) ∧ (∀ p, wr.cell? p = w3.cell? p) ∧ Hid (∀ m, m < j → at_.getD m 0 = at'.getD m 0)) (fun i _ => nt - (intOf i).toNat)
        case atStart => exact ⟨0, Nat.zero_le _, rfl, HB3, fun _ => rfl, Lib.hid (fun m hm => absurd hm (by omega))⟩
        case round =>
          obtain ⟨j, hj, rfl, HBL, hcells, HE⟩ := hrel
          have r1 := (hcells _).trans f1
          have s1 := (hcells _).trans g1
          by_cases hlt : j < nt
          · obtain ⟨ad, rfl, hbk, hc⟩ := HT.out.2.1 (by omega)
            obtain ⟨ad', rfl, hbk', hc'⟩ := HT'.out.2.1 (by omega)
            have k1 := (hcells (ad.add j)).trans ((HB3.out.cell (p := ad.add j) (by rw [blk_add]; exact hbk)).trans (hc j (by rw [HT.out.1]; exact hlt)))
            have k2 := (hcells (ad'.add j)).trans ((HB3.out.cell (p := ad'.add j) (by rw [blk_add]; exact hbk')).trans (hc' j (by rw [HT'.out.1]; exact hlt)))
            obtain ⟨z, hz⟩ : ∃ z, z = at_.getD j 0 := ⟨_, rfl⟩
            obtain ⟨y, hy⟩ : ∃ y, y = at'.getD j 0 := ⟨_, rfl⟩
            rw [← hz] at k1
            rw [← hy] at k2
            have HC := Lib.hid hcells
            clear hc hc' hcells
            by_cases e : z = y
            · have HE2 : Hid (∀ m, m < j + 1 → at_.getD m 0 = at'.getD m 0) := Lib.hid (fun m hm => by
                by_cases e2 : m = j
                · subst e2; rw [← hz, ← hy, e]
                · exact HE.out m (by omega))
              have t0 : (z != y) = false := by rw [e]; simp
              clear hz hy e HE
              go_wp2_with fail
              go_quiet (fail)
              go_wp2_with fail
              go_roundw
              case rel => exact ⟨j + 1, by omega, by go_num, Lib.hid ⟨HBL.out.os, HBL.out.tape, HBL.out.output, HBL.out.size, HBL.out.block⟩, HC.out, HE2⟩
              case measure => simp [intOf]; omega
            · have HF : Hid (eqPool ab ab' at_ at' l l = false) := Lib.hid (by rw [HEQ.out]; exact eqI_at (j := j) (by rw [← hz, ← hy]; exact e))
              have t0 : (z != y) = true := by rw [bne_iff_ne]; exact e
              clear hz hy e HE
              go_wp2_with fail
              go_quiet (fail)
              go_wp2_with fail
              go_ret
              exact ⟨bool_ret8 HF.out.symm, ⟨HBL.out.os, HBL.out.tape, HBL.out.output, HBL.out.size, HBL.out.block⟩⟩
          · have HC := Lib.hid hcells
            have HF : Hid (eqPool ab ab' at_ at' l l = true) := Lib.hid (by rw [HEQ.out]; exact eqI_all (by rw [HT.out.1, HT'.out.1]) (fun m hm => HE.out m (by rw [HT.out.1] at hm; omega)))
            clear hcells
            go_wp2_with fail
            go_ret
            exact ⟨bool_ret8 HF.out.symm, HBL.out⟩
      · have HF : Hid (eqPool ab ab' at_ at' l l' = false) := Lib.hid (by unfold eqPool; rw [hab, decide_eq_false hbe, Bool.and_false, Bool.and_false])
        have t0 := bytes_ne hbe
        have t1 : (l == l') = false := by rw [beq_eq_false_iff_ne]; exact hbe
        have t2 : ((⟨l.toArray⟩ : ByteArray).toList == (⟨l'.toArray⟩ : ByteArray).toList) = false := t0
        go_wp2_with fail
        go_ret
        exact ⟨bool_ret8 HF.out.symm, HB3.out⟩
    · have HF : Hid (eqPool ab ab' at_ at' l l' = false) := Lib.hid (by
        unfold eqPool
        rw [hab, decide_eq_false (p := at_ = at') (fun e => hl (by rw [← HT.out.1, ← HT'.out.1, e])), Bool.false_and, Bool.and_false])
      have t0 : ((nt : Int) != (nt' : Int)) = true := by rw [bne_iff_ne]; omega
      go_wp2_with fail
      go_ret
      exact ⟨bool_ret8 HF.out.symm, HB3.out⟩

def eqB (a b : List UInt8) : Bool := decide (a = b)

theorem eqB_len {a b : List UInt8} (h : a.length ≠ b.length) : eqB a b = false := by
  unfold eqB
  rw [decide_eq_false]
  rintro rfl
  exact h rfl

theorem eqB_at {a b : List UInt8} {j : Nat} (h : (a.getD j 0).toNat ≠ (b.getD j 0).toNat) : eqB a b = false := by
  unfold eqB
  rw [decide_eq_false]
  rintro rfl
  exact h rfl

theorem getD_u8 {l : List UInt8} {j : Nat} (h : j < l.length) : l.getD j 0 = l[j] := by simp [List.getD, h]

theorem eqB_all {a b : List UInt8} (h0 : a.length = b.length) (h : ∀ m, m < a.length → (a.getD m 0).toNat = (b.getD m 0).toNat) : eqB a b = true := by
  unfold eqB
  rw [decide_eq_true_eq]
  refine List.ext_getElem h0 fun m h1 h2 => ?_
  have e := h m h1
  rw [getD_u8 h1, getD_u8 h2] at e
  exact UInt8.toNat_inj.mp e

theorem Rd.at {w : World} {B : Nat} {A : Option Addr} {n : Nat} {l : List UInt8} (h : Rd w B A n l) (hn : 0 < n) : ∃ ad : Addr, A = some ad ∧ ad.block < B ∧ ∀ j, j < l.length → w.cell? (ad.add j) = some (.int .u8 ((l.getD j 0).toNat : Int)) := by
  obtain ⟨ad, e, hb, hc⟩ := h.2 hn
  exact ⟨ad, e, hb, fun j hj => by rw [hc j hj, getD_u8 hj]⟩

set_option maxRecDepth 100000 in
set_option maxHeartbeats 3200000 in
theorem equalS_any (w : World) (B B' : Nat) (A A' : Option Addr) (n n' c c' : Nat) (a b : List (List UInt8)) (h : RdS w B A n a) (h' : RdS w B' A' n' b) (hn : (n : Int) ≤ 1000000) (hn' : (n' : Int) ≤ 1000000) :
    Calls Tryd.prog 52 #[.slice A n c, .slice A' n' c'] w fun e w' => e = .returned (.bool (eqT a b)) ∧ Below w.heap.size w w' := by
  have H := Lib.hid h
  have H' := Lib.hid h'
  clear h h'
  by_cases hl : n = n'
  · obtain rfl := hl
    go_enter Tryd.func52, Tryd.ntmps52
    go_wp2_with fail
    go_loopw [13] (fun i wr => ∃ (j : Nat), j ≤ n ∧ i = .int .i64 j ∧ Below w.heap.size w wr ∧ (∀ p, wr.cell? p = w.cell? p) ∧ Hid (∀ m, m < j → bs (a[m]?.getD []) = bs (b[m]?.getD []))) (fun i _ => n - (intOf i).toNat)
    case atStart => exact ⟨0, Nat.zero_le _, rfl, Below.refl _ _, fun _ => rfl, Lib.hid (fun m hm => absurd hm (by omega))⟩
    case round =>
      obtain ⟨j, hj, rfl, hbel, hcells, HE⟩ := hrel
      by_cases hlt : j < n
      · obtain ⟨ad, rfl, _, hc⟩ := H.out.2 (by omega)
        obtain ⟨ad', rfl, _, hc'⟩ := H'.out.2 (by omega)
        have k1 := (hcells (ad.add j)).trans (hc j (by rw [H.out.1]; exact hlt))
        have k2 := (hcells (ad'.add j)).trans (hc' j (by rw [H'.out.1]; exact hlt))
        obtain ⟨z, hz⟩ : ∃ z, z = bs (a[j]?.getD []) := ⟨_, rfl⟩
        obtain ⟨y, hy⟩ : ∃ y, y = bs (b[j]?.getD []) := ⟨_, rfl⟩
        rw [← hz] at k1
        rw [← hy] at k2
        have HC := Lib.hid hcells
        clear hc hc' hcells
        by_cases e : z = y
        · have HE2 : Hid (∀ m, m < j + 1 → bs (a[m]?.getD []) = bs (b[m]?.getD [])) := Lib.hid (fun m hm => by
            by_cases e2 : m = j
            · subst e2; rw [← hz, ← hy, e]
            · exact HE.out m (by omega))
          clear hz hy HE
          subst e
          go_wp2_with fail
          go_quiet (fail)
          go_wp2_with fail
          go_roundw
          case rel => exact ⟨j + 1, by omega, by go_num, ⟨hbel.os, hbel.tape, hbel.output, hbel.size, hbel.block⟩, HC.out, HE2⟩
          case measure => simp [intOf]; omega
        · have HF : Hid (eqT a b = false) := Lib.hid (eqT_at (j := j) (by rw [← hz, ← hy]; exact e))
          have t0 : (z.toList == y.toList) = false := by
            rw [ByteArray.toList_eq, ByteArray.toList_eq, beq_eq_false_iff_ne]
            intro e2
            exact e (by rw [← bs_data z, ← bs_data y, e2])
          clear hz hy HE
          go_wp2_with fail
          go_quiet (fail)
          go_wp2_with fail
          go_ret
          exact ⟨bool_ret8 HF.out.symm, ⟨hbel.os, hbel.tape, hbel.output, hbel.size, hbel.block⟩⟩
      · have HC := Lib.hid hcells
        have HF : Hid (eqT a b = true) := Lib.hid (eqT_all (by rw [H.out.1, H'.out.1]) (fun m hm => HE.out m (by rw [H.out.1] at hm; omega)))
        clear hcells
        go_wp2_with fail
        go_ret
        exact ⟨bool_ret8 HF.out.symm, hbel⟩
  · have HF : Hid (eqT a b = false) := Lib.hid (eqT_len (by rw [H.out.1, H'.out.1]; exact hl))
    have t0 : ((n : Int) != (n' : Int)) = true := by rw [bne_iff_ne]; omega
    clear hl
    go_enter Tryd.func52, Tryd.ntmps52
    go_wp2_with fail
    go_ret
    exact ⟨bool_ret8 HF.out.symm, Below.refl _ _⟩

set_option maxRecDepth 100000 in
set_option maxHeartbeats 3200000 in
theorem equalB_any (w : World) (B B' : Nat) (A A' : Option Addr) (n n' c c' : Nat) (a b : List UInt8) (h : Rd w B A n a) (h' : Rd w B' A' n' b) (hn : (n : Int) ≤ 1000000) (hn' : (n' : Int) ≤ 1000000) :
    Calls Tryd.prog 54 #[.slice A n c, .slice A' n' c'] w fun e w' => e = .returned (.bool (eqB a b)) ∧ Below w.heap.size w w' := by
  have H := Lib.hid h
  have H' := Lib.hid h'
  clear h h'
  by_cases hl : n = n'
  · obtain rfl := hl
    go_enter Tryd.func54, Tryd.ntmps54
    go_wp2_with fail
    go_loopw [13] (fun i wr => ∃ (j : Nat), j ≤ n ∧ i = .int .i64 j ∧ Below w.heap.size w wr ∧ (∀ p, wr.cell? p = w.cell? p) ∧ Hid (∀ m, m < j → (a.getD m 0).toNat = (b.getD m 0).toNat)) (fun i _ => n - (intOf i).toNat)
    case atStart => exact ⟨0, Nat.zero_le _, rfl, Below.refl _ _, fun _ => rfl, Lib.hid (fun m hm => absurd hm (by omega))⟩
    case round =>
      obtain ⟨j, hj, rfl, hbel, hcells, HE⟩ := hrel
      by_cases hlt : j < n
      · obtain ⟨ad, rfl, _, hc⟩ := Rd.at H.out (by omega)
        obtain ⟨ad', rfl, _, hc'⟩ := Rd.at H'.out (by omega)
        have k1 := (hcells (ad.add j)).trans (hc j (by rw [H.out.1]; exact hlt))
        have k2 := (hcells (ad'.add j)).trans (hc' j (by rw [H'.out.1]; exact hlt))
        obtain ⟨z, hz⟩ : ∃ z, z = (a.getD j 0).toNat := ⟨_, rfl⟩
        obtain ⟨y, hy⟩ : ∃ y, y = (b.getD j 0).toNat := ⟨_, rfl⟩
        rw [← hz] at k1
        rw [← hy] at k2
        have HC := Lib.hid hcells
        clear hc hc' hcells
        by_cases e : z = y
        · have HE2 : Hid (∀ m, m < j + 1 → (a.getD m 0).toNat = (b.getD m 0).toNat) := Lib.hid (fun m hm => by
            by_cases e2 : m = j
            · subst e2; rw [← hz, ← hy, e]
            · exact HE.out m (by omega))
          have t0 : ((z : Int) != (y : Int)) = false := by rw [e]; simp
          clear hz hy e HE
          go_wp2_with fail
          go_quiet (fail)
          go_wp2_with fail
          go_roundw
          case rel => exact ⟨j + 1, by omega, by go_num, ⟨hbel.os, hbel.tape, hbel.output, hbel.size, hbel.block⟩, HC.out, HE2⟩
          case measure => simp [intOf]; omega
        · have HF : Hid (eqB a b = false) := Lib.hid (eqB_at (j := j) (by rw [← hz, ← hy]; exact e))
          have t0 : ((z : Int) != (y : Int)) = true := by rw [bne_iff_ne]; omega
          clear hz hy HE
          go_wp2_with fail
          go_quiet (fail)
          go_wp2_with fail
          go_ret
          exact ⟨bool_ret8 HF.out.symm, ⟨hbel.os, hbel.tape, hbel.output, hbel.size, hbel.block⟩⟩
      · have HC := Lib.hid hcells
        have HF : Hid (eqB a b = true) := Lib.hid (eqB_all (by rw [H.out.1, H'.out.1]) (fun m hm => HE.out m (by rw [H.out.1] at hm; omega)))
        clear hcells
        go_wp2_with fail
        go_ret
        exact ⟨bool_ret8 HF.out.symm, hbel⟩
  · have HF : Hid (eqB a b = false) := Lib.hid (eqB_len (by rw [H.out.1, H'.out.1]; exact hl))
    have t0 : ((n : Int) != (n' : Int)) = true := by rw [bne_iff_ne]; omega
    clear hl
    go_enter Tryd.func54, Tryd.ntmps54
    go_wp2_with fail
    go_ret
    exact ⟨bool_ret8 HF.out.symm, Below.refl _ _⟩

/-- up to so many texts, of up to so many bytes -/
def few8 (ls : List (List UInt8)) (many long : Nat) : Bool := decide (ls.length ≤ many) && ls.all fun x => decide (x.length ≤ long)

theorem few8_at {ls : List (List UInt8)} {many long j : Nat} (hj : j < ls.length) (h : ¬ (bs (ls[j]?.getD [])).size ≤ long) : few8 ls many long = false := by
  have e : ls[j]?.getD [] = ls[j] := by rw [List.getElem?_eq_getElem hj]; rfl
  rw [bs_size, e] at h
  unfold few8
  have h2 : (ls.all fun x => decide (x.length ≤ long)) = false := by
    rw [List.all_eq_false]
    exact ⟨ls[j], List.getElem_mem hj, by simpa using h⟩
  rw [h2, Bool.and_false]

theorem few8_all {ls : List (List UInt8)} {many long : Nat} (h0 : ls.length ≤ many) (h : ∀ m, m < ls.length → (bs (ls[m]?.getD [])).size ≤ long) : few8 ls many long = true := by
  unfold few8
  rw [decide_eq_true h0, Bool.true_and, List.all_eq_true]
  intro x hx
  obtain ⟨m, hm, rfl⟩ := List.getElem_of_mem hx
  have e : ls[m]?.getD [] = ls[m] := by rw [List.getElem?_eq_getElem hm]; rfl
  have h1 := h m hm
  rw [bs_size, e] at h1
  simpa using h1

theorem few8_many {ls : List (List UInt8)} {many long : Nat} (h0 : ¬ ls.length ≤ many) : few8 ls many long = false := by
  unfold few8
  rw [decide_eq_false h0, Bool.false_and]

set_option maxRecDepth 100000 in
set_option maxHeartbeats 3200000 in
theorem few8_any (w : World) (B : Nat) (A : Option Addr) (n c many long : Nat) (ls : List (List UInt8)) (h : RdS w B A n ls) (hB : B ≤ w.heap.size) (hmany : many ≤ 1000) :
    Calls Tryd.prog 7 #[.slice A n c, .int .i64 many, .int .i64 long] w fun e w' => e = .returned (.bool (few8 ls many long)) ∧ Below w.heap.size w w' := by
  have H := Lib.hid h
  have HL := Lib.hid h.1
  clear h
  go_enter Tryd.func7, Tryd.ntmps7
  go_wp2_with fail
  go_loopw [7] (fun i wr => ∃ (j : Nat), j ≤ n ∧ j ≤ many + 1 ∧ i = .int .i64 j ∧ Hid (∀ m, m < j → (bs (ls[m]?.getD [])).size ≤ long) ∧ Hid (Below w.heap.size w wr)) (fun i _ => n - (intOf i).toNat)
  case atStart => exact ⟨0, Nat.zero_le _, Nat.zero_le _, rfl, Lib.hid (fun m hm => absurd hm (by omega)), Lib.hid (Below.refl _ _)⟩
  case round =>
    obtain ⟨j, hj, hjm, rfl, HE, HB⟩ := hrel
    by_cases hlt : j < n
    · by_cases hle : j ≤ many
      · obtain ⟨ad, rfl, hab, hcell⟩ := H.out.2 (by omega)
        have k1 := (HB.out.cell (p := ad.add j) (by rw [blk_add]; omega)).trans (hcell j (by rw [HL.out]; exact hlt))
        obtain ⟨z, hz⟩ : ∃ z, z = bs (ls[j]?.getD []) := ⟨_, rfl⟩
        rw [← hz] at k1
        clear hcell
        by_cases hs : z.size ≤ long
        · have HE2 : Hid (∀ m, m < j + 1 → (bs (ls[m]?.getD [])).size ≤ long) := Lib.hid (fun m hm => by
            by_cases e2 : m = j
            · subst e2; rw [← hz]; exact hs
            · exact HE.out m (by omega))
          clear hz
          go_wp2_with fail
          go_roundw
          case rel => exact ⟨j + 1, by omega, by omega, by go_num, HE2, HB⟩
          case measure => simp [intOf]; omega
        · have HF : Hid (few8 ls many long = false) := Lib.hid (few8_at (j := j) (by rw [HL.out]; exact hlt) (by rw [← hz]; exact hs))
          clear hz
          go_wp2_with fail
          go_ret
          exact ⟨bool_ret8 HF.out.symm, HB.out⟩
      · have HF : Hid (few8 ls many long = false) := Lib.hid (few8_many (by rw [HL.out]; omega))
        have t0 : decide ((n : Int) ≤ (many : Int)) = false := by rw [decide_eq_false_iff_not]; omega
        go_wp2_with fail
        go_ret
        exact ⟨bool_ret8 (by rw [HF.out, decide_eq_false (by omega)]), HB.out⟩
    · obtain rfl : j = n := by omega
      by_cases hle : j ≤ many
      · have HF : Hid (few8 ls many long = true) := Lib.hid (few8_all (by rw [HL.out]; exact hle) (fun m hm => HE.out m (by rw [HL.out] at hm; exact hm)))
        have t0 : decide ((j : Int) ≤ (many : Int)) = true := by rw [decide_eq_true_eq]; omega
        go_wp2_with fail
        go_ret
        exact ⟨bool_ret8 HF.out.symm, HB.out⟩
      · have HF : Hid (few8 ls many long = false) := Lib.hid (few8_many (by rw [HL.out]; omega))
        have t0 : decide ((j : Int) ≤ (many : Int)) = false := by rw [decide_eq_false_iff_not]; omega
        go_wp2_with fail
        go_ret
        exact ⟨bool_ret8 HF.out.symm, HB.out⟩

theorem bytesT_made {ab : List (List UInt8)} {s : List UInt8} (hab : ab.length ≤ 31) (h : textB s = true) : bytesT ab (bitsOf ab s) = (s, 0) := by
  unfold bytesT bitsOf
  rw [unpack_pack _ (ccodes_range hab s)]
  show (if (sayL ab (ccodes ab s)).2 ≠ 0 then ([], (sayL ab (ccodes ab s)).2) else if textB (sayL ab (ccodes ab s)).1 then ((sayL ab (ccodes ab s)).1, 0) else ([], 13)) = (s, 0)
  rw [ccodes_say h, if_neg (by simp), if_pos h]

theorem endI_made (ab : List (List UInt8)) {ls : List (List UInt8)} {i : Nat} (hi : i < ls.length) : endI (offs ab ls) (bitsP ab ls).length i = offP ab ls (i + 1) := by
  unfold endI
  rw [offs_len]
  by_cases h : i + 1 < ls.length
  · rw [if_pos h, offs_getD ab ls h]
  · have : i + 1 = ls.length := by omega
    rw [if_neg h, this, offP_all]

theorem offP_le (ab : List (List UInt8)) (ls : List (List UInt8)) (i : Nat) : offP ab ls i ≤ (bitsP ab ls).length := by
  have e : bitsP ab ls = bitsP ab (ls.take i) ++ bitsP ab (ls.drop i) := by rw [← bitsP_append, List.take_append_drop]
  rw [e, List.length_append]
  exact Nat.le_add_right _ _

theorem textAt_made {ab ls : List (List UInt8)} {i : Nat} (hab : ab.length ≤ 31) (ht : ∀ s ∈ ls, textB s = true) (hi : i < ls.length) : textAt ab (offs ab ls) (bitsP ab ls) i = (ls[i]?.getD [], 0) := by
  have h1 := offP_le ab ls (i + 1)
  have h2 := offP_succ (ab := ab) hi
  unfold textAt
  rw [offs_len, if_neg (by omega), Int.toNat_natCast, endI_made ab hi, offs_getD ab ls hi, if_neg (by omega)]
  have e : ((offP ab ls (i + 1) : Int) - (offP ab ls i : Int)).toNat = offP ab ls (i + 1) - offP ab ls i := by omega
  rw [e, Int.toNat_natCast, bitsP_split hi, bytesT_made hab]
  rw [List.getElem?_eq_getElem hi]
  exact ht _ (List.getElem_mem hi)

theorem allF_made {ab ls : List (List UInt8)} (hab : ab.length ≤ 31) (ht : ∀ s ∈ ls, textB s = true) : ∀ (f j : Nat), j + f = ls.length → allF ab (offs ab ls) (bitsP ab ls) f j (ls.take j) = (ls, 0) := by
  intro f
  induction f with
  | zero =>
    intro j h
    have : j = ls.length := by omega
    rw [this, List.take_length]
    rfl
  | succ f ih =>
    intro j h
    have hj : j < ls.length := by omega
    unfold allF
    rw [textAt_made hab ht hj, if_neg (by simp)]
    show allF ab (offs ab ls) (bitsP ab ls) f (j + 1) (ls.take j ++ [ls[j]?.getD []]) = _
    rw [← take_oneP hj, ih (j + 1) (by omega)]

theorem allL_made {ab ls : List (List UInt8)} (hab : ab.length ≤ 31) (ht : ∀ s ∈ ls, textB s = true) : allL ab (offs ab ls) (bitsP ab ls) = (ls, 0) := by
  unfold allL
  rw [offs_len]
  exact allF_made hab ht ls.length 0 (by omega)

/-- why texts are not packed -/
def mkE (ls : List (List UInt8)) : Int := if 4096 < ls.length then 7 else if ls.all textB then 0 else 13
def mkA (ls : List (List UInt8)) : List (List UInt8) := if mkE ls = 0 then chooseL ls 31 else []
def mkT (ls : List (List UInt8)) : List Int := if mkE ls = 0 then offs (chooseL ls 31) ls else []
def mkB (ls : List (List UInt8)) : List UInt8 := if mkE ls = 0 then bitsP (chooseL ls 31) ls else []

theorem mkE_ok {ls : List (List UInt8)} (h : mkE ls = 0) : ls.length ≤ 4096 ∧ ∀ s ∈ ls, textB s = true := by
  unfold mkE at h
  split at h
  · cases h
  · split at h
    · rename_i h1 h2
      exact ⟨by omega, fun s hs => (List.all_eq_true.mp h2) s hs⟩
    · cases h

theorem mkE_of {ls : List (List UInt8)} (h : ls.length ≤ 4096) (h2 : ∀ s ∈ ls, textB s = true) : mkE ls = 0 := by
  unfold mkE
  rw [if_neg (by omega), if_pos (List.all_eq_true.mpr h2)]

theorem mkE_no {ls : List (List UInt8)} {j : Nat} (hl : ls.length ≤ 4096) (hj : j < ls.length) (h : textB (ls[j]?.getD []) = false) : mkE ls = 13 := by
  unfold mkE
  rw [if_neg (by omega), if_neg]
  intro h2
  rw [List.getElem?_eq_getElem hj] at h
  have := (List.all_eq_true.mp h2) _ (List.getElem_mem hj)
  rw [show (some ls[j]).getD [] = ls[j] from rfl, this] at h
  cases h

theorem mk_ab (ls : List (List UInt8)) : (chooseL ls 31).length ≤ 31 ∧ ∀ a ∈ chooseL ls 31, 2 ≤ a.length ∧ a.length ≤ 8 := by
  obtain ⟨_, h, h2, _⟩ := choose_pays ls 31
  exact ⟨by omega, h2⟩

/-- is a pool the one that is made of its texts? -/
def rightL (ab : List (List UInt8)) (at_ : List Int) (l : List UInt8) : Bool :=
  decide ((allL ab at_ l).2 = 0) && (decide (mkE (allL ab at_ l).1 = 0) && eqPool ab (mkA (allL ab at_ l).1) at_ (mkT (allL ab at_ l).1) l (mkB (allL ab at_ l).1))

theorem eqPool_symm (ab ab' : List (List UInt8)) (at_ at' : List Int) (l l' : List UInt8) : eqPool ab ab' at_ at' l l' = eqPool ab' ab at' at_ l' l := by
  unfold eqPool eqT
  have e1 : decide (ab = ab') = decide (ab' = ab) := by rw [decide_eq_decide]; exact eq_comm
  have e2 : decide (at_ = at') = decide (at' = at_) := by rw [decide_eq_decide]; exact eq_comm
  have e3 : decide (l = l') = decide (l' = l) := by rw [decide_eq_decide]; exact eq_comm
  rw [e1, e2, e3]

theorem eqPool_self (ab : List (List UInt8)) (at_ : List Int) (l : List UInt8) : eqPool ab ab at_ at_ l l = true := by
  unfold eqPool eqT
  simp

theorem right_made {ls : List (List UInt8)} (h : mkE ls = 0) : rightL (mkA ls) (mkT ls) (mkB ls) = true := by
  obtain ⟨_, h2⟩ := mkE_ok h
  have h1 := (mk_ab ls).1
  have e : allL (mkA ls) (mkT ls) (mkB ls) = (ls, 0) := by
    unfold mkA mkT mkB
    rw [if_pos h, if_pos h, if_pos h, allL_made h1 h2]
  unfold rightL
  rw [e]
  simp only [h]
  rw [eqPool_self]
  rfl

end Go.Proofs.YtpfkkmjodhpkoaaDoor
