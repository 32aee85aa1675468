/- Contracts of pool's extended, withLiteral, withAbbrev, decoded, bytesOf, Text, Count, All. -/
import Derived.Test.YtpfkkmjodhpkoaaDoorPolP
import Derived.Test.YtpfkkmjodhpkoaaDoorAlpF
import Derived.Test.YtpfkkmjodhpkoaaDoorPolR
import Derived.Lib.AppendStr
import Derived.Test.YtpfkkmjodhpkoaaDoorCls2
import Derived.Deep.QuietTactic
import Derived.BigQuiet
import Derived.WalkMore
import Derived.Test.YtpfkkmjodhpkoaaDoorAlpK
import Derived.Test.YtpfkkmjodhpkoaaDoorTells
namespace Go.Proofs.YtpfkkmjodhpkoaaDoor
open Go.RowKit
set_option linter.unusedVariables false

theorem bc_bs (l : List UInt8) : Lib.strCells (bs l) = bc l := by
  show ((bs l).data.toList.map fun b => Value.int .u8 (b.toNat : Int)) = bc l
  rw [data_bs]
  rfl

theorem grown_self (w : World) (k : Option Nat) : w.grownBy w k := World.grownBy.refl w k

/-- what hands back the grown row -/
def OutG (base : Nat) (w : World) (v : Value) (T : List UInt8) (e : Ending) (w' : World) : Prop :=
  ∃ A' n' c', e = .returned (.slice A' n' c') ∧ w'.ownsRow base 5 1 (.slice A' n' c') n' (bc T) ∧ w.grownBy w' v.ownBlock

set_option maxRecDepth 100000 in
set_option maxHeartbeats 3200000 in
theorem extended_any (w : World) (base : Nat) (A : Option Addr) (n c : Nat) (T s : List UInt8) (ho : w.ownsRow base 5 1 (.slice A n c) n (bc T)) (hb : base ≤ w.heap.size) (hn : n ≤ 100000) (hs : s.length ≤ 100000) :
    Calls Tryd.prog 73 #[.slice A n c, .string (bs s)] w (OutG base w (.slice A n c) (extT T s)) := by
  obtain ⟨i0, hi, hz0, hsz, hby⟩ := inf_parts Tryd.inf_u8
  have HI := Lib.hid hi
  have HZ0 := Lib.hid hz0
  have HSZ := Lib.hid hsz
  have HBY := Lib.hid hby
  have HO := Lib.hid ho
  have HL := Lib.hid (own_len ho)
  clear hi hz0 hsz hby ho
  by_cases h0 : 1024 < n
  · have HE : Hid (extT T s = T) := Lib.hid (by unfold extT; rw [if_pos (by rw [HL.out]; exact h0)])
    go_enter Tryd.func73, Tryd.ntmps73
    go_wp2_with fail
    go_ret
    exact ⟨A, n, c, rfl, by rw [HE.out]; exact HO.out, grown_self _ _⟩
  · have HE : Hid (extT T s = T ++ s) := Lib.hid (by unfold extT; rw [if_neg (by rw [HL.out]; exact h0)])
    go_enter Tryd.func73, Tryd.ntmps73
    go_wp2_with (at_builtin; refine Lib.wpList_append_own_string _ rfl _ _ 26 9 rfl base 5 i0 Tryd.underlying26 Tryd.underlying9 HI.out HZ0.out HSZ.out HBY.out _ n _ rfl HO.out (bs s) rfl (by rw [bs_size]; unfold maxLen; omega) (by rw [bs_size]; omega) hb ?_; intro v5 w5 hown5 hg5 _; obtain ⟨A5, c5, rfl⟩ := own_slice hown5; have HO5 := Lib.hid hown5; have HG5 := Lib.hid hg5; clear hown5 hg5)
    go_ret
    refine ⟨A5, _, c5, rfl, ?_, HG5.out⟩
    have h := HO5.out
    rw [bc_bs, ← bc_append] at h
    rw [HE.out]
    exact h

/-- what hands back the grown row, and no error -/
def OutGE (base : Nat) (w : World) (v : Value) (T : List UInt8) (er : Int) (e : Ending) (w' : World) : Prop :=
  ∃ A' n' c', e = .returned (.tuple #[.slice A' n' c', .int .i64 er]) ∧ w'.ownsRow base 5 1 (.slice A' n' c') n' (bc T) ∧ ∃ wm, Below w.heap.size w wm ∧ wm.grownBy w' v.ownBlock

/-- an abbreviation put behind -/
def abT (T : List UInt8) (ab : List (List UInt8)) (x : Int) : List UInt8 := if (ab.length : Int) ≤ x then [] else extT T (ab.getD x.toNat [])
def abE (ab : List (List UInt8)) (x : Int) : Int := if (ab.length : Int) ≤ x then 11 else 0

set_option maxRecDepth 100000 in
set_option maxHeartbeats 3200000 in
theorem withAbbrev_any (w : World) (base : Nat) (A A' : Option Addr) (n c n' c' : Nat) (T : List UInt8) (ab : List (List UInt8)) (x : Int) (ho : w.ownsRow base 5 1 (.slice A n c) n (bc T)) (hb : base ≤ w.heap.size) (hn : n ≤ 100000) (hs : Short_ 1000 ab)
    (ha : RdS w w.heap.size A' n' ab) (hn' : (n' : Int) ≤ 10000) (h0 : 0 ≤ x) (h1 : x ≤ 30) :
    Calls Tryd.prog 59 #[.slice A n c, .int .i64 x, .slice A' n' c'] w (OutGE base w (.slice A n c) (abT T ab x) (abE ab x)) := by
  have HO := Lib.hid ho
  have HA := Lib.hid ha
  have HL := Lib.hid ha.1
  clear ho ha
  by_cases h2 : (n' : Int) ≤ x
  · have HE : Hid (abT T ab x = [] ∧ abE ab x = 11) := Lib.hid (by unfold abT abE; rw [HL.out, if_pos h2, if_pos h2]; exact ⟨rfl, rfl⟩)
    go_enter Tryd.func59, Tryd.ntmps59
    go_wp2_with fail
    go_ret2
    rw [HE.out.1, HE.out.2]
    exact ⟨none, 0, 0, rfl, own_nil _ _ _, w, Below.refl _ _, grown_self _ _⟩
  · obtain ⟨j, rfl⟩ : ∃ j : Nat, x = (j : Int) := ⟨x.toNat, by omega⟩
    obtain ⟨ad, rfl, _, hc⟩ := HA.out.2 (by omega)
    have k1 := hc j (by rw [HL.out]; omega)
    have HS : Hid ((ab[j]?.getD []).length ≤ 1000) := Lib.hid (hs j)
    have HE : Hid (abT T ab (j : Int) = extT T (ab[j]?.getD []) ∧ abE ab (j : Int) = 0) := Lib.hid (by unfold abT abE; rw [HL.out, if_neg h2, if_neg h2, Int.toNat_natCast]; exact ⟨rfl, rfl⟩)
    obtain ⟨s, hse⟩ : ∃ s, s = ab[j]?.getD [] := ⟨_, rfl⟩
    rw [← hse] at k1 HE HS
    clear hc hse
    go_enter Tryd.func59, Tryd.ntmps59
    go_wp2_with fail
    refine (extended_any w base A n c T s HO.out hb hn (by have := HS.out; omega)).mono ?_
    rintro e w3 ⟨A3, n3, c3, rfl, ho3, hg3⟩
    have HO3 := Lib.hid ho3
    have HG3 := Lib.hid hg3
    clear ho3 hg3
    go_wp2_with fail
    go_ret2
    rw [HE.out.1, HE.out.2]
    exact ⟨A3, n3, c3, rfl, HO3.out, w, Below.refl _ _, HG3.out⟩

/-- the literal codes' text, put behind -/
def litT (T : List UInt8) (zs : List Int) : List UInt8 := match txt zs with
  | none => []
  | some t => extT T t
def litE (zs : List Int) : Int := match txt zs with
  | none => 16
  | some _ => 0

theorem lit_some {zs : List Int} {t : List UInt8} (h : txt zs = some t) (T : List UInt8) : litT T zs = extT T t ∧ litE zs = 0 := by
  unfold litT litE
  rw [h]
  exact ⟨rfl, rfl⟩

theorem lit_none {zs : List Int} (h : txt zs = none) (T : List UInt8) : litT T zs = [] ∧ litE zs = 16 := by
  unfold litT litE
  rw [h]
  exact ⟨rfl, rfl⟩

set_option maxRecDepth 100000 in
set_option maxHeartbeats 3200000 in
theorem withLiteral_any (w : World) (base : Nat) (A A' : Option Addr) (n c n' c' : Nat) (T : List UInt8) (zs : List Int) (ho : w.ownsRow base 5 1 (.slice A n c) n (bc T)) (hb : base ≤ w.heap.size) (hn : n ≤ 100000)
    (hz : RdI w w.heap.size A' n' zs) (hn' : (n' : Int) ≤ 100000) (hc' : n' ≤ c') :
    Calls Tryd.prog 58 #[.slice A n c, .slice A' n' c'] w (OutGE base w (.slice A n c) (litT T zs) (litE zs)) := by
  have HO := Lib.hid ho
  have HZ := Lib.hid hz
  have HZL := Lib.hid hz.1
  clear ho hz
  go_enter Tryd.func58, Tryd.ntmps58
  go_wp2_with fail
  refine (textof_any w A' n' c' zs HZ.out hn' hc').mono ?_
  rintro e w1 ⟨t, er, hrel, rfl, hb1⟩
  have HO1 := Lib.hid (own_below HO.out hb1)
  have HB1 := Lib.hid hb1
  have hb2 : base ≤ w1.heap.size := by have := hb1.size; omega
  clear hb1
  rcases txt_rel hrel with ⟨hx, rfl⟩ | ⟨hx, rfl, rfl⟩
  · have HX := Lib.hid hx
    have htl := txt_len hx
    rw [HZL.out] at htl
    clear hx hrel
    go_wp2_with fail
    refine (extended_any w1 base A n c T t HO1.out hb2 hn (by omega)).mono ?_
    rintro e w3 ⟨A3, n3, c3, rfl, ho3, hg3⟩
    have HO3 := Lib.hid ho3
    have HG3 := Lib.hid hg3
    clear ho3 hg3
    go_wp2_with fail
    go_ret2
    refine ⟨A3, n3, c3, ?_, ?_, w1, HB1.out, HG3.out⟩
    · rw [(lit_some HX.out T).2]
      rfl
    · rw [(lit_some HX.out T).1]
      exact HO3.out
  · have HX := Lib.hid hx
    clear hx hrel
    go_wp2_with fail
    go_ret2
    refine ⟨none, 0, 0, ?_, ?_, w1, HB1.out, grown_self _ _⟩
    · rw [(lit_none HX.out T).2]
      rfl
    · rw [(lit_none HX.out T).1]
      exact own_nil _ _ _

set_option maxRecDepth 100000 in
set_option maxHeartbeats 3200000 in
theorem together_any (w : World) (B g : Nat) (A : Option Addr) (n c i : Nat) (zs : List Int) (h : RdI w B A n zs) (hg : w.cell? ⟨g, 0, none⟩ = some (.slice A n c)) (hi : i < n) (hn : (n : Int) ≤ 1000000) :
    Calls Tryd.prog 57 #[.int .i64 i, .pointer (some ⟨g, 0, none⟩)] w fun e w' => e = .returned (.int .i64 (wideI (zs.getD i 0) : Nat)) ∧ w = w' := by
  obtain ⟨ad, rfl, _, hc⟩ := h.2.1 (by omega)
  have k1 := hc i (by rw [h.1]; exact hi)
  obtain ⟨y, hy⟩ : ∃ y, y = zs.getD i 0 := ⟨_, rfl⟩
  rw [← hy] at k1 ⊢
  clear hy hc h
  by_cases h27 : y = 27
  · subst h27
    go_enter Tryd.func57, Tryd.ntmps57
    go_wp2_with fail
    go_ret
    exact ⟨rfl, rfl⟩
  · by_cases h28 : y = 28
    · subst h28
      go_enter Tryd.func57, Tryd.ntmps57
      go_wp2_with fail
      go_ret
      exact ⟨rfl, rfl⟩
    · by_cases h30 : y = 30
      · subst h30
        go_enter Tryd.func57, Tryd.ntmps57
        go_wp2_with fail
        go_ret
        exact ⟨rfl, rfl⟩
      · by_cases h29 : y = 29
        · subst h29
          go_enter Tryd.func57, Tryd.ntmps57
          go_wp2_with fail
          go_ret
          exact ⟨rfl, rfl⟩
        · have hw : wideI y = 1 := by unfold wideI; rw [if_neg (by omega), if_neg h29]
          have t27 : (y == 27) = false := by simpa using h27
          have t28 : (y == 28) = false := by simpa using h28
          have t29 : (y == 29) = false := by simpa using h29
          have t30 : (y == 30) = false := by simpa using h30
          rw [hw]
          clear hw
          go_enter Tryd.func57, Tryd.ntmps57
          go_wp2_with fail
          go_ret
          exact ⟨rfl, rfl⟩

theorem ge_below {w0 wr w' : World} {base n : Nat} {t : TypeId} {v : Value} {xs : List Value} (HO : wr.ownsRow base t 1 v n xs) (hb : w0.heap.size ≤ base) (HB : Below w0.heap.size w0 wr)
    (h : ∃ wm, Below wr.heap.size wr wm ∧ wm.grownBy w' v.ownBlock) : Below w0.heap.size w0 w' := by
  obtain ⟨wm, h1, h2⟩ := h
  exact app_below0 (own_base (own_below HO h1) hb) (HB.trans (h1.mono HB.size)) h2

theorem ge_blk {wr w' : World} {base n g : Nat} {t t' : TypeId} {v : Value} {xs : List Value} {cs : Array Value} (HK : Blk wr g t' cs) (HO : wr.ownsRow base t 1 v n xs) (hg : g < base)
    (h : ∃ wm, Below wr.heap.size wr wm ∧ wm.grownBy w' v.ownBlock) : Blk w' g t' cs := by
  obtain ⟨wm, h1, h2⟩ := h
  refine (HK.below h1 HK.lt).grown h2 (fun e => ?_)
  have := (HO.lt _ e.symm).1
  omega

/-- the row of codes, from one place to another -/
theorem RdI.mid {w : World} {B : Nat} {A : Option Addr} {n : Nat} {zs : List Int} (h : RdI w B A n zs) {L a cap : Nat} (hL : L ≤ a) (ha : a ≤ n) (hc : n ≤ cap) :
    RdI w B (if cap = L then A else A.map (·.add L)) (a - L) ((zs.drop L).take (a - L)) :=
  (h.rest (k := L) (cap := cap) (by omega) hc).first (a - L) (by omega)

def DecOut (w : World) (ab : List (List UInt8)) (zs : List Int) (e : Ending) (w' : World) : Prop :=
  ∃ t, e = .returned (.tuple #[.string (bs t), .int .i64 (sayL ab zs).2]) ∧ ((sayL ab zs).2 = 0 → Appr t (sayL ab zs).1) ∧ ((sayL ab zs).2 ≠ 0 → t = []) ∧ t.length ≤ 60000 ∧ Below w.heap.size w w'

theorem DecOut.bad {w w' : World} {ab : List (List UInt8)} {zs : List Int} {er : Int} (h : sayL ab zs = ([], er)) (h0 : er ≠ 0) (hb : Below w.heap.size w w') : DecOut w ab zs (.returned (.tuple #[.string (bs []), .int .i64 er])) w' := by
  refine ⟨[], by rw [h], fun e => ?_, fun _ => rfl, Nat.zero_le _, hb⟩
  rw [h] at e
  exact absurd e h0

set_option maxRecDepth 100000 in
set_option maxHeartbeats 6400000 in
theorem decoded_any (w : World) (A A' : Option Addr) (n n' c c' : Nat) (zs : List Int) (ab : List (List UInt8)) (h : RdI w w.heap.size A n zs) (h' : RdS w w.heap.size A' n' ab) (hz : ∀ z ∈ zs, 0 ≤ z ∧ z ≤ 30) (hm : Short_ 1000 ab) (hn : (n : Int) ≤ 50000) (hc : n ≤ c) (hn' : (n' : Int) ≤ 10000) :
    Calls Tryd.prog 32 #[.slice A n c, .slice A' n' c'] w (DecOut w ab zs) := by
  have hmf : ∀ (fn : Fn) (first cap : Array Value) (w : World), (Instr.makeFunc fn first cap).run Tryd.prog w = .ok (.func fn first cap) w := fun _ _ _ _ => rfl
  have hke : Enters 57 := ⟨_, Tryd.func57, by kernel_rfl, by kernel_rfl⟩
  have hk := hke.run
  clear hke
  have H := Lib.hid h
  have H' := Lib.hid h'
  have HL := Lib.hid h.1
  have HZ := Lib.hid hz
  have HM := Lib.hid hm
  have HC := Lib.hid hc
  clear h h' hz hm hc
  go_enter Tryd.func32, Tryd.ntmps32
  go_wp2_with fail
  go_step3
  go_wp2_with fail
  go_step3
  go_wp2_with fail
  go_loopw [7, 8, 9, 10] (fun v7 v8 v9 v10 wr => ∃ (A3 : Option Addr) (m c3 L a : Nat) (T acc : List UInt8), v7 = .slice A3 m c3 ∧ v8 = .int .i64 0 ∧ v9 = .int .i64 L ∧ v10 = .int .i64 a ∧ L ≤ a ∧ a ≤ n ∧ m ≤ 52000 ∧ Hid (Dec ab zs acc L a) ∧ Hid (Appr T acc) ∧ Hid (Blk wr w.heap.size 25 #[.slice A n c]) ∧ Hid (wr.ownsRow (w.heap.size + 1) 5 1 (.slice A3 m c3) m (bc T)) ∧ Hid (Below w.heap.size w wr)) (fun _ _ _ v10 _ => n - (intOf v10).toNat)
  case atStart => exact ⟨none, 0, 0, 0, 0, [], [], rfl, rfl, rfl, rfl, Nat.le_refl _, Nat.zero_le _, Nat.zero_le _, Lib.hid (Dec.start ab zs), Lib.hid (.inl rfl), Lib.hid (Blk.new w _ _), Lib.hid (own_nil _ _ _), Lib.hid ((Below.refl _ _).alloc (Nat.le_refl _) _)⟩
  case round =>
    obtain ⟨A3, m, c3, L, a, T, acc, rfl, rfl, rfl, rfl, hLa, han, hm, HD, HA, HBK, HO, HB⟩ := hrel
    have kb : wr.cell? ⟨w.heap.size, 0, none⟩ = some (.slice A n c) := HBK.out.cell 0
    by_cases hlt : a < n
    · have hzr := HZ.out (zs.getD a 0) (getD_in (by rw [HL.out]; exact hlt))
      have htq : ∀ q, Calls Tryd.prog 57 #[.int .i64 a, .pointer (some ⟨w.heap.size, 0, none⟩)] (wr.drewN q) fun e w' => e = .returned (.int .i64 (wideI (zs.getD a 0) : Nat)) ∧ w' = wr.drewN q := fun q =>
        (together_any (wr.drewN q) w.heap.size w.heap.size A n c a zs (H.out.below (below_drewN HB.out q)) kb hlt (by omega)).mono fun e w' h => ⟨h.1, h.2.symm⟩
      obtain ⟨ad, rfl, hab, hcell⟩ := H.out.2.1 (by omega)
      have k1 := (HB.out.cell (p := ad.add a) (by rw [blk_add]; exact hab)).trans (hcell a (by rw [HL.out]; exact hlt))
      have hwp := wide_pos (zs.getD a 0)
      obtain ⟨k, hk2⟩ : ∃ k, k = wideI (zs.getD a 0) := ⟨_, rfl⟩
      rw [← hk2] at htq hwp
      have hbd : ∀ q, Hid (Below w.heap.size w (wr.drewN q)) := fun q => Lib.hid (below_drewN HB.out q)
      by_cases hms : n < a + k
      · have HS : Hid (sayL ab zs = ([], 16)) := Lib.hid (HD.out.missing (by rw [HL.out]; exact hlt) (by rw [HL.out, ← hk2]; exact hms))
        clear hk2 hcell
        go_wp2_with fail
        go_quiet ((exact Calls.quiet_of_same (htq _)))
        go_wp2_with fail
        rw [Exit.noGoto_ret]
        go_ret2
        exact DecOut.bad HS.out (by decide) (hbd _).out
      · by_cases h30 : zs.getD a 0 = 30
        · obtain rfl : k = 2 := by rw [hk2, h30]; rfl
          have hk3 := hcell (a + 1) (by rw [HL.out]; omega)
          have hk4 := (HB.out.cell (p := ad.add (a + 1)) (by rw [blk_add]; exact hab)).trans hk3
          rw [add_pos ad (a + 1) (by omega)] at hk3 hk4
          have hzx := HZ.out (zs.getD (a + 1) 0) (getD_in (by rw [HL.out]; omega))
          have HAB := Lib.hid (fun t ht => HD.out.abbr (t := t) h30 (by rw [HL.out]; omega) ht)
          have HNO := Lib.hid (HD.out.none (by rintro ⟨_, h2⟩; exact h2 h30))
          have H30 : Hid (wideI (zs.getD a 0) = 2) := Lib.hid (by rw [h30]; rfl)
          obtain ⟨x, hx⟩ : ∃ x, x = zs.getD (a + 1) 0 := ⟨_, rfl⟩
          rw [← hx] at hk3 hk4 hzx HAB
          rw [h30] at k1
          have HK3 := Lib.hid hk3
          have hcc := HC.out
          have hbl := HBK.out.lt
          have hod : ∀ q, Hid ((wr.drewN q).ownsRow (w.heap.size + 1) 5 1 (.slice A3 m c3) m (bc T)) := fun q => Lib.hid (own_below HO.out (below_drewN (Below.refl _ _) _))
          have hbk : ∀ q, Hid (Blk (wr.drewN q) w.heap.size 25 #[.slice (some ad) n c]) := fun q => Lib.hid HBK.out
          have hrd : ∀ q, Hid (RdI (wr.drewN q) (wr.drewN q).heap.size (some (ad.add L)) (a - L) ((zs.drop L).take (a - L))) := fun q => Lib.hid (by
            have h := (((H.out.mid hLa han hcc).below (hbd q).out)).more (hbd q).out.size
            rw [if_neg (by omega)] at h
            exact h)
          have htl : ∀ t, txt ((zs.drop L).take (a - L)) = some t → t.length ≤ 50000 := fun t ht => by
            have h := txt_len ht
            rw [List.length_take] at h
            omega
          have HTL := Lib.hid htl
          clear hk2 hcell hx h30 hk3 htl
          go_wp2_with fail
          go_quiet ((exact Calls.quiet_of_same (htq _)))
          go_wp2_with fail
          refine (withLiteral_any (wr.drewN nq) (w.heap.size + 1) A3 (some (ad.add L)) m c3 (a - L) (c - L) T ((zs.drop L).take (a - L)) (hod nq).out hbl (by omega) (hrd nq).out (by omega) (by omega)).mono ?_
          rintro e w3 ⟨A4, n4, c4, rfl, ho4, hb4⟩
          have HB4 : Hid (Below w.heap.size w w3) := Lib.hid (ge_below (hod nq).out (Nat.le_succ _) (hbd nq).out hb4)
          have HK4 : Hid (Blk w3 w.heap.size 25 #[.slice (some ad) n c]) := Lib.hid (ge_blk (hbk nq).out (hod nq).out (Nat.lt_succ_self _) hb4)
          clear hb4
          cases ht : txt ((zs.drop L).take (a - L)) with
          | none =>
            have HS := Lib.hid (HNO.out ht)
            rw [(lit_none ht T).2]
            clear ho4
            go_wp2_with fail
            rw [Exit.noGoto_ret]
            go_ret2
            exact DecOut.bad HS.out (by decide) HB4.out
          | some t =>
            have HSN := Lib.hid (HAB.out t ht)
            have htl2 := HTL.out t ht
            rw [(lit_some ht T).2]
            rw [(lit_some ht T).1] at ho4
            have HO4 := Lib.hid ho4
            have hn4 : n4 ≤ 52000 := by
              have h1 := own_len ho4
              have h2 := extT_len T t
              have h3 := own_len HO.out
              omega
            have kb4 : w3.cell? ⟨w.heap.size, 0, none⟩ = some (.slice (some ad) n c) := HK4.out.cell 0
            have kx4 := (HB4.out.cell (p := ⟨ad.block, ad.off + (a + 1), none⟩) hab).trans HK3.out
            have hbl4 := HK4.out.lt
            have hz4 := HB4.out.size
            clear ho4 ht
            go_wp2_with fail
            refine (withAbbrev_any w3 (w.heap.size + 1) A4 A' n4 c4 n' c' (extT T t) ab x HO4.out hbl4 (by omega) HM.out ((H'.out.below HB4.out).more hz4) hn' hzx.1 hzx.2).mono ?_
            rintro e w4 ⟨A5, n5, c5, rfl, ho5, hb5⟩
            have HB5 : Hid (Below w.heap.size w w4) := Lib.hid (ge_below HO4.out (Nat.le_succ _) HB4.out hb5)
            have HK5 : Hid (Blk w4 w.heap.size 25 #[.slice (some ad) n c]) := Lib.hid (ge_blk HK4.out HO4.out (Nat.lt_succ_self _) hb5)
            clear hb5
            by_cases hx9 : (ab.length : Int) ≤ x
            · have HS := Lib.hid (HSN.out.1 hx9)
              have e1 : abE ab x = 11 := by unfold abE; rw [if_pos hx9]
              rw [e1]
              clear ho5 e1 hx9
              go_wp2_with fail
              rw [Exit.noGoto_ret]
              go_ret2
              exact DecOut.bad HS.out (by decide) HB5.out
            · have HDN := Lib.hid (HSN.out.2 (by omega))
              have e1 : abE ab x = 0 := by unfold abE; rw [if_neg hx9]
              have e2 : abT (extT T t) ab x = extT (extT T t) (ab.getD x.toNat []) := by unfold abT; rw [if_neg hx9]
              rw [e1]
              rw [e2] at ho5
              have HO5 := Lib.hid ho5
              have hn5 : n5 ≤ 52000 := by
                have h1 := own_len ho5
                have h2 := extT_len (extT T t) (ab.getD x.toNat [])
                have h3 : (ab.getD x.toNat []).length ≤ 1000 := HM.out x.toNat
                have h4 := own_len HO4.out
                omega
              have HA5 := Lib.hid ((HA.out.ext t).ext (ab.getD x.toNat []))
              have kb5 : w4.cell? ⟨w.heap.size, 0, none⟩ = some (.slice (some ad) n c) := HK5.out.cell 0
              clear ho5 e1 e2 hx9
              go_wp2_with fail
              refine (together_any w4 w.heap.size w.heap.size (some ad) n c a zs (H.out.below HB5.out) kb5 hlt (by omega)).mono ?_
              rintro e w5 ⟨rfl, rfl⟩
              rw [H30.out]
              go_wp2_with fail
              refine (together_any w4 w.heap.size w.heap.size (some ad) n c a zs (H.out.below HB5.out) kb5 hlt (by omega)).mono ?_
              rintro e w5 ⟨rfl, rfl⟩
              rw [H30.out]
              go_wp2_with fail
              go_roundw
              case rel => exact ⟨A5, n5, c5, a + 2, a + 2, _, _, rfl, rfl, by go_num, by go_num, by omega, by omega, hn5, HDN, HA5, HK5, HO5, HB5⟩
              case measure => simp [intOf]; omega
        · have HD2 : Hid (Dec ab zs acc L (a + k)) := Lib.hid (by rw [hk2]; exact HD.out.next (by rw [HL.out]; exact hlt) h30 (by rw [HL.out, ← hk2]; omega))
          obtain ⟨x, hx⟩ : ∃ x, x = zs.getD a 0 := ⟨_, rfl⟩
          rw [← hx] at k1 h30 hzr
          have t30 : (x != 30) = true := by rw [bne_iff_ne]; exact h30
          have hbd2 : ∀ q, Hid (Blk (wr.drewN q) w.heap.size 25 #[.slice (some ad) n c]) := fun q => Lib.hid HBK.out
          have hod : ∀ q, Hid ((wr.drewN q).ownsRow (w.heap.size + 1) 5 1 (.slice A3 m c3) m (bc T)) := fun q => Lib.hid (own_below HO.out (below_drewN (Below.refl _ _) _))
          clear hk2 hcell hx
          go_wp2_with fail
          go_quiet ((exact Calls.quiet_of_same (htq _)))
          go_wp2_with fail
          refine (htq nq).mono ?_
          rintro e w3 ⟨rfl, rfl⟩
          go_wp2_with fail
          go_roundw
          case rel => exact ⟨A3, m, c3, L, a + k, T, acc, rfl, rfl, rfl, by go_num, by omega, by omega, hm, HD2, HA, hbd2 _, hod _, hbd _⟩
          case measure => simp [intOf]; omega
    · obtain rfl : a = n := by omega
      have hcc := HC.out
      have hbl := HBK.out.lt
      have hsz := HB.out.size
      have HR0 : Hid (RdI wr wr.heap.size (if c = L then A else A.map (·.add L)) (a - L) (zs.drop L)) := Lib.hid (((H.out.rest (k := L) (cap := c) hLa hcc).below HB.out).more hsz)
      have htl : ∀ t, txt (zs.drop L) = some t → t.length ≤ 50000 := fun t ht => by
        have h := txt_len ht
        rw [List.length_drop, HL.out] at h
        omega
      have HTL := Lib.hid htl
      have HDL : Hid (Dec ab zs acc L zs.length) := Lib.hid (by rw [HL.out]; exact HD.out)
      clear htl
      go_wp2_with fail
      · have h0 := HR0.out
        rw [if_pos (by assumption)] at h0
        have HRD := Lib.hid h0
        clear h0
        refine (withLiteral_any wr (w.heap.size + 1) A3 A m c3 _ 0 T (zs.drop L) HO.out hbl (by omega) HRD.out (by omega) (by omega)).mono ?_
        rintro e w3 ⟨A4, n4, c4, rfl, ho4, hb4⟩
        have HB4 : Hid (Below w.heap.size w w3) := Lib.hid (ge_below HO.out (Nat.le_succ _) HB.out hb4)
        clear hb4
        cases ht : txt (zs.drop L) with
        | none =>
          have HS := Lib.hid (HDL.out.bad ht)
          rw [(lit_none ht T).2]
          clear ho4 ht
          go_wp2_with fail
          rw [Exit.noGoto_ret]
          go_ret2
          exact DecOut.bad HS.out (by decide) HB4.out
        | some t =>
          have HS := Lib.hid (HDL.out.done ht)
          have htl2 := HTL.out t ht
          rw [(lit_some ht T).2]
          rw [(lit_some ht T).1] at ho4
          have HN4 : Hid ((extT T t).length ≤ 60000) := Lib.hid (by
            have h2 := extT_len T t
            have h3 := own_len HO.out
            omega)
          have hcv := Rd.toStr (P := Tryd.prog) (Rd.of_own ho4) 26 9 5 c4 Tryd.underlying26 Tryd.underlying5 Tryd.underlying9
          have HA4 := Lib.hid (HA.out.ext t)
          clear ho4 ht htl2
          go_wp2_with fail
          rw [Exit.noGoto_ret]
          go_ret2
          refine ⟨extT T t, by rw [HS.out]; rfl, fun _ => by rw [HS.out]; exact HA4.out, fun h => ?_, HN4.out, HB4.out⟩
          rw [HS.out] at h
          exact absurd rfl h
      · have h0 := HR0.out
        rw [if_neg (by omega)] at h0
        have HRD := Lib.hid h0
        clear h0
        refine (withLiteral_any wr (w.heap.size + 1) A3 (A.map (·.add L)) m c3 _ (c - L) T (zs.drop L) HO.out hbl (by omega) HRD.out (by omega) (by omega)).mono ?_
        rintro e w3 ⟨A4, n4, c4, rfl, ho4, hb4⟩
        have HB4 : Hid (Below w.heap.size w w3) := Lib.hid (ge_below HO.out (Nat.le_succ _) HB.out hb4)
        clear hb4
        cases ht : txt (zs.drop L) with
        | none =>
          have HS := Lib.hid (HDL.out.bad ht)
          rw [(lit_none ht T).2]
          clear ho4 ht
          go_wp2_with fail
          rw [Exit.noGoto_ret]
          go_ret2
          exact DecOut.bad HS.out (by decide) HB4.out
        | some t =>
          have HS := Lib.hid (HDL.out.done ht)
          have htl2 := HTL.out t ht
          rw [(lit_some ht T).2]
          rw [(lit_some ht T).1] at ho4
          have HN4 : Hid ((extT T t).length ≤ 60000) := Lib.hid (by
            have h2 := extT_len T t
            have h3 := own_len HO.out
            omega)
          have hcv := Rd.toStr (P := Tryd.prog) (Rd.of_own ho4) 26 9 5 c4 Tryd.underlying26 Tryd.underlying5 Tryd.underlying9
          have HA4 := Lib.hid (HA.out.ext t)
          clear ho4 ht htl2
          go_wp2_with fail
          rw [Exit.noGoto_ret]
          go_ret2
          refine ⟨extT T t, by rw [HS.out]; rfl, fun _ => by rw [HS.out]; exact HA4.out, fun h => ?_, HN4.out, HB4.out⟩
          rw [HS.out] at h
          exact absurd rfl h

/-- where a text's bytes lie: why they don't, and which they are -/
def byE (at_ : List Int) (l : List UInt8) (i : Int) : Int :=
  if i < 0 ∨ (at_.length : Int) ≤ i then 11 else
  if at_.getD i.toNat 0 < 0 ∨ (l.length : Int) < endI at_ l.length i.toNat ∨ endI at_ l.length i.toNat < at_.getD i.toNat 0 then 5 else 0
def byL (at_ : List Int) (l : List UInt8) (i : Int) : List UInt8 := (l.drop (at_.getD i.toNat 0).toNat).take (endI at_ l.length i.toNat - at_.getD i.toNat 0).toNat

theorem textAt_by (ab : List (List UInt8)) (at_ : List Int) (l : List UInt8) (i : Int) : textAt ab at_ l i = if byE at_ l i ≠ 0 then ([], byE at_ l i) else bytesT ab (byL at_ l i) := by
  unfold textAt byE byL
  split
  · rfl
  · split
    · rfl
    · rfl

theorem byL_len (at_ : List Int) (l : List UInt8) (i : Int) : (byL at_ l i).length ≤ l.length := by
  unfold byL
  rw [List.length_take, List.length_drop]
  omega

def ByOut (w : World) (at_ : List Int) (l : List UInt8) (i : Int) (e : Ending) (w' : World) : Prop :=
  ∃ A n c, e = .returned (.tuple #[.slice A n c, .int .i64 (byE at_ l i)]) ∧ Below w.heap.size w w' ∧ (byE at_ l i = 0 → n ≤ c ∧ Rd w' w'.heap.size A n (byL at_ l i))

theorem ByOut.bad {w w' : World} {at_ : List Int} {l : List UInt8} {i er : Int} (h : byE at_ l i = er) (h0 : er ≠ 0) (hb : Below w.heap.size w w') : ByOut w at_ l i (.returned (.tuple #[.slice none 0 0, .int .i64 er])) w' :=
  ⟨none, 0, 0, by rw [h], hb, fun e => absurd (h.symm.trans e) h0⟩

theorem ByOut.ok {w w' : World} {at_ : List Int} {l : List UInt8} {i : Int} {A : Option Addr} {n c : Nat} (h : byE at_ l i = 0) (hb : Below w.heap.size w w') (hc : n ≤ c) (hr : Rd w' w'.heap.size A n (byL at_ l i)) : ByOut w at_ l i (.returned (.tuple #[.slice A n c, .int .i64 0])) w' :=
  ⟨A, n, c, by rw [h], hb, fun _ => ⟨hc, hr⟩⟩

set_option maxRecDepth 100000 in
set_option maxHeartbeats 6400000 in
theorem bytesOf_any (w : World) (Aa At Ab : Option Addr) (na ca nt ct nb cb : Nat) (at_ : List Int) (l : List UInt8) (i : Int) (ht : RdI w w.heap.size At nt at_) (hb : Rd w w.heap.size Ab nb l)
    (hnt : (nt : Int) ≤ 10000) (hnb : (nb : Int) ≤ 50000) (hcb : nb ≤ cb) :
    Calls Tryd.prog 30 #[pv Aa na ca At nt ct Ab nb cb, .int .i64 i] w (ByOut w at_ l i) := by
  have HT := Lib.hid ht
  have HTL := Lib.hid ht.1
  have HBR := Lib.hid hb
  have HBL := Lib.hid hb.1
  have HCB := Lib.hid hcb
  have HB1 : Hid (Below w.heap.size w (w.alloc (.cells #[.slice Aa na ca, .slice At nt ct, .slice Ab nb cb] 28))) := Lib.hid ((Below.refl _ _).alloc (Nat.le_refl _) _)
  have HBD : ∀ k, Hid (Below w.heap.size w ((w.alloc (.cells #[.slice Aa na ca, .slice At nt ct, .slice Ab nb cb] 28)).drewN k)) := fun _ => Lib.hid ⟨HB1.out.os, HB1.out.tape, HB1.out.output, HB1.out.size, HB1.out.block⟩
  clear ht hb hcb
  by_cases h0 : i < 0
  · have HE : Hid (byE at_ l i = 11) := Lib.hid (by unfold byE; rw [if_pos (.inl h0)])
    go_enter Tryd.func30, Tryd.ntmps30
    go_wp2_with fail
    go_ret2
    exact ByOut.bad HE.out (by decide) HB1.out
  · obtain ⟨j, rfl⟩ : ∃ j : Nat, i = (j : Int) := ⟨i.toNat, by omega⟩
    by_cases h1 : nt ≤ j
    · have HE : Hid (byE at_ l j = 11) := Lib.hid (by unfold byE; rw [if_pos (.inr (by rw [HTL.out]; omega))])
      go_enter Tryd.func30, Tryd.ntmps30
      go_wp2_with fail
      go_ret2
      exact ByOut.bad HE.out (by decide) HB1.out
    · have HE : Hid (byE at_ l j = if at_.getD j 0 < 0 ∨ (l.length : Int) < endI at_ l.length j ∨ endI at_ l.length j < at_.getD j 0 then 5 else 0) := Lib.hid (by
        unfold byE
        rw [if_neg (by rw [HTL.out]; omega), Int.toNat_natCast])
      have HZ : Hid (byL at_ l j = (l.drop (at_.getD j 0).toNat).take (endI at_ l.length j - at_.getD j 0).toNat) := Lib.hid (by
        unfold byL
        rw [Int.toNat_natCast])
      obtain ⟨ad, rfl, hab, hcell⟩ := HT.out.2.1 (by omega)
      have k1 := (HB1.out.cell (p := ad.add j) (by rw [blk_add]; exact hab)).trans (hcell j (by rw [HTL.out]; omega))
      have hr1 := HT.out.2.2 j
      obtain ⟨x, hx⟩ : ∃ x, x = at_.getD j 0 := ⟨_, rfl⟩
      rw [← hx] at k1 hr1 HE HZ
      clear hx
      have hy : ∃ y : Int, y = endI at_ l.length j ∧ ((j + 1 < nt ∧ (w.alloc (.cells #[.slice Aa na ca, .slice (some ad) nt ct, .slice Ab nb cb] 28)).cell? (ad.add (j + 1)) = some (.int .i64 y) ∧ -9223372036854775808 ≤ y ∧ y ≤ 9223372036854775807) ∨ (¬ j + 1 < nt ∧ y = nb)) := by
        refine ⟨_, rfl, ?_⟩
        unfold endI
        rw [HTL.out]
        by_cases h2 : j + 1 < nt
        · rw [if_pos h2]
          exact .inl ⟨h2, (HB1.out.cell (p := ad.add (j + 1)) (by rw [blk_add]; exact hab)).trans (hcell (j + 1) (by rw [HTL.out]; exact h2)), HT.out.2.2 _⟩
        · rw [if_neg h2]
          exact .inr ⟨h2, by rw [HBL.out]⟩
      obtain ⟨y, hye, hy⟩ := hy
      rw [← hye] at HE HZ
      rw [HBL.out] at HE
      clear hcell hye
      have hyc : (∃ _ : (j : Int) + 1 < nt, (w.alloc (.cells #[.slice Aa na ca, .slice (some ad) nt ct, .slice Ab nb cb] 28)).cell? ⟨ad.block, ad.off + (j + 1), none⟩ = some (.int .i64 y) ∧ -9223372036854775808 ≤ y ∧ y ≤ 9223372036854775807) ∨ (¬ (j : Int) + 1 < nt ∧ y = nb) := by
        rcases hy with ⟨h2, k2, hr2⟩ | ⟨h2, hyb⟩
        · rw [add_pos ad (j + 1) (by omega)] at k2
          exact .inl ⟨by omega, k2, hr2⟩
        · exact .inr ⟨by omega, hyb⟩
      clear hy
      rcases hyc with ⟨h2, k2, hr2⟩ | ⟨h2, rfl⟩
      · by_cases hx0 : x < 0
        · have HE2 : Hid (byE at_ l j = 5) := Lib.hid (by rw [HE.out, if_pos (.inl hx0)])
          go_enter Tryd.func30, Tryd.ntmps30
          go_wp2_with fail
          go_quiet (fail)
          go_wp2_with fail
          go_ret2
          exact ByOut.bad HE2.out (by decide) (HBD _).out
        · by_cases hxy : y < x
          · have HE2 : Hid (byE at_ l j = 5) := Lib.hid (by rw [HE.out, if_pos (.inr (.inr hxy))])
            go_enter Tryd.func30, Tryd.ntmps30
            go_wp2_with fail
            go_quiet (fail)
            go_wp2_with fail
            go_ret2
            exact ByOut.bad HE2.out (by decide) (HBD _).out
          · by_cases hy0 : (nb : Int) < y
            · have HE2 : Hid (byE at_ l j = 5) := Lib.hid (by rw [HE.out, if_pos (.inr (.inl hy0))])
              go_enter Tryd.func30, Tryd.ntmps30
              go_wp2_with fail
              go_quiet (fail)
              go_wp2_with fail
              go_ret2
              exact ByOut.bad HE2.out (by decide) (HBD _).out
            · have HE2 : Hid (byE at_ l j = 0) := Lib.hid (by rw [HE.out, if_neg (by omega)])
              obtain ⟨p, rfl⟩ : ∃ p : Nat, x = (p : Int) := ⟨x.toNat, by omega⟩
              obtain ⟨q, rfl⟩ : ∃ q : Nat, y = (p : Int) + (q : Int) := ⟨(y - p).toNat, by omega⟩
              rw [Int.toNat_natCast, show ((p : Int) + (q : Int) - (p : Int)).toNat = q from by omega] at HZ
              have hpq : p + q ≤ nb := by omega
              have hcb := HCB.out
              have hpc : p + q ≤ cb := by omega
              have HRD : Hid (∀ W, Below w.heap.size w W → Rd W W.heap.size (if cb = p then Ab else Ab.map (·.add p)) q (byL at_ l j)) := Lib.hid fun W hW => by
                rw [HZ.out]
                exact ((HBR.out.mid p q hpq cb hcb).below hW).more hW.size
              go_enter Tryd.func30, Tryd.ntmps30
              go_wp2_with fail
              go_quiet (fail)
              go_wp2_with fail
              · go_ret2
                have h9 : cb = p := by assumption
                subst h9
                refine ByOut.ok HE2.out (HBD _).out (by omega) ?_
                have h := HRD.out _ (HBD nq).out
                rw [if_pos rfl] at h
                exact h
              · go_ret2
                refine ByOut.ok HE2.out (HBD _).out (by omega) ?_
                have h := HRD.out _ (HBD nq).out
                rw [if_neg (by assumption)] at h
                exact h
      · by_cases hx0 : x < 0
        · have HE2 : Hid (byE at_ l j = 5) := Lib.hid (by rw [HE.out, if_pos (.inl hx0)])
          go_enter Tryd.func30, Tryd.ntmps30
          go_wp2_with fail
          go_quiet (fail)
          go_wp2_with fail
          go_ret2
          exact ByOut.bad HE2.out (by decide) (HBD _).out
        · by_cases hxy : (nb : Int) < x
          · have HE2 : Hid (byE at_ l j = 5) := Lib.hid (by rw [HE.out, if_pos (.inr (.inr hxy))])
            go_enter Tryd.func30, Tryd.ntmps30
            go_wp2_with fail
            go_quiet (fail)
            go_wp2_with fail
            go_ret2
            exact ByOut.bad HE2.out (by decide) (HBD _).out
          · have HE2 : Hid (byE at_ l j = 0) := Lib.hid (by rw [HE.out, if_neg (by omega)])
            obtain ⟨p, rfl⟩ : ∃ p : Nat, x = (p : Int) := ⟨x.toNat, by omega⟩
            obtain ⟨q, hqd⟩ : ∃ q : Nat, q = nb - p := ⟨_, rfl⟩
            have hq1 : nb ≤ p + q := by omega
            have hq2 : p + q ≤ nb := by omega
            have hq3 : nb - p = q := hqd.symm
            clear hqd
            rw [Int.toNat_natCast, show ((nb : Int) - (p : Int)).toNat = q from by omega] at HZ
            have hpq : p + q ≤ nb := by omega
            have hcb := HCB.out
            have hpc : p + q ≤ cb := by omega
            have HRD : Hid (∀ W, Below w.heap.size w W → Rd W W.heap.size (if cb = p then Ab else Ab.map (·.add p)) q (byL at_ l j)) := Lib.hid fun W hW => by
              rw [HZ.out]
              exact ((HBR.out.mid p q hpq cb hcb).below hW).more hW.size
            go_enter Tryd.func30, Tryd.ntmps30
            go_wp2_with fail
            go_quiet (fail)
            go_wp2_with fail
            · go_ret2
              have h9 : cb = p := by assumption
              subst h9
              refine ByOut.ok HE2.out (HBD _).out (by omega) ?_
              have h := HRD.out _ (HBD nq).out
              rw [if_pos rfl] at h
              exact h
            · go_ret2
              refine ByOut.ok HE2.out (HBD _).out (by omega) ?_
              have h := HRD.out _ (HBD nq).out
              rw [if_neg (by assumption)] at h
              exact h

theorem str_nil : (⟨#[]⟩ : ByteArray) = bs [] := rfl

set_option maxRecDepth 100000 in
set_option maxHeartbeats 6400000 in
theorem ptext_any (w : World) (Aa At Ab : Option Addr) (na ca nt ct nb cb : Nat) (ab : List (List UInt8)) (at_ : List Int) (l : List UInt8) (i : Int) (ha : RdS w w.heap.size Aa na ab) (ht : RdI w w.heap.size At nt at_) (hb : Rd w w.heap.size Ab nb l)
    (hm : Short_ 1000 ab) (hna : (na : Int) ≤ 10000) (hnt : (nt : Int) ≤ 10000) (hnb : (nb : Int) ≤ 30000) (hcb : nb ≤ cb) :
    Calls Tryd.prog 16 #[pv Aa na ca At nt ct Ab nb cb, .int .i64 i] w fun e w' => e = .returned (.tuple #[.string (bs (textAt ab at_ l i).1), .int .i64 (textAt ab at_ l i).2]) ∧ Below w.heap.size w w' := by
  have HA := Lib.hid ha
  have HT := Lib.hid ht
  have HR := Lib.hid hb
  have HBL := Lib.hid hb.1
  have HM := Lib.hid hm
  have HE := Lib.hid (textAt_by ab at_ l i)
  have HLN := Lib.hid (byL_len at_ l i)
  have HB1 : Hid (Below w.heap.size w (w.alloc (.cells #[.slice Aa na ca, .slice At nt ct, .slice Ab nb cb] 28))) := Lib.hid ((Below.refl _ _).alloc (Nat.le_refl _) _)
  have HK1 : Hid (Blk (w.alloc (.cells #[.slice Aa na ca, .slice At nt ct, .slice Ab nb cb] 28)) w.heap.size 28 #[.slice Aa na ca, .slice At nt ct, .slice Ab nb cb]) := Lib.hid (Blk.new w _ _)
  clear ha ht hb hm
  go_enter Tryd.func16, Tryd.ntmps16
  go_wp2_with fail
  refine (bytesOf_any _ Aa At Ab na ca nt ct nb cb at_ l i ((HT.out.below HB1.out).more HB1.out.size) ((HR.out.below HB1.out).more HB1.out.size) hnt (by omega) hcb).mono ?_
  rintro e w2 ⟨A2, n2, c2, rfl, hb2, hr2⟩
  have HB2 := Lib.hid (HB1.out.trans (hb2.mono HB1.out.size))
  have HK2 := Lib.hid (HK1.out.below hb2 HK1.out.lt)
  have HR2 := Lib.hid hr2
  clear hb2 hr2
  obtain ⟨er, he⟩ : ∃ er, er = byE at_ l i := ⟨_, rfl⟩
  rw [← he] at HE HR2 ⊢
  clear he
  by_cases h0 : er = 0
  · subst h0
    have HE2 : Hid (textAt ab at_ l i = bytesT ab (byL at_ l i)) := Lib.hid (by rw [HE.out, if_neg (by simp)])
    obtain ⟨hc2, hr2⟩ := HR2.out rfl
    have HRD := Lib.hid hr2
    have hn2 : n2 ≤ 30000 := by
      have h1 := hr2.1
      have h2 := HLN.out
      have h3 := HBL.out
      omega
    obtain ⟨bl, hbl⟩ : ∃ bl, bl = byL at_ l i := ⟨_, rfl⟩
    rw [← hbl] at HE2 HRD
    clear hbl hr2 HR2 HLN
    go_wp2_with fail
    refine (unpack_any w2 A2 n2 c2 bl HRD.out (by omega)).mono ?_
    rintro e w3 ⟨A3, m3, c3, rfl, ho3, hb3⟩
    have HB3 := Lib.hid (HB2.out.trans (hb3.mono HB2.out.size))
    have HK3 := Lib.hid (HK2.out.below hb3 HK2.out.lt)
    have kf : w3.cell? ⟨w.heap.size, 0, none⟩ = some (.slice Aa na ca) := HK3.out.cell 0
    have hnl := HRD.out.1
    clear hb3
    cases hU : unpackL bl with
    | ok zs =>
      rw [hU] at ho3
      have HE3 : Hid (textAt ab at_ l i = if (sayL ab zs).2 ≠ 0 then ([], (sayL ab zs).2) else if textB (sayL ab zs).1 then ((sayL ab zs).1, 0) else ([], 13)) := Lib.hid (by rw [HE2.out]; unfold bytesT; rw [hU])
      have hrg := unpack_range hU
      have hul := unpack_len hU
      have R3 := Lib.hid (RdI.of_iv ho3 (FitI.of_range hrg))
      have hm3 : zs.length = m3 := ownI_len ho3
      have hc3 := (own_cap ho3).1
      have hk3 := HB3.out.size
      have HRG := Lib.hid hrg
      have hm4 : m3 ≤ 50000 := by omega
      clear ho3 hU hrg hul hm3
      have heo : upE (Unp.ok zs) = 0 := rfl
      rw [heo]
      go_wp2_with fail
      refine (decoded_any w3 A3 Aa m3 na c3 ca zs ab R3.out ((HA.out.below HB3.out).more hk3) HRG.out HM.out (by omega) hc3 hna).mono ?_
      rintro e w4 ⟨t, rfl, hap, hem, htl, hb4⟩
      have HB4 := Lib.hid (HB3.out.trans (hb4.mono hk3))
      have HAP := Lib.hid hap
      clear hb4 hap hem
      obtain ⟨⟨u, er⟩, hue⟩ : ∃ r, r = sayL ab zs := ⟨_, rfl⟩
      rw [← hue] at HE3 HAP ⊢
      clear hue
      by_cases h9 : er = 0
      · subst h9
        have HE4 : Hid (textAt ab at_ l i = if textB u then (u, 0) else ([], 13)) := Lib.hid (by rw [HE3.out, if_neg (by simp)])
        have hat := (HAP.out rfl).text
        have HAT := Lib.hid hat
        clear hat
        go_wp2_with fail
        refine (isText_any _ (bs t) (by rw [bs_size]; omega)).mono ?_
        rintro e w5 ⟨rfl, hb5⟩
        rw [data_bs, HAT.out.1]
        have HB5 := Lib.hid (HB4.out.trans (hb5.mono HB4.out.size))
        clear hb5
        cases hx : textB u with
        | true =>
          have HE5 : Hid (textAt ab at_ l i = (t, 0)) := Lib.hid (by rw [HE4.out, hx, HAT.out.2 hx]; rfl)
          clear hx
          go_wp2_with fail
          go_ret2
          rw [HE5.out]
          exact ⟨rfl, HB5.out⟩
        | false =>
          have HE5 : Hid (textAt ab at_ l i = ([], 13)) := Lib.hid (by rw [HE4.out, hx]; rfl)
          clear hx
          go_wp2_with fail
          go_ret2
          rw [HE5.out]
          exact ⟨rfl, HB5.out⟩
      · have HE4 : Hid (textAt ab at_ l i = ([], er)) := Lib.hid (by rw [HE3.out, if_pos h9])
        have h9b : (er != 0) = true := by rw [bne_iff_ne]; exact h9
        go_wp2_with fail
        go_ret2
        rw [HE4.out]
        exact ⟨rfl, HB4.out⟩
    | short =>
      have heo : upE Unp.short = 2 := rfl
      rw [heo]
      have HE3 : Hid (textAt ab at_ l i = ([], 2)) := Lib.hid (by rw [HE2.out]; unfold bytesT; rw [hU]; rfl)
      clear ho3 hU
      go_wp2_with fail
      go_ret2
      rw [HE3.out]
      exact ⟨rfl, HB3.out⟩
    | long =>
      have heo : upE Unp.long = 3 := rfl
      rw [heo]
      have HE3 : Hid (textAt ab at_ l i = ([], 3)) := Lib.hid (by rw [HE2.out]; unfold bytesT; rw [hU]; rfl)
      clear ho3 hU
      go_wp2_with fail
      go_ret2
      rw [HE3.out]
      exact ⟨rfl, HB3.out⟩
    | form =>
      have heo : upE Unp.form = 4 := rfl
      rw [heo]
      have HE3 : Hid (textAt ab at_ l i = ([], 4)) := Lib.hid (by rw [HE2.out]; unfold bytesT; rw [hU]; rfl)
      clear ho3 hU
      go_wp2_with fail
      go_ret2
      rw [HE3.out]
      exact ⟨rfl, HB3.out⟩
  · have HE2 : Hid (textAt ab at_ l i = ([], er)) := Lib.hid (by rw [HE.out, if_pos h0])
    have h9b : (er != 0) = true := by rw [bne_iff_ne]; exact h0
    go_wp2_with fail
    go_ret2
    rw [HE2.out]
    exact ⟨rfl, HB2.out⟩

set_option maxRecDepth 100000 in
set_option maxHeartbeats 3200000 in
theorem pcount_any (w : World) (Aa At Ab : Option Addr) (na ca nt ct nb cb : Nat) :
    Calls Tryd.prog 14 #[pv Aa na ca At nt ct Ab nb cb] w fun e w' => e = .returned (.int .i64 nt) ∧ Below w.heap.size w w' := by
  have HB1 : Hid (Below w.heap.size w (w.alloc (.cells #[.slice Aa na ca, .slice At nt ct, .slice Ab nb cb] 28))) := Lib.hid ((Below.refl _ _).alloc (Nat.le_refl _) _)
  go_enter Tryd.func14, Tryd.ntmps14
  go_wp2_with fail
  go_ret
  exact ⟨rfl, HB1.out⟩

set_option maxRecDepth 100000 in
set_option maxHeartbeats 6400000 in
theorem pall_any (w : World) (Aa At Ab : Option Addr) (na ca nt ct nb cb : Nat) (ab : List (List UInt8)) (at_ : List Int) (l : List UInt8) (ha : RdS w w.heap.size Aa na ab) (ht : RdI w w.heap.size At nt at_) (hb : Rd w w.heap.size Ab nb l)
    (hm : Short_ 1000 ab) (hna : (na : Int) ≤ 10000) (hnt : (nt : Int) ≤ 10000) (hnb : (nb : Int) ≤ 30000) (hcb : nb ≤ cb) :
    Calls Tryd.prog 12 #[pv Aa na ca At nt ct Ab nb cb] w (OutSE w.heap.size 9 w (allL ab at_ l).1 (allL ab at_ l).2) := by
  obtain ⟨i0, hi, hz0, hsz, hby⟩ := inf_parts Tryd.inf_str
  have HI := Lib.hid hi
  have HZ0 := Lib.hid hz0
  have HSZ := Lib.hid hsz
  have HBY := Lib.hid hby
  have HA := Lib.hid ha
  have HT := Lib.hid ht
  have HBR := Lib.hid hb
  have HTL := Lib.hid ht.1
  have HM := Lib.hid hm
  have HCB := Lib.hid hcb
  have HB1 : Hid (Below w.heap.size w (w.alloc (.cells #[.slice Aa na ca, .slice At nt ct, .slice Ab nb cb] 28))) := Lib.hid ((Below.refl _ _).alloc (Nat.le_refl _) _)
  have HK1 : Hid (Blk (w.alloc (.cells #[.slice Aa na ca, .slice At nt ct, .slice Ab nb cb] 28)) w.heap.size 28 #[.slice Aa na ca, .slice At nt ct, .slice Ab nb cb]) := Lib.hid (Blk.new w _ _)
  clear hi hz0 hsz hby ha ht hb hm hcb
  go_enter Tryd.func12, Tryd.ntmps12
  go_wp2_with fail
  refine (pcount_any _ Aa At Ab na ca nt ct nb cb).mono ?_
  rintro e w1 ⟨rfl, hb1⟩
  have HB2 := Lib.hid (HB1.out.trans (hb1.mono HB1.out.size))
  have HK2 := Lib.hid (HK1.out.below hb1 HK1.out.lt)
  clear hb1
  go_wp2_with fail
  go_loopw [4, 10] (fun v i wr => ∃ (A3 : Option Addr) (m c3 j : Nat) (acc : List (List UInt8)), j ≤ nt ∧ m ≤ j ∧ i = .int .i64 j ∧ v = .slice A3 m c3 ∧ Hid (allL ab at_ l = allF ab at_ l (nt - j) j acc) ∧ Hid (Blk wr w.heap.size 28 #[.slice Aa na ca, .slice At nt ct, .slice Ab nb cb]) ∧ Hid (wr.ownsRow (w.heap.size + 1) 9 1 (.slice A3 m c3) m (sc acc)) ∧ Hid (Below w.heap.size w wr)) (fun _ i _ => nt - (intOf i).toNat)
  case atStart => exact ⟨none, 0, 0, 0, [], Nat.zero_le _, Nat.zero_le _, rfl, rfl, Lib.hid (by unfold allL; rw [HTL.out]; rfl), HK2, Lib.hid (ownS_nil _ _ _), HB2⟩
  case round =>
    obtain ⟨A3, m, c3, j, acc, hj, hmj, rfl, rfl, HALL, HBK, HO, HB⟩ := hrel
    have kf0 : wr.cell? ⟨w.heap.size, 0, none⟩ = some (.slice Aa na ca) := HBK.out.cell 0
    have kf1 : wr.cell? ⟨w.heap.size, 1, none⟩ = some (.slice At nt ct) := HBK.out.cell 1
    have kf2 : wr.cell? ⟨w.heap.size, 2, none⟩ = some (.slice Ab nb cb) := HBK.out.cell 2
    have hwz := HBK.out.lt
    by_cases hlt : j < nt
    · go_wp2_with fail
      refine (ptext_any wr Aa At Ab na ca nt ct nb cb ab at_ l j ((HA.out.below HB.out).more HB.out.size) ((HT.out.below HB.out).more HB.out.size) ((HBR.out.below HB.out).more HB.out.size) HM.out hna hnt hnb HCB.out).mono ?_
      rintro e w3 ⟨rfl, hb3⟩
      have HB3 := Lib.hid (HB.out.trans (hb3.mono HB.out.size))
      have HO3 := Lib.hid (own_below HO.out hb3)
      have HBK3 := Lib.hid (HBK.out.below hb3 hwz)
      have HST : Hid (allL ab at_ l = if (textAt ab at_ l j).2 ≠ 0 then ([], (textAt ab at_ l j).2) else allF ab at_ l (nt - (j + 1)) (j + 1) (acc ++ [(textAt ab at_ l j).1])) := Lib.hid (by
        rw [HALL.out, show nt - j = (nt - (j + 1)) + 1 from by omega]
        rfl)
      have hk3 := HBK3.out.lt
      obtain ⟨⟨t, er⟩, hte⟩ : ∃ r, r = textAt ab at_ l j := ⟨_, rfl⟩
      rw [← hte] at HST ⊢
      clear hte hb3 kf0 kf1 kf2
      by_cases h9 : er = 0
      · subst h9
        have HST2 : Hid (allL ab at_ l = allF ab at_ l (nt - (j + 1)) (j + 1) (acc ++ [t])) := Lib.hid (by rw [HST.out, if_neg (by simp)])
        have hac : acc.length = m := ownS_len HO3.out
        go_wp2_with (at_builtin; refine wpList_app1 _ rfl _ _ 22 rfl (w.heap.size + 1) 9 i0 _ 16 Tryd.underlying22 HI.out HZ0.out HSZ.out HBY.out rfl _ m _ rfl (HO3.out.alloc _) ⟨_, 0, none⟩ 1 (.string (bs t)) rfl (new_cell _ _ _) rfl (by omega) (by unfold maxLen; omega) (by simp; omega) ?_; intro A5 c5 w8 hown2 hg2)
        have HB8 := Lib.hid (app_below (own_base HO3.out (Nat.le_succ _)) HB3.out hg2)
        have HBK8 := Lib.hid ((HBK3.out.alloc _).grown hg2 (fun e => by
          have := (HO3.out.lt _ e.symm).1
          omega))
        have HO8 := Lib.hid hown2
        clear hown2 hg2
        go_roundw
        case rel => exact ⟨A5, m + 1, c5, j + 1, acc ++ [t], by omega, by omega, by go_num, rfl, HST2, HBK8, Lib.hid (by rw [sc_snoc]; exact HO8.out), HB8⟩
        case measure => simp [intOf]; omega
      · have HST2 : Hid (allL ab at_ l = ([], er)) := Lib.hid (by rw [HST.out, if_pos h9])
        have h9b : (er != 0) = true := by rw [bne_iff_ne]; exact h9
        go_wp2_with fail
        go_ret2
        rw [HST2.out]
        exact ⟨none, 0, 0, rfl, ownS_nil _ _ _, HB3.out⟩
    · obtain rfl : j = nt := by omega
      have HST2 : Hid (allL ab at_ l = (acc, 0)) := Lib.hid (by rw [HALL.out, Nat.sub_self]; rfl)
      go_wp2_with fail
      go_ret2
      rw [HST2.out]
      exact ⟨A3, m, c3, rfl, own_base HO.out (Nat.le_succ _), HB.out⟩

end Go.Proofs.YtpfkkmjodhpkoaaDoor
