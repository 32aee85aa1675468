/- Contracts of the reference's Quote; of the statements' feeds, sameToks. -/
import Derived.Test.YtahpfbmaaccejaaDoorLexJ
namespace Go.Proofs.YtahpfbmaaccejaaDoor
open Go.RowKit

def feedsN (s : List UInt8) : Nat := s.countP (fun c => decide ((c.toNat : Int) = 10))
def quoF (s : List UInt8) (j : Nat) : List UInt8 := 34 :: (s.take j).flatMap quo1

theorem quo1_len (c : UInt8) : (quo1 c).length ≤ 2 := by
  unfold quo1
  split
  · exact Nat.le_refl _
  · split
    · exact Nat.le_refl _
    · exact Nat.le_succ _

theorem quoF_len (s : List UInt8) (j : Nat) : (quoF s j).length ≤ 2 * j + 1 := by
  have h : ∀ l : List UInt8, (l.flatMap quo1).length ≤ 2 * l.length := fun l => by
    induction l with
    | nil => exact Nat.le_refl _
    | cons c r ih =>
      rw [List.flatMap_cons, List.length_append, List.length_cons]
      have := quo1_len c
      omega
  unfold quoF
  rw [List.length_cons]
  have := h (s.take j)
  rw [List.length_take] at this
  omega

theorem quoF_next {s : ByteArray} {j : Nat} (h : j < s.size) : quoF s.data.toList (j + 1) = quoF s.data.toList j ++ quo1 s[j] := by
  unfold quoF
  rw [take_at h, List.flatMap_append]
  simp

theorem quo_10 {c : UInt8} (h : (c.toNat : Int) = 10) : quo1 c = [92, 110] := if_pos h
theorem quo_34 {c : UInt8} (h : ¬ (c.toNat : Int) = 10) (h2 : (c.toNat : Int) = 34 ∨ (c.toNat : Int) = 92) : quo1 c = [92, c] := (if_neg h).trans (if_pos h2)
theorem quo_no {c : UInt8} (h : ¬ (c.toNat : Int) = 10) (h2 : ¬ (c.toNat : Int) = 34) (h3 : ¬ (c.toNat : Int) = 92) : quo1 c = [c] := (if_neg h).trans (if_neg (fun h => h.elim h2 h3))

theorem feeds_next {s : ByteArray} {j : Nat} (h : j < s.size) : feedsN (s.data.toList.take (j + 1)) = feedsN (s.data.toList.take j) + if (s[j].toNat : Int) = 10 then 1 else 0 := by
  unfold feedsN
  rw [take_at h, List.countP_append]
  by_cases h : (s[j].toNat : Int) = 10
  · simp [h]
  · simp [h]

theorem feeds_le (l : List UInt8) : feedsN l ≤ l.length := List.countP_le_length

set_option maxRecDepth 100000 in
set_option maxHeartbeats 3200000 in
theorem feeds_any (w : World) (s : ByteArray) (hs : (s.size : Int) ≤ 100000) :
    Calls Tryd.prog 18 #[.string s] w fun e w' => e = .returned (.int .i64 (feedsN s.data.toList : Nat)) ∧ w = w' := by
  go_enter Tryd.func18, Tryd.ntmps18
  go_wp2_with fail
  go_loopw [3, 7] (fun vn vj wr => ∃ n j : Nat, j ≤ s.size ∧ n ≤ j ∧ vn = .int .i64 n ∧ vj = .int .i64 j ∧ Hid (w = wr) ∧ Hid (feedsN (s.data.toList.take j) = n)) (fun _ vj _ => s.size - (intOf vj).toNat)
  case atStart => exact ⟨0, 0, Nat.zero_le _, Nat.le_refl _, rfl, rfl, Lib.hid rfl, Lib.hid rfl⟩
  case round =>
    obtain ⟨n, j, hj, hnj, rfl, rfl, HW, HN⟩ := hrel
    have hw := HW.out
    subst hw
    clear HW
    by_cases hlt : j < s.size
    · have HF := Lib.hid (feeds_next hlt)
      have hcl := s[j].toNat_lt
      by_cases h10 : (s[j].toNat : Int) = 10
      · have HE : Hid (feedsN (s.data.toList.take (j + 1)) = n + 1) := Lib.hid (by rw [HF.out, HN.out, if_pos h10])
        have t10 : ((s[j].toNat : Int) == 10) = true := by simpa using h10
        clear h10 HF HN
        go_wp2_with fail
        go_roundw
        case rel => exact ⟨n + 1, j + 1, by omega, by omega, by go_num, by go_num, Lib.hid (by trivial), HE⟩
        case measure => simp [intOf]; omega
      · have HE : Hid (feedsN (s.data.toList.take (j + 1)) = n) := Lib.hid (by rw [HF.out, HN.out, if_neg h10]; rfl)
        have t10 : ((s[j].toNat : Int) == 10) = false := by simpa using h10
        clear h10 HF HN
        go_wp2_with fail
        go_roundw
        case rel => exact ⟨n, j + 1, by omega, by omega, rfl, by go_num, Lib.hid (by trivial), HE⟩
        case measure => simp [intOf]; omega
    · obtain rfl : j = s.size := by omega
      have HE : Hid (n = feedsN s.data.toList) := Lib.hid (by rw [← HN.out, List.take_of_length_le (by rw [Array.length_toList]; exact Nat.le_refl _)])
      clear HN
      go_wp2_with fail
      go_ret
      rw [← HE.out]
      exact ⟨rfl, rfl⟩

theorem toks_all {ts us : List Tk} (hl : ts.length = us.length) (h : ∀ j, j < ts.length → ts[j]?.getD noTk = us[j]?.getD noTk) : ts = us := by
  apply List.ext_getElem hl
  intro j h1 h2
  have := h j h1
  rw [List.getElem?_eq_getElem h1, List.getElem?_eq_getElem h2] at this
  exact this

theorem tok_cells {w : World} {B : Nat} {ad : Addr} {n : Nat} {ts : List Tk} (h : RdT w B (some ad) n ts) {j : Nat} (hj : j < n) : w.cell? (ad.add (j * 5)) = some (.int .i64 (ts[j]?.getD noTk).kind) ∧
    w.cell? ⟨(ad.add (j * 5)).block, (ad.add (j * 5)).off + 1, none⟩ = some (.string (bs (ts[j]?.getD noTk).text)) ∧ w.cell? ⟨(ad.add (j * 5)).block, (ad.add (j * 5)).off + 2, none⟩ = some (.int .i64 (ts[j]?.getD noTk).num) ∧
    w.cell? ⟨(ad.add (j * 5)).block, (ad.add (j * 5)).off + 3, none⟩ = some (.int .i64 (ts[j]?.getD noTk).line) ∧ w.cell? ⟨(ad.add (j * 5)).block, (ad.add (j * 5)).off + 4, none⟩ = some (.int .i64 (ts[j]?.getD noTk).col) := by
  obtain ⟨ad', e, _, h2⟩ := h.2 (by omega)
  cases e
  exact h2 j (by rw [h.1]; exact hj)

theorem load_tok_at {w : World} {B : Nat} {ad : Addr} {n : Nat} {ts : List Tk} (h : RdT w B (some ad) n ts) {j : Nat} (hj : j < n) : (Instr.loadAt 34 (.pointer (some (ad.add (j * 5))))).run Tryd.prog w = .ok (tkV (ts[j]?.getD noTk)) w := by
  obtain ⟨ad', e, h2⟩ := load_tok h hj
  cases e
  exact h2

set_option maxRecDepth 100000 in
set_option maxHeartbeats 6400000 in
theorem sameToks_any (w : World) (A B : Option Addr) (n c m d : Nat) (ts us : List Tk) (hA : RdT w w.heap.size A n ts) (hB : RdT w w.heap.size B m us) (hn : (n : Int) ≤ 100000) (hm : (m : Int) ≤ 100000) :
    Calls Tryd.prog 15 #[.slice A n c, .slice B m d] w fun e w' => e = .returned (.bool (decide (ts = us))) ∧ Below w.heap.size w w' := by
  obtain ⟨q, hq⟩ : ∃ q, q = decide (ts = us) := ⟨_, rfl⟩
  have HQ := Lib.hid hq
  rw [← hq]
  clear hq
  have HA := Lib.hid hA
  have HB := Lib.hid hB
  have hal := hA.1
  have hbl := hB.1
  clear hA hB
  by_cases hnm : n = m
  · subst hnm
    have tn : ((n : Int) != n) = false := by simp
    have HAL := Lib.hid hal
    have HBL := Lib.hid hbl
    clear hal hbl
    go_enter Tryd.func15, Tryd.ntmps15
    go_wp2_with fail
    go_loopw [13] (fun vj wr => ∃ j : Nat, j ≤ n ∧ vj = .int .i64 j ∧ Hid (Below w.heap.size w wr) ∧ Hid (∀ i, i < j → ts[i]?.getD noTk = us[i]?.getD noTk)) (fun vj _ => n - (intOf vj).toNat)
    case atStart => exact ⟨0, Nat.zero_le _, rfl, Lib.hid (Below.refl _ _), Lib.hid (fun i hi => absurd hi (by omega))⟩
    case round =>
      obtain ⟨j, hj, rfl, HW, HE⟩ := hrel
      by_cases hlt : j < n
      · obtain ⟨ad, hA, _⟩ := load_tok HA.out hlt
        obtain ⟨bd, hB, _⟩ := load_tok HB.out hlt
        subst hA hB
        have HBD : ∀ q, Hid (Below w.heap.size w (wr.drewN q)) := fun q => Lib.hid (below_drewN9 HW.out q)
        obtain ⟨a0, a1, a2, a3, a4⟩ := tok_cells (HA.out.below HW.out) hlt
        obtain ⟨b0, b1, b2, b3, b4⟩ := tok_cells (HB.out.below HW.out) hlt
        obtain ⟨t, ht⟩ : ∃ t, t = ts[j]?.getD noTk := ⟨_, rfl⟩
        obtain ⟨u, hu⟩ : ∃ u, u = us[j]?.getD noTk := ⟨_, rfl⟩
        rw [← ht] at a0 a1 a2 a3 a4
        rw [← hu] at b0 b1 b2 b3 b4
        have g1 := guard_tok .neq (.tmp 19) (.tmp 23) t u
        have g2 := run_neq_tok t u
        unfold tkV at g1 g2
        by_cases htu : t = u
        · have HE2 : Hid (∀ i, i < j + 1 → ts[i]?.getD noTk = us[i]?.getD noTk) := Lib.hid (fun i hi => by
            by_cases e : i = j
            · subst e; rw [← ht, ← hu]; exact htu
            · exact HE.out i (by omega))
          simp only [decide_eq_true htu, Bool.not_true] at g2
          clear ht hu htu HE
          go_wp2_with fail
          go_quiet (fail)
          go_wp2_with fail
          go_roundw
          case rel => exact ⟨j + 1, by omega, by go_num, HBD _, HE2⟩
          case measure => simp [intOf]; omega
        · have HF : Hid (q = false) := Lib.hid (by
            rw [HQ.out]
            apply decide_eq_false
            intro e
            subst e
            exact htu (by rw [ht, hu]))
          simp only [decide_eq_false htu, Bool.not_false] at g2
          clear ht hu htu HE
          go_wp2_with fail
          go_quiet (fail)
          go_wp2_with fail
          go_ret
          rw [HF.out]
          exact ⟨rfl, (HBD _).out⟩
      · obtain rfl : j = n := by omega
        have HF : Hid (q = true) := Lib.hid (by
          rw [HQ.out]
          exact decide_eq_true (toks_all (by rw [HAL.out, HBL.out]) (fun i hi => HE.out i (by rw [HAL.out] at hi; exact hi))))
        go_wp2_with fail
        go_ret
        rw [HF.out]
        exact ⟨rfl, HW.out⟩
  · have tn : ((n : Int) != m) = true := by rw [bne_iff_ne]; omega
    have HF : Hid (q = false) := Lib.hid (by
      rw [HQ.out]
      apply decide_eq_false
      intro e
      subst e
      exact hnm (hal.symm.trans hbl))
    clear hal hbl hnm
    go_enter Tryd.func15, Tryd.ntmps15
    go_wp2_with fail
    go_ret
    rw [HF.out]
    exact ⟨rfl, Below.refl _ _⟩

end Go.Proofs.YtahpfbmaaccejaaDoor
