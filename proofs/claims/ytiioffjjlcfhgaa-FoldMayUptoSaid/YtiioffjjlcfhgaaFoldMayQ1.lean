/- Contracts and lemmas that the proofs of this seat use. -/
import Derived.Test.YtiioffjjlcfhgaaQ4
import Derived.WalkKit
import Derived.WalkSpells
import Derived.WalkLawsBesides
import Derived.Lib.Hide
import Derived.Lib.AppendStr
import Derived.Laws.IdiomStrings
import Derived.Laws.AppendOwnNone
import Derived.Maps.AppendAt
import Derived.Deep.AppendLies
import Derived.Deep.QuietTactic
import Derived.BigQuiet
import Derived.Laws.Rows
import Derived.Lib.Join
import Derived.RegionTactic
import Derived.ChangeAlike
import Derived.Deep.RegionWith
namespace Go.Proofs.Ytiioffjjlcfhgaa

section
open Go.RowKit

theorem ret_int {k : IntKind} {a b : Int} (h : a = b) : Ending.returned (.int k a) = .returned (.int k b) := by rw [h]

end

section
open Go.RowKit

theorem Rd.lit (w : World) (l : List UInt8) (t : TypeId) (cs : Array Value) (hcs : cs = (bc l).toArray) : Rd (w.alloc (.cells cs t)) (w.heap.size + 1) (some ⟨w.heap.size, 0, none⟩) l.length l := by
  subst hcs
  refine ⟨rfl, fun _ => ⟨_, rfl, Nat.lt_succ_self _, fun j hj => ?_⟩⟩
  rw [Addr.add_lit, Nat.zero_add, (Blk.new w t _).cell]
  simp [bc, hj]

end

section
open Go.RowKit

/-- a new block of ints -/
theorem RdI.lit (w : World) (zs : List Int) (hz : FitI zs) (t : TypeId) (cs : Array Value) (hcs : cs = (iv zs).toArray) : RdI (w.alloc (.cells cs t)) (w.heap.size + 1) (some ⟨w.heap.size, 0, none⟩) zs.length zs := by
  subst hcs
  refine ⟨rfl, fun _ => ⟨_, rfl, Nat.lt_succ_self _, fun j hj => ?_⟩, hz⟩
  rw [Addr.add_lit, Nat.zero_add, (Blk.new w t _).cell, List.getElem?_toArray, iv_at hj]

end

section
/-- a byte in small letters -/
def lowC (c : UInt8) : UInt8 := if isCp c then byt ((c.toNat : Int) + 32) else c
def lower (l : List UInt8) : List UInt8 := l.map lowC
/-- a great letter ahead -/
def capL : List UInt8 → List UInt8
  | [] => []
  | c :: r => (if isSm c then byt ((c.toNat : Int) - 32) else c) :: r

/-- how many bytes of a class a text begins with -/
def runL (p : UInt8 → Bool) : List UInt8 → Nat
  | [] => 0
  | c :: r => if p c then runL p r + 1 else 0

/-- the words of a line; 'f' bounds the rounds -/
def wordsF : Nat → List UInt8 → List (List UInt8)
  | 0, _ => []
  | _ + 1, [] => []
  | f + 1, c :: r =>
    if isRow c then lower ((c :: r).take (runL isRow (c :: r))) :: wordsF f ((c :: r).drop (runL isRow (c :: r)))
    else if isMk c then [c] :: wordsF f r
    else wordsF f r

def words (l : List UInt8) : List (List UInt8) := wordsF l.length l

end

section
open Go.RowKit
set_option linter.unusedVariables false

/-- words, each between blanks: whether one is among them, and how many stand ahead of it -/
def holdF (s : List UInt8) : List UInt8 → List UInt8 → Nat → Nat × Bool
  | [], _, _ => (0, false)
  | c :: r, one, n => if (c.toNat : Int) ≠ 32 then holdF s r (one ++ [c]) n else if one = s then (n, true) else holdF s r [] (n + 1)
def holdL (row s : List UInt8) : Nat × Bool := holdF s (row.drop 1) [] 0

end

section
open Go.RowKit
set_option linter.unusedVariables false

/-- the same trees are as great, and as deep -/
theorem sameE_sizes : ∀ e f : EL, sameE e f = true → sizeE e = sizeE f ∧ depE e = depE f := by
  refine EL.ind fun e ih f h => ?_
  have key : ∀ a b : List EL, (∀ x ∈ a, ∀ f : EL, sameE x f = true → sizeE x = sizeE f ∧ depE x = depE f) → sameEs a b = true → sizeEs a = sizeEs b ∧ depEs a = depEs b := by
    intro a
    induction a with
    | nil =>
      intro b _ h
      unfold sameEs at h
      rw [List.isEmpty_iff] at h
      rw [h]
      exact ⟨rfl, rfl⟩
    | cons x a iha =>
      intro b hx h
      cases b with
      | nil => unfold sameEs at h; cases h
      | cons y b =>
        rw [sameEs_cons, Bool.and_eq_true] at h
        obtain ⟨h1, h2⟩ := iha b (fun z hz => hx z (by simp [hz])) h.2
        obtain ⟨h3, h4⟩ := hx x (by simp) y h.1
        rw [sizeEs_cons, sizeEs_cons, depEs_cons, depEs_cons, h1, h2, h3, h4]
        exact ⟨rfl, rfl⟩
  rw [sameE_eq, Bool.and_eq_true] at h
  obtain ⟨h1, h2⟩ := key e.args f.args ih h.2
  rw [sizeE_eq, sizeE_eq f, depE_eq, depE_eq f, h1, h2]
  exact ⟨rfl, rfl⟩

end

section
open Go.RowKit
set_option linter.unusedVariables false

theorem sameEs_sizes : ∀ a b : List EL, sameEs a b = true → sizeEs a = sizeEs b ∧ depEs a = depEs b := by
  intro a
  induction a with
  | nil =>
    intro b h
    unfold sameEs at h
    rw [List.isEmpty_iff] at h
    rw [h]
    exact ⟨rfl, rfl⟩
  | cons x a ih =>
    intro b h
    cases b with
    | nil => unfold sameEs at h; cases h
    | cons y b =>
      rw [sameEs_cons, Bool.and_eq_true] at h
      obtain ⟨h1, h2⟩ := ih b h.2
      obtain ⟨h3, h4⟩ := sameE_sizes x y h.1
      rw [sizeEs_cons, sizeEs_cons, depEs_cons, depEs_cons, h1, h2, h3, h4]
      exact ⟨rfl, rfl⟩

theorem sameSs_sizes_of : ∀ a b : List SL, (∀ x ∈ a, ∀ t : SL, sameS x t = true → sizeS x = sizeS t ∧ depS x = depS t) → sameSs a b = true → sizeSs a = sizeSs b ∧ depSs a = depSs b := by
  intro a
  induction a with
  | nil =>
    intro b _ h
    unfold sameSs at h
    rw [List.isEmpty_iff] at h
    rw [h]
    exact ⟨rfl, rfl⟩
  | cons x a ih =>
    intro b hx h
    cases b with
    | nil => unfold sameSs at h; cases h
    | cons y b =>
      rw [sameSs_cons, Bool.and_eq_true] at h
      obtain ⟨h1, h2⟩ := ih b (fun z hz => hx z (by simp [hz])) h.2
      obtain ⟨h3, h4⟩ := hx x (by simp) y h.1
      rw [sizeSs_cons, sizeSs_cons, depSs_cons, depSs_cons, h1, h2, h3, h4]
      exact ⟨rfl, rfl⟩
theorem sameS_sizes : ∀ s t : SL, sameS s t = true → sizeS s = sizeS t ∧ depS s = depS t := by
  refine SL.ind fun s ih1 ih2 t h => ?_
  rw [sameS_eq] at h
  simp only [Bool.and_eq_true] at h
  obtain ⟨⟨⟨_, ha⟩, hb⟩, hc⟩ := h
  obtain ⟨_, h2⟩ := sameEs_sizes _ _ ha
  obtain ⟨h3, h4⟩ := sameSs_sizes_of _ _ ih1 hb
  obtain ⟨h5, h6⟩ := sameSs_sizes_of _ _ ih2 hc
  rw [sizeS_eq, sizeS_eq t, depS_eq, depS_eq t, h2, h3, h4, h5, h6]
  exact ⟨rfl, rfl⟩
theorem sameSs_sizes (a b : List SL) (h : sameSs a b = true) : sizeSs a = sizeSs b ∧ depSs a = depSs b := sameSs_sizes_of a b (fun x _ t => sameS_sizes x t) h

end

section
open Go.RowKit

def keysL : List UInt8 := [32, 115, 116, 111, 114, 121, 32, 98, 121, 32, 114, 101, 108, 101, 97, 115, 101, 32, 109, 97, 120, 32, 115, 116, 97, 114, 116, 32, 102, 108, 97, 103, 32, 112, 114, 111, 112, 32, 103, 108, 111, 98, 97, 108, 32, 114, 111, 111, 109, 32, 116, 104, 105, 110, 103, 32, 105, 110, 32, 118, 101, 114, 98, 32, 109, 101, 116, 97, 32, 111, 110, 32, 98, 101, 102, 111, 114, 101, 32, 97, 102, 116, 101, 114, 32, 105, 102, 32, 102, 117, 110, 99, 32, 100, 97, 101, 109, 111, 110, 32, 116, 101, 120, 116, 32, 119, 111, 114, 100, 115, 32, 97, 100, 106, 115, 32, 105, 115, 32, 101, 120, 105, 116, 32, 116, 111, 32, 101, 108, 115, 101, 32, 115, 97, 121, 32, 108, 101, 116, 32, 115, 101, 116, 32, 117, 110, 115, 101, 116, 32, 109, 111, 118, 101, 32, 114, 101, 109, 111, 118, 101, 32, 119, 104, 105, 108, 101, 32, 101, 97, 99, 104, 32, 114, 101, 116, 117, 114, 110, 32, 115, 116, 111, 112, 32, 119, 105, 110, 32, 108, 111, 115, 101, 32, 97, 119, 97, 114, 100, 32, 104, 97, 108, 116, 32, 116, 114, 97, 118, 101, 108, 32, 108, 111, 111, 107, 32, 108, 105, 115, 116, 32, 111, 114, 32, 97, 110, 100, 32, 110, 111, 116, 32, 104, 97, 115, 32, 112, 97, 114, 101, 110, 116, 32, 99, 104, 105, 108, 100, 32, 110, 101, 120, 116, 32, 114, 97, 110, 100, 111, 109, 32, 116, 105, 116, 108, 101, 32, 104, 101, 114, 101, 32, 112, 108, 97, 121, 101, 114, 32, 110, 111, 117, 110, 32, 115, 101, 99, 111, 110, 100, 32, 110, 117, 109, 98, 101, 114, 32, 115, 99, 111, 114, 101, 32, 97, 110, 121, 32, 109, 97, 110, 121, 32, 100, 105, 114, 32]
def dirsL : List UInt8 := [32, 110, 111, 114, 116, 104, 32, 115, 111, 117, 116, 104, 32, 101, 97, 115, 116, 32, 119, 101, 115, 116, 32, 110, 111, 114, 116, 104, 101, 97, 115, 116, 32, 110, 111, 114, 116, 104, 119, 101, 115, 116, 32, 115, 111, 117, 116, 104, 101, 97, 115, 116, 32, 115, 111, 117, 116, 104, 119, 101, 115, 116, 32, 117, 112, 32, 100, 111, 119, 110, 32, 105, 110, 32, 111, 117, 116, 32]
/-- is a word a keyword; a direction's number -/
def keyB (s : List UInt8) : Bool := (holdL keysL s).2 || (holdL dirsL s).2
def dirN (s : List UInt8) : Nat := if (holdL dirsL s).2 = true then (holdL dirsL s).1 + 1 else 0

end

section
open Go.RowKit

/-- a name of a source -/
def nmB (s : List UInt8) : Bool := nameB s && !keyB s

end

section
open Go.RowKit

theorem tabs_size : (Try.prog.info? 28).map (·.size) = some 15 := by kernel_rfl

end

section
open Go.RowKit
set_option linter.unusedVariables false

set_option maxRecDepth 100000 in
set_option maxHeartbeats 6400000 in
theorem tSize_any : ∀ (e : EL), (sizeE e : Int) ≤ 1000000 → ∀ w : World, e.In w w.heap.size →
    Calls Try.prog 16 #[eVal e] w fun f w' => f = .returned (.int .i64 (sizeE e : Nat)) ∧ Below w.heap.size w w' := by
  refine EL.ind fun e ih hsz w hin => ?_
  have hrow := hin.row
  have hargs := hin.args
  rw [sizeE_eq] at hsz ⊢
  obtain ⟨k, o, m, s, A, n, c, es⟩ := e
  have hn : es.length = n := hrow.1
  have hn9 : (n : Int) ≤ 9223372036854775807 := hrow.2.1
  have HR : Hid (RowE w w.heap.size A n es) := Lib.hid hrow
  have HA : Hid (EL.Ins w w.heap.size es) := Lib.hid hargs
  have HL := Lib.hid hn
  have ih' : ∀ x ∈ es, (sizeE x : Int) ≤ 1000000 → ∀ w : World, x.In w w.heap.size → Calls Try.prog 16 #[eVal x] w fun f w' => f = .returned (.int .i64 (sizeE x : Nat)) ∧ Below w.heap.size w w' := ih
  have IH := Lib.hid ih'
  change ((1 + sizeEs es : Nat) : Int) ≤ 1000000 at hsz
  show Calls Try.prog _ #[.agg #[.int .i64 k, .int .i64 o, .int .i64 m, .string (bs s), .slice A n c]] w fun f w' => f = .returned (.int .i64 ((1 + sizeEs es : Nat) : Int)) ∧ Below w.heap.size w w'
  clear ih ih' hrow hargs hin hn
  have HSZ := Lib.hid hsz
  obtain ⟨W, hW⟩ : ∃ W, W = w.alloc (.cells #[.int .i64 k, .int .i64 o, .int .i64 m, .string (bs s), .slice A n c] 31) := ⟨_, rfl⟩
  have HBW : Hid (Below w.heap.size w W) := Lib.hid (by rw [hW]; exact (Below.refl _ _).alloc (Nat.le_refl _) _)
  clear hsz
  go_enter Try.func16, Try.ntmps16
  go_wp2_with fail
  rw [← hW]
  clear hW
  go_loopw [3, 9] (fun vn vi wr => ∃ j : Nat, j ≤ n ∧ vi = .int .i64 j ∧ vn = .int .i64 ((1 + sizeEs (es.take j) : Nat) : Int) ∧ Hid (Below W.heap.size W wr)) (fun _ vi _ => n - (intOf vi).toNat)
  case atStart => exact ⟨0, Nat.zero_le _, rfl, rfl, Lib.hid (Below.refl _ _)⟩
  case round =>
    obtain ⟨j, hj, rfl, rfl, HB⟩ := hrel
    have HBR := Lib.hid (HBW.out.trans (HB.out.mono HBW.out.size))
    by_cases hlt : j < n
    · have hjl : j < es.length := by rw [HL.out]; exact hlt
      obtain ⟨ad, rfl, hab, hc⟩ := row_at (HR.out.below HBR.out) hlt
      have hx := HA.out.at hjl
      have hxs := sizeE_at hjl
      have hst := sizeEs_take hjl
      have htk : sizeEs (es.take (j + 1)) ≤ sizeEs es := by
        have := sizeEs_app (es.take (j + 1)) (es.drop (j + 1))
        rw [List.take_append_drop] at this
        omega
      have hmem : (es[j]?.getD nilE) ∈ es := by rw [List.getElem?_eq_getElem hjl]; exact List.getElem_mem _
      have HC := Lib.hid (IH.out _ hmem)
      obtain ⟨x, hxe⟩ : ∃ x, x = es[j]?.getD nilE := ⟨_, rfl⟩
      obtain ⟨a0, a1, a2, a3, a4⟩ := hc x hxe
      rw [← hxe] at hx hxs hst HC
      have HX := Lib.hid hx
      have hss := HSZ.out
      obtain ⟨t, ht⟩ : ∃ t, t = 1 + sizeEs (es.take j) := ⟨_, rfl⟩
      rw [← ht]
      obtain ⟨z, hz⟩ : ∃ z, z = sizeE x := ⟨_, rfl⟩
      have hxz : (sizeE x : Int) ≤ 1000000 := by omega
      have HXZ := Lib.hid hxz
      rw [← hz] at hst
      have HZ := Lib.hid hz
      have HFIN : Hid (wrap64 ((t : Int) + (z : Int)) = ((1 + sizeEs (es.take (j + 1)) : Nat) : Int)) := Lib.hid (by rw [IntWalk.wrap64_in _ (by omega), hst]; omega)
      obtain ⟨xk, xo, xm, xs, xA, xn, xc, xas⟩ := x
      change wr.cell? (ad.add (j * 5)) = some (.int .i64 xk) at a0
      change wr.cell? ⟨(ad.add (j * 5)).block, (ad.add (j * 5)).off + 1, none⟩ = some (.int .i64 xo) at a1
      change wr.cell? ⟨(ad.add (j * 5)).block, (ad.add (j * 5)).off + 2, none⟩ = some (.int .i64 xm) at a2
      change wr.cell? ⟨(ad.add (j * 5)).block, (ad.add (j * 5)).off + 3, none⟩ = some (.string (bs xs)) at a3
      change wr.cell? ⟨(ad.add (j * 5)).block, (ad.add (j * 5)).off + 4, none⟩ = some (.slice xA xn xc) at a4
      clear hc hxe hst hxs htk hmem hx hz ht hxz hss hjl
      go_wp2_with (first | (refine wpList_store_row rfl 31 _ _ rfl wr.heap.size #[.int .i64 xk, .int .i64 xo, .int .i64 xm, .string (bs xs), .slice xA xn xc] rfl rfl _ _ (Blk.new wr _ _) expr_size rfl (expr_one _ _ _ _ _ _ _) ?_; obtain ⟨V, hV⟩ : ∃ V, V = (wr.alloc (.cells #[.int .i64 0, .int .i64 0, .int .i64 0, .string ⟨#[]⟩, .slice none 0 0] 31)).setRow wr.heap.size #[.int .i64 xk, .int .i64 xo, .int .i64 xm, .string (bs xs), .slice xA xn xc] := ⟨_, rfl⟩; rw [← hV]; obtain ⟨hkV, hbV⟩ := put_row hV; have HKV := Lib.hid hkV; have HBV := Lib.hid hbV; clear hV hkV hbV) | (refine wpList_load_row rfl 31 _ rfl wr.heap.size rfl 31 #[.int .i64 xk, .int .i64 xo, .int .i64 xm, .string (bs xs), .slice xA xn xc] (0, 0) _ HKV.out Try.underlying31 rfl expr_size ?_))
      have HBV2 := Lib.hid (HBR.out.trans (HBV.out.mono HBR.out.size))
      refine (HC.out HXZ.out V (EL.In.more HBV2.out.size (HX.out.below HBV2.out))).mono ?_
      rintro f w2 ⟨rfl, hb2⟩
      rw [← HZ.out]
      have HB2 := Lib.hid (HB.out.trans ((HBV.out.trans (hb2.mono HBV.out.size)).mono HB.out.size))
      clear hb2
      go_wp2_with fail
      go_roundw
      case rel => exact ⟨j + 1, by omega, by go_num, by rw [HFIN.out], HB2⟩
      case measure => simp [intOf]; omega
    · obtain rfl : j = n := by omega
      have HE : Hid (es.take j = es) := Lib.hid (List.take_of_length_le (by rw [HL.out]; exact Nat.le_refl _))
      go_wp2_with fail
      go_ret
      rw [HE.out]
      exact ⟨rfl, HBR.out⟩

set_option maxRecDepth 100000 in
set_option maxHeartbeats 6400000 in
theorem tSizeBlock_any : ∀ (q : Nat), (q : Int) ≤ 1000000 → ∀ (ss : List SL) (A : Option Addr) (n c : Nat) (w : World), sizeSs ss ≤ q → RowS6 w w.heap.size A n ss → SL.Ins w w.heap.size ss →
    Calls Try.prog 17 #[.slice A n c] w fun f w' => f = .returned (.int .i64 (sizeSs ss : Nat)) ∧ Below w.heap.size w w' := by
  intro q
  induction q with
  | zero =>
    intro _ ss A n c w hz hrow _
    cases ss with
    | nil =>
      obtain rfl : 0 = n := hrow.1
      rw [show sizeSs [] = 0 by unfold sizeSs; rfl]
      go_enter Try.func17, Try.ntmps17
      go_wp2_with fail
      go_loopw [3, 8] (fun vn vi wr => vn = .int .i64 0 ∧ vi = .int .i64 0 ∧ Hid (w = wr)) (fun _ _ _ => 0)
      case atStart => exact ⟨rfl, rfl, Lib.hid rfl⟩
      case round =>
        obtain ⟨rfl, rfl, HW⟩ := hrel
        go_wp2_with fail
        go_ret
        exact ⟨rfl, by rw [HW.out]; exact Below.refl _ _⟩
    | cons x r => rw [sizeSs_cons, sizeS_eq] at hz; omega
  | succ q ih =>
    intro hq ss A n c w hz hrow hins
    have IH := Lib.hid (ih (by omega))
    have hn : ss.length = n := hrow.1
    have hn9 : (n : Int) ≤ 9223372036854775807 := hrow.2.1
    have HR := Lib.hid hrow
    have HA := Lib.hid hins
    have HL := Lib.hid hn
    have HZ := Lib.hid hz
    have hss : (sizeSs ss : Int) ≤ 1000000 := by omega
    have HSS := Lib.hid hss
    clear ih hrow hins hn hz hss
    go_enter Try.func17, Try.ntmps17
    go_wp2_with fail
    go_loopw [3, 8] (fun vn vi wr => ∃ j : Nat, j ≤ n ∧ vi = .int .i64 j ∧ vn = .int .i64 ((sizeSs (ss.take j) : Nat) : Int) ∧ Hid (Below w.heap.size w wr)) (fun _ vi _ => n - (intOf vi).toNat)
    case atStart => exact ⟨0, Nat.zero_le _, rfl, by rw [List.take_zero]; unfold sizeSs; rfl, Lib.hid (Below.refl _ _)⟩
    case round =>
      obtain ⟨j, hj, rfl, rfl, HBR⟩ := hrel
      by_cases hlt : j < n
      · have hst := sizeSs_take (l := ss) (j := j) (by rw [HL.out]; exact hlt)
        have htk : sizeSs (ss.take (j + 1)) ≤ sizeSs ss := by
          have := sizeSs_app (ss.take (j + 1)) (ss.drop (j + 1))
          rw [List.take_append_drop] at this
          omega
        have hxjl : j < ss.length := by rw [HL.out]; exact hlt
        obtain ⟨xad, rfl, xab, xc⟩ := rowS_at (HR.out.below HBR.out) hlt
        have hx := HA.out.at hxjl
        have hxmem : (ss[j]?.getD nilS) ∈ ss := by rw [List.getElem?_eq_getElem hxjl]; exact List.getElem_mem _
        obtain ⟨x, hxe⟩ : ∃ x, x = ss[j]?.getD nilS := ⟨_, rfl⟩
        obtain ⟨a0, a1, a2, a3, a4, a5⟩ := xc x hxe
        rw [← hxe] at hx hxmem
        have HXx := Lib.hid hx
        have HEx := Lib.hid hxe
        have HMx := Lib.hid hxmem
        rw [← hxe, sizeS_eq] at hst
        obtain ⟨hxp, hxq1, hxq2⟩ := hx.parts
        have hxr1 := hxp.2.2.2.1
        have hxr2 := hxp.2.2.2.2
        clear hxp
        obtain ⟨xk, xm, xs, xA, xn, xc', xes, xA1, xn1, xc1, xbo, xA2, xn2, xc2, xel⟩ := x
        change wr.cell? (xad.add (j * 6)) = some (.int .i64 xk) at a0
        change wr.cell? ⟨(xad.add (j * 6)).block, (xad.add (j * 6)).off + 1, none⟩ = some (.int .i64 xm) at a1
        change wr.cell? ⟨(xad.add (j * 6)).block, (xad.add (j * 6)).off + 2, none⟩ = some (.string (bs xs)) at a2
        change wr.cell? ⟨(xad.add (j * 6)).block, (xad.add (j * 6)).off + 3, none⟩ = some (.slice xA xn xc') at a3
        change wr.cell? ⟨(xad.add (j * 6)).block, (xad.add (j * 6)).off + 4, none⟩ = some (.slice xA1 xn1 xc1) at a4
        change wr.cell? ⟨(xad.add (j * 6)).block, (xad.add (j * 6)).off + 5, none⟩ = some (.slice xA2 xn2 xc2) at a5
        clear xc hxe hx hxmem hxjl
        obtain ⟨t, ht⟩ : ∃ t, t = sizeSs (ss.take j) := ⟨_, rfl⟩
        have hst' : sizeSs (ss.take (j + 1)) = sizeSs (ss.take j) + (1 + sizeSs xbo + sizeSs xel) := hst
        obtain ⟨y, hy⟩ : ∃ y, y = sizeSs xbo := ⟨_, rfl⟩
        obtain ⟨z, hz⟩ : ∃ z, z = sizeSs xel := ⟨_, rfl⟩
        rw [← ht, ← hy, ← hz] at hst'
        rw [← ht]
        have hss := HSS.out
        have hzz := HZ.out
        have hcb : ∀ W : World, Below wr.heap.size wr W → Calls Try.prog 17 #[.slice xA1 xn1 xc1] W fun f w' => f = .returned (.int .i64 (y : Nat)) ∧ Below W.heap.size W w' := fun W hb => by
          have h1 := HBR.out.trans (hb.mono HBR.out.size)
          rw [hy]
          exact IH.out xbo xA1 xn1 xc1 W (by omega) ((RowS6.below hxr1 h1).more h1.size) ((SL.Ins.below hxq1 h1).more h1.size)
        have hce : ∀ W : World, Below wr.heap.size wr W → Calls Try.prog 17 #[.slice xA2 xn2 xc2] W fun f w' => f = .returned (.int .i64 (z : Nat)) ∧ Below W.heap.size W w' := fun W hb => by
          have h1 := HBR.out.trans (hb.mono HBR.out.size)
          rw [hz]
          exact IH.out xel xA2 xn2 xc2 W (by omega) ((RowS6.below hxr2 h1).more h1.size) ((SL.Ins.below hxq2 h1).more h1.size)
        have HCB := Lib.hid hcb
        have HCE := Lib.hid hce
        have w1 : IntKind.i64.wrap (1 + (y : Int)) = 1 + (y : Int) := by rw [IntKind.wrap_i64]; omega
        have w2 : IntKind.i64.wrap (1 + (y : Int) + (z : Int)) = 1 + (y : Int) + (z : Int) := by rw [IntKind.wrap_i64]; omega
        have w3 : IntKind.i64.wrap ((t : Int) + (1 + (y : Int) + (z : Int))) = (t : Int) + (1 + (y : Int) + (z : Int)) := by rw [IntKind.wrap_i64]; omega
        have HFIN : Hid ((t : Int) + (1 + (y : Int) + (z : Int)) = ((sizeSs (ss.take (j + 1)) : Nat) : Int)) := Lib.hid (by rw [hst']; omega)
        clear hst hst' htk ht hy hz hss hzz hcb hce hxr1 hxr2 hxq1 hxq2
        go_wp2_with (refine wpList_store_row rfl 48 _ _ rfl wr.heap.size #[.int .i64 xk, .int .i64 xm, .string (bs xs), .slice xA xn xc', .slice xA1 xn1 xc1, .slice xA2 xn2 xc2] rfl rfl _ _ (Blk.new wr _ _) stmt_size rfl (stmt_one _ _ _ _ _ _ _ _ _ _ _ _) ?_; obtain ⟨V, hV⟩ : ∃ V, V = (wr.alloc (.cells #[.int .i64 0, .int .i64 0, .string ⟨#[]⟩, .slice none 0 0, .slice none 0 0, .slice none 0 0] 48)).setRow wr.heap.size #[.int .i64 xk, .int .i64 xm, .string (bs xs), .slice xA xn xc', .slice xA1 xn1 xc1, .slice xA2 xn2 xc2] := ⟨_, rfl⟩; rw [← hV]; obtain ⟨hkV, hbV⟩ := put_row hV; have HKV := Lib.hid hkV; have HBV := Lib.hid hbV; clear hV hkV hbV; have v4 : V.cell? ⟨wr.heap.size, 4, none⟩ = some (.slice xA1 xn1 xc1) := HKV.out.cell 4; have v5 : V.cell? ⟨wr.heap.size, 5, none⟩ = some (.slice xA2 xn2 xc2) := HKV.out.cell 5)
        have START : Hid (Below V.heap.size V V.drew ∧ V.drew.cell? ⟨wr.heap.size, 4, none⟩ = some (.slice xA1 xn1 xc1) ∧ V.drew.cell? ⟨wr.heap.size, 5, none⟩ = some (.slice xA2 xn2 xc2)) := Lib.hid ⟨(Below.refl _ _).drew, v4, v5⟩
        have STEP : Hid (∀ u1 u2 : World, Below u1.heap.size u1 u2 → (Below V.heap.size V u1 ∧ u1.cell? ⟨wr.heap.size, 4, none⟩ = some (.slice xA1 xn1 xc1) ∧ u1.cell? ⟨wr.heap.size, 5, none⟩ = some (.slice xA2 xn2 xc2)) → (Below V.heap.size V u2 ∧ u2.cell? ⟨wr.heap.size, 4, none⟩ = some (.slice xA1 xn1 xc1) ∧ u2.cell? ⟨wr.heap.size, 5, none⟩ = some (.slice xA2 xn2 xc2))) := Lib.hid (fun u1 u2 hb hs => by
          have hb2 := hs.1.trans (hb.mono hs.1.size)
          exact ⟨hb2, held_cells HKV.out hb2 4, held_cells HKV.out hb2 5⟩)
        have PRE : Hid (∀ u : World, (Below V.heap.size V u ∧ u.cell? ⟨wr.heap.size, 4, none⟩ = some (.slice xA1 xn1 xc1) ∧ u.cell? ⟨wr.heap.size, 5, none⟩ = some (.slice xA2 xn2 xc2)) → Below wr.heap.size wr u) := Lib.hid (fun u hs => HBV.out.trans (hs.1.mono HBV.out.size))
        clear v4 v5
        go_region_held3 (fun u => (Below V.heap.size V u ∧ u.cell? ⟨wr.heap.size, 4, none⟩ = some (.slice xA1 xn1 xc1) ∧ u.cell? ⟨wr.heap.size, 5, none⟩ = some (.slice xA2 xn2 xc2))) (first | exact START.out | exact STEP.out _ _ (by assumption) (by assumption))
          (first
            | (go_at_call_of 17 xA1; refine (HCB.out _ ?_).mono ?_; exact PRE.out _ (by assumption); rintro f wz ⟨rfl, hbb⟩)
            | (go_at_call_of 17 xA2; refine (HCE.out _ ?_).mono ?_; exact PRE.out _ (by assumption); rintro f wz ⟨rfl, hbb⟩))
        have HBF : Hid (Below w.heap.size w wz) := Lib.hid (HBR.out.trans ((PRE.out _ (by assumption)).mono HBR.out.size))
        go_wp2_with fail
        go_roundw
        case rel => exact ⟨j + 1, by omega, by go_num, by rw [HFIN.out], HBF⟩
        case measure => simp [intOf]; omega
      · obtain rfl : j = n := by omega
        have HE : Hid (ss.take j = ss) := Lib.hid (List.take_of_length_le (by rw [HL.out]; exact Nat.le_refl _))
        go_wp2_with fail
        go_ret
        rw [HE.out]
        exact ⟨rfl, HBR.out⟩

theorem depEs_le {l : List EL} {j : Nat} : depEs (l.take j) ≤ depEs l := by
  have := depEs_app (l.take j) (l.drop j)
  rw [List.take_append_drop] at this
  omega
theorem depMs_le {l : List SL} {j : Nat} : depMs (l.take j) ≤ depMs l := by
  have := depMs_app (l.take j) (l.drop j)
  rw [List.take_append_drop] at this
  omega
theorem depEs_nil : depEs [] = 0 := by unfold depEs; rfl

theorem depMs_nil : depMs [] = 0 := rfl

end

section
open Go.RowKit
set_option linter.unusedVariables false

/-- an index of a list of that length? -/
def idxB (n len : Int) : Bool := decide (0 ≤ n) && decide (n < len)

set_option maxRecDepth 100000 in
theorem tisIndex_any (w : World) (n len : Int) : Calls Try.prog 82 #[.int .i64 n, .int .i64 len] w fun f w' => f = .returned (.bool (idxB n len)) ∧ w = w' := by
  by_cases a : 0 ≤ n
  · by_cases b : n < len
    · go_enter Try.func82, Try.ntmps82
      go_wp2_with fail
      go_ret
      exact ⟨by unfold idxB; simp [a, b], rfl⟩
    · have b1 : decide (n < len) = false := by simpa using b
      go_enter Try.func82, Try.ntmps82
      go_wp2_with fail
      go_ret
      exact ⟨by unfold idxB; simp [b], rfl⟩
  · have a1 : decide (0 ≤ n) = false := by simpa using a
    go_enter Try.func82, Try.ntmps82
    go_wp2_with fail
    go_ret
    exact ⟨by unfold idxB; rw [a1, Bool.false_and]; rfl, rfl⟩

set_option maxRecDepth 100000 in
theorem tIs_any (w : World) (n : Int) : Calls Try.prog 81 #[.int .i64 n] w fun f w' => f = .returned (.bool (amongB n (-32768) 32767)) ∧ w = w' := by
  by_cases a : -32768 ≤ n
  · by_cases b : n ≤ 32767
    · go_enter Try.func81, Try.ntmps81
      go_wp2_with fail
      go_ret
      exact ⟨by unfold amongB; simp [a, b], rfl⟩
    · have b1 : decide (n ≤ 32767) = false := by simpa using b
      go_enter Try.func81, Try.ntmps81
      go_wp2_with fail
      go_ret
      exact ⟨by unfold amongB; simp [b], rfl⟩
  · have a1 : decide (-32768 ≤ n) = false := by simpa using a
    go_enter Try.func81, Try.ntmps81
    go_wp2_with fail
    go_ret
    exact ⟨by unfold amongB; rw [a1, Bool.false_and]; rfl, rfl⟩

end

section
open Go.RowKit
set_option linter.unusedVariables false

/-- the tables and the number of locals, by value -/
def TV.rcells (T : TV) (loc : Int) : Array Value := #[.int .i64 T.t1, .int .i64 T.t2, .int .i64 T.t3, .int .i64 T.t4, .slice T.S1 T.m1 T.k1, .int .i64 T.fl, .slice T.S2 T.m2 T.k2, .slice T.S3 T.m3 T.k3, .slice T.S4 T.m4 T.k4, .slice T.S5 T.m5 T.k5, .slice T.S6 T.m6 T.k6, .slice T.S7 T.m7 T.k7, .slice T.S8 T.m8 T.k8, .slice T.S9 T.m9 T.k9, .slice T.S10 T.m10 T.k10, .int .i64 loc]
def TV.rt (T : TV) (loc : Int) : Value := .agg (T.rcells loc)
theorem rt_size : (Try.prog.info? 87).map (·.size) = some 16 := by kernel_rfl

/-- is there the function that e calls? -/
def callB (t : TB) (e : EL) : Bool := idxB e.num t.funcs.length && (idxB (t.funcs.getD e.num.toNat 0) t.params.length && decide (t.params.getD (t.funcs.getD e.num.toNat 0).toNat 0 = (e.n : Int)))
/-- an expression of a book, as far as its kind and its number go -/
def bkE (t : TB) (loc : Int) (e : EL) : Bool :=
  if e.kind = 1 then amongB e.num (-32768) 32767
  else if e.kind = 14 then idxB e.num t.globals
  else if e.kind = 15 then idxB e.num loc
  else if e.kind = 16 then idxB e.num t.flags
  else if e.kind = 17 then idxB e.num t.props
  else if e.kind = 18 then callB t e
  else if e.kind = 19 then idxB e.num t.texts
  else decide (e.kind = 4 ∨ e.kind = 5 ∨ e.kind = 6 ∨ e.kind = 10 ∨ e.kind = 11 ∨ e.kind = 12 ∨ e.kind = 13)
/-- a statement of a book, so far -/
def bkS (t : TB) (loc : Int) (s : SL) : Bool :=
  if s.kind = 2 ∨ s.kind = 3 then idxB s.num loc
  else if s.kind = 11 then idxB s.num loc && idxB (s.num + 1) loc
  else if s.kind = 4 then idxB s.num t.props
  else if s.kind = 5 ∨ s.kind = 6 then idxB s.num t.flags
  else if s.kind = 17 ∨ s.kind = 18 then idxB s.num t.daemons
  else if s.kind = 23 then idxB s.num t.globals
  else decide (s.kind = 1 ∨ s.kind = 7 ∨ s.kind = 8 ∨ s.kind = 9 ∨ s.kind = 10 ∨ s.kind = 12 ∨ s.kind = 13 ∨ s.kind = 14 ∨ s.kind = 15 ∨ s.kind = 16 ∨ s.kind = 19 ∨ s.kind = 20 ∨ s.kind = 21 ∨ s.kind = 22)

theorem idx_no {n len : Int} (h : ¬ (0 ≤ n ∧ n < len)) : idxB n len = false := by
  unfold idxB
  rw [Bool.and_eq_false_iff, decide_eq_false_iff_not, decide_eq_false_iff_not]
  omega
theorem idx_yes {n len : Int} (h : 0 ≤ n ∧ n < len) : idxB n len = true := by
  unfold idxB
  rw [decide_eq_true h.1, decide_eq_true h.2]
  rfl

set_option maxRecDepth 100000 in
set_option maxHeartbeats 6400000 in
theorem thasCall_any (T : TV) (loc : Int) (e : EL) (w : World) (hin : T.In w w.heap.size) (hnum : -9223372036854775808 ≤ e.num ∧ e.num ≤ 9223372036854775807) (hen : (e.n : Int) ≤ 9223372036854775807) : Calls Try.prog 83 #[T.rt loc, eVal e] w fun f w' => f = .returned (.bool (callB T.tb e)) ∧ Below w.heap.size w w' := by
  obtain ⟨t1, t2, t3, t4, S1, m1, k1, fl, S2, m2, k2, S3, m3, k3, S4, m4, k4, S5, m5, k5, S6, m6, k6, S7, m7, k7, S8, m8, k8, S9, m9, k9, S10, m10, k10, fs, ps⟩ := T
  obtain ⟨⟨_, _, _, hm7, _, hm9⟩, hf, hp⟩ := hin
  change (m7 : Int) ≤ 9223372036854775807 at hm7
  change (m9 : Int) ≤ 9223372036854775807 at hm9
  change RdI w w.heap.size S7 m7 fs at hf
  change RdI w w.heap.size S9 m9 ps at hp
  obtain ⟨k, o, m, s, A, n, c, es⟩ := e
  change -9223372036854775808 ≤ m ∧ m ≤ 9223372036854775807 at hnum
  change (n : Int) ≤ 9223372036854775807 at hen
  have hfl := hf.1
  have hpl := hp.1
  obtain ⟨r, hr⟩ : ∃ r, r = callB (TB.mk m1 fl m2 m3 m8 fs ps) (.mk k o m s A n c es) := ⟨_, rfl⟩
  have hr2 : r = (idxB m m7 && (idxB (fs.getD m.toNat 0) m9 && decide (ps.getD (fs.getD m.toNat 0).toNat 0 = (n : Int)))) := by rw [hr, ← hfl, ← hpl]; rfl
  show Calls Try.prog _ #[.agg #[.int .i64 t1, .int .i64 t2, .int .i64 t3, .int .i64 t4, .slice S1 m1 k1, .int .i64 fl, .slice S2 m2 k2, .slice S3 m3 k3, .slice S4 m4 k4, .slice S5 m5 k5, .slice S6 m6 k6, .slice S7 m7 k7, .slice S8 m8 k8, .slice S9 m9 k9, .slice S10 m10 k10, .int .i64 loc], .agg #[.int .i64 k, .int .i64 o, .int .i64 m, .string (bs s), .slice A n c]] w fun f w' => f = .returned (.bool (callB (TB.mk m1 fl m2 m3 m8 fs ps) (.mk k o m s A n c es))) ∧ Below w.heap.size w w'
  rw [← hr]
  clear hr
  obtain ⟨W, hW⟩ : ∃ W, W = ((w.alloc (.cells #[.int .i64 t1, .int .i64 t2, .int .i64 t3, .int .i64 t4, .slice S1 m1 k1, .int .i64 fl, .slice S2 m2 k2, .slice S3 m3 k3, .slice S4 m4 k4, .slice S5 m5 k5, .slice S6 m6 k6, .slice S7 m7 k7, .slice S8 m8 k8, .slice S9 m9 k9, .slice S10 m10 k10, .int .i64 loc] 87)).alloc (.cells #[.int .i64 k, .int .i64 o, .int .i64 m, .string (bs s), .slice A n c] 31)) := ⟨_, rfl⟩
  have HBW : Hid (Below w.heap.size w W) := Lib.hid (by rw [hW]; exact ((Below.refl _ _).alloc (Nat.le_refl _) _).alloc (by simp) _)
  have HK : Hid (Blk W w.heap.size 87 #[.int .i64 t1, .int .i64 t2, .int .i64 t3, .int .i64 t4, .slice S1 m1 k1, .int .i64 fl, .slice S2 m2 k2, .slice S3 m3 k3, .slice S4 m4 k4, .slice S5 m5 k5, .slice S6 m6 k6, .slice S7 m7 k7, .slice S8 m8 k8, .slice S9 m9 k9, .slice S10 m10 k10, .int .i64 loc]) := Lib.hid (by rw [hW]; exact (Blk.new _ _ _).alloc _)
  have HE : Hid (Blk W (w.heap.size + 1) 31 #[.int .i64 k, .int .i64 o, .int .i64 m, .string (bs s), .slice A n c]) := Lib.hid (by rw [hW]; exact Blk.new_at _ _ _ _ (by simp))
  have c11 : W.cell? ⟨w.heap.size, 11, none⟩ = some (.slice S7 m7 k7) := HK.out.cell 11
  have c13 : W.cell? ⟨w.heap.size, 13, none⟩ = some (.slice S9 m9 k9) := HK.out.cell 13
  have e2 : W.cell? ⟨w.heap.size + 1, 2, none⟩ = some (.int .i64 m) := HE.out.cell 2
  have e4 : W.cell? ⟨w.heap.size + 1, 4, none⟩ = some (.slice A n c) := HE.out.cell 4
  by_cases h1 : 0 ≤ m ∧ m < (m7 : Int)
  · have hA1 : ∀ u : World, Calls Try.prog 82 #[.int .i64 m, .int .i64 (m7 : Int)] u fun e u' => e = .returned (.bool true) ∧ u = u' := fun u => by
      have := tisIndex_any u m (m7 : Int)
      rw [idx_yes h1] at this
      exact this
    obtain ⟨j, hj⟩ : ∃ j : Nat, (j : Int) = m := ⟨m.toNat, by omega⟩
    obtain ⟨ad, rfl, hab, hc⟩ := hf.2.1 (by omega)
    have hcj := hc j (by omega)
    obtain ⟨v, hv⟩ : ∃ v, v = fs.getD j 0 := ⟨_, rfl⟩
    have hvr := hf.2.2 j
    rw [← hv] at hcj hvr
    have cf : W.cell? (ad.add j) = some (.int .i64 v) := (HBW.out.cell (by rw [blk_add]; exact hab)).trans hcj
    have i1 : 0 ≤ (j : Int) ∧ (j : Int) < (m7 : Int) := by omega
    rw [idx_yes h1, Bool.true_and, ← hj, Int.toNat_natCast, ← hv] at hr2
    have hj5 : (j : Int) ≤ 9223372036854775807 := by omega
    subst hj
    have HA1 := Lib.hid hA1
    clear hA1
    by_cases h2 : 0 ≤ v ∧ v < (m9 : Int)
    · have hA2 : ∀ u : World, Calls Try.prog 82 #[.int .i64 v, .int .i64 (m9 : Int)] u fun e u' => e = .returned (.bool true) ∧ u' = u := fun u => by
        have := tisIndex_any u v (m9 : Int)
        rw [idx_yes h2] at this
        exact this.mono fun _ _ ⟨he, hw⟩ => ⟨he, hw.symm⟩
      obtain ⟨i, hi⟩ : ∃ i : Nat, (i : Int) = v := ⟨v.toNat, by omega⟩
      obtain ⟨bd, rfl, hbb, hd⟩ := hp.2.1 (by omega)
      have hdi := hd i (by omega)
      obtain ⟨z, hz⟩ : ∃ z, z = ps.getD i 0 := ⟨_, rfl⟩
      rw [← hz] at hdi
      have cp : W.cell? (bd.add i) = some (.int .i64 z) := (HBW.out.cell (by rw [blk_add]; exact hbb)).trans hdi
      have i2 : 0 ≤ (i : Int) ∧ (i : Int) < (m9 : Int) := by omega
      rw [idx_yes h2, Bool.true_and, ← hi, Int.toNat_natCast, ← hz] at hr2
      have tz : (z == (n : Int)) = r := by rw [hr2, beqX]
      subst hi
      have HA2 := Lib.hid hA2
      clear hA2 hc hd hcj hdi h1 h2 hf hp hab hbb hv hz hr2 hfl hpl
      go_enter Try.func83, Try.ntmps83
      go_wp2_with fail
      rw [← hW]
      clear hW
      refine (HA1.out _).mono ?_
      rintro f w2 ⟨rfl, rfl⟩
      go_wp2_with fail
      go_quiet ((go_at_call 82; exact Calls.quiet_of_same (HA2.out _)))
      go_wp2_with fail
      go_ret
      exact ⟨rfl, below_drewN HBW.out _⟩
    · have hA2 : ∀ u : World, Calls Try.prog 82 #[.int .i64 v, .int .i64 (m9 : Int)] u fun e u' => e = .returned (.bool false) ∧ u' = u := fun u => by
        have := tisIndex_any u v (m9 : Int)
        rw [idx_no h2] at this
        exact this.mono fun _ _ ⟨he, hw⟩ => ⟨he, hw.symm⟩
      rw [idx_no h2, Bool.false_and] at hr2
      have HA2 := Lib.hid hA2
      have HR2 := Lib.hid hr2
      clear hA2 hc hcj h1 h2 hf hp hab hv hr2 hfl hpl
      go_enter Try.func83, Try.ntmps83
      go_wp2_with fail
      rw [← hW]
      clear hW
      refine (HA1.out _).mono ?_
      rintro f w2 ⟨rfl, rfl⟩
      go_wp2_with fail
      go_quiet ((go_at_call 82; exact Calls.quiet_of_same (HA2.out _)))
      go_wp2_with fail
      go_ret
      rw [HR2.out]
      exact ⟨rfl, below_drewN HBW.out _⟩
  · have hA1 : ∀ u : World, Calls Try.prog 82 #[.int .i64 m, .int .i64 (m7 : Int)] u fun e u' => e = .returned (.bool false) ∧ u = u' := fun u => by
      have := tisIndex_any u m (m7 : Int)
      rw [idx_no h1] at this
      exact this
    rw [idx_no h1, Bool.false_and] at hr2
    have HA1 := Lib.hid hA1
    have HR2 := Lib.hid hr2
    clear hA1 h1 hf hp hr2 hfl hpl
    go_enter Try.func83, Try.ntmps83
    go_wp2_with fail
    rw [← hW]
    clear hW
    refine (HA1.out _).mono ?_
    rintro f w2 ⟨rfl, rfl⟩
    go_wp2_with fail
    go_ret
    rw [HR2.out]
    exact ⟨rfl, HBW.out⟩

set_option maxRecDepth 100000 in
set_option maxHeartbeats 1600000 in
theorem bkE_1 (t1 t2 t3 t4 : Int) (S1 : Option Addr) (m1 k1 : Nat) (fl : Int) (S2 : Option Addr) (m2 k2 : Nat) (S3 : Option Addr) (m3 k3 : Nat) (S4 : Option Addr) (m4 k4 : Nat) (S5 : Option Addr) (m5 k5 : Nat) (S6 : Option Addr) (m6 k6 : Nat) (S7 : Option Addr) (m7 k7 : Nat) (S8 : Option Addr) (m8 k8 : Nat) (S9 : Option Addr) (m9 k9 : Nat) (S10 : Option Addr) (m10 k10 : Nat) (loc : Int) (o m : Int) (s : List UInt8) (A : Option Addr) (n c : Nat) (hm1 : (m1 : Int) ≤ 9223372036854775807) (hm2 : (m2 : Int) ≤ 9223372036854775807) (hm3 : (m3 : Int) ≤ 9223372036854775807) (hm8 : (m8 : Int) ≤ 9223372036854775807) (w : World) : Calls Try.prog 62 #[.agg #[.int .i64 t1, .int .i64 t2, .int .i64 t3, .int .i64 t4, .slice S1 m1 k1, .int .i64 fl, .slice S2 m2 k2, .slice S3 m3 k3, .slice S4 m4 k4, .slice S5 m5 k5, .slice S6 m6 k6, .slice S7 m7 k7, .slice S8 m8 k8, .slice S9 m9 k9, .slice S10 m10 k10, .int .i64 loc], .agg #[.int .i64 1, .int .i64 o, .int .i64 m, .string (bs s), .slice A n c]] w fun f w' => f = .returned (.bool (amongB m (-32768) 32767)) ∧ Below w.heap.size w w' := by
  go_enter Try.func62, Try.ntmps62
  go_wp2_with fail
  refine (tIs_any _ _).mono ?_
  rintro f w2 ⟨rfl, rfl⟩
  go_wp2_with fail
  go_ret
  exact ⟨rfl, ((Below.refl _ _).alloc (Nat.le_refl _) _).alloc (by simp) _⟩

set_option maxRecDepth 100000 in
set_option maxHeartbeats 1600000 in
theorem bkE_2 (t1 t2 t3 t4 : Int) (S1 : Option Addr) (m1 k1 : Nat) (fl : Int) (S2 : Option Addr) (m2 k2 : Nat) (S3 : Option Addr) (m3 k3 : Nat) (S4 : Option Addr) (m4 k4 : Nat) (S5 : Option Addr) (m5 k5 : Nat) (S6 : Option Addr) (m6 k6 : Nat) (S7 : Option Addr) (m7 k7 : Nat) (S8 : Option Addr) (m8 k8 : Nat) (S9 : Option Addr) (m9 k9 : Nat) (S10 : Option Addr) (m10 k10 : Nat) (loc : Int) (o m : Int) (s : List UInt8) (A : Option Addr) (n c : Nat) (hm1 : (m1 : Int) ≤ 9223372036854775807) (hm2 : (m2 : Int) ≤ 9223372036854775807) (hm3 : (m3 : Int) ≤ 9223372036854775807) (hm8 : (m8 : Int) ≤ 9223372036854775807) (w : World) : Calls Try.prog 62 #[.agg #[.int .i64 t1, .int .i64 t2, .int .i64 t3, .int .i64 t4, .slice S1 m1 k1, .int .i64 fl, .slice S2 m2 k2, .slice S3 m3 k3, .slice S4 m4 k4, .slice S5 m5 k5, .slice S6 m6 k6, .slice S7 m7 k7, .slice S8 m8 k8, .slice S9 m9 k9, .slice S10 m10 k10, .int .i64 loc], .agg #[.int .i64 2, .int .i64 o, .int .i64 m, .string (bs s), .slice A n c]] w fun f w' => f = .returned (.bool (false)) ∧ Below w.heap.size w w' := by
  go_enter Try.func62, Try.ntmps62
  go_wp2_with fail
  go_ret
  exact ⟨rfl, ((Below.refl _ _).alloc (Nat.le_refl _) _).alloc (by simp) _⟩

set_option maxRecDepth 100000 in
set_option maxHeartbeats 1600000 in
theorem bkE_3 (t1 t2 t3 t4 : Int) (S1 : Option Addr) (m1 k1 : Nat) (fl : Int) (S2 : Option Addr) (m2 k2 : Nat) (S3 : Option Addr) (m3 k3 : Nat) (S4 : Option Addr) (m4 k4 : Nat) (S5 : Option Addr) (m5 k5 : Nat) (S6 : Option Addr) (m6 k6 : Nat) (S7 : Option Addr) (m7 k7 : Nat) (S8 : Option Addr) (m8 k8 : Nat) (S9 : Option Addr) (m9 k9 : Nat) (S10 : Option Addr) (m10 k10 : Nat) (loc : Int) (o m : Int) (s : List UInt8) (A : Option Addr) (n c : Nat) (hm1 : (m1 : Int) ≤ 9223372036854775807) (hm2 : (m2 : Int) ≤ 9223372036854775807) (hm3 : (m3 : Int) ≤ 9223372036854775807) (hm8 : (m8 : Int) ≤ 9223372036854775807) (w : World) : Calls Try.prog 62 #[.agg #[.int .i64 t1, .int .i64 t2, .int .i64 t3, .int .i64 t4, .slice S1 m1 k1, .int .i64 fl, .slice S2 m2 k2, .slice S3 m3 k3, .slice S4 m4 k4, .slice S5 m5 k5, .slice S6 m6 k6, .slice S7 m7 k7, .slice S8 m8 k8, .slice S9 m9 k9, .slice S10 m10 k10, .int .i64 loc], .agg #[.int .i64 3, .int .i64 o, .int .i64 m, .string (bs s), .slice A n c]] w fun f w' => f = .returned (.bool (false)) ∧ Below w.heap.size w w' := by
  go_enter Try.func62, Try.ntmps62
  go_wp2_with fail
  go_ret
  exact ⟨rfl, ((Below.refl _ _).alloc (Nat.le_refl _) _).alloc (by simp) _⟩

set_option maxRecDepth 100000 in
set_option maxHeartbeats 1600000 in
theorem bkE_4 (t1 t2 t3 t4 : Int) (S1 : Option Addr) (m1 k1 : Nat) (fl : Int) (S2 : Option Addr) (m2 k2 : Nat) (S3 : Option Addr) (m3 k3 : Nat) (S4 : Option Addr) (m4 k4 : Nat) (S5 : Option Addr) (m5 k5 : Nat) (S6 : Option Addr) (m6 k6 : Nat) (S7 : Option Addr) (m7 k7 : Nat) (S8 : Option Addr) (m8 k8 : Nat) (S9 : Option Addr) (m9 k9 : Nat) (S10 : Option Addr) (m10 k10 : Nat) (loc : Int) (o m : Int) (s : List UInt8) (A : Option Addr) (n c : Nat) (hm1 : (m1 : Int) ≤ 9223372036854775807) (hm2 : (m2 : Int) ≤ 9223372036854775807) (hm3 : (m3 : Int) ≤ 9223372036854775807) (hm8 : (m8 : Int) ≤ 9223372036854775807) (w : World) : Calls Try.prog 62 #[.agg #[.int .i64 t1, .int .i64 t2, .int .i64 t3, .int .i64 t4, .slice S1 m1 k1, .int .i64 fl, .slice S2 m2 k2, .slice S3 m3 k3, .slice S4 m4 k4, .slice S5 m5 k5, .slice S6 m6 k6, .slice S7 m7 k7, .slice S8 m8 k8, .slice S9 m9 k9, .slice S10 m10 k10, .int .i64 loc], .agg #[.int .i64 4, .int .i64 o, .int .i64 m, .string (bs s), .slice A n c]] w fun f w' => f = .returned (.bool (true)) ∧ Below w.heap.size w w' := by
  go_enter Try.func62, Try.ntmps62
  go_wp2_with fail
  go_ret
  exact ⟨rfl, ((Below.refl _ _).alloc (Nat.le_refl _) _).alloc (by simp) _⟩

set_option maxRecDepth 100000 in
set_option maxHeartbeats 1600000 in
theorem bkE_5 (t1 t2 t3 t4 : Int) (S1 : Option Addr) (m1 k1 : Nat) (fl : Int) (S2 : Option Addr) (m2 k2 : Nat) (S3 : Option Addr) (m3 k3 : Nat) (S4 : Option Addr) (m4 k4 : Nat) (S5 : Option Addr) (m5 k5 : Nat) (S6 : Option Addr) (m6 k6 : Nat) (S7 : Option Addr) (m7 k7 : Nat) (S8 : Option Addr) (m8 k8 : Nat) (S9 : Option Addr) (m9 k9 : Nat) (S10 : Option Addr) (m10 k10 : Nat) (loc : Int) (o m : Int) (s : List UInt8) (A : Option Addr) (n c : Nat) (hm1 : (m1 : Int) ≤ 9223372036854775807) (hm2 : (m2 : Int) ≤ 9223372036854775807) (hm3 : (m3 : Int) ≤ 9223372036854775807) (hm8 : (m8 : Int) ≤ 9223372036854775807) (w : World) : Calls Try.prog 62 #[.agg #[.int .i64 t1, .int .i64 t2, .int .i64 t3, .int .i64 t4, .slice S1 m1 k1, .int .i64 fl, .slice S2 m2 k2, .slice S3 m3 k3, .slice S4 m4 k4, .slice S5 m5 k5, .slice S6 m6 k6, .slice S7 m7 k7, .slice S8 m8 k8, .slice S9 m9 k9, .slice S10 m10 k10, .int .i64 loc], .agg #[.int .i64 5, .int .i64 o, .int .i64 m, .string (bs s), .slice A n c]] w fun f w' => f = .returned (.bool (true)) ∧ Below w.heap.size w w' := by
  go_enter Try.func62, Try.ntmps62
  go_wp2_with fail
  go_ret
  exact ⟨rfl, ((Below.refl _ _).alloc (Nat.le_refl _) _).alloc (by simp) _⟩

set_option maxRecDepth 100000 in
set_option maxHeartbeats 1600000 in
theorem bkE_6 (t1 t2 t3 t4 : Int) (S1 : Option Addr) (m1 k1 : Nat) (fl : Int) (S2 : Option Addr) (m2 k2 : Nat) (S3 : Option Addr) (m3 k3 : Nat) (S4 : Option Addr) (m4 k4 : Nat) (S5 : Option Addr) (m5 k5 : Nat) (S6 : Option Addr) (m6 k6 : Nat) (S7 : Option Addr) (m7 k7 : Nat) (S8 : Option Addr) (m8 k8 : Nat) (S9 : Option Addr) (m9 k9 : Nat) (S10 : Option Addr) (m10 k10 : Nat) (loc : Int) (o m : Int) (s : List UInt8) (A : Option Addr) (n c : Nat) (hm1 : (m1 : Int) ≤ 9223372036854775807) (hm2 : (m2 : Int) ≤ 9223372036854775807) (hm3 : (m3 : Int) ≤ 9223372036854775807) (hm8 : (m8 : Int) ≤ 9223372036854775807) (w : World) : Calls Try.prog 62 #[.agg #[.int .i64 t1, .int .i64 t2, .int .i64 t3, .int .i64 t4, .slice S1 m1 k1, .int .i64 fl, .slice S2 m2 k2, .slice S3 m3 k3, .slice S4 m4 k4, .slice S5 m5 k5, .slice S6 m6 k6, .slice S7 m7 k7, .slice S8 m8 k8, .slice S9 m9 k9, .slice S10 m10 k10, .int .i64 loc], .agg #[.int .i64 6, .int .i64 o, .int .i64 m, .string (bs s), .slice A n c]] w fun f w' => f = .returned (.bool (true)) ∧ Below w.heap.size w w' := by
  go_enter Try.func62, Try.ntmps62
  go_wp2_with fail
  go_ret
  exact ⟨rfl, ((Below.refl _ _).alloc (Nat.le_refl _) _).alloc (by simp) _⟩

set_option maxRecDepth 100000 in
set_option maxHeartbeats 1600000 in
theorem bkE_7 (t1 t2 t3 t4 : Int) (S1 : Option Addr) (m1 k1 : Nat) (fl : Int) (S2 : Option Addr) (m2 k2 : Nat) (S3 : Option Addr) (m3 k3 : Nat) (S4 : Option Addr) (m4 k4 : Nat) (S5 : Option Addr) (m5 k5 : Nat) (S6 : Option Addr) (m6 k6 : Nat) (S7 : Option Addr) (m7 k7 : Nat) (S8 : Option Addr) (m8 k8 : Nat) (S9 : Option Addr) (m9 k9 : Nat) (S10 : Option Addr) (m10 k10 : Nat) (loc : Int) (o m : Int) (s : List UInt8) (A : Option Addr) (n c : Nat) (hm1 : (m1 : Int) ≤ 9223372036854775807) (hm2 : (m2 : Int) ≤ 9223372036854775807) (hm3 : (m3 : Int) ≤ 9223372036854775807) (hm8 : (m8 : Int) ≤ 9223372036854775807) (w : World) : Calls Try.prog 62 #[.agg #[.int .i64 t1, .int .i64 t2, .int .i64 t3, .int .i64 t4, .slice S1 m1 k1, .int .i64 fl, .slice S2 m2 k2, .slice S3 m3 k3, .slice S4 m4 k4, .slice S5 m5 k5, .slice S6 m6 k6, .slice S7 m7 k7, .slice S8 m8 k8, .slice S9 m9 k9, .slice S10 m10 k10, .int .i64 loc], .agg #[.int .i64 7, .int .i64 o, .int .i64 m, .string (bs s), .slice A n c]] w fun f w' => f = .returned (.bool (false)) ∧ Below w.heap.size w w' := by
  go_enter Try.func62, Try.ntmps62
  go_wp2_with fail
  go_ret
  exact ⟨rfl, ((Below.refl _ _).alloc (Nat.le_refl _) _).alloc (by simp) _⟩

set_option maxRecDepth 100000 in
set_option maxHeartbeats 1600000 in
theorem bkE_8 (t1 t2 t3 t4 : Int) (S1 : Option Addr) (m1 k1 : Nat) (fl : Int) (S2 : Option Addr) (m2 k2 : Nat) (S3 : Option Addr) (m3 k3 : Nat) (S4 : Option Addr) (m4 k4 : Nat) (S5 : Option Addr) (m5 k5 : Nat) (S6 : Option Addr) (m6 k6 : Nat) (S7 : Option Addr) (m7 k7 : Nat) (S8 : Option Addr) (m8 k8 : Nat) (S9 : Option Addr) (m9 k9 : Nat) (S10 : Option Addr) (m10 k10 : Nat) (loc : Int) (o m : Int) (s : List UInt8) (A : Option Addr) (n c : Nat) (hm1 : (m1 : Int) ≤ 9223372036854775807) (hm2 : (m2 : Int) ≤ 9223372036854775807) (hm3 : (m3 : Int) ≤ 9223372036854775807) (hm8 : (m8 : Int) ≤ 9223372036854775807) (w : World) : Calls Try.prog 62 #[.agg #[.int .i64 t1, .int .i64 t2, .int .i64 t3, .int .i64 t4, .slice S1 m1 k1, .int .i64 fl, .slice S2 m2 k2, .slice S3 m3 k3, .slice S4 m4 k4, .slice S5 m5 k5, .slice S6 m6 k6, .slice S7 m7 k7, .slice S8 m8 k8, .slice S9 m9 k9, .slice S10 m10 k10, .int .i64 loc], .agg #[.int .i64 8, .int .i64 o, .int .i64 m, .string (bs s), .slice A n c]] w fun f w' => f = .returned (.bool (false)) ∧ Below w.heap.size w w' := by
  go_enter Try.func62, Try.ntmps62
  go_wp2_with fail
  go_ret
  exact ⟨rfl, ((Below.refl _ _).alloc (Nat.le_refl _) _).alloc (by simp) _⟩

set_option maxRecDepth 100000 in
set_option maxHeartbeats 1600000 in
theorem bkE_9 (t1 t2 t3 t4 : Int) (S1 : Option Addr) (m1 k1 : Nat) (fl : Int) (S2 : Option Addr) (m2 k2 : Nat) (S3 : Option Addr) (m3 k3 : Nat) (S4 : Option Addr) (m4 k4 : Nat) (S5 : Option Addr) (m5 k5 : Nat) (S6 : Option Addr) (m6 k6 : Nat) (S7 : Option Addr) (m7 k7 : Nat) (S8 : Option Addr) (m8 k8 : Nat) (S9 : Option Addr) (m9 k9 : Nat) (S10 : Option Addr) (m10 k10 : Nat) (loc : Int) (o m : Int) (s : List UInt8) (A : Option Addr) (n c : Nat) (hm1 : (m1 : Int) ≤ 9223372036854775807) (hm2 : (m2 : Int) ≤ 9223372036854775807) (hm3 : (m3 : Int) ≤ 9223372036854775807) (hm8 : (m8 : Int) ≤ 9223372036854775807) (w : World) : Calls Try.prog 62 #[.agg #[.int .i64 t1, .int .i64 t2, .int .i64 t3, .int .i64 t4, .slice S1 m1 k1, .int .i64 fl, .slice S2 m2 k2, .slice S3 m3 k3, .slice S4 m4 k4, .slice S5 m5 k5, .slice S6 m6 k6, .slice S7 m7 k7, .slice S8 m8 k8, .slice S9 m9 k9, .slice S10 m10 k10, .int .i64 loc], .agg #[.int .i64 9, .int .i64 o, .int .i64 m, .string (bs s), .slice A n c]] w fun f w' => f = .returned (.bool (false)) ∧ Below w.heap.size w w' := by
  go_enter Try.func62, Try.ntmps62
  go_wp2_with fail
  go_ret
  exact ⟨rfl, ((Below.refl _ _).alloc (Nat.le_refl _) _).alloc (by simp) _⟩

set_option maxRecDepth 100000 in
set_option maxHeartbeats 1600000 in
theorem bkE_10 (t1 t2 t3 t4 : Int) (S1 : Option Addr) (m1 k1 : Nat) (fl : Int) (S2 : Option Addr) (m2 k2 : Nat) (S3 : Option Addr) (m3 k3 : Nat) (S4 : Option Addr) (m4 k4 : Nat) (S5 : Option Addr) (m5 k5 : Nat) (S6 : Option Addr) (m6 k6 : Nat) (S7 : Option Addr) (m7 k7 : Nat) (S8 : Option Addr) (m8 k8 : Nat) (S9 : Option Addr) (m9 k9 : Nat) (S10 : Option Addr) (m10 k10 : Nat) (loc : Int) (o m : Int) (s : List UInt8) (A : Option Addr) (n c : Nat) (hm1 : (m1 : Int) ≤ 9223372036854775807) (hm2 : (m2 : Int) ≤ 9223372036854775807) (hm3 : (m3 : Int) ≤ 9223372036854775807) (hm8 : (m8 : Int) ≤ 9223372036854775807) (w : World) : Calls Try.prog 62 #[.agg #[.int .i64 t1, .int .i64 t2, .int .i64 t3, .int .i64 t4, .slice S1 m1 k1, .int .i64 fl, .slice S2 m2 k2, .slice S3 m3 k3, .slice S4 m4 k4, .slice S5 m5 k5, .slice S6 m6 k6, .slice S7 m7 k7, .slice S8 m8 k8, .slice S9 m9 k9, .slice S10 m10 k10, .int .i64 loc], .agg #[.int .i64 10, .int .i64 o, .int .i64 m, .string (bs s), .slice A n c]] w fun f w' => f = .returned (.bool (true)) ∧ Below w.heap.size w w' := by
  go_enter Try.func62, Try.ntmps62
  go_wp2_with fail
  go_ret
  exact ⟨rfl, ((Below.refl _ _).alloc (Nat.le_refl _) _).alloc (by simp) _⟩

set_option maxRecDepth 100000 in
set_option maxHeartbeats 1600000 in
theorem bkE_11 (t1 t2 t3 t4 : Int) (S1 : Option Addr) (m1 k1 : Nat) (fl : Int) (S2 : Option Addr) (m2 k2 : Nat) (S3 : Option Addr) (m3 k3 : Nat) (S4 : Option Addr) (m4 k4 : Nat) (S5 : Option Addr) (m5 k5 : Nat) (S6 : Option Addr) (m6 k6 : Nat) (S7 : Option Addr) (m7 k7 : Nat) (S8 : Option Addr) (m8 k8 : Nat) (S9 : Option Addr) (m9 k9 : Nat) (S10 : Option Addr) (m10 k10 : Nat) (loc : Int) (o m : Int) (s : List UInt8) (A : Option Addr) (n c : Nat) (hm1 : (m1 : Int) ≤ 9223372036854775807) (hm2 : (m2 : Int) ≤ 9223372036854775807) (hm3 : (m3 : Int) ≤ 9223372036854775807) (hm8 : (m8 : Int) ≤ 9223372036854775807) (w : World) : Calls Try.prog 62 #[.agg #[.int .i64 t1, .int .i64 t2, .int .i64 t3, .int .i64 t4, .slice S1 m1 k1, .int .i64 fl, .slice S2 m2 k2, .slice S3 m3 k3, .slice S4 m4 k4, .slice S5 m5 k5, .slice S6 m6 k6, .slice S7 m7 k7, .slice S8 m8 k8, .slice S9 m9 k9, .slice S10 m10 k10, .int .i64 loc], .agg #[.int .i64 11, .int .i64 o, .int .i64 m, .string (bs s), .slice A n c]] w fun f w' => f = .returned (.bool (true)) ∧ Below w.heap.size w w' := by
  go_enter Try.func62, Try.ntmps62
  go_wp2_with fail
  go_ret
  exact ⟨rfl, ((Below.refl _ _).alloc (Nat.le_refl _) _).alloc (by simp) _⟩

set_option maxRecDepth 100000 in
set_option maxHeartbeats 1600000 in
theorem bkE_12 (t1 t2 t3 t4 : Int) (S1 : Option Addr) (m1 k1 : Nat) (fl : Int) (S2 : Option Addr) (m2 k2 : Nat) (S3 : Option Addr) (m3 k3 : Nat) (S4 : Option Addr) (m4 k4 : Nat) (S5 : Option Addr) (m5 k5 : Nat) (S6 : Option Addr) (m6 k6 : Nat) (S7 : Option Addr) (m7 k7 : Nat) (S8 : Option Addr) (m8 k8 : Nat) (S9 : Option Addr) (m9 k9 : Nat) (S10 : Option Addr) (m10 k10 : Nat) (loc : Int) (o m : Int) (s : List UInt8) (A : Option Addr) (n c : Nat) (hm1 : (m1 : Int) ≤ 9223372036854775807) (hm2 : (m2 : Int) ≤ 9223372036854775807) (hm3 : (m3 : Int) ≤ 9223372036854775807) (hm8 : (m8 : Int) ≤ 9223372036854775807) (w : World) : Calls Try.prog 62 #[.agg #[.int .i64 t1, .int .i64 t2, .int .i64 t3, .int .i64 t4, .slice S1 m1 k1, .int .i64 fl, .slice S2 m2 k2, .slice S3 m3 k3, .slice S4 m4 k4, .slice S5 m5 k5, .slice S6 m6 k6, .slice S7 m7 k7, .slice S8 m8 k8, .slice S9 m9 k9, .slice S10 m10 k10, .int .i64 loc], .agg #[.int .i64 12, .int .i64 o, .int .i64 m, .string (bs s), .slice A n c]] w fun f w' => f = .returned (.bool (true)) ∧ Below w.heap.size w w' := by
  go_enter Try.func62, Try.ntmps62
  go_wp2_with fail
  go_ret
  exact ⟨rfl, ((Below.refl _ _).alloc (Nat.le_refl _) _).alloc (by simp) _⟩

set_option maxRecDepth 100000 in
set_option maxHeartbeats 1600000 in
theorem bkE_13 (t1 t2 t3 t4 : Int) (S1 : Option Addr) (m1 k1 : Nat) (fl : Int) (S2 : Option Addr) (m2 k2 : Nat) (S3 : Option Addr) (m3 k3 : Nat) (S4 : Option Addr) (m4 k4 : Nat) (S5 : Option Addr) (m5 k5 : Nat) (S6 : Option Addr) (m6 k6 : Nat) (S7 : Option Addr) (m7 k7 : Nat) (S8 : Option Addr) (m8 k8 : Nat) (S9 : Option Addr) (m9 k9 : Nat) (S10 : Option Addr) (m10 k10 : Nat) (loc : Int) (o m : Int) (s : List UInt8) (A : Option Addr) (n c : Nat) (hm1 : (m1 : Int) ≤ 9223372036854775807) (hm2 : (m2 : Int) ≤ 9223372036854775807) (hm3 : (m3 : Int) ≤ 9223372036854775807) (hm8 : (m8 : Int) ≤ 9223372036854775807) (w : World) : Calls Try.prog 62 #[.agg #[.int .i64 t1, .int .i64 t2, .int .i64 t3, .int .i64 t4, .slice S1 m1 k1, .int .i64 fl, .slice S2 m2 k2, .slice S3 m3 k3, .slice S4 m4 k4, .slice S5 m5 k5, .slice S6 m6 k6, .slice S7 m7 k7, .slice S8 m8 k8, .slice S9 m9 k9, .slice S10 m10 k10, .int .i64 loc], .agg #[.int .i64 13, .int .i64 o, .int .i64 m, .string (bs s), .slice A n c]] w fun f w' => f = .returned (.bool (true)) ∧ Below w.heap.size w w' := by
  go_enter Try.func62, Try.ntmps62
  go_wp2_with fail
  go_ret
  exact ⟨rfl, ((Below.refl _ _).alloc (Nat.le_refl _) _).alloc (by simp) _⟩

set_option maxRecDepth 100000 in
set_option maxHeartbeats 1600000 in
theorem bkE_14 (t1 t2 t3 t4 : Int) (S1 : Option Addr) (m1 k1 : Nat) (fl : Int) (S2 : Option Addr) (m2 k2 : Nat) (S3 : Option Addr) (m3 k3 : Nat) (S4 : Option Addr) (m4 k4 : Nat) (S5 : Option Addr) (m5 k5 : Nat) (S6 : Option Addr) (m6 k6 : Nat) (S7 : Option Addr) (m7 k7 : Nat) (S8 : Option Addr) (m8 k8 : Nat) (S9 : Option Addr) (m9 k9 : Nat) (S10 : Option Addr) (m10 k10 : Nat) (loc : Int) (o m : Int) (s : List UInt8) (A : Option Addr) (n c : Nat) (hm1 : (m1 : Int) ≤ 9223372036854775807) (hm2 : (m2 : Int) ≤ 9223372036854775807) (hm3 : (m3 : Int) ≤ 9223372036854775807) (hm8 : (m8 : Int) ≤ 9223372036854775807) (w : World) : Calls Try.prog 62 #[.agg #[.int .i64 t1, .int .i64 t2, .int .i64 t3, .int .i64 t4, .slice S1 m1 k1, .int .i64 fl, .slice S2 m2 k2, .slice S3 m3 k3, .slice S4 m4 k4, .slice S5 m5 k5, .slice S6 m6 k6, .slice S7 m7 k7, .slice S8 m8 k8, .slice S9 m9 k9, .slice S10 m10 k10, .int .i64 loc], .agg #[.int .i64 14, .int .i64 o, .int .i64 m, .string (bs s), .slice A n c]] w fun f w' => f = .returned (.bool (idxB m m3)) ∧ Below w.heap.size w w' := by
  go_enter Try.func62, Try.ntmps62
  go_wp2_with fail
  refine (tisIndex_any _ _ _).mono ?_
  rintro f w2 ⟨rfl, rfl⟩
  go_wp2_with fail
  go_ret
  exact ⟨rfl, ((Below.refl _ _).alloc (Nat.le_refl _) _).alloc (by simp) _⟩

set_option maxRecDepth 100000 in
set_option maxHeartbeats 1600000 in
theorem bkE_15 (t1 t2 t3 t4 : Int) (S1 : Option Addr) (m1 k1 : Nat) (fl : Int) (S2 : Option Addr) (m2 k2 : Nat) (S3 : Option Addr) (m3 k3 : Nat) (S4 : Option Addr) (m4 k4 : Nat) (S5 : Option Addr) (m5 k5 : Nat) (S6 : Option Addr) (m6 k6 : Nat) (S7 : Option Addr) (m7 k7 : Nat) (S8 : Option Addr) (m8 k8 : Nat) (S9 : Option Addr) (m9 k9 : Nat) (S10 : Option Addr) (m10 k10 : Nat) (loc : Int) (o m : Int) (s : List UInt8) (A : Option Addr) (n c : Nat) (hm1 : (m1 : Int) ≤ 9223372036854775807) (hm2 : (m2 : Int) ≤ 9223372036854775807) (hm3 : (m3 : Int) ≤ 9223372036854775807) (hm8 : (m8 : Int) ≤ 9223372036854775807) (w : World) : Calls Try.prog 62 #[.agg #[.int .i64 t1, .int .i64 t2, .int .i64 t3, .int .i64 t4, .slice S1 m1 k1, .int .i64 fl, .slice S2 m2 k2, .slice S3 m3 k3, .slice S4 m4 k4, .slice S5 m5 k5, .slice S6 m6 k6, .slice S7 m7 k7, .slice S8 m8 k8, .slice S9 m9 k9, .slice S10 m10 k10, .int .i64 loc], .agg #[.int .i64 15, .int .i64 o, .int .i64 m, .string (bs s), .slice A n c]] w fun f w' => f = .returned (.bool (idxB m loc)) ∧ Below w.heap.size w w' := by
  go_enter Try.func62, Try.ntmps62
  go_wp2_with fail
  refine (tisIndex_any _ _ _).mono ?_
  rintro f w2 ⟨rfl, rfl⟩
  go_wp2_with fail
  go_ret
  exact ⟨rfl, ((Below.refl _ _).alloc (Nat.le_refl _) _).alloc (by simp) _⟩

set_option maxRecDepth 100000 in
set_option maxHeartbeats 1600000 in
theorem bkE_16 (t1 t2 t3 t4 : Int) (S1 : Option Addr) (m1 k1 : Nat) (fl : Int) (S2 : Option Addr) (m2 k2 : Nat) (S3 : Option Addr) (m3 k3 : Nat) (S4 : Option Addr) (m4 k4 : Nat) (S5 : Option Addr) (m5 k5 : Nat) (S6 : Option Addr) (m6 k6 : Nat) (S7 : Option Addr) (m7 k7 : Nat) (S8 : Option Addr) (m8 k8 : Nat) (S9 : Option Addr) (m9 k9 : Nat) (S10 : Option Addr) (m10 k10 : Nat) (loc : Int) (o m : Int) (s : List UInt8) (A : Option Addr) (n c : Nat) (hm1 : (m1 : Int) ≤ 9223372036854775807) (hm2 : (m2 : Int) ≤ 9223372036854775807) (hm3 : (m3 : Int) ≤ 9223372036854775807) (hm8 : (m8 : Int) ≤ 9223372036854775807) (w : World) : Calls Try.prog 62 #[.agg #[.int .i64 t1, .int .i64 t2, .int .i64 t3, .int .i64 t4, .slice S1 m1 k1, .int .i64 fl, .slice S2 m2 k2, .slice S3 m3 k3, .slice S4 m4 k4, .slice S5 m5 k5, .slice S6 m6 k6, .slice S7 m7 k7, .slice S8 m8 k8, .slice S9 m9 k9, .slice S10 m10 k10, .int .i64 loc], .agg #[.int .i64 16, .int .i64 o, .int .i64 m, .string (bs s), .slice A n c]] w fun f w' => f = .returned (.bool (idxB m fl)) ∧ Below w.heap.size w w' := by
  go_enter Try.func62, Try.ntmps62
  go_wp2_with fail
  refine (tisIndex_any _ _ _).mono ?_
  rintro f w2 ⟨rfl, rfl⟩
  go_wp2_with fail
  go_ret
  exact ⟨rfl, ((Below.refl _ _).alloc (Nat.le_refl _) _).alloc (by simp) _⟩

set_option maxRecDepth 100000 in
set_option maxHeartbeats 1600000 in
theorem bkE_17 (t1 t2 t3 t4 : Int) (S1 : Option Addr) (m1 k1 : Nat) (fl : Int) (S2 : Option Addr) (m2 k2 : Nat) (S3 : Option Addr) (m3 k3 : Nat) (S4 : Option Addr) (m4 k4 : Nat) (S5 : Option Addr) (m5 k5 : Nat) (S6 : Option Addr) (m6 k6 : Nat) (S7 : Option Addr) (m7 k7 : Nat) (S8 : Option Addr) (m8 k8 : Nat) (S9 : Option Addr) (m9 k9 : Nat) (S10 : Option Addr) (m10 k10 : Nat) (loc : Int) (o m : Int) (s : List UInt8) (A : Option Addr) (n c : Nat) (hm1 : (m1 : Int) ≤ 9223372036854775807) (hm2 : (m2 : Int) ≤ 9223372036854775807) (hm3 : (m3 : Int) ≤ 9223372036854775807) (hm8 : (m8 : Int) ≤ 9223372036854775807) (w : World) : Calls Try.prog 62 #[.agg #[.int .i64 t1, .int .i64 t2, .int .i64 t3, .int .i64 t4, .slice S1 m1 k1, .int .i64 fl, .slice S2 m2 k2, .slice S3 m3 k3, .slice S4 m4 k4, .slice S5 m5 k5, .slice S6 m6 k6, .slice S7 m7 k7, .slice S8 m8 k8, .slice S9 m9 k9, .slice S10 m10 k10, .int .i64 loc], .agg #[.int .i64 17, .int .i64 o, .int .i64 m, .string (bs s), .slice A n c]] w fun f w' => f = .returned (.bool (idxB m m2)) ∧ Below w.heap.size w w' := by
  go_enter Try.func62, Try.ntmps62
  go_wp2_with fail
  refine (tisIndex_any _ _ _).mono ?_
  rintro f w2 ⟨rfl, rfl⟩
  go_wp2_with fail
  go_ret
  exact ⟨rfl, ((Below.refl _ _).alloc (Nat.le_refl _) _).alloc (by simp) _⟩

set_option maxRecDepth 100000 in
set_option maxHeartbeats 1600000 in
theorem bkE_19 (t1 t2 t3 t4 : Int) (S1 : Option Addr) (m1 k1 : Nat) (fl : Int) (S2 : Option Addr) (m2 k2 : Nat) (S3 : Option Addr) (m3 k3 : Nat) (S4 : Option Addr) (m4 k4 : Nat) (S5 : Option Addr) (m5 k5 : Nat) (S6 : Option Addr) (m6 k6 : Nat) (S7 : Option Addr) (m7 k7 : Nat) (S8 : Option Addr) (m8 k8 : Nat) (S9 : Option Addr) (m9 k9 : Nat) (S10 : Option Addr) (m10 k10 : Nat) (loc : Int) (o m : Int) (s : List UInt8) (A : Option Addr) (n c : Nat) (hm1 : (m1 : Int) ≤ 9223372036854775807) (hm2 : (m2 : Int) ≤ 9223372036854775807) (hm3 : (m3 : Int) ≤ 9223372036854775807) (hm8 : (m8 : Int) ≤ 9223372036854775807) (w : World) : Calls Try.prog 62 #[.agg #[.int .i64 t1, .int .i64 t2, .int .i64 t3, .int .i64 t4, .slice S1 m1 k1, .int .i64 fl, .slice S2 m2 k2, .slice S3 m3 k3, .slice S4 m4 k4, .slice S5 m5 k5, .slice S6 m6 k6, .slice S7 m7 k7, .slice S8 m8 k8, .slice S9 m9 k9, .slice S10 m10 k10, .int .i64 loc], .agg #[.int .i64 19, .int .i64 o, .int .i64 m, .string (bs s), .slice A n c]] w fun f w' => f = .returned (.bool (idxB m m1)) ∧ Below w.heap.size w w' := by
  go_enter Try.func62, Try.ntmps62
  go_wp2_with fail
  refine (tisIndex_any _ _ _).mono ?_
  rintro f w2 ⟨rfl, rfl⟩
  go_wp2_with fail
  go_ret
  exact ⟨rfl, ((Below.refl _ _).alloc (Nat.le_refl _) _).alloc (by simp) _⟩

set_option maxRecDepth 100000 in
set_option maxHeartbeats 1600000 in
theorem bkE_0 (k : Int) (h1 : k ≠ 1) (h2 : k ≠ 2) (h3 : k ≠ 3) (h4 : k ≠ 4) (h5 : k ≠ 5) (h6 : k ≠ 6) (h7 : k ≠ 7) (h8 : k ≠ 8) (h9 : k ≠ 9) (h10 : k ≠ 10) (h11 : k ≠ 11) (h12 : k ≠ 12) (h13 : k ≠ 13) (h14 : k ≠ 14) (h15 : k ≠ 15) (h16 : k ≠ 16) (h17 : k ≠ 17) (h18 : k ≠ 18) (h19 : k ≠ 19) (t1 t2 t3 t4 : Int) (S1 : Option Addr) (m1 k1 : Nat) (fl : Int) (S2 : Option Addr) (m2 k2 : Nat) (S3 : Option Addr) (m3 k3 : Nat) (S4 : Option Addr) (m4 k4 : Nat) (S5 : Option Addr) (m5 k5 : Nat) (S6 : Option Addr) (m6 k6 : Nat) (S7 : Option Addr) (m7 k7 : Nat) (S8 : Option Addr) (m8 k8 : Nat) (S9 : Option Addr) (m9 k9 : Nat) (S10 : Option Addr) (m10 k10 : Nat) (loc : Int) (o m : Int) (s : List UInt8) (A : Option Addr) (n c : Nat) (hm1 : (m1 : Int) ≤ 9223372036854775807) (hm2 : (m2 : Int) ≤ 9223372036854775807) (hm3 : (m3 : Int) ≤ 9223372036854775807) (hm8 : (m8 : Int) ≤ 9223372036854775807) (w : World) : Calls Try.prog 62 #[.agg #[.int .i64 t1, .int .i64 t2, .int .i64 t3, .int .i64 t4, .slice S1 m1 k1, .int .i64 fl, .slice S2 m2 k2, .slice S3 m3 k3, .slice S4 m4 k4, .slice S5 m5 k5, .slice S6 m6 k6, .slice S7 m7 k7, .slice S8 m8 k8, .slice S9 m9 k9, .slice S10 m10 k10, .int .i64 loc], .agg #[.int .i64 k, .int .i64 o, .int .i64 m, .string (bs s), .slice A n c]] w fun f w' => f = .returned (.bool (false)) ∧ Below w.heap.size w w' := by
  have t1e : (k == 1) = false := by rw [beq_eq_false_iff_ne]; exact h1
  have t4e : (k == 4) = false := by rw [beq_eq_false_iff_ne]; exact h4
  have t5e : (k == 5) = false := by rw [beq_eq_false_iff_ne]; exact h5
  have t6e : (k == 6) = false := by rw [beq_eq_false_iff_ne]; exact h6
  have t10e : (k == 10) = false := by rw [beq_eq_false_iff_ne]; exact h10
  have t11e : (k == 11) = false := by rw [beq_eq_false_iff_ne]; exact h11
  have t12e : (k == 12) = false := by rw [beq_eq_false_iff_ne]; exact h12
  have t13e : (k == 13) = false := by rw [beq_eq_false_iff_ne]; exact h13
  have t14e : (k == 14) = false := by rw [beq_eq_false_iff_ne]; exact h14
  have t15e : (k == 15) = false := by rw [beq_eq_false_iff_ne]; exact h15
  have t16e : (k == 16) = false := by rw [beq_eq_false_iff_ne]; exact h16
  have t17e : (k == 17) = false := by rw [beq_eq_false_iff_ne]; exact h17
  have t18e : (k == 18) = false := by rw [beq_eq_false_iff_ne]; exact h18
  have t19e : (k == 19) = false := by rw [beq_eq_false_iff_ne]; exact h19
  clear h1 h2 h3 h4 h5 h6 h7 h8 h9 h10 h11 h12 h13 h14 h15 h16 h17 h18 h19
  go_enter Try.func62, Try.ntmps62
  go_wp2_with fail
  go_ret
  exact ⟨rfl, ((Below.refl _ _).alloc (Nat.le_refl _) _).alloc (by simp) _⟩

set_option maxRecDepth 100000 in
set_option maxHeartbeats 6400000 in
theorem bkE_18 (T : TV) (loc : Int) (e : EL) (he : e.kind = 18) (w : World) (hin : T.In w w.heap.size) (hnum : -9223372036854775808 ≤ e.num ∧ e.num ≤ 9223372036854775807) (hen : (e.n : Int) ≤ 9223372036854775807) : Calls Try.prog 62 #[T.rt loc, eVal e] w fun f w' => f = .returned (.bool (callB T.tb e)) ∧ Below w.heap.size w w' := by
  have HC := Lib.hid (fun (W : World) (hb : Below w.heap.size w W) => thasCall_any T loc e W ((hin.below hb).more hb.size) hnum hen)
  obtain ⟨r, hr⟩ : ∃ r, r = callB T.tb e := ⟨_, rfl⟩
  simp only [← hr] at HC
  rw [← hr]
  clear hr hin hnum hen
  obtain ⟨t1, t2, t3, t4, S1, m1, k1, fl, S2, m2, k2, S3, m3, k3, S4, m4, k4, S5, m5, k5, S6, m6, k6, S7, m7, k7, S8, m8, k8, S9, m9, k9, S10, m10, k10, fs, ps⟩ := T
  obtain ⟨k, o, m, s, A, n, c, es⟩ := e
  change k = 18 at he
  subst he
  show Calls Try.prog _ #[.agg #[.int .i64 t1, .int .i64 t2, .int .i64 t3, .int .i64 t4, .slice S1 m1 k1, .int .i64 fl, .slice S2 m2 k2, .slice S3 m3 k3, .slice S4 m4 k4, .slice S5 m5 k5, .slice S6 m6 k6, .slice S7 m7 k7, .slice S8 m8 k8, .slice S9 m9 k9, .slice S10 m10 k10, .int .i64 loc], .agg #[.int .i64 18, .int .i64 o, .int .i64 m, .string (bs s), .slice A n c]] w fun f w' => f = .returned (.bool r) ∧ Below w.heap.size w w'
  obtain ⟨W, hW⟩ : ∃ W, W = ((w.alloc (.cells #[.int .i64 t1, .int .i64 t2, .int .i64 t3, .int .i64 t4, .slice S1 m1 k1, .int .i64 fl, .slice S2 m2 k2, .slice S3 m3 k3, .slice S4 m4 k4, .slice S5 m5 k5, .slice S6 m6 k6, .slice S7 m7 k7, .slice S8 m8 k8, .slice S9 m9 k9, .slice S10 m10 k10, .int .i64 loc] 87)).alloc (.cells #[.int .i64 18, .int .i64 o, .int .i64 m, .string (bs s), .slice A n c] 31)) := ⟨_, rfl⟩
  have HBW : Hid (Below w.heap.size w W) := Lib.hid (by rw [hW]; exact ((Below.refl _ _).alloc (Nat.le_refl _) _).alloc (by simp) _)
  have HK : Hid (Blk W w.heap.size 87 #[.int .i64 t1, .int .i64 t2, .int .i64 t3, .int .i64 t4, .slice S1 m1 k1, .int .i64 fl, .slice S2 m2 k2, .slice S3 m3 k3, .slice S4 m4 k4, .slice S5 m5 k5, .slice S6 m6 k6, .slice S7 m7 k7, .slice S8 m8 k8, .slice S9 m9 k9, .slice S10 m10 k10, .int .i64 loc]) := Lib.hid (by rw [hW]; exact (Blk.new _ _ _).alloc _)
  go_enter Try.func62, Try.ntmps62
  go_wp2_with (rw [← hW]; refine wpList_load_row rfl 87 _ rfl w.heap.size rfl 87 #[.int .i64 t1, .int .i64 t2, .int .i64 t3, .int .i64 t4, .slice S1 m1 k1, .int .i64 fl, .slice S2 m2 k2, .slice S3 m3 k3, .slice S4 m4 k4, .slice S5 m5 k5, .slice S6 m6 k6, .slice S7 m7 k7, .slice S8 m8 k8, .slice S9 m9 k9, .slice S10 m10 k10, .int .i64 loc] (0, 0) _ HK.out Try.underlying87 rfl rt_size ?_; rw [hW])
  rw [← hW]
  clear hW
  refine (HC.out W HBW.out).mono ?_
  rintro f w2 ⟨rfl, hb2⟩
  go_wp2_with fail
  go_ret
  exact ⟨rfl, HBW.out.trans (hb2.mono HBW.out.size)⟩

theorem thasExpr_any (T : TV) (loc : Int) (e : EL) (w : World) (hT : T.In w w.heap.size) (hin : e.In w w.heap.size) : Calls Try.prog 62 #[T.rt loc, eVal e] w fun f w' => f = .returned (.bool (bkE T.tb loc e)) ∧ Below w.heap.size w w' := by
  have hs := hin.fit.1
  have hn9 := hin.row.2.1
  obtain ⟨k, o, m, s, A, n, c, es⟩ := e
  change (n : Int) ≤ _ at hn9
  by_cases h18 : k = 18
  · subst h18
    exact bkE_18 T loc (.mk 18 o m s A n c es) rfl w hT hs hn9
  obtain ⟨t1, t2, t3, t4, S1, m1, k1, fl, S2, m2, k2, S3, m3, k3, S4, m4, k4, S5, m5, k5, S6, m6, k6, S7, m7, k7, S8, m8, k8, S9, m9, k9, S10, m10, k10, fs, ps⟩ := T
  obtain ⟨⟨hm1, hm2, hm3, hm7, hm8, hm9⟩, hf, hp⟩ := hT
  by_cases h1 : k = 1
  · subst h1
    exact bkE_1 t1 t2 t3 t4 S1 m1 k1 fl S2 m2 k2 S3 m3 k3 S4 m4 k4 S5 m5 k5 S6 m6 k6 S7 m7 k7 S8 m8 k8 S9 m9 k9 S10 m10 k10 loc o m s A n c hm1 hm2 hm3 hm8 w
  by_cases h2 : k = 2
  · subst h2
    exact bkE_2 t1 t2 t3 t4 S1 m1 k1 fl S2 m2 k2 S3 m3 k3 S4 m4 k4 S5 m5 k5 S6 m6 k6 S7 m7 k7 S8 m8 k8 S9 m9 k9 S10 m10 k10 loc o m s A n c hm1 hm2 hm3 hm8 w
  by_cases h3 : k = 3
  · subst h3
    exact bkE_3 t1 t2 t3 t4 S1 m1 k1 fl S2 m2 k2 S3 m3 k3 S4 m4 k4 S5 m5 k5 S6 m6 k6 S7 m7 k7 S8 m8 k8 S9 m9 k9 S10 m10 k10 loc o m s A n c hm1 hm2 hm3 hm8 w
  by_cases h4 : k = 4
  · subst h4
    exact bkE_4 t1 t2 t3 t4 S1 m1 k1 fl S2 m2 k2 S3 m3 k3 S4 m4 k4 S5 m5 k5 S6 m6 k6 S7 m7 k7 S8 m8 k8 S9 m9 k9 S10 m10 k10 loc o m s A n c hm1 hm2 hm3 hm8 w
  by_cases h5 : k = 5
  · subst h5
    exact bkE_5 t1 t2 t3 t4 S1 m1 k1 fl S2 m2 k2 S3 m3 k3 S4 m4 k4 S5 m5 k5 S6 m6 k6 S7 m7 k7 S8 m8 k8 S9 m9 k9 S10 m10 k10 loc o m s A n c hm1 hm2 hm3 hm8 w
  by_cases h6 : k = 6
  · subst h6
    exact bkE_6 t1 t2 t3 t4 S1 m1 k1 fl S2 m2 k2 S3 m3 k3 S4 m4 k4 S5 m5 k5 S6 m6 k6 S7 m7 k7 S8 m8 k8 S9 m9 k9 S10 m10 k10 loc o m s A n c hm1 hm2 hm3 hm8 w
  by_cases h7 : k = 7
  · subst h7
    exact bkE_7 t1 t2 t3 t4 S1 m1 k1 fl S2 m2 k2 S3 m3 k3 S4 m4 k4 S5 m5 k5 S6 m6 k6 S7 m7 k7 S8 m8 k8 S9 m9 k9 S10 m10 k10 loc o m s A n c hm1 hm2 hm3 hm8 w
  by_cases h8 : k = 8
  · subst h8
    exact bkE_8 t1 t2 t3 t4 S1 m1 k1 fl S2 m2 k2 S3 m3 k3 S4 m4 k4 S5 m5 k5 S6 m6 k6 S7 m7 k7 S8 m8 k8 S9 m9 k9 S10 m10 k10 loc o m s A n c hm1 hm2 hm3 hm8 w
  by_cases h9 : k = 9
  · subst h9
    exact bkE_9 t1 t2 t3 t4 S1 m1 k1 fl S2 m2 k2 S3 m3 k3 S4 m4 k4 S5 m5 k5 S6 m6 k6 S7 m7 k7 S8 m8 k8 S9 m9 k9 S10 m10 k10 loc o m s A n c hm1 hm2 hm3 hm8 w
  by_cases h10 : k = 10
  · subst h10
    exact bkE_10 t1 t2 t3 t4 S1 m1 k1 fl S2 m2 k2 S3 m3 k3 S4 m4 k4 S5 m5 k5 S6 m6 k6 S7 m7 k7 S8 m8 k8 S9 m9 k9 S10 m10 k10 loc o m s A n c hm1 hm2 hm3 hm8 w
  by_cases h11 : k = 11
  · subst h11
    exact bkE_11 t1 t2 t3 t4 S1 m1 k1 fl S2 m2 k2 S3 m3 k3 S4 m4 k4 S5 m5 k5 S6 m6 k6 S7 m7 k7 S8 m8 k8 S9 m9 k9 S10 m10 k10 loc o m s A n c hm1 hm2 hm3 hm8 w
  by_cases h12 : k = 12
  · subst h12
    exact bkE_12 t1 t2 t3 t4 S1 m1 k1 fl S2 m2 k2 S3 m3 k3 S4 m4 k4 S5 m5 k5 S6 m6 k6 S7 m7 k7 S8 m8 k8 S9 m9 k9 S10 m10 k10 loc o m s A n c hm1 hm2 hm3 hm8 w
  by_cases h13 : k = 13
  · subst h13
    exact bkE_13 t1 t2 t3 t4 S1 m1 k1 fl S2 m2 k2 S3 m3 k3 S4 m4 k4 S5 m5 k5 S6 m6 k6 S7 m7 k7 S8 m8 k8 S9 m9 k9 S10 m10 k10 loc o m s A n c hm1 hm2 hm3 hm8 w
  by_cases h14 : k = 14
  · subst h14
    exact bkE_14 t1 t2 t3 t4 S1 m1 k1 fl S2 m2 k2 S3 m3 k3 S4 m4 k4 S5 m5 k5 S6 m6 k6 S7 m7 k7 S8 m8 k8 S9 m9 k9 S10 m10 k10 loc o m s A n c hm1 hm2 hm3 hm8 w
  by_cases h15 : k = 15
  · subst h15
    exact bkE_15 t1 t2 t3 t4 S1 m1 k1 fl S2 m2 k2 S3 m3 k3 S4 m4 k4 S5 m5 k5 S6 m6 k6 S7 m7 k7 S8 m8 k8 S9 m9 k9 S10 m10 k10 loc o m s A n c hm1 hm2 hm3 hm8 w
  by_cases h16 : k = 16
  · subst h16
    exact bkE_16 t1 t2 t3 t4 S1 m1 k1 fl S2 m2 k2 S3 m3 k3 S4 m4 k4 S5 m5 k5 S6 m6 k6 S7 m7 k7 S8 m8 k8 S9 m9 k9 S10 m10 k10 loc o m s A n c hm1 hm2 hm3 hm8 w
  by_cases h17 : k = 17
  · subst h17
    exact bkE_17 t1 t2 t3 t4 S1 m1 k1 fl S2 m2 k2 S3 m3 k3 S4 m4 k4 S5 m5 k5 S6 m6 k6 S7 m7 k7 S8 m8 k8 S9 m9 k9 S10 m10 k10 loc o m s A n c hm1 hm2 hm3 hm8 w
  by_cases h19 : k = 19
  · subst h19
    exact bkE_19 t1 t2 t3 t4 S1 m1 k1 fl S2 m2 k2 S3 m3 k3 S4 m4 k4 S5 m5 k5 S6 m6 k6 S7 m7 k7 S8 m8 k8 S9 m9 k9 S10 m10 k10 loc o m s A n c hm1 hm2 hm3 hm8 w
  have e : bkE (TB.mk m1 fl m2 m3 m8 fs ps) loc (EL.mk k o m s A n c es) = false := by
    unfold bkE
    simp only [EL.kind, h1, h4, h5, h6, h10, h11, h12, h13, h14, h15, h16, h17, h18, h19, or_self, if_false, decide_false]
  change Calls Try.prog _ _ w fun f w' => f = .returned (.bool (bkE (TB.mk m1 fl m2 m3 m8 fs ps) loc (EL.mk k o m s A n c es))) ∧ Below w.heap.size w w'
  rw [e]
  exact bkE_0 k h1 h2 h3 h4 h5 h6 h7 h8 h9 h10 h11 h12 h13 h14 h15 h16 h17 h18 h19 t1 t2 t3 t4 S1 m1 k1 fl S2 m2 k2 S3 m3 k3 S4 m4 k4 S5 m5 k5 S6 m6 k6 S7 m7 k7 S8 m8 k8 S9 m9 k9 S10 m10 k10 loc o m s A n c hm1 hm2 hm3 hm8 w

end

section
open Go.RowKit
set_option linter.unusedVariables false

set_option maxRecDepth 100000 in
theorem tnearest_any (w : World) (n a b : Int) : Calls Try.prog 87 #[.int .i64 n, .int .i64 a, .int .i64 b] w fun f w' => f = .returned (.int .i64 (nearL n a b)) ∧ w = w' := by
  go_enter Try.func87, Try.ntmps87
  go_wp2_with fail
  all_goals
    go_ret
    exact ⟨ret_int (by unfold nearL; omega), rfl⟩

theorem form_back {w V : World} {cs zs : Array Value} {t : TypeId} (o : Obj) (h : V = ((w.alloc o).alloc (.cells cs 52)).alloc (.cells zs t)) : V.heap[w.heap.size + 1]? = some (.cells cs 52 (0, 0)) ∧ Below w.heap.size w V := by
  subst h
  exact ⟨(Blk.new_at _ _ _ (w.heap.size + 1) (by simp)).alloc _, (((Below.refl _ _).alloc (Nat.le_refl _) _).alloc (by simp) _).alloc (by simp; omega) _⟩

set_option maxRecDepth 100000 in
set_option maxHeartbeats 6400000 in
theorem eform_1 (o m : Int) (s : List UInt8) (A : Option Addr) (n c : Nat) (w : World) : Calls Try.prog 65 #[.agg #[.int .i64 1, .int .i64 o, .int .i64 m, .string (bs s), .slice A n c]] w fun f w' => f = .returned (FV.val ⟨1, 0, m, [], 0, 0, 0⟩) ∧ Below w.heap.size w w' := by
  go_enter Try.func65, Try.ntmps65
  go_wp2_with (refine (tnearest_any _ _ _ _).mono ?_; rintro f w2 ⟨rfl, rfl⟩)
  (try simp only [Exit.inBlock, Exit.then]); refine bodyPost_ret (results_cell_row rfl _ _ _ _ _ _ _ rfl (form_back _ rfl).1 Try.underlying52 rfl (by kernel_rfl)) rfl ?_
  exact ⟨rfl, (form_back _ rfl).2⟩

set_option maxRecDepth 100000 in
set_option maxHeartbeats 6400000 in
theorem eform_2 (o m : Int) (s : List UInt8) (A : Option Addr) (n c : Nat) (w : World) : Calls Try.prog 65 #[.agg #[.int .i64 2, .int .i64 o, .int .i64 m, .string (bs s), .slice A n c]] w fun f w' => f = .returned (FV.val ⟨2, 0, 0, s, 0, 0, 0⟩) ∧ Below w.heap.size w w' := by
  go_enter Try.func65, Try.ntmps65
  go_wp2_with (refine (tnearest_any _ _ _ _).mono ?_; rintro f w2 ⟨rfl, rfl⟩)
  (try simp only [Exit.inBlock, Exit.then]); refine bodyPost_ret (results_cell_row rfl _ _ _ _ _ _ _ rfl (form_back _ rfl).1 Try.underlying52 rfl (by kernel_rfl)) rfl ?_
  exact ⟨rfl, (form_back _ rfl).2⟩

set_option maxRecDepth 100000 in
set_option maxHeartbeats 6400000 in
theorem eform_3 (o m : Int) (s : List UInt8) (A : Option Addr) (n c : Nat) (w : World) : Calls Try.prog 65 #[.agg #[.int .i64 3, .int .i64 o, .int .i64 m, .string (bs s), .slice A n c]] w fun f w' => f = .returned (FV.val ⟨3, 0, 0, s, 0, 0, 0⟩) ∧ Below w.heap.size w w' := by
  go_enter Try.func65, Try.ntmps65
  go_wp2_with (refine (tnearest_any _ _ _ _).mono ?_; rintro f w2 ⟨rfl, rfl⟩)
  (try simp only [Exit.inBlock, Exit.then]); refine bodyPost_ret (results_cell_row rfl _ _ _ _ _ _ _ rfl (form_back _ rfl).1 Try.underlying52 rfl (by kernel_rfl)) rfl ?_
  exact ⟨rfl, (form_back _ rfl).2⟩

set_option maxRecDepth 100000 in
set_option maxHeartbeats 6400000 in
theorem eform_4 (o m : Int) (s : List UInt8) (A : Option Addr) (n c : Nat) (w : World) : Calls Try.prog 65 #[.agg #[.int .i64 4, .int .i64 o, .int .i64 m, .string (bs s), .slice A n c]] w fun f w' => f = .returned (FV.val ⟨4, 0, 0, [], 1, 0, 0⟩) ∧ Below w.heap.size w w' := by
  go_enter Try.func65, Try.ntmps65
  go_wp2_with (refine (tnearest_any _ _ _ _).mono ?_; rintro f w2 ⟨rfl, rfl⟩)
  (try simp only [Exit.inBlock, Exit.then]); refine bodyPost_ret (results_cell_row rfl _ _ _ _ _ _ _ rfl (form_back _ rfl).1 Try.underlying52 rfl (by kernel_rfl)) rfl ?_
  exact ⟨rfl, (form_back _ rfl).2⟩

set_option maxRecDepth 100000 in
set_option maxHeartbeats 6400000 in
theorem eform_5 (o m : Int) (s : List UInt8) (A : Option Addr) (n c : Nat) (w : World) : Calls Try.prog 65 #[.agg #[.int .i64 5, .int .i64 o, .int .i64 m, .string (bs s), .slice A n c]] w fun f w' => f = .returned (FV.val ⟨5, 0, 0, [], 1, 0, 0⟩) ∧ Below w.heap.size w w' := by
  go_enter Try.func65, Try.ntmps65
  go_wp2_with (refine (tnearest_any _ _ _ _).mono ?_; rintro f w2 ⟨rfl, rfl⟩)
  (try simp only [Exit.inBlock, Exit.then]); refine bodyPost_ret (results_cell_row rfl _ _ _ _ _ _ _ rfl (form_back _ rfl).1 Try.underlying52 rfl (by kernel_rfl)) rfl ?_
  exact ⟨rfl, (form_back _ rfl).2⟩

set_option maxRecDepth 100000 in
set_option maxHeartbeats 6400000 in
theorem eform_6 (o m : Int) (s : List UInt8) (A : Option Addr) (n c : Nat) (w : World) : Calls Try.prog 65 #[.agg #[.int .i64 6, .int .i64 o, .int .i64 m, .string (bs s), .slice A n c]] w fun f w' => f = .returned (FV.val ⟨6, nearL o 1 14, 0, [], 2, 0, 0⟩) ∧ Below w.heap.size w w' := by
  go_enter Try.func65, Try.ntmps65
  go_wp2_with (refine (tnearest_any _ _ _ _).mono ?_; rintro f w2 ⟨rfl, rfl⟩)
  (try simp only [Exit.inBlock, Exit.then]); refine bodyPost_ret (results_cell_row rfl _ _ _ _ _ _ _ rfl (form_back _ rfl).1 Try.underlying52 rfl (by kernel_rfl)) rfl ?_
  exact ⟨rfl, (form_back _ rfl).2⟩

set_option maxRecDepth 100000 in
set_option maxHeartbeats 6400000 in
theorem eform_7 (o m : Int) (s : List UInt8) (A : Option Addr) (n c : Nat) (w : World) : Calls Try.prog 65 #[.agg #[.int .i64 7, .int .i64 o, .int .i64 m, .string (bs s), .slice A n c]] w fun f w' => f = .returned (FV.val ⟨7, 0, 0, s, 1, 0, 0⟩) ∧ Below w.heap.size w w' := by
  go_enter Try.func65, Try.ntmps65
  go_wp2_with (refine (tnearest_any _ _ _ _).mono ?_; rintro f w2 ⟨rfl, rfl⟩)
  (try simp only [Exit.inBlock, Exit.then]); refine bodyPost_ret (results_cell_row rfl _ _ _ _ _ _ _ rfl (form_back _ rfl).1 Try.underlying52 rfl (by kernel_rfl)) rfl ?_
  exact ⟨rfl, (form_back _ rfl).2⟩

set_option maxRecDepth 100000 in
set_option maxHeartbeats 6400000 in
theorem eform_8 (o m : Int) (s : List UInt8) (A : Option Addr) (n c : Nat) (w : World) : Calls Try.prog 65 #[.agg #[.int .i64 8, .int .i64 o, .int .i64 m, .string (bs s), .slice A n c]] w fun f w' => f = .returned (FV.val ⟨8, 0, 0, s, 1, 0, 0⟩) ∧ Below w.heap.size w w' := by
  go_enter Try.func65, Try.ntmps65
  go_wp2_with (refine (tnearest_any _ _ _ _).mono ?_; rintro f w2 ⟨rfl, rfl⟩)
  (try simp only [Exit.inBlock, Exit.then]); refine bodyPost_ret (results_cell_row rfl _ _ _ _ _ _ _ rfl (form_back _ rfl).1 Try.underlying52 rfl (by kernel_rfl)) rfl ?_
  exact ⟨rfl, (form_back _ rfl).2⟩

set_option maxRecDepth 100000 in
set_option maxHeartbeats 6400000 in
theorem eform_9 (o m : Int) (s : List UInt8) (A : Option Addr) (n c : Nat) (w : World) : Calls Try.prog 65 #[.agg #[.int .i64 9, .int .i64 o, .int .i64 m, .string (bs s), .slice A n c]] w fun f w' => f = .returned (FV.val ⟨9, 0, 0, s, nearL n 0 8, 0, 0⟩) ∧ Below w.heap.size w w' := by
  go_enter Try.func65, Try.ntmps65
  go_wp2_with (refine (tnearest_any _ _ _ _).mono ?_; rintro f w2 ⟨rfl, rfl⟩)
  go_region_with (refine (tnearest_any _ _ _ _).mono ?_; rintro f w2 ⟨rfl, rfl⟩)
  all_goals
    go_wp2_with fail
    (try simp only [Exit.inBlock, Exit.then]); refine bodyPost_ret (results_cell_row rfl _ _ _ _ _ _ _ rfl (form_back _ rfl).1 Try.underlying52 rfl (by kernel_rfl)) rfl ?_
    exact ⟨rfl, (form_back _ rfl).2.drew⟩

set_option maxRecDepth 100000 in
set_option maxHeartbeats 6400000 in
theorem eform_10 (o m : Int) (s : List UInt8) (A : Option Addr) (n c : Nat) (w : World) : Calls Try.prog 65 #[.agg #[.int .i64 10, .int .i64 o, .int .i64 m, .string (bs s), .slice A n c]] w fun f w' => f = .returned (FV.val ⟨10, nearL o 1 3, 0, [], 1, 0, 0⟩) ∧ Below w.heap.size w w' := by
  go_enter Try.func65, Try.ntmps65
  go_wp2_with (refine (tnearest_any _ _ _ _).mono ?_; rintro f w2 ⟨rfl, rfl⟩)
  (try simp only [Exit.inBlock, Exit.then]); refine bodyPost_ret (results_cell_row rfl _ _ _ _ _ _ _ rfl (form_back _ rfl).1 Try.underlying52 rfl (by kernel_rfl)) rfl ?_
  exact ⟨rfl, (form_back _ rfl).2⟩

set_option maxRecDepth 100000 in
set_option maxHeartbeats 6400000 in
theorem eform_11 (o m : Int) (s : List UInt8) (A : Option Addr) (n c : Nat) (w : World) : Calls Try.prog 65 #[.agg #[.int .i64 11, .int .i64 o, .int .i64 m, .string (bs s), .slice A n c]] w fun f w' => f = .returned (FV.val ⟨11, 0, 0, [], 1, 0, 0⟩) ∧ Below w.heap.size w w' := by
  go_enter Try.func65, Try.ntmps65
  go_wp2_with (refine (tnearest_any _ _ _ _).mono ?_; rintro f w2 ⟨rfl, rfl⟩)
  (try simp only [Exit.inBlock, Exit.then]); refine bodyPost_ret (results_cell_row rfl _ _ _ _ _ _ _ rfl (form_back _ rfl).1 Try.underlying52 rfl (by kernel_rfl)) rfl ?_
  exact ⟨rfl, (form_back _ rfl).2⟩

set_option maxRecDepth 100000 in
set_option maxHeartbeats 6400000 in
theorem eform_12 (o m : Int) (s : List UInt8) (A : Option Addr) (n c : Nat) (w : World) : Calls Try.prog 65 #[.agg #[.int .i64 12, .int .i64 o, .int .i64 m, .string (bs s), .slice A n c]] w fun f w' => f = .returned (FV.val ⟨12, nearL o 1 6, 0, [], 0, 0, 0⟩) ∧ Below w.heap.size w w' := by
  go_enter Try.func65, Try.ntmps65
  go_wp2_with (refine (tnearest_any _ _ _ _).mono ?_; rintro f w2 ⟨rfl, rfl⟩)
  (try simp only [Exit.inBlock, Exit.then]); refine bodyPost_ret (results_cell_row rfl _ _ _ _ _ _ _ rfl (form_back _ rfl).1 Try.underlying52 rfl (by kernel_rfl)) rfl ?_
  exact ⟨rfl, (form_back _ rfl).2⟩

set_option maxRecDepth 100000 in
set_option maxHeartbeats 6400000 in
theorem eform_13 (o m : Int) (s : List UInt8) (A : Option Addr) (n c : Nat) (w : World) : Calls Try.prog 65 #[.agg #[.int .i64 13, .int .i64 o, .int .i64 m, .string (bs s), .slice A n c]] w fun f w' => f = .returned (FV.val ⟨13, 0, 0, [], 1, 0, 0⟩) ∧ Below w.heap.size w w' := by
  go_enter Try.func65, Try.ntmps65
  go_wp2_with (refine (tnearest_any _ _ _ _).mono ?_; rintro f w2 ⟨rfl, rfl⟩)
  (try simp only [Exit.inBlock, Exit.then]); refine bodyPost_ret (results_cell_row rfl _ _ _ _ _ _ _ rfl (form_back _ rfl).1 Try.underlying52 rfl (by kernel_rfl)) rfl ?_
  exact ⟨rfl, (form_back _ rfl).2⟩

set_option maxRecDepth 100000 in
set_option maxHeartbeats 6400000 in
theorem eform_14 (o m : Int) (s : List UInt8) (A : Option Addr) (n c : Nat) (w : World) : Calls Try.prog 65 #[.agg #[.int .i64 14, .int .i64 o, .int .i64 m, .string (bs s), .slice A n c]] w fun f w' => f = .returned (FV.val ⟨14, 0, m, [], 0, 0, 0⟩) ∧ Below w.heap.size w w' := by
  go_enter Try.func65, Try.ntmps65
  go_wp2_with (refine (tnearest_any _ _ _ _).mono ?_; rintro f w2 ⟨rfl, rfl⟩)
  (try simp only [Exit.inBlock, Exit.then]); refine bodyPost_ret (results_cell_row rfl _ _ _ _ _ _ _ rfl (form_back _ rfl).1 Try.underlying52 rfl (by kernel_rfl)) rfl ?_
  exact ⟨rfl, (form_back _ rfl).2⟩

set_option maxRecDepth 100000 in
set_option maxHeartbeats 6400000 in
theorem eform_15 (o m : Int) (s : List UInt8) (A : Option Addr) (n c : Nat) (w : World) : Calls Try.prog 65 #[.agg #[.int .i64 15, .int .i64 o, .int .i64 m, .string (bs s), .slice A n c]] w fun f w' => f = .returned (FV.val ⟨15, 0, m, [], 0, 0, 0⟩) ∧ Below w.heap.size w w' := by
  go_enter Try.func65, Try.ntmps65
  go_wp2_with (refine (tnearest_any _ _ _ _).mono ?_; rintro f w2 ⟨rfl, rfl⟩)
  (try simp only [Exit.inBlock, Exit.then]); refine bodyPost_ret (results_cell_row rfl _ _ _ _ _ _ _ rfl (form_back _ rfl).1 Try.underlying52 rfl (by kernel_rfl)) rfl ?_
  exact ⟨rfl, (form_back _ rfl).2⟩

set_option maxRecDepth 100000 in
set_option maxHeartbeats 6400000 in
theorem eform_16 (o m : Int) (s : List UInt8) (A : Option Addr) (n c : Nat) (w : World) : Calls Try.prog 65 #[.agg #[.int .i64 16, .int .i64 o, .int .i64 m, .string (bs s), .slice A n c]] w fun f w' => f = .returned (FV.val ⟨16, 0, m, [], 1, 0, 0⟩) ∧ Below w.heap.size w w' := by
  go_enter Try.func65, Try.ntmps65
  go_wp2_with (refine (tnearest_any _ _ _ _).mono ?_; rintro f w2 ⟨rfl, rfl⟩)
  (try simp only [Exit.inBlock, Exit.then]); refine bodyPost_ret (results_cell_row rfl _ _ _ _ _ _ _ rfl (form_back _ rfl).1 Try.underlying52 rfl (by kernel_rfl)) rfl ?_
  exact ⟨rfl, (form_back _ rfl).2⟩

set_option maxRecDepth 100000 in
set_option maxHeartbeats 6400000 in
theorem eform_17 (o m : Int) (s : List UInt8) (A : Option Addr) (n c : Nat) (w : World) : Calls Try.prog 65 #[.agg #[.int .i64 17, .int .i64 o, .int .i64 m, .string (bs s), .slice A n c]] w fun f w' => f = .returned (FV.val ⟨17, 0, m, [], 1, 0, 0⟩) ∧ Below w.heap.size w w' := by
  go_enter Try.func65, Try.ntmps65
  go_wp2_with (refine (tnearest_any _ _ _ _).mono ?_; rintro f w2 ⟨rfl, rfl⟩)
  (try simp only [Exit.inBlock, Exit.then]); refine bodyPost_ret (results_cell_row rfl _ _ _ _ _ _ _ rfl (form_back _ rfl).1 Try.underlying52 rfl (by kernel_rfl)) rfl ?_
  exact ⟨rfl, (form_back _ rfl).2⟩

set_option maxRecDepth 100000 in
set_option maxHeartbeats 6400000 in
theorem eform_18 (o m : Int) (s : List UInt8) (A : Option Addr) (n c : Nat) (w : World) : Calls Try.prog 65 #[.agg #[.int .i64 18, .int .i64 o, .int .i64 m, .string (bs s), .slice A n c]] w fun f w' => f = .returned (FV.val ⟨18, 0, m, [], n, 0, 0⟩) ∧ Below w.heap.size w w' := by
  go_enter Try.func65, Try.ntmps65
  go_wp2_with fail
  go_region
  all_goals
    go_wp2_with fail
    (try simp only [Exit.inBlock, Exit.then]); refine bodyPost_ret (results_cell_row rfl _ _ _ _ _ _ _ rfl (form_back _ rfl).1 Try.underlying52 rfl (by kernel_rfl)) rfl ?_
    exact ⟨rfl, (form_back _ rfl).2.drew⟩

set_option maxRecDepth 100000 in
set_option maxHeartbeats 6400000 in
theorem eform_19 (o m : Int) (s : List UInt8) (A : Option Addr) (n c : Nat) (w : World) : Calls Try.prog 65 #[.agg #[.int .i64 19, .int .i64 o, .int .i64 m, .string (bs s), .slice A n c]] w fun f w' => f = .returned (FV.val ⟨19, 0, m, [], 0, 0, 0⟩) ∧ Below w.heap.size w w' := by
  go_enter Try.func65, Try.ntmps65
  go_wp2_with (refine (tnearest_any _ _ _ _).mono ?_; rintro f w2 ⟨rfl, rfl⟩)
  (try simp only [Exit.inBlock, Exit.then]); refine bodyPost_ret (results_cell_row rfl _ _ _ _ _ _ _ rfl (form_back _ rfl).1 Try.underlying52 rfl (by kernel_rfl)) rfl ?_
  exact ⟨rfl, (form_back _ rfl).2⟩

set_option maxRecDepth 100000 in
set_option maxHeartbeats 6400000 in
theorem eform_0 (k : Int) (h1 : k ≠ 1) (h2 : k ≠ 2) (h3 : k ≠ 3) (h4 : k ≠ 4) (h5 : k ≠ 5) (h6 : k ≠ 6) (h7 : k ≠ 7) (h8 : k ≠ 8) (h9 : k ≠ 9) (h10 : k ≠ 10) (h11 : k ≠ 11) (h12 : k ≠ 12) (h13 : k ≠ 13) (h14 : k ≠ 14) (h15 : k ≠ 15) (h16 : k ≠ 16) (h17 : k ≠ 17) (h18 : k ≠ 18) (h19 : k ≠ 19) (o m : Int) (s : List UInt8) (A : Option Addr) (n c : Nat) (w : World) : Calls Try.prog 65 #[.agg #[.int .i64 k, .int .i64 o, .int .i64 m, .string (bs s), .slice A n c]] w fun f w' => f = .returned (FV.val ⟨k, 0, 0, [], 0, 0, 0⟩) ∧ Below w.heap.size w w' := by
  have t1 : (k == 1) = false := by rw [beq_eq_false_iff_ne]; exact h1
  have t2 : (k == 2) = false := by rw [beq_eq_false_iff_ne]; exact h2
  have t3 : (k == 3) = false := by rw [beq_eq_false_iff_ne]; exact h3
  have t4 : (k == 4) = false := by rw [beq_eq_false_iff_ne]; exact h4
  have t5 : (k == 5) = false := by rw [beq_eq_false_iff_ne]; exact h5
  have t6 : (k == 6) = false := by rw [beq_eq_false_iff_ne]; exact h6
  have t7 : (k == 7) = false := by rw [beq_eq_false_iff_ne]; exact h7
  have t8 : (k == 8) = false := by rw [beq_eq_false_iff_ne]; exact h8
  have t9 : (k == 9) = false := by rw [beq_eq_false_iff_ne]; exact h9
  have t10 : (k == 10) = false := by rw [beq_eq_false_iff_ne]; exact h10
  have t11 : (k == 11) = false := by rw [beq_eq_false_iff_ne]; exact h11
  have t12 : (k == 12) = false := by rw [beq_eq_false_iff_ne]; exact h12
  have t13 : (k == 13) = false := by rw [beq_eq_false_iff_ne]; exact h13
  have t14 : (k == 14) = false := by rw [beq_eq_false_iff_ne]; exact h14
  have t15 : (k == 15) = false := by rw [beq_eq_false_iff_ne]; exact h15
  have t16 : (k == 16) = false := by rw [beq_eq_false_iff_ne]; exact h16
  have t17 : (k == 17) = false := by rw [beq_eq_false_iff_ne]; exact h17
  have t18 : (k == 18) = false := by rw [beq_eq_false_iff_ne]; exact h18
  have t19 : (k == 19) = false := by rw [beq_eq_false_iff_ne]; exact h19
  clear h1 h2 h3 h4 h5 h6 h7 h8 h9 h10 h11 h12 h13 h14 h15 h16 h17 h18 h19
  go_enter Try.func65, Try.ntmps65
  go_wp2_with (refine (tnearest_any _ _ _ _).mono ?_; rintro f w2 ⟨rfl, rfl⟩)
  (try simp only [Exit.inBlock, Exit.then]); refine bodyPost_ret (results_cell_row rfl _ _ _ _ _ _ _ rfl (form_back _ rfl).1 Try.underlying52 rfl (by kernel_rfl)) rfl ?_
  exact ⟨rfl, (form_back _ rfl).2⟩

theorem texprForm_any (e : EL) (w : World) : Calls Try.prog 65 #[eVal e] w fun f w' => f = .returned e.form.val ∧ Below w.heap.size w w' := by
  obtain ⟨k, o, m, s, A, n, c, es⟩ := e
  by_cases h1 : k = 1
  · subst h1
    exact eform_1 o m s A n c w
  by_cases h2 : k = 2
  · subst h2
    exact eform_2 o m s A n c w
  by_cases h3 : k = 3
  · subst h3
    exact eform_3 o m s A n c w
  by_cases h4 : k = 4
  · subst h4
    exact eform_4 o m s A n c w
  by_cases h5 : k = 5
  · subst h5
    exact eform_5 o m s A n c w
  by_cases h6 : k = 6
  · subst h6
    exact eform_6 o m s A n c w
  by_cases h7 : k = 7
  · subst h7
    exact eform_7 o m s A n c w
  by_cases h8 : k = 8
  · subst h8
    exact eform_8 o m s A n c w
  by_cases h9 : k = 9
  · subst h9
    exact eform_9 o m s A n c w
  by_cases h10 : k = 10
  · subst h10
    exact eform_10 o m s A n c w
  by_cases h11 : k = 11
  · subst h11
    exact eform_11 o m s A n c w
  by_cases h12 : k = 12
  · subst h12
    exact eform_12 o m s A n c w
  by_cases h13 : k = 13
  · subst h13
    exact eform_13 o m s A n c w
  by_cases h14 : k = 14
  · subst h14
    exact eform_14 o m s A n c w
  by_cases h15 : k = 15
  · subst h15
    exact eform_15 o m s A n c w
  by_cases h16 : k = 16
  · subst h16
    exact eform_16 o m s A n c w
  by_cases h17 : k = 17
  · subst h17
    exact eform_17 o m s A n c w
  by_cases h18 : k = 18
  · subst h18
    exact eform_18 o m s A n c w
  by_cases h19 : k = 19
  · subst h19
    exact eform_19 o m s A n c w
  have e : (EL.mk k o m s A n c es).form = ⟨k, 0, 0, [], 0, 0, 0⟩ := by
    unfold EL.form
    simp only [EL.kind, h1, h2, h3, h4, h5, h6, h7, h8, h9, h10, h11, h12, h13, h14, h15, h16, h17, h18, h19, or_self, if_false]
  rw [e]
  exact eform_0 k h1 h2 h3 h4 h5 h6 h7 h8 h9 h10 h11 h12 h13 h14 h15 h16 h17 h18 h19 o m s A n c w

theorem form_back4 {w V : World} {cs zs : Array Value} {t : TypeId} (o o' : Obj) (h : V = (((w.alloc o).alloc o').alloc (.cells cs 52)).alloc (.cells zs t)) : V.heap[w.heap.size + 1 + 1]? = some (.cells cs 52 (0, 0)) ∧ Below w.heap.size w V := by
  subst h
  exact ⟨(Blk.new_at _ _ _ (w.heap.size + 1 + 1) (by simp)).alloc _, ((((Below.refl _ _).alloc (Nat.le_refl _) _).alloc (by simp) _).alloc (by simp; omega) _).alloc (by simp; omega) _⟩

set_option maxRecDepth 100000 in
set_option maxHeartbeats 6400000 in
theorem sform_1 (m : Int) (s : List UInt8) (A : Option Addr) (n c : Nat) (A1 : Option Addr) (n1 c1 : Nat) (A2 : Option Addr) (n2 c2 : Nat) (lm : Int) (ls : List UInt8) (w : World) : Calls Try.prog 88 #[.agg #[.int .i64 1, .int .i64 m, .string (bs s), .slice A n c, .slice A1 n1 c1, .slice A2 n2 c2], .agg #[.int .i64 lm, .string (bs ls)]] w fun f w' => f = .returned (FV.val ⟨1, 0, 0, [], nearL n 1 8, 0, 0⟩) ∧ Below w.heap.size w w' := by
  go_enter Try.func88, Try.ntmps88
  go_wp2_with (refine (tnearest_any _ _ _ _).mono ?_; rintro f w2 ⟨rfl, rfl⟩)
  (try simp only [Exit.inBlock, Exit.then]); refine bodyPost_ret (results_cell_row rfl _ _ _ _ _ _ _ rfl (form_back4 _ _ rfl).1 Try.underlying52 rfl (by kernel_rfl)) rfl ?_
  exact ⟨rfl, (form_back4 _ _ rfl).2⟩

set_option maxRecDepth 100000 in
set_option maxHeartbeats 6400000 in
theorem sform_2 (m : Int) (s : List UInt8) (A : Option Addr) (n c : Nat) (A1 : Option Addr) (n1 c1 : Nat) (A2 : Option Addr) (n2 c2 : Nat) (lm : Int) (ls : List UInt8) (w : World) : Calls Try.prog 88 #[.agg #[.int .i64 2, .int .i64 m, .string (bs s), .slice A n c, .slice A1 n1 c1, .slice A2 n2 c2], .agg #[.int .i64 lm, .string (bs ls)]] w fun f w' => f = .returned (FV.val ⟨2, 0, lm, ls, 1, 0, 0⟩) ∧ Below w.heap.size w w' := by
  go_enter Try.func88, Try.ntmps88
  go_wp2_with (refine (tnearest_any _ _ _ _).mono ?_; rintro f w2 ⟨rfl, rfl⟩)
  (try simp only [Exit.inBlock, Exit.then]); refine bodyPost_ret (results_cell_row rfl _ _ _ _ _ _ _ rfl (form_back4 _ _ rfl).1 Try.underlying52 rfl (by kernel_rfl)) rfl ?_
  exact ⟨rfl, (form_back4 _ _ rfl).2⟩

set_option maxRecDepth 100000 in
set_option maxHeartbeats 6400000 in
theorem sform_3 (m : Int) (s : List UInt8) (A : Option Addr) (n c : Nat) (A1 : Option Addr) (n1 c1 : Nat) (A2 : Option Addr) (n2 c2 : Nat) (lm : Int) (ls : List UInt8) (w : World) : Calls Try.prog 88 #[.agg #[.int .i64 3, .int .i64 m, .string (bs s), .slice A n c, .slice A1 n1 c1, .slice A2 n2 c2], .agg #[.int .i64 lm, .string (bs ls)]] w fun f w' => f = .returned (FV.val ⟨3, 0, lm, ls, 1, 0, 0⟩) ∧ Below w.heap.size w w' := by
  go_enter Try.func88, Try.ntmps88
  go_wp2_with (refine (tnearest_any _ _ _ _).mono ?_; rintro f w2 ⟨rfl, rfl⟩)
  (try simp only [Exit.inBlock, Exit.then]); refine bodyPost_ret (results_cell_row rfl _ _ _ _ _ _ _ rfl (form_back4 _ _ rfl).1 Try.underlying52 rfl (by kernel_rfl)) rfl ?_
  exact ⟨rfl, (form_back4 _ _ rfl).2⟩

set_option maxRecDepth 100000 in
set_option maxHeartbeats 6400000 in
theorem sform_4 (m : Int) (s : List UInt8) (A : Option Addr) (n c : Nat) (A1 : Option Addr) (n1 c1 : Nat) (A2 : Option Addr) (n2 c2 : Nat) (lm : Int) (ls : List UInt8) (w : World) : Calls Try.prog 88 #[.agg #[.int .i64 4, .int .i64 m, .string (bs s), .slice A n c, .slice A1 n1 c1, .slice A2 n2 c2], .agg #[.int .i64 lm, .string (bs ls)]] w fun f w' => f = .returned (FV.val ⟨4, 0, lm, ls, 2, 0, 0⟩) ∧ Below w.heap.size w w' := by
  go_enter Try.func88, Try.ntmps88
  go_wp2_with (refine (tnearest_any _ _ _ _).mono ?_; rintro f w2 ⟨rfl, rfl⟩)
  (try simp only [Exit.inBlock, Exit.then]); refine bodyPost_ret (results_cell_row rfl _ _ _ _ _ _ _ rfl (form_back4 _ _ rfl).1 Try.underlying52 rfl (by kernel_rfl)) rfl ?_
  exact ⟨rfl, (form_back4 _ _ rfl).2⟩

set_option maxRecDepth 100000 in
set_option maxHeartbeats 6400000 in
theorem sform_5 (m : Int) (s : List UInt8) (A : Option Addr) (n c : Nat) (A1 : Option Addr) (n1 c1 : Nat) (A2 : Option Addr) (n2 c2 : Nat) (lm : Int) (ls : List UInt8) (w : World) : Calls Try.prog 88 #[.agg #[.int .i64 5, .int .i64 m, .string (bs s), .slice A n c, .slice A1 n1 c1, .slice A2 n2 c2], .agg #[.int .i64 lm, .string (bs ls)]] w fun f w' => f = .returned (FV.val ⟨5, 0, lm, ls, 1, 0, 0⟩) ∧ Below w.heap.size w w' := by
  go_enter Try.func88, Try.ntmps88
  go_wp2_with (refine (tnearest_any _ _ _ _).mono ?_; rintro f w2 ⟨rfl, rfl⟩)
  (try simp only [Exit.inBlock, Exit.then]); refine bodyPost_ret (results_cell_row rfl _ _ _ _ _ _ _ rfl (form_back4 _ _ rfl).1 Try.underlying52 rfl (by kernel_rfl)) rfl ?_
  exact ⟨rfl, (form_back4 _ _ rfl).2⟩

set_option maxRecDepth 100000 in
set_option maxHeartbeats 6400000 in
theorem sform_6 (m : Int) (s : List UInt8) (A : Option Addr) (n c : Nat) (A1 : Option Addr) (n1 c1 : Nat) (A2 : Option Addr) (n2 c2 : Nat) (lm : Int) (ls : List UInt8) (w : World) : Calls Try.prog 88 #[.agg #[.int .i64 6, .int .i64 m, .string (bs s), .slice A n c, .slice A1 n1 c1, .slice A2 n2 c2], .agg #[.int .i64 lm, .string (bs ls)]] w fun f w' => f = .returned (FV.val ⟨6, 0, lm, ls, 1, 0, 0⟩) ∧ Below w.heap.size w w' := by
  go_enter Try.func88, Try.ntmps88
  go_wp2_with (refine (tnearest_any _ _ _ _).mono ?_; rintro f w2 ⟨rfl, rfl⟩)
  (try simp only [Exit.inBlock, Exit.then]); refine bodyPost_ret (results_cell_row rfl _ _ _ _ _ _ _ rfl (form_back4 _ _ rfl).1 Try.underlying52 rfl (by kernel_rfl)) rfl ?_
  exact ⟨rfl, (form_back4 _ _ rfl).2⟩

set_option maxRecDepth 100000 in
set_option maxHeartbeats 6400000 in
theorem sform_7 (m : Int) (s : List UInt8) (A : Option Addr) (n c : Nat) (A1 : Option Addr) (n1 c1 : Nat) (A2 : Option Addr) (n2 c2 : Nat) (lm : Int) (ls : List UInt8) (w : World) : Calls Try.prog 88 #[.agg #[.int .i64 7, .int .i64 m, .string (bs s), .slice A n c, .slice A1 n1 c1, .slice A2 n2 c2], .agg #[.int .i64 lm, .string (bs ls)]] w fun f w' => f = .returned (FV.val ⟨7, 0, 0, [], 2, 0, 0⟩) ∧ Below w.heap.size w w' := by
  go_enter Try.func88, Try.ntmps88
  go_wp2_with (refine (tnearest_any _ _ _ _).mono ?_; rintro f w2 ⟨rfl, rfl⟩)
  (try simp only [Exit.inBlock, Exit.then]); refine bodyPost_ret (results_cell_row rfl _ _ _ _ _ _ _ rfl (form_back4 _ _ rfl).1 Try.underlying52 rfl (by kernel_rfl)) rfl ?_
  exact ⟨rfl, (form_back4 _ _ rfl).2⟩

set_option maxRecDepth 100000 in
set_option maxHeartbeats 6400000 in
theorem sform_8 (m : Int) (s : List UInt8) (A : Option Addr) (n c : Nat) (A1 : Option Addr) (n1 c1 : Nat) (A2 : Option Addr) (n2 c2 : Nat) (lm : Int) (ls : List UInt8) (w : World) : Calls Try.prog 88 #[.agg #[.int .i64 8, .int .i64 m, .string (bs s), .slice A n c, .slice A1 n1 c1, .slice A2 n2 c2], .agg #[.int .i64 lm, .string (bs ls)]] w fun f w' => f = .returned (FV.val ⟨8, 0, 0, [], 1, 0, 0⟩) ∧ Below w.heap.size w w' := by
  go_enter Try.func88, Try.ntmps88
  go_wp2_with (refine (tnearest_any _ _ _ _).mono ?_; rintro f w2 ⟨rfl, rfl⟩)
  (try simp only [Exit.inBlock, Exit.then]); refine bodyPost_ret (results_cell_row rfl _ _ _ _ _ _ _ rfl (form_back4 _ _ rfl).1 Try.underlying52 rfl (by kernel_rfl)) rfl ?_
  exact ⟨rfl, (form_back4 _ _ rfl).2⟩

set_option maxRecDepth 100000 in
set_option maxHeartbeats 6400000 in
theorem sform_9 (m : Int) (s : List UInt8) (A : Option Addr) (n c : Nat) (A1 : Option Addr) (n1 c1 : Nat) (A2 : Option Addr) (n2 c2 : Nat) (lm : Int) (ls : List UInt8) (w : World) : Calls Try.prog 88 #[.agg #[.int .i64 9, .int .i64 m, .string (bs s), .slice A n c, .slice A1 n1 c1, .slice A2 n2 c2], .agg #[.int .i64 lm, .string (bs ls)]] w fun f w' => f = .returned (FV.val ⟨9, 0, 0, [], 1, n1, n2⟩) ∧ Below w.heap.size w w' := by
  go_enter Try.func88, Try.ntmps88
  go_wp2_with fail
  go_region
  all_goals
    go_wp2_with fail
    (try simp only [Exit.inBlock, Exit.then]); refine bodyPost_ret (results_cell_row rfl _ _ _ _ _ _ _ rfl (form_back4 _ _ rfl).1 Try.underlying52 rfl (by kernel_rfl)) rfl ?_
    exact ⟨rfl, (form_back4 _ _ rfl).2.drew⟩

set_option maxRecDepth 100000 in
set_option maxHeartbeats 6400000 in
theorem sform_10 (m : Int) (s : List UInt8) (A : Option Addr) (n c : Nat) (A1 : Option Addr) (n1 c1 : Nat) (A2 : Option Addr) (n2 c2 : Nat) (lm : Int) (ls : List UInt8) (w : World) : Calls Try.prog 88 #[.agg #[.int .i64 10, .int .i64 m, .string (bs s), .slice A n c, .slice A1 n1 c1, .slice A2 n2 c2], .agg #[.int .i64 lm, .string (bs ls)]] w fun f w' => f = .returned (FV.val ⟨10, 0, 0, [], 1, n1, 0⟩) ∧ Below w.heap.size w w' := by
  go_enter Try.func88, Try.ntmps88
  go_wp2_with fail
  go_region
  all_goals
    go_wp2_with fail
    (try simp only [Exit.inBlock, Exit.then]); refine bodyPost_ret (results_cell_row rfl _ _ _ _ _ _ _ rfl (form_back4 _ _ rfl).1 Try.underlying52 rfl (by kernel_rfl)) rfl ?_
    exact ⟨rfl, (form_back4 _ _ rfl).2.drew⟩

set_option maxRecDepth 100000 in
set_option maxHeartbeats 6400000 in
theorem sform_11 (m : Int) (s : List UInt8) (A : Option Addr) (n c : Nat) (A1 : Option Addr) (n1 c1 : Nat) (A2 : Option Addr) (n2 c2 : Nat) (lm : Int) (ls : List UInt8) (w : World) : Calls Try.prog 88 #[.agg #[.int .i64 11, .int .i64 m, .string (bs s), .slice A n c, .slice A1 n1 c1, .slice A2 n2 c2], .agg #[.int .i64 lm, .string (bs ls)]] w fun f w' => f = .returned (FV.val ⟨11, 0, lm, ls, 1, n1, 0⟩) ∧ Below w.heap.size w w' := by
  go_enter Try.func88, Try.ntmps88
  go_wp2_with fail
  go_region
  all_goals
    go_wp2_with fail
    (try simp only [Exit.inBlock, Exit.then]); refine bodyPost_ret (results_cell_row rfl _ _ _ _ _ _ _ rfl (form_back4 _ _ rfl).1 Try.underlying52 rfl (by kernel_rfl)) rfl ?_
    exact ⟨rfl, (form_back4 _ _ rfl).2.drew⟩

set_option maxRecDepth 100000 in
set_option maxHeartbeats 6400000 in
theorem sform_12 (m : Int) (s : List UInt8) (A : Option Addr) (n c : Nat) (A1 : Option Addr) (n1 c1 : Nat) (A2 : Option Addr) (n2 c2 : Nat) (lm : Int) (ls : List UInt8) (w : World) : Calls Try.prog 88 #[.agg #[.int .i64 12, .int .i64 m, .string (bs s), .slice A n c, .slice A1 n1 c1, .slice A2 n2 c2], .agg #[.int .i64 lm, .string (bs ls)]] w fun f w' => f = .returned (FV.val ⟨12, 0, 0, [], 1, 0, 0⟩) ∧ Below w.heap.size w w' := by
  go_enter Try.func88, Try.ntmps88
  go_wp2_with (refine (tnearest_any _ _ _ _).mono ?_; rintro f w2 ⟨rfl, rfl⟩)
  (try simp only [Exit.inBlock, Exit.then]); refine bodyPost_ret (results_cell_row rfl _ _ _ _ _ _ _ rfl (form_back4 _ _ rfl).1 Try.underlying52 rfl (by kernel_rfl)) rfl ?_
  exact ⟨rfl, (form_back4 _ _ rfl).2⟩

set_option maxRecDepth 100000 in
set_option maxHeartbeats 6400000 in
theorem sform_13 (m : Int) (s : List UInt8) (A : Option Addr) (n c : Nat) (A1 : Option Addr) (n1 c1 : Nat) (A2 : Option Addr) (n2 c2 : Nat) (lm : Int) (ls : List UInt8) (w : World) : Calls Try.prog 88 #[.agg #[.int .i64 13, .int .i64 m, .string (bs s), .slice A n c, .slice A1 n1 c1, .slice A2 n2 c2], .agg #[.int .i64 lm, .string (bs ls)]] w fun f w' => f = .returned (FV.val ⟨13, 0, 0, [], 0, 0, 0⟩) ∧ Below w.heap.size w w' := by
  go_enter Try.func88, Try.ntmps88
  go_wp2_with (refine (tnearest_any _ _ _ _).mono ?_; rintro f w2 ⟨rfl, rfl⟩)
  (try simp only [Exit.inBlock, Exit.then]); refine bodyPost_ret (results_cell_row rfl _ _ _ _ _ _ _ rfl (form_back4 _ _ rfl).1 Try.underlying52 rfl (by kernel_rfl)) rfl ?_
  exact ⟨rfl, (form_back4 _ _ rfl).2⟩

set_option maxRecDepth 100000 in
set_option maxHeartbeats 6400000 in
theorem sform_14 (m : Int) (s : List UInt8) (A : Option Addr) (n c : Nat) (A1 : Option Addr) (n1 c1 : Nat) (A2 : Option Addr) (n2 c2 : Nat) (lm : Int) (ls : List UInt8) (w : World) : Calls Try.prog 88 #[.agg #[.int .i64 14, .int .i64 m, .string (bs s), .slice A n c, .slice A1 n1 c1, .slice A2 n2 c2], .agg #[.int .i64 lm, .string (bs ls)]] w fun f w' => f = .returned (FV.val ⟨14, 0, 0, [], 0, 0, 0⟩) ∧ Below w.heap.size w w' := by
  go_enter Try.func88, Try.ntmps88
  go_wp2_with (refine (tnearest_any _ _ _ _).mono ?_; rintro f w2 ⟨rfl, rfl⟩)
  (try simp only [Exit.inBlock, Exit.then]); refine bodyPost_ret (results_cell_row rfl _ _ _ _ _ _ _ rfl (form_back4 _ _ rfl).1 Try.underlying52 rfl (by kernel_rfl)) rfl ?_
  exact ⟨rfl, (form_back4 _ _ rfl).2⟩

set_option maxRecDepth 100000 in
set_option maxHeartbeats 6400000 in
theorem sform_15 (m : Int) (s : List UInt8) (A : Option Addr) (n c : Nat) (A1 : Option Addr) (n1 c1 : Nat) (A2 : Option Addr) (n2 c2 : Nat) (lm : Int) (ls : List UInt8) (w : World) : Calls Try.prog 88 #[.agg #[.int .i64 15, .int .i64 m, .string (bs s), .slice A n c, .slice A1 n1 c1, .slice A2 n2 c2], .agg #[.int .i64 lm, .string (bs ls)]] w fun f w' => f = .returned (FV.val ⟨15, 0, 0, [], 0, 0, 0⟩) ∧ Below w.heap.size w w' := by
  go_enter Try.func88, Try.ntmps88
  go_wp2_with (refine (tnearest_any _ _ _ _).mono ?_; rintro f w2 ⟨rfl, rfl⟩)
  (try simp only [Exit.inBlock, Exit.then]); refine bodyPost_ret (results_cell_row rfl _ _ _ _ _ _ _ rfl (form_back4 _ _ rfl).1 Try.underlying52 rfl (by kernel_rfl)) rfl ?_
  exact ⟨rfl, (form_back4 _ _ rfl).2⟩

set_option maxRecDepth 100000 in
set_option maxHeartbeats 6400000 in
theorem sform_16 (m : Int) (s : List UInt8) (A : Option Addr) (n c : Nat) (A1 : Option Addr) (n1 c1 : Nat) (A2 : Option Addr) (n2 c2 : Nat) (lm : Int) (ls : List UInt8) (w : World) : Calls Try.prog 88 #[.agg #[.int .i64 16, .int .i64 m, .string (bs s), .slice A n c, .slice A1 n1 c1, .slice A2 n2 c2], .agg #[.int .i64 lm, .string (bs ls)]] w fun f w' => f = .returned (FV.val ⟨16, 0, 0, [], 1, 0, 0⟩) ∧ Below w.heap.size w w' := by
  go_enter Try.func88, Try.ntmps88
  go_wp2_with (refine (tnearest_any _ _ _ _).mono ?_; rintro f w2 ⟨rfl, rfl⟩)
  (try simp only [Exit.inBlock, Exit.then]); refine bodyPost_ret (results_cell_row rfl _ _ _ _ _ _ _ rfl (form_back4 _ _ rfl).1 Try.underlying52 rfl (by kernel_rfl)) rfl ?_
  exact ⟨rfl, (form_back4 _ _ rfl).2⟩

set_option maxRecDepth 100000 in
set_option maxHeartbeats 6400000 in
theorem sform_17 (m : Int) (s : List UInt8) (A : Option Addr) (n c : Nat) (A1 : Option Addr) (n1 c1 : Nat) (A2 : Option Addr) (n2 c2 : Nat) (lm : Int) (ls : List UInt8) (w : World) : Calls Try.prog 88 #[.agg #[.int .i64 17, .int .i64 m, .string (bs s), .slice A n c, .slice A1 n1 c1, .slice A2 n2 c2], .agg #[.int .i64 lm, .string (bs ls)]] w fun f w' => f = .returned (FV.val ⟨17, 0, lm, ls, 1, 0, 0⟩) ∧ Below w.heap.size w w' := by
  go_enter Try.func88, Try.ntmps88
  go_wp2_with (refine (tnearest_any _ _ _ _).mono ?_; rintro f w2 ⟨rfl, rfl⟩)
  (try simp only [Exit.inBlock, Exit.then]); refine bodyPost_ret (results_cell_row rfl _ _ _ _ _ _ _ rfl (form_back4 _ _ rfl).1 Try.underlying52 rfl (by kernel_rfl)) rfl ?_
  exact ⟨rfl, (form_back4 _ _ rfl).2⟩

set_option maxRecDepth 100000 in
set_option maxHeartbeats 6400000 in
theorem sform_18 (m : Int) (s : List UInt8) (A : Option Addr) (n c : Nat) (A1 : Option Addr) (n1 c1 : Nat) (A2 : Option Addr) (n2 c2 : Nat) (lm : Int) (ls : List UInt8) (w : World) : Calls Try.prog 88 #[.agg #[.int .i64 18, .int .i64 m, .string (bs s), .slice A n c, .slice A1 n1 c1, .slice A2 n2 c2], .agg #[.int .i64 lm, .string (bs ls)]] w fun f w' => f = .returned (FV.val ⟨18, 0, lm, ls, 0, 0, 0⟩) ∧ Below w.heap.size w w' := by
  go_enter Try.func88, Try.ntmps88
  go_wp2_with (refine (tnearest_any _ _ _ _).mono ?_; rintro f w2 ⟨rfl, rfl⟩)
  (try simp only [Exit.inBlock, Exit.then]); refine bodyPost_ret (results_cell_row rfl _ _ _ _ _ _ _ rfl (form_back4 _ _ rfl).1 Try.underlying52 rfl (by kernel_rfl)) rfl ?_
  exact ⟨rfl, (form_back4 _ _ rfl).2⟩

set_option maxRecDepth 100000 in
set_option maxHeartbeats 6400000 in
theorem sform_19 (m : Int) (s : List UInt8) (A : Option Addr) (n c : Nat) (A1 : Option Addr) (n1 c1 : Nat) (A2 : Option Addr) (n2 c2 : Nat) (lm : Int) (ls : List UInt8) (w : World) : Calls Try.prog 88 #[.agg #[.int .i64 19, .int .i64 m, .string (bs s), .slice A n c, .slice A1 n1 c1, .slice A2 n2 c2], .agg #[.int .i64 lm, .string (bs ls)]] w fun f w' => f = .returned (FV.val ⟨19, 0, 0, [], 1, 0, 0⟩) ∧ Below w.heap.size w w' := by
  go_enter Try.func88, Try.ntmps88
  go_wp2_with (refine (tnearest_any _ _ _ _).mono ?_; rintro f w2 ⟨rfl, rfl⟩)
  (try simp only [Exit.inBlock, Exit.then]); refine bodyPost_ret (results_cell_row rfl _ _ _ _ _ _ _ rfl (form_back4 _ _ rfl).1 Try.underlying52 rfl (by kernel_rfl)) rfl ?_
  exact ⟨rfl, (form_back4 _ _ rfl).2⟩

set_option maxRecDepth 100000 in
set_option maxHeartbeats 6400000 in
theorem sform_20 (m : Int) (s : List UInt8) (A : Option Addr) (n c : Nat) (A1 : Option Addr) (n1 c1 : Nat) (A2 : Option Addr) (n2 c2 : Nat) (lm : Int) (ls : List UInt8) (w : World) : Calls Try.prog 88 #[.agg #[.int .i64 20, .int .i64 m, .string (bs s), .slice A n c, .slice A1 n1 c1, .slice A2 n2 c2], .agg #[.int .i64 lm, .string (bs ls)]] w fun f w' => f = .returned (FV.val ⟨20, 0, 0, [], 1, 0, 0⟩) ∧ Below w.heap.size w w' := by
  go_enter Try.func88, Try.ntmps88
  go_wp2_with (refine (tnearest_any _ _ _ _).mono ?_; rintro f w2 ⟨rfl, rfl⟩)
  (try simp only [Exit.inBlock, Exit.then]); refine bodyPost_ret (results_cell_row rfl _ _ _ _ _ _ _ rfl (form_back4 _ _ rfl).1 Try.underlying52 rfl (by kernel_rfl)) rfl ?_
  exact ⟨rfl, (form_back4 _ _ rfl).2⟩

set_option maxRecDepth 100000 in
set_option maxHeartbeats 6400000 in
theorem sform_21 (m : Int) (s : List UInt8) (A : Option Addr) (n c : Nat) (A1 : Option Addr) (n1 c1 : Nat) (A2 : Option Addr) (n2 c2 : Nat) (lm : Int) (ls : List UInt8) (w : World) : Calls Try.prog 88 #[.agg #[.int .i64 21, .int .i64 m, .string (bs s), .slice A n c, .slice A1 n1 c1, .slice A2 n2 c2], .agg #[.int .i64 lm, .string (bs ls)]] w fun f w' => f = .returned (FV.val ⟨21, 0, 0, [], 0, 0, 0⟩) ∧ Below w.heap.size w w' := by
  go_enter Try.func88, Try.ntmps88
  go_wp2_with (refine (tnearest_any _ _ _ _).mono ?_; rintro f w2 ⟨rfl, rfl⟩)
  (try simp only [Exit.inBlock, Exit.then]); refine bodyPost_ret (results_cell_row rfl _ _ _ _ _ _ _ rfl (form_back4 _ _ rfl).1 Try.underlying52 rfl (by kernel_rfl)) rfl ?_
  exact ⟨rfl, (form_back4 _ _ rfl).2⟩

set_option maxRecDepth 100000 in
set_option maxHeartbeats 6400000 in
theorem sform_22 (m : Int) (s : List UInt8) (A : Option Addr) (n c : Nat) (A1 : Option Addr) (n1 c1 : Nat) (A2 : Option Addr) (n2 c2 : Nat) (lm : Int) (ls : List UInt8) (w : World) : Calls Try.prog 88 #[.agg #[.int .i64 22, .int .i64 m, .string (bs s), .slice A n c, .slice A1 n1 c1, .slice A2 n2 c2], .agg #[.int .i64 lm, .string (bs ls)]] w fun f w' => f = .returned (FV.val ⟨22, 0, 0, [], 1, 0, 0⟩) ∧ Below w.heap.size w w' := by
  go_enter Try.func88, Try.ntmps88
  go_wp2_with (refine (tnearest_any _ _ _ _).mono ?_; rintro f w2 ⟨rfl, rfl⟩)
  (try simp only [Exit.inBlock, Exit.then]); refine bodyPost_ret (results_cell_row rfl _ _ _ _ _ _ _ rfl (form_back4 _ _ rfl).1 Try.underlying52 rfl (by kernel_rfl)) rfl ?_
  exact ⟨rfl, (form_back4 _ _ rfl).2⟩

set_option maxRecDepth 100000 in
set_option maxHeartbeats 6400000 in
theorem sform_23 (m : Int) (s : List UInt8) (A : Option Addr) (n c : Nat) (A1 : Option Addr) (n1 c1 : Nat) (A2 : Option Addr) (n2 c2 : Nat) (lm : Int) (ls : List UInt8) (w : World) : Calls Try.prog 88 #[.agg #[.int .i64 23, .int .i64 m, .string (bs s), .slice A n c, .slice A1 n1 c1, .slice A2 n2 c2], .agg #[.int .i64 lm, .string (bs ls)]] w fun f w' => f = .returned (FV.val ⟨23, 0, lm, ls, 1, 0, 0⟩) ∧ Below w.heap.size w w' := by
  go_enter Try.func88, Try.ntmps88
  go_wp2_with (refine (tnearest_any _ _ _ _).mono ?_; rintro f w2 ⟨rfl, rfl⟩)
  (try simp only [Exit.inBlock, Exit.then]); refine bodyPost_ret (results_cell_row rfl _ _ _ _ _ _ _ rfl (form_back4 _ _ rfl).1 Try.underlying52 rfl (by kernel_rfl)) rfl ?_
  exact ⟨rfl, (form_back4 _ _ rfl).2⟩

set_option maxRecDepth 100000 in
set_option maxHeartbeats 6400000 in
theorem sform_0 (k : Int) (h1 : k ≠ 1) (h2 : k ≠ 2) (h3 : k ≠ 3) (h4 : k ≠ 4) (h5 : k ≠ 5) (h6 : k ≠ 6) (h7 : k ≠ 7) (h8 : k ≠ 8) (h9 : k ≠ 9) (h10 : k ≠ 10) (h11 : k ≠ 11) (h12 : k ≠ 12) (h13 : k ≠ 13) (h14 : k ≠ 14) (h15 : k ≠ 15) (h16 : k ≠ 16) (h17 : k ≠ 17) (h18 : k ≠ 18) (h19 : k ≠ 19) (h20 : k ≠ 20) (h21 : k ≠ 21) (h22 : k ≠ 22) (h23 : k ≠ 23) (m : Int) (s : List UInt8) (A : Option Addr) (n c : Nat) (A1 : Option Addr) (n1 c1 : Nat) (A2 : Option Addr) (n2 c2 : Nat) (lm : Int) (ls : List UInt8) (w : World) : Calls Try.prog 88 #[.agg #[.int .i64 k, .int .i64 m, .string (bs s), .slice A n c, .slice A1 n1 c1, .slice A2 n2 c2], .agg #[.int .i64 lm, .string (bs ls)]] w fun f w' => f = .returned (FV.val ⟨k, 0, 0, [], 0, 0, 0⟩) ∧ Below w.heap.size w w' := by
  have t1 : (k == 1) = false := by rw [beq_eq_false_iff_ne]; exact h1
  have t2 : (k == 2) = false := by rw [beq_eq_false_iff_ne]; exact h2
  have t3 : (k == 3) = false := by rw [beq_eq_false_iff_ne]; exact h3
  have t4 : (k == 4) = false := by rw [beq_eq_false_iff_ne]; exact h4
  have t5 : (k == 5) = false := by rw [beq_eq_false_iff_ne]; exact h5
  have t6 : (k == 6) = false := by rw [beq_eq_false_iff_ne]; exact h6
  have t7 : (k == 7) = false := by rw [beq_eq_false_iff_ne]; exact h7
  have t8 : (k == 8) = false := by rw [beq_eq_false_iff_ne]; exact h8
  have t9 : (k == 9) = false := by rw [beq_eq_false_iff_ne]; exact h9
  have t10 : (k == 10) = false := by rw [beq_eq_false_iff_ne]; exact h10
  have t11 : (k == 11) = false := by rw [beq_eq_false_iff_ne]; exact h11
  have t12 : (k == 12) = false := by rw [beq_eq_false_iff_ne]; exact h12
  have t13 : (k == 13) = false := by rw [beq_eq_false_iff_ne]; exact h13
  have t14 : (k == 14) = false := by rw [beq_eq_false_iff_ne]; exact h14
  have t15 : (k == 15) = false := by rw [beq_eq_false_iff_ne]; exact h15
  have t16 : (k == 16) = false := by rw [beq_eq_false_iff_ne]; exact h16
  have t17 : (k == 17) = false := by rw [beq_eq_false_iff_ne]; exact h17
  have t18 : (k == 18) = false := by rw [beq_eq_false_iff_ne]; exact h18
  have t19 : (k == 19) = false := by rw [beq_eq_false_iff_ne]; exact h19
  have t20 : (k == 20) = false := by rw [beq_eq_false_iff_ne]; exact h20
  have t21 : (k == 21) = false := by rw [beq_eq_false_iff_ne]; exact h21
  have t22 : (k == 22) = false := by rw [beq_eq_false_iff_ne]; exact h22
  have t23 : (k == 23) = false := by rw [beq_eq_false_iff_ne]; exact h23
  clear h1 h2 h3 h4 h5 h6 h7 h8 h9 h10 h11 h12 h13 h14 h15 h16 h17 h18 h19 h20 h21 h22 h23
  go_enter Try.func88, Try.ntmps88
  go_wp2_with (refine (tnearest_any _ _ _ _).mono ?_; rintro f w2 ⟨rfl, rfl⟩)
  (try simp only [Exit.inBlock, Exit.then]); refine bodyPost_ret (results_cell_row rfl _ _ _ _ _ _ _ rfl (form_back4 _ _ rfl).1 Try.underlying52 rfl (by kernel_rfl)) rfl ?_
  exact ⟨rfl, (form_back4 _ _ rfl).2⟩

theorem tstmtForm_any (e : SL) (lm : Int) (ls : List UInt8) (w : World) : Calls Try.prog 88 #[sVal e, lbV lm ls] w fun f w' => f = .returned (e.form lm ls).val ∧ Below w.heap.size w w' := by
  obtain ⟨k, m, s, A, n, c, es, A1, n1, c1, bo, A2, n2, c2, el⟩ := e
  by_cases h1 : k = 1
  · subst h1
    exact sform_1 m s A n c A1 n1 c1 A2 n2 c2 lm ls w
  by_cases h2 : k = 2
  · subst h2
    exact sform_2 m s A n c A1 n1 c1 A2 n2 c2 lm ls w
  by_cases h3 : k = 3
  · subst h3
    exact sform_3 m s A n c A1 n1 c1 A2 n2 c2 lm ls w
  by_cases h4 : k = 4
  · subst h4
    exact sform_4 m s A n c A1 n1 c1 A2 n2 c2 lm ls w
  by_cases h5 : k = 5
  · subst h5
    exact sform_5 m s A n c A1 n1 c1 A2 n2 c2 lm ls w
  by_cases h6 : k = 6
  · subst h6
    exact sform_6 m s A n c A1 n1 c1 A2 n2 c2 lm ls w
  by_cases h7 : k = 7
  · subst h7
    exact sform_7 m s A n c A1 n1 c1 A2 n2 c2 lm ls w
  by_cases h8 : k = 8
  · subst h8
    exact sform_8 m s A n c A1 n1 c1 A2 n2 c2 lm ls w
  by_cases h9 : k = 9
  · subst h9
    exact sform_9 m s A n c A1 n1 c1 A2 n2 c2 lm ls w
  by_cases h10 : k = 10
  · subst h10
    exact sform_10 m s A n c A1 n1 c1 A2 n2 c2 lm ls w
  by_cases h11 : k = 11
  · subst h11
    exact sform_11 m s A n c A1 n1 c1 A2 n2 c2 lm ls w
  by_cases h12 : k = 12
  · subst h12
    exact sform_12 m s A n c A1 n1 c1 A2 n2 c2 lm ls w
  by_cases h13 : k = 13
  · subst h13
    exact sform_13 m s A n c A1 n1 c1 A2 n2 c2 lm ls w
  by_cases h14 : k = 14
  · subst h14
    exact sform_14 m s A n c A1 n1 c1 A2 n2 c2 lm ls w
  by_cases h15 : k = 15
  · subst h15
    exact sform_15 m s A n c A1 n1 c1 A2 n2 c2 lm ls w
  by_cases h16 : k = 16
  · subst h16
    exact sform_16 m s A n c A1 n1 c1 A2 n2 c2 lm ls w
  by_cases h17 : k = 17
  · subst h17
    exact sform_17 m s A n c A1 n1 c1 A2 n2 c2 lm ls w
  by_cases h18 : k = 18
  · subst h18
    exact sform_18 m s A n c A1 n1 c1 A2 n2 c2 lm ls w
  by_cases h19 : k = 19
  · subst h19
    exact sform_19 m s A n c A1 n1 c1 A2 n2 c2 lm ls w
  by_cases h20 : k = 20
  · subst h20
    exact sform_20 m s A n c A1 n1 c1 A2 n2 c2 lm ls w
  by_cases h21 : k = 21
  · subst h21
    exact sform_21 m s A n c A1 n1 c1 A2 n2 c2 lm ls w
  by_cases h22 : k = 22
  · subst h22
    exact sform_22 m s A n c A1 n1 c1 A2 n2 c2 lm ls w
  by_cases h23 : k = 23
  · subst h23
    exact sform_23 m s A n c A1 n1 c1 A2 n2 c2 lm ls w
  have e : (SL.mk k m s A n c es A1 n1 c1 bo A2 n2 c2 el).form lm ls = ⟨k, 0, 0, [], 0, 0, 0⟩ := by
    unfold SL.form
    simp only [SL.kind, h1, h2, h3, h4, h5, h6, h7, h8, h9, h10, h11, h12, h16, h17, h18, h19, h20, h22, h23, or_self, if_false]
  rw [e]
  exact sform_0 k h1 h2 h3 h4 h5 h6 h7 h8 h9 h10 h11 h12 h13 h14 h15 h16 h17 h18 h19 h20 h21 h22 h23 m s A n c A1 n1 c1 A2 n2 c2 lm ls w

end

section
open Go.RowKit
set_option linter.unusedVariables false

/-- an index, from 0 on if there is one -/
def IdxOut (b : Bool) (w : World) (f : Ending) (w' : World) : Prop := ∃ i : Int, f = .returned (.int .i64 i) ∧ decide (0 ≤ i) = b ∧ Below w.heap.size w w'

theorem any_no {α : Type} {p : α → Bool} {l : List α} {d : α} (h : ∀ j, j < l.length → p (l[j]?.getD d) = false) : l.any p = false := by
  cases ha : l.any p with
  | false => rfl
  | true =>
    obtain ⟨x, hx, hp⟩ := List.any_eq_true.1 ha
    obtain ⟨j, hj, rfl⟩ := List.mem_iff_getElem.1 hx
    have := h j hj
    rw [List.getElem?_eq_getElem hj] at this
    change p l[j] = false at this
    rw [this] at hp
    cases hp
theorem any_yes {α : Type} {p : α → Bool} {l : List α} {d : α} {j : Nat} (hj : j < l.length) (h : p (l[j]?.getD d) = true) : l.any p = true := by
  rw [List.getElem?_eq_getElem hj] at h
  exact List.any_eq_true.2 ⟨_, List.getElem_mem hj, h⟩

set_option maxRecDepth 100000 in
set_option maxHeartbeats 6400000 in
theorem tIndexE_any (p : EL → Bool) (k : FuncId) (cs : Array Value) (hk : Enters k) (es : List EL) (A : Option Addr) (n c : Nat) (w0 w : World) (hw : Below w0.heap.size w0 w) (hF : Hid (∀ W : World, Below w0.heap.size w0 W → ∀ x ∈ es, x.In W W.heap.size → Calls Try.prog k (#[eVal x] ++ cs) W fun f w' => f = .returned (.bool (p x)) ∧ Below W.heap.size W w')) (hA : RowE w w.heap.size A n es) (hAi : EL.Ins w w.heap.size es) :
    Calls Try.prog 97 #[.slice A n c, .func (.func k) #[] cs] w (IdxOut (es.any p) w) := by
  have hn := hA.1
  have hn9 := hA.2.1
  have HL := Lib.hid hn
  have HR := Lib.hid hA
  have HA := Lib.hid hAi
  have HW := Lib.hid hw
  have hkr := hk.run
  clear hn hA hAi hw hk
  go_enter Try.func97, Try.ntmps97
  go_wp2_with fail
  go_loopw [8] (fun vj wr => ∃ j : Nat, j ≤ n ∧ vj = .int .i64 j ∧ Hid (∀ i, i < j → p (es[i]?.getD nilE) = false) ∧ Hid (Below w.heap.size w wr)) (fun vj _ => n - (intOf vj).toNat)
  case atStart => exact ⟨0, Nat.zero_le _, rfl, Lib.hid (fun i hi => absurd hi (Nat.not_lt_zero _)), Lib.hid (Below.refl _ _)⟩
  case round =>
    obtain ⟨j, hj, rfl, HSO, HBR⟩ := hrel
    by_cases hlt : j < n
    ·
      have hxjl : j < es.length := by rw [HL.out]; exact hlt
      obtain ⟨xad, rfl, xab, xc⟩ := row_at (HR.out.below HBR.out) hlt
      have hx := HA.out.at hxjl
      have hxmem : (es[j]?.getD nilE) ∈ es := by rw [List.getElem?_eq_getElem hxjl]; exact List.getElem_mem _
      obtain ⟨x, hxe⟩ : ∃ x, x = es[j]?.getD nilE := ⟨_, rfl⟩
      obtain ⟨a0, a1, a2, a3, a4⟩ := xc x hxe
      rw [← hxe] at hx hxmem
      have HXx := Lib.hid hx
      have HEx := Lib.hid hxe
      have HMx := Lib.hid hxmem
      obtain ⟨xk, xo, xm, xs, xA, xn, xc', xes⟩ := x
      change wr.cell? (xad.add (j * 5)) = some (.int .i64 xk) at a0
      change wr.cell? ⟨(xad.add (j * 5)).block, (xad.add (j * 5)).off + 1, none⟩ = some (.int .i64 xo) at a1
      change wr.cell? ⟨(xad.add (j * 5)).block, (xad.add (j * 5)).off + 2, none⟩ = some (.int .i64 xm) at a2
      change wr.cell? ⟨(xad.add (j * 5)).block, (xad.add (j * 5)).off + 3, none⟩ = some (.string (bs xs)) at a3
      change wr.cell? ⟨(xad.add (j * 5)).block, (xad.add (j * 5)).off + 4, none⟩ = some (.slice xA xn xc') at a4
      clear xc hxe hx hxmem hxjl

      obtain ⟨q, hq⟩ : ∃ q, q = p (.mk xk xo xm xs xA xn xc' xes) := ⟨_, rfl⟩
      have HQ := Lib.hid hq
      have HC := Lib.hid (hF.out wr (HW.out.trans (HBR.out.mono HW.out.size)) _ HMx.out (EL.In.more HBR.out.size (HXx.out.below HBR.out)))
      clear hq
      go_wp2_with fail
      refine HC.out.mono ?_
      rintro f w2 ⟨rfl, hb2⟩
      rw [← HQ.out]
      have HBF := Lib.hid (HBR.out.trans (hb2.mono HBR.out.size))
      clear hb2
      cases q with
      | false =>
        have HN : Hid (∀ i, i < j + 1 → p (es[i]?.getD nilE) = false) := Lib.hid (fun i hi => by
          by_cases e : i = j
          · subst e
            rw [← HEx.out]
            exact HQ.out.symm
          · exact HSO.out i (by omega))
        go_wp2_with fail
        go_roundw
        case rel => exact ⟨j + 1, by omega, by go_num, HN, HBF⟩
        case measure => simp [intOf]; omega
      | true =>
        have HE : Hid (es.any p = true) := Lib.hid (any_yes (d := nilE) (j := j) (by rw [HL.out]; exact hlt) (by rw [← HEx.out]; exact HQ.out.symm))
        go_wp2_with fail
        go_ret
        exact ⟨(j : Int), rfl, by rw [HE.out]; simp, HBF.out⟩
    · obtain rfl : j = n := by omega
      have HE : Hid (es.any p = false) := Lib.hid (any_no (d := nilE) (fun i hi => HSO.out i (by rw [HL.out] at hi; exact hi)))
      go_wp2_with fail
      go_ret
      exact ⟨-1, rfl, by rw [HE.out]; rfl, HBR.out⟩

set_option maxRecDepth 100000 in
set_option maxHeartbeats 6400000 in
theorem tContainsE_any (p : EL → Bool) (k : FuncId) (cs : Array Value) (hk : Enters k) (es : List EL) (A : Option Addr) (n c : Nat) (w0 w : World) (hw : Below w0.heap.size w0 w) (hF : Hid (∀ W : World, Below w0.heap.size w0 W → ∀ x ∈ es, x.In W W.heap.size → Calls Try.prog k (#[eVal x] ++ cs) W fun f w' => f = .returned (.bool (p x)) ∧ Below W.heap.size W w')) (hA : RowE w w.heap.size A n es) (hAi : EL.Ins w w.heap.size es) :
    Calls Try.prog 86 #[.slice A n c, .func (.func k) #[] cs] w fun f w' => f = .returned (.bool (es.any p)) ∧ Below w.heap.size w w' := by
  have HC := Lib.hid (tIndexE_any p k cs hk es A n c w0 w hw hF hA hAi)
  obtain ⟨q, hq⟩ : ∃ q, q = es.any p := ⟨_, rfl⟩
  have HQ := Lib.hid hq
  rw [← hq]
  clear hk hw hA hAi hF hq
  go_enter Try.func86, Try.ntmps86
  go_wp2_with fail
  refine HC.out.mono ?_
  rintro f w2 ⟨i, rfl, hi, hb2⟩
  rw [← HQ.out] at hi
  have HI := Lib.hid hi
  clear hi
  go_wp2_with fail
  go_ret
  exact ⟨by rw [← HI.out]; rfl, hb2⟩

set_option maxRecDepth 100000 in
set_option maxHeartbeats 6400000 in
theorem tIndexS_any (p : SL → Bool) (k : FuncId) (cs : Array Value) (hk : Enters k) (es : List SL) (A : Option Addr) (n c : Nat) (w0 w : World) (hw : Below w0.heap.size w0 w) (hF : Hid (∀ W : World, Below w0.heap.size w0 W → ∀ x ∈ es, x.In W W.heap.size → Calls Try.prog k (#[sVal x] ++ cs) W fun f w' => f = .returned (.bool (p x)) ∧ Below W.heap.size W w')) (hA : RowS6 w w.heap.size A n es) (hAi : SL.Ins w w.heap.size es) :
    Calls Try.prog 89 #[.slice A n c, .func (.func k) #[] cs] w (IdxOut (es.any p) w) := by
  have hn := hA.1
  have hn9 := hA.2.1
  have HL := Lib.hid hn
  have HR := Lib.hid hA
  have HA := Lib.hid hAi
  have HW := Lib.hid hw
  have hkr := hk.run
  clear hn hA hAi hw hk
  go_enter Try.func89, Try.ntmps89
  go_wp2_with fail
  go_loopw [8] (fun vj wr => ∃ j : Nat, j ≤ n ∧ vj = .int .i64 j ∧ Hid (∀ i, i < j → p (es[i]?.getD nilS) = false) ∧ Hid (Below w.heap.size w wr)) (fun vj _ => n - (intOf vj).toNat)
  case atStart => exact ⟨0, Nat.zero_le _, rfl, Lib.hid (fun i hi => absurd hi (Nat.not_lt_zero _)), Lib.hid (Below.refl _ _)⟩
  case round =>
    obtain ⟨j, hj, rfl, HSO, HBR⟩ := hrel
    by_cases hlt : j < n
    ·
      have hxjl : j < es.length := by rw [HL.out]; exact hlt
      obtain ⟨xad, rfl, xab, xc⟩ := rowS_at (HR.out.below HBR.out) hlt
      have hx := HA.out.at hxjl
      have hxmem : (es[j]?.getD nilS) ∈ es := by rw [List.getElem?_eq_getElem hxjl]; exact List.getElem_mem _
      obtain ⟨x, hxe⟩ : ∃ x, x = es[j]?.getD nilS := ⟨_, rfl⟩
      obtain ⟨a0, a1, a2, a3, a4, a5⟩ := xc x hxe
      rw [← hxe] at hx hxmem
      have HXx := Lib.hid hx
      have HEx := Lib.hid hxe
      have HMx := Lib.hid hxmem
      obtain ⟨xk, xm, xs, xA, xn, xc', xes, xA1, xn1, xc1, xbo, xA2, xn2, xc2, xel⟩ := x
      change wr.cell? (xad.add (j * 6)) = some (.int .i64 xk) at a0
      change wr.cell? ⟨(xad.add (j * 6)).block, (xad.add (j * 6)).off + 1, none⟩ = some (.int .i64 xm) at a1
      change wr.cell? ⟨(xad.add (j * 6)).block, (xad.add (j * 6)).off + 2, none⟩ = some (.string (bs xs)) at a2
      change wr.cell? ⟨(xad.add (j * 6)).block, (xad.add (j * 6)).off + 3, none⟩ = some (.slice xA xn xc') at a3
      change wr.cell? ⟨(xad.add (j * 6)).block, (xad.add (j * 6)).off + 4, none⟩ = some (.slice xA1 xn1 xc1) at a4
      change wr.cell? ⟨(xad.add (j * 6)).block, (xad.add (j * 6)).off + 5, none⟩ = some (.slice xA2 xn2 xc2) at a5
      clear xc hxe hx hxmem hxjl

      obtain ⟨q, hq⟩ : ∃ q, q = p (.mk xk xm xs xA xn xc' xes xA1 xn1 xc1 xbo xA2 xn2 xc2 xel) := ⟨_, rfl⟩
      have HQ := Lib.hid hq
      have HC := Lib.hid (hF.out wr (HW.out.trans (HBR.out.mono HW.out.size)) _ HMx.out (SL.In.more HBR.out.size (HXx.out.below HBR.out)))
      clear hq
      go_wp2_with fail
      refine HC.out.mono ?_
      rintro f w2 ⟨rfl, hb2⟩
      rw [← HQ.out]
      have HBF := Lib.hid (HBR.out.trans (hb2.mono HBR.out.size))
      clear hb2
      cases q with
      | false =>
        have HN : Hid (∀ i, i < j + 1 → p (es[i]?.getD nilS) = false) := Lib.hid (fun i hi => by
          by_cases e : i = j
          · subst e
            rw [← HEx.out]
            exact HQ.out.symm
          · exact HSO.out i (by omega))
        go_wp2_with fail
        go_roundw
        case rel => exact ⟨j + 1, by omega, by go_num, HN, HBF⟩
        case measure => simp [intOf]; omega
      | true =>
        have HE : Hid (es.any p = true) := Lib.hid (any_yes (d := nilS) (j := j) (by rw [HL.out]; exact hlt) (by rw [← HEx.out]; exact HQ.out.symm))
        go_wp2_with fail
        go_ret
        exact ⟨(j : Int), rfl, by rw [HE.out]; simp, HBF.out⟩
    · obtain rfl : j = n := by omega
      have HE : Hid (es.any p = false) := Lib.hid (any_no (d := nilS) (fun i hi => HSO.out i (by rw [HL.out] at hi; exact hi)))
      go_wp2_with fail
      go_ret
      exact ⟨-1, rfl, by rw [HE.out]; rfl, HBR.out⟩

set_option maxRecDepth 100000 in
set_option maxHeartbeats 6400000 in
theorem tContainsS_any (p : SL → Bool) (k : FuncId) (cs : Array Value) (hk : Enters k) (es : List SL) (A : Option Addr) (n c : Nat) (w0 w : World) (hw : Below w0.heap.size w0 w) (hF : Hid (∀ W : World, Below w0.heap.size w0 W → ∀ x ∈ es, x.In W W.heap.size → Calls Try.prog k (#[sVal x] ++ cs) W fun f w' => f = .returned (.bool (p x)) ∧ Below W.heap.size W w')) (hA : RowS6 w w.heap.size A n es) (hAi : SL.Ins w w.heap.size es) :
    Calls Try.prog 68 #[.slice A n c, .func (.func k) #[] cs] w fun f w' => f = .returned (.bool (es.any p)) ∧ Below w.heap.size w w' := by
  have HC := Lib.hid (tIndexS_any p k cs hk es A n c w0 w hw hF hA hAi)
  obtain ⟨q, hq⟩ : ∃ q, q = es.any p := ⟨_, rfl⟩
  have HQ := Lib.hid hq
  rw [← hq]
  clear hk hw hA hAi hF hq
  go_enter Try.func68, Try.ntmps68
  go_wp2_with fail
  refine HC.out.mono ?_
  rintro f w2 ⟨i, rfl, hi, hb2⟩
  rw [← HQ.out] at hi
  have HI := Lib.hid hi
  clear hi
  go_wp2_with fail
  go_ret
  exact ⟨by rw [← HI.out]; rfl, hb2⟩

/-- a text or a title -/
def sayB (tx : Int) (e : EL) : Bool := decide (e.kind = tx) || decide (e.kind = 13)
/-- may an expression be, of that depth at most -/
def vE (X : EL → Bool) (tx : Int) : Nat → EL → Bool
  | 0, _ => false
  | d + 1, e => decide (e.fv = e.form) && X e && e.args.all (fun a => !sayB tx a && vE X tx d a)
def inE (X : EL → Bool) (tx : Int) (said : Bool) (d : Nat) (a : EL) : Bool := (said || !sayB tx a) && vE X tx d a
theorem vE_succ (X : EL → Bool) (tx : Int) (d : Nat) (e : EL) : vE X tx (d + 1) e = (decide (e.fv = e.form) && X e && e.args.all (inE X tx false d)) := by
  unfold vE inE
  rfl

/-- what validExpr does at a depth -/
def VEAt (w0 : World) (G : LG) (X : EL → Bool) (d : Nat) : Prop := ∀ (e : EL) (w : World), Below w0.heap.size w0 w → e.In w w.heap.size →
  Calls Try.prog 42 #[G.val, eVal e, .int .i64 (d : Int)] w fun f w' => f = .returned (.bool (vE X G.tx d e)) ∧ Below w.heap.size w w'

/-- what argsCheck hands back -/
def CkOut (G : LG) (dp : Int) (said : Bool) (w : World) (f : Ending) (w' : World) : Prop :=
  ∃ bc bg bs bd : Nat, f = .returned (.func (.func 85) #[] #[.pointer (some ⟨bc, 0, none⟩)]) ∧ Ck w' G dp said bc bg bs bd ∧ Below w.heap.size w w'

theorem entersC1 : Enters 84 := ⟨_, Try.func84, by kernel_rfl, by kernel_rfl⟩

set_option maxRecDepth 100000 in
set_option maxHeartbeats 1600000 in
theorem targsCheck_any (G : LG) (dp : Int) (said : Bool) (w : World) : Calls Try.prog 64 #[G.val, .int .i64 dp, .bool said] w (CkOut G dp said w) := by
  have hmf : ∀ (fn : Fn) (first cap : Array Value) (w : World), (Instr.makeFunc fn first cap).run Try.prog w = .ok (.func fn first cap) w := fun _ _ _ _ => rfl
  obtain ⟨cs, hcs⟩ : ∃ cs, cs = G.cells := ⟨_, rfl⟩
  have HCS := Lib.hid hcs
  unfold LG.val
  rw [← hcs]
  clear hcs
  go_enter Try.func64, Try.ntmps64
  go_wp2_with fail
  go_ret
  refine ⟨w.heap.size + 1 + 1 + 1, w.heap.size, w.heap.size + 1 + 1, w.heap.size + 1, rfl, ⟨?_, ?_, ?_, ?_⟩, ?_⟩
  · rw [← HCS.out]
    exact (((Blk.new w _ _).alloc _).alloc _).alloc _
  · exact (Blk.new_at _ _ _ (w.heap.size + 1 + 1) (by simp)).alloc _
  · exact ((Blk.new_at _ _ _ (w.heap.size + 1) (by simp)).alloc _).alloc _
  · exact Blk.new_at _ _ _ (w.heap.size + 1 + 1 + 1) (by simp)
  · exact ((((Below.refl _ _).alloc (Nat.le_refl _) _).alloc (by simp) _).alloc (by simp; omega) _).alloc (by simp; omega) _

set_option maxRecDepth 100000 in
set_option maxHeartbeats 6400000 in
theorem targs1_any (w0 : World) (G : LG) (X : EL → Bool) (d : Nat) (hV : VEAt w0 G X d) (said : Bool) (bc bg bs' bd : Nat) (x : EL) (w : World) (hck : Ck w G (d : Int) said bc bg bs' bd) (hw : Below w0.heap.size w0 w) (hin : x.In w w.heap.size) :
    Calls Try.prog 84 #[eVal x, .pointer (some ⟨bg, 0, none⟩), .pointer (some ⟨bs', 0, none⟩), .pointer (some ⟨bd, 0, none⟩)] w fun f w' => f = .returned (.bool (!inE X G.tx said d x)) ∧ Below w.heap.size w w' := by
  obtain ⟨q, hq⟩ : ∃ q, q = vE X G.tx d x := ⟨_, rfl⟩
  have HQ := Lib.hid hq
  have hres : inE X G.tx said d x = ((said || !sayB G.tx x) && q) := by rw [hq]; rfl
  rw [hres]
  obtain ⟨tx, cl, kN, kE, kS, F⟩ := G
  have c0 : ∀ o : Obj, (w.alloc o).cell? ⟨bg, 0, none⟩ = some (.int .i64 tx) := fun o => (hck.g.alloc o).cell 0
  have c1 : ∀ o : Obj, (w.alloc o).cell? ⟨bg, 1, none⟩ = some (.int .i64 cl) := fun o => (hck.g.alloc o).cell 1
  have c2 : ∀ o : Obj, (w.alloc o).cell? ⟨bg, 2, none⟩ = some (.func (.func kN) #[] #[]) := fun o => (hck.g.alloc o).cell 2
  have c3 : ∀ o : Obj, (w.alloc o).cell? ⟨bg, 3, none⟩ = some (.func (.func kE) F #[]) := fun o => (hck.g.alloc o).cell 3
  have c4 : ∀ o : Obj, (w.alloc o).cell? ⟨bg, 4, none⟩ = some (.func (.func kS) F #[]) := fun o => (hck.g.alloc o).cell 4
  have c5 : ∀ o : Obj, (w.alloc o).cell? ⟨bs', 0, none⟩ = some (.bool said) := fun o => (hck.s.alloc o).cell 0
  have c6 : ∀ o : Obj, (w.alloc o).cell? ⟨bd, 0, none⟩ = some (.int .i64 (d : Int)) := fun o => (hck.d.alloc o).cell 0
  have HC := Lib.hid (fun (W : World) (hb : Below w.heap.size w W) => hV x W (hw.trans (hb.mono hw.size)) (EL.In.more hb.size (hin.below hb)))
  obtain ⟨xk, xo, xm, xs, xA, xn, xc', xes⟩ := x
  show Calls Try.prog _ #[.agg #[.int .i64 xk, .int .i64 xo, .int .i64 xm, .string (bs xs), .slice xA xn xc'], .pointer (some ⟨bg, 0, none⟩), .pointer (some ⟨bs', 0, none⟩), .pointer (some ⟨bd, 0, none⟩)] w fun f w' => f = .returned (.bool (!((said || !(decide (xk = tx) || decide (xk = 13))) && q))) ∧ Below w.heap.size w w'
  obtain ⟨W, hW⟩ : ∃ W, W = w.alloc (.cells #[.int .i64 xk, .int .i64 xo, .int .i64 xm, .string (bs xs), .slice xA xn xc'] 31) := ⟨_, rfl⟩
  have HBW : Hid (Below w.heap.size w W) := Lib.hid (by rw [hW]; exact (Below.refl _ _).alloc (Nat.le_refl _) _)
  clear hq hres hck hw hin hV
  by_cases h1 : xk = tx
  · have t1 : (xk == tx) = true := by rw [beq_iff_eq]; exact h1
    rw [decide_eq_true h1, Bool.true_or, Bool.not_true, Bool.or_false]
    clear h1
    cases said with
    | false =>
      go_enter Try.func84, Try.ntmps84
      go_wp2_with fail
      go_ret
      exact ⟨rfl, by have := HBW.out; rw [hW] at this; exact this⟩

    | true =>
      rw [Bool.true_and]
      go_enter Try.func84, Try.ntmps84
      go_wp2_with fail
      rw [← hW]
      clear hW
      refine (HC.out _ HBW.out).mono ?_
      rintro f w2 ⟨rfl, hb2⟩
      rw [← HQ.out]
      go_wp2_with fail
      go_ret
      exact ⟨rfl, HBW.out.trans (hb2.mono HBW.out.size)⟩

  · have t1 : (xk == tx) = false := by rw [beq_eq_false_iff_ne]; exact h1
    rw [decide_eq_false h1, Bool.false_or]
    clear h1
    by_cases h2 : xk = 13
    · have t2 : (xk == 13) = true := by rw [beq_iff_eq]; exact h2
      rw [decide_eq_true h2, Bool.not_true, Bool.or_false]
      clear h2
      cases said with
      | false =>
        go_enter Try.func84, Try.ntmps84
        go_wp2_with fail
        go_ret
        exact ⟨rfl, by have := HBW.out; rw [hW] at this; exact this⟩

      | true =>
        rw [Bool.true_and]
        go_enter Try.func84, Try.ntmps84
        go_wp2_with fail
        rw [← hW]
        clear hW
        refine (HC.out _ HBW.out).mono ?_
        rintro f w2 ⟨rfl, hb2⟩
        rw [← HQ.out]
        go_wp2_with fail
        go_ret
        exact ⟨rfl, HBW.out.trans (hb2.mono HBW.out.size)⟩

    · have t2 : (xk == 13) = false := by rw [beq_eq_false_iff_ne]; exact h2
      rw [decide_eq_false h2, Bool.not_false, Bool.or_true, Bool.true_and]
      clear h2
      go_enter Try.func84, Try.ntmps84
      go_wp2_with fail
      rw [← hW]
      clear hW
      refine (HC.out _ HBW.out).mono ?_
      rintro f w2 ⟨rfl, hb2⟩
      rw [← HQ.out]
      go_wp2_with fail
      go_ret
      exact ⟨rfl, HBW.out.trans (hb2.mono HBW.out.size)⟩

set_option maxRecDepth 100000 in
set_option maxHeartbeats 6400000 in
theorem targs2_any (w0 : World) (G : LG) (X : EL → Bool) (d : Nat) (hV : VEAt w0 G X d) (said : Bool) (bc bg bs' bd : Nat) (es : List EL) (A : Option Addr) (n c : Nat) (w : World) (hck : Ck w G (d : Int) said bc bg bs' bd) (hw : Below w0.heap.size w0 w) (hA : RowE w w.heap.size A n es) (hAi : EL.Ins w w.heap.size es) :
    Calls Try.prog 85 #[.slice A n c, .pointer (some ⟨bc, 0, none⟩)] w fun f w' => f = .returned (.bool (es.all (inE X G.tx said d))) ∧ Below w.heap.size w w' := by
  have HC := Lib.hid (tContainsE_any (fun x => !inE X G.tx said d x) _ #[.pointer (some ⟨bg, 0, none⟩), .pointer (some ⟨bs', 0, none⟩), .pointer (some ⟨bd, 0, none⟩)] entersC1 es A n c w w (Below.refl _ _) (Lib.hid (fun W hb x _ hx => targs1_any w0 G X d hV said bc bg bs' bd x W (hck.below hb) (hw.trans (hb.mono hw.size)) hx)) hA hAi)
  have c0 : w.cell? ⟨bc, 0, none⟩ = some (.func (.func 84) #[] #[.pointer (some ⟨bg, 0, none⟩), .pointer (some ⟨bs', 0, none⟩), .pointer (some ⟨bd, 0, none⟩)]) := hck.c.cell 0
  obtain ⟨q, hq⟩ : ∃ q, q = es.any (fun x => !inE X G.tx said d x) := ⟨_, rfl⟩
  have HQ := Lib.hid hq
  have hres : es.all (inE X G.tx said d) = !q := by
    rw [hq, List.any_eq_not_all_not, Bool.not_not]
    congr 1
    funext x
    rw [Bool.not_not]
  rw [hres]
  clear hq hres hck hw hA hAi hV
  go_enter Try.func85, Try.ntmps85
  go_wp2_with fail
  refine HC.out.mono ?_
  rintro f w2 ⟨rfl, hb2⟩
  rw [← HQ.out]
  go_wp2_with fail
  go_ret
  exact ⟨rfl, hb2⟩

end

end Go.Proofs.Ytiioffjjlcfhgaa
