/- Contracts and lemmas that the proofs of this seat use. -/
import Derived.WalkKit
import Derived.WalkSpells
import Derived.WalkLawsBesides
import Derived.Lib.Hide
import Derived.Lib.AppendStr
import Derived.Laws.IdiomStrings
import Derived.Laws.AppendOwnNone
import Derived.Maps.AppendAt
import Derived.Deep.AppendLies
import Derived.Deep.QuietTactic
import Derived.BigQuiet
import Derived.Laws.Rows
import Derived.Lib.Join
import Derived.Test.YtiioffjjlcfhgaaRows
import Derived.Laws.CopyOwn
import Derived.Laws.OwnMore
import Derived.Lib.Strings
import Derived.Laws.EntriesVeiled
import Derived.Deep.RegionWith
import Derived.Deep.RegionHeld3
import Derived.Deep.CutBlock
namespace Go.Proofs.Ytiioffjjlcfhgaa

section
open Go.RowKit

/-- bytes as cells -/
def bc (l : List UInt8) : List Value := l.map fun b => Value.int .u8 (b.toNat : Int)

/-- A slice (its address A, its length n) reads as the bytes l; it lies below block B. -/
def Rd (w : World) (B : Nat) (A : Option Addr) (n : Nat) (l : List UInt8) : Prop :=
  l.length = n ∧ (0 < n → ∃ ad : Addr, A = some ad ∧ ad.block < B ∧ ∀ j (h : j < l.length), w.cell? (ad.add j) = some (.int .u8 (l[j].toNat : Int)))

theorem blk_add (a : Addr) (j : Nat) : (a.add j).block = a.block := by
  unfold Addr.add; split <;> rfl

theorem Rd.len {w : World} {B : Nat} {A : Option Addr} {n : Nat} {l : List UInt8} (h : Rd w B A n l) : l.length = n := h.1

theorem Rd.nil (w : World) (B : Nat) : Rd w B none 0 [] := ⟨rfl, fun h => absurd h (by omega)⟩

theorem Rd.keep {w w' : World} {B : Nat} {A : Option Addr} {n : Nat} {l : List UInt8} (h : Rd w B A n l) (hk : ∀ p : Addr, p.block < B → w'.cell? p = w.cell? p) : Rd w' B A n l :=
  ⟨h.1, fun hn => by
    obtain ⟨ad, e, hb, hc⟩ := h.2 hn
    exact ⟨ad, e, hb, fun j hj => (hk _ (by rw [blk_add]; exact hb)).trans (hc j hj)⟩⟩

theorem Rd.more {w : World} {B B' : Nat} {A : Option Addr} {n : Nat} {l : List UInt8} (h : Rd w B A n l) (hB : B ≤ B') : Rd w B' A n l :=
  ⟨h.1, fun hn => by
    obtain ⟨ad, e, hb, hc⟩ := h.2 hn
    exact ⟨ad, e, by omega, hc⟩⟩

theorem Rd.below {w w' : World} {B : Nat} {A : Option Addr} {n : Nat} {l : List UInt8} (h : Rd w B A n l) (hb : Below B w w') : Rd w' B A n l := h.keep fun _ hp => hb.cell hp

theorem Rd.alloc {w : World} {B : Nat} {A : Option Addr} {n : Nat} {l : List UInt8} (h : Rd w B A n l) (hB : B ≤ w.heap.size) (o : Obj) : Rd (w.alloc o) B A n l :=
  h.below ((Below.refl _ _).alloc hB o)

/-- the value of an owned row is a slice -/
theorem own_slice {w : World} {base : Nat} {e : TypeId} {size n : Nat} {v : Value} {xs : List Value} (h : w.ownsRow base e size v n xs) : ∃ A c, v = .slice A n c := by
  rcases h.2 with ⟨rfl, rfl⟩ | ⟨g, cap, cur, rfl, _⟩
  · exact ⟨_, _, rfl⟩
  · exact ⟨_, _, rfl⟩

/-- The same, the row owned from block 'base' on. -/
def OutO (base : Nat) (w : World) (l : List UInt8) (e : Ending) (w' : World) : Prop :=
  ∃ A n c, e = .returned (.slice A n c) ∧ w'.ownsRow base 5 1 (.slice A n c) n (bc l) ∧ Below base w w'

theorem own_base {w : World} {base base' : Nat} {e : TypeId} {size n : Nat} {v : Value} {xs : List Value} (h : w.ownsRow base e size v n xs) (hb : base' ≤ base) : w.ownsRow base' e size v n xs := by
  refine ⟨h.1, ?_⟩
  rcases h.2 with h2 | ⟨g, cap, cur, hv, hg, r⟩
  · exact .inl h2
  · exact .inr ⟨g, cap, cur, hv, by omega, r⟩

/-- a call behind another -/
theorem OutO.after {w w1 w2 : World} {l : List UInt8} {e : Ending} {base : Nat} (hb : Below base w w1) (hB : base ≤ w.heap.size) (h : OutO w1.heap.size w1 l e w2) : OutO base w l e w2 := by
  obtain ⟨A, n, c, he, ho, hb2⟩ := h
  have hs := hb.size
  exact ⟨A, n, c, he, own_base ho (by omega), hb.trans (hb2.mono (by omega))⟩

/-- cells of a source that reads as bytes, at an address that the walk knows -/
theorem Rd.cells {w : World} {B : Nat} {ad : Addr} {n : Nat} {l : List UInt8} (h : Rd w B (some ad) n l) : ∀ j u, (bc l)[j]? = some u → w.cell? (ad.add j) = some u := by
  intro j u hu
  have hj : j < l.length := by
    have := (List.getElem?_eq_some_iff.1 hu).1
    simpa [bc] using this
  obtain ⟨ad', e, _, hc⟩ := h.2 (by have := h.1; omega)
  obtain rfl : ad = ad' := by injection e
  rw [hc j hj]
  simp [bc, hj] at hu
  rw [hu]

/-- a new block of one byte reads as that byte -/
theorem Rd.one (w : World) (b : UInt8) (t : TypeId) : Rd (w.alloc (.cells #[.int .u8 (b.toNat : Int)] t)) (w.heap.size + 1) (some ⟨w.heap.size, 0, none⟩) 1 [b] := by
  refine ⟨rfl, fun _ => ⟨_, rfl, Nat.lt_succ_self _, fun j hj => ?_⟩⟩
  have : j = 0 := by simp at hj; omega
  subst this
  exact cell_one_new w _ t 0 _ rfl

/-- a number as a byte -/
def byt (x : Int) : UInt8 := UInt8.ofNat (x % 256).toNat

theorem byt_val (x : Int) : ((byt x).toNat : Int) = x % 256 := by
  have h0 : 0 ≤ x % 256 := Int.emod_nonneg _ (by omega)
  have h1 : x % 256 < 256 := Int.emod_lt_of_pos _ (by omega)
  unfold byt
  rw [UInt8.toNat_ofNat']
  omega

/-- A slice reads as the ints zs. -/
def RdI (w : World) (B : Nat) (A : Option Addr) (n : Nat) (zs : List Int) : Prop :=
  zs.length = n ∧ (0 < n → ∃ ad : Addr, A = some ad ∧ ad.block < B ∧ ∀ j, j < zs.length → w.cell? (ad.add j) = some (.int .i64 (zs.getD j 0))) ∧ ∀ j, -9223372036854775808 ≤ zs.getD j 0 ∧ zs.getD j 0 ≤ 9223372036854775807

theorem RdI.keep {w w' : World} {B : Nat} {A : Option Addr} {n : Nat} {zs : List Int} (h : RdI w B A n zs) (hk : ∀ p : Addr, p.block < B → w'.cell? p = w.cell? p) : RdI w' B A n zs :=
  ⟨h.1, fun hn => by
    obtain ⟨ad, e, hb, hc⟩ := h.2.1 hn
    exact ⟨ad, e, hb, fun j hj => (hk _ (by rw [blk_add]; exact hb)).trans (hc j hj)⟩, h.2.2⟩

theorem RdI.below {w w' : World} {B : Nat} {A : Option Addr} {n : Nat} {zs : List Int} (h : RdI w B A n zs) (hb : Below B w w') : RdI w' B A n zs := h.keep fun _ hp => hb.cell hp

theorem Rd.drew {w : World} {B : Nat} {A : Option Addr} {n : Nat} {l : List UInt8} (h : Rd w B A n l) : Rd w.drew B A n l := h
theorem RdI.drew {w : World} {B : Nat} {A : Option Addr} {n : Nat} {zs : List Int} (h : RdI w B A n zs) : RdI w.drew B A n zs := h

/-- What is known of a slice of integers that came in: it is nil; or it leads to a row of 'cap' cells, the numbers 'zs' (the first 'len' are its elements), each fitting its kind. -/
def IsRow (k : IntKind) (w : World) (a : Option Addr) (len cap : Nat) (zs : List Int) : Prop :=
  (a = none ∧ len = 0 ∧ cap = 0 ∧ zs = []) ∨
  ∃ x, a = some x ∧ len ≤ cap ∧ cap ≤ maxLen ∧ zs.length = cap ∧ (∀ i, i < zs.length → w.cell? (x.add i) = some (.int k (zs.getD i 0))) ∧ ∀ n ∈ zs, (Lit.int k n).wf = true

theorem IsRow.cap {k : IntKind} {w : World} {a : Option Addr} {len cap : Nat} {zs : List Int} (h : IsRow k w a len cap zs) : len ≤ cap ∧ (cap : Int) ≤ 9223372036854775807 := by
  rcases h with ⟨_, rfl, rfl, _⟩ | ⟨x, _, h1, h2, _⟩
  · omega
  · unfold maxLen at h2; omega

theorem wf_u8 {n : Int} (h : (Lit.int .u8 n).wf = true) : 0 ≤ n ∧ n < 256 := by
  simp [Lit.wf, IntKind.min, IntKind.max, IntKind.signed, IntKind.bits] at h
  omega

theorem wf_i64 {n : Int} (h : (Lit.int .i64 n).wf = true) : -9223372036854775808 ≤ n ∧ n ≤ 9223372036854775807 := by
  simp [Lit.wf, IntKind.min, IntKind.max, IntKind.signed, IntKind.bits] at h
  omega

/-- the bytes of a row that came in -/
theorem IsRow.rd {w : World} {a : Option Addr} {len cap : Nat} {zs : List Int} (h : IsRow .u8 w a len cap zs) : ∃ l, Rd w w.heap.size a len l := by
  rcases h with ⟨rfl, rfl, _, _⟩ | ⟨x, rfl, h1, _, h3, hc, hw⟩
  · exact ⟨[], Rd.nil _ _⟩
  · refine ⟨(zs.take len).map byt, by simp; omega, fun hn => ⟨x, rfl, ?_, fun j hj => ?_⟩⟩
    · have := World.block_lt_of_cell? w _ (hc 0 (by omega))
      rw [blk_add] at this
      exact this
    · have hj2 : j < zs.length := by simp at hj; omega
      rw [hc j hj2]
      have hz := wf_u8 (hw (zs.getD j 0) (by simp [List.getD, hj2]))
      have e : ((zs.take len).map byt)[j] = byt (zs.getD j 0) := by simp [List.getD, hj2]
      rw [e, byt_val]
      congr 2
      omega

theorem own_below {w w' : World} {base : Nat} {e : TypeId} {size n : Nat} {v : Value} {xs : List Value} (h : w.ownsRow base e size v n xs) (hb : Below w.heap.size w w') : w'.ownsRow base e size v n xs := h.kept (row := none) ⟨hb.os, hb.tape, hb.output, hb.size, fun k hk _ => hb.block k hk⟩ (by
  rcases h.2 with ⟨rfl, _⟩ | ⟨g, cap, cur, rfl, _⟩
  · exact .inl rfl
  · exact .inr (fun e => by cases e))

theorem add_pos (a : Addr) (k : Nat) (h : k ≠ 0) : a.add k = ⟨a.block, a.off + k, none⟩ := by unfold Addr.add; rw [if_neg h]

end

section
open Go.RowKit

/-- block g is the cells cs of type t, none frozen -/
def Blk (w : World) (g : Nat) (t : TypeId) (cs : Array Value) : Prop := w.heap[g]? = some (.cells cs t (0, 0))

section
variable {w w' : World} {g : Nat} {t : TypeId} {cs : Array Value}
theorem Blk.lt (h : Blk w g t cs) : g < w.heap.size := by
  rcases Nat.lt_or_ge g w.heap.size with hlt | hge
  · exact hlt
  · unfold Blk at h; rw [Array.getElem?_eq_none hge] at h; cases h
theorem Blk.cell (h : Blk w g t cs) (i : Nat) : w.cell? ⟨g, i, none⟩ = cs[i]? := cell_of_row w g i cs t (0, 0) h
theorem Blk.frozen (h : Blk w g t cs) (i : Nat) : w.frozen? ⟨g, i, none⟩ = false := frozen_of_row w g i cs t h
theorem Blk.new (w : World) (t : TypeId) (cs : Array Value) : Blk (w.alloc (.cells cs t)) w.heap.size t cs := heap_alloc_new w _
theorem Blk.new_at (w : World) (t : TypeId) (cs : Array Value) (k : Nat) (hk : k = w.heap.size) : Blk (w.alloc (.cells cs t)) k t cs := by subst hk; exact Blk.new w t cs
theorem Blk.below {B : Nat} (h : Blk w g t cs) (hb : Below B w w') (hg : g < B) : Blk w' g t cs := (hb.block g hg).trans h
theorem Blk.grown {row : Option Nat} (h : Blk w g t cs) (hb : w.grownBy w' row) (hg : some g ≠ row) : Blk w' g t cs := (hb.block g h.lt hg).trans h
theorem Blk.alloc (h : Blk w g t cs) (o : Obj) : Blk (w.alloc o) g t cs := (Below.heap_alloc w o g h.lt).trans h
theorem Blk.far (h : Blk w g t cs) {p : Addr} (hp : g ≠ p.block) (u : Value) : Blk (w.setCell p u) g t cs := (Below.heap_setCell w p u g hp).trans h
theorem Blk.set_ (h : Blk w g t cs) (i : Nat) (u : Value) : Blk (w.setCell ⟨g, i, none⟩ u) g t (cs.setIfInBounds i u) := heap_setCell_same w g i cs t u h
end

theorem some_ne {a b : Nat} (h : a ≠ b) : some a ≠ some b := fun e => h (by injection e)
theorem gb_below {a w : World} (h : Below a.heap.size a w) (row : Option Nat) : a.grownBy w row := ⟨h.os, h.tape, h.output, h.size, fun i hi _ => h.block i hi⟩
theorem gb_alloc {a w : World} {row : Option Nat} (h : a.grownBy w row) (o : Obj) : a.grownBy (w.alloc o) row := h.trans (World.grownBy_alloc w o row)
theorem gb_set {a w : World} {g : Nat} (h : a.grownBy w (some g)) (i : Nat) (u : Value) : a.grownBy (w.setCell ⟨g, i, none⟩ u) (some g) :=
  ⟨h.os, h.tape, h.output, by simpa [World.setCell] using h.size, fun k hk hne => (Below.heap_setCell w ⟨g, i, none⟩ u k (by rintro rfl; exact hne rfl)).trans (h.block k hk hne)⟩

end

section
open Go.RowKit

/-- a text as the model holds it -/
def bs (x : List UInt8) : ByteArray := ⟨x.toArray⟩
/-- texts as cells -/
def sc (ls : List (List UInt8)) : List Value := ls.map fun x => Value.string (bs x)

theorem bs_data (s : ByteArray) : bs s.data.toList = s := by cases s; simp [bs]
theorem data_bs (x : List UInt8) : (bs x).data.toList = x := by simp [bs]
theorem bs_size (x : List UInt8) : (bs x).size = x.length := by show x.toArray.size = _; simp
theorem sc_length (ls : List (List UInt8)) : (sc ls).length = ls.length := by simp [sc]
theorem sc_snoc (ls : List (List UInt8)) (x : List UInt8) : sc (ls ++ [x]) = sc ls ++ [.string (bs x)] := by simp [sc]
theorem sc_at {ls : List (List UInt8)} {j : Nat} (h : j < ls.length) : (sc ls)[j]? = some (.string (bs (ls[j]?.getD []))) := by simp [sc, h]

/-- A slice (its address A, its length n) reads as the texts ls; it lies below block B. -/
def RdS (w : World) (B : Nat) (A : Option Addr) (n : Nat) (ls : List (List UInt8)) : Prop :=
  ls.length = n ∧ (0 < n → ∃ ad : Addr, A = some ad ∧ ad.block < B ∧ ∀ j, j < ls.length → w.cell? (ad.add j) = some (.string (bs (ls[j]?.getD []))))

theorem RdS.keep {w w' : World} {B : Nat} {A : Option Addr} {n : Nat} {ls : List (List UInt8)} (h : RdS w B A n ls) (hk : ∀ p : Addr, p.block < B → w'.cell? p = w.cell? p) : RdS w' B A n ls :=
  ⟨h.1, fun hn => by
    obtain ⟨ad, e, hb, hc⟩ := h.2 hn
    exact ⟨ad, e, hb, fun j hj => (hk _ (by rw [blk_add]; exact hb)).trans (hc j hj)⟩⟩

theorem RdS.below {w w' : World} {B : Nat} {A : Option Addr} {n : Nat} {ls : List (List UInt8)} (h : RdS w B A n ls) (hb : Below B w w') : RdS w' B A n ls := h.keep fun _ hp => hb.cell hp

theorem RdS.more {w : World} {B B' : Nat} {A : Option Addr} {n : Nat} {ls : List (List UInt8)} (h : RdS w B A n ls) (hB : B ≤ B') : RdS w B' A n ls :=
  ⟨h.1, fun hn => by
    obtain ⟨ad, e, hb, hc⟩ := h.2 hn
    exact ⟨ad, e, by omega, hc⟩⟩

theorem RdS.nil (w : World) (B : Nat) (A : Option Addr) : RdS w B A 0 [] := ⟨rfl, fun h => absurd h (by omega)⟩

end

section
open Go.RowKit

/-- ints as cells -/
def iv (zs : List Int) : List Value := zs.map (Value.int .i64)

theorem iv_length (zs : List Int) : (iv zs).length = zs.length := by simp [iv]
theorem iv_snoc (zs : List Int) (z : Int) : iv (zs ++ [z]) = iv zs ++ [.int .i64 z] := by simp [iv]
theorem iv_append (zs ys : List Int) : iv (zs ++ ys) = iv zs ++ iv ys := by simp [iv]
theorem iv_at {zs : List Int} {j : Nat} (h : j < zs.length) : (iv zs)[j]? = some (.int .i64 (zs.getD j 0)) := by simp [iv, List.getD, h]

/-- each fits an int -/
def FitI (zs : List Int) : Prop := ∀ j, -9223372036854775808 ≤ zs.getD j 0 ∧ zs.getD j 0 ≤ 9223372036854775807

theorem FitI.nil : FitI [] := fun j => by simp

theorem ownI_len {w : World} {base : Nat} {e : TypeId} {v : Value} {n : Nat} {zs : List Int} (h : w.ownsRow base e 1 v n (iv zs)) : zs.length = n := by
  have := h.1
  rw [iv_length] at this
  omega

theorem RdI.none_ (w : World) (B : Nat) : RdI w B none 0 [] := ⟨rfl, fun h => absurd h (by omega), fun j => by simp⟩

theorem RdI.more {w : World} {B B' : Nat} {A : Option Addr} {n : Nat} {zs : List Int} (h : RdI w B A n zs) (hB : B ≤ B') : RdI w B' A n zs :=
  ⟨h.1, fun hn => by
    obtain ⟨ad, e, hb, hc⟩ := h.2.1 hn
    exact ⟨ad, e, by omega, hc⟩, h.2.2⟩

theorem RdI.alloc {w : World} {B : Nat} {A : Option Addr} {n : Nat} {zs : List Int} (h : RdI w B A n zs) (hB : B ≤ w.heap.size) (o : Obj) : RdI (w.alloc o) B A n zs :=
  h.below ((Below.refl _ _).alloc hB o)

theorem RdI.of_iv {w : World} {base : Nat} {e : TypeId} {A : Option Addr} {n c : Nat} {zs : List Int} (h : w.ownsRow base e 1 (.slice A n c) n (iv zs)) (hz : FitI zs) : RdI w w.heap.size A n zs := by
  have hl := ownI_len h
  refine ⟨hl, fun hn => ?_, hz⟩
  obtain ⟨g, cap, hv, _, hlt⟩ := h.form hn
  have hA : A = some ⟨g, 0, Option.none⟩ := by injection hv
  subst hA
  refine ⟨_, rfl, hlt, fun j hj => h.cells (g := g) rfl j _ ?_⟩
  rw [iv_at hj]

theorem RdI.grown {w w' : World} {B : Nat} {A : Option Addr} {n : Nat} {zs : List Int} {row : Option Nat} (h : RdI w B A n zs) (hg : w.grownBy w' row) (hB : B ≤ w.heap.size) (hs : 0 < n → ∀ ad, A = some ad → row ≠ some ad.block) : RdI w' B A n zs :=
  ⟨h.1, fun hn => by
    obtain ⟨ad, e, hb, hc⟩ := h.2.1 hn
    refine ⟨ad, e, hb, fun j hj => ?_⟩
    rw [← hc j hj]
    exact World.cell?_of_block (by rw [blk_add]; exact hg.block _ (by omega) (fun e2 => hs hn ad e e2.symm)), h.2.2⟩

/-- the row that an owned slice leads to lies from its base on -/
theorem own_ge {w : World} {base : Nat} {e : TypeId} {A : Option Addr} {n c : Nat} {xs : List Value} (h : w.ownsRow base e 1 (.slice A n c) n xs) : ∀ ad, A = some ad → base ≤ ad.block := by
  intro ad hA
  subst hA
  rcases h.2 with ⟨hv, _⟩ | ⟨g, cap, cur, hv, hb, _⟩
  · cases hv
  · injection hv with h1
    injection h1 with h1
    subst h1
    exact hb

/-- A row of the call's own (zs), and another that is read (ys), apart. -/
structure Two (w wr : World) (t : TypeId) (A : Option Addr) (n c : Nat) (xs : List Value) (A1 : Option Addr) (m : Nat) (ys : List Int) : Prop where
  own : wr.ownsRow w.heap.size t 1 (.slice A n c) n xs
  bel : Below w.heap.size w wr
  rd : RdI wr wr.heap.size A1 m ys
  off : 0 < m → ∀ ad, A1 = some ad → (Value.slice A n c).ownBlock ≠ some ad.block

/-- a row handed back by a call lies apart from one that was there -/
theorem Two.start {w w1 w2 : World} {t t2 : TypeId} {A : Option Addr} {n c : Nat} {xs : List Value} {A1 : Option Addr} {m c1 : Nat} {ys : List Int}
    (ho : w1.ownsRow w.heap.size t 1 (.slice A n c) n xs) (hb : Below w.heap.size w w1) (h1 : w2.ownsRow w1.heap.size t2 1 (.slice A1 m c1) m (iv ys)) (hf : FitI ys) (hb2 : Below w1.heap.size w1 w2) :
    Two w w2 t A n c xs A1 m ys :=
  ⟨own_below ho hb2, hb.trans (hb2.mono hb.size), RdI.of_iv h1 hf, fun _ ad hA e => by
    have h2 := own_ge h1 ad hA
    have h3 := (ho.lt _ e).2
    omega⟩

end

section
def isSm (c : UInt8) : Bool := decide (97 ≤ (c.toNat : Int)) && decide ((c.toNat : Int) ≤ 122)
def isCp (c : UInt8) : Bool := decide (65 ≤ (c.toNat : Int)) && decide ((c.toNat : Int) ≤ 90)
def isDg (c : UInt8) : Bool := decide (48 ≤ (c.toNat : Int)) && decide ((c.toNat : Int) ≤ 57)
/-- '-' and the apostrophe -/
def isIn (c : UInt8) : Bool := decide ((c.toNat : Int) = 45) || decide ((c.toNat : Int) = 39)
/-- '.' and ',' -/
def isMk (c : UInt8) : Bool := decide ((c.toNat : Int) = 46) || decide ((c.toNat : Int) = 44)
/-- a byte that stands in a word of a line -/
def isRow (c : UInt8) : Bool := isSm c || isCp c || isDg c || isIn c
/-- a byte that stands in a word of a dictionary -/
def isWd (c : UInt8) : Bool := isSm c || isDg c || isIn c
/-- a byte that stands in a name -/
def isNm (c : UInt8) : Bool := isSm c || isDg c || decide ((c.toNat : Int) = 95)
/-- a byte of a text -/
def isTx (c : UInt8) : Bool := (decide (32 ≤ (c.toNat : Int)) && decide ((c.toNat : Int) ≤ 126)) || decide ((c.toNat : Int) = 10)

/-- what the functions tell of a text -/
def nameB (l : List UInt8) : Bool := match l with | [] => false | c :: _ => isSm c && decide (l.length ≤ 24) && l.all isNm
def wordB (l : List UInt8) : Bool := match l with | [] => false | c :: _ => (isSm c || isDg c) && decide (l.length ≤ 9) && l.all isWd
def textB (l : List UInt8) : Bool := decide (l.length ≤ 1024) && l.all isTx

end

section
open Go.RowKit
set_option linter.unusedVariables false

/-- a token: its kind, text, number, line, column -/
structure Tk where
  kind : Int
  text : List UInt8
  num : Int
  line : Int
  col : Int
deriving DecidableEq

end

section
open Go.RowKit

def noTk : Tk := ⟨0, [], 0, 0, 0⟩

/-- A slice (its address A, its length n) reads as the tokens ts; it lies below block B. -/
def RdT (w : World) (B : Nat) (A : Option Addr) (n : Nat) (ts : List Tk) : Prop :=
  ts.length = n ∧ (0 < n → ∃ ad : Addr, A = some ad ∧ ad.block < B ∧ ∀ j, j < ts.length → w.cell? (ad.add (j * 5)) = some (.int .i64 (ts[j]?.getD noTk).kind) ∧
    w.cell? ⟨(ad.add (j * 5)).block, (ad.add (j * 5)).off + 1, none⟩ = some (.string (bs (ts[j]?.getD noTk).text)) ∧ w.cell? ⟨(ad.add (j * 5)).block, (ad.add (j * 5)).off + 2, none⟩ = some (.int .i64 (ts[j]?.getD noTk).num) ∧
    w.cell? ⟨(ad.add (j * 5)).block, (ad.add (j * 5)).off + 3, none⟩ = some (.int .i64 (ts[j]?.getD noTk).line) ∧ w.cell? ⟨(ad.add (j * 5)).block, (ad.add (j * 5)).off + 4, none⟩ = some (.int .i64 (ts[j]?.getD noTk).col))

theorem RdT.keep {w w' : World} {B : Nat} {A : Option Addr} {n : Nat} {ts : List Tk} (h : RdT w B A n ts) (hk : ∀ p : Addr, p.block < B → w'.cell? p = w.cell? p) : RdT w' B A n ts :=
  ⟨h.1, fun hn => by
    obtain ⟨ad, e, hb, hc⟩ := h.2 hn
    have hbj : ∀ j, (ad.add (j * 5)).block < B := fun j => by rw [blk_add]; exact hb
    refine ⟨ad, e, hb, fun j hj => ?_⟩
    obtain ⟨h1, h2, h3, h4, h5⟩ := hc j hj
    exact ⟨(hk _ (hbj j)).trans h1, (hk ⟨(ad.add (j * 5)).block, _, none⟩ (hbj j)).trans h2, (hk ⟨(ad.add (j * 5)).block, _, none⟩ (hbj j)).trans h3, (hk ⟨(ad.add (j * 5)).block, _, none⟩ (hbj j)).trans h4, (hk ⟨(ad.add (j * 5)).block, _, none⟩ (hbj j)).trans h5⟩⟩

theorem RdT.below {w w' : World} {B : Nat} {A : Option Addr} {n : Nat} {ts : List Tk} (h : RdT w B A n ts) (hb : Below B w w') : RdT w' B A n ts := h.keep fun _ hp => hb.cell hp

theorem RdT.more {w : World} {B B' : Nat} {A : Option Addr} {n : Nat} {ts : List Tk} (h : RdT w B A n ts) (hB : B ≤ B') : RdT w B' A n ts :=
  ⟨h.1, fun hn => by
    obtain ⟨ad, e, hb, hc⟩ := h.2 hn
    exact ⟨ad, e, by omega, hc⟩⟩

theorem RdT.nil (w : World) (B : Nat) (A : Option Addr) : RdT w B A 0 [] := ⟨rfl, fun h => absurd h (by omega)⟩

end

section
open Go.RowKit
set_option linter.unusedVariables false

/-- an expression, with where its list lies -/
inductive EL where
  | mk (kind op num : Int) (name : List UInt8) (A : Option Addr) (n c : Nat) (args : List EL)

namespace EL
def kind : EL → Int | .mk k _ _ _ _ _ _ _ => k
def op : EL → Int | .mk _ o _ _ _ _ _ _ => o
def num : EL → Int | .mk _ _ m _ _ _ _ _ => m
def name : EL → List UInt8 | .mk _ _ _ s _ _ _ _ => s
def A : EL → Option Addr | .mk _ _ _ _ A _ _ _ => A
def n : EL → Nat | .mk _ _ _ _ _ n _ _ => n
def c : EL → Nat | .mk _ _ _ _ _ _ c _ => c
def args : EL → List EL | .mk _ _ _ _ _ _ _ as1 => as1
end EL

def nilE : EL := .mk 0 0 0 [] none 0 0 []
/-- an expression by value -/
def eCells (e : EL) : Array Value := #[.int .i64 e.kind, .int .i64 e.op, .int .i64 e.num, .string (bs e.name), .slice e.A e.n e.c]
def eVal (e : EL) : Value := .agg (eCells e)

/-- a row of expressions -/
def RowE (w : World) (B : Nat) (A : Option Addr) (n : Nat) (es : List EL) : Prop :=
  es.length = n ∧ (n : Int) ≤ 9223372036854775807 ∧ (0 < n → ∃ ad : Addr, A = some ad ∧ ad.block < B ∧ ∀ j, j < es.length → w.cell? (ad.add (j * 5)) = some (.int .i64 (es[j]?.getD nilE).kind) ∧
    w.cell? ⟨(ad.add (j * 5)).block, (ad.add (j * 5)).off + 1, none⟩ = some (.int .i64 (es[j]?.getD nilE).op) ∧ w.cell? ⟨(ad.add (j * 5)).block, (ad.add (j * 5)).off + 2, none⟩ = some (.int .i64 (es[j]?.getD nilE).num) ∧
    w.cell? ⟨(ad.add (j * 5)).block, (ad.add (j * 5)).off + 3, none⟩ = some (.string (bs (es[j]?.getD nilE).name)) ∧ w.cell? ⟨(ad.add (j * 5)).block, (ad.add (j * 5)).off + 4, none⟩ = some (.slice (es[j]?.getD nilE).A (es[j]?.getD nilE).n (es[j]?.getD nilE).c))

theorem RowE.keep {w w' : World} {B : Nat} {A : Option Addr} {n : Nat} {es : List EL} (h : RowE w B A n es) (hk : ∀ p : Addr, p.block < B → w'.cell? p = w.cell? p) : RowE w' B A n es :=
  ⟨h.1, h.2.1, fun hn => by
    obtain ⟨ad, e, hb, hc⟩ := h.2.2 hn
    have hbj : ∀ j, (ad.add (j * 5)).block < B := fun j => by rw [blk_add]; exact hb
    refine ⟨ad, e, hb, fun j hj => ?_⟩
    obtain ⟨h1, h2, h3, h4, h5⟩ := hc j hj
    exact ⟨(hk _ (hbj j)).trans h1, (hk ⟨(ad.add (j * 5)).block, _, none⟩ (hbj j)).trans h2, (hk ⟨(ad.add (j * 5)).block, _, none⟩ (hbj j)).trans h3, (hk ⟨(ad.add (j * 5)).block, _, none⟩ (hbj j)).trans h4, (hk ⟨(ad.add (j * 5)).block, _, none⟩ (hbj j)).trans h5⟩⟩

theorem RowE.below {w w' : World} {B : Nat} {A : Option Addr} {n : Nat} {es : List EL} (h : RowE w B A n es) (hb : Below B w w') : RowE w' B A n es := h.keep fun _ hp => hb.cell hp

theorem RowE.more {w : World} {B B' : Nat} {A : Option Addr} {n : Nat} {es : List EL} (h : RowE w B A n es) (hB : B ≤ B') : RowE w B' A n es :=
  ⟨h.1, h.2.1, fun hn => by
    obtain ⟨ad, e, hb, hc⟩ := h.2.2 hn
    exact ⟨ad, e, by omega, hc⟩⟩

/- an expression, and all below it, lies in the world -/
mutual
def EL.In (w : World) (B : Nat) : EL → Prop
  | .mk _ _ m s A n _ args => ((-9223372036854775808 ≤ m ∧ m ≤ 9223372036854775807) ∧ (s.length : Int) ≤ 9223372036854775807 ∧ RowE w B A n args) ∧ EL.Ins w B args
def EL.Ins (w : World) (B : Nat) : List EL → Prop
  | [] => True
  | x :: r => EL.In w B x ∧ EL.Ins w B r
end

theorem EL.Ins.mem {w : World} {B : Nat} : ∀ {l : List EL}, EL.Ins w B l → ∀ x ∈ l, EL.In w B x := by
  intro l
  induction l with
  | nil => intro _ x h; cases h
  | cons y r ih =>
    intro h x hx
    unfold EL.Ins at h
    rcases List.mem_cons.mp hx with rfl | hx
    · exact h.1
    · exact ih h.2 x hx

theorem EL.Ins.of {w : World} {B : Nat} : ∀ {l : List EL}, (∀ x ∈ l, EL.In w B x) → EL.Ins w B l := by
  intro l
  induction l with
  | nil => intro _; unfold EL.Ins; trivial
  | cons y r ih =>
    intro h
    unfold EL.Ins
    exact ⟨h y (by simp), ih fun x hx => h x (by simp [hx])⟩

theorem EL.In.row {w : World} {B : Nat} {e : EL} (h : e.In w B) : RowE w B e.A e.n e.args := by
  cases e
  unfold EL.In at h
  exact h.1.2.2
theorem EL.In.args {w : World} {B : Nat} {e : EL} (h : e.In w B) : EL.Ins w B e.args := by
  cases e
  unfold EL.In at h
  exact h.2
theorem EL.In.fit {w : World} {B : Nat} {e : EL} (h : e.In w B) : (-9223372036854775808 ≤ e.num ∧ e.num ≤ 9223372036854775807) ∧ (e.name.length : Int) ≤ 9223372036854775807 := by
  cases e
  unfold EL.In at h
  exact ⟨h.1.1, h.1.2.1⟩
theorem EL.In.at {w : World} {B : Nat} {e : EL} (h : e.In w B) {j : Nat} (hj : j < e.n) : (e.args[j]?.getD nilE).In w B := by
  have hl := h.row.1
  rw [List.getElem?_eq_getElem (by omega)]
  exact EL.Ins.mem h.args _ (List.getElem_mem _)
theorem EL.Ins.at {w : World} {B : Nat} {l : List EL} (h : EL.Ins w B l) {j : Nat} (hj : j < l.length) : (l[j]?.getD nilE).In w B := by
  rw [List.getElem?_eq_getElem hj]
  exact EL.Ins.mem h _ (List.getElem_mem _)

/- how great -/
mutual
def sizeE : EL → Nat
  | .mk _ _ _ _ _ _ _ as1 => 1 + sizeEs as1
def sizeEs : List EL → Nat
  | [] => 0
  | x :: r => sizeE x + sizeEs r
end

theorem sizeE_eq (e : EL) : sizeE e = 1 + sizeEs e.args := by
  cases e
  unfold sizeE
  rfl
theorem sizeEs_cons (x : EL) (r : List EL) : sizeEs (x :: r) = sizeE x + sizeEs r := by
  conv => lhs; unfold sizeEs
theorem sizeEs_app (a b : List EL) : sizeEs (a ++ b) = sizeEs a + sizeEs b := by
  induction a with
  | nil => rw [List.nil_append]; unfold sizeEs; omega
  | cons x a ih => rw [List.cons_append, sizeEs_cons, sizeEs_cons, ih]; omega
theorem sizeE_mem {x : EL} {l : List EL} (h : x ∈ l) : sizeE x ≤ sizeEs l := by
  induction l with
  | nil => cases h
  | cons y r ih =>
    rw [sizeEs_cons]
    rcases List.mem_cons.mp h with rfl | h
    · omega
    · have := ih h; omega
theorem sizeEs_take {l : List EL} {j : Nat} (h : j < l.length) : sizeEs (l.take (j + 1)) = sizeEs (l.take j) + sizeE (l[j]?.getD nilE) := by
  rw [List.take_succ_eq_append_getElem h, sizeEs_app, List.getElem?_eq_getElem h]
  congr 1
theorem sizeE_at {l : List EL} {j : Nat} (h : j < l.length) : sizeE (l[j]?.getD nilE) ≤ sizeEs l := by
  rw [List.getElem?_eq_getElem h]
  exact sizeE_mem (List.getElem_mem h)

/-- induction by size -/
theorem EL.ind {p : EL → Prop} (h : ∀ e, (∀ x ∈ e.args, p x) → p e) : ∀ e, p e := by
  have key : ∀ (k : Nat) (e : EL), sizeE e ≤ k → p e := by
    intro k
    induction k with
    | zero => intro e he; rw [sizeE_eq] at he; omega
    | succ k ih =>
      intro e he
      rw [sizeE_eq] at he
      exact h e fun x hx => ih x (by have := sizeE_mem hx; omega)
  intro e
  exact key _ e (Nat.le_refl _)

theorem EL.In.keep {w w' : World} {B : Nat} (hk : ∀ p : Addr, p.block < B → w'.cell? p = w.cell? p) : ∀ {e : EL}, e.In w B → e.In w' B := by
  intro e
  refine EL.ind (p := fun e => e.In w B → e.In w' B) (fun e ih h => ?_) e
  cases e
  unfold EL.In at h ⊢
  exact ⟨⟨h.1.1, h.1.2.1, h.1.2.2.keep hk⟩, EL.Ins.of fun x hx => ih x hx (EL.Ins.mem h.2 x hx)⟩
theorem EL.In.below {w w' : World} {B : Nat} {e : EL} (h : e.In w B) (hb : Below B w w') : e.In w' B := h.keep fun _ hp => hb.cell hp
theorem EL.In.more {w : World} {B B' : Nat} (hB : B ≤ B') : ∀ {e : EL}, e.In w B → e.In w B' := by
  intro e
  refine EL.ind (p := fun e => e.In w B → e.In w B') (fun e ih h => ?_) e
  cases e
  unfold EL.In at h ⊢
  exact ⟨⟨h.1.1, h.1.2.1, h.1.2.2.more hB⟩, EL.Ins.of fun x hx => ih x hx (EL.Ins.mem h.2 x hx)⟩
theorem EL.Ins.below {w w' : World} {B : Nat} {l : List EL} (h : EL.Ins w B l) (hb : Below B w w') : EL.Ins w' B l := EL.Ins.of fun x hx => (EL.Ins.mem h x hx).below hb
theorem EL.Ins.more {w : World} {B B' : Nat} {l : List EL} (h : EL.Ins w B l) (hB : B ≤ B') : EL.Ins w B' l := EL.Ins.of fun x hx => (EL.Ins.mem h x hx).more hB

/- how deep -/
mutual
def depE : EL → Nat
  | .mk _ _ _ _ _ _ _ as1 => depEs as1 + 1
def depEs : List EL → Nat
  | [] => 0
  | x :: r => max (depE x) (depEs r)
end
theorem depE_eq (e : EL) : depE e = depEs e.args + 1 := by
  cases e
  unfold depE
  rfl
theorem depEs_cons (x : EL) (r : List EL) : depEs (x :: r) = max (depE x) (depEs r) := by
  conv => lhs; unfold depEs
theorem depEs_mem {x : EL} {l : List EL} (h : x ∈ l) : depE x ≤ depEs l := by
  induction l with
  | nil => cases h
  | cons y r ih =>
    rw [depEs_cons]
    rcases List.mem_cons.mp h with rfl | h
    · exact Nat.le_max_left _ _
    · exact Nat.le_trans (ih h) (Nat.le_max_right _ _)
theorem depEs_app (a b : List EL) : depEs (a ++ b) = max (depEs a) (depEs b) := by
  induction a with
  | nil => rw [List.nil_append]; unfold depEs; rw [Nat.zero_max]
  | cons x a ih => rw [List.cons_append, depEs_cons, depEs_cons, ih, Nat.max_assoc]
theorem depEs_take {l : List EL} {j : Nat} (h : j < l.length) : depEs (l.take (j + 1)) = max (depEs (l.take j)) (depE (l[j]?.getD nilE)) := by
  rw [List.take_succ_eq_append_getElem h, depEs_app, List.getElem?_eq_getElem h, depEs_cons]
  congr 1
  show max (depE l[j]) (depEs []) = depE l[j]
  unfold depEs
  exact Nat.max_zero _
/-- cut off -/
def depC (k : Nat) (e : EL) : Nat := min k (depE e)

theorem depE_pos (e : EL) : 1 ≤ depE e := by rw [depE_eq]; exact Nat.succ_le_succ (Nat.zero_le _)

/- the same? -/
mutual
def sameE : EL → EL → Bool
  | .mk k o m s _ _ _ as1, f => decide (k = f.kind) && decide (o = f.op) && decide (m = f.num) && decide (s = f.name) && sameEs as1 f.args
def sameEs : List EL → List EL → Bool
  | [], l => l.isEmpty
  | x :: r, l => match l with
    | [] => false
    | y :: t => sameE x y && sameEs r t
end
theorem sameE_eq (e f : EL) : sameE e f = (decide (e.kind = f.kind) && decide (e.op = f.op) && decide (e.num = f.num) && decide (e.name = f.name) && sameEs e.args f.args) := by
  cases e
  unfold sameE
  rfl
theorem sameEs_cons (x y : EL) (r t : List EL) : sameEs (x :: r) (y :: t) = (sameE x y && sameEs r t) := by
  conv => lhs; unfold sameEs
theorem sameEs_len : ∀ {a b : List EL}, sameEs a b = true → a.length = b.length := by
  intro a
  induction a with
  | nil =>
    intro b h
    unfold sameEs at h
    rw [List.isEmpty_iff] at h
    rw [h]
  | cons x a ih =>
    intro b h
    cases b with
    | nil => unfold sameEs at h; cases h
    | cons y b =>
      rw [sameEs_cons, Bool.and_eq_true] at h
      rw [List.length_cons, List.length_cons, ih h.2]

end

section
open Go.RowKit
set_option linter.unusedVariables false

/-- a statement, with where its lists lie -/
inductive SL where
  | mk (kind num : Int) (name : List UInt8) (A : Option Addr) (n c : Nat) (args : List EL) (A1 : Option Addr) (n1 c1 : Nat) (body : List SL) (A2 : Option Addr) (n2 c2 : Nat) (els : List SL)

namespace SL
def kind : SL → Int | .mk k _ _ _ _ _ _ _ _ _ _ _ _ _ _ => k
def num : SL → Int | .mk _ m _ _ _ _ _ _ _ _ _ _ _ _ _ => m
def name : SL → List UInt8 | .mk _ _ s _ _ _ _ _ _ _ _ _ _ _ _ => s
def A : SL → Option Addr | .mk _ _ _ A _ _ _ _ _ _ _ _ _ _ _ => A
def n : SL → Nat | .mk _ _ _ _ n _ _ _ _ _ _ _ _ _ _ => n
def c : SL → Nat | .mk _ _ _ _ _ c _ _ _ _ _ _ _ _ _ => c
def args : SL → List EL | .mk _ _ _ _ _ _ as1 _ _ _ _ _ _ _ _ => as1
def A1 : SL → Option Addr | .mk _ _ _ _ _ _ _ A _ _ _ _ _ _ _ => A
def n1 : SL → Nat | .mk _ _ _ _ _ _ _ _ n _ _ _ _ _ _ => n
def c1 : SL → Nat | .mk _ _ _ _ _ _ _ _ _ c _ _ _ _ _ => c
def body : SL → List SL | .mk _ _ _ _ _ _ _ _ _ _ b _ _ _ _ => b
def A2 : SL → Option Addr | .mk _ _ _ _ _ _ _ _ _ _ _ A _ _ _ => A
def n2 : SL → Nat | .mk _ _ _ _ _ _ _ _ _ _ _ _ n _ _ => n
def c2 : SL → Nat | .mk _ _ _ _ _ _ _ _ _ _ _ _ _ c _ => c
def els : SL → List SL | .mk _ _ _ _ _ _ _ _ _ _ _ _ _ _ b => b
end SL

def nilS : SL := .mk 0 0 [] none 0 0 [] none 0 0 [] none 0 0 []
/-- a statement by value -/
def sCells (s : SL) : Array Value := #[.int .i64 s.kind, .int .i64 s.num, .string (bs s.name), .slice s.A s.n s.c, .slice s.A1 s.n1 s.c1, .slice s.A2 s.n2 s.c2]
def sVal (s : SL) : Value := .agg (sCells s)

/-- a row of statements -/
def RowS6 (w : World) (B : Nat) (A : Option Addr) (n : Nat) (ss : List SL) : Prop :=
  ss.length = n ∧ (n : Int) ≤ 9223372036854775807 ∧ (0 < n → ∃ ad : Addr, A = some ad ∧ ad.block < B ∧ ∀ j, j < ss.length → w.cell? (ad.add (j * 6)) = some (.int .i64 (ss[j]?.getD nilS).kind) ∧
    w.cell? ⟨(ad.add (j * 6)).block, (ad.add (j * 6)).off + 1, none⟩ = some (.int .i64 (ss[j]?.getD nilS).num) ∧ w.cell? ⟨(ad.add (j * 6)).block, (ad.add (j * 6)).off + 2, none⟩ = some (.string (bs (ss[j]?.getD nilS).name)) ∧
    w.cell? ⟨(ad.add (j * 6)).block, (ad.add (j * 6)).off + 3, none⟩ = some (.slice (ss[j]?.getD nilS).A (ss[j]?.getD nilS).n (ss[j]?.getD nilS).c) ∧ w.cell? ⟨(ad.add (j * 6)).block, (ad.add (j * 6)).off + 4, none⟩ = some (.slice (ss[j]?.getD nilS).A1 (ss[j]?.getD nilS).n1 (ss[j]?.getD nilS).c1) ∧
    w.cell? ⟨(ad.add (j * 6)).block, (ad.add (j * 6)).off + 5, none⟩ = some (.slice (ss[j]?.getD nilS).A2 (ss[j]?.getD nilS).n2 (ss[j]?.getD nilS).c2))

theorem RowS6.keep {w w' : World} {B : Nat} {A : Option Addr} {n : Nat} {ss : List SL} (h : RowS6 w B A n ss) (hk : ∀ p : Addr, p.block < B → w'.cell? p = w.cell? p) : RowS6 w' B A n ss :=
  ⟨h.1, h.2.1, fun hn => by
    obtain ⟨ad, e, hb, hc⟩ := h.2.2 hn
    have hbj : ∀ j, (ad.add (j * 6)).block < B := fun j => by rw [blk_add]; exact hb
    refine ⟨ad, e, hb, fun j hj => ?_⟩
    obtain ⟨h1, h2, h3, h4, h5, h6⟩ := hc j hj
    exact ⟨(hk _ (hbj j)).trans h1, (hk ⟨(ad.add (j * 6)).block, _, none⟩ (hbj j)).trans h2, (hk ⟨(ad.add (j * 6)).block, _, none⟩ (hbj j)).trans h3, (hk ⟨(ad.add (j * 6)).block, _, none⟩ (hbj j)).trans h4, (hk ⟨(ad.add (j * 6)).block, _, none⟩ (hbj j)).trans h5, (hk ⟨(ad.add (j * 6)).block, _, none⟩ (hbj j)).trans h6⟩⟩

theorem RowS6.below {w w' : World} {B : Nat} {A : Option Addr} {n : Nat} {ss : List SL} (h : RowS6 w B A n ss) (hb : Below B w w') : RowS6 w' B A n ss := h.keep fun _ hp => hb.cell hp

theorem RowS6.more {w : World} {B B' : Nat} {A : Option Addr} {n : Nat} {ss : List SL} (h : RowS6 w B A n ss) (hB : B ≤ B') : RowS6 w B' A n ss :=
  ⟨h.1, h.2.1, fun hn => by
    obtain ⟨ad, e, hb, hc⟩ := h.2.2 hn
    exact ⟨ad, e, by omega, hc⟩⟩

/- a statement, and all below it, lies in the world -/
mutual
def SL.In (w : World) (B : Nat) : SL → Prop
  | .mk _ m s A n _ args A1 n1 _ body A2 n2 _ els => ((-9223372036854775808 ≤ m ∧ m ≤ 9223372036854775807) ∧ (s.length : Int) ≤ 9223372036854775807 ∧ (RowE w B A n args ∧ EL.Ins w B args) ∧ RowS6 w B A1 n1 body ∧ RowS6 w B A2 n2 els) ∧ SL.Ins w B body ∧ SL.Ins w B els
def SL.Ins (w : World) (B : Nat) : List SL → Prop
  | [] => True
  | x :: r => SL.In w B x ∧ SL.Ins w B r
end

theorem SL.Ins.mem {w : World} {B : Nat} : ∀ {l : List SL}, SL.Ins w B l → ∀ x ∈ l, SL.In w B x := by
  intro l
  induction l with
  | nil => intro _ x h; cases h
  | cons y r ih =>
    intro h x hx
    unfold SL.Ins at h
    rcases List.mem_cons.mp hx with rfl | hx
    · exact h.1
    · exact ih h.2 x hx

theorem SL.Ins.of {w : World} {B : Nat} : ∀ {l : List SL}, (∀ x ∈ l, SL.In w B x) → SL.Ins w B l := by
  intro l
  induction l with
  | nil => intro _; unfold SL.Ins; trivial
  | cons y r ih =>
    intro h
    unfold SL.Ins
    exact ⟨h y (by simp), ih fun x hx => h x (by simp [hx])⟩

theorem SL.In.parts {w : World} {B : Nat} {s : SL} (h : s.In w B) : ((-9223372036854775808 ≤ s.num ∧ s.num ≤ 9223372036854775807) ∧ (s.name.length : Int) ≤ 9223372036854775807 ∧ (RowE w B s.A s.n s.args ∧ EL.Ins w B s.args) ∧ RowS6 w B s.A1 s.n1 s.body ∧ RowS6 w B s.A2 s.n2 s.els) ∧ SL.Ins w B s.body ∧ SL.Ins w B s.els := by
  cases s
  unfold SL.In at h
  exact h
theorem SL.In.mk {w : World} {B : Nat} {s : SL} (h : ((-9223372036854775808 ≤ s.num ∧ s.num ≤ 9223372036854775807) ∧ (s.name.length : Int) ≤ 9223372036854775807 ∧ (RowE w B s.A s.n s.args ∧ EL.Ins w B s.args) ∧ RowS6 w B s.A1 s.n1 s.body ∧ RowS6 w B s.A2 s.n2 s.els) ∧ SL.Ins w B s.body ∧ SL.Ins w B s.els) : s.In w B := by
  cases s
  unfold SL.In
  exact h
theorem SL.Ins.at {w : World} {B : Nat} {l : List SL} (h : SL.Ins w B l) {j : Nat} (hj : j < l.length) : (l[j]?.getD nilS).In w B := by
  rw [List.getElem?_eq_getElem hj]
  exact SL.Ins.mem h _ (List.getElem_mem _)

/- how many -/
mutual
def sizeS : SL → Nat
  | .mk _ _ _ _ _ _ _ _ _ _ body _ _ _ els => 1 + sizeSs body + sizeSs els
def sizeSs : List SL → Nat
  | [] => 0
  | x :: r => sizeS x + sizeSs r
end
theorem sizeS_eq (s : SL) : sizeS s = 1 + sizeSs s.body + sizeSs s.els := by
  cases s
  unfold sizeS
  rfl
theorem sizeSs_cons (x : SL) (r : List SL) : sizeSs (x :: r) = sizeS x + sizeSs r := by
  conv => lhs; unfold sizeSs
theorem sizeSs_app (a b : List SL) : sizeSs (a ++ b) = sizeSs a + sizeSs b := by
  induction a with
  | nil => rw [List.nil_append]; unfold sizeSs; omega
  | cons x a ih => rw [List.cons_append, sizeSs_cons, sizeSs_cons, ih]; omega
theorem sizeS_mem {x : SL} {l : List SL} (h : x ∈ l) : sizeS x ≤ sizeSs l := by
  induction l with
  | nil => cases h
  | cons y r ih =>
    rw [sizeSs_cons]
    rcases List.mem_cons.mp h with rfl | h
    · omega
    · have := ih h; omega
theorem sizeSs_take {l : List SL} {j : Nat} (h : j < l.length) : sizeSs (l.take (j + 1)) = sizeSs (l.take j) + sizeS (l[j]?.getD nilS) := by
  rw [List.take_succ_eq_append_getElem h, sizeSs_app, List.getElem?_eq_getElem h]
  congr 1

/-- induction by size -/
theorem SL.ind {p : SL → Prop} (h : ∀ s, (∀ x ∈ s.body, p x) → (∀ x ∈ s.els, p x) → p s) : ∀ s, p s := by
  have key : ∀ (k : Nat) (s : SL), sizeS s ≤ k → p s := by
    intro k
    induction k with
    | zero => intro s hs; rw [sizeS_eq] at hs; omega
    | succ k ih =>
      intro s hs
      rw [sizeS_eq] at hs
      exact h s (fun x hx => ih x (by have := sizeS_mem hx; omega)) (fun x hx => ih x (by have := sizeS_mem hx; omega))
  intro s
  exact key _ s (Nat.le_refl _)

theorem SL.In.keep {w w' : World} {B : Nat} (hk : ∀ p : Addr, p.block < B → w'.cell? p = w.cell? p) : ∀ {s : SL}, s.In w B → s.In w' B := by
  intro s
  refine SL.ind (p := fun s => s.In w B → s.In w' B) (fun s ih1 ih2 h => ?_) s
  obtain ⟨⟨h1, h2, ⟨h3, h4⟩, h5, h6⟩, h7, h8⟩ := h.parts
  exact SL.In.mk ⟨⟨h1, h2, ⟨h3.keep hk, EL.Ins.of fun x hx => (EL.Ins.mem h4 x hx).keep hk⟩, h5.keep hk, h6.keep hk⟩, SL.Ins.of fun x hx => ih1 x hx (SL.Ins.mem h7 x hx), SL.Ins.of fun x hx => ih2 x hx (SL.Ins.mem h8 x hx)⟩
theorem SL.In.below {w w' : World} {B : Nat} {s : SL} (h : s.In w B) (hb : Below B w w') : s.In w' B := h.keep fun _ hp => hb.cell hp
theorem SL.In.more {w : World} {B B' : Nat} (hB : B ≤ B') : ∀ {s : SL}, s.In w B → s.In w B' := by
  intro s
  refine SL.ind (p := fun s => s.In w B → s.In w B') (fun s ih1 ih2 h => ?_) s
  obtain ⟨⟨h1, h2, ⟨h3, h4⟩, h5, h6⟩, h7, h8⟩ := h.parts
  exact SL.In.mk ⟨⟨h1, h2, ⟨h3.more hB, h4.more hB⟩, h5.more hB, h6.more hB⟩, SL.Ins.of fun x hx => ih1 x hx (SL.Ins.mem h7 x hx), SL.Ins.of fun x hx => ih2 x hx (SL.Ins.mem h8 x hx)⟩
theorem SL.Ins.below {w w' : World} {B : Nat} {l : List SL} (h : SL.Ins w B l) (hb : Below B w w') : SL.Ins w' B l := SL.Ins.of fun x hx => (SL.Ins.mem h x hx).below hb
theorem SL.Ins.more {w : World} {B B' : Nat} {l : List SL} (h : SL.Ins w B l) (hB : B ≤ B') : SL.Ins w B' l := SL.Ins.of fun x hx => (SL.Ins.mem h x hx).more hB

/- how deep: a list's depth -/
mutual
def depS : SL → Nat
  | .mk _ _ _ _ _ _ as1 _ _ _ body _ _ _ els => max (depEs as1) (max (depSs body) (depSs els))
def depSs : List SL → Nat
  | [] => 0
  | x :: r => max (depS x + 1) (depSs r)
end
theorem depS_eq (s : SL) : depS s = max (depEs s.args) (max (depSs s.body) (depSs s.els)) := by
  cases s
  unfold depS
  rfl
theorem depSs_cons (x : SL) (r : List SL) : depSs (x :: r) = max (depS x + 1) (depSs r) := by
  conv => lhs; unfold depSs

/- the same? -/
mutual
def sameS : SL → SL → Bool
  | .mk k m s _ _ _ as1 _ _ _ body _ _ _ els, t => decide (k = t.kind) && decide (m = t.num) && decide (s = t.name) && sameEs as1 t.args && sameSs body t.body && sameSs els t.els
def sameSs : List SL → List SL → Bool
  | [], l => l.isEmpty
  | x :: r, l => match l with
    | [] => false
    | y :: t => sameS x y && sameSs r t
end
theorem sameS_eq (s t : SL) : sameS s t = (decide (s.kind = t.kind) && decide (s.num = t.num) && decide (s.name = t.name) && sameEs s.args t.args && sameSs s.body t.body && sameSs s.els t.els) := by
  cases s
  unfold sameS
  rfl
theorem sameSs_cons (x y : SL) (r t : List SL) : sameSs (x :: r) (y :: t) = (sameS x y && sameSs r t) := by
  conv => lhs; unfold sameSs
theorem sameSs_len : ∀ {a b : List SL}, sameSs a b = true → a.length = b.length := by
  intro a
  induction a with
  | nil =>
    intro b h
    unfold sameSs at h
    rw [List.isEmpty_iff] at h
    rw [h]
  | cons x a ih =>
    intro b h
    cases b with
    | nil => unfold sameSs at h; cases h
    | cons y b =>
      rw [sameSs_cons, Bool.and_eq_true] at h
      rw [List.length_cons, List.length_cons, ih h.2]

end

section
open Go.RowKit
set_option linter.unusedVariables false
set_option linter.unusedSimpArgs false

/- a plain expression, a plain statement: no addresses -/
inductive PE where
  | mk (kind op num : Int) (name : List UInt8) (args : List PE)
namespace PE
def kind : PE → Int | .mk k _ _ _ _ => k
def op : PE → Int | .mk _ o _ _ _ => o
def num : PE → Int | .mk _ _ m _ _ => m
def name : PE → List UInt8 | .mk _ _ _ s _ => s
def args : PE → List PE | .mk _ _ _ _ a => a
end PE
inductive PS where
  | mk (kind num : Int) (name : List UInt8) (args : List PE) (body els : List PS)
namespace PS
def kind : PS → Int | .mk k _ _ _ _ _ => k
def num : PS → Int | .mk _ m _ _ _ _ => m
def name : PS → List UInt8 | .mk _ _ s _ _ _ => s
def args : PS → List PE | .mk _ _ _ a _ _ => a
def body : PS → List PS | .mk _ _ _ _ b _ => b
def els : PS → List PS | .mk _ _ _ _ _ e => e
end PS
def nilP : PE := .mk 0 0 0 [] []

mutual
def plE : EL → PE
  | .mk k o m s _ _ _ as1 => .mk k o m s (plEs as1)
def plEs : List EL → List PE
  | [] => []
  | x :: r => plE x :: plEs r
end
mutual
def plS : SL → PS
  | .mk k m s _ _ _ as1 _ _ _ b _ _ _ e => .mk k m s (plEs as1) (plSs b) (plSs e)
def plSs : List SL → List PS
  | [] => []
  | x :: r => plS x :: plSs r
end
theorem plEs_map : ∀ l : List EL, plEs l = l.map plE := by
  intro l
  induction l with
  | nil => unfold plEs; rfl
  | cons x r ih => unfold plEs; rw [ih]; rfl
theorem plSs_map : ∀ l : List SL, plSs l = l.map plS := by
  intro l
  induction l with
  | nil => unfold plSs; rfl
  | cons x r ih => unfold plSs; rw [ih]; rfl
theorem plE_eq (e : EL) : plE e = .mk e.kind e.op e.num e.name (e.args.map plE) := by
  cases e
  unfold plE
  rw [plEs_map]
  rfl
theorem plS_eq (s : SL) : plS s = .mk s.kind s.num s.name (s.args.map plE) (s.body.map plS) (s.els.map plS) := by
  cases s
  unfold plS
  rw [plEs_map, plSs_map, plSs_map]
  rfl

theorem sameEs_pl : ∀ {a b : List EL}, (∀ x ∈ a, ∀ y, sameE x y = true ↔ plE x = plE y) → (sameEs a b = true ↔ a.map plE = b.map plE) := by
  intro a
  induction a with
  | nil =>
    intro b _
    unfold sameEs
    cases b <;> simp
  | cons x r ih =>
    intro b h
    cases b with
    | nil => unfold sameEs; simp
    | cons y t =>
      rw [sameEs_cons, Bool.and_eq_true, h x (by simp) y, ih (fun z hz => h z (by simp [hz]))]
      simp
theorem sameE_pl : ∀ (e f : EL), sameE e f = true ↔ plE e = plE f := by
  refine EL.ind fun e ih f => ?_
  rw [sameE_eq, plE_eq, plE_eq]
  simp only [Bool.and_eq_true, decide_eq_true_eq, PE.mk.injEq]
  rw [sameEs_pl ih]
  constructor
  · rintro ⟨⟨⟨⟨h1, h2⟩, h3⟩, h4⟩, h5⟩
    exact ⟨h1, h2, h3, h4, h5⟩
  · rintro ⟨h1, h2, h3, h4, h5⟩
    exact ⟨⟨⟨⟨h1, h2⟩, h3⟩, h4⟩, h5⟩
theorem sameEs_pl' (a b : List EL) : sameEs a b = true ↔ a.map plE = b.map plE := sameEs_pl fun x _ => sameE_pl x
theorem sameSs_pl : ∀ {a b : List SL}, (∀ x ∈ a, ∀ y, sameS x y = true ↔ plS x = plS y) → (sameSs a b = true ↔ a.map plS = b.map plS) := by
  intro a
  induction a with
  | nil =>
    intro b _
    unfold sameSs
    cases b <;> simp
  | cons x r ih =>
    intro b h
    cases b with
    | nil => unfold sameSs; simp
    | cons y t =>
      rw [sameSs_cons, Bool.and_eq_true, h x (by simp) y, ih (fun z hz => h z (by simp [hz]))]
      simp
theorem sameS_pl : ∀ (s t : SL), sameS s t = true ↔ plS s = plS t := by
  refine SL.ind fun s h1 h2 t => ?_
  rw [sameS_eq, plS_eq, plS_eq]
  simp only [Bool.and_eq_true, decide_eq_true_eq, PS.mk.injEq]
  rw [sameEs_pl', sameSs_pl h1, sameSs_pl h2]
  constructor
  · rintro ⟨⟨⟨⟨⟨a, b⟩, c⟩, d⟩, e⟩, f⟩
    exact ⟨a, b, c, d, e, f⟩
  · rintro ⟨a, b, c, d, e, f⟩
    exact ⟨⟨⟨⟨⟨a, b⟩, c⟩, d⟩, e⟩, f⟩

/- numbers of 16 bits -/
def wrapV (n : Int) : Int := if n.tmod 65536 < -32768 then n.tmod 65536 + 65536 else if 32767 < n.tmod 65536 then n.tmod 65536 - 65536 else n.tmod 65536
theorem wrapV_range (n : Int) : -32768 ≤ wrapV n ∧ wrapV n ≤ 32767 := by
  have h1 := Int.tmod_lt_of_pos n (show (0 : Int) < 65536 by decide)
  have h2 : -65536 < n.tmod 65536 := by
    rcases Int.le_total 0 n with h | h
    · have := Int.tmod_nonneg 65536 h
      omega
    · have h3 := Int.tmod_lt_of_pos (-n) (show (0 : Int) < 65536 by decide)
      rw [Int.neg_tmod] at h3
      omega
  unfold wrapV
  split
  · omega
  · split <;> omega
def addV (a b : Int) : Int := wrapV (wrapV a + wrapV b)
def subV (a b : Int) : Int := wrapV (wrapV a - wrapV b)
def mulV (a b : Int) : Int := wrapV (wrapV a * wrapV b)
def negV (n : Int) : Int := wrapV (0 - wrapV n)
def divV (a b : Int) : Int × Int := if wrapV b = 0 then (0, 1) else (wrapV ((wrapV a).tdiv (wrapV b)), 0)
def modV (a b : Int) : Int × Int := if wrapV b = 0 then (0, 1) else (wrapV a - (wrapV a).tdiv (wrapV b) * wrapV b, 0)
def truthV (b : Bool) : Int := if b then 1 else 0

/-- what an operator that asks something comes to -/
def holdsV (op a b : Int) : Bool × Bool :=
  if op = 1 then (decide (wrapV a ≠ 0) || decide (wrapV b ≠ 0), true)
  else if op = 2 then (decide (wrapV a ≠ 0) && decide (wrapV b ≠ 0), true)
  else if op = 3 then (decide (wrapV a = wrapV b), true)
  else if op = 4 then (decide (wrapV a ≠ wrapV b), true)
  else if op = 5 then (decide (wrapV a < wrapV b), true)
  else if op = 6 then (decide (wrapV a ≤ wrapV b), true)
  else if op = 7 then (decide (wrapV a > wrapV b), true)
  else if op = 8 then (decide (wrapV a ≥ wrapV b), true)
  else (false, false)
/-- what an operator comes to of two numbers -/
def binV (op a b : Int) : Int × Bool :=
  if (holdsV op a b).2 = true then (truthV (holdsV op a b).1, true)
  else if op = 10 then (addV a b, true)
  else if op = 11 then (subV a b, true)
  else if op = 12 then (mulV a b, true)
  else if op = 13 then ((divV a b).1, decide ((divV a b).2 = 0))
  else if op = 14 then ((modV a b).1, decide ((modV a b).2 = 0))
  else (0, false)

/- folding -/
def numP (n : Int) : PE := .mk 1 0 n [] []
/-- an expression whose arguments are folded -/
def stepF (p : PE) : PE :=
  if p.args.length = 1 ∧ (p.args[0]?.getD nilP).kind = 1 ∧ p.kind = 4 then numP (negV (p.args[0]?.getD nilP).num)
  else if p.args.length = 1 ∧ (p.args[0]?.getD nilP).kind = 1 ∧ p.kind = 5 then numP (truthV (decide (wrapV (p.args[0]?.getD nilP).num = 0)))
  else if p.kind ≠ 6 ∨ p.args.length ≠ 2 ∨ (p.args[0]?.getD nilP).kind ≠ 1 then p
  else if p.op = 2 ∧ wrapV (p.args[0]?.getD nilP).num = 0 then numP 0
  else if p.op = 1 ∧ wrapV (p.args[0]?.getD nilP).num ≠ 0 then numP 1
  else if (p.args[1]?.getD nilP).kind ≠ 1 then p
  else if (binV p.op (wrapV (p.args[0]?.getD nilP).num) (p.args[1]?.getD nilP).num).2 = true then numP (binV p.op (wrapV (p.args[0]?.getD nilP).num) (p.args[1]?.getD nilP).num).1
  else p
mutual
def foldP : PE → PE
  | .mk k o m s xs => stepF (.mk k o m s (foldPs xs))
def foldPs : List PE → List PE
  | [] => []
  | x :: r => foldP x :: foldPs r
end
theorem foldPs_map : ∀ l : List PE, foldPs l = l.map foldP := by
  intro l
  induction l with
  | nil => unfold foldPs; rfl
  | cons x r ih => unfold foldPs; rw [ih]; rfl
theorem foldP_eq (p : PE) : foldP p = stepF (.mk p.kind p.op p.num p.name (p.args.map foldP)) := by
  cases p
  unfold foldP
  rw [foldPs_map]
  rfl

end

section
open Go.RowKit
set_option linter.unusedVariables false

theorem expr_size : (Try.prog.info? 31).map (·.size) = some 5 := by kernel_rfl
theorem expr_one (a b c : Int) (s : ByteArray) (A : Option Addr) (n m : Nat) : (#[Value.int .i64 a, .int .i64 b, .int .i64 c, .string s, .slice A n m]).all (·.oneCell') = true := by simp [Value.oneCell']

theorem put_row {W V : World} {cs ds : Array Value} {t : TypeId} (h : V = (W.alloc (.cells cs t)).setRow W.heap.size ds) : Blk V W.heap.size t ds ∧ Below W.heap.size W V := by
  subst h
  exact ⟨setRow_heap _ _ _ _ _ _ (Blk.new W _ _), below_setRow ((Below.refl _ _).alloc (Nat.le_refl _) _) (Nat.le_refl _) _⟩

/-- an element of a row of expressions -/
theorem row_at {w : World} {B : Nat} {A : Option Addr} {n : Nat} {es : List EL} (h : RowE w B A n es) {j : Nat} (hj : j < n) : ∃ ad : Addr, A = some ad ∧ ad.block < B ∧ ∀ x : EL, x = es[j]?.getD nilE → w.cell? (ad.add (j * 5)) = some (.int .i64 x.kind) ∧
    w.cell? ⟨(ad.add (j * 5)).block, (ad.add (j * 5)).off + 1, none⟩ = some (.int .i64 x.op) ∧ w.cell? ⟨(ad.add (j * 5)).block, (ad.add (j * 5)).off + 2, none⟩ = some (.int .i64 x.num) ∧
    w.cell? ⟨(ad.add (j * 5)).block, (ad.add (j * 5)).off + 3, none⟩ = some (.string (bs x.name)) ∧ w.cell? ⟨(ad.add (j * 5)).block, (ad.add (j * 5)).off + 4, none⟩ = some (.slice x.A x.n x.c) := by
  obtain ⟨hl, _, hc⟩ := h
  obtain ⟨ad, e, hb, hc⟩ := hc (by omega)
  exact ⟨ad, e, hb, fun x hx => by subst hx; exact hc j (by omega)⟩

theorem min_one_dep (e : EL) : min 1 (depE e) = 1 := by have := depE_pos e; omega

set_option maxRecDepth 100000 in
set_option maxHeartbeats 6400000 in
theorem r10deep_any : ∀ (k : Nat), (k : Int) ≤ 100000 → ∀ (e : EL) (w : World), e.In w w.heap.size →
    Calls Try.prog 69 #[eVal e, .int .i64 ((k + 1 : Nat) : Int)] w fun f w' => f = .returned (.int .i64 ((min (k + 1) (depE e) : Nat) : Int)) ∧ Below w.heap.size w w' := by
  intro k
  induction k with
  | zero =>
    intro _ e w hin
    rw [min_one_dep]
    obtain ⟨k, o, m, s, A, n, c, es⟩ := e
    show Calls Try.prog _ #[.agg #[.int .i64 k, .int .i64 o, .int .i64 m, .string (bs s), .slice A n c], .int .i64 1] w fun f w' => f = .returned (.int .i64 1) ∧ Below w.heap.size w w'
    go_enter Try.func69, Try.ntmps69
    go_wp2_with fail
    go_ret
    exact ⟨rfl, (Below.refl _ _).alloc (Nat.le_refl _) _⟩
  | succ q ih =>
    intro hq e w hin
    have IH := Lib.hid (ih (by omega))
    have hrow := hin.row
    have hargs := hin.args
    rw [depE_eq]
    obtain ⟨k, o, m, s, A, n, c, es⟩ := e
    have hn : es.length = n := hrow.1
    have hn9 : (n : Int) ≤ 9223372036854775807 := hrow.2.1
    have HR : Hid (RowE w w.heap.size A n es) := Lib.hid hrow
    have HA : Hid (EL.Ins w w.heap.size es) := Lib.hid hargs
    have HL := Lib.hid hn
    show Calls Try.prog _ #[.agg #[.int .i64 k, .int .i64 o, .int .i64 m, .string (bs s), .slice A n c], .int .i64 ((q + 1 + 1 : Nat) : Int)] w fun f w' => f = .returned (.int .i64 ((min (q + 1 + 1) (depEs es + 1) : Nat) : Int)) ∧ Below w.heap.size w w'
    clear ih hrow hargs hin hn
    have hqi : (1 : Int) < ((q + 1 + 1 : Nat) : Int) := by omega
    have hqm : ((q + 1 + 1 : Nat) : Int) ≤ 100002 := by omega
    obtain ⟨Q, hQ⟩ : ∃ Q : Nat, Q = q + 1 + 1 := ⟨_, rfl⟩
    rw [← hQ] at hqi hqm ⊢
    have HQ := Lib.hid hQ
    have wq : IntKind.i64.wrap ((Q : Int) - 1) = ((q + 1 : Nat) : Int) := by rw [IntKind.wrap_i64]; omega
    have wq2 : wrap64 ((Q : Int) - 1) = ((q + 1 : Nat) : Int) := by rw [IntWalk.wrap64_in _ (by omega)]; omega
    obtain ⟨W, hW⟩ : ∃ W, W = w.alloc (.cells #[.int .i64 k, .int .i64 o, .int .i64 m, .string (bs s), .slice A n c] 31) := ⟨_, rfl⟩
    have HBW : Hid (Below w.heap.size w W) := Lib.hid (by rw [hW]; exact (Below.refl _ _).alloc (Nat.le_refl _) _)
    clear hq hQ
    go_enter Try.func69, Try.ntmps69
    go_wp2_with fail
    rw [← hW]
    clear hW
    go_loopw [5, 14] (fun vn vi wr => ∃ j d : Nat, j ≤ n ∧ vi = .int .i64 j ∧ vn = .int .i64 d ∧ Hid (d = min (q + 1) (depEs (es.take j))) ∧ Hid (Below W.heap.size W wr)) (fun _ vi _ => n - (intOf vi).toNat)
    case atStart => exact ⟨0, 0, Nat.zero_le _, rfl, rfl, Lib.hid (by rw [List.take_zero]; unfold depEs; omega), Lib.hid (Below.refl _ _)⟩
    case round =>
      obtain ⟨j, d, hj, rfl, rfl, HD, HB⟩ := hrel
      have HBR := Lib.hid (HBW.out.trans (HB.out.mono HBW.out.size))
      by_cases hlt : j < n
      · have hdt := depEs_take (l := es) (j := j) (by rw [HL.out]; exact hlt)
        have hxjl : j < es.length := by rw [HL.out]; exact hlt
        obtain ⟨xad, rfl, xab, xc⟩ := row_at (HR.out.below HBR.out) hlt
        have hx := HA.out.at hxjl
        have hxmem : (es[j]?.getD nilE) ∈ es := by rw [List.getElem?_eq_getElem hxjl]; exact List.getElem_mem _
        obtain ⟨x, hxe⟩ : ∃ x, x = es[j]?.getD nilE := ⟨_, rfl⟩
        obtain ⟨a0, a1, a2, a3, a4⟩ := xc x hxe
        rw [← hxe] at hx hxmem
        have HXx := Lib.hid hx
        have HEx := Lib.hid hxe
        have HMx := Lib.hid hxmem
        rw [← hxe] at hdt
        obtain ⟨xk, xo, xm, xs, xA, xn, xc', xes⟩ := x
        change wr.cell? (xad.add (j * 5)) = some (.int .i64 xk) at a0
        change wr.cell? ⟨(xad.add (j * 5)).block, (xad.add (j * 5)).off + 1, none⟩ = some (.int .i64 xo) at a1
        change wr.cell? ⟨(xad.add (j * 5)).block, (xad.add (j * 5)).off + 2, none⟩ = some (.int .i64 xm) at a2
        change wr.cell? ⟨(xad.add (j * 5)).block, (xad.add (j * 5)).off + 3, none⟩ = some (.string (bs xs)) at a3
        change wr.cell? ⟨(xad.add (j * 5)).block, (xad.add (j * 5)).off + 4, none⟩ = some (.slice xA xn xc') at a4
        clear xc hxe hx hxmem hxjl
        have HDT : Hid (depEs (es.take (j + 1)) = max (depEs (es.take j)) (depE (.mk xk xo xm xs xA xn xc' xes))) := Lib.hid hdt
        obtain ⟨z, hz⟩ : ∃ z, z = min (q + 1) (depE (.mk xk xo xm xs xA xn xc' xes)) := ⟨_, rfl⟩
        have HZ := Lib.hid hz
        have HC := Lib.hid (IH.out (.mk xk xo xm xs xA xn xc' xes))
        clear hdt hz
        go_wp2_with (first | (refine wpList_store_row rfl 31 _ _ rfl wr.heap.size #[.int .i64 xk, .int .i64 xo, .int .i64 xm, .string (bs xs), .slice xA xn xc'] rfl rfl _ _ (Blk.new wr _ _) expr_size rfl (expr_one _ _ _ _ _ _ _) ?_; obtain ⟨V, hV⟩ : ∃ V, V = (wr.alloc (.cells #[.int .i64 0, .int .i64 0, .int .i64 0, .string ⟨#[]⟩, .slice none 0 0] 31)).setRow wr.heap.size #[.int .i64 xk, .int .i64 xo, .int .i64 xm, .string (bs xs), .slice xA xn xc'] := ⟨_, rfl⟩; rw [← hV]; obtain ⟨hkV, hbV⟩ := put_row hV; have HKV := Lib.hid hkV; have HBV := Lib.hid hbV; clear hV hkV hbV) | (refine wpList_load_row rfl 31 _ rfl wr.heap.size rfl 31 #[.int .i64 xk, .int .i64 xo, .int .i64 xm, .string (bs xs), .slice xA xn xc'] (0, 0) _ HKV.out Try.underlying31 rfl expr_size ?_))
        have HBV2 := Lib.hid (HBR.out.trans (HBV.out.mono HBR.out.size))
        refine (HC.out V (EL.In.more HBV2.out.size (HXx.out.below HBV2.out))).mono ?_
        rintro f w2 ⟨rfl, hb2⟩
        rw [← HZ.out]
        have HB2 := Lib.hid (HB.out.trans ((HBV.out.trans (hb2.mono HBV.out.size)).mono HB.out.size))
        clear hb2
        by_cases hgt : d < z
        · have hgi : (d : Int) < (z : Int) := by omega
          have HN : Hid (z = min (q + 1) (depEs (es.take (j + 1)))) := Lib.hid (by rw [HDT.out]; have h1 := HZ.out; have h2 := HD.out; omega)
          clear hgt
          go_wp2_with fail
          go_roundw
          case rel => exact ⟨j + 1, z, by omega, by go_num, rfl, HN, HB2⟩
          case measure => simp [intOf]; omega
        · have hgi : ¬ (d : Int) < (z : Int) := by omega
          have HN : Hid (d = min (q + 1) (depEs (es.take (j + 1)))) := Lib.hid (by rw [HDT.out]; have h1 := HZ.out; have h2 := HD.out; omega)
          clear hgt
          go_wp2_with fail
          go_roundw
          case rel => exact ⟨j + 1, d, by omega, by go_num, rfl, HN, HB2⟩
          case measure => simp [intOf]; omega
      · obtain rfl : j = n := by omega
        have HE : Hid (d = min (q + 1) (depEs es)) := Lib.hid (by rw [HD.out, List.take_of_length_le (by rw [HL.out]; exact Nat.le_refl _)])
        have hd9 : (d : Int) ≤ 100001 := by have h1 := HE.out; have h2 := HQ.out; omega
        have HF : Hid ((d : Int) + 1 = ((min Q (depEs es + 1) : Nat) : Int)) := Lib.hid (by have h1 := HE.out; have h2 := HQ.out; omega)
        have wd : IntKind.i64.wrap ((d : Int) + 1) = (d : Int) + 1 := by rw [IntKind.wrap_i64]; omega
        go_wp2_with fail
        go_ret
        rw [← HF.out]
        exact ⟨rfl, HBR.out⟩

set_option maxRecDepth 100000 in
set_option maxHeartbeats 6400000 in
theorem r10Depth_any (e : EL) (w : World) (hin : e.In w w.heap.size) :
    Calls Try.prog 44 #[eVal e] w fun f w' => f = .returned (.int .i64 ((min 65 (depE e) : Nat) : Int)) ∧ Below w.heap.size w w' := by
  have hc := fun W (h : e.In W W.heap.size) => r10deep_any 64 (by decide) e W h
  have HC := Lib.hid hc
  obtain ⟨k, o, m, s, A, n, c, es⟩ := e
  have HI := Lib.hid hin
  clear hc hin
  obtain ⟨W, hW⟩ : ∃ W, W = w.alloc (.cells #[.int .i64 k, .int .i64 o, .int .i64 m, .string (bs s), .slice A n c] 31) := ⟨_, rfl⟩
  have HBW : Hid (Below w.heap.size w W) := Lib.hid (by rw [hW]; exact (Below.refl _ _).alloc (Nat.le_refl _) _)
  have HK : Hid (Blk W w.heap.size 31 #[.int .i64 k, .int .i64 o, .int .i64 m, .string (bs s), .slice A n c]) := Lib.hid (by rw [hW]; exact Blk.new _ _ _)
  show Calls Try.prog _ #[.agg #[.int .i64 k, .int .i64 o, .int .i64 m, .string (bs s), .slice A n c]] w _
  go_enter Try.func44, Try.ntmps44
  go_wp2_with fail
  rw [← hW]
  clear hW
  refine (HC.out W (EL.In.more HBW.out.size (HI.out.below HBW.out))).mono ?_
  rintro f w2 ⟨rfl, hb2⟩
  go_wp2_with fail
  go_ret
  exact ⟨rfl, HBW.out.trans (hb2.mono HBW.out.size)⟩

end

section
open Go.RowKit
set_option linter.unusedVariables false
set_option linter.unusedSimpArgs false

/- the rows of an expression lie in blocks of S -/
mutual
def EL.At (S : Nat → Prop) : EL → Prop
  | .mk _ _ _ _ A n _ args => (0 < n → ∀ ad : Addr, A = some ad → S ad.block) ∧ EL.Ats S args
def EL.Ats (S : Nat → Prop) : List EL → Prop
  | [] => True
  | x :: r => EL.At S x ∧ EL.Ats S r
end
theorem EL.Ats.iff {S : Nat → Prop} : ∀ {l : List EL}, EL.Ats S l ↔ ∀ x ∈ l, EL.At S x := by
  intro l
  induction l with
  | nil => unfold EL.Ats; simp
  | cons x r ih => unfold EL.Ats; rw [ih]; simp
theorem EL.At_eq {S : Nat → Prop} {e : EL} : e.At S ↔ (0 < e.n → ∀ ad : Addr, e.A = some ad → S ad.block) ∧ ∀ x ∈ e.args, x.At S := by
  cases e
  conv => lhs; unfold EL.At
  rw [EL.Ats.iff]
  rfl
theorem EL.In_eq {w : World} {B : Nat} {e : EL} : e.In w B ↔ ((-9223372036854775808 ≤ e.num ∧ e.num ≤ 9223372036854775807) ∧ (e.name.length : Int) ≤ 9223372036854775807 ∧ RowE w B e.A e.n e.args) ∧ ∀ x ∈ e.args, x.In w B := by
  cases e
  conv => lhs; unfold EL.In
  exact ⟨fun h => ⟨h.1, fun x hx => EL.Ins.mem h.2 x hx⟩, fun h => ⟨h.1, EL.Ins.of h.2⟩⟩
theorem EL.At.mono {S T : Nat → Prop} (h : ∀ b, S b → T b) : ∀ {e : EL}, e.At S → e.At T := by
  intro e
  refine EL.ind (p := fun e => e.At S → e.At T) (fun e ih ha => ?_) e
  rw [EL.At_eq] at ha ⊢
  exact ⟨fun hn ad had => h _ (ha.1 hn ad had), fun x hx => ih x hx (ha.2 x hx)⟩
theorem RowE.keepS {S : Nat → Prop} {w w' : World} {B B' : Nat} {A : Option Addr} {n : Nat} {es : List EL} (h : RowE w B A n es) (hs : 0 < n → ∀ ad : Addr, A = some ad → S ad.block) (hB : B ≤ B') (hk : ∀ p : Addr, S p.block → p.block < B → w'.cell? p = w.cell? p) : RowE w' B' A n es := by
  refine ⟨h.1, h.2.1, fun hn => ?_⟩
  obtain ⟨ad, e, hb, hc⟩ := h.2.2 hn
  have hS := hs hn ad e
  refine ⟨ad, e, by omega, fun j hj => ?_⟩
  obtain ⟨h1, h2, h3, h4, h5⟩ := hc j hj
  have hbj : (ad.add (j * 5)).block = ad.block := blk_add _ _
  have k : ∀ p : Addr, p.block = ad.block → w'.cell? p = w.cell? p := fun p hp => hk p (by rw [hp]; exact hS) (by rw [hp]; exact hb)
  exact ⟨(k _ hbj).trans h1, (k ⟨(ad.add (j * 5)).block, _, none⟩ hbj).trans h2, (k ⟨(ad.add (j * 5)).block, _, none⟩ hbj).trans h3, (k ⟨(ad.add (j * 5)).block, _, none⟩ hbj).trans h4, (k ⟨(ad.add (j * 5)).block, _, none⟩ hbj).trans h5⟩
theorem EL.In.keepS {S : Nat → Prop} {w w' : World} {B B' : Nat} (hB : B ≤ B') (hk : ∀ p : Addr, S p.block → p.block < B → w'.cell? p = w.cell? p) : ∀ {e : EL}, e.In w B → e.At S → e.In w' B' := by
  intro e
  refine EL.ind (p := fun e => e.In w B → e.At S → e.In w' B') (fun e ih hi ha => ?_) e
  rw [EL.At_eq] at ha
  rw [EL.In_eq] at hi ⊢
  exact ⟨⟨hi.1.1, hi.1.2.1, hi.1.2.2.keepS ha.1 hB hk⟩, fun x hx => ih x hx (hi.2 x hx) (ha.2 x hx)⟩
/-- where it lies is known as far as it lies below B -/
theorem EL.In.atB {w : World} {B : Nat} : ∀ {e : EL}, e.In w B → e.At (fun b => b < B) := by
  intro e
  refine EL.ind (p := fun e => e.In w B → e.At (fun b => b < B)) (fun e ih hi => ?_) e
  rw [EL.In_eq] at hi
  rw [EL.At_eq]
  refine ⟨fun hn ad had => ?_, fun x hx => ih x hx (hi.2 x hx)⟩
  obtain ⟨ad', e', hb, _⟩ := hi.1.2.2.2.2 hn
  rw [had] at e'
  injection e' with e'
  subst e'
  exact hb
theorem EL.At.and {S T : Nat → Prop} : ∀ {e : EL}, e.At S → e.At T → e.At (fun b => S b ∧ T b) := by
  intro e
  refine EL.ind (p := fun e => e.At S → e.At T → e.At (fun b => S b ∧ T b)) (fun e ih h1 h2 => ?_) e
  rw [EL.At_eq] at h1 h2 ⊢
  exact ⟨fun hn ad had => ⟨h1.1 hn ad had, h2.1 hn ad had⟩, fun x hx => ih x hx (h1.2 x hx) (h2.2 x hx)⟩

/- lists short enough for memory -/
mutual
def litP : PE → Prop
  | .mk _ _ _ _ xs => xs.length * 64 ≤ 140737488355328 ∧ litPs xs
def litPs : List PE → Prop
  | [] => True
  | x :: r => litP x ∧ litPs r
end
theorem litPs_iff : ∀ {l : List PE}, litPs l ↔ ∀ x ∈ l, litP x := by
  intro l
  induction l with
  | nil => unfold litPs; simp
  | cons x r ih => unfold litPs; rw [ih]; simp
theorem litP_eq (p : PE) : litP p ↔ p.args.length * 64 ≤ 140737488355328 ∧ ∀ x ∈ p.args, litP x := by
  cases p
  conv => lhs; unfold litP
  rw [litPs_iff]
  rfl

/- expressions as cells -/
def ecw (es : List EL) : List Value := es.flatMap fun e => (eCells e).toList
theorem ecw_cons (e : EL) (es : List EL) : ecw (e :: es) = .int .i64 e.kind :: .int .i64 e.op :: .int .i64 e.num :: .string (bs e.name) :: .slice e.A e.n e.c :: ecw es := rfl
theorem ecw_append (a b : List EL) : ecw (a ++ b) = ecw a ++ ecw b := by unfold ecw; rw [List.flatMap_append]
theorem ecw_len (es : List EL) : (ecw es).length = es.length * 5 := by
  induction es with
  | nil => rfl
  | cons e es ih =>
    rw [ecw_cons]
    simp only [List.length_cons]
    rw [ih]
    omega
theorem ecw_at : ∀ (es : List EL) (j : Nat), j < es.length → (ecw es)[j * 5]? = some (.int .i64 (es[j]?.getD nilE).kind) ∧ (ecw es)[j * 5 + 1]? = some (.int .i64 (es[j]?.getD nilE).op) ∧ (ecw es)[j * 5 + 2]? = some (.int .i64 (es[j]?.getD nilE).num) ∧ (ecw es)[j * 5 + 3]? = some (.string (bs (es[j]?.getD nilE).name)) ∧
    (ecw es)[j * 5 + 4]? = some (.slice (es[j]?.getD nilE).A (es[j]?.getD nilE).n (es[j]?.getD nilE).c) := by
  intro es
  induction es with
  | nil => intro j h; simp at h
  | cons e es ih =>
    intro j h
    cases j with
    | zero => exact ⟨rfl, rfl, rfl, rfl, rfl⟩
    | succ j =>
      rw [List.length_cons] at h
      obtain ⟨h1, h2, h3, h4, h5⟩ := ih j (by omega)
      rw [ecw_cons, show (j + 1) * 5 = j * 5 + 1 + 1 + 1 + 1 + 1 from by omega]
      exact ⟨h1, h2, h3, h4, h5⟩
theorem ownW_len {w : World} {base : Nat} {e : TypeId} {v : Value} {n : Nat} {es : List EL} (h : w.ownsRow base e 5 v n (ecw es)) : es.length = n := by
  have := h.1
  rw [ecw_len] at this
  omega
theorem ownW_nil (w : World) (base : Nat) (e : TypeId) : w.ownsRow base e 5 (.slice none 0 0) 0 (ecw []) := ⟨rfl, .inl ⟨rfl, rfl⟩⟩
theorem rowW_of_own {w : World} {base : Nat} {e : TypeId} {A : Option Addr} {n c : Nat} {es : List EL} (h : w.ownsRow base e 5 (.slice A n c) n (ecw es)) (hn : (n : Int) ≤ 9223372036854775807) : RowE w w.heap.size A n es := by
  have hl := ownW_len h
  refine ⟨hl, by omega, fun h0 => ?_⟩
  obtain ⟨g, cap, hv, hgb, hlt⟩ := h.form h0
  have hA : A = some ⟨g, 0, none⟩ := by injection hv
  subst hA
  refine ⟨_, rfl, hlt, fun j hj => ?_⟩
  obtain ⟨h1, h2, h3, h4, h5⟩ := ecw_at es j hj
  have k1 := h.cells (g := g) rfl _ _ h1
  have k2 := h.cells (g := g) rfl _ _ h2
  have k3 := h.cells (g := g) rfl _ _ h3
  have k4 := h.cells (g := g) rfl _ _ h4
  have k5 := h.cells (g := g) rfl _ _ h5
  rw [Addr.add_lit, Nat.zero_add] at k1 k2 k3 k4 k5
  rw [Addr.add_lit, Nat.zero_add]
  exact ⟨k1, k2, k3, k4, k5⟩
theorem rowW_block {w : World} {base : Nat} {e : TypeId} {A : Option Addr} {n c : Nat} {es : List EL} (h : w.ownsRow base e 5 (.slice A n c) n (ecw es)) : 0 < n → ∀ ad : Addr, A = some ad → base ≤ ad.block := by
  intro h0 ad had
  obtain ⟨g, cap, hv, hgb, hlt⟩ := h.form h0
  have hA : A = some ⟨g, 0, none⟩ := by injection hv
  rw [had] at hA
  injection hA with hA
  subst hA
  exact hgb

/-- APPEND of one expression, which lies in a new block, onto a row of the call's own. -/
theorem wpList_appW {P : Program} (w : World) {ops : Array Oper} {rest : List Oper} {o : Oper} {a : Act} {Q : Exit → Act → World → Prop} (hgd : o.guard = none) (s x : Operand) (t : TypeId)
    (ho : o.op = .call { callee := .builtin .append, args := #[s, x], argTypes := #[t, t] })
    (base : Nat) (e : TypeId) (i : TypeInfo) (z : Value) (ht : P.underlying t = some (.slice e)) (hi : P.info? e = some i) (hz : i.zero = some z) (hzs : z.cells.size = 5) (hsize : i.size = 5) (hby : i.bytes = 64)
    (v : Value) (n : Nat) (es : List EL) (hs : a.eval s = v) (hown : w.ownsRow base e 5 v n (ecw es))
    (g c : Nat) (k : EL) (hx : a.eval x = .slice (some ⟨g, 0, none⟩) 1 c) (hb : Blk w g e (eCells k)) (hbytes : (n + 1) * 64 ≤ 140737488355328) (hbase : base ≤ w.heap.size)
    (h : ∀ A' c' w', w'.ownsRow base e 5 (.slice A' (n + 1) c') (n + 1) (ecw (es ++ [k])) → w.grownBy w' v.ownBlock → ((Value.slice A' (n + 1) c').ownBlock = v.ownBlock ∨ (Value.slice A' (n + 1) c').ownBlock = some w.heap.size) → wpList P ops Q rest (a.put o.dst (.slice A' (n + 1) c')) w') : wpList P ops Q (o :: rest) a w := by
  refine wpList_plain hgd fun _ hK => ?_
  obtain ⟨v', w', hrun, k2, k3, _, k4⟩ := run_append_own_at (P := P) w base t o.type e i z 5 64 ht hi hz hsize hby hzs (by omega) v n (ecw es) hown ⟨g, 0, none⟩ 1 c (eCells k).toList rfl
    (fun j u hj => by
      rw [Addr.add_lit, Nat.zero_add, hb.cell]
      rw [Array.getElem?_toList] at hj
      exact hj)
    (fun u hu => by
      simp [eCells] at hu
      rcases hu with rfl | rfl | rfl | rfl | rfl <;> rfl) (by unfold maxLen; omega) hbytes hbase
  obtain ⟨A', c', rfl⟩ := own_slice k2
  unfold Oper.wp execOp
  simp only [ho, resolve, invoke, builtin, Sem.run_bind, Sem.run_pure, Result.andThen_ok, List.map_toArray, List.map_cons, List.map_nil, hs, hx, hrun]
  have e2 : ecw es ++ (eCells k).toList = ecw (es ++ [k]) := by rw [ecw_append]; simp [ecw]
  exact hK _ _ (h A' c' w' (by rw [← e2]; exact k2) k3 k4)

end

section
open Go.RowKit
set_option linter.unusedVariables false
set_option linter.unusedSimpArgs false

theorem beq_dec18 (a b : Int) : (a == b) = decide (a = b) := by by_cases h : a = b <;> simp [h]
theorem tdiv_bound (x y : Int) (h1 : -32768 ≤ x) (h2 : x ≤ 32767) : -32768 ≤ x.tdiv y ∧ x.tdiv y ≤ 32768 := by
  have h := Int.natAbs_tdiv_le_natAbs x y
  omega

end

section
open Go.RowKit

/-- taken apart -/
theorem inf_parts {x : Option TypeInfo} {z : Value} {s b : Nat} (h : x.map (fun i => (i.zero, i.size, i.bytes)) = some (some z, s, b)) : ∃ i, x = some i ∧ i.zero = some z ∧ i.size = s ∧ i.bytes = b := by
  obtain ⟨i, hi, hz⟩ := Option.map_eq_some_iff.1 h
  simp only [Prod.mk.injEq] at hz
  exact ⟨i, hi, hz.1, hz.2.1, hz.2.2⟩

end

section
open Go.RowKit
set_option linter.unusedVariables false
set_option linter.unusedSimpArgs false

theorem inf_ex : (Try.prog.info? 31).map (fun i => (i.zero, i.size, i.bytes)) = some (some (.agg #[.int .i64 0, .int .i64 0, .int .i64 0, .string ⟨#[]⟩, .slice none 0 0]), 5, 64) := by kernel_rfl

/-- what folding an expression leaves -/
def FoldAt (f : FuncId) (x : EL) : Prop := ∀ (S : Nat → Prop) (w : World), x.In w w.heap.size → x.At S → litP (plE x) →
  Calls Try.prog f #[eVal x] w fun e w' => ∃ y : EL, e = .returned (eVal y) ∧ y.In w' w'.heap.size ∧ y.At (fun b => S b ∨ w.heap.size ≤ b) ∧ plE y = foldP (plE x) ∧ Below w.heap.size w w'

theorem cell_of_heap {w w' : World} {p : Addr} (h : w'.heap[p.block]? = w.heap[p.block]?) : w'.cell? p = w.cell? p := by unfold World.cell?; rw [h]

end

section
open Go.RowKit
set_option linter.unusedVariables false
set_option linter.unusedSimpArgs false

/-- what the walk of Expr holds behind all: the box, the result's cell, the folded arguments -/
structure FSt (w V : World) (k o m : Int) (s : List UInt8) (A : Option Addr) (n c : Nat) (ys : List EL) : Prop where
  bx : Blk V w.heap.size 31 #[.int .i64 k, .int .i64 o, .int .i64 m, .string (bs s), .slice A n c]
  rs : Blk V (w.heap.size + 1) 31 #[.int .i64 0, .int .i64 0, .int .i64 0, .string ⟨#[]⟩, .slice none 0 0]
  row : RowE V V.heap.size A n ys
  yI : ∀ y ∈ ys, y.In V V.heap.size
  blw : Below w.heap.size w V

theorem FSt.below {w V V' : World} {k o m : Int} {s : List UInt8} {A : Option Addr} {n c : Nat} {ys : List EL} (h : FSt w V k o m s A n c ys) (hb : Below V.heap.size V V') : FSt w V' k o m s A n c ys :=
  ⟨h.bx.below hb h.bx.lt, h.rs.below hb h.rs.lt, (h.row.below hb).more hb.size, fun y hy => ((h.yI y hy).below hb).more hb.size, h.blw.trans (hb.mono h.blw.size)⟩

theorem add_zeroF (a : Addr) : a.add 0 = a := by unfold Addr.add; rw [if_pos rfl]

/-- a number is handed back -/
theorem num_out {w V : World} {S : Nat → Prop} {p : PE} {v : Int} (hv : -9223372036854775808 ≤ v ∧ v ≤ 9223372036854775807) (hp : p = numP v) (hb : Below w.heap.size w V) :
    ∃ y : EL, Ending.returned (.agg #[.int .i64 1, .int .i64 0, .int .i64 v, .string ⟨#[]⟩, .slice none 0 0]) = .returned (eVal y) ∧ y.In V V.heap.size ∧ y.At (fun b => S b ∨ w.heap.size ≤ b) ∧ plE y = p ∧ Below w.heap.size w V := by
  refine ⟨.mk 1 0 v [] none 0 0 [], rfl, EL.In_eq.2 ⟨⟨hv, by show ((0 : Nat) : Int) ≤ _; omega, rfl, by show ((0 : Nat) : Int) ≤ _; omega, fun h => absurd h (by show ¬ 0 < 0; omega)⟩, fun x hx => by cases hx⟩, EL.At_eq.2 ⟨fun h => absurd h (by show ¬ 0 < 0; omega), fun x hx => by cases hx⟩, ?_, hb⟩
  rw [plE_eq, hp]
  rfl

end

section
open Go.RowKit
set_option linter.unusedVariables false
set_option linter.unusedSimpArgs false

/- folding -/
def nilPS : PS := .mk 0 0 [] [] [] []
/-- a statement whose parts are folded, behind out, with so many to come -/
def stepB (out : List PS) (rest : Nat) (s : PS) : List PS :=
  if s.args.length = 1 ∧ (s.args[0]?.getD nilP).kind = 1 ∧ s.kind = 10 ∧ wrapV (s.args[0]?.getD nilP).num = 0 then out
  else if s.args.length = 1 ∧ (s.args[0]?.getD nilP).kind = 1 ∧ s.kind = 9 then
    (if 256 < out.length + (if wrapV (s.args[0]?.getD nilP).num ≠ 0 then s.body else s.els).length + rest then out ++ [s] else out ++ (if wrapV (s.args[0]?.getD nilP).num ≠ 0 then s.body else s.els))
  else out ++ [s]
mutual
def foldS : PS → PS
  | .mk k m s a b e => .mk k m s (a.map foldP) (foldGo [] b) (foldGo [] e)
def foldGo : List PS → List PS → List PS
  | out, [] => out
  | out, x :: r => foldGo (stepB out r.length (foldS x)) r
end
theorem foldS_eq (s : PS) : foldS s = .mk s.kind s.num s.name (s.args.map foldP) (foldGo [] s.body) (foldGo [] s.els) := by
  cases s
  unfold foldS
  rfl
theorem foldGo_nil (out : List PS) : foldGo out [] = out := by unfold foldGo; rfl
theorem foldGo_cons (out : List PS) (x : PS) (r : List PS) : foldGo out (x :: r) = foldGo (stepB out r.length (foldS x)) r := by
  conv => lhs; unfold foldGo
theorem stepB_len (out : List PS) (rest : Nat) (s : PS) : (stepB out rest s).length + rest ≤ 256 ∨ (stepB out rest s).length ≤ out.length + 1 := by
  unfold stepB
  generalize (if wrapV (s.args[0]?.getD nilP).num ≠ 0 then s.body else s.els) = t
  by_cases h1 : s.args.length = 1 ∧ (s.args[0]?.getD nilP).kind = 1 ∧ s.kind = 10 ∧ wrapV (s.args[0]?.getD nilP).num = 0
  · rw [if_pos h1]
    right
    omega
  rw [if_neg h1]
  by_cases h2 : s.args.length = 1 ∧ (s.args[0]?.getD nilP).kind = 1 ∧ s.kind = 9
  · rw [if_pos h2]
    by_cases h3 : 256 < out.length + t.length + rest
    · rw [if_pos h3]
      right
      simp
    · rw [if_neg h3]
      left
      rw [List.length_append]
      omega
  · rw [if_neg h2]
    right
    simp

/- the rows of a statement lie in blocks of S -/
mutual
def SL.At (S : Nat → Prop) : SL → Prop
  | .mk _ _ _ A n _ args A1 n1 _ body A2 n2 _ els => ((0 < n → ∀ ad : Addr, A = some ad → S ad.block) ∧ (∀ x ∈ args, EL.At S x) ∧ (0 < n1 → ∀ ad : Addr, A1 = some ad → S ad.block) ∧ (0 < n2 → ∀ ad : Addr, A2 = some ad → S ad.block)) ∧ SL.Ats S body ∧ SL.Ats S els
def SL.Ats (S : Nat → Prop) : List SL → Prop
  | [] => True
  | x :: r => SL.At S x ∧ SL.Ats S r
end
theorem SL.Ats.iff {S : Nat → Prop} : ∀ {l : List SL}, SL.Ats S l ↔ ∀ x ∈ l, SL.At S x := by
  intro l
  induction l with
  | nil => unfold SL.Ats; simp
  | cons x r ih => unfold SL.Ats; rw [ih]; simp
theorem SL.At_eq {S : Nat → Prop} {s : SL} : s.At S ↔ ((0 < s.n → ∀ ad : Addr, s.A = some ad → S ad.block) ∧ (∀ x ∈ s.args, x.At S) ∧ (0 < s.n1 → ∀ ad : Addr, s.A1 = some ad → S ad.block) ∧ (0 < s.n2 → ∀ ad : Addr, s.A2 = some ad → S ad.block)) ∧ (∀ x ∈ s.body, x.At S) ∧ (∀ x ∈ s.els, x.At S) := by
  cases s
  conv => lhs; unfold SL.At
  rw [SL.Ats.iff, SL.Ats.iff]
  rfl
theorem SL.At.mono {S T : Nat → Prop} (h : ∀ b, S b → T b) : ∀ {s : SL}, s.At S → s.At T := by
  intro s
  refine SL.ind (p := fun s => s.At S → s.At T) (fun s i1 i2 ha => ?_) s
  rw [SL.At_eq] at ha ⊢
  obtain ⟨⟨a1, a2, a3, a4⟩, a5, a6⟩ := ha
  exact ⟨⟨fun hn ad had => h _ (a1 hn ad had), fun x hx => (a2 x hx).mono h, fun hn ad had => h _ (a3 hn ad had), fun hn ad had => h _ (a4 hn ad had)⟩, fun x hx => i1 x hx (a5 x hx), fun x hx => i2 x hx (a6 x hx)⟩
theorem SL.At.and {S T : Nat → Prop} : ∀ {s : SL}, s.At S → s.At T → s.At (fun b => S b ∧ T b) := by
  intro s
  refine SL.ind (p := fun s => s.At S → s.At T → s.At (fun b => S b ∧ T b)) (fun s i1 i2 h1 h2 => ?_) s
  rw [SL.At_eq] at h1 h2 ⊢
  obtain ⟨⟨a1, a2, a3, a4⟩, a5, a6⟩ := h1
  obtain ⟨⟨b1, b2, b3, b4⟩, b5, b6⟩ := h2
  exact ⟨⟨fun hn ad had => ⟨a1 hn ad had, b1 hn ad had⟩, fun x hx => (a2 x hx).and (b2 x hx), fun hn ad had => ⟨a3 hn ad had, b3 hn ad had⟩, fun hn ad had => ⟨a4 hn ad had, b4 hn ad had⟩⟩, fun x hx => i1 x hx (a5 x hx) (b5 x hx), fun x hx => i2 x hx (a6 x hx) (b6 x hx)⟩
theorem RowS6.keepS {S : Nat → Prop} {w w' : World} {B B' : Nat} {A : Option Addr} {n : Nat} {ss : List SL} (h : RowS6 w B A n ss) (hs : 0 < n → ∀ ad : Addr, A = some ad → S ad.block) (hB : B ≤ B') (hk : ∀ p : Addr, S p.block → p.block < B → w'.cell? p = w.cell? p) : RowS6 w' B' A n ss := by
  refine ⟨h.1, h.2.1, fun hn => ?_⟩
  obtain ⟨ad, e, hb, hc⟩ := h.2.2 hn
  have hS := hs hn ad e
  refine ⟨ad, e, by omega, fun j hj => ?_⟩
  obtain ⟨h1, h2, h3, h4, h5, h6⟩ := hc j hj
  have hbj : (ad.add (j * 6)).block = ad.block := blk_add _ _
  have k : ∀ p : Addr, p.block = ad.block → w'.cell? p = w.cell? p := fun p hp => hk p (by rw [hp]; exact hS) (by rw [hp]; exact hb)
  exact ⟨(k _ hbj).trans h1, (k ⟨(ad.add (j * 6)).block, _, none⟩ hbj).trans h2, (k ⟨(ad.add (j * 6)).block, _, none⟩ hbj).trans h3, (k ⟨(ad.add (j * 6)).block, _, none⟩ hbj).trans h4, (k ⟨(ad.add (j * 6)).block, _, none⟩ hbj).trans h5, (k ⟨(ad.add (j * 6)).block, _, none⟩ hbj).trans h6⟩
theorem SL.In.keepS {S : Nat → Prop} {w w' : World} {B B' : Nat} (hB : B ≤ B') (hk : ∀ p : Addr, S p.block → p.block < B → w'.cell? p = w.cell? p) : ∀ {s : SL}, s.In w B → s.At S → s.In w' B' := by
  intro s
  refine SL.ind (p := fun s => s.In w B → s.At S → s.In w' B') (fun s i1 i2 hi ha => ?_) s
  obtain ⟨⟨a1, a2, a3, a4⟩, a5, a6⟩ := SL.At_eq.1 ha
  obtain ⟨⟨h1, h2, ⟨h3, h4⟩, h5, h6⟩, h7, h8⟩ := hi.parts
  exact SL.In.mk ⟨⟨h1, h2, ⟨h3.keepS a1 hB hk, EL.Ins.of fun x hx => (EL.Ins.mem h4 x hx).keepS hB hk (a2 x hx)⟩, h5.keepS a3 hB hk, h6.keepS a4 hB hk⟩, SL.Ins.of fun x hx => i1 x hx (SL.Ins.mem h7 x hx) (a5 x hx), SL.Ins.of fun x hx => i2 x hx (SL.Ins.mem h8 x hx) (a6 x hx)⟩
theorem SL.In.atB {w : World} {B : Nat} : ∀ {s : SL}, s.In w B → s.At (fun b => b < B) := by
  intro s
  refine SL.ind (p := fun s => s.In w B → s.At (fun b => b < B)) (fun s i1 i2 hi => ?_) s
  obtain ⟨⟨h1, h2, ⟨h3, h4⟩, h5, h6⟩, h7, h8⟩ := hi.parts
  have key : ∀ {A : Option Addr} {n : Nat} {ss : List SL}, RowS6 w B A n ss → 0 < n → ∀ ad : Addr, A = some ad → ad.block < B := fun h hn ad had => by
    obtain ⟨ad', e', hb, _⟩ := h.2.2 hn
    rw [had] at e'
    injection e' with e'
    subst e'
    exact hb
  refine SL.At_eq.2 ⟨⟨fun hn ad had => ?_, fun x hx => (EL.Ins.mem h4 x hx).atB, key h5, key h6⟩, fun x hx => i1 x hx (SL.Ins.mem h7 x hx), fun x hx => i2 x hx (SL.Ins.mem h8 x hx)⟩
  obtain ⟨ad', e', hb, _⟩ := h3.2.2 hn
  rw [had] at e'
  injection e' with e'
  subst e'
  exact hb

/- lists short enough for memory -/
mutual
def litS : PS → Prop
  | .mk _ _ _ a b e => (a.length * 64 ≤ 140737488355328 ∧ (∀ x ∈ a, litP x) ∧ b.length * 104 ≤ 140737488355328 ∧ e.length * 104 ≤ 140737488355328) ∧ litSs b ∧ litSs e
def litSs : List PS → Prop
  | [] => True
  | x :: r => litS x ∧ litSs r
end
theorem litSs_iff : ∀ {l : List PS}, litSs l ↔ ∀ x ∈ l, litS x := by
  intro l
  induction l with
  | nil => unfold litSs; simp
  | cons x r ih => unfold litSs; rw [ih]; simp
theorem litS_eq (p : PS) : litS p ↔ (p.args.length * 64 ≤ 140737488355328 ∧ (∀ x ∈ p.args, litP x) ∧ p.body.length * 104 ≤ 140737488355328 ∧ p.els.length * 104 ≤ 140737488355328) ∧ (∀ x ∈ p.body, litS x) ∧ (∀ x ∈ p.els, litS x) := by
  cases p
  conv => lhs; unfold litS
  rw [litSs_iff, litSs_iff]
  rfl

/- statements as cells -/
def scw (ss : List SL) : List Value := ss.flatMap fun s => (sCells s).toList
theorem scw_cons (s : SL) (ss : List SL) : scw (s :: ss) = .int .i64 s.kind :: .int .i64 s.num :: .string (bs s.name) :: .slice s.A s.n s.c :: .slice s.A1 s.n1 s.c1 :: .slice s.A2 s.n2 s.c2 :: scw ss := rfl
theorem scw_append (a b : List SL) : scw (a ++ b) = scw a ++ scw b := by unfold scw; rw [List.flatMap_append]
theorem scw_len (ss : List SL) : (scw ss).length = ss.length * 6 := by
  induction ss with
  | nil => rfl
  | cons e es ih =>
    rw [scw_cons]
    simp only [List.length_cons]
    rw [ih]
    omega
theorem scw_at : ∀ (ss : List SL) (j : Nat), j < ss.length → (scw ss)[j * 6]? = some (.int .i64 (ss[j]?.getD nilS).kind) ∧ (scw ss)[j * 6 + 1]? = some (.int .i64 (ss[j]?.getD nilS).num) ∧ (scw ss)[j * 6 + 2]? = some (.string (bs (ss[j]?.getD nilS).name)) ∧
    (scw ss)[j * 6 + 3]? = some (.slice (ss[j]?.getD nilS).A (ss[j]?.getD nilS).n (ss[j]?.getD nilS).c) ∧ (scw ss)[j * 6 + 4]? = some (.slice (ss[j]?.getD nilS).A1 (ss[j]?.getD nilS).n1 (ss[j]?.getD nilS).c1) ∧ (scw ss)[j * 6 + 5]? = some (.slice (ss[j]?.getD nilS).A2 (ss[j]?.getD nilS).n2 (ss[j]?.getD nilS).c2) := by
  intro ss
  induction ss with
  | nil => intro j h; simp at h
  | cons e es ih =>
    intro j h
    cases j with
    | zero => exact ⟨rfl, rfl, rfl, rfl, rfl, rfl⟩
    | succ j =>
      rw [List.length_cons] at h
      obtain ⟨h1, h2, h3, h4, h5, h6⟩ := ih j (by omega)
      rw [scw_cons, show (j + 1) * 6 = j * 6 + 1 + 1 + 1 + 1 + 1 + 1 from by omega]
      exact ⟨h1, h2, h3, h4, h5, h6⟩
theorem scw_one (ss : List SL) : ∀ u ∈ scw ss, u.oneCell' = true := by
  intro u hu
  obtain ⟨s, _, hs⟩ := List.mem_flatMap.1 hu
  simp [sCells] at hs
  rcases hs with rfl | rfl | rfl | rfl | rfl | rfl <;> rfl
theorem ownFS_len {w : World} {base : Nat} {e : TypeId} {v : Value} {n : Nat} {ss : List SL} (h : w.ownsRow base e 6 v n (scw ss)) : ss.length = n := by
  have := h.1
  rw [scw_len] at this
  omega
theorem ownFS_nil (w : World) (base : Nat) (e : TypeId) : w.ownsRow base e 6 (.slice none 0 0) 0 (scw []) := ⟨rfl, .inl ⟨rfl, rfl⟩⟩
theorem rowFS_of_own {w : World} {base : Nat} {e : TypeId} {A : Option Addr} {n c : Nat} {ss : List SL} (h : w.ownsRow base e 6 (.slice A n c) n (scw ss)) (hn : (n : Int) ≤ 9223372036854775807) : RowS6 w w.heap.size A n ss := by
  have hl := ownFS_len h
  refine ⟨hl, by omega, fun h0 => ?_⟩
  obtain ⟨g, cap, hv, hgb, hlt⟩ := h.form h0
  have hA : A = some ⟨g, 0, none⟩ := by injection hv
  subst hA
  refine ⟨_, rfl, hlt, fun j hj => ?_⟩
  obtain ⟨h1, h2, h3, h4, h5, h6⟩ := scw_at ss j hj
  have k1 := h.cells (g := g) rfl _ _ h1
  have k2 := h.cells (g := g) rfl _ _ h2
  have k3 := h.cells (g := g) rfl _ _ h3
  have k4 := h.cells (g := g) rfl _ _ h4
  have k5 := h.cells (g := g) rfl _ _ h5
  have k6 := h.cells (g := g) rfl _ _ h6
  rw [Addr.add_lit, Nat.zero_add] at k1 k2 k3 k4 k5 k6
  rw [Addr.add_lit, Nat.zero_add]
  exact ⟨k1, k2, k3, k4, k5, k6⟩
theorem rowFS_block {w : World} {base : Nat} {e : TypeId} {A : Option Addr} {n c : Nat} {ss : List SL} (h : w.ownsRow base e 6 (.slice A n c) n (scw ss)) : 0 < n → ∀ ad : Addr, A = some ad → base ≤ ad.block ∧ ad.spot = none := by
  intro h0 ad had
  obtain ⟨g, cap, hv, hgb, hlt⟩ := h.form h0
  have hA : A = some ⟨g, 0, none⟩ := by injection hv
  rw [had] at hA
  injection hA with hA
  subst hA
  exact ⟨hgb, rfl⟩
theorem size_allocF (w : World) (o : Obj) : (w.alloc o).heap.size = w.heap.size + 1 := by simp
/-- a row of one, just made -/
theorem rowFS_lit {w : World} {e : TypeId} (s : SL) (w' : World) (h : w' = w.alloc (.cells (sCells s) e)) : RowS6 w' w'.heap.size (some ⟨w.heap.size, 0, none⟩) 1 [s] := by
  subst h
  refine ⟨rfl, by decide, fun _ => ⟨_, rfl, by show w.heap.size < _; rw [size_allocF]; omega, fun j hj => ?_⟩⟩
  obtain rfl : j = 0 := by simp at hj; omega
  have hb := (Blk.new w e (sCells s))
  rw [Nat.zero_mul, Addr.add_lit]
  exact ⟨(hb.cell 0).trans rfl, (hb.cell 1).trans rfl, (hb.cell 2).trans rfl, (hb.cell 3).trans rfl, (hb.cell 4).trans rfl, (hb.cell 5).trans rfl⟩
/-- a row's cells, one after another -/
theorem rowFS_cells {w : World} {B : Nat} {ad : Addr} {n : Nat} {ss : List SL} (h : RowS6 w B (some ad) n ss) (hs : ad.spot = none) (j : Nat) (u : Value) (hj : (scw ss)[j]? = some u) : w.cell? (ad.add j) = some u := by
  have hlt : j < (scw ss).length := (List.getElem?_eq_some_iff.1 hj).1
  rw [scw_len] at hlt
  have hl := h.1
  obtain ⟨ad', e', _, hc⟩ := h.2.2 (by omega)
  injection e' with e'
  subst e'
  have hq : j / 6 < ss.length := by omega
  obtain ⟨h1, h2, h3, h4, h5, h6⟩ := hc (j / 6) hq
  obtain ⟨g1, g2, g3, g4, g5, g6⟩ := scw_at ss (j / 6) hq
  obtain ⟨b, o, sp⟩ := ad
  obtain rfl : sp = none := hs
  have ha : ∀ k, (⟨b, o, none⟩ : Addr).add k = ⟨b, o + k, none⟩ := fun k => Addr.add_lit b o k
  simp only [ha] at h1 h2 h3 h4 h5 h6 ⊢
  have hr : j % 6 < 6 := Nat.mod_lt _ (by decide)
  have hj6 : j = j / 6 * 6 + j % 6 := by omega
  generalize j / 6 * 6 = q at *
  generalize j % 6 = r at *
  subst hj6
  match r, hr with
  | 0, _ => rw [Nat.add_zero] at hj ⊢; rw [g1] at hj; rw [← hj]; exact h1
  | 1, _ => rw [g2] at hj; rw [← hj]; exact h2
  | 2, _ => rw [g3] at hj; rw [← hj]; exact h3
  | 3, _ => rw [g4] at hj; rw [← hj]; exact h4
  | 4, _ => rw [g5] at hj; rw [← hj]; exact h5
  | 5, _ => rw [g6] at hj; rw [← hj]; exact h6

/-- APPEND of a row of statements onto a row of the call's own. -/
theorem wpList_appS {P : Program} (w : World) {ops : Array Oper} {rest : List Oper} {o : Oper} {a : Act} {Q : Exit → Act → World → Prop} (hgd : o.guard = none) (s x : Operand) (t : TypeId)
    (ho : o.op = .call { callee := .builtin .append, args := #[s, x], argTypes := #[t, t] })
    (base : Nat) (e : TypeId) (i : TypeInfo) (z : Value) (ht : P.underlying t = some (.slice e)) (hi : P.info? e = some i) (hz : i.zero = some z) (hzs : z.cells.size = 6) (hsize : i.size = 6) (hby : i.bytes = 104)
    (v : Value) (n : Nat) (es : List SL) (hs : a.eval s = v) (hown : w.ownsRow base e 6 v n (scw es))
    (A : Option Addr) (m c B : Nat) (ks : List SL) (hx : a.eval x = .slice A m c) (hA : A = none → m = 0 ∧ c = 0) (hsp : ∀ ad : Addr, A = some ad → ad.spot = none) (hrow : RowS6 w B A m ks) (hbytes : (n + m) * 104 ≤ 140737488355328) (hbase : base ≤ w.heap.size)
    (h : ∀ A' c' w', w'.ownsRow base e 6 (.slice A' (n + m) c') (n + m) (scw (es ++ ks)) → w.grownBy w' v.ownBlock → ((Value.slice A' (n + m) c').ownBlock = v.ownBlock ∨ (Value.slice A' (n + m) c').ownBlock = some w.heap.size) → wpList P ops Q rest (a.put o.dst (.slice A' (n + m) c')) w') : wpList P ops Q (o :: rest) a w := by
  refine wpList_plain hgd fun _ hK => ?_
  have hl : ks.length = m := hrow.1
  have key : ∃ v' w', (Builtin.append_ #[t, t] o.type #[v, .slice A m c]).run P w = .ok v' w' ∧ w'.ownsRow base e 6 v' (n + m) (scw (es ++ ks)) ∧ w.grownBy w' v.ownBlock ∧ (v'.ownBlock = v.ownBlock ∨ v'.ownBlock = some w.heap.size) := by
    rw [scw_append]
    cases A with
    | none =>
      obtain ⟨rfl, rfl⟩ := hA rfl
      have hk : ks = [] := List.eq_nil_of_length_eq_zero hl
      subst hk
      exact ⟨v, w, run_append_owned_none (P := P) w base t o.type e i 6 ht hi v n (scw es) hown, by rw [show scw [] = [] from rfl, List.append_nil]; exact hown, ⟨rfl, rfl, rfl, Nat.le_refl _, fun _ _ _ => rfl⟩, .inl rfl⟩
    | some ad =>
      obtain ⟨v', w', hrun, k2, k3, _, k4⟩ := run_append_own_at (P := P) w base t o.type e i z 6 104 ht hi hz hsize hby hzs (by omega) v n (scw es) hown ad m c (scw ks) (by rw [scw_len, hl]) (fun j u hj => rowFS_cells hrow (hsp ad rfl) j u hj) (scw_one ks) (by unfold maxLen; omega) hbytes hbase
      exact ⟨v', w', hrun, k2, k3, k4⟩
  obtain ⟨v', w', hrun, k2, k3, k4⟩ := key
  obtain ⟨A', c', rfl⟩ := own_slice k2
  unfold Oper.wp execOp
  simp only [ho, resolve, invoke, builtin, Sem.run_bind, Sem.run_pure, Result.andThen_ok, List.map_toArray, List.map_cons, List.map_nil, hs, hx, hrun]
  exact hK _ _ (h A' c' w' k2 k3 k4)

end

section
open Go.RowKit
set_option linter.unusedVariables false
set_option linter.unusedSimpArgs false

theorem inf_st : (Try.prog.info? 48).map (fun i => (i.zero, i.size, i.bytes)) = some (some (.agg #[.int .i64 0, .int .i64 0, .string ⟨#[]⟩, .slice none 0 0, .slice none 0 0, .slice none 0 0]), 6, 104) := by kernel_rfl
theorem stmt_sizeF : (Try.prog.info? 48).map (·.size) = some 6 := by kernel_rfl
theorem stmt_oneF (a b : Int) (s : ByteArray) (A : Option Addr) (n m : Nat) (A1 : Option Addr) (n1 m1 : Nat) (A2 : Option Addr) (n2 m2 : Nat) : (#[Value.int .i64 a, .int .i64 b, .string s, .slice A n m, .slice A1 n1 m1, .slice A2 n2 m2]).all (·.oneCell') = true := by simp [Value.oneCell']

/-- a row that is the call's own, or none -/
def FreshRow (base : Nat) (A : Option Addr) (m c : Nat) : Prop := (A = none → m = 0 ∧ c = 0) ∧ ∀ ad : Addr, A = some ad → base ≤ ad.block ∧ ad.spot = none
theorem fresh_of_own {w : World} {base : Nat} {e : TypeId} {z : Nat} {A : Option Addr} {n c : Nat} {xs : List Value} (h : w.ownsRow base e z (.slice A n c) n xs) : FreshRow base A n c := by
  rcases h.2 with ⟨h1, h2⟩ | ⟨g, cap, cur, h1, hb, _⟩
  · injection h1 with h1 h3 h4
    subst h1
    subst h3
    subst h4
    exact ⟨fun _ => ⟨rfl, rfl⟩, fun ad e => by cases e⟩
  · injection h1 with h1 h3 h4
    subst h1
    exact ⟨fun e => (by cases e), fun ad e => by injection e with e; subst e; exact ⟨hb, rfl⟩⟩

/-- what folding statements leaves -/
def FoldBAt (f : FuncId) (l : List SL) : Prop := ∀ (S : Nat → Prop) (w : World) (A : Option Addr) (n c : Nat), RowS6 w w.heap.size A n l → (∀ x ∈ l, x.In w w.heap.size) → (∀ x ∈ l, x.At S) → (∀ b, S b → b < w.heap.size) → n * 104 ≤ 140737488355328 → (∀ x ∈ l, litS (plS x)) →
  Calls Try.prog f #[.slice A n c] w fun e w' => ∃ (A' : Option Addr) (m c' : Nat) (ys : List SL), e = .returned (.slice A' m c') ∧ RowS6 w' w'.heap.size A' m ys ∧ FreshRow w.heap.size A' m c' ∧ (∀ y ∈ ys, y.In w' w'.heap.size) ∧ (∀ y ∈ ys, y.At (fun b => S b ∨ w.heap.size ≤ b)) ∧
    ys.map plS = foldGo [] (l.map plS) ∧ m * 104 ≤ 140737488355328 ∧ Below w.heap.size w w'

/-- a statement in the making, in a block of its own -/
structure BSt (S : Nat → Prop) (b0 : Nat) (wr V : World) (s : SL) : Prop where
  hb : wr.heap.size = b0
  bx : Blk V b0 48 (sCells s)
  si : s.In V V.heap.size
  sa : s.At (fun b => S b ∨ b0 + 1 ≤ b)
  blw : Below b0 wr V

theorem BSt.lt {S : Nat → Prop} {b0 : Nat} {wr V : World} {s : SL} (h : BSt S b0 wr V s) : b0 < V.heap.size := h.bx.lt
theorem BSt.below {S : Nat → Prop} {b0 : Nat} {wr V V' : World} {s : SL} (h : BSt S b0 wr V s) (hb : Below V.heap.size V V') : BSt S b0 wr V' s :=
  ⟨h.hb, h.bx.below hb h.bx.lt, (h.si.below hb).more hb.size, h.sa, h.blw.trans (hb.mono (Nat.le_of_lt h.bx.lt))⟩

theorem BSt.put {S : Nat → Prop} {b0 : Nat} {wr V w3 : World} {s s' : SL} (h : BSt S b0 wr V s) (hS : ∀ b, S b → b < b0) (hb : Below V.heap.size V w3) (i : Nat) (v : Value) (hx : Blk (w3.setCell ⟨b0, i, none⟩ v) b0 48 (sCells s')) (hI : s'.In w3 w3.heap.size) (hA : s'.At (fun b => S b ∨ b0 + 1 ≤ b)) :
    BSt S b0 wr (w3.setCell ⟨b0, i, none⟩ v) s' := by
  have hsz : (w3.setCell ⟨b0, i, none⟩ v).heap.size = w3.heap.size := by simp [World.setCell]
  have hk : ∀ p : Addr, (S p.block ∨ b0 + 1 ≤ p.block) → p.block < w3.heap.size → (w3.setCell ⟨b0, i, none⟩ v).cell? p = w3.cell? p := fun p hp _ => cell_of_heap (Below.heap_setCell _ _ _ _ (by
    show p.block ≠ b0
    rcases hp with hp | hp
    · have := hS _ hp
      omega
    · omega))
  exact ⟨h.hb, hx, by rw [hsz]; exact hI.keepS (S := fun b => S b ∨ b0 + 1 ≤ b) (Nat.le_refl _) hk hA, hA, (h.blw.trans (hb.mono (Nat.le_of_lt h.bx.lt))).setCell (p := ⟨b0, i, none⟩) (Nat.le_refl _) _⟩
theorem BSt.args {S : Nat → Prop} {b0 : Nat} {wr V w3 : World} {k m : Int} {nm : List UInt8} {A : Option Addr} {n c : Nat} {es : List EL} {A1 : Option Addr} {n1 c1 : Nat} {b : List SL} {A2 : Option Addr} {n2 c2 : Nat} {e : List SL} (h : BSt S b0 wr V (.mk k m nm A n c es A1 n1 c1 b A2 n2 c2 e)) (hS : ∀ b, S b → b < b0) (hb : Below V.heap.size V w3)
    {A' : Option Addr} {n' : Nat} (c' : Nat) {ys : List EL} (hr : RowE w3 w3.heap.size A' n' ys) (hA : 0 < n' → ∀ ad : Addr, A' = some ad → V.heap.size ≤ ad.block) (hI : ∀ y ∈ ys, y.In w3 w3.heap.size) (hT : ∀ y ∈ ys, y.At (fun b => S b ∨ V.heap.size ≤ b)) :
    BSt S b0 wr (w3.setCell ⟨b0, 3, none⟩ (.slice A' n' c')) (.mk k m nm A' n' c' ys A1 n1 c1 b A2 n2 c2 e) := by
  have hlt := h.lt
  obtain ⟨⟨h1, h2, ⟨h3, h4⟩, h5, h6⟩, h7, h8⟩ := ((h.si.below hb).more hb.size).parts
  obtain ⟨⟨a1, a2, a3, a4⟩, a5, a6⟩ := SL.At_eq.1 h.sa
  refine h.put hS hb 3 _ ((h.bx.below hb h.bx.lt).set_ 3 _) (SL.In.mk ⟨⟨h1, h2, ⟨hr, EL.Ins.of hI⟩, h5, h6⟩, h7, h8⟩) (SL.At_eq.2 ⟨⟨fun h0 ad had => .inr (Nat.le_trans hlt (hA h0 ad had)), fun y hy => (hT y hy).mono fun b hb => ?_, a3, a4⟩, a5, a6⟩)
  rcases hb with hb | hb
  · exact .inl hb
  · exact .inr (Nat.le_trans hlt hb)
theorem BSt.body {S : Nat → Prop} {b0 : Nat} {wr V w3 : World} {k m : Int} {nm : List UInt8} {A : Option Addr} {n c : Nat} {es : List EL} {A1 : Option Addr} {n1 c1 : Nat} {b : List SL} {A2 : Option Addr} {n2 c2 : Nat} {e : List SL} (h : BSt S b0 wr V (.mk k m nm A n c es A1 n1 c1 b A2 n2 c2 e)) (hS : ∀ b, S b → b < b0) (hb : Below V.heap.size V w3)
    {A' : Option Addr} {n' c' : Nat} {ys : List SL} (hr : RowS6 w3 w3.heap.size A' n' ys) (hA : FreshRow V.heap.size A' n' c') (hI : ∀ y ∈ ys, y.In w3 w3.heap.size) (hT : ∀ y ∈ ys, y.At (fun b => S b ∨ V.heap.size ≤ b)) :
    BSt S b0 wr (w3.setCell ⟨b0, 4, none⟩ (.slice A' n' c')) (.mk k m nm A n c es A' n' c' ys A2 n2 c2 e) := by
  have hlt := h.lt
  obtain ⟨⟨h1, h2, ⟨h3, h4⟩, h5, h6⟩, h7, h8⟩ := ((h.si.below hb).more hb.size).parts
  obtain ⟨⟨a1, a2, a3, a4⟩, a5, a6⟩ := SL.At_eq.1 h.sa
  refine h.put hS hb 4 _ ((h.bx.below hb h.bx.lt).set_ 4 _) (SL.In.mk ⟨⟨h1, h2, ⟨h3, h4⟩, hr, h6⟩, SL.Ins.of hI, h8⟩) (SL.At_eq.2 ⟨⟨a1, a2, fun h0 ad had => .inr (Nat.le_trans hlt (hA.2 ad had).1), a4⟩, fun y hy => (hT y hy).mono fun b hb => ?_, a6⟩)
  rcases hb with hb | hb
  · exact .inl hb
  · exact .inr (Nat.le_trans hlt hb)
theorem BSt.els {S : Nat → Prop} {b0 : Nat} {wr V w3 : World} {k m : Int} {nm : List UInt8} {A : Option Addr} {n c : Nat} {es : List EL} {A1 : Option Addr} {n1 c1 : Nat} {b : List SL} {A2 : Option Addr} {n2 c2 : Nat} {e : List SL} (h : BSt S b0 wr V (.mk k m nm A n c es A1 n1 c1 b A2 n2 c2 e)) (hS : ∀ b, S b → b < b0) (hb : Below V.heap.size V w3)
    {A' : Option Addr} {n' c' : Nat} {ys : List SL} (hr : RowS6 w3 w3.heap.size A' n' ys) (hA : FreshRow V.heap.size A' n' c') (hI : ∀ y ∈ ys, y.In w3 w3.heap.size) (hT : ∀ y ∈ ys, y.At (fun b => S b ∨ V.heap.size ≤ b)) :
    BSt S b0 wr (w3.setCell ⟨b0, 5, none⟩ (.slice A' n' c')) (.mk k m nm A n c es A1 n1 c1 b A' n' c' ys) := by
  have hlt := h.lt
  obtain ⟨⟨h1, h2, ⟨h3, h4⟩, h5, h6⟩, h7, h8⟩ := ((h.si.below hb).more hb.size).parts
  obtain ⟨⟨a1, a2, a3, a4⟩, a5, a6⟩ := SL.At_eq.1 h.sa
  refine h.put hS hb 5 _ ((h.bx.below hb h.bx.lt).set_ 5 _) (SL.In.mk ⟨⟨h1, h2, ⟨h3, h4⟩, h5, hr⟩, h7, SL.Ins.of hI⟩) (SL.At_eq.2 ⟨⟨a1, a2, a3, fun h0 ad had => .inr (Nat.le_trans hlt (hA.2 ad had).1)⟩, a5, fun y hy => (hT y hy).mono fun b hb => ?_⟩)
  rcases hb with hb | hb
  · exact .inl hb
  · exact .inr (Nat.le_trans hlt hb)

/-- the rounds -/
structure FInv (S : Nat → Prop) (w wr : World) (ss : List SL) (n j : Nat) (A : Option Addr) (m c : Nat) (ys : List SL) : Prop where
  own : wr.ownsRow w.heap.size 48 6 (.slice A m c) m (scw ys)
  ins : ∀ y ∈ ys, y.In wr wr.heap.size
  ats : ∀ y ∈ ys, y.At (fun b => (S b ∨ w.heap.size ≤ b) ∧ (Value.slice A m c).ownBlock ≠ some b)
  val : foldGo (ys.map plS) ((ss.drop j).map plS) = foldGo [] (ss.map plS)
  len : m + (n - j) ≤ max 256 n
  blw : Below w.heap.size w wr

/-- what a round does to the value -/
theorem FInv.step {S : Nat → Prop} {w wr : World} {ss : List SL} {n j : Nat} {A : Option Addr} {m c : Nat} {ys : List SL} (h : FInv S w wr ss n j A m c ys) (hl : ss.length = n) (hj : j < n) {x : SL} (hx : x = ss[j]?.getD nilS) :
    foldGo (stepB (ys.map plS) (n - j - 1) (foldS (plS x))) ((ss.drop (j + 1)).map plS) = foldGo [] (ss.map plS) := by
  have hjl : j < ss.length := by omega
  have hd : ss.drop j = x :: ss.drop (j + 1) := by rw [hx, List.getElem?_eq_getElem hjl, List.drop_eq_getElem_cons hjl]; rfl
  have := h.val
  rw [hd, List.map_cons, foldGo_cons, List.length_map, List.length_drop, hl, show n - (j + 1) = n - j - 1 from by omega] at this
  exact this
/-- a round that adds nothing -/
theorem FInv.skip {S : Nat → Prop} {w wr V : World} {ss : List SL} {n j : Nat} {A : Option Addr} {m c : Nat} {ys : List SL} (h : FInv S w wr ss n j A m c ys) (hl : ss.length = n) (hj : j < n) {x : SL} (hx : x = ss[j]?.getD nilS) (hb : Below wr.heap.size wr V)
    (he : stepB (ys.map plS) (n - j - 1) (foldS (plS x)) = ys.map plS) : FInv S w V ss n (j + 1) A m c ys :=
  ⟨own_below h.own hb, fun y hy => ((h.ins y hy).below hb).more hb.size, h.ats, by have := h.step hl hj hx; rw [he] at this; exact this, by have := h.len; omega, h.blw.trans (hb.mono h.blw.size)⟩
/-- a round that adds a row -/
theorem FInv.app {S : Nat → Prop} {w wr V w9 : World} {ss : List SL} {n j : Nat} {A : Option Addr} {m c : Nat} {ys : List SL} (h : FInv S w wr ss n j A m c ys) (hl : ss.length = n) (hj : j < n) {x : SL} (hx : x = ss[j]?.getD nilS) (hb : Below wr.heap.size wr V) (hS : ∀ b, S b → b < w.heap.size)
    {zs : List SL} {mz : Nat} (hz : zs.length = mz) (hzI : ∀ y ∈ zs, y.In V V.heap.size) (hzA : ∀ y ∈ zs, y.At (fun b => S b ∨ wr.heap.size + 1 ≤ b)) (he : stepB (ys.map plS) (n - j - 1) (foldS (plS x)) = ys.map plS ++ zs.map plS)
    {A' : Option Addr} {c' : Nat} (ho : w9.ownsRow w.heap.size 48 6 (.slice A' (m + mz) c') (m + mz) (scw (ys ++ zs))) (hg : V.grownBy w9 (Value.slice A m c).ownBlock) (hob : (Value.slice A' (m + mz) c').ownBlock = (Value.slice A m c).ownBlock ∨ (Value.slice A' (m + mz) c').ownBlock = some V.heap.size) :
    FInv S w w9 ss n (j + 1) A' (m + mz) c' (ys ++ zs) := by
  have hbs := hb.size
  have hws := h.blw.size
  have hown : ∀ g, (Value.slice A m c).ownBlock = some g → w.heap.size ≤ g ∧ g < wr.heap.size := fun g hg => h.own.lt g hg
  have hI : ∀ y ∈ ys ++ zs, y.In V V.heap.size := fun y hy => by
    rcases List.mem_append.1 hy with hy | hy
    · exact ((h.ins y hy).below hb).more hb.size
    · exact hzI y hy
  have hA : ∀ y ∈ ys ++ zs, y.At (fun b => (S b ∨ w.heap.size ≤ b) ∧ (Value.slice A m c).ownBlock ≠ some b) := fun y hy => by
    rcases List.mem_append.1 hy with hy | hy
    · exact h.ats y hy
    · refine (hzA y hy).mono fun b hb => ?_
      rcases hb with hb | hb
      · exact ⟨.inl hb, fun e => by have := (hown b e).1; have := hS b hb; omega⟩
      · exact ⟨.inr (by omega), fun e => by have := (hown b e).2; omega⟩
  have hv := h.step hl hj hx
  have hml := ownFS_len h.own
  refine ⟨ho, fun y hy => (hI y hy).keepS hg.size (fun p hp hlt => cell_of_heap (hg.block p.block hlt (fun e => hp.2 e.symm))) (hA y hy), fun y hy => ?_, ?_, ?_, (h.blw.trans (hb.mono hws)).grown hg (Nat.le_trans hws hbs) (fun g e => (hown g e).1)⟩
  · refine ((hA y hy).and (hI y hy).atB).mono fun b hb => ⟨hb.1.1, ?_⟩
    rcases hob with e | e
    · rw [e]
      exact hb.1.2
    · rw [e]
      exact some_ne (by have := hb.2; omega)
  · rw [List.map_append, ← he]
    exact hv
  · have hs := stepB_len (ys.map plS) (n - j - 1) (foldS (plS x))
    rw [he, List.length_append, List.length_map, List.length_map, hml, hz] at hs
    have := h.len
    omega

end

section
open Go.RowKit
set_option linter.unusedVariables false
set_option linter.unusedSimpArgs false

/-- an element of a row of statements -/
theorem rowFS_at {w : World} {B : Nat} {A : Option Addr} {n : Nat} {ss : List SL} (h : RowS6 w B A n ss) {j : Nat} (hj : j < n) : ∃ ad : Addr, A = some ad ∧ ad.block < B ∧ ∀ x : SL, x = ss[j]?.getD nilS → w.cell? (ad.add (j * 6)) = some (.int .i64 x.kind) ∧
    w.cell? ⟨(ad.add (j * 6)).block, (ad.add (j * 6)).off + 1, none⟩ = some (.int .i64 x.num) ∧ w.cell? ⟨(ad.add (j * 6)).block, (ad.add (j * 6)).off + 2, none⟩ = some (.string (bs x.name)) ∧
    w.cell? ⟨(ad.add (j * 6)).block, (ad.add (j * 6)).off + 3, none⟩ = some (.slice x.A x.n x.c) ∧ w.cell? ⟨(ad.add (j * 6)).block, (ad.add (j * 6)).off + 4, none⟩ = some (.slice x.A1 x.n1 x.c1) ∧
    w.cell? ⟨(ad.add (j * 6)).block, (ad.add (j * 6)).off + 5, none⟩ = some (.slice x.A2 x.n2 x.c2) := by
  obtain ⟨hl, _, hc⟩ := h
  obtain ⟨ad, e, hb, hc⟩ := hc (by omega)
  exact ⟨ad, e, hb, fun x hx => by subst hx; exact hc j (by omega)⟩

/-- a statement as it stands in a row of one -/
theorem BSt.one {S : Nat → Prop} {b0 : Nat} {wr V W : World} {s : SL} (h : BSt S b0 wr V s) {g : Nat} (hg : V.heap.size = g) (hW : W = V.alloc (.cells (sCells s) 48)) : RowS6 W W.heap.size (some ⟨g, 0, none⟩) 1 [s] ∧ Below b0 wr W ∧ (∀ y ∈ [s], y.In W W.heap.size) ∧ (∀ y ∈ [s], y.At (fun b => S b ∨ b0 + 1 ≤ b)) ∧ BSt S b0 wr W s := by
  subst hg
  have hb : Below V.heap.size V W := by rw [hW]; exact (Below.refl _ _).alloc (Nat.le_refl _) _
  refine ⟨rowFS_lit s W hW, h.blw.trans (hb.mono (Nat.le_of_lt h.lt)), fun y hy => ?_, fun y hy => ?_, h.below hb⟩
  · obtain rfl : y = s := by simpa using hy
    exact (h.si.below hb).more hb.size
  · obtain rfl : y = s := by simpa using hy
    exact h.sa

end

section
open Go.RowKit
set_option linter.unusedVariables false
set_option linter.unusedSimpArgs false

set_option maxHeartbeats 1000000 in
theorem law18num_any (m : Int) (w : World) : Calls Try.prog 23 #[.int .i64 m] w fun f w' => f = .returned (.agg #[.int .i64 1, .int .i64 0, .int .i64 m, .string ⟨#[]⟩, .slice none 0 0]) ∧ Below w.heap.size w w' := by
  obtain ⟨W, hW⟩ : ∃ W, W = w.alloc (.cells #[.int .i64 1, .int .i64 0, .int .i64 m, .string ⟨#[]⟩, .slice none 0 0] 31) := ⟨_, rfl⟩
  have HB : Hid (Below w.heap.size w W) := Lib.hid (by rw [hW]; exact (Below.refl _ _).alloc (Nat.le_refl _) _)
  have HK : Hid (Blk W w.heap.size 31 #[.int .i64 1, .int .i64 0, .int .i64 m, .string ⟨#[]⟩, .slice none 0 0]) := Lib.hid (by rw [hW]; exact Blk.new _ _ _)
  go_enter Try.func23, Try.ntmps23
  go_wp2_with fail
  rw [← hW]
  clear hW
  (try simp only [Exit.inBlock, Exit.then]); refine bodyPost_ret (results_cell_row rfl _ _ _ _ _ _ _ rfl HK.out Try.underlying31 rfl (by kernel_rfl)) rfl ?_
  exact ⟨rfl, HB.out⟩

theorem rowE_one {w : World} {g : Nat} {t : TypeId} {x : EL} (h : Blk w g t #[.int .i64 x.kind, .int .i64 x.op, .int .i64 x.num, .string (bs x.name), .slice x.A x.n x.c]) : RowE w w.heap.size (some ⟨g, 0, none⟩) 1 [x] := by
  refine ⟨rfl, by decide, fun _ => ⟨_, rfl, h.lt, fun j hj => ?_⟩⟩
  obtain rfl : j = 0 := by rw [List.length_singleton] at hj; omega
  exact ⟨h.cell 0, h.cell 1, h.cell 2, h.cell 3, h.cell 4⟩
theorem rowE_two {w : World} {g : Nat} {t : TypeId} {x y : EL} (h : Blk w g t #[.int .i64 x.kind, .int .i64 x.op, .int .i64 x.num, .string (bs x.name), .slice x.A x.n x.c, .int .i64 y.kind, .int .i64 y.op, .int .i64 y.num, .string (bs y.name), .slice y.A y.n y.c]) : RowE w w.heap.size (some ⟨g, 0, none⟩) 2 [x, y] := by
  refine ⟨rfl, by decide, fun _ => ⟨_, rfl, h.lt, fun j hj => ?_⟩⟩
  rw [show [x, y].length = 2 from rfl] at hj
  obtain rfl | rfl : j = 0 ∨ j = 1 := by omega
  · exact ⟨h.cell 0, h.cell 1, h.cell 2, h.cell 3, h.cell 4⟩
  · exact ⟨h.cell 5, h.cell 6, h.cell 7, h.cell 8, h.cell 9⟩
theorem rowS_one {w : World} {g : Nat} {t : TypeId} {x : SL} (h : Blk w g t #[.int .i64 x.kind, .int .i64 x.num, .string (bs x.name), .slice x.A x.n x.c, .slice x.A1 x.n1 x.c1, .slice x.A2 x.n2 x.c2]) : RowS6 w w.heap.size (some ⟨g, 0, none⟩) 1 [x] := by
  refine ⟨rfl, by decide, fun _ => ⟨_, rfl, h.lt, fun j hj => ?_⟩⟩
  obtain rfl : j = 0 := by rw [List.length_singleton] at hj; omega
  exact ⟨h.cell 0, h.cell 1, h.cell 2, h.cell 3, h.cell 4, h.cell 5⟩
theorem rowE_none (w : World) (B : Nat) : RowE w B none 0 [] := ⟨rfl, by decide, fun h => absurd h (Nat.lt_irrefl _)⟩
theorem rowS_none (w : World) (B : Nat) : RowS6 w B none 0 [] := ⟨rfl, by decide, fun h => absurd h (Nat.lt_irrefl _)⟩
theorem insE_nil (w : World) (B : Nat) : EL.Ins w B [] := EL.Ins.of fun x hx => absurd hx List.not_mem_nil
theorem insS_nil (w : World) (B : Nat) : SL.Ins w B [] := SL.Ins.of fun x hx => absurd hx List.not_mem_nil

def nE (m : Int) : EL := .mk 1 0 m [] none 0 0 []
def addE (g : Nat) : EL := .mk 6 10 0 [] (some ⟨g, 0, none⟩) 2 2 [nE 1, nE 2]
def plainS (k : Int) : SL := .mk k 0 [] none 0 0 [] none 0 0 [] none 0 0 []
def ifS (g1 g2 g3 : Nat) : SL := .mk 9 0 [] (some ⟨g1, 0, none⟩) 1 1 [nE 1] (some ⟨g2, 0, none⟩) 1 1 [plainS 21] (some ⟨g3, 0, none⟩) 1 1 [plainS 14]

theorem nE_in (w : World) (B : Nat) (m : Int) (hm : -9223372036854775808 ≤ m ∧ m ≤ 9223372036854775807) : (nE m).In w B := by
  unfold nE EL.In
  exact ⟨⟨hm, by decide, rowE_none w B⟩, insE_nil w B⟩
theorem addE_in {w : World} {B g : Nat} (hr : RowE w B (some ⟨g, 0, none⟩) 2 [nE 1, nE 2]) : (addE g).In w B := by
  unfold addE EL.In
  refine ⟨⟨by decide, by decide, hr⟩, EL.Ins.of fun z hz => ?_⟩
  rcases List.mem_cons.1 hz with rfl | hz
  · exact nE_in _ _ _ (by decide)
  · rw [List.mem_singleton] at hz; subst hz; exact nE_in _ _ _ (by decide)
theorem plainS_in (w : World) (B : Nat) (k : Int) : (plainS k).In w B := SL.In.mk ⟨⟨show (-9223372036854775808 ≤ (0 : Int) ∧ (0 : Int) ≤ 9223372036854775807) from by decide, show (((List.nil : List UInt8).length : Nat) : Int) ≤ 9223372036854775807 from by decide, ⟨rowE_none w B, insE_nil w B⟩, rowS_none w B, rowS_none w B⟩, insS_nil w B, insS_nil w B⟩
theorem ifS_in {w : World} {B g1 g2 g3 : Nat} (h1 : RowE w B (some ⟨g1, 0, none⟩) 1 [nE 1]) (h2 : RowS6 w B (some ⟨g2, 0, none⟩) 1 [plainS 21]) (h3 : RowS6 w B (some ⟨g3, 0, none⟩) 1 [plainS 14]) : (ifS g1 g2 g3).In w B := by
  refine SL.In.mk ⟨⟨show (-9223372036854775808 ≤ (0 : Int) ∧ (0 : Int) ≤ 9223372036854775807) from by decide, show (((List.nil : List UInt8).length : Nat) : Int) ≤ 9223372036854775807 from by decide, ⟨h1, EL.Ins.of fun z hz => ?_⟩, h2, h3⟩, SL.Ins.of fun z hz => ?_, SL.Ins.of fun z hz => ?_⟩
  · obtain rfl : z = nE 1 := List.mem_singleton.1 hz; exact nE_in _ _ _ (by decide)
  · obtain rfl : z = plainS 21 := List.mem_singleton.1 hz; exact plainS_in _ _ _
  · obtain rfl : z = plainS 14 := List.mem_singleton.1 hz; exact plainS_in _ _ _
theorem nE_at (S : Nat → Prop) (m : Int) : (nE m).At S := by
  unfold nE EL.At
  exact ⟨fun h => absurd h (Nat.lt_irrefl _), EL.Ats.iff.2 fun x hx => absurd hx List.not_mem_nil⟩
theorem addE_at (g : Nat) : (addE g).At (fun b => b = g) := by
  unfold addE EL.At
  refine ⟨fun _ ad h => ?_, EL.Ats.iff.2 fun z hz => ?_⟩
  · injection h with h; subst h; rfl
  · rcases List.mem_cons.1 hz with rfl | hz
    · exact nE_at _ _
    · rw [List.mem_singleton] at hz; subst hz; exact nE_at _ _
theorem plainS_at (S : Nat → Prop) (k : Int) : (plainS k).At S := by
  unfold plainS SL.At
  exact ⟨⟨fun h => absurd h (Nat.lt_irrefl _), fun x hx => absurd hx List.not_mem_nil, fun h => absurd h (Nat.lt_irrefl _), fun h => absurd h (Nat.lt_irrefl _)⟩, SL.Ats.iff.2 fun x hx => absurd hx List.not_mem_nil, SL.Ats.iff.2 fun x hx => absurd hx List.not_mem_nil⟩
theorem ifS_at (g1 g2 g3 : Nat) : (ifS g1 g2 g3).At (fun b => b = g1 ∨ b = g2 ∨ b = g3) := by
  unfold ifS SL.At
  refine ⟨⟨fun _ ad h => ?_, fun z hz => ?_, fun _ ad h => ?_, fun _ ad h => ?_⟩, SL.Ats.iff.2 fun z hz => ?_, SL.Ats.iff.2 fun z hz => ?_⟩
  · injection h with h; subst h; exact .inl rfl
  · obtain rfl : z = nE 1 := List.mem_singleton.1 hz; exact nE_at _ _
  · injection h with h; subst h; exact .inr (.inl rfl)
  · injection h with h; subst h; exact .inr (.inr rfl)
  · obtain rfl : z = plainS 21 := List.mem_singleton.1 hz; exact plainS_at _ _
  · obtain rfl : z = plainS 14 := List.mem_singleton.1 hz; exact plainS_at _ _
theorem aw18_e (g : Nat) : foldP (plE (addE g)) = .mk 1 0 3 [] [] := by kernel_rfl
theorem aw18_b (g1 g2 g3 : Nat) : foldGo [] ([ifS g1 g2 g3].map plS) = [.mk 21 0 [] [] [] []] := by kernel_rfl
theorem aw18_le (g : Nat) : litP (plE (addE g)) := by
  rw [litP_eq]
  refine ⟨of_decide_eq_true (by kernel_rfl), fun x hx => ?_⟩
  rcases (List.mem_cons.1 hx) with rfl | hx
  · rw [litP_eq]; exact ⟨of_decide_eq_true (by kernel_rfl), fun x hx => absurd hx List.not_mem_nil⟩
  · obtain rfl := List.mem_singleton.1 hx
    rw [litP_eq]; exact ⟨of_decide_eq_true (by kernel_rfl), fun x hx => absurd hx List.not_mem_nil⟩
theorem lit_num18 (m : Int) : litP (plE (nE m)) := by
  rw [litP_eq]
  exact ⟨of_decide_eq_true (by kernel_rfl), fun x hx => absurd hx List.not_mem_nil⟩
theorem lit_plain18 (k : Int) : litS (plS (plainS k)) := by
  rw [litS_eq]
  exact ⟨⟨of_decide_eq_true (by kernel_rfl), fun x hx => absurd hx List.not_mem_nil, of_decide_eq_true (by kernel_rfl), of_decide_eq_true (by kernel_rfl)⟩, fun x hx => absurd hx List.not_mem_nil, fun x hx => absurd hx List.not_mem_nil⟩
theorem aw18_lb (g1 g2 g3 : Nat) : litS (plS (ifS g1 g2 g3)) := by
  rw [litS_eq]
  refine ⟨⟨of_decide_eq_true (by kernel_rfl), fun x hx => ?_, of_decide_eq_true (by kernel_rfl), of_decide_eq_true (by kernel_rfl)⟩, fun x hx => ?_, fun x hx => ?_⟩
  · obtain rfl := List.mem_singleton.1 hx; exact lit_num18 1
  · obtain rfl := List.mem_singleton.1 hx; exact lit_plain18 21
  · obtain rfl := List.mem_singleton.1 hx; exact lit_plain18 14
theorem plE_num18 {y : EL} {m : Int} (h : plE y = .mk 1 0 m [] []) (hr : y.args.length = y.n) : ∃ (A : Option Addr) (c : Nat), y = .mk 1 0 m [] A 0 c [] := by
  obtain ⟨k, o, q, s, A, n, c, es⟩ := y
  rw [plE_eq] at h
  simp only [PE.mk.injEq] at h
  obtain ⟨h1, h2, h3, h4, h5⟩ := h
  have h6 : es = [] := List.map_eq_nil_iff.1 h5
  simp only [EL.kind, EL.op, EL.num, EL.name] at h1 h2 h3 h4
  subst h1 h2 h3 h4 h6
  have h7 : (0 : Nat) = n := hr
  subst h7
  exact ⟨A, c, rfl⟩

set_option maxRecDepth 100000 in
set_option maxHeartbeats 12800000 in
theorem awake18_of (hE : ∀ x : EL, FoldAt 9 x) (hB : ∀ l : List SL, FoldBAt 12 l) (w : World) : Calls Try.prog 7 #[] w fun e w' => e = .returned (.bool true) ∧ Below w.heap.size w w' := by
  have HE := Lib.hid hE
  have HB := Lib.hid hB
  clear hE hB
  go_enter Try.func7, Try.ntmps7
  go_wp2_with fail
  refine (law18num_any 1 _).mono ?_
  rintro f w1 ⟨rfl, hb1⟩
  have HX1 := Lib.hid hb1
  clear hb1
  go_wp2_with fail
  refine (law18num_any 2 _).mono ?_
  rintro f w2 ⟨rfl, hb2⟩
  have HX2 := Lib.hid (HX1.out.trans (hb2.mono HX1.out.size))
  clear hb2
  obtain ⟨W, hW⟩ : ∃ W, W = w2.alloc (.cells #[.int .i64 1, .int .i64 0, .int .i64 1, .string ⟨#[]⟩, .slice none 0 0, .int .i64 1, .int .i64 0, .int .i64 2, .string ⟨#[]⟩, .slice none 0 0] 31) := ⟨_, rfl⟩
  have hbW : Below w2.heap.size w2 W := by rw [hW]; exact (Below.refl _ _).alloc (Nat.le_refl _) _
  have hk : Blk W w2.heap.size 31 #[.int .i64 1, .int .i64 0, .int .i64 1, .string ⟨#[]⟩, .slice none 0 0, .int .i64 1, .int .i64 0, .int .i64 2, .string ⟨#[]⟩, .slice none 0 0] := by rw [hW]; exact Blk.new _ _ _
  have HXW := Lib.hid (HX2.out.trans (hbW.mono HX2.out.size))
  have HC := Lib.hid (HE.out (addE w2.heap.size) (fun b => b = w2.heap.size) W (addE_in (rowE_two (x := nE 1) (y := nE 2) hk)) (addE_at _) (aw18_le _))
  clear hbW hk
  go_wp2_with fail
  rw [← hW]
  clear hW
  refine HC.out.mono ?_
  rintro f w3 ⟨y, rfl, hyI, hyA, hyP, hb3⟩
  rw [aw18_e] at hyP
  obtain ⟨A, c, rfl⟩ := plE_num18 hyP hyI.row.1
  have HX3 := Lib.hid (HXW.out.trans (hb3.mono HXW.out.size))
  clear hyI hyA hyP hb3 HC
  unfold eVal eCells
  simp only [EL.kind, EL.op, EL.num, EL.name, EL.A, EL.n, EL.c]
  obtain ⟨V, hV⟩ : ∃ V, V = w3.alloc (.cells #[.int .i64 1, .int .i64 0, .int .i64 3, .string (bs []), .slice A 0 c] 31) := ⟨_, rfl⟩
  have hbV : Below w3.heap.size w3 V := by rw [hV]; exact (Below.refl _ _).alloc (Nat.le_refl _) _
  have HKV := Lib.hid (show Blk V w3.heap.size 31 #[.int .i64 1, .int .i64 0, .int .i64 3, .string (bs []), .slice A 0 c] from by rw [hV]; exact Blk.new _ _ _)
  have HXV := Lib.hid (HX3.out.trans (hbV.mono HX3.out.size))
  clear hbV
  go_wp2_with fail
  rw [← hV]
  clear hV
  refine (law18num_any 1 V).mono ?_
  rintro f w5 ⟨rfl, hb5⟩
  have HX5 := Lib.hid (HXV.out.trans (hb5.mono HXV.out.size))
  have HK5 := Lib.hid (HKV.out.below hb5 HKV.out.lt)
  clear hb5
  obtain ⟨U, hU⟩ : ∃ U, U = (((w5.alloc (.cells #[.int .i64 1, .int .i64 0, .int .i64 1, .string ⟨#[]⟩, .slice none 0 0] 31)).alloc (.cells #[.int .i64 21, .int .i64 0, .string ⟨#[]⟩, .slice none 0 0, .slice none 0 0, .slice none 0 0] 48)).alloc (.cells #[.int .i64 14, .int .i64 0, .string ⟨#[]⟩, .slice none 0 0, .slice none 0 0, .slice none 0 0] 48)).alloc (.cells #[.int .i64 9, .int .i64 0, .string ⟨#[]⟩, .slice (some ⟨w5.heap.size, 0, none⟩) 1 1, .slice (some ⟨w5.heap.size + 1, 0, none⟩) 1 1, .slice (some ⟨w5.heap.size + 1 + 1, 0, none⟩) 1 1] 48) := ⟨_, rfl⟩
  have hbU : Below w5.heap.size w5 U := by rw [hU]; exact ((((Below.refl _ _).alloc (Nat.le_refl _) _).alloc (by simp) _).alloc (by simp; omega) _).alloc (by simp; omega) _
  have k1 : Blk U (w5.heap.size) 31 #[.int .i64 1, .int .i64 0, .int .i64 1, .string ⟨#[]⟩, .slice none 0 0] := by rw [hU]; exact (((Blk.new_at _ _ _ _ (by simp)).alloc _).alloc _).alloc _
  have k2 : Blk U (w5.heap.size + 1) 48 #[.int .i64 21, .int .i64 0, .string ⟨#[]⟩, .slice none 0 0, .slice none 0 0, .slice none 0 0] := by rw [hU]; exact ((Blk.new_at _ _ _ _ (by simp)).alloc _).alloc _
  have k3 : Blk U (w5.heap.size + 1 + 1) 48 #[.int .i64 14, .int .i64 0, .string ⟨#[]⟩, .slice none 0 0, .slice none 0 0, .slice none 0 0] := by rw [hU]; exact (Blk.new_at _ _ _ _ (by simp)).alloc _
  have k4 : Blk U (w5.heap.size + 1 + 1 + 1) 48 #[.int .i64 9, .int .i64 0, .string ⟨#[]⟩, .slice (some ⟨w5.heap.size, 0, none⟩) 1 1, .slice (some ⟨w5.heap.size + 1, 0, none⟩) 1 1, .slice (some ⟨w5.heap.size + 1 + 1, 0, none⟩) 1 1] := by rw [hU]; exact Blk.new_at _ _ _ _ (by simp)
  have HXU := Lib.hid (HX5.out.trans (hbU.mono HX5.out.size))
  have HKU := Lib.hid (HK5.out.below hbU HK5.out.lt)
  have HC := Lib.hid (HB.out [ifS (w5.heap.size) (w5.heap.size + 1) (w5.heap.size + 1 + 1)] (fun b => b = w5.heap.size ∨ b = w5.heap.size + 1 ∨ b = w5.heap.size + 1 + 1) U (some ⟨w5.heap.size + 1 + 1 + 1, 0, none⟩) 1 1 (rowS_one (x := ifS (w5.heap.size) (w5.heap.size + 1) (w5.heap.size + 1 + 1)) k4)
    (fun x hx => by
      obtain rfl := List.mem_singleton.1 hx
      exact ifS_in (rowE_one (x := nE 1) k1) (rowS_one (x := plainS 21) k2) (rowS_one (x := plainS 14) k3))
    (fun x hx => by
      obtain rfl := List.mem_singleton.1 hx
      exact ifS_at _ _ _)
    (fun b hb => by have := k4.lt; rcases hb with rfl | rfl | rfl <;> omega) (by decide) (fun x hx => by
      obtain rfl := List.mem_singleton.1 hx
      exact aw18_lb _ _ _))
  rw [aw18_b] at HC
  clear hbU k1 k2 k3 k4
  go_wp2_with fail
  rw [← hU]
  clear hU
  refine HC.out.mono ?_
  rintro f w6 ⟨A', m, c', ys, rfl, hR, hF, hI, hA, hP, hm, hb6⟩
  obtain ⟨y, rfl⟩ : ∃ y, ys = [y] := by
    cases ys with
    | nil => simp at hP
    | cons a r =>
      cases r with
      | nil => exact ⟨a, rfl⟩
      | cons b r2 => simp at hP
  obtain rfl : m = 1 := hR.1.symm
  have hy : plS y = .mk 21 0 [] [] [] [] := List.head_eq_of_cons_eq hP
  have hyk : y.kind = 21 := by
    rw [plS_eq] at hy
    simp only [PS.mk.injEq] at hy
    exact hy.1
  obtain ⟨ad, rfl, hadl, hcell⟩ := rowFS_at hR (j := 0) (by decide)
  have hc0 := (hcell y rfl).1
  rw [hyk, Nat.zero_mul, add_zeroF] at hc0
  obtain ⟨b, o, sp⟩ := ad
  obtain rfl : sp = none := (hF.2 _ rfl).2
  have HX6 := Lib.hid (HXU.out.trans (hb6.mono HXU.out.size))
  have HK6 := Lib.hid (HKU.out.below hb6 HKU.out.lt)
  clear hR hF hI hA hP hm hb6 hy hyk hcell HC hadl
  have q0 : w6.cell? ⟨w3.heap.size, 0, none⟩ = some (.int .i64 1) := HK6.out.cell 0
  have q2 : w6.cell? ⟨w3.heap.size, 2, none⟩ = some (.int .i64 3) := HK6.out.cell 2
  go_wp2_with fail
  go_ret
  exact ⟨rfl, HX6.out⟩

end

section
open Go.RowKit

theorem bs_list9 (x : List UInt8) : (bs x).toList = x := by rw [ByteArray.toList_eq]; simp [bs]

end

section
open Go.RowKit

theorem stmt_size : (Try.prog.info? 48).map (·.size) = some 6 := by kernel_rfl
theorem stmt_one (a b : Int) (s : ByteArray) (A : Option Addr) (n m : Nat) (A1 : Option Addr) (n1 m1 : Nat) (A2 : Option Addr) (n2 m2 : Nat) : (#[Value.int .i64 a, .int .i64 b, .string s, .slice A n m, .slice A1 n1 m1, .slice A2 n2 m2]).all (·.oneCell') = true := by simp [Value.oneCell']

/-- an element of a row of statements -/
theorem rowS_at {w : World} {B : Nat} {A : Option Addr} {n : Nat} {ss : List SL} (h : RowS6 w B A n ss) {j : Nat} (hj : j < n) : ∃ ad : Addr, A = some ad ∧ ad.block < B ∧ ∀ x : SL, x = ss[j]?.getD nilS → w.cell? (ad.add (j * 6)) = some (.int .i64 x.kind) ∧
    w.cell? ⟨(ad.add (j * 6)).block, (ad.add (j * 6)).off + 1, none⟩ = some (.int .i64 x.num) ∧ w.cell? ⟨(ad.add (j * 6)).block, (ad.add (j * 6)).off + 2, none⟩ = some (.string (bs x.name)) ∧
    w.cell? ⟨(ad.add (j * 6)).block, (ad.add (j * 6)).off + 3, none⟩ = some (.slice x.A x.n x.c) ∧ w.cell? ⟨(ad.add (j * 6)).block, (ad.add (j * 6)).off + 4, none⟩ = some (.slice x.A1 x.n1 x.c1) ∧
    w.cell? ⟨(ad.add (j * 6)).block, (ad.add (j * 6)).off + 5, none⟩ = some (.slice x.A2 x.n2 x.c2) := by
  obtain ⟨hl, _, hc⟩ := h
  obtain ⟨ad, e, hb, hc⟩ := hc (by omega)
  exact ⟨ad, e, hb, fun x hx => by subst hx; exact hc j (by omega)⟩

/-- what is at hand while a statement's lists are worked on: its block lies behind V's beginning -/
theorem held_cells {V u : World} {g : Nat} {t : TypeId} {cs : Array Value} (hk : Blk V g t cs) (hb : Below V.heap.size V u) (i : Nat) : u.cell? ⟨g, i, none⟩ = cs[i]? := (hk.below hb hk.lt).cell i

end

section
open Go.RowKit
set_option linter.unusedVariables false

/-- so many Args, and none of Op, Num, Name but those that are said -/
def bareE (e : EL) (k : Nat) (op num named : Bool) : Bool := decide (e.args.length = k) && (op || decide (e.op = 0)) && (num || decide (e.num = 0)) && (named || e.name.isEmpty)
def amongB (n lo hi : Int) : Bool := decide (lo ≤ n) && decide (n ≤ hi)

/-- an expression of a source, but what lies below it -/
def okE (nm : List UInt8 → Bool) (said : Bool) (e : EL) : Bool :=
  if e.kind = 1 then bareE e 0 false true false && amongB e.num 0 32767
  else if e.kind = 2 then said && bareE e 0 false false true && textB e.name
  else if e.kind = 3 then bareE e 0 false false true && nm e.name
  else if e.kind = 4 ∨ e.kind = 5 ∨ e.kind = 11 then bareE e 1 false false false
  else if e.kind = 13 then said && bareE e 1 false false false
  else if e.kind = 6 then bareE e 2 true false false && amongB e.op 1 14
  else if e.kind = 7 ∨ e.kind = 8 then bareE e 1 false false true && nm e.name
  else if e.kind = 9 then bareE e e.args.length false false true && decide (e.args.length ≤ 8) && nm e.name
  else if e.kind = 10 then bareE e 1 true false false && amongB e.op 1 3
  else if e.kind = 12 then bareE e 0 true false false && amongB e.op 1 6
  else false

mutual
def rightE (nm : List UInt8 → Bool) : Bool → EL → Bool
  | said, .mk k o m s A n c as1 => okE nm said (.mk k o m s A n c as1) && rightEs nm as1
def rightEs (nm : List UInt8 → Bool) : List EL → Bool
  | [] => true
  | x :: r => rightE nm false x && rightEs nm r
end
theorem rightE_eq (nm : List UInt8 → Bool) (said : Bool) (e : EL) : rightE nm said e = (okE nm said e && rightEs nm e.args) := by
  cases e
  unfold rightE
  rfl
theorem rightEs_all (nm : List UInt8 → Bool) : ∀ l : List EL, rightEs nm l = l.all (rightE nm false) := by
  intro l
  induction l with
  | nil => unfold rightEs; rfl
  | cons x r ih =>
    have e : rightEs nm (x :: r) = (rightE nm false x && rightEs nm r) := by conv => lhs; unfold rightEs
    rw [e, ih, List.all_cons]

/-- what a statement has, and whether it has a name -/
def hasS (s : SL) (named : Bool) (k : Nat) (body other : Bool) : Bool := decide (s.args.length = k) && (body || s.body.isEmpty) && (other || s.els.isEmpty) && (named || (s.name.isEmpty && decide (s.num = 0)))
def shapeS (s : SL) : Bool × Bool :=
  if s.kind = 1 then (hasS s false s.args.length false false && (decide (1 ≤ s.args.length) && decide (s.args.length ≤ 8)), false)
  else if s.kind = 2 ∨ s.kind = 3 ∨ s.kind = 5 ∨ s.kind = 6 ∨ s.kind = 17 ∨ s.kind = 23 then (hasS s true 1 false false, true)
  else if s.kind = 4 then (hasS s true 2 false false, true)
  else if s.kind = 7 then (hasS s false 2 false false, false)
  else if s.kind = 8 ∨ s.kind = 12 ∨ s.kind = 16 ∨ s.kind = 20 ∨ s.kind = 22 ∨ s.kind = 19 then (hasS s false 1 false false, false)
  else if s.kind = 9 then (hasS s false 1 true true, false)
  else if s.kind = 10 then (hasS s false 1 true false, false)
  else if s.kind = 11 then (hasS s true 1 true false, true)
  else if s.kind = 18 then (hasS s true 0 false false, true)
  else if s.kind = 13 ∨ s.kind = 14 ∨ s.kind = 15 ∨ s.kind = 21 then (hasS s false 0 false false, false)
  else (false, false)

/-- a statement of a source, but what lies below it -/
def okS (nm : List UInt8 → Bool) (s : SL) : Bool := (shapeS s).1 && decide (s.num = 0) && decide (s.kind ≠ 23) && (!(shapeS s).2 || nm s.name) && (decide (s.kind ≠ 19) || decide ((s.args[0]?.getD nilE).kind = 9)) && s.args.all (rightE nm (decide (s.kind = 1)))

mutual
def rightS (nm : List UInt8 → Bool) : SL → Bool
  | .mk k m s A n c as1 A1 n1 c1 bo A2 n2 c2 el => okS nm (.mk k m s A n c as1 A1 n1 c1 bo A2 n2 c2 el) && (rightSs nm bo && decide (bo.length ≤ 256)) && (rightSs nm el && decide (el.length ≤ 256))
def rightSs (nm : List UInt8 → Bool) : List SL → Bool
  | [] => true
  | x :: r => rightS nm x && rightSs nm r
end
theorem rightS_eq (nm : List UInt8 → Bool) (s : SL) : rightS nm s = (okS nm s && (rightSs nm s.body && decide (s.body.length ≤ 256)) && (rightSs nm s.els && decide (s.els.length ≤ 256))) := by
  cases s
  unfold rightS
  rfl
theorem rightSs_cons (nm : List UInt8 → Bool) (x : SL) (r : List SL) : rightSs nm (x :: r) = (rightS nm x && rightSs nm r) := by
  conv => lhs; unfold rightSs
/-- statements of a source -/
def rightBl (nm : List UInt8 → Bool) (l : List SL) : Bool := rightSs nm l && decide (l.length ≤ 256)
def rightBs (nm : List UInt8 → Bool) (l : List SL) : Bool := decide (depSs l ≤ 32) && rightBl nm l

/-- what a book's tables tell -/
structure TB where
  texts : Nat
  flags : Int
  props : Nat
  globals : Nat
  daemons : Nat
  funcs : List Int
  params : List Int

/-- how many arguments a function has; -1: there is none -/
def paramsT (t : TB) (f : Int) : Int :=
  if amongB f 0 ((t.funcs.length : Int) - 1) = true ∧ amongB (t.funcs.getD f.toNat 0) 0 ((t.params.length : Int) - 1) = true then t.params.getD (t.funcs.getD f.toNat 0).toNat 0 else -1

/-- an expression of a book, but what lies below it -/
def okB (t : TB) (locals : Int) (said : Bool) (e : EL) : Bool :=
  if e.kind = 1 then bareE e 0 false true false && amongB e.num (-32768) 32767
  else if e.kind = 14 then bareE e 0 false true false && amongB e.num 0 ((t.globals : Int) - 1)
  else if e.kind = 15 then bareE e 0 false true false && decide (0 ≤ e.num) && decide (e.num < locals)
  else if e.kind = 19 then said && bareE e 0 false true false && amongB e.num 0 ((t.texts : Int) - 1)
  else if e.kind = 4 ∨ e.kind = 5 ∨ e.kind = 11 then bareE e 1 false false false
  else if e.kind = 13 then said && bareE e 1 false false false
  else if e.kind = 6 then bareE e 2 true false false && amongB e.op 1 14
  else if e.kind = 16 then bareE e 1 false true false && decide (0 ≤ e.num) && decide (e.num < t.flags)
  else if e.kind = 17 then bareE e 1 false true false && amongB e.num 0 ((t.props : Int) - 1)
  else if e.kind = 18 then bareE e e.args.length false true false && decide (paramsT t e.num = (e.args.length : Int))
  else if e.kind = 10 then bareE e 1 true false false && amongB e.op 1 3
  else if e.kind = 12 then bareE e 0 true false false && amongB e.op 1 6
  else false

mutual
def boundE (t : TB) (locals : Int) : Bool → EL → Bool
  | said, .mk k o m s A n c as1 => okB t locals said (.mk k o m s A n c as1) && boundEs t locals as1
def boundEs (t : TB) (locals : Int) : List EL → Bool
  | [] => true
  | x :: r => boundE t locals false x && boundEs t locals r
end
theorem boundE_eq (t : TB) (locals : Int) (said : Bool) (e : EL) : boundE t locals said e = (okB t locals said e && boundEs t locals e.args) := by
  cases e
  unfold boundE
  rfl
theorem boundEs_all (t : TB) (locals : Int) : ∀ l : List EL, boundEs t locals l = l.all (boundE t locals false) := by
  intro l
  induction l with
  | nil => unfold boundEs; rfl
  | cons x r ih =>
    have e : boundEs t locals (x :: r) = (boundE t locals false x && boundEs t locals r) := by conv => lhs; unfold boundEs
    rw [e, ih, List.all_cons]
def boundB (t : TB) (locals : Int) (e : EL) : Bool := decide (depE e ≤ 32) && boundE t locals true e

/-- is the number that a statement of a book has for a name one? -/
def thereS (t : TB) (locals : Int) (s : SL) : Bool :=
  if s.name ≠ [] then false
  else if s.kind = 2 ∨ s.kind = 3 then decide (0 ≤ s.num) && decide (s.num < locals)
  else if s.kind = 11 then decide (0 ≤ s.num) && decide (s.num < locals - 1) && decide (1 < locals)
  else if s.kind = 23 then amongB s.num 0 ((t.globals : Int) - 1)
  else if s.kind = 4 then amongB s.num 0 ((t.props : Int) - 1)
  else if s.kind = 5 ∨ s.kind = 6 then decide (0 ≤ s.num) && decide (s.num < t.flags)
  else if s.kind = 17 ∨ s.kind = 18 then amongB s.num 0 ((t.daemons : Int) - 1)
  else true

def okBS (t : TB) (locals : Int) (s : SL) : Bool := (shapeS s).1 && thereS t locals s && (decide (s.kind ≠ 19) || decide ((s.args[0]?.getD nilE).kind = 18)) && s.args.all (boundE t locals (decide (s.kind = 1)))
mutual
def boundS (t : TB) (locals : Int) : SL → Bool
  | .mk k m s A n c as1 A1 n1 c1 bo A2 n2 c2 el => okBS t locals (.mk k m s A n c as1 A1 n1 c1 bo A2 n2 c2 el) && (boundSs t locals bo && decide (bo.length ≤ 256)) && (boundSs t locals el && decide (el.length ≤ 256))
def boundSs (t : TB) (locals : Int) : List SL → Bool
  | [] => true
  | x :: r => boundS t locals x && boundSs t locals r
end
theorem boundS_eq (t : TB) (locals : Int) (s : SL) : boundS t locals s = (okBS t locals s && (boundSs t locals s.body && decide (s.body.length ≤ 256)) && (boundSs t locals s.els && decide (s.els.length ≤ 256))) := by
  cases s
  unfold boundS
  rfl
theorem boundSs_cons (t : TB) (locals : Int) (x : SL) (r : List SL) : boundSs t locals (x :: r) = (boundS t locals x && boundSs t locals r) := by
  conv => lhs; unfold boundSs
def boundBl (t : TB) (locals : Int) (l : List SL) : Bool := boundSs t locals l && decide (l.length ≤ 256)
def boundBs (t : TB) (locals : Int) (l : List SL) : Bool := decide (depSs l ≤ 32) && boundBl t locals l

end

section
open Go.RowKit

/-- function k is entered when it is called -/
def Enters (k : FuncId) : Prop := ∃ fn, Try.prog.funcs[k]? = some fn ∧ (fn.name == "runtime.NumGoroutine") = false ∧ fn.body.isNone = false

theorem Enters.run {k : FuncId} (h : Enters k) (args : Array Value) (w : World) : (callFunc k args).run Try.prog w = .ok (.enter k args) w := by
  obtain ⟨fn, hf, hn, hb⟩ := h
  have hn2 : ¬ fn.name = "runtime.NumGoroutine" := by simpa using hn
  have hb2 : ¬ fn.body = none := by intro e; rw [e] at hb; cases hb
  simp [callFunc, hf, hn2, hb2]

end

section
open Go.RowKit

/-- Function k, with what it has captured (cs), tells the class p of bytes: in each world that is below block B as w. -/
def Cls (w : World) (B : Nat) (k : FuncId) (cs : Array Value) (p : UInt8 → Bool) : Prop :=
  Enters k ∧ ∀ (w' : World), Below B w w' → ∀ (c : UInt8), Calls Try.prog k (#[.int .u8 (c.toNat : Int)] ++ cs) w' fun e w'' => e = .returned (.bool (p c)) ∧ Below w'.heap.size w' w''

theorem Cls.below {w w1 : World} {B : Nat} {k : FuncId} {cs : Array Value} {p : UInt8 → Bool} (h : Cls w B k cs p) (hb : Below B w w1) : Cls w1 B k cs p :=
  ⟨h.1, fun w' h' c => h.2 w' (hb.trans h') c⟩

theorem Cls.more {w : World} {B B' : Nat} {k : FuncId} {cs : Array Value} {p : UInt8 → Bool} (h : Cls w B k cs p) (hB : B ≤ B') : Cls w B' k cs p :=
  ⟨h.1, fun w' h' c => h.2 w' (h'.mono hB) c⟩

end

section
open Go.RowKit

/-- a variable that holds a class -/
def Holds (w : World) (B g k : Nat) (cs : Array Value) (p : UInt8 → Bool) : Prop :=
  w.cell? ⟨g, 0, none⟩ = some (.func (.func k) #[] cs) ∧ g < B ∧ Cls w B k cs p

theorem Holds.below {w w1 : World} {B g k : Nat} {cs : Array Value} {p : UInt8 → Bool} (h : Holds w B g k cs p) (hb : Below B w w1) : Holds w1 B g k cs p :=
  ⟨(hb.cell (p := ⟨g, 0, none⟩) h.2.1).trans h.1, h.2.1, h.2.2.below hb⟩

theorem Holds.more {w : World} {B B' g k : Nat} {cs : Array Value} {p : UInt8 → Bool} (h : Holds w B g k cs p) (hB : B ≤ B') : Holds w B' g k cs p :=
  ⟨h.1, Nat.lt_of_lt_of_le h.2.1 hB, h.2.2.more hB⟩

end

section
open Go.RowKit

/-- block g begins with the bytes l, none of them frozen -/
def Buf (w : World) (g : Nat) (l : List UInt8) : Prop :=
  g < w.heap.size ∧ ∀ m, m < l.length → w.cell? ⟨g, m, none⟩ = some (.int .u8 ((l[m]?.getD 0).toNat : Int)) ∧ w.frozen? ⟨g, m, none⟩ = false

theorem Buf.below {w w' : World} {B g : Nat} {l : List UInt8} (h : Buf w g l) (hb : Below B w w') (hg : g < B) : Buf w' g l :=
  ⟨Nat.lt_of_lt_of_le h.1 hb.size, fun m hm => ⟨(hb.cell (p := ⟨g, m, none⟩) hg).trans (h.2 m hm).1, (hb.frozen (p := ⟨g, m, none⟩) hg).trans (h.2 m hm).2⟩⟩

theorem Buf.set_ {w : World} {g : Nat} {l : List UInt8} (h : Buf w g l) (m : Nat) (hm : m < l.length) (b : UInt8) : Buf (w.setCell ⟨g, m, none⟩ (.int .u8 (b.toNat : Int))) g (l.set m b) := by
  refine ⟨by rw [World.size_setCell]; exact h.1, fun k hk => ?_⟩
  rw [List.length_set] at hk
  have hc := h.2 k hk
  refine ⟨?_, ?_⟩
  · by_cases e : m = k
    · subst e
      rw [World.cell?_setCell_same _ _ _ hc.1, List.getElem?_set_self (by exact hm)]
      rfl
    · rw [World.cell?_setCell_other w _ _ _ (fun e' => e (by injection e')), List.getElem?_set_ne e]
      exact hc.1
  · rw [World.frozen?_setCell]
    exact hc.2

theorem Buf.rd {w : World} {g : Nat} {l : List UInt8} (h : Buf w g l) : Rd w w.heap.size (some ⟨g, 0, none⟩) l.length l :=
  ⟨rfl, fun _ => ⟨_, rfl, h.1, fun j hj => by
    rw [Addr.add_lit, Nat.zero_add, (h.2 j hj).1, List.getElem?_eq_getElem hj]; rfl⟩⟩

end

section
open Go.RowKit

set_option maxRecDepth 100000 in
set_option maxHeartbeats 6400000 in
theorem r10among_any (w : World) (n lo hi : Int) : Calls Try.prog 72 #[.int .i64 n, .int .i64 lo, .int .i64 hi] w fun f w' => f = .returned (.bool (amongB n lo hi)) ∧ w = w' := by
  by_cases h1 : lo ≤ n
  · by_cases h2 : n ≤ hi
    · have e : amongB n lo hi = true := by unfold amongB; simp [h1, h2]
      rw [e]
      clear e
      go_enter Try.func72, Try.ntmps72
      go_wp2_with fail
      go_ret
      exact ⟨rfl, rfl⟩
    · have e : amongB n lo hi = false := by unfold amongB; simp [h2]
      have t1 : ¬ n ≤ hi := h2
      rw [e]
      clear e
      go_enter Try.func72, Try.ntmps72
      go_wp2_with fail
      go_ret
      exact ⟨rfl, rfl⟩
  · have e : amongB n lo hi = false := by unfold amongB; simp [h1]
    rw [e]
    clear e
    go_enter Try.func72, Try.ntmps72
    go_wp2_with fail
    go_ret
    exact ⟨rfl, rfl⟩

theorem bs_nil {s : List UInt8} : (bs s).toList.isEmpty = true ↔ s = [] := by
  rw [bs_list9, List.isEmpty_iff]

set_option maxRecDepth 100000 in
set_option maxHeartbeats 6400000 in
theorem r10bare_any (e : EL) (b : Nat) (op num named : Bool) (w : World) (hrow : RowE w w.heap.size e.A e.n e.args) :
    Calls Try.prog 70 #[eVal e, .int .i64 b, .bool op, .bool num, .bool named] w fun f w' => f = .returned (.bool (bareE e b op num named)) ∧ Below w.heap.size w w' := by
  obtain ⟨k, o, m, s, A, n, c, es⟩ := e
  have hn : es.length = n := hrow.1
  show Calls Try.prog _ #[.agg #[.int .i64 k, .int .i64 o, .int .i64 m, .string (bs s), .slice A n c], .int .i64 b, .bool op, .bool num, .bool named] w fun f w' => f = .returned (.bool (decide (es.length = b) && (op || decide (o = 0)) && (num || decide (m = 0)) && (named || s.isEmpty))) ∧ Below w.heap.size w w'
  have HBW : Hid (Below w.heap.size w (w.alloc (.cells #[.int .i64 k, .int .i64 o, .int .i64 m, .string (bs s), .slice A n c] 31))) := Lib.hid ((Below.refl _ _).alloc (Nat.le_refl _) _)
  obtain ⟨r, hr⟩ : ∃ r, r = (decide (es.length = b) && (op || decide (o = 0)) && (num || decide (m = 0)) && (named || s.isEmpty)) := ⟨_, rfl⟩
  rw [← hr]
  have HRR := Lib.hid hr
  clear hrow hr
  by_cases h1 : es.length = b
  · have th1 : ((n : Int) == (b : Int)) = true := by rw [beq_iff_eq]; omega
    cases op with
    | true =>
      cases num with
      | true =>
        cases named with
        | true =>
          have e : r = true := by rw [HRR.out]; simp [h1]
          rw [e]
          clear e HRR h1
          go_enter Try.func70, Try.ntmps70
          go_wp2_with fail
          go_ret
          exact ⟨rfl, HBW.out⟩
        | false =>
          by_cases h4 : s = []
          · have th4 : (bs s).toList.isEmpty = true := bs_nil.2 h4
            have e : r = true := by rw [HRR.out]; simp [h1, h4]
            rw [e]
            clear e HRR h1 h4
            go_enter Try.func70, Try.ntmps70
            go_wp2_with fail
            go_ret
            exact ⟨rfl, HBW.out⟩
          · have th4 : (bs s).toList.isEmpty = false := by rw [Bool.eq_false_iff]; exact fun e => h4 (bs_nil.1 e)
            have e : r = false := by rw [HRR.out]; simp [h1, h4]
            rw [e]
            clear e HRR h1 h4
            go_enter Try.func70, Try.ntmps70
            go_wp2_with fail
            go_ret
            exact ⟨rfl, HBW.out⟩

      | false =>
        by_cases h3 : m = 0
        · have th3 : (m == 0) = true := by rw [beq_iff_eq]; exact h3
          cases named with
          | true =>
            have e : r = true := by rw [HRR.out]; simp [h1, h3]
            rw [e]
            clear e HRR h1 h3
            go_enter Try.func70, Try.ntmps70
            go_wp2_with fail
            go_ret
            exact ⟨rfl, HBW.out⟩
          | false =>
            by_cases h4 : s = []
            · have th4 : (bs s).toList.isEmpty = true := bs_nil.2 h4
              have e : r = true := by rw [HRR.out]; simp [h1, h3, h4]
              rw [e]
              clear e HRR h1 h3 h4
              go_enter Try.func70, Try.ntmps70
              go_wp2_with fail
              go_ret
              exact ⟨rfl, HBW.out⟩
            · have th4 : (bs s).toList.isEmpty = false := by rw [Bool.eq_false_iff]; exact fun e => h4 (bs_nil.1 e)
              have e : r = false := by rw [HRR.out]; simp [h1, h3, h4]
              rw [e]
              clear e HRR h1 h3 h4
              go_enter Try.func70, Try.ntmps70
              go_wp2_with fail
              go_ret
              exact ⟨rfl, HBW.out⟩

        · have th3 : (m == 0) = false := by rw [beq_eq_false_iff_ne]; exact h3
          have e : r = false := by rw [HRR.out]; simp [h1, h3]
          rw [e]
          clear e HRR h1 h3
          go_enter Try.func70, Try.ntmps70
          go_wp2_with fail
          go_ret
          exact ⟨rfl, HBW.out⟩

    | false =>
      by_cases h2 : o = 0
      · have th2 : (o == 0) = true := by rw [beq_iff_eq]; exact h2
        cases num with
        | true =>
          cases named with
          | true =>
            have e : r = true := by rw [HRR.out]; simp [h1, h2]
            rw [e]
            clear e HRR h1 h2
            go_enter Try.func70, Try.ntmps70
            go_wp2_with fail
            go_ret
            exact ⟨rfl, HBW.out⟩
          | false =>
            by_cases h4 : s = []
            · have th4 : (bs s).toList.isEmpty = true := bs_nil.2 h4
              have e : r = true := by rw [HRR.out]; simp [h1, h2, h4]
              rw [e]
              clear e HRR h1 h2 h4
              go_enter Try.func70, Try.ntmps70
              go_wp2_with fail
              go_ret
              exact ⟨rfl, HBW.out⟩
            · have th4 : (bs s).toList.isEmpty = false := by rw [Bool.eq_false_iff]; exact fun e => h4 (bs_nil.1 e)
              have e : r = false := by rw [HRR.out]; simp [h1, h2, h4]
              rw [e]
              clear e HRR h1 h2 h4
              go_enter Try.func70, Try.ntmps70
              go_wp2_with fail
              go_ret
              exact ⟨rfl, HBW.out⟩

        | false =>
          by_cases h3 : m = 0
          · have th3 : (m == 0) = true := by rw [beq_iff_eq]; exact h3
            cases named with
            | true =>
              have e : r = true := by rw [HRR.out]; simp [h1, h2, h3]
              rw [e]
              clear e HRR h1 h2 h3
              go_enter Try.func70, Try.ntmps70
              go_wp2_with fail
              go_ret
              exact ⟨rfl, HBW.out⟩
            | false =>
              by_cases h4 : s = []
              · have th4 : (bs s).toList.isEmpty = true := bs_nil.2 h4
                have e : r = true := by rw [HRR.out]; simp [h1, h2, h3, h4]
                rw [e]
                clear e HRR h1 h2 h3 h4
                go_enter Try.func70, Try.ntmps70
                go_wp2_with fail
                go_ret
                exact ⟨rfl, HBW.out⟩
              · have th4 : (bs s).toList.isEmpty = false := by rw [Bool.eq_false_iff]; exact fun e => h4 (bs_nil.1 e)
                have e : r = false := by rw [HRR.out]; simp [h1, h2, h3, h4]
                rw [e]
                clear e HRR h1 h2 h3 h4
                go_enter Try.func70, Try.ntmps70
                go_wp2_with fail
                go_ret
                exact ⟨rfl, HBW.out⟩

          · have th3 : (m == 0) = false := by rw [beq_eq_false_iff_ne]; exact h3
            have e : r = false := by rw [HRR.out]; simp [h1, h2, h3]
            rw [e]
            clear e HRR h1 h2 h3
            go_enter Try.func70, Try.ntmps70
            go_wp2_with fail
            go_ret
            exact ⟨rfl, HBW.out⟩

      · have th2 : (o == 0) = false := by rw [beq_eq_false_iff_ne]; exact h2
        have e : r = false := by rw [HRR.out]; simp [h1, h2]
        rw [e]
        clear e HRR h1 h2
        go_enter Try.func70, Try.ntmps70
        go_wp2_with fail
        go_ret
        exact ⟨rfl, HBW.out⟩

  · have th1 : ((n : Int) == (b : Int)) = false := by rw [beq_eq_false_iff_ne]; omega
    have e : r = false := by rw [HRR.out]; simp [h1]
    rw [e]
    clear e HRR h1
    go_enter Try.func70, Try.ntmps70
    go_wp2_with fail
    go_ret
    exact ⟨rfl, HBW.out⟩

end

section
open Go.RowKit

theorem all_take {α : Type} {p : α → Bool} {l : List α} {j : Nat} {d : α} (h : j < l.length) : (l.take (j + 1)).all p = ((l.take j).all p && p (l[j]?.getD d)) := by
  rw [List.take_succ_eq_append_getElem h, List.all_append, List.getElem?_eq_getElem h]
  simp

end

section
open Go.RowKit

/-- the tables' cells, and what Funcs and Params hold -/
structure TV where
  (t1 t2 t3 t4 : Int)
  (S1 : Option Addr)
  (m1 k1 : Nat)
  (fl : Int)
  (S2 : Option Addr)
  (m2 k2 : Nat)
  (S3 : Option Addr)
  (m3 k3 : Nat)
  (S4 : Option Addr)
  (m4 k4 : Nat)
  (S5 : Option Addr)
  (m5 k5 : Nat)
  (S6 : Option Addr)
  (m6 k6 : Nat)
  (S7 : Option Addr)
  (m7 k7 : Nat)
  (S8 : Option Addr)
  (m8 k8 : Nat)
  (S9 : Option Addr)
  (m9 k9 : Nat)
  (S10 : Option Addr)
  (m10 k10 : Nat)
  (fs ps : List Int)

def TV.cells (T : TV) : Array Value := #[.int .i64 T.t1, .int .i64 T.t2, .int .i64 T.t3, .int .i64 T.t4, .slice T.S1 T.m1 T.k1, .int .i64 T.fl, .slice T.S2 T.m2 T.k2, .slice T.S3 T.m3 T.k3, .slice T.S4 T.m4 T.k4, .slice T.S5 T.m5 T.k5, .slice T.S6 T.m6 T.k6, .slice T.S7 T.m7 T.k7, .slice T.S8 T.m8 T.k8, .slice T.S9 T.m9 T.k9, .slice T.S10 T.m10 T.k10]
def TV.val (T : TV) : Value := .agg T.cells
def TV.tb (T : TV) : TB := ⟨T.m1, T.fl, T.m2, T.m3, T.m8, T.fs, T.ps⟩
def TV.In (T : TV) (w : World) (B : Nat) : Prop := ((T.m1 : Int) ≤ 9223372036854775807 ∧ (T.m2 : Int) ≤ 9223372036854775807 ∧ (T.m3 : Int) ≤ 9223372036854775807 ∧ (T.m7 : Int) ≤ 9223372036854775807 ∧ (T.m8 : Int) ≤ 9223372036854775807 ∧ (T.m9 : Int) ≤ 9223372036854775807) ∧ RdI w B T.S7 T.m7 T.fs ∧ RdI w B T.S9 T.m9 T.ps
theorem TV.In.below {T : TV} {w w' : World} {B : Nat} (h : T.In w B) (hb : Below B w w') : T.In w' B := ⟨h.1, h.2.1.below hb, h.2.2.below hb⟩
theorem TV.In.more {T : TV} {w : World} {B B' : Nat} (h : T.In w B) (hB : B ≤ B') : T.In w B' := ⟨h.1, h.2.1.more hB, h.2.2.more hB⟩

end

section
open Go.RowKit

set_option maxRecDepth 100000 in
set_option maxHeartbeats 6400000 in
theorem r10params_any (T : TV) (f : Int) (w : World) (hin : T.In w w.heap.size) :
    Calls Try.prog 73 #[T.val, .int .i64 f] w fun r w' => r = .returned (.int .i64 (paramsT T.tb f)) ∧ Below w.heap.size w w' := by
  obtain ⟨t1, t2, t3, t4, S1, m1, k1, fl, S2, m2, k2, S3, m3, k3, S4, m4, k4, S5, m5, k5, S6, m6, k6, S7, m7, k7, S8, m8, k8, S9, m9, k9, S10, m10, k10, fs, ps⟩ := T
  obtain ⟨⟨_, _, _, hm7, _, hm9⟩, hf, hp⟩ := hin
  change (m7 : Int) ≤ 9223372036854775807 at hm7
  change (m9 : Int) ≤ 9223372036854775807 at hm9
  change RdI w w.heap.size S7 m7 fs at hf
  change RdI w w.heap.size S9 m9 ps at hp
  show Calls Try.prog _ #[.agg #[.int .i64 t1, .int .i64 t2, .int .i64 t3, .int .i64 t4, .slice S1 m1 k1, .int .i64 fl, .slice S2 m2 k2, .slice S3 m3 k3, .slice S4 m4 k4, .slice S5 m5 k5, .slice S6 m6 k6, .slice S7 m7 k7, .slice S8 m8 k8, .slice S9 m9 k9, .slice S10 m10 k10], .int .i64 f] w fun r w' => r = .returned (.int .i64 (paramsT (TB.mk m1 fl m2 m3 m8 fs ps) f)) ∧ Below w.heap.size w w'
  obtain ⟨W, hW⟩ : ∃ W, W = w.alloc (.cells #[.int .i64 t1, .int .i64 t2, .int .i64 t3, .int .i64 t4, .slice S1 m1 k1, .int .i64 fl, .slice S2 m2 k2, .slice S3 m3 k3, .slice S4 m4 k4, .slice S5 m5 k5, .slice S6 m6 k6, .slice S7 m7 k7, .slice S8 m8 k8, .slice S9 m9 k9, .slice S10 m10 k10] 28) := ⟨_, rfl⟩
  have HBW : Hid (Below w.heap.size w W) := Lib.hid (by rw [hW]; exact (Below.refl _ _).alloc (Nat.le_refl _) _)
  have HK : Hid (Blk W w.heap.size 28 #[.int .i64 t1, .int .i64 t2, .int .i64 t3, .int .i64 t4, .slice S1 m1 k1, .int .i64 fl, .slice S2 m2 k2, .slice S3 m3 k3, .slice S4 m4 k4, .slice S5 m5 k5, .slice S6 m6 k6, .slice S7 m7 k7, .slice S8 m8 k8, .slice S9 m9 k9, .slice S10 m10 k10]) := Lib.hid (by rw [hW]; exact Blk.new _ _ _)
  have c11 : W.cell? ⟨w.heap.size, 11, none⟩ = some (.slice S7 m7 k7) := HK.out.cell 11
  have c13 : W.cell? ⟨w.heap.size, 13, none⟩ = some (.slice S9 m9 k9) := HK.out.cell 13
  have hfl := hf.1
  have hpl := hp.1
  have w7 : IntKind.i64.wrap ((m7 : Int) - 1) = (m7 : Int) - 1 := by rw [IntKind.wrap_i64]; omega
  have w9 : IntKind.i64.wrap ((m9 : Int) - 1) = (m9 : Int) - 1 := by rw [IntKind.wrap_i64]; omega
  obtain ⟨r, hr⟩ : ∃ r, r = paramsT (TB.mk m1 fl m2 m3 m8 fs ps) f := ⟨_, rfl⟩
  rw [← hr]
  have HRR := Lib.hid hr
  clear hr
  by_cases h1 : 0 ≤ f ∧ f ≤ (m7 : Int) - 1
  · have e1 : amongB f 0 ((m7 : Int) - 1) = true := by unfold amongB; simp [h1.1, h1.2]
    have hA1 : ∀ u : World, Calls Try.prog 72 #[.int .i64 f, .int .i64 0, .int .i64 ((m7 : Int) - 1)] u fun e u' => e = .returned (.bool true) ∧ u' = u := fun u => by
      have := r10among_any u f 0 ((m7 : Int) - 1)
      rw [e1] at this
      exact this.mono fun _ _ ⟨he, hw⟩ => ⟨he, hw.symm⟩
    obtain ⟨j, hj⟩ : ∃ j : Nat, (j : Int) = f := ⟨f.toNat, by omega⟩
    obtain ⟨ad, rfl, hab, hc⟩ := hf.2.1 (by omega)
    have hcj := hc j (by omega)
    obtain ⟨v, hv⟩ : ∃ v, v = fs.getD j 0 := ⟨_, rfl⟩
    have hvr := hf.2.2 j
    rw [← hv] at hcj hvr
    have cf : W.cell? (ad.add j) = some (.int .i64 v) := (HBW.out.cell (by rw [blk_add]; exact hab)).trans hcj
    have i1 : 0 ≤ (j : Int) ∧ (j : Int) < (m7 : Int) := by omega
    subst hj
    have HA1 := Lib.hid hA1
    clear hA1
    by_cases h2 : 0 ≤ v ∧ v ≤ (m9 : Int) - 1
    · have e2 : amongB v 0 ((m9 : Int) - 1) = true := by unfold amongB; simp [h2.1, h2.2]
      have hA2 : ∀ u : World, Calls Try.prog 72 #[.int .i64 v, .int .i64 0, .int .i64 ((m9 : Int) - 1)] u fun e u' => e = .returned (.bool true) ∧ u' = u := fun u => by
        have := r10among_any u v 0 ((m9 : Int) - 1)
        rw [e2] at this
        exact this.mono fun _ _ ⟨he, hw⟩ => ⟨he, hw.symm⟩
      obtain ⟨i, hi⟩ : ∃ i : Nat, (i : Int) = v := ⟨v.toNat, by omega⟩
      obtain ⟨bd, rfl, hbb, hd⟩ := hp.2.1 (by omega)
      have hdi := hd i (by omega)
      obtain ⟨z, hz⟩ : ∃ z, z = ps.getD i 0 := ⟨_, rfl⟩
      rw [← hz] at hdi
      have cp : W.cell? (bd.add i) = some (.int .i64 z) := (HBW.out.cell (by rw [blk_add]; exact hbb)).trans hdi
      have i2 : 0 ≤ (i : Int) ∧ (i : Int) < (m9 : Int) := by omega
      have HRZ : Hid (r = z) := Lib.hid (by
        rw [HRR.out]
        unfold paramsT
        rw [show (TB.mk m1 fl m2 m3 m8 fs ps).funcs = fs from rfl, show (TB.mk m1 fl m2 m3 m8 fs ps).params = ps from rfl, hfl, hpl, Int.toNat_natCast, ← hv, if_pos ⟨e1, e2⟩, ← hi, Int.toNat_natCast, hz])
      subst hi
      have HA2 := Lib.hid hA2
      clear hA2 hc hd hcj hdi h1 h2 e1 e2 HRR hf hp hab hbb hv hz
      go_enter Try.func73, Try.ntmps73
      go_wp2_with fail
      rw [← hW]
      clear hW
      go_quiet ((first | (go_at_call_of 72 m7; exact Calls.quiet_of_same (HA1.out _)) | (go_at_call_of 72 m9; exact Calls.quiet_of_same (HA2.out _))))
      go_wp2_with fail
      go_quiet (fail)
      go_wp2_with fail
      go_ret
      rw [HRZ.out]
      exact ⟨rfl, below_drewN (below_drewN HBW.out _) _⟩
    · have e2 : amongB v 0 ((m9 : Int) - 1) = false := by
        unfold amongB
        rw [Bool.and_eq_false_iff, decide_eq_false_iff_not, decide_eq_false_iff_not]
        omega
      have hA2 : ∀ u : World, Calls Try.prog 72 #[.int .i64 v, .int .i64 0, .int .i64 ((m9 : Int) - 1)] u fun e u' => e = .returned (.bool false) ∧ u' = u := fun u => by
        have := r10among_any u v 0 ((m9 : Int) - 1)
        rw [e2] at this
        exact this.mono fun _ _ ⟨he, hw⟩ => ⟨he, hw.symm⟩
      have HRZ : Hid (r = -1) := Lib.hid (by
        rw [HRR.out]
        unfold paramsT
        rw [show (TB.mk m1 fl m2 m3 m8 fs ps).funcs = fs from rfl, show (TB.mk m1 fl m2 m3 m8 fs ps).params = ps from rfl, hfl, hpl, Int.toNat_natCast, ← hv, if_neg (fun h => by rw [e2] at h; exact Bool.noConfusion h.2)])
      have HA2 := Lib.hid hA2
      clear hA2 hc hcj h1 h2 e1 e2 HRR hf hp hab hv
      go_enter Try.func73, Try.ntmps73
      go_wp2_with fail
      rw [← hW]
      clear hW
      go_quiet ((first | (go_at_call_of 72 m7; exact Calls.quiet_of_same (HA1.out _)) | (go_at_call_of 72 m9; exact Calls.quiet_of_same (HA2.out _))))
      go_wp2_with fail
      go_ret
      rw [HRZ.out]
      exact ⟨rfl, below_drewN HBW.out _⟩
  · have e1 : amongB f 0 ((m7 : Int) - 1) = false := by
      unfold amongB
      rw [Bool.and_eq_false_iff, decide_eq_false_iff_not, decide_eq_false_iff_not]
      omega
    have hA1 : ∀ u : World, Calls Try.prog 72 #[.int .i64 f, .int .i64 0, .int .i64 ((m7 : Int) - 1)] u fun e u' => e = .returned (.bool false) ∧ u' = u := fun u => by
      have := r10among_any u f 0 ((m7 : Int) - 1)
      rw [e1] at this
      exact this.mono fun _ _ ⟨he, hw⟩ => ⟨he, hw.symm⟩
    have HRZ : Hid (r = -1) := Lib.hid (by
      rw [HRR.out]
      unfold paramsT
      rw [show (TB.mk m1 fl m2 m3 m8 fs ps).funcs = fs from rfl, show (TB.mk m1 fl m2 m3 m8 fs ps).params = ps from rfl, hfl, hpl, if_neg (fun h => by rw [e1] at h; exact Bool.noConfusion h.1)])
    have HA1 := Lib.hid hA1
    clear hA1 h1 e1 HRR hf hp
    go_enter Try.func73, Try.ntmps73
    go_wp2_with fail
    rw [← hW]
    clear hW
    go_quiet ((go_at_call_of 72 m7; exact Calls.quiet_of_same (HA1.out _)))
    go_wp2_with fail
    go_ret
    rw [HRZ.out]
    exact ⟨rfl, below_drewN HBW.out _⟩

end

end Go.Proofs.Ytiioffjjlcfhgaa
