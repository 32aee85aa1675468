/- Bytes in memory: a slice value that reads as a list of bytes, kept over what a call does to the world; lemmas on worlds and on owned rows. No function of the program is named here. -/
import Derived.WalkKit
import Derived.WalkSpells
import Derived.WalkLawsBesides
import Derived.Lib.Hide
import Derived.Lib.AppendStr
import Derived.Laws.IdiomStrings
import Derived.Laws.AppendOwnNone
import Derived.Maps.AppendAt
import Derived.Deep.AppendLies
import Derived.Deep.QuietTactic
import Derived.BigQuiet
namespace Go.Proofs.YtgeglhgkibcpfaaDoor
open Go.RowKit

/-- bytes as cells -/
def bc (l : List UInt8) : List Value := l.map fun b => Value.int .u8 (b.toNat : Int)

theorem bc_length (l : List UInt8) : (bc l).length = l.length := by simp [bc]
theorem bc_append (l m : List UInt8) : bc (l ++ m) = bc l ++ bc m := by simp [bc]
theorem bc_one (l : List UInt8) : ∀ u ∈ bc l, u.oneCell' = true := by
  intro u hu
  obtain ⟨_, _, rfl⟩ := List.mem_map.1 hu
  rfl

/-- A slice (its address A, its length n) reads as the bytes l; it lies below block B. -/
def Rd (w : World) (B : Nat) (A : Option Addr) (n : Nat) (l : List UInt8) : Prop :=
  l.length = n ∧ (0 < n → ∃ ad : Addr, A = some ad ∧ ad.block < B ∧ ∀ j (h : j < l.length), w.cell? (ad.add j) = some (.int .u8 (l[j].toNat : Int)))

theorem blk_add (a : Addr) (j : Nat) : (a.add j).block = a.block := by
  unfold Addr.add; split <;> rfl

theorem Rd.len {w : World} {B : Nat} {A : Option Addr} {n : Nat} {l : List UInt8} (h : Rd w B A n l) : l.length = n := h.1

theorem Rd.nil (w : World) (B : Nat) : Rd w B none 0 [] := ⟨rfl, fun h => absurd h (by omega)⟩

theorem Rd.keep {w w' : World} {B : Nat} {A : Option Addr} {n : Nat} {l : List UInt8} (h : Rd w B A n l) (hk : ∀ p : Addr, p.block < B → w'.cell? p = w.cell? p) : Rd w' B A n l :=
  ⟨h.1, fun hn => by
    obtain ⟨ad, e, hb, hc⟩ := h.2 hn
    exact ⟨ad, e, hb, fun j hj => (hk _ (by rw [blk_add]; exact hb)).trans (hc j hj)⟩⟩

theorem Rd.more {w : World} {B B' : Nat} {A : Option Addr} {n : Nat} {l : List UInt8} (h : Rd w B A n l) (hB : B ≤ B') : Rd w B' A n l :=
  ⟨h.1, fun hn => by
    obtain ⟨ad, e, hb, hc⟩ := h.2 hn
    exact ⟨ad, e, by omega, hc⟩⟩

theorem Rd.below {w w' : World} {B : Nat} {A : Option Addr} {n : Nat} {l : List UInt8} (h : Rd w B A n l) (hb : Below B w w') : Rd w' B A n l := h.keep fun _ hp => hb.cell hp

theorem Rd.alloc {w : World} {B : Nat} {A : Option Addr} {n : Nat} {l : List UInt8} (h : Rd w B A n l) (hB : B ≤ w.heap.size) (o : Obj) : Rd (w.alloc o) B A n l :=
  h.below ((Below.refl _ _).alloc hB o)

/-- what the walk wants at a conversion to a string -/
theorem Rd.toStr {P : Program} {w : World} {B : Nat} {A : Option Addr} {n : Nat} {l : List UInt8} (h : Rd w B A n l) (src dst e : TypeId) (c : Nat)
    (hs : P.underlying src = some (.slice e)) (he : P.underlying e = some (.int .u8)) (hd : P.underlying dst = some .string) :
    (convert src dst (.slice A n c)).run P w = .ok (.string ⟨l.toArray⟩) w := by
  obtain ⟨hl, hc⟩ := h
  rcases Nat.eq_zero_or_pos n with h0 | h0
  · subst h0
    have : l = [] := List.eq_nil_of_length_eq_zero hl
    subst this
    rw [run_convert_bytes_string w src dst e A 0 c hs he hd]
    cases A with
    | none => simp [Conv.bytesToString, Sem.run_pure]; rfl
    | some a => exact run_bytesToString w a 0 c [] (by simp [loadCells, loadCellsFrom])
  · obtain ⟨ad, rfl, _, hcell⟩ := hc h0
    subst hl
    exact run_convert_bytes_back w src dst e ad c l hs he hd hcell

theorem Rd.of_own {w : World} {base : Nat} {e : TypeId} {A : Option Addr} {n c : Nat} {l : List UInt8} (h : w.ownsRow base e 1 (.slice A n c) n (bc l)) : Rd w w.heap.size A n l := by
  have hl : l.length = n := by have := h.1; rw [bc_length] at this; omega
  refine ⟨hl, fun hn => ?_⟩
  obtain ⟨g, cap, hv, _, hlt⟩ := h.form hn
  have hA : A = some ⟨g, 0, none⟩ := by injection hv
  subst hA
  refine ⟨_, rfl, hlt, fun j hj => h.cells (g := g) rfl j _ ?_⟩
  simp [bc, hj]

/-- the value of an owned row is a slice -/
theorem own_slice {w : World} {base : Nat} {e : TypeId} {size n : Nat} {v : Value} {xs : List Value} (h : w.ownsRow base e size v n xs) : ∃ A c, v = .slice A n c := by
  rcases h.2 with ⟨rfl, rfl⟩ | ⟨g, cap, cur, rfl, _⟩
  · exact ⟨_, _, rfl⟩
  · exact ⟨_, _, rfl⟩

/-- What a function leaves that hands back bytes in memory of its own. -/
def OutR (w : World) (l : List UInt8) (e : Ending) (w' : World) : Prop :=
  ∃ A n c, e = .returned (.slice A n c) ∧ Rd w' w'.heap.size A n l ∧ Below w.heap.size w w'

/-- The same, the row owned from block 'base' on. -/
def OutO (base : Nat) (w : World) (l : List UInt8) (e : Ending) (w' : World) : Prop :=
  ∃ A n c, e = .returned (.slice A n c) ∧ w'.ownsRow base 5 1 (.slice A n c) n (bc l) ∧ Below base w w'

theorem own_len {w : World} {base : Nat} {e : TypeId} {v : Value} {n : Nat} {l : List UInt8} (h : w.ownsRow base e 1 v n (bc l)) : l.length = n := by
  have := h.1
  rw [bc_length] at this
  omega

theorem own_base {w : World} {base base' : Nat} {e : TypeId} {size n : Nat} {v : Value} {xs : List Value} (h : w.ownsRow base e size v n xs) (hb : base' ≤ base) : w.ownsRow base' e size v n xs := by
  refine ⟨h.1, ?_⟩
  rcases h.2 with h2 | ⟨g, cap, cur, hv, hg, r⟩
  · exact .inl h2
  · exact .inr ⟨g, cap, cur, hv, by omega, r⟩

/-- a call behind another -/
theorem OutO.after {w w1 w2 : World} {l : List UInt8} {e : Ending} {base : Nat} (hb : Below base w w1) (hB : base ≤ w.heap.size) (h : OutO w1.heap.size w1 l e w2) : OutO base w l e w2 := by
  obtain ⟨A, n, c, he, ho, hb2⟩ := h
  have hs := hb.size
  exact ⟨A, n, c, he, own_base ho (by omega), hb.trans (hb2.mono (by omega))⟩

theorem OutO.after' {w w1 w2 : World} {l : List UInt8} {e : Ending} {base : Nat} (hb : Below base w w1) (h : OutO base w1 l e w2) : OutO base w l e w2 := by
  obtain ⟨A, n, c, he, ho, hb2⟩ := h
  exact ⟨A, n, c, he, ho, hb.trans hb2⟩

theorem OutO.outR {w w' : World} {l : List UInt8} {e : Ending} (h : OutO w.heap.size w l e w') : OutR w l e w' := by
  obtain ⟨A, n, c, he, ho, hb⟩ := h
  exact ⟨A, n, c, he, Rd.of_own ho, hb⟩

/-- cells of a source that reads as bytes, at an address that the walk knows -/
theorem Rd.cells {w : World} {B : Nat} {ad : Addr} {n : Nat} {l : List UInt8} (h : Rd w B (some ad) n l) : ∀ j u, (bc l)[j]? = some u → w.cell? (ad.add j) = some u := by
  intro j u hu
  have hj : j < l.length := by
    have := (List.getElem?_eq_some_iff.1 hu).1
    simpa [bc] using this
  obtain ⟨ad', e, _, hc⟩ := h.2 (by have := h.1; omega)
  obtain rfl : ad = ad' := by injection e
  rw [hc j hj]
  simp [bc, hj] at hu
  rw [hu]

/-- APPEND ONTO A ROW OF THE CALL's OWN, of a source that reads as bytes: nil, empty or not. -/
theorem run_app {P : Program} (w : World) (base : Nat) (t ty e : TypeId) (i : TypeInfo) (ht : P.underlying t = some (.slice e)) (hi : P.info? e = some i) (hz : i.zero = some (.int .u8 0))
    (hsize : i.size = 1) (hby : i.bytes = 1) (v : Value) (n : Nat) (xs : List UInt8) (hown : w.ownsRow base e 1 v n (bc xs))
    (B : Nat) (A : Option Addr) (m c : Nat) (l : List UInt8) (hr : Rd w B A m l) (hbytes : n + m ≤ 140737488355328) (hbase : base ≤ w.heap.size) :
    ∃ v' w', (Builtin.append_ #[t, t] ty #[v, .slice A m c]).run P w = .ok v' w' ∧ w'.ownsRow base e 1 v' (n + m) (bc (xs ++ l)) ∧ w.grownBy w' v.ownBlock := by
  cases A with
  | none =>
    have hm : m = 0 := by
      rcases Nat.eq_zero_or_pos m with h0 | h0
      · exact h0
      · obtain ⟨ad, h, _⟩ := hr.2 h0
        cases h
    subst hm
    have hn : l = [] := List.eq_nil_of_length_eq_zero hr.1
    subst hn
    refine ⟨v, w, ?_, by simpa using hown, World.grownBy.refl w _⟩
    rcases hown.2 with ⟨rfl, rfl⟩ | ⟨g, cap, cur, rfl, _, _, hnc, _⟩
    · simp [Builtin.append_, run_underlying ht, sizeOf, typeInfo, hi, Builtin.lenOf, Builtin.firstCells]
    · simp [Builtin.append_, run_underlying ht, sizeOf, typeInfo, hi, Builtin.lenOf, Builtin.firstCells, hnc, storeCells]
  | some ad =>
    obtain ⟨v', w', hrun, h2, h3, _⟩ := run_append_own (P := P) w base t ty e i (.int .u8 0) 1 1 ht hi hz hsize hby rfl (by omega) v n (bc xs) hown ad m c (bc l)
      (by rw [bc_length, hr.1]; omega) hr.cells (bc_one l) (by unfold maxLen; omega) (by omega) hbase
    exact ⟨v', w', hrun, by rw [bc_append]; exact h2, h3⟩

theorem wpList_app {P : Program} (w : World) {ops : Array Oper} {rest : List Oper} {o : Oper} {a : Act} {Q : Exit → Act → World → Prop} (hgd : o.guard = none) (s x : Operand) (t : TypeId)
    (ho : o.op = .call { callee := .builtin .append, args := #[s, x], argTypes := #[t, t] })
    (base : Nat) (e : TypeId) (i : TypeInfo) (ht : P.underlying t = some (.slice e)) (hi : P.info? e = some i) (hz : i.zero = some (.int .u8 0))
    (hsize : i.size = 1) (hby : i.bytes = 1)
    (v : Value) (n : Nat) (xs : List UInt8) (hs : a.eval s = v) (hown : w.ownsRow base e 1 v n (bc xs))
    (B : Nat) (A : Option Addr) (m c : Nat) (l : List UInt8) (hx : a.eval x = .slice A m c) (hr : Rd w B A m l)
    (hbytes : n + m ≤ 140737488355328) (hbase : base ≤ w.heap.size)
    (h : ∀ A' c' w', w'.ownsRow base e 1 (.slice A' (n + m) c') (n + m) (bc (xs ++ l)) → w.grownBy w' v.ownBlock → wpList P ops Q rest (a.put o.dst (.slice A' (n + m) c')) w') : wpList P ops Q (o :: rest) a w := by
  refine wpList_plain hgd fun _ hK => ?_
  obtain ⟨v', w', hrun, h2, h3⟩ := run_app (P := P) w base t o.type e i ht hi hz hsize hby v n xs hown B A m c l hr hbytes hbase
  obtain ⟨A', c', rfl⟩ := own_slice h2
  unfold Oper.wp execOp
  simp only [ho, resolve, invoke, builtin, Sem.run_bind, Sem.run_pure, Result.andThen_ok, List.map_toArray, List.map_cons, List.map_nil, hs, hx, hrun]
  exact hK _ _ (h A' c' w' h2 h3)

/-- a row that is owned lies from 'base' on -/
theorem own_from {w : World} {base : Nat} {e : TypeId} {size n : Nat} {v : Value} {xs : List Value} (h : w.ownsRow base e size v n xs) : ∀ k, v.ownBlock = some k → base ≤ k := fun k hk => (h.lt k hk).1

/-- a new block of one byte reads as that byte -/
theorem Rd.one (w : World) (b : UInt8) (t : TypeId) : Rd (w.alloc (.cells #[.int .u8 (b.toNat : Int)] t)) (w.heap.size + 1) (some ⟨w.heap.size, 0, none⟩) 1 [b] := by
  refine ⟨rfl, fun _ => ⟨_, rfl, Nat.lt_succ_self _, fun j hj => ?_⟩⟩
  have : j = 0 := by simp at hj; omega
  subst this
  exact cell_one_new w _ t 0 _ rfl

/-- a number as a byte -/
def byt (x : Int) : UInt8 := UInt8.ofNat (x % 256).toNat

theorem byt_val (x : Int) : ((byt x).toNat : Int) = x % 256 := by
  have h0 : 0 ≤ x % 256 := Int.emod_nonneg _ (by omega)
  have h1 : x % 256 < 256 := Int.emod_lt_of_pos _ (by omega)
  unfold byt
  rw [UInt8.toNat_ofNat']
  omega

theorem byt_mod (x : Int) : byt (x % 256) = byt x := by
  unfold byt
  rw [Int.emod_emod_of_dvd _ (by omega)]

theorem byt_byte (b : UInt8) : byt (b.toNat : Int) = b := by
  have := b.toNat_lt
  have h := byt_val (b.toNat : Int)
  apply UInt8.toNat_inj.1
  omega

/-- a new block of one byte, the byte out of a number -/
theorem Rd.new1 (w : World) (x : Int) (t : TypeId) : Rd (w.alloc (.cells #[.int .u8 (x % 256)] t)) (w.heap.size + 1) (some ⟨w.heap.size, 0, none⟩) 1 [byt x] := by
  have h := Rd.one w (byt x) t
  rw [byt_val] at h
  exact h

theorem Rd.newOf (w : World) (b : UInt8) (y : Int) (t : TypeId) (h : (b.toNat : Int) = y) : Rd (w.alloc (.cells #[.int .u8 y] t)) (w.heap.size + 1) (some ⟨w.heap.size, 0, none⟩) 1 [b] := by
  subst h; exact Rd.one w b t

/-- the bytes of a number, the greatest first -/
def beL (k : Nat) (x : Int) : List UInt8 := (List.range k).map fun i => byt (x / 2 ^ (8 * (k - 1 - i)))

theorem beL_length (k : Nat) (x : Int) : (beL k x).length = k := by simp [beL]

theorem beL_take (k : Nat) (x : Int) (j : Nat) (hj : j < k) : (beL k x).take (j + 1) = (beL k x).take j ++ [byt (x / 2 ^ (8 * (k - 1 - j)))] := by
  rw [List.take_succ_eq_append_getElem (by rw [beL_length]; exact hj)]
  simp [beL]

/-- a size in groups of seven bits, the least group first -/
def vr (n : Nat) : List UInt8 := if n < 128 then [byt n] else byt ((n % 128 + 128 : Nat) : Int) :: vr (n / 128)
termination_by n

theorem vr_lt {n : Nat} (h : n < 128) : vr n = [byt n] := by rw [vr, if_pos h]
theorem vr_ge {n : Nat} (h : 128 ≤ n) : vr n = byt ((n % 128 + 128 : Nat) : Int) :: vr (n / 128) := by rw [vr, if_neg (by omega)]

theorem vr_step {l l' : List UInt8} {r m : Nat} (hge : 128 ≤ r) (he : l' ++ vr r = l ++ vr m) :
    (l' ++ [byt ((r : Int) % 128 + 128)]) ++ vr (r / 128) = l ++ vr m := by
  rw [← he, vr_ge hge]; simp

theorem vr_len (k : Nat) : ∀ n, n < 128 ^ (k + 1) → (vr n).length ≤ k + 1 := by
  induction k with
  | zero => intro n h; rw [vr_lt (by omega)]; simp
  | succ k ih =>
    intro n h
    by_cases h0 : n < 128
    · rw [vr_lt h0]; simp
    · rw [vr_ge (by omega)]
      have := ih (n / 128) (by rw [Nat.pow_succ] at h; omega)
      simp; omega

theorem vr_len10 (n : Nat) (h : n ≤ 9223372036854775807) : (vr n).length ≤ 10 := vr_len 9 n (by omega)

theorem own_vr_le {w : World} {base : Nat} {e : TypeId} {v : Value} {n k b : Nat} {l : List UInt8} (h : w.ownsRow base e 1 v n (bc (l ++ vr k))) (hk : k ≤ 9223372036854775807) (hl : l.length ≤ b) : n ≤ b + 10 := by
  have h1 := own_len h
  have h2 := vr_len10 k hk
  rw [List.length_append] at h1
  omega

/-- A slice reads as the ints zs. -/
def RdI (w : World) (B : Nat) (A : Option Addr) (n : Nat) (zs : List Int) : Prop :=
  zs.length = n ∧ (0 < n → ∃ ad : Addr, A = some ad ∧ ad.block < B ∧ ∀ j, j < zs.length → w.cell? (ad.add j) = some (.int .i64 (zs.getD j 0))) ∧ ∀ j, -9223372036854775808 ≤ zs.getD j 0 ∧ zs.getD j 0 ≤ 9223372036854775807

theorem RdI.keep {w w' : World} {B : Nat} {A : Option Addr} {n : Nat} {zs : List Int} (h : RdI w B A n zs) (hk : ∀ p : Addr, p.block < B → w'.cell? p = w.cell? p) : RdI w' B A n zs :=
  ⟨h.1, fun hn => by
    obtain ⟨ad, e, hb, hc⟩ := h.2.1 hn
    exact ⟨ad, e, hb, fun j hj => (hk _ (by rw [blk_add]; exact hb)).trans (hc j hj)⟩, h.2.2⟩

theorem RdI.below {w w' : World} {B : Nat} {A : Option Addr} {n : Nat} {zs : List Int} (h : RdI w B A n zs) (hb : Below B w w') : RdI w' B A n zs := h.keep fun _ hp => hb.cell hp

/-- the bytes of a list of numbers, two each -/
def wl (zs : List Int) : List UInt8 := zs.flatMap (beL 2)

theorem wl_take (zs : List Int) (j : Nat) (hj : j < zs.length) : wl (zs.take (j + 1)) = wl (zs.take j) ++ beL 2 (zs.getD j 0) := by
  rw [List.take_succ_eq_append_getElem hj]
  unfold wl
  rw [List.flatMap_append]
  simp [List.getD, hj]

theorem wl_length (zs : List Int) : (wl zs).length = 2 * zs.length := by
  unfold wl
  induction zs with
  | nil => rfl
  | cons z zs ih => rw [List.flatMap_cons, List.length_append, ih, beL_length, List.length_cons]; omega

/-- what was there before a call is there behind it: rules for the walk -/
theorem bcells {W w1 : World} {B : Nat} (hb : Below B W w1) : (∀ b o, b < B → w1.cell? ⟨b, o, none⟩ = W.cell? ⟨b, o, none⟩) ∧ (∀ b o, b < B → w1.frozen? ⟨b, o, none⟩ = W.frozen? ⟨b, o, none⟩) :=
  ⟨fun b o h => hb.cell (p := ⟨b, o, none⟩) h, fun b o h => hb.frozen (p := ⟨b, o, none⟩) h⟩

theorem Rd.drew {w : World} {B : Nat} {A : Option Addr} {n : Nat} {l : List UInt8} (h : Rd w B A n l) : Rd w.drew B A n l := h
theorem RdI.drew {w : World} {B : Nat} {A : Option Addr} {n : Nat} {zs : List Int} (h : RdI w B A n zs) : RdI w.drew B A n zs := h

/-- What is known of a slice of integers that came in: it is nil; or it leads to a row of 'cap' cells, the numbers 'zs' (the first 'len' are its elements), each fitting its kind. -/
def IsRow (k : IntKind) (w : World) (a : Option Addr) (len cap : Nat) (zs : List Int) : Prop :=
  (a = none ∧ len = 0 ∧ cap = 0 ∧ zs = []) ∨
  ∃ x, a = some x ∧ len ≤ cap ∧ cap ≤ maxLen ∧ zs.length = cap ∧ (∀ i, i < zs.length → w.cell? (x.add i) = some (.int k (zs.getD i 0))) ∧ ∀ n ∈ zs, (Lit.int k n).wf = true

theorem IsRow.cap {k : IntKind} {w : World} {a : Option Addr} {len cap : Nat} {zs : List Int} (h : IsRow k w a len cap zs) : len ≤ cap ∧ (cap : Int) ≤ 9223372036854775807 := by
  rcases h with ⟨_, rfl, rfl, _⟩ | ⟨x, _, h1, h2, _⟩
  · omega
  · unfold maxLen at h2; omega

theorem wf_u8 {n : Int} (h : (Lit.int .u8 n).wf = true) : 0 ≤ n ∧ n < 256 := by
  simp [Lit.wf, IntKind.min, IntKind.max, IntKind.signed, IntKind.bits] at h
  omega

theorem wf_i64 {n : Int} (h : (Lit.int .i64 n).wf = true) : -9223372036854775808 ≤ n ∧ n ≤ 9223372036854775807 := by
  simp [Lit.wf, IntKind.min, IntKind.max, IntKind.signed, IntKind.bits] at h
  omega

theorem wf_u32 {n : Int} (h : (Lit.int .u32 n).wf = true) : 0 ≤ n ∧ n ≤ 4294967295 := by
  simp [Lit.wf, IntKind.min, IntKind.max, IntKind.signed, IntKind.bits] at h
  omega

theorem wf_u16 {n : Int} (h : (Lit.int .u16 n).wf = true) : 0 ≤ n ∧ n ≤ 65535 := by
  simp [Lit.wf, IntKind.min, IntKind.max, IntKind.signed, IntKind.bits] at h
  omega

theorem wf_u64 {n : Int} (h : (Lit.int .u64 n).wf = true) : 0 ≤ n ∧ n ≤ 18446744073709551615 := by
  simp [Lit.wf, IntKind.min, IntKind.max, IntKind.signed, IntKind.bits] at h
  omega

/-- the bytes of a row that came in -/
theorem IsRow.rd {w : World} {a : Option Addr} {len cap : Nat} {zs : List Int} (h : IsRow .u8 w a len cap zs) : ∃ l, Rd w w.heap.size a len l := by
  rcases h with ⟨rfl, rfl, _, _⟩ | ⟨x, rfl, h1, _, h3, hc, hw⟩
  · exact ⟨[], Rd.nil _ _⟩
  · refine ⟨(zs.take len).map byt, by simp; omega, fun hn => ⟨x, rfl, ?_, fun j hj => ?_⟩⟩
    · have := World.block_lt_of_cell? w _ (hc 0 (by omega))
      rw [blk_add] at this
      exact this
    · have hj2 : j < zs.length := by simp at hj; omega
      rw [hc j hj2]
      have hz := wf_u8 (hw (zs.getD j 0) (by simp [List.getD, hj2]))
      have e : ((zs.take len).map byt)[j] = byt (zs.getD j 0) := by simp [List.getD, hj2]
      rw [e, byt_val]
      congr 2
      omega

/-- the numbers of a row that came in -/
theorem IsRow.rdI {w : World} {a : Option Addr} {len cap : Nat} {zs : List Int} (h : IsRow .i64 w a len cap zs) : ∃ l, RdI w w.heap.size a len l := by
  rcases h with ⟨rfl, rfl, _, _⟩ | ⟨x, rfl, h1, _, h3, hc, hw⟩
  · exact ⟨[], rfl, fun h => absurd h (by omega), fun j => by simp⟩
  · refine ⟨zs.take len, by simp; omega, fun hn => ⟨x, rfl, ?_, fun j hj => ?_⟩, fun j => ?_⟩
    · have := World.block_lt_of_cell? w _ (hc 0 (by omega))
      rw [blk_add] at this
      exact this
    · have hj2 : j < len := by simp at hj; omega
      rw [hc j (by omega)]
      simp [List.getD, hj2]
    · by_cases hj : j < len
      · have e : (zs.take len).getD j 0 = zs.getD j 0 := by simp [List.getD, hj]
        rw [e]
        exact wf_i64 (hw _ (by simp [List.getD, show j < zs.length from by omega]))
      · have e : (zs.take len).getD j 0 = 0 := by rw [List.getD, List.getElem?_take, if_neg hj]; rfl
        rw [e]
        omega

theorem ret_int {k : IntKind} {a b : Int} (h : a = b) : Ending.returned (.int k a) = .returned (.int k b) := by rw [h]

theorem add_add (p : Addr) (a j : Nat) : (p.add a).add j = p.add (a + j) := by
  unfold Addr.add
  by_cases h : a = 0
  · subst h; simp
  · by_cases h2 : j = 0
    · subst h2; simp
    · rw [if_neg h, if_neg h2, if_neg (by omega)]
      simp [Nat.add_assoc]

theorem own_cap {w : World} {base : Nat} {e : TypeId} {A : Option Addr} {n c : Nat} {xs : List Value} (h : w.ownsRow base e 1 (.slice A n c) n xs) : n ≤ c ∧ (c : Int) ≤ 9223372036854775807 := by
  rcases h.2 with ⟨hv, h0⟩ | ⟨g, cap, cur, hv, _, _, hnc, hcm, _⟩
  · injection hv with _ _ hc
    omega
  · injection hv with _ _ hc
    unfold maxLen at hcm
    omega

theorem own_empty (w : World) (e : TypeId) : (w.alloc (.cells #[] e)).ownsRow w.heap.size e 1 (.slice (some ⟨w.heap.size, 0, none⟩) 0 0) 0 (bc []) :=
  World.ownsRow_lit (base := w.heap.size) w #[] 0 (Nat.le_refl _) (by unfold maxLen; omega) rfl

theorem own_ne {w : World} {base : Nat} {e : TypeId} {size n : Nat} {v : Value} {xs : List Value} {g : Nat} (h : w.ownsRow base e size v n xs) (hg : g < base) : v.ownBlock = none ∨ v.ownBlock ≠ some g := by
  refine .inr (fun he => ?_)
  have := (h.lt g he).1
  omega

theorem own_below {w w' : World} {base : Nat} {e : TypeId} {size n : Nat} {v : Value} {xs : List Value} (h : w.ownsRow base e size v n xs) (hb : Below w.heap.size w w') : w'.ownsRow base e size v n xs := h.kept (row := none) ⟨hb.os, hb.tape, hb.output, hb.size, fun k hk _ => hb.block k hk⟩ (by
  rcases h.2 with ⟨rfl, _⟩ | ⟨g, cap, cur, rfl, _⟩
  · exact .inl rfl
  · exact .inr (fun e => by cases e))

theorem own_nil (w : World) (base : Nat) (e : TypeId) : w.ownsRow base e 1 (.slice none 0 0) 0 (bc []) := ⟨by simp [bc], .inl ⟨rfl, rfl⟩⟩

theorem Rd.head {w : World} {B : Nat} {A : Option Addr} {n : Nat} {l : List UInt8} (h : Rd w B A n l) (k : Nat) (hk : k ≤ n) : Rd w B A k (l.take k) := by
  have hl := h.1
  refine ⟨by rw [List.length_take]; omega, fun h0 => ?_⟩
  obtain ⟨ad, e, hb, hc⟩ := h.2 (by omega)
  refine ⟨ad, e, hb, fun j hj => ?_⟩
  have hj2 : j < k := by rw [List.length_take] at hj; omega
  rw [hc j (by omega)]
  simp

theorem Rd.some_ {w : World} {B : Nat} {A : Option Addr} {n : Nat} {l : List UInt8} (h : Rd w B A n l) (hn : 0 < n) : ∃ ad, A = some ad := by
  obtain ⟨ad, e, _⟩ := h.2 hn
  exact ⟨ad, e⟩

theorem add_pos (a : Addr) (k : Nat) (h : k ≠ 0) : a.add k = ⟨a.block, a.off + k, none⟩ := by unfold Addr.add; rw [if_neg h]

theorem Rd.one_at (w : World) (b : UInt8) (t : TypeId) (k : Nat) (hk : k = w.heap.size) : Rd (w.alloc (.cells #[.int .u8 (b.toNat : Int)] t)) (k + 1) (some ⟨k, 0, none⟩) 1 [b] := by
  subst hk
  exact Rd.one w b t

theorem own_ne_new {w : World} {base : Nat} {e : TypeId} {size n : Nat} {v : Value} {xs : List Value} (h : w.ownsRow base e size v n xs) {g : Nat} (hg : w.heap.size ≤ g) : some g ≠ v.ownBlock := fun e => by
  have := (h.lt _ e.symm).2
  omega

theorem take_map {α : Type} (ts : List α) (f : α → UInt8) (j : Nat) (h : j < ts.length) (t : α) (ht : t = ts[j]) : (ts.take (j + 1)).map f = (ts.take j).map f ++ [f t] := by
  rw [List.take_succ_eq_append_getElem h, List.map_append, ht]
  rfl

end Go.Proofs.YtgeglhgkibcpfaaDoor
