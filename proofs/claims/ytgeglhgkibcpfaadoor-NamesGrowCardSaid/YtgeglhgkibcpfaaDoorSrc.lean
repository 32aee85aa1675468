/- A source by value, and where its names lie. No function of the program is named here. -/
import Derived.Test.YtgeglhgkibcpfaaDoorAppV
namespace Go.Proofs.YtgeglhgkibcpfaaDoor
open Go.RowKit
set_option linter.unusedVariables false

/-- a source by value: texts, numbers, and where its rows lie -/
structure Src where
  s0 : ByteArray
  s1 : ByteArray
  s2 : ByteArray
  r : Int
  m : Int
  A0 : Option Addr
  n0 : Nat
  c0 : Nat
  A1 : Option Addr
  n1 : Nat
  c1 : Nat
  A2 : Option Addr
  n2 : Nat
  c2 : Nat
  A3 : Option Addr
  n3 : Nat
  c3 : Nat
  A4 : Option Addr
  n4 : Nat
  c4 : Nat
  A5 : Option Addr
  n5 : Nat
  c5 : Nat
  A6 : Option Addr
  n6 : Nat
  c6 : Nat
  A7 : Option Addr
  n7 : Nat
  c7 : Nat

/-- rows: flags, props, globals, objects, verbs, rules, funcs, daemons -/
def srcCells (X : Src) : Array Value := #[.string X.s0, .string X.s1, .string X.s2, .int .i64 X.r, .int .i64 X.m, .slice X.A0 X.n0 X.c0, .slice X.A1 X.n1 X.c1, .slice X.A2 X.n2 X.c2, .slice X.A3 X.n3 X.c3, .slice X.A4 X.n4 X.c4, .slice X.A5 X.n5 X.c5, .slice X.A6 X.n6 X.c6, .slice X.A7 X.n7 X.c7]
def srcV (X : Src) : Value := .agg (srcCells X)

/-- its names lie below a block -/
structure Src.Nam (X : Src) (w : World) (B : Nat) (d : Dl) : Prop where
  fl : RdX 1 w B X.A0 X.n0 d.fl
  pr : RdX 2 w B X.A1 X.n1 d.pr
  gl : RdX 2 w B X.A2 X.n2 d.gl
  ob : RdX 10 w B X.A3 X.n3 d.ob
  ve : RdX 3 w B X.A4 X.n4 d.ve
  fu : RdX 3 w B X.A6 X.n6 d.fu
  da : RdX 3 w B X.A7 X.n7 d.da

theorem Src.Nam.below {X : Src} {w w' : World} {B : Nat} {d : Dl} (h : X.Nam w B d) (hb : Below B w w') : X.Nam w' B d := ⟨h.fl.below hb, h.pr.below hb, h.gl.below hb, h.ob.below hb, h.ve.below hb, h.fu.below hb, h.da.below hb⟩
theorem Src.Nam.more {X : Src} {w : World} {B B' : Nat} {d : Dl} (h : X.Nam w B d) (hB : B ≤ B') : X.Nam w B' d := ⟨h.fl.more hB, h.pr.more hB, h.gl.more hB, h.ob.more hB, h.ve.more hB, h.fu.more hB, h.da.more hB⟩
theorem Src.Nam.cnt {X : Src} {w : World} {B : Nat} {d : Dl} (h : X.Nam w B d) : cntD d = X.n0 + X.n1 + X.n2 + X.n3 + X.n4 + X.n6 + X.n7 := by
  have h1 := h.fl.1
  have h2 := h.pr.1
  have h3 := h.gl.1
  have h4 := h.ob.1
  have h5 := h.ve.1
  have h6 := h.fu.1
  have h7 := h.da.1
  unfold cntD
  omega

/-- a declaration as cells -/
def enc (e : En) : List Value := [.string (bs e.name), .int .i64 e.kind, .int .i64 e.part, .int .i64 e.at_, .int .i64 e.num, .int .i64 e.most]
def env (es : List En) : List Value := es.flatMap enc
theorem env_app (a b : List En) : env (a ++ b) = env a ++ env b := by unfold env; rw [List.flatMap_append]
theorem env_cons (e : En) (r : List En) : env (e :: r) = enc e ++ env r := rfl
theorem env_len (es : List En) : (env es).length = es.length * 6 := by
  induction es with
  | nil => rfl
  | cons t ts ih =>
    rw [env_cons, List.length_append, ih, List.length_cons]
    show 6 + _ = _
    omega
theorem enc_one (e : En) : ∀ u ∈ enc e, u.oneCell' = true := by
  intro u hu
  simp [enc] at hu
  rcases hu with rfl | rfl | rfl | rfl | rfl | rfl <;> rfl
theorem entF_next {k p o m : Int} {l : List (List UInt8)} {j : Nat} (h : j < l.length) : entF k p o m 0 (l.take (j + 1)) = entF k p o m 0 (l.take j) ++ [⟨l[j]?.getD [], k, p, j, (j : Int) + o, m⟩] := by
  rw [List.take_succ_eq_append_getElem h, entF_app, List.length_take, List.getElem?_eq_getElem h, Nat.zero_add, Nat.min_eq_left (by omega)]
  rfl
theorem xname {st : Nat} {w : World} {B : Nat} {A : Option Addr} {n : Nat} {ls : List (List UInt8)} (h : RdX st w B A n ls) {j : Nat} (hj : j < n) : ∃ ad : Addr, A = some ad ∧ ad.block < B ∧ w.cell? (ad.add (j * st)) = some (.string (bs (ls[j]?.getD []))) := by
  obtain ⟨ad, e, hb, hc⟩ := h.2 (by omega)
  exact ⟨ad, e, hb, hc j (by rw [h.1]; exact hj)⟩

end Go.Proofs.YtgeglhgkibcpfaaDoor
