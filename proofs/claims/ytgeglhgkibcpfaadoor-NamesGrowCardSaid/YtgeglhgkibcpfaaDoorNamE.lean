/- Contracts of the statements' count, source. -/
import Derived.Test.YtgeglhgkibcpfaaDoorNamC
namespace Go.Proofs.YtgeglhgkibcpfaaDoor
open Go.RowKit
set_option linter.unusedVariables false

/-- declarations by value: where their rows lie -/
structure Dcl where
  A0 : Option Addr
  n0 : Nat
  c0 : Nat
  A1 : Option Addr
  n1 : Nat
  c1 : Nat
  A2 : Option Addr
  n2 : Nat
  c2 : Nat
  A3 : Option Addr
  n3 : Nat
  c3 : Nat
  A4 : Option Addr
  n4 : Nat
  c4 : Nat
  A5 : Option Addr
  n5 : Nat
  c5 : Nat
  A6 : Option Addr
  n6 : Nat
  c6 : Nat
def dclCells (X : Dcl) : Array Value := #[.slice X.A0 X.n0 X.c0, .slice X.A1 X.n1 X.c1, .slice X.A2 X.n2 X.c2, .slice X.A3 X.n3 X.c3, .slice X.A4 X.n4 X.c4, .slice X.A5 X.n5 X.c5, .slice X.A6 X.n6 X.c6]
def dclV (X : Dcl) : Value := .agg (dclCells X)

/-- their rows lie below a block -/
structure Dcl.Rd (X : Dcl) (w : World) (B : Nat) (d : Dl) : Prop where
  fl : RdS w B X.A0 X.n0 d.fl
  pr : RdS w B X.A1 X.n1 d.pr
  gl : RdS w B X.A2 X.n2 d.gl
  ob : RdS w B X.A3 X.n3 d.ob
  ve : RdS w B X.A4 X.n4 d.ve
  fu : RdS w B X.A5 X.n5 d.fu
  da : RdS w B X.A6 X.n6 d.da
theorem Dcl.Rd.below {X : Dcl} {w w' : World} {B : Nat} {d : Dl} (h : X.Rd w B d) (hb : Below B w w') : X.Rd w' B d := ⟨h.fl.below hb, h.pr.below hb, h.gl.below hb, h.ob.below hb, h.ve.below hb, h.fu.below hb, h.da.below hb⟩
theorem Dcl.Rd.more {X : Dcl} {w : World} {B B' : Nat} {d : Dl} (h : X.Rd w B d) (hB : B ≤ B') : X.Rd w B' d := ⟨h.fl.more hB, h.pr.more hB, h.gl.more hB, h.ob.more hB, h.ve.more hB, h.fu.more hB, h.da.more hB⟩
theorem Dcl.Rd.cnt {X : Dcl} {w : World} {B : Nat} {d : Dl} (h : X.Rd w B d) : cntD d = X.n0 + X.n1 + X.n2 + X.n3 + X.n4 + X.n5 + X.n6 := by
  have h1 := h.fl.1
  have h2 := h.pr.1
  have h3 := h.gl.1
  have h4 := h.ob.1
  have h5 := h.ve.1
  have h6 := h.fu.1
  have h7 := h.da.1
  unfold cntD
  omega

theorem RdX.of_rdS {w : World} {B : Nat} {A : Option Addr} {n : Nat} {ls : List (List UInt8)} (h : RdS w B A n ls) : RdX 1 w B A n ls :=
  ⟨h.1, fun hn => by
    obtain ⟨ad, e, hb, hc⟩ := h.2 hn
    exact ⟨ad, e, hb, fun j hj => by rw [Nat.mul_one]; exact hc j hj⟩⟩

theorem flat_at {f : List UInt8 → List Value} {sz : Nat} (hf : ∀ s, (f s).length = sz ∧ (f s)[0]? = some (.string (bs s))) : ∀ (ls : List (List UInt8)) (j : Nat), j < ls.length → (ls.flatMap f)[j * sz]? = some (.string (bs (ls[j]?.getD []))) := by
  intro ls
  induction ls with
  | nil => intro j h; cases h
  | cons s r ih =>
    intro j h
    have h0 : 0 < sz := by
      obtain ⟨h1, h2⟩ := hf s
      have := (List.getElem?_eq_some_iff.1 h2).1
      omega
    rw [List.flatMap_cons]
    cases j with
    | zero =>
      rw [Nat.zero_mul, List.getElem?_append_left (by rw [(hf s).1]; exact h0)]
      exact (hf s).2
    | succ j =>
      rw [List.getElem?_append_right (by rw [(hf s).1, Nat.succ_mul]; omega), (hf s).1, show (j + 1) * sz - sz = j * sz from by rw [Nat.succ_mul]; omega]
      exact ih j (by rw [List.length_cons] at h; omega)
theorem RdX.of_own {w : World} {base sz : Nat} {e : TypeId} {A : Option Addr} {n c : Nat} {ls : List (List UInt8)} {f : List UInt8 → List Value} (hf : ∀ s, (f s).length = sz ∧ (f s)[0]? = some (.string (bs s))) (hl : ls.length = n) (h : w.ownsRow base e sz (.slice A n c) n (ls.flatMap f)) : RdX sz w w.heap.size A n ls := by
  refine ⟨hl, fun hn => ?_⟩
  obtain ⟨g, cap, hv, _, hlt⟩ := h.form hn
  have hA : A = some ⟨g, 0, none⟩ := by injection hv
  subst hA
  exact ⟨_, rfl, hlt, fun j hj => h.cells (g := g) rfl _ _ (flat_at hf ls j hj)⟩
theorem flat_next {f : List UInt8 → List Value} {l : List (List UInt8)} {j : Nat} (h : j < l.length) : (l.take (j + 1)).flatMap f = (l.take j).flatMap f ++ f (l[j]?.getD []) := by
  rw [List.take_succ_eq_append_getElem h, List.flatMap_append, List.getElem?_eq_getElem h]
  simp

theorem gb_app {a b c : World} {g : Nat} {o : Obj} {row : Option Nat} (h : a.grownBy b (some g)) (h2 : (b.alloc o).grownBy c row) (hrow : ∀ k, row = some k → a.heap.size ≤ k) : a.grownBy c (some g) := by
  have ha : b.grownBy (b.alloc o) none := gb_below ((Below.refl _ _).alloc (Nat.le_refl _) _) _
  refine ⟨h2.os.trans (ha.os.trans h.os), h2.tape.trans (ha.tape.trans h.tape), h2.output.trans (ha.output.trans h.output), Nat.le_trans h.size (Nat.le_trans ha.size h2.size), fun k hk hne => ?_⟩
  have hb := h.size
  have hs := ha.size
  rw [h2.block k (by omega) (fun e => by have := hrow k e.symm; omega), ha.block k (by omega) (by simp), h.block k hk hne]
theorem own_far {w w' : World} {base sz n g : Nat} {e : TypeId} {v : Value} {xs : List Value} (h : w.ownsRow base e sz v n xs) (hg : w.grownBy w' (some g)) (hb : g < base) : w'.ownsRow base e sz v n xs :=
  h.kept hg (.inr fun e => by have := own_from h g e; omega)

set_option maxRecDepth 100000 in
set_option maxHeartbeats 3200000 in
theorem count_any (X : Dcl) (w : World) (h : X.n0 ≤ 140737488355328 ∧ X.n1 ≤ 140737488355328 ∧ X.n2 ≤ 140737488355328 ∧ X.n3 ≤ 140737488355328 ∧ X.n4 ≤ 140737488355328 ∧ X.n5 ≤ 140737488355328 ∧ X.n6 ≤ 140737488355328) :
    Calls Tryd.prog 8 #[dclV X] w fun e w' => e = .returned (.int .i64 ((X.n0 + X.n1 + X.n2 + X.n3 + X.n4 + X.n5 + X.n6 : Nat) : Int)) ∧ Below w.heap.size w w' := by
  obtain ⟨A0, n0, c0, A1, n1, c1, A2, n2, c2, A3, n3, c3, A4, n4, c4, A5, n5, c5, A6, n6, c6⟩ := X
  obtain ⟨h0, h1, h2, h3, h4, h5, h6⟩ := h
  simp only at h0 h1 h2 h3 h4 h5 h6
  show Calls Tryd.prog _ #[.agg #[.slice A0 n0 c0, .slice A1 n1 c1, .slice A2 n2 c2, .slice A3 n3 c3, .slice A4 n4 c4, .slice A5 n5 c5, .slice A6 n6 c6]] w fun e w' => e = .returned (.int .i64 ((n0 + n1 + n2 + n3 + n4 + n5 + n6 : Nat) : Int)) ∧ Below w.heap.size w w'
  obtain ⟨W, hW⟩ : ∃ W, W = w.alloc (.cells #[.slice A0 n0 c0, .slice A1 n1 c1, .slice A2 n2 c2, .slice A3 n3 c3, .slice A4 n4 c4, .slice A5 n5 c5, .slice A6 n6 c6] 24) := ⟨_, rfl⟩
  have HBW : Hid (Below w.heap.size w W) := Lib.hid (by rw [hW]; exact (Below.refl _ _).alloc (Nat.le_refl _) _)
  have HKW : Blk W w.heap.size 24 #[.slice A0 n0 c0, .slice A1 n1 c1, .slice A2 n2 c2, .slice A3 n3 c3, .slice A4 n4 c4, .slice A5 n5 c5, .slice A6 n6 c6] := by rw [hW]; exact Blk.new _ _ _
  have k0 : W.cell? ⟨w.heap.size, 0, none⟩ = some (.slice A0 n0 c0) := HKW.cell 0
  have k1 : W.cell? ⟨w.heap.size, 1, none⟩ = some (.slice A1 n1 c1) := HKW.cell 1
  have k2 : W.cell? ⟨w.heap.size, 2, none⟩ = some (.slice A2 n2 c2) := HKW.cell 2
  have k3 : W.cell? ⟨w.heap.size, 3, none⟩ = some (.slice A3 n3 c3) := HKW.cell 3
  have k4 : W.cell? ⟨w.heap.size, 4, none⟩ = some (.slice A4 n4 c4) := HKW.cell 4
  have k5 : W.cell? ⟨w.heap.size, 5, none⟩ = some (.slice A5 n5 c5) := HKW.cell 5
  have k6 : W.cell? ⟨w.heap.size, 6, none⟩ = some (.slice A6 n6 c6) := HKW.cell 6
  clear HKW
  go_enter Tryd.func8, Tryd.ntmps8
  go_wp2_with fail
  rw [← hW]
  clear hW
  go_wp2_with fail
  first | go_ret | (try simp only [Exit.inBlock, Exit.then]); refine bodyPost_ret (results_tmp rfl _ _ _) rfl ?_
  exact ⟨by push_cast; rfl, HBW.out⟩

theorem Tryd.inf_pair15 : (Tryd.prog.info? 74).map (fun i => (i.zero, i.size, i.bytes)) = some (some (.agg #[.string ⟨#[]⟩, .int .i64 0]), 2, 24) := by kernel_rfl
theorem Tryd.inf_obj15 : (Tryd.prog.info? 58).map (fun i => (i.zero, i.size, i.bytes)) = some (some (.agg #[.string ⟨#[]⟩, .string ⟨#[]⟩, .string ⟨#[]⟩, .string ⟨#[]⟩, .bool false, .slice none 0 0, .slice none 0 0, .slice none 0 0, .slice none 0 0, .slice none 0 0]), 10, 192) := by kernel_rfl
theorem Tryd.inf_verb15 : (Tryd.prog.info? 77).map (fun i => (i.zero, i.size, i.bytes)) = some (some (.agg #[.string ⟨#[]⟩, .bool false, .slice none 0 0]), 3, 48) := by kernel_rfl
theorem Tryd.inf_func15 : (Tryd.prog.info? 80).map (fun i => (i.zero, i.size, i.bytes)) = some (some (.agg #[.string ⟨#[]⟩, .slice none 0 0, .slice none 0 0]), 3, 64) := by kernel_rfl

def fPr (s : List UInt8) : List Value := [.string (bs s), .int .i64 7]
def fGl (s : List UInt8) : List Value := [.string (bs s), .int .i64 0]
def fOb (s : List UInt8) : List Value := [.string (bs s), .string (bs s), .string ⟨#[]⟩, .string ⟨#[]⟩, .bool false, .slice none 0 0, .slice none 0 0, .slice none 0 0, .slice none 0 0, .slice none 0 0]
def fVe (s : List UInt8) : List Value := [.string (bs s), .bool false, .slice none 0 0]
def fFu (s : List UInt8) : List Value := [.string (bs s), .slice none 0 0, .slice none 0 0]
theorem src_size : (Tryd.prog.info? 39).map (·.size) = some 13 := by kernel_rfl

set_option maxRecDepth 100000 in
set_option maxHeartbeats 25600000 in
theorem source_any (X : Dcl) (w : World) (d : Dl) (h : X.Rd w w.heap.size d) (hn : cntD d ≤ 50000) :
    Calls Tryd.prog 11 #[dclV X] w fun e w' => ∃ Y : Src, e = .returned (srcV Y) ∧ Y.Nam w' w'.heap.size d ∧ Below w.heap.size w w' := by
  have hcnt := h.cnt
  obtain ⟨A0, n0, c0, A1, n1, c1, A2, n2, c2, A3, n3, c3, A4, n4, c4, A5, n5, c5, A6, n6, c6⟩ := X
  simp only at hcnt
  have hs0 : n0 ≤ 50000 := by omega
  have hs1 : n1 ≤ 50000 := by omega
  have hs2 : n2 ≤ 50000 := by omega
  have hs3 : n3 ≤ 50000 := by omega
  have hs4 : n4 ≤ 50000 := by omega
  have hs5 : n5 ≤ 50000 := by omega
  have hs6 : n6 ≤ 50000 := by omega
  have H := Lib.hid h
  clear h hcnt hn
  show Calls Tryd.prog _ #[.agg #[.slice A0 n0 c0, .slice A1 n1 c1, .slice A2 n2 c2, .slice A3 n3 c3, .slice A4 n4 c4, .slice A5 n5 c5, .slice A6 n6 c6]] w _
  obtain ⟨W, hW⟩ : ∃ W, W = (w.alloc (.cells #[.slice A0 n0 c0, .slice A1 n1 c1, .slice A2 n2 c2, .slice A3 n3 c3, .slice A4 n4 c4, .slice A5 n5 c5, .slice A6 n6 c6] 24)).alloc (.cells #[.string ⟨#[]⟩, .string ⟨#[]⟩, .string ⟨#[]⟩, .int .i64 0, .int .i64 0, .slice none 0 0, .slice none 0 0, .slice none 0 0, .slice none 0 0, .slice none 0 0, .slice none 0 0, .slice none 0 0, .slice none 0 0] 39) := ⟨_, rfl⟩
  have HSW : Hid (W.heap.size = w.heap.size + 1 + 1) := Lib.hid (by rw [hW]; simp)
  have HBW : Hid (Below w.heap.size w W) := Lib.hid (by rw [hW]; exact ((Below.refl _ _).alloc (Nat.le_refl _) _).alloc (by simp) _)
  have HKW : Hid (Blk W w.heap.size 24 #[.slice A0 n0 c0, .slice A1 n1 c1, .slice A2 n2 c2, .slice A3 n3 c3, .slice A4 n4 c4, .slice A5 n5 c5, .slice A6 n6 c6]) := Lib.hid (by rw [hW]; exact (Blk.new _ _ _).alloc _)
  have HRW : Hid (Blk W (w.heap.size + 1) 39 #[.string ⟨#[]⟩, .string ⟨#[]⟩, .string ⟨#[]⟩, .int .i64 0, .int .i64 0, .slice none 0 0, .slice none 0 0, .slice none 0 0, .slice none 0 0, .slice none 0 0, .slice none 0 0, .slice none 0 0, .slice none 0 0]) := Lib.hid (by rw [hW]; exact Blk.new_at _ _ _ _ (by simp))
  have k0 : W.cell? ⟨w.heap.size, 0, none⟩ = some (.slice A0 n0 c0) := HKW.out.cell 0
  obtain ⟨W0, hW0⟩ : ∃ W0, W0 = W.alloc (.cells #[.string ⟨#[]⟩, .string ⟨#[]⟩, .string ⟨#[]⟩, .int .i64 0, .int .i64 0, .slice A0 n0 c0, .slice none 0 0, .slice none 0 0, .slice none 0 0, .slice none 0 0, .slice none 0 0, .slice none 0 0, .slice none 0 0] 39) := ⟨_, rfl⟩
  have HS0 : Hid (Blk W0 (w.heap.size + 1 + 1) 39 #[.string ⟨#[]⟩, .string ⟨#[]⟩, .string ⟨#[]⟩, .int .i64 0, .int .i64 0, .slice A0 n0 c0, .slice none 0 0, .slice none 0 0, .slice none 0 0, .slice none 0 0, .slice none 0 0, .slice none 0 0, .slice none 0 0]) := Lib.hid (by rw [hW0]; exact Blk.new_at _ _ _ _ HSW.out.symm)
  have HB0 : Hid (Below w.heap.size w W0) := Lib.hid (by rw [hW0]; exact HBW.out.alloc HBW.out.size _)
  have HZ0 : Hid (W0.heap.size = w.heap.size + 1 + 1 + 1) := Lib.hid (by rw [hW0]; simp [HSW.out])
  have HD0 : Hid (Blk W0 w.heap.size 24 #[.slice A0 n0 c0, .slice A1 n1 c1, .slice A2 n2 c2, .slice A3 n3 c3, .slice A4 n4 c4, .slice A5 n5 c5, .slice A6 n6 c6]) := Lib.hid (by rw [hW0]; exact HKW.out.alloc _)
  have HR0 : Hid (Blk W0 (w.heap.size + 1) 39 #[.string ⟨#[]⟩, .string ⟨#[]⟩, .string ⟨#[]⟩, .int .i64 0, .int .i64 0, .slice none 0 0, .slice none 0 0, .slice none 0 0, .slice none 0 0, .slice none 0 0, .slice none 0 0, .slice none 0 0, .slice none 0 0]) := Lib.hid (by rw [hW0]; exact HRW.out.alloc _)
  have HZZ : Hid (W0.heap.size = w.heap.size + 1 + 1 + 1) := HZ0
  have d1 : W0.cell? ⟨w.heap.size, 1, none⟩ = some (.slice A1 n1 c1) := HD0.out.cell 1
  go_enter Tryd.func11, Tryd.ntmps11
  go_wp2_with fail
  rw [← hW]
  clear hW HKW HRW HBW
  go_wp2_with (rw [← hW0])
  go_loopw [22] (fun vi wr => ∃ (j c : Nat) (A : Option Addr), j ≤ n1 ∧ vi = .int .i64 j ∧ Hid (Blk wr (w.heap.size + 1 + 1) 39 #[.string ⟨#[]⟩, .string ⟨#[]⟩, .string ⟨#[]⟩, .int .i64 0, .int .i64 0, .slice A0 n0 c0, .slice A j c, .slice none 0 0, .slice none 0 0, .slice none 0 0, .slice none 0 0, .slice none 0 0, .slice none 0 0]) ∧ Hid (wr.ownsRow W0.heap.size 74 2 (.slice A j c) j ((d.pr.take j).flatMap fPr)) ∧ Hid (W0.grownBy wr (some (w.heap.size + 1 + 1)))) (fun vi _ => n1 - (intOf vi).toNat)
  case atStart => exact ⟨0, 0, none, Nat.zero_le _, rfl, HS0, Lib.hid (own_nilV _ _ _ _), Lib.hid (gb_below (Below.refl _ _) _)⟩
  case round =>
    obtain ⟨j, e0, B0, hj, rfl, HS, HO, HG⟩ := hrel
    have HBr : Hid (Below w.heap.size w wr) := Lib.hid (HB0.out.grown HG.out HB0.out.size (fun k hk => by injection hk with hk; omega))
    have fld : wr.cell? ⟨w.heap.size + 1 + 1, 6, none⟩ = some (.slice B0 j e0) := HS.out.cell 6
    have HL2 : Hid (w.heap.size + 1 + 1 < W0.heap.size) := Lib.hid HS0.out.lt
    by_cases hlt : j < n1
    · have HR := Lib.hid ((H.out.below HBr.out).pr)
      obtain ⟨ad, hA, hadb, a0⟩ : ∃ ad : Addr, A1 = some ad ∧ ad.block < w.heap.size ∧ wr.cell? (ad.add j) = some (.string (bs (d.pr[j]?.getD []))) := by
        obtain ⟨ad, e, hb, hc⟩ := HR.out.2 (show 0 < n1 by omega)
        exact ⟨ad, e, hb, hc j (by have he : d.pr.length = n1 := HR.out.1; omega)⟩
      subst hA
      obtain ⟨x, hx⟩ : ∃ t, t = d.pr[j]?.getD [] := ⟨_, rfl⟩
      rw [← hx] at a0
      have HN : Hid ((d.pr.take (j + 1)).flatMap fPr = (d.pr.take j).flatMap fPr ++ [.string (bs x), .int .i64 7]) := Lib.hid (by rw [flat_next (by have he : d.pr.length = n1 := HR.out.1; omega), ← hx]; rfl)
      clear hx
      obtain ⟨i0, hi, hz0, hsz, hby⟩ := inf_parts Tryd.inf_pair15
      have HI := Lib.hid hi
      have HZI := Lib.hid hz0
      have HSZ := Lib.hid hsz
      have HBY := Lib.hid hby
      clear hi hz0 hsz hby
      go_wp2_with (at_builtin; refine wpList_appV _ rfl _ _ 33 rfl W0.heap.size 74 i0 _ 2 24 Tryd.underlying33 HI.out HZI.out rfl HSZ.out HBY.out (by omega) _ j _ rfl (HO.out.alloc _) _ _ 1 _ [.string (bs x), .int .i64 7] rfl (RdV.one (Blk.new wr 74 (List.toArray [.string (bs x), .int .i64 7])) rfl) (by simp [Value.oneCell']) (by omega) (by omega) (by rw [show (wr.alloc _).heap.size = wr.heap.size + 1 from by simp]; have := HG.out.size; omega) ?_; intro A9 c9 w9 hown9 hg9; have HO9 := Lib.hid hown9; have HG9 := Lib.hid (gb_app HG.out hg9 (own_from HO.out)); have HS9 := Lib.hid ((HS.out.alloc _).grown hg9 (fun e => by have := own_from HO.out _ e.symm; have := HL2.out; omega)); have z1 : w9.cell? ⟨w.heap.size + 1 + 1, 6, none⟩ = some (.slice B0 j e0) := HS9.out.cell 6; have z2 : w9.frozen? ⟨w.heap.size + 1 + 1, 6, none⟩ = false := HS9.out.frozen 6; clear hown9 hg9)
      go_roundw
      case rel => exact ⟨j + 1, c9, A9, by omega, by go_num, Lib.hid (HS9.out.set_ 6 _), Lib.hid (by rw [HN.out]; exact own_far HO9.out (gb_set (gb_below (Below.refl _ _) _) _ _) HL2.out), Lib.hid (gb_set HG9.out _ _)⟩
      case measure => simp [intOf]; omega
    · obtain rfl : n1 = j := by omega
      have HT : Hid (wr.ownsRow W0.heap.size 74 2 (.slice B0 n1 e0) n1 (d.pr.flatMap fPr)) := Lib.hid (by have := HO.out; rw [List.take_of_length_le (by have he : d.pr.length = _ := (H.out.pr).1; rw [he]; exact Nat.le_refl _)] at this; exact this)
      obtain ⟨W1, hWn⟩ : ∃ V0, V0 = wr := ⟨_, rfl⟩
      subst hWn
      have HB1 : Hid (Below w.heap.size w W1) := HBr
      have HS1 := HS
      have HZ1 : Hid (W0.heap.size ≤ W1.heap.size) := Lib.hid (Nat.le_trans (Nat.le_refl _) HG.out.size)
      have HD1 : Hid (Blk W1 w.heap.size 24 #[.slice A0 n0 c0, .slice A1 n1 c1, .slice A2 n2 c2, .slice A3 n3 c3, .slice A4 n4 c4, .slice A5 n5 c5, .slice A6 n6 c6]) := Lib.hid (HD0.out.grown HG.out (some_ne (by omega)))
      have HR1 : Hid (Blk W1 (w.heap.size + 1) 39 #[.string ⟨#[]⟩, .string ⟨#[]⟩, .string ⟨#[]⟩, .int .i64 0, .int .i64 0, .slice none 0 0, .slice none 0 0, .slice none 0 0, .slice none 0 0, .slice none 0 0, .slice none 0 0, .slice none 0 0, .slice none 0 0]) := Lib.hid (HR0.out.grown HG.out (some_ne (by omega)))
      have HO0_1 := Lib.hid (own_base HT.out (Nat.le_refl _))
      have d2 : W1.cell? ⟨w.heap.size, 2, none⟩ = some (.slice A2 n2 c2) := HD1.out.cell 2
      clear HS HO HT HG fld HBr HL2 HD0 HR0 HB0 HS0
      go_wp2_with fail
      go_loopw [37] (fun vi wr => ∃ (j c : Nat) (A : Option Addr), j ≤ n2 ∧ vi = .int .i64 j ∧ Hid (Blk wr (w.heap.size + 1 + 1) 39 #[.string ⟨#[]⟩, .string ⟨#[]⟩, .string ⟨#[]⟩, .int .i64 0, .int .i64 0, .slice A0 n0 c0, .slice B0 n1 e0, .slice A j c, .slice none 0 0, .slice none 0 0, .slice none 0 0, .slice none 0 0, .slice none 0 0]) ∧ Hid (wr.ownsRow W1.heap.size 74 2 (.slice A j c) j ((d.gl.take j).flatMap fGl)) ∧ Hid (W1.grownBy wr (some (w.heap.size + 1 + 1)))) (fun vi _ => n2 - (intOf vi).toNat)
      case atStart => exact ⟨0, 0, none, Nat.zero_le _, rfl, HS1, Lib.hid (own_nilV _ _ _ _), Lib.hid (gb_below (Below.refl _ _) _)⟩
      case round =>
        obtain ⟨j, e1, B1, hj, rfl, HS, HO, HG⟩ := hrel
        have HBr : Hid (Below w.heap.size w wr) := Lib.hid (HB1.out.grown HG.out HB1.out.size (fun k hk => by injection hk with hk; omega))
        have fld : wr.cell? ⟨w.heap.size + 1 + 1, 7, none⟩ = some (.slice B1 j e1) := HS.out.cell 7
        have HL2 : Hid (w.heap.size + 1 + 1 < W1.heap.size) := Lib.hid HS1.out.lt
        by_cases hlt : j < n2
        · have HR := Lib.hid ((H.out.below HBr.out).gl)
          obtain ⟨ad, hA, hadb, a0⟩ : ∃ ad : Addr, A2 = some ad ∧ ad.block < w.heap.size ∧ wr.cell? (ad.add j) = some (.string (bs (d.gl[j]?.getD []))) := by
            obtain ⟨ad, e, hb, hc⟩ := HR.out.2 (show 0 < n2 by omega)
            exact ⟨ad, e, hb, hc j (by have he : d.gl.length = n2 := HR.out.1; omega)⟩
          subst hA
          obtain ⟨x, hx⟩ : ∃ t, t = d.gl[j]?.getD [] := ⟨_, rfl⟩
          rw [← hx] at a0
          have HN : Hid ((d.gl.take (j + 1)).flatMap fGl = (d.gl.take j).flatMap fGl ++ [.string (bs x), .int .i64 0]) := Lib.hid (by rw [flat_next (by have he : d.gl.length = n2 := HR.out.1; omega), ← hx]; rfl)
          clear hx
          obtain ⟨i0, hi, hz0, hsz, hby⟩ := inf_parts Tryd.inf_pair15
          have HI := Lib.hid hi
          have HZI := Lib.hid hz0
          have HSZ := Lib.hid hsz
          have HBY := Lib.hid hby
          clear hi hz0 hsz hby
          go_wp2_with (at_builtin; refine wpList_appV _ rfl _ _ 33 rfl W1.heap.size 74 i0 _ 2 24 Tryd.underlying33 HI.out HZI.out rfl HSZ.out HBY.out (by omega) _ j _ rfl (HO.out.alloc _) _ _ 1 _ [.string (bs x), .int .i64 0] rfl (RdV.one (Blk.new wr 74 (List.toArray [.string (bs x), .int .i64 0])) rfl) (by simp [Value.oneCell']) (by omega) (by omega) (by rw [show (wr.alloc _).heap.size = wr.heap.size + 1 from by simp]; have := HG.out.size; omega) ?_; intro A9 c9 w9 hown9 hg9; have HO9 := Lib.hid hown9; have HG9 := Lib.hid (gb_app HG.out hg9 (own_from HO.out)); have HS9 := Lib.hid ((HS.out.alloc _).grown hg9 (fun e => by have := own_from HO.out _ e.symm; have := HL2.out; omega)); have z1 : w9.cell? ⟨w.heap.size + 1 + 1, 7, none⟩ = some (.slice B1 j e1) := HS9.out.cell 7; have z2 : w9.frozen? ⟨w.heap.size + 1 + 1, 7, none⟩ = false := HS9.out.frozen 7; clear hown9 hg9)
          go_roundw
          case rel => exact ⟨j + 1, c9, A9, by omega, by go_num, Lib.hid (HS9.out.set_ 7 _), Lib.hid (by rw [HN.out]; exact own_far HO9.out (gb_set (gb_below (Below.refl _ _) _) _ _) HL2.out), Lib.hid (gb_set HG9.out _ _)⟩
          case measure => simp [intOf]; omega
        · obtain rfl : n2 = j := by omega
          have HT : Hid (wr.ownsRow W1.heap.size 74 2 (.slice B1 n2 e1) n2 (d.gl.flatMap fGl)) := Lib.hid (by have := HO.out; rw [List.take_of_length_le (by have he : d.gl.length = _ := (H.out.gl).1; rw [he]; exact Nat.le_refl _)] at this; exact this)
          obtain ⟨W2, hWn⟩ : ∃ V0, V0 = wr := ⟨_, rfl⟩
          subst hWn
          have HB2 : Hid (Below w.heap.size w W2) := HBr
          have HS2 := HS
          have HZ2 : Hid (W0.heap.size ≤ W2.heap.size) := Lib.hid (Nat.le_trans HZ1.out HG.out.size)
          have HD2 : Hid (Blk W2 w.heap.size 24 #[.slice A0 n0 c0, .slice A1 n1 c1, .slice A2 n2 c2, .slice A3 n3 c3, .slice A4 n4 c4, .slice A5 n5 c5, .slice A6 n6 c6]) := Lib.hid (HD1.out.grown HG.out (some_ne (by omega)))
          have HR2 : Hid (Blk W2 (w.heap.size + 1) 39 #[.string ⟨#[]⟩, .string ⟨#[]⟩, .string ⟨#[]⟩, .int .i64 0, .int .i64 0, .slice none 0 0, .slice none 0 0, .slice none 0 0, .slice none 0 0, .slice none 0 0, .slice none 0 0, .slice none 0 0, .slice none 0 0]) := Lib.hid (HR1.out.grown HG.out (some_ne (by omega)))
          have HO1_2 := Lib.hid (own_base HT.out HZ1.out)
          have HO0_2 := Lib.hid (own_far HO0_1.out HG.out (by have := HZZ.out; omega))
          have d3 : W2.cell? ⟨w.heap.size, 3, none⟩ = some (.slice A3 n3 c3) := HD2.out.cell 3
          clear HS HO HT HG fld HBr HL2 HD1 HR1 HB1 HS1
          go_wp2_with fail
          go_loopw [52] (fun vi wr => ∃ (j c : Nat) (A : Option Addr), j ≤ n3 ∧ vi = .int .i64 j ∧ Hid (Blk wr (w.heap.size + 1 + 1) 39 #[.string ⟨#[]⟩, .string ⟨#[]⟩, .string ⟨#[]⟩, .int .i64 0, .int .i64 0, .slice A0 n0 c0, .slice B0 n1 e0, .slice B1 n2 e1, .slice A j c, .slice none 0 0, .slice none 0 0, .slice none 0 0, .slice none 0 0]) ∧ Hid (wr.ownsRow W2.heap.size 58 10 (.slice A j c) j ((d.ob.take j).flatMap fOb)) ∧ Hid (W2.grownBy wr (some (w.heap.size + 1 + 1)))) (fun vi _ => n3 - (intOf vi).toNat)
          case atStart => exact ⟨0, 0, none, Nat.zero_le _, rfl, HS2, Lib.hid (own_nilV _ _ _ _), Lib.hid (gb_below (Below.refl _ _) _)⟩
          case round =>
            obtain ⟨j, e2, B2, hj, rfl, HS, HO, HG⟩ := hrel
            have HBr : Hid (Below w.heap.size w wr) := Lib.hid (HB2.out.grown HG.out HB2.out.size (fun k hk => by injection hk with hk; omega))
            have fld : wr.cell? ⟨w.heap.size + 1 + 1, 8, none⟩ = some (.slice B2 j e2) := HS.out.cell 8
            have HL2 : Hid (w.heap.size + 1 + 1 < W2.heap.size) := Lib.hid HS2.out.lt
            by_cases hlt : j < n3
            · have HR := Lib.hid ((H.out.below HBr.out).ob)
              obtain ⟨ad, hA, hadb, a0⟩ : ∃ ad : Addr, A3 = some ad ∧ ad.block < w.heap.size ∧ wr.cell? (ad.add j) = some (.string (bs (d.ob[j]?.getD []))) := by
                obtain ⟨ad, e, hb, hc⟩ := HR.out.2 (show 0 < n3 by omega)
                exact ⟨ad, e, hb, hc j (by have he : d.ob.length = n3 := HR.out.1; omega)⟩
              subst hA
              obtain ⟨x, hx⟩ : ∃ t, t = d.ob[j]?.getD [] := ⟨_, rfl⟩
              rw [← hx] at a0
              have HN : Hid ((d.ob.take (j + 1)).flatMap fOb = (d.ob.take j).flatMap fOb ++ [.string (bs x), .string (bs x), .string ⟨#[]⟩, .string ⟨#[]⟩, .bool false, .slice none 0 0, .slice none 0 0, .slice none 0 0, .slice none 0 0, .slice none 0 0]) := Lib.hid (by rw [flat_next (by have he : d.ob.length = n3 := HR.out.1; omega), ← hx]; rfl)
              clear hx
              obtain ⟨i0, hi, hz0, hsz, hby⟩ := inf_parts Tryd.inf_obj15
              have HI := Lib.hid hi
              have HZI := Lib.hid hz0
              have HSZ := Lib.hid hsz
              have HBY := Lib.hid hby
              clear hi hz0 hsz hby
              go_wp2_with (at_builtin; refine wpList_appV _ rfl _ _ 34 rfl W2.heap.size 58 i0 _ 10 192 Tryd.underlying34 HI.out HZI.out rfl HSZ.out HBY.out (by omega) _ j _ rfl (HO.out.alloc _) _ _ 1 _ [.string (bs x), .string (bs x), .string ⟨#[]⟩, .string ⟨#[]⟩, .bool false, .slice none 0 0, .slice none 0 0, .slice none 0 0, .slice none 0 0, .slice none 0 0] rfl (RdV.one (Blk.new wr 58 (List.toArray [.string (bs x), .string (bs x), .string ⟨#[]⟩, .string ⟨#[]⟩, .bool false, .slice none 0 0, .slice none 0 0, .slice none 0 0, .slice none 0 0, .slice none 0 0])) rfl) (by simp [Value.oneCell']) (by omega) (by omega) (by rw [show (wr.alloc _).heap.size = wr.heap.size + 1 from by simp]; have := HG.out.size; omega) ?_; intro A9 c9 w9 hown9 hg9; have HO9 := Lib.hid hown9; have HG9 := Lib.hid (gb_app HG.out hg9 (own_from HO.out)); have HS9 := Lib.hid ((HS.out.alloc _).grown hg9 (fun e => by have := own_from HO.out _ e.symm; have := HL2.out; omega)); have z1 : w9.cell? ⟨w.heap.size + 1 + 1, 8, none⟩ = some (.slice B2 j e2) := HS9.out.cell 8; have z2 : w9.frozen? ⟨w.heap.size + 1 + 1, 8, none⟩ = false := HS9.out.frozen 8; clear hown9 hg9)
              go_roundw
              case rel => exact ⟨j + 1, c9, A9, by omega, by go_num, Lib.hid (HS9.out.set_ 8 _), Lib.hid (by rw [HN.out]; exact own_far HO9.out (gb_set (gb_below (Below.refl _ _) _) _ _) HL2.out), Lib.hid (gb_set HG9.out _ _)⟩
              case measure => simp [intOf]; omega
            · obtain rfl : n3 = j := by omega
              have HT : Hid (wr.ownsRow W2.heap.size 58 10 (.slice B2 n3 e2) n3 (d.ob.flatMap fOb)) := Lib.hid (by have := HO.out; rw [List.take_of_length_le (by have he : d.ob.length = _ := (H.out.ob).1; rw [he]; exact Nat.le_refl _)] at this; exact this)
              obtain ⟨W3, hWn⟩ : ∃ V0, V0 = wr := ⟨_, rfl⟩
              subst hWn
              have HB3 : Hid (Below w.heap.size w W3) := HBr
              have HS3 := HS
              have HZ3 : Hid (W0.heap.size ≤ W3.heap.size) := Lib.hid (Nat.le_trans HZ2.out HG.out.size)
              have HD3 : Hid (Blk W3 w.heap.size 24 #[.slice A0 n0 c0, .slice A1 n1 c1, .slice A2 n2 c2, .slice A3 n3 c3, .slice A4 n4 c4, .slice A5 n5 c5, .slice A6 n6 c6]) := Lib.hid (HD2.out.grown HG.out (some_ne (by omega)))
              have HR3 : Hid (Blk W3 (w.heap.size + 1) 39 #[.string ⟨#[]⟩, .string ⟨#[]⟩, .string ⟨#[]⟩, .int .i64 0, .int .i64 0, .slice none 0 0, .slice none 0 0, .slice none 0 0, .slice none 0 0, .slice none 0 0, .slice none 0 0, .slice none 0 0, .slice none 0 0]) := Lib.hid (HR2.out.grown HG.out (some_ne (by omega)))
              have HO2_3 := Lib.hid (own_base HT.out HZ2.out)
              have HO0_3 := Lib.hid (own_far HO0_2.out HG.out (by have := HZZ.out; omega))
              have HO1_3 := Lib.hid (own_far HO1_2.out HG.out (by have := HZZ.out; omega))
              have d4 : W3.cell? ⟨w.heap.size, 4, none⟩ = some (.slice A4 n4 c4) := HD3.out.cell 4
              clear HS HO HT HG fld HBr HL2 HD2 HR2 HB2 HS2
              go_wp2_with fail
              go_loopw [68] (fun vi wr => ∃ (j c : Nat) (A : Option Addr), j ≤ n4 ∧ vi = .int .i64 j ∧ Hid (Blk wr (w.heap.size + 1 + 1) 39 #[.string ⟨#[]⟩, .string ⟨#[]⟩, .string ⟨#[]⟩, .int .i64 0, .int .i64 0, .slice A0 n0 c0, .slice B0 n1 e0, .slice B1 n2 e1, .slice B2 n3 e2, .slice A j c, .slice none 0 0, .slice none 0 0, .slice none 0 0]) ∧ Hid (wr.ownsRow W3.heap.size 77 3 (.slice A j c) j ((d.ve.take j).flatMap fVe)) ∧ Hid (W3.grownBy wr (some (w.heap.size + 1 + 1)))) (fun vi _ => n4 - (intOf vi).toNat)
              case atStart => exact ⟨0, 0, none, Nat.zero_le _, rfl, HS3, Lib.hid (own_nilV _ _ _ _), Lib.hid (gb_below (Below.refl _ _) _)⟩
              case round =>
                obtain ⟨j, e3, B3, hj, rfl, HS, HO, HG⟩ := hrel
                have HBr : Hid (Below w.heap.size w wr) := Lib.hid (HB3.out.grown HG.out HB3.out.size (fun k hk => by injection hk with hk; omega))
                have fld : wr.cell? ⟨w.heap.size + 1 + 1, 9, none⟩ = some (.slice B3 j e3) := HS.out.cell 9
                have HL2 : Hid (w.heap.size + 1 + 1 < W3.heap.size) := Lib.hid HS3.out.lt
                by_cases hlt : j < n4
                · have HR := Lib.hid ((H.out.below HBr.out).ve)
                  obtain ⟨ad, hA, hadb, a0⟩ : ∃ ad : Addr, A4 = some ad ∧ ad.block < w.heap.size ∧ wr.cell? (ad.add j) = some (.string (bs (d.ve[j]?.getD []))) := by
                    obtain ⟨ad, e, hb, hc⟩ := HR.out.2 (show 0 < n4 by omega)
                    exact ⟨ad, e, hb, hc j (by have he : d.ve.length = n4 := HR.out.1; omega)⟩
                  subst hA
                  obtain ⟨x, hx⟩ : ∃ t, t = d.ve[j]?.getD [] := ⟨_, rfl⟩
                  rw [← hx] at a0
                  have HN : Hid ((d.ve.take (j + 1)).flatMap fVe = (d.ve.take j).flatMap fVe ++ [.string (bs x), .bool false, .slice none 0 0]) := Lib.hid (by rw [flat_next (by have he : d.ve.length = n4 := HR.out.1; omega), ← hx]; rfl)
                  clear hx
                  obtain ⟨i0, hi, hz0, hsz, hby⟩ := inf_parts Tryd.inf_verb15
                  have HI := Lib.hid hi
                  have HZI := Lib.hid hz0
                  have HSZ := Lib.hid hsz
                  have HBY := Lib.hid hby
                  clear hi hz0 hsz hby
                  go_wp2_with (at_builtin; refine wpList_appV _ rfl _ _ 35 rfl W3.heap.size 77 i0 _ 3 48 Tryd.underlying35 HI.out HZI.out rfl HSZ.out HBY.out (by omega) _ j _ rfl (HO.out.alloc _) _ _ 1 _ [.string (bs x), .bool false, .slice none 0 0] rfl (RdV.one (Blk.new wr 77 (List.toArray [.string (bs x), .bool false, .slice none 0 0])) rfl) (by simp [Value.oneCell']) (by omega) (by omega) (by rw [show (wr.alloc _).heap.size = wr.heap.size + 1 from by simp]; have := HG.out.size; omega) ?_; intro A9 c9 w9 hown9 hg9; have HO9 := Lib.hid hown9; have HG9 := Lib.hid (gb_app HG.out hg9 (own_from HO.out)); have HS9 := Lib.hid ((HS.out.alloc _).grown hg9 (fun e => by have := own_from HO.out _ e.symm; have := HL2.out; omega)); have z1 : w9.cell? ⟨w.heap.size + 1 + 1, 9, none⟩ = some (.slice B3 j e3) := HS9.out.cell 9; have z2 : w9.frozen? ⟨w.heap.size + 1 + 1, 9, none⟩ = false := HS9.out.frozen 9; clear hown9 hg9)
                  go_roundw
                  case rel => exact ⟨j + 1, c9, A9, by omega, by go_num, Lib.hid (HS9.out.set_ 9 _), Lib.hid (by rw [HN.out]; exact own_far HO9.out (gb_set (gb_below (Below.refl _ _) _) _ _) HL2.out), Lib.hid (gb_set HG9.out _ _)⟩
                  case measure => simp [intOf]; omega
                · obtain rfl : n4 = j := by omega
                  have HT : Hid (wr.ownsRow W3.heap.size 77 3 (.slice B3 n4 e3) n4 (d.ve.flatMap fVe)) := Lib.hid (by have := HO.out; rw [List.take_of_length_le (by have he : d.ve.length = _ := (H.out.ve).1; rw [he]; exact Nat.le_refl _)] at this; exact this)
                  obtain ⟨W4, hWn⟩ : ∃ V0, V0 = wr := ⟨_, rfl⟩
                  subst hWn
                  have HB4 : Hid (Below w.heap.size w W4) := HBr
                  have HS4 := HS
                  have HZ4 : Hid (W0.heap.size ≤ W4.heap.size) := Lib.hid (Nat.le_trans HZ3.out HG.out.size)
                  have HD4 : Hid (Blk W4 w.heap.size 24 #[.slice A0 n0 c0, .slice A1 n1 c1, .slice A2 n2 c2, .slice A3 n3 c3, .slice A4 n4 c4, .slice A5 n5 c5, .slice A6 n6 c6]) := Lib.hid (HD3.out.grown HG.out (some_ne (by omega)))
                  have HR4 : Hid (Blk W4 (w.heap.size + 1) 39 #[.string ⟨#[]⟩, .string ⟨#[]⟩, .string ⟨#[]⟩, .int .i64 0, .int .i64 0, .slice none 0 0, .slice none 0 0, .slice none 0 0, .slice none 0 0, .slice none 0 0, .slice none 0 0, .slice none 0 0, .slice none 0 0]) := Lib.hid (HR3.out.grown HG.out (some_ne (by omega)))
                  have HO3_4 := Lib.hid (own_base HT.out HZ3.out)
                  have HO0_4 := Lib.hid (own_far HO0_3.out HG.out (by have := HZZ.out; omega))
                  have HO1_4 := Lib.hid (own_far HO1_3.out HG.out (by have := HZZ.out; omega))
                  have HO2_4 := Lib.hid (own_far HO2_3.out HG.out (by have := HZZ.out; omega))
                  have d5 : W4.cell? ⟨w.heap.size, 5, none⟩ = some (.slice A5 n5 c5) := HD4.out.cell 5
                  clear HS HO HT HG fld HBr HL2 HD3 HR3 HB3 HS3
                  go_wp2_with fail
                  go_loopw [83] (fun vi wr => ∃ (j c : Nat) (A : Option Addr), j ≤ n5 ∧ vi = .int .i64 j ∧ Hid (Blk wr (w.heap.size + 1 + 1) 39 #[.string ⟨#[]⟩, .string ⟨#[]⟩, .string ⟨#[]⟩, .int .i64 0, .int .i64 0, .slice A0 n0 c0, .slice B0 n1 e0, .slice B1 n2 e1, .slice B2 n3 e2, .slice B3 n4 e3, .slice none 0 0, .slice A j c, .slice none 0 0]) ∧ Hid (wr.ownsRow W4.heap.size 80 3 (.slice A j c) j ((d.fu.take j).flatMap fFu)) ∧ Hid (W4.grownBy wr (some (w.heap.size + 1 + 1)))) (fun vi _ => n5 - (intOf vi).toNat)
                  case atStart => exact ⟨0, 0, none, Nat.zero_le _, rfl, HS4, Lib.hid (own_nilV _ _ _ _), Lib.hid (gb_below (Below.refl _ _) _)⟩
                  case round =>
                    obtain ⟨j, e4, B4, hj, rfl, HS, HO, HG⟩ := hrel
                    have HBr : Hid (Below w.heap.size w wr) := Lib.hid (HB4.out.grown HG.out HB4.out.size (fun k hk => by injection hk with hk; omega))
                    have fld : wr.cell? ⟨w.heap.size + 1 + 1, 11, none⟩ = some (.slice B4 j e4) := HS.out.cell 11
                    have HL2 : Hid (w.heap.size + 1 + 1 < W4.heap.size) := Lib.hid HS4.out.lt
                    by_cases hlt : j < n5
                    · have HR := Lib.hid ((H.out.below HBr.out).fu)
                      obtain ⟨ad, hA, hadb, a0⟩ : ∃ ad : Addr, A5 = some ad ∧ ad.block < w.heap.size ∧ wr.cell? (ad.add j) = some (.string (bs (d.fu[j]?.getD []))) := by
                        obtain ⟨ad, e, hb, hc⟩ := HR.out.2 (show 0 < n5 by omega)
                        exact ⟨ad, e, hb, hc j (by have he : d.fu.length = n5 := HR.out.1; omega)⟩
                      subst hA
                      obtain ⟨x, hx⟩ : ∃ t, t = d.fu[j]?.getD [] := ⟨_, rfl⟩
                      rw [← hx] at a0
                      have HN : Hid ((d.fu.take (j + 1)).flatMap fFu = (d.fu.take j).flatMap fFu ++ [.string (bs x), .slice none 0 0, .slice none 0 0]) := Lib.hid (by rw [flat_next (by have he : d.fu.length = n5 := HR.out.1; omega), ← hx]; rfl)
                      clear hx
                      obtain ⟨i0, hi, hz0, hsz, hby⟩ := inf_parts Tryd.inf_func15
                      have HI := Lib.hid hi
                      have HZI := Lib.hid hz0
                      have HSZ := Lib.hid hsz
                      have HBY := Lib.hid hby
                      clear hi hz0 hsz hby
                      go_wp2_with (at_builtin; refine wpList_appV _ rfl _ _ 37 rfl W4.heap.size 80 i0 _ 3 64 Tryd.underlying37 HI.out HZI.out rfl HSZ.out HBY.out (by omega) _ j _ rfl (HO.out.alloc _) _ _ 1 _ [.string (bs x), .slice none 0 0, .slice none 0 0] rfl (RdV.one (Blk.new wr 80 (List.toArray [.string (bs x), .slice none 0 0, .slice none 0 0])) rfl) (by simp [Value.oneCell']) (by omega) (by omega) (by rw [show (wr.alloc _).heap.size = wr.heap.size + 1 from by simp]; have := HG.out.size; omega) ?_; intro A9 c9 w9 hown9 hg9; have HO9 := Lib.hid hown9; have HG9 := Lib.hid (gb_app HG.out hg9 (own_from HO.out)); have HS9 := Lib.hid ((HS.out.alloc _).grown hg9 (fun e => by have := own_from HO.out _ e.symm; have := HL2.out; omega)); have z1 : w9.cell? ⟨w.heap.size + 1 + 1, 11, none⟩ = some (.slice B4 j e4) := HS9.out.cell 11; have z2 : w9.frozen? ⟨w.heap.size + 1 + 1, 11, none⟩ = false := HS9.out.frozen 11; clear hown9 hg9)
                      go_roundw
                      case rel => exact ⟨j + 1, c9, A9, by omega, by go_num, Lib.hid (HS9.out.set_ 11 _), Lib.hid (by rw [HN.out]; exact own_far HO9.out (gb_set (gb_below (Below.refl _ _) _) _ _) HL2.out), Lib.hid (gb_set HG9.out _ _)⟩
                      case measure => simp [intOf]; omega
                    · obtain rfl : n5 = j := by omega
                      have HT : Hid (wr.ownsRow W4.heap.size 80 3 (.slice B4 n5 e4) n5 (d.fu.flatMap fFu)) := Lib.hid (by have := HO.out; rw [List.take_of_length_le (by have he : d.fu.length = _ := (H.out.fu).1; rw [he]; exact Nat.le_refl _)] at this; exact this)
                      obtain ⟨W5, hWn⟩ : ∃ V0, V0 = wr := ⟨_, rfl⟩
                      subst hWn
                      have HB5 : Hid (Below w.heap.size w W5) := HBr
                      have HS5 := HS
                      have HZ5 : Hid (W0.heap.size ≤ W5.heap.size) := Lib.hid (Nat.le_trans HZ4.out HG.out.size)
                      have HD5 : Hid (Blk W5 w.heap.size 24 #[.slice A0 n0 c0, .slice A1 n1 c1, .slice A2 n2 c2, .slice A3 n3 c3, .slice A4 n4 c4, .slice A5 n5 c5, .slice A6 n6 c6]) := Lib.hid (HD4.out.grown HG.out (some_ne (by omega)))
                      have HR5 : Hid (Blk W5 (w.heap.size + 1) 39 #[.string ⟨#[]⟩, .string ⟨#[]⟩, .string ⟨#[]⟩, .int .i64 0, .int .i64 0, .slice none 0 0, .slice none 0 0, .slice none 0 0, .slice none 0 0, .slice none 0 0, .slice none 0 0, .slice none 0 0, .slice none 0 0]) := Lib.hid (HR4.out.grown HG.out (some_ne (by omega)))
                      have HO4_5 := Lib.hid (own_base HT.out HZ4.out)
                      have HO0_5 := Lib.hid (own_far HO0_4.out HG.out (by have := HZZ.out; omega))
                      have HO1_5 := Lib.hid (own_far HO1_4.out HG.out (by have := HZZ.out; omega))
                      have HO2_5 := Lib.hid (own_far HO2_4.out HG.out (by have := HZZ.out; omega))
                      have HO3_5 := Lib.hid (own_far HO3_4.out HG.out (by have := HZZ.out; omega))
                      have d6 : W5.cell? ⟨w.heap.size, 6, none⟩ = some (.slice A6 n6 c6) := HD5.out.cell 6
                      clear HS HO HT HG fld HBr HL2 HD4 HR4 HB4 HS4
                      go_wp2_with fail
                      go_loopw [98] (fun vi wr => ∃ (j c : Nat) (A : Option Addr), j ≤ n6 ∧ vi = .int .i64 j ∧ Hid (Blk wr (w.heap.size + 1 + 1) 39 #[.string ⟨#[]⟩, .string ⟨#[]⟩, .string ⟨#[]⟩, .int .i64 0, .int .i64 0, .slice A0 n0 c0, .slice B0 n1 e0, .slice B1 n2 e1, .slice B2 n3 e2, .slice B3 n4 e3, .slice none 0 0, .slice B4 n5 e4, .slice A j c]) ∧ Hid (wr.ownsRow W5.heap.size 80 3 (.slice A j c) j ((d.da.take j).flatMap fFu)) ∧ Hid (W5.grownBy wr (some (w.heap.size + 1 + 1)))) (fun vi _ => n6 - (intOf vi).toNat)
                      case atStart => exact ⟨0, 0, none, Nat.zero_le _, rfl, HS5, Lib.hid (own_nilV _ _ _ _), Lib.hid (gb_below (Below.refl _ _) _)⟩
                      case round =>
                        obtain ⟨j, e5, B5, hj, rfl, HS, HO, HG⟩ := hrel
                        have HBr : Hid (Below w.heap.size w wr) := Lib.hid (HB5.out.grown HG.out HB5.out.size (fun k hk => by injection hk with hk; omega))
                        have fld : wr.cell? ⟨w.heap.size + 1 + 1, 12, none⟩ = some (.slice B5 j e5) := HS.out.cell 12
                        have HL2 : Hid (w.heap.size + 1 + 1 < W5.heap.size) := Lib.hid HS5.out.lt
                        by_cases hlt : j < n6
                        · have HR := Lib.hid ((H.out.below HBr.out).da)
                          obtain ⟨ad, hA, hadb, a0⟩ : ∃ ad : Addr, A6 = some ad ∧ ad.block < w.heap.size ∧ wr.cell? (ad.add j) = some (.string (bs (d.da[j]?.getD []))) := by
                            obtain ⟨ad, e, hb, hc⟩ := HR.out.2 (show 0 < n6 by omega)
                            exact ⟨ad, e, hb, hc j (by have he : d.da.length = n6 := HR.out.1; omega)⟩
                          subst hA
                          obtain ⟨x, hx⟩ : ∃ t, t = d.da[j]?.getD [] := ⟨_, rfl⟩
                          rw [← hx] at a0
                          have HN : Hid ((d.da.take (j + 1)).flatMap fFu = (d.da.take j).flatMap fFu ++ [.string (bs x), .slice none 0 0, .slice none 0 0]) := Lib.hid (by rw [flat_next (by have he : d.da.length = n6 := HR.out.1; omega), ← hx]; rfl)
                          clear hx
                          obtain ⟨i0, hi, hz0, hsz, hby⟩ := inf_parts Tryd.inf_func15
                          have HI := Lib.hid hi
                          have HZI := Lib.hid hz0
                          have HSZ := Lib.hid hsz
                          have HBY := Lib.hid hby
                          clear hi hz0 hsz hby
                          go_wp2_with (at_builtin; refine wpList_appV _ rfl _ _ 37 rfl W5.heap.size 80 i0 _ 3 64 Tryd.underlying37 HI.out HZI.out rfl HSZ.out HBY.out (by omega) _ j _ rfl (HO.out.alloc _) _ _ 1 _ [.string (bs x), .slice none 0 0, .slice none 0 0] rfl (RdV.one (Blk.new wr 80 (List.toArray [.string (bs x), .slice none 0 0, .slice none 0 0])) rfl) (by simp [Value.oneCell']) (by omega) (by omega) (by rw [show (wr.alloc _).heap.size = wr.heap.size + 1 from by simp]; have := HG.out.size; omega) ?_; intro A9 c9 w9 hown9 hg9; have HO9 := Lib.hid hown9; have HG9 := Lib.hid (gb_app HG.out hg9 (own_from HO.out)); have HS9 := Lib.hid ((HS.out.alloc _).grown hg9 (fun e => by have := own_from HO.out _ e.symm; have := HL2.out; omega)); have z1 : w9.cell? ⟨w.heap.size + 1 + 1, 12, none⟩ = some (.slice B5 j e5) := HS9.out.cell 12; have z2 : w9.frozen? ⟨w.heap.size + 1 + 1, 12, none⟩ = false := HS9.out.frozen 12; clear hown9 hg9)
                          go_roundw
                          case rel => exact ⟨j + 1, c9, A9, by omega, by go_num, Lib.hid (HS9.out.set_ 12 _), Lib.hid (by rw [HN.out]; exact own_far HO9.out (gb_set (gb_below (Below.refl _ _) _) _ _) HL2.out), Lib.hid (gb_set HG9.out _ _)⟩
                          case measure => simp [intOf]; omega
                        · obtain rfl : n6 = j := by omega
                          have HT : Hid (wr.ownsRow W5.heap.size 80 3 (.slice B5 n6 e5) n6 (d.da.flatMap fFu)) := Lib.hid (by have := HO.out; rw [List.take_of_length_le (by have he : d.da.length = _ := (H.out.da).1; rw [he]; exact Nat.le_refl _)] at this; exact this)
                          obtain ⟨W6, hWn⟩ : ∃ V0, V0 = wr := ⟨_, rfl⟩
                          subst hWn
                          have HB6 : Hid (Below w.heap.size w W6) := HBr
                          have HS6 := HS
                          have HZ6 : Hid (W0.heap.size ≤ W6.heap.size) := Lib.hid (Nat.le_trans HZ5.out HG.out.size)
                          have HD6 : Hid (Blk W6 w.heap.size 24 #[.slice A0 n0 c0, .slice A1 n1 c1, .slice A2 n2 c2, .slice A3 n3 c3, .slice A4 n4 c4, .slice A5 n5 c5, .slice A6 n6 c6]) := Lib.hid (HD5.out.grown HG.out (some_ne (by omega)))
                          have HR6 : Hid (Blk W6 (w.heap.size + 1) 39 #[.string ⟨#[]⟩, .string ⟨#[]⟩, .string ⟨#[]⟩, .int .i64 0, .int .i64 0, .slice none 0 0, .slice none 0 0, .slice none 0 0, .slice none 0 0, .slice none 0 0, .slice none 0 0, .slice none 0 0, .slice none 0 0]) := Lib.hid (HR5.out.grown HG.out (some_ne (by omega)))
                          have HO5_6 := Lib.hid (own_base HT.out HZ5.out)
                          have HO0_6 := Lib.hid (own_far HO0_5.out HG.out (by have := HZZ.out; omega))
                          have HO1_6 := Lib.hid (own_far HO1_5.out HG.out (by have := HZZ.out; omega))
                          have HO2_6 := Lib.hid (own_far HO2_5.out HG.out (by have := HZZ.out; omega))
                          have HO3_6 := Lib.hid (own_far HO3_5.out HG.out (by have := HZZ.out; omega))
                          have HO4_6 := Lib.hid (own_far HO4_5.out HG.out (by have := HZZ.out; omega))
                          go_wp2_with (first | (refine wpList_load_row rfl 39 _ rfl (w.heap.size + 1 + 1) rfl 39 #[.string ⟨#[]⟩, .string ⟨#[]⟩, .string ⟨#[]⟩, .int .i64 0, .int .i64 0, .slice A0 n0 c0, .slice B0 n1 e0, .slice B1 n2 e1, .slice B2 n3 e2, .slice B3 n4 e3, .slice none 0 0, .slice B4 n5 e4, .slice B5 n6 e5] (0, 0) _ HS6.out Tryd.underlying39 rfl src_size ?_) | (refine wpList_store_row rfl 39 _ _ rfl (w.heap.size + 1) #[.string ⟨#[]⟩, .string ⟨#[]⟩, .string ⟨#[]⟩, .int .i64 0, .int .i64 0, .slice A0 n0 c0, .slice B0 n1 e0, .slice B1 n2 e1, .slice B2 n3 e2, .slice B3 n4 e3, .slice none 0 0, .slice B4 n5 e4, .slice B5 n6 e5] rfl rfl _ _ HR6.out src_size rfl (by simp [Value.oneCell']) ?_))
                          (try simp only [Exit.inBlock, Exit.then]); refine bodyPost_ret (results_cell_row rfl _ _ _ _ _ _ _ rfl (setRow_heap _ _ _ _ _ _ HR6.out) Tryd.underlying39 rfl (by kernel_rfl)) rfl ?_
                          refine ⟨⟨⟨#[]⟩, ⟨#[]⟩, ⟨#[]⟩, 0, 0, A0, n0, c0, B0, n1, e0, B1, n2, e1, B2, n3, e2, B3, n4, e3, none, 0, 0, B4, n5, e4, B5, n6, e5⟩, rfl, ?_, below_setRow HB6.out (Nat.le_succ _) _⟩
                          have hsz : ∀ cs, (W6.setRow (w.heap.size + 1) cs).heap.size = W6.heap.size := fun cs => size_setRow _ _ _
                          have h0 := (H.out.below (below_setRow (g := w.heap.size + 1) HB6.out (Nat.le_succ _) #[.string ⟨#[]⟩, .string ⟨#[]⟩, .string ⟨#[]⟩, .int .i64 0, .int .i64 0, .slice A0 n0 c0, .slice B0 n1 e0, .slice B1 n2 e1, .slice B2 n3 e2, .slice B3 n4 e3, .slice none 0 0, .slice B4 n5 e4, .slice B5 n6 e5])).fl
                          exact ⟨RdX.of_rdS (h0.more (by rw [hsz]; exact HB6.out.size)), RdX.of_own (fun _ => ⟨rfl, rfl⟩) (H.out.pr).1 (own_setRow9 HO0_6.out (by have := HZZ.out; omega) _), RdX.of_own (fun _ => ⟨rfl, rfl⟩) (H.out.gl).1 (own_setRow9 HO1_6.out (by have := HZZ.out; omega) _), RdX.of_own (fun _ => ⟨rfl, rfl⟩) (H.out.ob).1 (own_setRow9 HO2_6.out (by have := HZZ.out; omega) _), RdX.of_own (fun _ => ⟨rfl, rfl⟩) (H.out.ve).1 (own_setRow9 HO3_6.out (by have := HZZ.out; omega) _), RdX.of_own (fun _ => ⟨rfl, rfl⟩) (H.out.fu).1 (own_setRow9 HO4_6.out (by have := HZZ.out; omega) _), RdX.of_own (fun _ => ⟨rfl, rfl⟩) (H.out.da).1 (own_setRow9 HO5_6.out (by have := HZZ.out; omega) _)⟩

end Go.Proofs.YtgeglhgkibcpfaaDoor
