/- A book's tables: fifteen cells, what is read of them. No function of the program is named here. -/
import Derived.Test.YtdmpadonnobeaaaTreP
import Derived.Test.YtdmpadonnobeaaaIntS
namespace Go.Proofs.Ytdmpadonnobeaaa
open Go.RowKit

/-- the tables' cells, and what Funcs and Params hold -/
structure TV where
  (t1 t2 t3 t4 : Int)
  (S1 : Option Addr)
  (m1 k1 : Nat)
  (fl : Int)
  (S2 : Option Addr)
  (m2 k2 : Nat)
  (S3 : Option Addr)
  (m3 k3 : Nat)
  (S4 : Option Addr)
  (m4 k4 : Nat)
  (S5 : Option Addr)
  (m5 k5 : Nat)
  (S6 : Option Addr)
  (m6 k6 : Nat)
  (S7 : Option Addr)
  (m7 k7 : Nat)
  (S8 : Option Addr)
  (m8 k8 : Nat)
  (S9 : Option Addr)
  (m9 k9 : Nat)
  (S10 : Option Addr)
  (m10 k10 : Nat)
  (fs ps : List Int)

def TV.cells (T : TV) : Array Value := #[.int .i64 T.t1, .int .i64 T.t2, .int .i64 T.t3, .int .i64 T.t4, .slice T.S1 T.m1 T.k1, .int .i64 T.fl, .slice T.S2 T.m2 T.k2, .slice T.S3 T.m3 T.k3, .slice T.S4 T.m4 T.k4, .slice T.S5 T.m5 T.k5, .slice T.S6 T.m6 T.k6, .slice T.S7 T.m7 T.k7, .slice T.S8 T.m8 T.k8, .slice T.S9 T.m9 T.k9, .slice T.S10 T.m10 T.k10]
def TV.val (T : TV) : Value := .agg T.cells
def TV.tb (T : TV) : TB := ⟨T.m1, T.fl, T.m2, T.m3, T.m8, T.fs, T.ps⟩
def TV.In (T : TV) (w : World) (B : Nat) : Prop := ((T.m1 : Int) ≤ 9223372036854775807 ∧ (T.m2 : Int) ≤ 9223372036854775807 ∧ (T.m3 : Int) ≤ 9223372036854775807 ∧ (T.m7 : Int) ≤ 9223372036854775807 ∧ (T.m8 : Int) ≤ 9223372036854775807 ∧ (T.m9 : Int) ≤ 9223372036854775807) ∧ RdI w B T.S7 T.m7 T.fs ∧ RdI w B T.S9 T.m9 T.ps
theorem TV.In.below {T : TV} {w w' : World} {B : Nat} (h : T.In w B) (hb : Below B w w') : T.In w' B := ⟨h.1, h.2.1.below hb, h.2.2.below hb⟩
theorem TV.In.more {T : TV} {w : World} {B B' : Nat} (h : T.In w B) (hB : B ≤ B') : T.In w B' := ⟨h.1, h.2.1.more hB, h.2.2.more hB⟩

theorem getD_of {zs : List Int} {j : Nat} : zs.getD j 0 = zs[j]?.getD 0 := by rw [List.getD_eq_getElem?_getD]

end Go.Proofs.Ytdmpadonnobeaaa
