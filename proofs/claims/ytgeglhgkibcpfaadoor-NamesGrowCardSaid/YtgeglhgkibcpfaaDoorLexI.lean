/- Contract of the reference's All: a source's tokens. -/
import Derived.Test.YtgeglhgkibcpfaaDoorLexB
import Derived.Test.YtgeglhgkibcpfaaDoorLexH
import Derived.Test.YtgeglhgkibcpfaaDoorInfo
namespace Go.Proofs.YtgeglhgkibcpfaaDoor
open Go.RowKit

theorem results_tc {P : Program} {fn : Func} {p u : Tmp} {ty : TypeId} (h : fn.results = #[.tmp u, .cell p ty]) (tmps : Array Value) (w : World) (g : Nat) (t : TypeId) (cs : Array Value) (fr : Nat × Nat) (d : TypeDesc)
    (hp : tmps.getD p undef = .pointer (some ⟨g, 0, none⟩)) (hg : w.heap[g]? = some (.cells cs t fr))
    (hu : P.underlying ty = some d) (hd : (match d with | .struct _ | .array _ _ => true | _ => false) = true) (hi : (P.info? ty).map (·.size) = some cs.size) :
    (results fn tmps).run P w = .ok (.tuple #[tmps.getD u undef, .agg cs]) w := by
  have hp' : tmps[p]?.getD undef = .pointer (some ⟨g, 0, none⟩) := by simpa using hp
  simp [results, h, hp', asAddr, run_loadVar_row w g t ty cs fr d hg hu hd hi]

theorem outT_err {base : Nat} {t : TypeId} {w w' : World} {R : List Tk × (Int × Int × Int)} {a b c : Int} (h : R = ([], (a, b, c))) (hb : Below base w w') : OutT base t w R (.returned (.tuple #[.slice none 0 0, .agg #[.int .i64 a, .int .i64 b, .int .i64 c]])) w' := by
  subst h
  exact ⟨none, 0, 0, rfl, ownT_nil _ _ _, hb⟩

theorem outT_ok {base : Nat} {t : TypeId} {w w' : World} {R : List Tk × (Int × Int × Int)} {ts : List Tk} {A : Option Addr} {n c : Nat} (h : R = (ts, (0, 0, 0))) (ho : w'.ownsRow base t 5 (.slice A n c) n (tkv ts)) (hb : Below base w w') : OutT base t w R (.returned (.tuple #[.slice A n c, .agg #[.int .i64 0, .int .i64 0, .int .i64 0]])) w' := by
  subst h
  exact ⟨A, n, c, rfl, ho, hb⟩

theorem own_setRow9 {w : World} {base g : Nat} {e : TypeId} {size n : Nat} {v : Value} {xs : List Value} (h : w.ownsRow base e size v n xs) (hg : g < base) (cs : Array Value) : (w.setRow g cs).ownsRow base e size v n xs :=
  h.kept (row := some g) ⟨rfl, rfl, rfl, by rw [size_setRow]; exact Nat.le_refl _, fun k _ hk => setRow_other w g k cs (fun e => hk (by rw [e]))⟩ (.inr fun e => by have := own_from h g e; omega)

end Go.Proofs.YtgeglhgkibcpfaaDoor
