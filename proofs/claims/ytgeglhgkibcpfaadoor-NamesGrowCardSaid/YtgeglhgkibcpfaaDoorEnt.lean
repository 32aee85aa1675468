/- A function value is entered when it is called. -/
import Derived.Test.YtgeglhgkibcpfaaDoorRows
import Derived.Test.YtgeglhgkibcpfaaDoorBase
namespace Go.Proofs.YtgeglhgkibcpfaaDoor
open Go.RowKit

/-- function k is entered when it is called -/
def Enters (k : FuncId) : Prop := ∃ fn, Tryd.prog.funcs[k]? = some fn ∧ (fn.name == "runtime.NumGoroutine") = false ∧ fn.body.isNone = false

theorem Enters.run {k : FuncId} (h : Enters k) (args : Array Value) (w : World) : (callFunc k args).run Tryd.prog w = .ok (.enter k args) w := by
  obtain ⟨fn, hf, hn, hb⟩ := h
  have hn2 : ¬ fn.name = "runtime.NumGoroutine" := by simpa using hn
  have hb2 : ¬ fn.body = none := by intro e; rw [e] at hb; cases hb
  simp [callFunc, hf, hn2, hb2]

end Go.Proofs.YtgeglhgkibcpfaaDoor
