/- Contract of the reference's text. -/
import Derived.Test.YtgeglhgkibcpfaaDoorLexB
namespace Go.Proofs.YtgeglhgkibcpfaaDoor
open Go.RowKit

theorem results_tmp4 {fn : Func} {t u v x : Tmp} (h : fn.results = #[.tmp t, .tmp u, .tmp v, .tmp x]) (tmps : Array Value) (P : Program) (w : World) :
    (results fn tmps).run P w = .ok (.tuple #[tmps.getD t undef, tmps.getD u undef, tmps.getD v undef, tmps.getD x undef]) w := by
  simp [results, h]

/-- what text hands back, out of what its bytes come to -/
def txV (T : List UInt8 × Nat × Int × Nat) (i : Nat) : Value := .tuple #[.string (bs T.1), .int .i64 ((if T.2.2.1 = 0 then i + T.2.1 else 0 : Nat) : Int), .int .i64 T.2.2.1, .int .i64 ((if T.2.2.1 = 0 then 0 else i + T.2.2.2 : Nat) : Int)]

theorem txV_bad {T : List UInt8 × Nat × Int × Nat} {i k : Nat} {e : Int} (h : T = ([], 0, e, k)) (he : e ≠ 0) : Value.tuple #[.string (bs []), .int .i64 0, .int .i64 e, .int .i64 ((i + k : Nat) : Int)] = txV T i := by
  unfold txV
  rw [h]
  simp only [if_neg he]
  rfl

theorem txV_ok {T : List UInt8 × Nat × Int × Nat} {i n : Nat} {t : List UInt8} (h : T = (t, n, 0, 0)) : Value.tuple #[.string (bs t), .int .i64 ((i + n : Nat) : Int), .int .i64 0, .int .i64 0] = txV T i := by
  unfold txV
  rw [h]
  rfl

end Go.Proofs.YtgeglhgkibcpfaaDoor
