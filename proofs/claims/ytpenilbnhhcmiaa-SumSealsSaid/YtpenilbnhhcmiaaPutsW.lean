/- Contracts of wire's exported functions that append, and of the reference's. -/
import Derived.Test.YtpenilbnhhcmiaaPuts
namespace Go.Proofs.Ytpenilbnhhcmiaa
open Go.RowKit

set_option maxRecDepth 100000 in
set_option maxHeartbeats 400000 in
theorem wLong_any (w : World) (B : Nat) (A : Option Addr) (n c : Nat) (l : List UInt8) (x : Int) (h : Rd w B A n l) (hB : B ≤ w.heap.size) (hl : l.length ≤ 1000000) (x0 : 0 ≤ x) (x1 : x ≤ 4294967295) :
    Calls Try.prog 22 #[.slice A n c, .int .u32 x] w (OutO w.heap.size w (l ++ beL 4 x)) := by
  have H := Lib.hid h
  clear h
  go_enter Try.func22, Try.ntmps22
  go_wp2_with (first
    | (go_at_call 27; refine (copied_any w B A n c l 4 4 rfl H.out hB hl (by omega)).mono ?_; rintro e w1 ⟨A1, n1, c1, rfl, ho1, hb1⟩; have H1 := Lib.hid ho1; clear ho1)
    | (go_at_call 26; refine (beU32_any w1 w.heap.size A1 n1 c1 l x 4 4 rfl H1.out hb1.size (by omega) (by omega) x0 x1).mono ?_; intro e w2 ho2; obtain ⟨A2, n2, c2, rfl, ho2, hb2⟩ := ho2; have H2 := Lib.hid ho2; clear ho2))
  go_ret
  exact ⟨A2, n2, c2, rfl, H2.out, hb1.trans hb2⟩

theorem bc_str (s : ByteArray) : Lib.strCells s = bc s.data.toList := rfl

end Go.Proofs.Ytpenilbnhhcmiaa
