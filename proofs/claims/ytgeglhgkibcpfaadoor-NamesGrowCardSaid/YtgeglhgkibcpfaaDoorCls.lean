/- Function values that tell a class of bytes: what a call of one does; the contracts of within, inner, begins, run, fits. -/
import Derived.Test.YtgeglhgkibcpfaaDoorRows
import Derived.Test.YtgeglhgkibcpfaaDoorBlk
import Derived.Test.YtgeglhgkibcpfaaDoorLetP
import Derived.Test.YtgeglhgkibcpfaaDoorEnt
namespace Go.Proofs.YtgeglhgkibcpfaaDoor
open Go.RowKit

/-- Function k, with what it has captured (cs), tells the class p of bytes: in each world that is below block B as w. -/
def Cls (w : World) (B : Nat) (k : FuncId) (cs : Array Value) (p : UInt8 → Bool) : Prop :=
  Enters k ∧ ∀ (w' : World), Below B w w' → ∀ (c : UInt8), Calls Tryd.prog k (#[.int .u8 (c.toNat : Int)] ++ cs) w' fun e w'' => e = .returned (.bool (p c)) ∧ Below w'.heap.size w' w''

theorem Cls.below {w w1 : World} {B : Nat} {k : FuncId} {cs : Array Value} {p : UInt8 → Bool} (h : Cls w B k cs p) (hb : Below B w w1) : Cls w1 B k cs p :=
  ⟨h.1, fun w' h' c => h.2 w' (hb.trans h') c⟩

theorem Cls.more {w : World} {B B' : Nat} {k : FuncId} {cs : Array Value} {p : UInt8 → Bool} (h : Cls w B k cs p) (hB : B ≤ B') : Cls w B' k cs p :=
  ⟨h.1, fun w' h' c => h.2 w' (h'.mono hB) c⟩

theorem enters43 : Enters 57 := ⟨_, Tryd.func57, by kernel_rfl, by kernel_rfl⟩

theorem byte_at (s : ByteArray) (j : Nat) (h : j < s.size) : s.data.toList[j]?.getD 0 = s[j] := by
  have e : s.data.toList[j]? = some s[j] := by
    rw [Array.getElem?_toList, Array.getElem?_eq_getElem (by exact h)]; rfl
  rw [e]; rfl

theorem run_stop (s : ByteArray) (p : UInt8 → Bool) (j : Nat) (hj : j < s.size) (ha : ∀ m, m < j → p (s.data.toList[m]?.getD 0) = true) (hp : p s[j] = false) : runL p s.data.toList = j := by
  have hl : s.data.toList.length = s.size := by rw [Array.length_toList]; rfl
  refine runL_stop p _ j (by omega) (fun m hm => ?_) ?_
  · have e := ha m hm
    rw [List.getElem?_eq_getElem (by omega)] at e
    exact e
  · rw [← hp, ← byte_at s j hj, List.getElem?_eq_getElem (by omega)]
    rfl

theorem run_end (s : ByteArray) (p : UInt8 → Bool) (ha : ∀ m, m < s.size → p (s.data.toList[m]?.getD 0) = true) : runL p s.data.toList = s.size := by
  have hl : s.data.toList.length = s.size := by rw [Array.length_toList]; rfl
  rw [← hl]
  refine runL_end p _ (fun m hm => ?_)
  have e := ha m (by omega)
  rw [List.getElem?_eq_getElem hm] at e
  exact e

set_option maxRecDepth 100000 in
set_option maxHeartbeats 800000 in
theorem run_any (w : World) (B : Nat) (k : FuncId) (cs : Array Value) (p : UInt8 → Bool) (s : ByteArray) (h : Cls w B k cs p) (hB : B ≤ w.heap.size) (hs : (s.size : Int) ≤ 9223372036854775807) :
    Calls Tryd.prog 58 #[.string s, .func (.func k) #[] cs] w fun e w' => e = .returned (.int .i64 (runL p s.data.toList : Int)) ∧ Below w.heap.size w w' := by
  have H := Lib.hid h
  have hk := h.1.run
  clear h
  go_enter Tryd.func58, Tryd.ntmps58
  go_wp2_with fail
  go_loopw [8] (fun i wr => ∃ j : Nat, j ≤ s.size ∧ i = .int .i64 j ∧ Below w.heap.size w wr ∧ Hid (∀ m, m < j → p (s.data.toList[m]?.getD 0) = true)) (fun i _ => s.size - (intOf i).toNat)
  case atStart => exact ⟨0, Nat.zero_le _, rfl, Below.refl _ _, Lib.hid (fun m hm => absurd hm (by omega))⟩
  case round =>
    obtain ⟨j, hj, rfl, hb, hall⟩ := hrel
    by_cases hlt : j < s.size
    · go_wp2_with fail
      refine (H.out.2 wr (hb.mono hB) s[j]).mono ?_
      rintro e w2 ⟨rfl, hb2⟩
      have hb3 := hb.trans (hb2.mono hb.size)
      clear hb2
      by_cases hp : p s[j] = true
      · go_wp2_with fail
        go_roundw
        case rel =>
          refine ⟨j + 1, by omega, by go_num, hb3, Lib.hid (fun m hm => ?_)⟩
          by_cases e : m = j
          · subst e; rw [byte_at s m hlt]; exact hp
          · exact hall.out m (by omega)
        case measure => simp [intOf]; omega
      · rw [Bool.not_eq_true] at hp
        go_wp2_with fail
        go_ret
        exact ⟨ret_int (by rw [run_stop s p j hlt hall.out hp]), hb3⟩
    · go_wp2_with fail
      go_ret
      exact ⟨ret_int (by rw [run_end s p fun m hm => hall.out m (by omega)]), hb⟩

/-- the bytes from lo to hi -/
def inB (lo hi : Int) (c : UInt8) : Bool := decide (lo ≤ (c.toNat : Int)) && decide ((c.toNat : Int) ≤ hi)

set_option maxRecDepth 100000 in
set_option maxHeartbeats 800000 in
theorem within1_any (w : World) (c lo hi : Int) (g g' : Nat) (h1 : w.cell? ⟨g, 0, none⟩ = some (.int .u8 lo)) (h2 : w.cell? ⟨g', 0, none⟩ = some (.int .u8 hi)) :
    Calls Tryd.prog 57 #[.int .u8 c, .pointer (some ⟨g, 0, none⟩), .pointer (some ⟨g', 0, none⟩)] w fun e w' => e = .returned (.bool (decide (lo ≤ c) && decide (c ≤ hi))) ∧ w = w' := by
  by_cases a : lo ≤ c
  · by_cases b : c ≤ hi
    · go_enter Tryd.func57, Tryd.ntmps57
      go_wp2_with fail
      go_ret
      exact ⟨by simp; omega, rfl⟩
    · go_enter Tryd.func57, Tryd.ntmps57
      go_wp2_with fail
      go_ret
      exact ⟨by simp; omega, rfl⟩
  · go_enter Tryd.func57, Tryd.ntmps57
    go_wp2_with fail
    go_ret
    exact ⟨by simp; omega, rfl⟩

/-- what within hands back, its function told by name -/
def WithinOut (lo hi : Int) (w : World) (e : Ending) (w' : World) : Prop :=
  ∃ g g' : Nat, e = .returned (.func (.func 57) #[] #[.pointer (some ⟨g, 0, none⟩), .pointer (some ⟨g', 0, none⟩)]) ∧ Below w.heap.size w w' ∧
    Cls w' w'.heap.size 57 #[.pointer (some ⟨g, 0, none⟩), .pointer (some ⟨g', 0, none⟩)] (inB lo hi)

set_option maxRecDepth 100000 in
set_option maxHeartbeats 800000 in
theorem within_any (w : World) (lo hi : Int) : Calls Tryd.prog 37 #[.int .u8 lo, .int .u8 hi] w (WithinOut lo hi w) := by
  have hmf : ∀ (fn : Fn) (first cap : Array Value) (w : World), (Instr.makeFunc fn first cap).run Tryd.prog w = .ok (.func fn first cap) w := fun _ _ _ _ => rfl
  go_enter Tryd.func37, Tryd.ntmps37
  go_wp2_with fail
  go_ret
  refine ⟨w.heap.size, w.heap.size + 1, rfl, ((Below.refl _ _).alloc (Nat.le_refl _) _).alloc (by simp) _, enters43, fun w' hb c => ?_⟩
  have b1 : Blk (w.alloc (.cells #[.int .u8 lo] 5)) w.heap.size 5 #[.int .u8 lo] := Blk.new _ _ _
  have b2 := Blk.new_at (w.alloc (.cells #[.int .u8 lo] 5)) 5 #[.int .u8 hi] (w.heap.size + 1) (by simp)
  have c1 := ((b1.alloc (.cells #[.int .u8 hi] 5)).below hb (by simp; omega)).cell 0
  have c2 := (b2.below hb (by simp)).cell 0
  exact (within1_any w' (c.toNat : Int) lo hi _ _ c1 c2).mono fun e w2 ⟨he, hw⟩ => ⟨he, by subst hw; exact Below.refl _ _⟩

end Go.Proofs.YtgeglhgkibcpfaaDoor
