/- Contract of chapter 3's examples, which every statement of the layer asks. -/
import Derived.Test.YtpenilbnhhcmiaaOpen
import Derived.Deep.RegionWith
import Derived.Lib.SlBytesConst
namespace Go.Proofs.Ytpenilbnhhcmiaa
open Go.RowKit

theorem Rd.lit (w : World) (l : List UInt8) (t : TypeId) (cs : Array Value) (hcs : cs = (bc l).toArray) : Rd (w.alloc (.cells cs t)) (w.heap.size + 1) (some ⟨w.heap.size, 0, none⟩) l.length l := by
  subst hcs
  refine ⟨rfl, fun _ => ⟨_, rfl, Nat.lt_succ_self _, fun j hj => ?_⟩⟩
  rw [Addr.add_lit, Nat.zero_add, (Blk.new w t _).cell]
  simp [bc, hj]

theorem Rd.litF (w : World) (l : List UInt8) (t : TypeId) (cs : Array Value) (fr : Nat × Nat) (hcs : cs = (bc l).toArray) : Rd (w.alloc (.cells cs t fr)) (w.heap.size + 1) (some ⟨w.heap.size, 0, none⟩) l.length l := by
  subst hcs
  refine ⟨rfl, fun _ => ⟨_, rfl, Nat.lt_succ_self _, fun j hj => ?_⟩⟩
  rw [Addr.add_lit, Nat.zero_add, cell_of_row _ _ _ _ _ _ (heap_alloc_new w _)]
  simp [bc, hj]

theorem seal_nil : seal_ [] = [0, 0, 0, 0] := by
  unfold seal_
  rw [Crc.on_nil]
  decide

theorem toS {w : World} {B : Nat} {A : Option Addr} {n : Nat} {l : List UInt8} (h : Rd w B A n l) (c : Nat) : (convert 22 9 (.slice A n c)).run Try.prog w = .ok (.string ⟨l.toArray⟩) w :=
  h.toStr 22 9 5 c Try.underlying22 Try.underlying5 Try.underlying9

theorem lit4 (w : World) : (convert 22 9 (.slice (some ⟨w.heap.size, 0, none⟩) 4 4)).run Try.prog (w.alloc (.cells #[.int .u8 0, .int .u8 0, .int .u8 0, .int .u8 0] 5)) = .ok (.string ⟨#[0, 0, 0, 0]⟩) (w.alloc (.cells #[.int .u8 0, .int .u8 0, .int .u8 0, .int .u8 0] 5)) :=
  toS (Rd.lit w [0, 0, 0, 0] 5 _ rfl) 4

theorem lit4_below (w w' : World) (hb : Below (w.alloc (.cells #[.int .u8 0, .int .u8 0, .int .u8 0, .int .u8 0] 5)).heap.size (w.alloc (.cells #[.int .u8 0, .int .u8 0, .int .u8 0, .int .u8 0] 5)) w') : (convert 22 9 (.slice (some ⟨w.heap.size, 0, none⟩) 4 4)).run Try.prog w' = .ok (.string ⟨#[0, 0, 0, 0]⟩) w' :=
  toS ((Rd.lit w [0, 0, 0, 0] 5 _ rfl).below (hb.mono (by simp))) 4

set_option maxRecDepth 100000 in
set_option maxHeartbeats 8000000 in
theorem awake_any (w : World) : Calls Try.prog 9 #[] w fun e w' => e = .returned (.bool true) ∧ Below w.heap.size w w' := by
  have hT := sOpen_short (w.alloc (.cells #[.int .u8 1, .int .u8 2, .int .u8 3] 5)) (w.heap.size + 1) (some ⟨w.heap.size, 0, none⟩) 3 3 [1, 2, 3] (Rd.lit w [1, 2, 3] _ _ rfl) (by simp) (by omega) (by omega) (by omega)
  have HT := Lib.hid hT
  clear hT
  have hO := fun (W : World) (B : Nat) (A : Option Addr) (hR : Rd W B A 9 [49, 50, 51, 52, 53, 54, 55, 56, 57]) (hB : B ≤ W.heap.size) => sOf_any W B A 9 9 _ hR hB (by omega)
  rw [Crc.example_nine] at hO
  have HO := Lib.hid hO
  clear hO
  have hE := fun (W : World) => sSeal_any W 0 none 0 0 [] (Rd.nil _ _) (Nat.zero_le _) (by omega)
  rw [seal_nil] at hE
  have HE := Lib.hid hE
  clear hE
  have kd : ∀ (W : World) (C : Array Value) (n c : Nat), (convert 22 22 (.slice (some ⟨W.heap.size, 0, none⟩) n c)).run Try.prog ((W.alloc (.cells C 5)).drew) = .ok (.slice (some ⟨W.heap.size, 0, none⟩) n c) ((W.alloc (.cells C 5 (C.size, C.size + 1))).drew) :=
    fun W C n c => Lib.run_convert_bytes_const (P := Try.prog) W.drew 22 5 C n c Try.underlying22 Try.underlying5
  have kl := lit4
  go_enter Try.func9, Try.ntmps9
  go_wp2_with fail
  refine HT.out.mono ?_
  rintro e w1 ⟨A1, n1, c1, rfl, hr1, hb1⟩
  have hs1 := hb1.size
  simp only [World.size_alloc] at hs1
  clear hr1
  go_wp2_with fail
  go_region_with (first
    | (go_at_call 10; refine (HO.out _ (w1.heap.size + 1) _ (Rd.litF w1 [49, 50, 51, 52, 53, 54, 55, 56, 57] _ _ _ rfl).drew (by simp)).mono ?_; rintro e w2 ⟨rfl, hb2⟩)
    | (go_at_call 16; refine (HE.out _).mono ?_; rintro e w3 ⟨A3, n3, c3, rfl, ho3, hb3⟩; have k3 := toS (Rd.of_own ho3) c3; (try have k4 := lit4_below w2 w3 hb3); have k5 := toS ((Rd.of_own ho3).alloc (Nat.le_refl _) (.cells #[.int .u8 0, .int .u8 0, .int .u8 0, .int .u8 0] 5)) c3; have H3 := Lib.hid ho3; clear ho3))
  all_goals
    have j1 : Below w.heap.size w w1 := ((Below.refl _ _).alloc (Nat.le_refl _) _).trans (hb1.mono (by simp))
    have j2 : Below w.heap.size w w2 := ((j1.alloc j1.size _).drew).trans (hb2.mono (by have := j1.size; simp; omega))
    have j3 := j2.size
    have HB3 := Lib.hid hb3
    have J2 := Lib.hid j2
    clear hb1 hb2 hb3 j1 j2
    simp only [List.getElem_toArray, List.getElem_cons_succ, List.getElem_cons_zero]
    simp only [Act.put, List.setIfInBounds_toArray, List.set_cons_zero, List.set_cons_succ]
    go_wp2
    go_ret
    refine ⟨rfl, ?_⟩
    first
      | exact (J2.out.trans (HB3.out.mono j3)).alloc (J2.out.trans (HB3.out.mono j3)).size _
      | exact (J2.out.alloc j3 _).trans (HB3.out.mono (by simp; omega))

end Go.Proofs.Ytpenilbnhhcmiaa
