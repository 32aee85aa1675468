/- Contract of chapter 2's examples, which every statement of the layer asks. -/
import Derived.Test.YtacklmfplpgkdaaSize
import Derived.Test.YtacklmfplpgkdaaPutsW
namespace Go.Proofs.Ytacklmfplpgkdaa
open Go.RowKit

theorem bytes_same (w : World) (B B' : Nat) (A A' : Option Addr) (n n' c c' : Nat) (l l' : List UInt8) (h : Rd w B A n l) (h' : Rd w B' A' n' l') (e : l = l') :
    Calls Try.prog 9 #[.slice A n c, .slice A' n' c'] w fun e w' => e = .returned (.bool true) ∧ w = w' := by
  refine (bytes_any w B B' A A' n n' c c' l l' h h').mono ?_
  rintro e' w' ⟨rfl, rfl⟩
  exact ⟨by rw [e]; simp, rfl⟩

theorem Rd.lit (w : World) (l : List UInt8) (t : TypeId) (cs : Array Value) (hcs : cs = (bc l).toArray) : Rd (w.alloc (.cells cs t)) (w.heap.size + 1) (some ⟨w.heap.size, 0, none⟩) l.length l := by
  subst hcs
  refine ⟨rfl, fun _ => ⟨_, rfl, Nat.lt_succ_self _, fun j hj => ?_⟩⟩
  rw [Addr.add_lit, Nat.zero_add, (Blk.new w t _).cell]
  simp [bc, hj]

set_option maxRecDepth 100000 in
set_option maxHeartbeats 1600000 in
theorem awake_any (w : World) : Calls Try.prog 8 #[] w fun e w' => e = .returned (.bool true) ∧ Below w.heap.size w w' := by
  have hT0 := tSize_any (w.alloc (.cells #[.int .u8 128, .int .u8 0] 5)) (w.heap.size + 1) (some ⟨w.heap.size, 0, none⟩) 2 2 [128, 0] 0 0 9 (Rd.lit w [128, 0] _ _ rfl) (by simp) (by omega) (by omega) (by omega) (by omega)
  rw [show sz [128, 0] 9 0 0 = (0, 0, 4) from by decide] at hT0
  have HT := Lib.hid hT0
  clear hT0
  go_enter Try.func8, Try.ntmps8
  go_wp2_with fail
  refine HT.out.mono ?_
  rintro e w1 ⟨rfl, hb1⟩
  have hs1 := hb1.size
  simp only [World.size_alloc] at hs1
  go_wp2_with fail
  refine (wSize_any _ 0 none 0 0 [] 300 (Rd.nil _ _) (Nat.zero_le _) (by simp) (by omega) (by omega)).mono ?_
  rintro e w3 ⟨A3, n3, c3, rfl, ho3, hb3⟩
  have hs3 := hb3.size
  simp only [World.size_alloc] at hs3
  have b3 := (Blk.new w1 37 _).below hb3 (by simp)
  have H3 := Lib.hid ho3
  clear ho3
  have BK3 := Lib.hid b3
  clear b3
  go_wp2_with fail
  refine (bytes_same _ _ _ _ _ _ _ _ _ _ _ ((Rd.of_own H3.out).alloc (Nat.le_refl _) _) (Rd.lit w3 [172, 2] _ _ rfl) (by rw [show (300 : Int).toNat = 300 from rfl, vr_ge (by omega), vr_lt (by omega)]; decide)).mono ?_
  rintro e w4 ⟨rfl, rfl⟩
  go_wp2_with fail
  refine (wWord_any _ 0 none 0 0 [] (-2) (Rd.nil _ _) (Nat.zero_le _) (by simp) (by omega) (by omega)).mono ?_
  rintro e w4 ⟨A4, n4, c4, rfl, ho4, hb4⟩
  have hs4 := hb4.size
  simp only [World.size_alloc] at hs4
  have b4 := (BK3.out.alloc _).below hb4 (by simp; omega)
  have H4 := Lib.hid ho4
  clear ho4
  have d2 := b4.cell 2
  simp only [List.getElem?_toArray, List.getElem?_cons_zero, List.getElem?_cons_succ] at d2
  have hlt := b4.lt
  go_wp2_with fail
  refine (bytes_same _ _ _ _ _ _ _ _ _ _ _ ((Rd.of_own H4.out).alloc (Nat.le_refl _) _) (Rd.lit w4 [255, 254] _ _ rfl) (by decide)).mono ?_
  rintro e w5 ⟨rfl, rfl⟩
  go_wp2_with fail
  go_ret
  refine ⟨rfl, ?_⟩
  have k1 : Below w.heap.size w w1 := ((Below.refl _ _).alloc (Nat.le_refl _) _).trans (hb1.mono (by simp))
  have k3 := (k1.alloc (by omega) _).trans (hb3.mono (by simp; omega))
  have k4 := (k3.alloc (by omega) _).trans (hb4.mono (by simp; omega))
  exact k4.alloc (by omega) _
end Go.Proofs.Ytacklmfplpgkdaa
