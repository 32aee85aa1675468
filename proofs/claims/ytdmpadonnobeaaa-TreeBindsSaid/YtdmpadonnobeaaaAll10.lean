/- The program's Right, RightBlock, Bound, BoundBlock in the reference's words. -/
import Derived.Test.YtdmpadonnobeaaaAwake10
import Derived.Test.YtdmpadonnobeaaaTrfQ
import Derived.Test.YtdmpadonnobeaaaTreR
import Derived.Test.YtdmpadonnobeaaaTreD
import Derived.Test.YtdmpadonnobeaaaTreF
import Derived.Test.YtdmpadonnobeaaaTreG
namespace Go.Proofs.Ytdmpadonnobeaaa
open Go.RowKit

theorem tRight_any (e : EL) (w : World) (hin : e.In w w.heap.size) : Calls Try.prog 11 #[eVal e] w fun f w' => f = .returned (.bool (rightB nmB e)) ∧ Below w.heap.size w w' := by
  have h := tRight_vE e w hin
  rw [vE_gen (ok := okE nmB) (R := rightE nmB) src_h1 src_h2 src_h3 32 e hin] at h
  exact h
theorem tRightBlock_any (ss : List SL) (A : Option Addr) (n c : Nat) (w : World) (hA : RowS6 w w.heap.size A n ss) (hAi : SL.Ins w w.heap.size ss) : Calls Try.prog 14 #[.slice A n c] w fun f w' => f = .returned (.bool (rightBs nmB ss)) ∧ Below w.heap.size w w' := by
  have h := tRightBlock_vB ss A n c w hA hAi
  rw [vB_gen (ok := okE nmB) (R := rightE nmB) (hd := headS nmB) (RS := rightS nmB) src_h1 src_h2 src_h3 (fun s h1 h2 h3 => by rw [src_h4 s h1 h2 h3]; rfl) (fun s => by rw [rightS_head]; unfold rightBl; rw [rightSs_all, rightSs_all]) 32 ss hAi, ← rightSs_all] at h
  exact h
theorem tBound_any (T : TV) (loc : Int) (hloc : loc ≤ 9223372036854775807) (e : EL) (w : World) (hT : T.In w w.heap.size) (hin : e.In w w.heap.size) : Calls Try.prog 16 #[T.val, eVal e, .int .i64 loc] w fun f w' => f = .returned (.bool (boundB T.tb loc e)) ∧ Below w.heap.size w w' := by
  have h := tBound_vE T loc hloc e w hT hin
  rw [vE_gen (ok := okB T.tb loc) (R := boundE T.tb loc) (bk_h1 _ _) (bk_h2 _ _) (bk_h3 _ _) 32 e hin] at h
  exact h
theorem tBoundBlock_any (T : TV) (loc : Int) (hloc : loc ≤ 9223372036854775807) (ss : List SL) (A : Option Addr) (n c : Nat) (w : World) (hT : T.In w w.heap.size) (hA : RowS6 w w.heap.size A n ss) (hAi : SL.Ins w w.heap.size ss) : Calls Try.prog 18 #[T.val, .slice A n c, .int .i64 loc] w fun f w' => f = .returned (.bool (boundBs T.tb loc ss)) ∧ Below w.heap.size w w' := by
  have h := tBoundBlock_vB T loc hloc ss A n c w hT hA hAi
  rw [vB_gen (ok := okB T.tb loc) (R := boundE T.tb loc) (hd := headBS T.tb loc) (RS := boundS T.tb loc) (bk_h1 _ _) (bk_h2 _ _) (bk_h3 _ _) (fun s h1 h2 h3 => by rw [bk_h4 _ _ s h1 h2 h3]; rfl) (fun s => by rw [boundS_head]; unfold boundBl; rw [boundSs_all, boundSs_all]) 32 ss hAi, ← boundSs_all] at h
  exact h

theorem size_tot : ∀ (q : Nat) (l : List SL), totSs l ≤ q → sizeSs l ≤ totSs l := by
  intro q
  induction q using Nat.strongRecOn with
  | ind q ih =>
    intro l
    induction l with
    | nil => intro _; unfold sizeSs; omega
    | cons x r ihl =>
      intro h
      rw [totSs_cons, totS_eq] at h
      rw [totSs_cons, totS_eq, sizeSs_cons, sizeS_eq]
      have h1 := ih (totSs x.body) (by omega) x.body (Nat.le_refl _)
      have h2 := ih (totSs x.els) (by omega) x.els (Nat.le_refl _)
      have h3 := ihl (by omega)
      omega

/-- how many are left: less than none, or so many -/
def FewOut (n : Nat) (m : Int) (w : World) (f : Ending) (w' : World) : Prop := ∃ r : Int, f = .returned (.int .i64 r) ∧ (0 ≤ r → r + (n : Int) = m) ∧ Below w.heap.size w w'
theorem few_any (e : EL) (m : Int) (h0 : 0 ≤ m) (h1 : m ≤ 1000000) (w : World) (hin : e.In w w.heap.size) : Calls Try.prog 9 #[eVal e, .int .i64 m] w (FewOut (sizeE e) m w) :=
  (r10Few_any e m h0 h1 w hin).mono fun _ _ ⟨r, h, _, _, h2, hb⟩ => ⟨r, h, h2, hb⟩
theorem fewBlock_any (ss : List SL) (m : Int) (h0 : 0 ≤ m) (h1 : m ≤ 1000000) (A : Option Addr) (n c : Nat) (w : World) (hA : RowS6 w w.heap.size A n ss) (hAi : SL.Ins w w.heap.size ss) : Calls Try.prog 13 #[.slice A n c, .int .i64 m] w (FewOut (totSs ss) m w) :=
  (r10FewBlock_any 1000000 (by decide) ss m (by omega) h1 A n c w hA hAi).mono fun _ _ ⟨r, h, _, _, _, h2, hb⟩ => ⟨r, h, h2, hb⟩

end Go.Proofs.Ytdmpadonnobeaaa
