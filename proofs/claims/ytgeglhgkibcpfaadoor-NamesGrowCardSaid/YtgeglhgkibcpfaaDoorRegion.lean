/- A region that draws its order, gone through by hand: the condition on the world may grow on the way. No function of the program is named here. -/
import Derived.Test.YtgeglhgkibcpfaaDoorBlk
import Derived.Deep.RegionHeld3
namespace Go.Proofs.YtgeglhgkibcpfaaDoor
open Go.RowKit

section
variable {P : Program} {ops : Array Oper} {Q : Exit → Act → World → Prop} {md : Region.Mode} {S S' : World → Prop}

theorem held_mono (hi : ∀ w, S' w → S w) : ∀ (fuel : Nat) (listed : Array Bool) (a : Act) (w : World), wpAnyH P md ops Q S' fuel listed a w → wpAnyH P md ops Q S fuel listed a w
  | 0, _, _, _, h => h
  | fuel + 1, _, _, _, h => ⟨h.1, fun i hh => wpOp_mono (fun a' w' h' => ⟨hi w' h'.1, held_mono hi fuel _ a' w' h'.2⟩) (h.2 i hh)⟩

/-- from here on a stronger condition -/
theorem held_more {fuel : Nat} {listed : Array Bool} {a : Act} {w : World} (S' : World → Prop) (hi : ∀ w, S' w → S w) (hS : S' w) (h : S' w → wpAnyH P md ops Q S' fuel listed a w) : wpAnyH P md ops Q S fuel listed a w :=
  held_mono hi fuel listed a w (h hS)

/-- one operation that yields in every world that meets the condition -/
theorem held_take {i : Nat} {oi : Oper} {v : Value} {fuel : Nat} {listed : Array Bool} {a : Act} {w : World} (hi : ops[i]? = some oi)
    (hs : Region.noSelect ops = true) (hf : Region.free md ops listed i = true) (hr : (Region.ready md ops listed).contains i = true) (hS : S w)
    (hy : ∀ w, S w → (execOp a.eval oi).run P w = .ok (.value v) w) (hw : Region.wanted oi (yielded ops a.tmps) = true) (hQ : ∀ c a w, Q (.panic c) (a.put oi.dst v) w → Q (.panic c) a w)
    (h : wpAnyH P md ops Q S fuel (listed.setIfInBounds i true) (a.put oi.dst v) w) : wpAnyH P md ops Q S (fuel + 1) listed a w :=
  wpAnyH_take hi hs hf hr hQ (.inl ⟨hw, hy⟩) hS h

/-- one operation whose guard says no -/
theorem held_skip {i : Nat} {oi : Oper} {fuel : Nat} {listed : Array Bool} {a : Act} {w : World} (hi : ops[i]? = some oi)
    (hs : Region.noSelect ops = true) (hf : Region.free md ops listed i = true) (hr : (Region.ready md ops listed).contains i = true) (hS : S w)
    (hw : Region.wanted oi (yielded ops a.tmps) = false) (hQ : ∀ c a w, Q (.panic c) (a.put oi.dst undef) w → Q (.panic c) a w)
    (h : wpAnyH P md ops Q S fuel (listed.setIfInBounds i true) (a.put oi.dst undef) w) : wpAnyH P md ops Q S (fuel + 1) listed a w :=
  wpAnyH_take hi hs hf hr hQ (.inr ⟨hw, rfl⟩) hS h

/-- the one operation that may come up -/
theorem held_one {i : Nat} {o : Oper} {fuel : Nat} {listed : Array Bool} {a : Act} {w : World} (hr : Region.ready md ops listed = [i]) (ho : ops[i]? = some o)
    (h : ∀ K' : Act → World → Prop, Shut (∀ a w, S w → (S w → wpAnyH P md ops Q S fuel (listed.setIfInBounds i true) a w) → K' a w) → if Region.wanted o (yielded ops a.tmps) = true then Oper.wp P o a w K' Q else K' (a.put o.dst undef) w) : wpAnyH P md ops Q S (fuel + 1) listed a w :=
  wpAnyH_ready hr (by simp) (AllReadyH.cons ho h AllReadyH.nil)
end

/-- a condition on the worlds of a region: what was there at the walk's start, and at X, is there -/
def Held2 (w X u : World) : Prop := Below w.heap.size w u ∧ Below X.heap.size X u

theorem Held2.start {w X : World} (h : Below w.heap.size w X) : Held2 w X X.drew := ⟨h.drew, (Below.refl _ _).drew⟩

theorem Held2.alloc {w X u : World} (h : Held2 w X u) (o : Obj) : Held2 w X (u.alloc o) := ⟨Below.alloc h.1 h.1.size o, Below.alloc h.2 h.2.size o⟩

theorem Held2.call {w X u u' : World} (h : Held2 w X u) (hb : Below u.heap.size u u') : Held2 w X u' := ⟨h.1.trans (hb.mono h.1.size), h.2.trans (hb.mono h.2.size)⟩

theorem Held2.imp {w X u v : World} (h : Held2 w X u) (h' : Held2 w u v) : Held2 w X v := ⟨h'.1, h.2.trans (h'.2.mono h.2.size)⟩

theorem Held2.new {w X u : World} (h : Held2 w X u) : Held2 w u u := ⟨h.1, Below.refl _ _⟩

end Go.Proofs.YtgeglhgkibcpfaaDoor
