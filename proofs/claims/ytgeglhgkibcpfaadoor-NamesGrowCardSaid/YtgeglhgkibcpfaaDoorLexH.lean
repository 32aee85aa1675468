/- Contract of the reference's one: the token that begins at a place. -/
import Derived.Test.YtgeglhgkibcpfaaDoorLexC
import Derived.Test.YtgeglhgkibcpfaaDoorLexE
import Derived.Test.YtgeglhgkibcpfaaDoorLexF
import Derived.Test.YtgeglhgkibcpfaaDoorLexG
import Derived.Test.YtgeglhgkibcpfaaDoorToks
namespace Go.Proofs.YtgeglhgkibcpfaaDoor
open Go.RowKit

theorem results_c3 {P : Program} {fn : Func} {p u v x : Tmp} {ty : TypeId} (h : fn.results = #[.cell p ty, .tmp u, .tmp v, .tmp x]) (tmps : Array Value) (w : World) (g : Nat) (t : TypeId) (cs : Array Value) (fr : Nat × Nat) (d : TypeDesc)
    (hp : tmps.getD p undef = .pointer (some ⟨g, 0, none⟩)) (hg : w.heap[g]? = some (.cells cs t fr))
    (hu : P.underlying ty = some d) (hd : (match d with | .struct _ | .array _ _ => true | _ => false) = true) (hi : (P.info? ty).map (·.size) = some cs.size) :
    (results fn tmps).run P w = .ok (.tuple #[.agg cs, tmps.getD u undef, tmps.getD v undef, tmps.getD x undef]) w := by
  have hp' : tmps[p]?.getD undef = .pointer (some ⟨g, 0, none⟩) := by simpa using hp
  simp [results, h, hp', asAddr, run_loadVar_row w g t ty cs fr d hg hu hd hi]

theorem put_tok {W V : World} {cs ds : Array Value} {t : TypeId} (h : V = (W.alloc (.cells cs t)).setRow W.heap.size ds) : Blk V W.heap.size t ds ∧ Below W.heap.size W V := by
  subst h
  exact ⟨setRow_heap _ _ _ _ _ _ (Blk.new W _ _), below_setRow ((Below.refl _ _).alloc (Nat.le_refl _) _) (Nat.le_refl _) _⟩

/-- what one hands back, out of what the token comes to -/
def OneOut (T : Tk × Nat × Int × Nat) (i : Nat) (e : Ending) : Prop := ∃ to wv : Nat, e = .returned (.tuple #[tkV T.1, .int .i64 to, .int .i64 T.2.2.1, .int .i64 wv]) ∧ (T.2.2.1 = 0 → to = i + T.2.1) ∧ (T.2.2.1 ≠ 0 → wv = i + T.2.2.2)

theorem OneOut.mk {T : Tk × Nat × Int × Nat} {i : Nat} {t : Tk} {n : Nat} {er : Int} {wh : Nat} (hT : T = (t, n, er, wh)) (to wv : Nat) (v : Value) (hv : v = tkV t) (h1 : er = 0 → to = i + n) (h2 : er ≠ 0 → wv = i + wh) : OneOut T i (.returned (.tuple #[v, .int .i64 to, .int .i64 er, .int .i64 wv])) := by
  subst hT hv
  exact ⟨to, wv, rfl, h1, h2⟩

section
variable {keys : List UInt8 → Bool} {c : UInt8} {r : List UInt8}
theorem one_t (h : (c.toNat : Int) = 34) : oneTk keys (c :: r) = (⟨3, (textF 1 [] r).1, 0, 0, 0⟩, (textF 1 [] r).2.1, (textF 1 [] r).2.2.1, (textF 1 [] r).2.2.2) := if_pos h

def stuckL (l : List UInt8) : Bool := match l.head? with
  | some d => isSm d || isCp d || decide ((d.toNat : Int) = 95)
  | none => false
def numE (b : Bool) (N : Nat) : Int := if b = true then 4 else if 32767 < N then 5 else 0

theorem stuck_eq (s : ByteArray) (t : Nat) : stuck s t = stuckL (s.data.toList.drop t) := by
  unfold stuck stuckL
  cases (s.data.toList.drop t).head? <;> rfl

theorem one_n (h : ¬ (c.toNat : Int) = 34) (hd : isDg c = true) (n : Nat) (hn : n = rowF false (c :: r)) : oneTk keys (c :: r) =
    (⟨2, [], if numE (stuckL ((c :: r).drop n) || (decide ((c.toNat : Int) = 48) && decide (1 < n))) (numL ((c :: r).take n)) = 0 then (numL ((c :: r).take n) : Int) else 0, 0, 0⟩, n, numE (stuckL ((c :: r).drop n) || (decide ((c.toNat : Int) = 48) && decide (1 < n))) (numL ((c :: r).take n)), 0) := by
  subst hn
  have e : oneTk keys (c :: r) = if isDg c = true then _ else _ := if_neg h
  rw [e, if_pos hd]
  dsimp only
  unfold stuckL numE
  cases ((c :: r).drop (rowF false (c :: r))).head? <;> rfl

theorem one_w (h : ¬ (c.toNat : Int) = 34) (hd : isDg c = false) (hs : isSm c = true) (n : Nat) (hn : n = rowF true (c :: r)) : oneTk keys (c :: r) =
    (⟨if keys ((c :: r).take n) = true then 4 else 1, (c :: r).take n, 0, 0, 0⟩, n, if 24 < n then 9 else 0, 0) := by
  subst hn
  exact (if_neg h).trans ((if_neg (by rw [hd]; decide)).trans (if_pos hs))

theorem one_no (h : ¬ (c.toNat : Int) = 34) (hd : isDg c = false) (hs : isSm c = false) (hg : signL (c :: r) = 0) : oneTk keys (c :: r) = (⟨0, [], 0, 0, 0⟩, 0, 13, 0) :=
  (if_neg h).trans ((if_neg (by rw [hd]; decide)).trans ((if_neg (by rw [hs]; decide)).trans (if_pos hg)))
theorem one_g (h : ¬ (c.toNat : Int) = 34) (hd : isDg c = false) (hs : isSm c = false) (hg : ¬ signL (c :: r) = 0) : oneTk keys (c :: r) = (⟨5, (c :: r).take (signL (c :: r)), 0, 0, 0⟩, signL (c :: r), 0, 0) :=
  (if_neg h).trans ((if_neg (by rw [hd]; decide)).trans ((if_neg (by rw [hs]; decide)).trans (if_neg hg)))
end

theorem isDg_34 {c : UInt8} (h : isDg c = true) : ¬ (c.toNat : Int) = 34 := by unfold isDg at h; simp at h; omega
theorem isSm_34 {c : UInt8} (h : isSm c = true) : ¬ (c.toNat : Int) = 34 := by unfold isSm at h; simp at h; omega

/-- number's answer by its letters -/
theorem nrV_eq (b : Bool) (N : Nat) : nrV b N = .tuple #[.int .i64 (if numE b N = 0 then (N : Int) else 0), .int .i64 (numE b N)] := by
  unfold nrV numE
  cases b with
  | true => simp
  | false =>
    by_cases h : 32767 < N
    · simp [h]
    · simp [h]

theorem bs_ext (s : ByteArray) (i n : Nat) : s.extract i (i + n) = bs ((s.data.toList.drop i).take n) := by
  rw [← ext_list, bs_data]

end Go.Proofs.YtgeglhgkibcpfaaDoor
