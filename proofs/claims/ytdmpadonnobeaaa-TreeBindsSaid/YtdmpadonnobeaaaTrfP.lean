/- What the program's validity at any language comes to: a depth, and the reference's validity. -/
import Derived.Test.YtdmpadonnobeaaaTrfF
import Derived.Test.YtdmpadonnobeaaaTreK
namespace Go.Proofs.Ytdmpadonnobeaaa
open Go.RowKit
set_option linter.unusedVariables false

theorem dec_max {a b d : Nat} : decide (max a b ≤ d) = (decide (a ≤ d) && decide (b ≤ d)) := by
  rw [Bool.eq_iff_iff, Bool.and_eq_true, decide_eq_true_eq, decide_eq_true_eq, decide_eq_true_eq]
  omega

section
variable {X : EL → Bool} {tx : Int} {ok R : Bool → EL → Bool}

theorem inE_of (h2 : ∀ e, ok false e = (!sayB tx e && ok true e)) (h3 : ∀ said e, R said e = (ok said e && e.args.all (R false))) {d : Nat} {a : EL} (hv : vE X tx d a = (decide (depE a ≤ d) && R true a)) (said : Bool) :
    inE X tx said d a = (decide (depE a ≤ d) && R said a) := by
  unfold inE
  rw [hv]
  cases said with
  | true => rw [Bool.true_or, Bool.true_and]
  | false =>
    rw [Bool.false_or, h3 false a, h3 true a, h2 a]
    cases sayB tx a <;> simp

theorem all_inE (said : Bool) (d : Nat) : ∀ l : List EL, (∀ a ∈ l, inE X tx said d a = (decide (depE a ≤ d) && R said a)) → l.all (inE X tx said d) = (decide (depEs l ≤ d) && l.all (R said)) := by
  intro l
  induction l with
  | nil => intro _; rw [depEs_nil]; simp
  | cons a r ih =>
    intro h
    rw [List.all_cons, List.all_cons, h a (by simp), ih (fun x hx => h x (by simp [hx])), depEs_cons, dec_max]
    cases decide (depE a ≤ d) <;> cases decide (depEs r ≤ d) <;> simp

/-- an expression -/
theorem vE_gen (h1 : ∀ e, e.args.length = e.n → (decide (e.fv = e.form) && X e) = ok true e) (h2 : ∀ e, ok false e = (!sayB tx e && ok true e)) (h3 : ∀ said e, R said e = (ok said e && e.args.all (R false))) {w : World} {B : Nat} :
    ∀ (d : Nat) (e : EL), e.In w B → vE X tx d e = (decide (depE e ≤ d) && R true e) := by
  intro d
  induction d with
  | zero =>
    intro e _
    have := depE_pos e
    rw [decide_eq_false (by omega), Bool.false_and]
    rfl
  | succ d ih =>
    intro e hin
    rw [vE_succ, h1 e hin.row.1, all_inE false d e.args (fun a ha => inE_of h2 h3 (ih a (EL.Ins.mem hin.args a ha)) false), h3 true e, depE_eq]
    have e1 : decide (depEs e.args + 1 ≤ d + 1) = decide (depEs e.args ≤ d) := decide_eq_decide.2 (by omega)
    rw [e1]
    cases ok true e <;> simp

variable {Y : SL → Bool} {lb : SL → Int × List UInt8} {cl : Int} {hd RS : SL → Bool}

theorem depMs_all (d : Nat) : ∀ l : List SL, (∀ s ∈ l, vS X Y lb tx cl d s = (decide (depS s ≤ d) && RS s)) → l.all (vS X Y lb tx cl d) = (decide (depMs l ≤ d) && l.all RS) := by
  intro l
  induction l with
  | nil => intro _; rw [depMs_nil]; simp
  | cons a r ih =>
    intro h
    rw [List.all_cons, List.all_cons, h a (by simp), ih (fun x hx => h x (by simp [hx])), depMs_cons, dec_max]
    cases decide (depS a ≤ d) <;> cases decide (depMs r ≤ d) <;> simp

/-- statements -/
theorem vB_gen (h1 : ∀ e, e.args.length = e.n → (decide (e.fv = e.form) && X e) = ok true e) (h2 : ∀ e, ok false e = (!sayB tx e && ok true e)) (h3 : ∀ said e, R said e = (ok said e && e.args.all (R false)))
    (h4 : ∀ s : SL, s.args.length = s.n → s.body.length = s.n1 → s.els.length = s.n2 → (decide (s.fv = s.form (lb s).1 (lb s).2) && Y s && (decide (s.kind ≠ 19) || decide ((s.args[0]?.getD nilE).kind = cl))) = hd s)
    (h5 : ∀ s : SL, RS s = (hd s && s.args.all (R (decide (s.kind = 1))) && (s.body.all RS && decide (s.body.length ≤ 256)) && (s.els.all RS && decide (s.els.length ≤ 256)))) {w : World} {B : Nat} :
    ∀ (d : Nat) (l : List SL), SL.Ins w B l → vB X Y lb tx cl d l = (decide (depSs l ≤ d) && (l.all RS && decide (l.length ≤ 256))) := by
  have hS : ∀ d : Nat, (∀ l : List SL, SL.Ins w B l → vB X Y lb tx cl d l = (decide (depSs l ≤ d) && (l.all RS && decide (l.length ≤ 256)))) → ∀ s : SL, s.In w B → vS X Y lb tx cl d s = (decide (depS s ≤ d) && RS s) := by
    intro d hB s hin
    obtain ⟨hp, hi1, hi2⟩ := hin.parts
    have hg := h4 s hp.2.2.1.1.1 hp.2.2.2.1.1 hp.2.2.2.2.1
    have ha := all_inE (decide (s.kind = 1)) d s.args (fun a ha => inE_of h2 h3 (vE_gen h1 h2 h3 d a (EL.Ins.mem hp.2.2.1.2 a ha)) (decide (s.kind = 1)))
    rw [vS_eq, hB _ hi1, hB _ hi2, h5 s, depS_eq, dec_max, dec_max]
    unfold hdS
    rw [ha, ← hg]
    generalize decide (s.fv = s.form (lb s).1 (lb s).2) = b1
    generalize Y s = b2
    generalize decide (depEs s.args ≤ d) = b3
    generalize s.args.all (R (decide (s.kind = 1))) = b4
    generalize (decide (s.kind ≠ 19) || decide ((s.args[0]?.getD nilE).kind = cl)) = b5
    generalize decide (depSs s.body ≤ d) = b6
    generalize (s.body.all RS && decide (s.body.length ≤ 256)) = b7
    generalize decide (depSs s.els ≤ d) = b8
    generalize (s.els.all RS && decide (s.els.length ≤ 256)) = b9
    cases b1 <;> cases b2 <;> cases b3 <;> cases b4 <;> cases b5 <;> cases b6 <;> cases b7 <;> cases b8 <;> rfl
  intro d
  induction d with
  | zero =>
    intro l _
    show l.isEmpty = _
    cases l with
    | nil => rw [depSs_nil]; simp
    | cons x r =>
      have : 1 ≤ depSs (x :: r) := by rw [depSs_cons]; omega
      rw [decide_eq_false (by omega), Bool.false_and]
      rfl
  | succ d ih =>
    intro l hins
    show (l.isEmpty || (decide (l.length ≤ 256) && l.all (vS X Y lb tx cl d))) = _
    rw [depMs_all d l (fun s hs => hS d ih s (SL.Ins.mem hins s hs))]
    cases l with
    | nil => rw [depSs_nil]; simp
    | cons x r =>
      rw [depSs_eq (l := x :: r) (by simp)]
      have e1 : decide (depMs (x :: r) + 1 ≤ d + 1) = decide (depMs (x :: r) ≤ d) := decide_eq_decide.2 (by omega)
      rw [e1]
      generalize decide (depMs (x :: r) ≤ d) = b1
      generalize (x :: r).all RS = b2
      generalize decide ((x :: r).length ≤ 256) = b3
      cases b1 <;> cases b2 <;> cases b3 <;> rfl
end

end Go.Proofs.Ytdmpadonnobeaaa
