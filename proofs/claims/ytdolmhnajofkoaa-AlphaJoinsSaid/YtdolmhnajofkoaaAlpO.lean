/- Contracts of alpha.Pack and of its closure. -/
import Derived.Test.YtdolmhnajofkoaaAlpM
import Derived.Test.YtdolmhnajofkoaaIntS
import Derived.Deep.RegionLaw
import Derived.Deep.AppendLies
namespace Go.Proofs.Ytdolmhnajofkoaa
open Go.RowKit

/-- the closure's variables: the pending bits' number, how many count, the bytes so far -/
structure Pk (wr : World) (B gp gl gs : Nat) (p : Int) (len : Int) (A : Option Addr) (n c : Nat) (P : List UInt8) : Prop where
  hp : Blk wr gp 3 #[.int .i64 p]
  hl : Blk wr gl 3 #[.int .i64 len]
  hs : Blk wr gs 33 #[.slice A n c]
  own : wr.ownsRow B 5 1 (.slice A n c) n (bc P)
  lp : gp < B
  ll : gl < B
  ls : gs < B
  npl : gp ≠ gl
  nps : gp ≠ gs
  nls : gl ≠ gs
  hB : B ≤ wr.heap.size

section
variable {wr : World} {B gp gl gs : Nat} {p len : Int} {A : Option Addr} {n c : Nat} {P : List UInt8}

theorem own_set {w : World} {base g : Nat} {e : TypeId} {v : Value} {n : Nat} {xs : List Value} (h : w.ownsRow base e 1 v n xs) (hg : g < base) (i : Nat) (u : Value) : (w.setCell ⟨g, i, none⟩ u).ownsRow base e 1 v n xs :=
  h.kept (row := some g) (gb_set (World.grownBy.refl w _) i u) (own_ne h hg)

theorem Pk.setp (h : Pk wr B gp gl gs p len A n c P) (q : Int) : Pk (wr.setCell ⟨gp, 0, none⟩ (.int .i64 q)) B gp gl gs q len A n c P where
  hp := h.hp.set_ 0 _
  hl := h.hl.far h.npl.symm _
  hs := h.hs.far h.nps.symm _
  own := own_set h.own h.lp 0 _
  lp := h.lp
  ll := h.ll
  ls := h.ls
  npl := h.npl
  nps := h.nps
  nls := h.nls
  hB := by rw [World.size_setCell]; exact h.hB

theorem Pk.setl (h : Pk wr B gp gl gs p len A n c P) (z : Int) : Pk (wr.setCell ⟨gl, 0, none⟩ (.int .i64 z)) B gp gl gs p z A n c P where
  hp := h.hp.far h.npl _
  hl := h.hl.set_ 0 _
  hs := h.hs.far h.nls.symm _
  own := own_set h.own h.ll 0 _
  lp := h.lp
  ll := h.ll
  ls := h.ls
  npl := h.npl
  nps := h.nps
  nls := h.nls
  hB := by rw [World.size_setCell]; exact h.hB

theorem Pk.draw (h : Pk wr B gp gl gs p len A n c P) : Pk wr.drew B gp gl gs p len A n c P := ⟨h.hp, h.hl, h.hs, h.own.drew, h.lp, h.ll, h.ls, h.npl, h.nps, h.nls, h.hB⟩

theorem own_off {w : World} {base g : Nat} {e : TypeId} {v : Value} {n : Nat} {xs : List Value} (h : w.ownsRow base e 1 v n xs) (hg : g < base) : some g ≠ v.ownBlock := fun e => by
  have := (h.lt g e.symm).1
  omega

/-- an append onto the bytes, and the variable that holds them -/
theorem Pk.push (h : Pk wr B gp gl gs p len A n c P) {o : Obj} {w1 : World} (hg : (wr.alloc o).grownBy w1 (Value.slice A n c).ownBlock) {A' : Option Addr} {n' c' : Nat} {P' : List UInt8}
    (ho : w1.ownsRow B 5 1 (.slice A' n' c') n' (bc P')) : Pk (w1.setCell ⟨gs, 0, none⟩ (.slice A' n' c')) B gp gl gs p len A' n' c' P' where
  hp := ((h.hp.alloc o).grown hg (own_off h.own h.lp)).far h.nps _
  hl := ((h.hl.alloc o).grown hg (own_off h.own h.ll)).far h.nls _
  hs := ((h.hs.alloc o).grown hg (own_off h.own h.ls)).set_ 0 _
  own := own_set ho h.ls 0 _
  lp := h.lp
  ll := h.ll
  ls := h.ls
  npl := h.npl
  nps := h.nps
  nls := h.nls
  hB := by
    have h1 := hg.size
    have h2 := h.hB
    rw [World.size_setCell]
    simp at h1
    omega

theorem Pk.cells (h : Pk wr B gp gl gs p len A n c P) : wr.cell? ⟨gp, 0, none⟩ = some (.int .i64 p) ∧ wr.cell? ⟨gl, 0, none⟩ = some (.int .i64 len) ∧ wr.cell? ⟨gs, 0, none⟩ = some (.slice A n c) := ⟨h.hp.cell 0, h.hl.cell 0, h.hs.cell 0⟩
end

/-- what the closure leaves -/
def Collected (wr : World) (D B gp gl gs : Nat) (U : List Nat) (w' : World) : Prop :=
  ∃ p len A n c P, Pk w' B gp gl gs p (len : Nat) A n c P ∧ St U P len p ∧ len < 8 ∧ Below D wr w'

set_option maxRecDepth 100000 in
set_option maxHeartbeats 3200000 in
theorem collect_any (wr : World) (D B gp gl gs : Nat) (p v z : Int) (len b : Nat) (A : Option Addr) (n c : Nat) (P : List UInt8) (U vb : List Nat) (h : Pk wr B gp gl gs p len A n c P) (hst : St U P len p)
    (hlen : len < 8) (hb : b ≤ 8) (hz : z = b) (hvb : vb.length = b) (hi : isBits vb) (hv : v = (num2 vb : Nat)) (hD : D ≤ gp ∧ D ≤ gl ∧ D ≤ gs ∧ D ≤ B) (hU : U.length ≤ 700000) :
    Calls Try.prog 32 #[.int .i64 v, .int .i64 z, .pointer (some ⟨gp, 0, none⟩), .pointer (some ⟨gl, 0, none⟩), .pointer (some ⟨gs, 0, none⟩)] wr fun e w' => e = .returned (.tuple #[]) ∧ Collected wr D B gp gl gs (U ++ vb) w' := by
  obtain ⟨i0, hi1, hz0, hsz, hby⟩ := inf_parts Try.inf_u8
  have HI := Lib.hid hi1
  have HZ0 := Lib.hid hz0
  have HSZ := Lib.hid hsz
  have HBY := Lib.hid hby
  clear hi1 hz0 hsz hby
  subst hz
  have hv1 : v < 2 ^ b := by
    rw [hv, show (2 : Int) ^ b = ((2 ^ b : Nat) : Int) from by rw [Int.natCast_pow]; rfl]
    exact_mod_cast num2_lt b vb hvb hi
  have hv0 : 0 ≤ v := by omega
  obtain ⟨q, hq⟩ : ∃ q, q = bits .or .i64 (wrap64 (p * 2 ^ b)) v := ⟨_, rfl⟩
  have HM := Lib.hid (hst.more (q := q) vb b hvb hi hv hlen hb (by rw [hq]; exact or_low p v b hb hv0 hv1))
  have hq2 := hq.symm
  obtain ⟨c1, c2, c3⟩ := h.cells
  have f1 := h.hp.frozen 0
  have f2 := h.hl.frozen 0
  have n1 := h.npl
  have n2 := h.nps
  have n3 := h.nls
  have n1' := h.npl.symm
  have n2' := h.nps.symm
  have n3' := h.nls.symm
  have hnl : 8 * n ≤ U.length := by
    obtain ⟨R, h1, _⟩ := hst
    have h2 := own_len h.own
    have h3 := congrArg List.length h1
    rw [List.length_append, unb_len, h2] at h3
    omega
  have HP1 := Lib.hid ((h.setp q).setl ((len : Int) + b))
  have HB1 : Hid (Below D wr ((wr.setCell ⟨gp, 0, none⟩ (.int .i64 q)).setCell ⟨gl, 0, none⟩ (.int .i64 ((len : Int) + b)))) := Lib.hid (((Below.refl _ _).setCell hD.1 _).setCell hD.2.1 _)
  have HD := Lib.hid hD
  have HUL : Hid ((U ++ vb).length = U.length + b) := Lib.hid (by rw [List.length_append, hvb])
  clear h hst hq hD hv hi hvb
  by_cases h8 : 8 ≤ len + b
  · obtain ⟨m, hm⟩ : ∃ m, m = len + b - 8 := ⟨_, rfl⟩
    have hm8 : m < 8 := by omega
    have hme : (len : Int) + b - 8 = m := by omega
    have HST := Lib.hid (HM.out.byte (m := m) (by omega) hm8)
    have HP2 := Lib.hid (HP1.out.setl m)
    have HB2 : Hid (Below D wr (((wr.setCell ⟨gp, 0, none⟩ (.int .i64 q)).setCell ⟨gl, 0, none⟩ (.int .i64 ((len : Int) + b))).setCell ⟨gl, 0, none⟩ (.int .i64 m))) := Lib.hid (HB1.out.setCell HD.out.2.1 _)
    clear HP1 HB1 hm
    go_enter Try.func32, Try.ntmps32
    go_wp2_with fail
    generalize ((wr.setCell ⟨gp, 0, none⟩ (.int .i64 q)).setCell ⟨gl, 0, none⟩ (.int .i64 ((len : Int) + b))).setCell ⟨gl, 0, none⟩ (.int .i64 m) = W at *
    clear c1 c2 c3 f1 f2
    obtain ⟨c1, c2, c3⟩ := HP2.out.cells
    have f3 := HP2.out.hs.frozen 0
    have s1 : gp < W.heap.size := HP2.out.hp.lt
    have s2 : gl < W.heap.size := HP2.out.hl.lt
    have s3 : gs < W.heap.size := HP2.out.hs.lt
    have ap := (own_off HP2.out.own HP2.out.lp).symm
    have al := (own_off HP2.out.own HP2.out.ll).symm
    have as_ := (own_off HP2.out.own HP2.out.ls).symm
    have hBW := HP2.out.hB
    have hal := ((Below.refl W.heap.size W).alloc (Nat.le_refl _) (.cells #[.int .u8 (IntKind.u8.wrap (q / 2 ^ m))] 5)).drew
    have tst : (W.alloc (.cells #[.int .u8 (IntKind.u8.wrap (q / 2 ^ m))] 5)).drew.cell? ⟨gs, 0, none⟩ = some (.slice A n c) ∧ (W.alloc (.cells #[.int .u8 (IntKind.u8.wrap (q / 2 ^ m))] 5)).drew.cell? ⟨gp, 0, none⟩ = some (.int .i64 q) ∧ (W.alloc (.cells #[.int .u8 (IntKind.u8.wrap (q / 2 ^ m))] 5)).drew.cell? ⟨gl, 0, none⟩ = some (.int .i64 m) ∧ (W.alloc (.cells #[.int .u8 (IntKind.u8.wrap (q / 2 ^ m))] 5)).drew.frozen? ⟨gs, 0, none⟩ = false := ⟨(hal.cell (p := ⟨gs, 0, none⟩) s3).trans c3, (hal.cell (p := ⟨gp, 0, none⟩) s1).trans c1, (hal.cell (p := ⟨gl, 0, none⟩) s2).trans c2, (hal.frozen (p := ⟨gs, 0, none⟩) s3).trans f3⟩
    obtain ⟨t1, t2, t3, t4⟩ := tst
    have u1 : (W.alloc (.cells #[.int .u8 (IntKind.u8.wrap (q / 2 ^ m))] 5)).cell? ⟨gs, 0, none⟩ = some (.slice A n c) := t1
    go_region_law
      (
        refine step_append_lies _ (by rfl) _ _ _ (by rfl) B 5 i0 _ 1 1 Try.underlying33 HI.out HZ0.out HSZ.out HBY.out rfl (by omega) (.slice A n c) n (bc P) (by rfl) ((HP2.out.own.alloc _).drew)
          ⟨W.heap.size, 0, none⟩ 1 1 [.int .u8 (IntKind.u8.wrap (q / 2 ^ m))] (by rfl) (by rfl) (World.news_of_block (cs := #[.int .u8 (IntKind.u8.wrap (q / 2 ^ m))]) (t := 5) (fr := (0, 0)) (heap_alloc_new W _)) (by simp [Value.oneCell'])
          (by omega) (by unfold maxLen; omega) (by omega) (by simp; omega) (W.heap.size + 1) (by simp) ?_
        intro gg cap w1 hown1 hgrow hat hlt
        have v1 := (hgrow.cell_far ⟨gs, 0, none⟩ (by simp; omega) (Ne.symm as_)).trans t1
        have v2 := (hgrow.frozen_far ⟨gs, 0, none⟩ (by simp; omega) (Ne.symm as_)).trans t4)
    all_goals
      go_end0
      have hown2 : w1.ownsRow B 5 1 (.slice (some ⟨gg, 0, none⟩) (n + 1) cap) (n + 1) (bc (P ++ [byt (q / 2 ^ m)])) := by
        rw [bc_append]
        have e : bc [byt (q / 2 ^ m)] = [.int .u8 (IntKind.u8.wrap (q / 2 ^ m))] := by
          show [Value.int .u8 ((byt (q / 2 ^ m)).toNat : Int)] = _
          rw [byt_val, IntKind.wrap_u8]
        rw [e]
        exact hown1
      exact ⟨rfl, q, m, _, _, _, _, HP2.out.draw.push hgrow hown2, HST.out, hm8, ((HB2.out.alloc (Nat.le_trans HD.out.2.2.2 hBW) _).drew.grown hgrow (by simp; have := HD.out.2.2.2; omega) (fun k hk => Nat.le_trans HD.out.2.2.2 (own_from HP2.out.own k hk))).setCell HD.out.2.2.1 _⟩
  · go_enter Try.func32, Try.ntmps32
    go_wp2_with fail
    go_end0
    exact ⟨rfl, q, len + b, _, _, _, _, HP1.out, HM.out, by omega, HB1.out⟩

end Go.Proofs.Ytdolmhnajofkoaa
