/- Contracts of alpha's Pack and its closure. -/
import Derived.Test.YtpfkkmjodhpkoaaDoorAlpK
import Derived.Test.YtpfkkmjodhpkoaaDoorAlpR
import Derived.Test.YtpfkkmjodhpkoaaDoorIntS
import Derived.Deep.RegionLaw
import Derived.Deep.AppendLies
import Derived.Test.YtpfkkmjodhpkoaaDoorEnt
namespace Go.Proofs.YtpfkkmjodhpkoaaDoor
open Go.RowKit
set_option linter.unusedVariables false

theorem num2_append (a b : List Nat) : num2 (a ++ b) = num2 a * 2 ^ b.length + num2 b := by
  generalize hn : b.length = n
  induction n generalizing b with
  | zero => rw [List.eq_nil_of_length_eq_zero hn, List.append_nil]; simp [num2]
  | succ n ih =>
    have hne : b ≠ [] := by rintro rfl; simp at hn
    have e := List.dropLast_concat_getLast hne
    have h1 := ih b.dropLast (by rw [List.length_dropLast, hn]; omega)
    rw [← e, ← List.append_assoc, num2_snoc, num2_snoc, h1, Nat.pow_succ, Nat.mul_add, ← Nat.mul_assoc]
    rw [Nat.mul_comm 2 (num2 a), Nat.mul_assoc, Nat.mul_comm 2 (2 ^ n)]
    omega

theorem wrap_i64_eq (x : Int) : IntKind.i64.wrap x = wrap64 x := by rw [IntKind.wrap_i64]; unfold wrap64; rfl

theorem or_low (p v : Int) (b : Nat) (hb : b ≤ 8) (h0 : 0 ≤ v) (h1 : v < 2 ^ b) : bits .or .i64 (wrap64 (p * 2 ^ b)) v = wrap64 ((p * 2 ^ b) % 18446744073709551616 + v) := by
  obtain ⟨k, rfl⟩ : ∃ k : Nat, v = k := ⟨v.toNat, by omega⟩
  obtain ⟨a, ha⟩ : ∃ a : Nat, (p * 2 ^ b) % 18446744073709551616 = a := ⟨((p * 2 ^ b) % 18446744073709551616).toNat, by omega⟩
  have hk : k < 2 ^ b := by
    have : ((2 ^ b : Nat) : Int) = 2 ^ b := by rw [Int.natCast_pow]; rfl
    omega
  have hm : a % 2 ^ b = 0 := by
    rcases (by omega : b = 0 ∨ b = 1 ∨ b = 2 ∨ b = 3 ∨ b = 4 ∨ b = 5 ∨ b = 6 ∨ b = 7 ∨ b = 8) with rfl | rfl | rfl | rfl | rfl | rfl | rfl | rfl | rfl <;> simp at ha ⊢ <;> omega
  have hlt : a < 18446744073709551616 := by omega
  have hk2 : k < 18446744073709551616 := by
    rcases (by omega : b = 0 ∨ b = 1 ∨ b = 2 ∨ b = 3 ∨ b = 4 ∨ b = 5 ∨ b = 6 ∨ b = 7 ∨ b = 8) with rfl | rfl | rfl | rfl | rfl | rfl | rfl | rfl | rfl <;> simp at hk <;> omega
  have e1 : (BitVec.ofInt 64 (wrap64 (p * 2 ^ b))).toNat = a := by
    rw [BitVec.toNat_ofInt]
    unfold wrap64
    omega
  have e2 : (BitVec.ofInt 64 (k : Int)).toNat = k := by
    rw [BitVec.toNat_ofInt]
    omega
  rw [ha]
  have h3 := nat_join b a k hm hk
  show IntKind.i64.wrap (((BitVec.ofInt 64 (wrap64 (p * 2 ^ b)) ||| BitVec.ofInt 64 (k : Int)).toNat : Nat) : Int) = _
  rw [BitVec.toNat_or, e1, e2, h3, wrap_i64_eq]
  congr 1

/-- how far the bits U are packed: the bytes P, and the pending rest, the lowest bits of p -/
def St (U : List Nat) (P : List UInt8) (len : Nat) (p : Int) : Prop := ∃ R, unb P ++ R = U ∧ R.length = len ∧ isBits R ∧ p % 2 ^ len = (num2 R : Nat)

theorem St.start : St [] [] 0 0 := ⟨[], rfl, rfl, fun _ h => absurd h (by simp), by simp [num2]⟩

theorem low_mod (p q v : Int) (len b : Nat) (hl : len < 8) (hb : b ≤ 8) (h0 : 0 ≤ v) (h1 : v < 2 ^ b) (hq : q = wrap64 ((p * 2 ^ b) % 18446744073709551616 + v)) : q % 2 ^ (len + b) = (p % 2 ^ len) * 2 ^ b + v := by
  subst hq
  unfold wrap64
  rcases (by omega : b = 0 ∨ b = 1 ∨ b = 2 ∨ b = 3 ∨ b = 4 ∨ b = 5 ∨ b = 6 ∨ b = 7 ∨ b = 8) with rfl | rfl | rfl | rfl | rfl | rfl | rfl | rfl | rfl <;>
  rcases (by omega : len = 0 ∨ len = 1 ∨ len = 2 ∨ len = 3 ∨ len = 4 ∨ len = 5 ∨ len = 6 ∨ len = 7) with rfl | rfl | rfl | rfl | rfl | rfl | rfl | rfl <;> simp at h1 ⊢ <;> omega

theorem St.more {U : List Nat} {P : List UInt8} {len : Nat} {p q v : Int} (h : St U P len p) (vb : List Nat) (b : Nat) (hvb : vb.length = b) (hi : isBits vb) (hv : v = (num2 vb : Nat)) (hl : len < 8) (hb : b ≤ 8) (hq : q = wrap64 ((p * 2 ^ b) % 18446744073709551616 + v)) : St (U ++ vb) P (len + b) q := by
  obtain ⟨R, h1, h2, h3, h4⟩ := h
  have hlt := num2_lt b vb hvb hi
  refine ⟨R ++ vb, by rw [← h1, List.append_assoc], by rw [List.length_append, h2, hvb], isBits_append.2 ⟨h3, hi⟩, ?_⟩
  rw [low_mod p q v len b hl hb (by omega) (by rw [hv, show (2 : Int) ^ b = ((2 ^ b : Nat) : Int) from by rw [Int.natCast_pow]; rfl]; exact_mod_cast hlt) hq, h4, num2_append, hv, hvb]
  push_cast
  rfl

theorem St.byte {U : List Nat} {P : List UInt8} {len m : Nat} {q : Int} (h : St U P len q) (hm : len = m + 8) (hm8 : m < 8) : St U (P ++ [byt (q / 2 ^ m)]) m q := by
  obtain ⟨R, h1, h2, h3, h4⟩ := h
  have e := List.take_append_drop 8 R
  have hF : (R.take 8).length = 8 := by rw [List.length_take]; omega
  have hT : (R.drop 8).length = m := by rw [List.length_drop]; omega
  have hb := isBits_append.1 (by rw [e]; exact h3 : isBits (R.take 8 ++ R.drop 8))
  have k1 := num2_lt 8 _ hF hb.1
  have k2 := num2_lt m _ hT hb.2
  have hn : num2 R = num2 (R.take 8) * 2 ^ m + num2 (R.drop 8) := by
    conv => lhs; rw [← e, num2_append, hT]
  rw [hn, hm] at h4
  have hd : q / 2 ^ m % 256 = (num2 (R.take 8) : Nat) ∧ q % 2 ^ m = (num2 (R.drop 8) : Nat) := by
    generalize num2 (R.take 8) = F at *
    generalize num2 (R.drop 8) = T at *
    clear hb hn hF hT e h1 h2 h3 hm
    rcases (by omega : m = 0 ∨ m = 1 ∨ m = 2 ∨ m = 3 ∨ m = 4 ∨ m = 5 ∨ m = 6 ∨ m = 7) with rfl | rfl | rfl | rfl | rfl | rfl | rfl | rfl <;> simp at h4 k1 k2 ⊢ <;> omega
  refine ⟨R.drop 8, ?_, hT, hb.2, hd.2⟩
  have hby : byt (q / 2 ^ m) = UInt8.ofNat (num2 (R.take 8)) := by
    unfold byt
    rw [hd.1, Int.toNat_natCast]
  rw [unb_append, unb_cons, unb_nil, List.append_nil, hby, bits8_of hF hb.1, List.append_assoc, e, h1]

/-- the closure's variables: the pending bits' number, how many count, the bytes so far -/
structure Pk (wr : World) (B gp gl gs : Nat) (p : Int) (len : Int) (A : Option Addr) (n c : Nat) (P : List UInt8) : Prop where
  hp : Blk wr gp 3 #[.int .i64 p]
  hl : Blk wr gl 3 #[.int .i64 len]
  hs : Blk wr gs 26 #[.slice A n c]
  own : wr.ownsRow B 5 1 (.slice A n c) n (bc P)
  lp : gp < B
  ll : gl < B
  ls : gs < B
  npl : gp ≠ gl
  nps : gp ≠ gs
  nls : gl ≠ gs
  hB : B ≤ wr.heap.size

section
variable {wr : World} {B gp gl gs : Nat} {p len : Int} {A : Option Addr} {n c : Nat} {P : List UInt8}

theorem own_set {w : World} {base g : Nat} {e : TypeId} {v : Value} {n : Nat} {xs : List Value} (h : w.ownsRow base e 1 v n xs) (hg : g < base) (i : Nat) (u : Value) : (w.setCell ⟨g, i, none⟩ u).ownsRow base e 1 v n xs :=
  h.kept (row := some g) (gb_set (World.grownBy.refl w _) i u) (own_ne h hg)

theorem Pk.setp (h : Pk wr B gp gl gs p len A n c P) (q : Int) : Pk (wr.setCell ⟨gp, 0, none⟩ (.int .i64 q)) B gp gl gs q len A n c P where
  hp := h.hp.set_ 0 _
  hl := h.hl.far h.npl.symm _
  hs := h.hs.far h.nps.symm _
  own := own_set h.own h.lp 0 _
  lp := h.lp
  ll := h.ll
  ls := h.ls
  npl := h.npl
  nps := h.nps
  nls := h.nls
  hB := by rw [World.size_setCell]; exact h.hB

theorem Pk.setl (h : Pk wr B gp gl gs p len A n c P) (z : Int) : Pk (wr.setCell ⟨gl, 0, none⟩ (.int .i64 z)) B gp gl gs p z A n c P where
  hp := h.hp.far h.npl _
  hl := h.hl.set_ 0 _
  hs := h.hs.far h.nls.symm _
  own := own_set h.own h.ll 0 _
  lp := h.lp
  ll := h.ll
  ls := h.ls
  npl := h.npl
  nps := h.nps
  nls := h.nls
  hB := by rw [World.size_setCell]; exact h.hB

theorem Pk.draw (h : Pk wr B gp gl gs p len A n c P) : Pk wr.drew B gp gl gs p len A n c P := ⟨h.hp, h.hl, h.hs, h.own.drew, h.lp, h.ll, h.ls, h.npl, h.nps, h.nls, h.hB⟩

theorem own_off {w : World} {base g : Nat} {e : TypeId} {v : Value} {n : Nat} {xs : List Value} (h : w.ownsRow base e 1 v n xs) (hg : g < base) : some g ≠ v.ownBlock := fun e => by
  have := (h.lt g e.symm).1
  omega

/-- an append onto the bytes, and the variable that holds them -/
theorem Pk.push (h : Pk wr B gp gl gs p len A n c P) {o : Obj} {w1 : World} (hg : (wr.alloc o).grownBy w1 (Value.slice A n c).ownBlock) {A' : Option Addr} {n' c' : Nat} {P' : List UInt8}
    (ho : w1.ownsRow B 5 1 (.slice A' n' c') n' (bc P')) : Pk (w1.setCell ⟨gs, 0, none⟩ (.slice A' n' c')) B gp gl gs p len A' n' c' P' where
  hp := ((h.hp.alloc o).grown hg (own_off h.own h.lp)).far h.nps _
  hl := ((h.hl.alloc o).grown hg (own_off h.own h.ll)).far h.nls _
  hs := ((h.hs.alloc o).grown hg (own_off h.own h.ls)).set_ 0 _
  own := own_set ho h.ls 0 _
  lp := h.lp
  ll := h.ll
  ls := h.ls
  npl := h.npl
  nps := h.nps
  nls := h.nls
  hB := by
    have h1 := hg.size
    have h2 := h.hB
    rw [World.size_setCell]
    simp at h1
    omega

theorem Pk.cells (h : Pk wr B gp gl gs p len A n c P) : wr.cell? ⟨gp, 0, none⟩ = some (.int .i64 p) ∧ wr.cell? ⟨gl, 0, none⟩ = some (.int .i64 len) ∧ wr.cell? ⟨gs, 0, none⟩ = some (.slice A n c) := ⟨h.hp.cell 0, h.hl.cell 0, h.hs.cell 0⟩
end

/-- what the closure leaves -/
def Collected (wr : World) (D B gp gl gs : Nat) (U : List Nat) (w' : World) : Prop :=
  ∃ p len A n c P, Pk w' B gp gl gs p (len : Nat) A n c P ∧ St U P len p ∧ len < 8 ∧ Below D wr w'

set_option maxRecDepth 100000 in
set_option maxHeartbeats 3200000 in
theorem collect_any (wr : World) (D B gp gl gs : Nat) (p v z : Int) (len b : Nat) (A : Option Addr) (n c : Nat) (P : List UInt8) (U vb : List Nat) (h : Pk wr B gp gl gs p len A n c P) (hst : St U P len p)
    (hlen : len < 8) (hb : b ≤ 8) (hz : z = b) (hvb : vb.length = b) (hi : isBits vb) (hv : v = (num2 vb : Nat)) (hD : D ≤ gp ∧ D ≤ gl ∧ D ≤ gs ∧ D ≤ B) (hU : U.length ≤ 700000) :
    Calls Tryd.prog 44 #[.int .i64 v, .int .i64 z, .pointer (some ⟨gp, 0, none⟩), .pointer (some ⟨gl, 0, none⟩), .pointer (some ⟨gs, 0, none⟩)] wr fun e w' => e = .returned (.tuple #[]) ∧ Collected wr D B gp gl gs (U ++ vb) w' := by
  obtain ⟨i0, hi1, hz0, hsz, hby⟩ := inf_parts Tryd.inf_u8
  have HI := Lib.hid hi1
  have HZ0 := Lib.hid hz0
  have HSZ := Lib.hid hsz
  have HBY := Lib.hid hby
  clear hi1 hz0 hsz hby
  subst hz
  have hv1 : v < 2 ^ b := by
    rw [hv, show (2 : Int) ^ b = ((2 ^ b : Nat) : Int) from by rw [Int.natCast_pow]; rfl]
    exact_mod_cast num2_lt b vb hvb hi
  have hv0 : 0 ≤ v := by omega
  obtain ⟨q, hq⟩ : ∃ q, q = bits .or .i64 (wrap64 (p * 2 ^ b)) v := ⟨_, rfl⟩
  have HM := Lib.hid (hst.more (q := q) vb b hvb hi hv hlen hb (by rw [hq]; exact or_low p v b hb hv0 hv1))
  have hq2 := hq.symm
  obtain ⟨c1, c2, c3⟩ := h.cells
  have f1 := h.hp.frozen 0
  have f2 := h.hl.frozen 0
  have n1 := h.npl
  have n2 := h.nps
  have n3 := h.nls
  have n1' := h.npl.symm
  have n2' := h.nps.symm
  have n3' := h.nls.symm
  have hnl : 8 * n ≤ U.length := by
    obtain ⟨R, h1, _⟩ := hst
    have h2 := own_len h.own
    have h3 := congrArg List.length h1
    rw [List.length_append, unb_len, h2] at h3
    omega
  have HP1 := Lib.hid ((h.setp q).setl ((len : Int) + b))
  have HB1 : Hid (Below D wr ((wr.setCell ⟨gp, 0, none⟩ (.int .i64 q)).setCell ⟨gl, 0, none⟩ (.int .i64 ((len : Int) + b)))) := Lib.hid (((Below.refl _ _).setCell hD.1 _).setCell hD.2.1 _)
  have HD := Lib.hid hD
  have HUL : Hid ((U ++ vb).length = U.length + b) := Lib.hid (by rw [List.length_append, hvb])
  clear h hst hq hD hv hi hvb
  by_cases h8 : 8 ≤ len + b
  · obtain ⟨m, hm⟩ : ∃ m, m = len + b - 8 := ⟨_, rfl⟩
    have hm8 : m < 8 := by omega
    have hme : (len : Int) + b - 8 = m := by omega
    have HST := Lib.hid (HM.out.byte (m := m) (by omega) hm8)
    have HP2 := Lib.hid (HP1.out.setl m)
    have HB2 : Hid (Below D wr (((wr.setCell ⟨gp, 0, none⟩ (.int .i64 q)).setCell ⟨gl, 0, none⟩ (.int .i64 ((len : Int) + b))).setCell ⟨gl, 0, none⟩ (.int .i64 m))) := Lib.hid (HB1.out.setCell HD.out.2.1 _)
    clear HP1 HB1 hm
    go_enter Tryd.func44, Tryd.ntmps44
    go_wp2_with fail
    generalize ((wr.setCell ⟨gp, 0, none⟩ (.int .i64 q)).setCell ⟨gl, 0, none⟩ (.int .i64 ((len : Int) + b))).setCell ⟨gl, 0, none⟩ (.int .i64 m) = W at *
    clear c1 c2 c3 f1 f2
    obtain ⟨c1, c2, c3⟩ := HP2.out.cells
    have f3 := HP2.out.hs.frozen 0
    have s1 : gp < W.heap.size := HP2.out.hp.lt
    have s2 : gl < W.heap.size := HP2.out.hl.lt
    have s3 : gs < W.heap.size := HP2.out.hs.lt
    have ap := (own_off HP2.out.own HP2.out.lp).symm
    have al := (own_off HP2.out.own HP2.out.ll).symm
    have as_ := (own_off HP2.out.own HP2.out.ls).symm
    have hBW := HP2.out.hB
    have hal := ((Below.refl W.heap.size W).alloc (Nat.le_refl _) (.cells #[.int .u8 (IntKind.u8.wrap (q / 2 ^ m))] 5)).drew
    have tst : (W.alloc (.cells #[.int .u8 (IntKind.u8.wrap (q / 2 ^ m))] 5)).drew.cell? ⟨gs, 0, none⟩ = some (.slice A n c) ∧ (W.alloc (.cells #[.int .u8 (IntKind.u8.wrap (q / 2 ^ m))] 5)).drew.cell? ⟨gp, 0, none⟩ = some (.int .i64 q) ∧ (W.alloc (.cells #[.int .u8 (IntKind.u8.wrap (q / 2 ^ m))] 5)).drew.cell? ⟨gl, 0, none⟩ = some (.int .i64 m) ∧ (W.alloc (.cells #[.int .u8 (IntKind.u8.wrap (q / 2 ^ m))] 5)).drew.frozen? ⟨gs, 0, none⟩ = false := ⟨(hal.cell (p := ⟨gs, 0, none⟩) s3).trans c3, (hal.cell (p := ⟨gp, 0, none⟩) s1).trans c1, (hal.cell (p := ⟨gl, 0, none⟩) s2).trans c2, (hal.frozen (p := ⟨gs, 0, none⟩) s3).trans f3⟩
    obtain ⟨t1, t2, t3, t4⟩ := tst
    have u1 : (W.alloc (.cells #[.int .u8 (IntKind.u8.wrap (q / 2 ^ m))] 5)).cell? ⟨gs, 0, none⟩ = some (.slice A n c) := t1
    go_region_law
      (
        refine step_append_lies _ (by rfl) _ _ _ (by rfl) B 5 i0 _ 1 1 Tryd.underlying26 HI.out HZ0.out HSZ.out HBY.out rfl (by omega) (.slice A n c) n (bc P) (by rfl) ((HP2.out.own.alloc _).drew)
          ⟨W.heap.size, 0, none⟩ 1 1 [.int .u8 (IntKind.u8.wrap (q / 2 ^ m))] (by rfl) (by rfl) (World.news_of_block (cs := #[.int .u8 (IntKind.u8.wrap (q / 2 ^ m))]) (t := 5) (fr := (0, 0)) (heap_alloc_new W _)) (by simp [Value.oneCell'])
          (by omega) (by unfold maxLen; omega) (by omega) (by simp; omega) (W.heap.size + 1) (by simp) ?_
        intro gg cap w1 hown1 hgrow hat hlt
        have v1 := (hgrow.cell_far ⟨gs, 0, none⟩ (by simp; omega) (Ne.symm as_)).trans t1
        have v2 := (hgrow.frozen_far ⟨gs, 0, none⟩ (by simp; omega) (Ne.symm as_)).trans t4)
    all_goals
      go_end0
      have hown2 : w1.ownsRow B 5 1 (.slice (some ⟨gg, 0, none⟩) (n + 1) cap) (n + 1) (bc (P ++ [byt (q / 2 ^ m)])) := by
        rw [bc_append]
        have e : bc [byt (q / 2 ^ m)] = [.int .u8 (IntKind.u8.wrap (q / 2 ^ m))] := by
          show [Value.int .u8 ((byt (q / 2 ^ m)).toNat : Int)] = _
          rw [byt_val, IntKind.wrap_u8]
        rw [e]
        exact hown1
      exact ⟨rfl, q, m, _, _, _, _, HP2.out.draw.push hgrow hown2, HST.out, hm8, ((HB2.out.alloc (Nat.le_trans HD.out.2.2.2 hBW) _).drew.grown hgrow (by simp; have := HD.out.2.2.2; omega) (fun k hk => Nat.le_trans HD.out.2.2.2 (own_from HP2.out.own k hk))).setCell HD.out.2.2.1 _⟩
  · go_enter Tryd.func44, Tryd.ntmps44
    go_wp2_with fail
    go_end0
    exact ⟨rfl, q, len + b, _, _, _, _, HP1.out, HM.out, by omega, HB1.out⟩

theorem and31 (z : Int) : bits .and .i64 z 31 = z % 32 := by
  have e1 : (BitVec.ofInt 64 z).toNat = (z % 18446744073709551616).toNat := BitVec.toNat_ofInt z
  have e2 : (BitVec.ofInt 64 (31 : Int)).toNat = 31 := by decide
  show IntKind.i64.wrap (((BitVec.ofInt 64 z &&& BitVec.ofInt 64 (31 : Int)).toNat : Nat) : Int) = _
  rw [BitVec.toNat_and, e1, e2, nat_mask5, wrap_i64_eq]
  unfold wrap64
  omega

theorem St.lens {U : List Nat} {P : List UInt8} {len : Nat} {p : Int} (h : St U P len p) : U.length = 8 * P.length + len := by
  obtain ⟨R, h1, h2, _⟩ := h
  rw [← h1, List.length_append, unb_len, h2]

theorem St.done {zs : List Int} {P : List UInt8} {k : Nat} {p : Int} (h : St (raw zs ++ List.replicate k 0) P 0 p) (hk : k < 8) : P = packL zs := by
  have hl := h.lens
  obtain ⟨R, h1, h2, _⟩ := h
  rw [List.eq_nil_of_length_eq_zero h2, List.append_nil] at h1
  apply unb_inj
  rw [h1, unb_packL]
  unfold pad
  rw [List.length_append, List.length_replicate] at hl
  rw [show (8 - (raw zs).length % 8) % 8 = k from by omega]

theorem flat_take {zs : List Int} {j : Nat} (hj : j < zs.length) : (zs.take (j + 1)).flatMap bits5 = (zs.take j).flatMap bits5 ++ bits5 (zs.getD j 0) := by
  rw [List.take_succ_eq_append_getElem hj, List.flatMap_append]
  simp [List.getD, hj]

theorem num2_zeros (k : Nat) : num2 (List.replicate k 0) = 0 := by
  induction k with
  | zero => rfl
  | succ k ih => rw [List.replicate_succ', num2_snoc, ih]

theorem isBits_zeros (k : Nat) : isBits (List.replicate k 0) := fun x hx => by
  have := List.eq_of_mem_replicate hx
  omega

theorem num5 (z : Int) : z % 32 = (num2 (bits5 z) : Nat) := by rw [num2_5]; omega

theorem Collected.after {w0 wr w' : World} {D B gp gl gs : Nat} {U : List Nat} (hb : Below D w0 wr) (h : Collected wr D B gp gl gs U w') : Collected w0 D B gp gl gs U w' := by
  obtain ⟨p, len, A, n, c, P, h1, h2, h3, h4⟩ := h
  exact ⟨p, len, A, n, c, P, h1, h2, h3, hb.trans h4⟩

set_option maxRecDepth 100000 in
set_option maxHeartbeats 6400000 in
theorem pack_any (w : World) (A : Option Addr) (n c : Nat) (zs : List Int) (h : RdI w w.heap.size A n zs) (hn : (n : Int) ≤ 100000) :
    Calls Tryd.prog 23 #[.slice A n c] w (OutO w.heap.size w (packL zs)) := by
  have hmf : ∀ (fn : Fn) (first cap : Array Value) (w : World), (Instr.makeFunc fn first cap).run Tryd.prog w = .ok (.func fn first cap) w := fun _ _ _ _ => rfl
  have hke : Enters 44 := ⟨_, Tryd.func44, by kernel_rfl, by kernel_rfl⟩
  have hk := hke.run
  clear hke
  have H := Lib.hid h
  have HL := Lib.hid h.1
  clear h
  obtain ⟨g, hg⟩ : ∃ g, g = w.heap.size := ⟨_, rfl⟩
  have b0 : Below g w (((w.alloc (.cells #[.slice none 0 0] 26)).alloc (.cells #[.int .i64 0] 3)).alloc (.cells #[.int .i64 0] 3)) := by
    subst hg
    exact (((Below.refl _ _).alloc (Nat.le_refl _) _).alloc (by simp) _).alloc (by simp; omega) _
  have p0 : Pk (((w.alloc (.cells #[.slice none 0 0] 26)).alloc (.cells #[.int .i64 0] 3)).alloc (.cells #[.int .i64 0] 3)) (g + 3) (g + 1) (g + 1 + 1) g 0 0 none 0 0 [] := by
    subst hg
    refine ⟨(Blk.new_at _ _ _ _ (by simp)).alloc _, Blk.new_at _ _ _ _ (by simp), ((Blk.new _ _ _).alloc _).alloc _, own_nil _ _ _, by omega, by omega, by omega, by omega, by omega, by omega, by simp⟩
  obtain ⟨W, hW⟩ : ∃ W, W = ((w.alloc (.cells #[.slice none 0 0] 26)).alloc (.cells #[.int .i64 0] 3)).alloc (.cells #[.int .i64 0] 3) := ⟨_, rfl⟩
  rw [← hW] at b0 p0
  have HB0 := Lib.hid b0
  have HP0 : Hid (Collected W g (g + 3) (g + 1) (g + 1 + 1) g [] W) := Lib.hid ⟨0, 0, none, 0, 0, [], p0, St.start, by omega, Below.refl _ _⟩
  have HD : Hid (g ≤ g + 1 ∧ g ≤ g + 1 + 1 ∧ g ≤ g ∧ g ≤ g + 3) := Lib.hid ⟨by omega, by omega, by omega, by omega⟩
  have HGW := Lib.hid hg
  clear b0 p0
  go_enter Tryd.func23, Tryd.ntmps23
  go_wp2_with fail
  rw [← hg, ← hW]
  have HW := Lib.hid hW
  clear hW hg
  go_loopw [12] (fun i wr => ∃ j : Nat, j ≤ n ∧ i = .int .i64 j ∧ Hid (Collected W g (g + 3) (g + 1) (g + 1 + 1) g ((zs.take j).flatMap bits5) wr)) (fun i _ => n - (intOf i).toNat)
  case atStart => exact ⟨0, Nat.zero_le _, rfl, HP0⟩
  case round =>
    obtain ⟨j, hj, rfl, HC⟩ := hrel
    by_cases hlt : j < n
    · obtain ⟨p, len, A1, n1, c1, P, hpk, hst, hlen, hbel⟩ := HC.out
      have HPK := Lib.hid hpk
      have HST := Lib.hid hst
      have HBE := Lib.hid hbel
      have hgw := HGW.out
      obtain ⟨ad, rfl, _, hc⟩ := (H.out.below (by rw [← hgw]; exact HB0.out.trans hbel)).2.1 (by omega)
      have k1 := hc j (by rw [HL.out]; exact hlt)
      have HF := Lib.hid (flat_take (zs := zs) (j := j) (by rw [HL.out]; exact hlt))
      have hul : ((zs.take j).flatMap bits5).length ≤ 700000 := by rw [flat5_len, List.length_take]; omega
      have HUL := Lib.hid hul
      obtain ⟨z, hz⟩ : ∃ z, z = zs.getD j 0 := ⟨_, rfl⟩
      rw [← hz] at k1 HF
      have hand := and31 z
      clear hc hpk hst hbel hz hul hgw
      go_wp2_with fail
      refine (collect_any wr g (g + 3) (g + 1) (g + 1 + 1) g p (z % 32) 5 len 5 A1 n1 c1 P _ (bits5 z) HPK.out HST.out hlen (by omega) rfl rfl (isBits_5 z) (num5 z) HD.out HUL.out).mono ?_
      rintro e w2 ⟨rfl, hC⟩
      have HC2 : Hid (Collected W g (g + 3) (g + 1) (g + 1 + 1) g ((zs.take (j + 1)).flatMap bits5) w2) := Lib.hid (by rw [HF.out]; exact hC.after HBE.out)
      clear hC hand k1
      go_wp2_with fail
      go_roundw
      case rel => exact ⟨j + 1, by omega, by go_num, HC2⟩
      case measure => simp [intOf]; omega
    · have hjn : zs.take j = zs := List.take_of_length_le (by rw [HL.out]; omega)
      have hC := HC.out
      rw [hjn] at hC
      obtain ⟨p, len, A1, n1, c1, P, hpk, hst, hlen, hbel⟩ := hC
      have HPK := Lib.hid hpk
      have HST := Lib.hid hst
      have HBE := Lib.hid hbel
      have hul : (zs.flatMap bits5).length ≤ 700000 := by rw [flat5_len, HL.out]; omega
      have HUL := Lib.hid hul
      clear hpk hst hbel hul hjn
      go_wp2_with fail
      refine (collect_any wr g (g + 3) (g + 1) (g + 1 + 1) g p 31 5 len 5 A1 n1 c1 P _ (bits5 31) HPK.out HST.out hlen (by omega) rfl rfl (isBits_5 31) (by decide) HD.out HUL.out).mono ?_
      rintro e w2 ⟨rfl, p2, len2, A2, n2, c2, P2, hpk, hst, hlen2, hbel⟩
      have HPK2 := Lib.hid hpk
      have HST2 : Hid (St (raw zs) P2 len2 p2) := Lib.hid hst
      have HBE2 := Lib.hid (HB0.out.trans (HBE.out.trans hbel))
      obtain ⟨d1, d2, d3⟩ := hpk.cells
      clear hpk hst hbel
      by_cases h0 : len2 = 0
      · subst h0
        go_wp2_with fail
        go_ret
        have hP : P2 = packL zs := St.done (k := 0) (by simpa using HST2.out) (by omega)
        have hb := HBE2.out
        have ho := HPK2.out.own
        rw [HGW.out] at hb ho
        rw [← hP]
        exact ⟨A2, n2, c2, rfl, own_base ho (by omega), hb⟩
      · have hl0 : (0 : Int) < (len2 : Int) := by omega
        have hUL2 : (raw zs).length ≤ 700000 := by rw [raw_len, HL.out]; omega
        have HUL2 := Lib.hid hUL2
        clear hUL2
        go_wp2_with fail
        refine (collect_any w2 g (g + 3) (g + 1) (g + 1 + 1) g p2 0 (8 - (len2 : Int)) len2 (8 - len2) A2 n2 c2 P2 _ (List.replicate (8 - len2) 0) HPK2.out HST2.out hlen2 (by omega) (by omega) (by simp) (isBits_zeros _) (by rw [num2_zeros]; rfl) HD.out HUL2.out).mono ?_
        rintro e w3 ⟨rfl, p3, len3, A3, n3, c3, P3, hpk, hst, hlen3, hbel⟩
        have h3 : len3 = 0 := by
          have h4 := hst.lens
          have h5 := HST2.out.lens
          rw [List.length_append, List.length_replicate] at h4
          omega
        subst h3
        have HP : Hid (P3 = packL zs) := Lib.hid (hst.done (by omega))
        have HPK3 := Lib.hid hpk
        have HBE3 := Lib.hid (HBE2.out.trans hbel)
        clear d1 d2 d3
        obtain ⟨d1, d2, d3⟩ := hpk.cells
        clear hpk hst hbel
        go_wp2_with fail
        go_ret
        have hb := HBE3.out
        have ho := HPK3.out.own
        rw [HGW.out] at hb ho
        rw [← HP.out]
        exact ⟨A3, n3, c3, rfl, own_base ho (by omega), hb⟩

end Go.Proofs.YtpfkkmjodhpkoaaDoor
