/- Names and faults as structs: how they are loaded, how they are compared; contracts of the reference's Find, Of, Text, Rises, of the statements' sameNames. -/
import Derived.Test.YtgeglhgkibcpfaaDoorRows
import Derived.Test.YtgeglhgkibcpfaaDoorNams
import Derived.Test.YtgeglhgkibcpfaaDoorLexJ
import Derived.Test.YtgeglhgkibcpfaaDoorLexK
import Derived.Laws.StructEq
namespace Go.Proofs.YtgeglhgkibcpfaaDoor
open Go.RowKit
set_option linter.unusedVariables false

theorem nm_size : (Tryd.prog.info? 45).map (·.size) = some 3 := by kernel_rfl
theorem nm_one (a : ByteArray) (b c : Int) : (#[Value.string a, .int .i64 b, .int .i64 c]).all (·.oneCell') = true := by simp [Value.oneCell']
theorem nm_fields : (Tryd.prog.fieldsOf 45).toList.map (fun f => (f.name, f.type, f.offset)) = [("Name", 9, 0), ("Kind", 3, 1), ("Num", 3, 2)] := by kernel_rfl
theorem nm_under : Tryd.prog.underlying 45 = some (.struct (Tryd.prog.fieldsOf 45)) := by kernel_rfl
theorem nm_stood : Tryd.prog.stoodInHeld 45 = false := by kernel_rfl
theorem nm_guard : Tryd.prog.eqGuardType Tryd.prog.depth 45 = false := by kernel_rfl
theorem fau_size : (Tryd.prog.info? 30).map (·.size) = some 4 := by kernel_rfl
theorem fau_one (a b c : Int) (d : ByteArray) : (#[Value.int .i64 a, .int .i64 b, .int .i64 c, .string d]).all (·.oneCell') = true := by simp [Value.oneCell']
theorem fau_fields : (Tryd.prog.fieldsOf 30).toList.map (fun f => (f.name, f.type, f.offset)) = [("Err", 28, 0), ("Part", 3, 1), ("Num", 3, 2), ("Name", 9, 3)] := by kernel_rfl
theorem fau_under : Tryd.prog.underlying 30 = some (.struct (Tryd.prog.fieldsOf 30)) := by kernel_rfl
theorem fau_stood : Tryd.prog.stoodInHeld 30 = false := by kernel_rfl
theorem fau_guard : Tryd.prog.eqGuardType Tryd.prog.depth 30 = false := by kernel_rfl

theorem results_ct {P : Program} {fn : Func} {p u : Tmp} {ty : TypeId} (h : fn.results = #[.cell p ty, .tmp u]) (tmps : Array Value) (w : World) (g : Nat) (t : TypeId) (cs : Array Value) (fr : Nat × Nat) (d : TypeDesc)
    (hp : tmps.getD p undef = .pointer (some ⟨g, 0, none⟩)) (hg : w.heap[g]? = some (.cells cs t fr))
    (hu : P.underlying ty = some d) (hd : (match d with | .struct _ | .array _ _ => true | _ => false) = true) (hi : (P.info? ty).map (·.size) = some cs.size) :
    (results fn tmps).run P w = .ok (.tuple #[.agg cs, tmps.getD u undef]) w := by
  have hp' : tmps[p]?.getD undef = .pointer (some ⟨g, 0, none⟩) := by simpa using hp
  simp [results, h, hp', asAddr, run_loadVar_row w g t ty cs fr d hg hu hd hi]

theorem eq_nms (d : Nat) (a b : Nm) (w : World) : ∀ fs : List Field, fs.map (fun f => (f.name, f.type, f.offset)) = [("Name", 9, 0), ("Kind", 3, 1), ("Num", 3, 2)] →
    (Op.eqFields (d + 1) (nmc a).toArray (nmc b).toArray fs).run Tryd.prog w = .ok (decide (a = b)) w := by
  intro fs h
  obtain ⟨f1, r1, rfl, e1, h⟩ := List.map_eq_cons_iff.1 h
  obtain ⟨f2, r2, rfl, e2, h⟩ := List.map_eq_cons_iff.1 h
  obtain ⟨f3, r3, rfl, e3, h⟩ := List.map_eq_cons_iff.1 h
  obtain rfl := List.map_eq_nil_iff.1 h
  simp only [Prod.mk.injEq] at e1 e2 e3
  obtain ⟨n1, t1, o1⟩ := e1
  obtain ⟨n2, t2, o2⟩ := e2
  obtain ⟨n3, t3, o3⟩ := e3
  have hnil : (Op.eqFields (d + 1) (nmc a).toArray (nmc b).toArray []).run Tryd.prog w = .ok (decide True) w := by simp [Op.eqFields, Sem.run_pure]
  · skip
    rw [eqF_str (a := bs a.name) (b := bs b.name) (by rw [n1]; decide) (by rw [t1]; exact Tryd.underlying9) (by rw [o1]; rfl) (by rw [o1]; rfl),
      eqF_int (a := a.kind) (b := b.kind) (by rw [n2]; decide) (by rw [t2]; exact Tryd.underlying3) (by rw [o2]; rfl) (by rw [o2]; rfl),
      eqF_int (a := a.num) (b := b.num) (by rw [n3]; decide) (by rw [t3]; exact Tryd.underlying3) (by rw [o3]; rfl) (by rw [o3]; rfl), bs_list, bs_list]
    refine (if_dec (p := a.name = b.name) (beq_dec9 _ _) (if_dec (p := a.kind = b.kind) (beq_dec9 _ _) (if_dec (p := a.num = b.num) (q := True) (beq_dec9 _ _) hnil))).trans ?_
    congr 1
    obtain ⟨x1, k1, m1⟩ := a
    obtain ⟨x2, k2, m2⟩ := b
    simp [Nm.mk.injEq]

/-- a fault by value -/
def fauV (f : Int × Int × Int × List UInt8) : Value := .agg #[.int .i64 f.1, .int .i64 f.2.1, .int .i64 f.2.2.1, .string (bs f.2.2.2)]
theorem eq_faus (d : Nat) (a b : Int × Int × Int × List UInt8) (w : World) : ∀ fs : List Field, fs.map (fun f => (f.name, f.type, f.offset)) = [("Err", 28, 0), ("Part", 3, 1), ("Num", 3, 2), ("Name", 9, 3)] →
    (Op.eqFields (d + 1) #[.int .i64 a.1, .int .i64 a.2.1, .int .i64 a.2.2.1, .string (bs a.2.2.2)] #[.int .i64 b.1, .int .i64 b.2.1, .int .i64 b.2.2.1, .string (bs b.2.2.2)] fs).run Tryd.prog w = .ok (decide (a = b)) w := by
  intro fs h
  obtain ⟨f1, r1, rfl, e1, h⟩ := List.map_eq_cons_iff.1 h
  obtain ⟨f2, r2, rfl, e2, h⟩ := List.map_eq_cons_iff.1 h
  obtain ⟨f3, r3, rfl, e3, h⟩ := List.map_eq_cons_iff.1 h
  obtain ⟨f4, r4, rfl, e4, h⟩ := List.map_eq_cons_iff.1 h
  obtain rfl := List.map_eq_nil_iff.1 h
  simp only [Prod.mk.injEq] at e1 e2 e3 e4
  obtain ⟨n1, t1, o1⟩ := e1
  obtain ⟨n2, t2, o2⟩ := e2
  obtain ⟨n3, t3, o3⟩ := e3
  obtain ⟨n4, t4, o4⟩ := e4
  have hnil : (Op.eqFields (d + 1) #[.int .i64 a.1, .int .i64 a.2.1, .int .i64 a.2.2.1, .string (bs a.2.2.2)] #[.int .i64 b.1, .int .i64 b.2.1, .int .i64 b.2.2.1, .string (bs b.2.2.2)] []).run Tryd.prog w = .ok (decide True) w := by simp [Op.eqFields, Sem.run_pure]
  · skip
    rw [eqF_int (a := a.1) (b := b.1) (by rw [n1]; decide) (by rw [t1]; exact Tryd.underlying28) (by rw [o1]; rfl) (by rw [o1]; rfl),
      eqF_int (a := a.2.1) (b := b.2.1) (by rw [n2]; decide) (by rw [t2]; exact Tryd.underlying3) (by rw [o2]; rfl) (by rw [o2]; rfl),
      eqF_int (a := a.2.2.1) (b := b.2.2.1) (by rw [n3]; decide) (by rw [t3]; exact Tryd.underlying3) (by rw [o3]; rfl) (by rw [o3]; rfl),
      eqF_str (a := bs a.2.2.2) (b := bs b.2.2.2) (by rw [n4]; decide) (by rw [t4]; exact Tryd.underlying9) (by rw [o4]; rfl) (by rw [o4]; rfl), bs_list, bs_list]
    refine (if_dec (p := a.1 = b.1) (beq_dec9 _ _) (if_dec (p := a.2.1 = b.2.1) (beq_dec9 _ _) (if_dec (p := a.2.2.1 = b.2.2.1) (beq_dec9 _ _) (if_dec (p := a.2.2.2 = b.2.2.2) (q := True) (beq_dec9 _ _) hnil)))).trans ?_
    congr 1
    obtain ⟨a1, a2, a3, a4⟩ := a
    obtain ⟨b1, b2, b3, b4⟩ := b
    simp [Prod.mk.injEq]

theorem run_eql_nm (a b : Nm) (w : World) : (binOp .eql 45 (nmV a) (nmV b)).run Tryd.prog w = .ok (.bool (decide (a = b))) w := by
  have h := eq_nms 9998 a b w _ nm_fields
  unfold nmV
  rw [run_eql_struct, run_equalIn_struct w 9999 _ _ _ nm_under nm_stood]
  rw [show (#[Value.string (bs a.name), .int .i64 a.kind, .int .i64 a.num]) = (nmc a).toArray from rfl, show (#[Value.string (bs b.name), .int .i64 b.kind, .int .i64 b.num]) = (nmc b).toArray from rfl, h]
  rfl
theorem run_neq_nm (a b : Nm) (w : World) : (binOp .neq 45 (nmV a) (nmV b)).run Tryd.prog w = .ok (.bool (!decide (a = b))) w := by
  have h := eq_nms 9998 a b w _ nm_fields
  unfold nmV
  rw [run_neq_struct, run_equalIn_struct w 9999 _ _ _ nm_under nm_stood]
  rw [show (#[Value.string (bs a.name), .int .i64 a.kind, .int .i64 a.num]) = (nmc a).toArray from rfl, show (#[Value.string (bs b.name), .int .i64 b.kind, .int .i64 b.num]) = (nmc b).toArray from rfl, h]
  rfl
theorem guard_nm (op : BinOp) (x y : Operand) (a b : Nm) (w : World) : (eqGuard op 45 x y (nmV a) (nmV b)).run Tryd.prog w = .ok () w := run_eqGuard_agg w op _ x y _ _ nm_guard
theorem run_eql_fau (a b : Int × Int × Int × List UInt8) (w : World) : (binOp .eql 30 (fauV a) (fauV b)).run Tryd.prog w = .ok (.bool (decide (a = b))) w := by
  have h := eq_faus 9998 a b w _ fau_fields
  unfold fauV
  rw [run_eql_struct, run_equalIn_struct w 9999 _ _ _ fau_under fau_stood, h]
  rfl
theorem run_neq_fau (a b : Int × Int × Int × List UInt8) (w : World) : (binOp .neq 30 (fauV a) (fauV b)).run Tryd.prog w = .ok (.bool (!decide (a = b))) w := by
  have h := eq_faus 9998 a b w _ fau_fields
  unfold fauV
  rw [run_neq_struct, run_equalIn_struct w 9999 _ _ _ fau_under fau_stood, h]
  rfl
theorem guard_fau (op : BinOp) (x y : Operand) (a b : Int × Int × Int × List UInt8) (w : World) : (eqGuard op 30 x y (fauV a) (fauV b)).run Tryd.prog w = .ok () w := run_eqGuard_agg w op _ x y _ _ fau_guard

theorem nm_cells {w : World} {B : Nat} {ad : Addr} {n : Nat} {ts : List Nm} (h : RdN w B (some ad) n ts) {j : Nat} (hj : j < n) : w.cell? (ad.add (j * 3)) = some (.string (bs (ts[j]?.getD noNm).name)) ∧
    w.cell? ⟨(ad.add (j * 3)).block, (ad.add (j * 3)).off + 1, none⟩ = some (.int .i64 (ts[j]?.getD noNm).kind) ∧ w.cell? ⟨(ad.add (j * 3)).block, (ad.add (j * 3)).off + 2, none⟩ = some (.int .i64 (ts[j]?.getD noNm).num) := by
  obtain ⟨ad', e, _, h2⟩ := h.2 (by omega)
  cases e
  exact h2 j (by rw [h.1]; exact hj)
theorem nm_addr {w : World} {B : Nat} {A : Option Addr} {n : Nat} {ts : List Nm} (h : RdN w B A n ts) (hn : 0 < n) : ∃ ad, A = some ad ∧ ad.block < B := by
  obtain ⟨ad, e, hb, _⟩ := h.2 hn
  exact ⟨ad, e, hb⟩

theorem nms_all {ts us : List Nm} (hl : ts.length = us.length) (h : ∀ j, j < ts.length → ts[j]?.getD noNm = us[j]?.getD noNm) : ts = us := by
  apply List.ext_getElem hl
  intro j h1 h2
  have := h j h1
  rw [List.getElem?_eq_getElem h1, List.getElem?_eq_getElem h2] at this
  exact this

theorem nm_drop {ts : List Nm} {j : Nat} (h : j < ts.length) : ts.drop j = ts[j]?.getD noNm :: ts.drop (j + 1) := by
  rw [List.drop_eq_getElem_cons h, List.getElem?_eq_getElem h]
  rfl

set_option maxRecDepth 100000 in
set_option maxHeartbeats 3200000 in
theorem r15Find_any (w : World) (A : Option Addr) (n c : Nat) (ts : List Nm) (s : ByteArray) (h : RdN w w.heap.size A n ts) (hn : (n : Int) ≤ 100000) :
    Calls Tryd.prog 16 #[.slice A n c, .string s] w fun e w' => e = .returned (.tuple #[nmV ((findI ts s.data.toList).getD noNm), .bool (findI ts s.data.toList).isSome]) ∧ Below w.heap.size w w' := by
  have HR := Lib.hid h
  have hl := h.1
  have HL := Lib.hid hl
  clear h hl
  obtain ⟨R, hR⟩ : ∃ R, R = findI ts s.data.toList := ⟨_, rfl⟩
  have HS : Hid (R = findI (ts.drop 0) s.data.toList) := Lib.hid (by rw [hR]; rfl)
  rw [← hR]
  clear hR
  obtain ⟨W, hW⟩ : ∃ W, W = w.alloc (.cells #[.string ⟨#[]⟩, .int .i64 0, .int .i64 0] 45) := ⟨_, rfl⟩
  have HBW : Hid (Below w.heap.size w W) := Lib.hid (by rw [hW]; exact (Below.refl _ _).alloc (Nat.le_refl _) _)
  have HKW : Hid (Blk W w.heap.size 45 #[.string ⟨#[]⟩, .int .i64 0, .int .i64 0]) := Lib.hid (by rw [hW]; exact Blk.new _ _ _)
  go_enter Tryd.func16, Tryd.ntmps16
  go_wp2_with fail
  rw [← hW]
  clear hW
  go_loopw [6] (fun vi wr => ∃ j : Nat, j ≤ n ∧ vi = .int .i64 j ∧ Hid (Below W.heap.size W wr) ∧ Hid (R = findI (ts.drop j) s.data.toList)) (fun vi _ => n - (intOf vi).toNat)
  case atStart => exact ⟨0, Nat.zero_le _, rfl, Lib.hid (Below.refl _ _), HS⟩
  case round =>
    clear HS
    obtain ⟨j, hj, rfl, HB, HS⟩ := hrel
    have HBR := Lib.hid (HBW.out.trans (HB.out.mono HBW.out.size))
    have HKR := Lib.hid (HKW.out.below HB.out HKW.out.lt)
    by_cases hlt : j < n
    · obtain ⟨ad, rfl, _⟩ := nm_addr HR.out (by omega)
      obtain ⟨a0, a1, a2⟩ := nm_cells (HR.out.below HBR.out) hlt
      have hd := nm_drop (ts := ts) (j := j) (by rw [HL.out]; exact hlt)
      obtain ⟨t, ht⟩ : ∃ t, t = ts[j]?.getD noNm := ⟨_, rfl⟩
      rw [← ht] at a0 a1 a2 hd
      have HN : Hid (R = if t.name = s.data.toList then some t else findI (ts.drop (j + 1)) s.data.toList) := Lib.hid (by rw [HS.out, hd]; rfl)
      clear ht hd
      by_cases hs : t.name = s.data.toList
      · have hq : ((bs t.name).toList == s.toList) = true := by rw [bs_list, beq_dec9, Lib.toList_data]; exact decide_eq_true hs
        have HE : Hid (R = some t) := Lib.hid (by rw [HN.out, if_pos hs])
        clear HN HS hs
        go_wp2_with (refine wpList_store_row rfl 45 _ _ rfl w.heap.size #[.string (bs t.name), .int .i64 t.kind, .int .i64 t.num] rfl rfl _ _ HKR.out nm_size rfl (nm_one _ _ _) ?_)
        (try simp only [Exit.inBlock, Exit.then]); refine bodyPost_ret (results_ct rfl _ _ _ _ _ _ _ rfl (setRow_heap _ _ _ _ _ _ HKR.out) Tryd.underlying45 rfl (by kernel_rfl)) rfl ?_
        exact ⟨by rw [HE.out]; rfl, below_setRow HBR.out (Nat.le_refl _) _⟩
      · have hq : ((bs t.name).toList == s.toList) = false := by rw [bs_list, beq_dec9, Lib.toList_data]; exact decide_eq_false hs
        have HE : Hid (R = findI (ts.drop (j + 1)) s.data.toList) := Lib.hid (by rw [HN.out, if_neg hs])
        clear HN HS hs
        go_wp2_with fail
        go_roundw
        case rel => exact ⟨j + 1, by omega, by go_num, HB, HE⟩
        case measure => simp [intOf]; omega
    · have HE : Hid (R = none) := Lib.hid (by rw [HS.out, List.drop_of_length_le (by rw [HL.out]; omega)]; rfl)
      clear HS
      go_wp2_with (refine wpList_store_row rfl 45 _ _ rfl w.heap.size #[.string ⟨#[]⟩, .int .i64 0, .int .i64 0] rfl rfl _ _ HKR.out nm_size rfl (nm_one _ _ _) ?_)
      (try simp only [Exit.inBlock, Exit.then]); refine bodyPost_ret (results_ct rfl _ _ _ _ _ _ _ rfl (setRow_heap _ _ _ _ _ _ HKR.out) Tryd.underlying45 rfl (by kernel_rfl)) rfl ?_
      exact ⟨by rw [HE.out]; rfl, below_setRow HBR.out (Nat.le_refl _) _⟩

set_option maxRecDepth 100000 in
set_option maxHeartbeats 3200000 in
theorem r15Of_any (w : World) (A : Option Addr) (n c : Nat) (ts : List Nm) (k : Int) (s : ByteArray) (h : RdN w w.heap.size A n ts) (hn : (n : Int) ≤ 100000) :
    Calls Tryd.prog 18 #[.slice A n c, .int .i64 k, .string s] w fun e w' => e = .returned (.tuple #[.int .i64 (ofI ts k s.data.toList).1, .int .i64 (ofI ts k s.data.toList).2]) ∧ Below w.heap.size w w' := by
  have HR := Lib.hid h
  clear h
  obtain ⟨R, hR⟩ : ∃ R, R = findI ts s.data.toList := ⟨_, rfl⟩
  have HO : Hid (ofI ts k s.data.toList = ofR k R) := Lib.hid (by rw [hR]; rfl)
  have HRR := Lib.hid hR
  clear hR
  rw [HO.out]
  clear HO
  go_enter Tryd.func18, Tryd.ntmps18
  go_wp2_with fail
  refine (r15Find_any w A n c ts s HR.out hn).mono ?_
  rintro e w1 ⟨he, hb1⟩
  rw [← HRR.out] at he
  have HB1 := Lib.hid hb1
  clear hb1
  cases R with
  | none =>
    obtain rfl : e = .returned (.tuple #[.agg #[.string ⟨#[]⟩, .int .i64 0, .int .i64 0], .bool false]) := he
    go_wp2_with (refine wpList_store_row rfl 45 _ _ rfl w1.heap.size #[.string ⟨#[]⟩, .int .i64 0, .int .i64 0] rfl rfl _ _ (Blk.new w1 _ _) nm_size rfl (nm_one _ _ _) ?_)
    go_ret2
    exact ⟨rfl, below_setRow (HB1.out.alloc HB1.out.size _) HB1.out.size _⟩
  | some t =>
    obtain rfl : e = .returned (.tuple #[.agg #[.string (bs t.name), .int .i64 t.kind, .int .i64 t.num], .bool true]) := he
    by_cases hk : t.kind = k
    · have q1 : (t.kind != k) = false := by simp [hk]
      have hv : ofR k (some t) = (t.num, 0) := if_pos hk
      have HV := Lib.hid hv
      clear hk hv
      go_wp2_with fail
      go_ret2
      exact ⟨by rw [HV.out]; rfl, by first | exact below_setRow (HB1.out.alloc HB1.out.size _) HB1.out.size _ | exact HB1.out.alloc HB1.out.size _⟩
    · have q1 : (t.kind != k) = true := by simp [hk]
      have hv : ofR k (some t) = (0, 12) := if_neg hk
      have HV := Lib.hid hv
      clear hk hv
      go_wp2_with fail
      go_ret2
      exact ⟨by rw [HV.out]; rfl, by first | exact below_setRow (HB1.out.alloc HB1.out.size _) HB1.out.size _ | exact HB1.out.alloc HB1.out.size _⟩

set_option maxRecDepth 100000 in
set_option maxHeartbeats 3200000 in
theorem r15Text_any (w : World) (A : Option Addr) (n c : Nat) (ts : List Nm) (k m : Int) (h : RdN w w.heap.size A n ts) (hn : (n : Int) ≤ 100000) :
    Calls Tryd.prog 20 #[.slice A n c, .int .i64 k, .int .i64 m] w fun e w' => e = .returned (.string (bs (textI ts k m))) ∧ Below w.heap.size w w' := by
  have HR := Lib.hid h
  have hl := h.1
  have HL := Lib.hid hl
  clear h hl
  obtain ⟨R, hR⟩ : ∃ R, R = textI ts k m := ⟨_, rfl⟩
  have HS : Hid (R = textI (ts.drop 0) k m) := Lib.hid (by rw [hR]; rfl)
  rw [← hR]
  clear hR
  go_enter Tryd.func20, Tryd.ntmps20
  go_wp2_with fail
  go_loopw [7] (fun vi wr => ∃ j : Nat, j ≤ n ∧ vi = .int .i64 j ∧ Hid (Below w.heap.size w wr) ∧ Hid (R = textI (ts.drop j) k m)) (fun vi _ => n - (intOf vi).toNat)
  case atStart => exact ⟨0, Nat.zero_le _, rfl, Lib.hid (Below.refl _ _), HS⟩
  case round =>
    clear HS
    obtain ⟨j, hj, rfl, HB, HS⟩ := hrel
    by_cases hlt : j < n
    · obtain ⟨ad, rfl, _⟩ := nm_addr HR.out (by omega)
      obtain ⟨a0, a1, a2⟩ := nm_cells (HR.out.below HB.out) hlt
      have hd := nm_drop (ts := ts) (j := j) (by rw [HL.out]; exact hlt)
      obtain ⟨t, ht⟩ : ∃ t, t = ts[j]?.getD noNm := ⟨_, rfl⟩
      rw [← ht] at a0 a1 a2 hd
      have HN : Hid (R = if t.kind = k ∧ t.num = m then t.name else textI (ts.drop (j + 1)) k m) := Lib.hid (by rw [HS.out, hd]; rfl)
      clear ht hd
      by_cases hk : t.kind = k
      · have q1 : (t.kind == k) = true := by simp [hk]
        by_cases hm : t.num = m
        · have q2 : (t.num == m) = true := by simp [hm]
          have HE : Hid (R = t.name) := Lib.hid (by rw [HN.out, if_pos ⟨hk, hm⟩])
          clear HN HS hk hm
          go_wp2_with fail
          go_ret
          exact ⟨by rw [HE.out]; rfl, HB.out⟩
        · have q2 : (t.num == m) = false := by simp [hm]
          have HE : Hid (R = textI (ts.drop (j + 1)) k m) := Lib.hid (by rw [HN.out, if_neg (fun e => hm e.2)])
          clear HN HS hk hm
          go_wp2_with fail
          go_roundw
          case rel => exact ⟨j + 1, by omega, by go_num, HB, HE⟩
          case measure => simp [intOf]; omega
      · have q1 : (t.kind == k) = false := by simp [hk]
        have HE : Hid (R = textI (ts.drop (j + 1)) k m) := Lib.hid (by rw [HN.out, if_neg (fun e => hk e.1)])
        clear HN HS hk
        go_wp2_with fail
        go_roundw
        case rel => exact ⟨j + 1, by omega, by go_num, HB, HE⟩
        case measure => simp [intOf]; omega
    · have HE : Hid (R = []) := Lib.hid (by rw [HS.out, List.drop_of_length_le (by rw [HL.out]; omega)]; rfl)
      clear HS
      go_wp2_with fail
      go_ret
      exact ⟨by rw [HE.out]; rfl, HB.out⟩

end Go.Proofs.YtgeglhgkibcpfaaDoor
