/- Contract of Join: strings.Join by the library's contract, laid at this program's numbers. -/
import Derived.Test.YteglmkifpdedbaaRows
import Derived.Test.YteglmkifpdedbaaStrsR
import Derived.Test.YteglmkifpdedbaaJoinR
import Derived.Shelf.Strings.OnBuilder
namespace Go.Proofs.Yteglmkifpdedbaa
open Go.RowKit

def joinRen : Go.Shelf.Ren := ⟨fun | 156 => 42 | 165 => 44 | 166 => 45 | 169 => 46 | 240 => 47 | 241 => 48 | 276 => 49 | 277 => 50 | n => n, fun | 31 => 25 | 9 => 9 | 3 => 3 | 4 => 4 | 0 => 0 | 20 => 20 | 72 => 40 | 76 => 44 | 70 => 38 | 37 => 34 | 75 => 43 | 127 => 47 | 164 => 48 | 5 => 5 | 80 => 46 | n => n, fun | n => n⟩

theorem joinLays : Go.Proofs.Lays.n156 Try.prog joinRen := {
  mixed := by kernel_rfl
  f156 := Try.func42.trans (congrArg some (by kernel_rfl))
  f165 := Try.func44.trans (congrArg some (by kernel_rfl))
  f166 := Try.func45.trans (congrArg some (by kernel_rfl))
  f169 := Try.func46.trans (congrArg some (by kernel_rfl))
  f240 := Try.func47.trans (congrArg some (by kernel_rfl))
  f241 := Try.func48.trans (congrArg some (by kernel_rfl))
  f276 := Try.func49.trans (congrArg some (by kernel_rfl))
  f277 := Try.func50.trans (congrArg some (by kernel_rfl))
  t0 := Try.underlying0
  a0 := Try.isAgg0
  z0 := Try.sizeOf0
  v0 := Try.zeroValue0
  t3 := Try.underlying3
  a3 := Try.isAgg3
  z3 := Try.sizeOf3
  v3 := Try.zeroValue3
  t4 := Try.underlying4
  a4 := Try.isAgg4
  z4 := Try.sizeOf4
  v4 := Try.zeroValue4
  t9 := Try.underlying9
  a9 := Try.isAgg9
  z9 := Try.sizeOf9
  v9 := Try.zeroValue9
  t20 := Try.underlying20
  a20 := Try.isAgg20
  z20 := Try.sizeOf20
  v20 := Try.zeroValue20
  t31 := Try.underlying25
  a31 := Try.isAgg25
  z31 := Try.sizeOf25
  v31 := Try.zeroValue25
  t37 := Try.underlying34
  a37 := Try.isAgg34
  z37 := Try.sizeOf34
  v37 := Try.zeroValue34
  t70 := Try.underlying38
  a70 := Try.isAgg38
  z70 := Try.sizeOf38
  v70 := Try.zeroValue38
  t72 := Try.underlying40
  a72 := Try.isAgg40
  z72 := Try.sizeOf40
  v72 := Try.zeroValue40
  t75 := Try.underlying43
  a75 := Try.isAgg43
  z75 := Try.sizeOf43
  v75 := Try.zeroValue43
  t76 := Try.underlying44
  a76 := Try.isAgg44
  z76 := Try.sizeOf44
  v76 := Try.zeroValue44
  t127 := Try.underlying47
  a127 := Try.isAgg47
  z127 := Try.sizeOf47
  v127 := Try.zeroValue47
  t164 := Try.underlying48
  a164 := Try.isAgg48
  z164 := Try.sizeOf48
  v164 := Try.zeroValue48 }

theorem joinExtra : Builder.Extra Try.prog joinRen := {
  sizeBuilder := by kernel_rfl
  liesBuilder := by kernel_rfl
  t5 := Try.underlying5
  a5 := Try.isAgg5
  z5 := Try.sizeOf5
  v5 := Try.zeroValue5
  infoByte := by kernel_rfl
  cellsByte := by kernel_rfl
  sizeByte := by kernel_rfl
  neB5 := by decide }

theorem cell_plain {w : World} {a : Addr} {v : Value} (h : w.cell? a = some v) : a = ⟨a.block, a.off, none⟩ := by
  unfold World.cell? at h
  split at h
  · split at h
    · cases h
    · rename_i hs
      cases a with
      | mk b o sp =>
        cases sp with
        | none => rfl
        | some x => simp at hs
  · cases h

theorem map_data (ls : List (List UInt8)) : (ls.map bs).map (·.data.toList) = ls := by
  rw [List.map_map]
  have : (fun x : List UInt8 => (bs x).data.toList) = id := funext fun x => data_bs x
  exact (congrArg (fun f => ls.map f) this).trans (List.map_id _)

theorem sjoin_any (w : World) (B : Nat) (A : Option Addr) (n c : Nat) (ls : List (List UInt8)) (sep : ByteArray) (h : RdS w B A n ls) (hB : B ≤ w.heap.size) (hc : n ≤ c) (hn : n ≤ 1000000) (hT : ((Lib.join ls sep.data.toList).length : Int) ≤ 1000000000) :
    Calls Try.prog 42 #[.slice A n c, .string sep] w fun e w' => e = .returned (.string (bs (Lib.join ls sep.data.toList))) ∧ Below w.heap.size w w' := by
  rcases Nat.eq_zero_or_pos n with h0 | h0
  · subst h0
    obtain rfl : ls = [] := List.eq_nil_of_length_eq_zero h.1
    exact (Any.strings_Join_none joinLays joinExtra A c sep w).mono fun e w' ⟨he, hw⟩ => ⟨he, hw ▸ Below.refl _ _⟩
  · obtain ⟨ad, rfl, hb, hcell⟩ := h.2 h0
    have hl := h.1
    have h1 := cell_plain (hcell 0 (by omega))
    have hp : ad = ⟨ad.block, ad.off, none⟩ := h1
    have hlen : (ls.map bs).length = n := by rw [List.length_map, hl]
    have hj := Any.strings_Join joinLays joinExtra ad.block ad.off c (ls.map bs) sep w (fun j x hx => by
        have hjl : j < ls.length := by
          have := (List.getElem?_eq_some_iff.1 hx).1
          simpa using this
        have e := hcell j hjl
        rw [hp] at e
        rw [Addr.add_lit] at e
        rw [e]
        rw [List.getElem?_map, List.getElem?_eq_getElem hjl] at hx
        simp only [Option.map_some, Option.some.injEq] at hx
        rw [← hx, List.getElem?_eq_getElem hjl]
        rfl) (by omega) (by omega) (by omega) (by rw [map_data]; omega)
    rw [map_data, hlen, ← hp] at hj
    exact hj

set_option maxRecDepth 100000 in
theorem join_any (w : World) (B : Nat) (A : Option Addr) (n c : Nat) (ls : List (List UInt8)) (sep : ByteArray) (h : RdS w B A n ls) (hB : B ≤ w.heap.size) (hc : n ≤ c) (hn : n ≤ 1000000) (hT : ((Lib.join ls sep.data.toList).length : Int) ≤ 1000000000) :
    Calls Try.prog 22 #[.slice A n c, .string sep] w fun e w' => e = .returned (.string (bs (Lib.join ls sep.data.toList))) ∧ Below w.heap.size w w' := by
  have H := Lib.hid h
  clear h
  go_enter Try.func22, Try.ntmps22
  go_wp2_with fail
  refine (sjoin_any w B A n c ls sep H.out hB hc hn hT).mono ?_
  rintro e w1 ⟨rfl, hb1⟩
  go_wp2_with fail
  go_ret
  exact ⟨rfl, hb1⟩

end Go.Proofs.Yteglmkifpdedbaa
