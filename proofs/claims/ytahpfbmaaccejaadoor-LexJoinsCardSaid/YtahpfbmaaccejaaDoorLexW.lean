/- Contract of the program's Quote. -/
import Derived.Test.YtahpfbmaaccejaaDoorLexA
import Derived.Test.YtahpfbmaaccejaaDoorLexK
import Derived.Test.YtahpfbmaaccejaaDoorInfo
import Derived.Lib.Strings
import Derived.Laws.EntriesVeiled
namespace Go.Proofs.YtahpfbmaaccejaaDoor
open Go.RowKit

set_option maxRecDepth 100000 in
set_option maxHeartbeats 6400000 in
theorem Quote_any (w : World) (s : ByteArray) (hs : (s.size : Int) ≤ 60000) :
    Calls Tryd.prog 16 #[.string s] w fun e w' => e = .returned (.string (bs (quoL s.data.toList))) ∧ Below w.heap.size w w' := by
  obtain ⟨L, hL⟩ : ∃ L, L = s.data.toList := ⟨_, rfl⟩
  have HL := Lib.hid hL
  have HQ : Hid (quoL s.data.toList = quoF L s.size ++ [34]) := Lib.hid (by
    unfold quoL quoF
    rw [hL, List.take_of_length_le (by rw [Array.length_toList]; exact Nat.le_refl _)]
    rfl)
  rw [HQ.out]
  clear hL HQ
  obtain ⟨i0, hi, hz0, hsz, hby⟩ := inf_parts Tryd.inf_u8
  have HI := Lib.hid hi
  have HZ0 := Lib.hid hz0
  have HSZ := Lib.hid hsz
  have HBY := Lib.hid hby
  clear hi hz0 hsz hby
  go_enter Tryd.func16, Tryd.ntmps16
  go_wp2_with fail
  go_loopw [3, 9] (fun vo vj wr => ∃ (j n c : Nat) (A : Option Addr), j ≤ s.size ∧ vo = .slice A n c ∧ vj = .int .i64 j ∧ n ≤ 2 * j + 1 ∧ Hid (wr.ownsRow w.heap.size 5 1 (.slice A n c) n (bc (quoF L j))) ∧ Hid (Below w.heap.size w wr)) (fun _ vj _ => s.size - (intOf vj).toNat)
  case atStart => exact ⟨0, 1, 1, _, Nat.zero_le _, rfl, rfl, by omega, Lib.hid (World.ownsRow_lit (base := w.heap.size) w #[.int .u8 34] 1 (Nat.le_refl _) (by unfold maxLen; omega) rfl), Lib.hid ((Below.refl _ _).alloc (Nat.le_refl _) _)⟩
  case round =>
    obtain ⟨j, n, c, A, hj, rfl, rfl, hn, HO, HB⟩ := hrel
    have hwb := HB.out.size
    by_cases hlt : j < s.size
    · have HN : Hid (quoF L (j + 1) = quoF L j ++ quo1 s[j]) := Lib.hid (by rw [HL.out]; exact quoF_next hlt)
      have hcl := s[j].toNat_lt
      by_cases h10 : (s[j].toNat : Int) = 10
      · have HE : Hid (quoF L (j + 1) = quoF L j ++ [92, 110]) := Lib.hid (by rw [HN.out, quo_10 h10])
        have t10 : ((s[j].toNat : Int) == 10) = true := by simpa using h10
        clear h10 HN
        go_wp2_with (at_builtin; refine wpList_app _ rfl _ _ 48 rfl w.heap.size 5 i0 Tryd.underlying48 HI.out HZ0.out HSZ.out HBY.out _ n (quoF L j) rfl (HO.out.alloc _) _ _ 2 2 [92, 110] rfl (Rd.lit wr [92, 110] _ _ rfl) (by omega) (by simp; omega) ?_; intro A8 c8 w8 hown8 hg8; have HO8 := Lib.hid hown8; have HB8 := Lib.hid (app_below HO.out HB.out hg8); clear hown8 hg8)
        go_roundw
        case rel => exact ⟨j + 1, n + 2, c8, A8, by omega, rfl, by go_num, by omega, Lib.hid (by rw [HE.out]; exact HO8.out), HB8⟩
        case measure => simp [intOf]; omega
      · have t10 : ((s[j].toNat : Int) == 10) = false := by simpa using h10
        by_cases h34 : (s[j].toNat : Int) = 34
        · have HE : Hid (quoF L (j + 1) = quoF L j ++ [92, s[j]]) := Lib.hid (by rw [HN.out, quo_34 h10 (.inl h34)])
          have t34 : ((s[j].toNat : Int) == 34) = true := by simpa using h34
          clear h10 h34 HN
          go_wp2_with (at_builtin; refine wpList_app _ rfl _ _ 48 rfl w.heap.size 5 i0 Tryd.underlying48 HI.out HZ0.out HSZ.out HBY.out _ n (quoF L j) rfl (HO.out.alloc _) _ _ 2 2 [92, s[j]] rfl (Rd.lit wr [92, s[j]] _ _ rfl) (by omega) (by simp; omega) ?_; intro A8 c8 w8 hown8 hg8; have HO8 := Lib.hid hown8; have HB8 := Lib.hid (app_below HO.out HB.out hg8); clear hown8 hg8)
          go_roundw
          case rel => exact ⟨j + 1, n + 2, c8, A8, by omega, rfl, by go_num, by omega, Lib.hid (by rw [HE.out]; exact HO8.out), HB8⟩
          case measure => simp [intOf]; omega
        · have t34 : ((s[j].toNat : Int) == 34) = false := by simpa using h34
          by_cases h92 : (s[j].toNat : Int) = 92
          · have HE : Hid (quoF L (j + 1) = quoF L j ++ [92, s[j]]) := Lib.hid (by rw [HN.out, quo_34 h10 (.inr h92)])
            have t92 : ((s[j].toNat : Int) == 92) = true := by simpa using h92
            clear h10 h34 h92 HN
            go_wp2_with (at_builtin; refine wpList_app _ rfl _ _ 48 rfl w.heap.size 5 i0 Tryd.underlying48 HI.out HZ0.out HSZ.out HBY.out _ n (quoF L j) rfl (HO.out.alloc _) _ _ 2 2 [92, s[j]] rfl (Rd.lit wr [92, s[j]] _ _ rfl) (by omega) (by simp; omega) ?_; intro A8 c8 w8 hown8 hg8; have HO8 := Lib.hid hown8; have HB8 := Lib.hid (app_below HO.out HB.out hg8); clear hown8 hg8)
            go_roundw
            case rel => exact ⟨j + 1, n + 2, c8, A8, by omega, rfl, by go_num, by omega, Lib.hid (by rw [HE.out]; exact HO8.out), HB8⟩
            case measure => simp [intOf]; omega
          · have HE : Hid (quoF L (j + 1) = quoF L j ++ [s[j]]) := Lib.hid (by rw [HN.out, quo_no h10 h34 h92])
            have t92 : ((s[j].toNat : Int) == 92) = false := by simpa using h92
            clear h10 h34 h92 HN
            go_wp2_with (at_builtin; refine wpList_app _ rfl _ _ 48 rfl w.heap.size 5 i0 Tryd.underlying48 HI.out HZ0.out HSZ.out HBY.out _ n (quoF L j) rfl (HO.out.alloc _) _ _ 1 1 [s[j]] rfl (Rd.one wr s[j] _) (by omega) (by simp; omega) ?_; intro A8 c8 w8 hown8 hg8; have HO8 := Lib.hid hown8; have HB8 := Lib.hid (app_below HO.out HB.out hg8); clear hown8 hg8)
            go_roundw
            case rel => exact ⟨j + 1, n + 1, c8, A8, by omega, rfl, by go_num, by omega, Lib.hid (by rw [HE.out]; exact HO8.out), HB8⟩
            case measure => simp [intOf]; omega
    · obtain rfl : j = s.size := by omega
      go_wp2_with (at_builtin; refine wpList_app _ rfl _ _ 48 rfl w.heap.size 5 i0 Tryd.underlying48 HI.out HZ0.out HSZ.out HBY.out _ n (quoF L s.size) rfl (HO.out.alloc _) _ _ 1 1 [34] rfl (Rd.lit wr [34] _ _ rfl) (by omega) (by simp; omega) ?_; intro A8 c8 w8 hown8 hg8; have HO8 := Lib.hid hown8; have HB8 := Lib.hid (app_below HO.out HB.out hg8); clear hown8 hg8; have hcv := Rd.toStr (P := Tryd.prog) (Rd.of_own HO8.out) 48 9 5 c8 Tryd.underlying48 Tryd.underlying5 Tryd.underlying9)
      go_ret
      exact ⟨rfl, HB8.out⟩

end Go.Proofs.YtahpfbmaaccejaaDoor
