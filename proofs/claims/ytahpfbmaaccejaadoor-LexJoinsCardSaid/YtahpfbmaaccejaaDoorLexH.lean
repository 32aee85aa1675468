/- Contract of the reference's one: the token that begins at a place. -/
import Derived.Test.YtahpfbmaaccejaaDoorLexC
import Derived.Test.YtahpfbmaaccejaaDoorLexE
import Derived.Test.YtahpfbmaaccejaaDoorLexF
import Derived.Test.YtahpfbmaaccejaaDoorLexG
import Derived.Test.YtahpfbmaaccejaaDoorToks
namespace Go.Proofs.YtahpfbmaaccejaaDoor
open Go.RowKit

theorem five_one (a : Int) (b : ByteArray) (c d e : Int) : (#[Value.int .i64 a, .string b, .int .i64 c, .int .i64 d, .int .i64 e]).all (·.oneCell') = true := by simp [Value.oneCell']
theorem tok_size : (Tryd.prog.info? 34).map (·.size) = some 5 := by kernel_rfl

theorem results_c3 {P : Program} {fn : Func} {p u v x : Tmp} {ty : TypeId} (h : fn.results = #[.cell p ty, .tmp u, .tmp v, .tmp x]) (tmps : Array Value) (w : World) (g : Nat) (t : TypeId) (cs : Array Value) (fr : Nat × Nat) (d : TypeDesc)
    (hp : tmps.getD p undef = .pointer (some ⟨g, 0, none⟩)) (hg : w.heap[g]? = some (.cells cs t fr))
    (hu : P.underlying ty = some d) (hd : (match d with | .struct _ | .array _ _ => true | _ => false) = true) (hi : (P.info? ty).map (·.size) = some cs.size) :
    (results fn tmps).run P w = .ok (.tuple #[.agg cs, tmps.getD u undef, tmps.getD v undef, tmps.getD x undef]) w := by
  have hp' : tmps[p]?.getD undef = .pointer (some ⟨g, 0, none⟩) := by simpa using hp
  simp [results, h, hp', asAddr, run_loadVar_row w g t ty cs fr d hg hu hd hi]

theorem put_tok {W V : World} {cs ds : Array Value} {t : TypeId} (h : V = (W.alloc (.cells cs t)).setRow W.heap.size ds) : Blk V W.heap.size t ds ∧ Below W.heap.size W V := by
  subst h
  exact ⟨setRow_heap _ _ _ _ _ _ (Blk.new W _ _), below_setRow ((Below.refl _ _).alloc (Nat.le_refl _) _) (Nat.le_refl _) _⟩

/-- what one hands back, out of what the token comes to -/
def OneOut (T : Tk × Nat × Int × Nat) (i : Nat) (e : Ending) : Prop := ∃ to wv : Nat, e = .returned (.tuple #[tkV T.1, .int .i64 to, .int .i64 T.2.2.1, .int .i64 wv]) ∧ (T.2.2.1 = 0 → to = i + T.2.1) ∧ (T.2.2.1 ≠ 0 → wv = i + T.2.2.2)

theorem OneOut.mk {T : Tk × Nat × Int × Nat} {i : Nat} {t : Tk} {n : Nat} {er : Int} {wh : Nat} (hT : T = (t, n, er, wh)) (to wv : Nat) (v : Value) (hv : v = tkV t) (h1 : er = 0 → to = i + n) (h2 : er ≠ 0 → wv = i + wh) : OneOut T i (.returned (.tuple #[v, .int .i64 to, .int .i64 er, .int .i64 wv])) := by
  subst hT hv
  exact ⟨to, wv, rfl, h1, h2⟩

section
variable {keys : List UInt8 → Bool} {c : UInt8} {r : List UInt8}
theorem one_t (h : (c.toNat : Int) = 34) : oneTk keys (c :: r) = (⟨3, (textF 1 [] r).1, 0, 0, 0⟩, (textF 1 [] r).2.1, (textF 1 [] r).2.2.1, (textF 1 [] r).2.2.2) := if_pos h

def stuckL (l : List UInt8) : Bool := match l.head? with
  | some d => isSm d || isCp d || decide ((d.toNat : Int) = 95)
  | none => false
def numE (b : Bool) (N : Nat) : Int := if b = true then 4 else if 32767 < N then 5 else 0

theorem stuck_eq (s : ByteArray) (t : Nat) : stuck s t = stuckL (s.data.toList.drop t) := by
  unfold stuck stuckL
  cases (s.data.toList.drop t).head? <;> rfl

theorem one_n (h : ¬ (c.toNat : Int) = 34) (hd : isDg c = true) (n : Nat) (hn : n = rowF false (c :: r)) : oneTk keys (c :: r) =
    (⟨2, [], if numE (stuckL ((c :: r).drop n) || (decide ((c.toNat : Int) = 48) && decide (1 < n))) (numL ((c :: r).take n)) = 0 then (numL ((c :: r).take n) : Int) else 0, 0, 0⟩, n, numE (stuckL ((c :: r).drop n) || (decide ((c.toNat : Int) = 48) && decide (1 < n))) (numL ((c :: r).take n)), 0) := by
  subst hn
  have e : oneTk keys (c :: r) = if isDg c = true then _ else _ := if_neg h
  rw [e, if_pos hd]
  dsimp only
  unfold stuckL numE
  cases ((c :: r).drop (rowF false (c :: r))).head? <;> rfl

theorem one_w (h : ¬ (c.toNat : Int) = 34) (hd : isDg c = false) (hs : isSm c = true) (n : Nat) (hn : n = rowF true (c :: r)) : oneTk keys (c :: r) =
    (⟨if keys ((c :: r).take n) = true then 4 else 1, (c :: r).take n, 0, 0, 0⟩, n, if 24 < n then 9 else 0, 0) := by
  subst hn
  exact (if_neg h).trans ((if_neg (by rw [hd]; decide)).trans (if_pos hs))

theorem one_no (h : ¬ (c.toNat : Int) = 34) (hd : isDg c = false) (hs : isSm c = false) (hg : signL (c :: r) = 0) : oneTk keys (c :: r) = (⟨0, [], 0, 0, 0⟩, 0, 13, 0) :=
  (if_neg h).trans ((if_neg (by rw [hd]; decide)).trans ((if_neg (by rw [hs]; decide)).trans (if_pos hg)))
theorem one_g (h : ¬ (c.toNat : Int) = 34) (hd : isDg c = false) (hs : isSm c = false) (hg : ¬ signL (c :: r) = 0) : oneTk keys (c :: r) = (⟨5, (c :: r).take (signL (c :: r)), 0, 0, 0⟩, signL (c :: r), 0, 0) :=
  (if_neg h).trans ((if_neg (by rw [hd]; decide)).trans ((if_neg (by rw [hs]; decide)).trans (if_neg hg)))
end

theorem isDg_34 {c : UInt8} (h : isDg c = true) : ¬ (c.toNat : Int) = 34 := by unfold isDg at h; simp at h; omega
theorem isSm_34 {c : UInt8} (h : isSm c = true) : ¬ (c.toNat : Int) = 34 := by unfold isSm at h; simp at h; omega

/-- number's answer by its letters -/
theorem nrV_eq (b : Bool) (N : Nat) : nrV b N = .tuple #[.int .i64 (if numE b N = 0 then (N : Int) else 0), .int .i64 (numE b N)] := by
  unfold nrV numE
  cases b with
  | true => simp
  | false =>
    by_cases h : 32767 < N
    · simp [h]
    · simp [h]

theorem bs_ext (s : ByteArray) (i n : Nat) : s.extract i (i + n) = bs ((s.data.toList.drop i).take n) := by
  rw [← ext_list, bs_data]

set_option maxRecDepth 100000 in
set_option maxHeartbeats 12800000 in
theorem r9one_any (w : World) (s : ByteArray) (i : Nat) (hi : i < s.size) (hs : (s.size : Int) ≤ 100000) :
    Calls Tryd.prog 28 #[.string s, .int .i64 i] w fun e w' => OneOut (oneTk keyB (s.data.toList.drop i)) i e ∧ Below w.heap.size w w' := by
  obtain ⟨T, hT⟩ : ∃ T, T = oneTk keyB (s.data.toList.drop i) := ⟨_, rfl⟩
  have HT : Hid (T = oneTk keyB (s[i] :: s.data.toList.drop (i + 1))) := Lib.hid (by rw [hT, drop_at hi])
  rw [← hT]
  clear hT
  have HD := Lib.hid (drop_at hi)
  have hcl := s[i].toNat_lt
  obtain ⟨W, hW⟩ : ∃ W, W = w.alloc (.cells #[.int .i64 0, .string ⟨#[]⟩, .int .i64 0, .int .i64 0, .int .i64 0] 34) := ⟨_, rfl⟩
  have HK : Hid (Blk W w.heap.size 34 #[.int .i64 0, .string ⟨#[]⟩, .int .i64 0, .int .i64 0, .int .i64 0]) := Lib.hid (by rw [hW]; exact Blk.new _ _ _)
  have HB : Hid (Below w.heap.size w W) := Lib.hid (by rw [hW]; exact (Below.refl _ _).alloc (Nat.le_refl _) _)
  by_cases h34 : (s[i].toNat : Int) = 34
  · have HE : Hid (T = _) := Lib.hid (HT.out.trans (one_t h34))
    have t34 : ((s[i].toNat : Int) == 34) = true := by simpa using h34
    clear h34 HT HD
    go_enter Tryd.func28, Tryd.ntmps28
    go_wp2_with fail
    rw [← hW]
    clear hW
    refine (r9text_any W s i hi hs).mono ?_
    rintro e w1 ⟨rfl, rfl⟩
    obtain ⟨X, hX⟩ : ∃ X, X = textF 1 [] (s.data.toList.drop (i + 1)) := ⟨_, rfl⟩
    rw [← hX] at HE ⊢
    clear hX
    obtain ⟨x, n, er, wh⟩ := X
    unfold txV
    obtain ⟨to, hto⟩ : ∃ to : Nat, to = if er = 0 then i + n else 0 := ⟨_, rfl⟩
    obtain ⟨wv, hwv⟩ : ∃ wv : Nat, wv = if er = 0 then 0 else i + wh := ⟨_, rfl⟩
    simp only []
    rw [← hto, ← hwv]
    have H1 : Hid (er = 0 → to = i + n) := Lib.hid (fun h => by rw [hto, if_pos h])
    have H2 : Hid (er ≠ 0 → wv = i + wh) := Lib.hid (fun h => by rw [hwv, if_neg h])
    clear hto hwv
    go_wp2_with (refine wpList_store_row rfl 34 _ _ rfl w.heap.size #[.int .i64 3, .string (bs x), .int .i64 0, .int .i64 0, .int .i64 0] rfl rfl _ _ HK.out tok_size rfl (five_one _ _ _ _ _) ?_)
    (try simp only [Exit.inBlock, Exit.then]); refine bodyPost_ret (results_c3 rfl _ _ _ _ _ _ _ rfl (setRow_heap _ _ _ _ _ _ HK.out) Tryd.underlying34 rfl (by kernel_rfl)) rfl ?_
    exact ⟨OneOut.mk HE.out to wv _ rfl H1.out H2.out, below_setRow HB.out (Nat.le_refl _) _⟩
  · have t34 : ((s[i].toNat : Int) == 34) = false := by simpa using h34
    have H34 := Lib.hid h34
    clear h34
    cases hd : isDg s[i] with
    | true =>
      obtain ⟨n, hn⟩ : ∃ n, n = rowF false (s[i] :: s.data.toList.drop (i + 1)) := ⟨_, rfl⟩
      have HE : Hid (T = _) := Lib.hid (HT.out.trans (one_n H34.out hd n hn))
      have h1 : 1 ≤ n := by rw [hn, rowF_on (by rw [hd]; rfl)]; omega
      have HN : Hid (n = rowF false (s.data.toList.drop i)) := Lib.hid (by rw [HD.out, hn])
      have HDG := Lib.hid hd
      clear hn hd HT
      go_enter Tryd.func28, Tryd.ntmps28
      go_wp2_with fail
      rw [← hW]
      clear hW
      refine (r9digit_any W s[i]).mono ?_
      rintro e w1 ⟨rfl, rfl⟩
      rw [HDG.out]
      go_wp2_with fail
      refine (r9row_any W s i false (Nat.le_of_lt hi) hs).mono ?_
      rintro e w1 ⟨rfl, rfl⟩
      rw [← HN.out]
      obtain ⟨to, hto⟩ : ∃ to, to = i + n := ⟨_, rfl⟩
      rw [← hto]
      have HTO := Lib.hid hto
      clear hto
      go_wp2_with fail
      refine (r9number_any W s i to n hi HN.out HTO.out h1 hs).mono ?_
      rintro e w1 ⟨rfl, rfl⟩
      rw [nrV_eq, stuck_eq, show (List.drop to s.data.toList) = List.drop n (s[i] :: s.data.toList.drop (i + 1)) from by rw [HTO.out, ← HD.out, List.drop_drop], HD.out]
      obtain ⟨er, her⟩ : ∃ er, er = numE (stuckL (List.drop n (s[i] :: s.data.toList.drop (i + 1))) || (decide ((s[i].toNat : Int) = 48) && decide (1 < n))) (numL (List.take n (s[i] :: s.data.toList.drop (i + 1)))) := ⟨_, rfl⟩
      rw [← her] at HE ⊢
      clear her
      obtain ⟨v, hv⟩ : ∃ v : Int, v = if er = 0 then (numL (List.take n (s[i] :: s.data.toList.drop (i + 1))) : Int) else 0 := ⟨_, rfl⟩
      rw [← hv] at HE ⊢
      clear hv
      go_wp2_with (refine wpList_store_row rfl 34 _ _ rfl w.heap.size #[.int .i64 2, .string ⟨#[]⟩, .int .i64 v, .int .i64 0, .int .i64 0] rfl rfl _ _ HK.out tok_size rfl (five_one _ _ _ _ _) ?_)
      (try simp only [Exit.inBlock, Exit.then]); refine bodyPost_ret (results_c3 rfl _ _ _ _ _ _ _ rfl (setRow_heap _ _ _ _ _ _ HK.out) Tryd.underlying34 rfl (by kernel_rfl)) rfl ?_
      exact ⟨OneOut.mk HE.out to i _ rfl (fun _ => HTO.out) (fun _ => rfl), below_setRow HB.out (Nat.le_refl _) _⟩
    | false =>
      have HDG := Lib.hid hd
      cases hsm : isSm s[i] with
      | true =>
        have HSM := Lib.hid hsm
        obtain ⟨n, hn⟩ : ∃ n, n = rowF true (s[i] :: s.data.toList.drop (i + 1)) := ⟨_, rfl⟩
        have HE : Hid (T = _) := Lib.hid (HT.out.trans (one_w H34.out hd hsm n hn))
        have h1 : 1 ≤ n := by rw [hn, rowF_on (by rw [hsm]; simp)]; omega
        have hn2 := rowF_len true (s[i] :: s.data.toList.drop (i + 1))
        rw [← hn, ← HD.out, List.length_drop, show s.data.toList.length = s.size from by rw [Array.length_toList]; rfl] at hn2
        have HN : Hid (n = rowF true (s.data.toList.drop i)) := Lib.hid (by rw [HD.out, hn])
        have HX : Hid (s.extract i (i + n) = bs ((s[i] :: s.data.toList.drop (i + 1)).take n)) := Lib.hid (by rw [bs_ext, HD.out])
        obtain ⟨to, hto⟩ : ∃ to, to = i + n := ⟨_, rfl⟩
        have ht2 : to ≤ s.size := by omega
        have hit : i < to := by omega
        rw [← hto] at HX
        have HTO := Lib.hid hto
        clear hn hd HT hsm hn2 hto
        obtain ⟨x, hx⟩ : ∃ x, x = (s[i] :: s.data.toList.drop (i + 1)).take n := ⟨_, rfl⟩
        have hxl : x.length = n := by
          rw [hx, ← HD.out, List.length_take, List.length_drop, show s.data.toList.length = s.size from by rw [Array.length_toList]; rfl]
          have := HTO.out
          omega
        have HXL := Lib.hid hxl
        rw [← hx] at HX HE
        clear hx hxl
        go_enter Tryd.func28, Tryd.ntmps28
        go_wp2_with fail
        rw [← hW]
        clear hW
        refine (r9digit_any W s[i]).mono ?_
        rintro e w1 ⟨rfl, rfl⟩
        rw [HDG.out]
        go_wp2_with fail
        refine (r9small_any W s[i]).mono ?_
        rintro e w1 ⟨rfl, rfl⟩
        rw [HSM.out]
        go_wp2_with fail
        refine (r9row_any W s i true (Nat.le_of_lt hi) hs).mono ?_
        rintro e w1 ⟨rfl, rfl⟩
        rw [← HN.out, ← HTO.out]
        have hxs : (s.extract i to).size = n := by rw [HX.out, bs_size]; exact HXL.out
        have hn9 : (n : Int) ≤ 100000 := by have := HTO.out; omega
        go_wp2_with (refine wpList_store_row rfl 34 _ _ rfl W.heap.size #[.int .i64 1, .string (s.extract i to), .int .i64 0, .int .i64 0, .int .i64 0] rfl rfl _ _ (Blk.new W _ _) tok_size rfl (five_one _ _ _ _ _) ?_; obtain ⟨V, hV⟩ : ∃ V, V = (W.alloc (.cells #[.int .i64 0, .string ⟨#[]⟩, .int .i64 0, .int .i64 0, .int .i64 0] 34)).setRow W.heap.size #[.int .i64 1, .string (s.extract i to), .int .i64 0, .int .i64 0, .int .i64 0] := ⟨_, rfl⟩; rw [← hV]; obtain ⟨hkV, hbV⟩ := put_tok hV; have HKV := Lib.hid hkV; have HBV := Lib.hid hbV; clear hV hkV hbV; have f1 : V.cell? ⟨W.heap.size, 1, none⟩ = some (.string (s.extract i to)) := HKV.out.cell 1)
        refine (r9Key_any V (s.extract i to)).mono ?_
        rintro e w1 ⟨rfl, rfl⟩
        have HK0 := Lib.hid (HK.out.below HBV.out HK.out.lt)
        have HBW := Lib.hid (HB.out.trans (HBV.out.mono HB.out.size))
        have HNE : Hid (w.heap.size ≠ W.heap.size) := Lib.hid (Nat.ne_of_lt HK.out.lt)
        have HGE : Hid (w.heap.size ≤ W.heap.size) := Lib.hid HB.out.size
        obtain ⟨q, hq⟩ : ∃ q, q = keyB (s.extract i to).data.toList := ⟨_, rfl⟩
        rw [← hq]
        rw [show (s.extract i to).data.toList = x from by rw [HX.out]; simp [bs]] at hq
        rw [← hq] at HE
        clear hq
        cases q with
        | true =>
          have z0 : V.frozen? ⟨W.heap.size, 0, none⟩ = false := HKV.out.frozen 0
          have f2 : (V.setCell ⟨W.heap.size, 0, none⟩ (.int .i64 4)).cell? ⟨W.heap.size, 1, none⟩ = some (.string (s.extract i to)) := (HKV.out.set_ 0 (.int .i64 4)).cell 1
          have HK2 : Hid (Blk (V.setCell ⟨W.heap.size, 0, none⟩ (.int .i64 4)) W.heap.size 34 #[.int .i64 4, .string (s.extract i to), .int .i64 0, .int .i64 0, .int .i64 0]) := Lib.hid (HKV.out.set_ 0 (.int .i64 4))
          have HK3 : Hid (Blk (V.setCell ⟨W.heap.size, 0, none⟩ (.int .i64 4)) w.heap.size 34 #[.int .i64 0, .string ⟨#[]⟩, .int .i64 0, .int .i64 0, .int .i64 0]) := Lib.hid (HK0.out.far HNE.out _)
          have HB3 : Hid (Below w.heap.size w (V.setCell ⟨W.heap.size, 0, none⟩ (.int .i64 4))) := Lib.hid (HBW.out.setCell HGE.out _)
          have f0 : V.cell? ⟨W.heap.size, 0, none⟩ = some (.int .i64 1) := HKV.out.cell 0
          by_cases h24 : 24 < n
          · have h24i : (24 : Int) < (n : Int) := by omega
            have HE9 : Hid (T = (⟨4, x, 0, 0, 0⟩, n, 9, 0)) := Lib.hid (by rw [HE.out, if_pos rfl, if_pos h24])
            clear h24 HE
            go_wp2_with (first | (refine wpList_load_row rfl 34 _ rfl W.heap.size rfl 34 #[.int .i64 4, .string (s.extract i to), .int .i64 0, .int .i64 0, .int .i64 0] (0, 0) _ HK2.out Tryd.underlying34 rfl tok_size ?_) | (refine wpList_store_row rfl 34 _ _ rfl w.heap.size #[.int .i64 4, .string (s.extract i to), .int .i64 0, .int .i64 0, .int .i64 0] rfl rfl _ _ HK3.out tok_size rfl (five_one _ _ _ _ _) ?_))
            (try simp only [Exit.inBlock, Exit.then]); refine bodyPost_ret (results_c3 rfl _ _ _ _ _ _ _ rfl (setRow_heap _ _ _ _ _ _ HK3.out) Tryd.underlying34 rfl (by kernel_rfl)) rfl ?_
            exact ⟨OneOut.mk HE9.out to i _ (by rw [HX.out]; rfl) (fun _ => HTO.out) (fun _ => rfl), below_setRow HB3.out (Nat.le_refl _) _⟩
          · have h24i : ¬ (24 : Int) < (n : Int) := by omega
            have HE9 : Hid (T = (⟨4, x, 0, 0, 0⟩, n, 0, 0)) := Lib.hid (by rw [HE.out, if_pos rfl, if_neg h24])
            clear h24 HE
            go_wp2_with (first | (refine wpList_load_row rfl 34 _ rfl W.heap.size rfl 34 #[.int .i64 4, .string (s.extract i to), .int .i64 0, .int .i64 0, .int .i64 0] (0, 0) _ HK2.out Tryd.underlying34 rfl tok_size ?_) | (refine wpList_store_row rfl 34 _ _ rfl w.heap.size #[.int .i64 4, .string (s.extract i to), .int .i64 0, .int .i64 0, .int .i64 0] rfl rfl _ _ HK3.out tok_size rfl (five_one _ _ _ _ _) ?_))
            (try simp only [Exit.inBlock, Exit.then]); refine bodyPost_ret (results_c3 rfl _ _ _ _ _ _ _ rfl (setRow_heap _ _ _ _ _ _ HK3.out) Tryd.underlying34 rfl (by kernel_rfl)) rfl ?_
            exact ⟨OneOut.mk HE9.out to 0 _ (by rw [HX.out]; rfl) (fun _ => HTO.out) (fun h => absurd rfl h), below_setRow HB3.out (Nat.le_refl _) _⟩
        | false =>
          by_cases h24 : 24 < n
          · have h24i : (24 : Int) < (n : Int) := by omega
            have HE9 : Hid (T = (⟨1, x, 0, 0, 0⟩, n, 9, 0)) := Lib.hid (by rw [HE.out, if_neg (by decide), if_pos h24])
            clear h24 HE
            go_wp2_with (first | (refine wpList_load_row rfl 34 _ rfl W.heap.size rfl 34 #[.int .i64 1, .string (s.extract i to), .int .i64 0, .int .i64 0, .int .i64 0] (0, 0) _ HKV.out Tryd.underlying34 rfl tok_size ?_) | (refine wpList_store_row rfl 34 _ _ rfl w.heap.size #[.int .i64 1, .string (s.extract i to), .int .i64 0, .int .i64 0, .int .i64 0] rfl rfl _ _ HK0.out tok_size rfl (five_one _ _ _ _ _) ?_))
            (try simp only [Exit.inBlock, Exit.then]); refine bodyPost_ret (results_c3 rfl _ _ _ _ _ _ _ rfl (setRow_heap _ _ _ _ _ _ HK0.out) Tryd.underlying34 rfl (by kernel_rfl)) rfl ?_
            exact ⟨OneOut.mk HE9.out to i _ (by rw [HX.out]; rfl) (fun _ => HTO.out) (fun _ => rfl), below_setRow HBW.out (Nat.le_refl _) _⟩
          · have h24i : ¬ (24 : Int) < (n : Int) := by omega
            have HE9 : Hid (T = (⟨1, x, 0, 0, 0⟩, n, 0, 0)) := Lib.hid (by rw [HE.out, if_neg (by decide), if_neg h24])
            clear h24 HE
            go_wp2_with (first | (refine wpList_load_row rfl 34 _ rfl W.heap.size rfl 34 #[.int .i64 1, .string (s.extract i to), .int .i64 0, .int .i64 0, .int .i64 0] (0, 0) _ HKV.out Tryd.underlying34 rfl tok_size ?_) | (refine wpList_store_row rfl 34 _ _ rfl w.heap.size #[.int .i64 1, .string (s.extract i to), .int .i64 0, .int .i64 0, .int .i64 0] rfl rfl _ _ HK0.out tok_size rfl (five_one _ _ _ _ _) ?_))
            (try simp only [Exit.inBlock, Exit.then]); refine bodyPost_ret (results_c3 rfl _ _ _ _ _ _ _ rfl (setRow_heap _ _ _ _ _ _ HK0.out) Tryd.underlying34 rfl (by kernel_rfl)) rfl ?_
            exact ⟨OneOut.mk HE9.out to 0 _ (by rw [HX.out]; rfl) (fun _ => HTO.out) (fun h => absurd rfl h), below_setRow HBW.out (Nat.le_refl _) _⟩
      | false =>
        have HSM := Lib.hid hsm
        have HE0 : Hid (signL (s[i] :: s.data.toList.drop (i + 1)) = 0 → T = _) := Lib.hid (fun h => HT.out.trans (one_no H34.out hd hsm h))
        have HE1 : Hid (¬ signL (s[i] :: s.data.toList.drop (i + 1)) = 0 → T = _) := Lib.hid (fun h => HT.out.trans (one_g H34.out hd hsm h))
        have HSL : Hid (signL (s.data.toList.drop i) ≤ (s.data.toList.drop i).length) := Lib.hid (signL_len _)
        clear hsm hd HT
        go_enter Tryd.func28, Tryd.ntmps28
        go_wp2_with fail
        rw [← hW]
        clear hW
        refine (r9digit_any W s[i]).mono ?_
        rintro e w1 ⟨rfl, rfl⟩
        rw [HDG.out]
        go_wp2_with fail
        refine (r9small_any W s[i]).mono ?_
        rintro e w1 ⟨rfl, rfl⟩
        rw [HSM.out]
        go_wp2_with fail
        refine (r9sign_any W s i hi hs).mono ?_
        rintro e w1 ⟨rfl, hb1⟩
        have HB1 := Lib.hid (HB.out.trans (hb1.mono HB.out.size))
        have HK1 := Lib.hid (HK.out.below hb1 HK.out.lt)
        clear hb1
        have hsl := HSL.out
        rw [List.length_drop, show s.data.toList.length = s.size from by rw [Array.length_toList]; rfl] at hsl
        clear HSL
        obtain ⟨k, hk⟩ : ∃ k, k = signL (s.data.toList.drop i) := ⟨_, rfl⟩
        rw [← hk] at hsl ⊢
        rw [← HD.out, ← hk] at HE0
        rw [← HD.out, ← hk] at HE1
        clear hk
        by_cases h0 : k = 0
        · have HE := Lib.hid (HE0.out h0)
          subst h0
          clear HE0 HE1
          go_wp2_with (refine wpList_store_row rfl 34 _ _ rfl w.heap.size #[.int .i64 0, .string ⟨#[]⟩, .int .i64 0, .int .i64 0, .int .i64 0] rfl rfl _ _ HK1.out tok_size rfl (five_one _ _ _ _ _) ?_)
          (try simp only [Exit.inBlock, Exit.then]); refine bodyPost_ret (results_c3 rfl _ _ _ _ _ _ _ rfl (setRow_heap _ _ _ _ _ _ HK1.out) Tryd.underlying34 rfl (by kernel_rfl)) rfl ?_
          exact ⟨OneOut.mk HE.out 0 i _ rfl (fun h => absurd h (by decide)) (fun _ => rfl), below_setRow HB1.out (Nat.le_refl _) _⟩
        · have HE := Lib.hid (HE1.out h0)
          have tk0 : ((k : Int) == 0) = false := by simpa using h0
          have HX : Hid (s.extract i (i + k) = bs ((s.data.toList.drop i).take k)) := Lib.hid (bs_ext s i k)
          clear HE0 HE1
          go_wp2_with (refine wpList_store_row rfl 34 _ _ rfl w.heap.size #[.int .i64 5, .string (s.extract i (i + k)), .int .i64 0, .int .i64 0, .int .i64 0] rfl rfl _ _ HK1.out tok_size rfl (five_one _ _ _ _ _) ?_)
          (try simp only [Exit.inBlock, Exit.then]); refine bodyPost_ret (results_c3 rfl _ _ _ _ _ _ _ rfl (setRow_heap _ _ _ _ _ _ HK1.out) Tryd.underlying34 rfl (by kernel_rfl)) rfl ?_
          refine ⟨OneOut.mk HE.out (i + k) 0 _ ?_ (fun _ => rfl) (fun h => absurd rfl h), below_setRow HB1.out (Nat.le_refl _) _⟩
          rw [HX.out]
          rfl

end Go.Proofs.YtahpfbmaaccejaaDoor
