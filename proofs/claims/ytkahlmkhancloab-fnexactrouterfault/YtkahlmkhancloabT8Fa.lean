/- What is proved here: what ToldFault answers, in the program and in the model, for lists of at most 1048576 things told with paths of at most 1048576 numbers. -/
import Derived.Test.YtkahlmkhancloabR7Cmp
import Derived.Test.YtkahlmkhancloabT8Lib
import Derived.Deep.CutRange
namespace Go.Proofs.Ytkahlmkhancloab
open Go.RowKit Go.Sort
set_option linter.unusedVariables false

/-- The fault of a thing told. -/
def tdf (a l o : Int) (xs : List Int) (nx md lc : Int) : Int := if pf a l = 0 then af o xs nx md lc else pf a l
def Td.f (r : Td) : Int := tdf r.a r.l r.o r.xs r.nx r.md r.lc
/-- The one stands ahead of the other. -/
def Td.lt (s r : Td) : Bool := decide (orL [cmp3 s.a r.a, cmp3 s.l r.l] < 0)
/-- The fault of the things told behind one. -/
def tdC : Option Td → List Td → Int
  | _, [] => 0
  | none, r :: R => if r.f = 0 then tdC (some r) R else r.f
  | some s, r :: R => if r.f = 0 then (if s.lt r = true then tdC (some r) R else 1) else r.f
/-- The fault of a list of things told. -/
def tdF (R : List Td) : Int := if 60 < R.length then 2 else tdC none R

theorem cmp8_eq {x y : Int} (h : x = y) : cmp3 x y = 0 := by subst h; simp [cmp3]
theorem cmp8_lt {x y : Int} (h : x < y) : cmp3 x y = -1 := by unfold cmp3; rw [if_pos h]
theorem cmp8_gt {x y : Int} (h : y < x) : cmp3 x y = 1 := by unfold cmp3; rw [if_neg (by omega), if_pos h]

set_option maxHeartbeats 1600000 in
theorem ahead8 (a l a' l' : Int) (v : Bool) (w : World) (hv : decide (orL [cmp3 a a', cmp3 l l'] < 0) = v) : Calls Try.prog 111 #[.agg #[.int .i64 a, .int .i64 l], .agg #[.int .i64 a', .int .i64 l']] w fun e w' => e = .returned (.bool v) ∧ New w w' := by
  have N0 := ((New.refl w).alloc (.cells #[.int .i64 a, .int .i64 l] 71)).alloc (.cells #[.int .i64 a', .int .i64 l'] 71)
  by_cases h : a = a'
  · have hx : (a != a') = false := by simp [h]
    by_cases hl : l < l'
    · have HV : v = true := by rw [← hv]; simp [orL, cmp8_eq h, cmp8_lt hl]
      clear hv h
      subst HV
      go_enter Try.func111, Try.ntmps111
      go_wp2
      go_ret
      exact ⟨rfl, N0⟩
    · have HV : v = false := by
        rw [← hv]
        by_cases e : l = l'
        · simp [orL, cmp8_eq h, cmp8_eq e]
        · simp [orL, cmp8_eq h, cmp8_gt (show l' < l by omega)]
      clear hv h
      subst HV
      go_enter Try.func111, Try.ntmps111
      go_wp2
      go_ret
      exact ⟨by first | rfl | exact ret_bool (decide_eq_false (by omega)), N0⟩
  · have hx : (a != a') = true := by simp [h]
    by_cases hl : a < a'
    · have HV : v = true := by rw [← hv]; simp [orL, cmp8_lt hl]
      clear hv h
      subst HV
      go_enter Try.func111, Try.ntmps111
      go_wp2
      go_ret
      exact ⟨rfl, N0⟩
    · have HV : v = false := by rw [← hv]; simp [orL, cmp8_gt (show a' < a by omega)]
      clear hv h
      subst HV
      go_enter Try.func111, Try.ntmps111
      go_wp2
      go_ret
      exact ⟨by first | rfl | exact ret_bool (decide_eq_false (by omega)), N0⟩

theorem tdC_next {q : Option Td} {R : List Td} {k : Nat} {r : Td} (h : R[k]? = some r) : tdC q (R.drop k) = if r.f = 0 then (if (match q with | none => true | some s => s.lt r) = true then tdC (some r) (R.drop (k + 1)) else 1) else r.f := by
  obtain ⟨hk, e⟩ := List.getElem?_eq_some_iff.1 h
  rw [List.drop_eq_getElem_cons hk, e]
  cases q <;> simp [tdC]

/-- The one ahead of a place. -/
def prevT (R : List Td) (k : Nat) : Option Td := if k = 0 then none else R[k - 1]?

theorem td_step {R : List Td} {k : Nat} {r : Td} (h : R[k]? = some r) (hc : tdC none R = tdC (prevT R k) (R.drop k)) (hf : r.f = 0) (hl : ∀ s, prevT R k = some s → s.lt r = true) : tdC none R = tdC (prevT R (k + 1)) (R.drop (k + 1)) := by
  rw [hc, tdC_next h, if_pos hf]
  have e : prevT R (k + 1) = some r := by unfold prevT; rw [if_neg (by omega)]; simpa using h
  rw [e]
  cases hq : prevT R k with
  | none => simp
  | some s => simp [hl s hq]
theorem td_bad {R : List Td} {k : Nat} {r : Td} (h : R[k]? = some r) (hc : tdC none R = tdC (prevT R k) (R.drop k)) (hf : r.f ≠ 0) : tdC none R = r.f := by
  rw [hc, tdC_next h, if_neg hf]
theorem td_one {R : List Td} {k : Nat} {r s : Td} (h : R[k]? = some r) (hc : tdC none R = tdC (prevT R k) (R.drop k)) (hf : r.f = 0) (hq : prevT R k = some s) (hl : s.lt r = false) : tdC none R = 1 := by
  rw [hc, tdC_next h, if_pos hf, hq]
  simp [hl]
theorem td_end {R : List Td} {k : Nat} (hc : tdC none R = tdC (prevT R k) (R.drop k)) (hk : R.length ≤ k) : tdC none R = 0 := by
  rw [hc, List.drop_eq_nil_of_le hk]
  cases prevT R k <;> rfl
theorem tdf_pf {a l o nx md lc : Int} {xs : List Int} (h : ¬ pf a l = 0) : tdf a l o xs nx md lc = pf a l := if_neg h
theorem tdf_af {a l o nx md lc : Int} {xs : List Int} (h : pf a l = 0) : tdf a l o xs nx md lc = af o xs nx md lc := if_pos h

theorem prefs_is (a l a' l' z : Int) (w : World) (hz : orL [cmp3 a a', cmp3 l l'] = z) : Calls Try.prog 93 #[.agg #[.int .i64 a, .int .i64 l], .agg #[.int .i64 a', .int .i64 l']] w fun e w' => e = .returned (.int .i64 z) ∧ New w w' := hz ▸ prefs_any a l a' l' w

set_option maxHeartbeats 6400000 in
theorem implTF (A : Option Addr) (n c : Nat) (V : List Tv) (z : Int) (w : World) (h : TdAt w A V) (hn : V.length = n) (hm : n ≤ 1048576) (hz : tdF (V.map Tv.r) = z) :
    Calls Try.prog 60 #[.slice A n c] w fun e w' => e = .returned (.int .i64 z) ∧ New w w' := by
  have HN : Hid (V.length = n) := hn
  by_cases hbig : 60 < n
  case pos =>
    have HZ : z = 2 := by rw [← hz]; unfold tdF; rw [if_pos (by simp; omega)]
    clear hn hz
    subst HZ
    go_enter Try.func60, Try.ntmps60
    go_wp2
    go_ret
    exact ⟨rfl, New.refl _⟩
  have HZ : Hid (tdC none (V.map Tv.r) = z) := by
    have := hz
    unfold tdF at this
    rw [if_neg (by simp; omega)] at this
    exact this
  clear hn hz
  go_enter Try.func60, Try.ntmps60
  go_wp2
  go_loopw [12] (fun i wr => ∃ k : Nat, k ≤ n ∧ i = .int .i64 k ∧ New w wr ∧ tdC none (V.map Tv.r) = tdC (prevT (V.map Tv.r) k) ((V.map Tv.r).drop k)) (fun i _ => n - (intOf i).toNat)
  case atStart => exact ⟨0, Nat.zero_le _, rfl, New.refl _, rfl⟩
  case round =>
    obtain ⟨k, hk, rfl, hnw, hc⟩ := hrel
    have HC : Hid _ := hc
    clear hc
    by_cases hlt : k < n
    · obtain ⟨b, off, a, l, o, nx, md, lc, x, m, d, xs, rfl, hv, hlen, hns, hnl, hmx, q0, q1, q2, q3, q4, q5, q6⟩ := (h.new hnw).at k (by have := HN.out; omega)
      have HL : Hid (xs.length = m) := hlen
      have HR : Hid ((V.map Tv.r)[k]? = some ⟨a, l, o, xs, nx, md, lc⟩) := by show _ = _; rw [List.getElem?_map, hv]; rfl
      have N0 := (New.refl wr).alloc (.cells #[.int .i64 a, .int .i64 l, .int .i64 o, .slice x m d, .int .i64 nx, .int .i64 md, .int .i64 lc] 120)
      have bA := Blk.mk wr wr.heap.size 120 #[.int .i64 a, .int .i64 l, .int .i64 o, .slice x m d, .int .i64 nx, .int .i64 md, .int .i64 lc] rfl
      clear hv hlen
      obtain ⟨f, hf⟩ : ∃ f, Hid (pf a l = f) := ⟨_, rfl⟩
      obtain ⟨f2, hf2⟩ : ∃ f, Hid (af o xs nx md lc = f) := ⟨_, rfl⟩
      go_upto_region 6 with fail
      generalize wr.alloc (.cells #[.int .i64 a, .int .i64 l, .int .i64 o, .slice x m d, .int .i64 nx, .int .i64 md, .int .i64 lc] 120) = wa at *
      have cA := bA.cells
      go_wp2_with fail
      refine (implPF_is a l f _ hf.out).mono ?_
      rintro e w1 ⟨rfl, h1⟩
      have bA1 := bA.new h1
      have N01 := N0.trans h1
      have N1 := hnw.trans N01
      clear bA cA N0 h1 q0 q1 q2 q3 q4 q5 q6
      by_cases h0 : f = 0
      · subst h0
        have cA := bA1.cells
        go_wp2_with fail
        refine (implAF o nx md lc x m d xs _ (hns.new N01) HL.out hmx).mono ?_
        rintro e w2 ⟨rfl, h2⟩
        rw [hf2.out]
        have bA2 := bA1.new h2
        have N2 := N1.trans h2
        clear bA1 cA h2 N1
        by_cases h02 : f2 = 0
        · subst h02
          have HF : Hid (Td.f ⟨a, l, o, xs, nx, md, lc⟩ = 0) := (tdf_af hf.out).trans hf2.out
          go_upto_region 12 with fail
          cases k with
          | zero =>
            go_wp2_with fail
            refine wp_region_quiet_below (by kernel_rfl) (by kernel_rfl) ?_
            repeat (go_big_quiet_step (fail))
            refine wpQuiet_nil ?_
            rintro w3 hn3
            replace hn3 := new_of_regrown hn3
            go_wp2
            go_roundw
            case rel => exact ⟨0 + 1, by omega, by go_num, N2.trans hn3, td_step HR.out HC.out HF.out (by intro s hs; simp [prevT] at hs)⟩
            case measure => simp [intOf]; omega
          | succ j =>
            obtain ⟨b2, off2, a', l', o', nx', md', lc', x', m', d', xs', hA, hv', hlen', hns', hnl', hmx', y0, y1, y2, y3, y4, y5, y6⟩ := (h.new N2).at j (by have := HN.out; omega)
            simp only [Option.some.injEq, Addr.mk.injEq, and_true] at hA
            obtain ⟨rfl, rfl⟩ := hA
            have HP : Hid (prevT (V.map Tv.r) (j + 1) = some ⟨a', l', o', xs', nx', md', lc'⟩) := by
              show _ = _
              unfold prevT
              rw [if_neg (by omega), Nat.add_sub_cancel, List.getElem?_map, hv']; rfl
            clear hv' hlen' hns' hnl' h hns hnl
            have B0 := blk_regrown bA2
            have Y0 := cell_regrown y0
            have Y1 := cell_regrown y1
            obtain ⟨zz, hzz⟩ : ∃ zz, Hid (orL [cmp3 a' a, cmp3 l' l] = zz) := ⟨_, rfl⟩
            have hj1 : ((j + 1 : Nat) : Int) - 1 = (j : Int) := by omega
            by_cases hneg : zz < 0
            · go_wp2_with fail
              refine wp_region_quiet_below (by kernel_rfl) (by kernel_rfl) ?_
              repeat (go_big_quiet_step ((go_at_call 93; exact calls_regrown (prefs_is a' l' a l zz _ hzz.out))))
              refine wpQuiet_nil ?_
              rintro w3 hn3
              replace hn3 := new_of_regrown hn3
              go_wp2
              go_roundw
              case rel => exact ⟨j + 1 + 1, by omega, by go_num, N2.trans hn3, td_step HR.out HC.out HF.out (by intro s hs; rw [HP.out] at hs; obtain rfl := Option.some.inj hs; show decide (orL [cmp3 a' a, cmp3 l' l] < 0) = true; rw [hzz.out]; exact decide_eq_true hneg)⟩
              case measure => simp [intOf]; omega
            · go_wp2_with fail
              refine wp_region_quiet_below (by kernel_rfl) (by kernel_rfl) ?_
              repeat (go_big_quiet_step ((go_at_call 93; exact calls_regrown (prefs_is a' l' a l zz _ hzz.out))))
              refine wpQuiet_nil ?_
              rintro w3 hn3
              replace hn3 := new_of_regrown hn3
              go_wp2
              go_ret
              exact ⟨ret_i64 (by rw [← HZ.out, td_one HR.out HC.out HF.out HP.out (by show decide (orL [cmp3 a' a, cmp3 l' l] < 0) = false; rw [hzz.out]; exact decide_eq_false (by omega))]), N2.trans hn3⟩
        · have hne : (f2 != 0) = true := by simpa using h02
          have HF : Hid (Td.f ⟨a, l, o, xs, nx, md, lc⟩ = f2) := (tdf_af hf.out).trans hf2.out
          go_wp2
          go_ret
          exact ⟨ret_i64 (by rw [← HZ.out, td_bad HR.out HC.out (by rw [HF.out]; exact h02)]; exact HF.out.symm), N2⟩
      · have hne : (f != 0) = true := by simpa using h0
        have HF : Hid (Td.f ⟨a, l, o, xs, nx, md, lc⟩ = f) := (tdf_pf (by rw [hf.out]; exact h0)).trans hf.out
        go_wp2
        go_ret
        exact ⟨ret_i64 (by rw [← HZ.out, td_bad HR.out HC.out (by rw [HF.out]; exact h0)]; exact HF.out.symm), N1⟩
    · go_wp2
      go_ret
      exact ⟨ret_i64 (by rw [← HZ.out, td_end HC.out (by simp [HN.out]; omega)]), hnw⟩

set_option maxHeartbeats 6400000 in
theorem specTF (A : Option Addr) (n c : Nat) (V : List Tv) (z : Int) (w : World) (h : TdAt w A V) (hn : V.length = n) (hm : n ≤ 1048576) (hz : tdF (V.map Tv.r) = z) :
    Calls Try.prog 78 #[.slice A n c] w fun e w' => e = .returned (.int .i64 z) ∧ New w w' := by
  have HN : Hid (V.length = n) := hn
  by_cases hbig : 60 < n
  case pos =>
    have HZ : z = 2 := by rw [← hz]; unfold tdF; rw [if_pos (by simp; omega)]
    clear hn hz
    subst HZ
    go_enter Try.func78, Try.ntmps78
    go_wp2
    go_ret
    exact ⟨rfl, New.refl _⟩
  have HZ : Hid (tdC none (V.map Tv.r) = z) := by
    have := hz
    unfold tdF at this
    rw [if_neg (by simp; omega)] at this
    exact this
  clear hn hz
  go_enter Try.func78, Try.ntmps78
  go_wp2
  go_loopw [3] (fun i wr => ∃ k : Nat, k ≤ n ∧ i = .int .i64 k ∧ New w wr ∧ tdC none (V.map Tv.r) = tdC (prevT (V.map Tv.r) k) ((V.map Tv.r).drop k)) (fun i _ => n - (intOf i).toNat)
  case atStart => exact ⟨0, Nat.zero_le _, rfl, New.refl _, rfl⟩
  case round =>
    obtain ⟨k, hk, rfl, hnw, hc⟩ := hrel
    have HC : Hid _ := hc
    clear hc
    by_cases hlt : k < n
    · obtain ⟨b, off, a, l, o, nx, md, lc, x, m, d, xs, rfl, hv, hlen, hns, hnl, hmx, q0, q1, q2, q3, q4, q5, q6⟩ := (h.new hnw).at k (by have := HN.out; omega)
      have HL : Hid (xs.length = m) := hlen
      have HR : Hid ((V.map Tv.r)[k]? = some ⟨a, l, o, xs, nx, md, lc⟩) := by show _ = _; rw [List.getElem?_map, hv]; rfl
      clear hv hlen
      obtain ⟨f, hf⟩ : ∃ f, Hid (pf a l = f) := ⟨_, rfl⟩
      obtain ⟨f2, hf2⟩ : ∃ f, Hid (af o xs nx md lc = f) := ⟨_, rfl⟩
      go_wp2_with fail
      refine (specPF_is a l f _ hf.out).mono ?_
      rintro e w1 ⟨rfl, h1⟩
      have N1 := hnw.trans h1
      have q0 := h1.below.cell (World.block_lt_of_cell? _ _ q0) |>.trans q0
      have q1 := h1.below.cell (World.block_lt_of_cell? _ _ q1) |>.trans q1
      have q2 := h1.below.cell (World.block_lt_of_cell? _ _ q2) |>.trans q2
      have q3 := h1.below.cell (World.block_lt_of_cell? _ _ q3) |>.trans q3
      have q4 := h1.below.cell (World.block_lt_of_cell? _ _ q4) |>.trans q4
      have q5 := h1.below.cell (World.block_lt_of_cell? _ _ q5) |>.trans q5
      have q6 := h1.below.cell (World.block_lt_of_cell? _ _ q6) |>.trans q6
      have hns := hns.new h1
      clear h1
      by_cases h0 : f = 0
      · subst h0
        go_wp2_with fail
        refine (specAF o nx md lc x m d xs _ hns HL.out hmx).mono ?_
        rintro e w2 ⟨rfl, h2⟩
        rw [hf2.out]
        have N2 := N1.trans h2
        have q0 := h2.below.cell (World.block_lt_of_cell? _ _ q0) |>.trans q0
        have q1 := h2.below.cell (World.block_lt_of_cell? _ _ q1) |>.trans q1
        clear h2 N1 q2 q3 q4 q5 q6
        by_cases h02 : f2 = 0
        · subst h02
          have HF : Hid (Td.f ⟨a, l, o, xs, nx, md, lc⟩ = 0) := (tdf_af hf.out).trans hf2.out
          go_upto_region 12 with fail
          cases k with
          | zero =>
            go_wp2_with fail
            refine wp_region_quiet_below (by kernel_rfl) (by kernel_rfl) ?_
            repeat (go_big_quiet_step (fail))
            refine wpQuiet_nil ?_
            rintro w3 hn3
            replace hn3 := new_of_regrown hn3
            go_wp2
            go_roundw
            case rel => exact ⟨0 + 1, by omega, by go_num, N2.trans hn3, td_step HR.out HC.out HF.out (by intro s hs; simp [prevT] at hs)⟩
            case measure => simp [intOf]; omega
          | succ j =>
            obtain ⟨b2, off2, a', l', o', nx', md', lc', x', m', d', xs', hA, hv', hlen', hns', hnl', hmx', y0, y1, y2, y3, y4, y5, y6⟩ := (h.new N2).at j (by have := HN.out; omega)
            simp only [Option.some.injEq, Addr.mk.injEq, and_true] at hA
            obtain ⟨rfl, rfl⟩ := hA
            have HP : Hid (prevT (V.map Tv.r) (j + 1) = some ⟨a', l', o', xs', nx', md', lc'⟩) := by
              show _ = _
              unfold prevT
              rw [if_neg (by omega), Nat.add_sub_cancel, List.getElem?_map, hv']; rfl
            clear hv' hlen' hns' hnl' h hns hnl
            have Q0 := cell_regrown q0
            have Q1 := cell_regrown q1
            have Y0 := cell_regrown y0
            have Y1 := cell_regrown y1
            obtain ⟨zz, hzz⟩ : ∃ zz, Hid (decide (orL [cmp3 a' a, cmp3 l' l] < 0) = zz) := ⟨_, rfl⟩
            have hj1 : ((j + 1 : Nat) : Int) - 1 = (j : Int) := by omega
            cases zz with
            | true =>
              go_wp2_with fail
              refine wp_region_quiet_below (by kernel_rfl) (by kernel_rfl) ?_
              repeat (go_big_quiet_step ((go_at_call 111; exact calls_regrown (ahead8 a' l' a l _ _ hzz.out))))
              refine wpQuiet_nil ?_
              rintro w3 hn3
              replace hn3 := new_of_regrown hn3
              go_wp2
              go_roundw
              case rel => exact ⟨j + 1 + 1, by omega, by go_num, N2.trans hn3, td_step HR.out HC.out HF.out (by intro s hs; rw [HP.out] at hs; obtain rfl := Option.some.inj hs; exact hzz.out)⟩
              case measure => simp [intOf]; omega
            | false =>
              go_wp2_with fail
              refine wp_region_quiet_below (by kernel_rfl) (by kernel_rfl) ?_
              repeat (go_big_quiet_step ((go_at_call 111; exact calls_regrown (ahead8 a' l' a l _ _ hzz.out))))
              refine wpQuiet_nil ?_
              rintro w3 hn3
              replace hn3 := new_of_regrown hn3
              go_wp2
              go_ret
              exact ⟨ret_i64 (by rw [← HZ.out, td_one HR.out HC.out HF.out HP.out (by exact hzz.out)]), N2.trans hn3⟩
        · have hne : (f2 != 0) = true := by simpa using h02
          have HF : Hid (Td.f ⟨a, l, o, xs, nx, md, lc⟩ = f2) := (tdf_af hf.out).trans hf2.out
          go_wp2
          go_ret
          exact ⟨ret_i64 (by rw [← HZ.out, td_bad HR.out HC.out (by rw [HF.out]; exact h02)]; exact HF.out.symm), N2⟩
      · have hne : (f != 0) = true := by simpa using h0
        have HF : Hid (Td.f ⟨a, l, o, xs, nx, md, lc⟩ = f) := (tdf_pf (by rw [hf.out]; exact h0)).trans hf.out
        go_wp2
        go_ret
        exact ⟨ret_i64 (by rw [← HZ.out, td_bad HR.out HC.out (by rw [HF.out]; exact h0)]; exact HF.out.symm), N1⟩
    · go_wp2
      go_ret
      exact ⟨ret_i64 (by rw [← HZ.out, td_end HC.out (by simp [HN.out]; omega)]), hnw⟩

end Go.Proofs.Ytkahlmkhancloab
