/- What is proved here: what RibFault answers, in the program and in the model, for lists of at most 1048576 routes with paths of at most 1048576 numbers. -/
import Derived.Test.YtjampcfikfafkaaR7Rf
import Derived.Deep.CutRange
namespace Go.Proofs.Ytjampcfikfafkaa
open Go.RowKit Go.Sort
set_option linter.unusedVariables false

/-- The route ahead of a place. -/
def prevR (R : List Rt) (k : Nat) : Option Rt := if k = 0 then none else R[k - 1]?

theorem rib_step {R : List Rt} {k : Nat} {r : Rt} (h : R[k]? = some r) (hc : ribC none R = ribC (prevR R k) (R.drop k)) (hf : r.f = 0) (hl : ∀ s, prevR R k = some s → s.lt r = true) : ribC none R = ribC (prevR R (k + 1)) (R.drop (k + 1)) := by
  rw [hc, ribC_next h, if_pos hf]
  have e : prevR R (k + 1) = some r := by unfold prevR; rw [if_neg (by omega)]; simpa using h
  rw [e]
  cases hq : prevR R k with
  | none => simp
  | some s => simp [hl s hq]
theorem rib_bad {R : List Rt} {k : Nat} {r : Rt} (h : R[k]? = some r) (hc : ribC none R = ribC (prevR R k) (R.drop k)) (hf : r.f ≠ 0) : ribC none R = r.f := by
  rw [hc, ribC_next h, if_neg hf]
theorem rib_one {R : List Rt} {k : Nat} {r s : Rt} (h : R[k]? = some r) (hc : ribC none R = ribC (prevR R k) (R.drop k)) (hf : r.f = 0) (hq : prevR R k = some s) (hl : s.lt r = false) : ribC none R = 1 := by
  rw [hc, ribC_next h, if_pos hf, hq]
  simp [hl]
theorem rib_end {R : List Rt} {k : Nat} (hc : ribC none R = ribC (prevR R k) (R.drop k)) (hk : R.length ≤ k) : ribC none R = 0 := by
  rw [hc, List.drop_eq_nil_of_le hk]
  cases prevR R k <;> rfl

theorem routes_is (p a l o nx md lc : Int) (x : Option Addr) (n c : Nat) (p' a' l' o' nx' md' lc' : Int) (x' : Option Addr) (n' c' : Nat) (z : Int) (w : World) (hz : cmpR p a l p' a' l' = z) : Calls Try.prog 29 #[.agg #[.int .i64 p, .int .i64 a, .int .i64 l, .int .i64 o, .slice x n c, .int .i64 nx, .int .i64 md, .int .i64 lc], .agg #[.int .i64 p', .int .i64 a', .int .i64 l', .int .i64 o', .slice x' n' c', .int .i64 nx', .int .i64 md', .int .i64 lc']] w fun e w' => e = .returned (.int .i64 z) ∧ New w w' := hz ▸ routes_any p a l o nx md lc x n c p' a' l' o' nx' md' lc' x' n' c' w

set_option maxHeartbeats 6400000 in
theorem implRib (A : Option Addr) (n c : Nat) (V : List Rv) (z : Int) (w : World) (h : RtAt w A V) (hn : V.length = n) (hm : n ≤ 1048576) (hz : ribF (V.map Rv.r) = z) :
    Calls Try.prog 12 #[.slice A n c] w fun e w' => e = .returned (.int .i64 z) ∧ New w w' := by
  have HN : Hid (V.length = n) := hn
  by_cases hbig : 60 < n
  case pos =>
    have HZ : z = 2 := by rw [← hz]; unfold ribF; rw [if_pos (by simp; omega)]
    clear hn hz
    subst HZ
    go_enter Try.func12, Try.ntmps12
    go_wp2
    go_ret
    exact ⟨rfl, New.refl _⟩
  have HZ : Hid (ribC none (V.map Rv.r) = z) := by
    have := hz
    unfold ribF at this
    rw [if_neg (by simp; omega)] at this
    exact this
  clear hn hz
  go_enter Try.func12, Try.ntmps12
  go_wp2
  go_loopw [11] (fun i wr => ∃ k : Nat, k ≤ n ∧ i = .int .i64 k ∧ New w wr ∧ ribC none (V.map Rv.r) = ribC (prevR (V.map Rv.r) k) ((V.map Rv.r).drop k)) (fun i _ => n - (intOf i).toNat)
  case atStart => exact ⟨0, Nat.zero_le _, rfl, New.refl _, rfl⟩
  case round =>
    obtain ⟨k, hk, rfl, hnw, hc⟩ := hrel
    have HC : Hid _ := hc
    clear hc
    by_cases hlt : k < n
    · obtain ⟨b, off, p, a, l, o, nx, md, lc, x, m, d, xs, rfl, hv, hlen, hns, hnl, hmx, q0, q1, q2, q3, q4, q5, q6, q7⟩ := (h.new hnw).at k (by have := HN.out; omega)
      have HL : Hid (xs.length = m) := hlen
      have HR : Hid ((V.map Rv.r)[k]? = some ⟨p, a, l, o, xs, nx, md, lc⟩) := by show _ = _; rw [List.getElem?_map, hv]; rfl
      have N0 := (New.refl wr).alloc (.cells #[.int .i64 p, .int .i64 a, .int .i64 l, .int .i64 o, .slice x m d, .int .i64 nx, .int .i64 md, .int .i64 lc] 35)
      have bA := Blk.mk wr wr.heap.size 35 #[.int .i64 p, .int .i64 a, .int .i64 l, .int .i64 o, .slice x m d, .int .i64 nx, .int .i64 md, .int .i64 lc] rfl
      clear hv hlen
      obtain ⟨f, hf⟩ : ∃ f, Hid (rtf p a l o xs nx md lc = f) := ⟨_, rfl⟩
      go_upto_region 6 with fail
      generalize wr.alloc (.cells #[.int .i64 p, .int .i64 a, .int .i64 l, .int .i64 o, .slice x m d, .int .i64 nx, .int .i64 md, .int .i64 lc] 35) = wa at *
      have cA := bA.cells
      go_wp2_with fail
      refine (implRTF p a l o nx md lc x m d xs f _ (hns.new N0) HL.out hmx hf.out).mono ?_
      rintro e w1 ⟨rfl, h1⟩
      have bA1 := bA.new h1
      have N1 := hnw.trans (N0.trans h1)
      clear bA cA N0 h1 q0 q1 q2 q3 q4 q5 q6 q7
      by_cases h0 : f = 0
      · subst h0
        go_upto_region 9 with fail
        cases k with
        | zero =>
          go_wp2_with fail
          refine wp_region_quiet_below (by kernel_rfl) (by kernel_rfl) ?_
          repeat (go_big_quiet_step (fail))
          refine wpQuiet_nil ?_
          rintro w2 hn2
          replace hn2 := new_of_regrown hn2
          go_wp2
          go_roundw
          case rel => exact ⟨0 + 1, by omega, by go_num, N1.trans hn2, rib_step HR.out HC.out hf.out (by intro s hs; simp [prevR] at hs)⟩
          case measure => simp [intOf]; omega
        | succ j =>
          obtain ⟨b2, off2, p', a', l', o', nx', md', lc', x', m', d', xs', hA, hv', hlen', hns', hnl', hmx', y0, y1, y2, y3, y4, y5, y6, y7⟩ := (h.new N1).at j (by have := HN.out; omega)
          simp only [Option.some.injEq, Addr.mk.injEq, and_true] at hA
          obtain ⟨rfl, rfl⟩ := hA
          have HP : Hid (prevR (V.map Rv.r) (j + 1) = some ⟨p', a', l', o', xs', nx', md', lc'⟩) := by
            show _ = _
            unfold prevR
            rw [if_neg (by omega), Nat.add_sub_cancel, List.getElem?_map, hv']; rfl
          clear hv' hlen' hns' hnl' h hns hnl
          have B0 := blk_regrown bA1
          have Y0 := cell_regrown y0
          have Y1 := cell_regrown y1
          have Y2 := cell_regrown y2
          have Y3 := cell_regrown y3
          have Y4 := cell_regrown y4
          have Y5 := cell_regrown y5
          have Y6 := cell_regrown y6
          have Y7 := cell_regrown y7
          obtain ⟨zz, hzz⟩ : ∃ zz, Hid (cmpR p' a' l' p a l = zz) := ⟨_, rfl⟩
          have hj1 : ((j + 1 : Nat) : Int) - 1 = (j : Int) := by omega
          by_cases hneg : zz < 0
          · go_wp2_with fail
            refine wp_region_quiet_below (by kernel_rfl) (by kernel_rfl) ?_
            repeat (go_big_quiet_step ((go_at_call 29; exact calls_regrown (routes_is p' a' l' o' nx' md' lc' x' m' d' p a l o nx md lc x m d zz _ hzz.out))))
            refine wpQuiet_nil ?_
            rintro w2 hn2
            replace hn2 := new_of_regrown hn2
            go_wp2
            go_roundw
            case rel => exact ⟨j + 1 + 1, by omega, by go_num, N1.trans hn2, rib_step HR.out HC.out hf.out (by intro s hs; rw [HP.out] at hs; obtain rfl := Option.some.inj hs; show decide (cmpR p' a' l' p a l < 0) = true; rw [hzz.out]; exact decide_eq_true hneg)⟩
            case measure => simp [intOf]; omega
          · go_wp2_with fail
            refine wp_region_quiet_below (by kernel_rfl) (by kernel_rfl) ?_
            repeat (go_big_quiet_step ((go_at_call 29; exact calls_regrown (routes_is p' a' l' o' nx' md' lc' x' m' d' p a l o nx md lc x m d zz _ hzz.out))))
            refine wpQuiet_nil ?_
            rintro w2 hn2
            replace hn2 := new_of_regrown hn2
            go_wp2
            go_ret
            exact ⟨ret_i64 (by rw [← HZ.out, rib_one HR.out HC.out hf.out HP.out (by show decide (cmpR p' a' l' p a l < 0) = false; rw [hzz.out]; exact decide_eq_false (by omega))]), N1.trans hn2⟩
      · have hne : (f != 0) = true := by simpa using h0
        go_wp2
        go_ret
        exact ⟨ret_i64 (by rw [← HZ.out, rib_bad HR.out HC.out (by show rtf p a l o xs nx md lc ≠ 0; rw [hf.out]; exact h0)]; exact hf.out.symm), N1⟩
    · go_wp2
      go_ret
      exact ⟨ret_i64 (by rw [← HZ.out, rib_end HC.out (by simp [HN.out]; omega)]), hnw⟩

set_option maxHeartbeats 6400000 in
theorem specRib (A : Option Addr) (n c : Nat) (V : List Rv) (z : Int) (w : World) (h : RtAt w A V) (hn : V.length = n) (hm : n ≤ 1048576) (hz : ribF (V.map Rv.r) = z) :
    Calls Try.prog 16 #[.slice A n c] w fun e w' => e = .returned (.int .i64 z) ∧ New w w' := by
  have HN : Hid (V.length = n) := hn
  by_cases hbig : 60 < n
  case pos =>
    have HZ : z = 2 := by rw [← hz]; unfold ribF; rw [if_pos (by simp; omega)]
    clear hn hz
    subst HZ
    go_enter Try.func16, Try.ntmps16
    go_wp2
    go_ret
    exact ⟨rfl, New.refl _⟩
  have HZ : Hid (ribC none (V.map Rv.r) = z) := by
    have := hz
    unfold ribF at this
    rw [if_neg (by simp; omega)] at this
    exact this
  clear hn hz
  go_enter Try.func16, Try.ntmps16
  go_wp2
  go_loopw [3] (fun i wr => ∃ k : Nat, k ≤ n ∧ i = .int .i64 k ∧ New w wr ∧ ribC none (V.map Rv.r) = ribC (prevR (V.map Rv.r) k) ((V.map Rv.r).drop k)) (fun i _ => n - (intOf i).toNat)
  case atStart => exact ⟨0, Nat.zero_le _, rfl, New.refl _, rfl⟩
  case round =>
    obtain ⟨k, hk, rfl, hnw, hc⟩ := hrel
    have HC : Hid _ := hc
    clear hc
    by_cases hlt : k < n
    · obtain ⟨b, off, p, a, l, o, nx, md, lc, x, m, d, xs, rfl, hv, hlen, hns, hnl, hmx, q0, q1, q2, q3, q4, q5, q6, q7⟩ := (h.new hnw).at k (by have := HN.out; omega)
      have HL : Hid (xs.length = m) := hlen
      have HR : Hid ((V.map Rv.r)[k]? = some ⟨p, a, l, o, xs, nx, md, lc⟩) := by show _ = _; rw [List.getElem?_map, hv]; rfl
      clear hv hlen
      obtain ⟨f, hf⟩ : ∃ f, Hid (rtf p a l o xs nx md lc = f) := ⟨_, rfl⟩
      go_wp2_with fail
      refine (specRTF p a l o nx md lc x m d xs f _ hns HL.out hmx hf.out).mono ?_
      rintro e w1 ⟨rfl, h1⟩
      have N1 := hnw.trans h1
      have q0 := h1.below.cell (World.block_lt_of_cell? _ _ q0) |>.trans q0
      have q1 := h1.below.cell (World.block_lt_of_cell? _ _ q1) |>.trans q1
      have q2 := h1.below.cell (World.block_lt_of_cell? _ _ q2) |>.trans q2
      have q3 := h1.below.cell (World.block_lt_of_cell? _ _ q3) |>.trans q3
      have q4 := h1.below.cell (World.block_lt_of_cell? _ _ q4) |>.trans q4
      have q5 := h1.below.cell (World.block_lt_of_cell? _ _ q5) |>.trans q5
      have q6 := h1.below.cell (World.block_lt_of_cell? _ _ q6) |>.trans q6
      have q7 := h1.below.cell (World.block_lt_of_cell? _ _ q7) |>.trans q7
      clear h1
      by_cases h0 : f = 0
      · subst h0
        go_upto_region 9 with fail
        cases k with
        | zero =>
          go_wp2_with fail
          refine wp_region_quiet_below (by kernel_rfl) (by kernel_rfl) ?_
          repeat (go_big_quiet_step (fail))
          refine wpQuiet_nil ?_
          rintro w2 hn2
          replace hn2 := new_of_regrown hn2
          go_wp2
          go_roundw
          case rel => exact ⟨0 + 1, by omega, by go_num, N1.trans hn2, rib_step HR.out HC.out hf.out (by intro s hs; simp [prevR] at hs)⟩
          case measure => simp [intOf]; omega
        | succ j =>
          obtain ⟨b2, off2, p', a', l', o', nx', md', lc', x', m', d', xs', hA, hv', hlen', hns', hnl', hmx', y0, y1, y2, y3, y4, y5, y6, y7⟩ := (h.new N1).at j (by have := HN.out; omega)
          simp only [Option.some.injEq, Addr.mk.injEq, and_true] at hA
          obtain ⟨rfl, rfl⟩ := hA
          have HP : Hid (prevR (V.map Rv.r) (j + 1) = some ⟨p', a', l', o', xs', nx', md', lc'⟩) := by
            show _ = _
            unfold prevR
            rw [if_neg (by omega), Nat.add_sub_cancel, List.getElem?_map, hv']; rfl
          clear hv' hlen' hns' hnl' h hns hnl
          have Q0 := cell_regrown q0
          have Q1 := cell_regrown q1
          have Q2 := cell_regrown q2
          have Q3 := cell_regrown q3
          have Q4 := cell_regrown q4
          have Q5 := cell_regrown q5
          have Q6 := cell_regrown q6
          have Q7 := cell_regrown q7
          have Y0 := cell_regrown y0
          have Y1 := cell_regrown y1
          have Y2 := cell_regrown y2
          have Y3 := cell_regrown y3
          have Y4 := cell_regrown y4
          have Y5 := cell_regrown y5
          have Y6 := cell_regrown y6
          have Y7 := cell_regrown y7
          obtain ⟨zz, hzz⟩ : ∃ zz, Hid (decide (cmpR p' a' l' p a l < 0) = zz) := ⟨_, rfl⟩
          have hj1 : ((j + 1 : Nat) : Int) - 1 = (j : Int) := by omega
          cases zz with
          | true =>
            go_wp2_with fail
            refine wp_region_quiet_below (by kernel_rfl) (by kernel_rfl) ?_
            repeat (go_big_quiet_step ((go_at_call 35; exact calls_regrown (behind7 p' a' l' o' nx' md' lc' x' m' d' p a l o nx md lc x m d _ _ hzz.out))))
            refine wpQuiet_nil ?_
            rintro w2 hn2
            replace hn2 := new_of_regrown hn2
            go_wp2
            go_roundw
            case rel => exact ⟨j + 1 + 1, by omega, by go_num, N1.trans hn2, rib_step HR.out HC.out hf.out (by intro s hs; rw [HP.out] at hs; obtain rfl := Option.some.inj hs; exact hzz.out)⟩
            case measure => simp [intOf]; omega
          | false =>
            go_wp2_with fail
            refine wp_region_quiet_below (by kernel_rfl) (by kernel_rfl) ?_
            repeat (go_big_quiet_step ((go_at_call 35; exact calls_regrown (behind7 p' a' l' o' nx' md' lc' x' m' d' p a l o nx md lc x m d _ _ hzz.out))))
            refine wpQuiet_nil ?_
            rintro w2 hn2
            replace hn2 := new_of_regrown hn2
            go_wp2
            go_ret
            exact ⟨ret_i64 (by rw [← HZ.out, rib_one HR.out HC.out hf.out HP.out (by exact hzz.out)]), N1.trans hn2⟩
      · have hne : (f != 0) = true := by simpa using h0
        go_wp2
        go_ret
        exact ⟨ret_i64 (by rw [← HZ.out, rib_bad HR.out HC.out (by show rtf p a l o xs nx md lc ≠ 0; rw [hf.out]; exact h0)]; exact hf.out.symm), N1⟩
    · go_wp2
      go_ret
      exact ⟨ret_i64 (by rw [← HZ.out, rib_end HC.out (by simp [HN.out]; omega)]), hnw⟩

end Go.Proofs.Ytjampcfikfafkaa
