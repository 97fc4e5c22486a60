/- What is proved here: what the asking of a prefix for an address, and of one prefix for another, answer, in the program and in its model, at all numbers. No condition. -/
import Derived.Test.YtjampcfikfafkaaGreatPxLib
import Derived.Test.YtjampcfikfafkaaGreatQB
import Derived.Deep.RegionWith
namespace Go.Proofs.YtjampcfikfafkaaGreat
open Go.RowKit Go.Sort

theorem firstBits_any (x l : Int) (w : World) (hx : 0 ≤ x) (hx1 : x ≤ 65535) (h0 : 0 ≤ l) (h1 : l ≤ 16) :
    Calls Tryz.prog 131 #[.int .i64 x, .int .i64 l] w fun e w' => e = .returned (.int .i64 (x - x % szp l)) ∧ w' = w := by
  have hb := szp_bd h0 h1
  have hwa : IntKind.u16.wrap x = x := by rw [IntKind.wrap_u16]; omega
  have hlow := bits_high16 hx hx1 h0 h1
  have hm0 := Int.emod_nonneg x (show szp l ≠ 0 by omega)
  have hm1 : x % szp l ≤ x := by
    have h3 := Int.mul_ediv_add_emod x (szp l)
    have h4 : 0 ≤ szp l * (x / szp l) := Int.mul_nonneg (by omega) (Int.ediv_nonneg hx (by omega))
    omega
  go_enter Tryz.func131, Tryz.ntmps131
  go_wp2_with fail
  refine (maskOf_any l _ h0 h1).mono ?_
  rintro e w1 ⟨rfl, rfl⟩
  go_wp2
  go_ret
  exact ⟨rfl, rfl⟩

theorem pf_three (a l : Int) : pf a l = 0 ∨ pf a l = 1 ∨ pf a l = 3 := by
  unfold pf
  split
  · exact .inr (.inr rfl)
  · split
    · exact .inr (.inl rfl)
    · exact .inl rfl

theorem implPF_is (a l c : Int) (w : World) (h : pf a l = c) : Calls Tryz.prog 38 #[.agg #[.int .i64 a, .int .i64 l]] w fun e w' => e = .returned (.int .i64 c) ∧ New w w' := h ▸ implPF a l w
theorem specPF_is (a l c : Int) (w : World) (h : pf a l = c) : Calls Tryz.prog 101 #[.agg #[.int .i64 a, .int .i64 l]] w fun e w' => e = .returned (.int .i64 c) ∧ New w w' := h ▸ specPF a l w

theorem implHas (a l x : Int) (w : World) : Calls Tryz.prog 127 #[.agg #[.int .i64 a, .int .i64 l], .int .i64 x] w fun e w' => e = .returned (.bool (hasA a l x)) ∧ New w w' := by
  have hw := (New.refl w).alloc (.cells #[.int .i64 a, .int .i64 l] 33)
  have hB : Blk (w.alloc (.cells #[.int .i64 a, .int .i64 l] 33)) w.heap.size 33 #[.int .i64 a, .int .i64 l] := Blk.mk _ _ _ _ rfl
  have hc := blk_regrown hB
  by_cases hp : pf a l = 0
  · obtain ⟨ha0, ha1, hl0, hl1, hz⟩ := pf_ok hp
    by_cases hx : x < 0 ∨ 65535 < x
    · have hf : Hid (hasA a l x = false) := by unfold hasA Hid; simp; omega
      go_enter Tryz.func127, Tryz.ntmps127
      go_wp2_with fail
      refine wp_region_quiet_below (by kernel_rfl) (by kernel_rfl) ?_
      repeat (go_big_quiet_step (first | (go_at_call 38; exact calls_regrown (implPF_is a l _ _ hp)) | (go_at_call 64; exact calls_regrown_same (isAddr_no _ _ hx))))
      refine wpQuiet_nil ?_
      rintro w1 hw1
      replace hw1 := new_of_regrown hw1
      go_wp2
      go_ret
      exact ⟨ret_bool hf.out.symm, hw.trans hw1⟩
    · have hx0 : 0 ≤ x := by omega
      have hx1 : x ≤ 65535 := by omega
      have hf : Hid (hasA a l x = decide (x - x % szp l = a)) := by unfold hasA Hid; simp [hp, hx0, hx1]
      go_enter Tryz.func127, Tryz.ntmps127
      go_wp2_with fail
      refine wp_region_quiet_below (by kernel_rfl) (by kernel_rfl) ?_
      repeat (go_big_quiet_step (first | (go_at_call 38; exact calls_regrown (implPF_is a l _ _ hp)) | (go_at_call 64; exact calls_regrown_same (isAddr_yes _ _ ⟨hx0, hx1⟩)) | (go_at_call 131; exact calls_regrown_same (firstBits_any x l _ hx0 hx1 hl0 hl1))))
      refine wpQuiet_nil ?_
      rintro w1 hw1
      replace hw1 := new_of_regrown hw1
      go_wp2
      go_ret
      exact ⟨ret_bool hf.out.symm, hw.trans hw1⟩
  · have hf : Hid (hasA a l x = false) := by unfold hasA Hid; simp [hp]
    rcases pf_three a l with h0 | hp | hp
    · exact absurd h0 hp
    all_goals
      go_enter Tryz.func127, Tryz.ntmps127
      go_wp2_with fail
      refine wp_region_quiet_below (by kernel_rfl) (by kernel_rfl) ?_
      repeat (go_big_quiet_step (first | (go_at_call 38; exact calls_regrown (implPF_is a l _ _ hp))))
      refine wpQuiet_nil ?_
      rintro w1 hw1
      replace hw1 := new_of_regrown hw1
      go_wp2
      go_ret
      exact ⟨ret_bool hf.out.symm, hw.trans hw1⟩

theorem l2Has_any (a l x : Int) (w : World) (hx : 0 ≤ x) (hx1 : x ≤ 65535) (h0 : 0 ≤ l) (h1 : l ≤ 16) :
    Calls Tryz.prog 130 #[.agg #[.int .i64 a, .int .i64 l], .int .i64 x] w fun e w' => e = .returned (.bool (decide (x - x % szp l = a))) ∧ New w w' := by
  have hw := (New.refl w).alloc (.cells #[.int .i64 a, .int .i64 l] 33)
  have hlow := bits_high64 hx hx1 h0 h1
  go_enter Tryz.func130, Tryz.ntmps130
  go_wp2_with fail
  go_quiet ((go_at_call 115; exact Calls.quiet_of_same (l2Rest_any l _ h0 h1)))
  go_wp2
  go_ret
  exact ⟨rfl, hw.drewN _⟩

theorem implIn (a l b m : Int) (w : World) : Calls Tryz.prog 119 #[.agg #[.int .i64 a, .int .i64 l], .agg #[.int .i64 b, .int .i64 m]] w fun e w' => e = .returned (.bool (inP a l b m)) ∧ New w w' := by
  have hw := ((New.refl w).alloc (.cells #[.int .i64 a, .int .i64 l] 33)).alloc (.cells #[.int .i64 b, .int .i64 m] 33)
  have hB : Blk ((w.alloc (.cells #[.int .i64 a, .int .i64 l] 33)).alloc (.cells #[.int .i64 b, .int .i64 m] 33)) w.heap.size 33 #[.int .i64 a, .int .i64 l] := (Blk.mk _ _ _ _ rfl).alloc _
  have hD : Blk ((w.alloc (.cells #[.int .i64 a, .int .i64 l] 33)).alloc (.cells #[.int .i64 b, .int .i64 m] 33)) (w.heap.size + 1) 33 #[.int .i64 b, .int .i64 m] := Blk.mk _ _ _ _ (by simp)
  rcases pf_three a l with hp | hp | hp
  · obtain ⟨ha0, ha1, hl0, hl1, hz⟩ := pf_ok hp
    by_cases hm : m ≤ l
    · have hf : Hid (inP a l b m = hasA b m a) := by unfold inP Hid; simp [hp, hm]
      go_enter Tryz.func119, Tryz.ntmps119
      go_wp2_with fail
      refine (implPF_is a l _ _ hp).mono ?_
      rintro e w1 ⟨rfl, hn1⟩
      have hw1 := hw.trans hn1
      have hB1 := hB.new hn1
      have hD1 := hD.new hn1
      have cb1 := hB1.cells
      have cd1 := hD1.cells
      go_wp2_with fail
      refine (implHas b m a _).mono ?_
      rintro e w2 ⟨rfl, hn2⟩
      have hw2 := hw1.trans hn2
      have hB2 := hB1.new hn2
      have hD2 := hD1.new hn2
      have cb2 := hB2.cells
      have cd2 := hD2.cells
      go_wp2
      go_ret
      exact ⟨ret_bool hf.out.symm, hw2⟩
    · have hf : Hid (inP a l b m = false) := by unfold inP Hid; simp [hm]
      go_enter Tryz.func119, Tryz.ntmps119
      go_wp2_with fail
      refine (implPF_is a l _ _ hp).mono ?_
      rintro e w1 ⟨rfl, hn1⟩
      have hw1 := hw.trans hn1
      have hB1 := hB.new hn1
      have hD1 := hD.new hn1
      have cb1 := hB1.cells
      have cd1 := hD1.cells
      go_wp2
      go_ret
      exact ⟨ret_bool hf.out.symm, hw1⟩
  · have hf : Hid (inP a l b m = false) := by unfold inP Hid; simp [hp]
    go_enter Tryz.func119, Tryz.ntmps119
    go_wp2_with fail
    refine (implPF_is a l _ _ hp).mono ?_
    rintro e w1 ⟨rfl, hn1⟩
    have hw1 := hw.trans hn1
    have hB1 := hB.new hn1
    have hD1 := hD.new hn1
    have cb1 := hB1.cells
    have cd1 := hD1.cells
    go_wp2
    go_ret
    exact ⟨ret_bool hf.out.symm, hw1⟩
  · have hf : Hid (inP a l b m = false) := by unfold inP Hid; simp [hp]
    go_enter Tryz.func119, Tryz.ntmps119
    go_wp2_with fail
    refine (implPF_is a l _ _ hp).mono ?_
    rintro e w1 ⟨rfl, hn1⟩
    have hw1 := hw.trans hn1
    have hB1 := hB.new hn1
    have hD1 := hD.new hn1
    have cb1 := hB1.cells
    have cd1 := hD1.cells
    go_wp2
    go_ret
    exact ⟨ret_bool hf.out.symm, hw1⟩

theorem specIn (a l b m : Int) (w : World) : Calls Tryz.prog 125 #[.agg #[.int .i64 a, .int .i64 l], .agg #[.int .i64 b, .int .i64 m]] w fun e w' => e = .returned (.bool (inP a l b m)) ∧ New w w' := by
  have hw := ((New.refl w).alloc (.cells #[.int .i64 a, .int .i64 l] 33)).alloc (.cells #[.int .i64 b, .int .i64 m] 33)
  have hB : Blk ((w.alloc (.cells #[.int .i64 a, .int .i64 l] 33)).alloc (.cells #[.int .i64 b, .int .i64 m] 33)) w.heap.size 33 #[.int .i64 a, .int .i64 l] := (Blk.mk _ _ _ _ rfl).alloc _
  have hD : Blk ((w.alloc (.cells #[.int .i64 a, .int .i64 l] 33)).alloc (.cells #[.int .i64 b, .int .i64 m] 33)) (w.heap.size + 1) 33 #[.int .i64 b, .int .i64 m] := Blk.mk _ _ _ _ (by simp)
  rcases pf_three a l with hp | hp | hp
  · obtain ⟨ha0, ha1, hl0, hl1, hz⟩ := pf_ok hp
    rcases pf_three b m with hq | hq | hq
    · obtain ⟨hb0, hb1, hm0, hm1, hzb⟩ := pf_ok hq
      by_cases hm : m ≤ l
      · have hf : Hid (inP a l b m = decide (a - a % szp m = b)) := by unfold inP hasA Hid; simp [hp, hq, hm, ha0, ha1]
        go_enter Tryz.func125, Tryz.ntmps125
        go_wp2_with fail
        refine (specPF_is a l _ _ hp).mono ?_
        rintro e w1 ⟨rfl, hn1⟩
        have hw1 := hw.trans hn1
        have hB1 := hB.new hn1
        have hD1 := hD.new hn1
        have cb1 := hB1.cells
        have cd1 := hD1.cells
        go_wp2_with fail
        refine (specPF_is b m _ _ hq).mono ?_
        rintro e w2 ⟨rfl, hn2⟩
        have hw2 := hw1.trans hn2
        have hB2 := hB1.new hn2
        have hD2 := hD1.new hn2
        have cb2 := hB2.cells
        have cd2 := hD2.cells
        go_wp2_with fail
        refine (l2Has_any b m a _ ha0 ha1 hm0 hm1).mono ?_
        rintro e w3 ⟨rfl, hn3⟩
        have hw3 := hw2.trans hn3
        have hB3 := hB2.new hn3
        have hD3 := hD2.new hn3
        have cb3 := hB3.cells
        have cd3 := hD3.cells
        go_wp2
        go_ret
        exact ⟨ret_bool hf.out.symm, hw3⟩
      · have hf : Hid (inP a l b m = false) := by unfold inP Hid; simp [hm]
        go_enter Tryz.func125, Tryz.ntmps125
        go_wp2_with fail
        refine (specPF_is a l _ _ hp).mono ?_
        rintro e w1 ⟨rfl, hn1⟩
        have hw1 := hw.trans hn1
        have hB1 := hB.new hn1
        have hD1 := hD.new hn1
        have cb1 := hB1.cells
        have cd1 := hD1.cells
        go_wp2_with fail
        refine (specPF_is b m _ _ hq).mono ?_
        rintro e w2 ⟨rfl, hn2⟩
        have hw2 := hw1.trans hn2
        have hB2 := hB1.new hn2
        have hD2 := hD1.new hn2
        have cb2 := hB2.cells
        have cd2 := hD2.cells
        go_wp2
        go_ret
        exact ⟨ret_bool hf.out.symm, hw2⟩
    · have hf : Hid (inP a l b m = false) := by unfold inP hasA Hid; simp [hq]
      go_enter Tryz.func125, Tryz.ntmps125
      go_wp2_with fail
      refine (specPF_is a l _ _ hp).mono ?_
      rintro e w1 ⟨rfl, hn1⟩
      have hw1 := hw.trans hn1
      have hB1 := hB.new hn1
      have hD1 := hD.new hn1
      have cb1 := hB1.cells
      have cd1 := hD1.cells
      go_wp2_with fail
      refine (specPF_is b m _ _ hq).mono ?_
      rintro e w2 ⟨rfl, hn2⟩
      have hw2 := hw1.trans hn2
      have hB2 := hB1.new hn2
      have hD2 := hD1.new hn2
      have cb2 := hB2.cells
      have cd2 := hD2.cells
      go_wp2
      go_ret
      exact ⟨ret_bool hf.out.symm, hw2⟩
    · have hf : Hid (inP a l b m = false) := by unfold inP hasA Hid; simp [hq]
      go_enter Tryz.func125, Tryz.ntmps125
      go_wp2_with fail
      refine (specPF_is a l _ _ hp).mono ?_
      rintro e w1 ⟨rfl, hn1⟩
      have hw1 := hw.trans hn1
      have hB1 := hB.new hn1
      have hD1 := hD.new hn1
      have cb1 := hB1.cells
      have cd1 := hD1.cells
      go_wp2_with fail
      refine (specPF_is b m _ _ hq).mono ?_
      rintro e w2 ⟨rfl, hn2⟩
      have hw2 := hw1.trans hn2
      have hB2 := hB1.new hn2
      have hD2 := hD1.new hn2
      have cb2 := hB2.cells
      have cd2 := hD2.cells
      go_wp2
      go_ret
      exact ⟨ret_bool hf.out.symm, hw2⟩
  · have hf : Hid (inP a l b m = false) := by unfold inP Hid; simp [hp]
    go_enter Tryz.func125, Tryz.ntmps125
    go_wp2_with fail
    refine (specPF_is a l _ _ hp).mono ?_
    rintro e w1 ⟨rfl, hn1⟩
    have hw1 := hw.trans hn1
    have hB1 := hB.new hn1
    have hD1 := hD.new hn1
    have cb1 := hB1.cells
    have cd1 := hD1.cells
    go_wp2
    go_ret
    exact ⟨ret_bool hf.out.symm, hw1⟩
  · have hf : Hid (inP a l b m = false) := by unfold inP Hid; simp [hp]
    go_enter Tryz.func125, Tryz.ntmps125
    go_wp2_with fail
    refine (specPF_is a l _ _ hp).mono ?_
    rintro e w1 ⟨rfl, hn1⟩
    have hw1 := hw.trans hn1
    have hB1 := hB.new hn1
    have hD1 := hD.new hn1
    have cb1 := hB1.cells
    have cd1 := hD1.cells
    go_wp2
    go_ret
    exact ⟨ret_bool hf.out.symm, hw1⟩

end Go.Proofs.YtjampcfikfafkaaGreat
