/- What is proved here: what ClockFault answers, in the program and in the model, for lists of at most 1048576 numbers. -/
import Derived.Test.YtpbmbnckdmjdhaaC13Ck
import Derived.ChangeKeysEq
namespace Go.Proofs.Ytpbmbnckdmjdhaa
open Go.RowKit
set_option linter.unusedVariables false
set_option linter.unusedSimpArgs false
set_option maxRecDepth 100000

/-- What may be seen. -/
abbrev CkP (nw x : Int) : Prop := 0 ≤ x ∧ nw - 2 ≤ x ∧ x ≤ nw + 2

/-- The fault of a clock. -/
def ckF (nw : Int) : List Int → Int
  | [x, y] => if 0 ≤ nw ∧ nw ≤ 1000000000 then (if CkP nw x ∧ CkP nw y then 0 else 3) else 3
  | _ => if 0 ≤ nw ∧ nw ≤ 1000000000 then 1 else 3

theorem ckF_far {nw : Int} {xs : List Int} (h : ¬ (0 ≤ nw ∧ nw ≤ 1000000000)) : ckF nw xs = 3 := by
  unfold ckF
  split <;> exact if_neg h

theorem ckF_form {nw : Int} {xs : List Int} (h : 0 ≤ nw ∧ nw ≤ 1000000000) (hl : ¬ xs.length = 2) : ckF nw xs = 1 := by
  unfold ckF
  split
  · exact absurd rfl hl
  · exact if_pos h

theorem ckF_ok {nw x y : Int} (h : 0 ≤ nw ∧ nw ≤ 1000000000) (hx : CkP nw x) (hy : CkP nw y) : ckF nw [x, y] = 0 := by
  show (if 0 ≤ nw ∧ nw ≤ 1000000000 then (if CkP nw x ∧ CkP nw y then 0 else 3) else 3 : Int) = 0
  rw [if_pos h, if_pos ⟨hx, hy⟩]

theorem ckF_no {nw x y : Int} (h : 0 ≤ nw ∧ nw ≤ 1000000000) (hx : ¬ (CkP nw x ∧ CkP nw y)) : ckF nw [x, y] = 3 := by
  show (if 0 ≤ nw ∧ nw ≤ 1000000000 then (if CkP nw x ∧ CkP nw y then 0 else 3) else 3 : Int) = 3
  rw [if_pos h, if_neg hx]

theorem two13 {xs : List Int} (h : xs.length = 2) : ∃ x y, xs = [x, y] := by
  match xs, h with
  | [x, y], _ => exact ⟨x, y, rfl⟩

theorem nr13_in {nw x : Int} (h : CkP nw x) : nr13 nw x = x := by unfold nr13; omega

theorem nr13_out {nw x : Int} (h0 : 0 ≤ nw) (h : ¬ CkP nw x) : ¬ x = nr13 nw x := by
  unfold nr13
  intro e
  apply h
  refine ⟨?_, ?_, ?_⟩ <;> omega

theorem eqA13 (x y x' y' : Int) (w : World) : ∃ r : Bool, (Op.equalIn 9999 64 (.agg #[.int .i64 x, .int .i64 y]) (.agg #[.int .i64 x', .int .i64 y'])).run Try.prog w = .ok r w ∧ (r = true ↔ x = x' ∧ y = y') := by
  obtain ⟨i0, hi, -⟩ := info_parts Try.infoI64
  rw [run_equalIn_array w 9998 _ _ Try.underlying64 hi]
  have c1 : Try.prog.cellsOf 2 = 1 := by kernel_rfl
  have pk : Try.prog.plainKey 2 = true := by kernel_rfl
  have p0 : ∀ a b : Int, (part 2 #[.int .i64 a, .int .i64 b] (0 * 1)).run Try.prog w = .ok (.int .i64 a) w := fun a b => run_part_plain w pk rfl
  have p1 : ∀ a b : Int, (part 2 #[.int .i64 a, .int .i64 b] (1 * 1)).run Try.prog w = .ok (.int .i64 b) w := fun a b => run_part_plain w pk rfl
  have p2 : ∀ a b : Int, (part 2 #[.int .i64 a, .int .i64 b] 1).run Try.prog w = .ok (.int .i64 b) w := fun a b => run_part_plain w pk rfl
  have e0 : ∀ a b : Int, (Op.equalIn 9998 2 (.int .i64 a) (.int .i64 b)).run Try.prog w = .ok (a == b) w := fun a b => run_equalIn_int w 9997 2 .i64 .i64 a b Try.underlying2
  rw [c1, show List.range 2 = [0, 1] from rfl]
  simp only [Op.eqItems, Sem.run_bind, p0, p1, e0, Result.andThen_ok]
  by_cases hx : x = x'
  · subst hx
    by_cases hy : y = y'
    · subst hy
      exact ⟨true, by simp [p2, e0], by simp⟩
    · exact ⟨false, by simp [p2, e0, hy], by simp [hy]⟩
  · exact ⟨false, by simp [hx], by simp [hx]⟩

theorem eqA13_yes (x y : Int) (w : World) : (Op.equalIn 9999 64 (.agg #[.int .i64 x, .int .i64 y]) (.agg #[.int .i64 x, .int .i64 y])).run Try.prog w = .ok true w := by
  obtain ⟨r, h1, h2⟩ := eqA13 x y x y w
  rw [h1, h2.2 ⟨rfl, rfl⟩]

theorem eqA13_no (x y x' y' : Int) (w : World) (h : ¬ (x = x' ∧ y = y')) : (Op.equalIn 9999 64 (.agg #[.int .i64 x, .int .i64 y]) (.agg #[.int .i64 x', .int .i64 y'])).run Try.prog w = .ok false w := by
  obtain ⟨r, h1, h2⟩ := eqA13 x y x' y' w
  have : r = false := by
    cases r
    · rfl
    · exact absurd (h2.1 rfl) h
  rw [h1, this]

set_option maxHeartbeats 3200000 in
theorem implCkF (nw : Int) (a : Option Addr) (n c : Nat) (xs : List Int) (w : World) (h : NsAt w a xs) (hn : xs.length = n) (hm : n ≤ 1048576) :
    Calls Try.prog 15 #[.agg #[.int .i64 nw, .slice a n c]] w fun e w' => e = .returned (.int .i64 (ckF nw xs)) ∧ New w w' := by
  have hw := (New.refl w).alloc (.cells #[.int .i64 nw, .slice a n c] 26)
  have hB : Blk (w.alloc (.cells #[.int .i64 nw, .slice a n c] 26)) w.heap.size 26 #[.int .i64 nw, .slice a n c] := Blk.mk _ _ _ _ rfl
  by_cases g0 : nw < 0
  case pos =>
    have hx : Hid (ckF nw xs = 3) := ckF_far (by omega)
    go_enter Try.func15, Try.ntmps15
    go_wp2
    go_ret
    exact ⟨ret_i64 hx.out.symm, hw⟩
  by_cases g1 : 1000000000 < nw
  case pos =>
    have hx : Hid (ckF nw xs = 3) := ckF_far (by omega)
    go_enter Try.func15, Try.ntmps15
    go_wp2
    go_ret
    exact ⟨ret_i64 hx.out.symm, hw⟩
  by_cases g2 : n = 2
  case neg =>
    have hx : Hid (ckF nw xs = 1) := ckF_form (by omega) (by omega)
    have g3 : ((n : Int) != 2) = true := by simp; omega
    clear hn g2
    go_enter Try.func15, Try.ntmps15
    go_wp2
    go_ret
    exact ⟨ret_i64 hx.out.symm, hw⟩
  subst g2
  obtain ⟨x, y, rfl⟩ := two13 hn
  clear hn hm
  have h0 : 0 ≤ nw := by omega
  have h1 : nw ≤ 1000000000 := by omega
  by_cases gx : CkP nw x
  case neg =>
    have hx : Hid (ckF nw [x, y] = 3) := ckF_no ⟨h0, h1⟩ (fun k => gx k.1)
    have ex := nr13_out h0 gx
    have hq : ∀ X, (Op.equalIn 9999 64 (.agg #[.int .i64 x, .int .i64 y]) (.agg #[.int .i64 (nr13 nw x), .int .i64 (nr13 nw y)])).run Try.prog X = .ok false X := fun X => eqA13_no _ _ _ _ X (fun k => ex k.1)
    clear ex
    go_enter Try.func15, Try.ntmps15
    go_wp2_with fail
    refine (rdOf nw x y a c _ (h.new hw)).mono ?_
    rintro e w1 ⟨rfl, hn1⟩
    have hal := (New.refl w1).alloc (.cells #[.int .i64 nw, .int .i64 x, .int .i64 y] 66)
    have bX := Blk.mk w1 w1.heap.size 66 #[.int .i64 nw, .int .i64 x, .int .i64 y] rfl
    have hw1 := (hw.trans hn1).trans hal
    clear hB
    go_wp2_with fail
    refine hw_start (n := 4) (S := fun X => New (w1.alloc (.cells #[.int .i64 nw, .int .i64 x, .int .i64 y] 66)) X) rfl (by kernel_rfl) ((New.refl _).drew) (fun hH => ?_)
    refine' hw_take 0 (some 18) (.agg #[.int .i64 nw, .int .i64 x, .int .i64 y]) rfl rfl (by kernel_rfl) (by kernel_rfl) (by kernel_rfl) (fun _ _ _ h => h) (by rfl) hH ?hz0a ?rz0a
    case hz0a =>
      intro X hX
      exact run_load_blk 66 (.tmp 3) rfl w1.heap.size rfl #[.int .i64 nw, .int .i64 x, .int .i64 y] _ (bX.new hX) Try.underlying66 rfl (by kernel_rfl)
    simp only [Act.put, List.setIfInBounds_toArray, List.set_cons_zero, List.set_cons_succ]
    refine' hw_take 1 (some 19) (.agg #[.int .i64 nw, .int .i64 x, .int .i64 y]) rfl rfl (by kernel_rfl) (by kernel_rfl) (by kernel_rfl) (fun _ _ _ h => h) (by rfl) hH ?hz1a ?rz1a
    case hz1a =>
      intro X hX
      exact run_load_blk 66 (.tmp 3) rfl w1.heap.size rfl #[.int .i64 nw, .int .i64 x, .int .i64 y] _ (bX.new hX) Try.underlying66 rfl (by kernel_rfl)
    simp only [Act.put, List.setIfInBounds_toArray, List.set_cons_zero, List.set_cons_succ]
    refine hw_call 2 (some 20) rfl rfl (by kernel_rfl) (by rfl) (fun K hK => ?_)
    go_simp
    refine (wiMa nw x y _ h0 h1).mono ?_
    rintro e w2 ⟨rfl, hn2⟩
    go_simp
    have n2 := ((New.refl (w1.alloc (.cells #[.int .i64 nw, .int .i64 x, .int .i64 y] 66))).drew).trans hn2
    refine hK.out _ _ n2 (fun hH2 => ?_)
    simp only [Act.put, List.setIfInBounds_toArray, List.set_cons_zero, List.set_cons_succ]
    refine' hw_take 3 (some 21) _ rfl rfl (by kernel_rfl) (by kernel_rfl) (by kernel_rfl) (fun _ _ _ h => h) (by rfl) hH2 ?hy1 ?rest1
    case hy1 =>
      intro X hX
      go_simp
      try rfl
    simp only [Act.put, List.setIfInBounds_toArray, List.set_cons_zero, List.set_cons_succ]
    refine wpAnyH_done (by kernel_rfl) ?_ _
    go_wp2
    go_ret
    exact ⟨ret_i64 hx.out.symm, hw1.trans hH2⟩
  by_cases gy : CkP nw y
  case neg =>
    have hx : Hid (ckF nw [x, y] = 3) := ckF_no ⟨h0, h1⟩ (fun k => gy k.2)
    have ey := nr13_out h0 gy
    have hq : ∀ X, (Op.equalIn 9999 64 (.agg #[.int .i64 x, .int .i64 y]) (.agg #[.int .i64 (nr13 nw x), .int .i64 (nr13 nw y)])).run Try.prog X = .ok false X := fun X => eqA13_no _ _ _ _ X (fun k => ey k.2)
    clear ey
    go_enter Try.func15, Try.ntmps15
    go_wp2_with fail
    refine (rdOf nw x y a c _ (h.new hw)).mono ?_
    rintro e w1 ⟨rfl, hn1⟩
    have hal := (New.refl w1).alloc (.cells #[.int .i64 nw, .int .i64 x, .int .i64 y] 66)
    have bX := Blk.mk w1 w1.heap.size 66 #[.int .i64 nw, .int .i64 x, .int .i64 y] rfl
    have hw1 := (hw.trans hn1).trans hal
    clear hB
    go_wp2_with fail
    refine hw_start (n := 4) (S := fun X => New (w1.alloc (.cells #[.int .i64 nw, .int .i64 x, .int .i64 y] 66)) X) rfl (by kernel_rfl) ((New.refl _).drew) (fun hH => ?_)
    refine' hw_take 0 (some 18) (.agg #[.int .i64 nw, .int .i64 x, .int .i64 y]) rfl rfl (by kernel_rfl) (by kernel_rfl) (by kernel_rfl) (fun _ _ _ h => h) (by rfl) hH ?hz0b ?rz0b
    case hz0b =>
      intro X hX
      exact run_load_blk 66 (.tmp 3) rfl w1.heap.size rfl #[.int .i64 nw, .int .i64 x, .int .i64 y] _ (bX.new hX) Try.underlying66 rfl (by kernel_rfl)
    simp only [Act.put, List.setIfInBounds_toArray, List.set_cons_zero, List.set_cons_succ]
    refine' hw_take 1 (some 19) (.agg #[.int .i64 nw, .int .i64 x, .int .i64 y]) rfl rfl (by kernel_rfl) (by kernel_rfl) (by kernel_rfl) (fun _ _ _ h => h) (by rfl) hH ?hz1b ?rz1b
    case hz1b =>
      intro X hX
      exact run_load_blk 66 (.tmp 3) rfl w1.heap.size rfl #[.int .i64 nw, .int .i64 x, .int .i64 y] _ (bX.new hX) Try.underlying66 rfl (by kernel_rfl)
    simp only [Act.put, List.setIfInBounds_toArray, List.set_cons_zero, List.set_cons_succ]
    refine hw_call 2 (some 20) rfl rfl (by kernel_rfl) (by rfl) (fun K hK => ?_)
    go_simp
    refine (wiMa nw x y _ h0 h1).mono ?_
    rintro e w2 ⟨rfl, hn2⟩
    go_simp
    have n2 := ((New.refl (w1.alloc (.cells #[.int .i64 nw, .int .i64 x, .int .i64 y] 66))).drew).trans hn2
    refine hK.out _ _ n2 (fun hH2 => ?_)
    simp only [Act.put, List.setIfInBounds_toArray, List.set_cons_zero, List.set_cons_succ]
    refine' hw_take 3 (some 21) _ rfl rfl (by kernel_rfl) (by kernel_rfl) (by kernel_rfl) (fun _ _ _ h => h) (by rfl) hH2 ?hy2 ?rest2
    case hy2 =>
      intro X hX
      go_simp
      try rfl
    simp only [Act.put, List.setIfInBounds_toArray, List.set_cons_zero, List.set_cons_succ]
    refine wpAnyH_done (by kernel_rfl) ?_ _
    go_wp2
    go_ret
    exact ⟨ret_i64 hx.out.symm, hw1.trans hH2⟩
  have hx : Hid (ckF nw [x, y] = 0) := ckF_ok ⟨h0, h1⟩ gx gy
  have hq : ∀ X, (Op.equalIn 9999 64 (.agg #[.int .i64 x, .int .i64 y]) (.agg #[.int .i64 (nr13 nw x), .int .i64 (nr13 nw y)])).run Try.prog X = .ok true X := fun X => by rw [nr13_in gx, nr13_in gy]; exact eqA13_yes _ _ X
  go_enter Try.func15, Try.ntmps15
  go_wp2_with fail
  refine (rdOf nw x y a c _ (h.new hw)).mono ?_
  rintro e w1 ⟨rfl, hn1⟩
  have hal := (New.refl w1).alloc (.cells #[.int .i64 nw, .int .i64 x, .int .i64 y] 66)
  have bX := Blk.mk w1 w1.heap.size 66 #[.int .i64 nw, .int .i64 x, .int .i64 y] rfl
  have hw1 := (hw.trans hn1).trans hal
  clear hB
  go_wp2_with fail
  refine hw_start (n := 4) (S := fun X => New (w1.alloc (.cells #[.int .i64 nw, .int .i64 x, .int .i64 y] 66)) X) rfl (by kernel_rfl) ((New.refl _).drew) (fun hH => ?_)
  refine' hw_take 0 (some 18) (.agg #[.int .i64 nw, .int .i64 x, .int .i64 y]) rfl rfl (by kernel_rfl) (by kernel_rfl) (by kernel_rfl) (fun _ _ _ h => h) (by rfl) hH ?hz0c ?rz0c
  case hz0c =>
    intro X hX
    exact run_load_blk 66 (.tmp 3) rfl w1.heap.size rfl #[.int .i64 nw, .int .i64 x, .int .i64 y] _ (bX.new hX) Try.underlying66 rfl (by kernel_rfl)
  simp only [Act.put, List.setIfInBounds_toArray, List.set_cons_zero, List.set_cons_succ]
  refine' hw_take 1 (some 19) (.agg #[.int .i64 nw, .int .i64 x, .int .i64 y]) rfl rfl (by kernel_rfl) (by kernel_rfl) (by kernel_rfl) (fun _ _ _ h => h) (by rfl) hH ?hz1c ?rz1c
  case hz1c =>
    intro X hX
    exact run_load_blk 66 (.tmp 3) rfl w1.heap.size rfl #[.int .i64 nw, .int .i64 x, .int .i64 y] _ (bX.new hX) Try.underlying66 rfl (by kernel_rfl)
  simp only [Act.put, List.setIfInBounds_toArray, List.set_cons_zero, List.set_cons_succ]
  refine hw_call 2 (some 20) rfl rfl (by kernel_rfl) (by rfl) (fun K hK => ?_)
  go_simp
  refine (wiMa nw x y _ h0 h1).mono ?_
  rintro e w2 ⟨rfl, hn2⟩
  go_simp
  have n2 := ((New.refl (w1.alloc (.cells #[.int .i64 nw, .int .i64 x, .int .i64 y] 66))).drew).trans hn2
  refine hK.out _ _ n2 (fun hH2 => ?_)
  simp only [Act.put, List.setIfInBounds_toArray, List.set_cons_zero, List.set_cons_succ]
  refine' hw_take 3 (some 21) _ rfl rfl (by kernel_rfl) (by kernel_rfl) (by kernel_rfl) (fun _ _ _ h => h) (by rfl) hH2 ?hy3 ?rest3
  case hy3 =>
    intro X hX
    go_simp
    try rfl
  simp only [Act.put, List.setIfInBounds_toArray, List.set_cons_zero, List.set_cons_succ]
  refine wpAnyH_done (by kernel_rfl) ?_ _
  go_wp2
  go_ret
  exact ⟨ret_i64 hx.out.symm, hw1.trans hH2⟩

end Go.Proofs.Ytpbmbnckdmjdhaa
