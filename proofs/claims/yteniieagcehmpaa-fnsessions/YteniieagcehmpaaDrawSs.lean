/- What is proved here: what the drawing of a session leaves: some numbers, and the source drawn on. -/
import Derived.Test.YteniieagcehmpaaDrawSc
import Derived.Deep.CutRange
namespace Go.Proofs.Yteniieagcehmpaa
open Go.RowKit Go.Sort
set_option linter.unusedVariables false
set_option linter.unusedSimpArgs false

set_option maxHeartbeats 6400000 in
theorem l5Session_sc {B n c t : Nat} {a : Option Addr} {zs : List Int} {w : World} (h : Sc w B a n c zs t) (ht : t ≤ 100000) :
    Calls Try.prog 31 #[.pointer (some ⟨B, 0, none⟩)] w fun e w' => ∃ (x1 x2 x3 x4 x5 : Int) (t' : Nat), e = .returned (.agg #[.int .i64 x1, .int .i64 x2, .int .i64 x3, .int .i64 x4, .int .i64 x5]) ∧ t' ≤ t + 20 ∧ Sc w' B a n c zs t' ∧ Turn (fun k => k = B) w w' := by
  have hlt := h.blk.lt
  have hA := h.lt_of
  have s0 := h.new ((New.refl w).alloc (.cells #[.int .i64 0, .int .i64 0, .int .i64 0, .int .i64 0, .int .i64 0] 27))
  have t0 : Turn (fun k => k = B) w (w.alloc (.cells #[.int .i64 0, .int .i64 0, .int .i64 0, .int .i64 0, .int .i64 0] 27)) := ((New.refl w).alloc _).turn
  have R0 : Blk (w.alloc (.cells #[.int .i64 0, .int .i64 0, .int .i64 0, .int .i64 0, .int .i64 0] 27)) w.heap.size 27 #[.int .i64 0, .int .i64 0, .int .i64 0, .int .i64 0, .int .i64 0] := Blk.mk _ _ _ _ rfl
  have RB : ¬ w.heap.size = B := by omega
  have ge0 := Nat.le_refl w.heap.size
  clear h
  go_enter Try.func31, Try.ntmps31
  go_upto_region 1 with fail
  generalize w.alloc (.cells #[.int .i64 0, .int .i64 0, .int .i64 0, .int .i64 0, .int .i64 0] 27) = w0 at *
  have cR := R0.cells
  have fR := R0.frees
  have lR := R0.lt
  go_wp2_with fail
  have hbl := Blk.mk w0 w0.heap.size 2 #[.int .i64 0, .int .i64 1, .int .i64 2, .int .i64 3, .int .i64 3, .int .i64 3] rfl
  have hal := (New.refl w0).alloc (.cells #[.int .i64 0, .int .i64 1, .int .i64 2, .int .i64 3, .int .i64 3, .int .i64 3] 2)
  refine (pick_sc (s0.new hal) [0, 1, 2, 3, 3, 3] hbl 6 rfl (by omega) (by omega) (by omega)).mono ?_
  rintro e w1 ⟨r1, rfl, hx1, s1, ht1⟩
  have t1 := (t0.andNew hal).both ht1
  have R1 := (R0.new hal).turn ht1 RB
  clear hbl hal hx1
  have z1 := t1.size
  clear s0 t0 ht1 R0
  have cR := R1.cells
  have fR := R1.frees
  have lR := R1.lt
  go_upto_region 2 with fail
  have hal := (New.refl w1).alloc (.cells #[.int .i64 r1, .int .i64 0, .int .i64 0, .int .i64 0, .int .i64 0] 27)
  have C2 : Blk (w1.alloc (.cells #[.int .i64 r1, .int .i64 0, .int .i64 0, .int .i64 0, .int .i64 0] 27)) w1.heap.size 27 #[.int .i64 r1, .int .i64 0, .int .i64 0, .int .i64 0, .int .i64 0] := Blk.mk _ _ _ _ rfl
  have s2 := s1.new hal
  have t2 := t1.andNew hal
  have R2 := R1.new hal
  have CB : ¬ w1.heap.size = B := by omega
  have gC : w.heap.size ≤ w1.heap.size := by omega
  clear hal s1 t1 R1
  generalize w1.alloc (.cells #[.int .i64 r1, .int .i64 0, .int .i64 0, .int .i64 0, .int .i64 0] 27) = w2 at *
  have z2 := t2.size
  have cR := R2.cells
  have fR := R2.frees
  have lR := R2.lt
  have cC := C2.cells
  have fC := C2.frees
  have lC := C2.lt
  by_cases a0 : 0 < r1
  case neg =>
    go_wp2_with fail
    refine (next_sc s2 20 (by omega) (by omega)).mono ?_
    rintro e w3 ⟨r3, rfl, ⟨hd3, hf3, -⟩, s3, ht3⟩
    have hf3 := hf3 (by omega)
    have t3 := t2.both ht3
    have R3 := R2.turn ht3 RB
    have C3 := C2.turn ht3 CB
    have z3 := t3.size
    clear s2 t2 ht3 R2 C2
    have cR := R3.cells
    have fR := R3.frees
    have lR := R3.lt
    have cC := C3.cells
    have fC := C3.frees
    have lC := C3.lt
    have lne : ¬ w1.heap.size = w.heap.size := by omega
    by_cases u0 : r3 = 0
    · subst u0
      go_wp2_with fail
      have hbl := Blk.mk w3 w3.heap.size 2 #[.int .i64 (-1), .int .i64 4, .int .i64 0] rfl
      have hal := (New.refl w3).alloc (.cells #[.int .i64 (-1), .int .i64 4, .int .i64 0] 2)
      refine (pick_sc (s3.new hal) [-1, 4, 0] hbl 3 rfl (by omega) (by omega) (by omega)).mono ?_
      rintro e w4 ⟨r4, rfl, hx4, s4, ht4⟩
      have t4 := (t3.andNew hal).both ht4
      have R4 := (R3.new hal).turn ht4 RB
      have C4 := (C3.new hal).turn ht4 CB
      clear hbl hal hx4
      have z4 := t4.size
      clear s3 t3 ht4 R3 C3
      have cR := R4.cells
      have fR := R4.frees
      have lR := R4.lt
      have cC := C4.cells
      have fC := C4.frees
      have lC := C4.lt
      go_wp2
      refine bodyPost_ret (v := .agg #[.int .i64 r4, .int .i64 0, .int .i64 0, .int .i64 0, .int .i64 0]) (by simp [results, Try.results31, go_sem, cR, cC]) rfl ⟨_, _, _, _, _, t + 1 + 1 + 1, rfl, by omega, ?_, ?_⟩
      · simp (disch := first | exact hA | exact hlt | exact ge0 | exact gC) only [Sc.setI (N := w.heap.size), s4]
      · simp (disch := first | exact ge0 | exact gC) only [Turn.setI, t4]
    have y0 : (r3 == 0) = false := by simpa using u0
    by_cases u1 : r3 = 1
    · subst u1
      go_wp2_with fail
      have hbl := Blk.mk w3 w3.heap.size 2 #[.int .i64 0, .int .i64 65536] rfl
      have hal := (New.refl w3).alloc (.cells #[.int .i64 0, .int .i64 65536] 2)
      refine (pick_sc (s3.new hal) [0, 65536] hbl 2 rfl (by omega) (by omega) (by omega)).mono ?_
      rintro e w4 ⟨r4, rfl, hx4, s4, ht4⟩
      have t4 := (t3.andNew hal).both ht4
      have R4 := (R3.new hal).turn ht4 RB
      have C4 := (C3.new hal).turn ht4 CB
      clear hbl hal hx4
      have z4 := t4.size
      clear s3 t3 ht4 R3 C3
      have cR := R4.cells
      have fR := R4.frees
      have lR := R4.lt
      have cC := C4.cells
      have fC := C4.frees
      have lC := C4.lt
      go_wp2
      refine bodyPost_ret (v := .agg #[.int .i64 r1, .int .i64 r4, .int .i64 0, .int .i64 0, .int .i64 0]) (by simp [results, Try.results31, go_sem, cR, cC]) rfl ⟨_, _, _, _, _, t + 1 + 1 + 1, rfl, by omega, ?_, ?_⟩
      · simp (disch := first | exact hA | exact hlt | exact ge0 | exact gC) only [Sc.setI (N := w.heap.size), s4]
      · simp (disch := first | exact ge0 | exact gC) only [Turn.setI, t4]
    have y1 : (r3 == 1) = false := by simpa using u1
    by_cases u2 : r3 = 2
    · subst u2
      go_wp2_with fail
      have hbl := Blk.mk w3 w3.heap.size 2 #[.int .i64 (-1), .int .i64 1000, .int .i64 1001] rfl
      have hal := (New.refl w3).alloc (.cells #[.int .i64 (-1), .int .i64 1000, .int .i64 1001] 2)
      refine (pick_sc (s3.new hal) [-1, 1000, 1001] hbl 3 rfl (by omega) (by omega) (by omega)).mono ?_
      rintro e w4 ⟨r4, rfl, hx4, s4, ht4⟩
      have t4 := (t3.andNew hal).both ht4
      have R4 := (R3.new hal).turn ht4 RB
      have C4 := (C3.new hal).turn ht4 CB
      clear hbl hal hx4
      have z4 := t4.size
      clear s3 t3 ht4 R3 C3
      have cR := R4.cells
      have fR := R4.frees
      have lR := R4.lt
      have cC := C4.cells
      have fC := C4.frees
      have lC := C4.lt
      go_wp2
      refine bodyPost_ret (v := .agg #[.int .i64 r1, .int .i64 0, .int .i64 0, .int .i64 r4, .int .i64 0]) (by simp [results, Try.results31, go_sem, cR, cC]) rfl ⟨_, _, _, _, _, t + 1 + 1 + 1, rfl, by omega, ?_, ?_⟩
      · simp (disch := first | exact hA | exact hlt | exact ge0 | exact gC) only [Sc.setI (N := w.heap.size), s4]
      · simp (disch := first | exact ge0 | exact gC) only [Turn.setI, t4]
    have y2 : (r3 == 2) = false := by simpa using u2
    go_wp2
    refine bodyPost_ret (v := .agg #[.int .i64 r1, .int .i64 0, .int .i64 0, .int .i64 0, .int .i64 0]) (by simp [results, Try.results31, go_sem, cR, cC]) rfl ⟨_, _, _, _, _, t + 1 + 1, rfl, by omega, ?_, ?_⟩
    · simp (disch := first | exact hA | exact hlt | exact ge0 | exact gC) only [Sc.setI (N := w.heap.size), s3]
    · simp (disch := first | exact ge0 | exact gC) only [Turn.setI, t3]
  go_wp2_with fail
  refine (next_sc s2 9 (by omega) (by omega)).mono ?_
  rintro e w3 ⟨r3, rfl, ⟨hd3, hf3, -⟩, s3, ht3⟩
  have hf3 := hf3 (by omega)
  have t3 := t2.both ht3
  have R3 := R2.turn ht3 RB
  have C3 := C2.turn ht3 CB
  have z3 := t3.size
  clear s2 t2 ht3 R2 C2
  have cR := R3.cells
  have fR := R3.frees
  have lR := R3.lt
  have cC := C3.cells
  have fC := C3.frees
  have lC := C3.lt
  go_wp2_with fail
  refine (next_sc s3 50 (by omega) (by omega)).mono ?_
  rintro e w4 ⟨r4, rfl, ⟨hd4, hf4, -⟩, s4, ht4⟩
  have hf4 := hf4 (by omega)
  have t4 := t3.both ht4
  have R4 := R3.turn ht4 RB
  have C4 := C3.turn ht4 CB
  have z4 := t4.size
  clear s3 t3 ht4 R3 C3
  have cR := R4.cells
  have fR := R4.frees
  have lR := R4.lt
  have cC := C4.cells
  have fC := C4.frees
  have lC := C4.lt
  go_wp2_with fail
  have hbl := Blk.mk w4 w4.heap.size 2 #[.int .i64 r3, .int .i64 r4, .int .i64 49] rfl
  have hal := (New.refl w4).alloc (.cells #[.int .i64 r3, .int .i64 r4, .int .i64 49] 2)
  refine (pick_sc (s4.new hal) [r3, r4, 49] hbl 3 rfl (by omega) (by omega) (by omega)).mono ?_
  rintro e w5 ⟨r5, rfl, hx5, s5, ht5⟩
  have t5 := (t4.andNew hal).both ht5
  have R5 := (R4.new hal).turn ht5 RB
  have C5 := (C4.new hal).turn ht5 CB
  clear hbl hal hx5
  have z5 := t5.size
  clear s4 t4 ht5 R4 C4
  have cR := R5.cells
  have fR := R5.frees
  have lR := R5.lt
  have cC := C5.cells
  have fC := C5.frees
  have lC := C5.lt
  go_upto_region 4 with fail
  have C6 : Blk (w5.setCell ⟨w1.heap.size, 3, none⟩ (.int .i64 r5)) w1.heap.size 27 #[.int .i64 r1, .int .i64 0, .int .i64 0, .int .i64 r5, .int .i64 0] := by have h9 := C5.set 3 (.int .i64 r5); simp only [List.setIfInBounds_toArray, List.set_cons_zero, List.set_cons_succ] at h9; exact h9
  have R6 : Blk (w5.setCell ⟨w1.heap.size, 3, none⟩ (.int .i64 r5)) w.heap.size 27 #[.int .i64 0, .int .i64 0, .int .i64 0, .int .i64 0, .int .i64 0] := R5.turn (S := fun i => i = w1.heap.size) (Turn.set (S := fun i => i = w1.heap.size) (Turn.refl _ _) rfl _) (by omega)
  have s6 := s5.setN hA hlt ⟨w1.heap.size, 3, none⟩ (.int .i64 r5) gC
  have t6 := Turn.andSet t5 ⟨w1.heap.size, 3, none⟩ (.int .i64 r5) gC
  clear s5 t5 R5 C5 cC cR fC fR lC lR
  generalize w5.setCell ⟨w1.heap.size, 3, none⟩ (.int .i64 r5) = w6 at *
  have z6 := t6.size
  have cR := R6.cells
  have fR := R6.frees
  have lR := R6.lt
  have cC := C6.cells
  have fC := C6.frees
  have lC := C6.lt
  go_wp2_with fail
  refine (next_sc s6 4 (by omega) (by omega)).mono ?_
  rintro e w7 ⟨r7, rfl, ⟨hd7, hf7, -⟩, s7, ht7⟩
  have hf7 := hf7 (by omega)
  have t7 := t6.both ht7
  have R7 := R6.turn ht7 RB
  have C7 := C6.turn ht7 CB
  have z7 := t7.size
  clear s6 t6 ht7 R6 C6
  have cR := R7.cells
  have fR := R7.frees
  have lR := R7.lt
  have cC := C7.cells
  have fC := C7.frees
  have lC := C7.lt
  go_upto_region 5 with fail
  have C8 : Blk (w7.setCell ⟨w1.heap.size, 4, none⟩ (.int .i64 r7)) w1.heap.size 27 #[.int .i64 r1, .int .i64 0, .int .i64 0, .int .i64 r5, .int .i64 r7] := by have h9 := C7.set 4 (.int .i64 r7); simp only [List.setIfInBounds_toArray, List.set_cons_zero, List.set_cons_succ] at h9; exact h9
  have R8 : Blk (w7.setCell ⟨w1.heap.size, 4, none⟩ (.int .i64 r7)) w.heap.size 27 #[.int .i64 0, .int .i64 0, .int .i64 0, .int .i64 0, .int .i64 0] := R7.turn (S := fun i => i = w1.heap.size) (Turn.set (S := fun i => i = w1.heap.size) (Turn.refl _ _) rfl _) (by omega)
  have s8 := s7.setN hA hlt ⟨w1.heap.size, 4, none⟩ (.int .i64 r7) gC
  have t8 := Turn.andSet t7 ⟨w1.heap.size, 4, none⟩ (.int .i64 r7) gC
  clear s7 t7 R7 C7 cC cR fC fR lC lR
  generalize w7.setCell ⟨w1.heap.size, 4, none⟩ (.int .i64 r7) = w8 at *
  have z8 := t8.size
  have cR := R8.cells
  have fR := R8.frees
  have lR := R8.lt
  have cC := C8.cells
  have fC := C8.frees
  have lC := C8.lt
  by_cases a1 : 1 < r1
  case neg =>
    go_wp2_with fail
    refine (next_sc s8 20 (by omega) (by omega)).mono ?_
    rintro e w9 ⟨r9, rfl, ⟨hd9, hf9, -⟩, s9, ht9⟩
    have hf9 := hf9 (by omega)
    have t9 := t8.both ht9
    have R9 := R8.turn ht9 RB
    have C9 := C8.turn ht9 CB
    have z9 := t9.size
    clear s8 t8 ht9 R8 C8
    have cR := R9.cells
    have fR := R9.frees
    have lR := R9.lt
    have cC := C9.cells
    have fC := C9.frees
    have lC := C9.lt
    have lne : ¬ w1.heap.size = w.heap.size := by omega
    by_cases u0 : r9 = 0
    · subst u0
      go_wp2_with fail
      have hbl := Blk.mk w9 w9.heap.size 2 #[.int .i64 (-1), .int .i64 4, .int .i64 0] rfl
      have hal := (New.refl w9).alloc (.cells #[.int .i64 (-1), .int .i64 4, .int .i64 0] 2)
      refine (pick_sc (s9.new hal) [-1, 4, 0] hbl 3 rfl (by omega) (by omega) (by omega)).mono ?_
      rintro e w10 ⟨r10, rfl, hx10, s10, ht10⟩
      have t10 := (t9.andNew hal).both ht10
      have R10 := (R9.new hal).turn ht10 RB
      have C10 := (C9.new hal).turn ht10 CB
      clear hbl hal hx10
      have z10 := t10.size
      clear s9 t9 ht10 R9 C9
      have cR := R10.cells
      have fR := R10.frees
      have lR := R10.lt
      have cC := C10.cells
      have fC := C10.frees
      have lC := C10.lt
      go_wp2
      refine bodyPost_ret (v := .agg #[.int .i64 r10, .int .i64 0, .int .i64 0, .int .i64 r5, .int .i64 r7]) (by simp [results, Try.results31, go_sem, cR, cC]) rfl ⟨_, _, _, _, _, t + 1 + 1 + 1 + 1 + 1 + 1 + 1, rfl, by omega, ?_, ?_⟩
      · simp (disch := first | exact hA | exact hlt | exact ge0 | exact gC) only [Sc.setI (N := w.heap.size), s10]
      · simp (disch := first | exact ge0 | exact gC) only [Turn.setI, t10]
    have y0 : (r9 == 0) = false := by simpa using u0
    by_cases u1 : r9 = 1
    · subst u1
      go_wp2_with fail
      have hbl := Blk.mk w9 w9.heap.size 2 #[.int .i64 0, .int .i64 65536] rfl
      have hal := (New.refl w9).alloc (.cells #[.int .i64 0, .int .i64 65536] 2)
      refine (pick_sc (s9.new hal) [0, 65536] hbl 2 rfl (by omega) (by omega) (by omega)).mono ?_
      rintro e w10 ⟨r10, rfl, hx10, s10, ht10⟩
      have t10 := (t9.andNew hal).both ht10
      have R10 := (R9.new hal).turn ht10 RB
      have C10 := (C9.new hal).turn ht10 CB
      clear hbl hal hx10
      have z10 := t10.size
      clear s9 t9 ht10 R9 C9
      have cR := R10.cells
      have fR := R10.frees
      have lR := R10.lt
      have cC := C10.cells
      have fC := C10.frees
      have lC := C10.lt
      go_wp2
      refine bodyPost_ret (v := .agg #[.int .i64 r1, .int .i64 r10, .int .i64 0, .int .i64 r5, .int .i64 r7]) (by simp [results, Try.results31, go_sem, cR, cC]) rfl ⟨_, _, _, _, _, t + 1 + 1 + 1 + 1 + 1 + 1 + 1, rfl, by omega, ?_, ?_⟩
      · simp (disch := first | exact hA | exact hlt | exact ge0 | exact gC) only [Sc.setI (N := w.heap.size), s10]
      · simp (disch := first | exact ge0 | exact gC) only [Turn.setI, t10]
    have y1 : (r9 == 1) = false := by simpa using u1
    by_cases u2 : r9 = 2
    · subst u2
      go_wp2_with fail
      have hbl := Blk.mk w9 w9.heap.size 2 #[.int .i64 (-1), .int .i64 1000, .int .i64 1001] rfl
      have hal := (New.refl w9).alloc (.cells #[.int .i64 (-1), .int .i64 1000, .int .i64 1001] 2)
      refine (pick_sc (s9.new hal) [-1, 1000, 1001] hbl 3 rfl (by omega) (by omega) (by omega)).mono ?_
      rintro e w10 ⟨r10, rfl, hx10, s10, ht10⟩
      have t10 := (t9.andNew hal).both ht10
      have R10 := (R9.new hal).turn ht10 RB
      have C10 := (C9.new hal).turn ht10 CB
      clear hbl hal hx10
      have z10 := t10.size
      clear s9 t9 ht10 R9 C9
      have cR := R10.cells
      have fR := R10.frees
      have lR := R10.lt
      have cC := C10.cells
      have fC := C10.frees
      have lC := C10.lt
      go_wp2
      refine bodyPost_ret (v := .agg #[.int .i64 r1, .int .i64 0, .int .i64 0, .int .i64 r10, .int .i64 r7]) (by simp [results, Try.results31, go_sem, cR, cC]) rfl ⟨_, _, _, _, _, t + 1 + 1 + 1 + 1 + 1 + 1 + 1, rfl, by omega, ?_, ?_⟩
      · simp (disch := first | exact hA | exact hlt | exact ge0 | exact gC) only [Sc.setI (N := w.heap.size), s10]
      · simp (disch := first | exact ge0 | exact gC) only [Turn.setI, t10]
    have y2 : (r9 == 2) = false := by simpa using u2
    go_wp2
    refine bodyPost_ret (v := .agg #[.int .i64 r1, .int .i64 0, .int .i64 0, .int .i64 r5, .int .i64 r7]) (by simp [results, Try.results31, go_sem, cR, cC]) rfl ⟨_, _, _, _, _, t + 1 + 1 + 1 + 1 + 1 + 1, rfl, by omega, ?_, ?_⟩
    · simp (disch := first | exact hA | exact hlt | exact ge0 | exact gC) only [Sc.setI (N := w.heap.size), s9]
    · simp (disch := first | exact ge0 | exact gC) only [Turn.setI, t9]
  go_wp2_with fail
  refine (next_sc s8 5 (by omega) (by omega)).mono ?_
  rintro e w9 ⟨r9, rfl, ⟨hd9, hf9, -⟩, s9, ht9⟩
  have hf9 := hf9 (by omega)
  have t9 := t8.both ht9
  have R9 := R8.turn ht9 RB
  have C9 := C8.turn ht9 CB
  have z9 := t9.size
  clear s8 t8 ht9 R8 C8
  have cR := R9.cells
  have fR := R9.frees
  have lR := R9.lt
  have cC := C9.cells
  have fC := C9.frees
  have lC := C9.lt
  go_upto_region 7 with fail
  have C10 : Blk (w9.setCell ⟨w1.heap.size, 1, none⟩ (.int .i64 (1 + r9))) w1.heap.size 27 #[.int .i64 r1, .int .i64 (1 + r9), .int .i64 0, .int .i64 r5, .int .i64 r7] := by have h9 := C9.set 1 (.int .i64 (1 + r9)); simp only [List.setIfInBounds_toArray, List.set_cons_zero, List.set_cons_succ] at h9; exact h9
  have R10 : Blk (w9.setCell ⟨w1.heap.size, 1, none⟩ (.int .i64 (1 + r9))) w.heap.size 27 #[.int .i64 0, .int .i64 0, .int .i64 0, .int .i64 0, .int .i64 0] := R9.turn (S := fun i => i = w1.heap.size) (Turn.set (S := fun i => i = w1.heap.size) (Turn.refl _ _) rfl _) (by omega)
  have s10 := s9.setN hA hlt ⟨w1.heap.size, 1, none⟩ (.int .i64 (1 + r9)) gC
  have t10 := Turn.andSet t9 ⟨w1.heap.size, 1, none⟩ (.int .i64 (1 + r9)) gC
  clear s9 t9 R9 C9 cC cR fC fR lC lR
  generalize w9.setCell ⟨w1.heap.size, 1, none⟩ (.int .i64 (1 + r9)) = w10 at *
  have z10 := t10.size
  have cR := R10.cells
  have fR := R10.frees
  have lR := R10.lt
  have cC := C10.cells
  have fC := C10.frees
  have lC := C10.lt
  go_wp2_with fail
  have hbl := Blk.mk w10 w10.heap.size 2 #[.int .i64 9, .int .i64 0, .int .i64 4] rfl
  have hal := (New.refl w10).alloc (.cells #[.int .i64 9, .int .i64 0, .int .i64 4] 2)
  refine (pick_sc (s10.new hal) [9, 0, 4] hbl 3 rfl (by omega) (by omega) (by omega)).mono ?_
  rintro e w11 ⟨r11, rfl, hx11, s11, ht11⟩
  have t11 := (t10.andNew hal).both ht11
  have R11 := (R10.new hal).turn ht11 RB
  have C11 := (C10.new hal).turn ht11 CB
  clear hbl hal hx11
  have z11 := t11.size
  clear s10 t10 ht11 R10 C10
  have cR := R11.cells
  have fR := R11.frees
  have lR := R11.lt
  have cC := C11.cells
  have fC := C11.frees
  have lC := C11.lt
  go_upto_region 8 with fail
  have C12 : Blk (w11.setCell ⟨w1.heap.size, 2, none⟩ (.int .i64 r11)) w1.heap.size 27 #[.int .i64 r1, .int .i64 (1 + r9), .int .i64 r11, .int .i64 r5, .int .i64 r7] := by have h9 := C11.set 2 (.int .i64 r11); simp only [List.setIfInBounds_toArray, List.set_cons_zero, List.set_cons_succ] at h9; exact h9
  have R12 : Blk (w11.setCell ⟨w1.heap.size, 2, none⟩ (.int .i64 r11)) w.heap.size 27 #[.int .i64 0, .int .i64 0, .int .i64 0, .int .i64 0, .int .i64 0] := R11.turn (S := fun i => i = w1.heap.size) (Turn.set (S := fun i => i = w1.heap.size) (Turn.refl _ _) rfl _) (by omega)
  have s12 := s11.setN hA hlt ⟨w1.heap.size, 2, none⟩ (.int .i64 r11) gC
  have t12 := Turn.andSet t11 ⟨w1.heap.size, 2, none⟩ (.int .i64 r11) gC
  clear s11 t11 R11 C11 cC cR fC fR lC lR
  generalize w11.setCell ⟨w1.heap.size, 2, none⟩ (.int .i64 r11) = w12 at *
  have z12 := t12.size
  have cR := R12.cells
  have fR := R12.frees
  have lR := R12.lt
  have cC := C12.cells
  have fC := C12.frees
  have lC := C12.lt
  go_wp2_with fail
  refine (next_sc s12 20 (by omega) (by omega)).mono ?_
  rintro e w13 ⟨r13, rfl, ⟨hd13, hf13, -⟩, s13, ht13⟩
  have hf13 := hf13 (by omega)
  have t13 := t12.both ht13
  have R13 := R12.turn ht13 RB
  have C13 := C12.turn ht13 CB
  have z13 := t13.size
  clear s12 t12 ht13 R12 C12
  have cR := R13.cells
  have fR := R13.frees
  have lR := R13.lt
  have cC := C13.cells
  have fC := C13.frees
  have lC := C13.lt
  have lne : ¬ w1.heap.size = w.heap.size := by omega
  by_cases u0 : r13 = 0
  · subst u0
    go_wp2_with fail
    have hbl := Blk.mk w13 w13.heap.size 2 #[.int .i64 (-1), .int .i64 4, .int .i64 0] rfl
    have hal := (New.refl w13).alloc (.cells #[.int .i64 (-1), .int .i64 4, .int .i64 0] 2)
    refine (pick_sc (s13.new hal) [-1, 4, 0] hbl 3 rfl (by omega) (by omega) (by omega)).mono ?_
    rintro e w14 ⟨r14, rfl, hx14, s14, ht14⟩
    have t14 := (t13.andNew hal).both ht14
    have R14 := (R13.new hal).turn ht14 RB
    have C14 := (C13.new hal).turn ht14 CB
    clear hbl hal hx14
    have z14 := t14.size
    clear s13 t13 ht14 R13 C13
    have cR := R14.cells
    have fR := R14.frees
    have lR := R14.lt
    have cC := C14.cells
    have fC := C14.frees
    have lC := C14.lt
    go_wp2
    refine bodyPost_ret (v := .agg #[.int .i64 r14, .int .i64 (1 + r9), .int .i64 r11, .int .i64 r5, .int .i64 r7]) (by simp [results, Try.results31, go_sem, cR, cC]) rfl ⟨_, _, _, _, _, t + 1 + 1 + 1 + 1 + 1 + 1 + 1 + 1 + 1, rfl, by omega, ?_, ?_⟩
    · simp (disch := first | exact hA | exact hlt | exact ge0 | exact gC) only [Sc.setI (N := w.heap.size), s14]
    · simp (disch := first | exact ge0 | exact gC) only [Turn.setI, t14]
  have y0 : (r13 == 0) = false := by simpa using u0
  by_cases u1 : r13 = 1
  · subst u1
    go_wp2_with fail
    have hbl := Blk.mk w13 w13.heap.size 2 #[.int .i64 0, .int .i64 65536] rfl
    have hal := (New.refl w13).alloc (.cells #[.int .i64 0, .int .i64 65536] 2)
    refine (pick_sc (s13.new hal) [0, 65536] hbl 2 rfl (by omega) (by omega) (by omega)).mono ?_
    rintro e w14 ⟨r14, rfl, hx14, s14, ht14⟩
    have t14 := (t13.andNew hal).both ht14
    have R14 := (R13.new hal).turn ht14 RB
    have C14 := (C13.new hal).turn ht14 CB
    clear hbl hal hx14
    have z14 := t14.size
    clear s13 t13 ht14 R13 C13
    have cR := R14.cells
    have fR := R14.frees
    have lR := R14.lt
    have cC := C14.cells
    have fC := C14.frees
    have lC := C14.lt
    go_wp2
    refine bodyPost_ret (v := .agg #[.int .i64 r1, .int .i64 r14, .int .i64 r11, .int .i64 r5, .int .i64 r7]) (by simp [results, Try.results31, go_sem, cR, cC]) rfl ⟨_, _, _, _, _, t + 1 + 1 + 1 + 1 + 1 + 1 + 1 + 1 + 1, rfl, by omega, ?_, ?_⟩
    · simp (disch := first | exact hA | exact hlt | exact ge0 | exact gC) only [Sc.setI (N := w.heap.size), s14]
    · simp (disch := first | exact ge0 | exact gC) only [Turn.setI, t14]
  have y1 : (r13 == 1) = false := by simpa using u1
  by_cases u2 : r13 = 2
  · subst u2
    go_wp2_with fail
    have hbl := Blk.mk w13 w13.heap.size 2 #[.int .i64 (-1), .int .i64 1000, .int .i64 1001] rfl
    have hal := (New.refl w13).alloc (.cells #[.int .i64 (-1), .int .i64 1000, .int .i64 1001] 2)
    refine (pick_sc (s13.new hal) [-1, 1000, 1001] hbl 3 rfl (by omega) (by omega) (by omega)).mono ?_
    rintro e w14 ⟨r14, rfl, hx14, s14, ht14⟩
    have t14 := (t13.andNew hal).both ht14
    have R14 := (R13.new hal).turn ht14 RB
    have C14 := (C13.new hal).turn ht14 CB
    clear hbl hal hx14
    have z14 := t14.size
    clear s13 t13 ht14 R13 C13
    have cR := R14.cells
    have fR := R14.frees
    have lR := R14.lt
    have cC := C14.cells
    have fC := C14.frees
    have lC := C14.lt
    go_wp2
    refine bodyPost_ret (v := .agg #[.int .i64 r1, .int .i64 (1 + r9), .int .i64 r11, .int .i64 r14, .int .i64 r7]) (by simp [results, Try.results31, go_sem, cR, cC]) rfl ⟨_, _, _, _, _, t + 1 + 1 + 1 + 1 + 1 + 1 + 1 + 1 + 1, rfl, by omega, ?_, ?_⟩
    · simp (disch := first | exact hA | exact hlt | exact ge0 | exact gC) only [Sc.setI (N := w.heap.size), s14]
    · simp (disch := first | exact ge0 | exact gC) only [Turn.setI, t14]
  have y2 : (r13 == 2) = false := by simpa using u2
  go_wp2
  refine bodyPost_ret (v := .agg #[.int .i64 r1, .int .i64 (1 + r9), .int .i64 r11, .int .i64 r5, .int .i64 r7]) (by simp [results, Try.results31, go_sem, cR, cC]) rfl ⟨_, _, _, _, _, t + 1 + 1 + 1 + 1 + 1 + 1 + 1 + 1, rfl, by omega, ?_, ?_⟩
  · simp (disch := first | exact hA | exact hlt | exact ge0 | exact gC) only [Sc.setI (N := w.heap.size), s13]
  · simp (disch := first | exact ge0 | exact gC) only [Turn.setI, t13]

end Go.Proofs.Yteniieagcehmpaa
