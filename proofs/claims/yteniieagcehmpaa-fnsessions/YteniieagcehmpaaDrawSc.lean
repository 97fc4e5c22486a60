/- What is proved here: what the drawing of a configuration leaves: some numbers, and the source drawn on. -/
import Derived.Test.YteniieagcehmpaaPxDraw
import Derived.Deep.CutRange
namespace Go.Proofs.Yteniieagcehmpaa
open Go.RowKit Go.Sort
set_option linter.unusedVariables false
set_option linter.unusedSimpArgs false

theorem Sc.setI {B n c t N : Nat} {a : Option Addr} {zs : List Int} {w : World} {p : Addr} {v : Value} (hA : ∀ x, zs ≠ [] → a = some x → x.block < N) (hB : B < N) (hp : N ≤ p.block) : Sc (w.setCell p v) B a n c zs t ↔ Sc w B a n c zs t := by
  refine ⟨fun h => ?_, fun h => h.setN hA hB p v hp⟩
  have tt : Turn (fun k => k = p.block) (w.setCell p v) w := ⟨rfl, rfl, rfl, by simp [World.setCell], fun k hk hs => (Below.heap_setCell w p v k hs).symm⟩
  exact h.turn tt (by omega) (fun x hz hx e => by have := hA x hz hx; omega)
theorem Turn.setI {S : Nat → Prop} {x y : World} {p : Addr} {v : Value} (hp : x.heap.size ≤ p.block) : Turn S x (y.setCell p v) ↔ Turn S x y :=
  ⟨fun h => ⟨h.os, h.tape, h.output, by simpa [World.setCell] using h.size, fun k hk hs => (Below.heap_setCell y p v k (by omega)).symm.trans (h.block k hk hs)⟩, fun h => h.andSet p v hp⟩

set_option maxHeartbeats 3200000 in
theorem l5Config_sc {B n c t : Nat} {a : Option Addr} {zs : List Int} {w : World} (h : Sc w B a n c zs t) (ht : t ≤ 100000) :
    Calls Try.prog 30 #[.pointer (some ⟨B, 0, none⟩)] w fun e w' => ∃ (x y z : Int) (t' : Nat), e = .returned (.agg #[.int .i64 x, .int .i64 y, .int .i64 z]) ∧ t' ≤ t + 10 ∧ Sc w' B a n c zs t' ∧ Turn (fun k => k = B) w w' := by
  have hlt := h.blk.lt
  have hA := h.lt_of
  have s0 := h.new ((New.refl w).alloc (.cells #[.int .i64 0, .int .i64 0, .int .i64 0] 25))
  have t0 : Turn (fun k => k = B) w (w.alloc (.cells #[.int .i64 0, .int .i64 0, .int .i64 0] 25)) := ((New.refl w).alloc _).turn
  have R0 : Blk (w.alloc (.cells #[.int .i64 0, .int .i64 0, .int .i64 0] 25)) w.heap.size 25 #[.int .i64 0, .int .i64 0, .int .i64 0] := Blk.mk _ _ _ _ rfl
  have RB : ¬ w.heap.size = B := by omega
  have ge0 := Nat.le_refl w.heap.size
  clear h
  go_enter Try.func30, Try.ntmps30
  go_upto_region 1 with fail
  generalize w.alloc (.cells #[.int .i64 0, .int .i64 0, .int .i64 0] 25) = w0 at *
  have cR := R0.cells
  have fR := R0.frees
  have lR := R0.lt
  go_wp2_with fail
  refine (next_sc s0 5 (by omega) (by omega)).mono ?_
  rintro e w1 ⟨r1, rfl, ⟨hd1, hf1, -⟩, s1, ht1⟩
  have hf1 := hf1 (by omega)
  have t1 := t0.both ht1
  have R1 := R0.turn ht1 RB
  have z1 := t1.size
  clear s0 t0 ht1 R0
  have cR := R1.cells
  have fR := R1.frees
  have lR := R1.lt
  go_wp2_with fail
  refine (next_sc s1 9 (by omega) (by omega)).mono ?_
  rintro e w2 ⟨r2, rfl, ⟨hd2, hf2, -⟩, s2, ht2⟩
  have hf2 := hf2 (by omega)
  have t2 := t1.both ht2
  have R2 := R1.turn ht2 RB
  have z2 := t2.size
  clear s1 t1 ht2 R1
  have cR := R2.cells
  have fR := R2.frees
  have lR := R2.lt
  go_wp2_with fail
  have hbl := Blk.mk w2 w2.heap.size 2 #[.int .i64 9, .int .i64 9, .int .i64 0, .int .i64 4] rfl
  have hal := (New.refl w2).alloc (.cells #[.int .i64 9, .int .i64 9, .int .i64 0, .int .i64 4] 2)
  refine (pick_sc (s2.new hal) [9, 9, 0, 4] hbl 4 rfl (by omega) (by omega) (by omega)).mono ?_
  rintro e w3 ⟨r3, rfl, hx3, s3, ht3⟩
  have t3 := (t2.andNew hal).both ht3
  have R3 := (R2.new hal).turn ht3 RB
  clear hbl hal hx3
  have z3 := t3.size
  clear s2 t2 ht3 R2
  have cR := R3.cells
  have fR := R3.frees
  have lR := R3.lt
  go_upto_region 2 with fail
  have hal := (New.refl w3).alloc (.cells #[.int .i64 (1 + r1), .int .i64 (1 + r2), .int .i64 r3] 25)
  have C4 : Blk (w3.alloc (.cells #[.int .i64 (1 + r1), .int .i64 (1 + r2), .int .i64 r3] 25)) w3.heap.size 25 #[.int .i64 (1 + r1), .int .i64 (1 + r2), .int .i64 r3] := Blk.mk _ _ _ _ rfl
  have s4 := s3.new hal
  have t4 := t3.andNew hal
  have R4 := R3.new hal
  have CB : ¬ w3.heap.size = B := by omega
  have gC : w.heap.size ≤ w3.heap.size := by omega
  clear hal s3 t3 R3
  generalize w3.alloc (.cells #[.int .i64 (1 + r1), .int .i64 (1 + r2), .int .i64 r3] 25) = w4 at *
  have z4 := t4.size
  have cR := R4.cells
  have fR := R4.frees
  have lR := R4.lt
  have cC := C4.cells
  have fC := C4.frees
  have lC := C4.lt
  go_wp2_with fail
  refine (next_sc s4 20 (by omega) (by omega)).mono ?_
  rintro e w5 ⟨r5, rfl, ⟨hd5, hf5, -⟩, s5, ht5⟩
  have hf5 := hf5 (by omega)
  have t5 := t4.both ht5
  have R5 := R4.turn ht5 RB
  have C5 := C4.turn ht5 CB
  have z5 := t5.size
  clear s4 t4 ht5 R4 C4
  have cR := R5.cells
  have fR := R5.frees
  have lR := R5.lt
  have cC := C5.cells
  have fC := C5.frees
  have lC := C5.lt
  by_cases u0 : r5 = 0
  · subst u0
    go_wp2_with fail
    have hbl := Blk.mk w5 w5.heap.size 2 #[.int .i64 0, .int .i64 65536] rfl
    have hal := (New.refl w5).alloc (.cells #[.int .i64 0, .int .i64 65536] 2)
    refine (pick_sc (s5.new hal) [0, 65536] hbl 2 rfl (by omega) (by omega) (by omega)).mono ?_
    rintro e w6 ⟨r6, rfl, hx6, s6, ht6⟩
    have t6 := (t5.andNew hal).both ht6
    have R6 := (R5.new hal).turn ht6 RB
    have C6 := (C5.new hal).turn ht6 CB
    clear hbl hal hx6
    have z6 := t6.size
    clear s5 t5 ht6 R5 C5
    have cR := R6.cells
    have fR := R6.frees
    have lR := R6.lt
    have cC := C6.cells
    have fC := C6.frees
    have lC := C6.lt
    go_wp2
    refine bodyPost_ret (v := .agg #[.int .i64 r6, .int .i64 (1 + r2), .int .i64 r3]) (by simp [results, Try.results30, go_sem, cR, cC]) rfl ⟨_, _, _, t + 1 + 1 + 1 + 1 + 1, rfl, by omega, ?_, ?_⟩
    · simp (disch := first | exact hA | exact hlt | exact ge0 | exact gC) only [Sc.setI (N := w.heap.size), s6]
    · simp (disch := first | exact ge0 | exact gC) only [Turn.setI, t6]
  have y0 : (r5 == 0) = false := by simpa using u0
  by_cases u1 : r5 = 1
  · subst u1
    go_wp2_with fail
    have hbl := Blk.mk w5 w5.heap.size 2 #[.int .i64 1, .int .i64 201] rfl
    have hal := (New.refl w5).alloc (.cells #[.int .i64 1, .int .i64 201] 2)
    refine (pick_sc (s5.new hal) [1, 201] hbl 2 rfl (by omega) (by omega) (by omega)).mono ?_
    rintro e w6 ⟨r6, rfl, hx6, s6, ht6⟩
    have t6 := (t5.andNew hal).both ht6
    have R6 := (R5.new hal).turn ht6 RB
    have C6 := (C5.new hal).turn ht6 CB
    clear hbl hal hx6
    have z6 := t6.size
    clear s5 t5 ht6 R5 C5
    have cR := R6.cells
    have fR := R6.frees
    have lR := R6.lt
    have cC := C6.cells
    have fC := C6.frees
    have lC := C6.lt
    go_wp2
    refine bodyPost_ret (v := .agg #[.int .i64 (1 + r1), .int .i64 (1 + r2), .int .i64 r6]) (by simp [results, Try.results30, go_sem, cR, cC]) rfl ⟨_, _, _, t + 1 + 1 + 1 + 1 + 1, rfl, by omega, ?_, ?_⟩
    · simp (disch := first | exact hA | exact hlt | exact ge0 | exact gC) only [Sc.setI (N := w.heap.size), s6]
    · simp (disch := first | exact ge0 | exact gC) only [Turn.setI, t6]
  have y1 : (r5 == 1) = false := by simpa using u1
  go_wp2
  refine bodyPost_ret (v := .agg #[.int .i64 (1 + r1), .int .i64 (1 + r2), .int .i64 r3]) (by simp [results, Try.results30, go_sem, cR, cC]) rfl ⟨_, _, _, t + 1 + 1 + 1 + 1, rfl, by omega, ?_, ?_⟩
  · simp (disch := first | exact hA | exact hlt | exact ge0 | exact gC) only [Sc.setI (N := w.heap.size), s5]
  · simp (disch := first | exact ge0 | exact gC) only [Turn.setI, t5]

end Go.Proofs.Yteniieagcehmpaa
