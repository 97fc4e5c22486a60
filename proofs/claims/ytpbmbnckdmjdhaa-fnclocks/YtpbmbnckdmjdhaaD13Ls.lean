/- What is proved here: what the drawing of a lease leaves: some numbers, and the source drawn on. -/
import Derived.Test.YtpbmbnckdmjdhaaDraw
import Derived.Test.YtpbmbnckdmjdhaaC13Ts
import Derived.Deep.CutRange
namespace Go.Proofs.Ytpbmbnckdmjdhaa
open Go.RowKit Go.Sort
set_option linter.unusedVariables false
set_option linter.unusedSimpArgs false
set_option maxRecDepth 100000

/-- What a drawing may turn: the source's block alone. -/
theorem Turn.both {B : Nat} {x y z : World} (h : Turn (fun k => k = B) x y) (k : Turn (fun k => k = B) y z) : Turn (fun k => k = B) x z := Turn.trans h k (fun _ _ e => e)
theorem Turn.andNew {S : Nat → Prop} {x y z : World} (h : Turn S x y) (k : New y z) : Turn S x z := Turn.trans h k (fun _ _ e => e.elim)
theorem Turn.andSet {S : Nat → Prop} {x y : World} (h : Turn S x y) (p : Addr) (v : Value) (hp : x.heap.size ≤ p.block) : Turn S x (y.setCell p v) :=
  Turn.trans (T := fun k => k = p.block) h (Turn.set (S := fun k => k = p.block) (Turn.refl _ _) rfl _) (fun i hi e => by omega)

theorem Sc.lt_of {B n c t : Nat} {a : Option Addr} {zs : List Int} {w : World} (h : Sc w B a n c zs t) : ∀ x, zs ≠ [] → a = some x → x.block < w.heap.size := by
  intro x hz hx
  obtain ⟨b, off, e, hlt⟩ := h.bs.block_lt hz
  rw [e] at hx
  obtain rfl := Option.some.inj hx
  exact hlt

theorem Sc.setN {B n c t N : Nat} {a : Option Addr} {zs : List Int} {w : World} (h : Sc w B a n c zs t) (hA : ∀ x, zs ≠ [] → a = some x → x.block < N) (hB : B < N) (p : Addr) (v : Value) (hp : N ≤ p.block) : Sc (w.setCell p v) B a n c zs t :=
  h.turn (S := fun k => k = p.block) (Turn.set (S := fun k => k = p.block) (Turn.refl _ _) rfl _) (by omega) (fun x hz hx e => by have := hA x hz hx; omega)

theorem Sc.setI {B n c t N : Nat} {a : Option Addr} {zs : List Int} {w : World} {p : Addr} {v : Value} (hA : ∀ x, zs ≠ [] → a = some x → x.block < N) (hB : B < N) (hp : N ≤ p.block) : Sc (w.setCell p v) B a n c zs t ↔ Sc w B a n c zs t := by
  refine ⟨fun h => ?_, fun h => h.setN hA hB p v hp⟩
  have tt : Turn (fun k => k = p.block) (w.setCell p v) w := ⟨rfl, rfl, rfl, by simp [World.setCell], fun k hk hs => (Below.heap_setCell w p v k hs).symm⟩
  exact h.turn tt (by omega) (fun x hz hx e => by have := hA x hz hx; omega)
theorem Turn.setI {S : Nat → Prop} {x y : World} {p : Addr} {v : Value} (hp : x.heap.size ≤ p.block) : Turn S x (y.setCell p v) ↔ Turn S x y :=
  ⟨fun h => ⟨h.os, h.tape, h.output, by simpa [World.setCell] using h.size, fun k hk hs => (Below.heap_setCell y p v k (by omega)).symm.trans (h.block k hk hs)⟩, fun h => h.andSet p v hp⟩

theorem w13 {x : Int} (h0 : -9000000000 ≤ x) (h1 : x ≤ 9000000000) : IntKind.i64.wrap x = x := by rw [IntKind.wrap_i64]; omega

/-- A number that is drawn. -/
abbrev Sm (x : Int) : Prop := -2000000000 ≤ x ∧ x ≤ 2000000000

set_option maxHeartbeats 3200000 in
theorem l13Lease_sc {B n c t : Nat} {a : Option Addr} {zs : List Int} {w : World} (h : Sc w B a n c zs t) (ht : t ≤ 100000) :
    Calls Try.prog 58 #[.pointer (some ⟨B, 0, none⟩)] w fun e w' => ∃ (ho ep ak he : Int) (t' : Nat), e = .returned (.agg #[.int .i64 ho, .int .i64 ep, .int .i64 ak, .int .i64 he]) ∧ Sm ho ∧ Sm ep ∧ Sm ak ∧ Sm he ∧ t' ≤ t + 10 ∧ Sc w' B a n c zs t' ∧ Turn (fun k => k = B) w w' := by
  have hlt := h.blk.lt
  have hA := h.lt_of
  have s0 := h.new ((New.refl w).alloc (.cells #[.int .i64 0, .int .i64 0, .int .i64 0, .int .i64 0] 28))
  have t0 : Turn (fun k => k = B) w (w.alloc (.cells #[.int .i64 0, .int .i64 0, .int .i64 0, .int .i64 0] 28)) := ((New.refl w).alloc _).turn
  have R0 : Blk (w.alloc (.cells #[.int .i64 0, .int .i64 0, .int .i64 0, .int .i64 0] 28)) w.heap.size 28 #[.int .i64 0, .int .i64 0, .int .i64 0, .int .i64 0] := Blk.mk _ _ _ _ rfl
  have RB : ¬ w.heap.size = B := by omega
  have ge0 := Nat.le_refl w.heap.size
  clear h
  go_enter Try.func58, Try.ntmps58
  go_upto_region 1 with fail
  generalize w.alloc (.cells #[.int .i64 0, .int .i64 0, .int .i64 0, .int .i64 0] 28) = w0 at *
  have cR := R0.cells
  have fR := R0.frees
  have lR := R0.lt
  go_wp2_with fail
  refine (next_sc s0 2 (by omega) (by omega)).mono ?_
  rintro e w1 ⟨r1, rfl, ⟨hd1, hf1, -⟩, s1, ht1⟩
  have hf1 := hf1 (by omega)
  have t1 := t0.both ht1
  have R1 := R0.turn ht1 RB
  have z1 := t1.size
  clear s0 t0 ht1 R0
  have cR := R1.cells
  have fR := R1.frees
  have lR := R1.lt
  go_wp2_with fail
  refine (next_sc s1 5 (by omega) (by omega)).mono ?_
  rintro e w2 ⟨r2, rfl, ⟨hd2, hf2, -⟩, s2, ht2⟩
  have hf2 := hf2 (by omega)
  have t2 := t1.both ht2
  have R2 := R1.turn ht2 RB
  have z2 := t2.size
  clear s1 t1 ht2 R1
  have cR := R2.cells
  have fR := R2.frees
  have lR := R2.lt
  go_wp2_with fail
  refine (next_sc s2 40 (by omega) (by omega)).mono ?_
  rintro e w3 ⟨r3, rfl, ⟨hd3, hf3, -⟩, s3, ht3⟩
  have hf3 := hf3 (by omega)
  have t3 := t2.both ht3
  have R3 := R2.turn ht3 RB
  have z3 := t3.size
  clear s2 t2 ht3 R2
  have cR := R3.cells
  have fR := R3.frees
  have lR := R3.lt
  go_upto_region 2 with fail
  have hal := (New.refl w3).alloc (.cells #[.int .i64 r1, .int .i64 (1 + r2), .int .i64 r3, .int .i64 0] 28)
  have C4 : Blk (w3.alloc (.cells #[.int .i64 r1, .int .i64 (1 + r2), .int .i64 r3, .int .i64 0] 28)) w3.heap.size 28 #[.int .i64 r1, .int .i64 (1 + r2), .int .i64 r3, .int .i64 0] := Blk.mk _ _ _ _ rfl
  have s4 := s3.new hal
  have t4 := t3.andNew hal
  have R4 := R3.new hal
  have CB : ¬ w3.heap.size = B := by omega
  have gC : w.heap.size ≤ w3.heap.size := by omega
  clear hal s3 t3 R3
  generalize w3.alloc (.cells #[.int .i64 r1, .int .i64 (1 + r2), .int .i64 r3, .int .i64 0] 28) = w4 at *
  have z4 := t4.size
  clear cR fR
  have c2 := (C4.new ((New.refl w4).drew)).cells 2
  refine hw_start (n := 9) (S := fun X => Turn (fun i => i = B ∨ i = w3.heap.size) w4 X ∧ X.cell? ⟨w3.heap.size, 2, none⟩ = some (.int .i64 r3)) rfl (by kernel_rfl) (⟨((New.refl _).drew).turn, c2⟩) (fun hH => ?_)
  have s4d := s4.new ((New.refl w4).drew)
  have t4d := t4.andNew ((New.refl w4).drew)
  have R4d := R4.new ((New.refl w4).drew)
  have C4d := C4.new ((New.refl w4).drew)
  generalize w4.drew = w4d at *
  refine' hw_take 0 (some 12) _ rfl rfl (by kernel_rfl) (by kernel_rfl) (by kernel_rfl) (fun _ _ _ h => h) (by rfl) hH ?hy1 ?rest1
  case hy1 =>
    intro X hX
    go_simp
    try rfl
  simp only [Act.put, List.setIfInBounds_toArray, List.set_cons_zero, List.set_cons_succ]
  refine' hw_take 1 (some 13) _ rfl rfl (by kernel_rfl) (by kernel_rfl) (by kernel_rfl) (fun _ _ _ h => h) (by rfl) hH ?hy2 ?rest2
  case hy2 =>
    intro X hX
    have cX := hX.2
    go_simp
    try rfl
  simp only [Act.put, List.setIfInBounds_toArray, List.set_cons_zero, List.set_cons_succ]
  refine' hw_take 2 (some 14) _ rfl rfl (by kernel_rfl) (by kernel_rfl) (by kernel_rfl) (fun _ _ _ h => h) (by rfl) hH ?hy3 ?rest3
  case hy3 =>
    intro X hX
    go_simp
    try rfl
  simp only [Act.put, List.setIfInBounds_toArray, List.set_cons_zero, List.set_cons_succ]
  refine hw_call 3 (some 15) rfl rfl (by kernel_rfl) (by rfl) (fun K hK => ?_)
  go_simp
  refine (next_sc s4d 9 (by omega) (by omega)).mono ?_
  rintro e w5 ⟨r5, rfl, ⟨hd5, hf5, -⟩, s5, ht5⟩
  have hf5 := hf5 (by omega)
  have R5 := R4d.turn ht5 RB
  have C5 := C4d.turn ht5 CB
  have t5 := t4d.both ht5
  go_simp
  refine hK.out _ _ ⟨Turn.trans hH.1 (ht5.mono (T := fun i => i = B ∨ i = w3.heap.size) (fun i _ e => .inl e)) (fun i _ e => e), C5.cells 2⟩ (fun hH5 => ?_)
  simp only [Act.put, List.setIfInBounds_toArray, List.set_cons_zero, List.set_cons_succ]
  have wr1 : IntKind.i64.wrap (r3 + r5) = r3 + r5 := w13 (by omega) (by omega)
  have wr2 : IntKind.i64.wrap (r3 + r5 - 4) = r3 + r5 - 4 := w13 (by omega) (by omega)
  refine' hw_take 4 (some 16) _ rfl rfl (by kernel_rfl) (by kernel_rfl) (by kernel_rfl) (fun _ _ _ h => h) (by rfl) hH5 ?hy4 ?rest4
  case hy4 =>
    intro X hX
    go_simp
    try rfl
  simp only [Act.put, List.setIfInBounds_toArray, List.set_cons_zero, List.set_cons_succ]
  refine' hw_take 5 (some 17) _ rfl rfl (by kernel_rfl) (by kernel_rfl) (by kernel_rfl) (fun _ _ _ h => h) (by rfl) hH5 ?hy5 ?rest5
  case hy5 =>
    intro X hX
    go_simp
    try rfl
  simp only [Act.put, List.setIfInBounds_toArray, List.set_cons_zero, List.set_cons_succ]
  refine hw_call 6 (some 18) rfl rfl (by kernel_rfl) (by rfl) (fun K hK => ?_)
  go_simp
  refine (max13 0 (r3 + r5 - 4) _).mono ?_
  rintro e wz ⟨rfl, hwz⟩
  obtain rfl := hwz.symm
  go_simp
  refine hK.out _ _ hH5 (fun hH6 => ?_)
  simp only [Act.put, List.setIfInBounds_toArray, List.set_cons_zero, List.set_cons_succ]
  obtain ⟨he, HE⟩ : ∃ he, Hid (he = max 0 (r3 + r5 - 4)) := ⟨_, rfl⟩
  have hes : Sm he := by have := HE.out; unfold Sm; omega
  rw [← HE.out]
  refine' hw_take 7 (some 19) _ rfl rfl (by kernel_rfl) (by kernel_rfl) (by kernel_rfl) (fun _ _ _ h => h) (by rfl) hH6 ?hy6 ?rest6
  case hy6 =>
    intro X hX
    go_simp
    try rfl
  simp only [Act.put, List.setIfInBounds_toArray, List.set_cons_zero, List.set_cons_succ]
  refine hw_call 8 none rfl rfl (by kernel_rfl) (by rfl) (fun K hK => ?_)
  have cC := C5.cells
  have fC := C5.frees
  go_simp
  have C6 := C5.set 3 (.int .i64 he)
  have tq := (Turn.refl (fun i => i = w3.heap.size) w5).set (p := ⟨w3.heap.size, 3, none⟩) rfl (.int .i64 he)
  have z5 := t5.size
  have R6 := R5.turn tq (by omega)
  have s6 := s5.turn tq (by omega) (fun x hz hx e => by have := hA x hz hx; omega)
  have t6 : Turn (fun k => k = B) w _ := t5.andSet ⟨w3.heap.size, 3, none⟩ (.int .i64 he) gC
  refine hK.out undef _ ⟨hH6.1.set (.inr rfl) _, C6.cells 2⟩ (fun hA3 => ?_)
  refine wpAnyH_done (by kernel_rfl) ?_ _
  clear hA3 hH6 hH5 hH tq cC fC c2 wr1 wr2 s4 t4 R4 C4 s4d t4d R4d C4d s5 t5 R5 C5
  generalize w5.setCell ⟨w3.heap.size, 3, none⟩ (.int .i64 he) = w6 at *
  have z6 := t6.size
  have cR := R6.cells
  have fR := R6.frees
  have lR := R6.lt
  have cC := C6.cells
  have fC := C6.frees
  have lC := C6.lt
  go_wp2_with fail
  refine (next_sc s6 14 (by omega) (by omega)).mono ?_
  rintro e w7 ⟨r7, rfl, ⟨hd7, hf7, -⟩, s7, ht7⟩
  have hf7 := hf7 (by omega)
  have t7 := t6.both ht7
  have R7 := R6.turn ht7 RB
  have C7 := C6.turn ht7 CB
  have z7 := t7.size
  clear s6 t6 ht7 R6 C6
  have cR := R7.cells
  have fR := R7.frees
  have lR := R7.lt
  have cC := C7.cells
  have fC := C7.frees
  have lC := C7.lt
  by_cases u0 : r7 = 0
  case pos =>
    subst u0
    go_wp2_with fail
    have hbl := Blk.mk w7 w7.heap.size 2 #[.int .i64 (-1), .int .i64 2] rfl
    have hal := (New.refl w7).alloc (.cells #[.int .i64 (-1), .int .i64 2] 2)
    refine (pick_sc (s7.new hal) [-1, 2] hbl 2 rfl (by omega) (by omega) (by omega)).mono ?_
    rintro e w8 ⟨r8, rfl, hx8, s8, ht8⟩
    have hx8 : Sm r8 := by simp only [List.mem_cons, List.not_mem_nil, or_false] at hx8; unfold Sm; omega
    have t8 := (t7.andNew hal).both ht8
    have R8 := (R7.new hal).turn ht8 RB
    have C8 := (C7.new hal).turn ht8 CB
    have z8 := t8.size
    clear hbl hal s7 t7 ht8 R7 C7
    have cR := R8.cells
    have fR := R8.frees
    have lR := R8.lt
    have cC := C8.cells
    have fC := C8.frees
    have lC := C8.lt
    go_wp2
    refine bodyPost_ret (v := .agg #[.int .i64 r8, .int .i64 (1 + r2), .int .i64 r3, .int .i64 he]) (by simp [results, Try.results58, go_sem, cR, cC]) rfl ⟨_, _, _, _, _, rfl, (by unfold Sm; omega), (by unfold Sm; omega), (by unfold Sm; omega), (by unfold Sm; omega), (by omega : t + 1 + 1 + 1 + 1 + 1 + 1 ≤ t + 10), ?_, ?_⟩
    · simp (disch := first | exact hlt | exact hA | exact ge0 | exact gC | assumption) only [Sc.setI hA hlt]
      exact s8
    · simp (disch := first | exact ge0 | exact gC) only [Turn.setI]
      exact t8
  have v0 : (r7 == 0) = false := by simpa using u0
  by_cases u1 : r7 = 1
  case pos =>
    subst u1
    go_wp2_with fail
    have hbl := Blk.mk w7 w7.heap.size 2 #[.int .i64 0, .int .i64 1000, .int .i64 1001] rfl
    have hal := (New.refl w7).alloc (.cells #[.int .i64 0, .int .i64 1000, .int .i64 1001] 2)
    refine (pick_sc (s7.new hal) [0, 1000, 1001] hbl 3 rfl (by omega) (by omega) (by omega)).mono ?_
    rintro e w8 ⟨r8, rfl, hx8, s8, ht8⟩
    have hx8 : Sm r8 := by simp only [List.mem_cons, List.not_mem_nil, or_false] at hx8; unfold Sm; omega
    have t8 := (t7.andNew hal).both ht8
    have R8 := (R7.new hal).turn ht8 RB
    have C8 := (C7.new hal).turn ht8 CB
    have z8 := t8.size
    clear hbl hal s7 t7 ht8 R7 C7
    have cR := R8.cells
    have fR := R8.frees
    have lR := R8.lt
    have cC := C8.cells
    have fC := C8.frees
    have lC := C8.lt
    go_wp2
    refine bodyPost_ret (v := .agg #[.int .i64 r1, .int .i64 r8, .int .i64 r3, .int .i64 he]) (by simp [results, Try.results58, go_sem, cR, cC]) rfl ⟨_, _, _, _, _, rfl, (by unfold Sm; omega), (by unfold Sm; omega), (by unfold Sm; omega), (by unfold Sm; omega), (by omega : t + 1 + 1 + 1 + 1 + 1 + 1 ≤ t + 10), ?_, ?_⟩
    · simp (disch := first | exact hlt | exact hA | exact ge0 | exact gC | assumption) only [Sc.setI hA hlt]
      exact s8
    · simp (disch := first | exact ge0 | exact gC) only [Turn.setI]
      exact t8
  have v1 : (r7 == 1) = false := by simpa using u1
  by_cases u2 : r7 = 2
  case pos =>
    subst u2
    go_wp2_with fail
    have hbl := Blk.mk w7 w7.heap.size 2 #[.int .i64 (-1), .int .i64 1000000002, .int .i64 1000000003] rfl
    have hal := (New.refl w7).alloc (.cells #[.int .i64 (-1), .int .i64 1000000002, .int .i64 1000000003] 2)
    refine (pick_sc (s7.new hal) [-1, 1000000002, 1000000003] hbl 3 rfl (by omega) (by omega) (by omega)).mono ?_
    rintro e w8 ⟨r8, rfl, hx8, s8, ht8⟩
    have hx8 : Sm r8 := by simp only [List.mem_cons, List.not_mem_nil, or_false] at hx8; unfold Sm; omega
    have t8 := (t7.andNew hal).both ht8
    have R8 := (R7.new hal).turn ht8 RB
    have C8 := (C7.new hal).turn ht8 CB
    have z8 := t8.size
    clear hbl hal s7 t7 ht8 R7 C7
    have cR := R8.cells
    have fR := R8.frees
    have lR := R8.lt
    have cC := C8.cells
    have fC := C8.frees
    have lC := C8.lt
    go_wp2
    refine bodyPost_ret (v := .agg #[.int .i64 r1, .int .i64 (1 + r2), .int .i64 r8, .int .i64 he]) (by simp [results, Try.results58, go_sem, cR, cC]) rfl ⟨_, _, _, _, _, rfl, (by unfold Sm; omega), (by unfold Sm; omega), (by unfold Sm; omega), (by unfold Sm; omega), (by omega : t + 1 + 1 + 1 + 1 + 1 + 1 ≤ t + 10), ?_, ?_⟩
    · simp (disch := first | exact hlt | exact hA | exact ge0 | exact gC | assumption) only [Sc.setI hA hlt]
      exact s8
    · simp (disch := first | exact ge0 | exact gC) only [Turn.setI]
      exact t8
  have v2 : (r7 == 2) = false := by simpa using u2
  go_wp2
  refine bodyPost_ret (v := .agg #[.int .i64 r1, .int .i64 (1 + r2), .int .i64 r3, .int .i64 he]) (by simp [results, Try.results58, go_sem, cR, cC]) rfl ⟨_, _, _, _, _, rfl, (by unfold Sm; omega), (by unfold Sm; omega), (by unfold Sm; omega), (by unfold Sm; omega), (by omega : t + 1 + 1 + 1 + 1 + 1 ≤ t + 10), ?_, ?_⟩
  · simp (disch := first | exact hlt | exact hA | exact ge0 | exact gC | assumption) only [Sc.setI hA hlt]
    exact s7
  · simp (disch := first | exact ge0 | exact gC) only [Turn.setI]
    exact t7

set_option maxHeartbeats 3200000 in
theorem l13With_any (a : Option Addr) (n c : Nat) (zs : List Int) (w : World) (h : BsAt w a zs) (hn : zs.length = n) (hm : n ≤ 2097152) (ha : ∀ x, zs ≠ [] → a = some x → x.block < w.heap.size) :
    Calls Try.prog 49 #[.slice a n c] w fun e w' => ∃ (ho ep ak he s : Int), e = .returned (.tuple #[.agg #[.int .i64 ho, .int .i64 ep, .int .i64 ak, .int .i64 he], .int .i64 s]) ∧ New w w' := by
  have N0 : New w (w.alloc (.cells #[.int .i64 0, .int .i64 0, .int .i64 0, .int .i64 0] 28)) := (New.refl w).alloc _
  have R0 : Blk (w.alloc (.cells #[.int .i64 0, .int .i64 0, .int .i64 0, .int .i64 0] 28)) w.heap.size 28 #[.int .i64 0, .int .i64 0, .int .i64 0, .int .i64 0] := Blk.mk _ _ _ _ rfl
  go_enter Try.func49, Try.ntmps49
  go_upto_region 1 with fail
  generalize w.alloc (.cells #[.int .i64 0, .int .i64 0, .int .i64 0, .int .i64 0] 28) = w0 at *
  have l0 := R0.lt
  go_wp2_with fail
  refine (source_any a n c zs _ (h.new N0) hn hm (fun x hz hx => by have := ha x hz hx; omega)).mono ?_
  rintro e w1 ⟨B, rfl, hB, s1, hn1⟩
  have R1 := R0.new hn1
  have N1 := N0.trans hn1
  clear R0 N0 hn1
  go_wp2_with fail
  refine (l13Lease_sc s1 (by omega)).mono ?_
  rintro e w2 ⟨ho, ep, ak, he, t2, rfl, mo, me, ma, mh, ht2, s2, tt2⟩
  have RB : ¬ w.heap.size = B := by omega
  have R2 := R1.turn tt2 RB
  have N2 := N1.before tt2 (by intro i hi e; omega)
  have B2 := s2.blk.lt
  have al := (New.refl w2).alloc (.cells #[.int .i64 ho, .int .i64 ep, .int .i64 ak, .int .i64 he] 28)
  have C3 := Blk.mk w2 w2.heap.size 28 #[.int .i64 ho, .int .i64 ep, .int .i64 ak, .int .i64 he] rfl
  have R3 := R2.new al
  have N3 := N2.trans al
  have s3 := s2.new al
  have CB : ¬ w2.heap.size = B := by omega
  have l2 := R2.lt
  go_upto_region 3 with fail
  generalize w2.alloc (.cells #[.int .i64 ho, .int .i64 ep, .int .i64 ak, .int .i64 he] 28) = w3 at *
  clear R1 N1 s1 R2 N2 s2 al tt2
  obtain ⟨ma0, ma1⟩ := ma
  obtain ⟨mh0, mh1⟩ := mh
  have q1 : IntKind.i64.wrap (he + 10) = he + 10 := w13 (by omega) (by omega)
  have q2 : IntKind.i64.wrap (he + 14) = he + 14 := w13 (by omega) (by omega)
  have q3 : IntKind.i64.wrap (ak + 6) = ak + 6 := w13 (by omega) (by omega)
  have q4 : IntKind.i64.wrap (ak + 5) = ak + 5 := w13 (by omega) (by omega)
  refine hw_start (n := 26) (S := fun X => Turn (fun i => i = B ∨ i = w.heap.size) w3 X) rfl (by kernel_rfl) (((New.refl _).drew).turn) (fun hH => ?_)
  have s3d := s3.new ((New.refl w3).drew)
  have R3d := R3.new ((New.refl w3).drew)
  have N3d := N3.drew
  have C3d := C3.new ((New.refl w3).drew)
  generalize w3.drew = w3d at *
  refine' hw_take 0 (some 10) (.agg #[.int .i64 ho, .int .i64 ep, .int .i64 ak, .int .i64 he]) rfl rfl (by kernel_rfl) (by kernel_rfl) (by kernel_rfl) (fun _ _ _ h => h) (by rfl) hH ?hzA ?rzA
  case hzA =>
    intro X hX
    exact run_load_blk 28 (.tmp 5) rfl w2.heap.size rfl #[.int .i64 ho, .int .i64 ep, .int .i64 ak, .int .i64 he] _ (C3.turn hX (by omega)) Try.underlying28 rfl (by kernel_rfl)
  simp only [Act.put, List.setIfInBounds_toArray, List.set_cons_zero, List.set_cons_succ]
  refine' hw_take 1 (some 11) _ rfl rfl (by kernel_rfl) (by kernel_rfl) (by kernel_rfl) (fun _ _ _ h => h) (by rfl) hH ?hy7 ?rest7
  case hy7 =>
    intro X hX
    go_simp
    try rfl
  simp only [Act.put, List.setIfInBounds_toArray, List.set_cons_zero, List.set_cons_succ]
  refine' hw_take 2 (some 12) _ rfl rfl (by kernel_rfl) (by kernel_rfl) (by kernel_rfl) (fun _ _ _ h => h) (by rfl) hH ?hy8 ?rest8
  case hy8 =>
    intro X hX
    go_simp
    try rfl
  simp only [Act.put, List.setIfInBounds_toArray, List.set_cons_zero, List.set_cons_succ]
  refine' hw_take 3 (some 13) _ rfl rfl (by kernel_rfl) (by kernel_rfl) (by kernel_rfl) (fun _ _ _ h => h) (by rfl) hH ?hy9 ?rest9
  case hy9 =>
    intro X hX
    have cC := (C3.turn hX (by omega)).cells
    go_simp
    try rfl
  simp only [Act.put, List.setIfInBounds_toArray, List.set_cons_zero, List.set_cons_succ]
  refine' hw_take 4 (some 14) _ rfl rfl (by kernel_rfl) (by kernel_rfl) (by kernel_rfl) (fun _ _ _ h => h) (by rfl) hH ?hy10 ?rest10
  case hy10 =>
    intro X hX
    go_simp
    try rfl
  simp only [Act.put, List.setIfInBounds_toArray, List.set_cons_zero, List.set_cons_succ]
  refine' hw_take 7 (some 17) _ rfl rfl (by kernel_rfl) (by kernel_rfl) (by kernel_rfl) (fun _ _ _ h => h) (by rfl) hH ?hy11 ?rest11
  case hy11 =>
    intro X hX
    go_simp
    try rfl
  simp only [Act.put, List.setIfInBounds_toArray, List.set_cons_zero, List.set_cons_succ]
  refine' hw_take 8 (some 18) _ rfl rfl (by kernel_rfl) (by kernel_rfl) (by kernel_rfl) (fun _ _ _ h => h) (by rfl) hH ?hy12 ?rest12
  case hy12 =>
    intro X hX
    have cC := (C3.turn hX (by omega)).cells
    go_simp
    try rfl
  simp only [Act.put, List.setIfInBounds_toArray, List.set_cons_zero, List.set_cons_succ]
  refine' hw_take 9 (some 19) _ rfl rfl (by kernel_rfl) (by kernel_rfl) (by kernel_rfl) (fun _ _ _ h => h) (by rfl) hH ?hy13 ?rest13
  case hy13 =>
    intro X hX
    go_simp
    try rfl
  simp only [Act.put, List.setIfInBounds_toArray, List.set_cons_zero, List.set_cons_succ]
  refine' hw_take 10 (some 20) _ rfl rfl (by kernel_rfl) (by kernel_rfl) (by kernel_rfl) (fun _ _ _ h => h) (by rfl) hH ?hy14 ?rest14
  case hy14 =>
    intro X hX
    go_simp
    try rfl
  simp only [Act.put, List.setIfInBounds_toArray, List.set_cons_zero, List.set_cons_succ]
  refine' hw_take 13 (some 23) _ rfl rfl (by kernel_rfl) (by kernel_rfl) (by kernel_rfl) (fun _ _ _ h => h) (by rfl) hH ?hy15 ?rest15
  case hy15 =>
    intro X hX
    go_simp
    try rfl
  simp only [Act.put, List.setIfInBounds_toArray, List.set_cons_zero, List.set_cons_succ]
  refine' hw_take 14 (some 24) _ rfl rfl (by kernel_rfl) (by kernel_rfl) (by kernel_rfl) (fun _ _ _ h => h) (by rfl) hH ?hy16 ?rest16
  case hy16 =>
    intro X hX
    have cC := (C3.turn hX (by omega)).cells
    go_simp
    try rfl
  simp only [Act.put, List.setIfInBounds_toArray, List.set_cons_zero, List.set_cons_succ]
  refine' hw_take 15 (some 25) _ rfl rfl (by kernel_rfl) (by kernel_rfl) (by kernel_rfl) (fun _ _ _ h => h) (by rfl) hH ?hy17 ?rest17
  case hy17 =>
    intro X hX
    go_simp
    try rfl
  simp only [Act.put, List.setIfInBounds_toArray, List.set_cons_zero, List.set_cons_succ]
  refine' hw_take 16 (some 26) _ rfl rfl (by kernel_rfl) (by kernel_rfl) (by kernel_rfl) (fun _ _ _ h => h) (by rfl) hH ?hy18 ?rest18
  case hy18 =>
    intro X hX
    go_simp
    try rfl
  simp only [Act.put, List.setIfInBounds_toArray, List.set_cons_zero, List.set_cons_succ]
  refine' hw_take 17 (some 27) _ rfl rfl (by kernel_rfl) (by kernel_rfl) (by kernel_rfl) (fun _ _ _ h => h) (by rfl) hH ?hy19 ?rest19
  case hy19 =>
    intro X hX
    have cC := (C3.turn hX (by omega)).cells
    go_simp
    try rfl
  simp only [Act.put, List.setIfInBounds_toArray, List.set_cons_zero, List.set_cons_succ]
  refine' hw_take 18 (some 28) _ rfl rfl (by kernel_rfl) (by kernel_rfl) (by kernel_rfl) (fun _ _ _ h => h) (by rfl) hH ?hy20 ?rest20
  case hy20 =>
    intro X hX
    go_simp
    try rfl
  simp only [Act.put, List.setIfInBounds_toArray, List.set_cons_zero, List.set_cons_succ]
  refine' hw_take 19 (some 29) _ rfl rfl (by kernel_rfl) (by kernel_rfl) (by kernel_rfl) (fun _ _ _ h => h) (by rfl) hH ?hy21 ?rest21
  case hy21 =>
    intro X hX
    go_simp
    try rfl
  simp only [Act.put, List.setIfInBounds_toArray, List.set_cons_zero, List.set_cons_succ]
  refine' hw_take 20 (some 30) _ rfl rfl (by kernel_rfl) (by kernel_rfl) (by kernel_rfl) (fun _ _ _ h => h) (by rfl) hH ?hy22 ?rest22
  case hy22 =>
    intro X hX
    have cC := (C3.turn hX (by omega)).cells
    go_simp
    try rfl
  simp only [Act.put, List.setIfInBounds_toArray, List.set_cons_zero, List.set_cons_succ]
  refine' hw_take 21 (some 31) _ rfl rfl (by kernel_rfl) (by kernel_rfl) (by kernel_rfl) (fun _ _ _ h => h) (by rfl) hH ?hy23 ?rest23
  case hy23 =>
    intro X hX
    go_simp
    try rfl
  simp only [Act.put, List.setIfInBounds_toArray, List.set_cons_zero, List.set_cons_succ]
  refine hw_call 5 (some 15) rfl rfl (by kernel_rfl) (by rfl) (fun K hK => ?_)
  go_simp
  refine (next_sc s3d 9 (by omega) (by omega)).mono ?_
  rintro e w4 ⟨r4, rfl, ⟨hd4, hf4, -⟩, s4, ht4⟩
  have hf4 := hf4 (by omega)
  go_simp
  have hT4 := Turn.trans hH (ht4.mono (T := fun i => i = B ∨ i = w.heap.size) (fun i _ e => .inl e)) (fun i _ e => e)
  refine hK.out _ _ hT4 (fun _ => ?_)
  simp only [Act.put, List.setIfInBounds_toArray, List.set_cons_zero, List.set_cons_succ]
  have q5 : IntKind.i64.wrap (ak + r4) = ak + r4 := w13 (by omega) (by omega)
  refine' hw_take 6 (some 16) _ rfl rfl (by kernel_rfl) (by kernel_rfl) (by kernel_rfl) (fun _ _ _ h => h) (by rfl) hT4 ?hy24 ?rest24
  case hy24 =>
    intro X hX
    go_simp
    try rfl
  simp only [Act.put, List.setIfInBounds_toArray, List.set_cons_zero, List.set_cons_succ]
  refine hw_call 11 (some 21) rfl rfl (by kernel_rfl) (by rfl) (fun K hK => ?_)
  go_simp
  refine (next_sc s4 9 (by omega) (by omega)).mono ?_
  rintro e w5 ⟨r5, rfl, ⟨hd5, hf5, -⟩, s5, ht5⟩
  have hf5 := hf5 (by omega)
  go_simp
  have hT5 := Turn.trans hT4 (ht5.mono (T := fun i => i = B ∨ i = w.heap.size) (fun i _ e => .inl e)) (fun i _ e => e)
  refine hK.out _ _ hT5 (fun _ => ?_)
  simp only [Act.put, List.setIfInBounds_toArray, List.set_cons_zero, List.set_cons_succ]
  have q6 : IntKind.i64.wrap (he + 10 + r5) = he + 10 + r5 := w13 (by omega) (by omega)
  refine' hw_take 12 (some 22) _ rfl rfl (by kernel_rfl) (by kernel_rfl) (by kernel_rfl) (fun _ _ _ h => h) (by rfl) hT5 ?hy25 ?rest25
  case hy25 =>
    intro X hX
    go_simp
    try rfl
  simp only [Act.put, List.setIfInBounds_toArray, List.set_cons_zero, List.set_cons_succ]
  refine hw_call 22 (some 32) rfl rfl (by kernel_rfl) (by rfl) (fun K hK => ?_)
  go_simp
  have hbl := Blk.mk w5 w5.heap.size 2 #[.int .i64 (ak + r4), .int .i64 (he + 10 + r5), .int .i64 (he + 14), .int .i64 (ak + 6), .int .i64 (ak + 5), .int .i64 (-1)] rfl
  have hal := (New.refl w5).alloc (.cells #[.int .i64 (ak + r4), .int .i64 (he + 10 + r5), .int .i64 (he + 14), .int .i64 (ak + 6), .int .i64 (ak + 5), .int .i64 (-1)] 2)
  have hT6 := Turn.trans hT5 hal.turn (fun i _ e => e)
  refine hK.out _ _ hT6 (fun _ => ?_)
  simp only [Act.put, List.setIfInBounds_toArray, List.set_cons_zero, List.set_cons_succ]
  refine hw_call 23 (some 33) rfl rfl (by kernel_rfl) (by rfl) (fun K hK => ?_)
  go_simp
  refine (pick_sc (s5.new hal) [ak + r4, he + 10 + r5, he + 14, ak + 6, ak + 5, -1] hbl 6 rfl (by omega) (by omega) (by omega)).mono ?_
  rintro e w7 ⟨r7, rfl, -, s7, ht7⟩
  go_simp
  have hT7 := Turn.trans hT6 (ht7.mono (T := fun i => i = B ∨ i = w.heap.size) (fun i _ e => .inl e)) (fun i _ e => e)
  refine hK.out _ _ hT7 (fun _ => ?_)
  simp only [Act.put, List.setIfInBounds_toArray, List.set_cons_zero, List.set_cons_succ]
  have R7 : Blk w7 w.heap.size 28 #[.int .i64 0, .int .i64 0, .int .i64 0, .int .i64 0] := ((((R3d.turn ht4 RB).turn ht5 RB).new hal).turn ht7 RB)
  have N7 : New w w7 := ((((N3d.before ht4 (by intro i hi e; omega)).before ht5 (by intro i hi e; omega)).trans hal).before ht7 (by intro i hi e; omega))
  refine hw_call 24 none rfl rfl (by kernel_rfl) (by rfl) (fun K hK => ?_)
  refine hw_store 28 (.tmp 2) (.tmp 10) rfl rfl w.heap.size #[.int .i64 ho, .int .i64 ep, .int .i64 ak, .int .i64 he] #[.int .i64 0, .int .i64 0, .int .i64 0, .int .i64 0] rfl rfl R7 (by kernel_rfl) rfl (by kernel_rfl) ?_
  have tR := Turn.rowW (Turn.refl (fun i => i = w.heap.size) w7) rfl #[.int .i64 ho, .int .i64 ep, .int .i64 ak, .int .i64 he]
  have bR := R7.rowW #[.int .i64 ho, .int .i64 ep, .int .i64 ak, .int .i64 he]
  have NR := N7.before tR (by intro i hi e; omega)
  have hT8 := Turn.trans hT7 (tR.mono (T := fun i => i = B ∨ i = w.heap.size) (fun i _ e => .inr e)) (fun i _ e => e)
  refine hK.out undef _ hT8 (fun _ => ?_)
  generalize w7.setRow w.heap.size #[.int .i64 ho, .int .i64 ep, .int .i64 ak, .int .i64 he] = w8 at *
  try simp only [Act.put, List.setIfInBounds_toArray, List.set_cons_zero, List.set_cons_succ]
  refine' hw_take 25 (some 3) _ rfl rfl (by kernel_rfl) (by kernel_rfl) (by kernel_rfl) (fun _ _ _ h => h) (by rfl) hT8 ?hy26 ?rest26
  case hy26 =>
    intro X hX
    go_simp
    try rfl
  simp only [Act.put, List.setIfInBounds_toArray, List.set_cons_zero, List.set_cons_succ]
  refine wpAnyH_done (by kernel_rfl) ?_ _
  have cR := bR.cells
  go_wp2
  exact bodyPost_ret (v := .tuple #[.agg #[.int .i64 ho, .int .i64 ep, .int .i64 ak, .int .i64 he], .int .i64 r7]) (by simp [results, Try.results49, go_sem, cR]) rfl ⟨ho, ep, ak, he, r7, rfl, NR⟩

set_option maxHeartbeats 800000 in
theorem drawMT (a : Option Addr) (n c : Nat) (zs : List Int) (w : World) (h : BsAt w a zs) (hn : zs.length = n) (hm : n ≤ 2097152) (ha : ∀ x, zs ≠ [] → a = some x → x.block < w.heap.size) :
    Calls Try.prog 21 #[.slice a n c] w fun e w' => ∃ (ho ep ak he s : Int), e = .returned (.tuple #[.agg #[.int .i64 ho, .int .i64 ep, .int .i64 ak, .int .i64 he], .int .i64 s]) ∧ New w w' := by
  have N0 : New w (w.alloc (.cells #[.int .i64 0, .int .i64 0, .int .i64 0, .int .i64 0] 28)) := (New.refl w).alloc _
  have R0 : Blk (w.alloc (.cells #[.int .i64 0, .int .i64 0, .int .i64 0, .int .i64 0] 28)) w.heap.size 28 #[.int .i64 0, .int .i64 0, .int .i64 0, .int .i64 0] := Blk.mk _ _ _ _ rfl
  go_enter Try.func21, Try.ntmps21
  go_wp2_with fail
  refine (l13With_any a n c zs _ (h.new N0) hn hm (fun x hz hx => by have := ha x hz hx; have := R0.lt; omega)).mono ?_
  rintro e w1 ⟨ho, ep, ak, he, s, rfl, hn1⟩
  have R1 := R0.new hn1
  have N1 := N0.trans hn1
  have cR := R1.cells
  have fR := R1.frees
  have lR := R1.lt
  go_wp2
  refine bodyPost_ret (v := .tuple #[.agg #[.int .i64 ho, .int .i64 ep, .int .i64 ak, .int .i64 he], .int .i64 s]) (by simp [results, Try.results21, go_sem, cR]) rfl ⟨ho, ep, ak, he, s, rfl, ?_⟩
  simp (disch := exact Nat.le_refl _) only [New.set13]
  exact N1

end Go.Proofs.Ytpbmbnckdmjdhaa
