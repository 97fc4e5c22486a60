/- What is proved here: what the program's TickClock answers, for lists of at most 1048576 numbers. -/
import Derived.Test.YtpbmbnckdmjdhaaC13Ti
import Derived.Deep.CutRange
namespace Go.Proofs.Ytpbmbnckdmjdhaa
open Go.RowKit
set_option linter.unusedVariables false
set_option linter.unusedSimpArgs false
set_option maxRecDepth 100000

theorem d13 {p : Int} (h : ¬ OfP p) (k : ¬ p < -2) : 2 < p := by omega

set_option maxHeartbeats 3200000 in
theorem iTick_p (nw t x y p q : Int) (a oa : Option Addr) (c d : Nat) (w : World) (h : NsAt w a [x, y]) (ho : NsAt w oa [p, q]) (hf : ckF nw [x, y] = 0) (hz : (0 ≤ t ∧ t ≤ 1000) ∧ nw + t ≤ 1000000000) (hp : p < -2) :
    Calls Try.prog 13 #[.agg #[.int .i64 nw, .slice a 2 c], .int .i64 t, .slice oa 2 d] w (CkAns w ⟨3, 0, []⟩) := by
  have N0 : New w ((w.alloc (.cells #[.int .i64 nw, .slice a 2 c] 26)).alloc (.cells #[.int .i64 0, .int .i64 0, .slice none 0 0] 30)) := ((New.refl w).alloc _).alloc _
  have bT0 : Blk ((w.alloc (.cells #[.int .i64 nw, .slice a 2 c] 26)).alloc (.cells #[.int .i64 0, .int .i64 0, .slice none 0 0] 30)) w.heap.size 26 #[.int .i64 nw, .slice a 2 c] := (Blk.mk _ _ _ _ rfl).alloc _
  have bR0 : Blk ((w.alloc (.cells #[.int .i64 nw, .slice a 2 c] 26)).alloc (.cells #[.int .i64 0, .int .i64 0, .slice none 0 0] 30)) (w.heap.size + 1) 30 #[.int .i64 0, .int .i64 0, .slice none 0 0] := Blk.mk _ _ _ _ (by simp)
  have ge1 : w.heap.size ≤ w.heap.size + 1 := by omega
  obtain ⟨⟨h0, h1⟩, x', y', e, ⟨x0, x1, x2⟩, ⟨y0, y1, y2⟩⟩ := ckF_zero hf
  cases e
  obtain ⟨⟨t0, t1⟩, t2⟩ := hz
  have t3 : t ≤ 1000000000 - nw := by omega
  obtain ⟨ob, oo, rfl, -⟩ := ns13 ho
  have d0 : decide (p < -2) = true := decide_eq_true hp
  go_enter Try.func13, Try.ntmps13
  go_wp2_with fail
  refine (implCkF_is nw a 2 c [x, y] 0 _ (h.new N0) rfl (by omega) hf).mono ?_
  rintro e w1 ⟨rfl, hn1⟩
  have bT1 := bT0.new hn1
  have bR1 := bR0.new hn1
  have N1 := N0.trans hn1
  have cT := bT1.cells
  have lR := bR1.lt
  clear bT0 bR0 N0 hn1 hf
  go_wp2_with fail
  refine (rdOf nw x y a c _ (h.new N1)).mono ?_
  rintro e w2 ⟨rfl, hn2⟩
  have al := (New.refl w2).alloc (.cells #[.int .i64 nw, .int .i64 x, .int .i64 y] 66)
  have bX3 := Blk.mk w2 w2.heap.size 66 #[.int .i64 nw, .int .i64 x, .int .i64 y] rfl
  have bR3 := (bR1.new hn2).new al
  have N3 := (N1.trans hn2).trans al
  have z1 := N1.size
  have z2 := hn2.size
  clear cT bT1 bR1 N1 h
  go_upto_region 9 with fail
  generalize w2.alloc (.cells #[.int .i64 nw, .int .i64 x, .int .i64 y] 66) = w3 at *
  have cX := bX3.cells
  have fX := bX3.frees
  have l2 : w.heap.size + 1 < w2.heap.size := by omega
  go_upto_region 10 with fail
  have bX4 := bX3.set 0 (.int .i64 (nw + t))
  have t4 := (Turn.refl (fun i => i = w2.heap.size) w3).set (p := ⟨w2.heap.size, 0, none⟩) rfl (.int .i64 (nw + t))
  have bR4 := bR3.turn t4 (by omega)
  have N4 := N3.before t4 (by intro i hi e; omega)
  generalize w3.setCell ⟨w2.heap.size, 0, none⟩ (.int .i64 (nw + t)) = w4 at *
  clear cX fX bX3 bR3 N3 t4 al hn2
  go_wp2_with fail
  refine wp_loop_rounds 3 ?_
  rw [rounds_succ]
  obtain ⟨ob', oo', e, cp, cq, -⟩ := ns13 (ho.new N4)
  cases e
  have cR := bR4.cells
  have fR := bR4.frees
  go_wp2
  refine bodyPost_ret (v := .agg #[.int .i64 3, .int .i64 0, .slice none 0 0]) (by simp [results, Try.results13, go_sem, cR]) rfl ⟨_, rfl, .inl ⟨rfl, rfl⟩, ?_⟩
  simp (disch := exact ge1) only [New.set13, New.drewN_iff, N4]

set_option maxHeartbeats 3200000 in
theorem iTick_P (nw t x y p q : Int) (a oa : Option Addr) (c d : Nat) (w : World) (h : NsAt w a [x, y]) (ho : NsAt w oa [p, q]) (hf : ckF nw [x, y] = 0) (hz : (0 ≤ t ∧ t ≤ 1000) ∧ nw + t ≤ 1000000000) (hp : ¬ p < -2) (hp2 : 2 < p) :
    Calls Try.prog 13 #[.agg #[.int .i64 nw, .slice a 2 c], .int .i64 t, .slice oa 2 d] w (CkAns w ⟨3, 0, []⟩) := by
  have N0 : New w ((w.alloc (.cells #[.int .i64 nw, .slice a 2 c] 26)).alloc (.cells #[.int .i64 0, .int .i64 0, .slice none 0 0] 30)) := ((New.refl w).alloc _).alloc _
  have bT0 : Blk ((w.alloc (.cells #[.int .i64 nw, .slice a 2 c] 26)).alloc (.cells #[.int .i64 0, .int .i64 0, .slice none 0 0] 30)) w.heap.size 26 #[.int .i64 nw, .slice a 2 c] := (Blk.mk _ _ _ _ rfl).alloc _
  have bR0 : Blk ((w.alloc (.cells #[.int .i64 nw, .slice a 2 c] 26)).alloc (.cells #[.int .i64 0, .int .i64 0, .slice none 0 0] 30)) (w.heap.size + 1) 30 #[.int .i64 0, .int .i64 0, .slice none 0 0] := Blk.mk _ _ _ _ (by simp)
  have ge1 : w.heap.size ≤ w.heap.size + 1 := by omega
  obtain ⟨⟨h0, h1⟩, x', y', e, ⟨x0, x1, x2⟩, ⟨y0, y1, y2⟩⟩ := ckF_zero hf
  cases e
  obtain ⟨⟨t0, t1⟩, t2⟩ := hz
  have t3 : t ≤ 1000000000 - nw := by omega
  obtain ⟨ob, oo, rfl, -⟩ := ns13 ho
  have d0 : decide (p < -2) = false := decide_eq_false hp
  go_enter Try.func13, Try.ntmps13
  go_wp2_with fail
  refine (implCkF_is nw a 2 c [x, y] 0 _ (h.new N0) rfl (by omega) hf).mono ?_
  rintro e w1 ⟨rfl, hn1⟩
  have bT1 := bT0.new hn1
  have bR1 := bR0.new hn1
  have N1 := N0.trans hn1
  have cT := bT1.cells
  have lR := bR1.lt
  clear bT0 bR0 N0 hn1 hf
  go_wp2_with fail
  refine (rdOf nw x y a c _ (h.new N1)).mono ?_
  rintro e w2 ⟨rfl, hn2⟩
  have al := (New.refl w2).alloc (.cells #[.int .i64 nw, .int .i64 x, .int .i64 y] 66)
  have bX3 := Blk.mk w2 w2.heap.size 66 #[.int .i64 nw, .int .i64 x, .int .i64 y] rfl
  have bR3 := (bR1.new hn2).new al
  have N3 := (N1.trans hn2).trans al
  have z1 := N1.size
  have z2 := hn2.size
  clear cT bT1 bR1 N1 h
  go_upto_region 9 with fail
  generalize w2.alloc (.cells #[.int .i64 nw, .int .i64 x, .int .i64 y] 66) = w3 at *
  have cX := bX3.cells
  have fX := bX3.frees
  have l2 : w.heap.size + 1 < w2.heap.size := by omega
  go_upto_region 10 with fail
  have bX4 := bX3.set 0 (.int .i64 (nw + t))
  have t4 := (Turn.refl (fun i => i = w2.heap.size) w3).set (p := ⟨w2.heap.size, 0, none⟩) rfl (.int .i64 (nw + t))
  have bR4 := bR3.turn t4 (by omega)
  have N4 := N3.before t4 (by intro i hi e; omega)
  generalize w3.setCell ⟨w2.heap.size, 0, none⟩ (.int .i64 (nw + t)) = w4 at *
  clear cX fX bX3 bR3 N3 t4 al hn2
  go_wp2_with fail
  refine wp_loop_rounds 3 ?_
  rw [rounds_succ]
  obtain ⟨ob', oo', e, cp, cq, -⟩ := ns13 (ho.new N4)
  cases e
  have cR := bR4.cells
  have fR := bR4.frees
  go_wp2
  refine bodyPost_ret (v := .agg #[.int .i64 3, .int .i64 0, .slice none 0 0]) (by simp [results, Try.results13, go_sem, cR]) rfl ⟨_, rfl, .inl ⟨rfl, rfl⟩, ?_⟩
  simp (disch := exact ge1) only [New.set13, New.drewN_iff, N4]

set_option maxHeartbeats 3200000 in
theorem iTick_q (nw t x y p q : Int) (a oa : Option Addr) (c d : Nat) (w : World) (h : NsAt w a [x, y]) (ho : NsAt w oa [p, q]) (hf : ckF nw [x, y] = 0) (hz : (0 ≤ t ∧ t ≤ 1000) ∧ nw + t ≤ 1000000000) (hp : OfP p) (hq : q < -2) :
    Calls Try.prog 13 #[.agg #[.int .i64 nw, .slice a 2 c], .int .i64 t, .slice oa 2 d] w (CkAns w ⟨3, 0, []⟩) := by
  have N0 : New w ((w.alloc (.cells #[.int .i64 nw, .slice a 2 c] 26)).alloc (.cells #[.int .i64 0, .int .i64 0, .slice none 0 0] 30)) := ((New.refl w).alloc _).alloc _
  have bT0 : Blk ((w.alloc (.cells #[.int .i64 nw, .slice a 2 c] 26)).alloc (.cells #[.int .i64 0, .int .i64 0, .slice none 0 0] 30)) w.heap.size 26 #[.int .i64 nw, .slice a 2 c] := (Blk.mk _ _ _ _ rfl).alloc _
  have bR0 : Blk ((w.alloc (.cells #[.int .i64 nw, .slice a 2 c] 26)).alloc (.cells #[.int .i64 0, .int .i64 0, .slice none 0 0] 30)) (w.heap.size + 1) 30 #[.int .i64 0, .int .i64 0, .slice none 0 0] := Blk.mk _ _ _ _ (by simp)
  have ge1 : w.heap.size ≤ w.heap.size + 1 := by omega
  obtain ⟨⟨h0, h1⟩, x', y', e, ⟨x0, x1, x2⟩, ⟨y0, y1, y2⟩⟩ := ckF_zero hf
  cases e
  obtain ⟨⟨t0, t1⟩, t2⟩ := hz
  have t3 : t ≤ 1000000000 - nw := by omega
  obtain ⟨ob, oo, rfl, -⟩ := ns13 ho
  obtain ⟨p0, p1⟩ := hp
  have d0p : decide (p < -2) = false := decide_eq_false (by omega)
  have d1p : decide (2 < p) = false := decide_eq_false (by omega)
  have wp : IntKind.i64.wrap (nw + t + p) = nw + t + p := by rw [IntKind.wrap_i64]; omega
  have wap : IntKind.i64.wrap (nw + t) = nw + t := by rw [IntKind.wrap_i64]; omega
  have d2 : decide (q < -2) = true := decide_eq_true hq
  go_enter Try.func13, Try.ntmps13
  go_wp2_with fail
  refine (implCkF_is nw a 2 c [x, y] 0 _ (h.new N0) rfl (by omega) hf).mono ?_
  rintro e w1 ⟨rfl, hn1⟩
  have bT1 := bT0.new hn1
  have bR1 := bR0.new hn1
  have N1 := N0.trans hn1
  have cT := bT1.cells
  have lR := bR1.lt
  clear bT0 bR0 N0 hn1 hf
  go_wp2_with fail
  refine (rdOf nw x y a c _ (h.new N1)).mono ?_
  rintro e w2 ⟨rfl, hn2⟩
  have al := (New.refl w2).alloc (.cells #[.int .i64 nw, .int .i64 x, .int .i64 y] 66)
  have bX3 := Blk.mk w2 w2.heap.size 66 #[.int .i64 nw, .int .i64 x, .int .i64 y] rfl
  have bR3 := (bR1.new hn2).new al
  have N3 := (N1.trans hn2).trans al
  have z1 := N1.size
  have z2 := hn2.size
  clear cT bT1 bR1 N1 h
  go_upto_region 9 with fail
  generalize w2.alloc (.cells #[.int .i64 nw, .int .i64 x, .int .i64 y] 66) = w3 at *
  have cX := bX3.cells
  have fX := bX3.frees
  have l2 : w.heap.size + 1 < w2.heap.size := by omega
  go_upto_region 10 with fail
  have bX4 := bX3.set 0 (.int .i64 (nw + t))
  have t4 := (Turn.refl (fun i => i = w2.heap.size) w3).set (p := ⟨w2.heap.size, 0, none⟩) rfl (.int .i64 (nw + t))
  have bR4 := bR3.turn t4 (by omega)
  have N4 := N3.before t4 (by intro i hi e; omega)
  generalize w3.setCell ⟨w2.heap.size, 0, none⟩ (.int .i64 (nw + t)) = w4 at *
  clear cX fX bX3 bR3 N3 t4 al hn2
  go_wp2_with fail
  refine wp_loop_rounds 3 ?_
  rw [rounds_succ]
  obtain ⟨ob', oo', e, cp, cq, -⟩ := ns13 (ho.new N4)
  cases e
  go_upto_region 15 with fail
  clear cp cq
  have c0 := (bX4.new ((New.refl w4).drew)).cells 0
  refine hw_start (n := 16) (S := fun X => Turn (fun i => i = w2.heap.size) w4 X ∧ X.cell? ⟨w2.heap.size, 0, none⟩ = some (.int .i64 (nw + t))) rfl (by kernel_rfl) (⟨((New.refl _).drew).turn, c0⟩) (fun hH => ?_)
  have bX4d := bX4.new ((New.refl w4).drew)
  have bR4d := bR4.new ((New.refl w4).drew)
  have N4d := N4.drew
  generalize w4.drew = w4d at *
  refine' hw_take 0 (some 57) _ rfl rfl (by kernel_rfl) (by kernel_rfl) (by kernel_rfl) (fun _ _ _ h => h) (by rfl) hH ?hy1 ?rest1
  case hy1 =>
    intro X hX
    go_simp
    try rfl
  simp only [Act.put, List.setIfInBounds_toArray, List.set_cons_zero, List.set_cons_succ]
  refine' hw_take 1 (some 58) _ rfl rfl (by kernel_rfl) (by kernel_rfl) (by kernel_rfl) (fun _ _ _ h => h) (by rfl) hH ?hy2 ?rest2
  case hy2 =>
    intro X hX
    go_simp
    try rfl
  simp only [Act.put, List.setIfInBounds_toArray, List.set_cons_zero, List.set_cons_succ]
  refine' hw_take 2 (some 59) _ rfl rfl (by kernel_rfl) (by kernel_rfl) (by kernel_rfl) (fun _ _ _ h => h) (by rfl) hH ?hy3 ?rest3
  case hy3 =>
    intro X hX
    go_simp
    try rfl
  simp only [Act.put, List.setIfInBounds_toArray, List.set_cons_zero, List.set_cons_succ]
  refine' hw_take 3 (some 60) _ rfl rfl (by kernel_rfl) (by kernel_rfl) (by kernel_rfl) (fun _ _ _ h => h) (by rfl) hH ?hy4 ?rest4
  case hy4 =>
    intro X hX
    go_simp
    try rfl
  simp only [Act.put, List.setIfInBounds_toArray, List.set_cons_zero, List.set_cons_succ]
  refine' hw_take 5 (some 62) _ rfl rfl (by kernel_rfl) (by kernel_rfl) (by kernel_rfl) (fun _ _ _ h => h) (by rfl) hH ?hy5 ?rest5
  case hy5 =>
    intro X hX
    go_simp
    try rfl
  simp only [Act.put, List.setIfInBounds_toArray, List.set_cons_zero, List.set_cons_succ]
  refine' hw_take 6 (some 63) _ rfl rfl (by kernel_rfl) (by kernel_rfl) (by kernel_rfl) (fun _ _ _ h => h) (by rfl) hH ?hy6 ?rest6
  case hy6 =>
    intro X hX
    have cX := hX.2
    go_simp
    try rfl
  simp only [Act.put, List.setIfInBounds_toArray, List.set_cons_zero, List.set_cons_succ]
  refine' hw_take 7 (some 64) _ rfl rfl (by kernel_rfl) (by kernel_rfl) (by kernel_rfl) (fun _ _ _ h => h) (by rfl) hH ?hy7 ?rest7
  case hy7 =>
    intro X hX
    go_simp
    try rfl
  simp only [Act.put, List.setIfInBounds_toArray, List.set_cons_zero, List.set_cons_succ]
  refine' hw_take 8 (some 65) _ rfl rfl (by kernel_rfl) (by kernel_rfl) (by kernel_rfl) (fun _ _ _ h => h) (by rfl) hH ?hy8 ?rest8
  case hy8 =>
    intro X hX
    go_simp
    try rfl
  simp only [Act.put, List.setIfInBounds_toArray, List.set_cons_zero, List.set_cons_succ]
  refine' hw_take 9 (some 66) _ rfl rfl (by kernel_rfl) (by kernel_rfl) (by kernel_rfl) (fun _ _ _ h => h) (by rfl) hH ?hy9 ?rest9
  case hy9 =>
    intro X hX
    go_simp
    try rfl
  simp only [Act.put, List.setIfInBounds_toArray, List.set_cons_zero, List.set_cons_succ]
  refine' hw_take 10 (some 67) _ rfl rfl (by kernel_rfl) (by kernel_rfl) (by kernel_rfl) (fun _ _ _ h => h) (by rfl) hH ?hy10 ?rest10
  case hy10 =>
    intro X hX
    obtain ⟨ob', oo', e, cp, cq, -⟩ := ns13 (ho.new (N4.before hX.1 (by intro i hi e; omega)))
    cases e
    go_simp
    try rfl
  simp only [Act.put, List.setIfInBounds_toArray, List.set_cons_zero, List.set_cons_succ]
  refine' hw_take 11 (some 68) _ rfl rfl (by kernel_rfl) (by kernel_rfl) (by kernel_rfl) (fun _ _ _ h => h) (by rfl) hH ?hy11 ?rest11
  case hy11 =>
    intro X hX
    go_simp
    try rfl
  simp only [Act.put, List.setIfInBounds_toArray, List.set_cons_zero, List.set_cons_succ]
  refine' hw_take 13 (some 70) _ rfl rfl (by kernel_rfl) (by kernel_rfl) (by kernel_rfl) (fun _ _ _ h => h) (by rfl) hH ?hy12 ?rest12
  case hy12 =>
    intro X hX
    go_simp
    try rfl
  simp only [Act.put, List.setIfInBounds_toArray, List.set_cons_zero, List.set_cons_succ]
  refine hw_call 4 (some 61) rfl rfl (by kernel_rfl) (by rfl) (fun K hK => ?_)
  have cX := bX4d.cells
  go_simp
  refine hK.out _ _ hH (fun hL => ?_)
  simp only [Act.put, List.setIfInBounds_toArray, List.set_cons_zero, List.set_cons_succ]
  refine' hw_take 12 (some 69) _ rfl rfl (by kernel_rfl) (by kernel_rfl) (by kernel_rfl) (fun _ _ _ h => h) (by rfl) hL ?hy13 ?rest13
  case hy13 =>
    intro X hX
    go_simp
    try rfl
  simp only [Act.put, List.setIfInBounds_toArray, List.set_cons_zero, List.set_cons_succ]
  refine' hw_take 14 (some 71) _ rfl rfl (by kernel_rfl) (by kernel_rfl) (by kernel_rfl) (fun _ _ _ h => h) (by rfl) hL ?hy14 ?rest14
  case hy14 =>
    intro X hX
    go_simp
    try rfl
  simp only [Act.put, List.setIfInBounds_toArray, List.set_cons_zero, List.set_cons_succ]
  refine hw_call 15 none rfl rfl (by kernel_rfl) (by rfl) (fun K hK => ?_)
  have fX := bX4d.frees
  go_simp
  have bX6 := bX4d.set 1 (.int .i64 (max x (nw + t + p)))
  have tq := (Turn.refl (fun i => i = w2.heap.size) w4d).set (p := ⟨w2.heap.size, 1, none⟩) rfl (.int .i64 (max x (nw + t + p)))
  have bR6 := bR4d.turn tq (by omega)
  have N6 := N4d.before tq (by intro i hi e; omega)
  refine hK.out undef _ ⟨Turn.trans hH.1 tq (fun i _ e => e), bX6.cells 0⟩ (fun hA3 => ?_)
  refine wpAnyH_done (by kernel_rfl) ?_ _
  clear hA3 hL hH tq cX fX c0 bX4 bR4 N4 bX4d bR4d N4d
  generalize w4d.setCell ⟨w2.heap.size, 1, none⟩ (.int .i64 (max x (nw + t + p))) = w6 at *
  go_wp2_with fail
  rw [rounds_succ]
  obtain ⟨ob', oo', e, cp, cq, -⟩ := ns13 (ho.new N6)
  cases e
  have cR := bR6.cells
  have fR := bR6.frees
  go_wp2
  refine bodyPost_ret (v := .agg #[.int .i64 3, .int .i64 0, .slice none 0 0]) (by simp [results, Try.results13, go_sem, cR]) rfl ⟨_, rfl, .inl ⟨rfl, rfl⟩, ?_⟩
  simp (disch := exact ge1) only [New.set13, New.drewN_iff, N6]

set_option maxHeartbeats 3200000 in
theorem iTick_Q (nw t x y p q : Int) (a oa : Option Addr) (c d : Nat) (w : World) (h : NsAt w a [x, y]) (ho : NsAt w oa [p, q]) (hf : ckF nw [x, y] = 0) (hz : (0 ≤ t ∧ t ≤ 1000) ∧ nw + t ≤ 1000000000) (hp : OfP p) (hq : ¬ q < -2) (hq2 : 2 < q) :
    Calls Try.prog 13 #[.agg #[.int .i64 nw, .slice a 2 c], .int .i64 t, .slice oa 2 d] w (CkAns w ⟨3, 0, []⟩) := by
  have N0 : New w ((w.alloc (.cells #[.int .i64 nw, .slice a 2 c] 26)).alloc (.cells #[.int .i64 0, .int .i64 0, .slice none 0 0] 30)) := ((New.refl w).alloc _).alloc _
  have bT0 : Blk ((w.alloc (.cells #[.int .i64 nw, .slice a 2 c] 26)).alloc (.cells #[.int .i64 0, .int .i64 0, .slice none 0 0] 30)) w.heap.size 26 #[.int .i64 nw, .slice a 2 c] := (Blk.mk _ _ _ _ rfl).alloc _
  have bR0 : Blk ((w.alloc (.cells #[.int .i64 nw, .slice a 2 c] 26)).alloc (.cells #[.int .i64 0, .int .i64 0, .slice none 0 0] 30)) (w.heap.size + 1) 30 #[.int .i64 0, .int .i64 0, .slice none 0 0] := Blk.mk _ _ _ _ (by simp)
  have ge1 : w.heap.size ≤ w.heap.size + 1 := by omega
  obtain ⟨⟨h0, h1⟩, x', y', e, ⟨x0, x1, x2⟩, ⟨y0, y1, y2⟩⟩ := ckF_zero hf
  cases e
  obtain ⟨⟨t0, t1⟩, t2⟩ := hz
  have t3 : t ≤ 1000000000 - nw := by omega
  obtain ⟨ob, oo, rfl, -⟩ := ns13 ho
  obtain ⟨p0, p1⟩ := hp
  have d0p : decide (p < -2) = false := decide_eq_false (by omega)
  have d1p : decide (2 < p) = false := decide_eq_false (by omega)
  have wp : IntKind.i64.wrap (nw + t + p) = nw + t + p := by rw [IntKind.wrap_i64]; omega
  have wap : IntKind.i64.wrap (nw + t) = nw + t := by rw [IntKind.wrap_i64]; omega
  have d2 : decide (q < -2) = false := decide_eq_false hq
  go_enter Try.func13, Try.ntmps13
  go_wp2_with fail
  refine (implCkF_is nw a 2 c [x, y] 0 _ (h.new N0) rfl (by omega) hf).mono ?_
  rintro e w1 ⟨rfl, hn1⟩
  have bT1 := bT0.new hn1
  have bR1 := bR0.new hn1
  have N1 := N0.trans hn1
  have cT := bT1.cells
  have lR := bR1.lt
  clear bT0 bR0 N0 hn1 hf
  go_wp2_with fail
  refine (rdOf nw x y a c _ (h.new N1)).mono ?_
  rintro e w2 ⟨rfl, hn2⟩
  have al := (New.refl w2).alloc (.cells #[.int .i64 nw, .int .i64 x, .int .i64 y] 66)
  have bX3 := Blk.mk w2 w2.heap.size 66 #[.int .i64 nw, .int .i64 x, .int .i64 y] rfl
  have bR3 := (bR1.new hn2).new al
  have N3 := (N1.trans hn2).trans al
  have z1 := N1.size
  have z2 := hn2.size
  clear cT bT1 bR1 N1 h
  go_upto_region 9 with fail
  generalize w2.alloc (.cells #[.int .i64 nw, .int .i64 x, .int .i64 y] 66) = w3 at *
  have cX := bX3.cells
  have fX := bX3.frees
  have l2 : w.heap.size + 1 < w2.heap.size := by omega
  go_upto_region 10 with fail
  have bX4 := bX3.set 0 (.int .i64 (nw + t))
  have t4 := (Turn.refl (fun i => i = w2.heap.size) w3).set (p := ⟨w2.heap.size, 0, none⟩) rfl (.int .i64 (nw + t))
  have bR4 := bR3.turn t4 (by omega)
  have N4 := N3.before t4 (by intro i hi e; omega)
  generalize w3.setCell ⟨w2.heap.size, 0, none⟩ (.int .i64 (nw + t)) = w4 at *
  clear cX fX bX3 bR3 N3 t4 al hn2
  go_wp2_with fail
  refine wp_loop_rounds 3 ?_
  rw [rounds_succ]
  obtain ⟨ob', oo', e, cp, cq, -⟩ := ns13 (ho.new N4)
  cases e
  go_upto_region 15 with fail
  clear cp cq
  have c0 := (bX4.new ((New.refl w4).drew)).cells 0
  refine hw_start (n := 16) (S := fun X => Turn (fun i => i = w2.heap.size) w4 X ∧ X.cell? ⟨w2.heap.size, 0, none⟩ = some (.int .i64 (nw + t))) rfl (by kernel_rfl) (⟨((New.refl _).drew).turn, c0⟩) (fun hH => ?_)
  have bX4d := bX4.new ((New.refl w4).drew)
  have bR4d := bR4.new ((New.refl w4).drew)
  have N4d := N4.drew
  generalize w4.drew = w4d at *
  refine' hw_take 0 (some 57) _ rfl rfl (by kernel_rfl) (by kernel_rfl) (by kernel_rfl) (fun _ _ _ h => h) (by rfl) hH ?hy1 ?rest1
  case hy1 =>
    intro X hX
    go_simp
    try rfl
  simp only [Act.put, List.setIfInBounds_toArray, List.set_cons_zero, List.set_cons_succ]
  refine' hw_take 1 (some 58) _ rfl rfl (by kernel_rfl) (by kernel_rfl) (by kernel_rfl) (fun _ _ _ h => h) (by rfl) hH ?hy2 ?rest2
  case hy2 =>
    intro X hX
    go_simp
    try rfl
  simp only [Act.put, List.setIfInBounds_toArray, List.set_cons_zero, List.set_cons_succ]
  refine' hw_take 2 (some 59) _ rfl rfl (by kernel_rfl) (by kernel_rfl) (by kernel_rfl) (fun _ _ _ h => h) (by rfl) hH ?hy3 ?rest3
  case hy3 =>
    intro X hX
    go_simp
    try rfl
  simp only [Act.put, List.setIfInBounds_toArray, List.set_cons_zero, List.set_cons_succ]
  refine' hw_take 3 (some 60) _ rfl rfl (by kernel_rfl) (by kernel_rfl) (by kernel_rfl) (fun _ _ _ h => h) (by rfl) hH ?hy4 ?rest4
  case hy4 =>
    intro X hX
    go_simp
    try rfl
  simp only [Act.put, List.setIfInBounds_toArray, List.set_cons_zero, List.set_cons_succ]
  refine' hw_take 5 (some 62) _ rfl rfl (by kernel_rfl) (by kernel_rfl) (by kernel_rfl) (fun _ _ _ h => h) (by rfl) hH ?hy5 ?rest5
  case hy5 =>
    intro X hX
    go_simp
    try rfl
  simp only [Act.put, List.setIfInBounds_toArray, List.set_cons_zero, List.set_cons_succ]
  refine' hw_take 6 (some 63) _ rfl rfl (by kernel_rfl) (by kernel_rfl) (by kernel_rfl) (fun _ _ _ h => h) (by rfl) hH ?hy6 ?rest6
  case hy6 =>
    intro X hX
    have cX := hX.2
    go_simp
    try rfl
  simp only [Act.put, List.setIfInBounds_toArray, List.set_cons_zero, List.set_cons_succ]
  refine' hw_take 7 (some 64) _ rfl rfl (by kernel_rfl) (by kernel_rfl) (by kernel_rfl) (fun _ _ _ h => h) (by rfl) hH ?hy7 ?rest7
  case hy7 =>
    intro X hX
    go_simp
    try rfl
  simp only [Act.put, List.setIfInBounds_toArray, List.set_cons_zero, List.set_cons_succ]
  refine' hw_take 8 (some 65) _ rfl rfl (by kernel_rfl) (by kernel_rfl) (by kernel_rfl) (fun _ _ _ h => h) (by rfl) hH ?hy8 ?rest8
  case hy8 =>
    intro X hX
    go_simp
    try rfl
  simp only [Act.put, List.setIfInBounds_toArray, List.set_cons_zero, List.set_cons_succ]
  refine' hw_take 9 (some 66) _ rfl rfl (by kernel_rfl) (by kernel_rfl) (by kernel_rfl) (fun _ _ _ h => h) (by rfl) hH ?hy9 ?rest9
  case hy9 =>
    intro X hX
    go_simp
    try rfl
  simp only [Act.put, List.setIfInBounds_toArray, List.set_cons_zero, List.set_cons_succ]
  refine' hw_take 10 (some 67) _ rfl rfl (by kernel_rfl) (by kernel_rfl) (by kernel_rfl) (fun _ _ _ h => h) (by rfl) hH ?hy10 ?rest10
  case hy10 =>
    intro X hX
    obtain ⟨ob', oo', e, cp, cq, -⟩ := ns13 (ho.new (N4.before hX.1 (by intro i hi e; omega)))
    cases e
    go_simp
    try rfl
  simp only [Act.put, List.setIfInBounds_toArray, List.set_cons_zero, List.set_cons_succ]
  refine' hw_take 11 (some 68) _ rfl rfl (by kernel_rfl) (by kernel_rfl) (by kernel_rfl) (fun _ _ _ h => h) (by rfl) hH ?hy11 ?rest11
  case hy11 =>
    intro X hX
    go_simp
    try rfl
  simp only [Act.put, List.setIfInBounds_toArray, List.set_cons_zero, List.set_cons_succ]
  refine' hw_take 13 (some 70) _ rfl rfl (by kernel_rfl) (by kernel_rfl) (by kernel_rfl) (fun _ _ _ h => h) (by rfl) hH ?hy12 ?rest12
  case hy12 =>
    intro X hX
    go_simp
    try rfl
  simp only [Act.put, List.setIfInBounds_toArray, List.set_cons_zero, List.set_cons_succ]
  refine hw_call 4 (some 61) rfl rfl (by kernel_rfl) (by rfl) (fun K hK => ?_)
  have cX := bX4d.cells
  go_simp
  refine hK.out _ _ hH (fun hL => ?_)
  simp only [Act.put, List.setIfInBounds_toArray, List.set_cons_zero, List.set_cons_succ]
  refine' hw_take 12 (some 69) _ rfl rfl (by kernel_rfl) (by kernel_rfl) (by kernel_rfl) (fun _ _ _ h => h) (by rfl) hL ?hy13 ?rest13
  case hy13 =>
    intro X hX
    go_simp
    try rfl
  simp only [Act.put, List.setIfInBounds_toArray, List.set_cons_zero, List.set_cons_succ]
  refine' hw_take 14 (some 71) _ rfl rfl (by kernel_rfl) (by kernel_rfl) (by kernel_rfl) (fun _ _ _ h => h) (by rfl) hL ?hy14 ?rest14
  case hy14 =>
    intro X hX
    go_simp
    try rfl
  simp only [Act.put, List.setIfInBounds_toArray, List.set_cons_zero, List.set_cons_succ]
  refine hw_call 15 none rfl rfl (by kernel_rfl) (by rfl) (fun K hK => ?_)
  have fX := bX4d.frees
  go_simp
  have bX6 := bX4d.set 1 (.int .i64 (max x (nw + t + p)))
  have tq := (Turn.refl (fun i => i = w2.heap.size) w4d).set (p := ⟨w2.heap.size, 1, none⟩) rfl (.int .i64 (max x (nw + t + p)))
  have bR6 := bR4d.turn tq (by omega)
  have N6 := N4d.before tq (by intro i hi e; omega)
  refine hK.out undef _ ⟨Turn.trans hH.1 tq (fun i _ e => e), bX6.cells 0⟩ (fun hA3 => ?_)
  refine wpAnyH_done (by kernel_rfl) ?_ _
  clear hA3 hL hH tq cX fX c0 bX4 bR4 N4 bX4d bR4d N4d
  generalize w4d.setCell ⟨w2.heap.size, 1, none⟩ (.int .i64 (max x (nw + t + p))) = w6 at *
  go_wp2_with fail
  rw [rounds_succ]
  obtain ⟨ob', oo', e, cp, cq, -⟩ := ns13 (ho.new N6)
  cases e
  have cR := bR6.cells
  have fR := bR6.frees
  go_wp2
  refine bodyPost_ret (v := .agg #[.int .i64 3, .int .i64 0, .slice none 0 0]) (by simp [results, Try.results13, go_sem, cR]) rfl ⟨_, rfl, .inl ⟨rfl, rfl⟩, ?_⟩
  simp (disch := exact ge1) only [New.set13, New.drewN_iff, N6]

set_option maxHeartbeats 3200000 in
theorem iTick_ok (nw t x y p q : Int) (a oa : Option Addr) (c d : Nat) (w : World) (h : NsAt w a [x, y]) (ho : NsAt w oa [p, q]) (hf : ckF nw [x, y] = 0) (hz : (0 ≤ t ∧ t ≤ 1000) ∧ nw + t ≤ 1000000000) (hp : OfP p) (hq : OfP q) :
    Calls Try.prog 13 #[.agg #[.int .i64 nw, .slice a 2 c], .int .i64 t, .slice oa 2 d] w (CkAns w ⟨0, nw + t, [max x (nw + t + p), max y (nw + t + q)]⟩) := by
  have N0 : New w ((w.alloc (.cells #[.int .i64 nw, .slice a 2 c] 26)).alloc (.cells #[.int .i64 0, .int .i64 0, .slice none 0 0] 30)) := ((New.refl w).alloc _).alloc _
  have bT0 : Blk ((w.alloc (.cells #[.int .i64 nw, .slice a 2 c] 26)).alloc (.cells #[.int .i64 0, .int .i64 0, .slice none 0 0] 30)) w.heap.size 26 #[.int .i64 nw, .slice a 2 c] := (Blk.mk _ _ _ _ rfl).alloc _
  have bR0 : Blk ((w.alloc (.cells #[.int .i64 nw, .slice a 2 c] 26)).alloc (.cells #[.int .i64 0, .int .i64 0, .slice none 0 0] 30)) (w.heap.size + 1) 30 #[.int .i64 0, .int .i64 0, .slice none 0 0] := Blk.mk _ _ _ _ (by simp)
  have ge1 : w.heap.size ≤ w.heap.size + 1 := by omega
  obtain ⟨⟨h0, h1⟩, x', y', e, ⟨x0, x1, x2⟩, ⟨y0, y1, y2⟩⟩ := ckF_zero hf
  cases e
  obtain ⟨⟨t0, t1⟩, t2⟩ := hz
  have t3 : t ≤ 1000000000 - nw := by omega
  obtain ⟨ob, oo, rfl, -⟩ := ns13 ho
  obtain ⟨p0, p1⟩ := hp
  have d0p : decide (p < -2) = false := decide_eq_false (by omega)
  have d1p : decide (2 < p) = false := decide_eq_false (by omega)
  have wp : IntKind.i64.wrap (nw + t + p) = nw + t + p := by rw [IntKind.wrap_i64]; omega
  have wap : IntKind.i64.wrap (nw + t) = nw + t := by rw [IntKind.wrap_i64]; omega
  obtain ⟨q0, q1⟩ := hq
  have d0q : decide (q < -2) = false := decide_eq_false (by omega)
  have d1q : decide (2 < q) = false := decide_eq_false (by omega)
  have wq : IntKind.i64.wrap (nw + t + q) = nw + t + q := by rw [IntKind.wrap_i64]; omega
  have waq : IntKind.i64.wrap (nw + t) = nw + t := by rw [IntKind.wrap_i64]; omega
  go_enter Try.func13, Try.ntmps13
  go_wp2_with fail
  refine (implCkF_is nw a 2 c [x, y] 0 _ (h.new N0) rfl (by omega) hf).mono ?_
  rintro e w1 ⟨rfl, hn1⟩
  have bT1 := bT0.new hn1
  have bR1 := bR0.new hn1
  have N1 := N0.trans hn1
  have cT := bT1.cells
  have lR := bR1.lt
  clear bT0 bR0 N0 hn1 hf
  go_wp2_with fail
  refine (rdOf nw x y a c _ (h.new N1)).mono ?_
  rintro e w2 ⟨rfl, hn2⟩
  have al := (New.refl w2).alloc (.cells #[.int .i64 nw, .int .i64 x, .int .i64 y] 66)
  have bX3 := Blk.mk w2 w2.heap.size 66 #[.int .i64 nw, .int .i64 x, .int .i64 y] rfl
  have bR3 := (bR1.new hn2).new al
  have N3 := (N1.trans hn2).trans al
  have z1 := N1.size
  have z2 := hn2.size
  clear cT bT1 bR1 N1 h
  go_upto_region 9 with fail
  generalize w2.alloc (.cells #[.int .i64 nw, .int .i64 x, .int .i64 y] 66) = w3 at *
  have cX := bX3.cells
  have fX := bX3.frees
  have l2 : w.heap.size + 1 < w2.heap.size := by omega
  go_upto_region 10 with fail
  have bX4 := bX3.set 0 (.int .i64 (nw + t))
  have t4 := (Turn.refl (fun i => i = w2.heap.size) w3).set (p := ⟨w2.heap.size, 0, none⟩) rfl (.int .i64 (nw + t))
  have bR4 := bR3.turn t4 (by omega)
  have N4 := N3.before t4 (by intro i hi e; omega)
  generalize w3.setCell ⟨w2.heap.size, 0, none⟩ (.int .i64 (nw + t)) = w4 at *
  clear cX fX bX3 bR3 N3 t4 al hn2
  go_wp2_with fail
  refine wp_loop_rounds 3 ?_
  rw [rounds_succ]
  obtain ⟨ob', oo', e, cp, cq, -⟩ := ns13 (ho.new N4)
  cases e
  go_upto_region 15 with fail
  clear cp cq
  have c0 := (bX4.new ((New.refl w4).drew)).cells 0
  refine hw_start (n := 16) (S := fun X => Turn (fun i => i = w2.heap.size) w4 X ∧ X.cell? ⟨w2.heap.size, 0, none⟩ = some (.int .i64 (nw + t))) rfl (by kernel_rfl) (⟨((New.refl _).drew).turn, c0⟩) (fun hH => ?_)
  have bX4d := bX4.new ((New.refl w4).drew)
  have bR4d := bR4.new ((New.refl w4).drew)
  have N4d := N4.drew
  generalize w4.drew = w4d at *
  refine' hw_take 0 (some 57) _ rfl rfl (by kernel_rfl) (by kernel_rfl) (by kernel_rfl) (fun _ _ _ h => h) (by rfl) hH ?hy1 ?rest1
  case hy1 =>
    intro X hX
    go_simp
    try rfl
  simp only [Act.put, List.setIfInBounds_toArray, List.set_cons_zero, List.set_cons_succ]
  refine' hw_take 1 (some 58) _ rfl rfl (by kernel_rfl) (by kernel_rfl) (by kernel_rfl) (fun _ _ _ h => h) (by rfl) hH ?hy2 ?rest2
  case hy2 =>
    intro X hX
    go_simp
    try rfl
  simp only [Act.put, List.setIfInBounds_toArray, List.set_cons_zero, List.set_cons_succ]
  refine' hw_take 2 (some 59) _ rfl rfl (by kernel_rfl) (by kernel_rfl) (by kernel_rfl) (fun _ _ _ h => h) (by rfl) hH ?hy3 ?rest3
  case hy3 =>
    intro X hX
    go_simp
    try rfl
  simp only [Act.put, List.setIfInBounds_toArray, List.set_cons_zero, List.set_cons_succ]
  refine' hw_take 3 (some 60) _ rfl rfl (by kernel_rfl) (by kernel_rfl) (by kernel_rfl) (fun _ _ _ h => h) (by rfl) hH ?hy4 ?rest4
  case hy4 =>
    intro X hX
    go_simp
    try rfl
  simp only [Act.put, List.setIfInBounds_toArray, List.set_cons_zero, List.set_cons_succ]
  refine' hw_take 5 (some 62) _ rfl rfl (by kernel_rfl) (by kernel_rfl) (by kernel_rfl) (fun _ _ _ h => h) (by rfl) hH ?hy5 ?rest5
  case hy5 =>
    intro X hX
    go_simp
    try rfl
  simp only [Act.put, List.setIfInBounds_toArray, List.set_cons_zero, List.set_cons_succ]
  refine' hw_take 6 (some 63) _ rfl rfl (by kernel_rfl) (by kernel_rfl) (by kernel_rfl) (fun _ _ _ h => h) (by rfl) hH ?hy6 ?rest6
  case hy6 =>
    intro X hX
    have cX := hX.2
    go_simp
    try rfl
  simp only [Act.put, List.setIfInBounds_toArray, List.set_cons_zero, List.set_cons_succ]
  refine' hw_take 7 (some 64) _ rfl rfl (by kernel_rfl) (by kernel_rfl) (by kernel_rfl) (fun _ _ _ h => h) (by rfl) hH ?hy7 ?rest7
  case hy7 =>
    intro X hX
    go_simp
    try rfl
  simp only [Act.put, List.setIfInBounds_toArray, List.set_cons_zero, List.set_cons_succ]
  refine' hw_take 8 (some 65) _ rfl rfl (by kernel_rfl) (by kernel_rfl) (by kernel_rfl) (fun _ _ _ h => h) (by rfl) hH ?hy8 ?rest8
  case hy8 =>
    intro X hX
    go_simp
    try rfl
  simp only [Act.put, List.setIfInBounds_toArray, List.set_cons_zero, List.set_cons_succ]
  refine' hw_take 9 (some 66) _ rfl rfl (by kernel_rfl) (by kernel_rfl) (by kernel_rfl) (fun _ _ _ h => h) (by rfl) hH ?hy9 ?rest9
  case hy9 =>
    intro X hX
    go_simp
    try rfl
  simp only [Act.put, List.setIfInBounds_toArray, List.set_cons_zero, List.set_cons_succ]
  refine' hw_take 10 (some 67) _ rfl rfl (by kernel_rfl) (by kernel_rfl) (by kernel_rfl) (fun _ _ _ h => h) (by rfl) hH ?hy10 ?rest10
  case hy10 =>
    intro X hX
    obtain ⟨ob', oo', e, cp, cq, -⟩ := ns13 (ho.new (N4.before hX.1 (by intro i hi e; omega)))
    cases e
    go_simp
    try rfl
  simp only [Act.put, List.setIfInBounds_toArray, List.set_cons_zero, List.set_cons_succ]
  refine' hw_take 11 (some 68) _ rfl rfl (by kernel_rfl) (by kernel_rfl) (by kernel_rfl) (fun _ _ _ h => h) (by rfl) hH ?hy11 ?rest11
  case hy11 =>
    intro X hX
    go_simp
    try rfl
  simp only [Act.put, List.setIfInBounds_toArray, List.set_cons_zero, List.set_cons_succ]
  refine' hw_take 13 (some 70) _ rfl rfl (by kernel_rfl) (by kernel_rfl) (by kernel_rfl) (fun _ _ _ h => h) (by rfl) hH ?hy12 ?rest12
  case hy12 =>
    intro X hX
    go_simp
    try rfl
  simp only [Act.put, List.setIfInBounds_toArray, List.set_cons_zero, List.set_cons_succ]
  refine hw_call 4 (some 61) rfl rfl (by kernel_rfl) (by rfl) (fun K hK => ?_)
  have cX := bX4d.cells
  go_simp
  refine hK.out _ _ hH (fun hL => ?_)
  simp only [Act.put, List.setIfInBounds_toArray, List.set_cons_zero, List.set_cons_succ]
  refine' hw_take 12 (some 69) _ rfl rfl (by kernel_rfl) (by kernel_rfl) (by kernel_rfl) (fun _ _ _ h => h) (by rfl) hL ?hy13 ?rest13
  case hy13 =>
    intro X hX
    go_simp
    try rfl
  simp only [Act.put, List.setIfInBounds_toArray, List.set_cons_zero, List.set_cons_succ]
  refine' hw_take 14 (some 71) _ rfl rfl (by kernel_rfl) (by kernel_rfl) (by kernel_rfl) (fun _ _ _ h => h) (by rfl) hL ?hy14 ?rest14
  case hy14 =>
    intro X hX
    go_simp
    try rfl
  simp only [Act.put, List.setIfInBounds_toArray, List.set_cons_zero, List.set_cons_succ]
  refine hw_call 15 none rfl rfl (by kernel_rfl) (by rfl) (fun K hK => ?_)
  have fX := bX4d.frees
  go_simp
  have bX6 := bX4d.set 1 (.int .i64 (max x (nw + t + p)))
  have tq := (Turn.refl (fun i => i = w2.heap.size) w4d).set (p := ⟨w2.heap.size, 1, none⟩) rfl (.int .i64 (max x (nw + t + p)))
  have bR6 := bR4d.turn tq (by omega)
  have N6 := N4d.before tq (by intro i hi e; omega)
  refine hK.out undef _ ⟨Turn.trans hH.1 tq (fun i _ e => e), bX6.cells 0⟩ (fun hA3 => ?_)
  refine wpAnyH_done (by kernel_rfl) ?_ _
  clear hA3 hL hH tq cX fX c0 bX4 bR4 N4 bX4d bR4d N4d
  generalize w4d.setCell ⟨w2.heap.size, 1, none⟩ (.int .i64 (max x (nw + t + p))) = w6 at *
  go_wp2_with fail
  rw [rounds_succ]
  obtain ⟨ob', oo', e, cp, cq, -⟩ := ns13 (ho.new N6)
  cases e
  go_upto_region 15 with fail
  clear cp cq
  have c0 := (bX6.new ((New.refl w6).drew)).cells 0
  refine hw_start (n := 16) (S := fun X => Turn (fun i => i = w2.heap.size) w6 X ∧ X.cell? ⟨w2.heap.size, 0, none⟩ = some (.int .i64 (nw + t))) rfl (by kernel_rfl) (⟨((New.refl _).drew).turn, c0⟩) (fun hH => ?_)
  have bX6d := bX6.new ((New.refl w6).drew)
  have bR6d := bR6.new ((New.refl w6).drew)
  have N6d := N6.drew
  generalize w6.drew = w6d at *
  refine' hw_take 0 (some 57) _ rfl rfl (by kernel_rfl) (by kernel_rfl) (by kernel_rfl) (fun _ _ _ h => h) (by rfl) hH ?hy15 ?rest15
  case hy15 =>
    intro X hX
    go_simp
    try rfl
  simp only [Act.put, List.setIfInBounds_toArray, List.set_cons_zero, List.set_cons_succ]
  refine' hw_take 1 (some 58) _ rfl rfl (by kernel_rfl) (by kernel_rfl) (by kernel_rfl) (fun _ _ _ h => h) (by rfl) hH ?hy16 ?rest16
  case hy16 =>
    intro X hX
    go_simp
    try rfl
  simp only [Act.put, List.setIfInBounds_toArray, List.set_cons_zero, List.set_cons_succ]
  refine' hw_take 2 (some 59) _ rfl rfl (by kernel_rfl) (by kernel_rfl) (by kernel_rfl) (fun _ _ _ h => h) (by rfl) hH ?hy17 ?rest17
  case hy17 =>
    intro X hX
    go_simp
    try rfl
  simp only [Act.put, List.setIfInBounds_toArray, List.set_cons_zero, List.set_cons_succ]
  refine' hw_take 3 (some 60) _ rfl rfl (by kernel_rfl) (by kernel_rfl) (by kernel_rfl) (fun _ _ _ h => h) (by rfl) hH ?hy18 ?rest18
  case hy18 =>
    intro X hX
    go_simp
    try rfl
  simp only [Act.put, List.setIfInBounds_toArray, List.set_cons_zero, List.set_cons_succ]
  refine' hw_take 5 (some 62) _ rfl rfl (by kernel_rfl) (by kernel_rfl) (by kernel_rfl) (fun _ _ _ h => h) (by rfl) hH ?hy19 ?rest19
  case hy19 =>
    intro X hX
    go_simp
    try rfl
  simp only [Act.put, List.setIfInBounds_toArray, List.set_cons_zero, List.set_cons_succ]
  refine' hw_take 6 (some 63) _ rfl rfl (by kernel_rfl) (by kernel_rfl) (by kernel_rfl) (fun _ _ _ h => h) (by rfl) hH ?hy20 ?rest20
  case hy20 =>
    intro X hX
    have cX := hX.2
    go_simp
    try rfl
  simp only [Act.put, List.setIfInBounds_toArray, List.set_cons_zero, List.set_cons_succ]
  refine' hw_take 7 (some 64) _ rfl rfl (by kernel_rfl) (by kernel_rfl) (by kernel_rfl) (fun _ _ _ h => h) (by rfl) hH ?hy21 ?rest21
  case hy21 =>
    intro X hX
    go_simp
    try rfl
  simp only [Act.put, List.setIfInBounds_toArray, List.set_cons_zero, List.set_cons_succ]
  refine' hw_take 8 (some 65) _ rfl rfl (by kernel_rfl) (by kernel_rfl) (by kernel_rfl) (fun _ _ _ h => h) (by rfl) hH ?hy22 ?rest22
  case hy22 =>
    intro X hX
    go_simp
    try rfl
  simp only [Act.put, List.setIfInBounds_toArray, List.set_cons_zero, List.set_cons_succ]
  refine' hw_take 9 (some 66) _ rfl rfl (by kernel_rfl) (by kernel_rfl) (by kernel_rfl) (fun _ _ _ h => h) (by rfl) hH ?hy23 ?rest23
  case hy23 =>
    intro X hX
    go_simp
    try rfl
  simp only [Act.put, List.setIfInBounds_toArray, List.set_cons_zero, List.set_cons_succ]
  refine' hw_take 10 (some 67) _ rfl rfl (by kernel_rfl) (by kernel_rfl) (by kernel_rfl) (fun _ _ _ h => h) (by rfl) hH ?hy24 ?rest24
  case hy24 =>
    intro X hX
    obtain ⟨ob', oo', e, cp, cq, -⟩ := ns13 (ho.new (N6.before hX.1 (by intro i hi e; omega)))
    cases e
    go_simp
    try rfl
  simp only [Act.put, List.setIfInBounds_toArray, List.set_cons_zero, List.set_cons_succ]
  refine' hw_take 11 (some 68) _ rfl rfl (by kernel_rfl) (by kernel_rfl) (by kernel_rfl) (fun _ _ _ h => h) (by rfl) hH ?hy25 ?rest25
  case hy25 =>
    intro X hX
    go_simp
    try rfl
  simp only [Act.put, List.setIfInBounds_toArray, List.set_cons_zero, List.set_cons_succ]
  refine' hw_take 13 (some 70) _ rfl rfl (by kernel_rfl) (by kernel_rfl) (by kernel_rfl) (fun _ _ _ h => h) (by rfl) hH ?hy26 ?rest26
  case hy26 =>
    intro X hX
    go_simp
    try rfl
  simp only [Act.put, List.setIfInBounds_toArray, List.set_cons_zero, List.set_cons_succ]
  refine hw_call 4 (some 61) rfl rfl (by kernel_rfl) (by rfl) (fun K hK => ?_)
  have cX := bX6d.cells
  go_simp
  refine hK.out _ _ hH (fun hL => ?_)
  simp only [Act.put, List.setIfInBounds_toArray, List.set_cons_zero, List.set_cons_succ]
  refine' hw_take 12 (some 69) _ rfl rfl (by kernel_rfl) (by kernel_rfl) (by kernel_rfl) (fun _ _ _ h => h) (by rfl) hL ?hy27 ?rest27
  case hy27 =>
    intro X hX
    go_simp
    try rfl
  simp only [Act.put, List.setIfInBounds_toArray, List.set_cons_zero, List.set_cons_succ]
  refine' hw_take 14 (some 71) _ rfl rfl (by kernel_rfl) (by kernel_rfl) (by kernel_rfl) (fun _ _ _ h => h) (by rfl) hL ?hy28 ?rest28
  case hy28 =>
    intro X hX
    go_simp
    try rfl
  simp only [Act.put, List.setIfInBounds_toArray, List.set_cons_zero, List.set_cons_succ]
  refine hw_call 15 none rfl rfl (by kernel_rfl) (by rfl) (fun K hK => ?_)
  have fX := bX6d.frees
  go_simp
  have bX8 := bX6d.set 2 (.int .i64 (max y (nw + t + q)))
  have tq := (Turn.refl (fun i => i = w2.heap.size) w6d).set (p := ⟨w2.heap.size, 2, none⟩) rfl (.int .i64 (max y (nw + t + q)))
  have bR8 := bR6d.turn tq (by omega)
  have N8 := N6d.before tq (by intro i hi e; omega)
  refine hK.out undef _ ⟨Turn.trans hH.1 tq (fun i _ e => e), bX8.cells 0⟩ (fun hA3 => ?_)
  refine wpAnyH_done (by kernel_rfl) ?_ _
  clear hA3 hL hH tq cX fX c0 bX6 bR6 N6 bX6d bR6d N6d
  generalize w6d.setCell ⟨w2.heap.size, 2, none⟩ (.int .i64 (max y (nw + t + q))) = w8 at *
  go_wp2_with fail
  rw [rounds_succ]
  have cX := bX8.cells
  go_wp2_with fail
  refine (clkOf (nw + t) (max x (nw + t + p)) (max y (nw + t + q)) _).mono ?_
  rintro e w9 ⟨g, k, rfl, hg, hog, hn9⟩
  have bR9 := bR8.new hn9
  have N9 := N8.trans hn9
  have cR := bR9.cells
  have fR := bR9.frees
  have lR9 := bR9.lt
  have z8 := N8.size
  have gR : ¬ w.heap.size + 1 = g := Blk.ne_own bR9 hog (by decide)
  clear cX bX8 bR8 N8
  go_wp2
  refine bodyPost_ret (v := .agg #[.int .i64 0, .int .i64 (nw + t), .slice (some ⟨g, 0, none⟩) 2 k]) (by simp [results, Try.results13, go_sem, cR]) rfl ⟨_, rfl, .inr ⟨g, k, rfl, by omega, ?_⟩, ?_⟩
  · simp (disch := exact gR) only [OwN.set_iff]
    exact hog
  · simp (disch := exact ge1) only [New.set13, N9]

theorem implTi (nw t : Int) (a oa : Option Addr) (n c m d : Nat) (xs os : List Int) (w : World) (h : NsAt w a xs) (hn : xs.length = n) (hm : n ≤ 1048576) (ho : NsAt w oa os) (hl : os.length = m) (hk : m ≤ 1048576) :
    Calls Try.prog 13 #[.agg #[.int .i64 nw, .slice a n c], .int .i64 t, .slice oa m d] w (CkAns w (tiR nw xs t os)) := by
  by_cases hf : ckF nw xs = 0
  case neg => rw [ti_bad rfl hf]; exact iTick_f nw t a oa n c m d xs os w h hn hm ho hl hk _ rfl hf
  by_cases hz : (0 ≤ t ∧ t ≤ 1000) ∧ nw + t ≤ 1000000000
  case neg => rw [ti_by hf hz]; exact iTick_b nw t a oa n c m d xs os w h hn hm ho hl hk hf hz
  obtain ⟨-, x, y, rfl, -, -⟩ := ckF_zero hf
  by_cases hx : m = 2
  case neg => rw [ti_form hf hz (by omega)]; exact iTick_m nw t a oa n c m d _ os w h hn hm ho hl hk hf hz hx
  subst hx
  obtain ⟨p, q, rfl⟩ := two13 hl
  cases hn
  by_cases hp : OfP p
  case neg =>
    rw [ti_off hf hz (fun k => hp k.1)]
    by_cases h1 : p < -2
    · exact iTick_p nw t x y p q a oa c d w h ho hf hz h1
    · exact iTick_P nw t x y p q a oa c d w h ho hf hz h1 (d13 hp h1)
  by_cases hq : OfP q
  case neg =>
    rw [ti_off hf hz (fun k => hq k.2)]
    by_cases h1 : q < -2
    · exact iTick_q nw t x y p q a oa c d w h ho hf hz hp h1
    · exact iTick_Q nw t x y p q a oa c d w h ho hf hz hp h1 (d13 hq h1)
  rw [ti_ok hf hz ⟨hp, hq⟩]
  exact iTick_ok nw t x y p q a oa c d w h ho hf hz hp hq

end Go.Proofs.Ytpbmbnckdmjdhaa
