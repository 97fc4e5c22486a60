/- What is proved here: what the model's TickClock answers, for lists of at most 1048576 numbers. -/
import Derived.Test.YtpbmbnckdmjdhaaC13Ts
import Derived.Deep.CutRange
namespace Go.Proofs.Ytpbmbnckdmjdhaa
open Go.RowKit
set_option linter.unusedVariables false
set_option linter.unusedSimpArgs false
set_option maxRecDepth 100000

set_option maxHeartbeats 6400000 in
theorem sTick_p (nw t x y p q : Int) (a oa : Option Addr) (c d : Nat) (w : World) (h : NsAt w a [x, y]) (ho : NsAt w oa [p, q]) (hf : ckF nw [x, y] = 0) (hz : (0 ≤ t ∧ t ≤ 1000) ∧ nw + t ≤ 1000000000) (hp : ¬ OfP p) :
    Calls Try.prog 25 #[.agg #[.int .i64 nw, .slice a 2 c], .int .i64 t, .slice oa 2 d] w (CkAns w ⟨3, 0, []⟩) := by
  have N0 : New w ((w.alloc (.cells #[.int .i64 nw, .slice a 2 c] 26)).alloc (.cells #[.int .i64 0, .int .i64 0, .slice none 0 0] 30)) := ((New.refl w).alloc _).alloc _
  have bT0 : Blk ((w.alloc (.cells #[.int .i64 nw, .slice a 2 c] 26)).alloc (.cells #[.int .i64 0, .int .i64 0, .slice none 0 0] 30)) w.heap.size 26 #[.int .i64 nw, .slice a 2 c] := (Blk.mk _ _ _ _ rfl).alloc _
  have bR0 : Blk ((w.alloc (.cells #[.int .i64 nw, .slice a 2 c] 26)).alloc (.cells #[.int .i64 0, .int .i64 0, .slice none 0 0] 30)) (w.heap.size + 1) 30 #[.int .i64 0, .int .i64 0, .slice none 0 0] := Blk.mk _ _ _ _ (by simp)
  have ge1 : w.heap.size ≤ w.heap.size + 1 := by omega
  obtain ⟨⟨h0, h1⟩, x', y', e, ⟨x0, x1, x2⟩, ⟨y0, y1, y2⟩⟩ := ckF_zero hf
  cases e
  obtain ⟨g0, t2⟩ := hz
  have t0 := g0.1
  have t1 := g0.2
  obtain ⟨ob, oo, rfl, -⟩ := ns13 ho
  obtain ⟨ib, io, rfl, -⟩ := ns13 h
  go_enter Try.func25, Try.ntmps25
  go_wp2_with fail
  refine (specCkF_is nw (some ⟨ib, io, none⟩) 2 c [x, y] 0 _ (h.new N0) rfl (by omega) hf).mono ?_
  rintro e w1 ⟨rfl, hn1⟩
  have bT1 := bT0.new hn1
  have bR1 := bR0.new hn1
  have N1 := N0.trans hn1
  have cT := bT1.cells
  have lR := bR1.lt
  clear bT0 bR0 N0 hn1 hf
  go_wp2_with fail
  refine (in_yes _ _ _ _ g0).mono ?_
  rintro e wz ⟨rfl, hwz⟩
  obtain rfl := hwz.symm
  have al := (New.refl w1).alloc (.cells #[.int .i64 (nw + t), .slice none 0 0] 26)
  have bX4 := Blk.mk w1 w1.heap.size 26 #[.int .i64 (nw + t), .slice none 0 0] rfl
  have bR4 := bR1.new al
  have bT4 := bT1.new al
  have N4 := N1.trans al
  have z1 := N1.size
  have l2 : w.heap.size + 1 < w1.heap.size := by omega
  clear bT1 bR1 N1
  go_upto_region 9 with fail
  generalize w1.alloc (.cells #[.int .i64 (nw + t), .slice none 0 0] 26) = w4 at *
  clear cT al
  go_wp2_with fail
  refine wp_loop_rounds 3 ?_
  rw [rounds_succ]
  obtain ⟨ob', oo', e, cp, cq, -⟩ := ns13 (ho.new N4)
  cases e
  go_wp2_with fail
  refine (sin13_no _ _ _ _ hp).mono ?_
  rintro e wz ⟨rfl, hwz⟩
  obtain rfl := hwz.symm
  have cR := bR4.cells
  have fR := bR4.frees
  have lR4 := bR4.lt
  go_wp2
  refine bodyPost_ret (v := .agg #[.int .i64 3, .int .i64 0, .slice none 0 0]) (by simp [results, Try.results25, go_sem, cR]) rfl ⟨_, rfl, .inl ⟨rfl, rfl⟩, ?_⟩
  simp (disch := exact ge1) only [New.set13, New.drewN_iff, N4]

set_option maxHeartbeats 6400000 in
theorem sTick_q (nw t x y p q : Int) (a oa : Option Addr) (c d : Nat) (w : World) (h : NsAt w a [x, y]) (ho : NsAt w oa [p, q]) (hf : ckF nw [x, y] = 0) (hz : (0 ≤ t ∧ t ≤ 1000) ∧ nw + t ≤ 1000000000) (hp : OfP p) (hq : ¬ OfP q) :
    Calls Try.prog 25 #[.agg #[.int .i64 nw, .slice a 2 c], .int .i64 t, .slice oa 2 d] w (CkAns w ⟨3, 0, []⟩) := by
  have N0 : New w ((w.alloc (.cells #[.int .i64 nw, .slice a 2 c] 26)).alloc (.cells #[.int .i64 0, .int .i64 0, .slice none 0 0] 30)) := ((New.refl w).alloc _).alloc _
  have bT0 : Blk ((w.alloc (.cells #[.int .i64 nw, .slice a 2 c] 26)).alloc (.cells #[.int .i64 0, .int .i64 0, .slice none 0 0] 30)) w.heap.size 26 #[.int .i64 nw, .slice a 2 c] := (Blk.mk _ _ _ _ rfl).alloc _
  have bR0 : Blk ((w.alloc (.cells #[.int .i64 nw, .slice a 2 c] 26)).alloc (.cells #[.int .i64 0, .int .i64 0, .slice none 0 0] 30)) (w.heap.size + 1) 30 #[.int .i64 0, .int .i64 0, .slice none 0 0] := Blk.mk _ _ _ _ (by simp)
  have ge1 : w.heap.size ≤ w.heap.size + 1 := by omega
  obtain ⟨⟨h0, h1⟩, x', y', e, ⟨x0, x1, x2⟩, ⟨y0, y1, y2⟩⟩ := ckF_zero hf
  cases e
  obtain ⟨g0, t2⟩ := hz
  have t0 := g0.1
  have t1 := g0.2
  obtain ⟨ob, oo, rfl, -⟩ := ns13 ho
  obtain ⟨ib, io, rfl, -⟩ := ns13 h
  have wp : IntKind.i64.wrap (nw + t + p) = nw + t + p := by rw [IntKind.wrap_i64]; have := hp.1; have := hp.2; omega
  have HMp : Hid (max x (max 0 (nw + t + p)) = max x (nw + t + p)) := by show max x (max 0 (nw + t + p)) = max x (nw + t + p); omega
  go_enter Try.func25, Try.ntmps25
  go_wp2_with fail
  refine (specCkF_is nw (some ⟨ib, io, none⟩) 2 c [x, y] 0 _ (h.new N0) rfl (by omega) hf).mono ?_
  rintro e w1 ⟨rfl, hn1⟩
  have bT1 := bT0.new hn1
  have bR1 := bR0.new hn1
  have N1 := N0.trans hn1
  have cT := bT1.cells
  have lR := bR1.lt
  clear bT0 bR0 N0 hn1 hf
  go_wp2_with fail
  refine (in_yes _ _ _ _ g0).mono ?_
  rintro e wz ⟨rfl, hwz⟩
  obtain rfl := hwz.symm
  have al := (New.refl w1).alloc (.cells #[.int .i64 (nw + t), .slice none 0 0] 26)
  have bX4 := Blk.mk w1 w1.heap.size 26 #[.int .i64 (nw + t), .slice none 0 0] rfl
  have bR4 := bR1.new al
  have bT4 := bT1.new al
  have N4 := N1.trans al
  have z1 := N1.size
  have l2 : w.heap.size + 1 < w1.heap.size := by omega
  clear bT1 bR1 N1
  go_upto_region 9 with fail
  generalize w1.alloc (.cells #[.int .i64 (nw + t), .slice none 0 0] 26) = w4 at *
  clear cT al
  go_wp2_with fail
  refine wp_loop_rounds 3 ?_
  rw [rounds_succ]
  obtain ⟨ob', oo', e, cp, cq, -⟩ := ns13 (ho.new N4)
  cases e
  go_wp2_with fail
  refine (in_yes _ _ _ _ hp).mono ?_
  rintro e wz ⟨rfl, hwz⟩
  obtain rfl := hwz.symm
  go_upto_region 14 with fail
  clear cp cq
  have c0 := (bX4.new ((New.refl w4).drew)).cells 0
  refine hw_start (n := 20) (S := fun X => Turn (fun i => i = w1.heap.size) w4 X ∧ X.cell? ⟨w1.heap.size, 0, none⟩ = some (.int .i64 (nw + t))) rfl (by kernel_rfl) (⟨((New.refl _).drew).turn, c0⟩) (fun hH => ?_)
  have bXd := bX4.new ((New.refl w4).drew)
  have bRd := bR4.new ((New.refl w4).drew)
  have bTd := bT4.new ((New.refl w4).drew)
  have Nd := N4.drew
  have zd := bXd.lt
  generalize w4.drew = wd at *
  refine' hw_take 0 (some 47) _ rfl rfl (by kernel_rfl) (by kernel_rfl) (by kernel_rfl) (fun _ _ _ h => h) (by rfl) hH ?hy1 ?rest1
  case hy1 =>
    intro X hX
    go_simp
    try rfl
  simp only [Act.put, List.setIfInBounds_toArray, List.set_cons_zero, List.set_cons_succ]
  refine' hw_take 2 (some 49) _ rfl rfl (by kernel_rfl) (by kernel_rfl) (by kernel_rfl) (fun _ _ _ h => h) (by rfl) hH ?hy2 ?rest2
  case hy2 =>
    intro X hX
    go_simp
    try rfl
  simp only [Act.put, List.setIfInBounds_toArray, List.set_cons_zero, List.set_cons_succ]
  refine' hw_take 3 (some 50) _ rfl rfl (by kernel_rfl) (by kernel_rfl) (by kernel_rfl) (fun _ _ _ h => h) (by rfl) hH ?hy3 ?rest3
  case hy3 =>
    intro X hX
    have cT := (bT4.turn hX.1 (by omega)).cells
    go_simp
    try rfl
  simp only [Act.put, List.setIfInBounds_toArray, List.set_cons_zero, List.set_cons_succ]
  refine' hw_take 4 (some 51) _ rfl rfl (by kernel_rfl) (by kernel_rfl) (by kernel_rfl) (fun _ _ _ h => h) (by rfl) hH ?hy4 ?rest4
  case hy4 =>
    intro X hX
    go_simp
    try rfl
  simp only [Act.put, List.setIfInBounds_toArray, List.set_cons_zero, List.set_cons_succ]
  refine' hw_take 5 (some 52) _ rfl rfl (by kernel_rfl) (by kernel_rfl) (by kernel_rfl) (fun _ _ _ h => h) (by rfl) hH ?hy5 ?rest5
  case hy5 =>
    intro X hX
    go_simp
    try rfl
  simp only [Act.put, List.setIfInBounds_toArray, List.set_cons_zero, List.set_cons_succ]
  refine' hw_take 6 (some 53) _ rfl rfl (by kernel_rfl) (by kernel_rfl) (by kernel_rfl) (fun _ _ _ h => h) (by rfl) hH ?hy6 ?rest6
  case hy6 =>
    intro X hX
    obtain ⟨ib', io', e, cx, cy, -⟩ := ns13 (h.new (N4.before hX.1 (by intro i hi e; omega)))
    cases e
    go_simp
    try rfl
  simp only [Act.put, List.setIfInBounds_toArray, List.set_cons_zero, List.set_cons_succ]
  refine' hw_take 7 (some 54) _ rfl rfl (by kernel_rfl) (by kernel_rfl) (by kernel_rfl) (fun _ _ _ h => h) (by rfl) hH ?hy7 ?rest7
  case hy7 =>
    intro X hX
    go_simp
    try rfl
  simp only [Act.put, List.setIfInBounds_toArray, List.set_cons_zero, List.set_cons_succ]
  refine' hw_take 8 (some 55) _ rfl rfl (by kernel_rfl) (by kernel_rfl) (by kernel_rfl) (fun _ _ _ h => h) (by rfl) hH ?hy8 ?rest8
  case hy8 =>
    intro X hX
    have cX := hX.2
    go_simp
    try rfl
  simp only [Act.put, List.setIfInBounds_toArray, List.set_cons_zero, List.set_cons_succ]
  refine' hw_take 9 (some 56) _ rfl rfl (by kernel_rfl) (by kernel_rfl) (by kernel_rfl) (fun _ _ _ h => h) (by rfl) hH ?hy9 ?rest9
  case hy9 =>
    intro X hX
    go_simp
    try rfl
  simp only [Act.put, List.setIfInBounds_toArray, List.set_cons_zero, List.set_cons_succ]
  refine' hw_take 10 (some 57) _ rfl rfl (by kernel_rfl) (by kernel_rfl) (by kernel_rfl) (fun _ _ _ h => h) (by rfl) hH ?hy10 ?rest10
  case hy10 =>
    intro X hX
    go_simp
    try rfl
  simp only [Act.put, List.setIfInBounds_toArray, List.set_cons_zero, List.set_cons_succ]
  refine' hw_take 11 (some 58) _ rfl rfl (by kernel_rfl) (by kernel_rfl) (by kernel_rfl) (fun _ _ _ h => h) (by rfl) hH ?hy11 ?rest11
  case hy11 =>
    intro X hX
    go_simp
    try rfl
  simp only [Act.put, List.setIfInBounds_toArray, List.set_cons_zero, List.set_cons_succ]
  refine' hw_take 12 (some 59) _ rfl rfl (by kernel_rfl) (by kernel_rfl) (by kernel_rfl) (fun _ _ _ h => h) (by rfl) hH ?hy12 ?rest12
  case hy12 =>
    intro X hX
    obtain ⟨ob', oo', e, cp, cq, -⟩ := ns13 (ho.new (N4.before hX.1 (by intro i hi e; omega)))
    cases e
    go_simp
    try rfl
  simp only [Act.put, List.setIfInBounds_toArray, List.set_cons_zero, List.set_cons_succ]
  refine' hw_take 13 (some 60) _ rfl rfl (by kernel_rfl) (by kernel_rfl) (by kernel_rfl) (fun _ _ _ h => h) (by rfl) hH ?hy13 ?rest13
  case hy13 =>
    intro X hX
    go_simp
    try rfl
  simp only [Act.put, List.setIfInBounds_toArray, List.set_cons_zero, List.set_cons_succ]
  refine wpAnyH_ready (rs := [1, 14]) (by kernel_rfl) (by simp) (hw_step 1 (some 48) rfl rfl (by rfl) (fun K hK => ?b1__14a) (hw_step 14 (some 61) rfl rfl (by rfl) (fun K hK => ?b1__14b) (by intro j hj; cases hj)))
  case b1__14a =>
    have cX := (bXd.new (New.refl wd)).cells
    go_simp
    refine hK.out _ _ hH (fun hL => ?_)
    simp only [Act.put, List.setIfInBounds_toArray, List.set_cons_zero, List.set_cons_succ]
    clear cX
    refine hw_call 14 (some 61) rfl rfl (by kernel_rfl) (by rfl) (fun K hK => ?_)
    go_simp
    refine (max13 0 _ _).mono ?_
    rintro e wz ⟨rfl, hwz⟩
    obtain rfl := hwz.symm
    go_simp
    refine hK.out _ _ hH (fun hL14 => ?_)
    simp only [Act.put, List.setIfInBounds_toArray, List.set_cons_zero, List.set_cons_succ]
    refine hw_call 15 (some 62) rfl rfl (by kernel_rfl) (by rfl) (fun K hK => ?_)
    go_simp
    refine (max13 x _ _).mono ?_
    rintro e wz ⟨rfl, hwz⟩
    obtain rfl := hwz.symm
    go_simp
    refine hK.out _ _ hH (fun hL15 => ?_)
    simp only [Act.put, List.setIfInBounds_toArray, List.set_cons_zero, List.set_cons_succ]
    rw [HMp.out]
    refine hw_call 16 (some 63) rfl rfl (by kernel_rfl) (by rfl) (fun K hK => ?_)
    go_simp
    have nl := (New.refl wd).alloc (.cells #[.int .i64 (max x (nw + t + p))] 2)
    have bL : Blk (wd.alloc (.cells #[.int .i64 (max x (nw + t + p))] 2)) wd.heap.size 2 #[.int .i64 (max x (nw + t + p))] := Blk.mk _ _ _ _ rfl
    have cA := (bXd.new nl).cells 0
    refine hK.out _ _ ⟨Turn.trans hH.1 nl.turn (fun i _ e => e), cA⟩ (fun hA => ?_)
    simp only [Act.put, List.setIfInBounds_toArray, List.set_cons_zero, List.set_cons_succ]
    refine hw_call 17 (some 64) rfl rfl (by kernel_rfl) (by rfl) (fun K hK => ?_)
    refine ap13 _ (.tmp 48) (.tmp 63) rfl (.slice none 0 0) 0 [] rfl (nil13 _) wd.heap.size (max x (nw + t + p)) rfl bL (by omega) ?_
    intro g1 c1 wa hoa ht hb
    have hbX := (bXd.new nl).turn ht (by intro e; cases e)
    have hbR := (bRd.new nl).turn ht (by intro e; cases e)
    have hbT := (bTd.new nl).turn ht (by intro e; cases e)
    have hg10 : w.heap.size ≤ g1 := by have q0 := Nd.size; rcases hb with hb | hb; cases hb; (have q : g1 = wd.heap.size + 1 := (by simpa using hb)); omega
    have nn : New w wa := (Nd.trans nl).before ht (by intro i hi e; cases e)
    refine hK.out _ _ ⟨Turn.trans hA.1 (ht.mono (T := fun i => i = w1.heap.size) (fun i _ e => by cases e)) (fun i _ e => e), hbX.cells 0⟩ (fun hA2 => ?_)
    simp only [Act.put, List.setIfInBounds_toArray, List.set_cons_zero, List.set_cons_succ]
    clear bL nl
    refine' hw_take 18 (some 65) _ rfl rfl (by kernel_rfl) (by kernel_rfl) (by kernel_rfl) (fun _ _ _ h => h) (by rfl) hA2 ?hy14 ?rest14
    case hy14 =>
      intro X hX
      go_simp
      try rfl
    simp only [Act.put, List.setIfInBounds_toArray, List.set_cons_zero, List.set_cons_succ]
    refine hw_call 19 none rfl rfl (by kernel_rfl) (by rfl) (fun K hK => ?_)
    have cC := hbX.cells
    have fC := hbX.frees
    go_simp
    have tq := (Turn.refl (fun i => i = w1.heap.size) wa).set (p := ⟨w1.heap.size, 1, none⟩) rfl (.slice (some ⟨g1, 0, none⟩) (0 + 1) c1)
    have gC : ¬ g1 = w1.heap.size := fun e => Blk.ne_own hbX hoa (by decide) e.symm
    have bX61a0 := hbX.set 1 (.slice (some ⟨g1, 0, none⟩) (0 + 1) c1)
    refine hK.out undef _ ⟨hA2.1.set rfl _, bX61a0.cells 0⟩ (fun hA3 => ?_)
    have bT61a0 := hbT.turn tq (by omega)
    have bR61a0 := hbR.turn tq (by omega)
    have ho61a0 := hoa.turn tq gC
    have N61a0 := nn.before tq (by intro i hi e; omega)
    refine wpAnyH_done (by kernel_rfl) ?_ _
    clear hbX hbR hbT cC fC hA3 hA2 ht hoa nn hb hH hL hA tq cA c0 bXd bRd bTd Nd 
    generalize wa.setCell ⟨w1.heap.size, 1, none⟩ (.slice (some ⟨g1, 0, none⟩) (0 + 1) c1) = w61a0 at *
    have z61a0 := bX61a0.lt
    go_wp2_with fail
    rw [rounds_succ]
    obtain ⟨ob', oo', e, cp, cq, -⟩ := ns13 (ho.new N61a0)
    cases e
    go_wp2_with fail
    refine (sin13_no _ _ _ _ hq).mono ?_
    rintro e wz ⟨rfl, hwz⟩
    obtain rfl := hwz.symm
    have cR := bR61a0.cells
    have fR := bR61a0.frees
    have lR4 := bR61a0.lt
    go_wp2
    refine bodyPost_ret (v := .agg #[.int .i64 3, .int .i64 0, .slice none 0 0]) (by simp [results, Try.results25, go_sem, cR]) rfl ⟨_, rfl, .inl ⟨rfl, rfl⟩, ?_⟩
    simp (disch := exact ge1) only [New.set13, New.drewN_iff, N61a0]
  case b1__14b =>
    go_simp
    refine (max13 0 _ _).mono ?_
    rintro e wz ⟨rfl, hwz⟩
    obtain rfl := hwz.symm
    go_simp
    refine hK.out _ _ hH (fun hL14 => ?_)
    simp only [Act.put, List.setIfInBounds_toArray, List.set_cons_zero, List.set_cons_succ]
    refine wpAnyH_ready (rs := [1, 15]) (by kernel_rfl) (by simp) (hw_step 1 (some 48) rfl rfl (by rfl) (fun K hK => ?b1_b_15a) (hw_step 15 (some 62) rfl rfl (by rfl) (fun K hK => ?b1_b_15b) (by intro j hj; cases hj)))
    case b1_b_15a =>
      have cX := (bXd.new (New.refl wd)).cells
      go_simp
      refine hK.out _ _ hH (fun hL => ?_)
      simp only [Act.put, List.setIfInBounds_toArray, List.set_cons_zero, List.set_cons_succ]
      clear cX
      refine hw_call 15 (some 62) rfl rfl (by kernel_rfl) (by rfl) (fun K hK => ?_)
      go_simp
      refine (max13 x _ _).mono ?_
      rintro e wz ⟨rfl, hwz⟩
      obtain rfl := hwz.symm
      go_simp
      refine hK.out _ _ hH (fun hL15 => ?_)
      simp only [Act.put, List.setIfInBounds_toArray, List.set_cons_zero, List.set_cons_succ]
      rw [HMp.out]
      refine hw_call 16 (some 63) rfl rfl (by kernel_rfl) (by rfl) (fun K hK => ?_)
      go_simp
      have nl := (New.refl wd).alloc (.cells #[.int .i64 (max x (nw + t + p))] 2)
      have bL : Blk (wd.alloc (.cells #[.int .i64 (max x (nw + t + p))] 2)) wd.heap.size 2 #[.int .i64 (max x (nw + t + p))] := Blk.mk _ _ _ _ rfl
      have cA := (bXd.new nl).cells 0
      refine hK.out _ _ ⟨Turn.trans hH.1 nl.turn (fun i _ e => e), cA⟩ (fun hA => ?_)
      simp only [Act.put, List.setIfInBounds_toArray, List.set_cons_zero, List.set_cons_succ]
      refine hw_call 17 (some 64) rfl rfl (by kernel_rfl) (by rfl) (fun K hK => ?_)
      refine ap13 _ (.tmp 48) (.tmp 63) rfl (.slice none 0 0) 0 [] rfl (nil13 _) wd.heap.size (max x (nw + t + p)) rfl bL (by omega) ?_
      intro g1 c1 wa hoa ht hb
      have hbX := (bXd.new nl).turn ht (by intro e; cases e)
      have hbR := (bRd.new nl).turn ht (by intro e; cases e)
      have hbT := (bTd.new nl).turn ht (by intro e; cases e)
      have hg10 : w.heap.size ≤ g1 := by have q0 := Nd.size; rcases hb with hb | hb; cases hb; (have q : g1 = wd.heap.size + 1 := (by simpa using hb)); omega
      have nn : New w wa := (Nd.trans nl).before ht (by intro i hi e; cases e)
      refine hK.out _ _ ⟨Turn.trans hA.1 (ht.mono (T := fun i => i = w1.heap.size) (fun i _ e => by cases e)) (fun i _ e => e), hbX.cells 0⟩ (fun hA2 => ?_)
      simp only [Act.put, List.setIfInBounds_toArray, List.set_cons_zero, List.set_cons_succ]
      clear bL nl
      refine' hw_take 18 (some 65) _ rfl rfl (by kernel_rfl) (by kernel_rfl) (by kernel_rfl) (fun _ _ _ h => h) (by rfl) hA2 ?hy15 ?rest15
      case hy15 =>
        intro X hX
        go_simp
        try rfl
      simp only [Act.put, List.setIfInBounds_toArray, List.set_cons_zero, List.set_cons_succ]
      refine hw_call 19 none rfl rfl (by kernel_rfl) (by rfl) (fun K hK => ?_)
      have cC := hbX.cells
      have fC := hbX.frees
      go_simp
      have tq := (Turn.refl (fun i => i = w1.heap.size) wa).set (p := ⟨w1.heap.size, 1, none⟩) rfl (.slice (some ⟨g1, 0, none⟩) (0 + 1) c1)
      have gC : ¬ g1 = w1.heap.size := fun e => Blk.ne_own hbX hoa (by decide) e.symm
      have bX61ba1 := hbX.set 1 (.slice (some ⟨g1, 0, none⟩) (0 + 1) c1)
      refine hK.out undef _ ⟨hA2.1.set rfl _, bX61ba1.cells 0⟩ (fun hA3 => ?_)
      have bT61ba1 := hbT.turn tq (by omega)
      have bR61ba1 := hbR.turn tq (by omega)
      have ho61ba1 := hoa.turn tq gC
      have N61ba1 := nn.before tq (by intro i hi e; omega)
      refine wpAnyH_done (by kernel_rfl) ?_ _
      clear hbX hbR hbT cC fC hA3 hA2 ht hoa nn hb hH hL hA tq cA c0 bXd bRd bTd Nd 
      generalize wa.setCell ⟨w1.heap.size, 1, none⟩ (.slice (some ⟨g1, 0, none⟩) (0 + 1) c1) = w61ba1 at *
      have z61ba1 := bX61ba1.lt
      go_wp2_with fail
      rw [rounds_succ]
      obtain ⟨ob', oo', e, cp, cq, -⟩ := ns13 (ho.new N61ba1)
      cases e
      go_wp2_with fail
      refine (sin13_no _ _ _ _ hq).mono ?_
      rintro e wz ⟨rfl, hwz⟩
      obtain rfl := hwz.symm
      have cR := bR61ba1.cells
      have fR := bR61ba1.frees
      have lR4 := bR61ba1.lt
      go_wp2
      refine bodyPost_ret (v := .agg #[.int .i64 3, .int .i64 0, .slice none 0 0]) (by simp [results, Try.results25, go_sem, cR]) rfl ⟨_, rfl, .inl ⟨rfl, rfl⟩, ?_⟩
      simp (disch := exact ge1) only [New.set13, New.drewN_iff, N61ba1]
    case b1_b_15b =>
      go_simp
      refine (max13 x _ _).mono ?_
      rintro e wz ⟨rfl, hwz⟩
      obtain rfl := hwz.symm
      go_simp
      refine hK.out _ _ hH (fun hL15 => ?_)
      simp only [Act.put, List.setIfInBounds_toArray, List.set_cons_zero, List.set_cons_succ]
      rw [HMp.out]
      refine wpAnyH_ready (rs := [1, 16]) (by kernel_rfl) (by simp) (hw_step 1 (some 48) rfl rfl (by rfl) (fun K hK => ?b1_bb_16a) (hw_step 16 (some 63) rfl rfl (by rfl) (fun K hK => ?b1_bb_16b) (by intro j hj; cases hj)))
      case b1_bb_16a =>
        have cX := (bXd.new (New.refl wd)).cells
        go_simp
        refine hK.out _ _ hH (fun hL => ?_)
        simp only [Act.put, List.setIfInBounds_toArray, List.set_cons_zero, List.set_cons_succ]
        clear cX
        refine hw_call 16 (some 63) rfl rfl (by kernel_rfl) (by rfl) (fun K hK => ?_)
        go_simp
        have nl := (New.refl wd).alloc (.cells #[.int .i64 (max x (nw + t + p))] 2)
        have bL : Blk (wd.alloc (.cells #[.int .i64 (max x (nw + t + p))] 2)) wd.heap.size 2 #[.int .i64 (max x (nw + t + p))] := Blk.mk _ _ _ _ rfl
        have cA := (bXd.new nl).cells 0
        refine hK.out _ _ ⟨Turn.trans hH.1 nl.turn (fun i _ e => e), cA⟩ (fun hA => ?_)
        simp only [Act.put, List.setIfInBounds_toArray, List.set_cons_zero, List.set_cons_succ]
        refine hw_call 17 (some 64) rfl rfl (by kernel_rfl) (by rfl) (fun K hK => ?_)
        refine ap13 _ (.tmp 48) (.tmp 63) rfl (.slice none 0 0) 0 [] rfl (nil13 _) wd.heap.size (max x (nw + t + p)) rfl bL (by omega) ?_
        intro g1 c1 wa hoa ht hb
        have hbX := (bXd.new nl).turn ht (by intro e; cases e)
        have hbR := (bRd.new nl).turn ht (by intro e; cases e)
        have hbT := (bTd.new nl).turn ht (by intro e; cases e)
        have hg10 : w.heap.size ≤ g1 := by have q0 := Nd.size; rcases hb with hb | hb; cases hb; (have q : g1 = wd.heap.size + 1 := (by simpa using hb)); omega
        have nn : New w wa := (Nd.trans nl).before ht (by intro i hi e; cases e)
        refine hK.out _ _ ⟨Turn.trans hA.1 (ht.mono (T := fun i => i = w1.heap.size) (fun i _ e => by cases e)) (fun i _ e => e), hbX.cells 0⟩ (fun hA2 => ?_)
        simp only [Act.put, List.setIfInBounds_toArray, List.set_cons_zero, List.set_cons_succ]
        clear bL nl
        refine' hw_take 18 (some 65) _ rfl rfl (by kernel_rfl) (by kernel_rfl) (by kernel_rfl) (fun _ _ _ h => h) (by rfl) hA2 ?hy16 ?rest16
        case hy16 =>
          intro X hX
          go_simp
          try rfl
        simp only [Act.put, List.setIfInBounds_toArray, List.set_cons_zero, List.set_cons_succ]
        refine hw_call 19 none rfl rfl (by kernel_rfl) (by rfl) (fun K hK => ?_)
        have cC := hbX.cells
        have fC := hbX.frees
        go_simp
        have tq := (Turn.refl (fun i => i = w1.heap.size) wa).set (p := ⟨w1.heap.size, 1, none⟩) rfl (.slice (some ⟨g1, 0, none⟩) (0 + 1) c1)
        have gC : ¬ g1 = w1.heap.size := fun e => Blk.ne_own hbX hoa (by decide) e.symm
        have bX61bba2 := hbX.set 1 (.slice (some ⟨g1, 0, none⟩) (0 + 1) c1)
        refine hK.out undef _ ⟨hA2.1.set rfl _, bX61bba2.cells 0⟩ (fun hA3 => ?_)
        have bT61bba2 := hbT.turn tq (by omega)
        have bR61bba2 := hbR.turn tq (by omega)
        have ho61bba2 := hoa.turn tq gC
        have N61bba2 := nn.before tq (by intro i hi e; omega)
        refine wpAnyH_done (by kernel_rfl) ?_ _
        clear hbX hbR hbT cC fC hA3 hA2 ht hoa nn hb hH hL hA tq cA c0 bXd bRd bTd Nd 
        generalize wa.setCell ⟨w1.heap.size, 1, none⟩ (.slice (some ⟨g1, 0, none⟩) (0 + 1) c1) = w61bba2 at *
        have z61bba2 := bX61bba2.lt
        go_wp2_with fail
        rw [rounds_succ]
        obtain ⟨ob', oo', e, cp, cq, -⟩ := ns13 (ho.new N61bba2)
        cases e
        go_wp2_with fail
        refine (sin13_no _ _ _ _ hq).mono ?_
        rintro e wz ⟨rfl, hwz⟩
        obtain rfl := hwz.symm
        have cR := bR61bba2.cells
        have fR := bR61bba2.frees
        have lR4 := bR61bba2.lt
        go_wp2
        refine bodyPost_ret (v := .agg #[.int .i64 3, .int .i64 0, .slice none 0 0]) (by simp [results, Try.results25, go_sem, cR]) rfl ⟨_, rfl, .inl ⟨rfl, rfl⟩, ?_⟩
        simp (disch := exact ge1) only [New.set13, New.drewN_iff, N61bba2]
      case b1_bb_16b =>
        go_simp
        have nl := (New.refl wd).alloc (.cells #[.int .i64 (max x (nw + t + p))] 2)
        have bL : Blk (wd.alloc (.cells #[.int .i64 (max x (nw + t + p))] 2)) wd.heap.size 2 #[.int .i64 (max x (nw + t + p))] := Blk.mk _ _ _ _ rfl
        have cA := (bXd.new nl).cells 0
        refine hK.out _ _ ⟨Turn.trans hH.1 nl.turn (fun i _ e => e), cA⟩ (fun hA => ?_)
        simp only [Act.put, List.setIfInBounds_toArray, List.set_cons_zero, List.set_cons_succ]
        refine hw_call 1 (some 48) rfl rfl (by kernel_rfl) (by rfl) (fun K hK => ?_)
        have cX := (bXd.new (nl)).cells
        go_simp
        refine hK.out _ _ hA (fun hL => ?_)
        simp only [Act.put, List.setIfInBounds_toArray, List.set_cons_zero, List.set_cons_succ]
        clear cX
        refine hw_call 17 (some 64) rfl rfl (by kernel_rfl) (by rfl) (fun K hK => ?_)
        refine ap13 _ (.tmp 48) (.tmp 63) rfl (.slice none 0 0) 0 [] rfl (nil13 _) wd.heap.size (max x (nw + t + p)) rfl bL (by omega) ?_
        intro g1 c1 wa hoa ht hb
        have hbX := (bXd.new nl).turn ht (by intro e; cases e)
        have hbR := (bRd.new nl).turn ht (by intro e; cases e)
        have hbT := (bTd.new nl).turn ht (by intro e; cases e)
        have hg10 : w.heap.size ≤ g1 := by have q0 := Nd.size; rcases hb with hb | hb; cases hb; (have q : g1 = wd.heap.size + 1 := (by simpa using hb)); omega
        have nn : New w wa := (Nd.trans nl).before ht (by intro i hi e; cases e)
        refine hK.out _ _ ⟨Turn.trans hA.1 (ht.mono (T := fun i => i = w1.heap.size) (fun i _ e => by cases e)) (fun i _ e => e), hbX.cells 0⟩ (fun hA2 => ?_)
        simp only [Act.put, List.setIfInBounds_toArray, List.set_cons_zero, List.set_cons_succ]
        clear bL nl
        refine' hw_take 18 (some 65) _ rfl rfl (by kernel_rfl) (by kernel_rfl) (by kernel_rfl) (fun _ _ _ h => h) (by rfl) hA2 ?hy17 ?rest17
        case hy17 =>
          intro X hX
          go_simp
          try rfl
        simp only [Act.put, List.setIfInBounds_toArray, List.set_cons_zero, List.set_cons_succ]
        refine hw_call 19 none rfl rfl (by kernel_rfl) (by rfl) (fun K hK => ?_)
        have cC := hbX.cells
        have fC := hbX.frees
        go_simp
        have tq := (Turn.refl (fun i => i = w1.heap.size) wa).set (p := ⟨w1.heap.size, 1, none⟩) rfl (.slice (some ⟨g1, 0, none⟩) (0 + 1) c1)
        have gC : ¬ g1 = w1.heap.size := fun e => Blk.ne_own hbX hoa (by decide) e.symm
        have bX61bbb := hbX.set 1 (.slice (some ⟨g1, 0, none⟩) (0 + 1) c1)
        refine hK.out undef _ ⟨hA2.1.set rfl _, bX61bbb.cells 0⟩ (fun hA3 => ?_)
        have bT61bbb := hbT.turn tq (by omega)
        have bR61bbb := hbR.turn tq (by omega)
        have ho61bbb := hoa.turn tq gC
        have N61bbb := nn.before tq (by intro i hi e; omega)
        refine wpAnyH_done (by kernel_rfl) ?_ _
        clear hbX hbR hbT cC fC hA3 hA2 ht hoa nn hb hH hL hA tq cA c0 bXd bRd bTd Nd 
        generalize wa.setCell ⟨w1.heap.size, 1, none⟩ (.slice (some ⟨g1, 0, none⟩) (0 + 1) c1) = w61bbb at *
        have z61bbb := bX61bbb.lt
        go_wp2_with fail
        rw [rounds_succ]
        obtain ⟨ob', oo', e, cp, cq, -⟩ := ns13 (ho.new N61bbb)
        cases e
        go_wp2_with fail
        refine (sin13_no _ _ _ _ hq).mono ?_
        rintro e wz ⟨rfl, hwz⟩
        obtain rfl := hwz.symm
        have cR := bR61bbb.cells
        have fR := bR61bbb.frees
        have lR4 := bR61bbb.lt
        go_wp2
        refine bodyPost_ret (v := .agg #[.int .i64 3, .int .i64 0, .slice none 0 0]) (by simp [results, Try.results25, go_sem, cR]) rfl ⟨_, rfl, .inl ⟨rfl, rfl⟩, ?_⟩
        simp (disch := exact ge1) only [New.set13, New.drewN_iff, N61bbb]

end Go.Proofs.Ytpbmbnckdmjdhaa
