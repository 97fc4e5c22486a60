/- What is proved here: what the model's TickClock answers, for lists of at most 1048576 numbers. -/
import Derived.Test.YtpbmbnckdmjdhaaC13Tt
namespace Go.Proofs.Ytpbmbnckdmjdhaa
open Go.RowKit
set_option linter.unusedVariables false
set_option linter.unusedSimpArgs false
set_option maxRecDepth 100000

set_option maxHeartbeats 6400000 in
theorem sTick_ok (nw t x y p q : Int) (a oa : Option Addr) (c d : Nat) (w : World) (h : NsAt w a [x, y]) (ho : NsAt w oa [p, q]) (hf : ckF nw [x, y] = 0) (hz : (0 ≤ t ∧ t ≤ 1000) ∧ nw + t ≤ 1000000000) (hp : OfP p) (hq : OfP q) :
    Calls Try.prog 25 #[.agg #[.int .i64 nw, .slice a 2 c], .int .i64 t, .slice oa 2 d] w (CkAns w ⟨0, nw + t, [max x (nw + t + p), max y (nw + t + q)]⟩) := by
  have N0 : New w ((w.alloc (.cells #[.int .i64 nw, .slice a 2 c] 26)).alloc (.cells #[.int .i64 0, .int .i64 0, .slice none 0 0] 30)) := ((New.refl w).alloc _).alloc _
  have bT0 : Blk ((w.alloc (.cells #[.int .i64 nw, .slice a 2 c] 26)).alloc (.cells #[.int .i64 0, .int .i64 0, .slice none 0 0] 30)) w.heap.size 26 #[.int .i64 nw, .slice a 2 c] := (Blk.mk _ _ _ _ rfl).alloc _
  have bR0 : Blk ((w.alloc (.cells #[.int .i64 nw, .slice a 2 c] 26)).alloc (.cells #[.int .i64 0, .int .i64 0, .slice none 0 0] 30)) (w.heap.size + 1) 30 #[.int .i64 0, .int .i64 0, .slice none 0 0] := Blk.mk _ _ _ _ (by simp)
  have ge1 : w.heap.size ≤ w.heap.size + 1 := by omega
  obtain ⟨⟨h0, h1⟩, x', y', e, ⟨x0, x1, x2⟩, ⟨y0, y1, y2⟩⟩ := ckF_zero hf
  cases e
  obtain ⟨g0, t2⟩ := hz
  have t0 := g0.1
  have t1 := g0.2
  obtain ⟨ob, oo, rfl, -⟩ := ns13 ho
  obtain ⟨ib, io, rfl, -⟩ := ns13 h
  have wp : IntKind.i64.wrap (nw + t + p) = nw + t + p := by rw [IntKind.wrap_i64]; have := hp.1; have := hp.2; omega
  have HMp : Hid (max x (max 0 (nw + t + p)) = max x (nw + t + p)) := by show max x (max 0 (nw + t + p)) = max x (nw + t + p); omega
  have wq : IntKind.i64.wrap (nw + t + q) = nw + t + q := by rw [IntKind.wrap_i64]; have := hq.1; have := hq.2; omega
  have HMq : Hid (max y (max 0 (nw + t + q)) = max y (nw + t + q)) := by show max y (max 0 (nw + t + q)) = max y (nw + t + q); omega
  go_enter Try.func25, Try.ntmps25
  go_wp2_with fail
  refine (specCkF_is nw (some ⟨ib, io, none⟩) 2 c [x, y] 0 _ (h.new N0) rfl (by omega) hf).mono ?_
  rintro e w1 ⟨rfl, hn1⟩
  have bT1 := bT0.new hn1
  have bR1 := bR0.new hn1
  have N1 := N0.trans hn1
  have cT := bT1.cells
  have lR := bR1.lt
  clear bT0 bR0 N0 hn1 hf
  go_wp2_with fail
  refine (in_yes _ _ _ _ g0).mono ?_
  rintro e wz ⟨rfl, hwz⟩
  obtain rfl := hwz.symm
  have al := (New.refl w1).alloc (.cells #[.int .i64 (nw + t), .slice none 0 0] 26)
  have bX4 := Blk.mk w1 w1.heap.size 26 #[.int .i64 (nw + t), .slice none 0 0] rfl
  have bR4 := bR1.new al
  have bT4 := bT1.new al
  have N4 := N1.trans al
  have z1 := N1.size
  have l2 : w.heap.size + 1 < w1.heap.size := by omega
  clear bT1 bR1 N1
  go_upto_region 9 with fail
  generalize w1.alloc (.cells #[.int .i64 (nw + t), .slice none 0 0] 26) = w4 at *
  clear cT al
  go_wp2_with fail
  refine wp_loop_rounds 3 ?_
  rw [rounds_succ]
  obtain ⟨ob', oo', e, cp, cq, -⟩ := ns13 (ho.new N4)
  cases e
  go_wp2_with fail
  refine (in_yes _ _ _ _ hp).mono ?_
  rintro e wz ⟨rfl, hwz⟩
  obtain rfl := hwz.symm
  go_upto_region 14 with fail
  clear cp cq
  have c0 := (bX4.new ((New.refl w4).drew)).cells 0
  refine hw_start (n := 20) (S := fun X => Turn (fun i => i = w1.heap.size) w4 X ∧ X.cell? ⟨w1.heap.size, 0, none⟩ = some (.int .i64 (nw + t))) rfl (by kernel_rfl) (⟨((New.refl _).drew).turn, c0⟩) (fun hH => ?_)
  have bXd := bX4.new ((New.refl w4).drew)
  have bRd := bR4.new ((New.refl w4).drew)
  have bTd := bT4.new ((New.refl w4).drew)
  have Nd := N4.drew
  have zd := bXd.lt
  generalize w4.drew = wd at *
  refine' hw_take 0 (some 47) _ rfl rfl (by kernel_rfl) (by kernel_rfl) (by kernel_rfl) (fun _ _ _ h => h) (by rfl) hH ?hy18 ?rest18
  case hy18 =>
    intro X hX
    go_simp
    try rfl
  simp only [Act.put, List.setIfInBounds_toArray, List.set_cons_zero, List.set_cons_succ]
  refine' hw_take 2 (some 49) _ rfl rfl (by kernel_rfl) (by kernel_rfl) (by kernel_rfl) (fun _ _ _ h => h) (by rfl) hH ?hy19 ?rest19
  case hy19 =>
    intro X hX
    go_simp
    try rfl
  simp only [Act.put, List.setIfInBounds_toArray, List.set_cons_zero, List.set_cons_succ]
  refine' hw_take 3 (some 50) _ rfl rfl (by kernel_rfl) (by kernel_rfl) (by kernel_rfl) (fun _ _ _ h => h) (by rfl) hH ?hy20 ?rest20
  case hy20 =>
    intro X hX
    have cT := (bT4.turn hX.1 (by omega)).cells
    go_simp
    try rfl
  simp only [Act.put, List.setIfInBounds_toArray, List.set_cons_zero, List.set_cons_succ]
  refine' hw_take 4 (some 51) _ rfl rfl (by kernel_rfl) (by kernel_rfl) (by kernel_rfl) (fun _ _ _ h => h) (by rfl) hH ?hy21 ?rest21
  case hy21 =>
    intro X hX
    go_simp
    try rfl
  simp only [Act.put, List.setIfInBounds_toArray, List.set_cons_zero, List.set_cons_succ]
  refine' hw_take 5 (some 52) _ rfl rfl (by kernel_rfl) (by kernel_rfl) (by kernel_rfl) (fun _ _ _ h => h) (by rfl) hH ?hy22 ?rest22
  case hy22 =>
    intro X hX
    go_simp
    try rfl
  simp only [Act.put, List.setIfInBounds_toArray, List.set_cons_zero, List.set_cons_succ]
  refine' hw_take 6 (some 53) _ rfl rfl (by kernel_rfl) (by kernel_rfl) (by kernel_rfl) (fun _ _ _ h => h) (by rfl) hH ?hy23 ?rest23
  case hy23 =>
    intro X hX
    obtain ⟨ib', io', e, cx, cy, -⟩ := ns13 (h.new (N4.before hX.1 (by intro i hi e; omega)))
    cases e
    go_simp
    try rfl
  simp only [Act.put, List.setIfInBounds_toArray, List.set_cons_zero, List.set_cons_succ]
  refine' hw_take 7 (some 54) _ rfl rfl (by kernel_rfl) (by kernel_rfl) (by kernel_rfl) (fun _ _ _ h => h) (by rfl) hH ?hy24 ?rest24
  case hy24 =>
    intro X hX
    go_simp
    try rfl
  simp only [Act.put, List.setIfInBounds_toArray, List.set_cons_zero, List.set_cons_succ]
  refine' hw_take 8 (some 55) _ rfl rfl (by kernel_rfl) (by kernel_rfl) (by kernel_rfl) (fun _ _ _ h => h) (by rfl) hH ?hy25 ?rest25
  case hy25 =>
    intro X hX
    have cX := hX.2
    go_simp
    try rfl
  simp only [Act.put, List.setIfInBounds_toArray, List.set_cons_zero, List.set_cons_succ]
  refine' hw_take 9 (some 56) _ rfl rfl (by kernel_rfl) (by kernel_rfl) (by kernel_rfl) (fun _ _ _ h => h) (by rfl) hH ?hy26 ?rest26
  case hy26 =>
    intro X hX
    go_simp
    try rfl
  simp only [Act.put, List.setIfInBounds_toArray, List.set_cons_zero, List.set_cons_succ]
  refine' hw_take 10 (some 57) _ rfl rfl (by kernel_rfl) (by kernel_rfl) (by kernel_rfl) (fun _ _ _ h => h) (by rfl) hH ?hy27 ?rest27
  case hy27 =>
    intro X hX
    go_simp
    try rfl
  simp only [Act.put, List.setIfInBounds_toArray, List.set_cons_zero, List.set_cons_succ]
  refine' hw_take 11 (some 58) _ rfl rfl (by kernel_rfl) (by kernel_rfl) (by kernel_rfl) (fun _ _ _ h => h) (by rfl) hH ?hy28 ?rest28
  case hy28 =>
    intro X hX
    go_simp
    try rfl
  simp only [Act.put, List.setIfInBounds_toArray, List.set_cons_zero, List.set_cons_succ]
  refine' hw_take 12 (some 59) _ rfl rfl (by kernel_rfl) (by kernel_rfl) (by kernel_rfl) (fun _ _ _ h => h) (by rfl) hH ?hy29 ?rest29
  case hy29 =>
    intro X hX
    obtain ⟨ob', oo', e, cp, cq, -⟩ := ns13 (ho.new (N4.before hX.1 (by intro i hi e; omega)))
    cases e
    go_simp
    try rfl
  simp only [Act.put, List.setIfInBounds_toArray, List.set_cons_zero, List.set_cons_succ]
  refine' hw_take 13 (some 60) _ rfl rfl (by kernel_rfl) (by kernel_rfl) (by kernel_rfl) (fun _ _ _ h => h) (by rfl) hH ?hy30 ?rest30
  case hy30 =>
    intro X hX
    go_simp
    try rfl
  simp only [Act.put, List.setIfInBounds_toArray, List.set_cons_zero, List.set_cons_succ]
  refine wpAnyH_ready (rs := [1, 14]) (by kernel_rfl) (by simp) (hw_step 1 (some 48) rfl rfl (by rfl) (fun K hK => ?b2__14a) (hw_step 14 (some 61) rfl rfl (by rfl) (fun K hK => ?b2__14b) (by intro j hj; cases hj)))
  case b2__14a =>
    have cX := (bXd.new (New.refl wd)).cells
    go_simp
    refine hK.out _ _ hH (fun hL => ?_)
    simp only [Act.put, List.setIfInBounds_toArray, List.set_cons_zero, List.set_cons_succ]
    clear cX
    refine hw_call 14 (some 61) rfl rfl (by kernel_rfl) (by rfl) (fun K hK => ?_)
    go_simp
    refine (max13 0 _ _).mono ?_
    rintro e wz ⟨rfl, hwz⟩
    obtain rfl := hwz.symm
    go_simp
    refine hK.out _ _ hH (fun hL14 => ?_)
    simp only [Act.put, List.setIfInBounds_toArray, List.set_cons_zero, List.set_cons_succ]
    refine hw_call 15 (some 62) rfl rfl (by kernel_rfl) (by rfl) (fun K hK => ?_)
    go_simp
    refine (max13 x _ _).mono ?_
    rintro e wz ⟨rfl, hwz⟩
    obtain rfl := hwz.symm
    go_simp
    refine hK.out _ _ hH (fun hL15 => ?_)
    simp only [Act.put, List.setIfInBounds_toArray, List.set_cons_zero, List.set_cons_succ]
    rw [HMp.out]
    refine hw_call 16 (some 63) rfl rfl (by kernel_rfl) (by rfl) (fun K hK => ?_)
    go_simp
    have nl := (New.refl wd).alloc (.cells #[.int .i64 (max x (nw + t + p))] 2)
    have bL : Blk (wd.alloc (.cells #[.int .i64 (max x (nw + t + p))] 2)) wd.heap.size 2 #[.int .i64 (max x (nw + t + p))] := Blk.mk _ _ _ _ rfl
    have cA := (bXd.new nl).cells 0
    refine hK.out _ _ ⟨Turn.trans hH.1 nl.turn (fun i _ e => e), cA⟩ (fun hA => ?_)
    simp only [Act.put, List.setIfInBounds_toArray, List.set_cons_zero, List.set_cons_succ]
    refine hw_call 17 (some 64) rfl rfl (by kernel_rfl) (by rfl) (fun K hK => ?_)
    refine ap13 _ (.tmp 48) (.tmp 63) rfl (.slice none 0 0) 0 [] rfl (nil13 _) wd.heap.size (max x (nw + t + p)) rfl bL (by omega) ?_
    intro g1 c1 wa hoa ht hb
    have hbX := (bXd.new nl).turn ht (by intro e; cases e)
    have hbR := (bRd.new nl).turn ht (by intro e; cases e)
    have hbT := (bTd.new nl).turn ht (by intro e; cases e)
    have hg10 : w.heap.size ≤ g1 := by have q0 := Nd.size; rcases hb with hb | hb; cases hb; (have q : g1 = wd.heap.size + 1 := (by simpa using hb)); omega
    have nn : New w wa := (Nd.trans nl).before ht (by intro i hi e; cases e)
    refine hK.out _ _ ⟨Turn.trans hA.1 (ht.mono (T := fun i => i = w1.heap.size) (fun i _ e => by cases e)) (fun i _ e => e), hbX.cells 0⟩ (fun hA2 => ?_)
    simp only [Act.put, List.setIfInBounds_toArray, List.set_cons_zero, List.set_cons_succ]
    clear bL nl
    refine' hw_take 18 (some 65) _ rfl rfl (by kernel_rfl) (by kernel_rfl) (by kernel_rfl) (fun _ _ _ h => h) (by rfl) hA2 ?hy31 ?rest31
    case hy31 =>
      intro X hX
      go_simp
      try rfl
    simp only [Act.put, List.setIfInBounds_toArray, List.set_cons_zero, List.set_cons_succ]
    refine hw_call 19 none rfl rfl (by kernel_rfl) (by rfl) (fun K hK => ?_)
    have cC := hbX.cells
    have fC := hbX.frees
    go_simp
    have tq := (Turn.refl (fun i => i = w1.heap.size) wa).set (p := ⟨w1.heap.size, 1, none⟩) rfl (.slice (some ⟨g1, 0, none⟩) (0 + 1) c1)
    have gC : ¬ g1 = w1.heap.size := fun e => Blk.ne_own hbX hoa (by decide) e.symm
    have bX62a0 := hbX.set 1 (.slice (some ⟨g1, 0, none⟩) (0 + 1) c1)
    refine hK.out undef _ ⟨hA2.1.set rfl _, bX62a0.cells 0⟩ (fun hA3 => ?_)
    have bT62a0 := hbT.turn tq (by omega)
    have bR62a0 := hbR.turn tq (by omega)
    have ho62a0 := hoa.turn tq gC
    have N62a0 := nn.before tq (by intro i hi e; omega)
    refine wpAnyH_done (by kernel_rfl) ?_ _
    clear hbX hbR hbT cC fC hA3 hA2 ht hoa nn hb hH hL hA tq cA c0 bXd bRd bTd Nd 
    generalize wa.setCell ⟨w1.heap.size, 1, none⟩ (.slice (some ⟨g1, 0, none⟩) (0 + 1) c1) = w62a0 at *
    have z62a0 := bX62a0.lt
    go_wp2_with fail
    rw [rounds_succ]
    obtain ⟨ob', oo', e, cp, cq, -⟩ := ns13 (ho.new N62a0)
    cases e
    go_wp2_with fail
    refine (in_yes _ _ _ _ hq).mono ?_
    rintro e wz ⟨rfl, hwz⟩
    obtain rfl := hwz.symm
    go_upto_region 14 with fail
    clear cp cq
    have g1X : ¬ w1.heap.size = g1 := Blk.ne_own bX62a0 ho62a0 (by decide)
    have g1R : ¬ w.heap.size + 1 = g1 := Blk.ne_own bR62a0 ho62a0 (by decide)
    have g1T : ¬ w.heap.size = g1 := Blk.ne_own bT62a0 ho62a0 (by decide)
    have c0 := (bX62a0.new ((New.refl w62a0).drew)).cells 0
    refine hw_start (n := 20) (S := fun X => Turn (fun i => i = w1.heap.size ∨ i = g1) w62a0 X ∧ X.cell? ⟨w1.heap.size, 0, none⟩ = some (.int .i64 (nw + t))) rfl (by kernel_rfl) (⟨((New.refl _).drew).turn, c0⟩) (fun hH => ?_)
    have bXd := bX62a0.new ((New.refl w62a0).drew)
    have bRd := bR62a0.new ((New.refl w62a0).drew)
    have bTd := bT62a0.new ((New.refl w62a0).drew)
    have Nd := N62a0.drew
    have hod := ho62a0.new ((New.refl w62a0).drew)
    have zd := bXd.lt
    generalize w62a0.drew = wd at *
    refine' hw_take 0 (some 47) _ rfl rfl (by kernel_rfl) (by kernel_rfl) (by kernel_rfl) (fun _ _ _ h => h) (by rfl) hH ?hy32 ?rest32
    case hy32 =>
      intro X hX
      go_simp
      try rfl
    simp only [Act.put, List.setIfInBounds_toArray, List.set_cons_zero, List.set_cons_succ]
    refine' hw_take 2 (some 49) _ rfl rfl (by kernel_rfl) (by kernel_rfl) (by kernel_rfl) (fun _ _ _ h => h) (by rfl) hH ?hy33 ?rest33
    case hy33 =>
      intro X hX
      go_simp
      try rfl
    simp only [Act.put, List.setIfInBounds_toArray, List.set_cons_zero, List.set_cons_succ]
    refine' hw_take 3 (some 50) _ rfl rfl (by kernel_rfl) (by kernel_rfl) (by kernel_rfl) (fun _ _ _ h => h) (by rfl) hH ?hy34 ?rest34
    case hy34 =>
      intro X hX
      have cT := (bT62a0.turn hX.1 (by omega)).cells
      go_simp
      try rfl
    simp only [Act.put, List.setIfInBounds_toArray, List.set_cons_zero, List.set_cons_succ]
    refine' hw_take 4 (some 51) _ rfl rfl (by kernel_rfl) (by kernel_rfl) (by kernel_rfl) (fun _ _ _ h => h) (by rfl) hH ?hy35 ?rest35
    case hy35 =>
      intro X hX
      go_simp
      try rfl
    simp only [Act.put, List.setIfInBounds_toArray, List.set_cons_zero, List.set_cons_succ]
    refine' hw_take 5 (some 52) _ rfl rfl (by kernel_rfl) (by kernel_rfl) (by kernel_rfl) (fun _ _ _ h => h) (by rfl) hH ?hy36 ?rest36
    case hy36 =>
      intro X hX
      go_simp
      try rfl
    simp only [Act.put, List.setIfInBounds_toArray, List.set_cons_zero, List.set_cons_succ]
    refine' hw_take 6 (some 53) _ rfl rfl (by kernel_rfl) (by kernel_rfl) (by kernel_rfl) (fun _ _ _ h => h) (by rfl) hH ?hy37 ?rest37
    case hy37 =>
      intro X hX
      obtain ⟨ib', io', e, cx, cy, -⟩ := ns13 (h.new (N62a0.before hX.1 (by intro i hi e; omega)))
      cases e
      go_simp
      try rfl
    simp only [Act.put, List.setIfInBounds_toArray, List.set_cons_zero, List.set_cons_succ]
    refine' hw_take 7 (some 54) _ rfl rfl (by kernel_rfl) (by kernel_rfl) (by kernel_rfl) (fun _ _ _ h => h) (by rfl) hH ?hy38 ?rest38
    case hy38 =>
      intro X hX
      go_simp
      try rfl
    simp only [Act.put, List.setIfInBounds_toArray, List.set_cons_zero, List.set_cons_succ]
    refine' hw_take 8 (some 55) _ rfl rfl (by kernel_rfl) (by kernel_rfl) (by kernel_rfl) (fun _ _ _ h => h) (by rfl) hH ?hy39 ?rest39
    case hy39 =>
      intro X hX
      have cX := hX.2
      go_simp
      try rfl
    simp only [Act.put, List.setIfInBounds_toArray, List.set_cons_zero, List.set_cons_succ]
    refine' hw_take 9 (some 56) _ rfl rfl (by kernel_rfl) (by kernel_rfl) (by kernel_rfl) (fun _ _ _ h => h) (by rfl) hH ?hy40 ?rest40
    case hy40 =>
      intro X hX
      go_simp
      try rfl
    simp only [Act.put, List.setIfInBounds_toArray, List.set_cons_zero, List.set_cons_succ]
    refine' hw_take 10 (some 57) _ rfl rfl (by kernel_rfl) (by kernel_rfl) (by kernel_rfl) (fun _ _ _ h => h) (by rfl) hH ?hy41 ?rest41
    case hy41 =>
      intro X hX
      go_simp
      try rfl
    simp only [Act.put, List.setIfInBounds_toArray, List.set_cons_zero, List.set_cons_succ]
    refine' hw_take 11 (some 58) _ rfl rfl (by kernel_rfl) (by kernel_rfl) (by kernel_rfl) (fun _ _ _ h => h) (by rfl) hH ?hy42 ?rest42
    case hy42 =>
      intro X hX
      go_simp
      try rfl
    simp only [Act.put, List.setIfInBounds_toArray, List.set_cons_zero, List.set_cons_succ]
    refine' hw_take 12 (some 59) _ rfl rfl (by kernel_rfl) (by kernel_rfl) (by kernel_rfl) (fun _ _ _ h => h) (by rfl) hH ?hy43 ?rest43
    case hy43 =>
      intro X hX
      obtain ⟨ob', oo', e, cp, cq, -⟩ := ns13 (ho.new (N62a0.before hX.1 (by intro i hi e; omega)))
      cases e
      go_simp
      try rfl
    simp only [Act.put, List.setIfInBounds_toArray, List.set_cons_zero, List.set_cons_succ]
    refine' hw_take 13 (some 60) _ rfl rfl (by kernel_rfl) (by kernel_rfl) (by kernel_rfl) (fun _ _ _ h => h) (by rfl) hH ?hy44 ?rest44
    case hy44 =>
      intro X hX
      go_simp
      try rfl
    simp only [Act.put, List.setIfInBounds_toArray, List.set_cons_zero, List.set_cons_succ]
    refine wpAnyH_ready (rs := [1, 14]) (by kernel_rfl) (by simp) (hw_step 1 (some 48) rfl rfl (by rfl) (fun K hK => ?b3__14a) (hw_step 14 (some 61) rfl rfl (by rfl) (fun K hK => ?b3__14b) (by intro j hj; cases hj)))
    case b3__14a =>
      have cX := (bXd.new (New.refl wd)).cells
      go_simp
      refine hK.out _ _ hH (fun hL => ?_)
      simp only [Act.put, List.setIfInBounds_toArray, List.set_cons_zero, List.set_cons_succ]
      clear cX
      refine hw_call 14 (some 61) rfl rfl (by kernel_rfl) (by rfl) (fun K hK => ?_)
      go_simp
      refine (max13 0 _ _).mono ?_
      rintro e wz ⟨rfl, hwz⟩
      obtain rfl := hwz.symm
      go_simp
      refine hK.out _ _ hH (fun hL14 => ?_)
      simp only [Act.put, List.setIfInBounds_toArray, List.set_cons_zero, List.set_cons_succ]
      refine hw_call 15 (some 62) rfl rfl (by kernel_rfl) (by rfl) (fun K hK => ?_)
      go_simp
      refine (max13 y _ _).mono ?_
      rintro e wz ⟨rfl, hwz⟩
      obtain rfl := hwz.symm
      go_simp
      refine hK.out _ _ hH (fun hL15 => ?_)
      simp only [Act.put, List.setIfInBounds_toArray, List.set_cons_zero, List.set_cons_succ]
      rw [HMq.out]
      refine hw_call 16 (some 63) rfl rfl (by kernel_rfl) (by rfl) (fun K hK => ?_)
      go_simp
      have nl := (New.refl wd).alloc (.cells #[.int .i64 (max y (nw + t + q))] 2)
      have bL : Blk (wd.alloc (.cells #[.int .i64 (max y (nw + t + q))] 2)) wd.heap.size 2 #[.int .i64 (max y (nw + t + q))] := Blk.mk _ _ _ _ rfl
      have cA := (bXd.new nl).cells 0
      refine hK.out _ _ ⟨Turn.trans hH.1 nl.turn (fun i _ e => e), cA⟩ (fun hA => ?_)
      simp only [Act.put, List.setIfInBounds_toArray, List.set_cons_zero, List.set_cons_succ]
      refine hw_call 17 (some 64) rfl rfl (by kernel_rfl) (by rfl) (fun K hK => ?_)
      refine ap13 _ (.tmp 48) (.tmp 63) rfl (.slice (some ⟨g1, 0, none⟩) 1 c1) 1 [max x (nw + t + p)] rfl (((show OwN _ g1 1 c1 [max x (nw + t + p)] by simpa using hod).new nl)) wd.heap.size (max y (nw + t + q)) rfl bL (by omega) ?_
      intro g c2 wa hoa ht hb
      have hbX := (bXd.new nl).turn ht (by intro e; have q : g1 = _ := (by simpa [Value.ownBlock] using e); omega)
      have hbR := (bRd.new nl).turn ht (by intro e; have q : g1 = _ := (by simpa [Value.ownBlock] using e); omega)
      have hbT := (bTd.new nl).turn ht (by intro e; have q : g1 = _ := (by simpa [Value.ownBlock] using e); omega)
      have hg0 : w.heap.size ≤ g := by have q0 := Nd.size; rcases hb with hb | hb; (have q : g1 = g := (by simpa [Value.ownBlock] using hb)); omega; (have q : g = wd.heap.size + 1 := (by simpa using hb)); omega
      have nn : New w wa := (Nd.trans nl).before ht (by intro i hi e; have q : g1 = i := (by simpa [Value.ownBlock] using e); omega)
      refine hK.out _ _ ⟨Turn.trans hA.1 (ht.mono (T := fun i => i = w1.heap.size ∨ i = g1) (fun i _ e => .inr (by have q : g1 = i := (by simpa [Value.ownBlock] using e); exact q.symm))) (fun i _ e => e), hbX.cells 0⟩ (fun hA2 => ?_)
      simp only [Act.put, List.setIfInBounds_toArray, List.set_cons_zero, List.set_cons_succ]
      clear bL nl
      refine' hw_take 18 (some 65) _ rfl rfl (by kernel_rfl) (by kernel_rfl) (by kernel_rfl) (fun _ _ _ h => h) (by rfl) hA2 ?hy45 ?rest45
      case hy45 =>
        intro X hX
        go_simp
        try rfl
      simp only [Act.put, List.setIfInBounds_toArray, List.set_cons_zero, List.set_cons_succ]
      refine hw_call 19 none rfl rfl (by kernel_rfl) (by rfl) (fun K hK => ?_)
      have cC := hbX.cells
      have fC := hbX.frees
      go_simp
      have tq := (Turn.refl (fun i => i = w1.heap.size) wa).set (p := ⟨w1.heap.size, 1, none⟩) rfl (.slice (some ⟨g, 0, none⟩) (1 + 1) c2)
      have gC : ¬ g = w1.heap.size := fun e => Blk.ne_own hbX hoa (by decide) e.symm
      have bX83a0 := hbX.set 1 (.slice (some ⟨g, 0, none⟩) (1 + 1) c2)
      refine hK.out undef _ ⟨hA2.1.set (.inl rfl) _, bX83a0.cells 0⟩ (fun hA3 => ?_)
      have bT83a0 := hbT.turn tq (by omega)
      have bR83a0 := hbR.turn tq (by omega)
      have ho83a0 := hoa.turn tq gC
      have N83a0 := nn.before tq (by intro i hi e; omega)
      refine wpAnyH_done (by kernel_rfl) ?_ _
      clear hbX hbR hbT cC fC hA3 hA2 ht hoa nn hb hH hL hA tq cA c0 bXd bRd bTd Nd hod 
      generalize wa.setCell ⟨w1.heap.size, 1, none⟩ (.slice (some ⟨g, 0, none⟩) (1 + 1) c2) = w83a0 at *
      have z83a0 := bX83a0.lt
      go_wp2_with fail
      rw [rounds_succ]
      have cC := bX83a0.cells
      have cR := bR83a0.cells
      have fR := bR83a0.frees
      have lR9 := bR83a0.lt
      have gR : ¬ w.heap.size + 1 = g := Blk.ne_own bR83a0 ho83a0 (by decide)
      go_wp2
      refine bodyPost_ret (v := .agg #[.int .i64 0, .int .i64 (nw + t), .slice (some ⟨g, 0, none⟩) 2 c2]) (by simp [results, Try.results25, go_sem, cR]) rfl ⟨_, rfl, .inr ⟨g, c2, rfl, hg0, ?_⟩, ?_⟩
      · simp (disch := exact gR) only [OwN.set_iff]
        simpa using ho83a0
      · simp (disch := exact ge1) only [New.set13, N83a0]
    case b3__14b =>
      go_simp
      refine (max13 0 _ _).mono ?_
      rintro e wz ⟨rfl, hwz⟩
      obtain rfl := hwz.symm
      go_simp
      refine hK.out _ _ hH (fun hL14 => ?_)
      simp only [Act.put, List.setIfInBounds_toArray, List.set_cons_zero, List.set_cons_succ]
      refine wpAnyH_ready (rs := [1, 15]) (by kernel_rfl) (by simp) (hw_step 1 (some 48) rfl rfl (by rfl) (fun K hK => ?b3_b_15a) (hw_step 15 (some 62) rfl rfl (by rfl) (fun K hK => ?b3_b_15b) (by intro j hj; cases hj)))
      case b3_b_15a =>
        have cX := (bXd.new (New.refl wd)).cells
        go_simp
        refine hK.out _ _ hH (fun hL => ?_)
        simp only [Act.put, List.setIfInBounds_toArray, List.set_cons_zero, List.set_cons_succ]
        clear cX
        refine hw_call 15 (some 62) rfl rfl (by kernel_rfl) (by rfl) (fun K hK => ?_)
        go_simp
        refine (max13 y _ _).mono ?_
        rintro e wz ⟨rfl, hwz⟩
        obtain rfl := hwz.symm
        go_simp
        refine hK.out _ _ hH (fun hL15 => ?_)
        simp only [Act.put, List.setIfInBounds_toArray, List.set_cons_zero, List.set_cons_succ]
        rw [HMq.out]
        refine hw_call 16 (some 63) rfl rfl (by kernel_rfl) (by rfl) (fun K hK => ?_)
        go_simp
        have nl := (New.refl wd).alloc (.cells #[.int .i64 (max y (nw + t + q))] 2)
        have bL : Blk (wd.alloc (.cells #[.int .i64 (max y (nw + t + q))] 2)) wd.heap.size 2 #[.int .i64 (max y (nw + t + q))] := Blk.mk _ _ _ _ rfl
        have cA := (bXd.new nl).cells 0
        refine hK.out _ _ ⟨Turn.trans hH.1 nl.turn (fun i _ e => e), cA⟩ (fun hA => ?_)
        simp only [Act.put, List.setIfInBounds_toArray, List.set_cons_zero, List.set_cons_succ]
        refine hw_call 17 (some 64) rfl rfl (by kernel_rfl) (by rfl) (fun K hK => ?_)
        refine ap13 _ (.tmp 48) (.tmp 63) rfl (.slice (some ⟨g1, 0, none⟩) 1 c1) 1 [max x (nw + t + p)] rfl (((show OwN _ g1 1 c1 [max x (nw + t + p)] by simpa using hod).new nl)) wd.heap.size (max y (nw + t + q)) rfl bL (by omega) ?_
        intro g c2 wa hoa ht hb
        have hbX := (bXd.new nl).turn ht (by intro e; have q : g1 = _ := (by simpa [Value.ownBlock] using e); omega)
        have hbR := (bRd.new nl).turn ht (by intro e; have q : g1 = _ := (by simpa [Value.ownBlock] using e); omega)
        have hbT := (bTd.new nl).turn ht (by intro e; have q : g1 = _ := (by simpa [Value.ownBlock] using e); omega)
        have hg0 : w.heap.size ≤ g := by have q0 := Nd.size; rcases hb with hb | hb; (have q : g1 = g := (by simpa [Value.ownBlock] using hb)); omega; (have q : g = wd.heap.size + 1 := (by simpa using hb)); omega
        have nn : New w wa := (Nd.trans nl).before ht (by intro i hi e; have q : g1 = i := (by simpa [Value.ownBlock] using e); omega)
        refine hK.out _ _ ⟨Turn.trans hA.1 (ht.mono (T := fun i => i = w1.heap.size ∨ i = g1) (fun i _ e => .inr (by have q : g1 = i := (by simpa [Value.ownBlock] using e); exact q.symm))) (fun i _ e => e), hbX.cells 0⟩ (fun hA2 => ?_)
        simp only [Act.put, List.setIfInBounds_toArray, List.set_cons_zero, List.set_cons_succ]
        clear bL nl
        refine' hw_take 18 (some 65) _ rfl rfl (by kernel_rfl) (by kernel_rfl) (by kernel_rfl) (fun _ _ _ h => h) (by rfl) hA2 ?hy46 ?rest46
        case hy46 =>
          intro X hX
          go_simp
          try rfl
        simp only [Act.put, List.setIfInBounds_toArray, List.set_cons_zero, List.set_cons_succ]
        refine hw_call 19 none rfl rfl (by kernel_rfl) (by rfl) (fun K hK => ?_)
        have cC := hbX.cells
        have fC := hbX.frees
        go_simp
        have tq := (Turn.refl (fun i => i = w1.heap.size) wa).set (p := ⟨w1.heap.size, 1, none⟩) rfl (.slice (some ⟨g, 0, none⟩) (1 + 1) c2)
        have gC : ¬ g = w1.heap.size := fun e => Blk.ne_own hbX hoa (by decide) e.symm
        have bX83ba1 := hbX.set 1 (.slice (some ⟨g, 0, none⟩) (1 + 1) c2)
        refine hK.out undef _ ⟨hA2.1.set (.inl rfl) _, bX83ba1.cells 0⟩ (fun hA3 => ?_)
        have bT83ba1 := hbT.turn tq (by omega)
        have bR83ba1 := hbR.turn tq (by omega)
        have ho83ba1 := hoa.turn tq gC
        have N83ba1 := nn.before tq (by intro i hi e; omega)
        refine wpAnyH_done (by kernel_rfl) ?_ _
        clear hbX hbR hbT cC fC hA3 hA2 ht hoa nn hb hH hL hA tq cA c0 bXd bRd bTd Nd hod 
        generalize wa.setCell ⟨w1.heap.size, 1, none⟩ (.slice (some ⟨g, 0, none⟩) (1 + 1) c2) = w83ba1 at *
        have z83ba1 := bX83ba1.lt
        go_wp2_with fail
        rw [rounds_succ]
        have cC := bX83ba1.cells
        have cR := bR83ba1.cells
        have fR := bR83ba1.frees
        have lR9 := bR83ba1.lt
        have gR : ¬ w.heap.size + 1 = g := Blk.ne_own bR83ba1 ho83ba1 (by decide)
        go_wp2
        refine bodyPost_ret (v := .agg #[.int .i64 0, .int .i64 (nw + t), .slice (some ⟨g, 0, none⟩) 2 c2]) (by simp [results, Try.results25, go_sem, cR]) rfl ⟨_, rfl, .inr ⟨g, c2, rfl, hg0, ?_⟩, ?_⟩
        · simp (disch := exact gR) only [OwN.set_iff]
          simpa using ho83ba1
        · simp (disch := exact ge1) only [New.set13, N83ba1]
      case b3_b_15b =>
        go_simp
        refine (max13 y _ _).mono ?_
        rintro e wz ⟨rfl, hwz⟩
        obtain rfl := hwz.symm
        go_simp
        refine hK.out _ _ hH (fun hL15 => ?_)
        simp only [Act.put, List.setIfInBounds_toArray, List.set_cons_zero, List.set_cons_succ]
        rw [HMq.out]
        refine wpAnyH_ready (rs := [1, 16]) (by kernel_rfl) (by simp) (hw_step 1 (some 48) rfl rfl (by rfl) (fun K hK => ?b3_bb_16a) (hw_step 16 (some 63) rfl rfl (by rfl) (fun K hK => ?b3_bb_16b) (by intro j hj; cases hj)))
        case b3_bb_16a =>
          have cX := (bXd.new (New.refl wd)).cells
          go_simp
          refine hK.out _ _ hH (fun hL => ?_)
          simp only [Act.put, List.setIfInBounds_toArray, List.set_cons_zero, List.set_cons_succ]
          clear cX
          refine hw_call 16 (some 63) rfl rfl (by kernel_rfl) (by rfl) (fun K hK => ?_)
          go_simp
          have nl := (New.refl wd).alloc (.cells #[.int .i64 (max y (nw + t + q))] 2)
          have bL : Blk (wd.alloc (.cells #[.int .i64 (max y (nw + t + q))] 2)) wd.heap.size 2 #[.int .i64 (max y (nw + t + q))] := Blk.mk _ _ _ _ rfl
          have cA := (bXd.new nl).cells 0
          refine hK.out _ _ ⟨Turn.trans hH.1 nl.turn (fun i _ e => e), cA⟩ (fun hA => ?_)
          simp only [Act.put, List.setIfInBounds_toArray, List.set_cons_zero, List.set_cons_succ]
          refine hw_call 17 (some 64) rfl rfl (by kernel_rfl) (by rfl) (fun K hK => ?_)
          refine ap13 _ (.tmp 48) (.tmp 63) rfl (.slice (some ⟨g1, 0, none⟩) 1 c1) 1 [max x (nw + t + p)] rfl (((show OwN _ g1 1 c1 [max x (nw + t + p)] by simpa using hod).new nl)) wd.heap.size (max y (nw + t + q)) rfl bL (by omega) ?_
          intro g c2 wa hoa ht hb
          have hbX := (bXd.new nl).turn ht (by intro e; have q : g1 = _ := (by simpa [Value.ownBlock] using e); omega)
          have hbR := (bRd.new nl).turn ht (by intro e; have q : g1 = _ := (by simpa [Value.ownBlock] using e); omega)
          have hbT := (bTd.new nl).turn ht (by intro e; have q : g1 = _ := (by simpa [Value.ownBlock] using e); omega)
          have hg0 : w.heap.size ≤ g := by have q0 := Nd.size; rcases hb with hb | hb; (have q : g1 = g := (by simpa [Value.ownBlock] using hb)); omega; (have q : g = wd.heap.size + 1 := (by simpa using hb)); omega
          have nn : New w wa := (Nd.trans nl).before ht (by intro i hi e; have q : g1 = i := (by simpa [Value.ownBlock] using e); omega)
          refine hK.out _ _ ⟨Turn.trans hA.1 (ht.mono (T := fun i => i = w1.heap.size ∨ i = g1) (fun i _ e => .inr (by have q : g1 = i := (by simpa [Value.ownBlock] using e); exact q.symm))) (fun i _ e => e), hbX.cells 0⟩ (fun hA2 => ?_)
          simp only [Act.put, List.setIfInBounds_toArray, List.set_cons_zero, List.set_cons_succ]
          clear bL nl
          refine' hw_take 18 (some 65) _ rfl rfl (by kernel_rfl) (by kernel_rfl) (by kernel_rfl) (fun _ _ _ h => h) (by rfl) hA2 ?hy47 ?rest47
          case hy47 =>
            intro X hX
            go_simp
            try rfl
          simp only [Act.put, List.setIfInBounds_toArray, List.set_cons_zero, List.set_cons_succ]
          refine hw_call 19 none rfl rfl (by kernel_rfl) (by rfl) (fun K hK => ?_)
          have cC := hbX.cells
          have fC := hbX.frees
          go_simp
          have tq := (Turn.refl (fun i => i = w1.heap.size) wa).set (p := ⟨w1.heap.size, 1, none⟩) rfl (.slice (some ⟨g, 0, none⟩) (1 + 1) c2)
          have gC : ¬ g = w1.heap.size := fun e => Blk.ne_own hbX hoa (by decide) e.symm
          have bX83bba2 := hbX.set 1 (.slice (some ⟨g, 0, none⟩) (1 + 1) c2)
          refine hK.out undef _ ⟨hA2.1.set (.inl rfl) _, bX83bba2.cells 0⟩ (fun hA3 => ?_)
          have bT83bba2 := hbT.turn tq (by omega)
          have bR83bba2 := hbR.turn tq (by omega)
          have ho83bba2 := hoa.turn tq gC
          have N83bba2 := nn.before tq (by intro i hi e; omega)
          refine wpAnyH_done (by kernel_rfl) ?_ _
          clear hbX hbR hbT cC fC hA3 hA2 ht hoa nn hb hH hL hA tq cA c0 bXd bRd bTd Nd hod 
          generalize wa.setCell ⟨w1.heap.size, 1, none⟩ (.slice (some ⟨g, 0, none⟩) (1 + 1) c2) = w83bba2 at *
          have z83bba2 := bX83bba2.lt
          go_wp2_with fail
          rw [rounds_succ]
          have cC := bX83bba2.cells
          have cR := bR83bba2.cells
          have fR := bR83bba2.frees
          have lR9 := bR83bba2.lt
          have gR : ¬ w.heap.size + 1 = g := Blk.ne_own bR83bba2 ho83bba2 (by decide)
          go_wp2
          refine bodyPost_ret (v := .agg #[.int .i64 0, .int .i64 (nw + t), .slice (some ⟨g, 0, none⟩) 2 c2]) (by simp [results, Try.results25, go_sem, cR]) rfl ⟨_, rfl, .inr ⟨g, c2, rfl, hg0, ?_⟩, ?_⟩
          · simp (disch := exact gR) only [OwN.set_iff]
            simpa using ho83bba2
          · simp (disch := exact ge1) only [New.set13, N83bba2]
        case b3_bb_16b =>
          go_simp
          have nl := (New.refl wd).alloc (.cells #[.int .i64 (max y (nw + t + q))] 2)
          have bL : Blk (wd.alloc (.cells #[.int .i64 (max y (nw + t + q))] 2)) wd.heap.size 2 #[.int .i64 (max y (nw + t + q))] := Blk.mk _ _ _ _ rfl
          have cA := (bXd.new nl).cells 0
          refine hK.out _ _ ⟨Turn.trans hH.1 nl.turn (fun i _ e => e), cA⟩ (fun hA => ?_)
          simp only [Act.put, List.setIfInBounds_toArray, List.set_cons_zero, List.set_cons_succ]
          refine hw_call 1 (some 48) rfl rfl (by kernel_rfl) (by rfl) (fun K hK => ?_)
          have cX := (bXd.new (nl)).cells
          go_simp
          refine hK.out _ _ hA (fun hL => ?_)
          simp only [Act.put, List.setIfInBounds_toArray, List.set_cons_zero, List.set_cons_succ]
          clear cX
          refine hw_call 17 (some 64) rfl rfl (by kernel_rfl) (by rfl) (fun K hK => ?_)
          refine ap13 _ (.tmp 48) (.tmp 63) rfl (.slice (some ⟨g1, 0, none⟩) 1 c1) 1 [max x (nw + t + p)] rfl (((show OwN _ g1 1 c1 [max x (nw + t + p)] by simpa using hod).new nl)) wd.heap.size (max y (nw + t + q)) rfl bL (by omega) ?_
          intro g c2 wa hoa ht hb
          have hbX := (bXd.new nl).turn ht (by intro e; have q : g1 = _ := (by simpa [Value.ownBlock] using e); omega)
          have hbR := (bRd.new nl).turn ht (by intro e; have q : g1 = _ := (by simpa [Value.ownBlock] using e); omega)
          have hbT := (bTd.new nl).turn ht (by intro e; have q : g1 = _ := (by simpa [Value.ownBlock] using e); omega)
          have hg0 : w.heap.size ≤ g := by have q0 := Nd.size; rcases hb with hb | hb; (have q : g1 = g := (by simpa [Value.ownBlock] using hb)); omega; (have q : g = wd.heap.size + 1 := (by simpa using hb)); omega
          have nn : New w wa := (Nd.trans nl).before ht (by intro i hi e; have q : g1 = i := (by simpa [Value.ownBlock] using e); omega)
          refine hK.out _ _ ⟨Turn.trans hA.1 (ht.mono (T := fun i => i = w1.heap.size ∨ i = g1) (fun i _ e => .inr (by have q : g1 = i := (by simpa [Value.ownBlock] using e); exact q.symm))) (fun i _ e => e), hbX.cells 0⟩ (fun hA2 => ?_)
          simp only [Act.put, List.setIfInBounds_toArray, List.set_cons_zero, List.set_cons_succ]
          clear bL nl
          refine' hw_take 18 (some 65) _ rfl rfl (by kernel_rfl) (by kernel_rfl) (by kernel_rfl) (fun _ _ _ h => h) (by rfl) hA2 ?hy48 ?rest48
          case hy48 =>
            intro X hX
            go_simp
            try rfl
          simp only [Act.put, List.setIfInBounds_toArray, List.set_cons_zero, List.set_cons_succ]
          refine hw_call 19 none rfl rfl (by kernel_rfl) (by rfl) (fun K hK => ?_)
          have cC := hbX.cells
          have fC := hbX.frees
          go_simp
          have tq := (Turn.refl (fun i => i = w1.heap.size) wa).set (p := ⟨w1.heap.size, 1, none⟩) rfl (.slice (some ⟨g, 0, none⟩) (1 + 1) c2)
          have gC : ¬ g = w1.heap.size := fun e => Blk.ne_own hbX hoa (by decide) e.symm
          have bX83bbb := hbX.set 1 (.slice (some ⟨g, 0, none⟩) (1 + 1) c2)
          refine hK.out undef _ ⟨hA2.1.set (.inl rfl) _, bX83bbb.cells 0⟩ (fun hA3 => ?_)
          have bT83bbb := hbT.turn tq (by omega)
          have bR83bbb := hbR.turn tq (by omega)
          have ho83bbb := hoa.turn tq gC
          have N83bbb := nn.before tq (by intro i hi e; omega)
          refine wpAnyH_done (by kernel_rfl) ?_ _
          clear hbX hbR hbT cC fC hA3 hA2 ht hoa nn hb hH hL hA tq cA c0 bXd bRd bTd Nd hod 
          generalize wa.setCell ⟨w1.heap.size, 1, none⟩ (.slice (some ⟨g, 0, none⟩) (1 + 1) c2) = w83bbb at *
          have z83bbb := bX83bbb.lt
          go_wp2_with fail
          rw [rounds_succ]
          have cC := bX83bbb.cells
          have cR := bR83bbb.cells
          have fR := bR83bbb.frees
          have lR9 := bR83bbb.lt
          have gR : ¬ w.heap.size + 1 = g := Blk.ne_own bR83bbb ho83bbb (by decide)
          go_wp2
          refine bodyPost_ret (v := .agg #[.int .i64 0, .int .i64 (nw + t), .slice (some ⟨g, 0, none⟩) 2 c2]) (by simp [results, Try.results25, go_sem, cR]) rfl ⟨_, rfl, .inr ⟨g, c2, rfl, hg0, ?_⟩, ?_⟩
          · simp (disch := exact gR) only [OwN.set_iff]
            simpa using ho83bbb
          · simp (disch := exact ge1) only [New.set13, N83bbb]
  case b2__14b =>
    go_simp
    refine (max13 0 _ _).mono ?_
    rintro e wz ⟨rfl, hwz⟩
    obtain rfl := hwz.symm
    go_simp
    refine hK.out _ _ hH (fun hL14 => ?_)
    simp only [Act.put, List.setIfInBounds_toArray, List.set_cons_zero, List.set_cons_succ]
    refine wpAnyH_ready (rs := [1, 15]) (by kernel_rfl) (by simp) (hw_step 1 (some 48) rfl rfl (by rfl) (fun K hK => ?b2_b_15a) (hw_step 15 (some 62) rfl rfl (by rfl) (fun K hK => ?b2_b_15b) (by intro j hj; cases hj)))
    case b2_b_15a =>
      have cX := (bXd.new (New.refl wd)).cells
      go_simp
      refine hK.out _ _ hH (fun hL => ?_)
      simp only [Act.put, List.setIfInBounds_toArray, List.set_cons_zero, List.set_cons_succ]
      clear cX
      refine hw_call 15 (some 62) rfl rfl (by kernel_rfl) (by rfl) (fun K hK => ?_)
      go_simp
      refine (max13 x _ _).mono ?_
      rintro e wz ⟨rfl, hwz⟩
      obtain rfl := hwz.symm
      go_simp
      refine hK.out _ _ hH (fun hL15 => ?_)
      simp only [Act.put, List.setIfInBounds_toArray, List.set_cons_zero, List.set_cons_succ]
      rw [HMp.out]
      refine hw_call 16 (some 63) rfl rfl (by kernel_rfl) (by rfl) (fun K hK => ?_)
      go_simp
      have nl := (New.refl wd).alloc (.cells #[.int .i64 (max x (nw + t + p))] 2)
      have bL : Blk (wd.alloc (.cells #[.int .i64 (max x (nw + t + p))] 2)) wd.heap.size 2 #[.int .i64 (max x (nw + t + p))] := Blk.mk _ _ _ _ rfl
      have cA := (bXd.new nl).cells 0
      refine hK.out _ _ ⟨Turn.trans hH.1 nl.turn (fun i _ e => e), cA⟩ (fun hA => ?_)
      simp only [Act.put, List.setIfInBounds_toArray, List.set_cons_zero, List.set_cons_succ]
      refine hw_call 17 (some 64) rfl rfl (by kernel_rfl) (by rfl) (fun K hK => ?_)
      refine ap13 _ (.tmp 48) (.tmp 63) rfl (.slice none 0 0) 0 [] rfl (nil13 _) wd.heap.size (max x (nw + t + p)) rfl bL (by omega) ?_
      intro g1 c1 wa hoa ht hb
      have hbX := (bXd.new nl).turn ht (by intro e; cases e)
      have hbR := (bRd.new nl).turn ht (by intro e; cases e)
      have hbT := (bTd.new nl).turn ht (by intro e; cases e)
      have hg10 : w.heap.size ≤ g1 := by have q0 := Nd.size; rcases hb with hb | hb; cases hb; (have q : g1 = wd.heap.size + 1 := (by simpa using hb)); omega
      have nn : New w wa := (Nd.trans nl).before ht (by intro i hi e; cases e)
      refine hK.out _ _ ⟨Turn.trans hA.1 (ht.mono (T := fun i => i = w1.heap.size) (fun i _ e => by cases e)) (fun i _ e => e), hbX.cells 0⟩ (fun hA2 => ?_)
      simp only [Act.put, List.setIfInBounds_toArray, List.set_cons_zero, List.set_cons_succ]
      clear bL nl
      refine' hw_take 18 (some 65) _ rfl rfl (by kernel_rfl) (by kernel_rfl) (by kernel_rfl) (fun _ _ _ h => h) (by rfl) hA2 ?hy49 ?rest49
      case hy49 =>
        intro X hX
        go_simp
        try rfl
      simp only [Act.put, List.setIfInBounds_toArray, List.set_cons_zero, List.set_cons_succ]
      refine hw_call 19 none rfl rfl (by kernel_rfl) (by rfl) (fun K hK => ?_)
      have cC := hbX.cells
      have fC := hbX.frees
      go_simp
      have tq := (Turn.refl (fun i => i = w1.heap.size) wa).set (p := ⟨w1.heap.size, 1, none⟩) rfl (.slice (some ⟨g1, 0, none⟩) (0 + 1) c1)
      have gC : ¬ g1 = w1.heap.size := fun e => Blk.ne_own hbX hoa (by decide) e.symm
      have bX62ba1 := hbX.set 1 (.slice (some ⟨g1, 0, none⟩) (0 + 1) c1)
      refine hK.out undef _ ⟨hA2.1.set rfl _, bX62ba1.cells 0⟩ (fun hA3 => ?_)
      have bT62ba1 := hbT.turn tq (by omega)
      have bR62ba1 := hbR.turn tq (by omega)
      have ho62ba1 := hoa.turn tq gC
      have N62ba1 := nn.before tq (by intro i hi e; omega)
      refine wpAnyH_done (by kernel_rfl) ?_ _
      clear hbX hbR hbT cC fC hA3 hA2 ht hoa nn hb hH hL hA tq cA c0 bXd bRd bTd Nd 
      generalize wa.setCell ⟨w1.heap.size, 1, none⟩ (.slice (some ⟨g1, 0, none⟩) (0 + 1) c1) = w62ba1 at *
      have z62ba1 := bX62ba1.lt
      go_wp2_with fail
      rw [rounds_succ]
      obtain ⟨ob', oo', e, cp, cq, -⟩ := ns13 (ho.new N62ba1)
      cases e
      go_wp2_with fail
      refine (in_yes _ _ _ _ hq).mono ?_
      rintro e wz ⟨rfl, hwz⟩
      obtain rfl := hwz.symm
      go_upto_region 14 with fail
      clear cp cq
      have g1X : ¬ w1.heap.size = g1 := Blk.ne_own bX62ba1 ho62ba1 (by decide)
      have g1R : ¬ w.heap.size + 1 = g1 := Blk.ne_own bR62ba1 ho62ba1 (by decide)
      have g1T : ¬ w.heap.size = g1 := Blk.ne_own bT62ba1 ho62ba1 (by decide)
      have c0 := (bX62ba1.new ((New.refl w62ba1).drew)).cells 0
      refine hw_start (n := 20) (S := fun X => Turn (fun i => i = w1.heap.size ∨ i = g1) w62ba1 X ∧ X.cell? ⟨w1.heap.size, 0, none⟩ = some (.int .i64 (nw + t))) rfl (by kernel_rfl) (⟨((New.refl _).drew).turn, c0⟩) (fun hH => ?_)
      have bXd := bX62ba1.new ((New.refl w62ba1).drew)
      have bRd := bR62ba1.new ((New.refl w62ba1).drew)
      have bTd := bT62ba1.new ((New.refl w62ba1).drew)
      have Nd := N62ba1.drew
      have hod := ho62ba1.new ((New.refl w62ba1).drew)
      have zd := bXd.lt
      generalize w62ba1.drew = wd at *
      refine' hw_take 0 (some 47) _ rfl rfl (by kernel_rfl) (by kernel_rfl) (by kernel_rfl) (fun _ _ _ h => h) (by rfl) hH ?hy50 ?rest50
      case hy50 =>
        intro X hX
        go_simp
        try rfl
      simp only [Act.put, List.setIfInBounds_toArray, List.set_cons_zero, List.set_cons_succ]
      refine' hw_take 2 (some 49) _ rfl rfl (by kernel_rfl) (by kernel_rfl) (by kernel_rfl) (fun _ _ _ h => h) (by rfl) hH ?hy51 ?rest51
      case hy51 =>
        intro X hX
        go_simp
        try rfl
      simp only [Act.put, List.setIfInBounds_toArray, List.set_cons_zero, List.set_cons_succ]
      refine' hw_take 3 (some 50) _ rfl rfl (by kernel_rfl) (by kernel_rfl) (by kernel_rfl) (fun _ _ _ h => h) (by rfl) hH ?hy52 ?rest52
      case hy52 =>
        intro X hX
        have cT := (bT62ba1.turn hX.1 (by omega)).cells
        go_simp
        try rfl
      simp only [Act.put, List.setIfInBounds_toArray, List.set_cons_zero, List.set_cons_succ]
      refine' hw_take 4 (some 51) _ rfl rfl (by kernel_rfl) (by kernel_rfl) (by kernel_rfl) (fun _ _ _ h => h) (by rfl) hH ?hy53 ?rest53
      case hy53 =>
        intro X hX
        go_simp
        try rfl
      simp only [Act.put, List.setIfInBounds_toArray, List.set_cons_zero, List.set_cons_succ]
      refine' hw_take 5 (some 52) _ rfl rfl (by kernel_rfl) (by kernel_rfl) (by kernel_rfl) (fun _ _ _ h => h) (by rfl) hH ?hy54 ?rest54
      case hy54 =>
        intro X hX
        go_simp
        try rfl
      simp only [Act.put, List.setIfInBounds_toArray, List.set_cons_zero, List.set_cons_succ]
      refine' hw_take 6 (some 53) _ rfl rfl (by kernel_rfl) (by kernel_rfl) (by kernel_rfl) (fun _ _ _ h => h) (by rfl) hH ?hy55 ?rest55
      case hy55 =>
        intro X hX
        obtain ⟨ib', io', e, cx, cy, -⟩ := ns13 (h.new (N62ba1.before hX.1 (by intro i hi e; omega)))
        cases e
        go_simp
        try rfl
      simp only [Act.put, List.setIfInBounds_toArray, List.set_cons_zero, List.set_cons_succ]
      refine' hw_take 7 (some 54) _ rfl rfl (by kernel_rfl) (by kernel_rfl) (by kernel_rfl) (fun _ _ _ h => h) (by rfl) hH ?hy56 ?rest56
      case hy56 =>
        intro X hX
        go_simp
        try rfl
      simp only [Act.put, List.setIfInBounds_toArray, List.set_cons_zero, List.set_cons_succ]
      refine' hw_take 8 (some 55) _ rfl rfl (by kernel_rfl) (by kernel_rfl) (by kernel_rfl) (fun _ _ _ h => h) (by rfl) hH ?hy57 ?rest57
      case hy57 =>
        intro X hX
        have cX := hX.2
        go_simp
        try rfl
      simp only [Act.put, List.setIfInBounds_toArray, List.set_cons_zero, List.set_cons_succ]
      refine' hw_take 9 (some 56) _ rfl rfl (by kernel_rfl) (by kernel_rfl) (by kernel_rfl) (fun _ _ _ h => h) (by rfl) hH ?hy58 ?rest58
      case hy58 =>
        intro X hX
        go_simp
        try rfl
      simp only [Act.put, List.setIfInBounds_toArray, List.set_cons_zero, List.set_cons_succ]
      refine' hw_take 10 (some 57) _ rfl rfl (by kernel_rfl) (by kernel_rfl) (by kernel_rfl) (fun _ _ _ h => h) (by rfl) hH ?hy59 ?rest59
      case hy59 =>
        intro X hX
        go_simp
        try rfl
      simp only [Act.put, List.setIfInBounds_toArray, List.set_cons_zero, List.set_cons_succ]
      refine' hw_take 11 (some 58) _ rfl rfl (by kernel_rfl) (by kernel_rfl) (by kernel_rfl) (fun _ _ _ h => h) (by rfl) hH ?hy60 ?rest60
      case hy60 =>
        intro X hX
        go_simp
        try rfl
      simp only [Act.put, List.setIfInBounds_toArray, List.set_cons_zero, List.set_cons_succ]
      refine' hw_take 12 (some 59) _ rfl rfl (by kernel_rfl) (by kernel_rfl) (by kernel_rfl) (fun _ _ _ h => h) (by rfl) hH ?hy61 ?rest61
      case hy61 =>
        intro X hX
        obtain ⟨ob', oo', e, cp, cq, -⟩ := ns13 (ho.new (N62ba1.before hX.1 (by intro i hi e; omega)))
        cases e
        go_simp
        try rfl
      simp only [Act.put, List.setIfInBounds_toArray, List.set_cons_zero, List.set_cons_succ]
      refine' hw_take 13 (some 60) _ rfl rfl (by kernel_rfl) (by kernel_rfl) (by kernel_rfl) (fun _ _ _ h => h) (by rfl) hH ?hy62 ?rest62
      case hy62 =>
        intro X hX
        go_simp
        try rfl
      simp only [Act.put, List.setIfInBounds_toArray, List.set_cons_zero, List.set_cons_succ]
      refine wpAnyH_ready (rs := [1, 14]) (by kernel_rfl) (by simp) (hw_step 1 (some 48) rfl rfl (by rfl) (fun K hK => ?b4__14a) (hw_step 14 (some 61) rfl rfl (by rfl) (fun K hK => ?b4__14b) (by intro j hj; cases hj)))
      case b4__14a =>
        have cX := (bXd.new (New.refl wd)).cells
        go_simp
        refine hK.out _ _ hH (fun hL => ?_)
        simp only [Act.put, List.setIfInBounds_toArray, List.set_cons_zero, List.set_cons_succ]
        clear cX
        refine hw_call 14 (some 61) rfl rfl (by kernel_rfl) (by rfl) (fun K hK => ?_)
        go_simp
        refine (max13 0 _ _).mono ?_
        rintro e wz ⟨rfl, hwz⟩
        obtain rfl := hwz.symm
        go_simp
        refine hK.out _ _ hH (fun hL14 => ?_)
        simp only [Act.put, List.setIfInBounds_toArray, List.set_cons_zero, List.set_cons_succ]
        refine hw_call 15 (some 62) rfl rfl (by kernel_rfl) (by rfl) (fun K hK => ?_)
        go_simp
        refine (max13 y _ _).mono ?_
        rintro e wz ⟨rfl, hwz⟩
        obtain rfl := hwz.symm
        go_simp
        refine hK.out _ _ hH (fun hL15 => ?_)
        simp only [Act.put, List.setIfInBounds_toArray, List.set_cons_zero, List.set_cons_succ]
        rw [HMq.out]
        refine hw_call 16 (some 63) rfl rfl (by kernel_rfl) (by rfl) (fun K hK => ?_)
        go_simp
        have nl := (New.refl wd).alloc (.cells #[.int .i64 (max y (nw + t + q))] 2)
        have bL : Blk (wd.alloc (.cells #[.int .i64 (max y (nw + t + q))] 2)) wd.heap.size 2 #[.int .i64 (max y (nw + t + q))] := Blk.mk _ _ _ _ rfl
        have cA := (bXd.new nl).cells 0
        refine hK.out _ _ ⟨Turn.trans hH.1 nl.turn (fun i _ e => e), cA⟩ (fun hA => ?_)
        simp only [Act.put, List.setIfInBounds_toArray, List.set_cons_zero, List.set_cons_succ]
        refine hw_call 17 (some 64) rfl rfl (by kernel_rfl) (by rfl) (fun K hK => ?_)
        refine ap13 _ (.tmp 48) (.tmp 63) rfl (.slice (some ⟨g1, 0, none⟩) 1 c1) 1 [max x (nw + t + p)] rfl (((show OwN _ g1 1 c1 [max x (nw + t + p)] by simpa using hod).new nl)) wd.heap.size (max y (nw + t + q)) rfl bL (by omega) ?_
        intro g c2 wa hoa ht hb
        have hbX := (bXd.new nl).turn ht (by intro e; have q : g1 = _ := (by simpa [Value.ownBlock] using e); omega)
        have hbR := (bRd.new nl).turn ht (by intro e; have q : g1 = _ := (by simpa [Value.ownBlock] using e); omega)
        have hbT := (bTd.new nl).turn ht (by intro e; have q : g1 = _ := (by simpa [Value.ownBlock] using e); omega)
        have hg0 : w.heap.size ≤ g := by have q0 := Nd.size; rcases hb with hb | hb; (have q : g1 = g := (by simpa [Value.ownBlock] using hb)); omega; (have q : g = wd.heap.size + 1 := (by simpa using hb)); omega
        have nn : New w wa := (Nd.trans nl).before ht (by intro i hi e; have q : g1 = i := (by simpa [Value.ownBlock] using e); omega)
        refine hK.out _ _ ⟨Turn.trans hA.1 (ht.mono (T := fun i => i = w1.heap.size ∨ i = g1) (fun i _ e => .inr (by have q : g1 = i := (by simpa [Value.ownBlock] using e); exact q.symm))) (fun i _ e => e), hbX.cells 0⟩ (fun hA2 => ?_)
        simp only [Act.put, List.setIfInBounds_toArray, List.set_cons_zero, List.set_cons_succ]
        clear bL nl
        refine' hw_take 18 (some 65) _ rfl rfl (by kernel_rfl) (by kernel_rfl) (by kernel_rfl) (fun _ _ _ h => h) (by rfl) hA2 ?hy63 ?rest63
        case hy63 =>
          intro X hX
          go_simp
          try rfl
        simp only [Act.put, List.setIfInBounds_toArray, List.set_cons_zero, List.set_cons_succ]
        refine hw_call 19 none rfl rfl (by kernel_rfl) (by rfl) (fun K hK => ?_)
        have cC := hbX.cells
        have fC := hbX.frees
        go_simp
        have tq := (Turn.refl (fun i => i = w1.heap.size) wa).set (p := ⟨w1.heap.size, 1, none⟩) rfl (.slice (some ⟨g, 0, none⟩) (1 + 1) c2)
        have gC : ¬ g = w1.heap.size := fun e => Blk.ne_own hbX hoa (by decide) e.symm
        have bX84a0 := hbX.set 1 (.slice (some ⟨g, 0, none⟩) (1 + 1) c2)
        refine hK.out undef _ ⟨hA2.1.set (.inl rfl) _, bX84a0.cells 0⟩ (fun hA3 => ?_)
        have bT84a0 := hbT.turn tq (by omega)
        have bR84a0 := hbR.turn tq (by omega)
        have ho84a0 := hoa.turn tq gC
        have N84a0 := nn.before tq (by intro i hi e; omega)
        refine wpAnyH_done (by kernel_rfl) ?_ _
        clear hbX hbR hbT cC fC hA3 hA2 ht hoa nn hb hH hL hA tq cA c0 bXd bRd bTd Nd hod 
        generalize wa.setCell ⟨w1.heap.size, 1, none⟩ (.slice (some ⟨g, 0, none⟩) (1 + 1) c2) = w84a0 at *
        have z84a0 := bX84a0.lt
        go_wp2_with fail
        rw [rounds_succ]
        have cC := bX84a0.cells
        have cR := bR84a0.cells
        have fR := bR84a0.frees
        have lR9 := bR84a0.lt
        have gR : ¬ w.heap.size + 1 = g := Blk.ne_own bR84a0 ho84a0 (by decide)
        go_wp2
        refine bodyPost_ret (v := .agg #[.int .i64 0, .int .i64 (nw + t), .slice (some ⟨g, 0, none⟩) 2 c2]) (by simp [results, Try.results25, go_sem, cR]) rfl ⟨_, rfl, .inr ⟨g, c2, rfl, hg0, ?_⟩, ?_⟩
        · simp (disch := exact gR) only [OwN.set_iff]
          simpa using ho84a0
        · simp (disch := exact ge1) only [New.set13, N84a0]
      case b4__14b =>
        go_simp
        refine (max13 0 _ _).mono ?_
        rintro e wz ⟨rfl, hwz⟩
        obtain rfl := hwz.symm
        go_simp
        refine hK.out _ _ hH (fun hL14 => ?_)
        simp only [Act.put, List.setIfInBounds_toArray, List.set_cons_zero, List.set_cons_succ]
        refine wpAnyH_ready (rs := [1, 15]) (by kernel_rfl) (by simp) (hw_step 1 (some 48) rfl rfl (by rfl) (fun K hK => ?b4_b_15a) (hw_step 15 (some 62) rfl rfl (by rfl) (fun K hK => ?b4_b_15b) (by intro j hj; cases hj)))
        case b4_b_15a =>
          have cX := (bXd.new (New.refl wd)).cells
          go_simp
          refine hK.out _ _ hH (fun hL => ?_)
          simp only [Act.put, List.setIfInBounds_toArray, List.set_cons_zero, List.set_cons_succ]
          clear cX
          refine hw_call 15 (some 62) rfl rfl (by kernel_rfl) (by rfl) (fun K hK => ?_)
          go_simp
          refine (max13 y _ _).mono ?_
          rintro e wz ⟨rfl, hwz⟩
          obtain rfl := hwz.symm
          go_simp
          refine hK.out _ _ hH (fun hL15 => ?_)
          simp only [Act.put, List.setIfInBounds_toArray, List.set_cons_zero, List.set_cons_succ]
          rw [HMq.out]
          refine hw_call 16 (some 63) rfl rfl (by kernel_rfl) (by rfl) (fun K hK => ?_)
          go_simp
          have nl := (New.refl wd).alloc (.cells #[.int .i64 (max y (nw + t + q))] 2)
          have bL : Blk (wd.alloc (.cells #[.int .i64 (max y (nw + t + q))] 2)) wd.heap.size 2 #[.int .i64 (max y (nw + t + q))] := Blk.mk _ _ _ _ rfl
          have cA := (bXd.new nl).cells 0
          refine hK.out _ _ ⟨Turn.trans hH.1 nl.turn (fun i _ e => e), cA⟩ (fun hA => ?_)
          simp only [Act.put, List.setIfInBounds_toArray, List.set_cons_zero, List.set_cons_succ]
          refine hw_call 17 (some 64) rfl rfl (by kernel_rfl) (by rfl) (fun K hK => ?_)
          refine ap13 _ (.tmp 48) (.tmp 63) rfl (.slice (some ⟨g1, 0, none⟩) 1 c1) 1 [max x (nw + t + p)] rfl (((show OwN _ g1 1 c1 [max x (nw + t + p)] by simpa using hod).new nl)) wd.heap.size (max y (nw + t + q)) rfl bL (by omega) ?_
          intro g c2 wa hoa ht hb
          have hbX := (bXd.new nl).turn ht (by intro e; have q : g1 = _ := (by simpa [Value.ownBlock] using e); omega)
          have hbR := (bRd.new nl).turn ht (by intro e; have q : g1 = _ := (by simpa [Value.ownBlock] using e); omega)
          have hbT := (bTd.new nl).turn ht (by intro e; have q : g1 = _ := (by simpa [Value.ownBlock] using e); omega)
          have hg0 : w.heap.size ≤ g := by have q0 := Nd.size; rcases hb with hb | hb; (have q : g1 = g := (by simpa [Value.ownBlock] using hb)); omega; (have q : g = wd.heap.size + 1 := (by simpa using hb)); omega
          have nn : New w wa := (Nd.trans nl).before ht (by intro i hi e; have q : g1 = i := (by simpa [Value.ownBlock] using e); omega)
          refine hK.out _ _ ⟨Turn.trans hA.1 (ht.mono (T := fun i => i = w1.heap.size ∨ i = g1) (fun i _ e => .inr (by have q : g1 = i := (by simpa [Value.ownBlock] using e); exact q.symm))) (fun i _ e => e), hbX.cells 0⟩ (fun hA2 => ?_)
          simp only [Act.put, List.setIfInBounds_toArray, List.set_cons_zero, List.set_cons_succ]
          clear bL nl
          refine' hw_take 18 (some 65) _ rfl rfl (by kernel_rfl) (by kernel_rfl) (by kernel_rfl) (fun _ _ _ h => h) (by rfl) hA2 ?hy64 ?rest64
          case hy64 =>
            intro X hX
            go_simp
            try rfl
          simp only [Act.put, List.setIfInBounds_toArray, List.set_cons_zero, List.set_cons_succ]
          refine hw_call 19 none rfl rfl (by kernel_rfl) (by rfl) (fun K hK => ?_)
          have cC := hbX.cells
          have fC := hbX.frees
          go_simp
          have tq := (Turn.refl (fun i => i = w1.heap.size) wa).set (p := ⟨w1.heap.size, 1, none⟩) rfl (.slice (some ⟨g, 0, none⟩) (1 + 1) c2)
          have gC : ¬ g = w1.heap.size := fun e => Blk.ne_own hbX hoa (by decide) e.symm
          have bX84ba1 := hbX.set 1 (.slice (some ⟨g, 0, none⟩) (1 + 1) c2)
          refine hK.out undef _ ⟨hA2.1.set (.inl rfl) _, bX84ba1.cells 0⟩ (fun hA3 => ?_)
          have bT84ba1 := hbT.turn tq (by omega)
          have bR84ba1 := hbR.turn tq (by omega)
          have ho84ba1 := hoa.turn tq gC
          have N84ba1 := nn.before tq (by intro i hi e; omega)
          refine wpAnyH_done (by kernel_rfl) ?_ _
          clear hbX hbR hbT cC fC hA3 hA2 ht hoa nn hb hH hL hA tq cA c0 bXd bRd bTd Nd hod 
          generalize wa.setCell ⟨w1.heap.size, 1, none⟩ (.slice (some ⟨g, 0, none⟩) (1 + 1) c2) = w84ba1 at *
          have z84ba1 := bX84ba1.lt
          go_wp2_with fail
          rw [rounds_succ]
          have cC := bX84ba1.cells
          have cR := bR84ba1.cells
          have fR := bR84ba1.frees
          have lR9 := bR84ba1.lt
          have gR : ¬ w.heap.size + 1 = g := Blk.ne_own bR84ba1 ho84ba1 (by decide)
          go_wp2
          refine bodyPost_ret (v := .agg #[.int .i64 0, .int .i64 (nw + t), .slice (some ⟨g, 0, none⟩) 2 c2]) (by simp [results, Try.results25, go_sem, cR]) rfl ⟨_, rfl, .inr ⟨g, c2, rfl, hg0, ?_⟩, ?_⟩
          · simp (disch := exact gR) only [OwN.set_iff]
            simpa using ho84ba1
          · simp (disch := exact ge1) only [New.set13, N84ba1]
        case b4_b_15b =>
          go_simp
          refine (max13 y _ _).mono ?_
          rintro e wz ⟨rfl, hwz⟩
          obtain rfl := hwz.symm
          go_simp
          refine hK.out _ _ hH (fun hL15 => ?_)
          simp only [Act.put, List.setIfInBounds_toArray, List.set_cons_zero, List.set_cons_succ]
          rw [HMq.out]
          refine wpAnyH_ready (rs := [1, 16]) (by kernel_rfl) (by simp) (hw_step 1 (some 48) rfl rfl (by rfl) (fun K hK => ?b4_bb_16a) (hw_step 16 (some 63) rfl rfl (by rfl) (fun K hK => ?b4_bb_16b) (by intro j hj; cases hj)))
          case b4_bb_16a =>
            have cX := (bXd.new (New.refl wd)).cells
            go_simp
            refine hK.out _ _ hH (fun hL => ?_)
            simp only [Act.put, List.setIfInBounds_toArray, List.set_cons_zero, List.set_cons_succ]
            clear cX
            refine hw_call 16 (some 63) rfl rfl (by kernel_rfl) (by rfl) (fun K hK => ?_)
            go_simp
            have nl := (New.refl wd).alloc (.cells #[.int .i64 (max y (nw + t + q))] 2)
            have bL : Blk (wd.alloc (.cells #[.int .i64 (max y (nw + t + q))] 2)) wd.heap.size 2 #[.int .i64 (max y (nw + t + q))] := Blk.mk _ _ _ _ rfl
            have cA := (bXd.new nl).cells 0
            refine hK.out _ _ ⟨Turn.trans hH.1 nl.turn (fun i _ e => e), cA⟩ (fun hA => ?_)
            simp only [Act.put, List.setIfInBounds_toArray, List.set_cons_zero, List.set_cons_succ]
            refine hw_call 17 (some 64) rfl rfl (by kernel_rfl) (by rfl) (fun K hK => ?_)
            refine ap13 _ (.tmp 48) (.tmp 63) rfl (.slice (some ⟨g1, 0, none⟩) 1 c1) 1 [max x (nw + t + p)] rfl (((show OwN _ g1 1 c1 [max x (nw + t + p)] by simpa using hod).new nl)) wd.heap.size (max y (nw + t + q)) rfl bL (by omega) ?_
            intro g c2 wa hoa ht hb
            have hbX := (bXd.new nl).turn ht (by intro e; have q : g1 = _ := (by simpa [Value.ownBlock] using e); omega)
            have hbR := (bRd.new nl).turn ht (by intro e; have q : g1 = _ := (by simpa [Value.ownBlock] using e); omega)
            have hbT := (bTd.new nl).turn ht (by intro e; have q : g1 = _ := (by simpa [Value.ownBlock] using e); omega)
            have hg0 : w.heap.size ≤ g := by have q0 := Nd.size; rcases hb with hb | hb; (have q : g1 = g := (by simpa [Value.ownBlock] using hb)); omega; (have q : g = wd.heap.size + 1 := (by simpa using hb)); omega
            have nn : New w wa := (Nd.trans nl).before ht (by intro i hi e; have q : g1 = i := (by simpa [Value.ownBlock] using e); omega)
            refine hK.out _ _ ⟨Turn.trans hA.1 (ht.mono (T := fun i => i = w1.heap.size ∨ i = g1) (fun i _ e => .inr (by have q : g1 = i := (by simpa [Value.ownBlock] using e); exact q.symm))) (fun i _ e => e), hbX.cells 0⟩ (fun hA2 => ?_)
            simp only [Act.put, List.setIfInBounds_toArray, List.set_cons_zero, List.set_cons_succ]
            clear bL nl
            refine' hw_take 18 (some 65) _ rfl rfl (by kernel_rfl) (by kernel_rfl) (by kernel_rfl) (fun _ _ _ h => h) (by rfl) hA2 ?hy65 ?rest65
            case hy65 =>
              intro X hX
              go_simp
              try rfl
            simp only [Act.put, List.setIfInBounds_toArray, List.set_cons_zero, List.set_cons_succ]
            refine hw_call 19 none rfl rfl (by kernel_rfl) (by rfl) (fun K hK => ?_)
            have cC := hbX.cells
            have fC := hbX.frees
            go_simp
            have tq := (Turn.refl (fun i => i = w1.heap.size) wa).set (p := ⟨w1.heap.size, 1, none⟩) rfl (.slice (some ⟨g, 0, none⟩) (1 + 1) c2)
            have gC : ¬ g = w1.heap.size := fun e => Blk.ne_own hbX hoa (by decide) e.symm
            have bX84bba2 := hbX.set 1 (.slice (some ⟨g, 0, none⟩) (1 + 1) c2)
            refine hK.out undef _ ⟨hA2.1.set (.inl rfl) _, bX84bba2.cells 0⟩ (fun hA3 => ?_)
            have bT84bba2 := hbT.turn tq (by omega)
            have bR84bba2 := hbR.turn tq (by omega)
            have ho84bba2 := hoa.turn tq gC
            have N84bba2 := nn.before tq (by intro i hi e; omega)
            refine wpAnyH_done (by kernel_rfl) ?_ _
            clear hbX hbR hbT cC fC hA3 hA2 ht hoa nn hb hH hL hA tq cA c0 bXd bRd bTd Nd hod 
            generalize wa.setCell ⟨w1.heap.size, 1, none⟩ (.slice (some ⟨g, 0, none⟩) (1 + 1) c2) = w84bba2 at *
            have z84bba2 := bX84bba2.lt
            go_wp2_with fail
            rw [rounds_succ]
            have cC := bX84bba2.cells
            have cR := bR84bba2.cells
            have fR := bR84bba2.frees
            have lR9 := bR84bba2.lt
            have gR : ¬ w.heap.size + 1 = g := Blk.ne_own bR84bba2 ho84bba2 (by decide)
            go_wp2
            refine bodyPost_ret (v := .agg #[.int .i64 0, .int .i64 (nw + t), .slice (some ⟨g, 0, none⟩) 2 c2]) (by simp [results, Try.results25, go_sem, cR]) rfl ⟨_, rfl, .inr ⟨g, c2, rfl, hg0, ?_⟩, ?_⟩
            · simp (disch := exact gR) only [OwN.set_iff]
              simpa using ho84bba2
            · simp (disch := exact ge1) only [New.set13, N84bba2]
          case b4_bb_16b =>
            go_simp
            have nl := (New.refl wd).alloc (.cells #[.int .i64 (max y (nw + t + q))] 2)
            have bL : Blk (wd.alloc (.cells #[.int .i64 (max y (nw + t + q))] 2)) wd.heap.size 2 #[.int .i64 (max y (nw + t + q))] := Blk.mk _ _ _ _ rfl
            have cA := (bXd.new nl).cells 0
            refine hK.out _ _ ⟨Turn.trans hH.1 nl.turn (fun i _ e => e), cA⟩ (fun hA => ?_)
            simp only [Act.put, List.setIfInBounds_toArray, List.set_cons_zero, List.set_cons_succ]
            refine hw_call 1 (some 48) rfl rfl (by kernel_rfl) (by rfl) (fun K hK => ?_)
            have cX := (bXd.new (nl)).cells
            go_simp
            refine hK.out _ _ hA (fun hL => ?_)
            simp only [Act.put, List.setIfInBounds_toArray, List.set_cons_zero, List.set_cons_succ]
            clear cX
            refine hw_call 17 (some 64) rfl rfl (by kernel_rfl) (by rfl) (fun K hK => ?_)
            refine ap13 _ (.tmp 48) (.tmp 63) rfl (.slice (some ⟨g1, 0, none⟩) 1 c1) 1 [max x (nw + t + p)] rfl (((show OwN _ g1 1 c1 [max x (nw + t + p)] by simpa using hod).new nl)) wd.heap.size (max y (nw + t + q)) rfl bL (by omega) ?_
            intro g c2 wa hoa ht hb
            have hbX := (bXd.new nl).turn ht (by intro e; have q : g1 = _ := (by simpa [Value.ownBlock] using e); omega)
            have hbR := (bRd.new nl).turn ht (by intro e; have q : g1 = _ := (by simpa [Value.ownBlock] using e); omega)
            have hbT := (bTd.new nl).turn ht (by intro e; have q : g1 = _ := (by simpa [Value.ownBlock] using e); omega)
            have hg0 : w.heap.size ≤ g := by have q0 := Nd.size; rcases hb with hb | hb; (have q : g1 = g := (by simpa [Value.ownBlock] using hb)); omega; (have q : g = wd.heap.size + 1 := (by simpa using hb)); omega
            have nn : New w wa := (Nd.trans nl).before ht (by intro i hi e; have q : g1 = i := (by simpa [Value.ownBlock] using e); omega)
            refine hK.out _ _ ⟨Turn.trans hA.1 (ht.mono (T := fun i => i = w1.heap.size ∨ i = g1) (fun i _ e => .inr (by have q : g1 = i := (by simpa [Value.ownBlock] using e); exact q.symm))) (fun i _ e => e), hbX.cells 0⟩ (fun hA2 => ?_)
            simp only [Act.put, List.setIfInBounds_toArray, List.set_cons_zero, List.set_cons_succ]
            clear bL nl
            refine' hw_take 18 (some 65) _ rfl rfl (by kernel_rfl) (by kernel_rfl) (by kernel_rfl) (fun _ _ _ h => h) (by rfl) hA2 ?hy66 ?rest66
            case hy66 =>
              intro X hX
              go_simp
              try rfl
            simp only [Act.put, List.setIfInBounds_toArray, List.set_cons_zero, List.set_cons_succ]
            refine hw_call 19 none rfl rfl (by kernel_rfl) (by rfl) (fun K hK => ?_)
            have cC := hbX.cells
            have fC := hbX.frees
            go_simp
            have tq := (Turn.refl (fun i => i = w1.heap.size) wa).set (p := ⟨w1.heap.size, 1, none⟩) rfl (.slice (some ⟨g, 0, none⟩) (1 + 1) c2)
            have gC : ¬ g = w1.heap.size := fun e => Blk.ne_own hbX hoa (by decide) e.symm
            have bX84bbb := hbX.set 1 (.slice (some ⟨g, 0, none⟩) (1 + 1) c2)
            refine hK.out undef _ ⟨hA2.1.set (.inl rfl) _, bX84bbb.cells 0⟩ (fun hA3 => ?_)
            have bT84bbb := hbT.turn tq (by omega)
            have bR84bbb := hbR.turn tq (by omega)
            have ho84bbb := hoa.turn tq gC
            have N84bbb := nn.before tq (by intro i hi e; omega)
            refine wpAnyH_done (by kernel_rfl) ?_ _
            clear hbX hbR hbT cC fC hA3 hA2 ht hoa nn hb hH hL hA tq cA c0 bXd bRd bTd Nd hod 
            generalize wa.setCell ⟨w1.heap.size, 1, none⟩ (.slice (some ⟨g, 0, none⟩) (1 + 1) c2) = w84bbb at *
            have z84bbb := bX84bbb.lt
            go_wp2_with fail
            rw [rounds_succ]
            have cC := bX84bbb.cells
            have cR := bR84bbb.cells
            have fR := bR84bbb.frees
            have lR9 := bR84bbb.lt
            have gR : ¬ w.heap.size + 1 = g := Blk.ne_own bR84bbb ho84bbb (by decide)
            go_wp2
            refine bodyPost_ret (v := .agg #[.int .i64 0, .int .i64 (nw + t), .slice (some ⟨g, 0, none⟩) 2 c2]) (by simp [results, Try.results25, go_sem, cR]) rfl ⟨_, rfl, .inr ⟨g, c2, rfl, hg0, ?_⟩, ?_⟩
            · simp (disch := exact gR) only [OwN.set_iff]
              simpa using ho84bbb
            · simp (disch := exact ge1) only [New.set13, N84bbb]
    case b2_b_15b =>
      go_simp
      refine (max13 x _ _).mono ?_
      rintro e wz ⟨rfl, hwz⟩
      obtain rfl := hwz.symm
      go_simp
      refine hK.out _ _ hH (fun hL15 => ?_)
      simp only [Act.put, List.setIfInBounds_toArray, List.set_cons_zero, List.set_cons_succ]
      rw [HMp.out]
      refine wpAnyH_ready (rs := [1, 16]) (by kernel_rfl) (by simp) (hw_step 1 (some 48) rfl rfl (by rfl) (fun K hK => ?b2_bb_16a) (hw_step 16 (some 63) rfl rfl (by rfl) (fun K hK => ?b2_bb_16b) (by intro j hj; cases hj)))
      case b2_bb_16a =>
        have cX := (bXd.new (New.refl wd)).cells
        go_simp
        refine hK.out _ _ hH (fun hL => ?_)
        simp only [Act.put, List.setIfInBounds_toArray, List.set_cons_zero, List.set_cons_succ]
        clear cX
        refine hw_call 16 (some 63) rfl rfl (by kernel_rfl) (by rfl) (fun K hK => ?_)
        go_simp
        have nl := (New.refl wd).alloc (.cells #[.int .i64 (max x (nw + t + p))] 2)
        have bL : Blk (wd.alloc (.cells #[.int .i64 (max x (nw + t + p))] 2)) wd.heap.size 2 #[.int .i64 (max x (nw + t + p))] := Blk.mk _ _ _ _ rfl
        have cA := (bXd.new nl).cells 0
        refine hK.out _ _ ⟨Turn.trans hH.1 nl.turn (fun i _ e => e), cA⟩ (fun hA => ?_)
        simp only [Act.put, List.setIfInBounds_toArray, List.set_cons_zero, List.set_cons_succ]
        refine hw_call 17 (some 64) rfl rfl (by kernel_rfl) (by rfl) (fun K hK => ?_)
        refine ap13 _ (.tmp 48) (.tmp 63) rfl (.slice none 0 0) 0 [] rfl (nil13 _) wd.heap.size (max x (nw + t + p)) rfl bL (by omega) ?_
        intro g1 c1 wa hoa ht hb
        have hbX := (bXd.new nl).turn ht (by intro e; cases e)
        have hbR := (bRd.new nl).turn ht (by intro e; cases e)
        have hbT := (bTd.new nl).turn ht (by intro e; cases e)
        have hg10 : w.heap.size ≤ g1 := by have q0 := Nd.size; rcases hb with hb | hb; cases hb; (have q : g1 = wd.heap.size + 1 := (by simpa using hb)); omega
        have nn : New w wa := (Nd.trans nl).before ht (by intro i hi e; cases e)
        refine hK.out _ _ ⟨Turn.trans hA.1 (ht.mono (T := fun i => i = w1.heap.size) (fun i _ e => by cases e)) (fun i _ e => e), hbX.cells 0⟩ (fun hA2 => ?_)
        simp only [Act.put, List.setIfInBounds_toArray, List.set_cons_zero, List.set_cons_succ]
        clear bL nl
        refine' hw_take 18 (some 65) _ rfl rfl (by kernel_rfl) (by kernel_rfl) (by kernel_rfl) (fun _ _ _ h => h) (by rfl) hA2 ?hy67 ?rest67
        case hy67 =>
          intro X hX
          go_simp
          try rfl
        simp only [Act.put, List.setIfInBounds_toArray, List.set_cons_zero, List.set_cons_succ]
        refine hw_call 19 none rfl rfl (by kernel_rfl) (by rfl) (fun K hK => ?_)
        have cC := hbX.cells
        have fC := hbX.frees
        go_simp
        have tq := (Turn.refl (fun i => i = w1.heap.size) wa).set (p := ⟨w1.heap.size, 1, none⟩) rfl (.slice (some ⟨g1, 0, none⟩) (0 + 1) c1)
        have gC : ¬ g1 = w1.heap.size := fun e => Blk.ne_own hbX hoa (by decide) e.symm
        have bX62bba2 := hbX.set 1 (.slice (some ⟨g1, 0, none⟩) (0 + 1) c1)
        refine hK.out undef _ ⟨hA2.1.set rfl _, bX62bba2.cells 0⟩ (fun hA3 => ?_)
        have bT62bba2 := hbT.turn tq (by omega)
        have bR62bba2 := hbR.turn tq (by omega)
        have ho62bba2 := hoa.turn tq gC
        have N62bba2 := nn.before tq (by intro i hi e; omega)
        refine wpAnyH_done (by kernel_rfl) ?_ _
        clear hbX hbR hbT cC fC hA3 hA2 ht hoa nn hb hH hL hA tq cA c0 bXd bRd bTd Nd 
        generalize wa.setCell ⟨w1.heap.size, 1, none⟩ (.slice (some ⟨g1, 0, none⟩) (0 + 1) c1) = w62bba2 at *
        have z62bba2 := bX62bba2.lt
        go_wp2_with fail
        rw [rounds_succ]
        obtain ⟨ob', oo', e, cp, cq, -⟩ := ns13 (ho.new N62bba2)
        cases e
        go_wp2_with fail
        refine (in_yes _ _ _ _ hq).mono ?_
        rintro e wz ⟨rfl, hwz⟩
        obtain rfl := hwz.symm
        go_upto_region 14 with fail
        clear cp cq
        have g1X : ¬ w1.heap.size = g1 := Blk.ne_own bX62bba2 ho62bba2 (by decide)
        have g1R : ¬ w.heap.size + 1 = g1 := Blk.ne_own bR62bba2 ho62bba2 (by decide)
        have g1T : ¬ w.heap.size = g1 := Blk.ne_own bT62bba2 ho62bba2 (by decide)
        have c0 := (bX62bba2.new ((New.refl w62bba2).drew)).cells 0
        refine hw_start (n := 20) (S := fun X => Turn (fun i => i = w1.heap.size ∨ i = g1) w62bba2 X ∧ X.cell? ⟨w1.heap.size, 0, none⟩ = some (.int .i64 (nw + t))) rfl (by kernel_rfl) (⟨((New.refl _).drew).turn, c0⟩) (fun hH => ?_)
        have bXd := bX62bba2.new ((New.refl w62bba2).drew)
        have bRd := bR62bba2.new ((New.refl w62bba2).drew)
        have bTd := bT62bba2.new ((New.refl w62bba2).drew)
        have Nd := N62bba2.drew
        have hod := ho62bba2.new ((New.refl w62bba2).drew)
        have zd := bXd.lt
        generalize w62bba2.drew = wd at *
        refine' hw_take 0 (some 47) _ rfl rfl (by kernel_rfl) (by kernel_rfl) (by kernel_rfl) (fun _ _ _ h => h) (by rfl) hH ?hy68 ?rest68
        case hy68 =>
          intro X hX
          go_simp
          try rfl
        simp only [Act.put, List.setIfInBounds_toArray, List.set_cons_zero, List.set_cons_succ]
        refine' hw_take 2 (some 49) _ rfl rfl (by kernel_rfl) (by kernel_rfl) (by kernel_rfl) (fun _ _ _ h => h) (by rfl) hH ?hy69 ?rest69
        case hy69 =>
          intro X hX
          go_simp
          try rfl
        simp only [Act.put, List.setIfInBounds_toArray, List.set_cons_zero, List.set_cons_succ]
        refine' hw_take 3 (some 50) _ rfl rfl (by kernel_rfl) (by kernel_rfl) (by kernel_rfl) (fun _ _ _ h => h) (by rfl) hH ?hy70 ?rest70
        case hy70 =>
          intro X hX
          have cT := (bT62bba2.turn hX.1 (by omega)).cells
          go_simp
          try rfl
        simp only [Act.put, List.setIfInBounds_toArray, List.set_cons_zero, List.set_cons_succ]
        refine' hw_take 4 (some 51) _ rfl rfl (by kernel_rfl) (by kernel_rfl) (by kernel_rfl) (fun _ _ _ h => h) (by rfl) hH ?hy71 ?rest71
        case hy71 =>
          intro X hX
          go_simp
          try rfl
        simp only [Act.put, List.setIfInBounds_toArray, List.set_cons_zero, List.set_cons_succ]
        refine' hw_take 5 (some 52) _ rfl rfl (by kernel_rfl) (by kernel_rfl) (by kernel_rfl) (fun _ _ _ h => h) (by rfl) hH ?hy72 ?rest72
        case hy72 =>
          intro X hX
          go_simp
          try rfl
        simp only [Act.put, List.setIfInBounds_toArray, List.set_cons_zero, List.set_cons_succ]
        refine' hw_take 6 (some 53) _ rfl rfl (by kernel_rfl) (by kernel_rfl) (by kernel_rfl) (fun _ _ _ h => h) (by rfl) hH ?hy73 ?rest73
        case hy73 =>
          intro X hX
          obtain ⟨ib', io', e, cx, cy, -⟩ := ns13 (h.new (N62bba2.before hX.1 (by intro i hi e; omega)))
          cases e
          go_simp
          try rfl
        simp only [Act.put, List.setIfInBounds_toArray, List.set_cons_zero, List.set_cons_succ]
        refine' hw_take 7 (some 54) _ rfl rfl (by kernel_rfl) (by kernel_rfl) (by kernel_rfl) (fun _ _ _ h => h) (by rfl) hH ?hy74 ?rest74
        case hy74 =>
          intro X hX
          go_simp
          try rfl
        simp only [Act.put, List.setIfInBounds_toArray, List.set_cons_zero, List.set_cons_succ]
        refine' hw_take 8 (some 55) _ rfl rfl (by kernel_rfl) (by kernel_rfl) (by kernel_rfl) (fun _ _ _ h => h) (by rfl) hH ?hy75 ?rest75
        case hy75 =>
          intro X hX
          have cX := hX.2
          go_simp
          try rfl
        simp only [Act.put, List.setIfInBounds_toArray, List.set_cons_zero, List.set_cons_succ]
        refine' hw_take 9 (some 56) _ rfl rfl (by kernel_rfl) (by kernel_rfl) (by kernel_rfl) (fun _ _ _ h => h) (by rfl) hH ?hy76 ?rest76
        case hy76 =>
          intro X hX
          go_simp
          try rfl
        simp only [Act.put, List.setIfInBounds_toArray, List.set_cons_zero, List.set_cons_succ]
        refine' hw_take 10 (some 57) _ rfl rfl (by kernel_rfl) (by kernel_rfl) (by kernel_rfl) (fun _ _ _ h => h) (by rfl) hH ?hy77 ?rest77
        case hy77 =>
          intro X hX
          go_simp
          try rfl
        simp only [Act.put, List.setIfInBounds_toArray, List.set_cons_zero, List.set_cons_succ]
        refine' hw_take 11 (some 58) _ rfl rfl (by kernel_rfl) (by kernel_rfl) (by kernel_rfl) (fun _ _ _ h => h) (by rfl) hH ?hy78 ?rest78
        case hy78 =>
          intro X hX
          go_simp
          try rfl
        simp only [Act.put, List.setIfInBounds_toArray, List.set_cons_zero, List.set_cons_succ]
        refine' hw_take 12 (some 59) _ rfl rfl (by kernel_rfl) (by kernel_rfl) (by kernel_rfl) (fun _ _ _ h => h) (by rfl) hH ?hy79 ?rest79
        case hy79 =>
          intro X hX
          obtain ⟨ob', oo', e, cp, cq, -⟩ := ns13 (ho.new (N62bba2.before hX.1 (by intro i hi e; omega)))
          cases e
          go_simp
          try rfl
        simp only [Act.put, List.setIfInBounds_toArray, List.set_cons_zero, List.set_cons_succ]
        refine' hw_take 13 (some 60) _ rfl rfl (by kernel_rfl) (by kernel_rfl) (by kernel_rfl) (fun _ _ _ h => h) (by rfl) hH ?hy80 ?rest80
        case hy80 =>
          intro X hX
          go_simp
          try rfl
        simp only [Act.put, List.setIfInBounds_toArray, List.set_cons_zero, List.set_cons_succ]
        refine wpAnyH_ready (rs := [1, 14]) (by kernel_rfl) (by simp) (hw_step 1 (some 48) rfl rfl (by rfl) (fun K hK => ?b5__14a) (hw_step 14 (some 61) rfl rfl (by rfl) (fun K hK => ?b5__14b) (by intro j hj; cases hj)))
        case b5__14a =>
          have cX := (bXd.new (New.refl wd)).cells
          go_simp
          refine hK.out _ _ hH (fun hL => ?_)
          simp only [Act.put, List.setIfInBounds_toArray, List.set_cons_zero, List.set_cons_succ]
          clear cX
          refine hw_call 14 (some 61) rfl rfl (by kernel_rfl) (by rfl) (fun K hK => ?_)
          go_simp
          refine (max13 0 _ _).mono ?_
          rintro e wz ⟨rfl, hwz⟩
          obtain rfl := hwz.symm
          go_simp
          refine hK.out _ _ hH (fun hL14 => ?_)
          simp only [Act.put, List.setIfInBounds_toArray, List.set_cons_zero, List.set_cons_succ]
          refine hw_call 15 (some 62) rfl rfl (by kernel_rfl) (by rfl) (fun K hK => ?_)
          go_simp
          refine (max13 y _ _).mono ?_
          rintro e wz ⟨rfl, hwz⟩
          obtain rfl := hwz.symm
          go_simp
          refine hK.out _ _ hH (fun hL15 => ?_)
          simp only [Act.put, List.setIfInBounds_toArray, List.set_cons_zero, List.set_cons_succ]
          rw [HMq.out]
          refine hw_call 16 (some 63) rfl rfl (by kernel_rfl) (by rfl) (fun K hK => ?_)
          go_simp
          have nl := (New.refl wd).alloc (.cells #[.int .i64 (max y (nw + t + q))] 2)
          have bL : Blk (wd.alloc (.cells #[.int .i64 (max y (nw + t + q))] 2)) wd.heap.size 2 #[.int .i64 (max y (nw + t + q))] := Blk.mk _ _ _ _ rfl
          have cA := (bXd.new nl).cells 0
          refine hK.out _ _ ⟨Turn.trans hH.1 nl.turn (fun i _ e => e), cA⟩ (fun hA => ?_)
          simp only [Act.put, List.setIfInBounds_toArray, List.set_cons_zero, List.set_cons_succ]
          refine hw_call 17 (some 64) rfl rfl (by kernel_rfl) (by rfl) (fun K hK => ?_)
          refine ap13 _ (.tmp 48) (.tmp 63) rfl (.slice (some ⟨g1, 0, none⟩) 1 c1) 1 [max x (nw + t + p)] rfl (((show OwN _ g1 1 c1 [max x (nw + t + p)] by simpa using hod).new nl)) wd.heap.size (max y (nw + t + q)) rfl bL (by omega) ?_
          intro g c2 wa hoa ht hb
          have hbX := (bXd.new nl).turn ht (by intro e; have q : g1 = _ := (by simpa [Value.ownBlock] using e); omega)
          have hbR := (bRd.new nl).turn ht (by intro e; have q : g1 = _ := (by simpa [Value.ownBlock] using e); omega)
          have hbT := (bTd.new nl).turn ht (by intro e; have q : g1 = _ := (by simpa [Value.ownBlock] using e); omega)
          have hg0 : w.heap.size ≤ g := by have q0 := Nd.size; rcases hb with hb | hb; (have q : g1 = g := (by simpa [Value.ownBlock] using hb)); omega; (have q : g = wd.heap.size + 1 := (by simpa using hb)); omega
          have nn : New w wa := (Nd.trans nl).before ht (by intro i hi e; have q : g1 = i := (by simpa [Value.ownBlock] using e); omega)
          refine hK.out _ _ ⟨Turn.trans hA.1 (ht.mono (T := fun i => i = w1.heap.size ∨ i = g1) (fun i _ e => .inr (by have q : g1 = i := (by simpa [Value.ownBlock] using e); exact q.symm))) (fun i _ e => e), hbX.cells 0⟩ (fun hA2 => ?_)
          simp only [Act.put, List.setIfInBounds_toArray, List.set_cons_zero, List.set_cons_succ]
          clear bL nl
          refine' hw_take 18 (some 65) _ rfl rfl (by kernel_rfl) (by kernel_rfl) (by kernel_rfl) (fun _ _ _ h => h) (by rfl) hA2 ?hy81 ?rest81
          case hy81 =>
            intro X hX
            go_simp
            try rfl
          simp only [Act.put, List.setIfInBounds_toArray, List.set_cons_zero, List.set_cons_succ]
          refine hw_call 19 none rfl rfl (by kernel_rfl) (by rfl) (fun K hK => ?_)
          have cC := hbX.cells
          have fC := hbX.frees
          go_simp
          have tq := (Turn.refl (fun i => i = w1.heap.size) wa).set (p := ⟨w1.heap.size, 1, none⟩) rfl (.slice (some ⟨g, 0, none⟩) (1 + 1) c2)
          have gC : ¬ g = w1.heap.size := fun e => Blk.ne_own hbX hoa (by decide) e.symm
          have bX85a0 := hbX.set 1 (.slice (some ⟨g, 0, none⟩) (1 + 1) c2)
          refine hK.out undef _ ⟨hA2.1.set (.inl rfl) _, bX85a0.cells 0⟩ (fun hA3 => ?_)
          have bT85a0 := hbT.turn tq (by omega)
          have bR85a0 := hbR.turn tq (by omega)
          have ho85a0 := hoa.turn tq gC
          have N85a0 := nn.before tq (by intro i hi e; omega)
          refine wpAnyH_done (by kernel_rfl) ?_ _
          clear hbX hbR hbT cC fC hA3 hA2 ht hoa nn hb hH hL hA tq cA c0 bXd bRd bTd Nd hod 
          generalize wa.setCell ⟨w1.heap.size, 1, none⟩ (.slice (some ⟨g, 0, none⟩) (1 + 1) c2) = w85a0 at *
          have z85a0 := bX85a0.lt
          go_wp2_with fail
          rw [rounds_succ]
          have cC := bX85a0.cells
          have cR := bR85a0.cells
          have fR := bR85a0.frees
          have lR9 := bR85a0.lt
          have gR : ¬ w.heap.size + 1 = g := Blk.ne_own bR85a0 ho85a0 (by decide)
          go_wp2
          refine bodyPost_ret (v := .agg #[.int .i64 0, .int .i64 (nw + t), .slice (some ⟨g, 0, none⟩) 2 c2]) (by simp [results, Try.results25, go_sem, cR]) rfl ⟨_, rfl, .inr ⟨g, c2, rfl, hg0, ?_⟩, ?_⟩
          · simp (disch := exact gR) only [OwN.set_iff]
            simpa using ho85a0
          · simp (disch := exact ge1) only [New.set13, N85a0]
        case b5__14b =>
          go_simp
          refine (max13 0 _ _).mono ?_
          rintro e wz ⟨rfl, hwz⟩
          obtain rfl := hwz.symm
          go_simp
          refine hK.out _ _ hH (fun hL14 => ?_)
          simp only [Act.put, List.setIfInBounds_toArray, List.set_cons_zero, List.set_cons_succ]
          refine wpAnyH_ready (rs := [1, 15]) (by kernel_rfl) (by simp) (hw_step 1 (some 48) rfl rfl (by rfl) (fun K hK => ?b5_b_15a) (hw_step 15 (some 62) rfl rfl (by rfl) (fun K hK => ?b5_b_15b) (by intro j hj; cases hj)))
          case b5_b_15a =>
            have cX := (bXd.new (New.refl wd)).cells
            go_simp
            refine hK.out _ _ hH (fun hL => ?_)
            simp only [Act.put, List.setIfInBounds_toArray, List.set_cons_zero, List.set_cons_succ]
            clear cX
            refine hw_call 15 (some 62) rfl rfl (by kernel_rfl) (by rfl) (fun K hK => ?_)
            go_simp
            refine (max13 y _ _).mono ?_
            rintro e wz ⟨rfl, hwz⟩
            obtain rfl := hwz.symm
            go_simp
            refine hK.out _ _ hH (fun hL15 => ?_)
            simp only [Act.put, List.setIfInBounds_toArray, List.set_cons_zero, List.set_cons_succ]
            rw [HMq.out]
            refine hw_call 16 (some 63) rfl rfl (by kernel_rfl) (by rfl) (fun K hK => ?_)
            go_simp
            have nl := (New.refl wd).alloc (.cells #[.int .i64 (max y (nw + t + q))] 2)
            have bL : Blk (wd.alloc (.cells #[.int .i64 (max y (nw + t + q))] 2)) wd.heap.size 2 #[.int .i64 (max y (nw + t + q))] := Blk.mk _ _ _ _ rfl
            have cA := (bXd.new nl).cells 0
            refine hK.out _ _ ⟨Turn.trans hH.1 nl.turn (fun i _ e => e), cA⟩ (fun hA => ?_)
            simp only [Act.put, List.setIfInBounds_toArray, List.set_cons_zero, List.set_cons_succ]
            refine hw_call 17 (some 64) rfl rfl (by kernel_rfl) (by rfl) (fun K hK => ?_)
            refine ap13 _ (.tmp 48) (.tmp 63) rfl (.slice (some ⟨g1, 0, none⟩) 1 c1) 1 [max x (nw + t + p)] rfl (((show OwN _ g1 1 c1 [max x (nw + t + p)] by simpa using hod).new nl)) wd.heap.size (max y (nw + t + q)) rfl bL (by omega) ?_
            intro g c2 wa hoa ht hb
            have hbX := (bXd.new nl).turn ht (by intro e; have q : g1 = _ := (by simpa [Value.ownBlock] using e); omega)
            have hbR := (bRd.new nl).turn ht (by intro e; have q : g1 = _ := (by simpa [Value.ownBlock] using e); omega)
            have hbT := (bTd.new nl).turn ht (by intro e; have q : g1 = _ := (by simpa [Value.ownBlock] using e); omega)
            have hg0 : w.heap.size ≤ g := by have q0 := Nd.size; rcases hb with hb | hb; (have q : g1 = g := (by simpa [Value.ownBlock] using hb)); omega; (have q : g = wd.heap.size + 1 := (by simpa using hb)); omega
            have nn : New w wa := (Nd.trans nl).before ht (by intro i hi e; have q : g1 = i := (by simpa [Value.ownBlock] using e); omega)
            refine hK.out _ _ ⟨Turn.trans hA.1 (ht.mono (T := fun i => i = w1.heap.size ∨ i = g1) (fun i _ e => .inr (by have q : g1 = i := (by simpa [Value.ownBlock] using e); exact q.symm))) (fun i _ e => e), hbX.cells 0⟩ (fun hA2 => ?_)
            simp only [Act.put, List.setIfInBounds_toArray, List.set_cons_zero, List.set_cons_succ]
            clear bL nl
            refine' hw_take 18 (some 65) _ rfl rfl (by kernel_rfl) (by kernel_rfl) (by kernel_rfl) (fun _ _ _ h => h) (by rfl) hA2 ?hy82 ?rest82
            case hy82 =>
              intro X hX
              go_simp
              try rfl
            simp only [Act.put, List.setIfInBounds_toArray, List.set_cons_zero, List.set_cons_succ]
            refine hw_call 19 none rfl rfl (by kernel_rfl) (by rfl) (fun K hK => ?_)
            have cC := hbX.cells
            have fC := hbX.frees
            go_simp
            have tq := (Turn.refl (fun i => i = w1.heap.size) wa).set (p := ⟨w1.heap.size, 1, none⟩) rfl (.slice (some ⟨g, 0, none⟩) (1 + 1) c2)
            have gC : ¬ g = w1.heap.size := fun e => Blk.ne_own hbX hoa (by decide) e.symm
            have bX85ba1 := hbX.set 1 (.slice (some ⟨g, 0, none⟩) (1 + 1) c2)
            refine hK.out undef _ ⟨hA2.1.set (.inl rfl) _, bX85ba1.cells 0⟩ (fun hA3 => ?_)
            have bT85ba1 := hbT.turn tq (by omega)
            have bR85ba1 := hbR.turn tq (by omega)
            have ho85ba1 := hoa.turn tq gC
            have N85ba1 := nn.before tq (by intro i hi e; omega)
            refine wpAnyH_done (by kernel_rfl) ?_ _
            clear hbX hbR hbT cC fC hA3 hA2 ht hoa nn hb hH hL hA tq cA c0 bXd bRd bTd Nd hod 
            generalize wa.setCell ⟨w1.heap.size, 1, none⟩ (.slice (some ⟨g, 0, none⟩) (1 + 1) c2) = w85ba1 at *
            have z85ba1 := bX85ba1.lt
            go_wp2_with fail
            rw [rounds_succ]
            have cC := bX85ba1.cells
            have cR := bR85ba1.cells
            have fR := bR85ba1.frees
            have lR9 := bR85ba1.lt
            have gR : ¬ w.heap.size + 1 = g := Blk.ne_own bR85ba1 ho85ba1 (by decide)
            go_wp2
            refine bodyPost_ret (v := .agg #[.int .i64 0, .int .i64 (nw + t), .slice (some ⟨g, 0, none⟩) 2 c2]) (by simp [results, Try.results25, go_sem, cR]) rfl ⟨_, rfl, .inr ⟨g, c2, rfl, hg0, ?_⟩, ?_⟩
            · simp (disch := exact gR) only [OwN.set_iff]
              simpa using ho85ba1
            · simp (disch := exact ge1) only [New.set13, N85ba1]
          case b5_b_15b =>
            go_simp
            refine (max13 y _ _).mono ?_
            rintro e wz ⟨rfl, hwz⟩
            obtain rfl := hwz.symm
            go_simp
            refine hK.out _ _ hH (fun hL15 => ?_)
            simp only [Act.put, List.setIfInBounds_toArray, List.set_cons_zero, List.set_cons_succ]
            rw [HMq.out]
            refine wpAnyH_ready (rs := [1, 16]) (by kernel_rfl) (by simp) (hw_step 1 (some 48) rfl rfl (by rfl) (fun K hK => ?b5_bb_16a) (hw_step 16 (some 63) rfl rfl (by rfl) (fun K hK => ?b5_bb_16b) (by intro j hj; cases hj)))
            case b5_bb_16a =>
              have cX := (bXd.new (New.refl wd)).cells
              go_simp
              refine hK.out _ _ hH (fun hL => ?_)
              simp only [Act.put, List.setIfInBounds_toArray, List.set_cons_zero, List.set_cons_succ]
              clear cX
              refine hw_call 16 (some 63) rfl rfl (by kernel_rfl) (by rfl) (fun K hK => ?_)
              go_simp
              have nl := (New.refl wd).alloc (.cells #[.int .i64 (max y (nw + t + q))] 2)
              have bL : Blk (wd.alloc (.cells #[.int .i64 (max y (nw + t + q))] 2)) wd.heap.size 2 #[.int .i64 (max y (nw + t + q))] := Blk.mk _ _ _ _ rfl
              have cA := (bXd.new nl).cells 0
              refine hK.out _ _ ⟨Turn.trans hH.1 nl.turn (fun i _ e => e), cA⟩ (fun hA => ?_)
              simp only [Act.put, List.setIfInBounds_toArray, List.set_cons_zero, List.set_cons_succ]
              refine hw_call 17 (some 64) rfl rfl (by kernel_rfl) (by rfl) (fun K hK => ?_)
              refine ap13 _ (.tmp 48) (.tmp 63) rfl (.slice (some ⟨g1, 0, none⟩) 1 c1) 1 [max x (nw + t + p)] rfl (((show OwN _ g1 1 c1 [max x (nw + t + p)] by simpa using hod).new nl)) wd.heap.size (max y (nw + t + q)) rfl bL (by omega) ?_
              intro g c2 wa hoa ht hb
              have hbX := (bXd.new nl).turn ht (by intro e; have q : g1 = _ := (by simpa [Value.ownBlock] using e); omega)
              have hbR := (bRd.new nl).turn ht (by intro e; have q : g1 = _ := (by simpa [Value.ownBlock] using e); omega)
              have hbT := (bTd.new nl).turn ht (by intro e; have q : g1 = _ := (by simpa [Value.ownBlock] using e); omega)
              have hg0 : w.heap.size ≤ g := by have q0 := Nd.size; rcases hb with hb | hb; (have q : g1 = g := (by simpa [Value.ownBlock] using hb)); omega; (have q : g = wd.heap.size + 1 := (by simpa using hb)); omega
              have nn : New w wa := (Nd.trans nl).before ht (by intro i hi e; have q : g1 = i := (by simpa [Value.ownBlock] using e); omega)
              refine hK.out _ _ ⟨Turn.trans hA.1 (ht.mono (T := fun i => i = w1.heap.size ∨ i = g1) (fun i _ e => .inr (by have q : g1 = i := (by simpa [Value.ownBlock] using e); exact q.symm))) (fun i _ e => e), hbX.cells 0⟩ (fun hA2 => ?_)
              simp only [Act.put, List.setIfInBounds_toArray, List.set_cons_zero, List.set_cons_succ]
              clear bL nl
              refine' hw_take 18 (some 65) _ rfl rfl (by kernel_rfl) (by kernel_rfl) (by kernel_rfl) (fun _ _ _ h => h) (by rfl) hA2 ?hy83 ?rest83
              case hy83 =>
                intro X hX
                go_simp
                try rfl
              simp only [Act.put, List.setIfInBounds_toArray, List.set_cons_zero, List.set_cons_succ]
              refine hw_call 19 none rfl rfl (by kernel_rfl) (by rfl) (fun K hK => ?_)
              have cC := hbX.cells
              have fC := hbX.frees
              go_simp
              have tq := (Turn.refl (fun i => i = w1.heap.size) wa).set (p := ⟨w1.heap.size, 1, none⟩) rfl (.slice (some ⟨g, 0, none⟩) (1 + 1) c2)
              have gC : ¬ g = w1.heap.size := fun e => Blk.ne_own hbX hoa (by decide) e.symm
              have bX85bba2 := hbX.set 1 (.slice (some ⟨g, 0, none⟩) (1 + 1) c2)
              refine hK.out undef _ ⟨hA2.1.set (.inl rfl) _, bX85bba2.cells 0⟩ (fun hA3 => ?_)
              have bT85bba2 := hbT.turn tq (by omega)
              have bR85bba2 := hbR.turn tq (by omega)
              have ho85bba2 := hoa.turn tq gC
              have N85bba2 := nn.before tq (by intro i hi e; omega)
              refine wpAnyH_done (by kernel_rfl) ?_ _
              clear hbX hbR hbT cC fC hA3 hA2 ht hoa nn hb hH hL hA tq cA c0 bXd bRd bTd Nd hod 
              generalize wa.setCell ⟨w1.heap.size, 1, none⟩ (.slice (some ⟨g, 0, none⟩) (1 + 1) c2) = w85bba2 at *
              have z85bba2 := bX85bba2.lt
              go_wp2_with fail
              rw [rounds_succ]
              have cC := bX85bba2.cells
              have cR := bR85bba2.cells
              have fR := bR85bba2.frees
              have lR9 := bR85bba2.lt
              have gR : ¬ w.heap.size + 1 = g := Blk.ne_own bR85bba2 ho85bba2 (by decide)
              go_wp2
              refine bodyPost_ret (v := .agg #[.int .i64 0, .int .i64 (nw + t), .slice (some ⟨g, 0, none⟩) 2 c2]) (by simp [results, Try.results25, go_sem, cR]) rfl ⟨_, rfl, .inr ⟨g, c2, rfl, hg0, ?_⟩, ?_⟩
              · simp (disch := exact gR) only [OwN.set_iff]
                simpa using ho85bba2
              · simp (disch := exact ge1) only [New.set13, N85bba2]
            case b5_bb_16b =>
              go_simp
              have nl := (New.refl wd).alloc (.cells #[.int .i64 (max y (nw + t + q))] 2)
              have bL : Blk (wd.alloc (.cells #[.int .i64 (max y (nw + t + q))] 2)) wd.heap.size 2 #[.int .i64 (max y (nw + t + q))] := Blk.mk _ _ _ _ rfl
              have cA := (bXd.new nl).cells 0
              refine hK.out _ _ ⟨Turn.trans hH.1 nl.turn (fun i _ e => e), cA⟩ (fun hA => ?_)
              simp only [Act.put, List.setIfInBounds_toArray, List.set_cons_zero, List.set_cons_succ]
              refine hw_call 1 (some 48) rfl rfl (by kernel_rfl) (by rfl) (fun K hK => ?_)
              have cX := (bXd.new (nl)).cells
              go_simp
              refine hK.out _ _ hA (fun hL => ?_)
              simp only [Act.put, List.setIfInBounds_toArray, List.set_cons_zero, List.set_cons_succ]
              clear cX
              refine hw_call 17 (some 64) rfl rfl (by kernel_rfl) (by rfl) (fun K hK => ?_)
              refine ap13 _ (.tmp 48) (.tmp 63) rfl (.slice (some ⟨g1, 0, none⟩) 1 c1) 1 [max x (nw + t + p)] rfl (((show OwN _ g1 1 c1 [max x (nw + t + p)] by simpa using hod).new nl)) wd.heap.size (max y (nw + t + q)) rfl bL (by omega) ?_
              intro g c2 wa hoa ht hb
              have hbX := (bXd.new nl).turn ht (by intro e; have q : g1 = _ := (by simpa [Value.ownBlock] using e); omega)
              have hbR := (bRd.new nl).turn ht (by intro e; have q : g1 = _ := (by simpa [Value.ownBlock] using e); omega)
              have hbT := (bTd.new nl).turn ht (by intro e; have q : g1 = _ := (by simpa [Value.ownBlock] using e); omega)
              have hg0 : w.heap.size ≤ g := by have q0 := Nd.size; rcases hb with hb | hb; (have q : g1 = g := (by simpa [Value.ownBlock] using hb)); omega; (have q : g = wd.heap.size + 1 := (by simpa using hb)); omega
              have nn : New w wa := (Nd.trans nl).before ht (by intro i hi e; have q : g1 = i := (by simpa [Value.ownBlock] using e); omega)
              refine hK.out _ _ ⟨Turn.trans hA.1 (ht.mono (T := fun i => i = w1.heap.size ∨ i = g1) (fun i _ e => .inr (by have q : g1 = i := (by simpa [Value.ownBlock] using e); exact q.symm))) (fun i _ e => e), hbX.cells 0⟩ (fun hA2 => ?_)
              simp only [Act.put, List.setIfInBounds_toArray, List.set_cons_zero, List.set_cons_succ]
              clear bL nl
              refine' hw_take 18 (some 65) _ rfl rfl (by kernel_rfl) (by kernel_rfl) (by kernel_rfl) (fun _ _ _ h => h) (by rfl) hA2 ?hy84 ?rest84
              case hy84 =>
                intro X hX
                go_simp
                try rfl
              simp only [Act.put, List.setIfInBounds_toArray, List.set_cons_zero, List.set_cons_succ]
              refine hw_call 19 none rfl rfl (by kernel_rfl) (by rfl) (fun K hK => ?_)
              have cC := hbX.cells
              have fC := hbX.frees
              go_simp
              have tq := (Turn.refl (fun i => i = w1.heap.size) wa).set (p := ⟨w1.heap.size, 1, none⟩) rfl (.slice (some ⟨g, 0, none⟩) (1 + 1) c2)
              have gC : ¬ g = w1.heap.size := fun e => Blk.ne_own hbX hoa (by decide) e.symm
              have bX85bbb := hbX.set 1 (.slice (some ⟨g, 0, none⟩) (1 + 1) c2)
              refine hK.out undef _ ⟨hA2.1.set (.inl rfl) _, bX85bbb.cells 0⟩ (fun hA3 => ?_)
              have bT85bbb := hbT.turn tq (by omega)
              have bR85bbb := hbR.turn tq (by omega)
              have ho85bbb := hoa.turn tq gC
              have N85bbb := nn.before tq (by intro i hi e; omega)
              refine wpAnyH_done (by kernel_rfl) ?_ _
              clear hbX hbR hbT cC fC hA3 hA2 ht hoa nn hb hH hL hA tq cA c0 bXd bRd bTd Nd hod 
              generalize wa.setCell ⟨w1.heap.size, 1, none⟩ (.slice (some ⟨g, 0, none⟩) (1 + 1) c2) = w85bbb at *
              have z85bbb := bX85bbb.lt
              go_wp2_with fail
              rw [rounds_succ]
              have cC := bX85bbb.cells
              have cR := bR85bbb.cells
              have fR := bR85bbb.frees
              have lR9 := bR85bbb.lt
              have gR : ¬ w.heap.size + 1 = g := Blk.ne_own bR85bbb ho85bbb (by decide)
              go_wp2
              refine bodyPost_ret (v := .agg #[.int .i64 0, .int .i64 (nw + t), .slice (some ⟨g, 0, none⟩) 2 c2]) (by simp [results, Try.results25, go_sem, cR]) rfl ⟨_, rfl, .inr ⟨g, c2, rfl, hg0, ?_⟩, ?_⟩
              · simp (disch := exact gR) only [OwN.set_iff]
                simpa using ho85bbb
              · simp (disch := exact ge1) only [New.set13, N85bbb]
      case b2_bb_16b =>
        go_simp
        have nl := (New.refl wd).alloc (.cells #[.int .i64 (max x (nw + t + p))] 2)
        have bL : Blk (wd.alloc (.cells #[.int .i64 (max x (nw + t + p))] 2)) wd.heap.size 2 #[.int .i64 (max x (nw + t + p))] := Blk.mk _ _ _ _ rfl
        have cA := (bXd.new nl).cells 0
        refine hK.out _ _ ⟨Turn.trans hH.1 nl.turn (fun i _ e => e), cA⟩ (fun hA => ?_)
        simp only [Act.put, List.setIfInBounds_toArray, List.set_cons_zero, List.set_cons_succ]
        refine hw_call 1 (some 48) rfl rfl (by kernel_rfl) (by rfl) (fun K hK => ?_)
        have cX := (bXd.new (nl)).cells
        go_simp
        refine hK.out _ _ hA (fun hL => ?_)
        simp only [Act.put, List.setIfInBounds_toArray, List.set_cons_zero, List.set_cons_succ]
        clear cX
        refine hw_call 17 (some 64) rfl rfl (by kernel_rfl) (by rfl) (fun K hK => ?_)
        refine ap13 _ (.tmp 48) (.tmp 63) rfl (.slice none 0 0) 0 [] rfl (nil13 _) wd.heap.size (max x (nw + t + p)) rfl bL (by omega) ?_
        intro g1 c1 wa hoa ht hb
        have hbX := (bXd.new nl).turn ht (by intro e; cases e)
        have hbR := (bRd.new nl).turn ht (by intro e; cases e)
        have hbT := (bTd.new nl).turn ht (by intro e; cases e)
        have hg10 : w.heap.size ≤ g1 := by have q0 := Nd.size; rcases hb with hb | hb; cases hb; (have q : g1 = wd.heap.size + 1 := (by simpa using hb)); omega
        have nn : New w wa := (Nd.trans nl).before ht (by intro i hi e; cases e)
        refine hK.out _ _ ⟨Turn.trans hA.1 (ht.mono (T := fun i => i = w1.heap.size) (fun i _ e => by cases e)) (fun i _ e => e), hbX.cells 0⟩ (fun hA2 => ?_)
        simp only [Act.put, List.setIfInBounds_toArray, List.set_cons_zero, List.set_cons_succ]
        clear bL nl
        refine' hw_take 18 (some 65) _ rfl rfl (by kernel_rfl) (by kernel_rfl) (by kernel_rfl) (fun _ _ _ h => h) (by rfl) hA2 ?hy85 ?rest85
        case hy85 =>
          intro X hX
          go_simp
          try rfl
        simp only [Act.put, List.setIfInBounds_toArray, List.set_cons_zero, List.set_cons_succ]
        refine hw_call 19 none rfl rfl (by kernel_rfl) (by rfl) (fun K hK => ?_)
        have cC := hbX.cells
        have fC := hbX.frees
        go_simp
        have tq := (Turn.refl (fun i => i = w1.heap.size) wa).set (p := ⟨w1.heap.size, 1, none⟩) rfl (.slice (some ⟨g1, 0, none⟩) (0 + 1) c1)
        have gC : ¬ g1 = w1.heap.size := fun e => Blk.ne_own hbX hoa (by decide) e.symm
        have bX62bbb := hbX.set 1 (.slice (some ⟨g1, 0, none⟩) (0 + 1) c1)
        refine hK.out undef _ ⟨hA2.1.set rfl _, bX62bbb.cells 0⟩ (fun hA3 => ?_)
        have bT62bbb := hbT.turn tq (by omega)
        have bR62bbb := hbR.turn tq (by omega)
        have ho62bbb := hoa.turn tq gC
        have N62bbb := nn.before tq (by intro i hi e; omega)
        refine wpAnyH_done (by kernel_rfl) ?_ _
        clear hbX hbR hbT cC fC hA3 hA2 ht hoa nn hb hH hL hA tq cA c0 bXd bRd bTd Nd 
        generalize wa.setCell ⟨w1.heap.size, 1, none⟩ (.slice (some ⟨g1, 0, none⟩) (0 + 1) c1) = w62bbb at *
        have z62bbb := bX62bbb.lt
        go_wp2_with fail
        rw [rounds_succ]
        obtain ⟨ob', oo', e, cp, cq, -⟩ := ns13 (ho.new N62bbb)
        cases e
        go_wp2_with fail
        refine (in_yes _ _ _ _ hq).mono ?_
        rintro e wz ⟨rfl, hwz⟩
        obtain rfl := hwz.symm
        go_upto_region 14 with fail
        clear cp cq
        have g1X : ¬ w1.heap.size = g1 := Blk.ne_own bX62bbb ho62bbb (by decide)
        have g1R : ¬ w.heap.size + 1 = g1 := Blk.ne_own bR62bbb ho62bbb (by decide)
        have g1T : ¬ w.heap.size = g1 := Blk.ne_own bT62bbb ho62bbb (by decide)
        have c0 := (bX62bbb.new ((New.refl w62bbb).drew)).cells 0
        refine hw_start (n := 20) (S := fun X => Turn (fun i => i = w1.heap.size ∨ i = g1) w62bbb X ∧ X.cell? ⟨w1.heap.size, 0, none⟩ = some (.int .i64 (nw + t))) rfl (by kernel_rfl) (⟨((New.refl _).drew).turn, c0⟩) (fun hH => ?_)
        have bXd := bX62bbb.new ((New.refl w62bbb).drew)
        have bRd := bR62bbb.new ((New.refl w62bbb).drew)
        have bTd := bT62bbb.new ((New.refl w62bbb).drew)
        have Nd := N62bbb.drew
        have hod := ho62bbb.new ((New.refl w62bbb).drew)
        have zd := bXd.lt
        generalize w62bbb.drew = wd at *
        refine' hw_take 0 (some 47) _ rfl rfl (by kernel_rfl) (by kernel_rfl) (by kernel_rfl) (fun _ _ _ h => h) (by rfl) hH ?hy86 ?rest86
        case hy86 =>
          intro X hX
          go_simp
          try rfl
        simp only [Act.put, List.setIfInBounds_toArray, List.set_cons_zero, List.set_cons_succ]
        refine' hw_take 2 (some 49) _ rfl rfl (by kernel_rfl) (by kernel_rfl) (by kernel_rfl) (fun _ _ _ h => h) (by rfl) hH ?hy87 ?rest87
        case hy87 =>
          intro X hX
          go_simp
          try rfl
        simp only [Act.put, List.setIfInBounds_toArray, List.set_cons_zero, List.set_cons_succ]
        refine' hw_take 3 (some 50) _ rfl rfl (by kernel_rfl) (by kernel_rfl) (by kernel_rfl) (fun _ _ _ h => h) (by rfl) hH ?hy88 ?rest88
        case hy88 =>
          intro X hX
          have cT := (bT62bbb.turn hX.1 (by omega)).cells
          go_simp
          try rfl
        simp only [Act.put, List.setIfInBounds_toArray, List.set_cons_zero, List.set_cons_succ]
        refine' hw_take 4 (some 51) _ rfl rfl (by kernel_rfl) (by kernel_rfl) (by kernel_rfl) (fun _ _ _ h => h) (by rfl) hH ?hy89 ?rest89
        case hy89 =>
          intro X hX
          go_simp
          try rfl
        simp only [Act.put, List.setIfInBounds_toArray, List.set_cons_zero, List.set_cons_succ]
        refine' hw_take 5 (some 52) _ rfl rfl (by kernel_rfl) (by kernel_rfl) (by kernel_rfl) (fun _ _ _ h => h) (by rfl) hH ?hy90 ?rest90
        case hy90 =>
          intro X hX
          go_simp
          try rfl
        simp only [Act.put, List.setIfInBounds_toArray, List.set_cons_zero, List.set_cons_succ]
        refine' hw_take 6 (some 53) _ rfl rfl (by kernel_rfl) (by kernel_rfl) (by kernel_rfl) (fun _ _ _ h => h) (by rfl) hH ?hy91 ?rest91
        case hy91 =>
          intro X hX
          obtain ⟨ib', io', e, cx, cy, -⟩ := ns13 (h.new (N62bbb.before hX.1 (by intro i hi e; omega)))
          cases e
          go_simp
          try rfl
        simp only [Act.put, List.setIfInBounds_toArray, List.set_cons_zero, List.set_cons_succ]
        refine' hw_take 7 (some 54) _ rfl rfl (by kernel_rfl) (by kernel_rfl) (by kernel_rfl) (fun _ _ _ h => h) (by rfl) hH ?hy92 ?rest92
        case hy92 =>
          intro X hX
          go_simp
          try rfl
        simp only [Act.put, List.setIfInBounds_toArray, List.set_cons_zero, List.set_cons_succ]
        refine' hw_take 8 (some 55) _ rfl rfl (by kernel_rfl) (by kernel_rfl) (by kernel_rfl) (fun _ _ _ h => h) (by rfl) hH ?hy93 ?rest93
        case hy93 =>
          intro X hX
          have cX := hX.2
          go_simp
          try rfl
        simp only [Act.put, List.setIfInBounds_toArray, List.set_cons_zero, List.set_cons_succ]
        refine' hw_take 9 (some 56) _ rfl rfl (by kernel_rfl) (by kernel_rfl) (by kernel_rfl) (fun _ _ _ h => h) (by rfl) hH ?hy94 ?rest94
        case hy94 =>
          intro X hX
          go_simp
          try rfl
        simp only [Act.put, List.setIfInBounds_toArray, List.set_cons_zero, List.set_cons_succ]
        refine' hw_take 10 (some 57) _ rfl rfl (by kernel_rfl) (by kernel_rfl) (by kernel_rfl) (fun _ _ _ h => h) (by rfl) hH ?hy95 ?rest95
        case hy95 =>
          intro X hX
          go_simp
          try rfl
        simp only [Act.put, List.setIfInBounds_toArray, List.set_cons_zero, List.set_cons_succ]
        refine' hw_take 11 (some 58) _ rfl rfl (by kernel_rfl) (by kernel_rfl) (by kernel_rfl) (fun _ _ _ h => h) (by rfl) hH ?hy96 ?rest96
        case hy96 =>
          intro X hX
          go_simp
          try rfl
        simp only [Act.put, List.setIfInBounds_toArray, List.set_cons_zero, List.set_cons_succ]
        refine' hw_take 12 (some 59) _ rfl rfl (by kernel_rfl) (by kernel_rfl) (by kernel_rfl) (fun _ _ _ h => h) (by rfl) hH ?hy97 ?rest97
        case hy97 =>
          intro X hX
          obtain ⟨ob', oo', e, cp, cq, -⟩ := ns13 (ho.new (N62bbb.before hX.1 (by intro i hi e; omega)))
          cases e
          go_simp
          try rfl
        simp only [Act.put, List.setIfInBounds_toArray, List.set_cons_zero, List.set_cons_succ]
        refine' hw_take 13 (some 60) _ rfl rfl (by kernel_rfl) (by kernel_rfl) (by kernel_rfl) (fun _ _ _ h => h) (by rfl) hH ?hy98 ?rest98
        case hy98 =>
          intro X hX
          go_simp
          try rfl
        simp only [Act.put, List.setIfInBounds_toArray, List.set_cons_zero, List.set_cons_succ]
        refine wpAnyH_ready (rs := [1, 14]) (by kernel_rfl) (by simp) (hw_step 1 (some 48) rfl rfl (by rfl) (fun K hK => ?b6__14a) (hw_step 14 (some 61) rfl rfl (by rfl) (fun K hK => ?b6__14b) (by intro j hj; cases hj)))
        case b6__14a =>
          have cX := (bXd.new (New.refl wd)).cells
          go_simp
          refine hK.out _ _ hH (fun hL => ?_)
          simp only [Act.put, List.setIfInBounds_toArray, List.set_cons_zero, List.set_cons_succ]
          clear cX
          refine hw_call 14 (some 61) rfl rfl (by kernel_rfl) (by rfl) (fun K hK => ?_)
          go_simp
          refine (max13 0 _ _).mono ?_
          rintro e wz ⟨rfl, hwz⟩
          obtain rfl := hwz.symm
          go_simp
          refine hK.out _ _ hH (fun hL14 => ?_)
          simp only [Act.put, List.setIfInBounds_toArray, List.set_cons_zero, List.set_cons_succ]
          refine hw_call 15 (some 62) rfl rfl (by kernel_rfl) (by rfl) (fun K hK => ?_)
          go_simp
          refine (max13 y _ _).mono ?_
          rintro e wz ⟨rfl, hwz⟩
          obtain rfl := hwz.symm
          go_simp
          refine hK.out _ _ hH (fun hL15 => ?_)
          simp only [Act.put, List.setIfInBounds_toArray, List.set_cons_zero, List.set_cons_succ]
          rw [HMq.out]
          refine hw_call 16 (some 63) rfl rfl (by kernel_rfl) (by rfl) (fun K hK => ?_)
          go_simp
          have nl := (New.refl wd).alloc (.cells #[.int .i64 (max y (nw + t + q))] 2)
          have bL : Blk (wd.alloc (.cells #[.int .i64 (max y (nw + t + q))] 2)) wd.heap.size 2 #[.int .i64 (max y (nw + t + q))] := Blk.mk _ _ _ _ rfl
          have cA := (bXd.new nl).cells 0
          refine hK.out _ _ ⟨Turn.trans hH.1 nl.turn (fun i _ e => e), cA⟩ (fun hA => ?_)
          simp only [Act.put, List.setIfInBounds_toArray, List.set_cons_zero, List.set_cons_succ]
          refine hw_call 17 (some 64) rfl rfl (by kernel_rfl) (by rfl) (fun K hK => ?_)
          refine ap13 _ (.tmp 48) (.tmp 63) rfl (.slice (some ⟨g1, 0, none⟩) 1 c1) 1 [max x (nw + t + p)] rfl (((show OwN _ g1 1 c1 [max x (nw + t + p)] by simpa using hod).new nl)) wd.heap.size (max y (nw + t + q)) rfl bL (by omega) ?_
          intro g c2 wa hoa ht hb
          have hbX := (bXd.new nl).turn ht (by intro e; have q : g1 = _ := (by simpa [Value.ownBlock] using e); omega)
          have hbR := (bRd.new nl).turn ht (by intro e; have q : g1 = _ := (by simpa [Value.ownBlock] using e); omega)
          have hbT := (bTd.new nl).turn ht (by intro e; have q : g1 = _ := (by simpa [Value.ownBlock] using e); omega)
          have hg0 : w.heap.size ≤ g := by have q0 := Nd.size; rcases hb with hb | hb; (have q : g1 = g := (by simpa [Value.ownBlock] using hb)); omega; (have q : g = wd.heap.size + 1 := (by simpa using hb)); omega
          have nn : New w wa := (Nd.trans nl).before ht (by intro i hi e; have q : g1 = i := (by simpa [Value.ownBlock] using e); omega)
          refine hK.out _ _ ⟨Turn.trans hA.1 (ht.mono (T := fun i => i = w1.heap.size ∨ i = g1) (fun i _ e => .inr (by have q : g1 = i := (by simpa [Value.ownBlock] using e); exact q.symm))) (fun i _ e => e), hbX.cells 0⟩ (fun hA2 => ?_)
          simp only [Act.put, List.setIfInBounds_toArray, List.set_cons_zero, List.set_cons_succ]
          clear bL nl
          refine' hw_take 18 (some 65) _ rfl rfl (by kernel_rfl) (by kernel_rfl) (by kernel_rfl) (fun _ _ _ h => h) (by rfl) hA2 ?hy99 ?rest99
          case hy99 =>
            intro X hX
            go_simp
            try rfl
          simp only [Act.put, List.setIfInBounds_toArray, List.set_cons_zero, List.set_cons_succ]
          refine hw_call 19 none rfl rfl (by kernel_rfl) (by rfl) (fun K hK => ?_)
          have cC := hbX.cells
          have fC := hbX.frees
          go_simp
          have tq := (Turn.refl (fun i => i = w1.heap.size) wa).set (p := ⟨w1.heap.size, 1, none⟩) rfl (.slice (some ⟨g, 0, none⟩) (1 + 1) c2)
          have gC : ¬ g = w1.heap.size := fun e => Blk.ne_own hbX hoa (by decide) e.symm
          have bX86a0 := hbX.set 1 (.slice (some ⟨g, 0, none⟩) (1 + 1) c2)
          refine hK.out undef _ ⟨hA2.1.set (.inl rfl) _, bX86a0.cells 0⟩ (fun hA3 => ?_)
          have bT86a0 := hbT.turn tq (by omega)
          have bR86a0 := hbR.turn tq (by omega)
          have ho86a0 := hoa.turn tq gC
          have N86a0 := nn.before tq (by intro i hi e; omega)
          refine wpAnyH_done (by kernel_rfl) ?_ _
          clear hbX hbR hbT cC fC hA3 hA2 ht hoa nn hb hH hL hA tq cA c0 bXd bRd bTd Nd hod 
          generalize wa.setCell ⟨w1.heap.size, 1, none⟩ (.slice (some ⟨g, 0, none⟩) (1 + 1) c2) = w86a0 at *
          have z86a0 := bX86a0.lt
          go_wp2_with fail
          rw [rounds_succ]
          have cC := bX86a0.cells
          have cR := bR86a0.cells
          have fR := bR86a0.frees
          have lR9 := bR86a0.lt
          have gR : ¬ w.heap.size + 1 = g := Blk.ne_own bR86a0 ho86a0 (by decide)
          go_wp2
          refine bodyPost_ret (v := .agg #[.int .i64 0, .int .i64 (nw + t), .slice (some ⟨g, 0, none⟩) 2 c2]) (by simp [results, Try.results25, go_sem, cR]) rfl ⟨_, rfl, .inr ⟨g, c2, rfl, hg0, ?_⟩, ?_⟩
          · simp (disch := exact gR) only [OwN.set_iff]
            simpa using ho86a0
          · simp (disch := exact ge1) only [New.set13, N86a0]
        case b6__14b =>
          go_simp
          refine (max13 0 _ _).mono ?_
          rintro e wz ⟨rfl, hwz⟩
          obtain rfl := hwz.symm
          go_simp
          refine hK.out _ _ hH (fun hL14 => ?_)
          simp only [Act.put, List.setIfInBounds_toArray, List.set_cons_zero, List.set_cons_succ]
          refine wpAnyH_ready (rs := [1, 15]) (by kernel_rfl) (by simp) (hw_step 1 (some 48) rfl rfl (by rfl) (fun K hK => ?b6_b_15a) (hw_step 15 (some 62) rfl rfl (by rfl) (fun K hK => ?b6_b_15b) (by intro j hj; cases hj)))
          case b6_b_15a =>
            have cX := (bXd.new (New.refl wd)).cells
            go_simp
            refine hK.out _ _ hH (fun hL => ?_)
            simp only [Act.put, List.setIfInBounds_toArray, List.set_cons_zero, List.set_cons_succ]
            clear cX
            refine hw_call 15 (some 62) rfl rfl (by kernel_rfl) (by rfl) (fun K hK => ?_)
            go_simp
            refine (max13 y _ _).mono ?_
            rintro e wz ⟨rfl, hwz⟩
            obtain rfl := hwz.symm
            go_simp
            refine hK.out _ _ hH (fun hL15 => ?_)
            simp only [Act.put, List.setIfInBounds_toArray, List.set_cons_zero, List.set_cons_succ]
            rw [HMq.out]
            refine hw_call 16 (some 63) rfl rfl (by kernel_rfl) (by rfl) (fun K hK => ?_)
            go_simp
            have nl := (New.refl wd).alloc (.cells #[.int .i64 (max y (nw + t + q))] 2)
            have bL : Blk (wd.alloc (.cells #[.int .i64 (max y (nw + t + q))] 2)) wd.heap.size 2 #[.int .i64 (max y (nw + t + q))] := Blk.mk _ _ _ _ rfl
            have cA := (bXd.new nl).cells 0
            refine hK.out _ _ ⟨Turn.trans hH.1 nl.turn (fun i _ e => e), cA⟩ (fun hA => ?_)
            simp only [Act.put, List.setIfInBounds_toArray, List.set_cons_zero, List.set_cons_succ]
            refine hw_call 17 (some 64) rfl rfl (by kernel_rfl) (by rfl) (fun K hK => ?_)
            refine ap13 _ (.tmp 48) (.tmp 63) rfl (.slice (some ⟨g1, 0, none⟩) 1 c1) 1 [max x (nw + t + p)] rfl (((show OwN _ g1 1 c1 [max x (nw + t + p)] by simpa using hod).new nl)) wd.heap.size (max y (nw + t + q)) rfl bL (by omega) ?_
            intro g c2 wa hoa ht hb
            have hbX := (bXd.new nl).turn ht (by intro e; have q : g1 = _ := (by simpa [Value.ownBlock] using e); omega)
            have hbR := (bRd.new nl).turn ht (by intro e; have q : g1 = _ := (by simpa [Value.ownBlock] using e); omega)
            have hbT := (bTd.new nl).turn ht (by intro e; have q : g1 = _ := (by simpa [Value.ownBlock] using e); omega)
            have hg0 : w.heap.size ≤ g := by have q0 := Nd.size; rcases hb with hb | hb; (have q : g1 = g := (by simpa [Value.ownBlock] using hb)); omega; (have q : g = wd.heap.size + 1 := (by simpa using hb)); omega
            have nn : New w wa := (Nd.trans nl).before ht (by intro i hi e; have q : g1 = i := (by simpa [Value.ownBlock] using e); omega)
            refine hK.out _ _ ⟨Turn.trans hA.1 (ht.mono (T := fun i => i = w1.heap.size ∨ i = g1) (fun i _ e => .inr (by have q : g1 = i := (by simpa [Value.ownBlock] using e); exact q.symm))) (fun i _ e => e), hbX.cells 0⟩ (fun hA2 => ?_)
            simp only [Act.put, List.setIfInBounds_toArray, List.set_cons_zero, List.set_cons_succ]
            clear bL nl
            refine' hw_take 18 (some 65) _ rfl rfl (by kernel_rfl) (by kernel_rfl) (by kernel_rfl) (fun _ _ _ h => h) (by rfl) hA2 ?hy100 ?rest100
            case hy100 =>
              intro X hX
              go_simp
              try rfl
            simp only [Act.put, List.setIfInBounds_toArray, List.set_cons_zero, List.set_cons_succ]
            refine hw_call 19 none rfl rfl (by kernel_rfl) (by rfl) (fun K hK => ?_)
            have cC := hbX.cells
            have fC := hbX.frees
            go_simp
            have tq := (Turn.refl (fun i => i = w1.heap.size) wa).set (p := ⟨w1.heap.size, 1, none⟩) rfl (.slice (some ⟨g, 0, none⟩) (1 + 1) c2)
            have gC : ¬ g = w1.heap.size := fun e => Blk.ne_own hbX hoa (by decide) e.symm
            have bX86ba1 := hbX.set 1 (.slice (some ⟨g, 0, none⟩) (1 + 1) c2)
            refine hK.out undef _ ⟨hA2.1.set (.inl rfl) _, bX86ba1.cells 0⟩ (fun hA3 => ?_)
            have bT86ba1 := hbT.turn tq (by omega)
            have bR86ba1 := hbR.turn tq (by omega)
            have ho86ba1 := hoa.turn tq gC
            have N86ba1 := nn.before tq (by intro i hi e; omega)
            refine wpAnyH_done (by kernel_rfl) ?_ _
            clear hbX hbR hbT cC fC hA3 hA2 ht hoa nn hb hH hL hA tq cA c0 bXd bRd bTd Nd hod 
            generalize wa.setCell ⟨w1.heap.size, 1, none⟩ (.slice (some ⟨g, 0, none⟩) (1 + 1) c2) = w86ba1 at *
            have z86ba1 := bX86ba1.lt
            go_wp2_with fail
            rw [rounds_succ]
            have cC := bX86ba1.cells
            have cR := bR86ba1.cells
            have fR := bR86ba1.frees
            have lR9 := bR86ba1.lt
            have gR : ¬ w.heap.size + 1 = g := Blk.ne_own bR86ba1 ho86ba1 (by decide)
            go_wp2
            refine bodyPost_ret (v := .agg #[.int .i64 0, .int .i64 (nw + t), .slice (some ⟨g, 0, none⟩) 2 c2]) (by simp [results, Try.results25, go_sem, cR]) rfl ⟨_, rfl, .inr ⟨g, c2, rfl, hg0, ?_⟩, ?_⟩
            · simp (disch := exact gR) only [OwN.set_iff]
              simpa using ho86ba1
            · simp (disch := exact ge1) only [New.set13, N86ba1]
          case b6_b_15b =>
            go_simp
            refine (max13 y _ _).mono ?_
            rintro e wz ⟨rfl, hwz⟩
            obtain rfl := hwz.symm
            go_simp
            refine hK.out _ _ hH (fun hL15 => ?_)
            simp only [Act.put, List.setIfInBounds_toArray, List.set_cons_zero, List.set_cons_succ]
            rw [HMq.out]
            refine wpAnyH_ready (rs := [1, 16]) (by kernel_rfl) (by simp) (hw_step 1 (some 48) rfl rfl (by rfl) (fun K hK => ?b6_bb_16a) (hw_step 16 (some 63) rfl rfl (by rfl) (fun K hK => ?b6_bb_16b) (by intro j hj; cases hj)))
            case b6_bb_16a =>
              have cX := (bXd.new (New.refl wd)).cells
              go_simp
              refine hK.out _ _ hH (fun hL => ?_)
              simp only [Act.put, List.setIfInBounds_toArray, List.set_cons_zero, List.set_cons_succ]
              clear cX
              refine hw_call 16 (some 63) rfl rfl (by kernel_rfl) (by rfl) (fun K hK => ?_)
              go_simp
              have nl := (New.refl wd).alloc (.cells #[.int .i64 (max y (nw + t + q))] 2)
              have bL : Blk (wd.alloc (.cells #[.int .i64 (max y (nw + t + q))] 2)) wd.heap.size 2 #[.int .i64 (max y (nw + t + q))] := Blk.mk _ _ _ _ rfl
              have cA := (bXd.new nl).cells 0
              refine hK.out _ _ ⟨Turn.trans hH.1 nl.turn (fun i _ e => e), cA⟩ (fun hA => ?_)
              simp only [Act.put, List.setIfInBounds_toArray, List.set_cons_zero, List.set_cons_succ]
              refine hw_call 17 (some 64) rfl rfl (by kernel_rfl) (by rfl) (fun K hK => ?_)
              refine ap13 _ (.tmp 48) (.tmp 63) rfl (.slice (some ⟨g1, 0, none⟩) 1 c1) 1 [max x (nw + t + p)] rfl (((show OwN _ g1 1 c1 [max x (nw + t + p)] by simpa using hod).new nl)) wd.heap.size (max y (nw + t + q)) rfl bL (by omega) ?_
              intro g c2 wa hoa ht hb
              have hbX := (bXd.new nl).turn ht (by intro e; have q : g1 = _ := (by simpa [Value.ownBlock] using e); omega)
              have hbR := (bRd.new nl).turn ht (by intro e; have q : g1 = _ := (by simpa [Value.ownBlock] using e); omega)
              have hbT := (bTd.new nl).turn ht (by intro e; have q : g1 = _ := (by simpa [Value.ownBlock] using e); omega)
              have hg0 : w.heap.size ≤ g := by have q0 := Nd.size; rcases hb with hb | hb; (have q : g1 = g := (by simpa [Value.ownBlock] using hb)); omega; (have q : g = wd.heap.size + 1 := (by simpa using hb)); omega
              have nn : New w wa := (Nd.trans nl).before ht (by intro i hi e; have q : g1 = i := (by simpa [Value.ownBlock] using e); omega)
              refine hK.out _ _ ⟨Turn.trans hA.1 (ht.mono (T := fun i => i = w1.heap.size ∨ i = g1) (fun i _ e => .inr (by have q : g1 = i := (by simpa [Value.ownBlock] using e); exact q.symm))) (fun i _ e => e), hbX.cells 0⟩ (fun hA2 => ?_)
              simp only [Act.put, List.setIfInBounds_toArray, List.set_cons_zero, List.set_cons_succ]
              clear bL nl
              refine' hw_take 18 (some 65) _ rfl rfl (by kernel_rfl) (by kernel_rfl) (by kernel_rfl) (fun _ _ _ h => h) (by rfl) hA2 ?hy101 ?rest101
              case hy101 =>
                intro X hX
                go_simp
                try rfl
              simp only [Act.put, List.setIfInBounds_toArray, List.set_cons_zero, List.set_cons_succ]
              refine hw_call 19 none rfl rfl (by kernel_rfl) (by rfl) (fun K hK => ?_)
              have cC := hbX.cells
              have fC := hbX.frees
              go_simp
              have tq := (Turn.refl (fun i => i = w1.heap.size) wa).set (p := ⟨w1.heap.size, 1, none⟩) rfl (.slice (some ⟨g, 0, none⟩) (1 + 1) c2)
              have gC : ¬ g = w1.heap.size := fun e => Blk.ne_own hbX hoa (by decide) e.symm
              have bX86bba2 := hbX.set 1 (.slice (some ⟨g, 0, none⟩) (1 + 1) c2)
              refine hK.out undef _ ⟨hA2.1.set (.inl rfl) _, bX86bba2.cells 0⟩ (fun hA3 => ?_)
              have bT86bba2 := hbT.turn tq (by omega)
              have bR86bba2 := hbR.turn tq (by omega)
              have ho86bba2 := hoa.turn tq gC
              have N86bba2 := nn.before tq (by intro i hi e; omega)
              refine wpAnyH_done (by kernel_rfl) ?_ _
              clear hbX hbR hbT cC fC hA3 hA2 ht hoa nn hb hH hL hA tq cA c0 bXd bRd bTd Nd hod 
              generalize wa.setCell ⟨w1.heap.size, 1, none⟩ (.slice (some ⟨g, 0, none⟩) (1 + 1) c2) = w86bba2 at *
              have z86bba2 := bX86bba2.lt
              go_wp2_with fail
              rw [rounds_succ]
              have cC := bX86bba2.cells
              have cR := bR86bba2.cells
              have fR := bR86bba2.frees
              have lR9 := bR86bba2.lt
              have gR : ¬ w.heap.size + 1 = g := Blk.ne_own bR86bba2 ho86bba2 (by decide)
              go_wp2
              refine bodyPost_ret (v := .agg #[.int .i64 0, .int .i64 (nw + t), .slice (some ⟨g, 0, none⟩) 2 c2]) (by simp [results, Try.results25, go_sem, cR]) rfl ⟨_, rfl, .inr ⟨g, c2, rfl, hg0, ?_⟩, ?_⟩
              · simp (disch := exact gR) only [OwN.set_iff]
                simpa using ho86bba2
              · simp (disch := exact ge1) only [New.set13, N86bba2]
            case b6_bb_16b =>
              go_simp
              have nl := (New.refl wd).alloc (.cells #[.int .i64 (max y (nw + t + q))] 2)
              have bL : Blk (wd.alloc (.cells #[.int .i64 (max y (nw + t + q))] 2)) wd.heap.size 2 #[.int .i64 (max y (nw + t + q))] := Blk.mk _ _ _ _ rfl
              have cA := (bXd.new nl).cells 0
              refine hK.out _ _ ⟨Turn.trans hH.1 nl.turn (fun i _ e => e), cA⟩ (fun hA => ?_)
              simp only [Act.put, List.setIfInBounds_toArray, List.set_cons_zero, List.set_cons_succ]
              refine hw_call 1 (some 48) rfl rfl (by kernel_rfl) (by rfl) (fun K hK => ?_)
              have cX := (bXd.new (nl)).cells
              go_simp
              refine hK.out _ _ hA (fun hL => ?_)
              simp only [Act.put, List.setIfInBounds_toArray, List.set_cons_zero, List.set_cons_succ]
              clear cX
              refine hw_call 17 (some 64) rfl rfl (by kernel_rfl) (by rfl) (fun K hK => ?_)
              refine ap13 _ (.tmp 48) (.tmp 63) rfl (.slice (some ⟨g1, 0, none⟩) 1 c1) 1 [max x (nw + t + p)] rfl (((show OwN _ g1 1 c1 [max x (nw + t + p)] by simpa using hod).new nl)) wd.heap.size (max y (nw + t + q)) rfl bL (by omega) ?_
              intro g c2 wa hoa ht hb
              have hbX := (bXd.new nl).turn ht (by intro e; have q : g1 = _ := (by simpa [Value.ownBlock] using e); omega)
              have hbR := (bRd.new nl).turn ht (by intro e; have q : g1 = _ := (by simpa [Value.ownBlock] using e); omega)
              have hbT := (bTd.new nl).turn ht (by intro e; have q : g1 = _ := (by simpa [Value.ownBlock] using e); omega)
              have hg0 : w.heap.size ≤ g := by have q0 := Nd.size; rcases hb with hb | hb; (have q : g1 = g := (by simpa [Value.ownBlock] using hb)); omega; (have q : g = wd.heap.size + 1 := (by simpa using hb)); omega
              have nn : New w wa := (Nd.trans nl).before ht (by intro i hi e; have q : g1 = i := (by simpa [Value.ownBlock] using e); omega)
              refine hK.out _ _ ⟨Turn.trans hA.1 (ht.mono (T := fun i => i = w1.heap.size ∨ i = g1) (fun i _ e => .inr (by have q : g1 = i := (by simpa [Value.ownBlock] using e); exact q.symm))) (fun i _ e => e), hbX.cells 0⟩ (fun hA2 => ?_)
              simp only [Act.put, List.setIfInBounds_toArray, List.set_cons_zero, List.set_cons_succ]
              clear bL nl
              refine' hw_take 18 (some 65) _ rfl rfl (by kernel_rfl) (by kernel_rfl) (by kernel_rfl) (fun _ _ _ h => h) (by rfl) hA2 ?hy102 ?rest102
              case hy102 =>
                intro X hX
                go_simp
                try rfl
              simp only [Act.put, List.setIfInBounds_toArray, List.set_cons_zero, List.set_cons_succ]
              refine hw_call 19 none rfl rfl (by kernel_rfl) (by rfl) (fun K hK => ?_)
              have cC := hbX.cells
              have fC := hbX.frees
              go_simp
              have tq := (Turn.refl (fun i => i = w1.heap.size) wa).set (p := ⟨w1.heap.size, 1, none⟩) rfl (.slice (some ⟨g, 0, none⟩) (1 + 1) c2)
              have gC : ¬ g = w1.heap.size := fun e => Blk.ne_own hbX hoa (by decide) e.symm
              have bX86bbb := hbX.set 1 (.slice (some ⟨g, 0, none⟩) (1 + 1) c2)
              refine hK.out undef _ ⟨hA2.1.set (.inl rfl) _, bX86bbb.cells 0⟩ (fun hA3 => ?_)
              have bT86bbb := hbT.turn tq (by omega)
              have bR86bbb := hbR.turn tq (by omega)
              have ho86bbb := hoa.turn tq gC
              have N86bbb := nn.before tq (by intro i hi e; omega)
              refine wpAnyH_done (by kernel_rfl) ?_ _
              clear hbX hbR hbT cC fC hA3 hA2 ht hoa nn hb hH hL hA tq cA c0 bXd bRd bTd Nd hod 
              generalize wa.setCell ⟨w1.heap.size, 1, none⟩ (.slice (some ⟨g, 0, none⟩) (1 + 1) c2) = w86bbb at *
              have z86bbb := bX86bbb.lt
              go_wp2_with fail
              rw [rounds_succ]
              have cC := bX86bbb.cells
              have cR := bR86bbb.cells
              have fR := bR86bbb.frees
              have lR9 := bR86bbb.lt
              have gR : ¬ w.heap.size + 1 = g := Blk.ne_own bR86bbb ho86bbb (by decide)
              go_wp2
              refine bodyPost_ret (v := .agg #[.int .i64 0, .int .i64 (nw + t), .slice (some ⟨g, 0, none⟩) 2 c2]) (by simp [results, Try.results25, go_sem, cR]) rfl ⟨_, rfl, .inr ⟨g, c2, rfl, hg0, ?_⟩, ?_⟩
              · simp (disch := exact gR) only [OwN.set_iff]
                simpa using ho86bbb
              · simp (disch := exact ge1) only [New.set13, N86bbb]

theorem specTi (nw t : Int) (a oa : Option Addr) (n c m d : Nat) (xs os : List Int) (w : World) (h : NsAt w a xs) (hn : xs.length = n) (hm : n ≤ 1048576) (ho : NsAt w oa os) (hl : os.length = m) (hk : m ≤ 1048576) :
    Calls Try.prog 25 #[.agg #[.int .i64 nw, .slice a n c], .int .i64 t, .slice oa m d] w (CkAns w (tiR nw xs t os)) := by
  by_cases hf : ckF nw xs = 0
  case neg => rw [ti_bad rfl hf]; exact sTick_f nw t a oa n c m d xs os w h hn hm ho hl hk _ rfl hf
  by_cases hz : (0 ≤ t ∧ t ≤ 1000) ∧ nw + t ≤ 1000000000
  case neg => rw [ti_by hf hz]; exact sTick_b nw t a oa n c m d xs os w h hn hm ho hl hk hf hz
  obtain ⟨-, x, y, rfl, -, -⟩ := ckF_zero hf
  by_cases hx : m = 2
  case neg => rw [ti_form hf hz (by omega)]; exact sTick_m nw t a oa n c m d _ os w h hn hm ho hl hk hf hz hx
  subst hx
  obtain ⟨p, q, rfl⟩ := two13 hl
  cases hn
  by_cases hp : OfP p
  case neg =>
    rw [ti_off hf hz (fun k => hp k.1)]
    exact sTick_p nw t x y p q a oa c d w h ho hf hz hp
  by_cases hq : OfP q
  case neg =>
    rw [ti_off hf hz (fun k => hq k.2)]
    exact sTick_q nw t x y p q a oa c d w h ho hf hz hp hq
  rw [ti_ok hf hz ⟨hp, hq⟩]
  exact sTick_ok nw t x y p q a oa c d w h ho hf hz hp hq

end Go.Proofs.Ytpbmbnckdmjdhaa
