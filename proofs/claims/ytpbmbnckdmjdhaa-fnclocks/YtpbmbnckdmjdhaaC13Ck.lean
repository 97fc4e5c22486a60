/- What is proved here: what the making of a clock out of its readings answers. No condition. -/
import Derived.Test.YtpbmbnckdmjdhaaC13Fn
import Derived.Test.YtpbmbnckdmjdhaaN13Ap
namespace Go.Proofs.Ytpbmbnckdmjdhaa
open Go.RowKit
set_option linter.unusedVariables false
set_option linter.unusedSimpArgs false
set_option maxRecDepth 100000

set_option maxHeartbeats 3200000 in
theorem clkOf (nw x y : Int) (w : World) : Calls Try.prog 44 #[.agg #[.int .i64 nw, .int .i64 x, .int .i64 y]] w fun e w' => ∃ g c, e = .returned (.agg #[.int .i64 nw, .slice (some ⟨g, 0, none⟩) 2 c]) ∧ w.heap.size ≤ g ∧ OwN w' g 2 c [x, y] ∧ New w w' := by
  have N1 : New w (((w.alloc (.cells #[.int .i64 nw, .int .i64 x, .int .i64 y] 66)).alloc (.cells #[.int .i64 0, .slice none 0 0] 26)).alloc (.cells #[.int .i64 nw, .slice none 0 0] 26)) := (((New.refl w).alloc _).alloc _).alloc _
  have bX1 : Blk (((w.alloc (.cells #[.int .i64 nw, .int .i64 x, .int .i64 y] 66)).alloc (.cells #[.int .i64 0, .slice none 0 0] 26)).alloc (.cells #[.int .i64 nw, .slice none 0 0] 26)) w.heap.size 66 #[.int .i64 nw, .int .i64 x, .int .i64 y] := ((Blk.mk _ _ _ _ rfl).alloc _).alloc _
  have bR1 : Blk (((w.alloc (.cells #[.int .i64 nw, .int .i64 x, .int .i64 y] 66)).alloc (.cells #[.int .i64 0, .slice none 0 0] 26)).alloc (.cells #[.int .i64 nw, .slice none 0 0] 26)) (w.heap.size + 1) 26 #[.int .i64 0, .slice none 0 0] := (Blk.mk _ _ _ _ (by simp)).alloc _
  have bC1 : Blk (((w.alloc (.cells #[.int .i64 nw, .int .i64 x, .int .i64 y] 66)).alloc (.cells #[.int .i64 0, .slice none 0 0] 26)).alloc (.cells #[.int .i64 nw, .slice none 0 0] 26)) (w.heap.size + 1 + 1) 26 #[.int .i64 nw, .slice none 0 0] := Blk.mk _ _ _ _ (by simp)
  go_enter Try.func44, Try.ntmps44
  go_wp2
  generalize ((w.alloc (.cells #[.int .i64 nw, .int .i64 x, .int .i64 y] 66)).alloc (.cells #[.int .i64 0, .slice none 0 0] 26)).alloc (.cells #[.int .i64 nw, .slice none 0 0] 26) = w1 at *
  have z1 := bC1.lt
  refine wp_loop_rounds 3 ?_
  rw [rounds_succ]
  go_wp2_with fail
  refine hw_start (n := 10) (S := fun X => Turn (fun i => i = w.heap.size + 1 + 1) w1 X) rfl (by kernel_rfl) (((New.refl _).drew).turn) (fun hH => ?_)
  refine' hw_take 0 (some 11) _ rfl rfl (by kernel_rfl) (by kernel_rfl) (by kernel_rfl) (fun _ _ _ h => h) (by rfl) hH ?hy1 ?rest1
  case hy1 =>
    intro X hX
    go_simp
    try rfl
  simp only [Act.put, List.setIfInBounds_toArray, List.set_cons_zero, List.set_cons_succ]
  refine' hw_take 2 (some 13) _ rfl rfl (by kernel_rfl) (by kernel_rfl) (by kernel_rfl) (fun _ _ _ h => h) (by rfl) hH ?hy2 ?rest2
  case hy2 =>
    intro X hX
    go_simp
    try rfl
  simp only [Act.put, List.setIfInBounds_toArray, List.set_cons_zero, List.set_cons_succ]
  refine' hw_take 3 (some 14) _ rfl rfl (by kernel_rfl) (by kernel_rfl) (by kernel_rfl) (fun _ _ _ h => h) (by rfl) hH ?hy3 ?rest3
  case hy3 =>
    intro X hX
    go_simp
    try rfl
  simp only [Act.put, List.setIfInBounds_toArray, List.set_cons_zero, List.set_cons_succ]
  refine' hw_take 4 (some 15) _ rfl rfl (by kernel_rfl) (by kernel_rfl) (by kernel_rfl) (fun _ _ _ h => h) (by rfl) hH ?hy4 ?rest4
  case hy4 =>
    intro X hX
    go_simp
    try rfl
  simp only [Act.put, List.setIfInBounds_toArray, List.set_cons_zero, List.set_cons_succ]
  refine' hw_take 5 (some 16) _ rfl rfl (by kernel_rfl) (by kernel_rfl) (by kernel_rfl) (fun _ _ _ h => h) (by rfl) hH ?hy5 ?rest5
  case hy5 =>
    intro X hX
    have cX := (bX1.turn hX (by omega)).cells
    go_simp
    try rfl
  simp only [Act.put, List.setIfInBounds_toArray, List.set_cons_zero, List.set_cons_succ]
  refine wpAnyH_ready (rs := [1, 6]) (by kernel_rfl) (by simp) (hw_step 1 (some 12) rfl rfl (by rfl) (fun K hK => ?b11) (hw_step 6 (some 17) rfl rfl (by rfl) (fun K hK => ?b16) (by intro j hj; cases hj)))
  case b11 =>
    have cC := (bC1.new ((New.refl _).drew)).cells
    go_simp
    refine hK.out _ _ hH (fun hL => ?_)
    simp only [Act.put, List.setIfInBounds_toArray, List.set_cons_zero, List.set_cons_succ]
    clear cC
    refine hw_call 6 (some 17) rfl rfl (by kernel_rfl) (by rfl) (fun K hK => ?_)
    go_simp
    have al := ((New.refl w1).alloc (.cells #[.int .i64 x] 2)).drew
    have bL : Blk ((w1.alloc (.cells #[.int .i64 x] 2)).drew) w1.heap.size 2 #[.int .i64 x] := (Blk.mk w1 w1.heap.size 2 #[.int .i64 x] rfl).new ((New.refl _).drew)
    refine hK.out _ _ al.turn (fun hA => ?_)
    simp only [Act.put, List.setIfInBounds_toArray, List.set_cons_zero, List.set_cons_succ]
    refine hw_call 7 (some 18) rfl rfl (by kernel_rfl) (by rfl) (fun K hK => ?_)
    refine ap13 _ (.tmp 12) (.tmp 17) rfl (.slice none 0 0) 0 [] rfl (nil13 _) w1.heap.size x rfl bL (by omega) ?_
    intro g1 c1 w4a ho ht hb
    have hbX := (bX1.new al).turn ht (by intro e; cases e)
    have hbR := (bR1.new al).turn ht (by intro e; cases e)
    have hbC := (bC1.new al).turn ht (by intro e; cases e)
    have hg10 : w.heap.size ≤ g1 := by have q0 := N1.size; rcases hb with hb | hb; cases hb; (have q : g1 = w1.heap.size + 1 := (by simpa using hb)); omega
    have nn : New w w4a := (N1.trans al).before ht (by intro i hi e; cases e)
    refine hK.out _ _ ?s1a (fun hA2 => ?_)
    case s1a => exact Turn.trans al.turn (ht.mono (T := fun i => i = w.heap.size + 1 + 1) (fun i _ e => by cases e)) (fun i _ e => e)
    simp only [Act.put, List.setIfInBounds_toArray, List.set_cons_zero, List.set_cons_succ]
    clear bL al
    refine' hw_take 8 (some 19) _ rfl rfl (by kernel_rfl) (by kernel_rfl) (by kernel_rfl) (fun _ _ _ h => h) (by rfl) hA2 ?hy6 ?rest6
    case hy6 =>
      intro X hX
      go_simp
      try rfl
    simp only [Act.put, List.setIfInBounds_toArray, List.set_cons_zero, List.set_cons_succ]
    refine hw_call 9 none rfl rfl (by kernel_rfl) (by rfl) (fun K hK => ?_)
    have cC := hbC.cells
    have fC := hbC.frees
    go_simp
    refine hK.out undef _ (hA2.set rfl _) (fun hA3 => ?_)
    have gC : ¬ g1 = w.heap.size + 1 + 1 := fun e => Blk.ne_own hbC ho (by decide) e.symm
    have bX5a := hbX.turn ((Turn.refl (fun i => i = w.heap.size + 1 + 1) w4a).set (p := ⟨w.heap.size + 1 + 1, 1, none⟩) rfl (.slice (some ⟨g1, 0, none⟩) (0 + 1) c1)) (by omega)
    have bR5a := hbR.turn ((Turn.refl (fun i => i = w.heap.size + 1 + 1) w4a).set (p := ⟨w.heap.size + 1 + 1, 1, none⟩) rfl (.slice (some ⟨g1, 0, none⟩) (0 + 1) c1)) (by omega)
    have bC5a := hbC.set 1 (.slice (some ⟨g1, 0, none⟩) (0 + 1) c1)
    have ho5a := ho.turn ((Turn.refl (fun i => i = w.heap.size + 1 + 1) w4a).set (p := ⟨w.heap.size + 1 + 1, 1, none⟩) rfl (.slice (some ⟨g1, 0, none⟩) (0 + 1) c1)) gC
    have N5a := nn.setCell (p := ⟨w.heap.size + 1 + 1, 1, none⟩) (by show w.heap.size ≤ w.heap.size + 1 + 1; omega) (.slice (some ⟨g1, 0, none⟩) (0 + 1) c1)
    refine wpAnyH_done (by kernel_rfl) ?_ _
    clear hbX hbR hbC cC fC hA3 hA2 ht ho nn hb
    generalize w4a.setCell ⟨w.heap.size + 1 + 1, 1, none⟩ (.slice (some ⟨g1, 0, none⟩) (0 + 1) c1) = w5a at *
    have z5a := bC5a.lt
    go_wp2_with fail
    rw [rounds_succ]
    go_wp2_with fail
    have g1X : ¬ w.heap.size = g1 := Blk.ne_own bX5a ho5a (by decide)
    have g1R : ¬ w.heap.size + 1 = g1 := Blk.ne_own bR5a ho5a (by decide)
    have g1C : ¬ w.heap.size + 1 + 1 = g1 := Blk.ne_own bC5a ho5a (by decide)
    refine hw_start (n := 10) (S := fun X => Turn (fun i => i = w.heap.size + 1 + 1 ∨ i = g1) w5a X) rfl (by kernel_rfl) (((New.refl _).drew).turn) (fun hH => ?_)
    refine' hw_take 0 (some 11) _ rfl rfl (by kernel_rfl) (by kernel_rfl) (by kernel_rfl) (fun _ _ _ h => h) (by rfl) hH ?hy7 ?rest7
    case hy7 =>
      intro X hX
      go_simp
      try rfl
    simp only [Act.put, List.setIfInBounds_toArray, List.set_cons_zero, List.set_cons_succ]
    refine' hw_take 2 (some 13) _ rfl rfl (by kernel_rfl) (by kernel_rfl) (by kernel_rfl) (fun _ _ _ h => h) (by rfl) hH ?hy8 ?rest8
    case hy8 =>
      intro X hX
      go_simp
      try rfl
    simp only [Act.put, List.setIfInBounds_toArray, List.set_cons_zero, List.set_cons_succ]
    refine' hw_take 3 (some 14) _ rfl rfl (by kernel_rfl) (by kernel_rfl) (by kernel_rfl) (fun _ _ _ h => h) (by rfl) hH ?hy9 ?rest9
    case hy9 =>
      intro X hX
      go_simp
      try rfl
    simp only [Act.put, List.setIfInBounds_toArray, List.set_cons_zero, List.set_cons_succ]
    refine' hw_take 4 (some 15) _ rfl rfl (by kernel_rfl) (by kernel_rfl) (by kernel_rfl) (fun _ _ _ h => h) (by rfl) hH ?hy10 ?rest10
    case hy10 =>
      intro X hX
      go_simp
      try rfl
    simp only [Act.put, List.setIfInBounds_toArray, List.set_cons_zero, List.set_cons_succ]
    refine' hw_take 5 (some 16) _ rfl rfl (by kernel_rfl) (by kernel_rfl) (by kernel_rfl) (fun _ _ _ h => h) (by rfl) hH ?hy11 ?rest11
    case hy11 =>
      intro X hX
      have cX := (bX5a.turn hX (by omega)).cells
      go_simp
      try rfl
    simp only [Act.put, List.setIfInBounds_toArray, List.set_cons_zero, List.set_cons_succ]
    refine wpAnyH_ready (rs := [1, 6]) (by kernel_rfl) (by simp) (hw_step 1 (some 12) rfl rfl (by rfl) (fun K hK => ?b2a1) (hw_step 6 (some 17) rfl rfl (by rfl) (fun K hK => ?b2a6) (by intro j hj; cases hj)))
    case b2a1 =>
      have cC := (bC5a.new ((New.refl _).drew)).cells
      go_simp
      refine hK.out _ _ hH (fun hL => ?_)
      simp only [Act.put, List.setIfInBounds_toArray, List.set_cons_zero, List.set_cons_succ]
      clear cC
      refine hw_call 6 (some 17) rfl rfl (by kernel_rfl) (by rfl) (fun K hK => ?_)
      go_simp
      have al := ((New.refl w5a).alloc (.cells #[.int .i64 y] 2)).drew
      have bL : Blk ((w5a.alloc (.cells #[.int .i64 y] 2)).drew) w5a.heap.size 2 #[.int .i64 y] := (Blk.mk w5a w5a.heap.size 2 #[.int .i64 y] rfl).new ((New.refl _).drew)
      refine hK.out _ _ al.turn (fun hA => ?_)
      simp only [Act.put, List.setIfInBounds_toArray, List.set_cons_zero, List.set_cons_succ]
      refine hw_call 7 (some 18) rfl rfl (by kernel_rfl) (by rfl) (fun K hK => ?_)
      refine ap13 _ (.tmp 12) (.tmp 17) rfl (.slice (some ⟨g1, 0, none⟩) 1 c1) 1 [x] rfl (((show OwN _ g1 1 c1 [x] by simpa using ho5a).new al)) w5a.heap.size y rfl bL (by omega) ?_
      intro g c w4a ho ht hb
      have hbX := (bX5a.new al).turn ht (by intro e; have q : g1 = _ := (by simpa [Value.ownBlock] using e); omega)
      have hbR := (bR5a.new al).turn ht (by intro e; have q : g1 = _ := (by simpa [Value.ownBlock] using e); omega)
      have hbC := (bC5a.new al).turn ht (by intro e; have q : g1 = _ := (by simpa [Value.ownBlock] using e); omega)
      have hg0 : w.heap.size ≤ g := by have q0 := N5a.size; rcases hb with hb | hb; (have q : g1 = g := (by simpa [Value.ownBlock] using hb)); omega; (have q : g = w5a.heap.size + 1 := (by simpa using hb)); omega
      have nn : New w w4a := (N5a.trans al).before ht (by intro i hi e; have q : g1 = i := (by simpa [Value.ownBlock] using e); omega)
      refine hK.out _ _ ?s2aa (fun hA2 => ?_)
      case s2aa => exact Turn.trans al.turn (ht.mono (T := fun i => i = w.heap.size + 1 + 1 ∨ i = g1) (fun i _ e => .inr (by have q : g1 = i := (by simpa [Value.ownBlock] using e); exact q.symm))) (fun i _ e => e)
      simp only [Act.put, List.setIfInBounds_toArray, List.set_cons_zero, List.set_cons_succ]
      clear bL al
      refine' hw_take 8 (some 19) _ rfl rfl (by kernel_rfl) (by kernel_rfl) (by kernel_rfl) (fun _ _ _ h => h) (by rfl) hA2 ?hy12 ?rest12
      case hy12 =>
        intro X hX
        go_simp
        try rfl
      simp only [Act.put, List.setIfInBounds_toArray, List.set_cons_zero, List.set_cons_succ]
      refine hw_call 9 none rfl rfl (by kernel_rfl) (by rfl) (fun K hK => ?_)
      have cC := hbC.cells
      have fC := hbC.frees
      go_simp
      refine hK.out undef _ (hA2.set (.inl rfl) _) (fun hA3 => ?_)
      have gC : ¬ g = w.heap.size + 1 + 1 := fun e => Blk.ne_own hbC ho (by decide) e.symm
      have bX5a := hbX.turn ((Turn.refl (fun i => i = w.heap.size + 1 + 1) w4a).set (p := ⟨w.heap.size + 1 + 1, 1, none⟩) rfl (.slice (some ⟨g, 0, none⟩) (1 + 1) c)) (by omega)
      have bR5a := hbR.turn ((Turn.refl (fun i => i = w.heap.size + 1 + 1) w4a).set (p := ⟨w.heap.size + 1 + 1, 1, none⟩) rfl (.slice (some ⟨g, 0, none⟩) (1 + 1) c)) (by omega)
      have bC5a := hbC.set 1 (.slice (some ⟨g, 0, none⟩) (1 + 1) c)
      have ho5a := ho.turn ((Turn.refl (fun i => i = w.heap.size + 1 + 1) w4a).set (p := ⟨w.heap.size + 1 + 1, 1, none⟩) rfl (.slice (some ⟨g, 0, none⟩) (1 + 1) c)) gC
      have N5a := nn.setCell (p := ⟨w.heap.size + 1 + 1, 1, none⟩) (by show w.heap.size ≤ w.heap.size + 1 + 1; omega) (.slice (some ⟨g, 0, none⟩) (1 + 1) c)
      refine wpAnyH_done (by kernel_rfl) ?_ _
      clear hbX hbR hbC cC fC hA3 hA2 ht ho nn hb
      generalize w4a.setCell ⟨w.heap.size + 1 + 1, 1, none⟩ (.slice (some ⟨g, 0, none⟩) (1 + 1) c) = w5a at *
      have z5a := bC5a.lt
      go_wp2_with fail
      rw [rounds_succ]
      have cC := bC5a.cells
      have cR := bR5a.cells
      have fR := bR5a.frees
      go_wp2
      refine bodyPost_ret (v := .agg #[.int .i64 nw, .slice (some ⟨g, 0, none⟩) 2 c]) (by simp [results, Try.results44, go_sem, cR]) rfl ⟨g, c, rfl, hg0, ?_, ?_⟩
      · have gR : ¬ w.heap.size + 1 = g := Blk.ne_own bR5a ho5a (by decide)
        simp (disch := exact gR) only [OwN.set_iff]
        simpa using ho5a
      · simp (disch := show w.heap.size ≤ w.heap.size + 1; omega) only [New.set13]
        exact N5a
    case b2a6 =>
      go_simp
      have al := ((New.refl w5a).alloc (.cells #[.int .i64 y] 2)).drew
      have bL : Blk ((w5a.alloc (.cells #[.int .i64 y] 2)).drew) w5a.heap.size 2 #[.int .i64 y] := (Blk.mk w5a w5a.heap.size 2 #[.int .i64 y] rfl).new ((New.refl _).drew)
      refine hK.out _ _ al.turn (fun hA => ?_)
      simp only [Act.put, List.setIfInBounds_toArray, List.set_cons_zero, List.set_cons_succ]
      refine hw_call 1 (some 12) rfl rfl (by kernel_rfl) (by rfl) (fun K hK => ?_)
      have cC := (bC5a.new al).cells
      go_simp
      refine hK.out _ _ hA (fun hL => ?_)
      simp only [Act.put, List.setIfInBounds_toArray, List.set_cons_zero, List.set_cons_succ]
      clear cC
      refine hw_call 7 (some 18) rfl rfl (by kernel_rfl) (by rfl) (fun K hK => ?_)
      refine ap13 _ (.tmp 12) (.tmp 17) rfl (.slice (some ⟨g1, 0, none⟩) 1 c1) 1 [x] rfl (((show OwN _ g1 1 c1 [x] by simpa using ho5a).new al)) w5a.heap.size y rfl bL (by omega) ?_
      intro g c w4b ho ht hb
      have hbX := (bX5a.new al).turn ht (by intro e; have q : g1 = _ := (by simpa [Value.ownBlock] using e); omega)
      have hbR := (bR5a.new al).turn ht (by intro e; have q : g1 = _ := (by simpa [Value.ownBlock] using e); omega)
      have hbC := (bC5a.new al).turn ht (by intro e; have q : g1 = _ := (by simpa [Value.ownBlock] using e); omega)
      have hg0 : w.heap.size ≤ g := by have q0 := N5a.size; rcases hb with hb | hb; (have q : g1 = g := (by simpa [Value.ownBlock] using hb)); omega; (have q : g = w5a.heap.size + 1 := (by simpa using hb)); omega
      have nn : New w w4b := (N5a.trans al).before ht (by intro i hi e; have q : g1 = i := (by simpa [Value.ownBlock] using e); omega)
      refine hK.out _ _ ?s2ab (fun hA2 => ?_)
      case s2ab => exact Turn.trans al.turn (ht.mono (T := fun i => i = w.heap.size + 1 + 1 ∨ i = g1) (fun i _ e => .inr (by have q : g1 = i := (by simpa [Value.ownBlock] using e); exact q.symm))) (fun i _ e => e)
      simp only [Act.put, List.setIfInBounds_toArray, List.set_cons_zero, List.set_cons_succ]
      clear bL al
      refine' hw_take 8 (some 19) _ rfl rfl (by kernel_rfl) (by kernel_rfl) (by kernel_rfl) (fun _ _ _ h => h) (by rfl) hA2 ?hy13 ?rest13
      case hy13 =>
        intro X hX
        go_simp
        try rfl
      simp only [Act.put, List.setIfInBounds_toArray, List.set_cons_zero, List.set_cons_succ]
      refine hw_call 9 none rfl rfl (by kernel_rfl) (by rfl) (fun K hK => ?_)
      have cC := hbC.cells
      have fC := hbC.frees
      go_simp
      refine hK.out undef _ (hA2.set (.inl rfl) _) (fun hA3 => ?_)
      have gC : ¬ g = w.heap.size + 1 + 1 := fun e => Blk.ne_own hbC ho (by decide) e.symm
      have bX5b := hbX.turn ((Turn.refl (fun i => i = w.heap.size + 1 + 1) w4b).set (p := ⟨w.heap.size + 1 + 1, 1, none⟩) rfl (.slice (some ⟨g, 0, none⟩) (1 + 1) c)) (by omega)
      have bR5b := hbR.turn ((Turn.refl (fun i => i = w.heap.size + 1 + 1) w4b).set (p := ⟨w.heap.size + 1 + 1, 1, none⟩) rfl (.slice (some ⟨g, 0, none⟩) (1 + 1) c)) (by omega)
      have bC5b := hbC.set 1 (.slice (some ⟨g, 0, none⟩) (1 + 1) c)
      have ho5b := ho.turn ((Turn.refl (fun i => i = w.heap.size + 1 + 1) w4b).set (p := ⟨w.heap.size + 1 + 1, 1, none⟩) rfl (.slice (some ⟨g, 0, none⟩) (1 + 1) c)) gC
      have N5b := nn.setCell (p := ⟨w.heap.size + 1 + 1, 1, none⟩) (by show w.heap.size ≤ w.heap.size + 1 + 1; omega) (.slice (some ⟨g, 0, none⟩) (1 + 1) c)
      refine wpAnyH_done (by kernel_rfl) ?_ _
      clear hbX hbR hbC cC fC hA3 hA2 ht ho nn hb
      generalize w4b.setCell ⟨w.heap.size + 1 + 1, 1, none⟩ (.slice (some ⟨g, 0, none⟩) (1 + 1) c) = w5b at *
      have z5b := bC5b.lt
      go_wp2_with fail
      rw [rounds_succ]
      have cC := bC5b.cells
      have cR := bR5b.cells
      have fR := bR5b.frees
      go_wp2
      refine bodyPost_ret (v := .agg #[.int .i64 nw, .slice (some ⟨g, 0, none⟩) 2 c]) (by simp [results, Try.results44, go_sem, cR]) rfl ⟨g, c, rfl, hg0, ?_, ?_⟩
      · have gR : ¬ w.heap.size + 1 = g := Blk.ne_own bR5b ho5b (by decide)
        simp (disch := exact gR) only [OwN.set_iff]
        simpa using ho5b
      · simp (disch := show w.heap.size ≤ w.heap.size + 1; omega) only [New.set13]
        exact N5b
  case b16 =>
    go_simp
    have al := ((New.refl w1).alloc (.cells #[.int .i64 x] 2)).drew
    have bL : Blk ((w1.alloc (.cells #[.int .i64 x] 2)).drew) w1.heap.size 2 #[.int .i64 x] := (Blk.mk w1 w1.heap.size 2 #[.int .i64 x] rfl).new ((New.refl _).drew)
    refine hK.out _ _ al.turn (fun hA => ?_)
    simp only [Act.put, List.setIfInBounds_toArray, List.set_cons_zero, List.set_cons_succ]
    refine hw_call 1 (some 12) rfl rfl (by kernel_rfl) (by rfl) (fun K hK => ?_)
    have cC := (bC1.new al).cells
    go_simp
    refine hK.out _ _ hA (fun hL => ?_)
    simp only [Act.put, List.setIfInBounds_toArray, List.set_cons_zero, List.set_cons_succ]
    clear cC
    refine hw_call 7 (some 18) rfl rfl (by kernel_rfl) (by rfl) (fun K hK => ?_)
    refine ap13 _ (.tmp 12) (.tmp 17) rfl (.slice none 0 0) 0 [] rfl (nil13 _) w1.heap.size x rfl bL (by omega) ?_
    intro g1 c1 w4b ho ht hb
    have hbX := (bX1.new al).turn ht (by intro e; cases e)
    have hbR := (bR1.new al).turn ht (by intro e; cases e)
    have hbC := (bC1.new al).turn ht (by intro e; cases e)
    have hg10 : w.heap.size ≤ g1 := by have q0 := N1.size; rcases hb with hb | hb; cases hb; (have q : g1 = w1.heap.size + 1 := (by simpa using hb)); omega
    have nn : New w w4b := (N1.trans al).before ht (by intro i hi e; cases e)
    refine hK.out _ _ ?s1b (fun hA2 => ?_)
    case s1b => exact Turn.trans al.turn (ht.mono (T := fun i => i = w.heap.size + 1 + 1) (fun i _ e => by cases e)) (fun i _ e => e)
    simp only [Act.put, List.setIfInBounds_toArray, List.set_cons_zero, List.set_cons_succ]
    clear bL al
    refine' hw_take 8 (some 19) _ rfl rfl (by kernel_rfl) (by kernel_rfl) (by kernel_rfl) (fun _ _ _ h => h) (by rfl) hA2 ?hy14 ?rest14
    case hy14 =>
      intro X hX
      go_simp
      try rfl
    simp only [Act.put, List.setIfInBounds_toArray, List.set_cons_zero, List.set_cons_succ]
    refine hw_call 9 none rfl rfl (by kernel_rfl) (by rfl) (fun K hK => ?_)
    have cC := hbC.cells
    have fC := hbC.frees
    go_simp
    refine hK.out undef _ (hA2.set rfl _) (fun hA3 => ?_)
    have gC : ¬ g1 = w.heap.size + 1 + 1 := fun e => Blk.ne_own hbC ho (by decide) e.symm
    have bX5b := hbX.turn ((Turn.refl (fun i => i = w.heap.size + 1 + 1) w4b).set (p := ⟨w.heap.size + 1 + 1, 1, none⟩) rfl (.slice (some ⟨g1, 0, none⟩) (0 + 1) c1)) (by omega)
    have bR5b := hbR.turn ((Turn.refl (fun i => i = w.heap.size + 1 + 1) w4b).set (p := ⟨w.heap.size + 1 + 1, 1, none⟩) rfl (.slice (some ⟨g1, 0, none⟩) (0 + 1) c1)) (by omega)
    have bC5b := hbC.set 1 (.slice (some ⟨g1, 0, none⟩) (0 + 1) c1)
    have ho5b := ho.turn ((Turn.refl (fun i => i = w.heap.size + 1 + 1) w4b).set (p := ⟨w.heap.size + 1 + 1, 1, none⟩) rfl (.slice (some ⟨g1, 0, none⟩) (0 + 1) c1)) gC
    have N5b := nn.setCell (p := ⟨w.heap.size + 1 + 1, 1, none⟩) (by show w.heap.size ≤ w.heap.size + 1 + 1; omega) (.slice (some ⟨g1, 0, none⟩) (0 + 1) c1)
    refine wpAnyH_done (by kernel_rfl) ?_ _
    clear hbX hbR hbC cC fC hA3 hA2 ht ho nn hb
    generalize w4b.setCell ⟨w.heap.size + 1 + 1, 1, none⟩ (.slice (some ⟨g1, 0, none⟩) (0 + 1) c1) = w5b at *
    have z5b := bC5b.lt
    go_wp2_with fail
    rw [rounds_succ]
    go_wp2_with fail
    have g1X : ¬ w.heap.size = g1 := Blk.ne_own bX5b ho5b (by decide)
    have g1R : ¬ w.heap.size + 1 = g1 := Blk.ne_own bR5b ho5b (by decide)
    have g1C : ¬ w.heap.size + 1 + 1 = g1 := Blk.ne_own bC5b ho5b (by decide)
    refine hw_start (n := 10) (S := fun X => Turn (fun i => i = w.heap.size + 1 + 1 ∨ i = g1) w5b X) rfl (by kernel_rfl) (((New.refl _).drew).turn) (fun hH => ?_)
    refine' hw_take 0 (some 11) _ rfl rfl (by kernel_rfl) (by kernel_rfl) (by kernel_rfl) (fun _ _ _ h => h) (by rfl) hH ?hy15 ?rest15
    case hy15 =>
      intro X hX
      go_simp
      try rfl
    simp only [Act.put, List.setIfInBounds_toArray, List.set_cons_zero, List.set_cons_succ]
    refine' hw_take 2 (some 13) _ rfl rfl (by kernel_rfl) (by kernel_rfl) (by kernel_rfl) (fun _ _ _ h => h) (by rfl) hH ?hy16 ?rest16
    case hy16 =>
      intro X hX
      go_simp
      try rfl
    simp only [Act.put, List.setIfInBounds_toArray, List.set_cons_zero, List.set_cons_succ]
    refine' hw_take 3 (some 14) _ rfl rfl (by kernel_rfl) (by kernel_rfl) (by kernel_rfl) (fun _ _ _ h => h) (by rfl) hH ?hy17 ?rest17
    case hy17 =>
      intro X hX
      go_simp
      try rfl
    simp only [Act.put, List.setIfInBounds_toArray, List.set_cons_zero, List.set_cons_succ]
    refine' hw_take 4 (some 15) _ rfl rfl (by kernel_rfl) (by kernel_rfl) (by kernel_rfl) (fun _ _ _ h => h) (by rfl) hH ?hy18 ?rest18
    case hy18 =>
      intro X hX
      go_simp
      try rfl
    simp only [Act.put, List.setIfInBounds_toArray, List.set_cons_zero, List.set_cons_succ]
    refine' hw_take 5 (some 16) _ rfl rfl (by kernel_rfl) (by kernel_rfl) (by kernel_rfl) (fun _ _ _ h => h) (by rfl) hH ?hy19 ?rest19
    case hy19 =>
      intro X hX
      have cX := (bX5b.turn hX (by omega)).cells
      go_simp
      try rfl
    simp only [Act.put, List.setIfInBounds_toArray, List.set_cons_zero, List.set_cons_succ]
    refine wpAnyH_ready (rs := [1, 6]) (by kernel_rfl) (by simp) (hw_step 1 (some 12) rfl rfl (by rfl) (fun K hK => ?b2b1) (hw_step 6 (some 17) rfl rfl (by rfl) (fun K hK => ?b2b6) (by intro j hj; cases hj)))
    case b2b1 =>
      have cC := (bC5b.new ((New.refl _).drew)).cells
      go_simp
      refine hK.out _ _ hH (fun hL => ?_)
      simp only [Act.put, List.setIfInBounds_toArray, List.set_cons_zero, List.set_cons_succ]
      clear cC
      refine hw_call 6 (some 17) rfl rfl (by kernel_rfl) (by rfl) (fun K hK => ?_)
      go_simp
      have al := ((New.refl w5b).alloc (.cells #[.int .i64 y] 2)).drew
      have bL : Blk ((w5b.alloc (.cells #[.int .i64 y] 2)).drew) w5b.heap.size 2 #[.int .i64 y] := (Blk.mk w5b w5b.heap.size 2 #[.int .i64 y] rfl).new ((New.refl _).drew)
      refine hK.out _ _ al.turn (fun hA => ?_)
      simp only [Act.put, List.setIfInBounds_toArray, List.set_cons_zero, List.set_cons_succ]
      refine hw_call 7 (some 18) rfl rfl (by kernel_rfl) (by rfl) (fun K hK => ?_)
      refine ap13 _ (.tmp 12) (.tmp 17) rfl (.slice (some ⟨g1, 0, none⟩) 1 c1) 1 [x] rfl (((show OwN _ g1 1 c1 [x] by simpa using ho5b).new al)) w5b.heap.size y rfl bL (by omega) ?_
      intro g c w4a ho ht hb
      have hbX := (bX5b.new al).turn ht (by intro e; have q : g1 = _ := (by simpa [Value.ownBlock] using e); omega)
      have hbR := (bR5b.new al).turn ht (by intro e; have q : g1 = _ := (by simpa [Value.ownBlock] using e); omega)
      have hbC := (bC5b.new al).turn ht (by intro e; have q : g1 = _ := (by simpa [Value.ownBlock] using e); omega)
      have hg0 : w.heap.size ≤ g := by have q0 := N5b.size; rcases hb with hb | hb; (have q : g1 = g := (by simpa [Value.ownBlock] using hb)); omega; (have q : g = w5b.heap.size + 1 := (by simpa using hb)); omega
      have nn : New w w4a := (N5b.trans al).before ht (by intro i hi e; have q : g1 = i := (by simpa [Value.ownBlock] using e); omega)
      refine hK.out _ _ ?s2ba (fun hA2 => ?_)
      case s2ba => exact Turn.trans al.turn (ht.mono (T := fun i => i = w.heap.size + 1 + 1 ∨ i = g1) (fun i _ e => .inr (by have q : g1 = i := (by simpa [Value.ownBlock] using e); exact q.symm))) (fun i _ e => e)
      simp only [Act.put, List.setIfInBounds_toArray, List.set_cons_zero, List.set_cons_succ]
      clear bL al
      refine' hw_take 8 (some 19) _ rfl rfl (by kernel_rfl) (by kernel_rfl) (by kernel_rfl) (fun _ _ _ h => h) (by rfl) hA2 ?hy20 ?rest20
      case hy20 =>
        intro X hX
        go_simp
        try rfl
      simp only [Act.put, List.setIfInBounds_toArray, List.set_cons_zero, List.set_cons_succ]
      refine hw_call 9 none rfl rfl (by kernel_rfl) (by rfl) (fun K hK => ?_)
      have cC := hbC.cells
      have fC := hbC.frees
      go_simp
      refine hK.out undef _ (hA2.set (.inl rfl) _) (fun hA3 => ?_)
      have gC : ¬ g = w.heap.size + 1 + 1 := fun e => Blk.ne_own hbC ho (by decide) e.symm
      have bX5a := hbX.turn ((Turn.refl (fun i => i = w.heap.size + 1 + 1) w4a).set (p := ⟨w.heap.size + 1 + 1, 1, none⟩) rfl (.slice (some ⟨g, 0, none⟩) (1 + 1) c)) (by omega)
      have bR5a := hbR.turn ((Turn.refl (fun i => i = w.heap.size + 1 + 1) w4a).set (p := ⟨w.heap.size + 1 + 1, 1, none⟩) rfl (.slice (some ⟨g, 0, none⟩) (1 + 1) c)) (by omega)
      have bC5a := hbC.set 1 (.slice (some ⟨g, 0, none⟩) (1 + 1) c)
      have ho5a := ho.turn ((Turn.refl (fun i => i = w.heap.size + 1 + 1) w4a).set (p := ⟨w.heap.size + 1 + 1, 1, none⟩) rfl (.slice (some ⟨g, 0, none⟩) (1 + 1) c)) gC
      have N5a := nn.setCell (p := ⟨w.heap.size + 1 + 1, 1, none⟩) (by show w.heap.size ≤ w.heap.size + 1 + 1; omega) (.slice (some ⟨g, 0, none⟩) (1 + 1) c)
      refine wpAnyH_done (by kernel_rfl) ?_ _
      clear hbX hbR hbC cC fC hA3 hA2 ht ho nn hb
      generalize w4a.setCell ⟨w.heap.size + 1 + 1, 1, none⟩ (.slice (some ⟨g, 0, none⟩) (1 + 1) c) = w5a at *
      have z5a := bC5a.lt
      go_wp2_with fail
      rw [rounds_succ]
      have cC := bC5a.cells
      have cR := bR5a.cells
      have fR := bR5a.frees
      go_wp2
      refine bodyPost_ret (v := .agg #[.int .i64 nw, .slice (some ⟨g, 0, none⟩) 2 c]) (by simp [results, Try.results44, go_sem, cR]) rfl ⟨g, c, rfl, hg0, ?_, ?_⟩
      · have gR : ¬ w.heap.size + 1 = g := Blk.ne_own bR5a ho5a (by decide)
        simp (disch := exact gR) only [OwN.set_iff]
        simpa using ho5a
      · simp (disch := show w.heap.size ≤ w.heap.size + 1; omega) only [New.set13]
        exact N5a
    case b2b6 =>
      go_simp
      have al := ((New.refl w5b).alloc (.cells #[.int .i64 y] 2)).drew
      have bL : Blk ((w5b.alloc (.cells #[.int .i64 y] 2)).drew) w5b.heap.size 2 #[.int .i64 y] := (Blk.mk w5b w5b.heap.size 2 #[.int .i64 y] rfl).new ((New.refl _).drew)
      refine hK.out _ _ al.turn (fun hA => ?_)
      simp only [Act.put, List.setIfInBounds_toArray, List.set_cons_zero, List.set_cons_succ]
      refine hw_call 1 (some 12) rfl rfl (by kernel_rfl) (by rfl) (fun K hK => ?_)
      have cC := (bC5b.new al).cells
      go_simp
      refine hK.out _ _ hA (fun hL => ?_)
      simp only [Act.put, List.setIfInBounds_toArray, List.set_cons_zero, List.set_cons_succ]
      clear cC
      refine hw_call 7 (some 18) rfl rfl (by kernel_rfl) (by rfl) (fun K hK => ?_)
      refine ap13 _ (.tmp 12) (.tmp 17) rfl (.slice (some ⟨g1, 0, none⟩) 1 c1) 1 [x] rfl (((show OwN _ g1 1 c1 [x] by simpa using ho5b).new al)) w5b.heap.size y rfl bL (by omega) ?_
      intro g c w4b ho ht hb
      have hbX := (bX5b.new al).turn ht (by intro e; have q : g1 = _ := (by simpa [Value.ownBlock] using e); omega)
      have hbR := (bR5b.new al).turn ht (by intro e; have q : g1 = _ := (by simpa [Value.ownBlock] using e); omega)
      have hbC := (bC5b.new al).turn ht (by intro e; have q : g1 = _ := (by simpa [Value.ownBlock] using e); omega)
      have hg0 : w.heap.size ≤ g := by have q0 := N5b.size; rcases hb with hb | hb; (have q : g1 = g := (by simpa [Value.ownBlock] using hb)); omega; (have q : g = w5b.heap.size + 1 := (by simpa using hb)); omega
      have nn : New w w4b := (N5b.trans al).before ht (by intro i hi e; have q : g1 = i := (by simpa [Value.ownBlock] using e); omega)
      refine hK.out _ _ ?s2bb (fun hA2 => ?_)
      case s2bb => exact Turn.trans al.turn (ht.mono (T := fun i => i = w.heap.size + 1 + 1 ∨ i = g1) (fun i _ e => .inr (by have q : g1 = i := (by simpa [Value.ownBlock] using e); exact q.symm))) (fun i _ e => e)
      simp only [Act.put, List.setIfInBounds_toArray, List.set_cons_zero, List.set_cons_succ]
      clear bL al
      refine' hw_take 8 (some 19) _ rfl rfl (by kernel_rfl) (by kernel_rfl) (by kernel_rfl) (fun _ _ _ h => h) (by rfl) hA2 ?hy21 ?rest21
      case hy21 =>
        intro X hX
        go_simp
        try rfl
      simp only [Act.put, List.setIfInBounds_toArray, List.set_cons_zero, List.set_cons_succ]
      refine hw_call 9 none rfl rfl (by kernel_rfl) (by rfl) (fun K hK => ?_)
      have cC := hbC.cells
      have fC := hbC.frees
      go_simp
      refine hK.out undef _ (hA2.set (.inl rfl) _) (fun hA3 => ?_)
      have gC : ¬ g = w.heap.size + 1 + 1 := fun e => Blk.ne_own hbC ho (by decide) e.symm
      have bX5b := hbX.turn ((Turn.refl (fun i => i = w.heap.size + 1 + 1) w4b).set (p := ⟨w.heap.size + 1 + 1, 1, none⟩) rfl (.slice (some ⟨g, 0, none⟩) (1 + 1) c)) (by omega)
      have bR5b := hbR.turn ((Turn.refl (fun i => i = w.heap.size + 1 + 1) w4b).set (p := ⟨w.heap.size + 1 + 1, 1, none⟩) rfl (.slice (some ⟨g, 0, none⟩) (1 + 1) c)) (by omega)
      have bC5b := hbC.set 1 (.slice (some ⟨g, 0, none⟩) (1 + 1) c)
      have ho5b := ho.turn ((Turn.refl (fun i => i = w.heap.size + 1 + 1) w4b).set (p := ⟨w.heap.size + 1 + 1, 1, none⟩) rfl (.slice (some ⟨g, 0, none⟩) (1 + 1) c)) gC
      have N5b := nn.setCell (p := ⟨w.heap.size + 1 + 1, 1, none⟩) (by show w.heap.size ≤ w.heap.size + 1 + 1; omega) (.slice (some ⟨g, 0, none⟩) (1 + 1) c)
      refine wpAnyH_done (by kernel_rfl) ?_ _
      clear hbX hbR hbC cC fC hA3 hA2 ht ho nn hb
      generalize w4b.setCell ⟨w.heap.size + 1 + 1, 1, none⟩ (.slice (some ⟨g, 0, none⟩) (1 + 1) c) = w5b at *
      have z5b := bC5b.lt
      go_wp2_with fail
      rw [rounds_succ]
      have cC := bC5b.cells
      have cR := bR5b.cells
      have fR := bR5b.frees
      go_wp2
      refine bodyPost_ret (v := .agg #[.int .i64 nw, .slice (some ⟨g, 0, none⟩) 2 c]) (by simp [results, Try.results44, go_sem, cR]) rfl ⟨g, c, rfl, hg0, ?_, ?_⟩
      · have gR : ¬ w.heap.size + 1 = g := Blk.ne_own bR5b ho5b (by decide)
        simp (disch := exact gR) only [OwN.set_iff]
        simpa using ho5b
      · simp (disch := show w.heap.size ≤ w.heap.size + 1; omega) only [New.set13]
        exact N5b

end Go.Proofs.Ytpbmbnckdmjdhaa
