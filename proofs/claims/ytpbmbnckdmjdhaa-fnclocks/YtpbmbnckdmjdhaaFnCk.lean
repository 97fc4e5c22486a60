/- What is proved here: for every bytes the law on clocks returns true, and the bytes read as they did. No condition. -/
import Derived.Test.YtpbmbnckdmjdhaaD13Ti
import Derived.Test.YtpbmbnckdmjdhaaC13Lw
import Derived.Test.YtpbmbnckdmjdhaaOpen
import Derived.Deep.CutRange
namespace Go.Proofs.Ytpbmbnckdmjdhaa
open Go.ChangeShapes Go.WideShapes Go.ChangeAt Go.RowKit Go.Sort
set_option linter.unusedVariables false
set_option linter.unusedSimpArgs false
set_option maxRecDepth 100000

theorem specGr_is (ho ep ak he u v : Int) (r : Lr) (w : World) (h : r = grR ho ep ak he u v) : Calls Try.prog 27 #[.agg #[.int .i64 ho, .int .i64 ep, .int .i64 ak, .int .i64 he], .int .i64 u, .int .i64 v] w fun e w' => e = .returned (lrV r) ∧ New w w' := h ▸ specGr ho ep ak he u v w

theorem gr_zero {ho ep ak he u v rh re ra rr : Int} (h : (⟨0, rh, re, ra, rr⟩ : Lr) = grR ho ep ak he u v) : rh = ho ∧ re = ep ∧ ra = u ∧ rr = v ∧ LeP ho ep u v ∧ ak ≤ u := by
  unfold grR at h
  split at h
  · rename_i h1
    split at h
    · rename_i h2
      split at h
      · simp at h
      · rename_i h3
        simp only [Lr.mk.injEq, true_and] at h
        exact ⟨h.1, h.2.1, h.2.2.1, h.2.2.2, ⟨h1.1, h1.2.1, h2.1, h2.2⟩, by omega⟩
    · simp at h
  · simp at h

/-- A tick that has no code. -/
theorem ti_zero {nw t n1 : Int} {xs os ys : List Int} (h : (⟨0, n1, ys⟩ : Ck) = tiR nw xs t os) : ∃ x y p q, xs = [x, y] ∧ os = [p, q] ∧ ckF nw [x, y] = 0 ∧ ((0 ≤ t ∧ t ≤ 1000) ∧ nw + t ≤ 1000000000) ∧ OfP p ∧ OfP q ∧ n1 = nw + t ∧ ys = [max x (nw + t + p), max y (nw + t + q)] := by
  by_cases hf : ckF nw xs = 0
  case neg => rw [ti_bad rfl hf] at h; simp only [Ck.mk.injEq] at h; exact absurd h.1.symm hf
  obtain ⟨-, x, y, rfl, -, -⟩ := ckF_zero hf
  by_cases hz : (0 ≤ t ∧ t ≤ 1000) ∧ nw + t ≤ 1000000000
  case neg => rw [ti_by hf hz] at h; simp at h
  by_cases hl : os.length = 2
  case neg => rw [ti_form hf hz hl] at h; simp at h
  obtain ⟨p, q, rfl⟩ := two13 hl
  by_cases ho : OfP p ∧ OfP q
  case neg => rw [ti_off hf hz ho] at h; simp at h
  rw [ti_ok hf hz ho] at h
  simp only [Ck.mk.injEq, true_and] at h
  exact ⟨x, y, p, q, rfl, rfl, hf, hz, ho.1, ho.2, h.1, h.2⟩

theorem keeps13 {nw t x y p q : Int} (h : ckF nw [x, y] = 0) (hz : (0 ≤ t ∧ t ≤ 1000) ∧ nw + t ≤ 1000000000) (hp : OfP p) (hq : OfP q) : ckF (nw + t) [max x (nw + t + p), max y (nw + t + q)] = 0 := by
  obtain ⟨⟨h1, h2⟩, x', y', e, ⟨a0, a1, a2⟩, ⟨b0, b1, b2⟩⟩ := ckF_zero h
  cases e
  obtain ⟨p0, p1⟩ := hp
  obtain ⟨q0, q1⟩ := hq
  refine ckF_ok ⟨by omega, by omega⟩ ⟨by omega, by omega, by omega⟩ ⟨by omega, by omega, by omega⟩

set_option maxHeartbeats 12800000 in
theorem fnck_walk (a : Option Addr) (n c : Nat) (zs : List Int) (w : World) (h : BsAt w a zs) (hn : zs.length = n) (hm : n ≤ maxLen) (ha : ∀ x, zs ≠ [] → a = some x → x.block < w.heap.size) :
    Calls Try.prog 4 #[.slice a n c] w fun e w' => e = .returned (.bool true) ∧ New w w' := by
  by_cases hbig : 1048576 < n
  case pos =>
    go_enter Try.func4, Try.ntmps4
    go_wp2_with fail
    refine (lbig_yes a n c _ hbig).mono ?_
    rintro e w1 ⟨rfl, rfl⟩
    go_wp2
    go_ret
    exact ⟨rfl, New.refl _⟩
  have hmb : n ≤ 2097152 := by omega
  have HN : Hid (zs.length = n) := hn
  clear hm hn
  go_enter Try.func4, Try.ntmps4
  go_wp2_with fail
  refine (lbig_no a n c _ hbig).mono ?_
  rintro e wz ⟨rfl, hwz⟩
  obtain rfl := hwz.symm
  go_wp2_with fail
  refine (drawTi a n c zs _ h HN.out hmb ha).mono ?_
  rintro e w1 ⟨nw, t, bL, oL, m, k, go, l, d, xs, os, rfl, ⟨nw0, nw1⟩, ⟨t0, t1⟩, hxs, hxm, hm2, hos, hol, hl3, hn1⟩
  have al := (New.refl w1).alloc (.cells #[.int .i64 nw, .slice (some ⟨bL, oL, none⟩) m k] 26)
  have b2 := Blk.mk w1 w1.heap.size 26 #[.int .i64 nw, .slice (some ⟨bL, oL, none⟩) m k] rfl
  have N2 := hn1.trans al
  have x2 := hxs.new al
  have o2 := hos.new al
  have HX : Hid (xs.length = m) := hxm
  have HO : Hid (os.length = l) := hol
  have hbx : Hid (∀ z ∈ xs, In6 z) := hxs.bd
  go_upto_region 4 with fail
  generalize w1.alloc (.cells #[.int .i64 nw, .slice (some ⟨bL, oL, none⟩) m k] 26) = w2 at *
  have z2 := b2.lt
  have z1 := hn1.size
  clear al hxs hos hxm hol hn1
  obtain ⟨⟨rc, rn, ys⟩, HR⟩ : ∃ r, Hid (r = tiR nw xs t os) := ⟨_, rfl⟩
  have c2 := b2.cells
  go_wp2_with fail
  have hI := implTi nw t (some ⟨bL, oL, none⟩) (some ⟨go, 0, none⟩) m k l d xs os w2 x2 HX.out (by omega) o2 HO.out (by omega)
  rw [← HR.out] at hI
  refine hI.mono ?_
  rintro e w3 ⟨v3, rfl, o3, hn3⟩
  clear hI c2
  obtain ⟨a3, k3, e3, v3'⟩ := o3.open rfl
  subst e3
  obtain ⟨my, HY⟩ : ∃ my, Hid (my = ys.length) := ⟨_, rfl⟩
  rw [← HY.out] at v3' ⊢
  have al := (New.refl w3).alloc (.cells #[.int .i64 rc, .int .i64 rn, .slice a3 my k3] 30)
  have r4 := Blk.mk w3 w3.heap.size 30 #[.int .i64 rc, .int .i64 rn, .slice a3 my k3] rfl
  have b4 := (b2.new hn3).new al
  have N4 := (N2.trans hn3).trans al
  have x4 := (x2.new hn3).new al
  have o4 := (o2.new hn3).new al
  have y4 := v3'.new al
  go_upto_region 5 with fail
  generalize w3.alloc (.cells #[.int .i64 rc, .int .i64 rn, .slice a3 my k3] 30) = w4 at *
  clear al b2 N2 x2 o2 o3 v3' hn3
  by_cases hc : rc = 0
  case neg =>
    have hc' : (rc != 0) = true := by simpa using hc
    have hrr : (rc == rc) = true := by simp
    have c4 := r4.cells
    go_upto_region 6 with fail
    refine hw_start (n := 9) (S := fun X => New w4 X) rfl (by kernel_rfl) ((New.refl _).drew) (fun hH => ?_)
    refine' hw_take 0 (some 27) (.agg #[.int .i64 nw, .slice (some ⟨bL, oL, none⟩) m k]) rfl rfl (by kernel_rfl) (by kernel_rfl) (by kernel_rfl) (fun _ _ _ h => h) (by rfl) hH ?hzA ?rzA
    case hzA =>
      intro X hX
      exact run_load_blk 26 (.tmp 3) rfl w1.heap.size rfl #[.int .i64 nw, .slice (some ⟨bL, oL, none⟩) m k] _ (b4.new hX) Try.underlying26 rfl (by kernel_rfl)
    simp only [Act.put, List.setIfInBounds_toArray, List.set_cons_zero, List.set_cons_succ]
    refine' hw_take 1 (some 28) _ rfl rfl (by kernel_rfl) (by kernel_rfl) (by kernel_rfl) (fun _ _ _ h => h) (by rfl) hH ?hy1 ?rest1
    case hy1 =>
      intro X hX
      go_simp
      try rfl
    simp only [Act.put, List.setIfInBounds_toArray, List.set_cons_zero, List.set_cons_succ]
    refine' hw_take 2 (some 29) _ rfl rfl (by kernel_rfl) (by kernel_rfl) (by kernel_rfl) (fun _ _ _ h => h) (by rfl) hH ?hy2 ?rest2
    case hy2 =>
      intro X hX
      go_simp
      try rfl
    simp only [Act.put, List.setIfInBounds_toArray, List.set_cons_zero, List.set_cons_succ]
    refine' hw_take 5 (some 32) _ rfl rfl (by kernel_rfl) (by kernel_rfl) (by kernel_rfl) (fun _ _ _ h => h) (by rfl) hH ?hy3 ?rest3
    case hy3 =>
      intro X hX
      go_simp
      try rfl
    simp only [Act.put, List.setIfInBounds_toArray, List.set_cons_zero, List.set_cons_succ]
    refine' hw_take 6 (some 33) _ rfl rfl (by kernel_rfl) (by kernel_rfl) (by kernel_rfl) (fun _ _ _ h => h) (by rfl) hH ?hy4 ?rest4
    case hy4 =>
      intro X hX
      have cX := (r4.new hX).cells
      go_simp
      try rfl
    simp only [Act.put, List.setIfInBounds_toArray, List.set_cons_zero, List.set_cons_succ]
    refine hw_call 3 (some 30) rfl rfl (by kernel_rfl) (by rfl) (fun K hK => ?_)
    go_simp
    have hI := specTi nw t (some ⟨bL, oL, none⟩) (some ⟨go, 0, none⟩) m k l d xs os _ (x4.new hH) HX.out (by omega) (o4.new hH) HO.out (by omega)
    rw [← HR.out] at hI
    refine hI.mono ?_
    rintro e w5 ⟨v5, rfl, o5, hn5⟩
    clear hI
    obtain ⟨a5, k5, e5, v5'⟩ := o5.open rfl
    subst e5
    go_simp
    have n5 := hH.trans hn5
    refine hK.out _ _ n5 (fun _ => ?_)
    simp only [Act.put, List.setIfInBounds_toArray, List.set_cons_zero, List.set_cons_succ]
    refine' hw_take 4 (some 31) (.int .i64 rc) rfl rfl (by kernel_rfl) (by kernel_rfl) (by kernel_rfl) (fun _ _ _ h => h) (by rfl) n5 ?hzF ?rzF
    case hzF =>
      intro X hX
      first | (go_simp; done) | (go_simp; rfl) | kernel_rfl
    simp only [Act.put, List.setIfInBounds_toArray, List.set_cons_zero, List.set_cons_succ]
    refine' hw_take 7 (some 34) _ rfl rfl (by kernel_rfl) (by kernel_rfl) (by kernel_rfl) (fun _ _ _ h => h) (by rfl) n5 ?hy5 ?rest5
    case hy5 =>
      intro X hX
      go_simp
      try rfl
    simp only [Act.put, List.setIfInBounds_toArray, List.set_cons_zero, List.set_cons_succ]
    refine' hw_take 8 (some 2) _ rfl rfl (by kernel_rfl) (by kernel_rfl) (by kernel_rfl) (fun _ _ _ h => h) (by rfl) n5 ?hy6 ?rest6
    case hy6 =>
      intro X hX
      go_simp
      try rfl
    simp only [Act.put, List.setIfInBounds_toArray, List.set_cons_zero, List.set_cons_succ]
    refine wpAnyH_done (by kernel_rfl) ?_ _
    go_wp2
    go_ret
    exact ⟨rfl, N4.trans n5⟩
  subst hc
  obtain ⟨x, y, p, q, rfl, rfl, hf, hz, hp, hq, rfl, rfl⟩ := ti_zero HR.out
  have hkp : Hid (ckF (nw + t) [max x (nw + t + p), max y (nw + t + q)] = 0) := keeps13 hf hz hp hq
  obtain ⟨⟨h1, h2⟩, x', y', e, ⟨a0, a1, a2⟩, ⟨b0, b1, b2⟩⟩ := ckF_zero hf
  cases e
  obtain ⟨⟨h3, h4⟩, x', y', e, ⟨a3', a4, a5⟩, ⟨b3, b4', b5⟩⟩ := ckF_zero hkp.out
  cases e
  have gx : x ≤ max x (nw + t + p) := by omega
  have gy : y ≤ max y (nw + t + q) := by omega
  obtain ⟨⟨tt0, tt1⟩, tt2⟩ := hz
  have qn : IntKind.i64.wrap (nw + t) = nw + t := w13 (by omega) (by omega)
  have en : ((nw + t : Int) == nw + t) = true := by simp
  have e2 : my = 2 := HY.out
  have e2' : m = 2 := HX.out.symm
  subst e2 e2'
  clear HR HX HO HY hf hp hq hbx o4
  obtain ⟨g3, rfl, hg3, hg3', y4⟩ : ∃ g3, a3 = some ⟨g3, 0, none⟩ ∧ True ∧ True ∧ OwN w4 g3 2 k3 [max x (nw + t + p), max y (nw + t + q)] := by
    rcases y4.or with ⟨_, hh, _⟩ | ⟨g3, e, _, _, hh⟩
    · exact absurd hh (by omega)
    · exact ⟨g3, e, trivial, trivial, hh⟩
  obtain ⟨x1, HX1⟩ : ∃ x1, Hid (x1 = max x (nw + t + p)) := ⟨_, rfl⟩
  obtain ⟨y1, HY1⟩ : ∃ y1, Hid (y1 = max y (nw + t + q)) := ⟨_, rfl⟩
  rw [← HX1.out] at gx a3' a4 a5 y4 hkp
  rw [← HY1.out] at gy b3 b4' b5 y4 hkp
  clear HX1 HY1
  have qx : IntKind.i64.wrap (x1 - (nw + t)) = x1 - (nw + t) := w13 (by omega) (by omega)
  have qx' : IntKind.i64.wrap (nw + t - x1) = nw + t - x1 := w13 (by omega) (by omega)
  have qy : IntKind.i64.wrap (y1 - (nw + t)) = y1 - (nw + t) := w13 (by omega) (by omega)
  have qy' : IntKind.i64.wrap (nw + t - y1) = nw + t - y1 := w13 (by omega) (by omega)
  have d1 : decide (x1 < x) = false := decide_eq_false (by omega)
  have d2 : decide (2 < x1 - (nw + t)) = false := decide_eq_false (by omega)
  have d3 : decide (2 < nw + t - x1) = false := decide_eq_false (by omega)
  have d4 : decide (y1 < y) = false := decide_eq_false (by omega)
  have d5 : decide (2 < y1 - (nw + t)) = false := decide_eq_false (by omega)
  have d6 : decide (2 < nw + t - y1) = false := decide_eq_false (by omega)
  have dm : ((2 : Int) != 2) = false := by decide
  have c4 := r4.cells
  go_wp2_with fail
  refine wp_loop_rounds 3 ?_
  rw [rounds_succ]
  go_wp2_with fail
  clear c4
  have rR := blk_regrown r4
  have rB := blk_regrown b4
  obtain ⟨ry0, ry1⟩ := y4.regrown
  have rx0 : ∀ (d : Nat) (os : Array Obj), (grow (redrawn w4 d) os).cell? ⟨bL, oL, none⟩ = some (.int .i64 x) := fun d os => by
    obtain ⟨b', o', e, h0, -⟩ := ns13 (x4.new (new_regrown w4 d os)); cases e; exact h0
  have rx1 : ∀ (d : Nat) (os : Array Obj), (grow (redrawn w4 d) os).cell? ⟨bL, oL + 1, none⟩ = some (.int .i64 y) := fun d os => by
    obtain ⟨b', o', e, -, h0, -⟩ := ns13 (x4.new (new_regrown w4 d os)); cases e; exact h0
  refine wp_region_quiet_below (by kernel_rfl) (by kernel_rfl) ?_
  repeat (go_big_quiet_step (fail))
  refine wpQuiet_nil ?_
  rintro w5 hw5
  replace hw5 := new_of_regrown hw5
  have r5 := r4.new hw5
  have b5 := b4.new hw5
  have y5 := y4.new hw5
  have x5 := x4.new hw5
  have N5 := N4.trans hw5
  clear rR rB ry0 ry1 rx0 rx1 r4 b4 y4 x4 N4 hw5
  go_wp2_with fail
  rw [rounds_succ]
  go_wp2_with fail
  have rR := blk_regrown r5
  have rB := blk_regrown b5
  obtain ⟨ry0, ry1⟩ := y5.regrown
  have rx0 : ∀ (d : Nat) (os : Array Obj), (grow (redrawn w5 d) os).cell? ⟨bL, oL, none⟩ = some (.int .i64 x) := fun d os => by
    obtain ⟨b', o', e, h0, -⟩ := ns13 (x5.new (new_regrown w5 d os)); cases e; exact h0
  have rx1 : ∀ (d : Nat) (os : Array Obj), (grow (redrawn w5 d) os).cell? ⟨bL, oL + 1, none⟩ = some (.int .i64 y) := fun d os => by
    obtain ⟨b', o', e, -, h0, -⟩ := ns13 (x5.new (new_regrown w5 d os)); cases e; exact h0
  refine wp_region_quiet_below (by kernel_rfl) (by kernel_rfl) ?_
  repeat (go_big_quiet_step (fail))
  refine wpQuiet_nil ?_
  rintro w6 hw6
  replace hw6 := new_of_regrown hw6
  have r6 := r5.new hw6
  have b6 := b5.new hw6
  have y6 := y5.new hw6
  have x6 := x5.new hw6
  have N6 := N5.trans hw6
  clear rR rB ry0 ry1 rx0 rx1 r5 b5 y5 x5 N5 hw6
  go_wp2_with fail
  rw [rounds_succ]
  go_wp2_with fail
  refine (drawGr a n c zs _ (h.new N6) HN.out hmb (fun x hz hx => Nat.lt_of_lt_of_le (ha x hz hx) N6.size)).mono ?_
  rintro e w7 ⟨ho, ep, ak, he, u, v, rfl, hn7⟩
  have al := (New.refl w7).alloc (.cells #[.int .i64 ho, .int .i64 ep, .int .i64 ak, .int .i64 he] 28)
  have l8 := Blk.mk w7 w7.heap.size 28 #[.int .i64 ho, .int .i64 ep, .int .i64 ak, .int .i64 he] rfl
  have r8 := (r6.new hn7).new al
  have b8 := (b6.new hn7).new al
  have y8 := (y6.new hn7).new al
  have N8 := (N6.trans hn7).trans al
  go_upto_region 13 with fail
  generalize w7.alloc (.cells #[.int .i64 ho, .int .i64 ep, .int .i64 ak, .int .i64 he] 28) = w8 at *
  clear al r6 b6 y6 x6 N6 hn7
  obtain ⟨⟨gc, gh, ge, ga, gr⟩, HG⟩ : ∃ r, Hid (r = grR ho ep ak he u v) := ⟨_, rfl⟩
  have c8 := l8.cells
  go_wp2_with fail
  have hI := implGr ho ep ak he u v w8
  rw [← HG.out] at hI
  refine hI.mono ?_
  rintro e w9 ⟨rfl, hn9⟩
  clear hI c8
  have al := (New.refl w9).alloc (.cells #[.int .i64 gc, .int .i64 gh, .int .i64 ge, .int .i64 ga, .int .i64 gr] 36)
  have g10 := Blk.mk w9 w9.heap.size 36 #[.int .i64 gc, .int .i64 gh, .int .i64 ge, .int .i64 ga, .int .i64 gr] rfl
  have l10 := (l8.new hn9).new al
  have r10 := (r8.new hn9).new al
  have b10 := (b8.new hn9).new al
  have y10 := (y8.new hn9).new al
  have N10 := (N8.trans hn9).trans al
  go_upto_region 14 with fail
  generalize w9.alloc (.cells #[.int .i64 gc, .int .i64 gh, .int .i64 ge, .int .i64 ga, .int .i64 gr] 36) = w10 at *
  clear al l8 r8 b8 y8 N8 hn9
  have cg := g10.cells
  by_cases hc : gc = 0
  case neg =>
    have hc' : (gc != 0) = true := by simpa using hc
    have hrr : (gc == gc) = true := by simp
    go_upto_region 15 with fail
    clear cg
    refine hw_start (n := 9) (S := fun X => New w10 X) rfl (by kernel_rfl) ((New.refl _).drew) (fun hH => ?_)
    refine' hw_take 0 (some 97) (.agg #[.int .i64 ho, .int .i64 ep, .int .i64 ak, .int .i64 he]) rfl rfl (by kernel_rfl) (by kernel_rfl) (by kernel_rfl) (fun _ _ _ h => h) (by rfl) hH ?hzG ?rzG
    case hzG =>
      intro X hX
      exact run_load_blk 28 (.tmp 8) rfl w7.heap.size rfl #[.int .i64 ho, .int .i64 ep, .int .i64 ak, .int .i64 he] _ (l10.new hX) Try.underlying28 rfl (by kernel_rfl)
    simp only [Act.put, List.setIfInBounds_toArray, List.set_cons_zero, List.set_cons_succ]
    refine' hw_take 1 (some 98) _ rfl rfl (by kernel_rfl) (by kernel_rfl) (by kernel_rfl) (fun _ _ _ h => h) (by rfl) hH ?hy7 ?rest7
    case hy7 =>
      intro X hX
      go_simp
      try rfl
    simp only [Act.put, List.setIfInBounds_toArray, List.set_cons_zero, List.set_cons_succ]
    refine' hw_take 2 (some 99) _ rfl rfl (by kernel_rfl) (by kernel_rfl) (by kernel_rfl) (fun _ _ _ h => h) (by rfl) hH ?hy8 ?rest8
    case hy8 =>
      intro X hX
      go_simp
      try rfl
    simp only [Act.put, List.setIfInBounds_toArray, List.set_cons_zero, List.set_cons_succ]
    refine' hw_take 5 (some 102) _ rfl rfl (by kernel_rfl) (by kernel_rfl) (by kernel_rfl) (fun _ _ _ h => h) (by rfl) hH ?hy9 ?rest9
    case hy9 =>
      intro X hX
      go_simp
      try rfl
    simp only [Act.put, List.setIfInBounds_toArray, List.set_cons_zero, List.set_cons_succ]
    refine' hw_take 6 (some 103) _ rfl rfl (by kernel_rfl) (by kernel_rfl) (by kernel_rfl) (fun _ _ _ h => h) (by rfl) hH ?hy10 ?rest10
    case hy10 =>
      intro X hX
      have cX := (g10.new hX).cells
      go_simp
      try rfl
    simp only [Act.put, List.setIfInBounds_toArray, List.set_cons_zero, List.set_cons_succ]
    refine hw_call 3 (some 100) rfl rfl (by kernel_rfl) (by rfl) (fun K hK => ?_)
    go_simp
    refine (specGr_is ho ep ak he u v ⟨gc, gh, ge, ga, gr⟩ _ HG.out).mono ?_
    rintro e wq ⟨rfl, hnq⟩
    go_simp
    have nq' := hH.trans hnq
    refine hK.out _ _ nq' (fun _ => ?_)
    simp only [Act.put, List.setIfInBounds_toArray, List.set_cons_zero, List.set_cons_succ]
    refine' hw_take 4 (some 101) (.int .i64 gc) rfl rfl (by kernel_rfl) (by kernel_rfl) (by kernel_rfl) (fun _ _ _ h => h) (by rfl) nq' ?hzH ?rzH
    case hzH =>
      intro X hX
      first | (go_simp; done) | (go_simp; rfl) | kernel_rfl
    simp only [Act.put, List.setIfInBounds_toArray, List.set_cons_zero, List.set_cons_succ]
    refine' hw_take 7 (some 104) _ rfl rfl (by kernel_rfl) (by kernel_rfl) (by kernel_rfl) (fun _ _ _ h => h) (by rfl) nq' ?hy11 ?rest11
    case hy11 =>
      intro X hX
      go_simp
      try rfl
    simp only [Act.put, List.setIfInBounds_toArray, List.set_cons_zero, List.set_cons_succ]
    refine' hw_take 8 (some 2) _ rfl rfl (by kernel_rfl) (by kernel_rfl) (by kernel_rfl) (fun _ _ _ h => h) (by rfl) nq' ?hy12 ?rest12
    case hy12 =>
      intro X hX
      go_simp
      try rfl
    simp only [Act.put, List.setIfInBounds_toArray, List.set_cons_zero, List.set_cons_succ]
    refine wpAnyH_done (by kernel_rfl) ?_ _
    go_wp2
    go_ret
    exact ⟨rfl, N10.trans nq'⟩
  subst hc
  obtain ⟨rfl, rfl, rfl, rfl, hle, hak⟩ := gr_zero HG.out
  have GP : Hid (LeP gh ge ga gr) := hle
  have eh : (gh == gh) = true := by simp
  clear HG hle
  have cr := r10.cells
  have cb := b10.cells
  have cl := l10.cells
  go_wp2_with fail
  refine (implCkF_is (nw + t) (some ⟨g3, 0, none⟩) 2 k3 [x1, y1] 0 _ (y10.ns (by intro z hz; simp only [List.mem_cons, List.not_mem_nil, or_false] at hz; unfold In6; omega)) rfl (by omega) hkp.out).mono ?_
  rintro e w11 ⟨rfl, hn11⟩
  have r11 := r10.new hn11
  have b11 := b10.new hn11
  have l11 := l10.new hn11
  have g11 := g10.new hn11
  have N11 := N10.trans hn11
  clear cr cb cl cg r10 b10 l10 g10 N10 y10 hn11
  have cr := r11.cells
  have cb := b11.cells
  have cl := l11.cells
  have cg := g11.cells
  go_wp2_with fail
  refine (implLeF_is gh ge ga gr 0 _ (lf_ok GP.out)).mono ?_
  rintro e w12 ⟨rfl, hn12⟩
  have cl2 := (l11.new hn12).cells
  have cg2 := (g11.new hn12).cells
  clear cr cb cl cg
  go_wp2
  go_ret
  exact ⟨rfl, N11.trans hn12⟩

set_option maxRecDepth 100000 in
theorem fnck_lifted (os : Os) (started : os.Started) (H : Type) (enc : TypeId × Value → H) :
    ReturnsInHanded {} Try.checked os 4 .any (Rows.fnClocksSpec.pre6 enc Try.prog Try.f4 Rows.fnClocksRow.domain false) (Rows.fnClocksSpec.post enc Try.prog Try.f4 false true false false) := by
  refine returnsInHanded_of_change (C := Try.checked) own started (by kernel_rfl) Try.func4
    (ChangeSpec.witness6 (enc := enc) (C := Try.checked) false ⟨#[], #[.slice none 0 0], []⟩ 8 (by kernel_rfl) (by kernel_rfl) (by kernel_rfl) (by kernel_rfl)) ?_
  intro W base args ds gs before hval0 hW hcnd _
  have hval : ∀ (j : Nat) t v, Try.f4.params[j]? = some t → args[j]? = some v → Value.okWide Try.prog W .any base t v := hval0
  have hW' := hW
  obtain ⟨p, q, hA0, hV, rfl, hfz, hnd⟩ := hW
  have hA : DataW.TrodAll enc Try.prog W 0 (fun _ => true) true Try.f4.params.toList args.toList ds p := hA0
  rw [Try.params4] at hA hval
  obtain ⟨v0, vs0, d0, ds0, p0, q0, hargs, rfl, rfl, h0, r0⟩ := trodAll_cons hA
  obtain ⟨rfl, rfl, rfl⟩ := trodAll_nil r0
  obtain rfl : args = #[v0] := by cases args; simp_all
  obtain ⟨rfl, rfl⟩ := trodVars_none hV
  have k0 := h0
  have lt0 : ∀ x ∈ p0, x.block < W.heap.size := by obtain ⟨m, hm⟩ := k0; exact DataW.trod_lt m _ _ _ hm
  obtain ⟨a0, len0, cap0, rfl⟩ := okWide_slice Try.underlying22 (hval 0 22 v0 rfl rfl)
  obtain ⟨z0, b0, e0, m0⟩ := open_bytes h0
  clear hA0 hval0
  refine (fnck_walk a0 len0 cap0 z0 W b0 e0 m0.2 (fun x h1 h2 => by obtain ⟨bb, oo, hh, hl⟩ := b0.block_lt h1; rw [h2] at hh; obtain rfl := Option.some.inj hh; exact hl)).mono fun e W' ⟨he, new⟩ => ?_
  have bel := new.below
  subst he
  exact ⟨_, rfl, _, _, _, [], _, [], hW', trodAll_mk1 (shut_bool Try.underlying4 _), (trodAll_cons_mk (Below.trod laidOut (by kernel_rfl) (of_decide_eq_true (by kernel_rfl)) k0 bel lt0) trodAll_mk0), rfl, bel.frame _, fun h => by cases h⟩

theorem fnck_holds : Rows.FnClocksSaid :=
  OpenClaim.holds_of_wide 4 Try.f4 rfl rfl rfl rfl rfl rfl rfl ⟨rfl, rfl, rfl, rfl, rfl⟩ rfl rfl rfl rfl rfl (by kernel_rfl) Try.func4 (by kernel_rfl)
    (of_decide_eq_true (by kernel_rfl)) (by unfold Func.isWrapper; first | (rw [if_pos (by decide +kernel)]; kernel_rfl) | (rw [if_neg (by decide +kernel)]; exact ⟨rfl, rfl⟩))
    (fun os started H enc _ => fnck_lifted os started H enc)

end Go.Proofs.Ytpbmbnckdmjdhaa
