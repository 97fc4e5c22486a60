/- What is proved here: for every two attributes the law on SameAttrs returns true, and the attributes read as they did. No condition. -/
import Derived.Test.YtgjdjafldogecaaAtOpen
import Derived.Deep.RegionHeld3
namespace Go.Proofs.Ytgjdjafldogecaa
open Go.ChangeShapes Go.WideShapes Go.ChangeAt Go.RowKit Go.Sort
set_option linter.unusedVariables false

set_option maxHeartbeats 3200000 in
theorem asa_walk (o nx md lc p ny me ld : Int) (a b : Option Addr) (n c m d : Nat) (xs ys : List Int) (w : World) (h : NsAt w a xs) (k : NsAt w b ys) (hn : xs.length = n) (km : ys.length = m) (hm : n ≤ maxLen) (kk : m ≤ maxLen) :
    Calls Try.prog 4 #[.agg #[.int .i64 o, .slice a n c, .int .i64 nx, .int .i64 md, .int .i64 lc], .agg #[.int .i64 p, .slice b m d, .int .i64 ny, .int .i64 me, .int .i64 ld]] w fun e w' => e = .returned (.bool true) ∧ New w w' := by
  have hw := ((New.refl w).alloc (.cells #[.int .i64 o, .slice a n c, .int .i64 nx, .int .i64 md, .int .i64 lc] 24)).alloc (.cells #[.int .i64 p, .slice b m d, .int .i64 ny, .int .i64 me, .int .i64 ld] 24)
  have bA : Blk ((w.alloc (.cells #[.int .i64 o, .slice a n c, .int .i64 nx, .int .i64 md, .int .i64 lc] 24)).alloc (.cells #[.int .i64 p, .slice b m d, .int .i64 ny, .int .i64 me, .int .i64 ld] 24)) w.heap.size 24 #[.int .i64 o, .slice a n c, .int .i64 nx, .int .i64 md, .int .i64 lc] := (Blk.mk _ _ _ _ rfl).alloc _
  have bB : Blk ((w.alloc (.cells #[.int .i64 o, .slice a n c, .int .i64 nx, .int .i64 md, .int .i64 lc] 24)).alloc (.cells #[.int .i64 p, .slice b m d, .int .i64 ny, .int .i64 me, .int .i64 ld] 24)) (w.heap.size + 1) 24 #[.int .i64 p, .slice b m d, .int .i64 ny, .int .i64 me, .int .i64 ld] := Blk.mk _ _ _ _ (by simp)
  by_cases hbig : 1048576 < n
  · go_enter Try.func4, Try.ntmps4
    go_wp2_with fail
    refine (szAt_big o nx md lc a n c 1048576 _ (Nat.le_refl _) hm hbig).mono ?_
    rintro e w1 ⟨rfl, hn1⟩
    go_wp2
    go_ret
    exact ⟨rfl, hw.trans hn1⟩
  have hm' : n ≤ 1048576 := by omega
  have hsub : ((1048576 : Nat) : Int) - (n : Int) = ((1048576 - n : Nat) : Int) := by omega
  have hnl : (1048576 - n : Nat) ≤ 1048576 := by omega
  by_cases hbig2 : 1048576 - n < m
  · go_enter Try.func4, Try.ntmps4
    go_wp2_with fail
    refine (szAt_ok o nx md lc a n c 1048576 _ (Nat.le_refl _) hm').mono ?_
    rintro e w1 ⟨rfl, hn1⟩
    rw [hsub]
    have cB := (bB.new hn1).cells
    go_wp2_with fail
    refine (szAt_big p ny me ld b m d (1048576 - n) _ hnl kk hbig2).mono ?_
    rintro e w2 ⟨rfl, hn2⟩
    go_wp2
    go_ret
    exact ⟨rfl, (hw.trans hn1).trans hn2⟩
  have km' : m ≤ 1048576 := by omega
  have hle : m ≤ 1048576 - n := by omega
  have hsub2 : ((1048576 - n : Nat) : Int) - (m : Int) = ((1048576 - n - m : Nat) : Int) := by omega
  have hbd : Hid (∀ z ∈ xs, In6 z) := h.bd
  have kbd : Hid (∀ z ∈ ys, In6 z) := k.bd
  have HN : Hid (xs.length = n) := hn
  have KM : Hid (ys.length = m) := km
  clear hm hn kk km
  obtain ⟨v, hv⟩ : ∃ v, decide (SaP o xs nx md lc p ys ny me ld) = v := ⟨_, rfl⟩
  have HV : Hid (decide (SaP o xs nx md lc p ys ny me ld) = v) := hv
  clear hv
  have hz : (v != v) = false := by simp
  go_enter Try.func4, Try.ntmps4
  go_wp2_with fail
  refine (szAt_ok o nx md lc a n c 1048576 _ (Nat.le_refl _) hm').mono ?_
  rintro e w1 ⟨rfl, hn1⟩
  rw [hsub]
  have cB := (bB.new hn1).cells
  go_wp2_with fail
  refine (szAt_ok p ny me ld b m d (1048576 - n) _ hnl hle).mono ?_
  rintro e w2 ⟨rfl, hn2⟩
  rw [hsub2]
  have hw2 := (hw.trans hn1).trans hn2
  have bA2 := (bA.new hn1).new hn2
  have bB2 := (bB.new hn1).new hn2
  clear cB hn1 hn2 bA bB hw hsub hsub2
  have cA := bA2.cells
  have cB := bB2.cells
  generalize (1048576 - n - m : Nat) = left at *
  go_wp2_with fail
  go_region_held3 (fun W => (∀ j, W.cell? ⟨w.heap.size, j, none⟩ = #[Value.int .i64 o, .slice a n c, .int .i64 nx, .int .i64 md, .int .i64 lc][j]?) ∧ (∀ j, W.cell? ⟨w.heap.size + 1, j, none⟩ = #[Value.int .i64 p, .slice b m d, .int .i64 ny, .int .i64 me, .int .i64 ld][j]?)) (first | exact ⟨cA, cB⟩ | exact ⟨cA3, cB3⟩ | exact ⟨cA4, cB4⟩ | exact ⟨cA5, cB5⟩)
    (first
      | (go_at_call_of 11 o; refine (toAt_any o nx md lc a n c xs _ ?_ HN.out hm').mono ?_; exact (h.new hw2).new ((New.refl _).drew); rintro e w3 ⟨g3, rfl, hg3, ho3, hn3⟩; have cA3 := (bA2.new (((New.refl _).drew).trans hn3)).cells; have cB3 := (bB2.new (((New.refl _).drew).trans hn3)).cells)
      | (go_at_call_of 11 p; refine (toAt_any p ny me ld b m d ys _ ?_ KM.out km').mono ?_; exact (k.new hw2).new (((New.refl _).drew).trans hn3); rintro e w4 ⟨g4, rfl, hg4, ho4, hn4⟩; have cA4 := (bA2.new ((((New.refl _).drew).trans hn3).trans hn4)).cells; have cB4 := (bB2.new ((((New.refl _).drew).trans hn3).trans hn4)).cells)
      | (go_at_call 14; refine (specSA o nx md lc p ny me ld _ _ n m n m xs ys v _ ?_ ?_ HN.out KM.out hm' km' HV.out).mono ?_; exact (ho3.ns hbd.out).new hn4; exact ho4.ns kbd.out; rintro e w5 ⟨rfl, hn5⟩; have cA5 := (bA2.new (((((New.refl _).drew).trans hn3).trans hn4).trans hn5)).cells; have cB5 := (bB2.new (((((New.refl _).drew).trans hn3).trans hn4).trans hn5)).cells))
  have hn25 : New w2 w5 := ((((New.refl _).drew).trans hn3).trans hn4).trans hn5
  have bA5 := bA2.new hn25
  have bB5 := bB2.new hn25
  have hw5 := hw2.trans hn25
  clear cA cB cA3 cB3 cA4 cB4 cA5 cB5 bA2 bB2 hn3 hn4 hn5 ho3 ho4 hg3 hg4 hn25
  have cA := bA5.cells
  go_wp2_with fail
  refine (toAt_any o nx md lc a n c xs _ (h.new hw5) HN.out hm').mono ?_
  rintro e w6 ⟨g6, rfl, hg6, ho6, hn6⟩
  have hal6 := (New.refl w6).alloc (.cells #[.int .i64 o, .slice (some ⟨g6, 0, none⟩) n n, .int .i64 nx, .int .i64 md, .int .i64 lc] 27)
  have bA6 := (bA5.new hn6).new hal6
  have bB6 := (bB5.new hn6).new hal6
  have bX6 := Blk.mk w6 w6.heap.size 27 #[.int .i64 o, .slice (some ⟨g6, 0, none⟩) n n, .int .i64 nx, .int .i64 md, .int .i64 lc] rfl
  have hw6 := (hw5.trans hn6).trans hal6
  have hox6 := ho6.new hal6
  clear cA bA5 bB5 hn6 ho6 hg6
  have cB := bB6.cells
  go_wp2_with fail
  refine (toAt_any p ny me ld b m d ys _ (k.new hw6) KM.out km').mono ?_
  rintro e w7 ⟨g7, rfl, hg7, ho7, hn7⟩
  have hal7 := (New.refl w7).alloc (.cells #[.int .i64 p, .slice (some ⟨g7, 0, none⟩) m m, .int .i64 ny, .int .i64 me, .int .i64 ld] 27)
  have bA7 := (bA6.new hn7).new hal7
  have bB7 := (bB6.new hn7).new hal7
  have bX7 := (bX6.new hn7).new hal7
  have bY7 := Blk.mk w7 w7.heap.size 27 #[.int .i64 p, .slice (some ⟨g7, 0, none⟩) m m, .int .i64 ny, .int .i64 me, .int .i64 ld] rfl
  have hw7 := (hw6.trans hn7).trans hal7
  have hox7 := (hox6.new hn7).new hal7
  have hoy7 := ho7.new hal7
  clear cB bA6 bB6 bX6 hn7 ho7 hg7 hox6
  have cX := bX7.cells
  have cY := bY7.cells
  go_wp2_with fail
  refine (implSA o nx md lc p ny me ld _ _ n m n m xs ys v _ (hox7.ns hbd.out) (hoy7.ns kbd.out) HN.out KM.out hm' km' HV.out).mono ?_
  rintro e w8 ⟨rfl, hn8⟩
  have bA8 := bA7.new hn8
  have bB8 := bB7.new hn8
  have bX8 := bX7.new hn8
  have bY8 := bY7.new hn8
  have hw8 := hw7.trans hn8
  have hox8 := hox7.new hn8
  have hoy8 := hoy7.new hn8
  clear cX cY bA7 bB7 bX7 bY7 hn8 hox7 hoy7 hal6 hal7
  have cA := bA8.cells
  have cX := bX8.cells
  go_wp2_with fail
  go_region_held3 (fun W => (∀ j, W.cell? ⟨w.heap.size, j, none⟩ = #[Value.int .i64 o, .slice a n c, .int .i64 nx, .int .i64 md, .int .i64 lc][j]?) ∧ (∀ j, W.cell? ⟨w6.heap.size, j, none⟩ = #[Value.int .i64 o, .slice (some ⟨g6, 0, none⟩) n n, .int .i64 nx, .int .i64 md, .int .i64 lc][j]?)) (first | exact ⟨cA, cX⟩ | exact ⟨cA9, cX9⟩ | exact ⟨cA10, cX10⟩)
    (first
      | (go_at_call 11; refine (toAt_any o nx md lc a n c xs _ ?_ HN.out hm').mono ?_; exact (h.new hw8).new ((New.refl _).drew); rintro e w9 ⟨g9, rfl, hg9, ho9, hn9⟩; have cA9 := (bA8.new (((New.refl _).drew).trans hn9)).cells; have cX9 := (bX8.new (((New.refl _).drew).trans hn9)).cells)
      | (go_at_call 13; refine (eqAt_any o nx md lc _ _ n n n xs _ ?_ ?_ HN.out hm').mono ?_; exact (hox8.ns hbd.out).new (((New.refl _).drew).trans hn9); exact ho9.ns hbd.out; rintro e w10 ⟨rfl, hn10⟩; have cA10 := (bA8.new ((((New.refl _).drew).trans hn9).trans hn10)).cells; have cX10 := (bX8.new ((((New.refl _).drew).trans hn9).trans hn10)).cells))
  have hn810 : New w8 w10 := (((New.refl _).drew).trans hn9).trans hn10
  have bB10 := bB8.new hn810
  have bY10 := bY8.new hn810
  have hw10 := hw8.trans hn810
  have hoy10 := hoy8.new hn810
  clear cA cX cA9 cX9 cA10 cX10 bA8 bB8 bX8 bY8 hn9 hn10 ho9 hg9 hn810 hox8 hoy8
  have cB := bB10.cells
  have cY := bY10.cells
  go_wp2_with fail
  go_region_held3 (fun W => (∀ j, W.cell? ⟨w.heap.size + 1, j, none⟩ = #[Value.int .i64 p, .slice b m d, .int .i64 ny, .int .i64 me, .int .i64 ld][j]?) ∧ (∀ j, W.cell? ⟨w7.heap.size, j, none⟩ = #[Value.int .i64 p, .slice (some ⟨g7, 0, none⟩) m m, .int .i64 ny, .int .i64 me, .int .i64 ld][j]?)) (first | exact ⟨cB, cY⟩ | exact ⟨cB11, cY11⟩ | exact ⟨cB12, cY12⟩)
    (first
      | (go_at_call 11; refine (toAt_any p ny me ld b m d ys _ ?_ KM.out km').mono ?_; exact (k.new hw10).new ((New.refl _).drew); rintro e w11 ⟨g11, rfl, hg11, ho11, hn11⟩; have cB11 := (bB10.new (((New.refl _).drew).trans hn11)).cells; have cY11 := (bY10.new (((New.refl _).drew).trans hn11)).cells)
      | (go_at_call 13; refine (eqAt_any p ny me ld _ _ m m m ys _ ?_ ?_ KM.out km').mono ?_; exact (hoy10.ns kbd.out).new (((New.refl _).drew).trans hn11); exact ho11.ns kbd.out; rintro e w12 ⟨rfl, hn12⟩; have cB12 := (bB10.new ((((New.refl _).drew).trans hn11).trans hn12)).cells; have cY12 := (bY10.new ((((New.refl _).drew).trans hn11).trans hn12)).cells))
  have hn1012 : New w10 w12 := (((New.refl _).drew).trans hn11).trans hn12
  go_wp2
  go_ret
  exact ⟨rfl, hw10.trans hn1012⟩

set_option maxRecDepth 100000 in
theorem asa_lifted (os : Os) (started : os.Started) (H : Type) (enc : TypeId × Value → H) :
    ReturnsInHanded {} Try.checked os 4 .any (Rows.fnExactSameAttrsSpec.pre6 enc Try.prog Try.f4 Rows.fnExactSameAttrsRow.domain false) (Rows.fnExactSameAttrsSpec.post enc Try.prog Try.f4 false true false false) := by
  refine returnsInHanded_of_change (C := Try.checked) own started (by kernel_rfl) Try.func4
    (ChangeSpec.witness6 (enc := enc) (C := Try.checked) false ⟨#[], #[.agg #[.int .i64 0, .slice none 0 0, .int .i64 0, .int .i64 0, .int .i64 0], .agg #[.int .i64 0, .slice none 0 0, .int .i64 0, .int .i64 0, .int .i64 0]], []⟩ 8 (by kernel_rfl) (by kernel_rfl) (by kernel_rfl) (by kernel_rfl)) ?_
  intro W base args ds gs before hval0 hW hcnd _
  have hval : ∀ (j : Nat) t v, Try.f4.params[j]? = some t → args[j]? = some v → Value.okWide Try.prog W .any base t v := hval0
  have hW' := hW
  obtain ⟨p, q, hA0, hV, rfl, hfz, hnd⟩ := hW
  have hA : DataW.TrodAll enc Try.prog W 0 (fun _ => true) true Try.f4.params.toList args.toList ds p := hA0
  rw [Try.params4] at hA hval
  obtain ⟨v0, vs0, d0, ds0, p0, q0, hargs, rfl, rfl, h0, r0⟩ := trodAll_cons hA
  obtain ⟨v1, vs1, d1, ds1, p1, q1, rfl, rfl, rfl, h1, r1⟩ := trodAll_cons r0
  obtain ⟨rfl, rfl, rfl⟩ := trodAll_nil r1
  obtain rfl : args = #[v0, v1] := by cases args; simp_all
  obtain ⟨rfl, rfl⟩ := trodVars_none hV
  have k0 := h0
  have lt0 : ∀ x ∈ p0, x.block < W.heap.size := by obtain ⟨m, hm⟩ := k0; exact DataW.trod_lt m _ _ _ hm
  obtain ⟨o0, nx0, md0, lc0, a0, n0, c0, x0, rfl, b0, e0, m0, io0, in0, im0, il0⟩ := open_attrs (hval 0 24 v0 rfl rfl) h0
  have k1 := h1
  have lt1 : ∀ x ∈ p1, x.block < W.heap.size := by obtain ⟨m, hm⟩ := k1; exact DataW.trod_lt m _ _ _ hm
  obtain ⟨o1, nx1, md1, lc1, a1, n1, c1, x1, rfl, b1, e1, m1, io1, in1, im1, il1⟩ := open_attrs (hval 1 24 v1 rfl rfl) h1
  clear hA0 hval0
  refine (asa_walk o0 nx0 md0 lc0 o1 nx1 md1 lc1 a0 a1 n0 c0 n1 c1 x0 x1 W b0 b1 e0 e1 m0 m1).mono fun e W' ⟨he, new⟩ => ?_
  have bel := new.below
  subst he
  exact ⟨_, rfl, _, _, _, [], _, [], hW', trodAll_mk1 (shut_bool Try.underlying4 _), (trodAll_cons_mk (Below.trod laidOut (by kernel_rfl) (of_decide_eq_true (by kernel_rfl)) k0 bel lt0) (trodAll_cons_mk (Below.trod laidOut (by kernel_rfl) (of_decide_eq_true (by kernel_rfl)) k1 bel lt1) trodAll_mk0)), rfl, bel.frame _, fun h => by cases h⟩

theorem asa_holds : Rows.FnExactSameAttrsSaid :=
  OpenClaim.holds_of_wide 4 Try.f4 rfl rfl rfl rfl rfl rfl rfl ⟨rfl, rfl, rfl, rfl, rfl⟩ rfl rfl rfl rfl rfl (by kernel_rfl) Try.func4 (by kernel_rfl)
    (of_decide_eq_true (by kernel_rfl)) (by unfold Func.isWrapper; first | (rw [if_pos (by decide +kernel)]; kernel_rfl) | (rw [if_neg (by decide +kernel)]; exact ⟨rfl, rfl⟩))
    (fun os started H enc _ => asa_lifted os started H enc)

end Go.Proofs.Ytgjdjafldogecaa
