/- What is proved here: for every rule, prefix and attributes the law on RuleMatches returns true, and they read as they did. No condition. -/
import Derived.Test.YtlmojgecflcbkaaR6Open
import Derived.Test.YtlmojgecflcbkaaR6RM
import Derived.Deep.RegionHeld3
import Derived.Deep.CutRange
namespace Go.Proofs.Ytlmojgecflcbkaa
open Go.ChangeShapes Go.WideShapes Go.ChangeAt Go.RowKit Go.Sort
set_option linter.unusedVariables false

set_option maxHeartbeats 6400000 in
theorem arm_walk (a l ls ms s : Int) (d : Bool) (lc pp : Int) (p q : Int) (o nx md lo : Int) (x : Option Addr) (n c : Nat) (xs : List Int) (w : World) (h : NsAt w x xs) (hn : xs.length = n) (hm : n ≤ maxLen) :
    Calls Try.prog 5 #[.agg #[.int .i64 a, .int .i64 l, .int .i64 ls, .int .i64 ms, .int .i64 s, .bool d, .int .i64 lc, .int .i64 pp], .agg #[.int .i64 p, .int .i64 q], .agg #[.int .i64 o, .slice x n c, .int .i64 nx, .int .i64 md, .int .i64 lo]] w fun e w' => e = .returned (.bool true) ∧ New w w' := by
  have N0 : New w (((w.alloc (.cells #[.int .i64 a, .int .i64 l, .int .i64 ls, .int .i64 ms, .int .i64 s, .bool d, .int .i64 lc, .int .i64 pp] 25)).alloc (.cells #[.int .i64 p, .int .i64 q] 23)).alloc (.cells #[.int .i64 o, .slice x n c, .int .i64 nx, .int .i64 md, .int .i64 lo] 41)) := (((New.refl w).alloc _).alloc _).alloc _
  by_cases hbig : 1048576 < n
  case pos =>
    go_enter Try.func5, Try.ntmps5
    go_wp2_with fail
    refine (szAt_big o nx md lo x n c 1048576 _ (Nat.le_refl _) hm hbig).mono ?_
    rintro e w1 ⟨rfl, hn1⟩
    go_wp2
    go_ret
    exact ⟨rfl, N0.trans hn1⟩
  have hm' : n ≤ 1048576 := by omega
  have hbd : Hid (∀ z ∈ xs, In6 z) := h.bd
  have HN : Hid (xs.length = n) := hn
  clear hm hn hbig
  obtain ⟨v, hv⟩ : ∃ v, Hid (rm a l ls ms s d lc pp p q o xs nx md lo = v) := ⟨_, rfl⟩
  have bR : Blk (((w.alloc (.cells #[.int .i64 a, .int .i64 l, .int .i64 ls, .int .i64 ms, .int .i64 s, .bool d, .int .i64 lc, .int .i64 pp] 25)).alloc (.cells #[.int .i64 p, .int .i64 q] 23)).alloc (.cells #[.int .i64 o, .slice x n c, .int .i64 nx, .int .i64 md, .int .i64 lo] 41)) w.heap.size 25 #[.int .i64 a, .int .i64 l, .int .i64 ls, .int .i64 ms, .int .i64 s, .bool d, .int .i64 lc, .int .i64 pp] := ((Blk.mk _ _ _ _ rfl).alloc _).alloc _
  have bP : Blk (((w.alloc (.cells #[.int .i64 a, .int .i64 l, .int .i64 ls, .int .i64 ms, .int .i64 s, .bool d, .int .i64 lc, .int .i64 pp] 25)).alloc (.cells #[.int .i64 p, .int .i64 q] 23)).alloc (.cells #[.int .i64 o, .slice x n c, .int .i64 nx, .int .i64 md, .int .i64 lo] 41)) (w.heap.size + 1) 23 #[.int .i64 p, .int .i64 q] := (Blk.mk _ _ _ _ (by simp)).alloc _
  have bA : Blk (((w.alloc (.cells #[.int .i64 a, .int .i64 l, .int .i64 ls, .int .i64 ms, .int .i64 s, .bool d, .int .i64 lc, .int .i64 pp] 25)).alloc (.cells #[.int .i64 p, .int .i64 q] 23)).alloc (.cells #[.int .i64 o, .slice x n c, .int .i64 nx, .int .i64 md, .int .i64 lo] 41)) (w.heap.size + 1 + 1) 41 #[.int .i64 o, .slice x n c, .int .i64 nx, .int .i64 md, .int .i64 lo] := Blk.mk _ _ _ _ (by simp)
  have hz : (v != v) = false := by simp
  go_enter Try.func5, Try.ntmps5
  go_wp2_with fail
  refine (szAt_ok o nx md lo x n c 1048576 _ (Nat.le_refl _) hm').mono ?_
  rintro e w1 ⟨rfl, hn1⟩
  have bR1 := bR.new hn1
  have bP1 := bP.new hn1
  have bA1 := bA.new hn1
  have N1 := N0.trans hn1
  clear bR bP bA hn1 N0
  go_upto_region 5 with fail
  go_cut [8] from 16 to 22 (fun u wx => u = .bool v ∧ New w1 wx)
  case first =>
    have d0 := bR1
    have d1 := bP1
    have d2 := bA1
    have dN : New w1 w1 := New.refl _
    have dh := h.new N1
    go_region_held3 (fun W => (∀ j, W.cell? ⟨w.heap.size, j, none⟩ = #[Value.int .i64 a, .int .i64 l, .int .i64 ls, .int .i64 ms, .int .i64 s, .bool d, .int .i64 lc, .int .i64 pp][j]?) ∧ (∀ j, W.cell? ⟨w.heap.size + 1, j, none⟩ = #[Value.int .i64 p, .int .i64 q][j]?) ∧ (∀ j, W.cell? ⟨w.heap.size + 1 + 1, j, none⟩ = #[Value.int .i64 o, .slice x n c, .int .i64 nx, .int .i64 md, .int .i64 lo][j]?)) (exact ⟨d0.cells, d1.cells, d2.cells⟩)
      (first
        | (go_at_call 10; refine (toRule_any a l ls ms s d lc pp _).mono ?_; rintro e wx ⟨rfl, h1⟩; (try simp only [New.drew_mark6] at h1); have d0 := d0.new h1; have d1 := d1.new h1; have d2 := d2.new h1; have dN := dN.trans h1; have dh := dh.new h1; (try have pq := pq.new h1))
        | (go_at_call 19; refine (toPrefix_any p q _).mono ?_; rintro e wx ⟨rfl, h2⟩; (try simp only [New.drew_mark6] at h2); have d0 := d0.new h2; have d1 := d1.new h2; have d2 := d2.new h2; have dN := dN.trans h2; have dh := dh.new h2; (try have pq := pq.new h2))
        | (go_at_call 20; refine (toAt_any o nx md lo x n c xs _ (by first | exact dh | exact dh.new ((New.refl _).drew)) HN.out hm').mono ?_; rintro e wx ⟨g, rfl, hg, ho, h3⟩; (try simp only [New.drew_mark6] at h3); have d0 := d0.new h3; have d1 := d1.new h3; have d2 := d2.new h3; have dN := dN.trans h3; have dh := dh.new h3; have pq := ho.ns hbd.out)
        | (go_at_call 18; refine (specRM a l ls ms s d lc pp p q o nx md lo _ n n xs v _ pq HN.out hm' hv.out).mono ?_; rintro e wx ⟨rfl, h4⟩; (try simp only [New.drew_mark6] at h4); have d0 := d0.new h4; have d1 := d1.new h4; have d2 := d2.new h4; have dN := dN.trans h4; have dh := dh.new h4; (try have pq := pq.new h4)))
    all_goals
      go_wp2_with fail
      go_meet
      case rel => exact ⟨rfl, dN⟩
  case rest =>
  obtain ⟨rfl, hc⟩ := hcut
  have bR3 := bR1.new hc
  have bP3 := bP1.new hc
  have bA3 := bA1.new hc
  have N3 := N1.trans hc
  clear bR1 bP1 bA1 N1 hc
  generalize wc = w3 at *
  have cA := bA3.cells
  go_wp2_with fail
  refine (toAt_any o nx md lo x n c xs _ (h.new N3) HN.out hm').mono ?_
  rintro e w4 ⟨g4, rfl, hg4, ho4, hn4⟩
  go_upto_region 7 with fail
  have hal : New w4 (w4.alloc (.cells #[.int .i64 o, .slice (some ⟨g4, 0, none⟩) n n, .int .i64 nx, .int .i64 md, .int .i64 lo] 45)) := (New.refl w4).alloc _
  have bX5 : Blk (w4.alloc (.cells #[.int .i64 o, .slice (some ⟨g4, 0, none⟩) n n, .int .i64 nx, .int .i64 md, .int .i64 lo] 45)) w4.heap.size 45 #[.int .i64 o, .slice (some ⟨g4, 0, none⟩) n n, .int .i64 nx, .int .i64 md, .int .i64 lo] := Blk.mk _ _ _ _ rfl
  have bR5 := (bR3.new hn4).new hal
  have bP5 := (bP3.new hn4).new hal
  have bA5 := (bA3.new hn4).new hal
  have ho5 := ho4.new hal
  have N5 := (N3.trans hn4).trans hal
  clear bR3 bP3 bA3 N3 hn4 ho4 cA hal
  generalize w4.alloc (.cells #[.int .i64 o, .slice (some ⟨g4, 0, none⟩) n n, .int .i64 nx, .int .i64 md, .int .i64 lo] 45) = w5 at *
  go_upto_region 7 with fail
  go_cut [10] from 25 to 30 (fun u wx => u = .bool v ∧ New w5 wx)
  case first =>
    have d0 := bR5
    have d1 := bP5
    have d2 := bX5
    have dN : New w5 w5 := New.refl _
    have dh := h.new N5
    have pq := ho5.ns hbd.out
    go_region_held3 (fun W => (∀ j, W.cell? ⟨w.heap.size, j, none⟩ = #[Value.int .i64 a, .int .i64 l, .int .i64 ls, .int .i64 ms, .int .i64 s, .bool d, .int .i64 lc, .int .i64 pp][j]?) ∧ (∀ j, W.cell? ⟨w.heap.size + 1, j, none⟩ = #[Value.int .i64 p, .int .i64 q][j]?) ∧ (∀ j, W.cell? ⟨w4.heap.size, j, none⟩ = #[Value.int .i64 o, .slice (some ⟨g4, 0, none⟩) n n, .int .i64 nx, .int .i64 md, .int .i64 lo][j]?)) (exact ⟨d0.cells, d1.cells, d2.cells⟩)
      (first
        | (go_at_call 10; refine (toRule_any a l ls ms s d lc pp _).mono ?_; rintro e wx ⟨rfl, h1⟩; (try simp only [New.drew_mark6] at h1); have d0 := d0.new h1; have d1 := d1.new h1; have d2 := d2.new h1; have dN := dN.trans h1; have dh := dh.new h1; (try have pq := pq.new h1))
        | (go_at_call 19; refine (toPrefix_any p q _).mono ?_; rintro e wx ⟨rfl, h2⟩; (try simp only [New.drew_mark6] at h2); have d0 := d0.new h2; have d1 := d1.new h2; have d2 := d2.new h2; have dN := dN.trans h2; have dh := dh.new h2; (try have pq := pq.new h2))
        | (go_at_call 21; refine (implRM a l ls ms s d lc pp p q o nx md lo _ n n xs v _ pq HN.out hm' hv.out).mono ?_; rintro e wx ⟨rfl, h4⟩; (try simp only [New.drew_mark6] at h4); have d0 := d0.new h4; have d1 := d1.new h4; have d2 := d2.new h4; have dN := dN.trans h4; have dh := dh.new h4; (try have pq := pq.new h4)))
    all_goals
      go_wp2_with fail
      go_meet
      case rel => exact ⟨rfl, dN⟩
  case rest =>
  obtain ⟨rfl, hc⟩ := hcut
  have bA7 := bA5.new hc
  have bX7 := bX5.new hc
  have ho7' := ho5.new hc
  have N7 := N5.trans hc
  clear bR5 bP5 bA5 bX5 ho5 N5 hc
  generalize wc = w7 at *
  have cA := bA7.cells
  have cB := bX7.cells
  go_wp2_with fail
  go_region_held3 (fun W => (∀ j, W.cell? ⟨w.heap.size + 1 + 1, j, none⟩ = #[Value.int .i64 o, .slice x n c, .int .i64 nx, .int .i64 md, .int .i64 lo][j]?) ∧ (∀ j, W.cell? ⟨w4.heap.size, j, none⟩ = #[Value.int .i64 o, .slice (some ⟨g4, 0, none⟩) n n, .int .i64 nx, .int .i64 md, .int .i64 lo][j]?)) (first | exact ⟨cA, cB⟩ | exact ⟨cA7, cB7⟩ | exact ⟨cA8, cB8⟩)
    (first
      | (go_at_call 20; refine (toAt_any o nx md lo x n c xs _ ?_ HN.out hm').mono ?_; exact (h.new N7).new ((New.refl _).drew); rintro e w17 ⟨g7, rfl, hg7, ho7, hn7⟩; have cA7 := (bA7.new (((New.refl _).drew).trans hn7)).cells; have cB7 := (bX7.new (((New.refl _).drew).trans hn7)).cells)
      | (go_at_call 22; refine (eqAt_any o nx md lo _ _ n n n xs _ ?_ ?_ HN.out hm').mono ?_; exact (ho7'.ns hbd.out).new (((New.refl _).drew).trans hn7); exact ho7.ns hbd.out; rintro e w18 ⟨rfl, hn8⟩; have cA8 := (bA7.new ((((New.refl _).drew).trans hn7).trans hn8)).cells; have cB8 := (bX7.new ((((New.refl _).drew).trans hn7).trans hn8)).cells))
  have hn18 : New w7 w18 := (((New.refl _).drew).trans hn7).trans hn8
  go_wp2
  go_ret
  exact ⟨rfl, N7.trans hn18⟩

set_option maxRecDepth 100000 in
theorem arm_lifted (os : Os) (started : os.Started) (H : Type) (enc : TypeId × Value → H) :
    ReturnsInHanded {} Try.checked os 5 .any (Rows.fnExactRuleMatchesSpec.pre6 enc Try.prog Try.f5 Rows.fnExactRuleMatchesRow.domain false) (Rows.fnExactRuleMatchesSpec.post enc Try.prog Try.f5 false true false false) := by
  refine returnsInHanded_of_change (C := Try.checked) own started (by kernel_rfl) Try.func5
    (ChangeSpec.witness6 (enc := enc) (C := Try.checked) false ⟨#[], #[.agg #[.int .i64 0, .int .i64 0, .int .i64 0, .int .i64 0, .int .i64 0, .bool false, .int .i64 0, .int .i64 0], .agg #[.int .i64 0, .int .i64 0], .agg #[.int .i64 0, .slice none 0 0, .int .i64 0, .int .i64 0, .int .i64 0]], []⟩ 8 (by kernel_rfl) (by kernel_rfl) (by kernel_rfl) (by kernel_rfl)) ?_
  intro W base args ds gs before hval0 hW hcnd _
  have hval : ∀ (j : Nat) t v, Try.f5.params[j]? = some t → args[j]? = some v → Value.okWide Try.prog W .any base t v := hval0
  have hW' := hW
  obtain ⟨p, q, hA0, hV, rfl, hfz, hnd⟩ := hW
  have hA : DataW.TrodAll enc Try.prog W 0 (fun _ => true) true Try.f5.params.toList args.toList ds p := hA0
  rw [Try.params5] at hA hval
  obtain ⟨v0, vs0, d0, ds0, p0, q0, hargs, rfl, rfl, h0, r0⟩ := trodAll_cons hA
  obtain ⟨v1, vs1, d1, ds1, p1, q1, rfl, rfl, rfl, h1, r1⟩ := trodAll_cons r0
  obtain ⟨v2, vs2, d2, ds2, p2, q2, rfl, rfl, rfl, h2, r2⟩ := trodAll_cons r1
  obtain ⟨rfl, rfl, rfl⟩ := trodAll_nil r2
  obtain rfl : args = #[v0, v1, v2] := by cases args; simp_all
  obtain ⟨rfl, rfl⟩ := trodVars_none hV
  have k0 := h0
  have lt0 : ∀ x ∈ p0, x.block < W.heap.size := by obtain ⟨m, hm⟩ := k0; exact DataW.trod_lt m _ _ _ hm
  obtain ⟨a0, l0, ls0, ms0, s0, t0, lc0, pp0, rfl⟩ := open_rule (hval 0 25 v0 rfl rfl) h0
  have k1 := h1
  have lt1 : ∀ x ∈ p1, x.block < W.heap.size := by obtain ⟨m, hm⟩ := k1; exact DataW.trod_lt m _ _ _ hm
  obtain ⟨a1, l1, rfl, wa1, wl1⟩ := open_prefix (hval 1 23 v1 rfl rfl) h1
  have k2 := h2
  have lt2 : ∀ x ∈ p2, x.block < W.heap.size := by obtain ⟨m, hm⟩ := k2; exact DataW.trod_lt m _ _ _ hm
  obtain ⟨o2, nx2, md2, lc2, a2, n2, c2, x2, rfl, b2, e2, m2, io2, in2, im2, il2⟩ := open_attrs (hval 2 41 v2 rfl rfl) h2
  clear hA0 hval0
  refine (arm_walk a0 l0 ls0 ms0 s0 t0 lc0 pp0 a1 l1 o2 nx2 md2 lc2 a2 n2 c2 x2 W b2 e2 m2).mono fun e W' ⟨he, new⟩ => ?_
  have bel := new.below
  subst he
  exact ⟨_, rfl, _, _, _, [], _, [], hW', trodAll_mk1 (shut_bool Try.underlying4 _), (trodAll_cons_mk (Below.trod laidOut (by kernel_rfl) (of_decide_eq_true (by kernel_rfl)) k0 bel lt0) (trodAll_cons_mk (Below.trod laidOut (by kernel_rfl) (of_decide_eq_true (by kernel_rfl)) k1 bel lt1) (trodAll_cons_mk (Below.trod laidOut (by kernel_rfl) (of_decide_eq_true (by kernel_rfl)) k2 bel lt2) trodAll_mk0))), rfl, bel.frame _, fun h => by cases h⟩

theorem arm_holds : Rows.FnExactRuleMatchesSaid :=
  OpenClaim.holds_of_wide 5 Try.f5 rfl rfl rfl rfl rfl rfl rfl ⟨rfl, rfl, rfl, rfl, rfl⟩ rfl rfl rfl rfl rfl (by kernel_rfl) Try.func5 (by kernel_rfl)
    (of_decide_eq_true (by kernel_rfl)) (by unfold Func.isWrapper; first | (rw [if_pos (by decide +kernel)]; kernel_rfl) | (rw [if_neg (by decide +kernel)]; exact ⟨rfl, rfl⟩))
    (fun os started H enc _ => arm_lifted os started H enc)

end Go.Proofs.Ytlmojgecflcbkaa
