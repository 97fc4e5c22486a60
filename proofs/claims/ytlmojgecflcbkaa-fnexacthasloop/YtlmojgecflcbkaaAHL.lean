/- What is proved here: for every attributes and number the law on HasLoop returns true, and the attributes read as they did. No condition. -/
import Derived.Test.YtlmojgecflcbkaaR6Open
import Derived.Test.YtlmojgecflcbkaaR6Ma
import Derived.Deep.RegionHeld3
namespace Go.Proofs.Ytlmojgecflcbkaa
open Go.ChangeShapes Go.WideShapes Go.ChangeAt Go.RowKit Go.Sort
set_option linter.unusedVariables false

set_option maxHeartbeats 3200000 in
theorem ahl_walk (o nx md lo : Int) (x : Option Addr) (n c : Nat) (xs : List Int) (z : Int) (w : World) (h : NsAt w x xs) (hn : xs.length = n) (hm : n ≤ maxLen) :
    Calls Try.prog 7 #[.agg #[.int .i64 o, .slice x n c, .int .i64 nx, .int .i64 md, .int .i64 lo], .int .i64 z] w fun e w' => e = .returned (.bool true) ∧ New w w' := by
  have hw := (New.refl w).alloc (.cells #[.int .i64 o, .slice x n c, .int .i64 nx, .int .i64 md, .int .i64 lo] 41)
  by_cases hbig : 1048576 < n
  · go_enter Try.func7, Try.ntmps7
    go_wp2_with fail
    refine (szAt_big o nx md lo x n c 1048576 _ (Nat.le_refl _) hm hbig).mono ?_
    rintro e w1 ⟨rfl, hn1⟩
    go_wp2
    go_ret
    exact ⟨rfl, hw.trans hn1⟩
  have hm' : n ≤ 1048576 := by omega
  have hbd : Hid (∀ z ∈ xs, In6 z) := h.bd
  have HN : Hid (xs.length = n) := hn
  clear hm hn
  obtain ⟨v, hv⟩ : ∃ v, Hid (decide (z ∈ xs) = v) := ⟨_, rfl⟩
  have bA := Blk.mk w w.heap.size 41 #[.int .i64 o, .slice x n c, .int .i64 nx, .int .i64 md, .int .i64 lo] rfl
  have hz : (v != v) = false := by simp
  go_enter Try.func7, Try.ntmps7
  go_wp2_with fail
  refine (szAt_ok o nx md lo x n c 1048576 _ (Nat.le_refl _) hm').mono ?_
  rintro e w1 ⟨rfl, hn1⟩
  have bA1 := bA.new hn1
  have cA := bA1.cells
  have hw1 := hw.trans hn1
  clear bA hn1 hw
  go_wp2_with fail
  refine (toAt_any o nx md lo x n c xs _ (h.new hw1) HN.out hm').mono ?_
  rintro e w2 ⟨g2, rfl, hg2, ho2, hn2⟩
  have bA2 := bA1.new hn2
  have hw2 := hw1.trans hn2
  clear cA bA1 hn2
  go_wp2_with fail
  refine (specHL o nx md lo _ n n xs z v _ (ho2.ns hbd.out) HN.out hm' hv.out).mono ?_
  rintro e w3 ⟨rfl, hn3⟩
  have bA3 := bA2.new hn3
  have hw3 := hw2.trans hn3
  have cA := bA3.cells
  clear bA2 hn3 ho2 hg2
  go_wp2_with fail
  refine (toAt_any o nx md lo x n c xs _ (h.new hw3) HN.out hm').mono ?_
  rintro e w4 ⟨g4, rfl, hg4, ho4, hn4⟩
  have bA4 := (bA3.new hn4).alloc (.cells #[.int .i64 o, .slice (some ⟨g4, 0, none⟩) n n, .int .i64 nx, .int .i64 md, .int .i64 lo] 45)
  have b4 := Blk.mk w4 w4.heap.size 45 #[.int .i64 o, .slice (some ⟨g4, 0, none⟩) n n, .int .i64 nx, .int .i64 md, .int .i64 lo] rfl
  have hw4 := (hw3.trans hn4).alloc (.cells #[.int .i64 o, .slice (some ⟨g4, 0, none⟩) n n, .int .i64 nx, .int .i64 md, .int .i64 lo] 45)
  have ho4' := ho4.new ((New.refl _).alloc (.cells #[.int .i64 o, .slice (some ⟨g4, 0, none⟩) n n, .int .i64 nx, .int .i64 md, .int .i64 lo] 45))
  have cB := b4.cells
  clear bA3 cA hn4 ho4 hg4
  go_wp2_with fail
  refine (implHL o nx md lo _ n n xs z v _ (ho4'.ns hbd.out) HN.out hm' hv.out).mono ?_
  rintro e w5 ⟨rfl, hn5⟩
  have bA5 := bA4.new hn5
  have bX5 := b4.new hn5
  have N5 := hw4.trans hn5
  have ho5 := ho4'.new hn5
  clear bA4 b4 cB hn5 ho4'
  have cA := bA5.cells
  have cB := bX5.cells
  go_wp2_with fail
  go_region_held3 (fun W => (∀ j, W.cell? ⟨w.heap.size, j, none⟩ = #[Value.int .i64 o, .slice x n c, .int .i64 nx, .int .i64 md, .int .i64 lo][j]?) ∧ (∀ j, W.cell? ⟨w4.heap.size, j, none⟩ = #[Value.int .i64 o, .slice (some ⟨g4, 0, none⟩) n n, .int .i64 nx, .int .i64 md, .int .i64 lo][j]?)) (first | exact ⟨cA, cB⟩ | exact ⟨cA7, cB7⟩ | exact ⟨cA8, cB8⟩)
    (first
      | (go_at_call 20; refine (toAt_any o nx md lo x n c xs _ ?_ HN.out hm').mono ?_; exact (h.new N5).new ((New.refl _).drew); rintro e w17 ⟨g7, rfl, hg7, ho7, hn7⟩; have cA7 := (bA5.new (((New.refl _).drew).trans hn7)).cells; have cB7 := (bX5.new (((New.refl _).drew).trans hn7)).cells)
      | (go_at_call 22; refine (eqAt_any o nx md lo _ _ n n n xs _ ?_ ?_ HN.out hm').mono ?_; exact (ho5.ns hbd.out).new (((New.refl _).drew).trans hn7); exact ho7.ns hbd.out; rintro e w18 ⟨rfl, hn8⟩; have cA8 := (bA5.new ((((New.refl _).drew).trans hn7).trans hn8)).cells; have cB8 := (bX5.new ((((New.refl _).drew).trans hn7).trans hn8)).cells))
  have hn18 : New w5 w18 := (((New.refl _).drew).trans hn7).trans hn8
  go_wp2
  go_ret
  exact ⟨rfl, N5.trans hn18⟩

set_option maxRecDepth 100000 in
theorem ahl_lifted (os : Os) (started : os.Started) (H : Type) (enc : TypeId × Value → H) :
    ReturnsInHanded {} Try.checked os 7 .any (Rows.fnExactHasLoopSpec.pre6 enc Try.prog Try.f7 Rows.fnExactHasLoopRow.domain false) (Rows.fnExactHasLoopSpec.post enc Try.prog Try.f7 false true false false) := by
  refine returnsInHanded_of_change (C := Try.checked) own started (by kernel_rfl) Try.func7
    (ChangeSpec.witness6 (enc := enc) (C := Try.checked) false ⟨#[], #[.agg #[.int .i64 0, .slice none 0 0, .int .i64 0, .int .i64 0, .int .i64 0], .int .i64 0], []⟩ 8 (by kernel_rfl) (by kernel_rfl) (by kernel_rfl) (by kernel_rfl)) ?_
  intro W base args ds gs before hval0 hW hcnd _
  have hval : ∀ (j : Nat) t v, Try.f7.params[j]? = some t → args[j]? = some v → Value.okWide Try.prog W .any base t v := hval0
  have hW' := hW
  obtain ⟨p, q, hA0, hV, rfl, hfz, hnd⟩ := hW
  have hA : DataW.TrodAll enc Try.prog W 0 (fun _ => true) true Try.f7.params.toList args.toList ds p := hA0
  rw [Try.params7] at hA hval
  obtain ⟨v0, vs0, d0, ds0, p0, q0, hargs, rfl, rfl, h0, r0⟩ := trodAll_cons hA
  obtain ⟨v1, vs1, d1, ds1, p1, q1, rfl, rfl, rfl, h1, r1⟩ := trodAll_cons r0
  obtain ⟨rfl, rfl, rfl⟩ := trodAll_nil r1
  obtain rfl : args = #[v0, v1] := by cases args; simp_all
  obtain ⟨rfl, rfl⟩ := trodVars_none hV
  have k0 := h0
  have lt0 : ∀ x ∈ p0, x.block < W.heap.size := by obtain ⟨m, hm⟩ := k0; exact DataW.trod_lt m _ _ _ hm
  obtain ⟨o0, nx0, md0, lc0, a0, n0, c0, x0, rfl, b0, e0, m0, io0, in0, im0, il0⟩ := open_attrs (hval 0 41 v0 rfl rfl) h0
  obtain ⟨a1, rfl, rfl, rfl, w1⟩ := open_int Try.underlying2 (hval 1 2 v1 rfl rfl) h1
  clear hA0 hval0
  refine (ahl_walk o0 nx0 md0 lc0 a0 n0 c0 x0 a1 W b0 e0 m0).mono fun e W' ⟨he, new⟩ => ?_
  have bel := new.below
  subst he
  exact ⟨_, rfl, _, _, _, [], _, [], hW', trodAll_mk1 (shut_bool Try.underlying4 _), (trodAll_cons_mk (Below.trod laidOut (by kernel_rfl) (of_decide_eq_true (by kernel_rfl)) k0 bel lt0) (trodAll_cons_mk (shut_int Try.underlying2 w1) trodAll_mk0)), rfl, bel.frame _, fun h => by cases h⟩

theorem ahl_holds : Rows.FnExactHasLoopSaid :=
  OpenClaim.holds_of_wide 7 Try.f7 rfl rfl rfl rfl rfl rfl rfl ⟨rfl, rfl, rfl, rfl, rfl⟩ rfl rfl rfl rfl rfl (by kernel_rfl) Try.func7 (by kernel_rfl)
    (of_decide_eq_true (by kernel_rfl)) (by unfold Func.isWrapper; first | (rw [if_pos (by decide +kernel)]; kernel_rfl) | (rw [if_neg (by decide +kernel)]; exact ⟨rfl, rfl⟩))
    (fun os started H enc _ => ahl_lifted os started H enc)

end Go.Proofs.Ytlmojgecflcbkaa
