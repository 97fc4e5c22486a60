/- What is proved here: for every attributes the law on AttrsFault returns true, and the attributes read as they did. No condition. -/
import Derived.Test.YtgjdjafldogecaaAtOpen
import Derived.Deep.RegionHeld3
namespace Go.Proofs.Ytgjdjafldogecaa
open Go.ChangeShapes Go.WideShapes Go.ChangeAt Go.RowKit Go.Sort
set_option linter.unusedVariables false

set_option maxHeartbeats 3200000 in
theorem aaf_walk (o nx md lc : Int) (a : Option Addr) (n c : Nat) (xs : List Int) (w : World) (h : NsAt w a xs) (hn : xs.length = n) (hm : n ≤ maxLen) :
    Calls Try.prog 3 #[.agg #[.int .i64 o, .slice a n c, .int .i64 nx, .int .i64 md, .int .i64 lc]] w fun e w' => e = .returned (.bool true) ∧ New w w' := by
  have hw := (New.refl w).alloc (.cells #[.int .i64 o, .slice a n c, .int .i64 nx, .int .i64 md, .int .i64 lc] 24)
  by_cases hbig : 1048576 < n
  · go_enter Try.func3, Try.ntmps3
    go_wp2_with fail
    refine (szAt_big o nx md lc a n c 1048576 _ (Nat.le_refl _) hm hbig).mono ?_
    rintro e w1 ⟨rfl, hn1⟩
    go_wp2
    go_ret
    exact ⟨rfl, hw.trans hn1⟩
  · have hm' : n ≤ 1048576 := by omega
    have hbd : Hid (∀ z ∈ xs, In6 z) := h.bd
    have HN : Hid (xs.length = n) := hn
    clear hm hn
    have bA := Blk.mk w w.heap.size 24 #[.int .i64 o, .slice a n c, .int .i64 nx, .int .i64 md, .int .i64 lc] rfl
    have hz : (af o xs nx md lc != af o xs nx md lc) = false := by simp
    go_enter Try.func3, Try.ntmps3
    go_wp2_with fail
    refine (szAt_ok o nx md lc a n c 1048576 _ (Nat.le_refl _) hm').mono ?_
    rintro e w1 ⟨rfl, hn1⟩
    have bA1 := bA.new hn1
    have cA := bA1.cells
    have hw1 := hw.trans hn1
    clear bA hn1 hw
    go_wp2_with fail
    refine (toAt_any o nx md lc a n c xs _ (h.new hw1) HN.out hm').mono ?_
    rintro e w2 ⟨g2, rfl, hg2, ho2, hn2⟩
    have bA2 := bA1.new hn2
    have hw2 := hw1.trans hn2
    clear cA bA1 hn2
    go_wp2_with fail
    refine (specAF o nx md lc _ n n xs _ (ho2.ns hbd.out) HN.out hm').mono ?_
    rintro e w3 ⟨rfl, hn3⟩
    have bA3 := bA2.new hn3
    have hw3 := hw2.trans hn3
    have cA := bA3.cells
    generalize hq : af o xs nx md lc = q at *
    clear bA2 hn3 ho2 hg2
    go_wp2_with fail
    refine (toAt_any o nx md lc a n c xs _ (h.new hw3) HN.out hm').mono ?_
    rintro e w4 ⟨g4, rfl, hg4, ho4, hn4⟩
    have bA4 := (bA3.new hn4).alloc (.cells #[.int .i64 o, .slice (some ⟨g4, 0, none⟩) n n, .int .i64 nx, .int .i64 md, .int .i64 lc] 27)
    have b4 := Blk.mk w4 w4.heap.size 27 #[.int .i64 o, .slice (some ⟨g4, 0, none⟩) n n, .int .i64 nx, .int .i64 md, .int .i64 lc] rfl
    have hw4 := (hw3.trans hn4).alloc (.cells #[.int .i64 o, .slice (some ⟨g4, 0, none⟩) n n, .int .i64 nx, .int .i64 md, .int .i64 lc] 27)
    have ho4' := ho4.new ((New.refl _).alloc (.cells #[.int .i64 o, .slice (some ⟨g4, 0, none⟩) n n, .int .i64 nx, .int .i64 md, .int .i64 lc] 27))
    have cB := b4.cells
    clear bA3 cA hn4 ho4 hg4
    go_wp2_with fail
    refine (implAF o nx md lc _ n n xs _ (ho4'.ns hbd.out) HN.out hm').mono ?_
    rintro e w5 ⟨rfl, hn5⟩
    rw [hq]
    have bA5 := bA4.new hn5
    have b5 := b4.new hn5
    have hw5 := hw4.trans hn5
    have ho5 := ho4'.new hn5
    clear bA4 b4 cB hn5 ho4'
    have cA := bA5.cells
    have cB := b5.cells
    go_wp2_with fail
    go_region_held3 (fun W => (∀ j, W.cell? ⟨w.heap.size, j, none⟩ = #[Value.int .i64 o, .slice a n c, .int .i64 nx, .int .i64 md, .int .i64 lc][j]?) ∧ (∀ j, W.cell? ⟨w4.heap.size, j, none⟩ = #[Value.int .i64 o, .slice (some ⟨g4, 0, none⟩) n n, .int .i64 nx, .int .i64 md, .int .i64 lc][j]?)) (first | exact ⟨cA, cB⟩ | exact ⟨cA7, cB7⟩ | exact ⟨cA8, cB8⟩)
      (first
        | (go_at_call 11; refine (toAt_any o nx md lc a n c xs _ ?_ HN.out hm').mono ?_; exact (h.new hw5).new ((New.refl _).drew); rintro e w7 ⟨g7, rfl, hg7, ho7, hn7⟩; have cA7 := (bA5.new (((New.refl _).drew).trans hn7)).cells; have cB7 := (b5.new (((New.refl _).drew).trans hn7)).cells)
        | (go_at_call 13; refine (eqAt_any o nx md lc _ _ n n n xs _ ?_ ?_ HN.out hm').mono ?_; exact (ho5.ns hbd.out).new (((New.refl _).drew).trans hn7); exact ho7.ns hbd.out; rintro e w8 ⟨rfl, hn8⟩; have cA8 := (bA5.new ((((New.refl _).drew).trans hn7).trans hn8)).cells; have cB8 := (b5.new ((((New.refl _).drew).trans hn7).trans hn8)).cells))
    have hn58 : New w5 w8 := (((New.refl _).drew).trans hn7).trans hn8
    go_wp2
    go_ret
    exact ⟨rfl, hw5.trans hn58⟩

set_option maxRecDepth 100000 in
theorem aaf_lifted (os : Os) (started : os.Started) (H : Type) (enc : TypeId × Value → H) :
    ReturnsInHanded {} Try.checked os 3 .any (Rows.fnExactAttrsFaultSpec.pre6 enc Try.prog Try.f3 Rows.fnExactAttrsFaultRow.domain false) (Rows.fnExactAttrsFaultSpec.post enc Try.prog Try.f3 false true false false) := by
  refine returnsInHanded_of_change (C := Try.checked) own started (by kernel_rfl) Try.func3
    (ChangeSpec.witness6 (enc := enc) (C := Try.checked) false ⟨#[], #[.agg #[.int .i64 0, .slice none 0 0, .int .i64 0, .int .i64 0, .int .i64 0]], []⟩ 8 (by kernel_rfl) (by kernel_rfl) (by kernel_rfl) (by kernel_rfl)) ?_
  intro W base args ds gs before hval0 hW hcnd _
  have hval : ∀ (j : Nat) t v, Try.f3.params[j]? = some t → args[j]? = some v → Value.okWide Try.prog W .any base t v := hval0
  have hW' := hW
  obtain ⟨p, q, hA0, hV, rfl, hfz, hnd⟩ := hW
  have hA : DataW.TrodAll enc Try.prog W 0 (fun _ => true) true Try.f3.params.toList args.toList ds p := hA0
  rw [Try.params3] at hA hval
  obtain ⟨v0, vs0, d0, ds0, p0, q0, hargs, rfl, rfl, h0, r0⟩ := trodAll_cons hA
  obtain ⟨rfl, rfl, rfl⟩ := trodAll_nil r0
  obtain rfl : args = #[v0] := by cases args; simp_all
  obtain ⟨rfl, rfl⟩ := trodVars_none hV
  have k0 := h0
  have lt0 : ∀ x ∈ p0, x.block < W.heap.size := by obtain ⟨m, hm⟩ := k0; exact DataW.trod_lt m _ _ _ hm
  obtain ⟨o0, nx0, md0, lc0, a0, n0, c0, x0, rfl, b0, e0, m0, io0, in0, im0, il0⟩ := open_attrs (hval 0 24 v0 rfl rfl) h0
  clear hA0 hval0
  refine (aaf_walk o0 nx0 md0 lc0 a0 n0 c0 x0 W b0 e0 m0).mono fun e W' ⟨he, new⟩ => ?_
  have bel := new.below
  subst he
  exact ⟨_, rfl, _, _, _, [], _, [], hW', trodAll_mk1 (shut_bool Try.underlying4 _), (trodAll_cons_mk (Below.trod laidOut (by kernel_rfl) (of_decide_eq_true (by kernel_rfl)) k0 bel lt0) trodAll_mk0), rfl, bel.frame _, fun h => by cases h⟩

theorem aaf_holds : Rows.FnExactAttrsFaultSaid :=
  OpenClaim.holds_of_wide 3 Try.f3 rfl rfl rfl rfl rfl rfl rfl ⟨rfl, rfl, rfl, rfl, rfl⟩ rfl rfl rfl rfl rfl (by kernel_rfl) Try.func3 (by kernel_rfl)
    (of_decide_eq_true (by kernel_rfl)) (by unfold Func.isWrapper; first | (rw [if_pos (by decide +kernel)]; kernel_rfl) | (rw [if_neg (by decide +kernel)]; exact ⟨rfl, rfl⟩))
    (fun os started H enc _ => aaf_lifted os started H enc)

end Go.Proofs.Ytgjdjafldogecaa
