/- What is proved here: for every update the law on UpdateFault returns true, and the update reads as it did. No condition. -/
import Derived.Test.YtgjdjafldogecaaAtOpen
import Derived.Test.YtgjdjafldogecaaUpLaw
import Derived.Deep.RegionHeld3
namespace Go.Proofs.Ytgjdjafldogecaa
open Go.ChangeShapes Go.WideShapes Go.ChangeAt Go.RowKit Go.Sort
set_option linter.unusedVariables false

set_option maxHeartbeats 3200000 in
theorem auf_walk (ga a ra : Option Addr) (gn gc n c rn rc : Nat) (has : Bool) (o nx md lc : Int) (gs rs : List (Int × Int)) (xs : List Int) (w : World) (hg : PsAt w ga gs) (hx : NsAt w a xs) (hr : PsAt w ra rs) (hgn : gs.length = gn) (hn : xs.length = n) (hrn : rs.length = rn) (hm1 : gn ≤ maxLen) (hm2 : n ≤ maxLen) (hm3 : rn ≤ maxLen) :
    Calls Try.prog 5 #[.agg #[.slice ga gn gc, .bool has, .int .i64 o, .slice a n c, .int .i64 nx, .int .i64 md, .int .i64 lc, .slice ra rn rc]] w fun e w' => e = .returned (.bool true) ∧ New w w' := by
  have hw := (New.refl w).alloc (.cells #[.slice ga gn gc, .bool has, .int .i64 o, .slice a n c, .int .i64 nx, .int .i64 md, .int .i64 lc, .slice ra rn rc] 34)
  by_cases hbig : 1048576 < gn + n + rn
  · go_enter Try.func5, Try.ntmps5
    go_wp2_with fail
    refine (szUp_big ga a ra gn gc n c rn rc has o nx md lc _ hbig hm1 hm2 hm3).mono ?_
    rintro e w1 ⟨rfl, hn1⟩
    go_wp2
    go_ret
    exact ⟨rfl, hw.trans hn1⟩
  · have k1 : gn ≤ 1048576 := by omega
    have k2 : n ≤ 1048576 := by omega
    have k3 : rn ≤ 1048576 := by omega
    have bg : Hid (∀ p ∈ gs, In6 p.1 ∧ In6 p.2) := hg.bd
    have bx : Hid (∀ z ∈ xs, In6 z) := hx.bd
    have br : Hid (∀ p ∈ rs, In6 p.1 ∧ In6 p.2) := hr.bd
    have HG : Hid (gs.length = gn) := hgn
    have HX : Hid (xs.length = n) := hn
    have HR : Hid (rs.length = rn) := hrn
    have hle : gn + n + rn ≤ 1048576 := by omega
    clear hm1 hm2 hm3 hgn hn hrn hbig
    have bA := Blk.mk w w.heap.size 34 #[.slice ga gn gc, .bool has, .int .i64 o, .slice a n c, .int .i64 nx, .int .i64 md, .int .i64 lc, .slice ra rn rc] rfl
    have hz : (uf gs has o xs nx md lc rs != uf gs has o xs nx md lc rs) = false := by simp
    go_enter Try.func5, Try.ntmps5
    go_wp2_with fail
    refine (szUp_ok ga a ra gn gc n c rn rc has o nx md lc _ hle).mono ?_
    rintro e w1 ⟨rfl, hn1⟩
    generalize 1048576 - gn - n - rn = left at *
    have bA1 := bA.new hn1
    have cA := bA1.cells
    have hw1 := hw.trans hn1
    clear bA hn1 hw hle
    go_wp2_with fail
    refine (toUp_any ga a ra gn gc n c rn rc has o nx md lc gs rs xs _ (hg.new hw1) (hx.new hw1) (hr.new hw1) HG.out HX.out HR.out k1 k2 k3).mono ?_
    rintro e w2 ⟨p2, q2, r2, rfl, -, -, -, op2, oq2, or2, hn2⟩
    have bA2 := bA1.new hn2
    have hw2 := hw1.trans hn2
    clear cA bA1 hn2
    go_wp2_with fail
    refine (specUF _ _ _ gn gn n n rn rn has o nx md lc gs rs xs _ (op2.ps bg.out) (oq2.ns bx.out) (or2.ps br.out) HG.out HX.out HR.out k1 k2 k3).mono ?_
    rintro e w3 ⟨rfl, hn3⟩
    have bA3 := bA2.new hn3
    have hw3 := hw2.trans hn3
    have cA := bA3.cells
    generalize hq : uf gs has o xs nx md lc rs = q at *
    clear bA2 hn3 op2 oq2 or2
    go_wp2_with fail
    refine (toUp_any ga a ra gn gc n c rn rc has o nx md lc gs rs xs _ (hg.new hw3) (hx.new hw3) (hr.new hw3) HG.out HX.out HR.out k1 k2 k3).mono ?_
    rintro e w4 ⟨p4, q4, r4, rfl, -, -, -, op4, oq4, or4, hn4⟩
    have hal := (New.refl w4).alloc (.cells #[.slice (some ⟨p4, 0, none⟩) gn gn, .bool has, .int .i64 o, .slice (some ⟨q4, 0, none⟩) n n, .int .i64 nx, .int .i64 md, .int .i64 lc, .slice (some ⟨r4, 0, none⟩) rn rn] 39)
    have bA4 := (bA3.new hn4).new hal
    have b4 := Blk.mk w4 w4.heap.size 39 #[.slice (some ⟨p4, 0, none⟩) gn gn, .bool has, .int .i64 o, .slice (some ⟨q4, 0, none⟩) n n, .int .i64 nx, .int .i64 md, .int .i64 lc, .slice (some ⟨r4, 0, none⟩) rn rn] rfl
    have hw4 := (hw3.trans hn4).trans hal
    have ip4 := op4.new hal
    have iq4 := oq4.new hal
    have ir4 := or4.new hal
    have cB := b4.cells
    clear bA3 cA hn4 op4 oq4 or4
    go_wp2_with fail
    refine (implUF _ _ _ gn gn n n rn rn has o nx md lc gs rs xs _ (ip4.ps bg.out) (iq4.ns bx.out) (ir4.ps br.out) HG.out HX.out HR.out k1 k2 k3).mono ?_
    rintro e w5 ⟨rfl, hn5⟩
    rw [hq]
    have bA5 := bA4.new hn5
    have b5 := b4.new hn5
    have hw5 := hw4.trans hn5
    have ip5 := ip4.new hn5
    have iq5 := iq4.new hn5
    have ir5 := ir4.new hn5
    clear bA4 b4 cB hn5 ip4 iq4 ir4 hal
    have cA := bA5.cells
    have cB := b5.cells
    go_wp2_with fail
    go_region_held3 (fun W => (∀ j, W.cell? ⟨w.heap.size, j, none⟩ = #[Value.slice ga gn gc, .bool has, .int .i64 o, .slice a n c, .int .i64 nx, .int .i64 md, .int .i64 lc, .slice ra rn rc][j]?) ∧ (∀ j, W.cell? ⟨w4.heap.size, j, none⟩ = #[Value.slice (some ⟨p4, 0, none⟩) gn gn, .bool has, .int .i64 o, .slice (some ⟨q4, 0, none⟩) n n, .int .i64 nx, .int .i64 md, .int .i64 lc, .slice (some ⟨r4, 0, none⟩) rn rn][j]?)) (first | exact ⟨cA, cB⟩ | exact ⟨cA7, cB7⟩ | exact ⟨cA8, cB8⟩)
      (first
        | (go_at_call 18; refine (toUp_any ga a ra gn gc n c rn rc has o nx md lc gs rs xs _ ?_ ?_ ?_ HG.out HX.out HR.out k1 k2 k3).mono ?_; exact (hg.new hw5).new ((New.refl _).drew); exact (hx.new hw5).new ((New.refl _).drew); exact (hr.new hw5).new ((New.refl _).drew); rintro e w7 ⟨p7, q7, r7, rfl, -, -, -, op7, oq7, or7, hn7⟩; have cA7 := (bA5.new (((New.refl _).drew).trans hn7)).cells; have cB7 := (b5.new (((New.refl _).drew).trans hn7)).cells)
        | (go_at_call 20; refine (eqUp_any _ _ _ _ _ _ gn gn n n rn rn gn n rn has o nx md lc gs rs xs _ ?_ ?_ ?_ ?_ ?_ ?_ HG.out HX.out HR.out k1 k2 k3).mono ?_; exact (ip5.ps bg.out).new (((New.refl _).drew).trans hn7); exact (iq5.ns bx.out).new (((New.refl _).drew).trans hn7); exact (ir5.ps br.out).new (((New.refl _).drew).trans hn7); exact op7.ps bg.out; exact oq7.ns bx.out; exact or7.ps br.out; rintro e w8 ⟨rfl, hn8⟩; have cA8 := (bA5.new ((((New.refl _).drew).trans hn7).trans hn8)).cells; have cB8 := (b5.new ((((New.refl _).drew).trans hn7).trans hn8)).cells))
    have hn58 : New w5 w8 := (((New.refl _).drew).trans hn7).trans hn8
    go_wp2
    go_ret
    exact ⟨rfl, hw5.trans hn58⟩

set_option maxRecDepth 100000 in
theorem auf_lifted (os : Os) (started : os.Started) (H : Type) (enc : TypeId × Value → H) :
    ReturnsInHanded {} Try.checked os 5 .any (Rows.fnExactUpdateFaultSpec.pre6 enc Try.prog Try.f5 Rows.fnExactUpdateFaultRow.domain false) (Rows.fnExactUpdateFaultSpec.post enc Try.prog Try.f5 false true false false) := by
  refine returnsInHanded_of_change (C := Try.checked) own started (by kernel_rfl) Try.func5
    (ChangeSpec.witness6 (enc := enc) (C := Try.checked) false ⟨#[], #[.agg #[.slice none 0 0, .bool false, .int .i64 0, .slice none 0 0, .int .i64 0, .int .i64 0, .int .i64 0, .slice none 0 0]], []⟩ 8 (by kernel_rfl) (by kernel_rfl) (by kernel_rfl) (by kernel_rfl)) ?_
  intro W base args ds gs before hval0 hW hcnd _
  have hval : ∀ (j : Nat) t v, Try.f5.params[j]? = some t → args[j]? = some v → Value.okWide Try.prog W .any base t v := hval0
  have hW' := hW
  obtain ⟨p, q, hA0, hV, rfl, hfz, hnd⟩ := hW
  have hA : DataW.TrodAll enc Try.prog W 0 (fun _ => true) true Try.f5.params.toList args.toList ds p := hA0
  rw [Try.params5] at hA hval
  obtain ⟨v0, vs0, d0, ds0, p0, q0, hargs, rfl, rfl, h0, r0⟩ := trodAll_cons hA
  obtain ⟨rfl, rfl, rfl⟩ := trodAll_nil r0
  obtain rfl : args = #[v0] := by cases args; simp_all
  obtain ⟨rfl, rfl⟩ := trodVars_none hV
  have k0 := h0
  have lt0 : ∀ x ∈ p0, x.block < W.heap.size := by obtain ⟨m, hm⟩ := k0; exact DataW.trod_lt m _ _ _ hm
  obtain ⟨ga0, gn0, gc0, gs0, has0, o0, nx0, md0, lc0, a0, n0, c0, x0, ra0, rn0, rc0, rs0, rfl, ⟨bg0, eg0, mg0⟩, ⟨bx0, ex0, mx0⟩, ⟨br0, er0, mr0⟩⟩ := open_update (hval 0 34 v0 rfl rfl) h0
  clear hA0 hval0
  refine (auf_walk ga0 a0 ra0 gn0 gc0 n0 c0 rn0 rc0 has0 o0 nx0 md0 lc0 gs0 rs0 x0 W bg0 bx0 br0 eg0 ex0 er0 mg0 mx0 mr0).mono fun e W' ⟨he, new⟩ => ?_
  have bel := new.below
  subst he
  exact ⟨_, rfl, _, _, _, [], _, [], hW', trodAll_mk1 (shut_bool Try.underlying4 _), (trodAll_cons_mk (Below.trod laidOut (by kernel_rfl) (of_decide_eq_true (by kernel_rfl)) k0 bel lt0) trodAll_mk0), rfl, bel.frame _, fun h => by cases h⟩

theorem auf_holds : Rows.FnExactUpdateFaultSaid :=
  OpenClaim.holds_of_wide 5 Try.f5 rfl rfl rfl rfl rfl rfl rfl ⟨rfl, rfl, rfl, rfl, rfl⟩ rfl rfl rfl rfl rfl (by kernel_rfl) Try.func5 (by kernel_rfl)
    (of_decide_eq_true (by kernel_rfl)) (by unfold Func.isWrapper; first | (rw [if_pos (by decide +kernel)]; kernel_rfl) | (rw [if_neg (by decide +kernel)]; exact ⟨rfl, rfl⟩))
    (fun os started H enc _ => auf_lifted os started H enc)

end Go.Proofs.Ytgjdjafldogecaa
