/- What is proved here: for all routers the law on RouterFault returns true, and the router reads as it did. No condition. -/
import Derived.Test.YtkahlmkhancloabQ9Op
import Derived.Test.YtkahlmkhancloabF9Rr
import Derived.Deep.RegionHeld3
namespace Go.Proofs.Ytkahlmkhancloab
open Go.ChangeShapes Go.WideShapes Go.ChangeAt Go.RowKit Go.Sort
set_option linter.unusedVariables false

set_option maxRecDepth 100000 in
set_option maxHeartbeats 6400000 in
theorem arr_walk (sa si ho nx : Int) (a1 a2 la ra : Option Addr) (n1 c1 n2 c2 ln lc rn rc : Nat) (r1 r2 : List Ru) (L : List Lv) (R : List Rv) (w : World) (h1 : RsAt w a1 r1) (h2 : RsAt w a2 r2) (h3 : LkCame w la L) (h4 : RtCame w ra R) (e1 : r1.length = n1) (e2 : r2.length = n2) (e3 : L.length = ln) (e4 : R.length = rn) (m1 : n1 ≤ maxLen) (m2 : n2 ≤ maxLen) (m3 : ln ≤ maxLen) (m4 : rn ≤ maxLen) :
    Calls Try.prog 3 #[.agg #[.int .i64 sa, .int .i64 si, .int .i64 ho, .int .i64 nx, .slice a1 n1 c1, .slice a2 n2 c2, .slice la ln lc, .slice ra rn rc]] w fun e w' => e = .returned (.bool true) ∧ New w w' := by
  have hw := (New.refl w).alloc (.cells #[.int .i64 sa, .int .i64 si, .int .i64 ho, .int .i64 nx, .slice a1 n1 c1, .slice a2 n2 c2, .slice la ln lc, .slice ra rn rc] 30)
  have bA := Blk.mk w w.heap.size 30 #[.int .i64 sa, .int .i64 si, .int .i64 ho, .int .i64 nx, .slice a1 n1 c1, .slice a2 n2 c2, .slice la ln lc, .slice ra rn rc] rfl
  have E1 : Hid (r1.length = n1) := e1
  have E2 : Hid (r2.length = n2) := e2
  have E3 : Hid (L.length = ln) := e3
  have E4 : Hid (R.length = rn) := e4
  clear e1 e2 e3 e4
  go_enter Try.func3, Try.ntmps3
  go_wp2_with fail
  refine (szRr_any sa si ho nx a1 a2 la ra n1 c1 n2 c2 ln lc rn rc r1 r2 L R _ (h3.new hw) (h4.new hw) E1.out E2.out E3.out E4.out m1 m2 m3 m4 1048576 (Nat.le_refl _)).mono ?_
  rintro e w1 ⟨⟨y, rfl, hy⟩, hn1⟩
  have bA1 := bA.new hn1
  have hw1 := hw.trans hn1
  rcases hy with rfl | ⟨y0, y1, k1, k2, k3, k4, sm, sr⟩
  · go_wp2
    go_ret
    exact ⟨rfl, hw1⟩
  · have l3 : LkAt w la L := h3.ok sm
    have l4 : RtAt w ra R := h4.rt sr
    have hz : (rrF (stF sa si ho nx r1 r2) (L.map Lv.r) (R.map Rv.r) != rrF (stF sa si ho nx r1 r2) (L.map Lv.r) (R.map Rv.r)) = false := by simp
    clear bA hn1 hw h3 h4 sm sr m1 m2 m3 m4
    have cA := bA1.cells
    obtain ⟨q, hq⟩ : ∃ q, Hid (rrF (stF sa si ho nx r1 r2) (L.map Lv.r) (R.map Rv.r) = q) := ⟨_, rfl⟩
    go_wp2_with fail
    refine (toRr_any sa si ho nx a1 a2 la ra n1 c1 n2 c2 ln lc rn rc r1 r2 L R _ (h1.new hw1) (h2.new hw1) (l3.new hw1) (l4.new hw1) E1.out E2.out E3.out E4.out k1 k2 k3 k4).mono ?_
    rintro e w2 ⟨p2, q2, s2, t2, L2, R2, rfl, ml2, mr2, o1, o2, o3, o4, hn2⟩
    have F3 : Hid (L2.length = ln) := by show L2.length = ln; have := congrArg List.length ml2; simp at this; rw [this]; exact E3.out
    have F4 : Hid (R2.length = rn) := by show R2.length = rn; have := congrArg List.length mr2; simp at this; rw [this]; exact E4.out
    have hq2 : Hid (rrF (stF sa si ho nx r1 r2) (L2.map Lv.r) (R2.map Rv.r) = q) := by show _ = _; rw [ml2, mr2]; exact hq.out
    have bA2 := bA1.new hn2
    have hw2 := hw1.trans hn2
    clear cA bA1 hn2 ml2 mr2
    go_wp2_with fail
    refine (specRRF sa si ho nx _ _ _ _ n1 n1 n2 n2 ln ln rn rn r1 r2 L2 R2 q _ o1 o2 o3 o4 E1.out E2.out F3.out F4.out k1 k2 k3 k4 hq2.out).mono ?_
    rintro e w3 ⟨rfl, hn3⟩
    have bA3 := bA2.new hn3
    have hw3 := hw2.trans hn3
    have cA := bA3.cells
    clear bA2 hn3 o1 o2 o3 o4 F3 F4 hq2
    go_wp2_with fail
    refine (toRr_any sa si ho nx a1 a2 la ra n1 c1 n2 c2 ln lc rn rc r1 r2 L R _ (h1.new hw3) (h2.new hw3) (l3.new hw3) (l4.new hw3) E1.out E2.out E3.out E4.out k1 k2 k3 k4).mono ?_
    rintro e w4 ⟨p4, q4, s4, t4, L4, R4, rfl, ml4, mr4, o1, o2, o3, o4, hn4⟩
    have F3 : Hid (L4.length = ln) := by show L4.length = ln; have := congrArg List.length ml4; simp at this; rw [this]; exact E3.out
    have F4 : Hid (R4.length = rn) := by show R4.length = rn; have := congrArg List.length mr4; simp at this; rw [this]; exact E4.out
    have hq4 : Hid (rrF (stF sa si ho nx r1 r2) (L4.map Lv.r) (R4.map Rv.r) = q) := by show _ = _; rw [ml4, mr4]; exact hq.out
    have ML4 : Hid (L4.map Lv.r = L.map Lv.r) := ml4
    have MR4 : Hid (R4.map Rv.r = R.map Rv.r) := mr4
    have hal := (New.refl w4).alloc (.cells #[.int .i64 sa, .int .i64 si, .int .i64 ho, .int .i64 nx, .slice (some ⟨p4, 0, none⟩) n1 n1, .slice (some ⟨q4, 0, none⟩) n2 n2, .slice (some ⟨s4, 0, none⟩) ln ln, .slice (some ⟨t4, 0, none⟩) rn rn] 40)
    have bA4 := (bA3.new hn4).new hal
    have b4 := Blk.mk w4 w4.heap.size 40 #[.int .i64 sa, .int .i64 si, .int .i64 ho, .int .i64 nx, .slice (some ⟨p4, 0, none⟩) n1 n1, .slice (some ⟨q4, 0, none⟩) n2 n2, .slice (some ⟨s4, 0, none⟩) ln ln, .slice (some ⟨t4, 0, none⟩) rn rn] rfl
    have hw4 := (hw3.trans hn4).trans hal
    have i1 := o1.new hal
    have i2 := o2.new hal
    have i3 := o3.new hal
    have i4 := o4.new hal
    have cB := b4.cells
    clear bA3 cA hn4 o1 o2 o3 o4 ml4 mr4
    go_wp2_with fail
    refine (implRRF sa si ho nx _ _ _ _ n1 n1 n2 n2 ln ln rn rn r1 r2 L4 R4 q _ i1 i2 i3 i4 E1.out E2.out F3.out F4.out k1 k2 k3 k4 hq4.out).mono ?_
    rintro e w5 ⟨rfl, hn5⟩
    have bA5 := bA4.new hn5
    have b5 := b4.new hn5
    have hw5 := hw4.trans hn5
    have j1 := i1.new hn5
    have j2 := i2.new hn5
    have j3 := i3.new hn5
    have j4 := i4.new hn5
    have hqq : (q != q) = false := by simp
    clear bA4 b4 cB hn5 i1 i2 i3 i4 hal hz hq4
    have cA := bA5.cells
    have cB := b5.cells
    go_wp2_with fail
    go_region_held3 (fun W => (∀ j, W.cell? ⟨w.heap.size, j, none⟩ = #[Value.int .i64 sa, .int .i64 si, .int .i64 ho, .int .i64 nx, .slice a1 n1 c1, .slice a2 n2 c2, .slice la ln lc, .slice ra rn rc][j]?) ∧ (∀ j, W.cell? ⟨w4.heap.size, j, none⟩ = #[Value.int .i64 sa, .int .i64 si, .int .i64 ho, .int .i64 nx, .slice (some ⟨p4, 0, none⟩) n1 n1, .slice (some ⟨q4, 0, none⟩) n2 n2, .slice (some ⟨s4, 0, none⟩) ln ln, .slice (some ⟨t4, 0, none⟩) rn rn][j]?)) (first | exact ⟨cA, cB⟩ | exact ⟨cA7, cB7⟩ | exact ⟨cA8, cB8⟩)
      (first
        | (go_at_call 8; refine (toRr_any sa si ho nx a1 a2 la ra n1 c1 n2 c2 ln lc rn rc r1 r2 L R _ ?_ ?_ ?_ ?_ E1.out E2.out E3.out E4.out k1 k2 k3 k4).mono ?_; exact (h1.new hw5).new ((New.refl _).drew); exact (h2.new hw5).new ((New.refl _).drew); exact (l3.new hw5).new ((New.refl _).drew); exact (l4.new hw5).new ((New.refl _).drew); rintro e w7 ⟨p7, q7, s7, t7, L7, R7, rfl, ml7, mr7, u1, u2, u3, u4, hn7⟩; have cA7 := (bA5.new (((New.refl _).drew).trans hn7)).cells; have cB7 := (b5.new (((New.refl _).drew).trans hn7)).cells)
        | (go_at_call 10; refine (eqRr_any sa si ho nx _ _ _ _ _ _ _ _ n1 n1 n2 n2 ln ln rn rn n1 n2 ln rn r1 r2 L4 L7 R4 R7 _ ?_ ?_ ?_ ?_ u1 u2 u3 u4 (ML4.out.trans ml7.symm) (MR4.out.trans mr7.symm) E1.out E2.out F3.out F4.out k1 k2 k3 k4).mono ?_; exact j1.new (((New.refl _).drew).trans hn7); exact j2.new (((New.refl _).drew).trans hn7); exact j3.new (((New.refl _).drew).trans hn7); exact j4.new (((New.refl _).drew).trans hn7); rintro e w8 ⟨rfl, hn8⟩; have cA8 := (bA5.new ((((New.refl _).drew).trans hn7).trans hn8)).cells; have cB8 := (b5.new ((((New.refl _).drew).trans hn7).trans hn8)).cells))
    have hn58 : New w5 w8 := (((New.refl _).drew).trans hn7).trans hn8
    go_wp2
    go_ret
    exact ⟨rfl, hw5.trans hn58⟩

set_option maxRecDepth 100000 in
theorem arr_lifted (os : Os) (started : os.Started) (H : Type) (enc : TypeId × Value → H) :
    ReturnsInHanded {} Try.checked os 3 .any (Rows.fnExactRouterFaultSpec.pre6 enc Try.prog Try.f3 Rows.fnExactRouterFaultRow.domain false) (Rows.fnExactRouterFaultSpec.post enc Try.prog Try.f3 false true false false) := by
  refine returnsInHanded_of_change (C := Try.checked) own started (by kernel_rfl) Try.func3
    (ChangeSpec.witness6 (enc := enc) (C := Try.checked) false ⟨#[], #[.agg #[.int .i64 0, .int .i64 0, .int .i64 0, .int .i64 0, .slice none 0 0, .slice none 0 0, .slice none 0 0, .slice none 0 0]], []⟩ 8 (by kernel_rfl) (by kernel_rfl) (by kernel_rfl) (by kernel_rfl)) ?_
  intro W base args ds gs before hval0 hW hcnd _
  have hval : ∀ (j : Nat) t v, Try.f3.params[j]? = some t → args[j]? = some v → Value.okWide Try.prog W .any base t v := hval0
  have hW' := hW
  obtain ⟨p, q, hA0, hV, rfl, hfz, hnd⟩ := hW
  have hA : DataW.TrodAll enc Try.prog W 0 (fun _ => true) true Try.f3.params.toList args.toList ds p := hA0
  rw [Try.params3] at hA hval
  obtain ⟨v0, vs0, d0, ds0, p0, q0, hargs, rfl, rfl, h0, r0⟩ := trodAll_cons hA
  obtain ⟨rfl, rfl, rfl⟩ := trodAll_nil r0
  obtain rfl : args = #[v0] := by cases args; simp_all
  obtain ⟨rfl, rfl⟩ := trodVars_none hV
  have k0 := h0
  have lt0 : ∀ x ∈ p0, x.block < W.heap.size := by obtain ⟨m, hm⟩ := k0; exact DataW.trod_lt m _ _ _ hm
  obtain ⟨sa0, si0, ho0, nx0, x1, x2, x3, x4, y1, z1, y2, z2, y3, z3, y4, z4, u1, u2, u3, u4, rfl, ⟨f1, f2, f3⟩, ⟨f4, f5, f6⟩, ⟨f7, f8, f9⟩, ⟨f10, f11, f12⟩⟩ := open_router (hval 0 30 v0 rfl rfl) h0
  clear hA0 hval0
  refine (arr_walk sa0 si0 ho0 nx0 x1 x2 x3 x4 y1 z1 y2 z2 y3 z3 y4 z4 u1 u2 u3 u4 W f1 f4 f7 f10 f2 f5 f8 f11 f3 f6 f9 f12).mono fun e W' ⟨he, new⟩ => ?_
  have bel := new.below
  subst he
  exact ⟨_, rfl, _, _, _, [], _, [], hW', trodAll_mk1 (shut_bool Try.underlying4 _), (trodAll_cons_mk (Below.trod laidOut (by kernel_rfl) (of_decide_eq_true (by kernel_rfl)) k0 bel lt0) trodAll_mk0), rfl, bel.frame _, fun h => by cases h⟩

theorem arr_holds : Rows.FnExactRouterFaultSaid :=
  OpenClaim.holds_of_wide 3 Try.f3 rfl rfl rfl rfl rfl rfl rfl ⟨rfl, rfl, rfl, rfl, rfl⟩ rfl rfl rfl rfl rfl (by kernel_rfl) Try.func3 (by kernel_rfl)
    (of_decide_eq_true (by kernel_rfl)) (by unfold Func.isWrapper; first | (rw [if_pos (by decide +kernel)]; kernel_rfl) | (rw [if_neg (by decide +kernel)]; exact ⟨rfl, rfl⟩))
    (fun os started H enc _ => arr_lifted os started H enc)

end Go.Proofs.Ytkahlmkhancloab
