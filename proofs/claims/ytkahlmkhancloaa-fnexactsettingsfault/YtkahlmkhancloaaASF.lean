/- What is proved here: for all settings the law on SettingsFault returns true, and the settings read as they did. No condition. -/
import Derived.Test.YtkahlmkhancloaaG9Op
import Derived.Deep.RegionHeld3
namespace Go.Proofs.Ytkahlmkhancloaa
open Go.ChangeShapes Go.WideShapes Go.ChangeAt Go.RowKit Go.Sort
set_option linter.unusedVariables false

set_option maxHeartbeats 3200000 in
theorem asf_walk (sa si ho nx : Int) (a1 a2 : Option Addr) (n1 c1 n2 c2 : Nat) (r1 r2 : List Ru) (w : World) (h1 : RsAt w a1 r1) (h2 : RsAt w a2 r2) (e1 : r1.length = n1) (e2 : r2.length = n2) (m1 : n1 ≤ maxLen) (m2 : n2 ≤ maxLen) :
    Calls Try.prog 3 #[.agg #[.int .i64 sa, .int .i64 si, .int .i64 ho, .int .i64 nx, .slice a1 n1 c1, .slice a2 n2 c2]] w fun e w' => e = .returned (.bool true) ∧ New w w' := by
  have hw := (New.refl w).alloc (.cells #[.int .i64 sa, .int .i64 si, .int .i64 ho, .int .i64 nx, .slice a1 n1 c1, .slice a2 n2 c2] 26)
  by_cases hbig : 1048576 < n1 + n2
  · go_enter Try.func3, Try.ntmps3
    go_wp2_with fail
    refine (szSe_big sa si ho nx a1 a2 n1 c1 n2 c2 1048576 _ (Nat.le_refl _) hbig m1 m2).mono ?_
    rintro e w1 ⟨rfl, hn1⟩
    go_wp2
    go_ret
    exact ⟨rfl, hw.trans hn1⟩
  · have k1 : n1 ≤ 1048576 := by omega
    have k2 : n2 ≤ 1048576 := by omega
    have E1 : Hid (r1.length = n1) := e1
    have E2 : Hid (r2.length = n2) := e2
    have hle : n1 + n2 ≤ 1048576 := by omega
    clear m1 m2 e1 e2 hbig
    have bA := Blk.mk w w.heap.size 26 #[.int .i64 sa, .int .i64 si, .int .i64 ho, .int .i64 nx, .slice a1 n1 c1, .slice a2 n2 c2] rfl
    have hz : (stF sa si ho nx r1 r2 != stF sa si ho nx r1 r2) = false := by simp
    go_enter Try.func3, Try.ntmps3
    go_wp2_with fail
    refine (szSe_ok sa si ho nx a1 a2 n1 c1 n2 c2 1048576 _ (Nat.le_refl _) hle).mono ?_
    rintro e w1 ⟨rfl, hn1⟩
    generalize 1048576 - n1 - n2 = left at *
    have bA1 := bA.new hn1
    have cA := bA1.cells
    have hw1 := hw.trans hn1
    clear bA hn1 hw hle
    go_wp2_with fail
    refine (toSe_any sa si ho nx a1 a2 n1 c1 n2 c2 r1 r2 _ (h1.new hw1) (h2.new hw1) E1.out E2.out k1 k2).mono ?_
    rintro e w2 ⟨p2, q2, rfl, -, -, op2, oq2, hn2⟩
    have bA2 := bA1.new hn2
    have hw2 := hw1.trans hn2
    clear cA bA1 hn2
    go_wp2_with fail
    refine (specSE sa si ho nx _ _ n1 n1 n2 n2 r1 r2 _ _ op2.rs oq2.rs E1.out E2.out k1 k2 rfl).mono ?_
    rintro e w3 ⟨rfl, hn3⟩
    have bA3 := bA2.new hn3
    have hw3 := hw2.trans hn3
    have cA := bA3.cells
    generalize hq : stF sa si ho nx r1 r2 = q at *
    clear bA2 hn3 op2 oq2
    go_wp2_with fail
    refine (toSe_any sa si ho nx a1 a2 n1 c1 n2 c2 r1 r2 _ (h1.new hw3) (h2.new hw3) E1.out E2.out k1 k2).mono ?_
    rintro e w4 ⟨p4, q4, rfl, -, -, op4, oq4, hn4⟩
    have hal := (New.refl w4).alloc (.cells #[.int .i64 sa, .int .i64 si, .int .i64 ho, .int .i64 nx, .slice (some ⟨p4, 0, none⟩) n1 n1, .slice (some ⟨q4, 0, none⟩) n2 n2] 32)
    have bA4 := (bA3.new hn4).new hal
    have b4 := Blk.mk w4 w4.heap.size 32 #[.int .i64 sa, .int .i64 si, .int .i64 ho, .int .i64 nx, .slice (some ⟨p4, 0, none⟩) n1 n1, .slice (some ⟨q4, 0, none⟩) n2 n2] rfl
    have hw4 := (hw3.trans hn4).trans hal
    have ip4 := op4.new hal
    have iq4 := oq4.new hal
    have cB := b4.cells
    clear bA3 cA hn4 op4 oq4
    go_wp2_with fail
    refine (implSE sa si ho nx _ _ n1 n1 n2 n2 r1 r2 q _ ip4.rs iq4.rs E1.out E2.out k1 k2 hq).mono ?_
    rintro e w5 ⟨rfl, hn5⟩
    have bA5 := bA4.new hn5
    have b5 := b4.new hn5
    have hw5 := hw4.trans hn5
    have ip5 := ip4.new hn5
    have iq5 := iq4.new hn5
    clear bA4 b4 cB hn5 ip4 iq4 hal
    have cA := bA5.cells
    have cB := b5.cells
    go_wp2_with fail
    go_region_held3 (fun W => (∀ j, W.cell? ⟨w.heap.size, j, none⟩ = #[Value.int .i64 sa, .int .i64 si, .int .i64 ho, .int .i64 nx, .slice a1 n1 c1, .slice a2 n2 c2][j]?) ∧ (∀ j, W.cell? ⟨w4.heap.size, j, none⟩ = #[Value.int .i64 sa, .int .i64 si, .int .i64 ho, .int .i64 nx, .slice (some ⟨p4, 0, none⟩) n1 n1, .slice (some ⟨q4, 0, none⟩) n2 n2][j]?)) (first | exact ⟨cA, cB⟩ | exact ⟨cA7, cB7⟩ | exact ⟨cA8, cB8⟩)
      (first
        | (go_at_call 7; refine (toSe_any sa si ho nx a1 a2 n1 c1 n2 c2 r1 r2 _ ?_ ?_ E1.out E2.out k1 k2).mono ?_; exact (h1.new hw5).new ((New.refl _).drew); exact (h2.new hw5).new ((New.refl _).drew); rintro e w7 ⟨p7, q7, rfl, -, -, op7, oq7, hn7⟩; have cA7 := (bA5.new (((New.refl _).drew).trans hn7)).cells; have cB7 := (b5.new (((New.refl _).drew).trans hn7)).cells)
        | (go_at_call 9; refine (eqSe_any sa si ho nx _ _ _ _ n1 n1 n2 n2 n1 n2 r1 r2 _ ?_ ?_ E1.out E2.out k1 k2 ?_ ?_).mono ?_; exact ip5.rs.new (((New.refl _).drew).trans hn7); exact iq5.rs.new (((New.refl _).drew).trans hn7); exact op7.rs; exact oq7.rs; rintro e w8 ⟨rfl, hn8⟩; have cA8 := (bA5.new ((((New.refl _).drew).trans hn7).trans hn8)).cells; have cB8 := (b5.new ((((New.refl _).drew).trans hn7).trans hn8)).cells))
    have hn58 : New w5 w8 := (((New.refl _).drew).trans hn7).trans hn8
    go_wp2
    go_ret
    exact ⟨rfl, hw5.trans hn58⟩

set_option maxRecDepth 100000 in
theorem asf_lifted (os : Os) (started : os.Started) (H : Type) (enc : TypeId × Value → H) :
    ReturnsInHanded {} Try.checked os 3 .any (Rows.fnExactSettingsFaultSpec.pre6 enc Try.prog Try.f3 Rows.fnExactSettingsFaultRow.domain false) (Rows.fnExactSettingsFaultSpec.post enc Try.prog Try.f3 false true false false) := by
  refine returnsInHanded_of_change (C := Try.checked) own started (by kernel_rfl) Try.func3
    (ChangeSpec.witness6 (enc := enc) (C := Try.checked) false ⟨#[], #[.agg #[.int .i64 0, .int .i64 0, .int .i64 0, .int .i64 0, .slice none 0 0, .slice none 0 0]], []⟩ 8 (by kernel_rfl) (by kernel_rfl) (by kernel_rfl) (by kernel_rfl)) ?_
  intro W base args ds gs before hval0 hW hcnd _
  have hval : ∀ (j : Nat) t v, Try.f3.params[j]? = some t → args[j]? = some v → Value.okWide Try.prog W .any base t v := hval0
  have hW' := hW
  obtain ⟨p, q, hA0, hV, rfl, hfz, hnd⟩ := hW
  have hA : DataW.TrodAll enc Try.prog W 0 (fun _ => true) true Try.f3.params.toList args.toList ds p := hA0
  rw [Try.params3] at hA hval
  obtain ⟨v0, vs0, d0, ds0, p0, q0, hargs, rfl, rfl, h0, r0⟩ := trodAll_cons hA
  obtain ⟨rfl, rfl, rfl⟩ := trodAll_nil r0
  obtain rfl : args = #[v0] := by cases args; simp_all
  obtain ⟨rfl, rfl⟩ := trodVars_none hV
  have k0 := h0
  have lt0 : ∀ x ∈ p0, x.block < W.heap.size := by obtain ⟨m, hm⟩ := k0; exact DataW.trod_lt m _ _ _ hm
  obtain ⟨sa0, si0, ho0, nx0, x1, x2, y1, z1, y2, z2, u1, u2, rfl, ⟨f1, f2, f3⟩, ⟨f4, f5, f6⟩⟩ := open_settings (hval 0 26 v0 rfl rfl) h0
  clear hA0 hval0
  refine (asf_walk sa0 si0 ho0 nx0 x1 x2 y1 z1 y2 z2 u1 u2 W f1 f4 f2 f5 f3 f6).mono fun e W' ⟨he, new⟩ => ?_
  have bel := new.below
  subst he
  exact ⟨_, rfl, _, _, _, [], _, [], hW', trodAll_mk1 (shut_bool Try.underlying4 _), (trodAll_cons_mk (Below.trod laidOut (by kernel_rfl) (of_decide_eq_true (by kernel_rfl)) k0 bel lt0) trodAll_mk0), rfl, bel.frame _, fun h => by cases h⟩

theorem asf_holds : Rows.FnExactSettingsFaultSaid :=
  OpenClaim.holds_of_wide 3 Try.f3 rfl rfl rfl rfl rfl rfl rfl ⟨rfl, rfl, rfl, rfl, rfl⟩ rfl rfl rfl rfl rfl (by kernel_rfl) Try.func3 (by kernel_rfl)
    (of_decide_eq_true (by kernel_rfl)) (by unfold Func.isWrapper; first | (rw [if_pos (by decide +kernel)]; kernel_rfl) | (rw [if_neg (by decide +kernel)]; exact ⟨rfl, rfl⟩))
    (fun os started H enc _ => asf_lifted os started H enc)

end Go.Proofs.Ytkahlmkhancloaa
