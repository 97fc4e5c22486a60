/- What is proved here: for every lease and two numbers the law on GrantLease returns true, and the lease reads as it did. No condition. -/
import Derived.Test.YtpbmbnckdmjdhaaL13Gr
import Derived.Test.YtpbmbnckdmjdhaaL13Op
namespace Go.Proofs.Ytpbmbnckdmjdhaa
open Go.ChangeShapes Go.WideShapes Go.ChangeAt Go.RowKit
set_option linter.unusedVariables false

set_option maxHeartbeats 1600000 in
theorem agrl_walk (ho ep ak he a h : Int) (w : World) :
    Calls Try.prog 7 #[.agg #[.int .i64 ho, .int .i64 ep, .int .i64 ak, .int .i64 he], .int .i64 a, .int .i64 h] w fun e w' => e = .returned (.bool true) ∧ New w w' := by
  have hw := (New.refl w).alloc (.cells #[.int .i64 ho, .int .i64 ep, .int .i64 ak, .int .i64 he] 46)
  have hB : Blk (w.alloc (.cells #[.int .i64 ho, .int .i64 ep, .int .i64 ak, .int .i64 he] 46)) w.heap.size 46 #[.int .i64 ho, .int .i64 ep, .int .i64 ak, .int .i64 he] := Blk.mk _ _ _ _ rfl
  obtain ⟨⟨rc, rh, re, ra, rr⟩, hr⟩ : ∃ r, Hid (r = grR ho ep ak he a h) := ⟨_, rfl⟩
  go_enter Try.func7, Try.ntmps7
  go_wp2_with fail
  refine (toLe_any ho ep ak he _).mono ?_
  rintro e w1 ⟨rfl, hn1⟩
  go_wp2_with fail
  refine (specGr ho ep ak he a h _).mono ?_
  rintro e w2 ⟨rfl, hn2⟩
  rw [← hr.out]
  have hB2 := hB.new (hn1.trans hn2)
  have hw2 := (hw.trans hn1).trans hn2
  have hal := (New.refl w2).alloc (.cells #[.int .i64 rc, .int .i64 rh, .int .i64 re, .int .i64 ra, .int .i64 rr] 36)
  have bX := Blk.mk w2 w2.heap.size 36 #[.int .i64 rc, .int .i64 rh, .int .i64 re, .int .i64 ra, .int .i64 rr] rfl
  have hB3 := hB2.new hal
  have hc := hB3.cells
  have hc0 := hB2.cells
  have hw3 := hw2.trans hal
  have lw2 := hB2.lt
  clear hB hB2 hn1 hn2 hw hw2
  go_wp2_with fail
  refine (toLe_any ho ep ak he _).mono ?_
  rintro e w3 ⟨rfl, hn3⟩
  go_wp2_with fail
  refine (implGr ho ep ak he a h _).mono ?_
  rintro e w4 ⟨rfl, hn4⟩
  rw [← hr.out]
  have bX4 := bX.new (hn3.trans hn4)
  have hB4 := hB3.new (hn3.trans hn4)
  have cX := bX4.cells
  have lX := bX4.lt
  have hw4 := hw3.trans (hn3.trans hn4)
  clear bX hB3 hc hn3 hn4 hw3 hal
  go_wp2_with fail
  refine (eqLr_any ⟨rc, rh, re, ra, rr⟩ _).mono ?_
  rintro e w5 ⟨rfl, hn5⟩
  go_wp2
  go_ret
  exact ⟨rfl, (hw4.alloc _).trans hn5⟩

set_option maxRecDepth 100000 in
theorem agrl_lifted (os : Os) (started : os.Started) (H : Type) (enc : TypeId × Value → H) :
    ReturnsInHanded {} Try.checked os 7 .any (Rows.fnExactGrantLeaseSpec.pre6 enc Try.prog Try.f7 Rows.fnExactGrantLeaseRow.domain false) (Rows.fnExactGrantLeaseSpec.post enc Try.prog Try.f7 false true false false) := by
  refine returnsInHanded_of_change (C := Try.checked) own started (by kernel_rfl) Try.func7
    (ChangeSpec.witness6 (enc := enc) (C := Try.checked) false ⟨#[], #[.agg #[.int .i64 0, .int .i64 0, .int .i64 0, .int .i64 0], .int .i64 0, .int .i64 0], []⟩ 8 (by kernel_rfl) (by kernel_rfl) (by kernel_rfl) (by kernel_rfl)) ?_
  intro W base args ds gs before hval0 hW hcnd _
  have hval : ∀ (j : Nat) t v, Try.f7.params[j]? = some t → args[j]? = some v → Value.okWide Try.prog W .any base t v := hval0
  have hW' := hW
  obtain ⟨p, q, hA0, hV, rfl, hfz, hnd⟩ := hW
  have hA : DataW.TrodAll enc Try.prog W 0 (fun _ => true) true Try.f7.params.toList args.toList ds p := hA0
  rw [Try.params7] at hA hval
  obtain ⟨v0, vs0, d0, ds0, p0, q0, hargs, rfl, rfl, h0, r0⟩ := trodAll_cons hA
  obtain ⟨v1, vs1, d1, ds1, p1, q1, rfl, rfl, rfl, h1, r1⟩ := trodAll_cons r0
  obtain ⟨v2, vs2, d2, ds2, p2, q2, rfl, rfl, rfl, h2, r2⟩ := trodAll_cons r1
  obtain ⟨rfl, rfl, rfl⟩ := trodAll_nil r2
  obtain rfl : args = #[v0, v1, v2] := by cases args; simp_all
  obtain ⟨rfl, rfl⟩ := trodVars_none hV
  have k0 := h0
  have lt0 : ∀ x ∈ p0, x.block < W.heap.size := by obtain ⟨m, hm⟩ := k0; exact DataW.trod_lt m _ _ _ hm
  obtain ⟨ho0, ep0, ak0, he0, rfl, xa0, xb0, xc0, xd0⟩ := open_lease (hval 0 46 v0 rfl rfl) h0
  obtain ⟨n1, rfl, rfl, rfl, w1⟩ := open_int Try.underlying2 (hval 1 2 v1 rfl rfl) h1
  obtain ⟨n2, rfl, rfl, rfl, w2⟩ := open_int Try.underlying2 (hval 2 2 v2 rfl rfl) h2
  clear hA0 hval0
  refine (agrl_walk ho0 ep0 ak0 he0 n1 n2 W).mono fun e W' ⟨he, new⟩ => ?_
  have bel := new.below
  subst he
  exact ⟨_, rfl, _, _, _, [], _, [], hW', trodAll_mk1 (shut_bool Try.underlying4 _), (trodAll_cons_mk (Below.trod laidOut (by kernel_rfl) (of_decide_eq_true (by kernel_rfl)) k0 bel lt0) (trodAll_cons_mk (shut_int Try.underlying2 w1) (trodAll_cons_mk (shut_int Try.underlying2 w2) trodAll_mk0))), rfl, bel.frame _, fun h => by cases h⟩

theorem agrl_holds : Rows.FnExactGrantLeaseSaid :=
  OpenClaim.holds_of_wide 7 Try.f7 rfl rfl rfl rfl rfl rfl rfl ⟨rfl, rfl, rfl, rfl, rfl⟩ rfl rfl rfl rfl rfl (by kernel_rfl) Try.func7 (by kernel_rfl)
    (of_decide_eq_true (by kernel_rfl)) (by unfold Func.isWrapper; first | (rw [if_pos (by decide +kernel)]; kernel_rfl) | (rw [if_neg (by decide +kernel)]; exact ⟨rfl, rfl⟩))
    (fun os started H enc _ => agrl_lifted os started H enc)

end Go.Proofs.Ytpbmbnckdmjdhaa
