/- What is proved here: for every rule the law on RuleFault returns true, and the rule reads as it did. No condition. -/
import Derived.Test.YtlmojgecflcbkaaR6Open
namespace Go.Proofs.Ytlmojgecflcbkaa
open Go.ChangeShapes Go.WideShapes Go.ChangeAt Go.RowKit Go.Sort
set_option linter.unusedVariables false

set_option maxHeartbeats 1600000 in
theorem arf_walk (a l ls ms s : Int) (d : Bool) (lc pp : Int) (w : World) : Calls Try.prog 3 #[.agg #[.int .i64 a, .int .i64 l, .int .i64 ls, .int .i64 ms, .int .i64 s, .bool d, .int .i64 lc, .int .i64 pp]] w fun e w' => e = .returned (.bool true) ∧ New w w' := by
  have hw := (New.refl w).alloc (.cells #[.int .i64 a, .int .i64 l, .int .i64 ls, .int .i64 ms, .int .i64 s, .bool d, .int .i64 lc, .int .i64 pp] 25)
  have bA := Blk.mk w w.heap.size 25 #[.int .i64 a, .int .i64 l, .int .i64 ls, .int .i64 ms, .int .i64 s, .bool d, .int .i64 lc, .int .i64 pp] rfl
  have hz : (rf a l ls ms s d lc pp != rf a l ls ms s d lc pp) = false := by simp
  go_enter Try.func3, Try.ntmps3
  go_wp2_with fail
  refine (toRule_any a l ls ms s d lc pp _).mono ?_
  rintro e w1 ⟨rfl, hn1⟩
  go_wp2_with fail
  refine (specRF a l ls ms s d lc pp _).mono ?_
  rintro e w2 ⟨rfl, hn2⟩
  have b2 := (bA.new hn1).new hn2
  have cA := b2.cells
  have hw2 := (hw.trans hn1).trans hn2
  clear bA hn1 hn2 hw
  go_wp2_with fail
  refine (toRule_any a l ls ms s d lc pp _).mono ?_
  rintro e w3 ⟨rfl, hn3⟩
  go_wp2_with fail
  refine (implRF a l ls ms s d lc pp _).mono ?_
  rintro e w4 ⟨rfl, hn4⟩
  go_wp2
  go_ret
  exact ⟨rfl, (hw2.trans hn3).trans hn4⟩

set_option maxRecDepth 100000 in
theorem arf_lifted (os : Os) (started : os.Started) (H : Type) (enc : TypeId × Value → H) :
    ReturnsInHanded {} Try.checked os 3 .any (Rows.fnExactRuleFaultSpec.pre6 enc Try.prog Try.f3 Rows.fnExactRuleFaultRow.domain false) (Rows.fnExactRuleFaultSpec.post enc Try.prog Try.f3 false true false false) := by
  refine returnsInHanded_of_change (C := Try.checked) own started (by kernel_rfl) Try.func3
    (ChangeSpec.witness6 (enc := enc) (C := Try.checked) false ⟨#[], #[.agg #[.int .i64 0, .int .i64 0, .int .i64 0, .int .i64 0, .int .i64 0, .bool false, .int .i64 0, .int .i64 0]], []⟩ 8 (by kernel_rfl) (by kernel_rfl) (by kernel_rfl) (by kernel_rfl)) ?_
  intro W base args ds gs before hval0 hW hcnd _
  have hval : ∀ (j : Nat) t v, Try.f3.params[j]? = some t → args[j]? = some v → Value.okWide Try.prog W .any base t v := hval0
  have hW' := hW
  obtain ⟨p, q, hA0, hV, rfl, hfz, hnd⟩ := hW
  have hA : DataW.TrodAll enc Try.prog W 0 (fun _ => true) true Try.f3.params.toList args.toList ds p := hA0
  rw [Try.params3] at hA hval
  obtain ⟨v0, vs0, d0, ds0, p0, q0, hargs, rfl, rfl, h0, r0⟩ := trodAll_cons hA
  obtain ⟨rfl, rfl, rfl⟩ := trodAll_nil r0
  obtain rfl : args = #[v0] := by cases args; simp_all
  obtain ⟨rfl, rfl⟩ := trodVars_none hV
  have k0 := h0
  have lt0 : ∀ x ∈ p0, x.block < W.heap.size := by obtain ⟨m, hm⟩ := k0; exact DataW.trod_lt m _ _ _ hm
  obtain ⟨a0, l0, ls0, ms0, s0, t0, lc0, pp0, rfl⟩ := open_rule (hval 0 25 v0 rfl rfl) h0
  clear hA0 hval0
  refine (arf_walk a0 l0 ls0 ms0 s0 t0 lc0 pp0 W).mono fun e W' ⟨he, new⟩ => ?_
  have bel := new.below
  subst he
  exact ⟨_, rfl, _, _, _, [], _, [], hW', trodAll_mk1 (shut_bool Try.underlying4 _), (trodAll_cons_mk (Below.trod laidOut (by kernel_rfl) (of_decide_eq_true (by kernel_rfl)) k0 bel lt0) trodAll_mk0), rfl, bel.frame _, fun h => by cases h⟩

theorem arf_holds : Rows.FnExactRuleFaultSaid :=
  OpenClaim.holds_of_wide 3 Try.f3 rfl rfl rfl rfl rfl rfl rfl ⟨rfl, rfl, rfl, rfl, rfl⟩ rfl rfl rfl rfl rfl (by kernel_rfl) Try.func3 (by kernel_rfl)
    (of_decide_eq_true (by kernel_rfl)) (by unfold Func.isWrapper; first | (rw [if_pos (by decide +kernel)]; kernel_rfl) | (rw [if_neg (by decide +kernel)]; exact ⟨rfl, rfl⟩))
    (fun os started H enc _ => arf_lifted os started H enc)

end Go.Proofs.Ytlmojgecflcbkaa
