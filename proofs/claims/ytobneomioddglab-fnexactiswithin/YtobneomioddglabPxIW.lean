/- What is proved here: for every two prefixes the law on IsWithin returns true, and the prefixes read as they did. No condition. -/
import Derived.Test.YtobneomioddglabPxOpen
namespace Go.Proofs.Ytobneomioddglab
open Go.ChangeShapes Go.WideShapes Go.ChangeAt Go.RowKit Go.Sort
set_option linter.unusedVariables false

theorem piw_walk (a l b m : Int) (w : World) :
    Calls Try.prog 8 #[.agg #[.int .i64 a, .int .i64 l], .agg #[.int .i64 b, .int .i64 m]] w fun e w' => e = .returned (.bool true) ∧ New w w' := by
  have hff : (inP a l b m != inP a l b m) = false := by simp
  have hw := ((New.refl w).alloc (.cells #[.int .i64 a, .int .i64 l] 40)).alloc (.cells #[.int .i64 b, .int .i64 m] 40)
  have hB : Blk ((w.alloc (.cells #[.int .i64 a, .int .i64 l] 40)).alloc (.cells #[.int .i64 b, .int .i64 m] 40)) w.heap.size 40 #[.int .i64 a, .int .i64 l] := (Blk.mk _ _ _ _ rfl).alloc _
  have hD : Blk ((w.alloc (.cells #[.int .i64 a, .int .i64 l] 40)).alloc (.cells #[.int .i64 b, .int .i64 m] 40)) (w.heap.size + 1) 40 #[.int .i64 b, .int .i64 m] := Blk.mk _ _ _ _ (by simp)
  have hc := blk_regrown hB
  have hd := blk_regrown hD
  go_enter Try.func8, Try.ntmps8
  go_wp2_with fail
  refine wp_region_quiet_below (by kernel_rfl) (by kernel_rfl) ?_
  repeat (go_big_quiet_step (first | (go_at_call_of 23 a; exact calls_regrown (toPrefix_any a l _)) | (go_at_call_of 23 b; exact calls_regrown (toPrefix_any b m _)) | (go_at_call 27; exact calls_regrown (specIn a l b m _))))
  refine wpQuiet_nil ?_
  rintro w1 hn1
  replace hn1 := new_of_regrown hn1
  clear hc hd
  have hc := blk_regrown (hB.new hn1)
  have hd := blk_regrown (hD.new hn1)
  go_wp2_with fail
  refine wp_region_quiet_below (by kernel_rfl) (by kernel_rfl) ?_
  repeat (go_big_quiet_step (first | (go_at_call_of 23 a; exact calls_regrown (toPrefix_any a l _)) | (go_at_call_of 23 b; exact calls_regrown (toPrefix_any b m _)) | (go_at_call 28; exact calls_regrown (implIn a l b m _))))
  refine wpQuiet_nil ?_
  rintro w2 hn2
  replace hn2 := new_of_regrown hn2
  go_wp2
  go_ret
  exact ⟨rfl, (hw.trans hn1).trans hn2⟩

set_option maxRecDepth 100000 in
theorem piw_lifted (os : Os) (started : os.Started) (H : Type) (enc : TypeId × Value → H) :
    ReturnsInHanded {} Try.checked os 8 .any (Rows.fnExactIsWithinSpec.pre6 enc Try.prog Try.f8 Rows.fnExactIsWithinRow.domain false) (Rows.fnExactIsWithinSpec.post enc Try.prog Try.f8 false true false false) := by
  refine returnsInHanded_of_change (C := Try.checked) own started (by kernel_rfl) Try.func8
    (ChangeSpec.witness6 (enc := enc) (C := Try.checked) false ⟨#[], #[.agg #[.int .i64 0, .int .i64 0], .agg #[.int .i64 0, .int .i64 0]], []⟩ 8 (by kernel_rfl) (by kernel_rfl) (by kernel_rfl) (by kernel_rfl)) ?_
  intro W base args ds gs before hval0 hW hcnd _
  have hval : ∀ (j : Nat) t v, Try.f8.params[j]? = some t → args[j]? = some v → Value.okWide Try.prog W .any base t v := hval0
  have hW' := hW
  obtain ⟨p, q, hA0, hV, rfl, hfz, hnd⟩ := hW
  have hA : DataW.TrodAll enc Try.prog W 0 (fun _ => true) true Try.f8.params.toList args.toList ds p := hA0
  rw [Try.params8] at hA hval
  obtain ⟨v0, vs0, d0, ds0, p0, q0, hargs, rfl, rfl, h0, r0⟩ := trodAll_cons hA
  obtain ⟨v1, vs1, d1, ds1, p1, q1, rfl, rfl, rfl, h1, r1⟩ := trodAll_cons r0
  obtain ⟨rfl, rfl, rfl⟩ := trodAll_nil r1
  obtain rfl : args = #[v0, v1] := by cases args; simp_all
  obtain ⟨rfl, rfl⟩ := trodVars_none hV
  have k0 := h0
  have lt0 : ∀ x ∈ p0, x.block < W.heap.size := by obtain ⟨m, hm⟩ := k0; exact DataW.trod_lt m _ _ _ hm
  obtain ⟨a0, l0, rfl, wa0, wl0⟩ := open_prefix (hval 0 40 v0 rfl rfl) h0
  have k1 := h1
  have lt1 : ∀ x ∈ p1, x.block < W.heap.size := by obtain ⟨m, hm⟩ := k1; exact DataW.trod_lt m _ _ _ hm
  obtain ⟨a1, l1, rfl, wa1, wl1⟩ := open_prefix (hval 1 40 v1 rfl rfl) h1
  clear hA0 hval0
  refine (piw_walk a0 l0 a1 l1 W).mono fun e W' ⟨he, new⟩ => ?_
  have bel := new.below
  subst he
  exact ⟨_, rfl, _, _, _, [], _, [], hW', trodAll_mk1 (shut_bool Try.underlying4 _), (trodAll_cons_mk (Below.trod laidOut (by kernel_rfl) (of_decide_eq_true (by kernel_rfl)) k0 bel lt0) (trodAll_cons_mk (Below.trod laidOut (by kernel_rfl) (of_decide_eq_true (by kernel_rfl)) k1 bel lt1) trodAll_mk0)), rfl, bel.frame _, fun h => by cases h⟩

theorem piw_holds : Rows.FnExactIsWithinSaid :=
  OpenClaim.holds_of_wide 8 Try.f8 rfl rfl rfl rfl rfl rfl rfl ⟨rfl, rfl, rfl, rfl, rfl⟩ rfl rfl rfl rfl rfl (by kernel_rfl) Try.func8 (by kernel_rfl)
    (of_decide_eq_true (by kernel_rfl)) (by unfold Func.isWrapper; first | (rw [if_pos (by decide +kernel)]; kernel_rfl) | (rw [if_neg (by decide +kernel)]; exact ⟨rfl, rfl⟩))
    (fun os started H enc _ => piw_lifted os started H enc)

end Go.Proofs.Ytobneomioddglab
