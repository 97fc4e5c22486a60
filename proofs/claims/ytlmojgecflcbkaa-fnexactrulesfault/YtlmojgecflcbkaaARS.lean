/- What is proved here: for every list of rules the law on RulesFault returns true, and the list reads as it did. No condition. -/
import Derived.Test.YtlmojgecflcbkaaR6Open
namespace Go.Proofs.Ytlmojgecflcbkaa
open Go.ChangeShapes Go.WideShapes Go.ChangeAt Go.RowKit Go.Sort
set_option linter.unusedVariables false

set_option maxHeartbeats 1600000 in
theorem ars_walk (x : Option Addr) (n c : Nat) (rs : List Ru) (w : World) (h : RsAt w x rs) (hn : rs.length = n) (hm : n ≤ maxLen) : Calls Try.prog 4 #[.slice x n c] w fun e w' => e = .returned (.bool true) ∧ New w w' := by
  by_cases hbig : 1048576 < n
  · go_enter Try.func4, Try.ntmps4
    go_wp2_with fail
    refine (szRs_big x n c 1048576 _ (Nat.le_refl _) hm hbig).mono ?_
    rintro e w1 ⟨rfl, rfl⟩
    go_wp2
    go_ret
    exact ⟨rfl, New.refl _⟩
  · have hm' : n ≤ 1048576 := by omega
    have HN : Hid (rs.length = n) := hn
    have hz : (rsf rs != rsf rs) = false := by simp
    clear hm hn
    go_enter Try.func4, Try.ntmps4
    go_wp2_with fail
    refine (szRs_ok x n c 1048576 _ (Nat.le_refl _) hm').mono ?_
    rintro e w1 ⟨rfl, rfl⟩
    go_wp2_with fail
    refine (toRs_any x n c rs _ h HN.out hm').mono ?_
    rintro e w2 ⟨g2, rfl, hg2, ho2, hn2⟩
    go_wp2_with fail
    refine (specRSF _ n n rs _ ho2.rs HN.out hm').mono ?_
    rintro e w3 ⟨rfl, hn3⟩
    have hw3 := hn2.trans hn3
    clear ho2 hg2 hn2 hn3
    go_wp2_with fail
    refine (toRs_any x n c rs _ (h.new hw3) HN.out hm').mono ?_
    rintro e w4 ⟨g4, rfl, hg4, ho4, hn4⟩
    go_wp2_with fail
    refine (implRSF _ n n rs _ ho4.rs HN.out hm').mono ?_
    rintro e w5 ⟨rfl, hn5⟩
    have ho5 := ho4.new hn5
    have hw5 := (hw3.trans hn4).trans hn5
    clear ho4 hn4 hn5
    go_wp2_with fail
    refine (toRs_any x n c rs _ (h.new hw5) HN.out hm').mono ?_
    rintro e w6 ⟨g6, rfl, hg6, ho6, hn6⟩
    go_wp2_with fail
    refine (eqRs_any _ _ n n n rs _ (ho5.new hn6).rs ho6.rs HN.out hm').mono ?_
    rintro e w7 ⟨rfl, hn7⟩
    go_wp2
    go_ret
    exact ⟨rfl, (hw5.trans hn6).trans hn7⟩

set_option maxRecDepth 100000 in
theorem ars_lifted (os : Os) (started : os.Started) (H : Type) (enc : TypeId × Value → H) :
    ReturnsInHanded {} Try.checked os 4 .any (Rows.fnExactRulesFaultSpec.pre6 enc Try.prog Try.f4 Rows.fnExactRulesFaultRow.domain false) (Rows.fnExactRulesFaultSpec.post enc Try.prog Try.f4 false true false false) := by
  refine returnsInHanded_of_change (C := Try.checked) own started (by kernel_rfl) Try.func4
    (ChangeSpec.witness6 (enc := enc) (C := Try.checked) false ⟨#[], #[.slice none 0 0], []⟩ 8 (by kernel_rfl) (by kernel_rfl) (by kernel_rfl) (by kernel_rfl)) ?_
  intro W base args ds gs before hval0 hW hcnd _
  have hval : ∀ (j : Nat) t v, Try.f4.params[j]? = some t → args[j]? = some v → Value.okWide Try.prog W .any base t v := hval0
  have hW' := hW
  obtain ⟨p, q, hA0, hV, rfl, hfz, hnd⟩ := hW
  have hA : DataW.TrodAll enc Try.prog W 0 (fun _ => true) true Try.f4.params.toList args.toList ds p := hA0
  rw [Try.params4] at hA hval
  obtain ⟨v0, vs0, d0, ds0, p0, q0, hargs, rfl, rfl, h0, r0⟩ := trodAll_cons hA
  obtain ⟨rfl, rfl, rfl⟩ := trodAll_nil r0
  obtain rfl : args = #[v0] := by cases args; simp_all
  obtain ⟨rfl, rfl⟩ := trodVars_none hV
  have k0 := h0
  have lt0 : ∀ x ∈ p0, x.block < W.heap.size := by obtain ⟨m, hm⟩ := k0; exact DataW.trod_lt m _ _ _ hm
  obtain ⟨a0, len0, cap0, rfl⟩ := okWide_slice Try.underlying32 (hval 0 32 v0 rfl rfl)
  obtain ⟨z0, b0, e0, m0⟩ := open_rules h0
  clear hA0 hval0
  refine (ars_walk a0 len0 cap0 z0 W b0 e0 m0).mono fun e W' ⟨he, new⟩ => ?_
  have bel := new.below
  subst he
  exact ⟨_, rfl, _, _, _, [], _, [], hW', trodAll_mk1 (shut_bool Try.underlying4 _), (trodAll_cons_mk (Below.trod laidOut (by kernel_rfl) (of_decide_eq_true (by kernel_rfl)) k0 bel lt0) trodAll_mk0), rfl, bel.frame _, fun h => by cases h⟩

theorem ars_holds : Rows.FnExactRulesFaultSaid :=
  OpenClaim.holds_of_wide 4 Try.f4 rfl rfl rfl rfl rfl rfl rfl ⟨rfl, rfl, rfl, rfl, rfl⟩ rfl rfl rfl rfl rfl (by kernel_rfl) Try.func4 (by kernel_rfl)
    (of_decide_eq_true (by kernel_rfl)) (by unfold Func.isWrapper; first | (rw [if_pos (by decide +kernel)]; kernel_rfl) | (rw [if_neg (by decide +kernel)]; exact ⟨rfl, rfl⟩))
    (fun os started H enc _ => ars_lifted os started H enc)

end Go.Proofs.Ytlmojgecflcbkaa
