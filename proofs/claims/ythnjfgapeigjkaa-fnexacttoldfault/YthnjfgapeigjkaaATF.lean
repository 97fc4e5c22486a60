/- What is proved here: for every list of things told the law on ToldFault returns true, and the list reads as it did. No condition. -/
import Derived.Test.YthnjfgapeigjkaaT8Ls
import Derived.Test.YthnjfgapeigjkaaT8Fa
namespace Go.Proofs.Ythnjfgapeigjkaa
open Go.ChangeShapes Go.WideShapes Go.ChangeAt Go.RowKit Go.Sort
set_option linter.unusedVariables false

set_option maxHeartbeats 1600000 in
theorem atf_walk (x : Option Addr) (n c : Nat) (V : List Tv) (w : World) (h : TdCame w x V) (hn : V.length = n) (hm : n ≤ maxLen) : Calls Try.prog 3 #[.slice x n c] w fun e w' => e = .returned (.bool true) ∧ New w w' := by
  have HN : Hid (V.length = n) := hn
  go_enter Try.func3, Try.ntmps3
  go_wp2_with fail
  refine (szTds_any x n c V 1048576 _ h hn hm (by omega) (by omega)).mono ?_
  rintro e w1 ⟨⟨z, rfl, hz⟩, hn1⟩
  clear hn hm
  rcases hz with rfl | ⟨hz0, hz1, hm', hall⟩
  · go_wp2
    go_ret
    exact ⟨rfl, hn1⟩
  · have hR := (h.rt hall).new hn1
    obtain ⟨f, hf⟩ : ∃ f, Hid (tdF (V.map Tv.r) = f) := ⟨_, rfl⟩
    have hff : (f != f) = false := by simp
    clear h hall
    go_wp2_with fail
    refine (toTds_any x n c V _ hR HN.out hm').mono ?_
    rintro e w2 ⟨g2, V2, rfl, hv2, ho2, hn2⟩
    have r2 := ho2.rt
    go_wp2_with fail
    refine (specTF _ n n V2 f _ r2.1 r2.2 hm' (by rw [hv2]; exact hf.out)).mono ?_
    rintro e w3 ⟨rfl, hn3⟩
    have hw3 := hn2.trans hn3
    clear ho2 hn2 hn3 r2 hv2
    go_wp2_with fail
    refine (toTds_any x n c V _ (hR.new hw3) HN.out hm').mono ?_
    rintro e w4 ⟨g4, V4, rfl, hv4, ho4, hn4⟩
    have r4 := ho4.rt
    go_wp2_with fail
    refine (implTF _ n n V4 f _ r4.1 r4.2 hm' (by rw [hv4]; exact hf.out)).mono ?_
    rintro e w5 ⟨rfl, hn5⟩
    have r5 := r4.1.new hn5
    have hw5 := (hw3.trans hn4).trans hn5
    go_wp2_with fail
    refine (toTds_any x n c V _ (hR.new hw5) HN.out hm').mono ?_
    rintro e w6 ⟨g6, V6, rfl, hv6, ho6, hn6⟩
    have r6 := ho6.rt
    go_wp2_with fail
    refine (eqTds_any _ _ n n n V4 V6 _ (r5.new hn6) r6.1 (by rw [hv4, hv6]) r4.2 hm').mono ?_
    rintro e w7 ⟨rfl, hn7⟩
    go_wp2
    go_ret
    exact ⟨rfl, hn1.trans ((hw5.trans hn6).trans hn7)⟩


set_option maxRecDepth 100000 in
theorem atf_lifted (os : Os) (started : os.Started) (H : Type) (enc : TypeId × Value → H) :
    ReturnsInHanded {} Try.checked os 3 .any (Rows.fnExactToldFaultSpec.pre6 enc Try.prog Try.f3 Rows.fnExactToldFaultRow.domain false) (Rows.fnExactToldFaultSpec.post enc Try.prog Try.f3 false true false false) := by
  refine returnsInHanded_of_change (C := Try.checked) own started (by kernel_rfl) Try.func3
    (ChangeSpec.witness6 (enc := enc) (C := Try.checked) false ⟨#[], #[.slice none 0 0], []⟩ 8 (by kernel_rfl) (by kernel_rfl) (by kernel_rfl) (by kernel_rfl)) ?_
  intro W base args ds gs before hval0 hW hcnd _
  have hval : ∀ (j : Nat) t v, Try.f3.params[j]? = some t → args[j]? = some v → Value.okWide Try.prog W .any base t v := hval0
  have hW' := hW
  obtain ⟨p, q, hA0, hV, rfl, hfz, hnd⟩ := hW
  have hA : DataW.TrodAll enc Try.prog W 0 (fun _ => true) true Try.f3.params.toList args.toList ds p := hA0
  rw [Try.params3] at hA hval
  obtain ⟨v0, vs0, d0, ds0, p0, q0, hargs, rfl, rfl, h0, r0⟩ := trodAll_cons hA
  obtain ⟨rfl, rfl, rfl⟩ := trodAll_nil r0
  obtain rfl : args = #[v0] := by cases args; simp_all
  obtain ⟨rfl, rfl⟩ := trodVars_none hV
  have k0 := h0
  have lt0 : ∀ x ∈ p0, x.block < W.heap.size := by obtain ⟨m, hm⟩ := k0; exact DataW.trod_lt m _ _ _ hm
  obtain ⟨a0, len0, cap0, rfl⟩ := okWide_slice Try.underlying22 (hval 0 22 v0 rfl rfl)
  obtain ⟨z0, b0, e0, m0⟩ := open_tolds h0
  clear hA0 hval0
  refine (atf_walk a0 len0 cap0 z0 W b0 e0 m0).mono fun e W' ⟨he, new⟩ => ?_
  have bel := new.below
  subst he
  exact ⟨_, rfl, _, _, _, [], _, [], hW', trodAll_mk1 (shut_bool Try.underlying4 _), (trodAll_cons_mk (Below.trod laidOut (by kernel_rfl) (of_decide_eq_true (by kernel_rfl)) k0 bel lt0) trodAll_mk0), rfl, bel.frame _, fun h => by cases h⟩

theorem atf_holds : Rows.FnExactToldFaultSaid :=
  OpenClaim.holds_of_wide 3 Try.f3 rfl rfl rfl rfl rfl rfl rfl ⟨rfl, rfl, rfl, rfl, rfl⟩ rfl rfl rfl rfl rfl (by kernel_rfl) Try.func3 (by kernel_rfl)
    (of_decide_eq_true (by kernel_rfl)) (by unfold Func.isWrapper; first | (rw [if_pos (by decide +kernel)]; kernel_rfl) | (rw [if_neg (by decide +kernel)]; exact ⟨rfl, rfl⟩))
    (fun os started H enc _ => atf_lifted os started H enc)

end Go.Proofs.Ythnjfgapeigjkaa
