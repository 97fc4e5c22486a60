/- What is proved here: for every text the law on ParsePrefix returns true. No condition. -/
import Derived.Test.YthjoogfbhaceoaaPpFn
import Derived.Test.YthjoogfbhaceoaaPpSpec
namespace Go.Proofs.Ythjoogfbhaceoaa
open Go.ChangeShapes Go.WideShapes Go.ChangeAt Go.RowKit Go.Sort Go.ChangeMaps
set_option linter.unusedVariables false

theorem eqPxR_any (c a l : Int) (w : World) : Calls Try.prog 6 #[.agg #[.int .i64 c, .int .i64 a, .int .i64 l], .agg #[.int .i64 c, .int .i64 a, .int .i64 l]] w fun e w' => e = .returned (.bool true) ∧ New w w' := by
  have hx : (c != c) = false := by simp
  have hw := ((New.refl w).alloc (.cells #[.int .i64 c, .int .i64 a, .int .i64 l] 25)).alloc (.cells #[.int .i64 c, .int .i64 a, .int .i64 l] 25)
  go_enter Try.func6, Try.ntmps6
  go_wp2_with fail
  refine (eqPrefix_any a l _).mono ?_
  rintro e w1 ⟨rfl, hn1⟩
  go_wp2
  go_ret
  exact ⟨rfl, hw.trans hn1⟩

theorem ppp_walk (s : ByteArray) (w : World) (hm : s.size ≤ maxLen) :
    Calls Try.prog 3 #[.string s] w fun e w' => e = .returned (.bool true) ∧ New w w' := by
  obtain ⟨x, rfl⟩ : ∃ x : List UInt8, s = ⟨x.toArray⟩ := ⟨s.data.toList, (Lib.mk_data s).symm⟩
  have hsz := size_l x
  rw [hsz] at hm
  unfold maxLen at hm
  by_cases hbig : 1048576 < x.length
  · go_enter Try.func3, Try.ntmps3
    go_wp2
    go_ret
    exact ⟨rfl, New.refl _⟩
  · have hm' : x.length ≤ 1048576 := by omega
    clear hm
    go_enter Try.func3, Try.ntmps3
    go_wp2_with fail
    refine (specParse x _ hm').mono ?_
    rintro e w1 ⟨rfl, hn1⟩
    have hB : Blk (w1.alloc (.cells #[.int .i64 (parse x).1, .int .i64 (parse x).2.1, .int .i64 (parse x).2.2] 25)) w1.heap.size 25 #[.int .i64 (parse x).1, .int .i64 (parse x).2.1, .int .i64 (parse x).2.2] := Blk.mk _ _ _ _ rfl
    go_wp2_with fail
    refine (implParse x _ hm').mono ?_
    rintro e w2 ⟨rfl, hn2⟩
    have hcs := ((hB.new hn2).alloc (.cells #[.int .i64 (parse x).1, .int .i64 (parse x).2.1, .int .i64 (parse x).2.2] 25)).cells
    go_wp2_with fail
    refine (eqPxR_any _ _ _ _).mono ?_
    rintro e w3 ⟨rfl, hn3⟩
    go_wp2
    go_ret
    exact ⟨rfl, (((hn1.alloc _).trans hn2).alloc _).trans hn3⟩

set_option maxRecDepth 100000 in
theorem ppp_lifted (os : Os) (started : os.Started) (H : Type) (enc : TypeId × Value → H) :
    ReturnsInHanded {} Try.checked os 3 .any (Rows.fnExactParsePrefixSpec.pre6 enc Try.prog Try.f3 Rows.fnExactParsePrefixRow.domain false) (Rows.fnExactParsePrefixSpec.post enc Try.prog Try.f3 false true false false) := by
  refine returnsInHanded_of_change (C := Try.checked) own started (by kernel_rfl) Try.func3
    (ChangeSpec.witness6 (enc := enc) (C := Try.checked) false ⟨#[], #[.string ⟨#[]⟩], []⟩ 8 (by kernel_rfl) (by kernel_rfl) (by kernel_rfl) (by kernel_rfl)) ?_
  intro W base args ds gs before hval0 hW hcnd _
  have hval : ∀ (j : Nat) t v, Try.f3.params[j]? = some t → args[j]? = some v → Value.okWide Try.prog W .any base t v := hval0
  have hW' := hW
  obtain ⟨p, q, hA0, hV, rfl, hfz, hnd⟩ := hW
  have hA : DataW.TrodAll enc Try.prog W 0 (fun _ => true) true Try.f3.params.toList args.toList ds p := hA0
  rw [Try.params3] at hA hval
  obtain ⟨v0, vs0, d0, ds0, p0, q0, hargs, rfl, rfl, h0, r0⟩ := trodAll_cons hA
  obtain ⟨rfl, rfl, rfl⟩ := trodAll_nil r0
  obtain rfl : args = #[v0] := by cases args; simp_all
  obtain ⟨rfl, rfl⟩ := trodVars_none hV
  obtain ⟨s0, rfl, rfl, rfl, w0⟩ := open_string Try.underlying9 (hval 0 9 v0 rfl rfl) h0
  clear hA0 hval0
  refine (ppp_walk s0 W w0).mono fun e W' ⟨he, new⟩ => ?_
  have bel := new.below
  subst he
  exact ⟨_, rfl, _, _, _, [], _, [], hW', trodAll_mk1 (shut_bool Try.underlying4 _), (trodAll_cons_mk (shut_string Try.underlying9 w0) trodAll_mk0), rfl, bel.frame _, fun h => by cases h⟩

theorem ppp_holds : Rows.FnExactParsePrefixSaid :=
  OpenClaim.holds_of_wide 3 Try.f3 rfl rfl rfl rfl rfl rfl rfl ⟨rfl, rfl, rfl, rfl, rfl⟩ rfl rfl rfl rfl rfl (by kernel_rfl) Try.func3 (by kernel_rfl)
    (of_decide_eq_true (by kernel_rfl)) (by unfold Func.isWrapper; first | (rw [if_pos (by decide +kernel)]; kernel_rfl) | (rw [if_neg (by decide +kernel)]; exact ⟨rfl, rfl⟩))
    (fun os started H enc _ => ppp_lifted os started H enc)

end Go.Proofs.Ythjoogfbhaceoaa
