/- What is proved here: for every list of prefixes and every number the law on LongestFor returns true, and the list reads as it did. No condition. -/
import Derived.Test.YtgjdjafldogecaaPsOpen
import Derived.Test.YtgjdjafldogecaaLgImpl
namespace Go.Proofs.Ytgjdjafldogecaa
open Go.ChangeShapes Go.WideShapes Go.ChangeAt Go.RowKit Go.Sort
set_option linter.unusedVariables false

theorem eqIntR_any (c v : Int) (w : World) : Calls Try.prog 31 #[.agg #[.int .i64 c, .int .i64 v], .agg #[.int .i64 c, .int .i64 v]] w fun e w' => e = .returned (.bool true) ∧ New w w' := by
  have hx : (c != c) = false := by simp
  have hy : (v != v) = false := by simp
  go_enter Try.func31, Try.ntmps31
  go_wp2
  go_ret
  exact ⟨rfl, ((New.refl _).alloc _).alloc _⟩

set_option maxHeartbeats 800000 in
theorem plf_walk (a : Option Addr) (n c : Nat) (ps : List (Int × Int)) (x : Int) (w : World) (h : PsAt w a ps) (hn : ps.length = n) (hm : n ≤ maxLen) :
    Calls Try.prog 7 #[.slice a n c, .int .i64 x] w fun e w' => e = .returned (.bool true) ∧ New w w' := by
  by_cases hbig : 1048576 < n
  · go_enter Try.func7, Try.ntmps7
    go_wp2_with fail
    refine (szPs_big a n c 1048576 _ (Nat.le_refl _) hm hbig).mono ?_
    rintro e w1 ⟨rfl, rfl⟩
    go_wp2
    go_ret
    exact ⟨rfl, New.refl _⟩
  · have hm' : n ≤ 1048576 := by omega
    have hbd : Hid (∀ p ∈ ps, In6 p.1 ∧ In6 p.2) := h.bd
    clear hm
    go_enter Try.func7, Try.ntmps7
    go_wp2_with fail
    refine (szPs_ok a n c 1048576 _ (Nat.le_refl _) hm').mono ?_
    rintro e w1 ⟨rfl, rfl⟩
    go_wp2_with fail
    refine (toPs_any a n c ps _ h hn hm').mono ?_
    rintro e w2 ⟨g2, rfl, hg2, ho2, hn2⟩
    go_wp2_with fail
    refine (specLg _ n n ps x _ (ho2.ps hbd.out) hn hm').mono ?_
    rintro e w3 ⟨cd, v, rfl, hL, hn3⟩
    have HL : Hid (Lg ps x cd v) := hL
    clear hL
    have hn13 := hn2.trans hn3
    have hB : Blk (w3.alloc (.cells #[.int .i64 cd, .int .i64 v] 52)) w3.heap.size 52 #[.int .i64 cd, .int .i64 v] := Blk.mk _ _ _ _ rfl
    have hn14 := hn13.alloc (.cells #[.int .i64 cd, .int .i64 v] 52)
    go_wp2_with fail
    refine (toPs_any a n c ps _ (h.new hn14) hn hm').mono ?_
    rintro e w4 ⟨g4, rfl, hg4, ho4, hn4⟩
    have hn15 := hn14.trans hn4
    go_wp2_with fail
    refine (implLg _ n n ps x _ (ho4.ps hbd.out) hn hm').mono ?_
    rintro e w5 ⟨cd', v', rfl, hL', hn5⟩
    obtain ⟨rfl, rfl⟩ := Lg_one HL.out hL'
    clear hL'
    have hn16 := hn15.trans hn5
    have hB5 := hB.new (hn4.trans hn5)
    have hcs := (hB5.alloc (.cells #[.int .i64 cd, .int .i64 v] 52)).cells
    go_wp2_with fail
    refine (eqIntR_any cd v _).mono ?_
    rintro e w6 ⟨rfl, hn6⟩
    have hn17 := (hn16.alloc (.cells #[.int .i64 cd, .int .i64 v] 52)).trans hn6
    have hn46 : New w4 w6 := (hn5.alloc _).trans hn6
    clear hcs
    go_wp2_with fail
    refine (toPs_any a n c ps _ (h.new hn17) hn hm').mono ?_
    rintro e w7 ⟨g7, rfl, hg7, ho7, hn7⟩
    go_wp2_with fail
    refine (eqPs_any _ _ n n n ps _ ((ho4.new (hn46.trans hn7)).ps hbd.out) (ho7.ps hbd.out) hn hm').mono ?_
    rintro e w8 ⟨rfl, hn8⟩
    go_wp2
    go_ret
    exact ⟨rfl, (hn17.trans hn7).trans hn8⟩

set_option maxRecDepth 100000 in
theorem plf_lifted (os : Os) (started : os.Started) (H : Type) (enc : TypeId × Value → H) :
    ReturnsInHanded {} Try.checked os 7 .any (Rows.fnExactLongestForSpec.pre6 enc Try.prog Try.f7 Rows.fnExactLongestForRow.domain false) (Rows.fnExactLongestForSpec.post enc Try.prog Try.f7 false true false false) := by
  refine returnsInHanded_of_change (C := Try.checked) own started (by kernel_rfl) Try.func7
    (ChangeSpec.witness6 (enc := enc) (C := Try.checked) false ⟨#[], #[.slice none 0 0, .int .i64 0], []⟩ 8 (by kernel_rfl) (by kernel_rfl) (by kernel_rfl) (by kernel_rfl)) ?_
  intro W base args ds gs before hval0 hW hcnd _
  have hval : ∀ (j : Nat) t v, Try.f7.params[j]? = some t → args[j]? = some v → Value.okWide Try.prog W .any base t v := hval0
  have hW' := hW
  obtain ⟨p, q, hA0, hV, rfl, hfz, hnd⟩ := hW
  have hA : DataW.TrodAll enc Try.prog W 0 (fun _ => true) true Try.f7.params.toList args.toList ds p := hA0
  rw [Try.params7] at hA hval
  obtain ⟨v0, vs0, d0, ds0, p0, q0, hargs, rfl, rfl, h0, r0⟩ := trodAll_cons hA
  obtain ⟨v1, vs1, d1, ds1, p1, q1, rfl, rfl, rfl, h1, r1⟩ := trodAll_cons r0
  obtain ⟨rfl, rfl, rfl⟩ := trodAll_nil r1
  obtain rfl : args = #[v0, v1] := by cases args; simp_all
  obtain ⟨rfl, rfl⟩ := trodVars_none hV
  have k0 := h0
  have lt0 : ∀ x ∈ p0, x.block < W.heap.size := by obtain ⟨m, hm⟩ := k0; exact DataW.trod_lt m _ _ _ hm
  obtain ⟨a0, len0, cap0, rfl⟩ := okWide_slice Try.underlying32 (hval 0 32 v0 rfl rfl)
  obtain ⟨z0, b0, e0, m0⟩ := open_prefixes h0
  obtain ⟨a1, rfl, rfl, rfl, w1⟩ := open_int Try.underlying2 (hval 1 2 v1 rfl rfl) h1
  clear hA0 hval0
  refine (plf_walk a0 len0 cap0 z0 a1 W b0 e0 m0).mono fun e W' ⟨he, new⟩ => ?_
  have bel := new.below
  subst he
  exact ⟨_, rfl, _, _, _, [], _, [], hW', trodAll_mk1 (shut_bool Try.underlying4 _), (trodAll_cons_mk (Below.trod laidOut (by kernel_rfl) (of_decide_eq_true (by kernel_rfl)) k0 bel lt0) (trodAll_cons_mk (shut_int Try.underlying2 w1) trodAll_mk0)), rfl, bel.frame _, fun h => by cases h⟩

theorem plf_holds : Rows.FnExactLongestForSaid :=
  OpenClaim.holds_of_wide 7 Try.f7 rfl rfl rfl rfl rfl rfl rfl ⟨rfl, rfl, rfl, rfl, rfl⟩ rfl rfl rfl rfl rfl (by kernel_rfl) Try.func7 (by kernel_rfl)
    (of_decide_eq_true (by kernel_rfl)) (by unfold Func.isWrapper; first | (rw [if_pos (by decide +kernel)]; kernel_rfl) | (rw [if_neg (by decide +kernel)]; exact ⟨rfl, rfl⟩))
    (fun os started H enc _ => plf_lifted os started H enc)

end Go.Proofs.Ytgjdjafldogecaa
