/- What is proved here: for every list of bytes, place and size the law on NumberAt returns true, and the arguments read as they did. No condition. -/
import Derived.Test.YtopkihgdemcneagOpen
import Derived.Test.YtopkihgdemcneagNumLib
namespace Go.Proofs.Ytopkihgdemcneag
open Go.ChangeShapes Go.WideShapes Go.ChangeAt Go.RowKit
set_option linter.unusedVariables false

def nBad (n : Nat) (t m : Int) : Prop := m < 1 ∨ 4 < m ∨ t < 0 ∨ n - m < t

theorem both_num (zs : List Int) (n : Nat) (t m : Int) (hn : zs.length = n) (hm : n ≤ 1048576) : ∃ x y : Int,
    (∀ (a : Option Addr) (c : Nat) (w : World), BsAt w a zs → Calls Try.prog 27 #[.slice a n c, .int .i64 t, .int .i64 m] w fun e w' => e = .returned (.agg #[.int .i64 x, .int .i64 y]) ∧ New w w') ∧
    (∀ (a : Option Addr) (c : Nat) (w : World), BsAt w a zs → n ≤ c → Calls Try.prog 28 #[.slice a n c, .int .i64 t, .int .i64 m] w fun e w' => e = .returned (.agg #[.int .i64 x, .int .i64 y]) ∧ New w w') := by
  by_cases h : m < 1 ∨ 4 < m ∨ t < 0 ∨ n - m < t
  · exact ⟨3, 0, fun a c w _ => specNum_bad a n c t m w hm h, fun a c w _ _ => implNum_bad a n c t m w hm h⟩
  · obtain ⟨t', rfl⟩ := Int.eq_ofNat_of_zero_le (show 0 ≤ t by omega)
    obtain ⟨m', rfl⟩ := Int.eq_ofNat_of_zero_le (show 0 ≤ m by omega)
    exact ⟨0, numAt zs t' m', fun a c w hb => specNum_good a n c t' m' zs w hb hn hm (by omega) (by omega) (by omega), fun a c w hb hc => implNum_good a n c t' m' zs w hb hn hc hm (by omega) (by omega) (by omega)⟩

set_option maxHeartbeats 800000 in
theorem num_walk (a : Option Addr) (n c : Nat) (zs : List Int) (t m : Int) (w : World) (h : BsAt w a zs) (hn : zs.length = n) (hm : n ≤ maxLen) :
    Calls Try.prog 6 #[.slice a n c, .int .i64 t, .int .i64 m] w fun e w' => e = .returned (.bool true) ∧ New w w' := by
  unfold maxLen at hm
  by_cases hbig : 1048576 < n
  · go_enter Try.func6, Try.ntmps6
    go_wp2
    go_ret
    exact ⟨rfl, New.refl _⟩
  · have hz := h.lt
    obtain ⟨x, y, hS, hI⟩ := both_num zs n t m hn (by omega)
    have HS : Hid _ := hS
    have HI : Hid _ := hI
    clear hS hI
    go_enter Try.func6, Try.ntmps6
    go_wp2_with fail
    refine (toBytes_any a n c zs _ h hn (by omega)).mono ?_
    rintro e w1 ⟨g1, rfl, hg1, ho1, hn1⟩
    go_wp2_with fail
    refine (HS.out _ n _ (BsAt.of_own ho1 hz)).mono ?_
    rintro e w2 ⟨rfl, hn2⟩
    go_wp2_with fail
    have hn3 := (hn1.trans hn2).alloc (.cells #[.int .i64 x, .int .i64 y] 48)
    refine (toBytes_any a n c zs _ (h.new hn3) hn (by omega)).mono ?_
    rintro e w4 ⟨g4, rfl, hg4, ho4, hn4⟩
    have hs4 := hn4.size
    simp at hs4
    have hx4 : w4.cell? ⟨w2.heap.size, 0, none⟩ = some (.int .i64 x) := by rw [hn4.cells _ _ (by simp)]; simp
    have hy4 : w4.cell? ⟨w2.heap.size, 1, none⟩ = some (.int .i64 y) := by rw [hn4.cells _ _ (by simp)]; simp
    go_wp2_with fail
    refine (HI.out _ n _ (BsAt.of_own ho4 hz) (Nat.le_refl _)).mono ?_
    rintro e w5 ⟨rfl, hn5⟩
    have hs5 := hn5.size
    have hx5 : w5.cell? ⟨w2.heap.size, 0, none⟩ = some (.int .i64 x) := by rw [hn5.cells _ _ (by omega)]; exact hx4
    have hy5 : w5.cell? ⟨w2.heap.size, 1, none⟩ = some (.int .i64 y) := by rw [hn5.cells _ _ (by omega)]; exact hy4
    have hs6 : w2.heap.size < w5.heap.size := by omega
    clear hx4 hy4
    go_wp2_with fail
    refine (eqInt_any x y _).mono ?_
    rintro e w6 ⟨rfl, hn6⟩
    have hn7 := ((hn3.trans hn4).trans (hn5.alloc (.cells #[.int .i64 x, .int .i64 y] 48))).trans hn6
    clear hx5 hy5
    go_wp2_with fail
    refine (toBytes_any a n c zs _ (h.new hn7) hn (by omega)).mono ?_
    rintro e w8 ⟨g8, rfl, hg8, ho8, hn8⟩
    go_wp2_with fail
    refine (eqBytes_any _ _ n n n zs _ (((BsAt.of_own ho4 hz).new ((hn5.alloc _).trans hn6)).new hn8) (BsAt.of_own ho8 hz) hn (by omega)).mono ?_
    rintro e w9 ⟨rfl, hn9⟩
    go_wp2
    go_ret
    exact ⟨rfl, (hn7.trans hn8).trans hn9⟩

set_option maxRecDepth 100000 in
theorem num_lifted (os : Os) (started : os.Started) (H : Type) (enc : TypeId × Value → H) :
    ReturnsInHanded {} Try.checked os 6 .any (Rows.fnExactNumberAtSpec.pre6 enc Try.prog Try.f6 Rows.fnExactNumberAtRow.domain false) (Rows.fnExactNumberAtSpec.post enc Try.prog Try.f6 false true false false) := by
  refine returnsInHanded_of_change (C := Try.checked) own started (by kernel_rfl) Try.func6
    (ChangeSpec.witness6 (enc := enc) (C := Try.checked) false ⟨#[], #[.slice none 0 0, .int .i64 0, .int .i64 0], []⟩ 8 (by kernel_rfl) (by kernel_rfl) (by kernel_rfl) (by kernel_rfl)) ?_
  intro W base args ds gs before hval0 hW hcnd _
  have hval : ∀ (j : Nat) t v, Try.f6.params[j]? = some t → args[j]? = some v → Value.okWide Try.prog W .any base t v := hval0
  have hW' := hW
  obtain ⟨p, q, hA0, hV, rfl, hfz, hnd⟩ := hW
  have hA : DataW.TrodAll enc Try.prog W 0 (fun _ => true) true Try.f6.params.toList args.toList ds p := hA0
  rw [Try.params6] at hA hval
  obtain ⟨v0, vs0, d0, ds0, p0, q0, hargs, rfl, rfl, h0, r0⟩ := trodAll_cons hA
  obtain ⟨v1, vs1, d1, ds1, p1, q1, rfl, rfl, rfl, h1, r1⟩ := trodAll_cons r0
  obtain ⟨v2, vs2, d2, ds2, p2, q2, rfl, rfl, rfl, h2, r2⟩ := trodAll_cons r1
  obtain ⟨rfl, rfl, rfl⟩ := trodAll_nil r2
  obtain rfl : args = #[v0, v1, v2] := by cases args; simp_all
  obtain ⟨rfl, rfl⟩ := trodVars_none hV
  have k0 := h0
  have lt0 : ∀ x ∈ p0, x.block < W.heap.size := by obtain ⟨m, hm⟩ := k0; exact DataW.trod_lt m _ _ _ hm
  obtain ⟨a0, len0, cap0, rfl⟩ := okWide_slice Try.underlying22 (hval 0 22 v0 rfl rfl)
  obtain ⟨z0, b0, e0, m0⟩ := open_bytes h0
  obtain ⟨a1, rfl, rfl, rfl, w1⟩ := open_int Try.underlying2 (hval 1 2 v1 rfl rfl) h1
  obtain ⟨a2, rfl, rfl, rfl, w2⟩ := open_int Try.underlying2 (hval 2 2 v2 rfl rfl) h2
  clear hA0 hval0
  refine (num_walk a0 len0 cap0 z0 a1 a2 W b0 e0 m0.2).mono fun e W' ⟨he, new⟩ => ?_
  have bel := new.below
  subst he
  exact ⟨_, rfl, _, _, _, [], _, [], hW', trodAll_mk1 (shut_bool Try.underlying4 _), (trodAll_cons_mk (Below.trod laidOut (by kernel_rfl) (of_decide_eq_true (by kernel_rfl)) k0 bel lt0) (trodAll_cons_mk (shut_int Try.underlying2 w1) (trodAll_cons_mk (shut_int Try.underlying2 w2) trodAll_mk0))), rfl, bel.frame _, fun h => by cases h⟩

theorem num_holds : Rows.FnExactNumberAtSaid :=
  OpenClaim.holds_of_wide 6 Try.f6 rfl rfl rfl rfl rfl rfl rfl ⟨rfl, rfl, rfl, rfl, rfl⟩ rfl rfl rfl rfl rfl (by kernel_rfl) Try.func6 (by kernel_rfl)
    (of_decide_eq_true (by kernel_rfl)) (by unfold Func.isWrapper; first | (rw [if_pos (by decide +kernel)]; kernel_rfl) | (rw [if_neg (by decide +kernel)]; exact ⟨rfl, rfl⟩))
    (fun os started H enc _ => num_lifted os started H enc)

end Go.Proofs.Ytopkihgdemcneag
