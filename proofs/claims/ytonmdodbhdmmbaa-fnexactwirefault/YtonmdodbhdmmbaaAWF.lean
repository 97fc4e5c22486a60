/- What is proved here: for every wire the law on WireFault returns true, and the wire reads as it did. No condition. -/
import Derived.Test.YtonmdodbhdmmbaaW11Op
import Derived.Test.YtonmdodbhdmmbaaW11Lib
import Derived.Test.YtonmdodbhdmmbaaW11Wf
import Derived.Deep.RegionHeld3
namespace Go.Proofs.Ytonmdodbhdmmbaa
open Go.ChangeShapes Go.WideShapes Go.ChangeAt Go.RowKit
set_option linter.unusedVariables false

set_option maxHeartbeats 1600000 in
theorem awf_walk (E T : Int) (a b : Option Addr) (n c m d : Nat) (zs ys : List Int) (w : World) (h : BsAt w a zs) (k : BsAt w b ys) (hn : zs.length = n) (hm : ys.length = m) (hnm : n ≤ maxLen) (hmm : m ≤ maxLen) :
    Calls Try.prog 3 #[.agg #[.int .i64 E, .slice a n c, .int .i64 T, .slice b m d]] w fun e w' => e = .returned (.bool true) ∧ New w w' := by
  have hw := (New.refl w).alloc (.cells #[.int .i64 E, .slice a n c, .int .i64 T, .slice b m d] 24)
  by_cases hbig : 1048576 < n + m
  · go_enter Try.func3, Try.ntmps3
    go_wp2_with fail
    refine (szW_big E T a b n c m d 1048576 _ (Nat.le_refl _) hnm hmm hbig).mono ?_
    rintro e w1 ⟨rfl, hn1⟩
    go_wp2
    go_ret
    exact ⟨rfl, hw.trans hn1⟩
  · have hz := h.lt
    have hy := k.lt
    have hn' : n ≤ 1048576 := by omega
    have hm' : m ≤ 1048576 := by omega
    have hle : (0 : Int) ≤ 1048576 - (n : Int) - (m : Int) := by omega
    have bA := Blk.mk w w.heap.size 24 #[.int .i64 E, .slice a n c, .int .i64 T, .slice b m d] rfl
    clear hnm hmm
    go_enter Try.func3, Try.ntmps3
    go_wp2_with fail
    refine (szW_ok E T a b n c m d 1048576 _ (Nat.le_refl _) (by omega)).mono ?_
    rintro e w1 ⟨rfl, hn1⟩
    have bA1 := bA.new hn1
    have cA := bA1.cells
    have hw1 := hw.trans hn1
    clear bA hn1 hw
    go_wp2_with fail
    refine (toW_any E T a b n c m d zs ys _ (h.new hw1) (k.new hw1) hn hm hn' hm').mono ?_
    rintro e w2 ⟨g2, k2, rfl, hg2, hk2, ho2, ho2', hn2⟩
    have bA2 := bA1.new hn2
    have hw2 := hw1.trans hn2
    clear cA bA1 hn2
    go_wp2_with fail
    refine (specWF E T _ _ n n m m _ hn' hm').mono ?_
    rintro e w3 ⟨rfl, hn3⟩
    have bA3 := bA2.new hn3
    have hw3 := hw2.trans hn3
    have cA := bA3.cells
    clear bA2 hn3 ho2 ho2' hg2 hk2
    go_wp2_with fail
    refine (toW_any E T a b n c m d zs ys _ (h.new hw3) (k.new hw3) hn hm hn' hm').mono ?_
    rintro e w4 ⟨g4, k4, rfl, hg4, hk4, ho4, ho4', hn4⟩
    have bA4 := (bA3.new hn4).alloc (.cells #[.int .i64 E, .slice (some ⟨g4, 0, none⟩) n n, .int .i64 T, .slice (some ⟨k4, 0, none⟩) m m] 27)
    have b4 := Blk.mk w4 w4.heap.size 27 #[.int .i64 E, .slice (some ⟨g4, 0, none⟩) n n, .int .i64 T, .slice (some ⟨k4, 0, none⟩) m m] rfl
    have hw4 := (hw3.trans hn4).alloc (.cells #[.int .i64 E, .slice (some ⟨g4, 0, none⟩) n n, .int .i64 T, .slice (some ⟨k4, 0, none⟩) m m] 27)
    have hoA := own_new ho4 ((New.refl _).alloc (.cells #[.int .i64 E, .slice (some ⟨g4, 0, none⟩) n n, .int .i64 T, .slice (some ⟨k4, 0, none⟩) m m] 27))
    have hoB := own_new ho4' ((New.refl _).alloc (.cells #[.int .i64 E, .slice (some ⟨g4, 0, none⟩) n n, .int .i64 T, .slice (some ⟨k4, 0, none⟩) m m] 27))
    have cB := b4.cells
    clear bA3 cA hn4 ho4 ho4'
    go_wp2_with fail
    refine (implWF E T _ _ n n m m _ hn' hm').mono ?_
    rintro e w5 ⟨rfl, hn5⟩
    have bA5 := bA4.new hn5
    have b5 := b4.new hn5
    have hw5 := hw4.trans hn5
    have hx5 := (BsAt.of_own hoA hz).new hn5
    have hy5 := (BsAt.of_own hoB hy).new hn5
    have hff : (wF E T n m != wF E T n m) = false := by simp
    clear cB bA4 b4 hn5 hoA hoB
    have cA := bA5.cells
    have cB := b5.cells
    have cAd := (bA5.new ((New.refl _).drew)).cells
    have cBd := (b5.new ((New.refl _).drew)).cells
    go_wp2_with fail
    go_region_held3 (fun W => (∀ j, W.cell? ⟨w.heap.size, j, none⟩ = (#[.int .i64 E, .slice a n c, .int .i64 T, .slice b m d] : Array Value)[j]?) ∧ (∀ j, W.cell? ⟨w4.heap.size, j, none⟩ = (#[.int .i64 E, .slice (some ⟨g4, 0, none⟩) n n, .int .i64 T, .slice (some ⟨k4, 0, none⟩) m m] : Array Value)[j]?)) (first | exact ⟨cA, cB⟩ | exact ⟨cAd, cBd⟩ | exact ⟨cA7, cB7⟩ | exact ⟨cA8, cB8⟩)
      (first
        | (go_at_call 7; refine (toW_any E T a b n c m d zs ys _ ?_ ?_ hn hm hn' hm').mono ?_; exact (h.new hw5).new ((New.refl _).drew); exact (k.new hw5).new ((New.refl _).drew); rintro e w7 ⟨g7, k7, rfl, hg7, hk7, ho7, ho7', hn7⟩; have n7 : New w5 w7 := ((New.refl _).drew).trans hn7; have cA7 := (bA5.new n7).cells; have cB7 := (b5.new n7).cells)
        | (go_at_call 9; refine (eqW_any E T _ _ _ _ n n m m n m zs ys _ (hx5.new n7) (hy5.new n7) (BsAt.of_own ho7 hz) (BsAt.of_own ho7' hy) hn hm hn' hm').mono ?_; rintro e w8 ⟨rfl, hn8⟩; have n8 := n7.trans hn8; have cA8 := (bA5.new n8).cells; have cB8 := (b5.new n8).cells))
    all_goals
      clear cA cB cAd cBd cA7 cB7 cA8 cB8
      go_wp2
      go_ret
      exact ⟨rfl, hw5.trans n8⟩

set_option maxRecDepth 100000 in
theorem awf_lifted (os : Os) (started : os.Started) (H : Type) (enc : TypeId × Value → H) :
    ReturnsInHanded {} Try.checked os 3 .any (Rows.fnExactWireFaultSpec.pre6 enc Try.prog Try.f3 Rows.fnExactWireFaultRow.domain false) (Rows.fnExactWireFaultSpec.post enc Try.prog Try.f3 false true false false) := by
  refine returnsInHanded_of_change (C := Try.checked) own started (by kernel_rfl) Try.func3
    (ChangeSpec.witness6 (enc := enc) (C := Try.checked) false ⟨#[], #[.agg #[.int .i64 0, .slice none 0 0, .int .i64 0, .slice none 0 0]], []⟩ 8 (by kernel_rfl) (by kernel_rfl) (by kernel_rfl) (by kernel_rfl)) ?_
  intro W base args ds gs before hval0 hW hcnd _
  have hval : ∀ (j : Nat) t v, Try.f3.params[j]? = some t → args[j]? = some v → Value.okWide Try.prog W .any base t v := hval0
  have hW' := hW
  obtain ⟨p, q, hA0, hV, rfl, hfz, hnd⟩ := hW
  have hA : DataW.TrodAll enc Try.prog W 0 (fun _ => true) true Try.f3.params.toList args.toList ds p := hA0
  rw [Try.params3] at hA hval
  obtain ⟨v0, vs0, d0, ds0, p0, q0, hargs, rfl, rfl, h0, r0⟩ := trodAll_cons hA
  obtain ⟨rfl, rfl, rfl⟩ := trodAll_nil r0
  obtain rfl : args = #[v0] := by cases args; simp_all
  obtain ⟨rfl, rfl⟩ := trodVars_none hV
  have k0 := h0
  have lt0 : ∀ x ∈ p0, x.block < W.heap.size := by obtain ⟨m, hm⟩ := k0; exact DataW.trod_lt m _ _ _ hm
  obtain ⟨E0, T0, a0, b0, n0, c0, m0, d0', z0, y0, rfl, -, -, h1, h2, h3, h4, h5, h6⟩ := open_wire (hval 0 24 v0 rfl rfl) h0
  clear hA0 hval0
  refine (awf_walk E0 T0 a0 b0 n0 c0 m0 d0' z0 y0 W h1 h2 h3 h4 h5 h6).mono fun e W' ⟨he, new⟩ => ?_
  have bel := new.below
  subst he
  exact ⟨_, rfl, _, _, _, [], _, [], hW', trodAll_mk1 (shut_bool Try.underlying4 _), (trodAll_cons_mk (Below.trod laidOut (by kernel_rfl) (of_decide_eq_true (by kernel_rfl)) k0 bel lt0) trodAll_mk0), rfl, bel.frame _, fun h => by cases h⟩

theorem awf_holds : Rows.FnExactWireFaultSaid :=
  OpenClaim.holds_of_wide 3 Try.f3 rfl rfl rfl rfl rfl rfl rfl ⟨rfl, rfl, rfl, rfl, rfl⟩ rfl rfl rfl rfl rfl (by kernel_rfl) Try.func3 (by kernel_rfl)
    (of_decide_eq_true (by kernel_rfl)) (by unfold Func.isWrapper; first | (rw [if_pos (by decide +kernel)]; kernel_rfl) | (rw [if_neg (by decide +kernel)]; exact ⟨rfl, rfl⟩))
    (fun os started H enc _ => awf_lifted os started H enc)

end Go.Proofs.Ytonmdodbhdmmbaa
