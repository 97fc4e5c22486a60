/- What is proved here: for every clock the law on ClockFault returns true, and the clock reads as it did. No condition. -/
import Derived.Test.YtpbmbnckdmjdhaaC13Lw
import Derived.Deep.CutRange
namespace Go.Proofs.Ytpbmbnckdmjdhaa
open Go.ChangeShapes Go.WideShapes Go.ChangeAt Go.RowKit
set_option linter.unusedVariables false

set_option linter.unusedSimpArgs false
set_option maxRecDepth 100000

set_option maxHeartbeats 3200000 in
theorem aclf_walk (nw : Int) (a : Option Addr) (n c : Nat) (xs : List Int) (w : World) (h : NsAt w a xs) (hn : xs.length = n) (hm : n ≤ maxLen) :
    Calls Try.prog 6 #[.agg #[.int .i64 nw, .slice a n c]] w fun e w' => e = .returned (.bool true) ∧ New w w' := by
  have N0 : New w (w.alloc (.cells #[.int .i64 nw, .slice a n c] 49)) := (New.refl w).alloc _
  by_cases hbig : 1048576 < n
  case pos =>
    go_enter Try.func6, Try.ntmps6
    go_wp2_with fail
    refine (szCk_big nw a n c 1048576 _ (Nat.le_refl _) hm hbig).mono ?_
    rintro e w1 ⟨rfl, hn1⟩
    go_wp2
    go_ret
    exact ⟨rfl, N0.trans hn1⟩
  have hm' : n ≤ 1048576 := by omega
  have hbd : Hid (∀ z ∈ xs, In6 z) := h.bd
  have HN : Hid (xs.length = n) := hn
  obtain ⟨z, HZ⟩ : ∃ z, Hid (ckF nw xs = z) := ⟨_, rfl⟩
  have hzz : (z != z) = false := by simp
  clear hm hn hbig
  have bA0 := Blk.mk w w.heap.size 49 #[.int .i64 nw, .slice a n c] rfl
  go_enter Try.func6, Try.ntmps6
  go_wp2_with fail
  refine (szCk_ok nw a n c 1048576 _ (Nat.le_refl _) hm').mono ?_
  rintro e w1 ⟨rfl, hn1⟩
  have bA1 := bA0.new hn1
  have N1 := N0.trans hn1
  clear bA0 N0 hn1
  have cA := bA1.cells
  go_wp2_with fail
  refine (toCk_any nw a n c xs _ (h.new N1) HN.out hm').mono ?_
  rintro e w2 ⟨g2, rfl, hg2, ho2, hn2⟩
  have bA2 := bA1.new hn2
  have N2 := N1.trans hn2
  clear bA1 N1 cA
  go_wp2_with fail
  refine (specCkF_is nw _ n n xs z _ (ho2.ns hbd.out) HN.out hm' HZ.out).mono ?_
  rintro e w3 ⟨rfl, hn3⟩
  have bA3 := bA2.new hn3
  have N3 := N2.trans hn3
  clear bA2 N2 ho2 hg2 hn2
  have cA := bA3.cells
  go_wp2_with fail
  refine (toCk_any nw a n c xs _ (h.new N3) HN.out hm').mono ?_
  rintro e w5 ⟨g5, rfl, hg5, oX5, hn5⟩
  have bA5 := bA3.new hn5
  have N5 := N3.trans hn5
  clear bA3 N3 cA
  have hal := (New.refl w5).alloc (.cells #[.int .i64 nw, .slice (some ⟨g5, 0, none⟩) n n] 26)
  have bX6 := Blk.mk w5 w5.heap.size 26 #[.int .i64 nw, .slice (some ⟨g5, 0, none⟩) n n] rfl
  have bA6 := bA5.new hal
  have oX6 := oX5.new hal
  have N6 := N5.trans hal
  go_upto_region 7 with fail
  generalize w5.alloc (.cells #[.int .i64 nw, .slice (some ⟨g5, 0, none⟩) n n] 26) = w6 at *
  clear bA5 N5 oX5 hal hn5
  have cX := bX6.cells
  go_wp2_with fail
  refine (implCkF_is nw _ n n xs z _ (oX6.ns hbd.out) HN.out hm' HZ.out).mono ?_
  rintro e w7 ⟨rfl, hn7⟩
  have bA7 := bA6.new hn7
  have bX7 := bX6.new hn7
  have oX7 := oX6.new hn7
  have N7 := N6.trans hn7
  clear bA6 bX6 oX6 N6 cX hn7
  go_upto_region 10 with fail
  refine hw_start (n := 5) (S := fun X => New w7 X) rfl (by kernel_rfl) ((New.refl _).drew) (fun hH => ?_)
  refine' hw_take 0 (some 22) (.agg #[.int .i64 nw, .slice (some ⟨g5, 0, none⟩) n n]) rfl rfl (by kernel_rfl) (by kernel_rfl) (by kernel_rfl) (fun _ _ _ h => h) (by rfl) hH ?hz0 ?rz0
  case hz0 =>
    intro X hX
    exact run_load_blk 26 (.tmp 5) rfl w5.heap.size rfl #[.int .i64 nw, .slice (some ⟨g5, 0, none⟩) n n] _ (bX7.new hX) Try.underlying26 rfl (by kernel_rfl)
  simp only [Act.put, List.setIfInBounds_toArray, List.set_cons_zero, List.set_cons_succ]
  refine' hw_take 1 (some 23) (.agg #[.int .i64 nw, .slice a n c]) rfl rfl (by kernel_rfl) (by kernel_rfl) (by kernel_rfl) (fun _ _ _ h => h) (by rfl) hH ?hz1 ?rz1
  case hz1 =>
    intro X hX
    exact run_load_blk 49 (.tmp 1) rfl w.heap.size rfl #[.int .i64 nw, .slice a n c] _ (bA7.new hX) Try.underlying49 rfl (by kernel_rfl)
  simp only [Act.put, List.setIfInBounds_toArray, List.set_cons_zero, List.set_cons_succ]
  refine hw_call 2 (some 24) rfl rfl (by kernel_rfl) (by rfl) (fun K hK => ?_)
  go_simp
  refine (toCk_any nw a n c xs _ (h.new (N7.trans hH)) HN.out hm').mono ?_
  rintro e wt ⟨gt, rfl, hgt, ogt, hnt⟩
  go_simp
  have nt := hH.trans hnt
  refine hK.out _ _ nt (fun hH2 => ?_)
  simp only [Act.put, List.setIfInBounds_toArray, List.set_cons_zero, List.set_cons_succ]
  refine hw_call 3 (some 25) rfl rfl (by kernel_rfl) (by rfl) (fun K hK => ?_)
  go_simp
  refine (eqCk_any nw _ _ n n n xs _ ((oX7.new nt).ns hbd.out) (ogt.ns hbd.out) HN.out hm').mono ?_
  rintro e wu ⟨rfl, hnu⟩
  go_simp
  refine hK.out _ _ (nt.trans hnu) (fun hH3 => ?_)
  simp only [Act.put, List.setIfInBounds_toArray, List.set_cons_zero, List.set_cons_succ]
  refine' hw_take 4 (some 26) _ rfl rfl (by kernel_rfl) (by kernel_rfl) (by kernel_rfl) (fun _ _ _ h => h) (by rfl) hH3 ?hy1 ?rest1
  case hy1 =>
    intro X hX
    go_simp
    try rfl
  simp only [Act.put, List.setIfInBounds_toArray, List.set_cons_zero, List.set_cons_succ]
  refine wpAnyH_done (by kernel_rfl) ?_ _
  clear hH hH2 nt hnt hnu ogt hgt
  go_wp2
  go_ret
  exact ⟨rfl, N7.trans hH3⟩

set_option maxRecDepth 100000 in
theorem aclf_lifted (os : Os) (started : os.Started) (H : Type) (enc : TypeId × Value → H) :
    ReturnsInHanded {} Try.checked os 6 .any (Rows.fnExactClockFaultSpec.pre6 enc Try.prog Try.f6 Rows.fnExactClockFaultRow.domain false) (Rows.fnExactClockFaultSpec.post enc Try.prog Try.f6 false true false false) := by
  refine returnsInHanded_of_change (C := Try.checked) own started (by kernel_rfl) Try.func6
    (ChangeSpec.witness6 (enc := enc) (C := Try.checked) false ⟨#[], #[.agg #[.int .i64 0, .slice none 0 0]], []⟩ 8 (by kernel_rfl) (by kernel_rfl) (by kernel_rfl) (by kernel_rfl)) ?_
  intro W base args ds gs before hval0 hW hcnd _
  have hval : ∀ (j : Nat) t v, Try.f6.params[j]? = some t → args[j]? = some v → Value.okWide Try.prog W .any base t v := hval0
  have hW' := hW
  obtain ⟨p, q, hA0, hV, rfl, hfz, hnd⟩ := hW
  have hA : DataW.TrodAll enc Try.prog W 0 (fun _ => true) true Try.f6.params.toList args.toList ds p := hA0
  rw [Try.params6] at hA hval
  obtain ⟨v0, vs0, d0, ds0, p0, q0, hargs, rfl, rfl, h0, r0⟩ := trodAll_cons hA
  obtain ⟨rfl, rfl, rfl⟩ := trodAll_nil r0
  obtain rfl : args = #[v0] := by cases args; simp_all
  obtain ⟨rfl, rfl⟩ := trodVars_none hV
  have k0 := h0
  have lt0 : ∀ x ∈ p0, x.block < W.heap.size := by obtain ⟨m, hm⟩ := k0; exact DataW.trod_lt m _ _ _ hm
  obtain ⟨nw0, a0, m0, c0, xs0, rfl, wn0, ha0, hl0, hm0⟩ := open_clock (hval 0 49 v0 rfl rfl) h0
  clear hA0 hval0
  refine (aclf_walk nw0 a0 m0 c0 xs0 W ha0 hl0 hm0).mono fun e W' ⟨he, new⟩ => ?_
  have bel := new.below
  subst he
  exact ⟨_, rfl, _, _, _, [], _, [], hW', trodAll_mk1 (shut_bool Try.underlying4 _), (trodAll_cons_mk (Below.trod laidOut (by kernel_rfl) (of_decide_eq_true (by kernel_rfl)) k0 bel lt0) trodAll_mk0), rfl, bel.frame _, fun h => by cases h⟩

theorem aclf_holds : Rows.FnExactClockFaultSaid :=
  OpenClaim.holds_of_wide 6 Try.f6 rfl rfl rfl rfl rfl rfl rfl ⟨rfl, rfl, rfl, rfl, rfl⟩ rfl rfl rfl rfl rfl (by kernel_rfl) Try.func6 (by kernel_rfl)
    (of_decide_eq_true (by kernel_rfl)) (by unfold Func.isWrapper; first | (rw [if_pos (by decide +kernel)]; kernel_rfl) | (rw [if_neg (by decide +kernel)]; exact ⟨rfl, rfl⟩))
    (fun os started H enc _ => aclf_lifted os started H enc)

end Go.Proofs.Ytpbmbnckdmjdhaa
