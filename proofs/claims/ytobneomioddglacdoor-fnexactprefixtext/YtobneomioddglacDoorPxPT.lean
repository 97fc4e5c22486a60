/- What is proved here: for every prefix the law on PrefixText returns true, and the prefix reads as it did. The three tables of the library that the row lists lie as the program's text lays them (the card ties them to it). -/
import Derived.Test.YtobneomioddglacDoorTxFn
import Derived.Test.YtobneomioddglacDoorTie
import Derived.Test.YtobneomioddglacDoorCards
import Derived.LaidMore
import Derived.Lay
import Derived.LaidSub
import Derived.Lib.LaidTab
import Derived.SevenTiedAt
import Derived.Stop.Joined
namespace Go.Proofs.YtobneomioddglacDoor
open Go.ChangeShapes Go.WideShapes Go.ChangeAt Go.RowKit Go.Sort
set_option linter.unusedVariables false

theorem eqTx_any (c : Int) (s : ByteArray) (w : World) : Calls Tryd.prog 7 #[.agg #[.int .i64 c, .string s], .agg #[.int .i64 c, .string s]] w fun e w' => e = .returned (.bool true) ∧ New w w' := by
  have hx : (c != c) = false := by simp
  go_enter Tryd.func7, Tryd.ntmps7
  go_wp2
  go_ret
  exact ⟨rfl, ((New.refl _).alloc _).alloc _⟩

theorem ppt_walk (a l : Int) (w : World) (ht : Tab w) :
    Calls Tryd.prog 3 #[.agg #[.int .i64 a, .int .i64 l]] w fun e w' => e = .returned (.bool true) ∧ New w w' := by
  have hw := (New.refl w).alloc (.cells #[.int .i64 a, .int .i64 l] 23)
  have hB : Blk (w.alloc (.cells #[.int .i64 a, .int .i64 l] 23)) w.heap.size 23 #[.int .i64 a, .int .i64 l] := Blk.mk _ _ _ _ rfl
  go_enter Tryd.func3, Tryd.ntmps3
  go_wp2_with fail
  refine (toPrefix_any a l _).mono ?_
  rintro e w1 ⟨rfl, hn1⟩
  go_wp2_with fail
  refine (specTx a l _).mono ?_
  rintro e w2 ⟨rfl, hn2⟩
  have hn12 := hn1.trans hn2
  have hR : Blk (w2.alloc (.cells #[.int .i64 (tx a l).1, .string (tx a l).2] 25)) w2.heap.size 25 #[.int .i64 (tx a l).1, .string (tx a l).2] := Blk.mk _ _ _ _ rfl
  have hc := ((hB.new hn12).alloc (.cells #[.int .i64 (tx a l).1, .string (tx a l).2] 25)).cells
  go_wp2_with fail
  refine (toPrefix_any a l _).mono ?_
  rintro e w3 ⟨rfl, hn3⟩
  clear hc
  have hn13 := (hw.trans hn12).alloc (.cells #[.int .i64 (tx a l).1, .string (tx a l).2] 25)
  go_wp2_with fail
  refine (implTx a l _ (ht.new (hn13.trans hn3))).mono ?_
  rintro e w4 ⟨rfl, hn4⟩
  have hr := ((hR.new (hn3.trans hn4)).alloc (.cells #[.int .i64 (tx a l).1, .string (tx a l).2] 25)).cells
  go_wp2_with fail
  refine (eqTx_any _ _ _).mono ?_
  rintro e w5 ⟨rfl, hn5⟩
  go_wp2
  go_ret
  exact ⟨rfl, (((hn13.trans hn3).trans hn4).alloc _).trans hn5⟩

theorem laid_tab : (Rows.laid_internal_strconv_uint64pow10 : DataW Unit) = Lib.tabData .u64 Lib.pow10Tab := by kernel_rfl

theorem tab_of_laid {W : World} (h : laidMetH Tryd.prog Rows.fnExactPrefixTextRow.laid W) : Tab W := by
  rw [MakeChecks.laidMetH_plain _ _ _ (by kernel_rfl)] at h
  have h2 : laidMet Tryd.prog [("internal/strconv.uint64pow10", Rows.laid_internal_strconv_uint64pow10)] W := h.filter (fun x => x.1 == "internal/strconv.uint64pow10")
  rw [laid_tab] at h2
  exact Lib.tabIs_of_head Tryd.gPow (by kernel_rfl) Tryd.underlying51 Tryd.underlying44 (by kernel_rfl) (by kernel_rfl) h2

set_option maxRecDepth 100000 in
theorem ppt_lifted (os : Os) (started : os.Started) (H : Type) (enc : TypeId × Value → H) :
    ReturnsInHanded {} Tryd.checked os 3 .any (fun w args => (Rows.fnExactPrefixTextSpec.pre enc Tryd.prog Tryd.f3 Rows.fnExactPrefixTextRow.domain false w args ∧ laidMetH Tryd.prog Rows.fnExactPrefixTextRow.laid w) ∧ sizedMet enc Tryd.prog Tryd.f3 (OpenSpec.ofChange Rows.fnExactPrefixTextSpec) false w args)
      (Rows.fnExactPrefixTextSpec.post enc Tryd.prog Tryd.f3 false true false false) := by
  refine returnsInHanded_of_change_and (C := Tryd.checked) (X := fun w _ => laidMetH Tryd.prog Rows.fnExactPrefixTextRow.laid w) (fun _ _ _ hh h => h.of_heap hh) own started (by kernel_rfl) Tryd.func3
    (ChangeSpec.witness_shaped (enc := enc) (C := Tryd.checked) (os := os) (X := fun w _ => laidMetH Tryd.prog Rows.fnExactPrefixTextRow.laid w) false (World.laidAll Tryd.prog os Rows.fnExactPrefixTextRow.laid) #[.agg #[.int .i64 0, .int .i64 0]] 8 (World.laidAll_os _ _ _)
      (World.shaped_of_ZipB (by kernel_rfl) (by kernel_rfl)) (by kernel_rfl) (by kernel_rfl) (by kernel_rfl)
      (by rw [MakeChecks.laidMetH_plain _ _ _ (by kernel_rfl)]; exact laidMet_laidAll _ (by kernel_rfl) (by kernel_rfl))) ?_
  intro W base args ds gs before hval0 hW hcnd _ hL _
  have hval : ∀ (j : Nat) t v, Tryd.f3.params[j]? = some t → args[j]? = some v → Value.okWide Tryd.prog W .any base t v := hval0
  have hW' := hW
  obtain ⟨p, q, hA0, hV, rfl, hfz, hnd⟩ := hW
  have hA : DataW.TrodAll enc Tryd.prog W 0 (fun _ => true) true Tryd.f3.params.toList args.toList ds p := hA0
  rw [Tryd.params3] at hA hval
  obtain ⟨v0, vs0, d0, ds0, p0, q0, hargs, rfl, rfl, h0, r0⟩ := trodAll_cons hA
  obtain ⟨rfl, rfl, rfl⟩ := trodAll_nil r0
  obtain rfl : args = #[v0] := by cases args; simp_all
  obtain ⟨rfl, rfl⟩ := trodVars_none hV
  have k0 := h0
  have lt0 : ∀ x ∈ p0, x.block < W.heap.size := by obtain ⟨m, hm⟩ := k0; exact DataW.trod_lt m _ _ _ hm
  obtain ⟨a0, l0, rfl, wa0, wl0⟩ := open_prefix (hval 0 23 v0 rfl rfl) h0
  clear hA0 hval0
  refine (ppt_walk a0 l0 W (tab_of_laid hL)).mono fun e W' ⟨he, new⟩ => ?_
  have bel := new.below
  subst he
  exact ⟨_, rfl, _, _, _, [], _, [], hW', trodAll_mk1 (shut_bool Tryd.underlying4 _), (trodAll_cons_mk (Below.trod laidOut (by kernel_rfl) (of_decide_eq_true (by kernel_rfl)) k0 bel lt0) trodAll_mk0), rfl, bel.frame _, fun h => by cases h⟩

theorem ppt_row : Rows.FnExactPrefixTextSaid :=
  OpenClaim.holds_of_wide 3 Tryd.f3 rfl rfl rfl rfl rfl rfl rfl ⟨rfl, rfl, rfl, rfl, rfl⟩ rfl rfl rfl rfl rfl (by kernel_rfl) Tryd.func3 (by kernel_rfl)
    (of_decide_eq_true (by kernel_rfl)) (by unfold Func.isWrapper; first | (rw [if_pos (by decide +kernel)]; kernel_rfl) | (rw [if_neg (by decide +kernel)]; exact ⟨rfl, rfl⟩))
    (fun os started H enc _ => ppt_lifted os started H enc)

theorem ppt_holds : Rows.FnExactPrefixTextCardSaid :=
  Claim7.holds_tied_plain_at .later [] [.data, .data, .data] true (true, Rows.fnExactPrefixTextCard.stood.harness.2) false
    ppt_row (fun _ h => by cases h) (by kernel_rfl) (fun _ h => by cases h) fnExactPrefixText_row_tie rfl ⟨rfl, rfl⟩ (by kernel_rfl) rfl
    (fun f fn hf hfn => by
      obtain rfl : f = 3 := Option.some.inj ((show Tryd.prog.funcNamed Rows.fnExactPrefixTextRow.func = some 3 by kernel_rfl).symm.trans hf) |>.symm
      obtain rfl : fn = Tryd.f3 := (Option.some.inj (Tryd.func3.symm.trans hfn)).symm
      exact ⟨by kernel_rfl, fun j t ht => by
        rw [Tryd.params3] at ht
        have h3 : t = 23 := by
          rcases j with _ | j
          · simpa using ht.symm
          · simp at ht
        subst h3
        exact (show Tryd.prog.wantsStandIn 23 = false by kernel_rfl)⟩)
    (by kernel_rfl)

end Go.Proofs.YtobneomioddglacDoor
