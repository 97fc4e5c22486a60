/- What is proved here: for every attributes the law on AttrsText returns true, and the attributes read as they did. The three tables of the library that the row lists lie as the program's text lays them (the card ties them to it). -/
import Derived.Test.YtlebalmlcaabkaaDoorAtOpen
import Derived.Test.YtlebalmlcaabkaaDoorSpAt
import Derived.Test.YtlebalmlcaabkaaDoorTie
import Derived.Test.YtlebalmlcaabkaaDoorCards
import Derived.Deep.RegionHeld3
import Derived.LaidMore
import Derived.Lay
import Derived.LaidSub
import Derived.Lib.LaidTab
import Derived.SevenTiedAt
import Derived.Stop.Joined
namespace Go.Proofs.YtlebalmlcaabkaaDoor
open Go.ChangeShapes Go.WideShapes Go.ChangeAt Go.RowKit Go.Sort
set_option linter.unusedVariables false

theorem eqTx_any (c : Int) (s : ByteArray) (w : World) : Calls Tryd.prog 8 #[.agg #[.int .i64 c, .string s], .agg #[.int .i64 c, .string s]] w fun e w' => e = .returned (.bool true) ∧ New w w' := by
  have hx : (c != c) = false := by simp
  go_enter Tryd.func8, Tryd.ntmps8
  go_wp2
  go_ret
  exact ⟨rfl, ((New.refl _).alloc _).alloc _⟩

set_option maxHeartbeats 3200000 in
theorem atx_walk (o nx md lc : Int) (a : Option Addr) (n c : Nat) (xs : List Int) (w : World) (h : NsAt w a xs) (hn : xs.length = n) (hm : n ≤ maxLen) (ht : Tab w) :
    Calls Tryd.prog 3 #[.agg #[.int .i64 o, .slice a n c, .int .i64 nx, .int .i64 md, .int .i64 lc]] w fun e w' => e = .returned (.bool true) ∧ New w w' := by
  have hw := (New.refl w).alloc (.cells #[.int .i64 o, .slice a n c, .int .i64 nx, .int .i64 md, .int .i64 lc] 24)
  by_cases hbig : 1048576 < n
  · go_enter Tryd.func3, Tryd.ntmps3
    go_wp2_with fail
    refine (szAt_big o nx md lc a n c 1048576 _ (Nat.le_refl _) hm hbig).mono ?_
    rintro e w1 ⟨rfl, hn1⟩
    go_wp2
    go_ret
    exact ⟨rfl, hw.trans hn1⟩
  · have hm' : n ≤ 1048576 := by omega
    have hbd : Hid (∀ z ∈ xs, In6 z) := h.bd
    have HN : Hid (xs.length = n) := hn
    clear hm hn
    obtain ⟨q, hq⟩ : ∃ q, (tat o xs nx md lc).1 = q := ⟨_, rfl⟩
    obtain ⟨Z, hZ⟩ : ∃ Z : ByteArray, (⟨(tat o xs nx md lc).2.toArray⟩ : ByteArray) = Z := ⟨_, rfl⟩
    have HQ : Hid ((tat o xs nx md lc).1 = q) := hq
    have HZ : Hid ((⟨(tat o xs nx md lc).2.toArray⟩ : ByteArray) = Z) := hZ
    clear hq hZ
    have bA := Blk.mk w w.heap.size 24 #[.int .i64 o, .slice a n c, .int .i64 nx, .int .i64 md, .int .i64 lc] rfl
    go_enter Tryd.func3, Tryd.ntmps3
    go_wp2_with fail
    refine (szAt_ok o nx md lc a n c 1048576 _ (Nat.le_refl _) hm').mono ?_
    rintro e w1 ⟨rfl, hn1⟩
    have bA1 := bA.new hn1
    have cA := bA1.cells
    have hw1 := hw.trans hn1
    clear bA hn1 hw
    go_wp2_with fail
    refine (toAt_any o nx md lc a n c xs _ (h.new hw1) HN.out hm').mono ?_
    rintro e w2 ⟨g2, rfl, hg2, ho2, hn2⟩
    have bA2 := bA1.new hn2
    have hw2 := hw1.trans hn2
    clear cA bA1 hn2
    go_wp2_with fail
    refine (specAT o nx md lc _ n n xs _ (ho2.ns hbd.out) HN.out hm').mono ?_
    rintro e w3 ⟨rfl, hn3⟩
    rw [HQ.out, HZ.out]
    have hal3 := (New.refl w3).alloc (.cells #[.int .i64 q, .string Z] 27)
    have bA3 := (bA2.new hn3).new hal3
    have b3 := Blk.mk w3 w3.heap.size 27 #[.int .i64 q, .string Z] rfl
    have hw3 := (hw2.trans hn3).trans hal3
    have cA := bA3.cells
    clear bA2 hn3 ho2 hg2
    go_wp2_with fail
    refine (toAt_any o nx md lc a n c xs _ (h.new hw3) HN.out hm').mono ?_
    rintro e w4 ⟨g4, rfl, hg4, ho4, hn4⟩
    have hal4 := (New.refl w4).alloc (.cells #[.int .i64 o, .slice (some ⟨g4, 0, none⟩) n n, .int .i64 nx, .int .i64 md, .int .i64 lc] 29)
    have bA4 := (bA3.new hn4).new hal4
    have b34 := (b3.new hn4).new hal4
    have b4 := Blk.mk w4 w4.heap.size 29 #[.int .i64 o, .slice (some ⟨g4, 0, none⟩) n n, .int .i64 nx, .int .i64 md, .int .i64 lc] rfl
    have hw4 := (hw3.trans hn4).trans hal4
    have ho4' := ho4.new hal4
    have cB := b4.cells
    clear bA3 b3 cA hn4 ho4 hg4
    go_wp2_with fail
    refine (implAT o nx md lc _ n n xs _ (ho4'.ns hbd.out) HN.out hm' (ht.new hw4)).mono ?_
    rintro e w5 ⟨rfl, hn5⟩
    rw [HQ.out, HZ.out]
    have hal5 := (New.refl w5).alloc (.cells #[.int .i64 q, .string Z] 27)
    have hnn := hn5.trans hal5
    have bA5 := bA4.new hnn
    have b35 := b34.new hnn
    have b45 := b4.new hnn
    have hw5 := hw4.trans hnn
    have ho5 := ho4'.new hnn
    have c3 := b35.cells
    clear bA4 b34 b4 cB hn5 ho4' hnn hal3 hal4 hal5
    go_wp2_with fail
    refine (eqTx_any _ _ _).mono ?_
    rintro e w6 ⟨rfl, hn6⟩
    have bA6 := bA5.new hn6
    have b46 := b45.new hn6
    have hw6 := hw5.trans hn6
    have ho6 := ho5.new hn6
    clear bA5 b35 b45 c3 hn6 ho5
    have cA := bA6.cells
    have cB := b46.cells
    go_wp2_with fail
    go_region_held3 (fun W => (∀ j, W.cell? ⟨w.heap.size, j, none⟩ = #[Value.int .i64 o, .slice a n c, .int .i64 nx, .int .i64 md, .int .i64 lc][j]?) ∧ (∀ j, W.cell? ⟨w4.heap.size, j, none⟩ = #[Value.int .i64 o, .slice (some ⟨g4, 0, none⟩) n n, .int .i64 nx, .int .i64 md, .int .i64 lc][j]?)) (first | exact ⟨cA, cB⟩ | exact ⟨cA7, cB7⟩ | exact ⟨cA8, cB8⟩)
      (first
        | (go_at_call 6; refine (toAt_any o nx md lc a n c xs _ ?_ HN.out hm').mono ?_; exact (h.new hw6).new ((New.refl _).drew); rintro e w7 ⟨g7, rfl, hg7, ho7, hn7⟩; have cA7 := (bA6.new (((New.refl _).drew).trans hn7)).cells; have cB7 := (b46.new (((New.refl _).drew).trans hn7)).cells)
        | (go_at_call 9; refine (eqAt_any o nx md lc _ _ n n n xs _ ?_ ?_ HN.out hm').mono ?_; exact (ho6.ns hbd.out).new (((New.refl _).drew).trans hn7); exact ho7.ns hbd.out; rintro e w8 ⟨rfl, hn8⟩; have cA8 := (bA6.new ((((New.refl _).drew).trans hn7).trans hn8)).cells; have cB8 := (b46.new ((((New.refl _).drew).trans hn7).trans hn8)).cells))
    have hn68 : New w6 w8 := (((New.refl _).drew).trans hn7).trans hn8
    go_wp2
    go_ret
    exact ⟨rfl, hw6.trans hn68⟩

theorem laid_tab : (Rows.laid_internal_strconv_uint64pow10 : DataW Unit) = Lib.tabData .u64 Lib.pow10Tab := by kernel_rfl

theorem tab_of_laid {W : World} (h : laidMetH Tryd.prog Rows.fnExactAttrsTextRow.laid W) : Tab W := by
  rw [MakeChecks.laidMetH_plain _ _ _ (by kernel_rfl)] at h
  have h2 : laidMet Tryd.prog [("internal/strconv.uint64pow10", Rows.laid_internal_strconv_uint64pow10)] W := h.filter (fun x => x.1 == "internal/strconv.uint64pow10")
  rw [laid_tab] at h2
  exact Lib.tabIs_of_head Tryd.gPow (by kernel_rfl) Tryd.underlying66 Tryd.underlying58 (by kernel_rfl) (by kernel_rfl) h2

set_option maxRecDepth 100000 in
theorem atx_lifted (os : Os) (started : os.Started) (H : Type) (enc : TypeId × Value → H) :
    ReturnsInHanded {} Tryd.checked os 3 .any (fun w args => (Rows.fnExactAttrsTextSpec.pre enc Tryd.prog Tryd.f3 Rows.fnExactAttrsTextRow.domain false w args ∧ laidMetH Tryd.prog Rows.fnExactAttrsTextRow.laid w) ∧ sizedMet enc Tryd.prog Tryd.f3 (OpenSpec.ofChange Rows.fnExactAttrsTextSpec) false w args)
      (Rows.fnExactAttrsTextSpec.post enc Tryd.prog Tryd.f3 false true false false) := by
  refine returnsInHanded_of_change_and (C := Tryd.checked) (X := fun w _ => laidMetH Tryd.prog Rows.fnExactAttrsTextRow.laid w) (fun _ _ _ hh h => h.of_heap hh) own started (by kernel_rfl) Tryd.func3
    (ChangeSpec.witness_shaped (enc := enc) (C := Tryd.checked) (os := os) (X := fun w _ => laidMetH Tryd.prog Rows.fnExactAttrsTextRow.laid w) false (World.laidAll Tryd.prog os Rows.fnExactAttrsTextRow.laid) #[.agg #[.int .i64 0, .slice none 0 0, .int .i64 0, .int .i64 0, .int .i64 0]] 8 (World.laidAll_os _ _ _)
      (World.shaped_of_ZipB (by kernel_rfl) (by kernel_rfl)) (by kernel_rfl) (by kernel_rfl) (by kernel_rfl)
      (by rw [MakeChecks.laidMetH_plain _ _ _ (by kernel_rfl)]; exact laidMet_laidAll _ (by kernel_rfl) (by kernel_rfl))) ?_
  intro W base args ds gs before hval0 hW hcnd _ hL _
  have hval : ∀ (j : Nat) t v, Tryd.f3.params[j]? = some t → args[j]? = some v → Value.okWide Tryd.prog W .any base t v := hval0
  have hW' := hW
  obtain ⟨p, q, hA0, hV, rfl, hfz, hnd⟩ := hW
  have hA : DataW.TrodAll enc Tryd.prog W 0 (fun _ => true) true Tryd.f3.params.toList args.toList ds p := hA0
  rw [Tryd.params3] at hA hval
  obtain ⟨v0, vs0, d0, ds0, p0, q0, hargs, rfl, rfl, h0, r0⟩ := trodAll_cons hA
  obtain ⟨rfl, rfl, rfl⟩ := trodAll_nil r0
  obtain rfl : args = #[v0] := by cases args; simp_all
  obtain ⟨rfl, rfl⟩ := trodVars_none hV
  have k0 := h0
  have lt0 : ∀ x ∈ p0, x.block < W.heap.size := by obtain ⟨m, hm⟩ := k0; exact DataW.trod_lt m _ _ _ hm
  obtain ⟨o0, nx0, md0, lc0, a0, n0, c0, x0, rfl, b0, e0, m0, io0, in0, im0, il0⟩ := open_attrs (hval 0 24 v0 rfl rfl) h0
  clear hA0 hval0
  refine (atx_walk o0 nx0 md0 lc0 a0 n0 c0 x0 W b0 e0 m0 (tab_of_laid hL)).mono fun e W' ⟨he, new⟩ => ?_
  have bel := new.below
  subst he
  exact ⟨_, rfl, _, _, _, [], _, [], hW', trodAll_mk1 (shut_bool Tryd.underlying4 _), (trodAll_cons_mk (Below.trod laidOut (by kernel_rfl) (of_decide_eq_true (by kernel_rfl)) k0 bel lt0) trodAll_mk0), rfl, bel.frame _, fun h => by cases h⟩

theorem atx_row : Rows.FnExactAttrsTextSaid :=
  OpenClaim.holds_of_wide 3 Tryd.f3 rfl rfl rfl rfl rfl rfl rfl ⟨rfl, rfl, rfl, rfl, rfl⟩ rfl rfl rfl rfl rfl (by kernel_rfl) Tryd.func3 (by kernel_rfl)
    (of_decide_eq_true (by kernel_rfl)) (by unfold Func.isWrapper; first | (rw [if_pos (by decide +kernel)]; kernel_rfl) | (rw [if_neg (by decide +kernel)]; exact ⟨rfl, rfl⟩))
    (fun os started H enc _ => atx_lifted os started H enc)

theorem atx_holds : Rows.FnExactAttrsTextCardSaid :=
  Claim7.holds_tied_plain_at .later [] [.data, .data, .data] true (true, Rows.fnExactAttrsTextCard.stood.harness.2) false
    atx_row (fun _ h => by cases h) (by kernel_rfl) (fun _ h => by cases h) fnExactAttrsText_row_tie rfl ⟨rfl, rfl⟩ (by kernel_rfl) rfl
    (fun f fn hf hfn => by
      obtain rfl : f = 3 := Option.some.inj ((show Tryd.prog.funcNamed Rows.fnExactAttrsTextRow.func = some 3 by kernel_rfl).symm.trans hf) |>.symm
      obtain rfl : fn = Tryd.f3 := (Option.some.inj (Tryd.func3.symm.trans hfn)).symm
      exact ⟨by kernel_rfl, fun j t ht => by
        rw [Tryd.params3] at ht
        have h3 : t = 24 := by
          rcases j with _ | j
          · simpa using ht.symm
          · simp at ht
        subst h3
        exact (show Tryd.prog.wantsStandIn 24 = false by kernel_rfl)⟩)
    (by kernel_rfl)

end Go.Proofs.YtlebalmlcaabkaaDoor
