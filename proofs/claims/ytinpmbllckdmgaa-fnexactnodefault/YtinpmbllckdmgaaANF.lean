/- What is proved here: for every node the law on NodeFault returns true, and the node reads as it did. No condition. -/
import Derived.Test.YtinpmbllckdmgaaK12Ng
import Derived.Deep.RegionHeld3
namespace Go.Proofs.Ytinpmbllckdmgaa
open Go.ChangeShapes Go.WideShapes Go.ChangeAt Go.RowKit
set_option linter.unusedVariables false
set_option linter.unusedSimpArgs false

set_option maxHeartbeats 3200000 in
theorem anf_walk (id : Int) (up : Bool) (ro ep su ma ot co : Int) (A : Option Addr) (n c : Nat) (V : List EkV) (w : World) (h : EkCame w A V) (hn : V.length = n) (hm : n ≤ maxLen) :
    Calls Try.prog 3 #[.agg #[.int .i64 id, .bool up, .int .i64 ro, .int .i64 ep, .slice A n c, .int .i64 su, .int .i64 ma, .int .i64 ot, .int .i64 co]] w fun e w' => e = .returned (.bool true) ∧ New w w' := by
  have hw := (New.refl w).alloc (.cells #[.int .i64 id, .bool up, .int .i64 ro, .int .i64 ep, .slice A n c, .int .i64 su, .int .i64 ma, .int .i64 ot, .int .i64 co] 24)
  have bA := Blk.mk w w.heap.size 24 #[.int .i64 id, .bool up, .int .i64 ro, .int .i64 ep, .slice A n c, .int .i64 su, .int .i64 ma, .int .i64 ot, .int .i64 co] rfl
  go_enter Try.func3, Try.ntmps3
  go_wp2_with fail
  refine (szNd_any id up ro ep su ma ot co A n c V _ (h.new hw) hn hm).mono ?_
  rintro e w1 ⟨⟨z, rfl, hz⟩, hn1⟩
  have hw1 := hw.trans hn1
  have bA1 := bA.new hn1
  clear hw bA hn1
  by_cases hz0 : z < 0
  · go_wp2
    go_ret
    exact ⟨rfl, hw1⟩
  have hT : totK V ≤ 1048576 := by rcases hz with hz | hz; (exfalso; omega); exact hz.2.2
  have hl := totK_len V
  have HNm : Hid (n ≤ 2097152) := by unfold Hid; omega
  clear hz hl
  have cA := bA1.cells
  go_wp2_with fail
  refine (toNd_any id up ro ep su ma ot co A n c V _ (h.new hw1) hn hT).mono ?_
  rintro e w2 ⟨g2, V2, rfl, hV2, ho2, hn2⟩
  have bA2 := bA1.new hn2
  have hw2 := hw1.trans hn2
  clear cA bA1
  go_wp2_with fail
  refine (specNF id up ro ep su ma ot co _ n n V2 _ ho2.lg.1 ho2.lg.2 HNm.out).mono ?_
  rintro e w3 ⟨rfl, hn3⟩
  rw [hV2]
  have bA3 := bA2.new hn3
  have hw3 := hw2.trans hn3
  have cA := bA3.cells
  clear bA2 hn2 hn3 ho2
  go_wp2_with fail
  refine (toNd_any id up ro ep su ma ot co A n c V _ (h.new hw3) hn hT).mono ?_
  rintro e w4 ⟨g4, V4, rfl, hV4, ho4, hn4⟩
  have al4 := (New.refl w4).alloc (.cells #[.int .i64 id, .bool up, .int .i64 ro, .int .i64 ep, .slice (some ⟨g4, 0, none⟩) n n, .int .i64 su, .int .i64 ma, .int .i64 ot, .int .i64 co] 29)
  have bA4 := (bA3.new hn4).new al4
  have b4 := Blk.mk w4 w4.heap.size 29 #[.int .i64 id, .bool up, .int .i64 ro, .int .i64 ep, .slice (some ⟨g4, 0, none⟩) n n, .int .i64 su, .int .i64 ma, .int .i64 ot, .int .i64 co] rfl
  have o4 := ho4.new al4
  have hw4 := (hw3.trans hn4).trans al4
  have cB := b4.cells
  clear cA bA3 hn4 ho4
  go_wp2_with fail
  refine (implNF id up ro ep su ma ot co _ n n V4 _ o4.lg.1 o4.lg.2 HNm.out).mono ?_
  rintro e w5 ⟨rfl, hn5⟩
  rw [hV4]
  have bA5 := bA4.new hn5
  have b45 := b4.new hn5
  have hx5 := o4.lg.1.new hn5
  have hw5 := hw4.trans hn5
  have hl4 := o4.lg.2
  clear bA4 b4 cB hn5 o4 al4
  generalize nF id up ro ep su ma ot co n (V.map EkV.r) = f
  have hff : (f != f) = false := by simp
  have cA := bA5.cells
  have cB := b45.cells
  have cAd := (bA5.new ((New.refl _).drew)).cells
  have cBd := (b45.new ((New.refl _).drew)).cells
  go_wp2_with fail
  go_region_held3 (fun W => (∀ j, W.cell? ⟨w.heap.size, j, none⟩ = (#[.int .i64 id, .bool up, .int .i64 ro, .int .i64 ep, .slice A n c, .int .i64 su, .int .i64 ma, .int .i64 ot, .int .i64 co] : Array Value)[j]?) ∧ (∀ j, W.cell? ⟨w4.heap.size, j, none⟩ = (#[.int .i64 id, .bool up, .int .i64 ro, .int .i64 ep, .slice (some ⟨g4, 0, none⟩) n n, .int .i64 su, .int .i64 ma, .int .i64 ot, .int .i64 co] : Array Value)[j]?)) (first | exact ⟨cA, cB⟩ | exact ⟨cAd, cBd⟩ | exact ⟨cA7, cB7⟩ | exact ⟨cA8, cB8⟩)
    (first
      | (go_at_call 15; refine (toNd_any id up ro ep su ma ot co A n c V _ ?_ hn hT).mono ?_; exact (h.new hw5).new ((New.refl _).drew); rintro e w7 ⟨g7, V7, rfl, hV7, ho7, hn7⟩; have n7 : New w5 w7 := ((New.refl _).drew).trans hn7; have cA7 := (bA5.new n7).cells; have cB7 := (b45.new n7).cells)
      | (go_at_call 17; refine (eqNd_any id up ro ep su ma ot co _ _ n n n V4 V7 _ (hx5.new n7) ho7.lg.1 (hV4.trans hV7.symm) hl4 HNm.out).mono ?_; rintro e w8 ⟨rfl, hn8⟩; have n8 := n7.trans hn8; have cA8 := (bA5.new n8).cells; have cB8 := (b45.new n8).cells))
  go_wp2
  go_ret
  exact ⟨rfl, hw5.trans n8⟩

set_option maxRecDepth 100000 in
theorem anf_lifted (os : Os) (started : os.Started) (H : Type) (enc : TypeId × Value → H) :
    ReturnsInHanded {} Try.checked os 3 .any (Rows.fnExactNodeFaultSpec.pre6 enc Try.prog Try.f3 Rows.fnExactNodeFaultRow.domain false) (Rows.fnExactNodeFaultSpec.post enc Try.prog Try.f3 false true false false) := by
  refine returnsInHanded_of_change (C := Try.checked) own started (by kernel_rfl) Try.func3
    (ChangeSpec.witness6 (enc := enc) (C := Try.checked) false ⟨#[], #[.agg #[.int .i64 0, .bool false, .int .i64 0, .int .i64 0, .slice none 0 0, .int .i64 0, .int .i64 0, .int .i64 0, .int .i64 0]], []⟩ 8 (by kernel_rfl) (by kernel_rfl) (by kernel_rfl) (by kernel_rfl)) ?_
  intro W base args ds gs before hval0 hW hcnd _
  have hval : ∀ (j : Nat) t v, Try.f3.params[j]? = some t → args[j]? = some v → Value.okWide Try.prog W .any base t v := hval0
  have hW' := hW
  obtain ⟨p, q, hA0, hV, rfl, hfz, hnd⟩ := hW
  have hA : DataW.TrodAll enc Try.prog W 0 (fun _ => true) true Try.f3.params.toList args.toList ds p := hA0
  rw [Try.params3] at hA hval
  obtain ⟨v0, vs0, d0, ds0, p0, q0, hargs0, rfl, rfl, h0, r0⟩ := trodAll_cons hA
  obtain ⟨rfl, rfl, rfl⟩ := trodAll_nil r0
  obtain rfl : args = #[v0] := by cases args; simp_all
  obtain ⟨rfl, rfl⟩ := trodVars_none hV
  have k0 := h0
  have lt0 : ∀ x ∈ p0, x.block < W.heap.size := by obtain ⟨m, hm⟩ := k0; exact DataW.trod_lt m _ _ _ hm
  obtain ⟨id0, up0, ro0, ep0, su0, ma0, ot0, co0, A0, n0, c0, V0, rfl, hV0, hl0, hm0, b1, b2, b3, b4, b5, b6, b7⟩ := open_node (hval 0 24 v0 rfl rfl) h0
  clear hA0 hval0
  refine (anf_walk id0 up0 ro0 ep0 su0 ma0 ot0 co0 A0 n0 c0 V0 W hV0 hl0 hm0).mono fun e W' ⟨he, new⟩ => ?_
  have bel := new.below
  subst he
  exact ⟨_, rfl, _, _, _, [], _, [], hW', trodAll_mk1 (shut_bool Try.underlying4 _), (trodAll_cons_mk (Below.trod laidOut (by kernel_rfl) (of_decide_eq_true (by kernel_rfl)) k0 bel lt0) trodAll_mk0), rfl, bel.frame _, fun h => by cases h⟩

theorem anf_holds : Rows.FnExactNodeFaultSaid :=
  OpenClaim.holds_of_wide 3 Try.f3 rfl rfl rfl rfl rfl rfl rfl ⟨rfl, rfl, rfl, rfl, rfl⟩ rfl rfl rfl rfl rfl (by kernel_rfl) Try.func3 (by kernel_rfl)
    (of_decide_eq_true (by kernel_rfl)) (by unfold Func.isWrapper; first | (rw [if_pos (by decide +kernel)]; kernel_rfl) | (rw [if_neg (by decide +kernel)]; exact ⟨rfl, rfl⟩))
    (fun os started H enc _ => anf_lifted os started H enc)

end Go.Proofs.Ytinpmbllckdmgaa
