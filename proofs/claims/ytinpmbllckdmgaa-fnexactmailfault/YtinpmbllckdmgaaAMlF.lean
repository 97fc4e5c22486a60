/- What is proved here: for every node and mail the law on MailFault returns true, and what came in reads as it did. No condition. -/
import Derived.Test.YtinpmbllckdmgaaK12Mw
import Derived.Test.YtinpmbllckdmgaaRwLib
import Derived.Deep.RegionHeld3
namespace Go.Proofs.Ytinpmbllckdmgaa
open Go.ChangeShapes Go.WideShapes Go.ChangeAt Go.RowKit
set_option linter.unusedVariables false
set_option linter.unusedSimpArgs false
set_option maxRecDepth 100000

set_option maxHeartbeats 6400000 in
theorem aml_walk (id : Int) (up : Bool) (ro ep su ma ot co : Int) (A : Option Addr) (n c : Nat) (V : List EkV) (kd tgt me at1 pr : Int) (has : Bool) (ee ki pe : Int) (a : Option Addr) (m c1 : Nat) (zs : List Int) (w : World) (h : EkCame w A V) (hn : V.length = n) (hm : n ≤ maxLen) (hb : BsAt w a zs) (hz : zs.length = m) (hml : m ≤ maxLen) :
    Calls Try.prog 4 #[.agg #[.int .i64 id, .bool up, .int .i64 ro, .int .i64 ep, .slice A n c, .int .i64 su, .int .i64 ma, .int .i64 ot, .int .i64 co], .agg #[.int .i64 kd, .int .i64 tgt, .int .i64 me, .int .i64 at1, .int .i64 pr, .bool has, .int .i64 ee, .int .i64 ki, .int .i64 pe, .slice a m c1]] w fun e w' => e = .returned (.bool true) ∧ New w w' := by
  have hw := ((New.refl w).alloc (.cells #[.int .i64 id, .bool up, .int .i64 ro, .int .i64 ep, .slice A n c, .int .i64 su, .int .i64 ma, .int .i64 ot, .int .i64 co] 24)).alloc (.cells #[.int .i64 kd, .int .i64 tgt, .int .i64 me, .int .i64 at1, .int .i64 pr, .bool has, .int .i64 ee, .int .i64 ki, .int .i64 pe, .slice a m c1] 39)
  have bA := (Blk.mk w w.heap.size 24 #[.int .i64 id, .bool up, .int .i64 ro, .int .i64 ep, .slice A n c, .int .i64 su, .int .i64 ma, .int .i64 ot, .int .i64 co] rfl).alloc (.cells #[.int .i64 kd, .int .i64 tgt, .int .i64 me, .int .i64 at1, .int .i64 pr, .bool has, .int .i64 ee, .int .i64 ki, .int .i64 pe, .slice a m c1] 39)
  have bB := Blk.mk (w.alloc (.cells #[.int .i64 id, .bool up, .int .i64 ro, .int .i64 ep, .slice A n c, .int .i64 su, .int .i64 ma, .int .i64 ot, .int .i64 co] 24)) (w.heap.size + 1) 39 #[.int .i64 kd, .int .i64 tgt, .int .i64 me, .int .i64 at1, .int .i64 pr, .bool has, .int .i64 ee, .int .i64 ki, .int .i64 pe, .slice a m c1] (by simp)
  have hzb := hb.lt
  go_enter Try.func4, Try.ntmps4
  go_wp2_with fail
  refine (szNd_any id up ro ep su ma ot co A n c V _ (h.new hw) hn hm).mono ?_
  rintro e w1 ⟨⟨z, rfl, hzz⟩, hn1⟩
  have hw1 := hw.trans hn1
  have bA1 := bA.new hn1
  have bB1 := bB.new hn1
  clear hw bA bB hn1
  by_cases hz0 : z < 0
  · go_wp2
    go_ret
    exact ⟨rfl, hw1⟩
  have hz3 : 0 ≤ z ∧ z ≤ 1048576 ∧ totK V ≤ 1048576 := by rcases hzz with hzz | hzz; (exfalso; omega); exact hzz
  obtain ⟨hz1, hz2, hT⟩ := hz3
  have hl := totK_len V
  have HNm : Hid (n ≤ 2097152) := by unfold Hid; omega
  clear hzz hl
  have cB := bB1.cells
  by_cases hmz : (m : Int) ≤ z
  case neg =>
    go_wp2_with fail
    refine (szMl_bigZ kd tgt me at1 pr has ee ki pe a m c1 z _ hz1 hz2 hml (by omega)).mono ?_
    rintro e w2 ⟨rfl, hn2⟩
    go_wp2
    go_ret
    exact ⟨rfl, hw1.trans hn2⟩
  have HM1 : Hid (m ≤ 1048576) := by unfold Hid; omega
  go_wp2_with fail
  refine (szMl_okZ kd tgt me at1 pr has ee ki pe a m c1 z _ hz1 hz2 hmz).mono ?_
  rintro e w2 ⟨rfl, hn2⟩
  have hw2 := hw1.trans hn2
  have bA2 := bA1.new hn2
  have bB2 := bB1.new hn2
  have hzm : ¬ z - (m : Int) < 0 := by omega
  clear hw1 bA1 bB1 hn2 cB
  obtain ⟨v, hv⟩ : ∃ v, mfF (nF id up ro ep su ma ot co n (V.map EkV.r)) (mlF id kd tgt me at1 pr has ee ki pe m) = v := ⟨_, rfl⟩
  have HV : Hid (mfF (nF id up ro ep su ma ot co n (V.map EkV.r)) (mlF id kd tgt me at1 pr has ee ki pe m) = v) := hv
  clear hv
  go_upto_region 8 with fail
  refine hw_start (n := 6) (S := fun X => New w2 X) rfl (by kernel_rfl) ((New.refl _).drew) (fun hH => ?_)
  refine' hw_take 0 (some 20) (.agg #[.int .i64 id, .bool up, .int .i64 ro, .int .i64 ep, .slice A n c, .int .i64 su, .int .i64 ma, .int .i64 ot, .int .i64 co]) rfl rfl (by kernel_rfl) (by kernel_rfl) (by kernel_rfl) (fun _ _ _ h => h) (by rfl) hH ?hyA ?restA
  case hyA =>
    intro X hX
    exact run_load_blk 24 (.tmp 2) rfl w.heap.size rfl #[.int .i64 id, .bool up, .int .i64 ro, .int .i64 ep, .slice A n c, .int .i64 su, .int .i64 ma, .int .i64 ot, .int .i64 co] _ (bA2.new hX) Try.underlying24 rfl (by kernel_rfl)
  simp only [Act.put, List.setIfInBounds_toArray, List.set_cons_zero, List.set_cons_succ]
  refine' hw_take 2 (some 22) (.agg #[.int .i64 kd, .int .i64 tgt, .int .i64 me, .int .i64 at1, .int .i64 pr, .bool has, .int .i64 ee, .int .i64 ki, .int .i64 pe, .slice a m c1]) rfl rfl (by kernel_rfl) (by kernel_rfl) (by kernel_rfl) (fun _ _ _ h => h) (by rfl) hH ?hyB ?restB
  case hyB =>
    intro X hX
    exact run_load_blk 39 (.tmp 3) rfl (w.heap.size + 1) rfl #[.int .i64 kd, .int .i64 tgt, .int .i64 me, .int .i64 at1, .int .i64 pr, .bool has, .int .i64 ee, .int .i64 ki, .int .i64 pe, .slice a m c1] _ (bB2.new hX) Try.underlying39 rfl (by kernel_rfl)
  simp only [Act.put, List.setIfInBounds_toArray, List.set_cons_zero, List.set_cons_succ]
  refine hw_call 1 (some 21) rfl rfl (by kernel_rfl) (by rfl) (fun K hK => ?_)
  go_simp
  refine (toNd_any id up ro ep su ma ot co A n c V _ (h.new (hw2.trans hH)) hn hT).mono ?_
  rintro e w3 ⟨g3, V3, rfl, hV3, ho3, hn3⟩
  have n3 := hH.trans hn3
  go_simp
  refine hK.out _ _ n3 (fun hH3 => ?_)
  simp only [Act.put, List.setIfInBounds_toArray, List.set_cons_zero, List.set_cons_succ]
  refine hw_call 3 (some 23) rfl rfl (by kernel_rfl) (by rfl) (fun K hK => ?_)
  go_simp
  refine (toMl_any kd tgt me at1 pr has ee ki pe a m c1 zs _ (hb.new (hw2.trans n3)) hz HM1.out).mono ?_
  rintro e w4 ⟨g4, rfl, -, -, hn4⟩
  have n4 := n3.trans hn4
  go_simp
  refine hK.out _ _ n4 (fun hH4 => ?_)
  simp only [Act.put, List.setIfInBounds_toArray, List.set_cons_zero, List.set_cons_succ]
  refine hw_call 4 (some 24) rfl rfl (by kernel_rfl) (by rfl) (fun K hK => ?_)
  go_simp
  refine (specMlF id up ro ep su ma ot co _ n n V3 kd tgt me at1 pr has ee ki pe _ m m _ (ho3.lg.1.new hn4) ho3.lg.2 HNm.out HM1.out v (by rw [hV3]; exact HV.out)).mono ?_
  rintro e w5 ⟨rfl, hn5⟩
  have n5 := n4.trans hn5
  go_simp
  refine hK.out _ _ n5 (fun hH5 => ?_)
  simp only [Act.put, List.setIfInBounds_toArray, List.set_cons_zero, List.set_cons_succ]
  refine' hw_take 5 (some 6) _ rfl rfl (by kernel_rfl) (by kernel_rfl) (by kernel_rfl) (fun _ _ _ h => h) (by rfl) hH5 ?hy1 ?rest1
  case hy1 =>
    intro X hX
    go_simp
    try rfl
  simp only [Act.put, List.setIfInBounds_toArray, List.set_cons_zero, List.set_cons_succ]
  refine wpAnyH_done (by kernel_rfl) ?_ _
  have hw5 := hw2.trans n5
  have bA5 := bA2.new n5
  have bB5 := bB2.new n5
  clear bA2 bB2 n3 n4 n5 hn3 hn4 hn5 ho3 hH hH3 hH4 hH5 hV3
  have cA := bA5.cells
  go_wp2_with fail
  refine (toNd_any id up ro ep su ma ot co A n c V _ (h.new hw5) hn hT).mono ?_
  rintro e w6 ⟨g6, V6, rfl, hV6, ho6, hn6⟩
  have al6 := (New.refl w6).alloc (.cells #[.int .i64 id, .bool up, .int .i64 ro, .int .i64 ep, .slice (some ⟨g6, 0, none⟩) n n, .int .i64 su, .int .i64 ma, .int .i64 ot, .int .i64 co] 29)
  have n6 := hn6.trans al6
  have bA6 := bA5.new n6
  have bB6 := bB5.new n6
  have b6 := Blk.mk w6 w6.heap.size 29 #[.int .i64 id, .bool up, .int .i64 ro, .int .i64 ep, .slice (some ⟨g6, 0, none⟩) n n, .int .i64 su, .int .i64 ma, .int .i64 ot, .int .i64 co] rfl
  have o6 := ho6.new al6
  have hw6 := hw5.trans n6
  clear cA bA5 bB5 hn6 ho6 n6 al6
  go_upto_region 10 with fail
  generalize w6.alloc (.cells #[.int .i64 id, .bool up, .int .i64 ro, .int .i64 ep, .slice (some ⟨g6, 0, none⟩) n n, .int .i64 su, .int .i64 ma, .int .i64 ot, .int .i64 co] 29) = w7 at *
  generalize hB6 : w6.heap.size = B6 at *
  have cB := bB6.cells
  go_wp2_with fail
  refine (toMl_any kd tgt me at1 pr has ee ki pe a m c1 zs _ (hb.new hw6) hz HM1.out).mono ?_
  rintro e w8 ⟨g8, rfl, -, ho8, hn8⟩
  have al8 := (New.refl w8).alloc (.cells #[.int .i64 kd, .int .i64 tgt, .int .i64 me, .int .i64 at1, .int .i64 pr, .bool has, .int .i64 ee, .int .i64 ki, .int .i64 pe, .slice (some ⟨g8, 0, none⟩) m m] 46)
  have n8 := hn8.trans al8
  have bA8 := bA6.new n8
  have bB8 := bB6.new n8
  have b68 := b6.new n8
  have b8 := Blk.mk w8 w8.heap.size 46 #[.int .i64 kd, .int .i64 tgt, .int .i64 me, .int .i64 at1, .int .i64 pr, .bool has, .int .i64 ee, .int .i64 ki, .int .i64 pe, .slice (some ⟨g8, 0, none⟩) m m] rfl
  have o68 := o6.new n8
  have o8 := own_new ho8 al8
  have hw8 := hw6.trans n8
  have l68 : B6 < w8.heap.size := (b6.new hn8).lt
  clear cB bA6 bB6 b6 o6 hn8 ho8 n8 al8
  go_upto_region 11 with fail
  generalize w8.alloc (.cells #[.int .i64 kd, .int .i64 tgt, .int .i64 me, .int .i64 at1, .int .i64 pr, .bool has, .int .i64 ee, .int .i64 ki, .int .i64 pe, .slice (some ⟨g8, 0, none⟩) m m] 46) = w9 at *
  generalize hB8 : w8.heap.size = B8 at *
  have c6 := b68.cells
  have c8 := b8.cells
  go_wp2_with fail
  refine (implMlF id up ro ep su ma ot co _ n n V6 kd tgt me at1 pr has ee ki pe _ m m _ o68.lg.1 o68.lg.2 HNm.out HM1.out v (by rw [hV6]; exact HV.out)).mono ?_
  rintro e w10 ⟨rfl, hn10⟩
  have bA10 := bA8.new hn10
  have bB10 := bB8.new hn10
  have b610 := b68.new hn10
  have b810 := b8.new hn10
  have o610 := o68.new hn10
  have o810 := own_new o8 hn10
  have hw10 := hw8.trans hn10
  have hvv : (v != v) = false := by simp
  clear bA8 bB8 b68 b8 o68 o8 hn10 c6 c8
  have cA := bA10.cells
  have cB := b610.cells
  have cAd := (bA10.new ((New.refl _).drew)).cells
  have cBd := (b610.new ((New.refl _).drew)).cells
  go_wp2_with fail
  go_region_held3 (fun W => (∀ j, W.cell? ⟨w.heap.size, j, none⟩ = (#[.int .i64 id, .bool up, .int .i64 ro, .int .i64 ep, .slice A n c, .int .i64 su, .int .i64 ma, .int .i64 ot, .int .i64 co] : Array Value)[j]?) ∧ (∀ j, W.cell? ⟨B6, j, none⟩ = (#[.int .i64 id, .bool up, .int .i64 ro, .int .i64 ep, .slice (some ⟨g6, 0, none⟩) n n, .int .i64 su, .int .i64 ma, .int .i64 ot, .int .i64 co] : Array Value)[j]?)) (first | exact ⟨cA, cB⟩ | exact ⟨cAd, cBd⟩ | exact ⟨cA7, cB7⟩ | exact ⟨cA8, cB8⟩)
    (first
      | (go_at_call 15; refine (toNd_any id up ro ep su ma ot co A n c V _ ?_ hn hT).mono ?_; exact (h.new hw10).new ((New.refl _).drew); rintro e w11 ⟨g11, V11, rfl, hV11, ho11, hn11⟩; have n11 : New w10 w11 := ((New.refl _).drew).trans hn11; have cA7 := (bA10.new n11).cells; have cB7 := (b610.new n11).cells)
      | (go_at_call 17; refine (eqNd_any id up ro ep su ma ot co _ _ n n n V6 V11 _ (o610.lg.1.new n11) ho11.lg.1 (hV6.trans hV11.symm) o610.lg.2 HNm.out).mono ?_; rintro e w12 ⟨rfl, hn12⟩; have n12 := n11.trans hn12; have cA8 := (bA10.new n12).cells; have cB8 := (b610.new n12).cells))
  have bB12 := bB10.new n12
  have b812 := b810.new n12
  have o812 := own_new o810 n12
  have hw12 := hw10.trans n12
  clear cA cB cAd cBd cA7 cB7 cA8 cB8 bA10 bB10 b610 b810 o610 o810 n11 n12 hn11 hn12 ho11 hV11
  have cA := bB12.cells
  have cB := b812.cells
  have cAd := (bB12.new ((New.refl _).drew)).cells
  have cBd := (b812.new ((New.refl _).drew)).cells
  go_wp2_with fail
  go_region_held3 (fun W => (∀ j, W.cell? ⟨w.heap.size + 1, j, none⟩ = (#[.int .i64 kd, .int .i64 tgt, .int .i64 me, .int .i64 at1, .int .i64 pr, .bool has, .int .i64 ee, .int .i64 ki, .int .i64 pe, .slice a m c1] : Array Value)[j]?) ∧ (∀ j, W.cell? ⟨B8, j, none⟩ = (#[.int .i64 kd, .int .i64 tgt, .int .i64 me, .int .i64 at1, .int .i64 pr, .bool has, .int .i64 ee, .int .i64 ki, .int .i64 pe, .slice (some ⟨g8, 0, none⟩) m m] : Array Value)[j]?)) (first | exact ⟨cA, cB⟩ | exact ⟨cAd, cBd⟩ | exact ⟨cA7, cB7⟩ | exact ⟨cA8, cB8⟩)
    (first
      | (go_at_call 20; refine (toMl_any kd tgt me at1 pr has ee ki pe a m c1 zs _ ?_ hz HM1.out).mono ?_; exact (hb.new hw12).new ((New.refl _).drew); rintro e w13 ⟨g13, rfl, -, ho13, hn13⟩; have n13 : New w12 w13 := ((New.refl _).drew).trans hn13; have cA7 := (bB12.new n13).cells; have cB7 := (b812.new n13).cells)
      | (go_at_call 22; refine (eqMl_any kd tgt me at1 pr has ee ki pe _ _ m m m zs _ ((BsAt.of_own o812 hzb).new n13) (BsAt.of_own ho13 hzb) hz HM1.out).mono ?_; rintro e w14 ⟨rfl, hn14⟩; have n14 := n13.trans hn14; have cA8 := (bB12.new n14).cells; have cB8 := (b812.new n14).cells))
  go_wp2
  go_ret
  exact ⟨rfl, hw12.trans n14⟩

set_option maxRecDepth 100000 in
theorem aml_lifted (os : Os) (started : os.Started) (H : Type) (enc : TypeId × Value → H) :
    ReturnsInHanded {} Try.checked os 4 .any (Rows.fnExactMailFaultSpec.pre6 enc Try.prog Try.f4 Rows.fnExactMailFaultRow.domain false) (Rows.fnExactMailFaultSpec.post enc Try.prog Try.f4 false true false false) := by
  refine returnsInHanded_of_change (C := Try.checked) own started (by kernel_rfl) Try.func4
    (ChangeSpec.witness6 (enc := enc) (C := Try.checked) false ⟨#[], #[.agg #[.int .i64 0, .bool false, .int .i64 0, .int .i64 0, .slice none 0 0, .int .i64 0, .int .i64 0, .int .i64 0, .int .i64 0], .agg #[.int .i64 0, .int .i64 0, .int .i64 0, .int .i64 0, .int .i64 0, .bool false, .int .i64 0, .int .i64 0, .int .i64 0, .slice none 0 0]], []⟩ 8 (by kernel_rfl) (by kernel_rfl) (by kernel_rfl) (by kernel_rfl)) ?_
  intro W base args ds gs before hval0 hW hcnd _
  have hval : ∀ (j : Nat) t v, Try.f4.params[j]? = some t → args[j]? = some v → Value.okWide Try.prog W .any base t v := hval0
  have hW' := hW
  obtain ⟨p, q, hA0, hV, rfl, hfz, hnd⟩ := hW
  have hA : DataW.TrodAll enc Try.prog W 0 (fun _ => true) true Try.f4.params.toList args.toList ds p := hA0
  rw [Try.params4] at hA hval
  obtain ⟨v0, vs0, d0, ds0, p0, q0, hargs0, rfl, rfl, h0, r0⟩ := trodAll_cons hA
  obtain ⟨v1, vs1, d1, ds1, p1, q1, hargs1, rfl, rfl, h1, r1⟩ := trodAll_cons r0
  obtain ⟨rfl, rfl, rfl⟩ := trodAll_nil r1
  obtain rfl : args = #[v0, v1] := by cases args; simp_all
  obtain ⟨rfl, rfl⟩ := trodVars_none hV
  have k0 := h0
  have lt0 : ∀ x ∈ p0, x.block < W.heap.size := by obtain ⟨m, hm⟩ := k0; exact DataW.trod_lt m _ _ _ hm
  have k1 := h1
  have lt1 : ∀ x ∈ p1, x.block < W.heap.size := by obtain ⟨m, hm⟩ := k1; exact DataW.trod_lt m _ _ _ hm
  obtain ⟨id0, up0, ro0, ep0, su0, ma0, ot0, co0, A0, n0, c0, V0, rfl, hV0, hl0, hm0, b1, b2, b3, b4, b5, b6, b7⟩ := open_node (hval 0 24 v0 rfl rfl) h0
  obtain ⟨kd1, tg1, me1, a11, pr1, hs1, ee1, ki1, pe1, a1, m1, c1, z1, rfl, hz1, hl1, hm1⟩ := open_mail (hval 1 39 v1 rfl rfl) h1
  clear hA0 hval0
  refine (aml_walk id0 up0 ro0 ep0 su0 ma0 ot0 co0 A0 n0 c0 V0 kd1 tg1 me1 a11 pr1 hs1 ee1 ki1 pe1 a1 m1 c1 z1 W hV0 hl0 hm0 hz1 hl1 hm1).mono fun e W' ⟨he, new⟩ => ?_
  have bel := new.below
  subst he
  exact ⟨_, rfl, _, _, _, [], _, [], hW', trodAll_mk1 (shut_bool Try.underlying4 _), (trodAll_cons_mk (Below.trod laidOut (by kernel_rfl) (of_decide_eq_true (by kernel_rfl)) k0 bel lt0) (trodAll_cons_mk (Below.trod laidOut (by kernel_rfl) (of_decide_eq_true (by kernel_rfl)) k1 bel lt1) trodAll_mk0)), rfl, bel.frame _, fun h => by cases h⟩

theorem aml_holds : Rows.FnExactMailFaultSaid :=
  OpenClaim.holds_of_wide 4 Try.f4 rfl rfl rfl rfl rfl rfl rfl ⟨rfl, rfl, rfl, rfl, rfl⟩ rfl rfl rfl rfl rfl (by kernel_rfl) Try.func4 (by kernel_rfl)
    (of_decide_eq_true (by kernel_rfl)) (by unfold Func.isWrapper; first | (rw [if_pos (by decide +kernel)]; kernel_rfl) | (rw [if_neg (by decide +kernel)]; exact ⟨rfl, rfl⟩))
    (fun os started H enc _ => aml_lifted os started H enc)

end Go.Proofs.Ytinpmbllckdmgaa
