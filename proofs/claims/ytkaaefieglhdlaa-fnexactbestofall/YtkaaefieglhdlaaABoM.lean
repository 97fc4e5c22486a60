/- What is proved here: for every list of routes the law on BestOfAll returns true, and the list reads as it did. No condition. -/
import Derived.Test.YtkaaefieglhdlaaBO2
import Derived.Deep.CutRange
namespace Go.Proofs.Ytkaaefieglhdlaa
open Go.ChangeShapes Go.WideShapes Go.ChangeAt Go.RowKit Go.Sort
set_option linter.unusedVariables false

set_option maxHeartbeats 12800000 in
theorem abo_walk (x : Option Addr) (n c : Nat) (V : List Rv) (w : World) (h : RtCame w x V) (hn : V.length = n) (hm : n ≤ maxLen) : Calls Try.prog 4 #[.slice x n c] w fun e w' => e = .returned (.bool true) ∧ New w w' := by
  have HN : Hid (V.length = n) := hn
  go_enter Try.func4, Try.ntmps4
  go_wp2_with fail
  refine (szRts_any x n c V _ h hn hm).mono ?_
  rintro e w1 ⟨⟨zs, rfl, hzs⟩, hn1⟩
  clear hn hm
  rcases hzs with rfl | ⟨hz0, hz1, hm', hall⟩
  · go_wp2
    go_ret
    exact ⟨rfl, hn1⟩
  have hR := h.rt hall
  clear h hall
  go_wp2_with fail
  refine (toRts_any x n c V _ (hR.new hn1) HN.out hm').mono ?_
  rintro e w2 ⟨g2, V2, rfl, hv2, ho2, hn2⟩
  have r2 := ho2.rt
  go_wp2_with fail
  refine (specAll _ n n V2 _ r2.1 r2.2 hm').mono ?_
  rintro e w3 ⟨z, A3, n3, c3, V3, hd3, rfl, hl3, ho3, hn3⟩
  rw [hv2] at hd3
  have HD : Hid (AlA (V.map Rv.r) z (V3.map Rv.r)) := hd3
  have HSl : Hid (n3 ≤ n) := by
    have e1 := hd3.len
    rw [List.length_map, List.length_map, HN.out] at e1
    show n3 ≤ n
    omega
  clear hd3
  go_upto_region 6 with fail
  have hal : New w3 (w3.alloc (.cells #[.int .i64 z, .slice A3 n3 c3] 44)) := (New.refl w3).alloc _
  have bS := Blk.mk w3 w3.heap.size 44 #[.int .i64 z, .slice A3 n3 c3] rfl
  have rS := (ho3.new hal).rt.1
  have N4 := ((hn1.trans hn2).trans hn3).trans hal
  clear ho2 r2 hv2 hn1 hn2 hn3 ho3 hal
  generalize w3.alloc (.cells #[.int .i64 z, .slice A3 n3 c3] 44) = w4 at *
  go_wp2_with fail
  refine (toRts_any x n c V _ (hR.new N4) HN.out hm').mono ?_
  rintro e w5 ⟨g5, V5, rfl, hv5, ho5, hn5⟩
  have r5 := ho5.rt
  go_wp2_with fail
  refine (implAll _ n n V5 _ r5.1 r5.2 hm').mono ?_
  rintro e w6 ⟨z6, A6, n6, c6, V6, hd6, rfl, hl6, ho6, hn6⟩
  rw [hv5] at hd6
  obtain ⟨hzz, hv6⟩ := HD.out.det hd6
  subst hzz
  replace hv6 := hv6.symm
  clear hd6
  go_upto_region 8 with fail
  have hal : New w6 (w6.alloc (.cells #[.int .i64 z, .slice A6 n6 c6] 44)) := (New.refl w6).alloc _
  have bG := Blk.mk w6 w6.heap.size 44 #[.int .i64 z, .slice A6 n6 c6] rfl
  have oG := ho6.new hal
  have oX := (ho5.new hn6).new hal
  have NS := (hn5.trans hn6).trans hal
  have l56 := hn5.size
  have l67 := hn6.size
  have l78 := hal.size
  obtain rfl : n6 = n3 := by
    have e1 := congrArg List.length hv6
    simp at e1
    omega
  have hn6b : n6 ≤ 1048576 := by
    have e1 := congrArg List.length hv6
    have e2 := HSl.out
    simp at e1
    omega
  have e36 : Hid (V6.map Rv.r = V3.map Rv.r) := hv6
  clear ho5 r5 ho6 hn5 hn6 hal
  generalize w6.alloc (.cells #[.int .i64 z, .slice A6 n6 c6] 44) = w7 at *
  have cS := (bS.new NS).cells
  have cG := bG.cells
  go_wp2_with fail
  refine (eqRR_any z A6 A3 n6 c6 c3 V6 V3 _ oG.rt.1 (rS.new NS) e36.out hl6 hn6b).mono ?_
  rintro e w8 ⟨rfl, h8⟩
  have bG := bG.new h8
  have oG := oG.new h8
  have oX := oX.new h8
  have NS := NS.trans h8
  clear cS cG h8
  go_wp2_with fail
  refine (toRts_any x n c V _ (hR.new (N4.trans NS)) HN.out hm').mono ?_
  rintro e w9 ⟨g9, V9, rfl, hv9, ho9, hn9⟩
  have oX := oX.new hn9
  go_wp2_with fail
  refine (eqRts_any _ _ n n n V5 V9 _ oX.rt.1 ho9.rt.1 (by rw [hv5, hv9]) oX.rt.2 hm').mono ?_
  rintro e w10 ⟨rfl, h10⟩
  have bG := (bG.new hn9).new h10
  have oG := (oG.new hn9).new h10
  have oX := oX.new h10
  have NS := (NS.trans hn9).trans h10
  clear ho9 hv9 hn9 h10
  go_wp2_with fail
  refine (markRts_any _ n n _ _ 1 V5 _ oX hm' (by omega) (by omega)).mono ?_
  rintro e w11 ⟨rfl, -, t11⟩
  have bG := bG.turn t11 (by omega)
  have oG := oG.turn t11 (by intro k hk _ e; omega)
  have NS := NS.before t11 (by intro i hi e; omega)
  have hk5 := (endT_bd V5 1 (fun v hv => (oX.path.bd v hv).2)).1
  clear oX t11
  generalize endT 1 V5 = k5 at *
  have cS := (bS.new NS).cells
  have cG := bG.cells
  go_wp2_with fail
  refine (eqRR_any z A6 A3 n6 c6 c3 V6 V3 _ oG.rt.1 (rS.new NS) e36.out hl6 hn6b).mono ?_
  rintro e w12 ⟨rfl, h12⟩
  have bG := bG.new h12
  have oG := oG.new h12
  have NS := NS.trans h12
  clear cS cG h12
  have cG := bG.cells
  have hGl : w4.heap.size ≤ w5.heap.size := l56
  go_wp2_with fail
  refine (markRR_any z A6 n6 c6 _ _ 1 V6 _ oG hn6b (by omega) (by omega) (by have e1 := bG.lt; omega)).mono ?_
  rintro e w13 ⟨rfl, oM, t13⟩
  have bG := bG.turn t13 (by omega)
  have NS := NS.before t13 (by intro i hi e; omega)
  have hk6 := (endT_bd V6 1 (fun v hv => (oG.path.bd v hv).2)).1
  have hl6' : ∀ v ∈ V6, v.r.xs.length ≤ 1048576 := fun v hv => (oG.path.bd v hv).2
  clear oG t13 cG
  have cG := bG.cells
  go_wp2_with fail
  refine (heldRR_any z A6 n6 c6 1 V6 _ oM.rt.1 hl6 hl6' hn6b (by omega) (by omega)).mono ?_
  rintro e w14 ⟨rfl, h14⟩
  have bG := bG.new h14
  have oM := oM.new h14
  have NS := NS.trans h14
  have hee : (endT 1 V6 != endT 1 V6) = false := by simp
  clear h14 cG
  go_wp2_with fail
  refine (toRts_any x n c V _ (hR.new (N4.trans NS)) HN.out hm').mono ?_
  rintro e w15 ⟨g15, V15, rfl, hv15, ho15, hn15⟩
  have r15 := ho15.rt
  go_wp2_with fail
  refine (implAll _ n n V15 _ r15.1 r15.2 hm').mono ?_
  rintro e w16 ⟨z16, A16, n16, c16, V16, hd16, rfl, hl16, ho16, hn16⟩
  rw [hv15] at hd16
  obtain ⟨hzz, hv16⟩ := HD.out.det hd16
  subst hzz
  replace hv16 := hv16.symm
  clear hd16
  go_upto_region 25 with fail
  have hal : New w16 (w16.alloc (.cells #[.int .i64 z, .slice A16 n16 c16] 44)) := (New.refl w16).alloc _
  have bH := Blk.mk w16 w16.heap.size 44 #[.int .i64 z, .slice A16 n16 c16] rfl
  have rH := (ho16.new hal).rt.1
  have hx := (hn15.trans hn16).trans hal
  have bG := bG.new hx
  have oM := oM.new hx
  have NS := NS.trans hx
  obtain rfl : n16 = n6 := by
    have e1 := congrArg List.length hv16
    have e2 := congrArg List.length hv6
    simp at e1 e2
    omega
  have e163 : Hid (V16.map Rv.r = V3.map Rv.r) := hv16
  clear ho15 r15 ho16 hn15 hn16 hal hx
  generalize w16.alloc (.cells #[.int .i64 z, .slice A16 n16 c16] 44) = w17 at *
  have cS := (bS.new NS).cells
  have cH := bH.cells
  go_wp2_with fail
  refine (eqRR_any z A16 A3 n16 c16 c3 V16 V3 _ rH (rS.new NS) e163.out hl16 hn6b).mono ?_
  rintro e w18 ⟨rfl, h18⟩
  have bG := bG.new h18
  have oM := oM.new h18
  have NS := NS.trans h18
  clear cS cH h18
  have cG := bG.cells
  go_wp2_with fail
  refine (heldRR_any z A6 n16 c6 1 V6 _ oM.rt.1 hl6 hl6' hn6b (by omega) (by omega)).mono ?_
  rintro e w19 ⟨rfl, h19⟩
  go_wp2
  go_ret
  exact ⟨rfl, N4.trans (NS.trans h19)⟩


set_option maxRecDepth 100000 in
theorem abo_lifted (os : Os) (started : os.Started) (H : Type) (enc : TypeId × Value → H) :
    ReturnsInHanded {} Try.checked os 4 .any (Rows.fnExactBestOfAllSpec.pre6 enc Try.prog Try.f4 Rows.fnExactBestOfAllRow.domain false) (Rows.fnExactBestOfAllSpec.post enc Try.prog Try.f4 false true false false) := by
  refine returnsInHanded_of_change (C := Try.checked) own started (by kernel_rfl) Try.func4
    (ChangeSpec.witness6 (enc := enc) (C := Try.checked) false ⟨#[], #[.slice none 0 0], []⟩ 8 (by kernel_rfl) (by kernel_rfl) (by kernel_rfl) (by kernel_rfl)) ?_
  intro W base args ds gs before hval0 hW hcnd _
  have hval : ∀ (j : Nat) t v, Try.f4.params[j]? = some t → args[j]? = some v → Value.okWide Try.prog W .any base t v := hval0
  have hW' := hW
  obtain ⟨p, q, hA0, hV, rfl, hfz, hnd⟩ := hW
  have hA : DataW.TrodAll enc Try.prog W 0 (fun _ => true) true Try.f4.params.toList args.toList ds p := hA0
  rw [Try.params4] at hA hval
  obtain ⟨v0, vs0, d0, ds0, p0, q0, hargs, rfl, rfl, h0, r0⟩ := trodAll_cons hA
  obtain ⟨rfl, rfl, rfl⟩ := trodAll_nil r0
  obtain rfl : args = #[v0] := by cases args; simp_all
  obtain ⟨rfl, rfl⟩ := trodVars_none hV
  have k0 := h0
  have lt0 : ∀ x ∈ p0, x.block < W.heap.size := by obtain ⟨m, hm⟩ := k0; exact DataW.trod_lt m _ _ _ hm
  obtain ⟨a0, len0, cap0, rfl⟩ := okWide_slice Try.underlying22 (hval 0 22 v0 rfl rfl)
  obtain ⟨z0, b0, e0, m0⟩ := open_routes h0
  clear hA0 hval0
  refine (abo_walk a0 len0 cap0 z0 W b0 e0 m0).mono fun e W' ⟨he, new⟩ => ?_
  have bel := new.below
  subst he
  exact ⟨_, rfl, _, _, _, [], _, [], hW', trodAll_mk1 (shut_bool Try.underlying4 _), (trodAll_cons_mk (Below.trod laidOut (by kernel_rfl) (of_decide_eq_true (by kernel_rfl)) k0 bel lt0) trodAll_mk0), rfl, bel.frame _, fun h => by cases h⟩

theorem abo_holds : Rows.FnExactBestOfAllSaid :=
  OpenClaim.holds_of_wide 4 Try.f4 rfl rfl rfl rfl rfl rfl rfl ⟨rfl, rfl, rfl, rfl, rfl⟩ rfl rfl rfl rfl rfl (by kernel_rfl) Try.func4 (by kernel_rfl)
    (of_decide_eq_true (by kernel_rfl)) (by unfold Func.isWrapper; first | (rw [if_pos (by decide +kernel)]; kernel_rfl) | (rw [if_neg (by decide +kernel)]; exact ⟨rfl, rfl⟩))
    (fun os started H enc _ => abo_lifted os started H enc)

end Go.Proofs.Ytkaaefieglhdlaa
