/- What is proved here: for every list of routes, every list of rules and every three numbers the law on ExportTo returns true, and the lists read as they did. No condition. -/
import Derived.Test.YtjampcfikfafkaaGreatR7Ls
import Derived.Test.YtjampcfikfafkaaGreatR7Held
import Derived.Test.YtjampcfikfafkaaGreatR6Law
import Derived.Test.YtjampcfikfafkaaGreatR6Open
import Derived.Test.YtjampcfikfafkaaGreatT8Hd
import Derived.Test.YtjampcfikfafkaaGreatXE4
import Derived.Deep.CutRange
namespace Go.Proofs.YtjampcfikfafkaaGreat
open Go.ChangeShapes Go.WideShapes Go.ChangeAt Go.RowKit Go.Sort
set_option linter.unusedVariables false

theorem ExOk.len {R : List Rt} {q : Int} {rs : List Ru} {z t zc : Int} {L : List Td} (h : ExOk R q rs z t zc L) : L.length ≤ R.length := by
  rcases h with ⟨-, -, rfl⟩ | ⟨-, -, U, hA, rfl⟩
  · exact Nat.zero_le _
  · exact Nat.le_trans (by unfold expT; exact List.length_filterMap_le _ _) (pair_len U R hA.srt (fun x hx => (hA.best x hx).mem))

set_option maxHeartbeats 1600000 in
theorem markRs8 (g m c : Nat) (rs : List Ru) (s : Int) (w : World) (h : OwR w g m c rs) (hm : m ≤ 1048576) (hs0 : 0 ≤ s) (hs1 : s ≤ 1125899906842624) :
    Calls Tryz.prog 20 #[.slice (some ⟨g, 0, none⟩) m c, .int .i64 s] w fun e w' => e = .returned (.int .i64 (s + 8 * (m : Int))) ∧ Turn (fun k => k = g) w w' := by
  go_enter Tryz.func20, Tryz.ntmps20
  go_wp2_with fail
  go_loopw [1, 5] (fun t i wr => ∃ (k : Nat) (qs : List Ru), k ≤ m ∧ i = .int .i64 k ∧ t = .int .i64 (s + 8 * (k : Int)) ∧ OwR wr g m c qs ∧ Turn (fun q => q = g) w wr) (fun _ i _ => m - (intOf i).toNat)
  case atStart => exact ⟨0, rs, Nat.zero_le _, rfl, by simp, h, Turn.refl _ _⟩
  case round =>
    obtain ⟨k, qs, hk, rfl, rfl, ho, ht⟩ := hrel
    by_cases hlt : k < m
    · have f0 := fun j => World.ownsRow.frozenAt ho j
      obtain ⟨v0, c0⟩ := ho.cell (k * 8) (by omega)
      obtain ⟨v1, c1⟩ := ho.cell (k * 8 + 1) (by omega)
      obtain ⟨v2, c2⟩ := ho.cell (k * 8 + 2) (by omega)
      obtain ⟨v3, c3⟩ := ho.cell (k * 8 + 3) (by omega)
      obtain ⟨v4, c4⟩ := ho.cell (k * 8 + 4) (by omega)
      obtain ⟨v5, c5⟩ := ho.cell (k * 8 + 5) (by omega)
      obtain ⟨v6, c6⟩ := ho.cell (k * 8 + 6) (by omega)
      obtain ⟨v7, c7⟩ := ho.cell (k * 8 + 7) (by omega)
      go_wp2
      go_roundw
      case rel => exact ⟨k + 1, _, by omega, by go_num, by go_num, ho.put k _ _ _ _ _ _ _ _, Turn.here6 (Turn.here6 (Turn.here6 (Turn.here6 (Turn.here6 (Turn.here6 (Turn.here6 (Turn.here6 ht _) _) _) _) _) _) _) _⟩
      case measure => simp [intOf]; omega
    · obtain rfl : k = m := by omega
      go_wp2
      go_ret
      exact ⟨rfl, ht⟩

set_option maxHeartbeats 12800000 in
theorem aet_walk (q : Int) (x : Option Addr) (n c : Nat) (V : List Rv) (y : Option Addr) (rn rk : Nat) (rs : List Ru) (z t : Int) (w : World) (h : RtCame w x V) (hn : V.length = n) (hm : n ≤ maxLen) (hr : RsAt w y rs) (hrn : rs.length = rn) (hrm0 : rn ≤ maxLen) : Calls Tryz.prog 4 #[.slice x n c, .int .i64 q, .slice y rn rk, .int .i64 z, .int .i64 t] w fun e w' => e = .returned (.bool true) ∧ New w w' := by
  have HN : Hid (V.length = n) := hn
  have HRN : Hid (rs.length = rn) := hrn
  go_enter Tryz.func4, Tryz.ntmps4
  go_wp2_with fail
  refine (szRts_any x n c V _ h hn hm).mono ?_
  rintro e w1 ⟨⟨zs, rfl, hzs⟩, hn1⟩
  clear hn hm hrn
  rcases hzs with rfl | ⟨hz0, hz1, hm', hall⟩
  · go_wp2
    go_ret
    exact ⟨rfl, hn1⟩
  have hR := h.rt hall
  obtain ⟨Ln, rfl⟩ : ∃ Ln : Nat, zs = Ln := ⟨zs.toNat, by omega⟩
  by_cases hbg : Ln < rn
  · go_wp2_with fail
    refine (szRs_big y rn rk Ln _ (by omega) hrm0 hbg).mono ?_
    rintro e w1b ⟨rfl, hw1b⟩
    rw [hw1b]
    go_wp2
    go_ret
    exact ⟨rfl, hn1⟩
  have hrm : rn ≤ 1048576 := by omega
  go_wp2_with fail
  refine (szRs_ok y rn rk Ln _ (by omega) (by omega)).mono ?_
  rintro e w1b ⟨rfl, hw1b⟩
  rw [hw1b]
  have hzz : ¬ ((Ln : Int) - (rn : Int)) < 0 := by omega
  clear h hall
  go_wp2_with fail
  refine (toRts_any x n c V _ (hR.new hn1) HN.out hm').mono ?_
  rintro e w2 ⟨g2, V2, rfl, hv2, ho2, hn2⟩
  have r2 := ho2.rt
  go_wp2_with fail
  refine (toRs_any y rn rk rs _ ((hr.new hn1).new hn2) HRN.out hrm).mono ?_
  rintro e w2b ⟨gr2, rfl, -, oR2, hn2b⟩
  go_wp2_with fail
  refine (specET _ n n V2 q _ rn rn rs z t _ (r2.1.new hn2b) r2.2 hm' oR2.rs HRN.out hrm).mono ?_
  rintro e w3 ⟨zc, A3, n3, c3, V3, hd3, rfl, hl3, ho3, hn3⟩
  rw [hv2] at hd3
  have HD : Hid (ExOk (V.map Rv.r) q rs z t zc (V3.map Tv.r)) := hd3
  have HSl : Hid (n3 ≤ n) := by
    have e1 := hd3.len
    rw [List.length_map, List.length_map, HN.out] at e1
    show n3 ≤ n
    omega
  clear hd3
  go_upto_region 9 with fail
  have hal : New w3 (w3.alloc (.cells #[.int .i64 zc, .slice A3 n3 c3] 30)) := (New.refl w3).alloc _
  have bS := Blk.mk w3 w3.heap.size 30 #[.int .i64 zc, .slice A3 n3 c3] rfl
  have rS := (ho3.new hal).rt.1
  have N4 := (((hn1.trans hn2).trans hn2b).trans hn3).trans hal
  clear ho2 r2 hv2 hn1 hn2 hn2b hn3 ho3 hal oR2
  generalize w3.alloc (.cells #[.int .i64 zc, .slice A3 n3 c3] 30) = w4 at *
  go_wp2_with fail
  refine (toRts_any x n c V _ (hR.new N4) HN.out hm').mono ?_
  rintro e w5 ⟨g5, V5, rfl, hv5, ho5, hn5⟩
  have r5 := ho5.rt
  go_wp2_with fail
  refine (toRs_any y rn rk rs _ ((hr.new N4).new hn5) HRN.out hrm).mono ?_
  rintro e w5b ⟨gr5, rfl, hgr5, oR5, hn5b⟩
  go_wp2_with fail
  refine (implET _ n n V5 q _ rn rn rs z t _ (r5.1.new hn5b) r5.2 hm' oR5.rs HRN.out hrm).mono ?_
  rintro e w6 ⟨z6, A6, n6, c6, V6, hd6, rfl, hl6, ho6, hn6⟩
  rw [hv5] at hd6
  obtain ⟨hzz6, hv6⟩ := HD.out.det hd6
  subst hzz6
  replace hv6 := hv6.symm
  clear hd6
  go_upto_region 12 with fail
  have hal : New w6 (w6.alloc (.cells #[.int .i64 zc, .slice A6 n6 c6] 30)) := (New.refl w6).alloc _
  have bG := Blk.mk w6 w6.heap.size 30 #[.int .i64 zc, .slice A6 n6 c6] rfl
  have oG := ho6.new hal
  have oX := ((ho5.new hn5b).new hn6).new hal
  have oRX := (oR5.new hn6).new hal
  have NS := ((hn5.trans hn5b).trans hn6).trans hal
  have l56 := hn5.size
  have l5b := hn5b.size
  have lgr := oR5.lt
  have l67 := hn6.size
  have l78 := hal.size
  obtain rfl : n6 = n3 := by
    have e1 := congrArg List.length hv6
    simp at e1
    omega
  have hn6b : n6 ≤ 1048576 := by
    have e1 := congrArg List.length hv6
    have e2 := HSl.out
    simp at e1
    omega
  have e36 : Hid (V6.map Tv.r = V3.map Tv.r) := hv6
  clear ho5 r5 ho6 hn5 hn5b hn6 hal oR5
  generalize w6.alloc (.cells #[.int .i64 zc, .slice A6 n6 c6] 30) = w7 at *
  have cS := (bS.new NS).cells
  have cG := bG.cells
  go_wp2_with fail
  refine (eqTR_any zc A6 A3 n6 c6 c3 V6 V3 _ oG.rt.1 (rS.new NS) e36.out hl6 hn6b).mono ?_
  rintro e w8 ⟨rfl, h8⟩
  have bG := bG.new h8
  have oG := oG.new h8
  have oX := oX.new h8
  have oRX := oRX.new h8
  have NS := NS.trans h8
  clear cS cG h8
  go_wp2_with fail
  refine (toRts_any x n c V _ (hR.new (N4.trans NS)) HN.out hm').mono ?_
  rintro e w9 ⟨g9, V9, rfl, hv9, ho9, hn9⟩
  have oX := oX.new hn9
  have oRX := oRX.new hn9
  go_wp2_with fail
  refine (eqRts_any _ _ n n n V5 V9 _ oX.rt.1 ho9.rt.1 (by rw [hv5, hv9]) oX.rt.2 hm').mono ?_
  rintro e w10 ⟨rfl, h10⟩
  have bG := (bG.new hn9).new h10
  have oG := (oG.new hn9).new h10
  have oX := oX.new h10
  have oRX := oRX.new h10
  have NS := (NS.trans hn9).trans h10
  clear ho9 hv9 hn9 h10
  go_wp2_with fail
  refine (toRs_any y rn rk rs _ (hr.new (N4.trans NS)) HRN.out hrm).mono ?_
  rintro e w10b ⟨gr10, rfl, -, oR10, hn10b⟩
  have bG := bG.new hn10b
  have oG := oG.new hn10b
  have oX := oX.new hn10b
  have oRX := oRX.new hn10b
  have NS := NS.trans hn10b
  go_wp2_with fail
  refine (eqRs_any _ _ rn rn rn rs _ oRX.rs oR10.rs HRN.out hrm).mono ?_
  rintro e w10c ⟨rfl, hn10c⟩
  have bG := bG.new hn10c
  have oG := oG.new hn10c
  have oX := oX.new hn10c
  have oRX := oRX.new hn10c
  have NS := NS.trans hn10c
  clear oR10 hn10b hn10c
  go_wp2_with fail
  refine (markRts_any _ n n _ _ 1 V5 _ oX hm' (by omega) (by omega)).mono ?_
  rintro e w11 ⟨rfl, -, t11⟩
  have bG := bG.turn t11 (by omega)
  have oG := oG.turn t11 (by intro k hk _ e; omega)
  have NS := NS.before t11 (by intro i hi e; omega)
  have oRX := oRX.turn t11 (by omega)
  have hk5 := endT_bd V5 1 (fun v hv => (oX.path.bd v hv).2)
  have hl5 : V5.length ≤ 1048576 := by have := oX.rt.2; omega
  clear oX t11
  generalize endT 1 V5 = k5 at *
  go_wp2_with fail
  refine (markRs8 gr5 rn rn rs k5 _ oRX hrm (by omega) (by omega)).mono ?_
  rintro e w11b ⟨rfl, t11b⟩
  have bG := bG.turn t11b (by omega)
  have oG := oG.turn t11b (by intro k hk _ e; omega)
  have NS := NS.before t11b (by intro i hi e; omega)
  have hk6 : 0 ≤ k5 + 8 * (rn : Int) := by omega
  have hk6n : ¬ k5 + 8 * (rn : Int) < 0 := by omega
  clear oRX t11b hk5 hl5
  generalize k5 + 8 * (rn : Int) = k6 at *
  have cS := (bS.new NS).cells
  have cG := bG.cells
  go_wp2_with fail
  refine (eqTR_any zc A6 A3 n6 c6 c3 V6 V3 _ oG.rt.1 (rS.new NS) e36.out hl6 hn6b).mono ?_
  rintro e w12 ⟨rfl, h12⟩
  have bG := bG.new h12
  have oG := oG.new h12
  have NS := NS.trans h12
  clear cS cG h12
  have cG := bG.cells
  have hGl : w4.heap.size ≤ w5.heap.size := l56
  go_wp2_with fail
  refine (markTR_any zc A6 n6 c6 _ _ 1 V6 _ oG hn6b (by omega) (by omega) (by have e1 := bG.lt; omega)).mono ?_
  rintro e w13 ⟨rfl, oM, t13⟩
  have bG := bG.turn t13 (by omega)
  have NS := NS.before t13 (by intro i hi e; omega)
  have hk7 := (end8_bd V6 1 (fun v hv => (oG.path.bd v hv).2)).1
  have hl6' : ∀ v ∈ V6, v.r.xs.length ≤ 1048576 := fun v hv => (oG.path.bd v hv).2
  clear oG t13 cG
  have cG := bG.cells
  go_wp2_with fail
  refine (heldTR_any zc A6 n6 c6 1 V6 _ oM.rt.1 hl6 hl6' hn6b (by omega) (by omega)).mono ?_
  rintro e w14 ⟨rfl, h14⟩
  have bG := bG.new h14
  have oM := oM.new h14
  have NS := NS.trans h14
  have hee : (end8 1 V6 != end8 1 V6) = false := by simp
  clear h14 cG
  go_wp2_with fail
  refine (toRts_any x n c V _ (hR.new (N4.trans NS)) HN.out hm').mono ?_
  rintro e w15 ⟨g15, V15, rfl, hv15, ho15, hn15⟩
  have r15 := ho15.rt
  go_wp2_with fail
  refine (toRs_any y rn rk rs _ ((hr.new (N4.trans NS)).new hn15) HRN.out hrm).mono ?_
  rintro e w15b ⟨gr15, rfl, hgr15, oR15, hn15b⟩
  go_wp2_with fail
  refine (implET _ n n V15 q _ rn rn rs z t _ (r15.1.new hn15b) r15.2 hm' oR15.rs HRN.out hrm).mono ?_
  rintro e w16 ⟨z16, A16, n16, c16, V16, hd16, rfl, hl16, ho16, hn16⟩
  rw [hv15] at hd16
  obtain ⟨hzz16, hv16⟩ := HD.out.det hd16
  subst hzz16
  replace hv16 := hv16.symm
  clear hd16
  go_upto_region 32 with fail
  have hal : New w16 (w16.alloc (.cells #[.int .i64 zc, .slice A16 n16 c16] 30)) := (New.refl w16).alloc _
  have bH := Blk.mk w16 w16.heap.size 30 #[.int .i64 zc, .slice A16 n16 c16] rfl
  have rH := (ho16.new hal).rt.1
  have hx := ((hn15.trans hn15b).trans hn16).trans hal
  have bG := bG.new hx
  have oM := oM.new hx
  have NS := NS.trans hx
  obtain rfl : n16 = n6 := by
    have e1 := congrArg List.length hv16
    have e2 := congrArg List.length e36.out
    simp at e1 e2
    omega
  have e163 : Hid (V16.map Tv.r = V3.map Tv.r) := hv16
  clear ho15 r15 ho16 hn15 hn15b hn16 hal hx oR15
  generalize w16.alloc (.cells #[.int .i64 zc, .slice A16 n16 c16] 30) = w17 at *
  have cS := (bS.new NS).cells
  have cH := bH.cells
  go_wp2_with fail
  refine (eqTR_any zc A16 A3 n16 c16 c3 V16 V3 _ rH (rS.new NS) e163.out hl16 hn6b).mono ?_
  rintro e w18 ⟨rfl, h18⟩
  have bG := bG.new h18
  have oM := oM.new h18
  have NS := NS.trans h18
  clear cS cH h18
  have cG := bG.cells
  go_wp2_with fail
  refine (heldTR_any zc A6 n16 c6 1 V6 _ oM.rt.1 hl6 hl6' hn6b (by omega) (by omega)).mono ?_
  rintro e w19 ⟨rfl, h19⟩
  go_wp2
  go_ret
  exact ⟨rfl, N4.trans (NS.trans h19)⟩


set_option maxRecDepth 100000 in
theorem aet_lifted (os : Os) (started : os.Started) (H : Type) (enc : TypeId × Value → H) :
    ReturnsInHanded {} Tryz.checked os 4 .any (Rows.fnExactExportToSpec.pre6 enc Tryz.prog Tryz.f4 Rows.fnExactExportToRow.domain false) (Rows.fnExactExportToSpec.post enc Tryz.prog Tryz.f4 false true false false) := by
  refine returnsInHanded_of_change (C := Tryz.checked) own started (by kernel_rfl) Tryz.func4
    (ChangeSpec.witness6 (enc := enc) (C := Tryz.checked) false ⟨#[], #[.slice none 0 0, .int .i64 0, .slice none 0 0, .int .i64 0, .int .i64 0], []⟩ 8 (by kernel_rfl) (by kernel_rfl) (by kernel_rfl) (by kernel_rfl)) ?_
  intro W base args ds gs before hval0 hW hcnd _
  have hval : ∀ (j : Nat) t v, Tryz.f4.params[j]? = some t → args[j]? = some v → Value.okWide Tryz.prog W .any base t v := hval0
  have hW' := hW
  obtain ⟨p, q, hA0, hV, rfl, hfz, hnd⟩ := hW
  have hA : DataW.TrodAll enc Tryz.prog W 0 (fun _ => true) true Tryz.f4.params.toList args.toList ds p := hA0
  rw [Tryz.params4] at hA hval
  obtain ⟨v0, vs0, d0, ds0, p0, q0, hargs, rfl, rfl, h0, r0⟩ := trodAll_cons hA
  obtain ⟨v1, vs1, d1, ds1, p1, q1, rfl, rfl, rfl, h1, r1⟩ := trodAll_cons r0
  obtain ⟨v2, vs2, d2, ds2, p2, q2, rfl, rfl, rfl, h2, r2⟩ := trodAll_cons r1
  obtain ⟨v3, vs3, d3, ds3, p3, q3, rfl, rfl, rfl, h3, r3⟩ := trodAll_cons r2
  obtain ⟨v4, vs4, d4, ds4, p4, q4, rfl, rfl, rfl, h4, r4⟩ := trodAll_cons r3
  obtain ⟨rfl, rfl, rfl⟩ := trodAll_nil r4
  obtain rfl : args = #[v0, v1, v2, v3, v4] := by cases args; simp_all
  obtain ⟨rfl, rfl⟩ := trodVars_none hV
  have k0 := h0
  have lt0 : ∀ x ∈ p0, x.block < W.heap.size := by obtain ⟨m, hm⟩ := k0; exact DataW.trod_lt m _ _ _ hm
  obtain ⟨a0, len0, cap0, rfl⟩ := okWide_slice Tryz.underlying46 (hval 0 46 v0 rfl rfl)
  obtain ⟨z0, b0, e0, m0⟩ := open_routes h0
  obtain ⟨a1, rfl, rfl, rfl, w1⟩ := open_int Tryz.underlying2 (hval 1 2 v1 rfl rfl) h1
  have k2 := h2
  have lt2 : ∀ x ∈ p2, x.block < W.heap.size := by obtain ⟨m, hm⟩ := k2; exact DataW.trod_lt m _ _ _ hm
  obtain ⟨a2, len2, cap2, rfl⟩ := okWide_slice Tryz.underlying47 (hval 2 47 v2 rfl rfl)
  obtain ⟨z2, b2, e2, m2⟩ := open_rules h2
  obtain ⟨a3, rfl, rfl, rfl, w3⟩ := open_int Tryz.underlying2 (hval 3 2 v3 rfl rfl) h3
  obtain ⟨a4, rfl, rfl, rfl, w4⟩ := open_int Tryz.underlying2 (hval 4 2 v4 rfl rfl) h4
  clear hA0 hval0
  refine (aet_walk a1 a0 len0 cap0 z0 a2 len2 cap2 z2 a3 a4 W b0 e0 m0 b2 e2 m2).mono fun e W' ⟨he, new⟩ => ?_
  have bel := new.below
  subst he
  exact ⟨_, rfl, _, _, _, [], _, [], hW', trodAll_mk1 (shut_bool Tryz.underlying4 _), (trodAll_cons_mk (Below.trod laidOut (by kernel_rfl) (of_decide_eq_true (by kernel_rfl)) k0 bel lt0) (trodAll_cons_mk (shut_int Tryz.underlying2 w1) (trodAll_cons_mk (Below.trod laidOut (by kernel_rfl) (of_decide_eq_true (by kernel_rfl)) k2 bel lt2) (trodAll_cons_mk (shut_int Tryz.underlying2 w3) (trodAll_cons_mk (shut_int Tryz.underlying2 w4) trodAll_mk0))))), rfl, bel.frame _, fun h => by cases h⟩

theorem aet_holds : Rows.FnExactExportToSaid :=
  OpenClaim.holds_of_wide 4 Tryz.f4 rfl rfl rfl rfl rfl rfl rfl ⟨rfl, rfl, rfl, rfl, rfl⟩ rfl rfl rfl rfl rfl (by kernel_rfl) Tryz.func4 (by kernel_rfl)
    (of_decide_eq_true (by kernel_rfl)) (by unfold Func.isWrapper; first | (rw [if_pos (by decide +kernel)]; kernel_rfl) | (rw [if_neg (by decide +kernel)]; exact ⟨rfl, rfl⟩))
    (fun os started H enc _ => aet_lifted os started H enc)

end Go.Proofs.YtjampcfikfafkaaGreat
