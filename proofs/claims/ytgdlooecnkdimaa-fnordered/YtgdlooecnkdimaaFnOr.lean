/- What is proved here: for every bytes the law on the order of routes returns true, and the bytes read as they did. No condition. -/
import Derived.Test.YtgdlooecnkdimaaDrawBr
import Derived.Test.YtgdlooecnkdimaaLwBig
import Derived.Test.YtgdlooecnkdimaaR7Ord
import Derived.Test.YtgdlooecnkdimaaOpen
import Derived.Deep.CutRange
namespace Go.Proofs.Ytgdlooecnkdimaa
open Go.ChangeShapes Go.WideShapes Go.ChangeAt Go.RowKit Go.Sort
set_option linter.unusedVariables false

theorem own_lit5 {w : World} {B : Nat} (h : Blk w B 5 #[.int .u8 5]) : w.ownsRow 0 5 1 (.slice (some ⟨B, 0, none⟩) 1 1) 1 (([5] : List Int).map (Value.int .u8)) :=
  ⟨rfl, .inr ⟨B, 1, #[.int .u8 5], rfl, Nat.zero_le _, h, Nat.le_refl _, by unfold maxLen; omega, rfl, rfl⟩⟩

set_option maxRecDepth 100000 in
set_option maxHeartbeats 12800000 in
theorem fnor_walk (a : Option Addr) (n c : Nat) (zs : List Int) (w : World) (h : BsAt w a zs) (hn : zs.length = n) (hm : n ≤ maxLen) (hnil : a = none → n = 0 ∧ c = 0) (ha : ∀ x, zs ≠ [] → a = some x → x.block < w.heap.size) :
    Calls Try.prog 3 #[.slice a n c] w fun e w' => e = .returned (.bool true) ∧ New w w' := by
  by_cases hbig : 1048576 < n
  · go_enter Try.func3, Try.ntmps3
    go_wp2_with fail
    refine (lbig_yes a n c _ hbig).mono ?_
    rintro e w0 ⟨rfl, hw0⟩
    rw [hw0]
    go_wp2
    go_ret
    exact ⟨rfl, New.refl _⟩
  obtain ⟨i0, hi, hz0, hz1, hz2⟩ := info_parts Try.infoU8
  have HN : Hid (zs.length = n) := hn
  have HNL : Hid (a = none → n = 0 ∧ c = 0) := hnil
  clear hn hnil
  go_enter Try.func3, Try.ntmps3
  go_wp2_with fail
  refine (lbig_no a n c _ hbig).mono ?_
  rintro e w0 ⟨rfl, hw0⟩
  rw [hw0]
  go_wp2_with fail
  refine (drawBetter a n c zs _ h HN.out (by omega) ha).mono ?_
  rintro e w1 ⟨p1, a1, l1, o1, nx1, md1, lc1, x1, n1, c1, p2, a2, l2, o2, nx2, md2, lc2, x2, n2, c2, rfl, h1l, h2l, N1⟩
  go_upto_region 4 with fail
  have bA : Blk ((w1.alloc (.cells #[.int .i64 p1, .int .i64 a1, .int .i64 l1, .int .i64 o1, .slice x1 n1 c1, .int .i64 nx1, .int .i64 md1, .int .i64 lc1] 30)).alloc (.cells #[.int .i64 p2, .int .i64 a2, .int .i64 l2, .int .i64 o2, .slice x2 n2 c2, .int .i64 nx2, .int .i64 md2, .int .i64 lc2] 30)) w1.heap.size 30 #[.int .i64 p1, .int .i64 a1, .int .i64 l1, .int .i64 o1, .slice x1 n1 c1, .int .i64 nx1, .int .i64 md1, .int .i64 lc1] := (Blk.mk _ _ _ _ rfl).alloc _
  have bB : Blk ((w1.alloc (.cells #[.int .i64 p1, .int .i64 a1, .int .i64 l1, .int .i64 o1, .slice x1 n1 c1, .int .i64 nx1, .int .i64 md1, .int .i64 lc1] 30)).alloc (.cells #[.int .i64 p2, .int .i64 a2, .int .i64 l2, .int .i64 o2, .slice x2 n2 c2, .int .i64 nx2, .int .i64 md2, .int .i64 lc2] 30)) (w1.heap.size + 1) 30 #[.int .i64 p2, .int .i64 a2, .int .i64 l2, .int .i64 o2, .slice x2 n2 c2, .int .i64 nx2, .int .i64 md2, .int .i64 lc2] := Blk.mk _ _ _ _ (by simp)
  have N2 : New w ((w1.alloc (.cells #[.int .i64 p1, .int .i64 a1, .int .i64 l1, .int .i64 o1, .slice x1 n1 c1, .int .i64 nx1, .int .i64 md1, .int .i64 lc1] 30)).alloc (.cells #[.int .i64 p2, .int .i64 a2, .int .i64 l2, .int .i64 o2, .slice x2 n2 c2, .int .i64 nx2, .int .i64 md2, .int .i64 lc2] 30)) := (N1.alloc _).alloc _
  clear N1
  generalize ((w1.alloc (.cells #[.int .i64 p1, .int .i64 a1, .int .i64 l1, .int .i64 o1, .slice x1 n1 c1, .int .i64 nx1, .int .i64 md1, .int .i64 lc1] 30)).alloc (.cells #[.int .i64 p2, .int .i64 a2, .int .i64 l2, .int .i64 o2, .slice x2 n2 c2, .int .i64 nx2, .int .i64 md2, .int .i64 lc2] 30)) = w2 at *
  have bL := Blk.mk w2 w2.heap.size 5 #[.int .u8 5] rfl
  have hsrc := h.new (N2.alloc (.cells #[.int .u8 5] 5))
  go_wp2_with (at_builtin; refine wpList_ap _ rfl (.tmp 17) (.tmp 18) rfl 0 Try.underlying22 hi hz0 hz1 hz2 (.slice (some ⟨w2.heap.size, 0, none⟩) 1 1) 1 [5] rfl (own_lit5 bL) a n c zs rfl hsrc HN.out HNL.out (by omega) (by omega) (Nat.zero_le _) (w2.heap.size + 1) (by simp) ?_)
  intro g cap w3 how hg _
  have s2 := N2.size
  have N3 : New w w3 := (N2.alloc _).grow hg (fun k hk => by have e' : w2.heap.size = k := Option.some.inj hk; omega)
  have lA := bA.lt
  have lB := bB.lt
  have bA := (bA.alloc (.cells #[.int .u8 5] 5)).grow hg (fun e => by have e' : w2.heap.size = w1.heap.size := Option.some.inj e; omega)
  have bB := (bB.alloc (.cells #[.int .u8 5] 5)).grow hg (fun e => by have e' : w2.heap.size = w1.heap.size + 1 := Option.some.inj e; omega)
  have hb3 : BsAt w3 (some ⟨g, 0, none⟩) (5 :: zs) := BsAt.of_own (zs := 5 :: zs) (by simpa using how) (by intro z hz; rcases List.mem_cons.1 hz with rfl | hz; exact ⟨by omega, by omega⟩; exact h.lt z hz)
  have hg3 : g < w3.heap.size := (World.ownsRow.lt how g rfl).2
  have HL5 : Hid ((5 :: zs).length = 1 + n) := by show _ = _; rw [List.length_cons, HN.out]; omega
  clear how hg bL hsrc N2
  go_wp2_with fail
  refine (drawBetter (some ⟨g, 0, none⟩) (1 + n) cap (5 :: zs) _ hb3 HL5.out (by omega) (fun x _ hx => by obtain rfl := Option.some.inj hx; exact hg3)).mono ?_
  rintro e w4 ⟨p3, a3, l3, o3, nx3, md3, lc3, x3, n3, c3, p4, a4, l4, o4, nx4, md4, lc4, x4, n4, c4, rfl, h3l, -, N4⟩
  go_upto_region 5 with fail
  have hal : New w4 ((w4.alloc (.cells #[.int .i64 p3, .int .i64 a3, .int .i64 l3, .int .i64 o3, .slice x3 n3 c3, .int .i64 nx3, .int .i64 md3, .int .i64 lc3] 30)).alloc (.cells #[.int .i64 p4, .int .i64 a4, .int .i64 l4, .int .i64 o4, .slice x4 n4 c4, .int .i64 nx4, .int .i64 md4, .int .i64 lc4] 30)) := ((New.refl w4).alloc _).alloc _
  have bC : Blk ((w4.alloc (.cells #[.int .i64 p3, .int .i64 a3, .int .i64 l3, .int .i64 o3, .slice x3 n3 c3, .int .i64 nx3, .int .i64 md3, .int .i64 lc3] 30)).alloc (.cells #[.int .i64 p4, .int .i64 a4, .int .i64 l4, .int .i64 o4, .slice x4 n4 c4, .int .i64 nx4, .int .i64 md4, .int .i64 lc4] 30)) w4.heap.size 30 #[.int .i64 p3, .int .i64 a3, .int .i64 l3, .int .i64 o3, .slice x3 n3 c3, .int .i64 nx3, .int .i64 md3, .int .i64 lc3] := (Blk.mk _ _ _ _ rfl).alloc _
  have bA := (bA.new N4).new hal
  have bB := (bB.new N4).new hal
  have N5 := (N3.trans N4).trans hal
  clear N3 N4 hal hb3
  generalize ((w4.alloc (.cells #[.int .i64 p3, .int .i64 a3, .int .i64 l3, .int .i64 o3, .slice x3 n3 c3, .int .i64 nx3, .int .i64 md3, .int .i64 lc3] 30)).alloc (.cells #[.int .i64 p4, .int .i64 a4, .int .i64 l4, .int .i64 o4, .slice x4 n4 c4, .int .i64 nx4, .int .i64 md4, .int .i64 lc4] 30)) = w5 at *
  obtain ⟨ab, hab⟩ : ∃ v, Hid (decide (cmpW p1 o1 md1 lc1 n1 p2 o2 md2 lc2 n2 < 0) = v) := ⟨_, rfl⟩
  obtain ⟨ba, hba⟩ : ∃ v, Hid (decide (cmpW p2 o2 md2 lc2 n2 p1 o1 md1 lc1 n1 < 0) = v) := ⟨_, rfl⟩
  obtain ⟨t, ht⟩ : ∃ t, (p1 != p2) = t := ⟨_, rfl⟩
  have HT : Hid ((p1 != p2) = t) := ht
  have key : (ab = true → ba = false) ∧ (t = true → ab = false → ba = true) := by
    refine ⟨fun e => ?_, fun e1 e2 => ?_⟩
    · subst e
      rw [← hba.out]
      exact decide_eq_false (cmpW_asym (of_decide_eq_true hab.out))
    · subst e1
      subst e2
      rw [← hba.out]
      exact decide_eq_true (cmpW_tot (by have := HT.out; simpa using this) (of_decide_eq_false hab.out))
  have HK : Hid _ := key
  clear key
  have cA := bA.cells
  have cB := bB.cells
  go_wp2_with fail
  refine (implBT p1 a1 l1 o1 nx1 md1 lc1 x1 n1 c1 p2 a2 l2 o2 nx2 md2 lc2 x2 n2 c2 ab _ (by omega) (by omega) hab.out).mono ?_
  rintro e w6 ⟨rfl, h6⟩
  have bA := bA.new h6
  have bB := bB.new h6
  have bC := bC.new h6
  have N6 := N5.trans h6
  have cA := bA.cells
  have cB := bB.cells
  clear h6 N5
  go_wp2_with fail
  refine (implBT p2 a2 l2 o2 nx2 md2 lc2 x2 n2 c2 p1 a1 l1 o1 nx1 md1 lc1 x1 n1 c1 ba _ (by omega) (by omega) hba.out).mono ?_
  rintro e w7 ⟨rfl, h7⟩
  have bA := bA.new h7
  have bB := bB.new h7
  have bC := bC.new h7
  have N7 := N6.trans h7
  have cA := bA.cells
  have cB := bB.cells
  clear h7 N6
  have hzz : (ab != ab) = false := by simp
  cases ab
  · have ktt : t = true → ba = true := fun e => HK.out.2 e rfl
    cases t
    · cases ba
      all_goals
        go_wp2_with fail
        refine (specBT p1 a1 l1 o1 nx1 md1 lc1 x1 n1 c1 p2 a2 l2 o2 nx2 md2 lc2 x2 n2 c2 false _ (by omega) (by omega) hab.out).mono ?_
        rintro e w8 ⟨rfl, h8⟩
        go_wp2
        go_ret
        exact ⟨rfl, N7.trans h8⟩
    · obtain rfl := ktt rfl
      clear ktt
      go_wp2_with fail
      refine (specBT p1 a1 l1 o1 nx1 md1 lc1 x1 n1 c1 p2 a2 l2 o2 nx2 md2 lc2 x2 n2 c2 false _ (by omega) (by omega) hab.out).mono ?_
      rintro e w8 ⟨rfl, h8⟩
      go_wp2
      go_ret
      exact ⟨rfl, N7.trans h8⟩
  · obtain rfl := HK.out.1 rfl
    obtain ⟨bc, hbc⟩ : ∃ v, Hid (decide (cmpW p2 o2 md2 lc2 n2 p3 o3 md3 lc3 n3 < 0) = v) := ⟨_, rfl⟩
    cases t
    all_goals
      go_wp2_with fail
      refine (specBT p1 a1 l1 o1 nx1 md1 lc1 x1 n1 c1 p2 a2 l2 o2 nx2 md2 lc2 x2 n2 c2 true _ (by omega) (by omega) hab.out).mono ?_
      rintro e w8 ⟨rfl, h8⟩
      have bA := bA.new h8
      have bB := bB.new h8
      have bC := bC.new h8
      have N8 := N7.trans h8
      have cA := bA.cells
      have cB := bB.cells
      have cC := bC.cells
      clear h8 N7
      go_wp2_with fail
      refine (implBT p2 a2 l2 o2 nx2 md2 lc2 x2 n2 c2 p3 a3 l3 o3 nx3 md3 lc3 x3 n3 c3 bc _ (by omega) (by omega) hbc.out).mono ?_
      rintro e w9 ⟨rfl, h9⟩
      have bA := bA.new h9
      have bC := bC.new h9
      have N9 := N8.trans h9
      have cA := bA.cells
      have cC := bC.cells
      clear h9 N8 cB
      cases bc
      · go_wp2
        go_ret
        exact ⟨rfl, N9⟩
      · have hac : Hid (decide (cmpW p1 o1 md1 lc1 n1 p3 o3 md3 lc3 n3 < 0) = true) := decide_eq_true (cmpW_tra (of_decide_eq_true hab.out) (of_decide_eq_true hbc.out))
        go_wp2_with fail
        refine (implBT p1 a1 l1 o1 nx1 md1 lc1 x1 n1 c1 p3 a3 l3 o3 nx3 md3 lc3 x3 n3 c3 true _ (by omega) (by omega) hac.out).mono ?_
        rintro e w10 ⟨rfl, h10⟩
        go_wp2
        go_ret
        exact ⟨rfl, N9.trans h10⟩


set_option maxRecDepth 100000 in
theorem fnor_lifted (os : Os) (started : os.Started) (H : Type) (enc : TypeId × Value → H) :
    ReturnsInHanded {} Try.checked os 3 .any (Rows.fnOrderedSpec.pre6 enc Try.prog Try.f3 Rows.fnOrderedRow.domain false) (Rows.fnOrderedSpec.post enc Try.prog Try.f3 false true false false) := by
  refine returnsInHanded_of_change (C := Try.checked) own started (by kernel_rfl) Try.func3
    (ChangeSpec.witness6 (enc := enc) (C := Try.checked) false ⟨#[], #[.slice none 0 0], []⟩ 8 (by kernel_rfl) (by kernel_rfl) (by kernel_rfl) (by kernel_rfl)) ?_
  intro W base args ds gs before hval0 hW hcnd _
  have hval : ∀ (j : Nat) t v, Try.f3.params[j]? = some t → args[j]? = some v → Value.okWide Try.prog W .any base t v := hval0
  have hW' := hW
  obtain ⟨p, q, hA0, hV, rfl, hfz, hnd⟩ := hW
  have hA : DataW.TrodAll enc Try.prog W 0 (fun _ => true) true Try.f3.params.toList args.toList ds p := hA0
  rw [Try.params3] at hA hval
  obtain ⟨v0, vs0, d0, ds0, p0, q0, hargs, rfl, rfl, h0, r0⟩ := trodAll_cons hA
  obtain ⟨rfl, rfl, rfl⟩ := trodAll_nil r0
  obtain rfl : args = #[v0] := by cases args; simp_all
  obtain ⟨rfl, rfl⟩ := trodVars_none hV
  have k0 := h0
  have lt0 : ∀ x ∈ p0, x.block < W.heap.size := by obtain ⟨m, hm⟩ := k0; exact DataW.trod_lt m _ _ _ hm
  obtain ⟨a0, len0, cap0, rfl⟩ := okWide_slice Try.underlying22 (hval 0 22 v0 rfl rfl)
  have nil0 := open_nil h0
  obtain ⟨z0, b0, e0, m0⟩ := open_bytes h0
  clear hA0 hval0
  refine (fnor_walk a0 len0 cap0 z0 W b0 e0 m0.2 nil0 (fun x h1 h2 => by obtain ⟨bb, oo, hh, hl⟩ := b0.block_lt h1; rw [h2] at hh; obtain rfl := Option.some.inj hh; exact hl)).mono fun e W' ⟨he, new⟩ => ?_
  have bel := new.below
  subst he
  exact ⟨_, rfl, _, _, _, [], _, [], hW', trodAll_mk1 (shut_bool Try.underlying4 _), (trodAll_cons_mk (Below.trod laidOut (by kernel_rfl) (of_decide_eq_true (by kernel_rfl)) k0 bel lt0) trodAll_mk0), rfl, bel.frame _, fun h => by cases h⟩

theorem fnor_holds : Rows.FnOrderedSaid :=
  OpenClaim.holds_of_wide 3 Try.f3 rfl rfl rfl rfl rfl rfl rfl ⟨rfl, rfl, rfl, rfl, rfl⟩ rfl rfl rfl rfl rfl (by kernel_rfl) Try.func3 (by kernel_rfl)
    (of_decide_eq_true (by kernel_rfl)) (by unfold Func.isWrapper; first | (rw [if_pos (by decide +kernel)]; kernel_rfl) | (rw [if_neg (by decide +kernel)]; exact ⟨rfl, rfl⟩))
    (fun os started H enc _ => fnor_lifted os started H enc)

end Go.Proofs.Ytgdlooecnkdimaa
