/- What is proved here: for every two lists of things told the law on SameTold returns true, and the lists read as they did. No condition. -/
import Derived.Test.YthnjfgapeigjkaaT8Ls
import Derived.Test.YthnjfgapeigjkaaT8Sm
namespace Go.Proofs.Ythnjfgapeigjkaa
open Go.ChangeShapes Go.WideShapes Go.ChangeAt Go.RowKit Go.Sort
set_option linter.unusedVariables false

set_option maxHeartbeats 3200000 in
theorem ast_walk (x : Option Addr) (n c : Nat) (V : List Tv) (y : Option Addr) (m d : Nat) (U : List Tv) (w : World) (h : TdCame w x V) (hn : V.length = n) (hm : n ≤ maxLen) (k : TdCame w y U) (kn : U.length = m) (km : m ≤ maxLen) : Calls Try.prog 4 #[.slice x n c, .slice y m d] w fun e w' => e = .returned (.bool true) ∧ New w w' := by
  have HN : Hid (V.length = n) := hn
  have KN : Hid (U.length = m) := kn
  go_enter Try.func4, Try.ntmps4
  go_wp2_with fail
  refine (szTds_any x n c V 1048576 _ h hn hm (by omega) (by omega)).mono ?_
  rintro e w1 ⟨⟨z, rfl, hz⟩, hn1⟩
  clear hn hm
  rcases hz with rfl | ⟨hz0, hz1, hm', hall⟩
  · go_wp2
    go_ret
    exact ⟨rfl, hn1⟩
  · have hV := (h.rt hall).new hn1
    clear h hall
    go_wp2_with fail
    refine (szTds_any y m d U z _ (k.new hn1) kn km hz0 hz1).mono ?_
    rintro e w2 ⟨⟨z2, rfl, hz2⟩, hn2⟩
    clear kn km
    rcases hz2 with rfl | ⟨hz20, hz21, km', kall⟩
    · go_wp2
      go_ret
      exact ⟨rfl, hn1.trans hn2⟩
    · have hw2 := hn1.trans hn2
      have hV := hV.new hn2
      have hU := (k.rt kall).new hw2
      clear k kall hn1 hn2
      obtain ⟨v, hv⟩ : ∃ v : Bool, Hid (v = true ↔ V.map Tv.r = U.map Tv.r) := by
        by_cases e : V.map Tv.r = U.map Tv.r
        · exact ⟨true, ⟨fun _ => e, fun _ => rfl⟩⟩
        · exact ⟨false, ⟨(fun e' => by cases e'), fun e' => absurd e' e⟩⟩
      have hvv : (v != v) = false := by simp
      go_wp2_with fail
      refine (toTds_any x n c V _ hV HN.out hm').mono ?_
      rintro e w3 ⟨g3, V3, rfl, hv3, ho3, hn3⟩
      go_wp2_with fail
      refine (toTds_any y m d U _ (hU.new hn3) KN.out km').mono ?_
      rintro e w4 ⟨g4, U4, rfl, hu4, ho4, hn4⟩
      have r3 := (ho3.new hn4).rt
      have r4 := ho4.rt
      go_wp2_with fail
      refine (specST _ _ n m n m V3 U4 v _ r3.1 r4.1 r3.2 r4.2 hm' km' (by rw [hv3, hu4]; exact hv.out)).mono ?_
      rintro e w5 ⟨rfl, hn5⟩
      have hw5 := (hn3.trans hn4).trans hn5
      clear ho3 ho4 r3 r4 hn3 hn4 hn5 hv3 hu4
      go_wp2_with fail
      refine (toTds_any x n c V _ (hV.new hw5) HN.out hm').mono ?_
      rintro e w6 ⟨g6, V6, rfl, hv6, ho6, hn6⟩
      go_wp2_with fail
      refine (toTds_any y m d U _ ((hU.new hw5).new hn6) KN.out km').mono ?_
      rintro e w7 ⟨g7, U7, rfl, hu7, ho7, hn7⟩
      have r6 := (ho6.new hn7).rt
      have r7 := ho7.rt
      go_wp2_with fail
      refine (implST _ _ n m n m V6 U7 v _ r6.1 r7.1 r6.2 r7.2 hm' km' (by rw [hv6, hu7]; exact hv.out)).mono ?_
      rintro e w8 ⟨rfl, hn8⟩
      have hw8 := ((hw5.trans hn6).trans hn7).trans hn8
      have r6a := r6.1.new hn8
      have r7a := r7.1.new hn8
      clear ho6 ho7 hn6 hn7 hn8 hw5
      go_wp2_with fail
      refine (toTds_any x n c V _ (hV.new hw8) HN.out hm').mono ?_
      rintro e w9 ⟨g9, V9, rfl, hv9, ho9, hn9⟩
      have r9 := ho9.rt
      go_wp2_with fail
      refine (eqTds_any _ _ n n n V6 V9 _ (r6a.new hn9) r9.1 (by rw [hv6, hv9]) r6.2 hm').mono ?_
      rintro e w10 ⟨rfl, hn10⟩
      have hw10 := (hw8.trans hn9).trans hn10
      have r7b := (r7a.new hn9).new hn10
      clear ho9 r9 hn9 hn10 hw8 r6a r7a
      go_wp2_with fail
      refine (toTds_any y m d U _ (hU.new hw10) KN.out km').mono ?_
      rintro e w11 ⟨g11, U11, rfl, hu11, ho11, hn11⟩
      have r11 := ho11.rt
      go_wp2_with fail
      refine (eqTds_any _ _ m m m U7 U11 _ (r7b.new hn11) r11.1 (by rw [hu7, hu11]) r7.2 km').mono ?_
      rintro e w12 ⟨rfl, hn12⟩
      go_wp2
      go_ret
      exact ⟨rfl, hw2.trans ((hw10.trans hn11).trans hn12)⟩


set_option maxRecDepth 100000 in
theorem ast_lifted (os : Os) (started : os.Started) (H : Type) (enc : TypeId × Value → H) :
    ReturnsInHanded {} Try.checked os 4 .any (Rows.fnExactSameToldSpec.pre6 enc Try.prog Try.f4 Rows.fnExactSameToldRow.domain false) (Rows.fnExactSameToldSpec.post enc Try.prog Try.f4 false true false false) := by
  refine returnsInHanded_of_change (C := Try.checked) own started (by kernel_rfl) Try.func4
    (ChangeSpec.witness6 (enc := enc) (C := Try.checked) false ⟨#[], #[.slice none 0 0, .slice none 0 0], []⟩ 8 (by kernel_rfl) (by kernel_rfl) (by kernel_rfl) (by kernel_rfl)) ?_
  intro W base args ds gs before hval0 hW hcnd _
  have hval : ∀ (j : Nat) t v, Try.f4.params[j]? = some t → args[j]? = some v → Value.okWide Try.prog W .any base t v := hval0
  have hW' := hW
  obtain ⟨p, q, hA0, hV, rfl, hfz, hnd⟩ := hW
  have hA : DataW.TrodAll enc Try.prog W 0 (fun _ => true) true Try.f4.params.toList args.toList ds p := hA0
  rw [Try.params4] at hA hval
  obtain ⟨v0, vs0, d0, ds0, p0, q0, hargs, rfl, rfl, h0, r0⟩ := trodAll_cons hA
  obtain ⟨v1, vs1, d1, ds1, p1, q1, rfl, rfl, rfl, h1, r1⟩ := trodAll_cons r0
  obtain ⟨rfl, rfl, rfl⟩ := trodAll_nil r1
  obtain rfl : args = #[v0, v1] := by cases args; simp_all
  obtain ⟨rfl, rfl⟩ := trodVars_none hV
  have k0 := h0
  have lt0 : ∀ x ∈ p0, x.block < W.heap.size := by obtain ⟨m, hm⟩ := k0; exact DataW.trod_lt m _ _ _ hm
  obtain ⟨a0, len0, cap0, rfl⟩ := okWide_slice Try.underlying22 (hval 0 22 v0 rfl rfl)
  obtain ⟨z0, b0, e0, m0⟩ := open_tolds h0
  have k1 := h1
  have lt1 : ∀ x ∈ p1, x.block < W.heap.size := by obtain ⟨m, hm⟩ := k1; exact DataW.trod_lt m _ _ _ hm
  obtain ⟨a1, len1, cap1, rfl⟩ := okWide_slice Try.underlying22 (hval 1 22 v1 rfl rfl)
  obtain ⟨z1, b1, e1, m1⟩ := open_tolds h1
  clear hA0 hval0
  refine (ast_walk a0 len0 cap0 z0 a1 len1 cap1 z1 W b0 e0 m0 b1 e1 m1).mono fun e W' ⟨he, new⟩ => ?_
  have bel := new.below
  subst he
  exact ⟨_, rfl, _, _, _, [], _, [], hW', trodAll_mk1 (shut_bool Try.underlying4 _), (trodAll_cons_mk (Below.trod laidOut (by kernel_rfl) (of_decide_eq_true (by kernel_rfl)) k0 bel lt0) (trodAll_cons_mk (Below.trod laidOut (by kernel_rfl) (of_decide_eq_true (by kernel_rfl)) k1 bel lt1) trodAll_mk0)), rfl, bel.frame _, fun h => by cases h⟩

theorem ast_holds : Rows.FnExactSameToldSaid :=
  OpenClaim.holds_of_wide 4 Try.f4 rfl rfl rfl rfl rfl rfl rfl ⟨rfl, rfl, rfl, rfl, rfl⟩ rfl rfl rfl rfl rfl (by kernel_rfl) Try.func4 (by kernel_rfl)
    (of_decide_eq_true (by kernel_rfl)) (by unfold Func.isWrapper; first | (rw [if_pos (by decide +kernel)]; kernel_rfl) | (rw [if_neg (by decide +kernel)]; exact ⟨rfl, rfl⟩))
    (fun os started H enc _ => ast_lifted os started H enc)

end Go.Proofs.Ythnjfgapeigjkaa
