/- What is proved here: for every bytes the law on cuts returns true, and the bytes read as they did. No condition. -/
import Derived.Test.YtfaenhhmbdmdhaaJG3
import Derived.Test.YtfaenhhmbdmdhaaOpen
namespace Go.Proofs.Ytfaenhhmbdmdhaa
open Go.ChangeShapes Go.WideShapes Go.ChangeAt Go.RowKit Go.Sort
set_option linter.unusedVariables false
set_option linter.unusedSimpArgs false
set_option maxRecDepth 100000

theorem Sl10.nl {w : World} {a : Option Addr} {n c : Nat} (h : Sl10 w a n c) : Nl a n c := by
  rcases h with h | ⟨b, o, e, _⟩
  · exact .inl h
  · exact .inr ⟨b, o, e⟩

theorem Jd.sl {w : World} {lo n1 c1 n2 c2 : Nat} {A1 A2 : Option Addr} {us vs : List Int} (h : Jd w lo A1 n1 c1 A2 n2 c2 us vs) : Sl10 w A1 n1 c1 ∧ Sl10 w A2 n2 c2 := by
  refine ⟨?_, ?_⟩
  · rcases (ov_open h.o1 h.l1 h.b1).2.2 with h' | ⟨g, e, _, hg⟩
    · exact .inl h'
    · exact .inr ⟨g, 0, e, hg⟩
  · rcases (ov_open h.o2 h.l2 h.b2).2.2 with h' | ⟨g, e, _, hg⟩
    · exact .inl h'
    · exact .inr ⟨g, 0, e, hg⟩

set_option maxHeartbeats 12800000 in
theorem fncu_walk (a : Option Addr) (n c : Nat) (zs : List Int) (w : World) (h : BsAt w a zs) (hn : zs.length = n) (hm : n ≤ maxLen) (ha : ∀ x, zs ≠ [] → a = some x → x.block < w.heap.size) :
    Calls Try.prog 5 #[.slice a n c] w fun e w' => e = .returned (.bool true) ∧ New w w' := by
  by_cases hbig : 1048576 < n
  case pos =>
    go_enter Try.func5, Try.ntmps5
    go_wp2_with fail
    refine (lbig_yes a n c _ hbig).mono ?_
    rintro e w1 ⟨rfl, rfl⟩
    go_wp2
    go_ret
    exact ⟨rfl, New.refl _⟩
  have hmb : n ≤ 2097152 := by omega
  have HN : Hid (zs.length = n) := hn
  clear hm hn
  go_enter Try.func5, Try.ntmps5
  go_wp2_with fail
  refine (lbig_no a n c _ hbig).mono ?_
  rintro e wz ⟨rfl, hwz⟩
  obtain rfl := hwz.symm
  go_wp2_with fail
  refine (drawCu a n c zs _ h HN.out hmb ha).mono ?_
  rintro e w1 ⟨A1, A2, n1, c1, n2, c2, us, vs, kp, rfl, x1, x2, k1, k2, q1, q2, sl1, sl2, m1, m2, ⟨kp0, kp1⟩, hn1⟩
  have SL1 : Hid (Sl10 w1 A1 n1 c1) := sl1
  have SL2 : Hid (Sl10 w1 A2 n2 c2) := sl2
  have K1 : Hid (us.length = n1) := k1
  have K2 : Hid (vs.length = n2) := k2
  clear sl1 sl2 k1 k2
  have al := (New.refl w1).alloc (.cells #[.slice A1 n1 c1, .slice A2 n2 c2] 25)
  have b2 := Blk.mk w1 w1.heap.size 25 #[.slice A1 n1 c1, .slice A2 n2 c2] rfl
  have N2 := hn1.trans al
  have x12 := x1.new al
  have x22 := x2.new al
  have zz2 := al.size
  go_upto_region 4 with fail
  generalize w1.alloc (.cells #[.slice A1 n1 c1, .slice A2 n2 c2] 25) = w2 at *
  have z2 := b2.lt
  clear al hn1 x1 x2
  obtain ⟨⟨z, ct, us', vs'⟩, HR⟩ : ∃ r, Hid (r = cuA us vs kp) := ⟨_, rfl⟩
  have cc2 := b2.cells
  go_wp2_with fail
  have hI := implCun A1 A2 n1 c1 n2 c2 us vs w2 x12 x22 (SL1.out.up (by omega)) (SL2.out.up (by omega)) K1.out K2.out q1 q2 (by omega) (by omega) kp
  rw [← HR.out] at hI
  refine hI.mono ?_
  rintro e w3 hF
  obtain ⟨l1, l2⟩ := cu_bd HR.out x12.lt x22.lt
  obtain ⟨P1, p1, d1, P2, p2, d2, rfl, jd3, hn3⟩ := jr_jd (z := z) (ct := ct) hF l1 l2
  clear hI hF cc2
  have al := (New.refl w3).alloc (.cells #[.int .i64 z, .int .i64 ct, .slice P1 p1 d1, .slice P2 p2 d2] 29)
  have r4 := Blk.mk w3 w3.heap.size 29 #[.int .i64 z, .int .i64 ct, .slice P1 p1 d1, .slice P2 p2 d2] rfl
  have b4 := (b2.new hn3).new al
  have N4 := (N2.trans hn3).trans al
  have x14 := (x12.new hn3).new al
  have x24 := (x22.new hn3).new al
  have jd4 := jd3.new al
  have z34 := al.size
  have z23 := hn3.size
  go_upto_region 5 with fail
  generalize w3.alloc (.cells #[.int .i64 z, .int .i64 ct, .slice P1 p1 d1, .slice P2 p2 d2] 29) = w4 at *
  clear al b2 N2 x12 x22 jd3 hn3
  have hfd : ∀ (c0 c1 c2 c3 : Value) (X : World), (Instr.field 29 (.agg #[c0, c1, c2, c3]) 0).run Try.prog X = .ok c0 X := fun _ _ _ _ _ => by kernel_rfl
  by_cases hc : z = 0
  case neg =>
    have hc' : (z != 0) = true := by simpa using hc
    have hrr : (z == z) = true := by simp
    have c4 := r4.cells
    go_upto_region 6 with fail
    clear c4
    refine hw_start (n := 8) (S := fun X => New w4 X) rfl (by kernel_rfl) ((New.refl _).drew) (fun hH => ?_)
    refine' hw_take 0 (some 22) (.agg #[.slice A1 n1 c1, .slice A2 n2 c2]) rfl rfl (by kernel_rfl) (by kernel_rfl) (by kernel_rfl) (fun _ _ _ h => h) (by rfl) hH ?hzA ?rzA
    case hzA =>
      intro X hX
      exact run_load_blk 25 (.tmp 3) rfl w1.heap.size rfl #[.slice A1 n1 c1, .slice A2 n2 c2] _ (b4.new hX) Try.underlying25 rfl (by kernel_rfl)
    simp only [Act.put, List.setIfInBounds_toArray, List.set_cons_zero, List.set_cons_succ]
    refine' hw_take 1 (some 23) _ rfl rfl (by kernel_rfl) (by kernel_rfl) (by kernel_rfl) (fun _ _ _ h => h) (by rfl) hH ?hy1 ?rest1
    case hy1 =>
      intro X hX
      go_simp
      try rfl
    simp only [Act.put, List.setIfInBounds_toArray, List.set_cons_zero, List.set_cons_succ]
    refine' hw_take 4 (some 26) _ rfl rfl (by kernel_rfl) (by kernel_rfl) (by kernel_rfl) (fun _ _ _ h => h) (by rfl) hH ?hy2 ?rest2
    case hy2 =>
      intro X hX
      go_simp
      try rfl
    simp only [Act.put, List.setIfInBounds_toArray, List.set_cons_zero, List.set_cons_succ]
    refine' hw_take 5 (some 27) _ rfl rfl (by kernel_rfl) (by kernel_rfl) (by kernel_rfl) (fun _ _ _ h => h) (by rfl) hH ?hy3 ?rest3
    case hy3 =>
      intro X hX
      have cX := (r4.new hX).cells
      go_simp
      try rfl
    simp only [Act.put, List.setIfInBounds_toArray, List.set_cons_zero, List.set_cons_succ]
    refine hw_call 2 (some 24) rfl rfl (by kernel_rfl) (by rfl) (fun K hK => ?_)
    go_simp
    have hI := specCun A1 A2 n1 c1 n2 c2 us vs _ (x14.new hH) (x24.new hH) SL1.out.nl SL2.out.nl K1.out K2.out q1 q2 (by omega) (by omega) kp
    rw [← HR.out] at hI
    refine hI.mono ?_
    rintro e w5 hF
    obtain ⟨Q1, o1, e1, Q2, o2, e2, rfl, jd5, hn5⟩ := jr_jd (z := z) (ct := ct) hF l1 l2
    clear hI hF
    go_simp
    have n5 := hH.trans hn5
    refine hK.out _ _ n5 (fun _ => ?_)
    simp only [Act.put, List.setIfInBounds_toArray, List.set_cons_zero, List.set_cons_succ]
    refine' hw_take 3 (some 25) _ rfl rfl (by kernel_rfl) (by kernel_rfl) (by kernel_rfl) (fun _ _ _ h => h) (by rfl) n5 ?hy4 ?rest4
    case hy4 =>
      intro X hX
      go_simp
      try rfl
    simp only [Act.put, List.setIfInBounds_toArray, List.set_cons_zero, List.set_cons_succ]
    refine' hw_take 6 (some 28) _ rfl rfl (by kernel_rfl) (by kernel_rfl) (by kernel_rfl) (fun _ _ _ h => h) (by rfl) n5 ?hy5 ?rest5
    case hy5 =>
      intro X hX
      go_simp
      try rfl
    simp only [Act.put, List.setIfInBounds_toArray, List.set_cons_zero, List.set_cons_succ]
    refine' hw_take 7 (some 2) _ rfl rfl (by kernel_rfl) (by kernel_rfl) (by kernel_rfl) (fun _ _ _ h => h) (by rfl) n5 ?hy6 ?rest6
    case hy6 =>
      intro X hX
      go_simp
      try rfl
    simp only [Act.put, List.setIfInBounds_toArray, List.set_cons_zero, List.set_cons_succ]
    refine wpAnyH_done (by kernel_rfl) ?_ _
    go_wp2
    go_ret
    exact ⟨rfl, N4.trans n5⟩
  subst hc
  obtain ⟨ect, hjf, h6, happ, hle, hat, hl1, hor, hpos⟩ := cu_zero HR.out
  subst ect
  have HB1 : Hid (∀ z ∈ us, 0 ≤ z ∧ z ≤ 255) := x14.lt
  have HB2 : Hid (∀ z ∈ vs, 0 ≤ z ∧ z ≤ 255) := x24.lt
  obtain ⟨y1, g1, -⟩ := ov_open jd4.o1 jd4.l1 jd4.b1
  obtain ⟨y2, g2, -⟩ := ov_open jd4.o2 jd4.l2 jd4.b2
  have SJ : Hid (Sl10 w4 P1 p1 d1 ∧ Sl10 w4 P2 p2 d2) := jd4.sl
  have J1 : Hid (us'.length = p1) := jd4.l1
  have J2 : Hid (vs'.length = p2) := jd4.l2
  have hlen : us'.length + vs'.length = p1 + p2 := by rw [J1.out, J2.out]
  have hb' : Hid (∀ z ∈ us' ++ vs', 0 ≤ z ∧ z ≤ 255) := by intro z hz; rcases List.mem_append.1 hz with hz | hz; exact l1 z hz; exact l2 z hz
  have r1 : (convert 22 9 (.slice A1 n1 c1)).run Try.prog w4 = .ok (.string (str9 us)) w4 := run_str9 A1 n1 c1 us w4 x14 K1.out SL1.out.no
  have r2 : (convert 22 9 (.slice A2 n2 c2)).run Try.prog w4 = .ok (.string (str9 vs)) w4 := run_str9 A2 n2 c2 vs w4 x24 K2.out SL2.out.no
  have r3 : (convert 22 9 (.slice P1 p1 d1)).run Try.prog w4 = .ok (.string (str9 us')) w4 := run_str9 P1 p1 d1 us' w4 y1 J1.out SJ.out.1.no
  have r4' : (convert 22 9 (.slice P2 p2 d2)).run Try.prog w4 = .ok (.string (str9 vs')) w4 := run_str9 P2 p2 d2 vs' w4 y2 J2.out SJ.out.2.no
  have ha1 := str9_app us vs
  have ha2 := str9_app us' vs'
  have sa : (str9 (us ++ vs)).size = n1 + n2 := by rw [str9_size, List.length_append, K1.out, K2.out]
  have sb : (str9 (us' ++ vs')).size = p1 + p2 := by rw [str9_size, List.length_append, J1.out, J2.out]
  have sx : (str9 (us ++ vs)).extract 0 (p1 + p2) = str9 (us' ++ vs') := by
    rw [str9_cut _ _ (by rw [List.length_append]; omega), happ, hlen]
  have HAT : Hid (((eAts (us' ++ vs') 0).length : Int) = ct) := hat
  obtain ⟨cap, wB, r5, yB, lB, nB, cB⟩ := str_bytes (us' ++ vs') hb'.out w4
  rw [sb] at r5
  have lBB : (us' ++ vs').length = p1 + p2 := by rw [List.length_append, J1.out, J2.out]
  rw [lBB] at cB
  have hpos' : ct = 0 ∨ 0 < p1 + p2 := by omega
  have hor' : p2 = 0 ∨ p1 = n1 := by have := J1.out; have := J2.out; have := K1.out; omega
  have hl1' : p1 ≤ n1 := by have := J1.out; have := K1.out; omega
  have hle' : p1 + p2 ≤ n1 + n2 := by have := K1.out; have := K2.out; omega
  have h6' : p1 + p2 ≤ 6000 := by omega
  have HL : Hid ((us' ++ vs').length = p1 + p2) := lBB
  have ss1 : (str9 us).size + (str9 vs).size ≤ 9223372036854775807 := by rw [str9_size, str9_size, K1.out, K2.out]; omega
  have ss2 : (str9 us').size + (str9 vs').size ≤ 9223372036854775807 := by rw [str9_size, str9_size, J1.out, J2.out]; omega
  have c4 := r4.cells
  have b4c := b4.cells
  clear hlen hle hl1 hor hpos happ hat lBB
  generalize str9 (us ++ vs) = SA at *
  generalize hSB : str9 (us' ++ vs') = SB at *
  generalize str9 us = S1 at *
  generalize str9 vs = S2 at *
  generalize str9 us' = S3 at *
  generalize str9 vs' = S4 at *
  clear hSB
  go_wp2_with fail
  refine (implRE w4.heap.size 0 (p1 + p2) cap (us' ++ vs') wB yB lB HL.out cB (by omega)).mono ?_
  rintro e w5 hRE
  unfold ReAns at hRE
  rw [if_neg (by rw [HL.out]; omega)] at hRE
  obtain ⟨yE, kE, dE, V, rfl, hkE, hRd, hVt⟩ := hRE
  have hkE' : (kE : Int) = ct := by rw [← HAT.out, ← hVt, List.length_map, hkE]
  have n5 := nB.trans hRd.new
  clear hRd hVt hkE r1 r2 r3 r4' r5 c4 b4c
  generalize (eUse (us' ++ vs') 0 : Int) = ue at *
  have al := (New.refl w5).alloc (.cells #[.int .i64 0, .int .i64 ue, .slice yE kE dE] 33)
  have e6 := Blk.mk w5 w5.heap.size 33 #[.int .i64 0, .int .i64 ue, .slice yE kE dE] rfl
  have r6 := (r4.new n5).new al
  have b6 := (b4.new n5).new al
  have N6 := (N4.trans n5).trans al
  have jd6 := (jd4.new n5).new al
  go_upto_region 10 with fail
  generalize w5.alloc (.cells #[.int .i64 0, .int .i64 ue, .slice yE kE dE] 33) = w6 at *
  clear al r4 b4 N4 jd4 n5 y1 y2
  obtain ⟨y1, -, -⟩ := ov_open jd6.o1 jd6.l1 jd6.b1
  obtain ⟨y2, -, -⟩ := ov_open jd6.o2 jd6.l2 jd6.b2
  have cr := r6.cells
  simp only [List.append_eq, List.cons_append, List.nil_append]
  go_wp2_with fail
  have hI := implJFn P1 P2 p1 d1 p2 d2 us' vs' w6 y1 y2 jd6.sl.1 jd6.sl.2 J1.out J2.out g1 g2 (by omega) (by omega)
  rw [hjf] at hI
  refine hI.mono ?_
  rintro e w7 ⟨rfl, hn7⟩
  have r7 := r6.new hn7
  have b7 := b6.new hn7
  have e7 := e6.new hn7
  have N7 := N6.trans hn7
  clear hI cr r6 b6 e6 N6 hn7 jd6 y1 y2
  have cr := r7.cells
  have cb := b7.cells
  have ce := e7.cells
  have t1 : (ct == ct) = true := by simp
  have t2 : ((kE : Int) == ct) = true := by simp [hkE']
  have t3 : decide (((p1 + p2 : Nat) : Int) ≤ ((n1 + n2 : Nat) : Int)) = true := decide_eq_true (by omega)
  have t3' : decide ((p1 : Int) + (p2 : Int) ≤ (n1 : Int) + (n2 : Int)) = true := decide_eq_true (by omega)
  have t4 : (SB.toList == SB.toList) = true := str_same SB
  have t5 : decide ((p1 : Int) ≤ (n1 : Int)) = true := decide_eq_true (by omega)
  clear hkE'
  by_cases hz2 : p2 = 0
  · subst hz2
    replace sx : SA.extract 0 p1 = SB := sx
    replace sb : SB.size = p1 := sb
    replace hpos' : ct = 0 ∨ 0 < p1 := hpos'
    replace t3 : decide ((p1 : Int) ≤ (n1 : Int) + (n2 : Int)) = true := decide_eq_true (by omega)
    by_cases hk0 : ct = 0
    · subst hk0
      go_wp2
      go_ret
      exact ⟨rfl, N7⟩
    · have t7 : (ct == 0) = false := by simpa using hk0
      have t8 : (0 : Int) < (p1 : Int) := by omega
      have t8n : decide (0 < p1) = true := decide_eq_true (by omega)
      go_wp2
      go_ret
      exact ⟨rfl, N7⟩
  · have t6 : ((p2 : Int) == 0) = false := by simpa using hz2
    have e1 : p1 = n1 := by omega
    subst e1
    have t9 : ((p1 : Int) == (p1 : Int)) = true := by simp
    by_cases hk0 : ct = 0
    · subst hk0
      go_wp2
      go_ret
      exact ⟨rfl, N7⟩
    · have t7 : (ct == 0) = false := by simpa using hk0
      have t8 : (0 : Int) < (p1 : Int) + (p2 : Int) := by omega
      go_wp2
      go_ret
      exact ⟨rfl, N7⟩

set_option maxRecDepth 100000 in
theorem fncu_lifted (os : Os) (started : os.Started) (H : Type) (enc : TypeId × Value → H) :
    ReturnsInHanded {} Try.checked os 5 .any (Rows.fnCutsSpec.pre6 enc Try.prog Try.f5 Rows.fnCutsRow.domain false) (Rows.fnCutsSpec.post enc Try.prog Try.f5 false true false false) := by
  refine returnsInHanded_of_change (C := Try.checked) own started (by kernel_rfl) Try.func5
    (ChangeSpec.witness6 (enc := enc) (C := Try.checked) false ⟨#[], #[.slice none 0 0], []⟩ 8 (by kernel_rfl) (by kernel_rfl) (by kernel_rfl) (by kernel_rfl)) ?_
  intro W base args ds gs before hval0 hW hcnd _
  have hval : ∀ (j : Nat) t v, Try.f5.params[j]? = some t → args[j]? = some v → Value.okWide Try.prog W .any base t v := hval0
  have hW' := hW
  obtain ⟨p, q, hA0, hV, rfl, hfz, hnd⟩ := hW
  have hA : DataW.TrodAll enc Try.prog W 0 (fun _ => true) true Try.f5.params.toList args.toList ds p := hA0
  rw [Try.params5] at hA hval
  obtain ⟨v0, vs0, d0, ds0, p0, q0, hargs, rfl, rfl, h0, r0⟩ := trodAll_cons hA
  obtain ⟨rfl, rfl, rfl⟩ := trodAll_nil r0
  obtain rfl : args = #[v0] := by cases args; simp_all
  obtain ⟨rfl, rfl⟩ := trodVars_none hV
  have k0 := h0
  have lt0 : ∀ x ∈ p0, x.block < W.heap.size := by obtain ⟨m, hm⟩ := k0; exact DataW.trod_lt m _ _ _ hm
  obtain ⟨a0, len0, cap0, rfl⟩ := okWide_slice Try.underlying22 (hval 0 22 v0 rfl rfl)
  obtain ⟨z0, b0, e0, m0⟩ := open_bytes h0
  clear hA0 hval0
  refine (fncu_walk a0 len0 cap0 z0 W b0 e0 m0.2 (fun x h1 h2 => by obtain ⟨bb, oo, hh, hl⟩ := b0.block_lt h1; rw [h2] at hh; obtain rfl := Option.some.inj hh; exact hl)).mono fun e W' ⟨he, new⟩ => ?_
  have bel := new.below
  subst he
  exact ⟨_, rfl, _, _, _, [], _, [], hW', trodAll_mk1 (shut_bool Try.underlying4 _), (trodAll_cons_mk (Below.trod laidOut (by kernel_rfl) (of_decide_eq_true (by kernel_rfl)) k0 bel lt0) trodAll_mk0), rfl, bel.frame _, fun h => by cases h⟩

theorem fncu_holds : Rows.FnCutsSaid :=
  OpenClaim.holds_of_wide 5 Try.f5 rfl rfl rfl rfl rfl rfl rfl ⟨rfl, rfl, rfl, rfl, rfl⟩ rfl rfl rfl rfl rfl (by kernel_rfl) Try.func5 (by kernel_rfl)
    (of_decide_eq_true (by kernel_rfl)) (by unfold Func.isWrapper; first | (rw [if_pos (by decide +kernel)]; kernel_rfl) | (rw [if_neg (by decide +kernel)]; exact ⟨rfl, rfl⟩))
    (fun os started H enc _ => fncu_lifted os started H enc)

end Go.Proofs.Ytfaenhhmbdmdhaa
