/- What is proved here: for every list of bytes the law FnFences returns true, and the bytes read as they did. No condition but that the package-level variables hold what the text lays, which the card ties. -/
import Derived.Test.YtkjhjfdgkinpjaaDoorW11Fa
import Derived.Test.YtkjhjfdgkinpjaaDoorW11Do
import Derived.Test.YtkjhjfdgkinpjaaDoorW11Gl
import Derived.Test.YtkjhjfdgkinpjaaDoorW11Df
import Derived.Test.YtkjhjfdgkinpjaaDoorLwBig
import Derived.Test.YtkjhjfdgkinpjaaDoorTie
import Derived.Test.YtkjhjfdgkinpjaaDoorCards
namespace Go.Proofs.YtkjhjfdgkinpjaaDoor
open Go.ChangeShapes Go.WideShapes Go.ChangeAt Go.RowKit
set_option linter.unusedVariables false
set_option linter.unusedSimpArgs false
set_option maxRecDepth 100000

theorem WrA.bad {w w' : World} {z : Int} {e : Ending} (h : WrA w (Wr.bad z) e w') : ∃ (p a b : Option Addr) (f c d : Nat), e = .returned (.agg #[.int .i64 z, .slice p 0 f, .int .i64 0, .slice a 0 c, .int .i64 0, .slice b 0 d]) ∧ New w w' := by
  obtain ⟨p, a, b, f, c, d, rfl, -, -, -, -, -, -, hn⟩ := h
  exact ⟨p, a, b, f, c, d, rfl, hn⟩
theorem sF_old {E T k : Int} {n m : Nat} (h : wF E T n m = 0) (h1 : 1 ≤ k) (h2 : k ≤ 1000) (h3 : k < E) : sF E T k n m = 9 := by
  unfold sF
  rw [if_pos h, if_neg (by omega), if_pos h3]
theorem sF_ok {E T k : Int} {n m : Nat} (h : wF E T n m = 0) (h1 : 1 ≤ k) (h2 : k ≤ 1000) (h3 : E ≤ k) : sF E T k n m = 0 := by
  unfold sF
  rw [if_pos h, if_neg (by omega), if_neg (by omega)]
theorem wF_ok {E T : Int} {n m : Nat} (h1 : 0 ≤ E) (h2 : E ≤ 1000) (h3 : n ≤ 2000) (h4 : m ≤ 2000) (h5 : 0 ≤ T) (h6 : T ≤ (n : Int)) : wF E T n m = 0 := by
  unfold wF
  rw [if_neg (by omega), if_neg (by omega), if_neg (by omega)]
/-- A list of the call's own, as an argument. -/
theorem OvB.arg {w : World} {lo n c : Nat} {a : Option Addr} {xs : List Int} (h : OvB w lo (.slice a n c) xs) : (a = none → xs.length = 0 ∧ c = 0) ∧ ((a = none ∧ xs.length = 0 ∧ c = 0) ∨ ∃ b o, a = some ⟨b, o, none⟩) ∧ xs.length ≤ c := by
  rcases h.form with ⟨e, rfl⟩ | ⟨g, cap, e, _, hc, _⟩
  · obtain ⟨rfl, rfl, rfl⟩ : a = none ∧ n = 0 ∧ c = 0 := by simpa using e
    exact ⟨fun _ => ⟨rfl, rfl⟩, .inl ⟨rfl, rfl, rfl⟩, Nat.le_refl _⟩
  · obtain ⟨rfl, rfl, rfl⟩ : a = some ⟨g, 0, none⟩ ∧ n = xs.length ∧ c = cap := by simpa using e
    exact ⟨(by intro h; cases h), .inr ⟨g, 0, rfl⟩, hc⟩


set_option maxHeartbeats 6400000 in
theorem fnfe_walk (a : Option Addr) (n c : Nat) (zs : List Int) (w : World) (hG : Glob w) (h : BsAt w a zs) (hn : zs.length = n) (hm : n ≤ maxLen) (ha : ∀ x, zs ≠ [] → a = some x → x.block < w.heap.size) :
    Calls Tryd.prog 4 #[.slice a n c] w fun e w' => e = .returned (.bool true) ∧ New w w' := by
  by_cases hbig : 1048576 < n
  · go_enter Tryd.func4, Tryd.ntmps4
    go_wp2_with fail
    refine (lbig_yes a n c _ hbig).mono ?_
    rintro e w0 ⟨rfl, hw0⟩
    rw [hw0]
    go_wp2
    go_ret
    exact ⟨rfl, New.refl _⟩
  have hfd0 : ∀ (c0 c1 c2 c3 c4 c5 : Value) (X : World), (Instr.field 29 (.agg #[c0, c1, c2, c3, c4, c5]) 0).run Tryd.prog X = .ok c0 X := fun _ _ _ _ _ _ _ => by kernel_rfl
  go_enter Tryd.func4, Tryd.ntmps4
  go_wp2_with fail
  refine (lbig_no a n c _ hbig).mono ?_
  rintro e w0 ⟨rfl, hw0⟩
  rw [hw0]
  go_wp2_with fail
  refine (drawFence_any a n c zs _ h hn (by omega) ha).mono ?_
  rintro e w1 ⟨E, T, ep, g1, c1, g2, c2, xs, ys, rfl, hW, N1⟩
  clear h hn hm ha hbig
  have al := (New.refl w1).alloc (.cells #[.int .i64 E, .slice (some ⟨g1, 0, none⟩) xs.length c1, .int .i64 T, .slice (some ⟨g2, 0, none⟩) ys.length c2] 25)
  have bV := Blk.mk w1 w1.heap.size 25 #[.int .i64 E, .slice (some ⟨g1, 0, none⟩) xs.length c1, .int .i64 T, .slice (some ⟨g2, 0, none⟩) ys.length c2] rfl
  go_upto_region 4 with fail
  have N2 := N1.trans al
  have hW2 := hW.new al
  generalize w1.alloc (.cells #[.int .i64 E, .slice (some ⟨g1, 0, none⟩) xs.length c1, .int .i64 T, .slice (some ⟨g2, 0, none⟩) ys.length c2] 25) = w2 at *
  have cV := bV.cells
  have lx := hW2.n1
  have ly := hW2.n2
  have hG2 := hG.new N2
  clear hW al N1
  go_wp2_with fail
  refine (implFW E T ep _ _ _ _ xs ys _ hG2 hW2.b1 hW2.b2 (by intro h; cases h) (by intro h; cases h) (by omega) (by omega)).mono ?_
  rintro e w3 hA
  by_cases hf : sF E T ep xs.length ys.length = 0
  · obtain ⟨hf0, hep1, hep2, hep3⟩ := sF_zero hf
    obtain ⟨⟨hE0, hE1⟩, ⟨hn2, hm2⟩, hT0, hT1⟩ := wF_zero hf0
    have hA' : WrAns w2 0 ep T [] xs ys e w3 := by
      have := hA
      unfold WrA fwA at this
      rw [if_pos hf] at this
      exact this
    obtain ⟨p5, a5, b5, f5, c5, d5, rfl, -, q1, q2, -, -, -, hn3⟩ := hA'
    have HW : Hid (wF ep T xs.length ys.length = 0) := wF_ok (by omega) (by omega) hn2 hm2 hT0 hT1
    obtain ⟨i1, i2, i3⟩ := q1.arg
    obtain ⟨j1, j2, j3⟩ := q2.arg
    have I1 : Hid (a5 = none → xs.length = 0 ∧ c5 = 0) := i1
    have I2 : Hid ((a5 = none ∧ xs.length = 0 ∧ c5 = 0) ∨ ∃ b o, a5 = some ⟨b, o, none⟩) := i2
    have J1 : Hid (b5 = none → ys.length = 0 ∧ d5 = 0) := j1
    have J2 : Hid ((b5 = none ∧ ys.length = 0 ∧ d5 = 0) ∨ ∃ g o, b5 = some ⟨g, o, none⟩) := j2
    have X3 := (q1.ow hW2.b1.lt).2.1
    have Y3 := (q2.ow hW2.b2.lt).2.1
    clear i1 i2 j1 j2 hA q1 q2 hf hf0 cV bV
    have al := (New.refl w3).alloc (.cells #[.int .i64 0, .slice p5 0 f5, .int .i64 ep, .slice a5 xs.length c5, .int .i64 T, .slice b5 ys.length d5] 29)
    have bR := Blk.mk w3 w3.heap.size 29 #[.int .i64 0, .slice p5 0 f5, .int .i64 ep, .slice a5 xs.length c5, .int .i64 T, .slice b5 ys.length d5] rfl
    go_upto_region 5 with fail
    have N4 := (N2.trans hn3).trans al
    have X4 := X3.new al
    have Y4 := Y3.new al
    generalize w3.alloc (.cells #[.int .i64 0, .slice p5 0 f5, .int .i64 ep, .slice a5 xs.length c5, .int .i64 T, .slice b5 ys.length d5] 29) = w4 at *
    clear hn3 al X3 Y3 hW2 hG2
    have cR := bR.cells
    have hee : (ep != ep) = false := by simp
    go_wp2_with fail
    refine (implWF ep T a5 b5 xs.length c5 ys.length d5 _ (by omega) (by omega)).mono ?_
    rw [HW.out]
    rintro e w5 ⟨rfl, hn5⟩
    have N5 := N4.trans hn5
    have bR5 := bR.new hn5
    have X5 := X4.new hn5
    have Y5 := Y4.new hn5
    clear cR N4 bR X4 Y4 hn5
    go_wp2
    go_loopw [6] (fun i wr => ∃ k : Nat, 1 ≤ k ∧ k ≤ 9 ∧ i = .int .i64 k ∧ New w5 wr) (fun i _ => 9 - (intOf i).toNat)
    case atStart => exact ⟨1, by omega, by omega, rfl, New.refl _⟩
    case round =>
      obtain ⟨k, hk1, hk9, rfl, hnr⟩ := hrel
      have bR6 := bR5.new hnr
      have cR := bR6.cells
      have X6 := X5.new hnr
      have Y6 := Y5.new hnr
      have N6 := N5.trans hnr
      by_cases hgo : (k : Int) < ep ∧ k < 9
      · obtain ⟨hke, hk8⟩ := hgo
        have hke' : (k : Int) < 9 := by omega
        have HO : Hid (sF ep T (k : Int) xs.length ys.length = 9) := sF_old HW.out (by omega) (by omega) hke
        have D1 : Hid (doA ep T (k : Int) 0 xs ys [] = Wr.bad 9) := by unfold Hid doA; rw [HO.out]; rfl
        have D2 : Hid (aiA ep T (k : Int) 0 xs ys = Wr.bad 9) := by unfold Hid aiA; rw [HO.out]; rfl
        have D3 : Hid (tiA ep T (k : Int) 0 1 xs ys = Wr.bad 9) := by unfold Hid tiA; rw [HO.out]; rfl
        have D4 : Hid (fwA ep T (k : Int) xs ys = Wr.bad 9) := by unfold Hid fwA; rw [HO.out]; rfl
        go_wp2_with fail
        refine (implDO ep T (k : Int) 0 a5 b5 none c5 d5 0 xs ys [] _ (hG.new N6) J2.out j3 (.inl ⟨rfl, rfl, rfl⟩) (Nat.le_refl _) (BsAt.nil _ _) (by simp) X6 Y6 I1.out J1.out (by omega) (by omega)).mono ?_
        rw [D1.out]
        rintro e w7 hA7
        obtain ⟨v1, v2, v3, v1n, v2n, v3n, rfl, hn7⟩ := hA7.bad
        have cR7 := (bR6.new hn7).cells
        have N7 := hnr.trans hn7
        clear cR
        go_wp2_with fail
        refine (implAI ep T (k : Int) 0 a5 b5 c5 d5 xs ys _ (hG.new (N5.trans N7)) (X5.new N7) (Y5.new N7) I1.out J1.out (by omega) (by omega)).mono ?_
        rw [D2.out]
        rintro e w8 hA8
        obtain ⟨v4, v5, v6, v4n, v5n, v6n, rfl, hn8⟩ := hA8.bad
        have N8 := N7.trans hn8
        have cR8 := (bR5.new N8).cells
        clear cR7
        go_wp2_with fail
        refine (implTI ep T (k : Int) 0 1 a5 b5 c5 d5 xs ys _ (hG.new (N5.trans N8)) I2.out i3 (X5.new N8) (Y5.new N8) I1.out J1.out (by omega) (by omega)).mono ?_
        rw [D3.out]
        rintro e w9 hA9
        obtain ⟨v7, v8, v9, v7n, v8n, v9n, rfl, hn9⟩ := hA9.bad
        have N9 := N8.trans hn9
        have cR9 := (bR5.new N9).cells
        clear cR8
        go_wp2_with fail
        refine (implFW ep T (k : Int) a5 b5 c5 d5 xs ys _ (hG.new (N5.trans N9)) (X5.new N9) (Y5.new N9) I1.out J1.out (by omega) (by omega)).mono ?_
        rw [D4.out]
        rintro e w10 hA10
        obtain ⟨v10, v11, v12, v10n, v11n, v12n, rfl, hn10⟩ := hA10.bad
        have N10 := N9.trans hn10
        clear cR9
        go_wp2
        go_roundw
        case rel => exact ⟨k + 1, by omega, by omega, by go_num, N10⟩
        case measure => simp [intOf]; omega
      · have HO : Hid (sF ep T ep xs.length ys.length = 0) := sF_ok HW.out (by omega) (by omega) (Int.le_refl _)
        have D3 : Hid (tiA ep T ep 0 1 xs ys = ⟨0, ep, T, (xs.drop 0).take 1, xs, ys⟩) := by
          unfold Hid tiA
          rw [if_pos HO.out, if_neg (by omega)]
          rfl
        by_cases hke : (k : Int) < ep
        · have hk8 : ¬ (k : Int) < 9 := by omega
          go_wp2_with fail
          refine (implTI ep T ep 0 1 a5 b5 c5 d5 xs ys _ (hG.new N6) I2.out i3 X6 Y6 I1.out J1.out (by omega) (by omega)).mono ?_
          rw [D3.out]
          rintro e w9 ⟨p9, a9, b9, f9, c9, d9, rfl, -, -, -, -, -, -, hn9⟩
          go_wp2
          go_ret
          exact ⟨rfl, N6.trans hn9⟩
        · skip
          go_wp2_with fail
          refine (implTI ep T ep 0 1 a5 b5 c5 d5 xs ys _ (hG.new N6) I2.out i3 X6 Y6 I1.out J1.out (by omega) (by omega)).mono ?_
          rw [D3.out]
          rintro e w9 ⟨p9, a9, b9, f9, c9, d9, rfl, -, -, -, -, -, -, hn9⟩
          go_wp2
          go_ret
          exact ⟨rfl, N6.trans hn9⟩
  · have hf' : (sF E T ep xs.length ys.length != 0) = true := by simp [hf]
    have hA' : WrA w2 (Wr.bad (sF E T ep xs.length ys.length)) e w3 := by
      unfold fwA at hA
      rw [if_neg hf] at hA
      exact hA
    have HF : Hid (¬ sF E T ep xs.length ys.length = 0) := hf
    obtain ⟨v1, v2, v3, v1n, v2n, v3n, rfl, hn3⟩ := hA'.bad
    clear hA hA' hf
    have al := (New.refl w3).alloc (.cells #[.int .i64 (sF E T ep xs.length ys.length), .slice v1 0 v1n, .int .i64 0, .slice v2 0 v2n, .int .i64 0, .slice v3 0 v3n] 29)
    have bR := Blk.mk w3 w3.heap.size 29 #[.int .i64 (sF E T ep xs.length ys.length), .slice v1 0 v1n, .int .i64 0, .slice v2 0 v2n, .int .i64 0, .slice v3 0 v3n] rfl
    go_upto_region 5 with fail
    have N4 := (N2.trans hn3).trans al
    have bV4 := (bV.new hn3).new al
    have hW4 := (hW2.new hn3).new al
    generalize w3.alloc (.cells #[.int .i64 (sF E T ep xs.length ys.length), .slice v1 0 v1n, .int .i64 0, .slice v2 0 v2n, .int .i64 0, .slice v3 0 v3n] 29) = w4 at *
    clear hn3 al cV bV hW2
    have cV := bV4.cells
    have cR := bR.cells
    have cVd := (bV4.new ((New.refl _).drew)).cells
    have cRd := (bR.new ((New.refl _).drew)).cells
    have hfA : Hid (fwA E T ep xs ys = Wr.bad (sF E T ep xs.length ys.length)) := by unfold Hid fwA; rw [if_neg HF.out]
    have hzz : (sF E T ep xs.length ys.length == sF E T ep xs.length ys.length) = true := by simp
    go_wp2_with fail
    go_region_held3 (fun X => (∀ j, X.cell? ⟨w1.heap.size, j, none⟩ = (#[.int .i64 E, .slice (some ⟨g1, 0, none⟩) xs.length c1, .int .i64 T, .slice (some ⟨g2, 0, none⟩) ys.length c2] : Array Value)[j]?) ∧ (∀ j, X.cell? ⟨w3.heap.size, j, none⟩ = (#[.int .i64 (sF E T ep xs.length ys.length), .slice v1 0 v1n, .int .i64 0, .slice v2 0 v2n, .int .i64 0, .slice v3 0 v3n] : Array Value)[j]?)) (first | exact ⟨cV, cR⟩ | exact ⟨cVd, cRd⟩ | exact ⟨cV5, cR5⟩)
      (first
        | (go_at_call 15; refine (specFW E T ep _ _ _ _ xs ys _ (hW4.b1.new ((New.refl _).drew)) (hW4.b2.new ((New.refl _).drew)) (by intro h; cases h) (by intro h; cases h) (by omega) (by omega)).mono ?_; rw [hfA.out]; rintro e w5 hA5; obtain ⟨u1, u2, u3, u1n, u2n, u3n, rfl, hn5⟩ := hA5.bad; have n5 : New w4 w5 := ((New.refl _).drew).trans hn5; have cV5 := (bV4.new n5).cells; have cR5 := (bR.new n5).cells))
    all_goals
      clear cV cR cVd cRd cV5 cR5
      go_wp2
      go_ret
      exact ⟨rfl, N4.trans n5⟩


theorem fnfe_any (a : Option Addr) (n c : Nat) (zs : List Int) (w : World) (hG : Glob w) (h : BsAt w a zs) (hn : zs.length = n) (hm : n ≤ maxLen) :
    Calls Tryd.prog 4 #[.slice a n c] w fun e w' => e = .returned (.bool true) ∧ New w w' := by
  refine fnfe_walk a n c zs w hG h hn hm ?_
  intro x hz hx
  obtain ⟨b, off, e, hl⟩ := h.block_lt hz
  rw [e] at hx
  obtain rfl := Option.some.inj hx
  exact hl

set_option maxRecDepth 100000 in
theorem fnfe_lifted (os : Os) (started : os.Started) (H : Type) (enc : TypeId × Value → H) :
    ReturnsInHanded {} Tryd.checked os 4 .any (fun w args => (Rows.fnFencesSpec.pre enc Tryd.prog Tryd.f4 Rows.fnFencesRow.domain false w args ∧ laidMetH Tryd.prog Rows.fnFencesRow.laid w) ∧ sizedMet enc Tryd.prog Tryd.f4 (OpenSpec.ofChange Rows.fnFencesSpec) false w args)
      (Rows.fnFencesSpec.post enc Tryd.prog Tryd.f4 false true false false) := by
  refine returnsInHanded_of_change_and (C := Tryd.checked) (X := fun w _ => laidMetH Tryd.prog Rows.fnFencesRow.laid w) (fun _ _ _ hh h => h.of_heap hh) own started (by kernel_rfl) Tryd.func4
    (ChangeSpec.witness_at (enc := enc) (C := Tryd.checked) (os := os) (X := fun w _ => laidMetH Tryd.prog Rows.fnFencesRow.laid w) false (laidWorld11 os) #[.slice none 0 0] 8 rfl (by kernel_rfl) (by kernel_rfl) (by kernel_rfl) (by kernel_rfl) (by kernel_rfl) (laidWorld11_met os _)) ?_
  intro W base args ds gs before hval0 hW hcnd _ hL _
  have hval : ∀ (j : Nat) t v, Tryd.f4.params[j]? = some t → args[j]? = some v → Value.okWide Tryd.prog W .any base t v := hval0
  have hW' := hW
  obtain ⟨p, q, hA0, hV0, rfl, hfz, hnd⟩ := hW
  have hA : DataW.TrodAll enc Tryd.prog W 0 (fun _ => true) true Tryd.f4.params.toList args.toList ds p := hA0
  have hV : DataW.TrodVars enc Tryd.prog W (fun _ => true) [nameN] gs q := hV0
  have kV := hV
  rw [Tryd.params4] at hA hval
  obtain ⟨v0, vs0, d0, ds0, p0, q0, hargs, rfl, rfl, h0, r0⟩ := trodAll_cons hA
  obtain ⟨rfl, rfl, rfl⟩ := trodAll_nil r0
  obtain rfl : args = #[v0] := by cases args; simp_all
  obtain ⟨gg, tt, cc, ff, dd, pp, rfl, -, -, -, -, -⟩ := trodVars_one hV
  have k0 := h0
  have lt0 : ∀ x ∈ p0, x.block < W.heap.size := by obtain ⟨m, hm⟩ := k0; exact DataW.trod_lt m _ _ _ hm
  obtain ⟨a0, len0, cap0, rfl⟩ := okWide_slice Tryd.underlying22 (hval 0 22 v0 rfl rfl)
  obtain ⟨z0, b0, e0, m0⟩ := open_bytes h0
  clear hA0 hval0
  refine (fnfe_any a0 len0 cap0 z0 W (glob_of_laid hL) b0 e0 m0.2).mono fun e W' ⟨he, new⟩ => ?_
  have bel := new.below
  subst he
  exact ⟨_, rfl, _, _, _, [], _, _, hW', trodAll_mk1 (shut_bool Tryd.underlying4 _), (trodAll_cons_mk (Below.trod laidOut (by kernel_rfl) (of_decide_eq_true (by kernel_rfl)) k0 bel lt0) trodAll_mk0), Below.trodVars laidOut bel (by kernel_rfl) kV, bel.frame _, fun h => by cases h⟩

theorem fnfe_row : Rows.FnFencesSaid :=
  OpenClaim.holds_of_wide 4 Tryd.f4 rfl rfl rfl rfl rfl rfl rfl ⟨rfl, rfl, rfl, rfl, rfl⟩ rfl rfl rfl rfl rfl (by kernel_rfl) Tryd.func4 (by kernel_rfl)
    (of_decide_eq_true (by kernel_rfl)) (by unfold Func.isWrapper; first | (rw [if_pos (by decide +kernel)]; kernel_rfl) | (rw [if_neg (by decide +kernel)]; exact ⟨rfl, rfl⟩))
    (fun os started H enc _ => fnfe_lifted os started H enc)

theorem fnfe_holds : Rows.FnFencesCardSaid :=
  Claim7.holds_tied_plain_at .later [] [.handle, .sentinel] true (true, Rows.fnFencesCard.stood.harness.2) true
    fnfe_row (fun _ h => by cases h) (by kernel_rfl) (fun _ h => by cases h) fnFences_row_tie rfl ⟨rfl, rfl⟩ (by kernel_rfl) rfl
    (fun f fn hf hfn => by
      obtain rfl : f = 4 := Option.some.inj ((show Tryd.prog.funcNamed Rows.fnFencesRow.func = some 4 by kernel_rfl).symm.trans hf) |>.symm
      obtain rfl : fn = Tryd.f4 := (Option.some.inj (Tryd.func4.symm.trans hfn)).symm
      exact ⟨by kernel_rfl, fun j t ht => by
        rw [Tryd.params4] at ht
        have h3 : t = 22 := by
          rcases j with _ | j
          · simpa using ht.symm
          · simp at ht
        subst h3
        exact (show Tryd.prog.wantsStandIn 22 = false by kernel_rfl)⟩)
    (by kernel_rfl)

end Go.Proofs.YtkjhjfdgkinpjaaDoor
