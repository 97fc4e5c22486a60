/- What is proved here: for every list of bytes the law on SplitFrames returns true, and the list reads as it did. No condition. -/
import Derived.Test.YtopkihgdemcneagOpen
import Derived.Test.YtopkihgdemcneagFrsHeld
namespace Go.Proofs.Ytopkihgdemcneag
open Go.ChangeShapes Go.WideShapes Go.ChangeAt Go.RowKit
set_option linter.unusedVariables false

theorem splitF_bd (f : Nat) : ∀ l : List Int, (splitF f l).2.1 ≤ l.length ∧ 5 * (splitF f l).2.2.length ≤ (splitF f l).2.1 ∧ ∀ x ∈ (splitF f l).2.2, x.2.length ≤ 120 := by
  induction f with
  | zero => intro l; simp [splitF]
  | succ f ih =>
    intro l
    unfold splitF
    by_cases h1 : headM l ≠ 0
    · rw [if_pos h1]; simp
    · by_cases h2 : l.length < 5 ∨ l.length < szM l
      · rw [if_neg h1, if_pos h2]; simp
      · rw [if_neg h1, if_neg h2]
        have hk := head_ok (l := l) (by omega) (by omega)
        obtain ⟨i1, i2, i3⟩ := ih (l.drop (szM l))
        rw [List.length_drop] at i1
        refine ⟨by simp only; omega, by simp only [List.length_cons]; omega, ?_⟩
        intro x hx
        simp only [List.mem_cons] at hx
        rcases hx with rfl | hx
        · simp only [List.length_drop, List.length_take]; omega
        · exact i3 x hx
theorem splitR_bd (zs : List Int) : (splitR zs).2.2.length ≤ 80 ∧ ∀ x ∈ (splitR zs).2.2, x.2.length ≤ 120 := by
  unfold splitR
  split
  · simp
  · have := splitF_bd (zs.length + 1) zs
    exact ⟨by omega, this.2.2⟩

set_option maxHeartbeats 3200000 in
theorem sf_walk (a : Option Addr) (n c : Nat) (zs : List Int) (w : World) (h : BsAt w a zs) (hn : zs.length = n) (hm : n ≤ maxLen) :
    Calls Try.prog 5 #[.slice a n c] w fun e w' => e = .returned (.bool true) ∧ New w w' := by
  unfold maxLen at hm
  by_cases hbig : 1048576 < n
  · go_enter Try.func5, Try.ntmps5
    go_wp2
    go_ret
    exact ⟨rfl, New.refl _⟩
  · have hz := h.lt
    have hm' : n ≤ 1048576 := by omega
    clear hm
    have HN : Hid (zs.length = n) := hn
    have hbd := splitR_bd zs
    have HBD : Hid _ := hbd
    clear hn hbd
    obtain ⟨R, hR⟩ : ∃ R, splitR zs = R := ⟨_, rfl⟩
    have hS := fun b off c W hW hc => specSplit_any b off n c zs W hW HN.out hc hm'
    have hI := fun b off c W hW hc => implSplit_any b off n c zs W hW HN.out hc hm'
    rw [hR] at hS hI HBD
    obtain ⟨r1, r2, fs⟩ := R
    have HS : Hid _ := hS
    have HI : Hid _ := hI
    clear hS hI hR
    go_enter Try.func5, Try.ntmps5
    go_wp2_with fail
    refine (toBytes_any a n c zs _ h HN.out hm').mono ?_
    rintro e w1 ⟨g1, rfl, hg1, ho1, hn1⟩
    go_wp2_with fail
    refine (HS.out _ _ _ _ (BsAt.of_own ho1 hz) (Nat.le_refl _)).mono ?_
    rintro e w2 ⟨a2, n2, c2, F2, rfl, hF2, hn2, hfs2⟩
    simp only at hfs2
    have HF2 : Hid (fs = F2.map Fr.out) := hfs2
    have hl2 : ∀ f ∈ F2, f.zs.length ≤ 1000 := fun f hf => by
      have := HBD.out.2 f.out (by rw [hfs2]; exact List.mem_map_of_mem hf)
      simp only [Fr.out] at this
      omega
    have hl2' : ∀ (i : Nat) (f : Fr), F2[i]? = some f → f.zs.length ≤ 1048576 := fun i f hf => by have := hl2 f (List.mem_of_getElem? hf); omega
    have hn80 : n2 ≤ 80 := by have := HBD.out.1; rw [hfs2] at this; simp only [List.length_map] at this; rw [hF2.len] at this; exact this
    have b2 := Blk.mk w2 w2.heap.size 39 #[.int .i64 r1, .int .i64 r2, .slice a2 n2 c2] rfl
    have hA2 := (New.refl w2).alloc (.cells #[.int .i64 r1, .int .i64 r2, .slice a2 n2 c2] 39)
    have hF2' := hF2.new hA2
    have hw2 := (hn1.trans hn2).trans hA2
    have s1 := hn1.size
    clear hfs2 hF2 ho1 hn1 hn2 hA2 hg1
    go_wp2_with fail
    refine (toBytes_any a n c zs _ (h.new hw2) HN.out hm').mono ?_
    rintro e w3 ⟨g3, rfl, hg3, ho3, hn3⟩
    have b3 := b2.new hn3
    have hF3 := hF2'.new hn3
    have hw3 := hw2.trans hn3
    have s3 := hn3.size
    simp at hg3 s3
    have hlt3 := (ho3.lt g3 rfl).2
    clear b2 hF2' hn3
    go_wp2_with fail
    refine (HI.out _ _ _ _ (BsAt.of_own ho3 hz) (Nat.le_refl _)).mono ?_
    rintro e w4 ⟨a4, n4, c4, F4, rfl, hF4, hn4, hfs4⟩
    simp only at hfs4
    obtain rfl : n4 = n2 := by rw [← hF4.len, ← hF3.len]; have h1 := congrArg List.length HF2.out; have h2 := congrArg List.length hfs4; simp only [List.length_map] at h1 h2; omega
    have HFF : Hid (F4.map Fr.out = F2.map Fr.out) := hfs4.symm.trans HF2.out
    have hl4 : ∀ f ∈ F4, f.zs.length ≤ 1000 := fun f hf => by
      have := HBD.out.2 f.out (by rw [hfs4]; exact List.mem_map_of_mem hf)
      simp only [Fr.out] at this
      omega
    have hl4' : ∀ (i : Nat) (f : Fr), F4[i]? = some f → f.zs.length ≤ 1048576 := fun i f hf => by have := hl4 f (List.mem_of_getElem? hf); omega
    have hA4 := (New.refl w4).alloc (.cells #[.int .i64 r1, .int .i64 r2, .slice a4 n4 c4] 39)
    have b4 := Blk.mk w4 w4.heap.size 39 #[.int .i64 r1, .int .i64 r2, .slice a4 n4 c4] rfl
    have b34 := b3.new (hn4.trans hA4)
    have hF34 := hF3.new (hn4.trans hA4)
    have hF44 := hF4.new hA4
    have ho34 := own_new ho3 (hn4.trans hA4)
    have hw4 := (hw3.trans hn4).trans hA4
    have s4 := hn4.size
    have c3 := b34.cells
    have c4' := b4.cells
    clear b3 hF3 hF4 hfs4 hA4 hn4 ho3
    go_wp2_with fail
    refine (eqFR_any r1 r2 a4 a2 n4 c4 c2 _ _ _ _ F4 F2 _ hF44 hF34 HFF.out (by omega) hl4').mono ?_
    rintro e w5 ⟨rfl, hn5⟩
    have b35 := b34.new hn5
    have b45 := b4.new hn5
    have hF35 := hF34.new hn5
    have hF45 := hF44.new hn5
    have ho35 := own_new ho34 hn5
    have hw5 := hw4.trans hn5
    clear c3 c4' b34 b4 hF34 hF44 ho34 hn5
    go_wp2_with fail
    refine (toBytes_any a n c zs _ (h.new hw5) HN.out hm').mono ?_
    rintro e w6 ⟨g6, rfl, hg6, ho6, hn6⟩
    go_wp2_with fail
    refine (eqBytes_any _ _ n n n zs _ ((BsAt.of_own ho35 hz).new hn6) (BsAt.of_own ho6 hz) HN.out hm').mono ?_
    rintro e w7 ⟨rfl, hn7⟩
    have hn67 := hn6.trans hn7
    have b37 := b35.new hn67
    have b47 := b45.new hn67
    have hF37 := hF35.new hn67
    have hF47 := hF45.new hn67
    have ho37 := own_new ho35 hn67
    have hw7 := hw5.trans hn67
    clear b35 b45 hF35 hF45 ho35 hn67 hn6 hn7 ho6 hg6
    go_wp2_with fail
    refine (mark_any _ n n 1 zs _ (OwAt.of_own ho37) (by omega) (by omega) (by omega)).mono ?_
    rintro e w8 ⟨rfl, -, ht8⟩
    have hin : ∀ k, inA (some ⟨g3, 0, none⟩) k → k = g3 := by rintro k ⟨x, hx, hb⟩; obtain rfl := Option.some.inj hx; exact hb
    have b38 := b37.turn ht8 (fun hh => b37.ne_own ho37 (by decide) (hin _ hh))
    have b48 := b47.turn ht8 (fun hh => b47.ne_own ho37 (by decide) (hin _ hh))
    have hF38 := hF37.turn ht8 (fun k h1 h2 hh => by have := hin k hh; omega)
    have hF48 := hF47.turn ht8 (fun k h1 h2 hh => by have := hin k hh; omega)
    have hw8 : New w w8 := hw7.before ht8 (fun i hi hh => by have := hin i hh; have := hw2.size; simp at this; omega)
    clear b37 b47 hF37 hF47 ho37 ht8 hin
    have c3 := b38.cells
    have c4' := b48.cells
    go_wp2_with fail
    refine (eqFR_any r1 r2 a4 a2 n4 c4 c2 _ _ _ _ F4 F2 _ hF48 hF38 HFF.out (by omega) hl4').mono ?_
    rintro e w9 ⟨rfl, hn9⟩
    have b39 := b38.new hn9
    have b49 := b48.new hn9
    have hF39 := hF38.new hn9
    have hF49 := hF48.new hn9
    have hw9 := hw8.trans hn9
    clear c3 c4' b38 b48 hF38 hF48 hn9
    have c4' := b49.cells
    go_wp2_with fail
    refine (markFR_any r1 r2 a4 n4 c4 _ _ 1 F4 _ hF49 (by omega) hl4 (by omega) (by omega)).mono ?_
    rintro e w10 ⟨rfl, hM10, ht10⟩
    have b310 := b39.turn ht10 (by omega)
    have b410 := b49.turn ht10 (by omega)
    have hF310 := hF39.turn ht10 (fun k h1 h2 hh => by omega)
    have hw10 : New w w10 := hw9.before ht10 (fun i hi hh => by have := hw3.size; omega)
    have hen := ends_bd (k := 1) (F := F4) (n := n4) (by have := hM10.len; rw [markF_length] at this; exact this) (by omega) hl4 n4 (Nat.le_refl _)
    have hen2 : F4.take n4 = F4 := List.take_of_length_le (by have := hM10.len; rw [markF_length] at this; omega)
    rw [hen2] at hen
    clear c4' b39 b49 hF39 hF49 ht10 hen2
    have c4' := b410.cells
    have hH := fun W hW => heldFR_any r1 r2 a4 n4 c4 w3.heap.size w4.heap.size 1 F4 W hW (by omega) hl4 (by omega) (by omega)
    have HH : Hid _ := hH
    clear hH
    generalize endF 1 F4 = q at *
    have hqq : (q != q) = false := by simp
    go_wp2_with fail
    refine (HH.out _ hM10).mono ?_
    rintro e w11 ⟨rfl, hn11⟩
    have b311 := b310.new hn11
    have b411 := b410.new hn11
    have hF311 := hF310.new hn11
    have hM11 := hM10.new hn11
    have hw11 := hw10.trans hn11
    clear c4' b310 b410 hF310 hM10 hn11
    go_wp2_with fail
    refine (toBytes_any a n c zs _ (h.new hw11) HN.out hm').mono ?_
    rintro e w12 ⟨g12, rfl, hg12, ho12, hn12⟩
    go_wp2_with fail
    refine (HI.out _ _ _ _ (BsAt.of_own ho12 hz) (Nat.le_refl _)).mono ?_
    rintro e w13 ⟨a13, n13, c13, F13, rfl, hF13, hn13, hfs13⟩
    simp only at hfs13
    obtain rfl : n13 = n4 := by rw [← hF13.len, ← hF311.len]; have h1 := congrArg List.length HF2.out; have h2 := congrArg List.length hfs13; simp only [List.length_map] at h1 h2; omega
    have HFF2 : Hid (F13.map Fr.out = F2.map Fr.out) := hfs13.symm.trans HF2.out
    have hl13' : ∀ (i : Nat) (f : Fr), F13[i]? = some f → f.zs.length ≤ 1048576 := fun i f hf => by
      have := HBD.out.2 f.out (by rw [hfs13]; exact List.mem_map_of_mem (List.mem_of_getElem? hf))
      simp only [Fr.out] at this
      omega
    have hA13 := (New.refl w13).alloc (.cells #[.int .i64 r1, .int .i64 r2, .slice a13 n13 c13] 39)
    have b13 := Blk.mk w13 w13.heap.size 39 #[.int .i64 r1, .int .i64 r2, .slice a13 n13 c13] rfl
    have hnn := (hn12.trans hn13).trans hA13
    have b313 := b311.new hnn
    have b413 := b411.new hnn
    have hF313 := hF311.new hnn
    have hM13 := hM11.new hnn
    have hF1313 := hF13.new hA13
    have hw13 := hw11.trans hnn
    clear b311 b411 hF311 hM11 hfs13 hA13 hnn hn12 hn13 ho12 hg12 hF13
    have c3 := b313.cells
    have c13' := b13.cells
    go_wp2_with fail
    refine (eqFR_any r1 r2 a13 a2 n13 c13 c2 _ _ _ _ F13 F2 _ hF1313 hF313 HFF2.out (by omega) hl13').mono ?_
    rintro e w14 ⟨rfl, hn14⟩
    have b414 := b413.new hn14
    have hM14 := hM13.new hn14
    have hw14 := hw13.trans hn14
    clear c3 c13' b13 b313 b413 hF313 hF1313 hM13 hn14
    have c4' := b414.cells
    go_wp2_with fail
    refine (HH.out _ hM14).mono ?_
    rintro e w15 ⟨rfl, hn15⟩
    go_wp2
    go_ret
    exact ⟨rfl, hw14.trans hn15⟩

set_option maxRecDepth 100000 in
theorem sf_lifted (os : Os) (started : os.Started) (H : Type) (enc : TypeId × Value → H) :
    ReturnsInHanded {} Try.checked os 5 .any (Rows.fnExactSplitFramesSpec.pre6 enc Try.prog Try.f5 Rows.fnExactSplitFramesRow.domain false) (Rows.fnExactSplitFramesSpec.post enc Try.prog Try.f5 false true false false) := by
  refine returnsInHanded_of_change (C := Try.checked) own started (by kernel_rfl) Try.func5
    (ChangeSpec.witness6 (enc := enc) (C := Try.checked) false ⟨#[], #[.slice none 0 0], []⟩ 8 (by kernel_rfl) (by kernel_rfl) (by kernel_rfl) (by kernel_rfl)) ?_
  intro W base args ds gs before hval0 hW hcnd _
  have hval : ∀ (j : Nat) t v, Try.f5.params[j]? = some t → args[j]? = some v → Value.okWide Try.prog W .any base t v := hval0
  have hW' := hW
  obtain ⟨p, q, hA0, hV, rfl, hfz, hnd⟩ := hW
  have hA : DataW.TrodAll enc Try.prog W 0 (fun _ => true) true Try.f5.params.toList args.toList ds p := hA0
  rw [Try.params5] at hA hval
  obtain ⟨v0, vs0, d0, ds0, p0, q0, hargs, rfl, rfl, h0, r0⟩ := trodAll_cons hA
  obtain ⟨rfl, rfl, rfl⟩ := trodAll_nil r0
  obtain rfl : args = #[v0] := by cases args; simp_all
  obtain ⟨rfl, rfl⟩ := trodVars_none hV
  have k0 := h0
  have lt0 : ∀ x ∈ p0, x.block < W.heap.size := by obtain ⟨m, hm⟩ := k0; exact DataW.trod_lt m _ _ _ hm
  obtain ⟨a0, len0, cap0, rfl⟩ := okWide_slice Try.underlying22 (hval 0 22 v0 rfl rfl)
  obtain ⟨z0, b0, e0, m0⟩ := open_bytes h0
  clear hA0 hval0
  refine (sf_walk a0 len0 cap0 z0 W b0 e0 m0.2).mono fun e W' ⟨he, new⟩ => ?_
  have bel := new.below
  subst he
  exact ⟨_, rfl, _, _, _, [], _, [], hW', trodAll_mk1 (shut_bool Try.underlying4 _), (trodAll_cons_mk (Below.trod laidOut (by kernel_rfl) (of_decide_eq_true (by kernel_rfl)) k0 bel lt0) trodAll_mk0), rfl, bel.frame _, fun h => by cases h⟩

theorem sf_holds : Rows.FnExactSplitFramesSaid :=
  OpenClaim.holds_of_wide 5 Try.f5 rfl rfl rfl rfl rfl rfl rfl ⟨rfl, rfl, rfl, rfl, rfl⟩ rfl rfl rfl rfl rfl (by kernel_rfl) Try.func5 (by kernel_rfl)
    (of_decide_eq_true (by kernel_rfl)) (by unfold Func.isWrapper; first | (rw [if_pos (by decide +kernel)]; kernel_rfl) | (rw [if_neg (by decide +kernel)]; exact ⟨rfl, rfl⟩))
    (fun os started H enc _ => sf_lifted os started H enc)

end Go.Proofs.Ytopkihgdemcneag
