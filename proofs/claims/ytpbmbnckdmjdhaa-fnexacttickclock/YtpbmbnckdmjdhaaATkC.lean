/- What is proved here: for every clock, number and list the law on TickClock returns true, and the arguments read as they did. No condition. -/
import Derived.Test.YtpbmbnckdmjdhaaC13Lw
import Derived.Test.YtpbmbnckdmjdhaaC13Tu
import Derived.Deep.CutRange
namespace Go.Proofs.Ytpbmbnckdmjdhaa
open Go.ChangeShapes Go.WideShapes Go.ChangeAt Go.RowKit
set_option linter.unusedVariables false

set_option linter.unusedSimpArgs false
set_option maxRecDepth 100000

set_option maxHeartbeats 6400000 in
theorem atkc_walk (nw t : Int) (a oa : Option Addr) (n c l d : Nat) (xs os : List Int) (w : World) (h : NsAt w a xs) (hn : xs.length = n) (hm : n ≤ maxLen) (ho : NsAt w oa os) (hl : os.length = l) (hk : l ≤ maxLen) :
    Calls Try.prog 10 #[.agg #[.int .i64 nw, .slice a n c], .int .i64 t, .slice oa l d] w fun e w' => e = .returned (.bool true) ∧ New w w' := by
  have N0 : New w (w.alloc (.cells #[.int .i64 nw, .slice a n c] 49)) := (New.refl w).alloc _
  by_cases hbl : 1048576 < l
  case pos =>
    have HL : Hid (os.length = l) := hl
    clear hl hn
    go_enter Try.func10, Try.ntmps10
    go_wp2
    go_ret
    exact ⟨rfl, N0⟩
  have hlb : ¬ (1048576 : Int) < (l : Int) := by omega
  by_cases hbig : 1048576 < n
  case pos =>
    have HL : Hid (os.length = l) := hl
    clear hl hn
    go_enter Try.func10, Try.ntmps10
    go_wp2_with fail
    refine (szCk_big nw a n c 1048576 _ (Nat.le_refl _) hm hbig).mono ?_
    rintro e w1 ⟨rfl, hn1⟩
    go_wp2
    go_ret
    exact ⟨rfl, N0.trans hn1⟩
  have hm' : n ≤ 1048576 := by omega
  have hk' : l ≤ 1048576 := by omega
  have hbd : Hid (∀ z ∈ xs, In6 z) := h.bd
  have hbo : Hid (∀ z ∈ os, In6 z) := ho.bd
  have HN : Hid (xs.length = n) := hn
  have HL : Hid (os.length = l) := hl
  have hS : Hid (∀ W g q, NsAt W (some ⟨g, 0, none⟩) xs → NsAt W (some ⟨q, 0, none⟩) os → Calls Try.prog 25 #[.agg #[.int .i64 nw, .slice (some ⟨g, 0, none⟩) n n], .int .i64 t, .slice (some ⟨q, 0, none⟩) l l] W (CkAns W (tiR nw xs t os))) := fun W g q hh hj => specTi nw t _ _ n n l l xs os W hh HN.out hm' hj HL.out hk'
  have hI : Hid (∀ W g q, NsAt W (some ⟨g, 0, none⟩) xs → NsAt W (some ⟨q, 0, none⟩) os → Calls Try.prog 13 #[.agg #[.int .i64 nw, .slice (some ⟨g, 0, none⟩) n n], .int .i64 t, .slice (some ⟨q, 0, none⟩) l l] W (CkAns W (tiR nw xs t os))) := fun W g q hh hj => implTi nw t _ _ n n l l xs os W hh HN.out hm' hj HL.out hk'
  have hin : Hid (∀ u ∈ (tiR nw xs t os).xs, In6 u) := ti_in nw t xs os hbd.out
  have hlm : Hid ((tiR nw xs t os).xs.length ≤ 2) := ti_len nw t xs os
  generalize tiR nw xs t os = r at hS hI hin hlm
  obtain ⟨rc, rn, rs⟩ := r
  obtain ⟨m, HM⟩ : ∃ m, Hid (rs.length = m) := ⟨_, rfl⟩
  have hm2 : m ≤ 2 := by rw [← HM.out]; exact hlm.out
  replace hin : Hid (∀ u ∈ rs, In6 u) := hin
  have hz : ((1 : Int) + (m : Int) != 1 + (m : Int)) = false := by simp
  have hnn : ¬ (1 : Int) + (m : Int) < 0 := by omega
  have hkn : decide ((1 : Int) + (n : Int) + (l : Int) < 0) = false := decide_eq_false (by omega)
  have hmk : Hid (∀ u ∈ mkN7 1 m, In6 u) := mkN7_in 1 m (by omega) (by omega) (by omega)
  clear hm hk hn hl hbig hbl hlm
  have bA0 := Blk.mk w w.heap.size 49 #[.int .i64 nw, .slice a n c] rfl
  go_enter Try.func10, Try.ntmps10
  go_wp2_with fail
  refine (szCk_ok nw a n c 1048576 _ (Nat.le_refl _) hm').mono ?_
  rintro e w1 ⟨rfl, hn1⟩
  have bA1 := bA0.new hn1
  have N1 := N0.trans hn1
  clear bA0 N0
  have cA := bA1.cells
  go_wp2_with fail
  refine (toCk_any nw a n c xs _ (h.new N1) HN.out hm').mono ?_
  rintro e w2 ⟨g2, rfl, hg2, oC2, hn2⟩
  have bA2 := bA1.new hn2
  have N2 := N1.trans hn2
  clear bA1 N1
  go_wp2_with fail
  refine (toNs_any oa l d os _ (ho.new N2) HL.out hk').mono ?_
  rintro e w3 ⟨g3, rfl, hg3, oO3, hn3⟩
  have bA3 := bA2.new hn3
  have N3 := N2.trans hn3
  have oC3 := oC2.new hn3
  clear bA2 N2 oC2
  go_wp2_with fail
  refine (hS.out _ g2 g3 (oC3.ns hbd.out) (oO3.ns hbo.out)).mono ?_
  rintro e w4 hans
  obtain ⟨vW, rfl, oV, hn4⟩ := hans
  obtain ⟨aW, kW, eV, oW4⟩ := oV.open HM.out
  clear oV
  subst eV
  clear oC3
  clear oO3
  have bA4 := bA3.new hn4
  have N4 := N3.trans hn4
  clear bA3 N3
  have zW0 := hn4.size
  clear cA
  go_upto_region 8 with fail
  have hal := (New.refl w4).alloc (.cells #[.int .i64 rc, .int .i64 rn, .slice aW m kW] 30)
  have bW5 := Blk.mk w4 w4.heap.size 30 #[.int .i64 rc, .int .i64 rn, .slice aW m kW] rfl
  have y5 : w4.heap.size < (w4.alloc (.cells #[.int .i64 rc, .int .i64 rn, .slice aW m kW] 30)).heap.size := by simp
  have bA5 := bA4.new hal
  have N5 := N4.trans hal
  have oW5 := oW4.new hal
  clear bA4 N4 oW4
  have z5 := hal.size
  clear hal
  generalize w4.alloc (.cells #[.int .i64 rc, .int .i64 rn, .slice aW m kW] 30) = w5 at *
  have zN5 := N5.size
  have lA5 := bA5.lt
  have cA := bA5.cells
  go_wp2_with fail
  refine (toCk_any nw a n c xs _ (h.new N5) HN.out hm').mono ?_
  rintro e w6 ⟨g6, rfl, hg6, oC6, hn6⟩
  have bA6 := bA5.new hn6
  have N6 := N5.trans hn6
  have oW6 := oW5.new hn6
  have bW6 := bW5.new hn6
  clear bA5 N5 oW5 bW5
  have zz6 := hn6.size
  have lC6 := oC6.lt
  clear cA hn6
  go_upto_region 9 with fail
  have hal := (New.refl w6).alloc (.cells #[.int .i64 nw, .slice (some ⟨g6, 0, none⟩) n n] 26)
  have bX7 := Blk.mk w6 w6.heap.size 26 #[.int .i64 nw, .slice (some ⟨g6, 0, none⟩) n n] rfl
  have y7 : w6.heap.size < (w6.alloc (.cells #[.int .i64 nw, .slice (some ⟨g6, 0, none⟩) n n] 26)).heap.size := by simp
  have bA7 := bA6.new hal
  have N7 := N6.trans hal
  have oW7 := oW6.new hal
  have bW7 := bW6.new hal
  have oC7 := oC6.new hal
  clear bA6 N6 oW6 bW6 oC6
  have z7 := hal.size
  clear hal
  generalize w6.alloc (.cells #[.int .i64 nw, .slice (some ⟨g6, 0, none⟩) n n] 26) = w7 at *
  go_wp2_with fail
  refine (toNs_any oa l d os _ (ho.new N7) HL.out hk').mono ?_
  rintro e w8 ⟨g8, rfl, hg8, oO8, hn8⟩
  have bA8 := bA7.new hn8
  have N8 := N7.trans hn8
  have oW8 := oW7.new hn8
  have bW8 := bW7.new hn8
  have oC8 := oC7.new hn8
  have bX8 := bX7.new hn8
  clear bA7 N7 oW7 bW7 oC7 bX7
  have zz8 := hn8.size
  have lO8 := oO8.lt
  clear hn8
  have cX := bX8.cells
  go_wp2_with fail
  refine (hI.out _ g6 g8 (oC8.ns hbd.out) (oO8.ns hbo.out)).mono ?_
  rintro e w9 hans
  obtain ⟨vG, rfl, oV, hn9⟩ := hans
  obtain ⟨aG, kG, eV, oG9⟩ := oV.open HM.out
  clear oV
  subst eV
  clear cX
  have bA9 := bA8.new hn9
  have N9 := N8.trans hn9
  have oW9 := oW8.new hn9
  have bW9 := bW8.new hn9
  have oC9 := oC8.new hn9
  have bX9 := bX8.new hn9
  have oO9 := oO8.new hn9
  clear bA8 N8 oW8 bW8 oC8 bX8 oO8
  have zz9 := hn9.size
  clear hn9
  go_upto_region 11 with fail
  have hal := (New.refl w9).alloc (.cells #[.int .i64 rc, .int .i64 rn, .slice aG m kG] 30)
  have bG10 := Blk.mk w9 w9.heap.size 30 #[.int .i64 rc, .int .i64 rn, .slice aG m kG] rfl
  have y10 : w9.heap.size < (w9.alloc (.cells #[.int .i64 rc, .int .i64 rn, .slice aG m kG] 30)).heap.size := by simp
  have bA10 := bA9.new hal
  have N10 := N9.trans hal
  have oW10 := oW9.new hal
  have bW10 := bW9.new hal
  have oC10 := oC9.new hal
  have bX10 := bX9.new hal
  have oO10 := oO9.new hal
  have oG10 := oG9.new hal
  clear bA9 N9 oW9 bW9 oC9 bX9 oO9 oG9
  have z10 := hal.size
  clear hal
  generalize w9.alloc (.cells #[.int .i64 rc, .int .i64 rn, .slice aG m kG] 30) = w10 at *
  have cW := bW10.cells
  have cG := bG10.cells
  go_wp2_with fail
  refine (eqCr_any rc rn _ _ m _ _ rs _ (oG10.ns hin.out) (oW10.ns hin.out) HM.out (by omega)).mono ?_
  rintro e w11 ⟨rfl, hn11⟩
  have bA11 := bA10.new hn11
  have N11 := N10.trans hn11
  have oW11 := oW10.new hn11
  have bW11 := bW10.new hn11
  have oC11 := oC10.new hn11
  have bX11 := bX10.new hn11
  have oO11 := oO10.new hn11
  have oG11 := oG10.new hn11
  have bG11 := bG10.new hn11
  clear bA10 N10 oW10 bW10 oC10 bX10 oO10 oG10 bG10
  have zz11 := hn11.size
  clear cW cG hn11
  go_upto_region 13 with fail
  refine hw_start (n := 5) (S := fun X => New w11 X) rfl (by kernel_rfl) ((New.refl _).drew) (fun hH => ?_)
  refine' hw_take 0 (some 42) (.agg #[.int .i64 nw, .slice (some ⟨g6, 0, none⟩) n n]) rfl rfl (by kernel_rfl) (by kernel_rfl) (by kernel_rfl) (fun _ _ _ h => h) (by rfl) hH ?hz0 ?rz0
  case hz0 =>
    intro X hX
    exact run_load_blk 26 (.tmp 9) rfl w6.heap.size rfl #[.int .i64 nw, .slice (some ⟨g6, 0, none⟩) n n] _ (bX11.new hX) Try.underlying26 rfl (by kernel_rfl)
  simp only [Act.put, List.setIfInBounds_toArray, List.set_cons_zero, List.set_cons_succ]
  refine' hw_take 1 (some 43) (.agg #[.int .i64 nw, .slice a n c]) rfl rfl (by kernel_rfl) (by kernel_rfl) (by kernel_rfl) (fun _ _ _ h => h) (by rfl) hH ?hz1 ?rz1
  case hz1 =>
    intro X hX
    exact run_load_blk 49 (.tmp 3) rfl w.heap.size rfl #[.int .i64 nw, .slice a n c] _ (bA11.new hX) Try.underlying49 rfl (by kernel_rfl)
  simp only [Act.put, List.setIfInBounds_toArray, List.set_cons_zero, List.set_cons_succ]
  refine hw_call 2 (some 44) rfl rfl (by kernel_rfl) (by rfl) (fun K hK => ?_)
  go_simp
  refine (toCk_any nw a n c xs _ (h.new (N11.trans hH)) HN.out hm').mono ?_
  rintro e wt ⟨gt, rfl, hgt, ogt, hnt⟩
  go_simp
  have nt := hH.trans hnt
  refine hK.out _ _ nt (fun hH2 => ?_)
  simp only [Act.put, List.setIfInBounds_toArray, List.set_cons_zero, List.set_cons_succ]
  refine hw_call 3 (some 45) rfl rfl (by kernel_rfl) (by rfl) (fun K hK => ?_)
  go_simp
  refine (eqCk_any nw _ _ n n n xs _ ((oC11.new nt).ns hbd.out) (ogt.ns hbd.out) HN.out hm').mono ?_
  rintro e wu ⟨rfl, hnu⟩
  go_simp
  refine hK.out _ _ (nt.trans hnu) (fun hH3 => ?_)
  simp only [Act.put, List.setIfInBounds_toArray, List.set_cons_zero, List.set_cons_succ]
  refine' hw_take 4 (some 46) _ rfl rfl (by kernel_rfl) (by kernel_rfl) (by kernel_rfl) (fun _ _ _ h => h) (by rfl) hH3 ?hy2 ?rest2
  case hy2 =>
    intro X hX
    go_simp
    try rfl
  simp only [Act.put, List.setIfInBounds_toArray, List.set_cons_zero, List.set_cons_succ]
  refine wpAnyH_done (by kernel_rfl) ?_ _
  clear hH hH2 nt hnt hnu ogt hgt
  have bA12 := bA11.new hH3
  have N12 := N11.trans hH3
  have oW12 := oW11.new hH3
  have bW12 := bW11.new hH3
  have oC12 := oC11.new hH3
  have bX12 := bX11.new hH3
  have oO12 := oO11.new hH3
  have oG12 := oG11.new hH3
  have bG12 := bG11.new hH3
  clear bA11 N11 oW11 bW11 oC11 bX11 oO11 oG11 bG11
  generalize wu = w12 at *
  have zz12 := hH3.size
  clear hH3
  go_wp2_with fail
  refine (toNs_any oa l d os _ (ho.new N12) HL.out hk').mono ?_
  rintro e w13 ⟨g13, rfl, hg13, oP13, hn13⟩
  have bA13 := bA12.new hn13
  have N13 := N12.trans hn13
  have oW13 := oW12.new hn13
  have bW13 := bW12.new hn13
  have oC13 := oC12.new hn13
  have bX13 := bX12.new hn13
  have oO13 := oO12.new hn13
  have oG13 := oG12.new hn13
  have bG13 := bG12.new hn13
  clear bA12 N12 oW12 bW12 oC12 bX12 oO12 oG12 bG12
  have zz13 := hn13.size
  clear hn13
  go_wp2_with fail
  refine (eqNs_any _ _ l l l os _ (oO13.ns hbo.out) (oP13.ns hbo.out) HL.out hk').mono ?_
  rintro e w14 ⟨rfl, hn14⟩
  have bA14 := bA13.new hn14
  have N14 := N13.trans hn14
  have oW14 := oW13.new hn14
  have bW14 := bW13.new hn14
  have oC14 := oC13.new hn14
  have bX14 := bX13.new hn14
  have oO14 := oO13.new hn14
  have oG14 := oG13.new hn14
  have bG14 := bG13.new hn14
  clear bA13 N13 oW13 bW13 oC13 bX13 oO13 oG13 bG13
  have zz14 := hn14.size
  clear hn14
  have cX := bX14.cells
  go_wp2_with fail
  refine (markCk_t nw g6 n n xs 1 _ oC14 hm' (by omega) (by omega)).mono ?_
  rintro e w15 ⟨rfl, oC15, ht15⟩
  have bA15 := bA14.turn ht15 (by exact fun e => absurd e (Blk.ne_own bA14 oC14 (by decide)))
  have N15 := N14.before ht15 (by intro i hi e; omega)
  have oW15 := oW14.turn ht15 (by intro i _ _ e; omega)
  have bW15 := bW14.turn ht15 (by exact fun e => absurd e (Blk.ne_own bW14 oC14 (by decide)))
  have bX15 := bX14.turn ht15 (by exact fun e => absurd e (Blk.ne_own bX14 oC14 (by decide)))
  have oO15 := oO14.turn ht15 (by omega)
  have oG15 := oG14.turn ht15 (by intro i _ _ e; omega)
  have bG15 := bG14.turn ht15 (by exact fun e => absurd e (Blk.ne_own bG14 oC14 (by decide)))
  clear bA14 N14 oW14 bW14 oC14 bX14 oO14 oG14 bG14
  have zz15 := ht15.size
  clear cX ht15
  clear oC15
  go_wp2_with fail
  refine (markNs7 g8 l l os (1 + (n : Int)) _ oO15 hk' (by omega) (by omega)).mono ?_
  rintro e w16 ⟨rfl, oO16, ht16⟩
  have bA16 := bA15.turn ht16 (by exact fun e => absurd e (Blk.ne_own bA15 oO15 (by decide)))
  have N16 := N15.before ht16 (by intro i hi e; omega)
  have oW16 := oW15.turn ht16 (by intro i _ _ e; omega)
  have bW16 := bW15.turn ht16 (by exact fun e => absurd e (Blk.ne_own bW15 oO15 (by decide)))
  have bX16 := bX15.turn ht16 (by exact fun e => absurd e (Blk.ne_own bX15 oO15 (by decide)))
  have oG16 := oG15.turn ht16 (by intro i _ _ e; omega)
  have bG16 := bG15.turn ht16 (by exact fun e => absurd e (Blk.ne_own bG15 oO15 (by decide)))
  clear bA15 N15 oW15 bW15 bX15 oO15 oG15 bG15
  have zz16 := ht16.size
  clear ht16
  clear oO16
  clear bX16
  have cW := bW16.cells
  have cG := bG16.cells
  go_wp2_with fail
  refine (eqCr_any rc rn _ _ m _ _ rs _ (oG16.ns hin.out) (oW16.ns hin.out) HM.out (by omega)).mono ?_
  rintro e w17 ⟨rfl, hn17⟩
  have bA17 := bA16.new hn17
  have N17 := N16.trans hn17
  have oW17 := oW16.new hn17
  have bW17 := bW16.new hn17
  have oG17 := oG16.new hn17
  have bG17 := bG16.new hn17
  clear bA16 N16 oW16 bW16 oG16 bG16
  have zz17 := hn17.size
  clear cW cG hn17
  have cG := bG17.cells
  go_wp2_with fail
  refine (markCr_t rc rn _ _ aG m kG rs 1 _ oG17 (by omega) (by omega) (by omega)).mono ?_
  rintro e w18 ⟨rfl, oG18, ht18⟩
  have bA18 := bA17.turn ht18 (by omega)
  have N18 := N17.before ht18 (by intro i hi e; omega)
  have oW18 := oW17.turn ht18 (by intro i _ _ e; omega)
  have bW18 := bW17.turn ht18 (by omega)
  have bG18 := bG17.turn ht18 (by omega)
  clear bA17 N17 oW17 bW17 oG17 bG17
  have zz18 := ht18.size
  clear cG ht18
  have cG := bG18.cells
  go_wp2_with fail
  refine (heldCr rc rn aG m kG 1 _ (oG18.ns hmk.out) (by omega) (by omega) (by omega)).mono ?_
  rintro e w19 ⟨rfl, hn19⟩
  have bA19 := bA18.new hn19
  have N19 := N18.trans hn19
  have oW19 := oW18.new hn19
  have bW19 := bW18.new hn19
  have oG19 := oG18.new hn19
  have bG19 := bG18.new hn19
  clear bA18 N18 oW18 bW18 oG18 bG18
  have zz19 := hn19.size
  clear cG hn19
  have cA := bA19.cells
  go_wp2_with fail
  refine (toCk_any nw a n c xs _ (h.new N19) HN.out hm').mono ?_
  rintro e w20 ⟨g20, rfl, hg20, oC20, hn20⟩
  have bA20 := bA19.new hn20
  have N20 := N19.trans hn20
  have oW20 := oW19.new hn20
  have bW20 := bW19.new hn20
  have oG20 := oG19.new hn20
  have bG20 := bG19.new hn20
  clear bA19 N19 oW19 bW19 oG19 bG19
  clear cA hn20
  go_wp2_with fail
  refine (toNs_any oa l d os _ (ho.new N20) HL.out hk').mono ?_
  rintro e w21 ⟨g21, rfl, hg21, oO21, hn21⟩
  have bA21 := bA20.new hn21
  have N21 := N20.trans hn21
  have oW21 := oW20.new hn21
  have bW21 := bW20.new hn21
  have oG21 := oG20.new hn21
  have bG21 := bG20.new hn21
  have oC21 := oC20.new hn21
  clear bA20 N20 oW20 bW20 oG20 bG20 oC20
  clear hn21
  go_wp2_with fail
  refine (hI.out _ g20 g21 (oC21.ns hbd.out) (oO21.ns hbo.out)).mono ?_
  rintro e w22 hans
  obtain ⟨vH, rfl, oV, hn22⟩ := hans
  obtain ⟨aH, kH, eV, oH22⟩ := oV.open HM.out
  clear oV
  subst eV
  clear oC21
  have bA22 := bA21.new hn22
  have N22 := N21.trans hn22
  have oW22 := oW21.new hn22
  have bW22 := bW21.new hn22
  have oG22 := oG21.new hn22
  have bG22 := bG21.new hn22
  clear bA21 N21 oW21 bW21 oG21 bG21
  clear hn22
  go_upto_region 31 with fail
  have hal := (New.refl w22).alloc (.cells #[.int .i64 rc, .int .i64 rn, .slice aH m kH] 30)
  have bH23 := Blk.mk w22 w22.heap.size 30 #[.int .i64 rc, .int .i64 rn, .slice aH m kH] rfl
  have y23 : w22.heap.size < (w22.alloc (.cells #[.int .i64 rc, .int .i64 rn, .slice aH m kH] 30)).heap.size := by simp
  have bA23 := bA22.new hal
  have N23 := N22.trans hal
  have oW23 := oW22.new hal
  have bW23 := bW22.new hal
  have oG23 := oG22.new hal
  have bG23 := bG22.new hal
  have oH23 := oH22.new hal
  clear bA22 N22 oW22 bW22 oG22 bG22 oH22
  have z23 := hal.size
  clear hal
  generalize w22.alloc (.cells #[.int .i64 rc, .int .i64 rn, .slice aH m kH] 30) = w23 at *
  have cW := bW23.cells
  have cH := bH23.cells
  go_wp2_with fail
  refine (eqCr_any rc rn _ _ m _ _ rs _ (oH23.ns hin.out) (oW23.ns hin.out) HM.out (by omega)).mono ?_
  rintro e w24 ⟨rfl, hn24⟩
  have bA24 := bA23.new hn24
  have N24 := N23.trans hn24
  have oW24 := oW23.new hn24
  have bW24 := bW23.new hn24
  have oG24 := oG23.new hn24
  have bG24 := bG23.new hn24
  have oH24 := oH23.new hn24
  have bH24 := bH23.new hn24
  clear bA23 N23 oW23 bW23 oG23 bG23 oH23 bH23
  have zz24 := hn24.size
  clear cW cH hn24
  have cG := bG24.cells
  go_wp2_with fail
  refine (heldCr rc rn aG m kG 1 _ (oG24.ns hmk.out) (by omega) (by omega) (by omega)).mono ?_
  rintro e w25 ⟨rfl, hn25⟩
  have bA25 := bA24.new hn25
  have N25 := N24.trans hn25
  have oW25 := oW24.new hn25
  have bW25 := bW24.new hn25
  have oG25 := oG24.new hn25
  have bG25 := bG24.new hn25
  have oH25 := oH24.new hn25
  have bH25 := bH24.new hn25
  clear bA24 N24 oW24 bW24 oG24 bG24 oH24 bH24
  have zz25 := hn25.size
  clear cG hn25
  go_wp2
  go_ret
  exact ⟨rfl, N25⟩

set_option maxRecDepth 100000 in
theorem atkc_lifted (os : Os) (started : os.Started) (H : Type) (enc : TypeId × Value → H) :
    ReturnsInHanded {} Try.checked os 10 .any (Rows.fnExactTickClockSpec.pre6 enc Try.prog Try.f10 Rows.fnExactTickClockRow.domain false) (Rows.fnExactTickClockSpec.post enc Try.prog Try.f10 false true false false) := by
  refine returnsInHanded_of_change (C := Try.checked) own started (by kernel_rfl) Try.func10
    (ChangeSpec.witness6 (enc := enc) (C := Try.checked) false ⟨#[], #[.agg #[.int .i64 0, .slice none 0 0], .int .i64 0, .slice none 0 0], []⟩ 8 (by kernel_rfl) (by kernel_rfl) (by kernel_rfl) (by kernel_rfl)) ?_
  intro W base args ds gs before hval0 hW hcnd _
  have hval : ∀ (j : Nat) t v, Try.f10.params[j]? = some t → args[j]? = some v → Value.okWide Try.prog W .any base t v := hval0
  have hW' := hW
  obtain ⟨p, q, hA0, hV, rfl, hfz, hnd⟩ := hW
  have hA : DataW.TrodAll enc Try.prog W 0 (fun _ => true) true Try.f10.params.toList args.toList ds p := hA0
  rw [Try.params10] at hA hval
  obtain ⟨v0, vs0, d0, ds0, p0, q0, hargs, rfl, rfl, h0, r0⟩ := trodAll_cons hA
  obtain ⟨v1, vs1, d1, ds1, p1, q1, rfl, rfl, rfl, h1, r1⟩ := trodAll_cons r0
  obtain ⟨v2, vs2, d2, ds2, p2, q2, rfl, rfl, rfl, h2, r2⟩ := trodAll_cons r1
  obtain ⟨rfl, rfl, rfl⟩ := trodAll_nil r2
  obtain rfl : args = #[v0, v1, v2] := by cases args; simp_all
  obtain ⟨rfl, rfl⟩ := trodVars_none hV
  have k0 := h0
  have lt0 : ∀ x ∈ p0, x.block < W.heap.size := by obtain ⟨m, hm⟩ := k0; exact DataW.trod_lt m _ _ _ hm
  obtain ⟨nw0, a0, m0, c0, xs0, rfl, wn0, ha0, hl0, hm0⟩ := open_clock (hval 0 49 v0 rfl rfl) h0
  obtain ⟨n1, rfl, rfl, rfl, w1⟩ := open_int Try.underlying2 (hval 1 2 v1 rfl rfl) h1
  have k2 := h2
  have lt2 : ∀ x ∈ p2, x.block < W.heap.size := by obtain ⟨m, hm⟩ := k2; exact DataW.trod_lt m _ _ _ hm
  obtain ⟨a2, m2, c2, xs2, rfl, ha2, hl2, hm2⟩ := open_list (hval 2 24 v2 rfl rfl) h2
  clear hA0 hval0
  refine (atkc_walk nw0 n1 a0 a2 m0 c0 m2 c2 xs0 xs2 W ha0 hl0 hm0 ha2 hl2 hm2).mono fun e W' ⟨he, new⟩ => ?_
  have bel := new.below
  subst he
  exact ⟨_, rfl, _, _, _, [], _, [], hW', trodAll_mk1 (shut_bool Try.underlying4 _), (trodAll_cons_mk (Below.trod laidOut (by kernel_rfl) (of_decide_eq_true (by kernel_rfl)) k0 bel lt0) (trodAll_cons_mk (shut_int Try.underlying2 w1) (trodAll_cons_mk (Below.trod laidOut (by kernel_rfl) (of_decide_eq_true (by kernel_rfl)) k2 bel lt2) trodAll_mk0))), rfl, bel.frame _, fun h => by cases h⟩

theorem atkc_holds : Rows.FnExactTickClockSaid :=
  OpenClaim.holds_of_wide 10 Try.f10 rfl rfl rfl rfl rfl rfl rfl ⟨rfl, rfl, rfl, rfl, rfl⟩ rfl rfl rfl rfl rfl (by kernel_rfl) Try.func10 (by kernel_rfl)
    (of_decide_eq_true (by kernel_rfl)) (by unfold Func.isWrapper; first | (rw [if_pos (by decide +kernel)]; kernel_rfl) | (rw [if_neg (by decide +kernel)]; exact ⟨rfl, rfl⟩))
    (fun os started H enc _ => atkc_lifted os started H enc)

end Go.Proofs.Ytpbmbnckdmjdhaa
