/- What is proved here: what DeliverOut answers, in the program and in the model, for lists of at most 1048576 bytes. The condition: the package-level variables hold what the text lays. -/
import Derived.Test.YtkjhjfdgkinpjaaDoorW11Ps
import Derived.Test.YtkjhjfdgkinpjaaDoorW11Ds
namespace Go.Proofs.YtkjhjfdgkinpjaaDoor
open Go.RowKit
set_option linter.unusedVariables false
set_option linter.unusedSimpArgs false

set_option maxHeartbeats 3200000 in
theorem implDO (E T ep at9 : Int) (a b q : Option Addr) (c d f : Nat) (zs ys us : List Int) (w : World) (hG : Glob w) (hsb : (b = none ∧ ys.length = 0 ∧ d = 0) ∨ ∃ g o, b = some ⟨g, o, none⟩) (hcb : ys.length ≤ d) (hsq : (q = none ∧ us.length = 0 ∧ f = 0) ∨ ∃ g o, q = some ⟨g, o, none⟩) (hcq : us.length ≤ f) (hq : BsAt w q us) (hl1 : us.length ≤ 1048576) (ha : BsAt w a zs) (hb : BsAt w b ys) (hna : a = none → zs.length = 0 ∧ c = 0) (hnb : b = none → ys.length = 0 ∧ d = 0) (hn1 : zs.length ≤ 1048576) (hm1 : ys.length ≤ 1048576) :
    Calls Tryd.prog 7 #[.agg #[.int .i64 E, .slice a zs.length c, .int .i64 T, .slice b ys.length d], .int .i64 ep, .int .i64 at9, .slice q us.length f] w fun e w' => WrA w (doA E T ep at9 zs ys us) e w' := by
  by_cases hgood : sF E T ep zs.length ys.length = 0 ∧ (0 ≤ at9 ∧ at9 ≤ (ys.length : Int)) ∧ at9 + (us.length : Int) ≤ 2000
  · obtain ⟨h1, ⟨h2, h3⟩, h4⟩ := hgood
    obtain ⟨an, rfl⟩ : ∃ an : Nat, at9 = an := ⟨at9.toNat, by omega⟩
    by_cases hE : us.take (agK an ys us) = (ys.drop an).take (agK an ys us)
    · refine (implDOyes E T ep an a b q c d f zs ys us w hG hsb hcb hsq hcq hq hl1 ha hb hna hnb hn1 hm1 h1 (by omega) (by omega) (agK an ys us) (by unfold agK; omega) hE).mono fun e w' hh => ?_
      unfold doA
      rw [if_pos h1, if_neg (by omega), if_neg (by omega), if_pos (by simpa using hE)]
      simpa using hh
    · refine (implDOno E T ep an a b q c d f zs ys us w hG hsb hcb hsq hcq hq hl1 ha hb hna hnb hn1 hm1 h1 (by omega) (by omega) (agK an ys us) (by unfold agK; omega) hE).mono fun e w' hh => ?_
      unfold doA
      rw [if_pos h1, if_neg (by omega), if_neg (by omega), if_neg (by simpa using hE)]
      simpa using hh
  have hw := ((New.refl w).alloc (.cells #[.int .i64 E, .slice a zs.length c, .int .i64 T, .slice b ys.length d] 25)).alloc (.cells #[.int .i64 0, .slice none 0 0, .int .i64 0, .slice none 0 0, .int .i64 0, .slice none 0 0] 29)
  have bP := (Blk.mk w w.heap.size 25 #[.int .i64 E, .slice a zs.length c, .int .i64 T, .slice b ys.length d] rfl).alloc (.cells #[.int .i64 0, .slice none 0 0, .int .i64 0, .slice none 0 0, .int .i64 0, .slice none 0 0] 29)
  have bR := Blk.mk (w.alloc (.cells #[.int .i64 E, .slice a zs.length c, .int .i64 T, .slice b ys.length d] 25)) (w.heap.size + 1) 29 #[.int .i64 0, .slice none 0 0, .int .i64 0, .slice none 0 0, .int .i64 0, .slice none 0 0] (by simp)
  have HNA : Hid (a = none → zs.length = 0 ∧ c = 0) := hna
  have HNB : Hid (b = none → ys.length = 0 ∧ d = 0) := hnb
  clear hna hnb
  by_cases hf : sF E T ep zs.length ys.length = 0
  · have hf' : (sF E T ep zs.length ys.length != 0) = false := by simp [hf]
    have HF : Hid (sF E T ep zs.length ys.length = 0) := hf
    obtain ⟨hf0, hep1, hep2, hep3⟩ := sF_zero hf
    obtain ⟨-, ⟨hn2, hm2⟩, hT0, hT1⟩ := wF_zero hf0
    clear hf hf0
    by_cases hu : at9 < 0 ∨ (ys.length : Int) < at9
    · have HU : Hid (at9 < 0 ∨ (ys.length : Int) < at9) := hu
      clear hu hgood
      go_enter Tryd.func7, Tryd.ntmps7
      go_wp2_with fail
      refine (implSF E T ep a b zs.length c ys.length d _ (hG.new hw) hn1 hm1).mono ?_
      rintro e w1 ⟨rfl, hn1'⟩
      have n1 := hw.trans hn1'
      have bP1 := bP.new hn1'
      have bR1 := bR.new hn1'
      have lR := bR1.lt
      have cP := bP1.cells
      clear hn1' hw
      go_wp2_with fail
      refine (place_no at9 b ys.length d _ HU.out hm1).mono ?_
      rintro e w1' ⟨rfl, hx⟩
      obtain rfl := hx.symm
      have cR := bR1.cells
      have fR := bR1.frees
      go_wp2
      refine bodyPost_ret (v := .agg #[.int .i64 3, .slice none 0 0, .int .i64 0, .slice none 0 0, .int .i64 0, .slice none 0 0]) (by simp [results, Tryd.results7, go_sem, cR]) rfl ?_
      unfold WrA doA
      rw [if_pos HF.out, if_pos HU.out]
      exact WrAns.codeT (B := w.heap.size + 1) (by omega) n1 (Turn.set (S := fun i => i = w.heap.size + 1) (Turn.set (S := fun i => i = w.heap.size + 1) (Turn.set (S := fun i => i = w.heap.size + 1) (Turn.set (S := fun i => i = w.heap.size + 1) (Turn.set (S := fun i => i = w.heap.size + 1) (Turn.set (S := fun i => i = w.heap.size + 1) (Turn.refl _ _) rfl _) rfl _) rfl _) rfl _) rfl _) rfl _)
    · have HU : Hid (¬ (at9 < 0 ∨ (ys.length : Int) < at9)) := hu
      have HV : Hid (0 ≤ at9 ∧ at9 ≤ (ys.length : Int)) := by unfold Hid; omega
      have hbig : 2000 < at9 + (us.length : Int) := by have := HV.out; have := HF.out; omega
      have HB : Hid (2000 < at9 + (us.length : Int)) := hbig
      have hbi : (2000 : Int) - at9 < (us.length : Int) := by omega
      have hat0 : 0 ≤ at9 := by omega
      have hat1 : at9 ≤ 2000 := by omega
      clear hu hgood
      go_enter Tryd.func7, Tryd.ntmps7
      go_wp2_with fail
      refine (implSF E T ep a b zs.length c ys.length d _ (hG.new hw) hn1 hm1).mono ?_
      rintro e w1 ⟨rfl, hn1'⟩
      have n1 := hw.trans hn1'
      have bP1 := bP.new hn1'
      have bR1 := bR.new hn1'
      have lR := bR1.lt
      have cP := bP1.cells
      clear hn1' hw
      go_wp2_with fail
      refine (place_yes at9 b ys.length d _ HV.out hm1).mono ?_
      rintro e w1' ⟨rfl, hx⟩
      obtain rfl := hx.symm
      have cR := bR1.cells
      have fR := bR1.frees
      go_wp2
      refine bodyPost_ret (v := .agg #[.int .i64 2, .slice none 0 0, .int .i64 0, .slice none 0 0, .int .i64 0, .slice none 0 0]) (by simp [results, Tryd.results7, go_sem, cR]) rfl ?_
      unfold WrA doA
      rw [if_pos HF.out, if_neg HU.out, if_pos HB.out]
      exact WrAns.codeT (B := w.heap.size + 1) (by omega) n1 (Turn.set (S := fun i => i = w.heap.size + 1) (Turn.set (S := fun i => i = w.heap.size + 1) (Turn.set (S := fun i => i = w.heap.size + 1) (Turn.set (S := fun i => i = w.heap.size + 1) (Turn.set (S := fun i => i = w.heap.size + 1) (Turn.set (S := fun i => i = w.heap.size + 1) (Turn.refl _ _) rfl _) rfl _) rfl _) rfl _) rfl _) rfl _)
  · have hf' : (sF E T ep zs.length ys.length != 0) = true := by simp [hf]
    have HF : Hid (¬ sF E T ep zs.length ys.length = 0) := hf
    clear hf hgood
    go_enter Tryd.func7, Tryd.ntmps7
    go_wp2_with fail
    refine (implSF E T ep a b zs.length c ys.length d _ (hG.new hw) hn1 hm1).mono ?_
    rintro e w1 ⟨rfl, hn1'⟩
    have n1 := hw.trans hn1'
    have bP1 := bP.new hn1'
    have bR1 := bR.new hn1'
    have lR := bR1.lt
    have cP := bP1.cells
    clear hn1' hw
    have cR := bR1.cells
    have fR := bR1.frees
    go_wp2
    refine bodyPost_ret (v := .agg #[.int .i64 (sF E T ep zs.length ys.length), .slice none 0 0, .int .i64 0, .slice none 0 0, .int .i64 0, .slice none 0 0]) (by simp [results, Tryd.results7, go_sem, cR]) rfl ?_
    unfold WrA doA
    rw [if_neg HF.out]
    exact WrAns.codeT (B := w.heap.size + 1) (by omega) n1 (Turn.set (S := fun i => i = w.heap.size + 1) (Turn.set (S := fun i => i = w.heap.size + 1) (Turn.set (S := fun i => i = w.heap.size + 1) (Turn.set (S := fun i => i = w.heap.size + 1) (Turn.set (S := fun i => i = w.heap.size + 1) (Turn.set (S := fun i => i = w.heap.size + 1) (Turn.refl _ _) rfl _) rfl _) rfl _) rfl _) rfl _) rfl _)

set_option maxHeartbeats 3200000 in
theorem specDO (E T ep at9 : Int) (a b q : Option Addr) (c d f : Nat) (zs ys us : List Int) (w : World) (hsb : (b = none ∧ ys.length = 0 ∧ d = 0) ∨ ∃ g o, b = some ⟨g, o, none⟩) (hcb : ys.length ≤ d) (hsq : (q = none ∧ us.length = 0 ∧ f = 0) ∨ ∃ g o, q = some ⟨g, o, none⟩) (hcq : us.length ≤ f) (hq : BsAt w q us) (hl1 : us.length ≤ 1048576) (ha : BsAt w a zs) (hb : BsAt w b ys) (hna : a = none → zs.length = 0 ∧ c = 0) (hnb : b = none → ys.length = 0 ∧ d = 0) (hn1 : zs.length ≤ 1048576) (hm1 : ys.length ≤ 1048576) :
    Calls Tryd.prog 8 #[.agg #[.int .i64 E, .slice a zs.length c, .int .i64 T, .slice b ys.length d], .int .i64 ep, .int .i64 at9, .slice q us.length f] w fun e w' => WrA w (doA E T ep at9 zs ys us) e w' := by
  by_cases hgood : sF E T ep zs.length ys.length = 0 ∧ (0 ≤ at9 ∧ at9 ≤ (ys.length : Int)) ∧ at9 + (us.length : Int) ≤ 2000
  · obtain ⟨h1, ⟨h2, h3⟩, h4⟩ := hgood
    obtain ⟨an, rfl⟩ : ∃ an : Nat, at9 = an := ⟨at9.toNat, by omega⟩
    refine (specDOok E T ep an a b q c d f zs ys us w hsb hcb hsq hcq hq hl1 ha hb hna hnb hn1 hm1 h1 (by omega) (by omega)).mono fun e w' hh => ?_
    unfold doA
    rw [if_pos h1, if_neg (by omega), if_neg (by omega)]
    unfold doR at hh
    simpa using hh
  have hw := ((New.refl w).alloc (.cells #[.int .i64 E, .slice a zs.length c, .int .i64 T, .slice b ys.length d] 25)).alloc (.cells #[.int .i64 0, .slice none 0 0, .int .i64 0, .slice none 0 0, .int .i64 0, .slice none 0 0] 29)
  have bP := (Blk.mk w w.heap.size 25 #[.int .i64 E, .slice a zs.length c, .int .i64 T, .slice b ys.length d] rfl).alloc (.cells #[.int .i64 0, .slice none 0 0, .int .i64 0, .slice none 0 0, .int .i64 0, .slice none 0 0] 29)
  have bR := Blk.mk (w.alloc (.cells #[.int .i64 E, .slice a zs.length c, .int .i64 T, .slice b ys.length d] 25)) (w.heap.size + 1) 29 #[.int .i64 0, .slice none 0 0, .int .i64 0, .slice none 0 0, .int .i64 0, .slice none 0 0] (by simp)
  have HNA : Hid (a = none → zs.length = 0 ∧ c = 0) := hna
  have HNB : Hid (b = none → ys.length = 0 ∧ d = 0) := hnb
  clear hna hnb
  by_cases hf : sF E T ep zs.length ys.length = 0
  · have hf' : (sF E T ep zs.length ys.length != 0) = false := by simp [hf]
    have HF : Hid (sF E T ep zs.length ys.length = 0) := hf
    obtain ⟨hf0, hep1, hep2, hep3⟩ := sF_zero hf
    obtain ⟨-, ⟨hn2, hm2⟩, hT0, hT1⟩ := wF_zero hf0
    clear hf hf0
    by_cases hu : at9 < 0 ∨ (ys.length : Int) < at9
    · have HU : Hid (at9 < 0 ∨ (ys.length : Int) < at9) := hu
      clear hu hgood
      go_enter Tryd.func8, Tryd.ntmps8
      go_wp2_with fail
      refine (specSF E T ep a b zs.length c ys.length d _ hn1 hm1).mono ?_
      rintro e w1 ⟨rfl, hn1'⟩
      have n1 := hw.trans hn1'
      have bP1 := bP.new hn1'
      have bR1 := bR.new hn1'
      have lR := bR1.lt
      have cP := bP1.cells
      clear hn1' hw
      go_wp2_with fail
      refine (in_no at9 0 ys.length _ HU.out).mono ?_
      rintro e w1' ⟨rfl, hx⟩
      obtain rfl := hx.symm
      go_wp2_with fail
      refine (l11B _ _).mono ?_
      rintro e w9 ⟨rfl, hn9⟩
      have bR9 := bR1.new hn9
      have cR := bR9.cells
      have fR := bR9.frees
      go_wp2
      refine bodyPost_ret (v := .agg #[.int .i64 3, .slice none 0 0, .int .i64 0, .slice none 0 0, .int .i64 0, .slice none 0 0]) (by simp [results, Tryd.results8, go_sem, cR]) rfl ?_
      unfold WrA doA
      rw [if_pos HF.out, if_pos HU.out]
      exact WrAns.codeT (B := w.heap.size + 1) (by omega) (n1.trans hn9) (Turn.set (S := fun i => i = w.heap.size + 1) (Turn.set (S := fun i => i = w.heap.size + 1) (Turn.set (S := fun i => i = w.heap.size + 1) (Turn.set (S := fun i => i = w.heap.size + 1) (Turn.set (S := fun i => i = w.heap.size + 1) (Turn.set (S := fun i => i = w.heap.size + 1) (Turn.refl _ _) rfl _) rfl _) rfl _) rfl _) rfl _) rfl _)
    · have HU : Hid (¬ (at9 < 0 ∨ (ys.length : Int) < at9)) := hu
      have HV : Hid (0 ≤ at9 ∧ at9 ≤ (ys.length : Int)) := by unfold Hid; omega
      have hbig : 2000 < at9 + (us.length : Int) := by have := HV.out; have := HF.out; omega
      have HB : Hid (2000 < at9 + (us.length : Int)) := hbig
      have hbi : (2000 : Int) - at9 < (us.length : Int) := by omega
      have hat0 : 0 ≤ at9 := by omega
      have hat1 : at9 ≤ 2000 := by omega
      clear hu hgood
      go_enter Tryd.func8, Tryd.ntmps8
      go_wp2_with fail
      refine (specSF E T ep a b zs.length c ys.length d _ hn1 hm1).mono ?_
      rintro e w1 ⟨rfl, hn1'⟩
      have n1 := hw.trans hn1'
      have bP1 := bP.new hn1'
      have bR1 := bR.new hn1'
      have lR := bR1.lt
      have cP := bP1.cells
      clear hn1' hw
      go_wp2_with fail
      refine (in_yes at9 0 ys.length _ HV.out).mono ?_
      rintro e w1' ⟨rfl, hx⟩
      obtain rfl := hx.symm
      go_wp2_with fail
      refine (l11B _ _).mono ?_
      rintro e w9 ⟨rfl, hn9⟩
      have bR9 := bR1.new hn9
      have cR := bR9.cells
      have fR := bR9.frees
      go_wp2
      refine bodyPost_ret (v := .agg #[.int .i64 2, .slice none 0 0, .int .i64 0, .slice none 0 0, .int .i64 0, .slice none 0 0]) (by simp [results, Tryd.results8, go_sem, cR]) rfl ?_
      unfold WrA doA
      rw [if_pos HF.out, if_neg HU.out, if_pos HB.out]
      exact WrAns.codeT (B := w.heap.size + 1) (by omega) (n1.trans hn9) (Turn.set (S := fun i => i = w.heap.size + 1) (Turn.set (S := fun i => i = w.heap.size + 1) (Turn.set (S := fun i => i = w.heap.size + 1) (Turn.set (S := fun i => i = w.heap.size + 1) (Turn.set (S := fun i => i = w.heap.size + 1) (Turn.set (S := fun i => i = w.heap.size + 1) (Turn.refl _ _) rfl _) rfl _) rfl _) rfl _) rfl _) rfl _)
  · have hf' : (sF E T ep zs.length ys.length != 0) = true := by simp [hf]
    have HF : Hid (¬ sF E T ep zs.length ys.length = 0) := hf
    clear hf hgood
    go_enter Tryd.func8, Tryd.ntmps8
    go_wp2_with fail
    refine (specSF E T ep a b zs.length c ys.length d _ hn1 hm1).mono ?_
    rintro e w1 ⟨rfl, hn1'⟩
    have n1 := hw.trans hn1'
    have bP1 := bP.new hn1'
    have bR1 := bR.new hn1'
    have lR := bR1.lt
    have cP := bP1.cells
    clear hn1' hw
    go_wp2_with fail
    refine (l11B _ _).mono ?_
    rintro e w9 ⟨rfl, hn9⟩
    have bR9 := bR1.new hn9
    have cR := bR9.cells
    have fR := bR9.frees
    go_wp2
    refine bodyPost_ret (v := .agg #[.int .i64 (sF E T ep zs.length ys.length), .slice none 0 0, .int .i64 0, .slice none 0 0, .int .i64 0, .slice none 0 0]) (by simp [results, Tryd.results8, go_sem, cR]) rfl ?_
    unfold WrA doA
    rw [if_neg HF.out]
    exact WrAns.codeT (B := w.heap.size + 1) (by omega) (n1.trans hn9) (Turn.set (S := fun i => i = w.heap.size + 1) (Turn.set (S := fun i => i = w.heap.size + 1) (Turn.set (S := fun i => i = w.heap.size + 1) (Turn.set (S := fun i => i = w.heap.size + 1) (Turn.set (S := fun i => i = w.heap.size + 1) (Turn.set (S := fun i => i = w.heap.size + 1) (Turn.refl _ _) rfl _) rfl _) rfl _) rfl _) rfl _) rfl _)

end Go.Proofs.YtkjhjfdgkinpjaaDoor
