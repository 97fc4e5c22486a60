/- What is proved here: what FenceWire and AckInput answer, in the program and in the model, for lists of at most 1048576 bytes. The condition: the package-level variables hold what the text lays. -/
import Derived.Test.YtkjhjfdgkinpjaaDoorW11Ps
import Derived.Test.YtkjhjfdgkinpjaaDoorW11Sf
namespace Go.Proofs.YtkjhjfdgkinpjaaDoor
open Go.RowKit
set_option linter.unusedVariables false
set_option linter.unusedSimpArgs false

/-- What FenceWire answers. -/
def fwA (E T ep : Int) (zs ys : List Int) : Wr := if sF E T ep zs.length ys.length = 0 then ⟨0, ep, T, [], zs, ys⟩ else Wr.bad (sF E T ep zs.length ys.length)

/-- What AckInput answers. -/
def aiA (E T ep up : Int) (zs ys : List Int) : Wr := if sF E T ep zs.length ys.length = 0 then (if up < 0 ∨ (zs.length : Int) < up then Wr.bad 3 else ⟨0, E, max T up, [], zs, ys⟩) else Wr.bad (sF E T ep zs.length ys.length)

set_option maxHeartbeats 1600000 in
theorem implFW (E T ep : Int) (a b : Option Addr) (c d : Nat) (zs ys : List Int) (w : World) (hG : Glob w) (ha : BsAt w a zs) (hb : BsAt w b ys) (hna : a = none → zs.length = 0 ∧ c = 0) (hnb : b = none → ys.length = 0 ∧ d = 0) (hn1 : zs.length ≤ 1048576) (hm1 : ys.length ≤ 1048576) :
    Calls Tryd.prog 14 #[.agg #[.int .i64 E, .slice a zs.length c, .int .i64 T, .slice b ys.length d], .int .i64 ep] w fun e w' => WrA w (fwA E T ep zs ys) e w' := by
  have hw := ((New.refl w).alloc (.cells #[.int .i64 E, .slice a zs.length c, .int .i64 T, .slice b ys.length d] 25)).alloc (.cells #[.int .i64 0, .slice none 0 0, .int .i64 0, .slice none 0 0, .int .i64 0, .slice none 0 0] 29)
  have bP := (Blk.mk w w.heap.size 25 #[.int .i64 E, .slice a zs.length c, .int .i64 T, .slice b ys.length d] rfl).alloc (.cells #[.int .i64 0, .slice none 0 0, .int .i64 0, .slice none 0 0, .int .i64 0, .slice none 0 0] 29)
  have bR := Blk.mk (w.alloc (.cells #[.int .i64 E, .slice a zs.length c, .int .i64 T, .slice b ys.length d] 25)) (w.heap.size + 1) 29 #[.int .i64 0, .slice none 0 0, .int .i64 0, .slice none 0 0, .int .i64 0, .slice none 0 0] (by simp)
  have HNA : Hid (a = none → zs.length = 0 ∧ c = 0) := hna
  have HNB : Hid (b = none → ys.length = 0 ∧ d = 0) := hnb
  clear hna hnb
  by_cases hf : sF E T ep zs.length ys.length = 0
  · have hf' : (sF E T ep zs.length ys.length != 0) = false := by simp [hf]
    have HF : Hid (sF E T ep zs.length ys.length = 0) := hf
    obtain ⟨hf0, hep1, hep2, hep3⟩ := sF_zero hf
    obtain ⟨-, ⟨hn2, hm2⟩, hT0, hT1⟩ := wF_zero hf0
    clear hf hf0
    go_enter Tryd.func14, Tryd.ntmps14
    go_wp2_with fail
    refine (implSF E T ep a b zs.length c ys.length d _ (hG.new hw) hn1 hm1).mono ?_
    rintro e w1 ⟨rfl, hn1'⟩
    have n1 := hw.trans hn1'
    have bP1 := bP.new hn1'
    have bR1 := bR.new hn1'
    have lR := bR1.lt
    have cP := bP1.cells
    clear hn1' hw
    have bP3 : Blk (w1.setCell ⟨w.heap.size, 0, none⟩ (.int .i64 ep)) w.heap.size 25 #[.int .i64 ep, .slice a zs.length c, .int .i64 T, .slice b ys.length d] := bP1.set 0 _
    have t3 : Turn (fun i => i = w.heap.size) w1 (w1.setCell ⟨w.heap.size, 0, none⟩ (.int .i64 ep)) := Turn.set (S := fun i => i = w.heap.size) (Turn.refl _ _) rfl _
    have bR3 := bR1.turn t3 (by omega)
    have N3 := n1.before t3 (by intro i hi e; omega)
    have fP := bP1.frees
    go_upto_region 5 with fail
    generalize w1.setCell ⟨w.heap.size, 0, none⟩ (.int .i64 ep) = w3 at *
    clear cP fP t3 bP1 bR1
    have cP := bP3.cells
    go_wp2_with fail
    refine (copyW ep T a b c d zs ys _ (ha.new N3) (hb.new N3) HNA.out HNB.out hn1 hm1).mono ?_
    rintro e w4 ⟨p1, p2, d1, d2, rfl, q1, q2, qa, qn⟩
    have bR4 := bR3.new qn
    have cR := bR4.cells
    have fR := bR4.frees
    have lR3 := bR3.lt
    go_wp2
    refine bodyPost_ret (v := .agg #[.int .i64 0, .slice none 0 0, .int .i64 ep, .slice p1 zs.length d1, .int .i64 T, .slice p2 ys.length d2]) (by simp [results, Tryd.results14, go_sem, cR]) rfl ?_
    unfold WrA fwA
    rw [if_pos HF.out]
    exact WrAns.stored (B := w.heap.size + 1) (by omega) lR3 N3 q1 q2 qa qn (Turn.set (S := fun i => i = w.heap.size + 1) (Turn.set (S := fun i => i = w.heap.size + 1) (Turn.set (S := fun i => i = w.heap.size + 1) (Turn.set (S := fun i => i = w.heap.size + 1) (Turn.set (S := fun i => i = w.heap.size + 1) (Turn.set (S := fun i => i = w.heap.size + 1) (Turn.refl _ _) rfl _) rfl _) rfl _) rfl _) rfl _) rfl _)
  · have hf' : (sF E T ep zs.length ys.length != 0) = true := by simp [hf]
    have HF : Hid (¬ sF E T ep zs.length ys.length = 0) := hf
    clear hf
    go_enter Tryd.func14, Tryd.ntmps14
    go_wp2_with fail
    refine (implSF E T ep a b zs.length c ys.length d _ (hG.new hw) hn1 hm1).mono ?_
    rintro e w1 ⟨rfl, hn1'⟩
    have n1 := hw.trans hn1'
    have bP1 := bP.new hn1'
    have bR1 := bR.new hn1'
    have lR := bR1.lt
    have cP := bP1.cells
    clear hn1' hw
    have cR := bR1.cells
    have fR := bR1.frees
    go_wp2
    refine bodyPost_ret (v := .agg #[.int .i64 (sF E T ep zs.length ys.length), .slice none 0 0, .int .i64 0, .slice none 0 0, .int .i64 0, .slice none 0 0]) (by simp [results, Tryd.results14, go_sem, cR]) rfl ?_
    unfold WrA fwA
    rw [if_neg HF.out]
    exact WrAns.codeT (B := w.heap.size + 1) (by omega) n1 (Turn.set (S := fun i => i = w.heap.size + 1) (Turn.set (S := fun i => i = w.heap.size + 1) (Turn.set (S := fun i => i = w.heap.size + 1) (Turn.set (S := fun i => i = w.heap.size + 1) (Turn.set (S := fun i => i = w.heap.size + 1) (Turn.set (S := fun i => i = w.heap.size + 1) (Turn.refl _ _) rfl _) rfl _) rfl _) rfl _) rfl _) rfl _)

set_option maxHeartbeats 1600000 in
theorem specFW (E T ep : Int) (a b : Option Addr) (c d : Nat) (zs ys : List Int) (w : World) (ha : BsAt w a zs) (hb : BsAt w b ys) (hna : a = none → zs.length = 0 ∧ c = 0) (hnb : b = none → ys.length = 0 ∧ d = 0) (hn1 : zs.length ≤ 1048576) (hm1 : ys.length ≤ 1048576) :
    Calls Tryd.prog 15 #[.agg #[.int .i64 E, .slice a zs.length c, .int .i64 T, .slice b ys.length d], .int .i64 ep] w fun e w' => WrA w (fwA E T ep zs ys) e w' := by
  have hw := ((New.refl w).alloc (.cells #[.int .i64 E, .slice a zs.length c, .int .i64 T, .slice b ys.length d] 25)).alloc (.cells #[.int .i64 0, .slice none 0 0, .int .i64 0, .slice none 0 0, .int .i64 0, .slice none 0 0] 29)
  have bP := (Blk.mk w w.heap.size 25 #[.int .i64 E, .slice a zs.length c, .int .i64 T, .slice b ys.length d] rfl).alloc (.cells #[.int .i64 0, .slice none 0 0, .int .i64 0, .slice none 0 0, .int .i64 0, .slice none 0 0] 29)
  have bR := Blk.mk (w.alloc (.cells #[.int .i64 E, .slice a zs.length c, .int .i64 T, .slice b ys.length d] 25)) (w.heap.size + 1) 29 #[.int .i64 0, .slice none 0 0, .int .i64 0, .slice none 0 0, .int .i64 0, .slice none 0 0] (by simp)
  have HNA : Hid (a = none → zs.length = 0 ∧ c = 0) := hna
  have HNB : Hid (b = none → ys.length = 0 ∧ d = 0) := hnb
  clear hna hnb
  by_cases hf : sF E T ep zs.length ys.length = 0
  · have hf' : (sF E T ep zs.length ys.length != 0) = false := by simp [hf]
    have HF : Hid (sF E T ep zs.length ys.length = 0) := hf
    obtain ⟨hf0, hep1, hep2, hep3⟩ := sF_zero hf
    obtain ⟨-, ⟨hn2, hm2⟩, hT0, hT1⟩ := wF_zero hf0
    clear hf hf0
    go_enter Tryd.func15, Tryd.ntmps15
    go_wp2_with fail
    refine (specSF E T ep a b zs.length c ys.length d _ hn1 hm1).mono ?_
    rintro e w1 ⟨rfl, hn1'⟩
    have n1 := hw.trans hn1'
    have bP1 := bP.new hn1'
    have bR1 := bR.new hn1'
    have lR := bR1.lt
    have cP := bP1.cells
    clear hn1' hw
    go_wp2_with fail
    refine (l11C E T a b c d zs ys _ (ha.new n1) (hb.new n1) HNA.out HNB.out hn1 hm1).mono ?_
    rintro e w2 ⟨p1, p2, d1, d2, rfl, q1, q2, qa, qn⟩
    have lR1 := bR1.lt
    have bR2 := bR1.new qn
    have al := (New.refl w2).alloc (.cells #[.int .i64 ep, .slice p1 zs.length d1, .int .i64 T, .slice p2 ys.length d2] 25)
    have bO := Blk.mk w2 w2.heap.size 25 #[.int .i64 ep, .slice p1 zs.length d1, .int .i64 T, .slice p2 ys.length d2] rfl
    clear cP
    have cP := (bP1.new qn).cells
    have cPa := ((bP1.new qn).new ((New.refl w2).alloc (.cells #[.int .i64 E, .slice p1 zs.length d1, .int .i64 T, .slice p2 ys.length d2] 25))).cells
    go_upto_region 6 with fail
    clear cP cPa
    have bR3 := bR2.new al
    have o1 := q1.new al
    have o2 := q2.new al
    have qn3 := qn.trans al
    generalize w2.alloc (.cells #[.int .i64 ep, .slice p1 zs.length d1, .int .i64 T, .slice p2 ys.length d2] 25) = w3 at *
    have cO := bO.cells
    have cR := bR3.cells
    have fR := bR3.frees
    go_wp2
    refine bodyPost_ret (v := .agg #[.int .i64 0, .slice none 0 0, .int .i64 ep, .slice p1 zs.length d1, .int .i64 T, .slice p2 ys.length d2]) (by simp [results, Tryd.results15, go_sem, cR]) rfl ?_
    unfold WrA fwA
    rw [if_pos HF.out]
    exact WrAns.stored (B := w.heap.size + 1) (by omega) lR1 n1 o1 o2 qa qn3 (Turn.set (S := fun i => i = w.heap.size + 1) (Turn.set (S := fun i => i = w.heap.size + 1) (Turn.set (S := fun i => i = w.heap.size + 1) (Turn.set (S := fun i => i = w.heap.size + 1) (Turn.set (S := fun i => i = w.heap.size + 1) (Turn.set (S := fun i => i = w.heap.size + 1) (Turn.refl _ _) rfl _) rfl _) rfl _) rfl _) rfl _) rfl _)
  · have hf' : (sF E T ep zs.length ys.length != 0) = true := by simp [hf]
    have HF : Hid (¬ sF E T ep zs.length ys.length = 0) := hf
    clear hf
    go_enter Tryd.func15, Tryd.ntmps15
    go_wp2_with fail
    refine (specSF E T ep a b zs.length c ys.length d _ hn1 hm1).mono ?_
    rintro e w1 ⟨rfl, hn1'⟩
    have n1 := hw.trans hn1'
    have bP1 := bP.new hn1'
    have bR1 := bR.new hn1'
    have lR := bR1.lt
    have cP := bP1.cells
    clear hn1' hw
    go_wp2_with fail
    refine (l11B _ _).mono ?_
    rintro e w9 ⟨rfl, hn9⟩
    have bR9 := bR1.new hn9
    have cR := bR9.cells
    have fR := bR9.frees
    go_wp2
    refine bodyPost_ret (v := .agg #[.int .i64 (sF E T ep zs.length ys.length), .slice none 0 0, .int .i64 0, .slice none 0 0, .int .i64 0, .slice none 0 0]) (by simp [results, Tryd.results15, go_sem, cR]) rfl ?_
    unfold WrA fwA
    rw [if_neg HF.out]
    exact WrAns.codeT (B := w.heap.size + 1) (by omega) (n1.trans hn9) (Turn.set (S := fun i => i = w.heap.size + 1) (Turn.set (S := fun i => i = w.heap.size + 1) (Turn.set (S := fun i => i = w.heap.size + 1) (Turn.set (S := fun i => i = w.heap.size + 1) (Turn.set (S := fun i => i = w.heap.size + 1) (Turn.set (S := fun i => i = w.heap.size + 1) (Turn.refl _ _) rfl _) rfl _) rfl _) rfl _) rfl _) rfl _)

set_option maxHeartbeats 1600000 in
theorem implAI (E T ep up : Int) (a b : Option Addr) (c d : Nat) (zs ys : List Int) (w : World) (hG : Glob w) (ha : BsAt w a zs) (hb : BsAt w b ys) (hna : a = none → zs.length = 0 ∧ c = 0) (hnb : b = none → ys.length = 0 ∧ d = 0) (hn1 : zs.length ≤ 1048576) (hm1 : ys.length ≤ 1048576) :
    Calls Tryd.prog 10 #[.agg #[.int .i64 E, .slice a zs.length c, .int .i64 T, .slice b ys.length d], .int .i64 ep, .int .i64 up] w fun e w' => WrA w (aiA E T ep up zs ys) e w' := by
  have hw := ((New.refl w).alloc (.cells #[.int .i64 E, .slice a zs.length c, .int .i64 T, .slice b ys.length d] 25)).alloc (.cells #[.int .i64 0, .slice none 0 0, .int .i64 0, .slice none 0 0, .int .i64 0, .slice none 0 0] 29)
  have bP := (Blk.mk w w.heap.size 25 #[.int .i64 E, .slice a zs.length c, .int .i64 T, .slice b ys.length d] rfl).alloc (.cells #[.int .i64 0, .slice none 0 0, .int .i64 0, .slice none 0 0, .int .i64 0, .slice none 0 0] 29)
  have bR := Blk.mk (w.alloc (.cells #[.int .i64 E, .slice a zs.length c, .int .i64 T, .slice b ys.length d] 25)) (w.heap.size + 1) 29 #[.int .i64 0, .slice none 0 0, .int .i64 0, .slice none 0 0, .int .i64 0, .slice none 0 0] (by simp)
  have HNA : Hid (a = none → zs.length = 0 ∧ c = 0) := hna
  have HNB : Hid (b = none → ys.length = 0 ∧ d = 0) := hnb
  clear hna hnb
  by_cases hf : sF E T ep zs.length ys.length = 0
  · have hf' : (sF E T ep zs.length ys.length != 0) = false := by simp [hf]
    have HF : Hid (sF E T ep zs.length ys.length = 0) := hf
    obtain ⟨hf0, hep1, hep2, hep3⟩ := sF_zero hf
    obtain ⟨-, ⟨hn2, hm2⟩, hT0, hT1⟩ := wF_zero hf0
    clear hf hf0
    by_cases hu : up < 0 ∨ (zs.length : Int) < up
    · have HU : Hid (up < 0 ∨ (zs.length : Int) < up) := hu
      go_enter Tryd.func10, Tryd.ntmps10
      go_wp2_with fail
      refine (implSF E T ep a b zs.length c ys.length d _ (hG.new hw) hn1 hm1).mono ?_
      rintro e w1 ⟨rfl, hn1'⟩
      have n1 := hw.trans hn1'
      have bP1 := bP.new hn1'
      have bR1 := bR.new hn1'
      have lR := bR1.lt
      have cP := bP1.cells
      clear hn1' hw
      clear hu
      go_wp2_with fail
      refine (place_no up a zs.length c _ HU.out hn1).mono ?_
      rintro e w1' ⟨rfl, hx⟩
      obtain rfl := hx.symm
      have cR := bR1.cells
      have fR := bR1.frees
      go_wp2
      refine bodyPost_ret (v := .agg #[.int .i64 3, .slice none 0 0, .int .i64 0, .slice none 0 0, .int .i64 0, .slice none 0 0]) (by simp [results, Tryd.results10, go_sem, cR]) rfl ?_
      unfold WrA aiA
      rw [if_pos HF.out, if_pos HU.out]
      exact WrAns.codeT (B := w.heap.size + 1) (by omega) n1 (Turn.set (S := fun i => i = w.heap.size + 1) (Turn.set (S := fun i => i = w.heap.size + 1) (Turn.set (S := fun i => i = w.heap.size + 1) (Turn.set (S := fun i => i = w.heap.size + 1) (Turn.set (S := fun i => i = w.heap.size + 1) (Turn.set (S := fun i => i = w.heap.size + 1) (Turn.refl _ _) rfl _) rfl _) rfl _) rfl _) rfl _) rfl _)
    · have HU : Hid (¬ (up < 0 ∨ (zs.length : Int) < up)) := hu
      have HV : Hid (0 ≤ up ∧ up ≤ (zs.length : Int)) := by unfold Hid; omega
      clear hu
      go_enter Tryd.func10, Tryd.ntmps10
      go_wp2_with fail
      refine (implSF E T ep a b zs.length c ys.length d _ (hG.new hw) hn1 hm1).mono ?_
      rintro e w1 ⟨rfl, hn1'⟩
      have n1 := hw.trans hn1'
      have bP1 := bP.new hn1'
      have bR1 := bR.new hn1'
      have lR := bR1.lt
      have cP := bP1.cells
      clear hn1' hw
      go_wp2_with fail
      refine (place_yes up a zs.length c _ HV.out hn1).mono ?_
      rintro e w1' ⟨rfl, hx⟩
      obtain rfl := hx.symm
      by_cases hmx : T < up
      · have HM : Hid (max T up = up) := by unfold Hid; omega
        have bP3 : Blk (w1.setCell ⟨w.heap.size, 2, none⟩ (.int .i64 up)) w.heap.size 25 #[.int .i64 E, .slice a zs.length c, .int .i64 up, .slice b ys.length d] := bP1.set 2 _
        have t3 : Turn (fun i => i = w.heap.size) w1 (w1.setCell ⟨w.heap.size, 2, none⟩ (.int .i64 up)) := Turn.set (S := fun i => i = w.heap.size) (Turn.refl _ _) rfl _
        have bR3 := bR1.turn t3 (by omega)
        have N3 := n1.before t3 (by intro i hi e; omega)
        have fP := bP1.frees
        go_upto_region 7 with fail
        generalize w1.setCell ⟨w.heap.size, 2, none⟩ (.int .i64 up) = w3 at *
        clear cP fP t3 bP1 bR1
        have cP := bP3.cells
        go_wp2_with fail
        refine (copyW E up a b c d zs ys _ (ha.new N3) (hb.new N3) HNA.out HNB.out hn1 hm1).mono ?_
        rintro e w4 ⟨p1, p2, d1, d2, rfl, q1, q2, qa, qn⟩
        have bR4 := bR3.new qn
        have cR := bR4.cells
        have fR := bR4.frees
        have lR3 := bR3.lt
        go_wp2
        refine bodyPost_ret (v := .agg #[.int .i64 0, .slice none 0 0, .int .i64 E, .slice p1 zs.length d1, .int .i64 up, .slice p2 ys.length d2]) (by simp [results, Tryd.results10, go_sem, cR]) rfl ?_
        unfold WrA aiA
        rw [if_pos HF.out, if_neg HU.out, HM.out]
        exact WrAns.stored (B := w.heap.size + 1) (by omega) lR3 N3 q1 q2 qa qn (Turn.set (S := fun i => i = w.heap.size + 1) (Turn.set (S := fun i => i = w.heap.size + 1) (Turn.set (S := fun i => i = w.heap.size + 1) (Turn.set (S := fun i => i = w.heap.size + 1) (Turn.set (S := fun i => i = w.heap.size + 1) (Turn.set (S := fun i => i = w.heap.size + 1) (Turn.refl _ _) rfl _) rfl _) rfl _) rfl _) rfl _) rfl _)
      · have HM : Hid (max T up = T) := by unfold Hid; omega
        have bP3 : Blk (w1.setCell ⟨w.heap.size, 2, none⟩ (.int .i64 T)) w.heap.size 25 #[.int .i64 E, .slice a zs.length c, .int .i64 T, .slice b ys.length d] := bP1.set 2 _
        have t3 : Turn (fun i => i = w.heap.size) w1 (w1.setCell ⟨w.heap.size, 2, none⟩ (.int .i64 T)) := Turn.set (S := fun i => i = w.heap.size) (Turn.refl _ _) rfl _
        have bR3 := bR1.turn t3 (by omega)
        have N3 := n1.before t3 (by intro i hi e; omega)
        have fP := bP1.frees
        go_upto_region 7 with fail
        generalize w1.setCell ⟨w.heap.size, 2, none⟩ (.int .i64 T) = w3 at *
        clear cP fP t3 bP1 bR1
        have cP := bP3.cells
        go_wp2_with fail
        refine (copyW E T a b c d zs ys _ (ha.new N3) (hb.new N3) HNA.out HNB.out hn1 hm1).mono ?_
        rintro e w4 ⟨p1, p2, d1, d2, rfl, q1, q2, qa, qn⟩
        have bR4 := bR3.new qn
        have cR := bR4.cells
        have fR := bR4.frees
        have lR3 := bR3.lt
        go_wp2
        refine bodyPost_ret (v := .agg #[.int .i64 0, .slice none 0 0, .int .i64 E, .slice p1 zs.length d1, .int .i64 T, .slice p2 ys.length d2]) (by simp [results, Tryd.results10, go_sem, cR]) rfl ?_
        unfold WrA aiA
        rw [if_pos HF.out, if_neg HU.out, HM.out]
        exact WrAns.stored (B := w.heap.size + 1) (by omega) lR3 N3 q1 q2 qa qn (Turn.set (S := fun i => i = w.heap.size + 1) (Turn.set (S := fun i => i = w.heap.size + 1) (Turn.set (S := fun i => i = w.heap.size + 1) (Turn.set (S := fun i => i = w.heap.size + 1) (Turn.set (S := fun i => i = w.heap.size + 1) (Turn.set (S := fun i => i = w.heap.size + 1) (Turn.refl _ _) rfl _) rfl _) rfl _) rfl _) rfl _) rfl _)
  · have hf' : (sF E T ep zs.length ys.length != 0) = true := by simp [hf]
    have HF : Hid (¬ sF E T ep zs.length ys.length = 0) := hf
    clear hf
    go_enter Tryd.func10, Tryd.ntmps10
    go_wp2_with fail
    refine (implSF E T ep a b zs.length c ys.length d _ (hG.new hw) hn1 hm1).mono ?_
    rintro e w1 ⟨rfl, hn1'⟩
    have n1 := hw.trans hn1'
    have bP1 := bP.new hn1'
    have bR1 := bR.new hn1'
    have lR := bR1.lt
    have cP := bP1.cells
    clear hn1' hw
    have cR := bR1.cells
    have fR := bR1.frees
    go_wp2
    refine bodyPost_ret (v := .agg #[.int .i64 (sF E T ep zs.length ys.length), .slice none 0 0, .int .i64 0, .slice none 0 0, .int .i64 0, .slice none 0 0]) (by simp [results, Tryd.results10, go_sem, cR]) rfl ?_
    unfold WrA aiA
    rw [if_neg HF.out]
    exact WrAns.codeT (B := w.heap.size + 1) (by omega) n1 (Turn.set (S := fun i => i = w.heap.size + 1) (Turn.set (S := fun i => i = w.heap.size + 1) (Turn.set (S := fun i => i = w.heap.size + 1) (Turn.set (S := fun i => i = w.heap.size + 1) (Turn.set (S := fun i => i = w.heap.size + 1) (Turn.set (S := fun i => i = w.heap.size + 1) (Turn.refl _ _) rfl _) rfl _) rfl _) rfl _) rfl _) rfl _)

end Go.Proofs.YtkjhjfdgkinpjaaDoor
