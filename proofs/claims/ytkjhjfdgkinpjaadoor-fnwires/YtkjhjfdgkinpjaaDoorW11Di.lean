/- What is proved here: what DeliverOut of the program answers for lists of at most 1048576 bytes. The condition: the package-level variables hold what the text lays. -/
import Derived.Test.YtkjhjfdgkinpjaaDoorW11Ps
import Derived.Test.YtkjhjfdgkinpjaaDoorW11Ti
import Derived.Test.YtkjhjfdgkinpjaaDoorW11Eq
import Derived.Test.YtkjhjfdgkinpjaaDoorRwLib
namespace Go.Proofs.YtkjhjfdgkinpjaaDoor
open Go.RowKit
set_option linter.unusedVariables false
set_option linter.unusedSimpArgs false

/-- How many of the bytes that are given were given before. -/
def agK (an : Nat) (ys us : List Int) : Nat := min us.length (ys.length - an)
/-- What DeliverOut answers. -/
def doA (E T ep at' : Int) (zs ys us : List Int) : Wr := if sF E T ep zs.length ys.length = 0 then (if at' < 0 ∨ (ys.length : Int) < at' then Wr.bad 3 else if 2000 < at' + (us.length : Int) then Wr.bad 2 else if us.take (agK at'.toNat ys us) = (ys.drop at'.toNat).take (agK at'.toNat ys us) then ⟨0, E, T, [], zs, ys ++ us.drop (agK at'.toNat ys us)⟩ else Wr.bad 7) else Wr.bad (sF E T ep zs.length ys.length)

set_option maxHeartbeats 3200000 in
theorem implDOno (E T ep : Int) (an : Nat) (a b q : Option Addr) (c d f : Nat) (zs ys us : List Int) (w : World) (hG : Glob w) (hsb : (b = none ∧ ys.length = 0 ∧ d = 0) ∨ ∃ g o, b = some ⟨g, o, none⟩) (hcb : ys.length ≤ d) (hsq : (q = none ∧ us.length = 0 ∧ f = 0) ∨ ∃ g o, q = some ⟨g, o, none⟩) (hcq : us.length ≤ f) (hq : BsAt w q us) (hl1 : us.length ≤ 1048576) (ha : BsAt w a zs) (hb : BsAt w b ys) (hna : a = none → zs.length = 0 ∧ c = 0) (hnb : b = none → ys.length = 0 ∧ d = 0) (hn1 : zs.length ≤ 1048576) (hm1 : ys.length ≤ 1048576) (hf : sF E T ep zs.length ys.length = 0) (han : an ≤ ys.length) (hfit : an + us.length ≤ 2000) (kk : Nat) (hkk : (us.length ≤ ys.length - an ∧ kk = us.length) ∨ (¬ us.length ≤ ys.length - an ∧ kk = ys.length - an)) (hE : ¬ us.take kk = (ys.drop an).take kk) :
    Calls Tryd.prog 7 #[.agg #[.int .i64 E, .slice a zs.length c, .int .i64 T, .slice b ys.length d], .int .i64 ep, .int .i64 an, .slice q us.length f] w fun e w' => WrA w (Wr.bad 7) e w' := by
  have hz := ha.lt
  have hy := hb.lt
  have hu := hq.lt
  have HE : Hid (¬ us.take kk = (ys.drop an).take kk) := hE
  clear hE
  have hk1 : kk ≤ us.length := by omega
  have hk2 : an + kk ≤ ys.length := by omega
  have HLk : Hid ((us.take kk).length = kk) := by unfold Hid; rw [List.length_take]; omega
  have HLy : Hid (((ys.drop an).take kk).length = kk) := by unfold Hid; rw [List.length_take, List.length_drop]; omega
  obtain ⟨b2, d2, hG1, hbs2, hno2⟩ := cutM b d an (an + kk) ys hsb hcb (by omega) (by omega)
  rw [show an + kk - an = kk by omega] at hG1 hbs2 hno2
  obtain ⟨en, hen⟩ : ∃ en : Nat, an + kk = en := ⟨_, rfl⟩
  rw [hen] at hG1
  have hen2 : (an : Int) + (kk : Int) = (en : Int) := by omega
  have hen3 : en ≤ 2000 := by have := (wF_zero (sF_zero hf).1).2.1.2; omega
  have hwr : IntKind.i64.wrap (en : Int) = (en : Int) := by simp [IntKind.wrap, IntKind.signed, IntKind.bits]; omega
  clear hen
  have hD1 := headL q us.length f kk hsq (by omega)
  obtain ⟨q2, f2, hD2, hbsq, hnoq, -, -⟩ := cutL q f kk us hsq hcq (by omega)
  have HNQ : Hid (q = none → kk = 0 ∧ f = 0) := by
    rintro rfl
    rcases hsq with h | ⟨g, o, h⟩
    · exact ⟨by omega, h.2.2⟩
    · cases h
  have HN2 : Hid (b2 = none → kk = 0 ∧ d2 = 0) := hno2
  have HB2 : Hid (∀ W, BsAt W b ys → BsAt W b2 ((ys.drop an).take kk)) := hbs2
  have HQ2 : Hid (∀ W, BsAt W q us → BsAt W q2 (us.drop kk)) := hbsq
  have HNR : Hid (q2 = none → us.length - kk = 0 ∧ f2 = 0) := hnoq
  have HK1 : Hid (kk ≤ us.length ∧ an + kk ≤ ys.length) := ⟨by omega, by omega⟩
  clear hbs2 hno2 hbsq hnoq hsb hsq
  rcases hkk with ⟨hle, rfl⟩ | ⟨hle, hkk⟩
  · have hle2 : (us.length : Int) ≤ (ys.length : Int) - (an : Int) := by omega
    rw [Nat.sub_self] at hD2 HNR
    have hw := ((New.refl w).alloc (.cells #[.int .i64 E, .slice a zs.length c, .int .i64 T, .slice b ys.length d] 25)).alloc (.cells #[.int .i64 0, .slice none 0 0, .int .i64 0, .slice none 0 0, .int .i64 0, .slice none 0 0] 29)
    have bP := (Blk.mk w w.heap.size 25 #[.int .i64 E, .slice a zs.length c, .int .i64 T, .slice b ys.length d] rfl).alloc (.cells #[.int .i64 0, .slice none 0 0, .int .i64 0, .slice none 0 0, .int .i64 0, .slice none 0 0] 29)
    have bR := Blk.mk (w.alloc (.cells #[.int .i64 E, .slice a zs.length c, .int .i64 T, .slice b ys.length d] 25)) (w.heap.size + 1) 29 #[.int .i64 0, .slice none 0 0, .int .i64 0, .slice none 0 0, .int .i64 0, .slice none 0 0] (by simp)
    have HNA : Hid (a = none → zs.length = 0 ∧ c = 0) := hna
    have HNB : Hid (b = none → ys.length = 0 ∧ d = 0) := hnb
    clear hna hnb
    have hf' : (sF E T ep zs.length ys.length != 0) = false := by simp [hf]
    have HF : Hid (sF E T ep zs.length ys.length = 0) := hf
    obtain ⟨hf0, hep1, hep2, hep3⟩ := sF_zero hf
    obtain ⟨-, ⟨hn2, hm2⟩, hT0, hT1⟩ := wF_zero hf0
    clear hf hf0
    go_enter Tryd.func7, Tryd.ntmps7
    go_wp2_with fail
    refine (implSF E T ep a b zs.length c ys.length d _ (hG.new hw) hn1 hm1).mono ?_
    rintro e w1 ⟨rfl, hn1'⟩
    have n1 := hw.trans hn1'
    have bP1 := bP.new hn1'
    have bR1 := bR.new hn1'
    have lR := bR1.lt
    have cP := bP1.cells
    clear hn1' hw
    go_wp2_with fail
    refine (place_yes (an : Int) b ys.length d _ ⟨by omega, by omega⟩ hm1).mono ?_
    rintro e w1' ⟨rfl, hx⟩
    obtain rfl := hx.symm
    go_upto_region 9 with fail
    have cPd := (bP1.new ((New.refl _).drew)).cells
    have hq1 := (hq.new n1).take us.length
    have hb1 := HB2.out _ (hb.new n1)
    go_region_held3 (fun X => ∀ j, X.cell? ⟨w.heap.size, j, none⟩ = (#[.int .i64 E, .slice a zs.length c, .int .i64 T, .slice b ys.length d] : Array Value)[j]?) (first | (with_reducible exact cP) | (with_reducible exact cPd) | (with_reducible exact cP2))
      (first
        | (go_at_call 27; refine (eqB_no q b2 us.length f us.length d2 (us.take us.length) ((ys.drop an).take us.length) _ (hq1.new ((New.refl _).drew)) (hb1.new ((New.refl _).drew)) HLk.out HLy.out HNQ.out HN2.out HE.out).mono ?_; rintro e w2 ⟨rfl, hw2⟩; have n12 : New w1 w2 := (by rw [hw2]; exact (New.refl _).drew); have cP2 := (bP1.new n12).cells; clear hw2))
    have n2 := n1.trans n12
    have bR2 := bR1.new n12
    clear cP cPd cP2
    have cR := bR2.cells
    have fR := bR2.frees
    go_wp2
    refine bodyPost_ret (v := .agg #[.int .i64 7, .slice none 0 0, .int .i64 0, .slice none 0 0, .int .i64 0, .slice none 0 0]) (by simp [results, Tryd.results7, go_sem, cR]) rfl ?_
    exact WrAns.codeT (B := w.heap.size + 1) (by omega) n2 (Turn.set (S := fun i => i = w.heap.size + 1) (Turn.set (S := fun i => i = w.heap.size + 1) (Turn.set (S := fun i => i = w.heap.size + 1) (Turn.set (S := fun i => i = w.heap.size + 1) (Turn.set (S := fun i => i = w.heap.size + 1) (Turn.set (S := fun i => i = w.heap.size + 1) (Turn.refl _ _) rfl _) rfl _) rfl _) rfl _) rfl _) rfl _)
  · have hq9 : (ys.length : Int) - (an : Int) = (kk : Int) := by omega
    have hle2 : ¬ (us.length : Int) ≤ (kk : Int) := by omega
    clear hkk
    have hw := ((New.refl w).alloc (.cells #[.int .i64 E, .slice a zs.length c, .int .i64 T, .slice b ys.length d] 25)).alloc (.cells #[.int .i64 0, .slice none 0 0, .int .i64 0, .slice none 0 0, .int .i64 0, .slice none 0 0] 29)
    have bP := (Blk.mk w w.heap.size 25 #[.int .i64 E, .slice a zs.length c, .int .i64 T, .slice b ys.length d] rfl).alloc (.cells #[.int .i64 0, .slice none 0 0, .int .i64 0, .slice none 0 0, .int .i64 0, .slice none 0 0] 29)
    have bR := Blk.mk (w.alloc (.cells #[.int .i64 E, .slice a zs.length c, .int .i64 T, .slice b ys.length d] 25)) (w.heap.size + 1) 29 #[.int .i64 0, .slice none 0 0, .int .i64 0, .slice none 0 0, .int .i64 0, .slice none 0 0] (by simp)
    have HNA : Hid (a = none → zs.length = 0 ∧ c = 0) := hna
    have HNB : Hid (b = none → ys.length = 0 ∧ d = 0) := hnb
    clear hna hnb
    have hf' : (sF E T ep zs.length ys.length != 0) = false := by simp [hf]
    have HF : Hid (sF E T ep zs.length ys.length = 0) := hf
    obtain ⟨hf0, hep1, hep2, hep3⟩ := sF_zero hf
    obtain ⟨-, ⟨hn2, hm2⟩, hT0, hT1⟩ := wF_zero hf0
    clear hf hf0
    go_enter Tryd.func7, Tryd.ntmps7
    go_wp2_with fail
    refine (implSF E T ep a b zs.length c ys.length d _ (hG.new hw) hn1 hm1).mono ?_
    rintro e w1 ⟨rfl, hn1'⟩
    have n1 := hw.trans hn1'
    have bP1 := bP.new hn1'
    have bR1 := bR.new hn1'
    have lR := bR1.lt
    have cP := bP1.cells
    clear hn1' hw
    go_wp2_with fail
    refine (place_yes (an : Int) b ys.length d _ ⟨by omega, by omega⟩ hm1).mono ?_
    rintro e w1' ⟨rfl, hx⟩
    obtain rfl := hx.symm
    go_upto_region 9 with fail
    have cPd := (bP1.new ((New.refl _).drew)).cells
    have hq1 := (hq.new n1).take kk
    have hb1 := HB2.out _ (hb.new n1)
    go_region_held3 (fun X => ∀ j, X.cell? ⟨w.heap.size, j, none⟩ = (#[.int .i64 E, .slice a zs.length c, .int .i64 T, .slice b ys.length d] : Array Value)[j]?) (first | (with_reducible exact cP) | (with_reducible exact cPd) | (with_reducible exact cP2))
      (first
        | (go_at_call 27; refine (eqB_no q b2 kk f kk d2 (us.take kk) ((ys.drop an).take kk) _ (hq1.new ((New.refl _).drew)) (hb1.new ((New.refl _).drew)) HLk.out HLy.out HNQ.out HN2.out HE.out).mono ?_; rintro e w2 ⟨rfl, hw2⟩; have n12 : New w1 w2 := (by rw [hw2]; exact (New.refl _).drew); have cP2 := (bP1.new n12).cells; clear hw2))
    have n2 := n1.trans n12
    have bR2 := bR1.new n12
    clear cP cPd cP2
    have cR := bR2.cells
    have fR := bR2.frees
    go_wp2
    refine bodyPost_ret (v := .agg #[.int .i64 7, .slice none 0 0, .int .i64 0, .slice none 0 0, .int .i64 0, .slice none 0 0]) (by simp [results, Tryd.results7, go_sem, cR]) rfl ?_
    exact WrAns.codeT (B := w.heap.size + 1) (by omega) n2 (Turn.set (S := fun i => i = w.heap.size + 1) (Turn.set (S := fun i => i = w.heap.size + 1) (Turn.set (S := fun i => i = w.heap.size + 1) (Turn.set (S := fun i => i = w.heap.size + 1) (Turn.set (S := fun i => i = w.heap.size + 1) (Turn.set (S := fun i => i = w.heap.size + 1) (Turn.refl _ _) rfl _) rfl _) rfl _) rfl _) rfl _) rfl _)

set_option maxHeartbeats 3200000 in
theorem implDOyes (E T ep : Int) (an : Nat) (a b q : Option Addr) (c d f : Nat) (zs ys us : List Int) (w : World) (hG : Glob w) (hsb : (b = none ∧ ys.length = 0 ∧ d = 0) ∨ ∃ g o, b = some ⟨g, o, none⟩) (hcb : ys.length ≤ d) (hsq : (q = none ∧ us.length = 0 ∧ f = 0) ∨ ∃ g o, q = some ⟨g, o, none⟩) (hcq : us.length ≤ f) (hq : BsAt w q us) (hl1 : us.length ≤ 1048576) (ha : BsAt w a zs) (hb : BsAt w b ys) (hna : a = none → zs.length = 0 ∧ c = 0) (hnb : b = none → ys.length = 0 ∧ d = 0) (hn1 : zs.length ≤ 1048576) (hm1 : ys.length ≤ 1048576) (hf : sF E T ep zs.length ys.length = 0) (han : an ≤ ys.length) (hfit : an + us.length ≤ 2000) (kk : Nat) (hkk : (us.length ≤ ys.length - an ∧ kk = us.length) ∨ (¬ us.length ≤ ys.length - an ∧ kk = ys.length - an)) (hE : us.take kk = (ys.drop an).take kk) :
    Calls Tryd.prog 7 #[.agg #[.int .i64 E, .slice a zs.length c, .int .i64 T, .slice b ys.length d], .int .i64 ep, .int .i64 an, .slice q us.length f] w fun e w' => WrA w ((⟨0, E, T, [], zs, ys ++ us.drop kk⟩ : Wr)) e w' := by
  have hz := ha.lt
  have hy := hb.lt
  have hu := hq.lt
  have HE : Hid (us.take kk = (ys.drop an).take kk) := hE
  clear hE
  have hk1 : kk ≤ us.length := by omega
  have hk2 : an + kk ≤ ys.length := by omega
  have HLk : Hid ((us.take kk).length = kk) := by unfold Hid; rw [List.length_take]; omega
  have HLy : Hid (((ys.drop an).take kk).length = kk) := by unfold Hid; rw [List.length_take, List.length_drop]; omega
  obtain ⟨b2, d2, hG1, hbs2, hno2⟩ := cutM b d an (an + kk) ys hsb hcb (by omega) (by omega)
  rw [show an + kk - an = kk by omega] at hG1 hbs2 hno2
  obtain ⟨en, hen⟩ : ∃ en : Nat, an + kk = en := ⟨_, rfl⟩
  rw [hen] at hG1
  have hen2 : (an : Int) + (kk : Int) = (en : Int) := by omega
  have hen3 : en ≤ 2000 := by have := (wF_zero (sF_zero hf).1).2.1.2; omega
  have hwr : IntKind.i64.wrap (en : Int) = (en : Int) := by simp [IntKind.wrap, IntKind.signed, IntKind.bits]; omega
  clear hen
  have hD1 := headL q us.length f kk hsq (by omega)
  obtain ⟨q2, f2, hD2, hbsq, hnoq, -, -⟩ := cutL q f kk us hsq hcq (by omega)
  have HNQ : Hid (q = none → kk = 0 ∧ f = 0) := by
    rintro rfl
    rcases hsq with h | ⟨g, o, h⟩
    · exact ⟨by omega, h.2.2⟩
    · cases h
  have HN2 : Hid (b2 = none → kk = 0 ∧ d2 = 0) := hno2
  have HB2 : Hid (∀ W, BsAt W b ys → BsAt W b2 ((ys.drop an).take kk)) := hbs2
  have HQ2 : Hid (∀ W, BsAt W q us → BsAt W q2 (us.drop kk)) := hbsq
  have HNR : Hid (q2 = none → us.length - kk = 0 ∧ f2 = 0) := hnoq
  have HK1 : Hid (kk ≤ us.length ∧ an + kk ≤ ys.length) := ⟨by omega, by omega⟩
  clear hbs2 hno2 hbsq hnoq hsb hsq
  rcases hkk with ⟨hle, rfl⟩ | ⟨hle, hkk⟩
  · have hle2 : (us.length : Int) ≤ (ys.length : Int) - (an : Int) := by omega
    rw [Nat.sub_self] at hD2 HNR
    have hw := ((New.refl w).alloc (.cells #[.int .i64 E, .slice a zs.length c, .int .i64 T, .slice b ys.length d] 25)).alloc (.cells #[.int .i64 0, .slice none 0 0, .int .i64 0, .slice none 0 0, .int .i64 0, .slice none 0 0] 29)
    have bP := (Blk.mk w w.heap.size 25 #[.int .i64 E, .slice a zs.length c, .int .i64 T, .slice b ys.length d] rfl).alloc (.cells #[.int .i64 0, .slice none 0 0, .int .i64 0, .slice none 0 0, .int .i64 0, .slice none 0 0] 29)
    have bR := Blk.mk (w.alloc (.cells #[.int .i64 E, .slice a zs.length c, .int .i64 T, .slice b ys.length d] 25)) (w.heap.size + 1) 29 #[.int .i64 0, .slice none 0 0, .int .i64 0, .slice none 0 0, .int .i64 0, .slice none 0 0] (by simp)
    have HNA : Hid (a = none → zs.length = 0 ∧ c = 0) := hna
    have HNB : Hid (b = none → ys.length = 0 ∧ d = 0) := hnb
    clear hna hnb
    have hf' : (sF E T ep zs.length ys.length != 0) = false := by simp [hf]
    have HF : Hid (sF E T ep zs.length ys.length = 0) := hf
    obtain ⟨hf0, hep1, hep2, hep3⟩ := sF_zero hf
    obtain ⟨-, ⟨hn2, hm2⟩, hT0, hT1⟩ := wF_zero hf0
    clear hf hf0
    go_enter Tryd.func7, Tryd.ntmps7
    go_wp2_with fail
    refine (implSF E T ep a b zs.length c ys.length d _ (hG.new hw) hn1 hm1).mono ?_
    rintro e w1 ⟨rfl, hn1'⟩
    have n1 := hw.trans hn1'
    have bP1 := bP.new hn1'
    have bR1 := bR.new hn1'
    have lR := bR1.lt
    have cP := bP1.cells
    clear hn1' hw
    go_wp2_with fail
    refine (place_yes (an : Int) b ys.length d _ ⟨by omega, by omega⟩ hm1).mono ?_
    rintro e w1' ⟨rfl, hx⟩
    obtain rfl := hx.symm
    go_upto_region 9 with fail
    have cPd := (bP1.new ((New.refl _).drew)).cells
    have hq1 := (hq.new n1).take us.length
    have hb1 := HB2.out _ (hb.new n1)
    go_region_held3 (fun X => ∀ j, X.cell? ⟨w.heap.size, j, none⟩ = (#[.int .i64 E, .slice a zs.length c, .int .i64 T, .slice b ys.length d] : Array Value)[j]?) (first | (with_reducible exact cP) | (with_reducible exact cPd) | (with_reducible exact cP2))
      (first
        | (go_at_call 27; refine (eqB_yes q b2 us.length f d2 (us.take us.length) _ (hq1.new ((New.refl _).drew)) (by rw [HE.out]; exact hb1.new ((New.refl _).drew)) HLk.out HNQ.out HN2.out).mono ?_; rintro e w2 ⟨rfl, hw2⟩; have n12 : New w1 w2 := (by rw [hw2]; exact (New.refl _).drew); have cP2 := (bP1.new n12).cells; clear hw2))
    have HRL : Hid ((us.drop us.length).length = 0) := by unfold Hid; rw [List.length_drop]; try omega
    have n2 := n1.trans n12
    have bP2 := bP1.new n12
    have bR2 := bR1.new n12
    have lR2 := bR2.lt
    clear cP cPd cP2
    go_upto_region 11 with fail
    refine hw_start (n := 9) (S := fun _ => True) rfl (by kernel_rfl) trivial (fun hH => ?_)
    refine' hw_take 0 (some 51) _ rfl rfl (by kernel_rfl) (by kernel_rfl) (by kernel_rfl) (fun _ _ _ h => h) (by rfl) hH ?hy1 ?rest1
    case hy1 =>
      intro X hX
      go_simp
      try rfl
    simp only [Act.put, List.setIfInBounds_toArray, List.set_cons_zero, List.set_cons_succ]
    refine' hw_take 2 (some 53) _ rfl rfl (by kernel_rfl) (by kernel_rfl) (by kernel_rfl) (fun _ _ _ h => h) (by rfl) hH ?hy2 ?rest2
    case hy2 =>
      intro X hX
      go_simp
      try rfl
    simp only [Act.put, List.setIfInBounds_toArray, List.set_cons_zero, List.set_cons_succ]
    refine' hw_take 3 (some 54) _ rfl rfl (by kernel_rfl) (by kernel_rfl) (by kernel_rfl) (fun _ _ _ h => h) (by rfl) hH ?hy3 ?rest3
    case hy3 =>
      intro X hX
      go_simp
      try rfl
    simp only [Act.put, List.setIfInBounds_toArray, List.set_cons_zero, List.set_cons_succ]
    refine' hw_take 4 (some 55) _ rfl rfl (by kernel_rfl) (by kernel_rfl) (by kernel_rfl) (fun _ _ _ h => h) (by rfl) hH ?hy4 ?rest4
    case hy4 =>
      intro X hX
      go_simp
      try rfl
    simp only [Act.put, List.setIfInBounds_toArray, List.set_cons_zero, List.set_cons_succ]
    refine hw_call 1 (some 52) rfl rfl (by kernel_rfl) (by rfl) (fun K hK => ?_)
    have cPd := (bP2.new ((New.refl _).drew)).cells
    go_simp
    refine hK.out _ _ trivial (fun hH => ?_)
    simp only [Act.put, List.setIfInBounds_toArray, List.set_cons_zero, List.set_cons_succ]
    refine hw_call 5 (some 56) rfl rfl (by kernel_rfl) (by rfl) (fun K hK => ?_)
    go_simp
    refine hK.out _ _ trivial (fun hH => ?_)
    simp only [Act.put, List.setIfInBounds_toArray, List.set_cons_zero, List.set_cons_succ]
    have al : New w2 (w2.alloc (.cells #[.slice b ys.length d, .slice q2 0 f2] 22)).drew := ((New.refl w2).alloc _).drew
    have bL := (Blk.mk w2 w2.heap.size 22 #[.slice b ys.length d, .slice q2 0 f2] rfl).new ((New.refl _).drew)
    have hCC := concat2 w2.heap.size b q2 ys.length d 0 f2 ys (us.drop us.length) _ (bL.cells 0) (bL.cells 1) (hb.new (n2.trans al)) (HQ2.out _ (hq.new (n2.trans al))) rfl HRL.out HNB.out (by simpa using HNR.out) hm1 (by omega)
    refine hw_call 6 (some 57) rfl rfl (by kernel_rfl) (by rfl) (fun K hK => ?_)
    go_simp
    refine hCC.mono ?_
    rintro e w3 ⟨v3, rfl, ho3, hn3⟩
    have n23 := al.trans hn3
    have o3 : OvB w3 w2.heap.size v3 (ys ++ us.drop us.length) := ho3.low al.size
    have hvz : ∀ z ∈ ys ++ us.drop us.length, 0 ≤ z ∧ z ≤ 255 := fun z hz' => (List.mem_append.1 hz').elim (hy z) (fun h => hu z (List.mem_of_mem_drop h))
    obtain ⟨vs, hV⟩ : ∃ vs, ys ++ us.drop us.length = vs := ⟨_, rfl⟩
    have hl3 : vs.length ≤ 1048576 := by rw [← hV, List.length_append, List.length_drop]; omega
    rw [hV] at o3 hvz
    have HV : Hid (ys ++ us.drop us.length = vs) := hV
    clear hV ho3
    obtain ⟨p3, c3, rfl, ha3, -, hs3, -⟩ := o3.bs hvz
    have HN3 : Hid (p3 = none → vs.length = 0 ∧ c3 = 0) := by
      rintro rfl
      rcases hs3 with h | ⟨g, h, _⟩
      · exact h.2
      · cases h
    refine hK.out _ _ trivial (fun hH => ?_)
    simp only [Act.put, List.setIfInBounds_toArray, List.set_cons_zero, List.set_cons_succ]
    refine' hw_take 7 (some 58) _ rfl rfl (by kernel_rfl) (by kernel_rfl) (by kernel_rfl) (fun _ _ _ h => h) (by rfl) hH ?hy5 ?rest5
    case hy5 =>
      intro X hX
      go_simp
      try rfl
    simp only [Act.put, List.setIfInBounds_toArray, List.set_cons_zero, List.set_cons_succ]
    refine hw_call 8 none rfl rfl (by kernel_rfl) (by rfl) (fun K hK => ?_)
    have bP3 := bP2.new n23
    have bR3 := bR2.new n23
    have cP3 := bP3.cells
    have fP3 := bP3.frees
    have s23 := n23.size
    go_simp
    refine hK.out undef _ trivial (fun hH => ?_)
    refine wpAnyH_done (by kernel_rfl) ?_ _
    have bP4 : Blk (w3.setCell ⟨w.heap.size, 3, none⟩ (.slice p3 vs.length c3)) w.heap.size 25 #[.int .i64 E, .slice a zs.length c, .int .i64 T, .slice p3 vs.length c3] := bP3.set 3 _
    have t4 : Turn (fun i => i = w.heap.size) w3 (w3.setCell ⟨w.heap.size, 3, none⟩ (.slice p3 vs.length c3)) := Turn.set (S := fun i => i = w.heap.size) (Turn.refl _ _) rfl _
    have bR4 := bR3.turn t4 (by omega)
    have N4 := (n2.trans n23).before t4 (by intro i hi e; omega)
    have lP := bP2.lt
    have A4 : BsAt (w3.setCell ⟨w.heap.size, 3, none⟩ (.slice p3 vs.length c3)) p3 vs := ha3.turn t4 (by rintro x rfl e; rcases hs3 with ⟨h, _⟩ | ⟨g, h, h1, _⟩; cases h; obtain rfl := Option.some.inj h; simp at e; omega)
    generalize w3.setCell ⟨w.heap.size, 3, none⟩ (.slice p3 vs.length c3) = w4 at *
    clear cP3 fP3 t4 bP3 bR3 hs3 o3 cPd
    have cP := bP4.cells
    go_wp2_with fail
    refine (copyW E T a p3 c c3 zs vs _ (ha.new N4) A4 HNA.out HN3.out hn1 hl3).mono ?_
    rintro e w5 ⟨p5, p6, d5, d6, rfl, q1, q2', qa, qn⟩
    have bR5 := bR4.new qn
    have cR := bR5.cells
    have fR := bR5.frees
    have lR4 := bR4.lt
    go_wp2
    refine bodyPost_ret (v := .agg #[.int .i64 0, .slice none 0 0, .int .i64 E, .slice p5 zs.length d5, .int .i64 T, .slice p6 vs.length d6]) (by simp [results, Tryd.results7, go_sem, cR]) rfl ?_
    unfold WrA
    simp only
    rw [HV.out]
    exact WrAns.stored (B := w.heap.size + 1) (by omega) lR4 N4 q1 q2' qa qn (Turn.set (S := fun i => i = w.heap.size + 1) (Turn.set (S := fun i => i = w.heap.size + 1) (Turn.set (S := fun i => i = w.heap.size + 1) (Turn.set (S := fun i => i = w.heap.size + 1) (Turn.set (S := fun i => i = w.heap.size + 1) (Turn.set (S := fun i => i = w.heap.size + 1) (Turn.refl _ _) rfl _) rfl _) rfl _) rfl _) rfl _) rfl _)
  · have hq9 : (ys.length : Int) - (an : Int) = (kk : Int) := by omega
    have hle2 : ¬ (us.length : Int) ≤ (kk : Int) := by omega
    clear hkk
    have hw := ((New.refl w).alloc (.cells #[.int .i64 E, .slice a zs.length c, .int .i64 T, .slice b ys.length d] 25)).alloc (.cells #[.int .i64 0, .slice none 0 0, .int .i64 0, .slice none 0 0, .int .i64 0, .slice none 0 0] 29)
    have bP := (Blk.mk w w.heap.size 25 #[.int .i64 E, .slice a zs.length c, .int .i64 T, .slice b ys.length d] rfl).alloc (.cells #[.int .i64 0, .slice none 0 0, .int .i64 0, .slice none 0 0, .int .i64 0, .slice none 0 0] 29)
    have bR := Blk.mk (w.alloc (.cells #[.int .i64 E, .slice a zs.length c, .int .i64 T, .slice b ys.length d] 25)) (w.heap.size + 1) 29 #[.int .i64 0, .slice none 0 0, .int .i64 0, .slice none 0 0, .int .i64 0, .slice none 0 0] (by simp)
    have HNA : Hid (a = none → zs.length = 0 ∧ c = 0) := hna
    have HNB : Hid (b = none → ys.length = 0 ∧ d = 0) := hnb
    clear hna hnb
    have hf' : (sF E T ep zs.length ys.length != 0) = false := by simp [hf]
    have HF : Hid (sF E T ep zs.length ys.length = 0) := hf
    obtain ⟨hf0, hep1, hep2, hep3⟩ := sF_zero hf
    obtain ⟨-, ⟨hn2, hm2⟩, hT0, hT1⟩ := wF_zero hf0
    clear hf hf0
    go_enter Tryd.func7, Tryd.ntmps7
    go_wp2_with fail
    refine (implSF E T ep a b zs.length c ys.length d _ (hG.new hw) hn1 hm1).mono ?_
    rintro e w1 ⟨rfl, hn1'⟩
    have n1 := hw.trans hn1'
    have bP1 := bP.new hn1'
    have bR1 := bR.new hn1'
    have lR := bR1.lt
    have cP := bP1.cells
    clear hn1' hw
    go_wp2_with fail
    refine (place_yes (an : Int) b ys.length d _ ⟨by omega, by omega⟩ hm1).mono ?_
    rintro e w1' ⟨rfl, hx⟩
    obtain rfl := hx.symm
    go_upto_region 9 with fail
    have cPd := (bP1.new ((New.refl _).drew)).cells
    have hq1 := (hq.new n1).take kk
    have hb1 := HB2.out _ (hb.new n1)
    go_region_held3 (fun X => ∀ j, X.cell? ⟨w.heap.size, j, none⟩ = (#[.int .i64 E, .slice a zs.length c, .int .i64 T, .slice b ys.length d] : Array Value)[j]?) (first | (with_reducible exact cP) | (with_reducible exact cPd) | (with_reducible exact cP2))
      (first
        | (go_at_call 27; refine (eqB_yes q b2 kk f d2 (us.take kk) _ (hq1.new ((New.refl _).drew)) (by rw [HE.out]; exact hb1.new ((New.refl _).drew)) HLk.out HNQ.out HN2.out).mono ?_; rintro e w2 ⟨rfl, hw2⟩; have n12 : New w1 w2 := (by rw [hw2]; exact (New.refl _).drew); have cP2 := (bP1.new n12).cells; clear hw2))
    have HRL : Hid ((us.drop kk).length = us.length - kk) := by unfold Hid; rw [List.length_drop]; try omega
    have n2 := n1.trans n12
    have bP2 := bP1.new n12
    have bR2 := bR1.new n12
    have lR2 := bR2.lt
    clear cP cPd cP2
    go_upto_region 11 with fail
    refine hw_start (n := 9) (S := fun _ => True) rfl (by kernel_rfl) trivial (fun hH => ?_)
    refine' hw_take 0 (some 51) _ rfl rfl (by kernel_rfl) (by kernel_rfl) (by kernel_rfl) (fun _ _ _ h => h) (by rfl) hH ?hy51 ?rest51
    case hy51 =>
      intro X hX
      go_simp
      try rfl
    simp only [Act.put, List.setIfInBounds_toArray, List.set_cons_zero, List.set_cons_succ]
    refine' hw_take 2 (some 53) _ rfl rfl (by kernel_rfl) (by kernel_rfl) (by kernel_rfl) (fun _ _ _ h => h) (by rfl) hH ?hy52 ?rest52
    case hy52 =>
      intro X hX
      go_simp
      try rfl
    simp only [Act.put, List.setIfInBounds_toArray, List.set_cons_zero, List.set_cons_succ]
    refine' hw_take 3 (some 54) _ rfl rfl (by kernel_rfl) (by kernel_rfl) (by kernel_rfl) (fun _ _ _ h => h) (by rfl) hH ?hy53 ?rest53
    case hy53 =>
      intro X hX
      go_simp
      try rfl
    simp only [Act.put, List.setIfInBounds_toArray, List.set_cons_zero, List.set_cons_succ]
    refine' hw_take 4 (some 55) _ rfl rfl (by kernel_rfl) (by kernel_rfl) (by kernel_rfl) (fun _ _ _ h => h) (by rfl) hH ?hy54 ?rest54
    case hy54 =>
      intro X hX
      go_simp
      try rfl
    simp only [Act.put, List.setIfInBounds_toArray, List.set_cons_zero, List.set_cons_succ]
    refine hw_call 1 (some 52) rfl rfl (by kernel_rfl) (by rfl) (fun K hK => ?_)
    have cPd := (bP2.new ((New.refl _).drew)).cells
    go_simp
    refine hK.out _ _ trivial (fun hH => ?_)
    simp only [Act.put, List.setIfInBounds_toArray, List.set_cons_zero, List.set_cons_succ]
    refine hw_call 5 (some 56) rfl rfl (by kernel_rfl) (by rfl) (fun K hK => ?_)
    go_simp
    refine hK.out _ _ trivial (fun hH => ?_)
    simp only [Act.put, List.setIfInBounds_toArray, List.set_cons_zero, List.set_cons_succ]
    have al : New w2 (w2.alloc (.cells #[.slice b ys.length d, .slice q2 (us.length - kk) f2] 22)).drew := ((New.refl w2).alloc _).drew
    have bL := (Blk.mk w2 w2.heap.size 22 #[.slice b ys.length d, .slice q2 (us.length - kk) f2] rfl).new ((New.refl _).drew)
    have hCC := concat2 w2.heap.size b q2 ys.length d (us.length - kk) f2 ys (us.drop kk) _ (bL.cells 0) (bL.cells 1) (hb.new (n2.trans al)) (HQ2.out _ (hq.new (n2.trans al))) rfl HRL.out HNB.out (by simpa using HNR.out) hm1 (by omega)
    refine hw_call 6 (some 57) rfl rfl (by kernel_rfl) (by rfl) (fun K hK => ?_)
    go_simp
    refine hCC.mono ?_
    rintro e w3 ⟨v3, rfl, ho3, hn3⟩
    have n23 := al.trans hn3
    have o3 : OvB w3 w2.heap.size v3 (ys ++ us.drop kk) := ho3.low al.size
    have hvz : ∀ z ∈ ys ++ us.drop kk, 0 ≤ z ∧ z ≤ 255 := fun z hz' => (List.mem_append.1 hz').elim (hy z) (fun h => hu z (List.mem_of_mem_drop h))
    obtain ⟨vs, hV⟩ : ∃ vs, ys ++ us.drop kk = vs := ⟨_, rfl⟩
    have hl3 : vs.length ≤ 1048576 := by rw [← hV, List.length_append, List.length_drop]; omega
    rw [hV] at o3 hvz
    have HV : Hid (ys ++ us.drop kk = vs) := hV
    clear hV ho3
    obtain ⟨p3, c3, rfl, ha3, -, hs3, -⟩ := o3.bs hvz
    have HN3 : Hid (p3 = none → vs.length = 0 ∧ c3 = 0) := by
      rintro rfl
      rcases hs3 with h | ⟨g, h, _⟩
      · exact h.2
      · cases h
    refine hK.out _ _ trivial (fun hH => ?_)
    simp only [Act.put, List.setIfInBounds_toArray, List.set_cons_zero, List.set_cons_succ]
    refine' hw_take 7 (some 58) _ rfl rfl (by kernel_rfl) (by kernel_rfl) (by kernel_rfl) (fun _ _ _ h => h) (by rfl) hH ?hy55 ?rest55
    case hy55 =>
      intro X hX
      go_simp
      try rfl
    simp only [Act.put, List.setIfInBounds_toArray, List.set_cons_zero, List.set_cons_succ]
    refine hw_call 8 none rfl rfl (by kernel_rfl) (by rfl) (fun K hK => ?_)
    have bP3 := bP2.new n23
    have bR3 := bR2.new n23
    have cP3 := bP3.cells
    have fP3 := bP3.frees
    have s23 := n23.size
    go_simp
    refine hK.out undef _ trivial (fun hH => ?_)
    refine wpAnyH_done (by kernel_rfl) ?_ _
    have bP4 : Blk (w3.setCell ⟨w.heap.size, 3, none⟩ (.slice p3 vs.length c3)) w.heap.size 25 #[.int .i64 E, .slice a zs.length c, .int .i64 T, .slice p3 vs.length c3] := bP3.set 3 _
    have t4 : Turn (fun i => i = w.heap.size) w3 (w3.setCell ⟨w.heap.size, 3, none⟩ (.slice p3 vs.length c3)) := Turn.set (S := fun i => i = w.heap.size) (Turn.refl _ _) rfl _
    have bR4 := bR3.turn t4 (by omega)
    have N4 := (n2.trans n23).before t4 (by intro i hi e; omega)
    have lP := bP2.lt
    have A4 : BsAt (w3.setCell ⟨w.heap.size, 3, none⟩ (.slice p3 vs.length c3)) p3 vs := ha3.turn t4 (by rintro x rfl e; rcases hs3 with ⟨h, _⟩ | ⟨g, h, h1, _⟩; cases h; obtain rfl := Option.some.inj h; simp at e; omega)
    generalize w3.setCell ⟨w.heap.size, 3, none⟩ (.slice p3 vs.length c3) = w4 at *
    clear cP3 fP3 t4 bP3 bR3 hs3 o3 cPd
    have cP := bP4.cells
    go_wp2_with fail
    refine (copyW E T a p3 c c3 zs vs _ (ha.new N4) A4 HNA.out HN3.out hn1 hl3).mono ?_
    rintro e w5 ⟨p5, p6, d5, d6, rfl, q1, q2', qa, qn⟩
    have bR5 := bR4.new qn
    have cR := bR5.cells
    have fR := bR5.frees
    have lR4 := bR4.lt
    go_wp2
    refine bodyPost_ret (v := .agg #[.int .i64 0, .slice none 0 0, .int .i64 E, .slice p5 zs.length d5, .int .i64 T, .slice p6 vs.length d6]) (by simp [results, Tryd.results7, go_sem, cR]) rfl ?_
    unfold WrA
    simp only
    rw [HV.out]
    exact WrAns.stored (B := w.heap.size + 1) (by omega) lR4 N4 q1 q2' qa qn (Turn.set (S := fun i => i = w.heap.size + 1) (Turn.set (S := fun i => i = w.heap.size + 1) (Turn.set (S := fun i => i = w.heap.size + 1) (Turn.set (S := fun i => i = w.heap.size + 1) (Turn.set (S := fun i => i = w.heap.size + 1) (Turn.set (S := fun i => i = w.heap.size + 1) (Turn.refl _ _) rfl _) rfl _) rfl _) rfl _) rfl _) rfl _)

end Go.Proofs.YtkjhjfdgkinpjaaDoor
