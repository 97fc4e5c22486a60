/- What is proved here: what PeerSends answers, in the program and in the model, for lists of at most 1048576 bytes. -/
import Derived.Test.YtebkdaddndlmoaaGreatLS25
namespace Go.Proofs.YtebkdaddndlmoaaGreat
open Go.RowKit
set_option linter.unusedVariables false
set_option linter.unusedSimpArgs false
set_option maxRecDepth 100000

/-- An answer on a wire, as numbers and lists. -/
structure Wr where
  z : Int
  E : Int
  T : Int
  X : List Int
  Z : List Int
  Y : List Int
def Wr.bad (z : Int) : Wr := ⟨z, 0, 0, [], [], []⟩
def WrA (w : World) (A : Wr) (e : Ending) (w' : World) : Prop := WrAns w A.z A.E A.T A.X A.Z A.Y e w'

/-- A wire that a callee made, stored into the call's own result. -/
theorem WrAns.stored {w w5 w9 w' : World} {B : Nat} {E T : Int} {zs ys : List Int} {a b : Option Addr} {c d : Nat} (hB : w.heap.size ≤ B) (hB5 : B < w5.heap.size) (h5 : New w w5) (q1 : OvB w9 w5.heap.size (.slice a zs.length c) zs) (q2 : OvB w9 w5.heap.size (.slice b ys.length d) ys)
    (qa : ∀ x y, a = some x → b = some y → x.block ≠ y.block) (qn : New w5 w9) (t : Turn (fun i => i = B) w9 w') : WrAns w 0 E T [] zs ys (.returned (.agg #[.int .i64 0, .slice none 0 0, .int .i64 E, .slice a zs.length c, .int .i64 T, .slice b ys.length d])) w' := by
  have s := h5.size
  refine ⟨none, a, b, 0, c, d, rfl, ⟨rfl, .inl ⟨rfl, rfl⟩⟩, ?_, ?_, (by intro x y h; cases h), (by intro x y h; cases h), qa, (h5.trans qn).before t (by intro i hi e; omega)⟩
  · exact (ov_turn q1 t (by intro k hk e; omega)).low s
  · exact (ov_turn q2 t (by intro k hk e; omega)).low s

/-- An answer without lists, stored into the call's own result. -/
theorem WrAns.codeT {w w9 w' : World} {B : Nat} {z : Int} (hB : w.heap.size ≤ B) (h9 : New w w9) (t : Turn (fun i => i = B) w9 w') : WrAns w z 0 0 [] [] [] (.returned (.agg #[.int .i64 z, .slice none 0 0, .int .i64 0, .slice none 0 0, .int .i64 0, .slice none 0 0])) w' := WrAns.code (h9.before t (by intro i hi e; omega))

theorem OvB.turnA {w w' : World} {lo m d : Nat} {b : Option Addr} {ys : List Int} {S : Nat → Prop} (h : OvB w lo (.slice b m d) ys) (t : Turn S w w') (hS : ∀ y, b = some y → ¬ S y.block) : OvB w' lo (.slice b m d) ys := by
  refine ⟨h.1, ?_⟩
  rcases h.2 with h' | ⟨g', cap', cur, h', hb, hh, r⟩
  · exact .inl h'
  · have hlt : g' < w.heap.size := (Array.getElem?_eq_some_iff.1 hh).1
    have e : b = some ⟨g', 0, none⟩ := by simp only [Value.slice.injEq] at h'; exact h'.1
    exact .inr ⟨g', cap', cur, h', hb, (t.block g' hlt (hS _ e)).trans hh, r⟩

/-- What PeerSends answers. -/
def psA (E T : Int) (zs ys us : List Int) : Wr := if wF E T zs.length ys.length = 0 then (if 2000 < zs.length + us.length then Wr.bad 2 else ⟨0, E, T, [], zs ++ us, ys⟩) else Wr.bad (wF E T zs.length ys.length)

set_option maxHeartbeats 3200000 in
theorem implPS (E T : Int) (a b p : Option Addr) (c d f : Nat) (zs ys us : List Int) (w : World) (ha : BsAt w a zs) (hb : BsAt w b ys) (hp : BsAt w p us) (hna : a = none → zs.length = 0 ∧ c = 0) (hnb : b = none → ys.length = 0 ∧ d = 0) (hnp : p = none → us.length = 0 ∧ f = 0) (hn1 : zs.length ≤ 1048576) (hm1 : ys.length ≤ 1048576) (hl1 : us.length ≤ 1048576) :
    Calls Tryz.prog 107 #[.agg #[.int .i64 E, .slice a zs.length c, .int .i64 T, .slice b ys.length d], .slice p us.length f] w fun e w' => WrA w (psA E T zs ys us) e w' := by
  have hw := ((New.refl w).alloc (.cells #[.int .i64 E, .slice a zs.length c, .int .i64 T, .slice b ys.length d] 79)).alloc (.cells #[.int .i64 0, .slice none 0 0, .int .i64 0, .slice none 0 0, .int .i64 0, .slice none 0 0] 81)
  have bP := (Blk.mk w w.heap.size 79 #[.int .i64 E, .slice a zs.length c, .int .i64 T, .slice b ys.length d] rfl).alloc (.cells #[.int .i64 0, .slice none 0 0, .int .i64 0, .slice none 0 0, .int .i64 0, .slice none 0 0] 81)
  have bR := Blk.mk (w.alloc (.cells #[.int .i64 E, .slice a zs.length c, .int .i64 T, .slice b ys.length d] 79)) (w.heap.size + 1) 81 #[.int .i64 0, .slice none 0 0, .int .i64 0, .slice none 0 0, .int .i64 0, .slice none 0 0] (by simp)
  have HNA : Hid (a = none → zs.length = 0 ∧ c = 0) := hna
  have HNB : Hid (b = none → ys.length = 0 ∧ d = 0) := hnb
  have HNP : Hid (p = none → us.length = 0 ∧ f = 0) := hnp
  clear hna hnb hnp
  by_cases hf : wF E T zs.length ys.length = 0
  · have hf' : (wF E T zs.length ys.length != 0) = false := by simp [hf]
    have HF : Hid (wF E T zs.length ys.length = 0) := hf
    obtain ⟨-, ⟨hn2, hm2⟩, -⟩ := wF_zero hf
    clear hf
    by_cases hbig : 2000 < zs.length + us.length
    · have HB : Hid (2000 < zs.length + us.length) := hbig
      have hbi : (2000 : Int) - (zs.length : Int) < (us.length : Int) := by omega
      go_enter Tryz.func107, Tryz.ntmps107
      go_wp2_with fail
      refine (implWF E T a b zs.length c ys.length d _ hn1 hm1).mono ?_
      rintro e w1 ⟨rfl, hn1'⟩
      have bR1 := bR.new hn1'
      have cP := (bP.new hn1').cells
      have cR := bR1.cells
      have fR := bR1.frees
      go_wp2
      refine bodyPost_ret (v := .agg #[.int .i64 2, .slice none 0 0, .int .i64 0, .slice none 0 0, .int .i64 0, .slice none 0 0]) (by simp [results, Tryz.results107, go_sem, cR]) rfl ?_
      unfold WrA psA
      rw [if_pos HF.out, if_pos HB.out]
      exact WrAns.codeT (B := w.heap.size + 1) (by omega) (hw.trans hn1') (Turn.set (S := fun i => i = w.heap.size + 1) (Turn.set (S := fun i => i = w.heap.size + 1) (Turn.set (S := fun i => i = w.heap.size + 1) (Turn.set (S := fun i => i = w.heap.size + 1) (Turn.set (S := fun i => i = w.heap.size + 1) (Turn.set (S := fun i => i = w.heap.size + 1) (Turn.refl _ _) rfl _) rfl _) rfl _) rfl _) rfl _) rfl _)
    · have HB : Hid (¬ 2000 < zs.length + us.length) := hbig
      have hbi : ¬ (2000 : Int) - (zs.length : Int) < (us.length : Int) := by omega
      clear hbig
      go_enter Tryz.func107, Tryz.ntmps107
      go_wp2_with fail
      refine (implWF E T a b zs.length c ys.length d _ hn1 hm1).mono ?_
      rintro e w1 ⟨rfl, hn1'⟩
      have n1 := hw.trans hn1'
      have bP1 := bP.new hn1'
      have bR1 := bR.new hn1'
      have lR := bR1.lt
      have cP := bP1.cells
      have al := (New.refl w1).alloc (.cells #[.slice a zs.length c, .slice p us.length f] 33)
      have bL := Blk.mk w1 w1.heap.size 33 #[.slice a zs.length c, .slice p us.length f] rfl
      clear hn1' hw
      go_wp2_with fail
      refine (concat2 w1.heap.size a p zs.length c us.length f zs us _ (bL.cells 0) (bL.cells 1) ((ha.new n1).new al) ((hp.new n1).new al) rfl rfl HNA.out HNP.out hn1 hl1).mono ?_
      rintro e w2 ⟨v, rfl, ho, hn2'⟩
      have hzz : ∀ z ∈ zs ++ us, 0 ≤ z ∧ z ≤ 255 := fun z hz => (List.mem_append.1 hz).elim (ha.lt z) (hp.lt z)
      have n12 := al.trans hn2'
      replace ho : OvB w2 w1.heap.size v (zs ++ us) := ho.low al.size
      obtain ⟨vs, hV⟩ : ∃ vs, zs ++ us = vs := ⟨_, rfl⟩
      have HV : Hid (zs ++ us = vs) := hV
      rw [hV] at ho hzz
      have hl3 : vs.length ≤ 1048576 := by rw [← hV, List.length_append]; omega
      clear hV
      obtain ⟨a3, c3, rfl, ha3, hc3, hs3, -⟩ := ho.bs hzz
      have HN3 : Hid (a3 = none → vs.length = 0 ∧ c3 = 0) := by
        rintro rfl
        rcases hs3 with h | ⟨g, h, _⟩
        · exact h.2
        · cases h
      have bP2 := bP1.new n12
      have bR2 := bR1.new n12
      have N2 := n1.trans n12
      have bP3 : Blk (w2.setCell ⟨w.heap.size, 1, none⟩ (.slice a3 vs.length c3)) w.heap.size 79 #[.int .i64 E, .slice a3 vs.length c3, .int .i64 T, .slice b ys.length d] := bP2.set 1 _
      have t3 : Turn (fun i => i = w.heap.size) w2 (w2.setCell ⟨w.heap.size, 1, none⟩ (.slice a3 vs.length c3)) := Turn.set (S := fun i => i = w.heap.size) (Turn.refl _ _) rfl _
      have bR3 := bR2.turn t3 (by omega)
      have N3 := N2.before t3 (by intro i hi e; omega)
      have lP := bP1.lt
      have A3 : BsAt (w2.setCell ⟨w.heap.size, 1, none⟩ (.slice a3 vs.length c3)) a3 vs := ha3.turn t3 (by rintro x rfl e; rcases hs3 with ⟨h, _⟩ | ⟨g, h, h1, _⟩; cases h; obtain rfl := Option.some.inj h; simp at e; omega)
      clear cP bL al hn2' hs3 ho ha3 hbi
      have cP := bP2.cells
      have fP := bP2.frees
      go_upto_region 7 with fail
      generalize w2.setCell ⟨w.heap.size, 1, none⟩ (.slice a3 vs.length c3) = w3 at *
      clear cP fP bP2 bR2 t3 bP1 bR1 N2 n12
      have cP := bP3.cells
      go_wp2_with fail
      refine (copyW E T a3 b c3 d vs ys _ A3 (hb.new N3) HN3.out HNB.out hl3 hm1).mono ?_
      rintro e w4 ⟨p1, p2, d1, d2, rfl, q1, q2, qa, qn⟩
      have bR4 := bR3.new qn
      have cR := bR4.cells
      have fR := bR4.frees
      have lR3 := bR3.lt
      go_wp2
      refine bodyPost_ret (v := .agg #[.int .i64 0, .slice none 0 0, .int .i64 E, .slice p1 vs.length d1, .int .i64 T, .slice p2 ys.length d2]) (by simp [results, Tryz.results107, go_sem, cR]) rfl ?_
      unfold WrA psA
      rw [if_pos HF.out, if_neg HB.out, HV.out]
      exact WrAns.stored (B := w.heap.size + 1) (by omega) lR3 N3 q1 q2 qa qn (Turn.set (S := fun i => i = w.heap.size + 1) (Turn.set (S := fun i => i = w.heap.size + 1) (Turn.set (S := fun i => i = w.heap.size + 1) (Turn.set (S := fun i => i = w.heap.size + 1) (Turn.set (S := fun i => i = w.heap.size + 1) (Turn.set (S := fun i => i = w.heap.size + 1) (Turn.refl _ _) rfl _) rfl _) rfl _) rfl _) rfl _) rfl _)
  · have hf' : (wF E T zs.length ys.length != 0) = true := by simp [hf]
    have HF : Hid (¬ wF E T zs.length ys.length = 0) := hf
    clear hf
    go_enter Tryz.func107, Tryz.ntmps107
    go_wp2_with fail
    refine (implWF E T a b zs.length c ys.length d _ hn1 hm1).mono ?_
    rintro e w1 ⟨rfl, hn1'⟩
    have bR1 := bR.new hn1'
    have cR := bR1.cells
    have fR := bR1.frees
    go_wp2
    refine bodyPost_ret (v := .agg #[.int .i64 (wF E T zs.length ys.length), .slice none 0 0, .int .i64 0, .slice none 0 0, .int .i64 0, .slice none 0 0]) (by simp [results, Tryz.results107, go_sem, cR]) rfl ?_
    unfold WrA psA
    rw [if_neg HF.out]
    exact WrAns.codeT (B := w.heap.size + 1) (by omega) (hw.trans hn1') (Turn.set (S := fun i => i = w.heap.size + 1) (Turn.set (S := fun i => i = w.heap.size + 1) (Turn.set (S := fun i => i = w.heap.size + 1) (Turn.set (S := fun i => i = w.heap.size + 1) (Turn.set (S := fun i => i = w.heap.size + 1) (Turn.set (S := fun i => i = w.heap.size + 1) (Turn.refl _ _) rfl _) rfl _) rfl _) rfl _) rfl _) rfl _)

set_option maxHeartbeats 3200000 in
theorem specPS (E T : Int) (a b p : Option Addr) (c d f : Nat) (zs ys us : List Int) (w : World) (ha : BsAt w a zs) (hb : BsAt w b ys) (hp : BsAt w p us) (hna : a = none → zs.length = 0 ∧ c = 0) (hnb : b = none → ys.length = 0 ∧ d = 0) (hnp : p = none → us.length = 0 ∧ f = 0) (hn1 : zs.length ≤ 1048576) (hm1 : ys.length ≤ 1048576) (hl1 : us.length ≤ 1048576) :
    Calls Tryz.prog 45 #[.agg #[.int .i64 E, .slice a zs.length c, .int .i64 T, .slice b ys.length d], .slice p us.length f] w fun e w' => WrA w (psA E T zs ys us) e w' := by
  obtain ⟨i0, hi, hz0, hz1, hz2⟩ := info_parts Tryz.infoU8
  have hw := ((New.refl w).alloc (.cells #[.int .i64 E, .slice a zs.length c, .int .i64 T, .slice b ys.length d] 79)).alloc (.cells #[.int .i64 0, .slice none 0 0, .int .i64 0, .slice none 0 0, .int .i64 0, .slice none 0 0] 81)
  have bP := (Blk.mk w w.heap.size 79 #[.int .i64 E, .slice a zs.length c, .int .i64 T, .slice b ys.length d] rfl).alloc (.cells #[.int .i64 0, .slice none 0 0, .int .i64 0, .slice none 0 0, .int .i64 0, .slice none 0 0] 81)
  have bR := Blk.mk (w.alloc (.cells #[.int .i64 E, .slice a zs.length c, .int .i64 T, .slice b ys.length d] 79)) (w.heap.size + 1) 81 #[.int .i64 0, .slice none 0 0, .int .i64 0, .slice none 0 0, .int .i64 0, .slice none 0 0] (by simp)
  have HNA : Hid (a = none → zs.length = 0 ∧ c = 0) := hna
  have HNB : Hid (b = none → ys.length = 0 ∧ d = 0) := hnb
  have HNP : Hid (p = none → us.length = 0 ∧ f = 0) := hnp
  clear hna hnb hnp
  by_cases hf : wF E T zs.length ys.length = 0
  · have hf' : (wF E T zs.length ys.length != 0) = false := by simp [hf]
    have HF : Hid (wF E T zs.length ys.length = 0) := hf
    obtain ⟨-, ⟨hn2, hm2⟩, -⟩ := wF_zero hf
    clear hf
    by_cases hbig : 2000 < zs.length + us.length
    · have HB : Hid (2000 < zs.length + us.length) := hbig
      have hbi : (2000 : Int) < (zs.length : Int) + (us.length : Int) := by omega
      go_enter Tryz.func45, Tryz.ntmps45
      go_wp2_with fail
      refine (specWF E T a b zs.length c ys.length d _ hn1 hm1).mono ?_
      rintro e w1 ⟨rfl, hn1'⟩
      have cP := (bP.new hn1').cells
      have bR1 := bR.new hn1'
      go_wp2_with fail
      refine (l11B 2 _).mono ?_
      rintro e w2 ⟨rfl, hn2'⟩
      have bR2 := bR1.new hn2'
      have cR := bR2.cells
      have fR := bR2.frees
      go_wp2
      refine bodyPost_ret (v := .agg #[.int .i64 2, .slice none 0 0, .int .i64 0, .slice none 0 0, .int .i64 0, .slice none 0 0]) (by simp [results, Tryz.results45, go_sem, cR]) rfl ?_
      unfold WrA psA
      rw [if_pos HF.out, if_pos HB.out]
      exact WrAns.codeT (B := w.heap.size + 1) (by omega) ((hw.trans hn1').trans hn2') (Turn.set (S := fun i => i = w.heap.size + 1) (Turn.set (S := fun i => i = w.heap.size + 1) (Turn.set (S := fun i => i = w.heap.size + 1) (Turn.set (S := fun i => i = w.heap.size + 1) (Turn.set (S := fun i => i = w.heap.size + 1) (Turn.set (S := fun i => i = w.heap.size + 1) (Turn.refl _ _) rfl _) rfl _) rfl _) rfl _) rfl _) rfl _)
    · have HB : Hid (¬ 2000 < zs.length + us.length) := hbig
      have hbi : ¬ (2000 : Int) < (zs.length : Int) + (us.length : Int) := by omega
      have hzu : ∀ z ∈ zs ++ us, 0 ≤ z ∧ z ≤ 255 := fun z hz => (List.mem_append.1 hz).elim (ha.lt z) (hp.lt z)
      go_enter Tryz.func45, Tryz.ntmps45
      go_wp2_with fail
      refine (specWF E T a b zs.length c ys.length d _ hn1 hm1).mono ?_
      rintro e w1 ⟨rfl, hn1'⟩
      have n1 := hw.trans hn1'
      have bR1 := bR.new hn1'
      have lR := bR1.lt
      have cP := (bP.new hn1').cells
      clear hn1' hw
      go_wp2_with fail
      refine (l11C E T a b c d zs ys _ (ha.new n1) (hb.new n1) HNA.out HNB.out hn1 hm1).mono ?_
      rintro e w2 ⟨p1, p2, d1, d2, rfl, q1, q2, qa, qn⟩
      have QA : Hid (∀ x y, p1 = some x → p2 = some y → x.block ≠ y.block) := qa
      have l1 := q1.ow ha.lt
      have l2 := q2.ow hb.lt
      have HL1 : Hid (∀ x, p1 = some x → w1.heap.size ≤ x.block ∧ x.block < w2.heap.size) := l1.2.2
      have HL2 : Hid (∀ x, p2 = some x → w1.heap.size ≤ x.block ∧ x.block < w2.heap.size) := l2.2.2
      clear qa l1 l2
      have N2 := n1.trans qn
      have bR2 := bR1.new qn
      have al := (New.refl w2).alloc (.cells #[.int .i64 E, .slice p1 zs.length d1, .int .i64 T, .slice p2 ys.length d2] 79)
      have bO := Blk.mk w2 w2.heap.size 79 #[.int .i64 E, .slice p1 zs.length d1, .int .i64 T, .slice p2 ys.length d2] rfl
      have SZ3 : Hid ((w2.alloc (.cells #[.int .i64 E, .slice p1 zs.length d1, .int .i64 T, .slice p2 ys.length d2] 79)).heap.size = w2.heap.size + 1) := by unfold Hid; simp
      have s12 := qn.size
      clear cP qn
      go_upto_region 7 with fail
      have bR3 := bR2.new al
      have o1 := q1.new al
      have o2 := q2.new al
      have N3 := N2.trans al
      generalize w2.alloc (.cells #[.int .i64 E, .slice p1 zs.length d1, .int .i64 T, .slice p2 ys.length d2] 79) = w3 at *
      have s23 := al.size
      have OB : Hid ((Value.slice p1 zs.length d1).ownBlock = p1.map (·.block)) := o1.ownB
      have obk := o1.blk
      clear q1 q2 al bR1 bR2 N2
      have cO := bO.cells
      go_wp2_with (at_builtin; refine wpList_apL _ rfl (.tmp 24) (.tmp 25) rfl w1.heap.size Tryz.underlying33 hi hz0 hz1 hz2 (.slice p1 zs.length d1) zs rfl o1 p us.length f us rfl (hp.new N3) rfl HNP.out (by omega) (by omega) ?_)
      intro v5 w5 ho5 hg5 hv5
      have HV5 : Hid (v5.ownBlock = p1.map (·.block) ∨ v5.ownBlock = some w3.heap.size) := by unfold Hid; rw [← OB.out]; exact hv5
      have t5 := Turn.of_grow hg5
      rw [OB.out] at t5
      obtain ⟨vs, hV⟩ : ∃ vs, zs ++ us = vs := ⟨_, rfl⟩
      have HV : Hid (zs ++ us = vs) := hV
      have hl3 : vs.length ≤ 1048576 := by rw [← hV, List.length_append]; omega
      replace ho5 : OvB w5 w1.heap.size v5 vs := by rw [← hV]; unfold OvB; simpa using ho5
      rw [hV] at hzu
      clear hV hv5
      obtain ⟨a5, c5, rfl, -, -, hs5, -⟩ := ho5.bs hzu
      have n35 : New w w5 := N3.grow hg5 (fun k hk => Nat.le_trans n1.size (obk k hk))
      have o25 : OvB w5 w1.heap.size (.slice p2 ys.length d2) ys := o2.turnA t5 (by
        rintro y hy e
        obtain ⟨x, hx, hxy⟩ := Option.map_eq_some_iff.1 e
        exact QA.out x y hx hy hxy)
      have bO5 := bO.turn t5 (by
        rintro e
        obtain ⟨x, hx, hxy⟩ := Option.map_eq_some_iff.1 e
        have := (HL1.out x hx).2
        omega)
      have bR5 := bR3.turn t5 (by
        rintro e
        obtain ⟨x, hx, hxy⟩ := Option.map_eq_some_iff.1 e
        have := (HL1.out x hx).1
        omega)
      have HA5 : Hid (∀ x y, a5 = some x → p2 = some y → x.block ≠ y.block) := by
        rintro x y rfl hy
        have ex : (Value.slice (some x) vs.length c5).ownBlock = some x.block := ho5.ownB
        rcases HV5.out with h | h
        · rw [ex] at h
          obtain ⟨x', hx', hxx⟩ := Option.map_eq_some_iff.1 h.symm
          rw [← hxx]
          exact QA.out x' y hx' hy
        · rw [ex] at h
          have := (HL2.out y hy).2
          have := Option.some.inj h
          omega
      have s35 := t5.size
      have bO6 : Blk (w5.setCell ⟨w2.heap.size, 1, none⟩ (.slice a5 vs.length c5)) w2.heap.size 79 #[.int .i64 E, .slice a5 vs.length c5, .int .i64 T, .slice p2 ys.length d2] := bO5.set 1 _
      have t6 : Turn (fun i => i = w2.heap.size) w5 (w5.setCell ⟨w2.heap.size, 1, none⟩ (.slice a5 vs.length c5)) := Turn.set (S := fun i => i = w2.heap.size) (Turn.refl _ _) rfl _
      have bR6 := bR5.turn t6 (by omega)
      have o56 := ho5.turnA t6 (by
        rintro x rfl e
        rcases HV5.out with h | h
        · rw [(ho5.ownB : (Value.slice (some x) vs.length c5).ownBlock = some x.block)] at h
          obtain ⟨x', hx', hxx⟩ := Option.map_eq_some_iff.1 h.symm
          have := (HL1.out x' hx').2
          simp only at hxx e
          omega
        · rw [(ho5.ownB : (Value.slice (some x) vs.length c5).ownBlock = some x.block)] at h
          have h9 : x.block = w3.heap.size := Option.some.inj h
          have e9 : x.block = w2.heap.size := e
          have := SZ3.out
          omega)
      have o26 := o25.turnA t6 (by
        rintro y hy e
        have := (HL2.out y hy).2
        omega)
      have s01 := n1.size
      have N6 := n35.before t6 (by intro i hi e; omega)
      have s56 := t6.size
      clear cO hs5 t5 hg5
      have cO := bO5.cells
      have fO := bO5.frees
      go_upto_region 8 with fail
      generalize w5.setCell ⟨w2.heap.size, 1, none⟩ (.slice a5 vs.length c5) = w6 at *
      clear cO fO bO5 bR5 t6 ho5 o25
      have cO := bO6.cells
      have cR := bR6.cells
      have fR := bR6.frees
      go_wp2
      refine bodyPost_ret (v := .agg #[.int .i64 0, .slice none 0 0, .int .i64 E, .slice a5 vs.length c5, .int .i64 T, .slice p2 ys.length d2]) (by simp [results, Tryz.results45, go_sem, cR]) rfl ?_
      unfold WrA psA
      rw [if_pos HF.out, if_neg HB.out, HV.out]
      refine ⟨none, a5, p2, 0, c5, d2, rfl, ⟨rfl, .inl ⟨rfl, rfl⟩⟩, ?_, ?_, (by intro x y h; cases h), (by intro x y h; cases h), HA5.out, ?_⟩
      · exact (ov_turn (S := fun i => i = w.heap.size + 1) o56 (Turn.set (S := fun i => i = w.heap.size + 1) (Turn.set (S := fun i => i = w.heap.size + 1) (Turn.set (S := fun i => i = w.heap.size + 1) (Turn.set (S := fun i => i = w.heap.size + 1) (Turn.set (S := fun i => i = w.heap.size + 1) (Turn.set (S := fun i => i = w.heap.size + 1) (Turn.refl _ _) rfl _) rfl _) rfl _) rfl _) rfl _) rfl _) (by intro k hk e; omega)).low s01
      · exact (ov_turn (S := fun i => i = w.heap.size + 1) o26 (Turn.set (S := fun i => i = w.heap.size + 1) (Turn.set (S := fun i => i = w.heap.size + 1) (Turn.set (S := fun i => i = w.heap.size + 1) (Turn.set (S := fun i => i = w.heap.size + 1) (Turn.set (S := fun i => i = w.heap.size + 1) (Turn.set (S := fun i => i = w.heap.size + 1) (Turn.refl _ _) rfl _) rfl _) rfl _) rfl _) rfl _) rfl _) (by intro k hk e; omega)).low s01
      · exact N6.before (S := fun i => i = w.heap.size + 1) (Turn.set (S := fun i => i = w.heap.size + 1) (Turn.set (S := fun i => i = w.heap.size + 1) (Turn.set (S := fun i => i = w.heap.size + 1) (Turn.set (S := fun i => i = w.heap.size + 1) (Turn.set (S := fun i => i = w.heap.size + 1) (Turn.set (S := fun i => i = w.heap.size + 1) (Turn.refl _ _) rfl _) rfl _) rfl _) rfl _) rfl _) rfl _) (by intro i hi e; omega)
  · have hf' : (wF E T zs.length ys.length != 0) = true := by simp [hf]
    have HF : Hid (¬ wF E T zs.length ys.length = 0) := hf
    clear hf
    go_enter Tryz.func45, Tryz.ntmps45
    go_wp2_with fail
    refine (specWF E T a b zs.length c ys.length d _ hn1 hm1).mono ?_
    rintro e w1 ⟨rfl, hn1'⟩
    have bR1 := bR.new hn1'
    go_wp2_with fail
    refine (l11B _ _).mono ?_
    rintro e w2 ⟨rfl, hn2'⟩
    have bR2 := bR1.new hn2'
    have cR := bR2.cells
    have fR := bR2.frees
    go_wp2
    refine bodyPost_ret (v := .agg #[.int .i64 (wF E T zs.length ys.length), .slice none 0 0, .int .i64 0, .slice none 0 0, .int .i64 0, .slice none 0 0]) (by simp [results, Tryz.results45, go_sem, cR]) rfl ?_
    unfold WrA psA
    rw [if_neg HF.out]
    exact WrAns.codeT (B := w.heap.size + 1) (by omega) ((hw.trans hn1').trans hn2') (Turn.set (S := fun i => i = w.heap.size + 1) (Turn.set (S := fun i => i = w.heap.size + 1) (Turn.set (S := fun i => i = w.heap.size + 1) (Turn.set (S := fun i => i = w.heap.size + 1) (Turn.set (S := fun i => i = w.heap.size + 1) (Turn.set (S := fun i => i = w.heap.size + 1) (Turn.refl _ _) rfl _) rfl _) rfl _) rfl _) rfl _) rfl _)

end Go.Proofs.YtebkdaddndlmoaaGreat
