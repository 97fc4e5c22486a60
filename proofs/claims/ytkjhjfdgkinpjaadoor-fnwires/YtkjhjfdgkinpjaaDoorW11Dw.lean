/- What is proved here: what the drawing of a wire and of an epoch leaves: some numbers and bytes, in new memory. -/
import Derived.Test.YtkjhjfdgkinpjaaDoorDraw
import Derived.Test.YtkjhjfdgkinpjaaDoorW11Cp
namespace Go.Proofs.YtkjhjfdgkinpjaaDoor
open Go.RowKit
set_option linter.unusedVariables false
set_option linter.unusedSimpArgs false
set_option maxRecDepth 100000

/-- A wire that lies in memory from lo on. -/
structure WirAt (w : World) (lo : Nat) (E T : Int) (g1 c1 g2 c2 : Nat) (xs ys : List Int) : Prop where
  e0 : -1 ≤ E
  e1 : E ≤ 1001
  b1 : BsAt w (some ⟨g1, 0, none⟩) xs
  b2 : BsAt w (some ⟨g2, 0, none⟩) ys
  l1 : xs.length ≤ c1
  l2 : ys.length ≤ c2
  n1 : xs.length ≤ 2001
  n2 : ys.length ≤ 2001
  h1 : lo ≤ g1
  h2 : lo ≤ g2
theorem WirAt.turn {w w' : World} {lo : Nat} {E T : Int} {g1 c1 g2 c2 : Nat} {xs ys : List Int} {S : Nat → Prop} (h : WirAt w lo E T g1 c1 g2 c2 xs ys) (t : Turn S w w') (hS : ∀ k, lo ≤ k → ¬ S k) : WirAt w' lo E T g1 c1 g2 c2 xs ys :=
  ⟨h.e0, h.e1, h.b1.turn t (by rintro x hx e; cases hx; exact hS _ h.h1 e), h.b2.turn t (by rintro x hx e; cases hx; exact hS _ h.h2 e), h.l1, h.l2, h.n1, h.n2, h.h1, h.h2⟩
theorem cellW {w : World} {B C i j : Nat} {v : Value} (h : ¬ B = C) : (w.setCell ⟨B, i, none⟩ v).cell? ⟨C, j, none⟩ = w.cell? ⟨C, j, none⟩ :=
  World.cell?_of_block (Below.heap_setCell w ⟨B, i, none⟩ v C (fun e => h e.symm))
theorem fin4 (wx : World) (Rb : Nat) (v0 v1 v2 v3 : Value) : Turn (fun k => k = Rb) wx ((((wx.setCell ⟨Rb, 0, none⟩ v0).setCell ⟨Rb, 1, none⟩ v1).setCell ⟨Rb, 2, none⟩ v2).setCell ⟨Rb, 3, none⟩ v3) :=
  Turn.set (S := fun k => k = Rb) (Turn.set (S := fun k => k = Rb) (Turn.set (S := fun k => k = Rb) (Turn.set (S := fun k => k = Rb) (Turn.refl _ _) rfl _) rfl _) rfl _) rfl _
theorem WirAt.new {w w' : World} {lo : Nat} {E T : Int} {g1 c1 g2 c2 : Nat} {xs ys : List Int} (h : WirAt w lo E T g1 c1 g2 c2 xs ys) (t : New w w') : WirAt w' lo E T g1 c1 g2 c2 xs ys := h.turn t (fun _ _ f => f)

set_option maxHeartbeats 6400000 in
theorem l11Wire_sc {B n c t : Nat} {a : Option Addr} {zs : List Int} {w : World} (h : Sc w B a n c zs t) (ht : t ≤ 50000) (ha : ∀ x, zs ≠ [] → a = some x → x.block < w.heap.size) :
    Calls Tryd.prog 17 #[.pointer (some ⟨B, 0, none⟩)] w fun e w' => ∃ (E T : Int) (g1 c1 g2 c2 t' : Nat) (xs ys : List Int), e = .returned (.agg #[.int .i64 E, .slice (some ⟨g1, 0, none⟩) xs.length c1, .int .i64 T, .slice (some ⟨g2, 0, none⟩) ys.length c2]) ∧ WirAt w' w.heap.size E T g1 c1 g2 c2 xs ys ∧ t' ≤ t + 300 ∧ Sc w' B a n c zs t' ∧ Turn (fun k => k = B) w w' := by
  obtain ⟨i0, hi, hz0, hz1, hz2⟩ := info_parts Tryd.infoU8
  have lB := h.blk.lt
  have hw := (New.refl w).alloc (.cells #[.int .i64 0, .slice none 0 0, .int .i64 0, .slice none 0 0] 25)
  have bR := Blk.mk w w.heap.size 25 #[.int .i64 0, .slice none 0 0, .int .i64 0, .slice none 0 0] rfl
  have h0 := h.new hw
  have T0 : Turn (fun k => k = B) w (w.alloc (.cells #[.int .i64 0, .slice none 0 0, .int .i64 0, .slice none 0 0] 25)) := hw.turn
  go_enter Tryd.func17, Tryd.ntmps17
  go_upto_region 1 with fail
  have SZ : Hid ((w.alloc (.cells #[.int .i64 0, .slice none 0 0, .int .i64 0, .slice none 0 0] 25)).heap.size = w.heap.size + 1) := by unfold Hid; simp
  have SZ1 : w.heap.size < (w.alloc (.cells #[.int .i64 0, .slice none 0 0, .int .i64 0, .slice none 0 0] 25)).heap.size := by have := SZ.out; omega
  generalize w.alloc (.cells #[.int .i64 0, .slice none 0 0, .int .i64 0, .slice none 0 0] 25) = w0 at *
  clear hw h
  go_wp2_with fail
  refine (next_sc h0 5 (by omega) (by omega)).mono ?_
  rintro e w1 ⟨x0, rfl, dr0, h1, tn1⟩
  have T1 := T0.trans tn1 (fun _ _ e => e)
  have bR1 := bR.turn tn1 (by omega)
  have s1 := tn1.size
  go_wp2_with fail
  refine (next_sc h1 30 (by omega) (by omega)).mono ?_
  rintro e w2 ⟨x1, rfl, dr1, h2, tn2⟩
  have T2 := T1.trans tn2 (fun _ _ e => e)
  have bR2 := bR1.turn tn2 (by omega)
  have s2 := tn2.size
  obtain ⟨k1, rfl⟩ : ∃ k1 : Nat, x1 = k1 := ⟨x1.toNat, by have := dr1.1; omega⟩
  have hk1 : k1 < 30 := by have := dr1.2.1 (by omega); omega
  go_wp2_with fail
  refine (some_sc h2 k1 (by omega) (by omega) (by intro x hz hx; have := ha x hz hx; omega)).mono ?_
  rintro e w3 ⟨g1, c1, t3, xs, rfl, hg1, ht3, o1, hxb, h3, tn3⟩
  have T3 := T2.trans tn3 (fun _ _ e => e)
  have bR3 := bR2.turn tn3 (by omega)
  have s3 := tn3.size
  have lg1 := (o1.lt g1 rfl).2
  go_wp2_with fail
  refine (next_sc h3 30 (by omega) (by omega)).mono ?_
  rintro e w4 ⟨x2, rfl, dr2, h4, tn4⟩
  have T4 := T3.trans tn4 (fun _ _ e => e)
  have bR4 := bR3.turn tn4 (by omega)
  have s4 := tn4.size
  have o14 := own_turn o1 tn4 (by omega)
  obtain ⟨k2, rfl⟩ : ∃ k2 : Nat, x2 = k2 := ⟨x2.toNat, by have := dr2.1; omega⟩
  have hk2 : k2 < 30 := by have := dr2.2.1 (by omega); omega
  go_wp2_with fail
  refine (some_sc h4 k2 (by omega) (by omega) (by intro x hz hx; have := ha x hz hx; omega)).mono ?_
  rintro e w5 ⟨g2, c2, t5, ys, rfl, hg2, ht5, o2, hyb, h5, tn5⟩
  have T5 := T4.trans tn5 (fun _ _ e => e)
  have bR5 := bR4.turn tn5 (by omega)
  have s5 := tn5.size
  have o15 := own_turn o14 tn5 (by omega)
  have hxl : xs.length = k1 := by simpa using o1.1
  have hyl : ys.length = k2 := by simpa using o2.1
  subst hxl hyl
  have hcx : xs.length ≤ c1 := by
    rcases o1.2 with ⟨h', _⟩ | ⟨g', cap', cur, h', _, _, hc', _⟩
    · cases h'
    · simp at h'; omega
  have hcy : ys.length ≤ c2 := by
    rcases o2.2 with ⟨h', _⟩ | ⟨g', cap', cur, h', _, _, hc', _⟩
    · cases h'
    · simp at h'; omega
  have X5 : BsAt w5 (some ⟨g1, 0, none⟩) xs := BsAt.of_own o15 hxb
  have Y5 : BsAt w5 (some ⟨g2, 0, none⟩) ys := BsAt.of_own o2 hyb
  have hx0 : 0 ≤ x0 ∧ x0 < 5 := ⟨dr0.1, dr0.2.1 (by omega)⟩
  have HL : Hid (w.heap.size ≤ g1 ∧ w.heap.size ≤ g2 ∧ g1 < w5.heap.size ∧ g2 < w5.heap.size) := ⟨by omega, by omega, by omega, (o2.lt g2 rfl).2⟩
  have HT5 : Hid (t5 ≤ t + 200) := by unfold Hid; omega
  have al := (New.refl w5).alloc (.cells #[.int .i64 x0, .slice (some ⟨g1, 0, none⟩) xs.length c1, .int .i64 0, .slice (some ⟨g2, 0, none⟩) ys.length c2] 25)
  have bV := Blk.mk w5 w5.heap.size 25 #[.int .i64 x0, .slice (some ⟨g1, 0, none⟩) xs.length c1, .int .i64 0, .slice (some ⟨g2, 0, none⟩) ys.length c2] rfl
  have sR : w.heap.size < w5.heap.size := bR5.lt
  go_upto_region 2 with fail
  have X6 := X5.new al
  have Y6 := Y5.new al
  have T6 := T5.trans al (fun _ _ e => e.elim)
  have bR6 := bR5.new al
  have h6 := h5.new al
  generalize w5.alloc (.cells #[.int .i64 x0, .slice (some ⟨g1, 0, none⟩) xs.length c1, .int .i64 0, .slice (some ⟨g2, 0, none⟩) ys.length c2] 25) = w6 at *
  clear o1 o14 o15 o2 X5 Y5 T0 T1 T2 T3 T4 T5 bR bR1 bR2 bR3 bR4 bR5 h0 h1 h2 h3 h4 h5 tn1 tn2 tn3 tn4 tn5 dr0 dr1 dr2 al
  have cV := bV.cells
  have ht5' : t5 ≤ 51000 := by have := HT5.out; omega
  go_wp2_with fail
  refine (next_sc h6 ((xs.length : Int) + 1) (by omega) (by omega)).mono ?_
  rintro e w7 ⟨T, rfl, drT, h7, tn7⟩
  have T7 := T6.trans tn7 (fun _ _ e => e)
  have bR7 := bR6.turn tn7 (by omega)
  have bV7 := bV.turn tn7 (by omega)
  have X7 := X6.turn tn7 (by rintro x hx e; cases hx; have := HL.out; simp at e; omega)
  have Y7 := Y6.turn tn7 (by rintro x hx e; cases hx; have := HL.out; simp at e; omega)
  have bV8 : Blk (w7.setCell ⟨w5.heap.size, 2, none⟩ (.int .i64 T)) w5.heap.size 25 #[.int .i64 x0, .slice (some ⟨g1, 0, none⟩) xs.length c1, .int .i64 T, .slice (some ⟨g2, 0, none⟩) ys.length c2] := bV7.set 2 _
  have tv : Turn (fun k => k = w5.heap.size) w7 (w7.setCell ⟨w5.heap.size, 2, none⟩ (.int .i64 T)) := Turn.set (S := fun k => k = w5.heap.size) (Turn.refl _ _) rfl _
  have T8 : Turn (fun k => k = B) w (w7.setCell ⟨w5.heap.size, 2, none⟩ (.int .i64 T)) := T7.trans tv (fun i hi e => by omega)
  have bR8 := bR7.turn tv (by omega)
  have h8 := h7.turn tv (by omega) (by intro x hz hx e; have := ha x hz hx; omega)
  have X8 := X7.turn tv (by rintro x hx e; cases hx; have := HL.out; simp at e; omega)
  have Y8 := Y7.turn tv (by rintro x hx e; cases hx; have := HL.out; simp at e; omega)
  have s8 := tv.size
  clear cV
  have cV := bV7.cells
  have fV := bV7.frees
  go_upto_region 3 with fail
  generalize w7.setCell ⟨w5.heap.size, 2, none⟩ (.int .i64 T) = w8 at *
  clear cV fV bV7 bV tv tn7 h7 h6 X7 X6 Y7 Y6 bR7 bR6 T7 T6
  go_wp2_with fail
  refine (next_sc h8 18 (by omega) (by omega)).mono ?_
  rintro e w9 ⟨v, rfl, drv, h9, tn9⟩
  have T9 := T8.trans tn9 (fun _ _ e => e)
  have bR9 := bR8.turn tn9 (by omega)
  have bV9 := bV8.turn tn9 (by omega)
  have X9 := X8.turn tn9 (by rintro x hx e; cases hx; have := HL.out; simp at e; omega)
  have Y9 := Y8.turn tn9 (by rintro x hx e; cases hx; have := HL.out; simp at e; omega)
  have lV := bV9.lt
  clear tn9 h8 X8 Y8 bR8 T8 bV8 drv
  have HG1 : Hid (w.heap.size < g1) := by
    unfold Hid
    have h1 := HL.out
    rcases Nat.lt_or_ge w.heap.size g1 with h2 | h2
    · exact h2
    · omega
  have HG2 : Hid (w.heap.size < g2) := by
    unfold Hid
    have h1 := HL.out
    omega
  by_cases v0 : v = 0
  · subst v0
    have al := (New.refl w9).alloc (.cells #[.int .i64 (-1), .int .i64 1000, .int .i64 1001] 2)
    have bL := Blk.mk w9 w9.heap.size 2 #[.int .i64 (-1), .int .i64 1000, .int .i64 1001] rfl
    go_wp2_with fail
    refine (pick_sc (h9.new al) [-1, 1000, 1001] bL 3 rfl (by omega) (by omega) (by omega)).mono ?_
    rintro e w10 ⟨r, rfl, hr, h10, tn10⟩
    have T10 := (T9.trans al (fun _ _ e => e.elim)).trans tn10 (fun _ _ e => e)
    have bR10 := (bR9.new al).turn tn10 (by omega)
    have bV10 := (bV9.new al).turn tn10 (by omega)
    have X10 := (X9.new al).turn tn10 (by rintro x hx e; cases hx; have := HL.out; simp at e; omega)
    have Y10 := (Y9.new al).turn tn10 (by rintro x hx e; cases hx; have := HL.out; simp at e; omega)
    have bVx : Blk (w10.setCell ⟨w5.heap.size, 0, none⟩ (.int .i64 r)) w5.heap.size 25 #[.int .i64 r, .slice (some ⟨g1, 0, none⟩) xs.length c1, .int .i64 T, .slice (some ⟨g2, 0, none⟩) ys.length c2] := bV10.set 0 _
    have tv : Turn (fun k => k = w5.heap.size) w10 (w10.setCell ⟨w5.heap.size, 0, none⟩ (.int .i64 r)) := Turn.set (S := fun k => k = w5.heap.size) (Turn.refl _ _) rfl _
    have Tx : Turn (fun k => k = B) w (w10.setCell ⟨w5.heap.size, 0, none⟩ (.int .i64 r)) := T10.trans tv (fun i hi e => by omega)
    have bRx := bR10.turn tv (by omega)
    have hx' := h10.turn tv (by omega) (by intro x hz hx e; have := ha x hz hx; omega)
    have Xx := X10.turn tv (by rintro x hx e; cases hx; have := HL.out; simp at e; omega)
    have Yx := Y10.turn tv (by rintro x hx e; cases hx; have := HL.out; simp at e; omega)
    have cV := bV10.cells
    have fV := bV10.frees
    simp at hr
    have HRR : Hid ((r = -1 ∨ r = 1000 ∨ r = 1001)) := hr
    clear hr
    go_upto_region 10 with fail
    generalize w10.setCell ⟨w5.heap.size, 0, none⟩ (.int .i64 r) = wx at *
    clear cV fV
    have hr2 := HRR.out
    have cV := bVx.cells
    have cR := bRx.cells
    have fR := bRx.frees
    go_wp2
    refine bodyPost_ret (v := .agg #[.int .i64 r, .slice (some ⟨g1, 0, none⟩) xs.length c1, .int .i64 T, .slice (some ⟨g2, 0, none⟩) ys.length c2]) (by simp [results, Tryd.results17, go_sem, cR]) rfl ?_
    have tr := fin4 wx w.heap.size (.int .i64 r) (.slice (some ⟨g1, 0, none⟩) xs.length c1) (.int .i64 T) (.slice (some ⟨g2, 0, none⟩) ys.length c2)
    refine ⟨r, T, g1, c1, g2, c2, _, xs, ys, by rfl, ?_, by have := HT5.out; omega, hx'.turn tr (by omega) (by intro x hz hx e; have := ha x hz hx; omega), Tx.trans tr (fun i hi e => by omega)⟩
    exact ⟨by omega, by omega, Xx.turn tr (by rintro x hx e; cases hx; have := HG1.out; simp at e; omega), Yx.turn tr (by rintro x hx e; cases hx; have := HG2.out; simp at e; omega), hcx, hcy, by omega, (by omega), HL.out.1, HL.out.2.1⟩
  · by_cases v1 : v = 1
    · subst v1
      have cV0 := bV9.cells
      have al := (New.refl w9).alloc (.cells #[.int .i64 (-1), .int .i64 ((xs.length : Int) + 1)] 2)
      have bL := Blk.mk w9 w9.heap.size 2 #[.int .i64 (-1), .int .i64 ((xs.length : Int) + 1)] rfl
      go_wp2_with fail
      refine (pick_sc (h9.new al) [-1, (xs.length : Int) + 1] bL 2 rfl (by omega) (by omega) (by omega)).mono ?_
      rintro e w10 ⟨r, rfl, hr, h10, tn10⟩
      have T10 := (T9.trans al (fun _ _ e => e.elim)).trans tn10 (fun _ _ e => e)
      have bR10 := (bR9.new al).turn tn10 (by omega)
      have bV10 := (bV9.new al).turn tn10 (by omega)
      have X10 := (X9.new al).turn tn10 (by rintro x hx e; cases hx; have := HL.out; simp at e; omega)
      have Y10 := (Y9.new al).turn tn10 (by rintro x hx e; cases hx; have := HL.out; simp at e; omega)
      have bVx : Blk (w10.setCell ⟨w5.heap.size, 2, none⟩ (.int .i64 r)) w5.heap.size 25 #[.int .i64 x0, .slice (some ⟨g1, 0, none⟩) xs.length c1, .int .i64 r, .slice (some ⟨g2, 0, none⟩) ys.length c2] := bV10.set 2 _
      have tv : Turn (fun k => k = w5.heap.size) w10 (w10.setCell ⟨w5.heap.size, 2, none⟩ (.int .i64 r)) := Turn.set (S := fun k => k = w5.heap.size) (Turn.refl _ _) rfl _
      have Tx : Turn (fun k => k = B) w (w10.setCell ⟨w5.heap.size, 2, none⟩ (.int .i64 r)) := T10.trans tv (fun i hi e => by omega)
      have bRx := bR10.turn tv (by omega)
      have hx' := h10.turn tv (by omega) (by intro x hz hx e; have := ha x hz hx; omega)
      have Xx := X10.turn tv (by rintro x hx e; cases hx; have := HL.out; simp at e; omega)
      have Yx := Y10.turn tv (by rintro x hx e; cases hx; have := HL.out; simp at e; omega)
      have cV := bV10.cells
      have fV := bV10.frees
      simp at hr
      have HRR : Hid ((r = -1 ∨ r = (xs.length : Int) + 1)) := hr
      clear hr
      go_upto_region 10 with fail
      generalize w10.setCell ⟨w5.heap.size, 2, none⟩ (.int .i64 r) = wx at *
      clear cV fV
      have cV := bVx.cells
      have cR := bRx.cells
      have fR := bRx.frees
      go_wp2
      refine bodyPost_ret (v := .agg #[.int .i64 x0, .slice (some ⟨g1, 0, none⟩) xs.length c1, .int .i64 r, .slice (some ⟨g2, 0, none⟩) ys.length c2]) (by simp [results, Tryd.results17, go_sem, cR]) rfl ?_
      have tr := fin4 wx w.heap.size (.int .i64 x0) (.slice (some ⟨g1, 0, none⟩) xs.length c1) (.int .i64 r) (.slice (some ⟨g2, 0, none⟩) ys.length c2)
      refine ⟨x0, r, g1, c1, g2, c2, _, xs, ys, by rfl, ?_, by have := HT5.out; omega, hx'.turn tr (by omega) (by intro x hz hx e; have := ha x hz hx; omega), Tx.trans tr (fun i hi e => by omega)⟩
      exact ⟨by omega, by omega, Xx.turn tr (by rintro x hx e; cases hx; have := HG1.out; simp at e; omega), Yx.turn tr (by rintro x hx e; cases hx; have := HG2.out; simp at e; omega), hcx, hcy, by omega, (by omega), HL.out.1, HL.out.2.1⟩
    · by_cases v2 : v = 2
      · subst v2
        go_wp2_with fail
        refine (next_sc h9 2 (by omega) (by omega)).mono ?_
        rintro e w10 ⟨r, rfl, drr, h10, tn10⟩
        have T10 := T9.trans tn10 (fun _ _ e => e)
        have bR10 := bR9.turn tn10 (by omega)
        have bV10 := bV9.turn tn10 (by omega)
        have X10 := X9.turn tn10 (by rintro x hx e; cases hx; have := HL.out; simp at e; omega)
        have hrr : r = 0 ∨ r = 1 := by have := drr.1; have := drr.2.1 (by omega); omega
        have l10 := bV10.lt
        clear drr
        rcases hrr with rfl | rfl
        · go_wp2_with (at_make; refine wpList_make_full _ rfl _ _ 22 rfl w10.heap.size 5 i0 (.int .u8 0) 1 Tryd.underlying22 hi hz0 hz1 _ _ _ _ 2000 rfl rfl rfl rfl ?b2 ?b3 (Nat.le_refl _) ?_)
          case b2 => rw [hz2]; omega
          case b3 => unfold maxLen; omega
          intro w11 hown0 hgrow0
          have hown : w11.ownsRow w10.heap.size 5 1 (.slice (some ⟨w10.heap.size, 0, none⟩) 2000 2000) 2000 ((List.replicate 2000 (0 : Int)).map (Value.int .u8)) := by
            simpa [Value.cells, toList_madeCells_one, List.map_replicate] using hown0
          have nm := New.of_grown hgrow0
          obtain ⟨vs, hvs⟩ : ∃ vs : List Int, List.replicate 2000 (0 : Int) = vs := ⟨_, rfl⟩
          have hvl : vs.length = 2000 := by rw [← hvs, List.length_replicate]
          have HVL : Hid (vs.length = 2000) := hvl
          have hvb : ∀ z ∈ vs, 0 ≤ z ∧ z ≤ 255 := by rw [← hvs]; intro z hz; have := (List.mem_replicate.1 hz).2; omega
          rw [hvs] at hown
          clear hvs hown0 hgrow0
          have Y11 : BsAt w11 (some ⟨w10.heap.size, 0, none⟩) vs := BsAt.of_own hown hvb
          have T11 := T10.trans nm (fun _ _ e => e.elim)
          have bR11 := bR10.new nm
          have bV11 := bV10.new nm
          have X11 := X10.new nm
          have h11 := h10.new nm
          have bVx : Blk (w11.setCell ⟨w5.heap.size, 3, none⟩ (.slice (some ⟨w10.heap.size, 0, none⟩) 2000 2000)) w5.heap.size 25 #[.int .i64 x0, .slice (some ⟨g1, 0, none⟩) xs.length c1, .int .i64 T, .slice (some ⟨w10.heap.size, 0, none⟩) 2000 2000] := bV11.set 3 _
          have tv : Turn (fun k => k = w5.heap.size) w11 (w11.setCell ⟨w5.heap.size, 3, none⟩ (.slice (some ⟨w10.heap.size, 0, none⟩) 2000 2000)) := Turn.set (S := fun k => k = w5.heap.size) (Turn.refl _ _) rfl _
          have Tx : Turn (fun k => k = B) w (w11.setCell ⟨w5.heap.size, 3, none⟩ (.slice (some ⟨w10.heap.size, 0, none⟩) 2000 2000)) := T11.trans tv (fun i hi e => by omega)
          have bRx := bR11.turn tv (by omega)
          have hx' := h11.turn tv (by omega) (by intro x hz hx e; have := ha x hz hx; omega)
          have Xx := X11.turn tv (by rintro x hx e; cases hx; have := HL.out; simp at e; omega)
          have Yx := Y11.turn tv (by rintro x hx e; cases hx; simp at e; omega)
          have cV := bV11.cells
          have fV := bV11.frees
          have HGX : Hid (w.heap.size < w10.heap.size) := by unfold Hid; omega
          clear hvl
          go_upto_region 10 with fail
          generalize w11.setCell ⟨w5.heap.size, 3, none⟩ (.slice (some ⟨w10.heap.size, 0, none⟩) 2000 2000) = wx at *
          clear cV fV
          have cV := bVx.cells
          have cR := bRx.cells
          have fR := bRx.frees
          go_wp2
          refine bodyPost_ret (v := .agg #[.int .i64 x0, .slice (some ⟨g1, 0, none⟩) xs.length c1, .int .i64 T, .slice (some ⟨w10.heap.size, 0, none⟩) 2000 2000]) (by simp [results, Tryd.results17, go_sem, cR]) rfl ?_
          have tr := fin4 wx w.heap.size (.int .i64 x0) (.slice (some ⟨g1, 0, none⟩) xs.length c1) (.int .i64 T) (.slice (some ⟨w10.heap.size, 0, none⟩) 2000 2000)
          refine ⟨x0, T, g1, c1, w10.heap.size, 2000, _, xs, vs, by rw [HVL.out], ?_, by have := HT5.out; omega, hx'.turn tr (by omega) (by intro x hz hx e; have := ha x hz hx; omega), Tx.trans tr (fun i hi e => by omega)⟩
          exact ⟨by omega, by omega, Xx.turn tr (by rintro x hx e; cases hx; have := HG1.out; simp at e; omega), Yx.turn tr (by rintro x hx e; cases hx; have := HGX.out; simp at e; omega), hcx, (by have := HVL.out; omega), by omega, (by have := HVL.out; omega), HL.out.1, (by have := HGX.out; omega)⟩
        · go_wp2_with (at_make; refine wpList_make_full _ rfl _ _ 22 rfl w10.heap.size 5 i0 (.int .u8 0) 1 Tryd.underlying22 hi hz0 hz1 _ _ _ _ 2001 rfl rfl rfl rfl ?b2 ?b3 (Nat.le_refl _) ?_)
          case b2 => rw [hz2]; omega
          case b3 => unfold maxLen; omega
          intro w11 hown0 hgrow0
          have hown : w11.ownsRow w10.heap.size 5 1 (.slice (some ⟨w10.heap.size, 0, none⟩) 2001 2001) 2001 ((List.replicate 2001 (0 : Int)).map (Value.int .u8)) := by
            simpa [Value.cells, toList_madeCells_one, List.map_replicate] using hown0
          have nm := New.of_grown hgrow0
          obtain ⟨vs, hvs⟩ : ∃ vs : List Int, List.replicate 2001 (0 : Int) = vs := ⟨_, rfl⟩
          have hvl : vs.length = 2001 := by rw [← hvs, List.length_replicate]
          have HVL : Hid (vs.length = 2001) := hvl
          have hvb : ∀ z ∈ vs, 0 ≤ z ∧ z ≤ 255 := by rw [← hvs]; intro z hz; have := (List.mem_replicate.1 hz).2; omega
          rw [hvs] at hown
          clear hvs hown0 hgrow0
          have Y11 : BsAt w11 (some ⟨w10.heap.size, 0, none⟩) vs := BsAt.of_own hown hvb
          have T11 := T10.trans nm (fun _ _ e => e.elim)
          have bR11 := bR10.new nm
          have bV11 := bV10.new nm
          have X11 := X10.new nm
          have h11 := h10.new nm
          have bVx : Blk (w11.setCell ⟨w5.heap.size, 3, none⟩ (.slice (some ⟨w10.heap.size, 0, none⟩) 2001 2001)) w5.heap.size 25 #[.int .i64 x0, .slice (some ⟨g1, 0, none⟩) xs.length c1, .int .i64 T, .slice (some ⟨w10.heap.size, 0, none⟩) 2001 2001] := bV11.set 3 _
          have tv : Turn (fun k => k = w5.heap.size) w11 (w11.setCell ⟨w5.heap.size, 3, none⟩ (.slice (some ⟨w10.heap.size, 0, none⟩) 2001 2001)) := Turn.set (S := fun k => k = w5.heap.size) (Turn.refl _ _) rfl _
          have Tx : Turn (fun k => k = B) w (w11.setCell ⟨w5.heap.size, 3, none⟩ (.slice (some ⟨w10.heap.size, 0, none⟩) 2001 2001)) := T11.trans tv (fun i hi e => by omega)
          have bRx := bR11.turn tv (by omega)
          have hx' := h11.turn tv (by omega) (by intro x hz hx e; have := ha x hz hx; omega)
          have Xx := X11.turn tv (by rintro x hx e; cases hx; have := HL.out; simp at e; omega)
          have Yx := Y11.turn tv (by rintro x hx e; cases hx; simp at e; omega)
          have cV := bV11.cells
          have fV := bV11.frees
          have HGX : Hid (w.heap.size < w10.heap.size) := by unfold Hid; omega
          clear hvl
          go_upto_region 10 with fail
          generalize w11.setCell ⟨w5.heap.size, 3, none⟩ (.slice (some ⟨w10.heap.size, 0, none⟩) 2001 2001) = wx at *
          clear cV fV
          have cV := bVx.cells
          have cR := bRx.cells
          have fR := bRx.frees
          go_wp2
          refine bodyPost_ret (v := .agg #[.int .i64 x0, .slice (some ⟨g1, 0, none⟩) xs.length c1, .int .i64 T, .slice (some ⟨w10.heap.size, 0, none⟩) 2001 2001]) (by simp [results, Tryd.results17, go_sem, cR]) rfl ?_
          have tr := fin4 wx w.heap.size (.int .i64 x0) (.slice (some ⟨g1, 0, none⟩) xs.length c1) (.int .i64 T) (.slice (some ⟨w10.heap.size, 0, none⟩) 2001 2001)
          refine ⟨x0, T, g1, c1, w10.heap.size, 2001, _, xs, vs, by rw [HVL.out], ?_, by have := HT5.out; omega, hx'.turn tr (by omega) (by intro x hz hx e; have := ha x hz hx; omega), Tx.trans tr (fun i hi e => by omega)⟩
          exact ⟨by omega, by omega, Xx.turn tr (by rintro x hx e; cases hx; have := HG1.out; simp at e; omega), Yx.turn tr (by rintro x hx e; cases hx; have := HGX.out; simp at e; omega), hcx, (by have := HVL.out; omega), by omega, (by have := HVL.out; omega), HL.out.1, (by have := HGX.out; omega)⟩
      · have bVx := bV9
        have bRx := bR9
        have hx' := h9
        have Tx := T9
        have Xx := X9
        have Yx := Y9
        generalize w9 = wx at *
        have cV := bVx.cells
        have cR := bRx.cells
        have fR := bRx.frees
        go_wp2
        refine bodyPost_ret (v := .agg #[.int .i64 x0, .slice (some ⟨g1, 0, none⟩) xs.length c1, .int .i64 T, .slice (some ⟨g2, 0, none⟩) ys.length c2]) (by simp [results, Tryd.results17, go_sem, cR]) rfl ?_
        have tr := fin4 wx w.heap.size (.int .i64 x0) (.slice (some ⟨g1, 0, none⟩) xs.length c1) (.int .i64 T) (.slice (some ⟨g2, 0, none⟩) ys.length c2)
        refine ⟨x0, T, g1, c1, g2, c2, _, xs, ys, by rfl, ?_, by have := HT5.out; omega, hx'.turn tr (by omega) (by intro x hz hx e; have := ha x hz hx; omega), Tx.trans tr (fun i hi e => by omega)⟩
        exact ⟨by omega, by omega, Xx.turn tr (by rintro x hx e; cases hx; have := HG1.out; simp at e; omega), Yx.turn tr (by rintro x hx e; cases hx; have := HG2.out; simp at e; omega), hcx, hcy, by omega, (by omega), HL.out.1, HL.out.2.1⟩

end Go.Proofs.YtkjhjfdgkinpjaaDoor
