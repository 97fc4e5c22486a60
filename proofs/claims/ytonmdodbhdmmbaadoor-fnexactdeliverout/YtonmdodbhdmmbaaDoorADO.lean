/- What is proved here: for every wire and all other arguments the law on DeliverOut returns true, and what came in reads as it did. No condition. -/
import Derived.Test.YtonmdodbhdmmbaaDoorW11Op
import Derived.Test.YtonmdodbhdmmbaaDoorW11Gl
import Derived.Test.YtonmdodbhdmmbaaDoorW11Do
import Derived.Deep.RegionHeld3
import Derived.Test.YtonmdodbhdmmbaaDoorTie
import Derived.Test.YtonmdodbhdmmbaaDoorCards
namespace Go.Proofs.YtonmdodbhdmmbaaDoor
open Go.ChangeShapes Go.WideShapes Go.ChangeAt Go.RowKit
set_option linter.unusedVariables false
set_option linter.unusedSimpArgs false

set_option maxHeartbeats 800000 in
theorem ado_long (E T : Int) (ep : Int) (at9 : Int) (a b q : Option Addr) (n c m d l f : Nat) (w : World) (hl : l ≤ maxLen) (hbig : 1048576 < l) :
    Calls Tryd.prog 6 #[.agg #[.int .i64 E, .slice a n c, .int .i64 T, .slice b m d], .int .i64 ep, .int .i64 at9, .slice q l f] w fun e w' => e = .returned (.bool true) ∧ New w w' := by
  have hw := (New.refl w).alloc (.cells #[.int .i64 E, .slice a n c, .int .i64 T, .slice b m d] 24)
  have hb : (1048576 : Int) < (l : Int) := by omega
  unfold maxLen at hl
  go_enter Tryd.func6, Tryd.ntmps6
  go_wp2
  go_ret
  exact ⟨rfl, hw⟩

set_option maxHeartbeats 800000 in
theorem ado_big (E T : Int) (ep : Int) (at9 : Int) (a b : Option Addr) (n c m d : Nat) (q : Option Addr) (l f : Nat) (w : World) (hnm : n ≤ maxLen) (hmm : m ≤ maxLen) (hl : l ≤ 1048576) (hbig : 1048576 < n + m) :
    Calls Tryd.prog 6 #[.agg #[.int .i64 E, .slice a n c, .int .i64 T, .slice b m d], .int .i64 ep, .int .i64 at9, .slice q l f] w fun e w' => e = .returned (.bool true) ∧ New w w' := by
  have hw := (New.refl w).alloc (.cells #[.int .i64 E, .slice a n c, .int .i64 T, .slice b m d] 24)
  have hl2 : ¬ (1048576 : Int) < (l : Int) := by omega
  go_enter Tryd.func6, Tryd.ntmps6
  go_wp2_with fail
  refine (szW_big E T a b n c m d 1048576 _ (Nat.le_refl _) hnm hmm hbig).mono ?_
  rintro e w1 ⟨rfl, hn1⟩
  go_wp2
  go_ret
  exact ⟨rfl, hw.trans hn1⟩

set_option maxHeartbeats 6400000 in
theorem ado_walk (E T : Int) (ep : Int) (at9 : Int) (a b : Option Addr) (c d : Nat) (zs ys : List Int) (q : Option Addr) (f : Nat) (us : List Int) (w : World) (h : BsAt w a zs) (k : BsAt w b ys) (hq : BsAt w q us) (hbig : zs.length + ys.length ≤ 1048576) (hl : us.length ≤ 1048576) (z E1 T1 : Int) (X Z Y : List Int)
    (hI : ∀ g g2 u W, New w W → BsAt W (some ⟨g, 0, none⟩) zs → BsAt W (some ⟨g2, 0, none⟩) ys → BsAt W (some ⟨u, 0, none⟩) us → Calls Tryd.prog 22 #[.agg #[.int .i64 E, .slice (some ⟨g, 0, none⟩) zs.length zs.length, .int .i64 T, .slice (some ⟨g2, 0, none⟩) ys.length ys.length], .int .i64 ep, .int .i64 at9, .slice (some ⟨u, 0, none⟩) us.length us.length] W fun e w' => WrAns W z E1 T1 X Z Y e w')
    (hS : ∀ g g2 u W, New w W → BsAt W (some ⟨g, 0, none⟩) zs → BsAt W (some ⟨g2, 0, none⟩) ys → BsAt W (some ⟨u, 0, none⟩) us → Calls Tryd.prog 20 #[.agg #[.int .i64 E, .slice (some ⟨g, 0, none⟩) zs.length zs.length, .int .i64 T, .slice (some ⟨g2, 0, none⟩) ys.length ys.length], .int .i64 ep, .int .i64 at9, .slice (some ⟨u, 0, none⟩) us.length us.length] W fun e w' => WrAns W z E1 T1 X Z Y e w')
    (hX : ∀ u ∈ X, 0 ≤ u ∧ u ≤ 255) (hZ : ∀ u ∈ Z, 0 ≤ u ∧ u ≤ 255) (hY : ∀ u ∈ Y, 0 ≤ u ∧ u ≤ 255) (hXl : X.length ≤ 1048576) (hZl : Z.length ≤ 1048576) (hYl : Y.length ≤ 1048576) :
    Calls Tryd.prog 6 #[.agg #[.int .i64 E, .slice a zs.length c, .int .i64 T, .slice b ys.length d], .int .i64 ep, .int .i64 at9, .slice q us.length f] w fun e w' => e = .returned (.bool true) ∧ New w w' := by
  have hw := (New.refl w).alloc (.cells #[.int .i64 E, .slice a zs.length c, .int .i64 T, .slice b ys.length d] 24)
  have hz := h.lt
  have hy := k.lt
  have hu := hq.lt
  have hl2 : ¬ (1048576 : Int) < (us.length : Int) := by omega
  have hn' : zs.length ≤ 1048576 := by omega
  have hm' : ys.length ≤ 1048576 := by omega
  have hle : (0 : Int) ≤ 1048576 - (zs.length : Int) - (ys.length : Int) := by omega
  have bA := Blk.mk w w.heap.size 24 #[.int .i64 E, .slice a zs.length c, .int .i64 T, .slice b ys.length d] rfl
  go_enter Tryd.func6, Tryd.ntmps6
  go_wp2_with fail
  refine (szW_ok E T a b zs.length c ys.length d 1048576 _ (Nat.le_refl _) (by omega)).mono ?_
  rintro e w1 ⟨rfl, hn1⟩
  have bA1 := bA.new hn1
  have cA := bA1.cells
  have hw1 := hw.trans hn1
  clear bA hn1 hw
  go_wp2_with fail
  refine (toW_any E T a b zs.length c ys.length d zs ys _ (h.new hw1) (k.new hw1) rfl rfl hn' hm').mono ?_
  rintro e w2 ⟨g2, k2, rfl, hg2, hk2, ho2, ho2', hn2⟩
  have bA2 := bA1.new hn2
  have hw2 := hw1.trans hn2
  clear cA bA1 hn2
  go_wp2_with fail
  refine (toBytes_any q us.length f us _ (hq.new hw2) rfl hl).mono ?_
  rintro e w2b ⟨u2, rfl, hu2, ou2, hn2b⟩
  have bA2b := bA2.new hn2b
  have hw2b := hw2.trans hn2b
  have ho2b := own_new ho2 hn2b
  have ho2b' := own_new ho2' hn2b
  clear bA2 ho2 ho2' hn2b
  go_wp2_with fail
  refine (hS g2 k2 u2 _ hw2b (BsAt.of_own ho2b hz) (BsAt.of_own ho2b' hy) (BsAt.of_own ou2 hu)).mono ?_
  rintro e w3 ⟨p3, a3, e3, f3, c3, d3, rfl, q0, q1, q2, qa, qb, qc, hn3⟩
  obtain ⟨-, s0, l0⟩ := q0.ow hX
  obtain ⟨-, s1, l1⟩ := q1.ow hZ
  obtain ⟨-, s2, l2⟩ := q2.ow hY
  have bA3 := (bA2b.new hn3).alloc (.cells #[.int .i64 z, .slice p3 X.length f3, .int .i64 E1, .slice a3 Z.length c3, .int .i64 T1, .slice e3 Y.length d3] 28)
  have b3 := Blk.mk w3 w3.heap.size 28 #[.int .i64 z, .slice p3 X.length f3, .int .i64 E1, .slice a3 Z.length c3, .int .i64 T1, .slice e3 Y.length d3] rfl
  have al3 := (New.refl w3).alloc (.cells #[.int .i64 z, .slice p3 X.length f3, .int .i64 E1, .slice a3 Z.length c3, .int .i64 T1, .slice e3 Y.length d3] 28)
  have hw3 := (hw2b.trans hn3).trans al3
  have Z23 : Hid (w.heap.size ≤ w3.heap.size) := (hw2b.trans hn3).size
  have s03 := s0.new al3
  have s13 := s1.new al3
  have s23 := s2.new al3
  have cA := bA3.cells
  clear bA2b hn3 ho2b ho2b' hg2 hk2 q0 q1 q2 qa qb qc s0 s1 s2
  go_wp2_with fail
  refine (toW_any E T a b zs.length c ys.length d zs ys _ (h.new hw3) (k.new hw3) rfl rfl hn' hm').mono ?_
  rintro e w4 ⟨g4, k4, rfl, hg4, hk4, ho4, ho4', hn4⟩
  have al4 := (New.refl w4).alloc (.cells #[.int .i64 E, .slice (some ⟨g4, 0, none⟩) zs.length zs.length, .int .i64 T, .slice (some ⟨k4, 0, none⟩) ys.length ys.length] 26)
  have bA4 := (bA3.new hn4).new al4
  have b34 := (b3.new hn4).new al4
  have b4 := Blk.mk w4 w4.heap.size 26 #[.int .i64 E, .slice (some ⟨g4, 0, none⟩) zs.length zs.length, .int .i64 T, .slice (some ⟨k4, 0, none⟩) ys.length ys.length] rfl
  have hw4 := (hw3.trans hn4).trans al4
  have s04 := (s03.new hn4).new al4
  have s14 := (s13.new hn4).new al4
  have s24 := (s23.new hn4).new al4
  have oA := own_new ho4 al4
  have oB := own_new ho4' al4
  have z34 := hn4.size
  have z4 := al4.size
  have hg4' : w3.heap.size < g4 := by simp at hg4; omega
  have lA := (ho4.lt g4 rfl).2
  have lB := (ho4'.lt k4 rfl).2
  have LT3 : Hid (w3.heap.size < w4.heap.size) := by unfold Hid; simp at z34; omega
  have SZ4 : Hid ((w4.alloc (.cells #[.int .i64 E, .slice (some ⟨g4, 0, none⟩) zs.length zs.length, .int .i64 T, .slice (some ⟨k4, 0, none⟩) ys.length ys.length] 26)).heap.size = w4.heap.size + 1) := by unfold Hid; simp
  clear bA3 b3 cA hn4 s03 s13 s23 ho4 ho4' hg4
  go_upto_region 9 with fail
  generalize w4.alloc (.cells #[.int .i64 E, .slice (some ⟨g4, 0, none⟩) zs.length zs.length, .int .i64 T, .slice (some ⟨k4, 0, none⟩) ys.length ys.length] 26) = w4a at *
  go_wp2_with fail
  refine (toBytes_any q us.length f us _ (hq.new hw4) rfl hl).mono ?_
  rintro e w4b ⟨u4, rfl, hu4, oU, hn4b⟩
  have bA4b := bA4.new hn4b
  have b34b := b34.new hn4b
  have b4b := b4.new hn4b
  have hw4b := hw4.trans hn4b
  have s04b := s04.new hn4b
  have s14b := s14.new hn4b
  have s24b := s24.new hn4b
  have oAb := own_new oA hn4b
  have oBb := own_new oB hn4b
  have lU := (oU.lt u4 rfl).2
  have z4b := hn4b.size
  have HU4 : Hid (w4.heap.size < u4) := by have := SZ4.out; unfold Hid; omega
  have LT4 : Hid (w4.heap.size < w4b.heap.size) := by have := SZ4.out; unfold Hid; omega
  clear bA4 b34 b4 s04 s14 s24 oA oB hu4 hn4b
  have cB := b4b.cells
  go_wp2_with fail
  refine (hI g4 k4 u4 _ hw4b (BsAt.of_own oAb hz) (BsAt.of_own oBb hy) (BsAt.of_own oU hu)).mono ?_
  rintro e w5 ⟨p5, a5, e5, f5, c5, d5, rfl, q0, q1, q2, qa, qb, qc, hn5⟩
  obtain ⟨o0, -, l50⟩ := q0.ow hX
  obtain ⟨o1, -, l51⟩ := q1.ow hZ
  obtain ⟨o2, -, l52⟩ := q2.ow hY
  have al5 := (New.refl w5).alloc (.cells #[.int .i64 z, .slice p5 X.length f5, .int .i64 E1, .slice a5 Z.length c5, .int .i64 T1, .slice e5 Y.length d5] 28)
  have n5 := hn5.trans al5
  have bA5 := bA4b.new n5
  have b35 := b34b.new n5
  have b45 := b4b.new n5
  have b5 := Blk.mk w5 w5.heap.size 28 #[.int .i64 z, .slice p5 X.length f5, .int .i64 E1, .slice a5 Z.length c5, .int .i64 T1, .slice e5 Y.length d5] rfl
  have hw5 := hw4b.trans n5
  have s05 := s04b.new n5
  have s15 := s14b.new n5
  have s25 := s24b.new n5
  have oA5 := own_new oAb n5
  have oB5 := own_new oBb n5
  have o05 := o0.new al5
  have o15 := o1.new al5
  have o25 := o2.new al5
  have z45 := hn5.size
  have oU5 := own_new oU n5
  have g50 : ∀ x, p5 = some x → w4b.heap.size ≤ x.block ∧ x.block < w5.heap.size := fun x hx => l50 x hx
  have g51 : ∀ x, a5 = some x → w4b.heap.size ≤ x.block ∧ x.block < w5.heap.size := fun x hx => l51 x hx
  have g52 : ∀ x, e5 = some x → w4b.heap.size ≤ x.block ∧ x.block < w5.heap.size := fun x hx => l52 x hx
  have HS : Hid (w4b.heap.size ≤ w5.heap.size ∧ w4.heap.size < w4b.heap.size ∧ w3.heap.size < w4.heap.size ∧ w.heap.size < w3.heap.size) := ⟨z45, LT4.out, LT3.out, bA_lt bA5 b35 (by decide) Z23.out⟩
  have g30 : ∀ x, p3 = some x → x.block < w3.heap.size := fun x hx => (l0 x hx).2
  have g31 : ∀ x, a3 = some x → x.block < w3.heap.size := fun x hx => (l1 x hx).2
  have g32 : ∀ x, e3 = some x → x.block < w3.heap.size := fun x hx => (l2 x hx).2
  clear bA4b b34b b4b cB hn5 n5 s04b s14b s24b oAb oBb o0 o1 o2 q0 q1 q2 l50 l51 l52 l0 l1 l2 z34 z4 z45 oU
  have c3' := b35.cells
  have c5' := b5.cells
  go_wp2_with fail
  refine (eqWR_any z E1 T1 p5 a5 e5 p3 a3 e3 X.length f5 Z.length c5 Y.length d5 f3 c3 d3 X Z Y _ (o05.bs hX) (o15.bs hZ) (o25.bs hY) s05 s15 s25 rfl rfl rfl hXl hZl hYl).mono ?_
  rintro e w6 ⟨rfl, hn6⟩
  have bA6 := bA5.new hn6
  have b36 := b35.new hn6
  have b46 := b45.new hn6
  have b56 := b5.new hn6
  have hw6 := hw5.trans hn6
  have s06 := s05.new hn6
  have s16 := s15.new hn6
  have s26 := s25.new hn6
  have oA6 := own_new oA5 hn6
  have oB6 := own_new oB5 hn6
  have o06 := o05.new hn6
  have o16 := o15.new hn6
  have o26 := o25.new hn6
  have z6 := (al5.trans hn6).size
  have oU6 := own_new oU5 hn6
  clear bA5 b35 b45 b5 c3' c5' hn6 s05 s15 s25 oA5 oB5 o05 o15 o25 al3 al4 al5 oU5
  have cA := bA6.cells
  have cB := b46.cells
  have cAd := (bA6.new ((New.refl _).drew)).cells
  have cBd := (b46.new ((New.refl _).drew)).cells
  go_wp2_with fail
  go_region_held3 (fun W => (∀ j, W.cell? ⟨w.heap.size, j, none⟩ = (#[.int .i64 E, .slice a zs.length c, .int .i64 T, .slice b ys.length d] : Array Value)[j]?) ∧ (∀ j, W.cell? ⟨w4.heap.size, j, none⟩ = (#[.int .i64 E, .slice (some ⟨g4, 0, none⟩) zs.length zs.length, .int .i64 T, .slice (some ⟨k4, 0, none⟩) ys.length ys.length] : Array Value)[j]?)) (first | exact ⟨cA, cB⟩ | exact ⟨cAd, cBd⟩ | exact ⟨cA7, cB7⟩ | exact ⟨cA8, cB8⟩)
    (first
      | (go_at_call 9; refine (toW_any E T a b zs.length c ys.length d zs ys _ ?_ ?_ rfl rfl hn' hm').mono ?_; exact (h.new hw6).new ((New.refl _).drew); exact (k.new hw6).new ((New.refl _).drew); rintro e w7 ⟨g7, k7, rfl, hg7, hk7, ho7, ho7', hn7⟩; have n7 : New w6 w7 := ((New.refl _).drew).trans hn7; have cA7 := (bA6.new n7).cells; have cB7 := (b46.new n7).cells)
      | (go_at_call 12; refine (eqW_any E T _ _ _ _ zs.length zs.length ys.length ys.length zs.length ys.length zs ys _ ((BsAt.of_own oA6 hz).new n7) ((BsAt.of_own oB6 hy).new n7) (BsAt.of_own ho7 hz) (BsAt.of_own ho7' hy) rfl rfl hn' hm').mono ?_; rintro e w8 ⟨rfl, hn8⟩; have n8 := n7.trans hn8; have cA8 := (bA6.new n8).cells; have cB8 := (b46.new n8).cells))
  have hq8 := (hq.new hw6).new n8
  go_wp2_with fail
  refine (toBytes_any q us.length f us _ hq8 rfl hl).mono ?_
  rintro e w8b ⟨u8, rfl, hu8, oU8, hn8b⟩
  have hx8 := ((BsAt.of_own oU6 hu).new n8).new hn8b
  go_wp2_with fail
  refine (eqBytes_any (some ⟨u4, 0, none⟩) (some ⟨u8, 0, none⟩) us.length us.length us.length us _ hx8 (BsAt.of_own oU8 hu) rfl hl).mono ?_
  rintro e w8c ⟨rfl, hn8c⟩
  replace n8 := (n8.trans hn8b).trans hn8c
  clear hq8 hx8 oU8 hn8b hn8c hu8
  have bA8 := bA6.new n8
  have b38 := b36.new n8
  have b48 := b46.new n8
  have b58 := b56.new n8
  have hw8 := hw6.trans n8
  have s08 := s06.new n8
  have s18 := s16.new n8
  have s28 := s26.new n8
  have oA8 := own_new oA6 n8
  have oB8 := own_new oB6 n8
  have o08 := o06.new n8
  have o18 := o16.new n8
  have o28 := o26.new n8
  have z8 := n8.size
  have oU8 := own_new oU6 n8
  clear cA cB cAd cBd cA7 cB7 cA8 cB8 bA6 b36 b46 b56 s06 s16 s26 oA6 oB6 o06 o16 o26 n8 n7 hn7 hn8 ho7 ho7' hg7 hk7 oU6
  have cB := b48.cells
  go_wp2_with fail
  refine (markW_any E T (some ⟨g4, 0, none⟩) (some ⟨k4, 0, none⟩) zs.length zs.length ys.length ys.length 1 zs ys _ (OwAt.of_own oA8) (OwAt.of_own oB8) (by intro x y hx hy' e; cases hx; cases hy'; simp at e; omega) (by intro x hx; cases hx; simp; have := HS.out; omega) (by omega) (by omega) (by omega) (by omega)).mono ?_
  rintro e w9 ⟨rfl, -, -, ht9⟩
  have inX : ∀ i, (inA (some ⟨g4, 0, none⟩) i ∨ inA (some ⟨k4, 0, none⟩) i) → w3.heap.size < i ∧ i < w4.heap.size := by rintro i (⟨x, hx, e⟩ | ⟨x, hx, e⟩) <;> (cases hx; simp at e; omega)
  have bA9 := bA8.turn ht9 (fun hi => by have := inX _ hi; have := HS.out; omega)
  have b39 := b38.turn ht9 (fun hi => by have := inX _ hi; omega)
  have b59 := b58.turn ht9 (fun hi => by have := inX _ hi; have := HS.out; omega)
  have hw9 : New w w9 := hw8.before ht9 (fun i hi e => by have := inX _ e; have := HS.out; omega)
  have s09 := s08.turn ht9 (fun x hx hi => by have := inX _ hi; have := g30 x hx; omega)
  have s19 := s18.turn ht9 (fun x hx hi => by have := inX _ hi; have := g31 x hx; omega)
  have s29 := s28.turn ht9 (fun x hx hi => by have := inX _ hi; have := g32 x hx; omega)
  have o09 := o08.turn ht9 (fun x hx hi => by have := inX _ hi; have := g50 x hx; have := HS.out; omega)
  have o19 := o18.turn ht9 (fun x hx hi => by have := inX _ hi; have := g51 x hx; have := HS.out; omega)
  have o29 := o28.turn ht9 (fun x hx hi => by have := inX _ hi; have := g52 x hx; have := HS.out; omega)
  have z9 := ht9.size
  have oU9 := own_turn oU8 ht9 (fun hi => by have := inX _ hi; have := HU4.out; omega)
  clear cB bA8 b38 b48 b58 ht9 s08 s18 s28 oA8 oB8 o08 o18 o28 inX oU8
  go_wp2_with fail
  refine (mark_any (some ⟨u4, 0, none⟩) us.length us.length (1 + (zs.length : Int) + (ys.length : Int)) us _ (OwAt.of_own oU9) (by omega) (by omega) (by omega)).mono ?_
  rintro e w9b ⟨rfl, -, ht9b⟩
  have inU : ∀ i, inA (some ⟨u4, 0, none⟩) i → i = u4 := by rintro i ⟨x, hx, e⟩; cases hx; exact e
  replace bA9 := bA9.turn ht9b (fun hi => by have := inU _ hi; have := HS.out; have := HU4.out; omega)
  replace b39 := b39.turn ht9b (fun hi => by have := inU _ hi; have := HS.out; have := HU4.out; omega)
  replace b59 := b59.turn ht9b (fun hi => by have := inU _ hi; have := HS.out; omega)
  replace hw9 : New w w9b := hw9.before ht9b (fun i hi e => by have := inU _ e; have := HS.out; have := HU4.out; omega)
  replace s09 := s09.turn ht9b (fun x hx hi => by have := inU _ hi; have := g30 x hx; have := HS.out; have := HU4.out; omega)
  replace s19 := s19.turn ht9b (fun x hx hi => by have := inU _ hi; have := g31 x hx; have := HS.out; have := HU4.out; omega)
  replace s29 := s29.turn ht9b (fun x hx hi => by have := inU _ hi; have := g32 x hx; have := HS.out; have := HU4.out; omega)
  replace o09 := o09.turn ht9b (fun x hx hi => by have := inU _ hi; have := g50 x hx; omega)
  replace o19 := o19.turn ht9b (fun x hx hi => by have := inU _ hi; have := g51 x hx; omega)
  replace o29 := o29.turn ht9b (fun x hx hi => by have := inU _ hi; have := g52 x hx; omega)
  have z9b := ht9b.size
  have hkk : (0 : Int) ≤ 1 + (zs.length : Int) + (ys.length : Int) + (us.length : Int) := by omega
  clear ht9b oU9 inU
  have c3' := b39.cells
  have c5' := b59.cells
  go_wp2_with fail
  refine (eqWR_any z E1 T1 p5 a5 e5 p3 a3 e3 X.length f5 Z.length c5 Y.length d5 f3 c3 d3 X Z Y _ (o09.bs hX) (o19.bs hZ) (o29.bs hY) s09 s19 s29 rfl rfl rfl hXl hZl hYl).mono ?_
  rintro e w10 ⟨rfl, hn10⟩
  have bA10 := bA9.new hn10
  have b310 := b39.new hn10
  have b510 := b59.new hn10
  have hw10 := hw9.trans hn10
  have s010 := s09.new hn10
  have s110 := s19.new hn10
  have s210 := s29.new hn10
  have o010 := o09.new hn10
  have o110 := o19.new hn10
  have o210 := o29.new hn10
  have z10 := hn10.size
  have z5w : w5.heap.size < w10.heap.size := b510.lt
  clear c3' c5' bA9 b39 b59 s09 s19 s29 o09 o19 o29 hn10
  have c5' := b510.cells
  go_wp2_with fail
  refine (markWR_any z E1 T1 p5 a5 e5 X.length f5 Z.length c5 Y.length d5 1 X Z Y _ o010 o110 o210 qa qb qc (fun x hx => by have := (g50 x hx).2; omega) (fun x hx => by have := (g51 x hx).2; omega) hXl (by omega) (by omega) (by omega) (by omega)).mono ?_
  rintro e w11 ⟨rfl, o01, o11, o21, ht11⟩
  have inG : ∀ i, (inA p5 i ∨ inA a5 i ∨ inA e5 i) → w4b.heap.size ≤ i ∧ i < w5.heap.size := by rintro i (⟨x, hx, e⟩ | ⟨x, hx, e⟩ | ⟨x, hx, e⟩); (rw [e]; exact g50 x hx); (rw [e]; exact g51 x hx); (rw [e]; exact g52 x hx)
  have bA11 := bA10.turn ht11 (fun hi => by have := inG _ hi; have := HS.out; omega)
  have b311 := b310.turn ht11 (fun hi => by have := inG _ hi; have := HS.out; omega)
  have b511 := b510.turn ht11 (fun hi => by have := inG _ hi; omega)
  have hw11 : New w w11 := hw10.before ht11 (fun i hi e => by have := inG _ e; have := HS.out; omega)
  have s011 := s010.turn ht11 (fun x hx hi => by have := inG _ hi; have := g30 x hx; have := HS.out; omega)
  have s111 := s110.turn ht11 (fun x hx hi => by have := inG _ hi; have := g31 x hx; have := HS.out; omega)
  have s211 := s210.turn ht11 (fun x hx hi => by have := inG _ hi; have := g32 x hx; have := HS.out; omega)
  have m0 := o01.bs (marks_bd _ _)
  have m1 := o11.bs (marks_bd _ _)
  have m2 := o21.bs (marks_bd _ _)
  clear c5' bA10 b310 b510 ht11 s010 s110 s210 o010 o110 o210 o01 o11 o21 inG
  have c5' := b511.cells
  go_wp2_with fail
  refine (heldWR_any z E1 T1 p5 a5 e5 X.length f5 Z.length c5 Y.length d5 1 _ m0 m1 m2 hXl (by omega) (by omega) (by omega) (by omega)).mono ?_
  rintro e w12 ⟨rfl, hn12⟩
  have bA12 := bA11.new hn12
  have b312 := b311.new hn12
  have b512 := b511.new hn12
  have hw12 := hw11.trans hn12
  have s012 := s011.new hn12
  have s112 := s111.new hn12
  have s212 := s211.new hn12
  have m012 := m0.new hn12
  have m112 := m1.new hn12
  have m212 := m2.new hn12
  clear c5' bA11 b311 b511 s011 s111 s211 m0 m1 m2 hn12
  have cA := bA12.cells
  have hqm : ((1 : Int) + (X.length : Int) + (Z.length : Int) + (Y.length : Int) != 1 + (X.length : Int) + (Z.length : Int) + (Y.length : Int)) = false := by simp
  go_wp2_with fail
  refine (toW_any E T a b zs.length c ys.length d zs ys _ (h.new hw12) (k.new hw12) rfl rfl hn' hm').mono ?_
  rintro e w13 ⟨g13, k13, rfl, hg13, hk13, ho13, ho13', hn13⟩
  have b313 := b312.new hn13
  have b513 := b512.new hn13
  have hw13 := hw12.trans hn13
  have s013 := s012.new hn13
  have s113 := s112.new hn13
  have s213 := s212.new hn13
  have m013 := m012.new hn13
  have m113 := m112.new hn13
  have m213 := m212.new hn13
  clear cA bA12 b312 b512 s012 s112 s212 m012 m112 m212 hn13
  go_wp2_with fail
  refine (toBytes_any q us.length f us _ (hq.new hw13) rfl hl).mono ?_
  rintro e w13b ⟨u13, rfl, hu13, oU13, hn13b⟩
  replace b313 := b313.new hn13b
  replace b513 := b513.new hn13b
  replace hw13 := hw13.trans hn13b
  replace s013 := s013.new hn13b
  replace s113 := s113.new hn13b
  replace s213 := s213.new hn13b
  replace m013 := m013.new hn13b
  replace m113 := m113.new hn13b
  replace m213 := m213.new hn13b
  replace ho13 := own_new ho13 hn13b
  replace ho13' := own_new ho13' hn13b
  clear hn13b
  go_wp2_with fail
  refine (hI g13 k13 u13 _ hw13 (BsAt.of_own ho13 hz) (BsAt.of_own ho13' hy) (BsAt.of_own oU13 hu)).mono ?_
  rintro e w14 ⟨p14, a14, e14, f14, c14, d14, rfl, q0, q1, q2, -, -, -, hn14⟩
  obtain ⟨-, r0, -⟩ := q0.ow hX
  obtain ⟨-, r1, -⟩ := q1.ow hZ
  obtain ⟨-, r2, -⟩ := q2.ow hY
  have al14 := (New.refl w14).alloc (.cells #[.int .i64 z, .slice p14 X.length f14, .int .i64 E1, .slice a14 Z.length c14, .int .i64 T1, .slice e14 Y.length d14] 28)
  have n14 := hn14.trans al14
  have b314 := b313.new n14
  have b514 := b513.new n14
  have b14 := Blk.mk w14 w14.heap.size 28 #[.int .i64 z, .slice p14 X.length f14, .int .i64 E1, .slice a14 Z.length c14, .int .i64 T1, .slice e14 Y.length d14] rfl
  have hw14 := hw13.trans n14
  have s014 := s013.new n14
  have s114 := s113.new n14
  have s214 := s213.new n14
  have m014 := m013.new n14
  have m114 := m113.new n14
  have m214 := m213.new n14
  have r014 := r0.new al14
  have r114 := r1.new al14
  have r214 := r2.new al14
  clear b313 b513 s013 s113 s213 m013 m113 m213 hn14 n14 q0 q1 q2 r0 r1 r2 ho13 ho13' hg13 hk13 oU13 hu13
  have c3' := b314.cells
  have c14' := b14.cells
  go_wp2_with fail
  refine (eqWR_any z E1 T1 p14 a14 e14 p3 a3 e3 X.length f14 Z.length c14 Y.length d14 f3 c3 d3 X Z Y _ r014 r114 r214 s014 s114 s214 rfl rfl rfl hXl hZl hYl).mono ?_
  rintro e w15 ⟨rfl, hn15⟩
  have b515 := b514.new hn15
  have m015 := m014.new hn15
  have m115 := m114.new hn15
  have m215 := m214.new hn15
  have hw15 := hw14.trans hn15
  clear c3' c14' b514 m014 m114 m214 b314 b14 s014 s114 s214 r014 r114 r214 hn15
  have c5' := b515.cells
  go_wp2_with fail
  refine (heldWR_any z E1 T1 p5 a5 e5 X.length f5 Z.length c5 Y.length d5 1 _ m015 m115 m215 hXl (by omega) (by omega) (by omega) (by omega)).mono ?_
  rintro e w16 ⟨rfl, hn16⟩
  go_wp2
  go_ret
  exact ⟨rfl, hw15.trans hn16⟩


theorem ado_bd {E T ep at9 : Int} {zs ys us : List Int} (hz : ∀ u ∈ zs, 0 ≤ u ∧ u ≤ 255) (hy : ∀ u ∈ ys, 0 ≤ u ∧ u ≤ 255) (hu : ∀ u ∈ us, 0 ≤ u ∧ u ≤ 255) : (∀ u ∈ (doA E T ep at9 zs ys us).X, 0 ≤ u ∧ u ≤ 255) ∧ (∀ u ∈ (doA E T ep at9 zs ys us).Z, 0 ≤ u ∧ u ≤ 255) ∧ (∀ u ∈ (doA E T ep at9 zs ys us).Y, 0 ≤ u ∧ u ≤ 255) ∧ (doA E T ep at9 zs ys us).X.length ≤ 1048576 ∧ (doA E T ep at9 zs ys us).Z.length ≤ 1048576 ∧ (doA E T ep at9 zs ys us).Y.length ≤ 1048576 := by
  unfold doA
  split
  · rename_i h
    obtain ⟨-, ⟨h1, h2⟩, -⟩ := wF_zero (sF_zero h).1
    split
    · simp [Wr.bad]
    · rename_i h3
      split
      · simp [Wr.bad]
      · rename_i h4
        split
        · refine ⟨by simp, hz, fun u hu' => (List.mem_append.1 hu').elim (hy u) (fun h => hu u (List.mem_of_mem_drop h)), by simp, by simp only; omega, ?_⟩
          simp only [List.length_append, List.length_drop]
          omega
        · simp [Wr.bad]
  · simp [Wr.bad]

theorem ado_all (E T ep at9 : Int) (a b : Option Addr) (c d : Nat) (zs ys : List Int) (q : Option Addr) (f : Nat) (us : List Int) (w : World) (hG : Glob w) (h : BsAt w a zs) (k : BsAt w b ys) (hq : BsAt w q us) (hnm : zs.length ≤ maxLen) (hmm : ys.length ≤ maxLen) (hlm : us.length ≤ maxLen) :
    Calls Tryd.prog 6 #[.agg #[.int .i64 E, .slice a zs.length c, .int .i64 T, .slice b ys.length d], .int .i64 ep, .int .i64 at9, .slice q us.length f] w fun e w' => e = .returned (.bool true) ∧ New w w' := by
  by_cases hl : 1048576 < us.length
  · exact ado_long E T ep at9 a b q _ c _ d _ f w hlm hl
  · by_cases hbig : 1048576 < zs.length + ys.length
    · exact ado_big E T ep at9 a b _ c _ d q _ f w hnm hmm (by omega) hbig
    · obtain ⟨h1, h2, h3, h4, h5, h6⟩ := ado_bd (E := E) (T := T) (ep := ep) (at9 := at9) h.lt k.lt hq.lt
      exact ado_walk E T ep at9 a b c d zs ys q f us w h k hq (by omega) (by omega) _ _ _ _ _ _
        (fun g g2 u W hn i1 i2 i3 => implDO E T ep at9 (some ⟨g, 0, none⟩) (some ⟨g2, 0, none⟩) (some ⟨u, 0, none⟩) _ _ _ zs ys us W (hG.new hn) (.inr ⟨g2, 0, rfl⟩) (Nat.le_refl _) (.inr ⟨u, 0, rfl⟩) (Nat.le_refl _) i3 (by omega) i1 i2 (by intro h; cases h) (by intro h; cases h) (by omega) (by omega))
        (fun g g2 u W hn i1 i2 i3 => specDO E T ep at9 (some ⟨g, 0, none⟩) (some ⟨g2, 0, none⟩) (some ⟨u, 0, none⟩) _ _ _ zs ys us W (.inr ⟨g2, 0, rfl⟩) (Nat.le_refl _) (.inr ⟨u, 0, rfl⟩) (Nat.le_refl _) i3 (by omega) i1 i2 (by intro h; cases h) (by intro h; cases h) (by omega) (by omega)) h1 h2 h3 h4 h5 h6

set_option maxRecDepth 100000 in
theorem ado_lifted (os : Os) (started : os.Started) (H : Type) (enc : TypeId × Value → H) :
    ReturnsInHanded {} Tryd.checked os 6 .any (fun w args => (Rows.fnExactDeliverOutSpec.pre enc Tryd.prog Tryd.f6 Rows.fnExactDeliverOutRow.domain false w args ∧ laidMetH Tryd.prog Rows.fnExactDeliverOutRow.laid w) ∧ sizedMet enc Tryd.prog Tryd.f6 (OpenSpec.ofChange Rows.fnExactDeliverOutSpec) false w args)
      (Rows.fnExactDeliverOutSpec.post enc Tryd.prog Tryd.f6 false true false false) := by
  refine returnsInHanded_of_change_and (C := Tryd.checked) (X := fun w _ => laidMetH Tryd.prog Rows.fnExactDeliverOutRow.laid w) (fun _ _ _ hh h => h.of_heap hh) own started (by kernel_rfl) Tryd.func6
    (ChangeSpec.witness_at (enc := enc) (C := Tryd.checked) (os := os) (X := fun w _ => laidMetH Tryd.prog Rows.fnExactDeliverOutRow.laid w) false (laidWorld11 os) #[.agg #[.int .i64 0, .slice none 0 0, .int .i64 0, .slice none 0 0], .int .i64 0, .int .i64 0, .slice none 0 0] 8 rfl (by kernel_rfl) (by kernel_rfl) (by kernel_rfl) (by kernel_rfl) (by kernel_rfl) (laidWorld11_met os _)) ?_
  intro W base args ds gs before hval0 hW hcnd _ hL _
  have hval : ∀ (j : Nat) t v, Tryd.f6.params[j]? = some t → args[j]? = some v → Value.okWide Tryd.prog W .any base t v := hval0
  have hW' := hW
  obtain ⟨p, q, hA0, hV0, rfl, hfz, hnd⟩ := hW
  have hA : DataW.TrodAll enc Tryd.prog W 0 (fun _ => true) true Tryd.f6.params.toList args.toList ds p := hA0
  have hV : DataW.TrodVars enc Tryd.prog W (fun _ => true) [nameN] gs q := hV0
  have kV := hV
  rw [Tryd.params6] at hA hval
  obtain ⟨v0, vs0, d0, ds0, p0, q0, hargs, rfl, rfl, h0, r0⟩ := trodAll_cons hA
  obtain ⟨v1, vs1, d1, ds1, p1, q1, hargs1, rfl, rfl, h1, r1⟩ := trodAll_cons r0
  obtain ⟨v2, vs2, d2, ds2, p2, q2, hargs2, rfl, rfl, h2, r2⟩ := trodAll_cons r1
  obtain ⟨v3, vs3, d3, ds3, p3, q3, hargs3, rfl, rfl, h3, r3⟩ := trodAll_cons r2
  obtain ⟨rfl, rfl, rfl⟩ := trodAll_nil r3
  obtain rfl : args = #[v0, v1, v2, v3] := by cases args; simp_all
  obtain ⟨gg, tt, cc, ff, dd, pp, rfl, -, -, -, -, -⟩ := trodVars_one hV
  have k0 := h0
  have lt0 : ∀ x ∈ p0, x.block < W.heap.size := by obtain ⟨m, hm⟩ := k0; exact DataW.trod_lt m _ _ _ hm
  obtain ⟨E0, T0, a0, b0, n0, c0, m0, d0', z0, y0, rfl, wE, wT, i1, i2, i3, i4, i5, i6⟩ := open_wire (hval 0 24 v0 rfl rfl) h0
  obtain ⟨x1, rfl, rfl, rfl, w1⟩ := open_int Tryd.underlying2 (hval 1 2 v1 rfl rfl) h1
  obtain ⟨x2, rfl, rfl, rfl, w2⟩ := open_int Tryd.underlying2 (hval 2 2 v2 rfl rfl) h2
  have k3 := h3
  have lt3 : ∀ x ∈ p3, x.block < W.heap.size := by obtain ⟨m, hm⟩ := k3; exact DataW.trod_lt m _ _ _ hm
  obtain ⟨qd, ld, fd, rfl⟩ := okWide_slice Tryd.underlying22 (hval 3 22 v3 rfl rfl)
  obtain ⟨ud, j1, j2, -, j4⟩ := open_bytes h3
  subst j2
  subst i3 i4
  clear hA0 hval0
  refine (ado_all E0 T0 x1 x2 a0 b0 c0 d0' z0 y0 qd fd ud W (glob_of_laid hL) i1 i2 j1 i5 i6 j4).mono fun e W' ⟨he, new⟩ => ?_
  have bel := new.below
  subst he
  exact ⟨_, rfl, _, _, _, [], _, _, hW', trodAll_mk1 (shut_bool Tryd.underlying4 _), (trodAll_cons_mk (Below.trod laidOut (by kernel_rfl) (of_decide_eq_true (by kernel_rfl)) k0 bel lt0) (trodAll_cons_mk (shut_int Tryd.underlying2 w1) (trodAll_cons_mk (shut_int Tryd.underlying2 w2) (trodAll_cons_mk (Below.trod laidOut (by kernel_rfl) (of_decide_eq_true (by kernel_rfl)) k3 bel lt3) trodAll_mk0)))), Below.trodVars laidOut bel (by kernel_rfl) kV, bel.frame _, fun h => by cases h⟩

theorem ado_row : Rows.FnExactDeliverOutSaid :=
  OpenClaim.holds_of_wide 6 Tryd.f6 rfl rfl rfl rfl rfl rfl rfl ⟨rfl, rfl, rfl, rfl, rfl⟩ rfl rfl rfl rfl rfl (by kernel_rfl) Tryd.func6 (by kernel_rfl)
    (of_decide_eq_true (by kernel_rfl)) (by unfold Func.isWrapper; first | (rw [if_pos (by decide +kernel)]; kernel_rfl) | (rw [if_neg (by decide +kernel)]; exact ⟨rfl, rfl⟩))
    (fun os started H enc _ => ado_lifted os started H enc)

theorem ado_holds : Rows.FnExactDeliverOutCardSaid :=
  Claim7.holds_tied_plain_at .later [] [.handle, .sentinel] true (true, Rows.fnExactDeliverOutCard.stood.harness.2) true
    ado_row (fun _ h => by cases h) (by kernel_rfl) (fun _ h => by cases h) fnExactDeliverOut_row_tie rfl ⟨rfl, rfl⟩ (by kernel_rfl) rfl
    (fun f fn hf hfn => by
      obtain rfl : f = 6 := Option.some.inj ((show Tryd.prog.funcNamed Rows.fnExactDeliverOutRow.func = some 6 by kernel_rfl).symm.trans hf) |>.symm
      obtain rfl : fn = Tryd.f6 := (Option.some.inj (Tryd.func6.symm.trans hfn)).symm
      exact ⟨by kernel_rfl, fun j t ht => by
        rw [Tryd.params6] at ht
        have h3 : t = 24 ∨ t = 2 ∨ t = 22 := by
          match j, ht with
          | 0, ht => simp at ht; subst ht; simp
          | 1, ht => simp at ht; subst ht; simp
          | 2, ht => simp at ht; subst ht; simp
          | 3, ht => simp at ht; subst ht; simp
          | (j + 4), ht => simp at ht
        rcases h3 with rfl | rfl | rfl
        · exact (show Tryd.prog.wantsStandIn 24 = false by kernel_rfl)
        · exact (show Tryd.prog.wantsStandIn 2 = false by kernel_rfl)
        · exact (show Tryd.prog.wantsStandIn 22 = false by kernel_rfl)⟩)
    (by kernel_rfl)

end Go.Proofs.YtonmdodbhdmmbaaDoor
