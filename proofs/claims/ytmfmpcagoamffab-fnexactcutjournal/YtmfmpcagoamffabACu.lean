/- What is proved here: for every journal and number the law on CutJournal returns true, and the journal reads as it did. No condition. -/
import Derived.Test.YtmfmpcagoamffabE10Jo
import Derived.Test.YtmfmpcagoamffabE10Jm
import Derived.Test.YtmfmpcagoamffabE10Cu
import Derived.Deep.RegionHeld3
namespace Go.Proofs.Ytmfmpcagoamffab
open Go.ChangeShapes Go.WideShapes Go.ChangeAt Go.RowKit
set_option linter.unusedVariables false

set_option maxHeartbeats 800000 in
theorem acu_big (a b : Option Addr) (n c m d : Nat) (kp : Int) (w : World) (hnm : n ≤ maxLen) (hmm : m ≤ maxLen) (hbig : 1048576 < n + m) :
    Calls Try.prog 7 #[.agg #[.slice a n c, .slice b m d], .int .i64 kp] w fun e w' => e = .returned (.bool true) ∧ New w w' := by
  have hw := (New.refl w).alloc (.cells #[.slice a n c, .slice b m d] 24)
  go_enter Try.func7, Try.ntmps7
  go_wp2_with fail
  refine (szJ_big a b n c m d 1048576 _ (Nat.le_refl _) hnm hmm hbig).mono ?_
  rintro e w1 ⟨rfl, hn1⟩
  go_wp2
  go_ret
  exact ⟨rfl, hw.trans hn1⟩

set_option maxHeartbeats 6400000 in
theorem acu_walk (a b : Option Addr) (n c m d : Nat) (kp : Int) (zs ys : List Int) (w : World) (h : BsAt w a zs) (k : BsAt w b ys) (hn : zs.length = n) (hm : ys.length = m) (hbig : n + m ≤ 1048576) (z ct : Int) (Z Y : List Int)
    (hI : ∀ g g2 W, BsAt W (some ⟨g, 0, none⟩) zs → BsAt W (some ⟨g2, 0, none⟩) ys → g < W.heap.size → g2 < W.heap.size → Calls Try.prog 28 #[.agg #[.slice (some ⟨g, 0, none⟩) n n, .slice (some ⟨g2, 0, none⟩) m m], .int .i64 kp] W fun e w' => JrAns W z ct Z Y e w')
    (hS : ∀ g g2 W, BsAt W (some ⟨g, 0, none⟩) zs → BsAt W (some ⟨g2, 0, none⟩) ys → g < W.heap.size → g2 < W.heap.size → Calls Try.prog 27 #[.agg #[.slice (some ⟨g, 0, none⟩) n n, .slice (some ⟨g2, 0, none⟩) m m], .int .i64 kp] W fun e w' => JrAns W z ct Z Y e w')
    (hZ : ∀ u ∈ Z, 0 ≤ u ∧ u ≤ 255) (hY : ∀ u ∈ Y, 0 ≤ u ∧ u ≤ 255) (hZl : Z.length ≤ 1048576) (hYl : Y.length ≤ 1048576) :
    Calls Try.prog 7 #[.agg #[.slice a n c, .slice b m d], .int .i64 kp] w fun e w' => e = .returned (.bool true) ∧ New w w' := by
  have hw := (New.refl w).alloc (.cells #[.slice a n c, .slice b m d] 24)
  have hz := h.lt
  have hy := k.lt
  have hn' : n ≤ 1048576 := by omega
  have hm' : m ≤ 1048576 := by omega
  have hle : (0 : Int) ≤ 1048576 - (n : Int) - (m : Int) := by omega
  have bA := Blk.mk w w.heap.size 24 #[.slice a n c, .slice b m d] rfl
  go_enter Try.func7, Try.ntmps7
  go_wp2_with fail
  refine (szJ_ok a b n c m d 1048576 _ (Nat.le_refl _) (by omega)).mono ?_
  rintro e w1 ⟨rfl, hn1⟩
  have bA1 := bA.new hn1
  have cA := bA1.cells
  have hw1 := hw.trans hn1
  clear bA hn1 hw
  go_wp2_with fail
  refine (toJ_any a b n c m d zs ys _ (h.new hw1) (k.new hw1) hn hm hn' hm').mono ?_
  rintro e w2 ⟨g2, k2, rfl, hg2, hk2, ho2, ho2', hn2⟩
  have bA2 := bA1.new hn2
  have hw2 := hw1.trans hn2
  clear cA bA1 hn2
  go_wp2_with fail
  refine (hS g2 k2 _ (BsAt.of_own ho2 hz) (BsAt.of_own ho2' hy) (ho2.lt g2 rfl).2 (ho2'.lt k2 rfl).2).mono ?_
  rintro e w3 ⟨a3, e3, c3, d3, rfl, q1, q2, qa, hn3⟩
  obtain ⟨-, s1, l1⟩ := q1.ow hZ
  obtain ⟨-, s2, l2⟩ := q2.ow hY
  have bA3 := (bA2.new hn3).alloc (.cells #[.int .i64 z, .int .i64 ct, .slice a3 Z.length c3, .slice e3 Y.length d3] 37)
  have b3 := Blk.mk w3 w3.heap.size 37 #[.int .i64 z, .int .i64 ct, .slice a3 Z.length c3, .slice e3 Y.length d3] rfl
  have al3 := (New.refl w3).alloc (.cells #[.int .i64 z, .int .i64 ct, .slice a3 Z.length c3, .slice e3 Y.length d3] 37)
  have hw3 := (hw2.trans hn3).trans al3
  have s13 := s1.new al3
  have s23 := s2.new al3
  have z23 := hn3.size
  have cA := bA3.cells
  clear bA2 hn3 ho2 ho2' hg2 hk2 q1 q2 qa s1 s2
  go_wp2_with fail
  refine (toJ_any a b n c m d zs ys _ (h.new hw3) (k.new hw3) hn hm hn' hm').mono ?_
  rintro e w4 ⟨g4, k4, rfl, hg4, hk4, ho4, ho4', hn4⟩
  have al4 := (New.refl w4).alloc (.cells #[.slice (some ⟨g4, 0, none⟩) n n, .slice (some ⟨k4, 0, none⟩) m m] 27)
  have bA4 := (bA3.new hn4).new al4
  have b34 := (b3.new hn4).new al4
  have b4 := Blk.mk w4 w4.heap.size 27 #[.slice (some ⟨g4, 0, none⟩) n n, .slice (some ⟨k4, 0, none⟩) m m] rfl
  have hw4 := (hw3.trans hn4).trans al4
  have s14 := (s13.new hn4).new al4
  have s24 := (s23.new hn4).new al4
  have oA := own_new ho4 al4
  have oB := own_new ho4' al4
  have z3 := al3.size
  have z4 := al4.size
  have z34 := hn4.size
  have hg4' : w3.heap.size < g4 := by simp at hg4; omega
  have lA := (ho4.lt g4 rfl).2
  have lB := (ho4'.lt k4 rfl).2
  have cB := b4.cells
  clear bA3 b3 cA hn4 s13 s23 ho4 ho4' hg4
  go_wp2_with fail
  refine (hI g4 k4 _ (BsAt.of_own oA hz) (BsAt.of_own oB hy) (by omega) (by omega)).mono ?_
  rintro e w5 ⟨a5, e5, c5, d5, rfl, q1, q2, qa, hn5⟩
  obtain ⟨o1, -, l51⟩ := q1.ow hZ
  obtain ⟨o2, -, l52⟩ := q2.ow hY
  have al5 := (New.refl w5).alloc (.cells #[.int .i64 z, .int .i64 ct, .slice a5 Z.length c5, .slice e5 Y.length d5] 37)
  have n5 := hn5.trans al5
  have bA5 := bA4.new n5
  have b35 := b34.new n5
  have b45 := b4.new n5
  have b5 := Blk.mk w5 w5.heap.size 37 #[.int .i64 z, .int .i64 ct, .slice a5 Z.length c5, .slice e5 Y.length d5] rfl
  have hw5 := hw4.trans n5
  have s15 := s14.new n5
  have s25 := s24.new n5
  have oA5 := own_new oA n5
  have oB5 := own_new oB n5
  have o15 := o1.new al5
  have o25 := o2.new al5
  have z5 := al5.size
  have z45 := hn5.size
  have g51 : ∀ x, a5 = some x → w4.heap.size < x.block ∧ x.block < w5.heap.size := fun x hx => by have := l51 x hx; simp at this; omega
  have g52 : ∀ x, e5 = some x → w4.heap.size < x.block ∧ x.block < w5.heap.size := fun x hx => by have := l52 x hx; simp at this; omega
  have g31 : ∀ x, a3 = some x → x.block < w3.heap.size := fun x hx => (l1 x hx).2
  have g32 : ∀ x, e3 = some x → x.block < w3.heap.size := fun x hx => (l2 x hx).2
  have hww := hw3.size
  have hw0 := hw2.size
  have HS : Hid (w4.heap.size < w5.heap.size ∧ w3.heap.size < w4.heap.size ∧ w.heap.size < w3.heap.size) := ⟨by simp at z45; omega, by simp at z34; omega, bA_lt bA4 b34 (by decide) (by omega)⟩
  clear bA4 b34 b4 cB hn5 n5 s14 s24 oA oB o1 o2 q1 q2 l51 l52 l1 l2 z3 z4 z34 z5 z45 hww hw0
  have c3' := b35.cells
  have c5' := b5.cells
  go_wp2_with fail
  refine (eqJR_any z ct a5 e5 a3 e3 Z.length c5 Y.length d5 c3 d3 Z Y _ (o15.bs hZ) (o25.bs hY) s15 s25 rfl rfl hZl hYl).mono ?_
  rintro e w6 ⟨rfl, hn6⟩
  have bA6 := bA5.new hn6
  have b36 := b35.new hn6
  have b46 := b45.new hn6
  have b56 := b5.new hn6
  have hw6 := hw5.trans hn6
  have s16 := s15.new hn6
  have s26 := s25.new hn6
  have oA6 := own_new oA5 hn6
  have oB6 := own_new oB5 hn6
  have o16 := o15.new hn6
  have o26 := o25.new hn6
  have z6 := (al5.trans hn6).size
  clear bA5 b35 b45 b5 c3' c5' hn6 s15 s25 oA5 oB5 o15 o25 al3 al4 al5
  have cA := bA6.cells
  have cB := b46.cells
  have cAd := (bA6.new ((New.refl _).drew)).cells
  have cBd := (b46.new ((New.refl _).drew)).cells
  go_wp2_with fail
  go_region_held3 (fun W => (∀ j, W.cell? ⟨w.heap.size, j, none⟩ = (#[.slice a n c, .slice b m d] : Array Value)[j]?) ∧ (∀ j, W.cell? ⟨w4.heap.size, j, none⟩ = (#[.slice (some ⟨g4, 0, none⟩) n n, .slice (some ⟨k4, 0, none⟩) m m] : Array Value)[j]?)) (first | exact ⟨cA, cB⟩ | exact ⟨cAd, cBd⟩ | exact ⟨cA7, cB7⟩ | exact ⟨cA8, cB8⟩)
    (first
      | (go_at_call 10; refine (toJ_any a b n c m d zs ys _ ?_ ?_ hn hm hn' hm').mono ?_; exact (h.new hw6).new ((New.refl _).drew); exact (k.new hw6).new ((New.refl _).drew); rintro e w7 ⟨g7, k7, rfl, hg7, hk7, ho7, ho7', hn7⟩; have n7 : New w6 w7 := ((New.refl _).drew).trans hn7; have cA7 := (bA6.new n7).cells; have cB7 := (b46.new n7).cells)
      | (go_at_call 12; refine (eqJ_any _ _ _ _ n n m m n m zs ys _ ((BsAt.of_own oA6 hz).new n7) ((BsAt.of_own oB6 hy).new n7) (BsAt.of_own ho7 hz) (BsAt.of_own ho7' hy) hn hm hn' hm').mono ?_; rintro e w8 ⟨rfl, hn8⟩; have n8 := n7.trans hn8; have cA8 := (bA6.new n8).cells; have cB8 := (b46.new n8).cells))
  have bA8 := bA6.new n8
  have b38 := b36.new n8
  have b48 := b46.new n8
  have b58 := b56.new n8
  have hw8 := hw6.trans n8
  have s18 := s16.new n8
  have s28 := s26.new n8
  have oA8 := own_new oA6 n8
  have oB8 := own_new oB6 n8
  have o18 := o16.new n8
  have o28 := o26.new n8
  have z8 := n8.size
  clear cA cB cAd cBd cA7 cB7 cA8 cB8 bA6 b36 b46 b56 s16 s26 oA6 oB6 o16 o26 n8 n7 hn7 hn8 ho7 ho7' hg7 hk7
  have cB := b48.cells
  go_wp2_with fail
  refine (markJ_any (some ⟨g4, 0, none⟩) (some ⟨k4, 0, none⟩) n n m m 1 zs ys _ (OwAt.of_own oA8) (OwAt.of_own oB8) (by intro x y hx hy' e; cases hx; cases hy'; simp at e; omega) (by intro x hx; cases hx; simp; have := HS.out; omega) (by omega) (by omega) (by omega) (by omega)).mono ?_
  rintro e w9 ⟨rfl, -, -, ht9⟩
  have inX : ∀ i, (inA (some ⟨g4, 0, none⟩) i ∨ inA (some ⟨k4, 0, none⟩) i) → w3.heap.size < i ∧ i < w4.heap.size := by rintro i (⟨x, hx, e⟩ | ⟨x, hx, e⟩) <;> (cases hx; simp at e; omega)
  have bA9 := bA8.turn ht9 (fun hi => by have := inX _ hi; have := HS.out; omega)
  have b39 := b38.turn ht9 (fun hi => by have := inX _ hi; omega)
  have b59 := b58.turn ht9 (fun hi => by have := inX _ hi; have := HS.out; omega)
  have hw9 : New w w9 := hw8.before ht9 (fun i hi e => by have := inX _ e; have := HS.out; omega)
  have s19 := s18.turn ht9 (fun x hx hi => by have := inX _ hi; have := g31 x hx; omega)
  have s29 := s28.turn ht9 (fun x hx hi => by have := inX _ hi; have := g32 x hx; omega)
  have o19 := o18.turn ht9 (fun x hx hi => by have := inX _ hi; have := g51 x hx; omega)
  have o29 := o28.turn ht9 (fun x hx hi => by have := inX _ hi; have := g52 x hx; omega)
  have z9 := ht9.size
  clear cB bA8 b38 b48 b58 ht9 s18 s28 oA8 oB8 o18 o28 inX
  have c3' := b39.cells
  have c5' := b59.cells
  go_wp2_with fail
  refine (eqJR_any z ct a5 e5 a3 e3 Z.length c5 Y.length d5 c3 d3 Z Y _ (o19.bs hZ) (o29.bs hY) s19 s29 rfl rfl hZl hYl).mono ?_
  rintro e w10 ⟨rfl, hn10⟩
  have bA10 := bA9.new hn10
  have b310 := b39.new hn10
  have b510 := b59.new hn10
  have hw10 := hw9.trans hn10
  have s110 := s19.new hn10
  have s210 := s29.new hn10
  have o110 := o19.new hn10
  have o210 := o29.new hn10
  have z10 := hn10.size
  clear c3' c5' bA9 b39 b59 s19 s29 o19 o29 hn10
  have c5' := b510.cells
  go_wp2_with fail
  refine (markJR_any z ct a5 e5 Z.length c5 Y.length d5 1 Z Y _ o110 o210 qa (fun x hx => by have := (g51 x hx).2; omega) (by omega) (by omega) (by omega) (by omega)).mono ?_
  rintro e w11 ⟨rfl, o11, o21, ht11⟩
  have inG : ∀ i, (inA a5 i ∨ inA e5 i) → w4.heap.size < i ∧ i < w5.heap.size := by rintro i (⟨x, hx, e⟩ | ⟨x, hx, e⟩); (rw [e]; exact g51 x hx); (rw [e]; exact g52 x hx)
  have bA11 := bA10.turn ht11 (fun hi => by have := inG _ hi; have := HS.out; omega)
  have b311 := b310.turn ht11 (fun hi => by have := inG _ hi; have := HS.out; omega)
  have b511 := b510.turn ht11 (fun hi => by have := inG _ hi; omega)
  have hw11 : New w w11 := hw10.before ht11 (fun i hi e => by have := inG _ e; have := HS.out; omega)
  have s111 := s110.turn ht11 (fun x hx hi => by have := inG _ hi; have := g31 x hx; have := HS.out; omega)
  have s211 := s210.turn ht11 (fun x hx hi => by have := inG _ hi; have := g32 x hx; have := HS.out; omega)
  have m1 := o11.bs (marks_bd _ _)
  have m2 := o21.bs (marks_bd _ _)
  clear c5' bA10 b310 b510 ht11 s110 s210 o110 o210 o11 o21 inG
  have c5' := b511.cells
  go_wp2_with fail
  refine (heldJR_any z ct a5 e5 Z.length c5 Y.length d5 1 _ m1 m2 (by omega) (by omega) (by omega) (by omega)).mono ?_
  rintro e w12 ⟨rfl, hn12⟩
  have bA12 := bA11.new hn12
  have b312 := b311.new hn12
  have b512 := b511.new hn12
  have hw12 := hw11.trans hn12
  have s112 := s111.new hn12
  have s212 := s211.new hn12
  have m112 := m1.new hn12
  have m212 := m2.new hn12
  clear c5' bA11 b311 b511 s111 s211 m1 m2 hn12
  have cA := bA12.cells
  have hqm : ((1 : Int) + (Z.length : Int) + (Y.length : Int) != 1 + (Z.length : Int) + (Y.length : Int)) = false := by simp
  go_wp2_with fail
  refine (toJ_any a b n c m d zs ys _ (h.new hw12) (k.new hw12) hn hm hn' hm').mono ?_
  rintro e w13 ⟨g13, k13, rfl, hg13, hk13, ho13, ho13', hn13⟩
  have b313 := b312.new hn13
  have b513 := b512.new hn13
  have hw13 := hw12.trans hn13
  have s113 := s112.new hn13
  have s213 := s212.new hn13
  have m113 := m112.new hn13
  have m213 := m212.new hn13
  clear cA bA12 b312 b512 s112 s212 m112 m212 hn13
  go_wp2_with fail
  refine (hI g13 k13 _ (BsAt.of_own ho13 hz) (BsAt.of_own ho13' hy) (ho13.lt g13 rfl).2 (ho13'.lt k13 rfl).2).mono ?_
  rintro e w14 ⟨a14, e14, c14, d14, rfl, q1, q2, -, hn14⟩
  obtain ⟨-, r1, -⟩ := q1.ow hZ
  obtain ⟨-, r2, -⟩ := q2.ow hY
  have al14 := (New.refl w14).alloc (.cells #[.int .i64 z, .int .i64 ct, .slice a14 Z.length c14, .slice e14 Y.length d14] 37)
  have n14 := hn14.trans al14
  have b314 := b313.new n14
  have b514 := b513.new n14
  have b14 := Blk.mk w14 w14.heap.size 37 #[.int .i64 z, .int .i64 ct, .slice a14 Z.length c14, .slice e14 Y.length d14] rfl
  have hw14 := hw13.trans n14
  have s114 := s113.new n14
  have s214 := s213.new n14
  have m114 := m113.new n14
  have m214 := m213.new n14
  have r114 := r1.new al14
  have r214 := r2.new al14
  clear b313 b513 s113 s213 m113 m213 hn14 n14 q1 q2 r1 r2 ho13 ho13' hg13 hk13
  have c3' := b314.cells
  have c14' := b14.cells
  go_wp2_with fail
  refine (eqJR_any z ct a14 e14 a3 e3 Z.length c14 Y.length d14 c3 d3 Z Y _ r114 r214 s114 s214 rfl rfl hZl hYl).mono ?_
  rintro e w15 ⟨rfl, hn15⟩
  have b515 := b514.new hn15
  have m115 := m114.new hn15
  have m215 := m214.new hn15
  have hw15 := hw14.trans hn15
  clear c3' c14' b514 m114 m214 b314 b14 s114 s214 r114 r214 hn15
  have c5' := b515.cells
  go_wp2_with fail
  refine (heldJR_any z ct a5 e5 Z.length c5 Y.length d5 1 _ m115 m215 (by omega) (by omega) (by omega) (by omega)).mono ?_
  rintro e w16 ⟨rfl, hn16⟩
  go_wp2
  go_ret
  exact ⟨rfl, hw15.trans hn16⟩

theorem acu_bd (kp : Int) {zs ys : List Int} (hz : ∀ u ∈ zs, 0 ≤ u ∧ u ≤ 255) (hy : ∀ u ∈ ys, 0 ≤ u ∧ u ≤ 255) : (∀ u ∈ (cuA zs ys kp).2.2.1, 0 ≤ u ∧ u ≤ 255) ∧ (∀ u ∈ (cuA zs ys kp).2.2.2, 0 ≤ u ∧ u ≤ 255) ∧ (cuA zs ys kp).2.2.1.length ≤ 1048576 ∧ (cuA zs ys kp).2.2.2.length ≤ 1048576 := by
  unfold cuA
  split
  · rename_i h
    have := (jF_zero h).1
    split
    · simp
    · refine ⟨fun u hu => hz u (List.mem_of_mem_take hu), fun u hu => hy u (List.mem_of_mem_take hu), ?_, ?_⟩
      · simp only [eFi, List.length_take]; omega
      · simp only [eFi, List.length_take]; omega
  · simp

theorem acu_all (a b : Option Addr) (n c m d : Nat) (kp : Int) (zs ys : List Int) (w : World) (h : BsAt w a zs) (k : BsAt w b ys) (hn : zs.length = n) (hm : ys.length = m) (hnm : n ≤ maxLen) (hmm : m ≤ maxLen) :
    Calls Try.prog 7 #[.agg #[.slice a n c, .slice b m d], .int .i64 kp] w fun e w' => e = .returned (.bool true) ∧ New w w' := by
  by_cases hbig : 1048576 < n + m
  · exact acu_big a b n c m d kp w hnm hmm hbig
  · obtain ⟨h1, h2, h3, h4⟩ := acu_bd kp h.lt k.lt
    exact acu_walk a b n c m d kp zs ys w h k hn hm (by omega) (cuA zs ys kp).1 (cuA zs ys kp).2.1 (cuA zs ys kp).2.2.1 (cuA zs ys kp).2.2.2
      (fun g g2 W i1 i2 i3 i4 => implCu g 0 n n g2 0 m m zs ys W i1 i2 i3 i4 hn hm (Nat.le_refl _) (Nat.le_refl _) (by omega) (by omega) kp)
      (fun g g2 W i1 i2 i3 i4 => specCu g 0 n n g2 0 m m zs ys W i1 i2 i3 i4 hn hm (Nat.le_refl _) (Nat.le_refl _) (by omega) (by omega) kp) h1 h2 h3 h4

set_option maxRecDepth 100000 in
theorem acu_lifted (os : Os) (started : os.Started) (H : Type) (enc : TypeId × Value → H) :
    ReturnsInHanded {} Try.checked os 7 .any (Rows.fnExactCutJournalSpec.pre6 enc Try.prog Try.f7 Rows.fnExactCutJournalRow.domain false) (Rows.fnExactCutJournalSpec.post enc Try.prog Try.f7 false true false false) := by
  refine returnsInHanded_of_change (C := Try.checked) own started (by kernel_rfl) Try.func7
    (ChangeSpec.witness6 (enc := enc) (C := Try.checked) false ⟨#[], #[.agg #[.slice none 0 0, .slice none 0 0], .int .i64 0], []⟩ 8 (by kernel_rfl) (by kernel_rfl) (by kernel_rfl) (by kernel_rfl)) ?_
  intro W base args ds gs before hval0 hW hcnd _
  have hval : ∀ (j : Nat) t v, Try.f7.params[j]? = some t → args[j]? = some v → Value.okWide Try.prog W .any base t v := hval0
  have hW' := hW
  obtain ⟨p, q, hA0, hV, rfl, hfz, hnd⟩ := hW
  have hA : DataW.TrodAll enc Try.prog W 0 (fun _ => true) true Try.f7.params.toList args.toList ds p := hA0
  rw [Try.params7] at hA hval
  obtain ⟨v0, vs0, d0, ds0, p0, q0, hargs, rfl, rfl, h0, r0⟩ := trodAll_cons hA
  obtain ⟨v1, vs1, d1, ds1, p1, q1, rfl, rfl, rfl, i1, r1⟩ := trodAll_cons r0
  obtain ⟨rfl, rfl, rfl⟩ := trodAll_nil r1
  obtain rfl : args = #[v0, v1] := by cases args; simp_all
  obtain ⟨rfl, rfl⟩ := trodVars_none hV
  have k0 := h0
  have lt0 : ∀ x ∈ p0, x.block < W.heap.size := by obtain ⟨m, hm⟩ := k0; exact DataW.trod_lt m _ _ _ hm
  obtain ⟨a0, b0, n0, c0, m0, d0', z0, y0, rfl, h1, h2, h3, h4, h5, h6⟩ := open_journal (hval 0 24 v0 rfl rfl) h0
  obtain ⟨kp, rfl, rfl, rfl, w1⟩ := open_int Try.underlying2 (hval 1 2 v1 rfl rfl) i1
  clear hA0 hval0
  refine (acu_all a0 b0 n0 c0 m0 d0' kp z0 y0 W h1 h2 h3 h4 h5 h6).mono fun e W' ⟨he, new⟩ => ?_
  have bel := new.below
  subst he
  exact ⟨_, rfl, _, _, _, [], _, [], hW', trodAll_mk1 (shut_bool Try.underlying4 _), (trodAll_cons_mk (Below.trod laidOut (by kernel_rfl) (of_decide_eq_true (by kernel_rfl)) k0 bel lt0) (trodAll_cons_mk (shut_int Try.underlying2 w1) trodAll_mk0)), rfl, bel.frame _, fun h => by cases h⟩


theorem acu_holds : Rows.FnExactCutJournalSaid :=
  OpenClaim.holds_of_wide 7 Try.f7 rfl rfl rfl rfl rfl rfl rfl ⟨rfl, rfl, rfl, rfl, rfl⟩ rfl rfl rfl rfl rfl (by kernel_rfl) Try.func7 (by kernel_rfl)
    (of_decide_eq_true (by kernel_rfl)) (by unfold Func.isWrapper; first | (rw [if_pos (by decide +kernel)]; kernel_rfl) | (rw [if_neg (by decide +kernel)]; exact ⟨rfl, rfl⟩))
    (fun os started H enc _ => acu_lifted os started H enc)

end Go.Proofs.Ytmfmpcagoamffab
