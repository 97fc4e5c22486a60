/- What is proved here: for all settings the law on NewPair returns true, and the settings read as they did. No condition. -/
import Derived.Test.YtdknalegmlpimaaNP4
import Derived.Deep.RegionHeld3
namespace Go.Proofs.Ytdknalegmlpimaa
open Go.ChangeShapes Go.WideShapes Go.ChangeAt Go.RowKit Go.Deep Go.Sort
set_option linter.unusedVariables false
set_option linter.unusedSimpArgs false

set_option maxHeartbeats 12800000 in
theorem anp_walk (sa si ho nx : Int) (a1 a2 : Option Addr) (n1 c1 n2 c2 : Nat) (r1 r2 : List Ru) (z za zi zh zn : Int) (k1 k2 kn kw : Nat) (s1 s2 : List Ru) (w : World) (h1 : RsAt w a1 r1) (h2 : RsAt w a2 r2) (e1 : r1.length = n1) (e2 : r2.length = n2) (i1 : n1 ≤ 1048576) (i2 : n2 ≤ 1048576) (hle : n1 + n2 ≤ 1048576) (f1 : s1.length = k1) (f2 : s2.length = k2) (j1 : k1 ≤ 1048576) (j2 : k2 ≤ 1048576) (hk : kn ≤ 2 ∧ kw ≤ 3) (hN1 : (nds kn).length = kn) (hN2 : (wis kw).length = kw)
    (hI : ∀ p q W, New w W → OwR W p n1 n1 r1 → OwR W q n2 n2 r2 → Calls Try.prog 7 #[.agg #[.int .i64 sa, .int .i64 si, .int .i64 ho, .int .i64 nx, .slice (some ⟨p, 0, none⟩) n1 n1, .slice (some ⟨q, 0, none⟩) n2 n2]] W fun e w' => (∃ x1 d1 x2 d2 yn dn yw dw, e = .returned (.agg #[.int .i64 z, .slice none 0 0, .int .i64 za, .int .i64 zi, .int .i64 zh, .int .i64 zn, .slice x1 k1 d1, .slice x2 k2 d2, .slice yn kn dn, .slice yw kw dw, .slice none 0 0, .slice none 0 0]) ∧ PA w' W.heap.size x1 k1 d1 x2 k2 d2 yn kn dn yw kw dw s1 s2) ∧ New W w')
    (hS : ∀ p q W, New w W → OwR W p n1 n1 r1 → OwR W q n2 n2 r2 → Calls Try.prog 5 #[.agg #[.int .i64 sa, .int .i64 si, .int .i64 ho, .int .i64 nx, .slice (some ⟨p, 0, none⟩) n1 n1, .slice (some ⟨q, 0, none⟩) n2 n2]] W fun e w' => (∃ x1 d1 x2 d2 yn dn yw dw, e = .returned (.agg #[.int .i64 z, .slice none 0 0, .int .i64 za, .int .i64 zi, .int .i64 zh, .int .i64 zn, .slice x1 k1 d1, .slice x2 k2 d2, .slice yn kn dn, .slice yw kw dw, .slice none 0 0, .slice none 0 0]) ∧ SP w' x1 x2 yn yw s1 s2 kn kw) ∧ New W w') :
    Calls Try.prog 3 #[.agg #[.int .i64 sa, .int .i64 si, .int .i64 ho, .int .i64 nx, .slice a1 n1 c1, .slice a2 n2 c2]] w fun e w' => e = .returned (.bool true) ∧ New w w' := by
  have hw := (New.refl w).alloc (.cells #[.int .i64 sa, .int .i64 si, .int .i64 ho, .int .i64 nx, .slice a1 n1 c1, .slice a2 n2 c2] 26)
  have bA := Blk.mk w w.heap.size 26 #[.int .i64 sa, .int .i64 si, .int .i64 ho, .int .i64 nx, .slice a1 n1 c1, .slice a2 n2 c2] rfl
  have E1 : Hid (r1.length = n1) := e1
  have E2 : Hid (r2.length = n2) := e2
  have S1 : Hid (s1.length = k1) := f1
  have S2 : Hid (s2.length = k2) := f2
  have HN1 : Hid ((nds kn).length = kn) := hN1
  have HN2 : Hid ((wis kw).length = kw) := hN2
  clear e1 e2 f1 f2 hN1 hN2
  go_enter Try.func3, Try.ntmps3
  go_wp2_with fail
  refine (szSe_ok sa si ho nx a1 a2 n1 c1 n2 c2 1048576 _ (Nat.le_refl _) hle).mono ?_
  rintro e w1 ⟨rfl, hn1⟩
  generalize 1048576 - n1 - n2 = left at *
  have bA1 := bA.new hn1
  have cA := bA1.cells
  have hw1 := hw.trans hn1
  clear bA hn1 hw hle
  go_wp2_with fail
  refine (toSe_any sa si ho nx a1 a2 n1 c1 n2 c2 r1 r2 _ (h1.new hw1) (h2.new hw1) E1.out E2.out i1 i2).mono ?_
  rintro e w2 ⟨p2, q2, rfl, -, -, op2, oq2, hn2⟩
  have bA2 := bA1.new hn2
  have hw2 := hw1.trans hn2
  clear cA bA1 hn2
  go_wp2_with fail
  refine (hS p2 q2 _ hw2 op2 oq2).mono ?_
  rintro e w3 ⟨⟨x13, d13, x23, d23, yn3, dn3, yw3, dw3, rfl, rd3⟩, hn3⟩
  have al3 := (New.refl w3).alloc (.cells #[.int .i64 z, .slice none 0 0, .int .i64 za, .int .i64 zi, .int .i64 zh, .int .i64 zn, .slice x13 k1 d13, .slice x23 k2 d23, .slice yn3 kn dn3, .slice yw3 kw dw3, .slice none 0 0, .slice none 0 0] 40)
  have bA3 := (bA2.new hn3).new al3
  have b3 := Blk.mk w3 w3.heap.size 40 #[.int .i64 z, .slice none 0 0, .int .i64 za, .int .i64 zi, .int .i64 zh, .int .i64 zn, .slice x13 k1 d13, .slice x23 k2 d23, .slice yn3 kn dn3, .slice yw3 kw dw3, .slice none 0 0, .slice none 0 0] rfl
  have hw3 := (hw2.trans hn3).trans al3
  have s3 : SPB (w3.alloc (.cells #[.int .i64 z, .slice none 0 0, .int .i64 za, .int .i64 zi, .int .i64 zh, .int .i64 zn, .slice x13 k1 d13, .slice x23 k2 d23, .slice yn3 kn dn3, .slice yw3 kw dw3, .slice none 0 0, .slice none 0 0] 40)) w3.heap.size x13 x23 yn3 yw3 s1 s2 kn kw := ⟨w3, Nat.le_refl _, rd3, al3.turn⟩
  have lt3 : Hid (w.heap.size < w3.heap.size) := (bA2.new hn3).lt
  have sz3 : Hid ((w3.alloc (.cells #[.int .i64 z, .slice none 0 0, .int .i64 za, .int .i64 zi, .int .i64 zh, .int .i64 zn, .slice x13 k1 d13, .slice x23 k2 d23, .slice yn3 kn dn3, .slice yw3 kw dw3, .slice none 0 0, .slice none 0 0] 40)).heap.size = w3.heap.size + 1) := by unfold Hid; simp
  have cA := bA3.cells
  clear bA2 hn3 op2 oq2 rd3
  go_wp2_with fail
  refine (toSe_any sa si ho nx a1 a2 n1 c1 n2 c2 r1 r2 _ (h1.new hw3) (h2.new hw3) E1.out E2.out i1 i2).mono ?_
  rintro e w4 ⟨p4, q4, rfl, hp4, hpq4, op4, oq4, hn4⟩
  rw [sz3.out] at hp4
  have al4 := (New.refl w4).alloc (.cells #[.int .i64 sa, .int .i64 si, .int .i64 ho, .int .i64 nx, .slice (some ⟨p4, 0, none⟩) n1 n1, .slice (some ⟨q4, 0, none⟩) n2 n2] 32)
  have bA4 := (bA3.new hn4).new al4
  have b34 := (b3.new hn4).new al4
  have b4 := Blk.mk w4 w4.heap.size 32 #[.int .i64 sa, .int .i64 si, .int .i64 ho, .int .i64 nx, .slice (some ⟨p4, 0, none⟩) n1 n1, .slice (some ⟨q4, 0, none⟩) n2 n2] rfl
  have s4 := (s3.new hn4).new al4
  have ip4 := op4.new al4
  have iq4 := oq4.new al4
  have hw4 := (hw3.trans hn4).trans al4
  have lt4 : Hid (w3.heap.size < w4.heap.size) := (b3.new hn4).lt
  have lq4 : Hid (q4 < w4.heap.size) := oq4.lt
  have sz4 : Hid ((w4.alloc (.cells #[.int .i64 sa, .int .i64 si, .int .i64 ho, .int .i64 nx, .slice (some ⟨p4, 0, none⟩) n1 n1, .slice (some ⟨q4, 0, none⟩) n2 n2] 32)).heap.size = w4.heap.size + 1) := by unfold Hid; simp
  have cB := b4.cells
  clear cA bA3 b3 hn4 op4 oq4 s3 al3
  go_wp2_with fail
  refine (hI p4 q4 _ hw4 ip4 iq4).mono ?_
  rintro e w5 ⟨⟨x15, d15, x25, d25, yn5, dn5, yw5, dw5, rfl, hO5⟩, hn5⟩
  rw [sz4.out] at hO5
  have rg5 : Hid (∀ j, PS x15 k1 d15 x25 k2 d25 yn5 kn dn5 yw5 kw dw5 j → w4.heap.size + 1 ≤ j ∧ j < w5.heap.size) := hO5.rng
  have al5 := (New.refl w5).alloc (.cells #[.int .i64 z, .slice none 0 0, .int .i64 za, .int .i64 zi, .int .i64 zh, .int .i64 zn, .slice x15 k1 d15, .slice x25 k2 d25, .slice yn5 kn dn5, .slice yw5 kw dw5, .slice none 0 0, .slice none 0 0] 40)
  have n5 := hn5.trans al5
  have bA5 := bA4.new n5
  have b35 := b34.new n5
  have b45 := b4.new n5
  have b5 := Blk.mk w5 w5.heap.size 40 #[.int .i64 z, .slice none 0 0, .int .i64 za, .int .i64 zi, .int .i64 zh, .int .i64 zn, .slice x15 k1 d15, .slice x25 k2 d25, .slice yn5 kn dn5, .slice yw5 kw dw5, .slice none 0 0, .slice none 0 0] rfl
  have s5 := s4.new n5
  have ip5 := ip4.new n5
  have iq5 := iq4.new n5
  have g5 := hO5.new al5
  have hw5 := hw4.trans n5
  have lt5 : Hid (w4.heap.size < w5.heap.size) := (b4.new hn5).lt
  clear bA4 b34 b4 cB hn5 hO5 s4 ip4 iq4 al4 n5
  have c3' := b35.cells
  have c5' := b5.cells
  go_wp2_with fail
  refine (eqPP z za zi zh zn x15 x25 yn5 yw5 x13 x23 yn3 yw3 k1 k2 kn kw d15 d25 dn5 dw5 d13 d23 dn3 dw3 s1 s2 _ g5.sr s5.sr S1.out S2.out j1 j2 HN1.out HN2.out hk).mono ?_
  rintro e w6 ⟨rfl, hn6⟩
  have bA6 := bA5.new hn6
  have b36 := b35.new hn6
  have b46 := b45.new hn6
  have b56 := b5.new hn6
  have s6 := s5.new hn6
  have ip6 := ip5.new hn6
  have iq6 := iq5.new hn6
  have g6 := g5.new hn6
  have hw6 := hw5.trans hn6
  have z6 := (al5.trans hn6).size
  clear bA5 b35 b45 b5 c3' c5' s5 ip5 iq5 g5 al5 hn6
  have cA := bA6.cells
  have cB := b46.cells
  have cAd := (bA6.new ((New.refl _).drew)).cells
  have cBd := (b46.new ((New.refl _).drew)).cells
  go_wp2_with fail
  go_region_held3 (fun W => (∀ j, W.cell? ⟨w.heap.size, j, none⟩ = (#[.int .i64 sa, .int .i64 si, .int .i64 ho, .int .i64 nx, .slice a1 n1 c1, .slice a2 n2 c2] : Array Value)[j]?) ∧ (∀ j, W.cell? ⟨w4.heap.size, j, none⟩ = (#[.int .i64 sa, .int .i64 si, .int .i64 ho, .int .i64 nx, .slice (some ⟨p4, 0, none⟩) n1 n1, .slice (some ⟨q4, 0, none⟩) n2 n2] : Array Value)[j]?)) (first | exact ⟨cA, cB⟩ | exact ⟨cAd, cBd⟩ | exact ⟨cA7, cB7⟩ | exact ⟨cA8, cB8⟩)
    (first
      | (go_at_call 6; refine (toSe_any sa si ho nx a1 a2 n1 c1 n2 c2 r1 r2 _ ?_ ?_ E1.out E2.out i1 i2).mono ?_; exact (h1.new hw6).new ((New.refl _).drew); exact (h2.new hw6).new ((New.refl _).drew); rintro e w7 ⟨p7, q7, rfl, -, -, op7, oq7, hn7⟩; have n7 : New w6 w7 := ((New.refl _).drew).trans hn7; have cA7 := (bA6.new n7).cells; have cB7 := (b46.new n7).cells)
      | (go_at_call 9; refine (eqSe_any sa si ho nx _ _ _ _ n1 n1 n2 n2 n1 n2 r1 r2 _ (ip6.rs.new n7) (iq6.rs.new n7) E1.out E2.out i1 i2 op7.rs oq7.rs).mono ?_; rintro e w8 ⟨rfl, hn8⟩; have n8 := n7.trans hn8; have cA8 := (bA6.new n8).cells; have cB8 := (b46.new n8).cells))
  have bA8 := bA6.new n8
  have b38 := b36.new n8
  have b48 := b46.new n8
  have b58 := b56.new n8
  have s8 := s6.new n8
  have ip8 := ip6.new n8
  have iq8 := iq6.new n8
  have g8 := g6.new n8
  have hw8 := hw6.trans n8
  have z8 := n8.size
  clear cA cB cAd cBd cA7 cB7 cA8 cB8 bA6 b36 b46 b56 s6 ip6 iq6 g6 n8 n7 hn7 hn8 op7 oq7
  have cB := b48.cells
  have L3 := lt3.out
  have L4 := lt4.out
  have L5 := lt5.out
  have Q4 := lq4.out
  go_wp2_with fail
  refine (markSe sa si ho nx _ _ n1 n1 n2 n2 (w3.heap.size + 1) 1 r1 r2 _ (ip8.ov.low (by omega)) (iq8.ov.low (by omega)) (by intro j hj e; simp [Value.ownBlock] at hj e; omega) i1 i2 (by omega) (by omega)).mono ?_
  rintro e w9 ⟨rfl, -, -, ht9⟩
  have ht : Turn (fun j => j = p4 ∨ j = q4) w8 w9 := ⟨ht9.os, ht9.tape, ht9.output, ht9.size, fun b hb hs => ht9.block b hb (fun e => hs (by simp [Value.ownBlock] at e; omega))⟩
  have bA9 := bA8.turn ht (by omega)
  have b39 := b38.turn ht (by omega)
  have b59 := b58.turn ht (by omega)
  have s9 := s8.turn ht (fun j e => by omega)
  have g9 := g8.turn ht (fun k h1 h2 e => by omega)
  have hw9 : New w w9 := hw8.before ht (fun i hi e => by omega)
  have z9 := ht.size
  have hk9 : ¬ 1 + 8 * (n1 : Int) + 8 * (n2 : Int) < 0 := by omega
  clear bA8 b38 b48 b58 s8 ip8 iq8 g8 cB ht9 ht
  generalize 1 + 8 * (n1 : Int) + 8 * (n2 : Int) = k9 at *
  have c3' := b39.cells
  have c5' := b59.cells
  clear L3 L4 L5 Q4
  go_wp2_with fail
  refine (eqPP z za zi zh zn x15 x25 yn5 yw5 x13 x23 yn3 yw3 k1 k2 kn kw d15 d25 dn5 dw5 d13 d23 dn3 dw3 s1 s2 _ g9.sr s9.sr S1.out S2.out j1 j2 HN1.out HN2.out hk).mono ?_
  rintro e w10 ⟨rfl, hn10⟩
  have bA10 := bA9.new hn10
  have b310 := b39.new hn10
  have b510 := b59.new hn10
  have s10 := s9.new hn10
  have g10 := g9.new hn10
  have hw10 := hw9.trans hn10
  have z10 := hn10.size
  clear bA9 b39 b59 s9 g9 c3' c5' hn10
  have c5' := b510.cells
  go_wp2_with fail
  refine (markPP z za zi zh zn x15 k1 d15 x25 k2 d25 yn5 kn dn5 yw5 kw dw5 _ s1 s2 _ g10 j1 j2).mono ?_
  rintro e w11 ⟨rfl, m11, ht11⟩
  have L3 := lt3.out
  have L4 := lt4.out
  have L5 := lt5.out
  have bA11 := bA10.turn ht11 (fun e => by have := rg5.out _ e; omega)
  have b311 := b310.turn ht11 (fun e => by have := rg5.out _ e; omega)
  have b511 := b510.turn ht11 (fun e => by have := rg5.out _ e; omega)
  have s11 := s10.turn ht11 (fun j e => by have := rg5.out _ e; omega)
  have hw11 : New w w11 := hw10.before ht11 (fun i hi e => by have := rg5.out _ e; omega)
  clear bA10 b310 b510 s10 g10 c5' ht11 L3 L4 L5
  have c5' := b511.cells
  obtain ⟨E, HE⟩ : ∃ E, Hid (eB k1 k2 kn = E) := ⟨_, rfl⟩
  have hE0 : ¬ E < 0 := by rw [← HE.out]; unfold eB eP; split <;> omega
  have hEE : (E != E) = false := by simp
  rw [HE.out]
  go_wp2_with fail
  refine (heldPP z za zi zh zn x15 k1 d15 x25 k2 d25 yn5 kn dn5 yw5 kw dw5 _ m11 j1 j2).mono ?_
  rintro e w12 ⟨rfl, hn12⟩
  rw [HE.out]
  have bA12 := bA11.new hn12
  have b312 := b311.new hn12
  have b512 := b511.new hn12
  have s12 := s11.new hn12
  have m12 := m11.new hn12
  have hw12 := hw11.trans hn12
  clear bA11 b311 b511 s11 m11 c5' hn12
  have cA := bA12.cells
  go_wp2_with fail
  refine (toSe_any sa si ho nx a1 a2 n1 c1 n2 c2 r1 r2 _ (h1.new hw12) (h2.new hw12) E1.out E2.out i1 i2).mono ?_
  rintro e w13 ⟨p13, q13, rfl, -, -, op13, oq13, hn13⟩
  have b313 := b312.new hn13
  have b513 := b512.new hn13
  have s13 := s12.new hn13
  have m13 := m12.new hn13
  have hw13 := hw12.trans hn13
  clear bA12 b312 b512 s12 m12 cA hn13
  go_wp2_with fail
  refine (hI p13 q13 _ hw13 op13 oq13).mono ?_
  rintro e w14 ⟨⟨x19, d19, x29, d29, yn9, dn9, yw9, dw9, rfl, hO9⟩, hn14⟩
  have al14 := (New.refl w14).alloc (.cells #[.int .i64 z, .slice none 0 0, .int .i64 za, .int .i64 zi, .int .i64 zh, .int .i64 zn, .slice x19 k1 d19, .slice x29 k2 d29, .slice yn9 kn dn9, .slice yw9 kw dw9, .slice none 0 0, .slice none 0 0] 40)
  have n14 := hn14.trans al14
  have b314 := b313.new n14
  have b514 := b513.new n14
  have b9 := Blk.mk w14 w14.heap.size 40 #[.int .i64 z, .slice none 0 0, .int .i64 za, .int .i64 zi, .int .i64 zh, .int .i64 zn, .slice x19 k1 d19, .slice x29 k2 d29, .slice yn9 kn dn9, .slice yw9 kw dw9, .slice none 0 0, .slice none 0 0] rfl
  have s14 := s13.new n14
  have m14 := m13.new n14
  have h14 := hO9.new al14
  have hw14 := hw13.trans n14
  clear b313 b513 s13 m13 op13 oq13 hn14 hO9 n14 al14
  have c3' := b314.cells
  have c9' := b9.cells
  go_wp2_with fail
  refine (eqPP z za zi zh zn x19 x29 yn9 yw9 x13 x23 yn3 yw3 k1 k2 kn kw d19 d29 dn9 dw9 d13 d23 dn3 dw3 s1 s2 _ h14.sr s14.sr S1.out S2.out j1 j2 HN1.out HN2.out hk).mono ?_
  rintro e w15 ⟨rfl, hn15⟩
  have c5' := (b514.new hn15).cells
  have m15 := m14.new hn15
  have hw15 := hw14.trans hn15
  clear b314 b514 b9 c3' c9' s14 h14 m14
  go_wp2_with fail
  refine (heldPP z za zi zh zn x15 k1 d15 x25 k2 d25 yn5 kn dn5 yw5 kw dw5 _ m15 j1 j2).mono ?_
  rintro e w16 ⟨rfl, hn16⟩
  rw [HE.out]
  clear m15 c5'
  go_wp2
  go_ret
  exact ⟨rfl, hw15.trans hn16⟩

set_option maxHeartbeats 1600000 in
theorem anp_all (sa si ho nx : Int) (a1 a2 : Option Addr) (n1 c1 n2 c2 : Nat) (r1 r2 : List Ru) (w : World) (h1 : RsAt w a1 r1) (h2 : RsAt w a2 r2) (e1 : r1.length = n1) (e2 : r2.length = n2) (m1 : n1 ≤ maxLen) (m2 : n2 ≤ maxLen) :
    Calls Try.prog 3 #[.agg #[.int .i64 sa, .int .i64 si, .int .i64 ho, .int .i64 nx, .slice a1 n1 c1, .slice a2 n2 c2]] w fun e w' => e = .returned (.bool true) ∧ New w w' := by
  by_cases hbig : 1048576 < n1 + n2
  · have hw := (New.refl w).alloc (.cells #[.int .i64 sa, .int .i64 si, .int .i64 ho, .int .i64 nx, .slice a1 n1 c1, .slice a2 n2 c2] 26)
    go_enter Try.func3, Try.ntmps3
    go_wp2_with fail
    refine (szSe_big sa si ho nx a1 a2 n1 c1 n2 c2 1048576 _ (Nat.le_refl _) hbig m1 m2).mono ?_
    rintro e w1 ⟨rfl, hn1⟩
    go_wp2
    go_ret
    exact ⟨rfl, hw.trans hn1⟩
  · have i1 : n1 ≤ 1048576 := by omega
    have i2 : n2 ≤ 1048576 := by omega
    by_cases hz : stF sa si ho nx r1 r2 = 0
    · refine anp_walk sa si ho nx a1 a2 n1 c1 n2 c2 r1 r2 0 sa si ho nx n1 n2 2 3 r1 r2 w h1 h2 e1 e2 i1 i2 (by omega) e1 e2 i1 i2 (by omega) rfl rfl ?_ ?_
      · intro p q W hW o1 o2
        refine (implNP_ok sa si ho nx _ _ n1 n1 n2 n2 r1 r2 W o1.rs o2.rs e1 e2 i1 i2 (by simp) (by simp) hz).mono ?_
        rintro e w' ⟨⟨x1, d1, x2, d2, yn, dn, yw, dw, he, k⟩, hn⟩
        exact ⟨⟨x1, d1, x2, d2, yn, dn, yw, dw, he, .inl ⟨rfl, rfl, k⟩⟩, hn⟩
      · intro p q W hW o1 o2
        refine (specNP_ok sa si ho nx _ _ n1 n1 n2 n2 r1 r2 W o1.rs o2.rs e1 e2 i1 i2 (by simp) (by simp) hz).mono ?_
        rintro e w' ⟨⟨x1, d1, x2, d2, yn, dn, yw, dw, he, q1, q2, q3, q4⟩, hn⟩
        exact ⟨⟨x1, d1, x2, d2, yn, dn, yw, dw, he, ⟨q1, q2, nd_at q3, wi_at q4⟩⟩, hn⟩
    · refine anp_walk sa si ho nx a1 a2 n1 c1 n2 c2 r1 r2 (stF sa si ho nx r1 r2) 0 0 0 0 0 0 0 0 [] [] w h1 h2 e1 e2 i1 i2 (by omega) rfl rfl (by omega) (by omega) (by omega) rfl rfl ?_ ?_
      · intro p q W hW o1 o2
        refine (implNP_bad sa si ho nx _ _ n1 n1 n2 n2 r1 r2 _ W o1.rs o2.rs e1 e2 i1 i2 (by simp) (by simp) rfl hz).mono ?_
        rintro e w' ⟨he, hn⟩
        exact ⟨⟨none, 0, none, 0, none, 0, none, 0, he, .inr ⟨rfl, rfl, rfl, rfl, rfl, rfl, rfl, rfl, rfl, rfl, rfl, rfl, rfl, rfl⟩⟩, hn⟩
      · intro p q W hW o1 o2
        refine (specNP_bad sa si ho nx _ _ n1 n1 n2 n2 r1 r2 _ W o1.rs o2.rs e1 e2 i1 i2 (by simp) (by simp) rfl hz).mono ?_
        rintro e w' ⟨he, hn⟩
        exact ⟨⟨none, 0, none, 0, none, 0, none, 0, he, ⟨RsAt.nil _ _, RsAt.nil _ _, fun i v hv => by simp [nds] at hv, fun i v hv => by simp [wis] at hv⟩⟩, hn⟩

set_option maxRecDepth 100000 in
theorem anp_lifted (os : Os) (started : os.Started) (H : Type) (enc : TypeId × Value → H) :
    ReturnsInHanded {} Try.checked os 3 .any (Rows.fnExactNewPairSpec.pre6 enc Try.prog Try.f3 Rows.fnExactNewPairRow.domain false) (Rows.fnExactNewPairSpec.post enc Try.prog Try.f3 false true false false) := by
  refine returnsInHanded_of_change (C := Try.checked) own started (by kernel_rfl) Try.func3
    (ChangeSpec.witness6 (enc := enc) (C := Try.checked) false ⟨#[], #[.agg #[.int .i64 0, .int .i64 0, .int .i64 0, .int .i64 0, .slice none 0 0, .slice none 0 0]], []⟩ 8 (by kernel_rfl) (by kernel_rfl) (by kernel_rfl) (by kernel_rfl)) ?_
  intro W base args ds gs before hval0 hW hcnd _
  have hval : ∀ (j : Nat) t v, Try.f3.params[j]? = some t → args[j]? = some v → Value.okWide Try.prog W .any base t v := hval0
  have hW' := hW
  obtain ⟨p, q, hA0, hV, rfl, hfz, hnd⟩ := hW
  have hA : DataW.TrodAll enc Try.prog W 0 (fun _ => true) true Try.f3.params.toList args.toList ds p := hA0
  rw [Try.params3] at hA hval
  obtain ⟨v0, vs0, d0, ds0, p0, q0, hargs, rfl, rfl, h0, r0⟩ := trodAll_cons hA
  obtain ⟨rfl, rfl, rfl⟩ := trodAll_nil r0
  obtain rfl : args = #[v0] := by cases args; simp_all
  obtain ⟨rfl, rfl⟩ := trodVars_none hV
  have k0 := h0
  have lt0 : ∀ x ∈ p0, x.block < W.heap.size := by obtain ⟨m, hm⟩ := k0; exact DataW.trod_lt m _ _ _ hm
  obtain ⟨sa0, si0, ho0, nx0, x1, x2, y1, z1, y2, z2, u1, u2, rfl, ⟨f1, f2, f3⟩, ⟨f4, f5, f6⟩⟩ := open_settings (hval 0 26 v0 rfl rfl) h0
  clear hA0 hval0
  refine (anp_all sa0 si0 ho0 nx0 x1 x2 y1 z1 y2 z2 u1 u2 W f1 f4 f2 f5 f3 f6).mono fun e W' ⟨he, new⟩ => ?_
  have bel := new.below
  subst he
  exact ⟨_, rfl, _, _, _, [], _, [], hW', trodAll_mk1 (shut_bool Try.underlying4 _), (trodAll_cons_mk (Below.trod laidOut (by kernel_rfl) (of_decide_eq_true (by kernel_rfl)) k0 bel lt0) trodAll_mk0), rfl, bel.frame _, fun h => by cases h⟩

theorem anp_holds : Rows.FnExactNewPairSaid :=
  OpenClaim.holds_of_wide 3 Try.f3 rfl rfl rfl rfl rfl rfl rfl ⟨rfl, rfl, rfl, rfl, rfl⟩ rfl rfl rfl rfl rfl (by kernel_rfl) Try.func3 (by kernel_rfl)
    (of_decide_eq_true (by kernel_rfl)) (by unfold Func.isWrapper; first | (rw [if_pos (by decide +kernel)]; kernel_rfl) | (rw [if_neg (by decide +kernel)]; exact ⟨rfl, rfl⟩))
    (fun os started H enc _ => anp_lifted os started H enc)

end Go.Proofs.Ytdknalegmlpimaa
