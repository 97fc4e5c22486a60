/- What is proved here: for every node the law on SpreadNode returns true, and what came in reads as it did. No condition. -/
import Derived.Test.YtinpmbllckdmgaaK12Sq
import Derived.Deep.RegionHeld3
namespace Go.Proofs.Ytinpmbllckdmgaa
open Go.ChangeShapes Go.WideShapes Go.ChangeAt Go.RowKit
set_option linter.unusedVariables false
set_option linter.unusedSimpArgs false
set_option maxRecDepth 100000

set_option maxHeartbeats 800000 in
theorem asp_big (id : Int) (up : Bool) (ro ep su ma ot co : Int) (A : Option Addr) (n c : Nat) (V : List EkV) (w : World) (h : EkCame w A V) (hn : V.length = n) (hm : n ≤ maxLen) (hbig : 1048576 < totK V) :
    Calls Try.prog 7 #[.agg #[.int .i64 id, .bool up, .int .i64 ro, .int .i64 ep, .slice A n c, .int .i64 su, .int .i64 ma, .int .i64 ot, .int .i64 co]] w fun e w' => e = .returned (.bool true) ∧ New w w' := by
  have hw := (New.refl w).alloc (.cells #[.int .i64 id, .bool up, .int .i64 ro, .int .i64 ep, .slice A n c, .int .i64 su, .int .i64 ma, .int .i64 ot, .int .i64 co] 24)
  go_enter Try.func7, Try.ntmps7
  go_wp2_with fail
  refine (szNd_any id up ro ep su ma ot co A n c V _ (h.new hw) hn hm).mono ?_
  rintro e w1 ⟨⟨z, rfl, hz⟩, hn1⟩
  have hz0 : z < 0 := by omega
  clear hz
  go_wp2
  go_ret
  exact ⟨rfl, hw.trans hn1⟩

set_option maxHeartbeats 6400000 in
theorem asp_walk (id : Int) (up : Bool) (ro ep su ma ot co : Int) (A : Option Addr) (n c : Nat) (V : List EkV) (z1 id1 : Int) (up1 : Bool) (ro1 ep1 su1 ma1 ot1 co1 : Int) (L : List Ek) (M : List Ml) (w : World) (h : EkCame w A V) (hn : V.length = n) (hT : totK V ≤ 1048576)
    (hI : ∀ g V' W, New w W → V'.map EkV.r = V.map EkV.r → LgAt W (some ⟨g, 0, none⟩) V' → NlK V' → Calls Try.prog 36 #[.agg #[.int .i64 id, .bool up, .int .i64 ro, .int .i64 ep, .slice (some ⟨g, 0, none⟩) n n, .int .i64 su, .int .i64 ma, .int .i64 ot, .int .i64 co]] W (NrAns W z1 id1 up1 ro1 ep1 su1 ma1 ot1 co1 L M))
    (hS : ∀ g V' W, New w W → V'.map EkV.r = V.map EkV.r → LgAt W (some ⟨g, 0, none⟩) V' → NlK V' → Calls Try.prog 35 #[.agg #[.int .i64 id, .bool up, .int .i64 ro, .int .i64 ep, .slice (some ⟨g, 0, none⟩) n n, .int .i64 su, .int .i64 ma, .int .i64 ot, .int .i64 co]] W (NrAns W z1 id1 up1 ro1 ep1 su1 ma1 ot1 co1 L M))
    (hLT : ∀ U, U.map EkV.r = L → totK U ≤ 2097152) :
    Calls Try.prog 7 #[.agg #[.int .i64 id, .bool up, .int .i64 ro, .int .i64 ep, .slice A n c, .int .i64 su, .int .i64 ma, .int .i64 ot, .int .i64 co]] w fun e w' => e = .returned (.bool true) ∧ New w w' := by
  have hw := (New.refl w).alloc (.cells #[.int .i64 id, .bool up, .int .i64 ro, .int .i64 ep, .slice A n c, .int .i64 su, .int .i64 ma, .int .i64 ot, .int .i64 co] 24)
  have bA := Blk.mk w w.heap.size 24 #[.int .i64 id, .bool up, .int .i64 ro, .int .i64 ep, .slice A n c, .int .i64 su, .int .i64 ma, .int .i64 ot, .int .i64 co] rfl
  have hl := totK_len V
  have HNm : Hid (n ≤ 2097152) := by unfold Hid; omega
  have hmx : n ≤ maxLen := by unfold maxLen; omega
  clear hl
  go_enter Try.func7, Try.ntmps7
  go_wp2_with fail
  refine (szNd_any id up ro ep su ma ot co A n c V _ (h.new hw) hn hmx).mono ?_
  rintro e w1 ⟨⟨z, rfl, hz⟩, hn1⟩
  have hw1 := hw.trans hn1
  have bA1 := bA.new hn1
  clear hw bA hn1
  by_cases hz0 : z < 0
  · go_wp2
    go_ret
    exact ⟨rfl, hw1⟩
  clear hz
  have cA := bA1.cells
  go_wp2_with fail
  refine (toNd_any id up ro ep su ma ot co A n c V _ (h.new hw1) hn hT).mono ?_
  rintro e w2 ⟨g2, V2, rfl, hV2, ho2, hn2⟩
  have bA2 := bA1.new hn2
  have hw2 := hw1.trans hn2
  clear cA bA1
  go_wp2_with fail
  refine (hS g2 V2 _ hw2 hV2 ho2.lg.1 ho2.nl).mono ?_
  rintro e w3 ⟨A3, c3, U3, S3, s3, M3, rfl, hU3, hM3, hO3, hn3⟩
  have al3 := (New.refl w3).alloc (.cells #[.int .i64 z1, .int .i64 id1, .bool up1, .int .i64 ro1, .int .i64 ep1, .slice A3 L.length c3, .int .i64 su1, .int .i64 ma1, .int .i64 ot1, .int .i64 co1, .slice S3 M.length s3] 52)
  have bA3 := (bA2.new hn3).new al3
  have b3 := Blk.mk w3 w3.heap.size 52 #[.int .i64 z1, .int .i64 id1, .bool up1, .int .i64 ro1, .int .i64 ep1, .slice A3 L.length c3, .int .i64 su1, .int .i64 ma1, .int .i64 ot1, .int .i64 co1, .slice S3 M.length s3] rfl
  have hw3 := (hw2.trans hn3).trans al3
  obtain ⟨rd3, l3, q3, -⟩ := hO3.rd
  have s3r := rd3.new al3
  have lt3 : Hid (w.heap.size < w3.heap.size) := (bA2.new hn3).lt
  have sz3 : Hid ((w3.alloc (.cells #[.int .i64 z1, .int .i64 id1, .bool up1, .int .i64 ro1, .int .i64 ep1, .slice A3 L.length c3, .int .i64 su1, .int .i64 ma1, .int .i64 ot1, .int .i64 co1, .slice S3 M.length s3] 52)).heap.size = w3.heap.size + 1) := by unfold Hid; simp
  have cA := bA3.cells
  clear bA2 hn2 hn3 ho2 hO3 rd3
  go_wp2_with fail
  refine (toNd_any id up ro ep su ma ot co A n c V _ (h.new hw3) hn hT).mono ?_
  rintro e w4 ⟨g4, V4, rfl, hV4, ho4, hn4⟩
  have al4 := (New.refl w4).alloc (.cells #[.int .i64 id, .bool up, .int .i64 ro, .int .i64 ep, .slice (some ⟨g4, 0, none⟩) n n, .int .i64 su, .int .i64 ma, .int .i64 ot, .int .i64 co] 29)
  have bA4 := (bA3.new hn4).new al4
  have b34 := (b3.new hn4).new al4
  have b4 := Blk.mk w4 w4.heap.size 29 #[.int .i64 id, .bool up, .int .i64 ro, .int .i64 ep, .slice (some ⟨g4, 0, none⟩) n n, .int .i64 su, .int .i64 ma, .int .i64 ot, .int .i64 co] rfl
  have s4r := (s3r.new hn4).new al4
  have o4 := ho4.new al4
  rw [sz3.out] at o4
  have hw4 := (hw3.trans hn4).trans al4
  have lt4 : Hid (w3.heap.size < w4.heap.size) := (b3.new hn4).lt
  have sz4 : Hid ((w4.alloc (.cells #[.int .i64 id, .bool up, .int .i64 ro, .int .i64 ep, .slice (some ⟨g4, 0, none⟩) n n, .int .i64 su, .int .i64 ma, .int .i64 ot, .int .i64 co] 29)).heap.size = w4.heap.size + 1) := by unfold Hid; simp
  have cB := b4.cells
  clear cA bA3 b3 hn4 ho4 s3r al3
  go_wp2_with fail
  refine (hI g4 V4 _ hw4 hV4 o4.lg.1 o4.nl).mono ?_
  rintro e w5 ⟨A5, c5, U5, S5, s5, M5, rfl, hU5, hM5, hO5, hn5⟩
  rw [sz4.out] at hO5
  have al5 := (New.refl w5).alloc (.cells #[.int .i64 z1, .int .i64 id1, .bool up1, .int .i64 ro1, .int .i64 ep1, .slice A5 L.length c5, .int .i64 su1, .int .i64 ma1, .int .i64 ot1, .int .i64 co1, .slice S5 M.length s5] 52)
  have n5 := hn5.trans al5
  have bA5 := bA4.new n5
  have b35 := b34.new n5
  have b45 := b4.new n5
  have b5 := Blk.mk w5 w5.heap.size 52 #[.int .i64 z1, .int .i64 id1, .bool up1, .int .i64 ro1, .int .i64 ep1, .slice A5 L.length c5, .int .i64 su1, .int .i64 ma1, .int .i64 ot1, .int .i64 co1, .slice S5 M.length s5] rfl
  have s5r := s4r.new n5
  have o5 := o4.new n5
  have g5 := hO5.new al5
  have hw5 := hw4.trans n5
  have lt5 : Hid (w4.heap.size < w5.heap.size) := (b4.new hn5).lt
  obtain ⟨-, l5, q5, -⟩ := hO5.rd
  clear bA4 b34 b4 cB hn5 hO5 s4r o4 al4 n5
  have c3' := b35.cells
  have c5' := b5.cells
  go_wp2_with fail
  refine (eqNR_any z1 id1 up1 ro1 ep1 su1 ma1 ot1 co1 A5 A3 S5 S3 L.length c5 c3 M.length s5 s3 U5 U3 M5 M3 _ g5.rd.1.lg s5r.lg (hU5.trans hU3.symm) l5 ?lm g5.rd.1.sd s5r.sd (hM5.trans hM3.symm) q5).mono ?_
  case lm => have h1 := totK_len U5; have h2 := hLT U5 hU5; omega
  rintro e w6 ⟨rfl, hn6⟩
  have bA6 := bA5.new hn6
  have b36 := b35.new hn6
  have b46 := b45.new hn6
  have b56 := b5.new hn6
  have s6r := s5r.new hn6
  have o6 := o5.new hn6
  have g6 := g5.new hn6
  have hw6 := hw5.trans hn6
  have z6 := (al5.trans hn6).size
  clear bA5 b35 b45 b5 c3' c5' s5r o5 g5 al5 hn6
  have cA := bA6.cells
  have cB := b46.cells
  have cAd := (bA6.new ((New.refl _).drew)).cells
  have cBd := (b46.new ((New.refl _).drew)).cells
  go_wp2_with fail
  go_region_held3 (fun W => (∀ j, W.cell? ⟨w.heap.size, j, none⟩ = (#[.int .i64 id, .bool up, .int .i64 ro, .int .i64 ep, .slice A n c, .int .i64 su, .int .i64 ma, .int .i64 ot, .int .i64 co] : Array Value)[j]?) ∧ (∀ j, W.cell? ⟨w4.heap.size, j, none⟩ = (#[.int .i64 id, .bool up, .int .i64 ro, .int .i64 ep, .slice (some ⟨g4, 0, none⟩) n n, .int .i64 su, .int .i64 ma, .int .i64 ot, .int .i64 co] : Array Value)[j]?)) (first | exact ⟨cA, cB⟩ | exact ⟨cAd, cBd⟩ | exact ⟨cA7, cB7⟩ | exact ⟨cA8, cB8⟩)
    (first
      | (go_at_call 15; refine (toNd_any id up ro ep su ma ot co A n c V _ ?_ hn hT).mono ?_; exact (h.new hw6).new ((New.refl _).drew); rintro e w7 ⟨g7, V7, rfl, hV7, ho7, hn7⟩; have n7 : New w6 w7 := ((New.refl _).drew).trans hn7; have cA7 := (bA6.new n7).cells; have cB7 := (b46.new n7).cells)
      | (go_at_call 17; refine (eqNd_any id up ro ep su ma ot co _ _ n n n V4 V7 _ (o6.lg.1.new n7) ho7.lg.1 (hV4.trans hV7.symm) o6.lg.2 HNm.out).mono ?_; rintro e w8 ⟨rfl, hn8⟩; have n8 := n7.trans hn8; have cA8 := (bA6.new n8).cells; have cB8 := (b46.new n8).cells))
  have bA8 := bA6.new n8
  have b38 := b36.new n8
  have b48 := b46.new n8
  have b58 := b56.new n8
  have s8r := s6r.new n8
  have o8 := o6.new n8
  have g8 := g6.new n8
  have hw8 := hw6.trans n8
  have z8 := n8.size
  have hT4 : totK V4 ≤ 2097152 := by rw [totK_map V4 V hV4]; omega
  clear cA cB cAd cBd cA7 cB7 cA8 cB8 bA6 b36 b46 b56 s6r o6 g6 n8 n7 hn7 hn8 ho7 hV7
  have cB := b48.cells
  go_wp2_with fail
  refine (markNd_any id up ro ep su ma ot co _ n n _ _ 1 V4 _ o8 hT4 (by omega) (by omega)).mono ?_
  rintro e w9 ⟨rfl, -, ht9⟩
  have ek := endK_bd V4 1
  have L3 := lt3.out
  have L4 := lt4.out
  have L5 := lt5.out
  have bA9 := bA8.turn ht9 (by omega)
  have b39 := b38.turn ht9 (by omega)
  have b59 := b58.turn ht9 (by omega)
  have s9r := s8r.turn ht9 (fun k hk e => by omega)
  have g9 := g8.turn ht9 (fun k h1 h2 e => by omega)
  have hw9 : New w w9 := hw8.before ht9 (fun i hi e => by omega)
  have z9 := ht9.size
  clear bA8 b38 b48 b58 s8r o8 g8 cB ht9
  generalize endK 1 V4 = k9 at *
  have hk9 : ¬ k9 < 0 := by omega
  have c3' := b39.cells
  have c5' := b59.cells
  clear L3 L4 L5
  go_wp2_with fail
  refine (eqNR_any z1 id1 up1 ro1 ep1 su1 ma1 ot1 co1 A5 A3 S5 S3 L.length c5 c3 M.length s5 s3 U5 U3 M5 M3 _ g9.rd.1.lg s9r.lg (hU5.trans hU3.symm) l5 ?lm2 g9.rd.1.sd s9r.sd (hM5.trans hM3.symm) q5).mono ?_
  case lm2 => have h1 := totK_len U5; have h2 := hLT U5 hU5; omega
  rintro e w10 ⟨rfl, hn10⟩
  have bA10 := bA9.new hn10
  have b310 := b39.new hn10
  have b510 := b59.new hn10
  have s10r := s9r.new hn10
  have g10 := g9.new hn10
  have hw10 := hw9.trans hn10
  have z10 := hn10.size
  clear bA9 b39 b59 s9r g9 c3' c5' hn10
  have c5' := b510.cells
  go_wp2_with fail
  refine (markNR_own z1 id1 up1 ro1 ep1 su1 ma1 ot1 co1 A5 S5 L.length c5 M.length s5 _ _ U5 M5 _ g10 (hLT U5 hU5) (by omega)).mono ?_
  rintro e w11 ⟨rfl, m11, n11, ht11⟩
  have L3 := lt3.out
  have L4 := lt4.out
  have L5 := lt5.out
  have bA11 := bA10.turn ht11 (by omega)
  have b311 := b310.turn ht11 (by omega)
  have b511 := b510.turn ht11 (by omega)
  have s11r := s10r.turn ht11 (fun k hk e => by omega)
  have hw11 : New w w11 := hw10.before ht11 (fun i hi e => by omega)
  have hem := endM_bd (endK 1 U5) M5
  have hek := endK_bd U5 1
  have hlU : ∀ u ∈ U5, u.r.xs.length ≤ 1048576 := by
    obtain ⟨lo, hi, P, h1, -⟩ := g10
    exact fun u hu => (h1.path.bd u hu).2
  clear bA10 b310 b510 s10r g10 c5' ht11 L3 L4 L5
  have c5' := b511.cells
  have HE : Hid (∃ E, E = endM (endK 1 U5) M5) := ⟨_, rfl⟩
  obtain ⟨E, hE⟩ := HE.out
  have HEE : Hid (endM (endK 1 U5) M5 = E) := hE.symm
  have hE0 : ¬ E < 0 := by omega
  have hEE : (E != E) = false := by simp
  rw [HEE.out]
  clear hE hem hek
  go_wp2_with fail
  refine (heldNR_any z1 id1 up1 ro1 ep1 su1 ma1 ot1 co1 A5 S5 L.length c5 M.length s5 U5 M5 _ m11 l5 (hLT U5 hU5) hlU n11 q5).mono ?_
  rintro e w12 ⟨rfl, hn12⟩
  rw [HEE.out]
  have bA12 := bA11.new hn12
  have b312 := b311.new hn12
  have b512 := b511.new hn12
  have s12r := s11r.new hn12
  have m12 := m11.new hn12
  have n12 := n11.new hn12
  have hw12 := hw11.trans hn12
  clear bA11 b311 b511 s11r m11 n11 c5' hn12
  have cA := bA12.cells
  go_wp2_with fail
  refine (toNd_any id up ro ep su ma ot co A n c V _ (h.new hw12) hn hT).mono ?_
  rintro e w13 ⟨g13, V13, rfl, hV13, ho13, hn13⟩
  have b313 := b312.new hn13
  have b513 := b512.new hn13
  have s13r := s12r.new hn13
  have m13 := m12.new hn13
  have n13 := n12.new hn13
  have hw13 := hw12.trans hn13
  clear bA12 b312 b512 s12r m12 n12 cA hn13
  go_wp2_with fail
  refine (hI g13 V13 _ hw13 hV13 ho13.lg.1 ho13.nl).mono ?_
  rintro e w14 ⟨A9, c9, U9, S9, s9, M9, rfl, hU9, hM9, hO9, hn14⟩
  have al14 := (New.refl w14).alloc (.cells #[.int .i64 z1, .int .i64 id1, .bool up1, .int .i64 ro1, .int .i64 ep1, .slice A9 L.length c9, .int .i64 su1, .int .i64 ma1, .int .i64 ot1, .int .i64 co1, .slice S9 M.length s9] 52)
  have n14 := hn14.trans al14
  have b314 := b313.new n14
  have b514 := b513.new n14
  have b9 := Blk.mk w14 w14.heap.size 52 #[.int .i64 z1, .int .i64 id1, .bool up1, .int .i64 ro1, .int .i64 ep1, .slice A9 L.length c9, .int .i64 su1, .int .i64 ma1, .int .i64 ot1, .int .i64 co1, .slice S9 M.length s9] rfl
  have s14r := s13r.new n14
  have m14 := m13.new n14
  have q14 := n13.new n14
  have h14 := hO9.new al14
  have hw14 := hw13.trans n14
  obtain ⟨-, l9, q9, -⟩ := hO9.rd
  clear b313 b513 s13r m13 n13 ho13 hn14 hO9 n14 al14
  have c3' := b314.cells
  have c9' := b9.cells
  go_wp2_with fail
  refine (eqNR_any z1 id1 up1 ro1 ep1 su1 ma1 ot1 co1 A9 A3 S9 S3 L.length c9 c3 M.length s9 s3 U9 U3 M9 M3 _ h14.rd.1.lg s14r.lg (hU9.trans hU3.symm) l9 ?lm3 h14.rd.1.sd s14r.sd (hM9.trans hM3.symm) q9).mono ?_
  case lm3 => have h1 := totK_len U9; have h2 := hLT U9 hU9; omega
  rintro e w15 ⟨rfl, hn15⟩
  have c5' := (b514.new hn15).cells
  have m15 := m14.new hn15
  have q15 := q14.new hn15
  have hw15 := hw14.trans hn15
  clear b314 b514 b9 c3' c9' s14r h14 m14 q14
  go_wp2_with fail
  refine (heldNR_any z1 id1 up1 ro1 ep1 su1 ma1 ot1 co1 A5 S5 L.length c5 M.length s5 U5 M5 _ m15 l5 (hLT U5 hU5) hlU q15 q5).mono ?_
  rintro e w16 ⟨rfl, hn16⟩
  rw [HEE.out]
  clear m15 q15 c5'
  go_wp2
  go_ret
  exact ⟨rfl, hw15.trans hn16⟩

theorem asp_all (id : Int) (up : Bool) (ro ep su ma ot co : Int) (A : Option Addr) (n c : Nat) (V : List EkV) (w : World) (h : EkCame w A V) (hn : V.length = n) (hm : n ≤ maxLen) (b1 : I64 id) (b2 : I64 ro) (b3 : I64 ep) (b4 : I64 su) (b5 : I64 ma) (b6 : I64 ot) (b7 : I64 co) :
    Calls Try.prog 7 #[.agg #[.int .i64 id, .bool up, .int .i64 ro, .int .i64 ep, .slice A n c, .int .i64 su, .int .i64 ma, .int .i64 ot, .int .i64 co]] w fun e w' => e = .returned (.bool true) ∧ New w w' := by
  by_cases hT : totK V ≤ 1048576
  case neg => exact asp_big id up ro ep su ma ot co A n c V w h hn hm (by omega)
  have hm2 : n ≤ 2097152 := by have := totK_len V; omega
  have hl : ∀ V' : List EkV, V'.map EkV.r = V.map EkV.r → V'.length = n := by intro V' hV; have := congrArg List.length hV; simp at this; omega
  have hL0 : ∀ U : List EkV, U.map EkV.r = [] → totK U ≤ 2097152 := by intro U hU; obtain rfl : U = [] := (by simpa using hU); simp [totK]
  have hL1 : ∀ U : List EkV, U.map EkV.r = V.map EkV.r → totK U ≤ 2097152 := by intro U hU; rw [totK_map U V hU]; omega
  by_cases hf : aF up ro (nF id up ro ep su ma ot co n (V.map EkV.r)) = 0
  case neg => exact asp_walk id up ro ep su ma ot co A n c V _ 0 false 0 0 0 0 0 0 [] [] w h hn hT (fun g V' W _ hV hg hN => iSpread_f id up ro ep su ma ot co _ n n V' W hg hN (hl V' hV) hm2 _ (by rw [hV]) hf) (fun g V' W _ hV hg hN => sSpread_f id up ro ep su ma ot co _ n n V' W hg hN (hl V' hV) hm2 _ (by rw [hV]) hf) hL0
  obtain ⟨hh, -, -, hc, -⟩ := nF_ok id up ro ep su ma ot co n _ (aF_ok hf).1
  obtain ⟨o, rfl⟩ : ∃ o : Nat, ot = o := ⟨ot.toNat, by have := hc.2.2.1.1; omega⟩
  have ho2 : o ≤ n := by have := hc.2.2.1.2; omega
  by_cases ho : o < n
  · obtain ⟨en, hen⟩ : ∃ en, (V.map EkV.r)[o]? = some en := ⟨_, List.getElem?_eq_getElem (by simp; omega)⟩
    exact asp_walk id up ro ep su ma (o : Int) co A n c V 0 id up ro ep su ma (o : Int) co (V.map EkV.r) [⟨1, 1 - id, ep, (o : Int), prevE (V.map EkV.r) o, true, en⟩] w h hn hT (fun g V' W _ hV hg hN => hV ▸ iSpread_tk id up ro ep su ma o co _ n n V' W hg hN (hl V' hV) hm2 (by rw [hV]; exact hf) hh.1 ho en (by rw [hV]; exact hen)) (fun g V' W _ hV hg hN => hV ▸ sSpread_tk id up ro ep su ma o co _ n n V' W hg hN (hl V' hV) hm2 (by rw [hV]; exact hf) hh.1 ho en (by rw [hV]; exact hen)) hL1
  · exact asp_walk id up ro ep su ma (o : Int) co A n c V 0 id up ro ep su ma (o : Int) co (V.map EkV.r) [⟨1, 1 - id, ep, (o : Int), prevE (V.map EkV.r) o, false, ⟨0, 0, 0, []⟩⟩] w h hn hT (fun g V' W _ hV hg hN => hV ▸ iSpread_fk id up ro ep su ma o co _ n n V' W hg hN (hl V' hV) hm2 (by rw [hV]; exact hf) hh.1 (by omega) ho2) (fun g V' W _ hV hg hN => hV ▸ sSpread_fk id up ro ep su ma o co _ n n V' W hg hN (hl V' hV) hm2 (by rw [hV]; exact hf) hh.1 (by omega) ho2) hL1
set_option maxRecDepth 100000 in
theorem asp_lifted (os : Os) (started : os.Started) (H : Type) (enc : TypeId × Value → H) :
    ReturnsInHanded {} Try.checked os 7 .any (Rows.fnExactSpreadNodeSpec.pre6 enc Try.prog Try.f7 Rows.fnExactSpreadNodeRow.domain false) (Rows.fnExactSpreadNodeSpec.post enc Try.prog Try.f7 false true false false) := by
  refine returnsInHanded_of_change (C := Try.checked) own started (by kernel_rfl) Try.func7
    (ChangeSpec.witness6 (enc := enc) (C := Try.checked) false ⟨#[], #[.agg #[.int .i64 0, .bool false, .int .i64 0, .int .i64 0, .slice none 0 0, .int .i64 0, .int .i64 0, .int .i64 0, .int .i64 0]], []⟩ 8 (by kernel_rfl) (by kernel_rfl) (by kernel_rfl) (by kernel_rfl)) ?_
  intro W base args ds gs before hval0 hW hcnd _
  have hval : ∀ (j : Nat) t v, Try.f7.params[j]? = some t → args[j]? = some v → Value.okWide Try.prog W .any base t v := hval0
  have hW' := hW
  obtain ⟨p, q, hA0, hV, rfl, hfz, hnd⟩ := hW
  have hA : DataW.TrodAll enc Try.prog W 0 (fun _ => true) true Try.f7.params.toList args.toList ds p := hA0
  rw [Try.params7] at hA hval
  obtain ⟨v0, vs0, d0, ds0, p0, q0, hargs0, rfl, rfl, h0, r0⟩ := trodAll_cons hA
  obtain ⟨rfl, rfl, rfl⟩ := trodAll_nil r0
  obtain rfl : args = #[v0] := by cases args; simp_all
  obtain ⟨rfl, rfl⟩ := trodVars_none hV
  have k0 := h0
  have lt0 : ∀ x ∈ p0, x.block < W.heap.size := by obtain ⟨m, hm⟩ := k0; exact DataW.trod_lt m _ _ _ hm
  obtain ⟨id0, up0, ro0, ep0, su0, ma0, ot0, co0, A0, n0, c0, V0, rfl, hV0, hl0, hm0, b1, b2, b3, b4, b5, b6, b7⟩ := open_node (hval 0 24 v0 rfl rfl) h0
  clear hA0 hval0
  refine (asp_all id0 up0 ro0 ep0 su0 ma0 ot0 co0 A0 n0 c0 V0 W hV0 hl0 hm0 b1 b2 b3 b4 b5 b6 b7).mono fun e W' ⟨he, new⟩ => ?_
  have bel := new.below
  subst he
  exact ⟨_, rfl, _, _, _, [], _, [], hW', trodAll_mk1 (shut_bool Try.underlying4 _), (trodAll_cons_mk (Below.trod laidOut (by kernel_rfl) (of_decide_eq_true (by kernel_rfl)) k0 bel lt0) trodAll_mk0), rfl, bel.frame _, fun h => by cases h⟩

theorem asp_holds : Rows.FnExactSpreadNodeSaid :=
  OpenClaim.holds_of_wide 7 Try.f7 rfl rfl rfl rfl rfl rfl rfl ⟨rfl, rfl, rfl, rfl, rfl⟩ rfl rfl rfl rfl rfl (by kernel_rfl) Try.func7 (by kernel_rfl)
    (of_decide_eq_true (by kernel_rfl)) (by unfold Func.isWrapper; first | (rw [if_pos (by decide +kernel)]; kernel_rfl) | (rw [if_neg (by decide +kernel)]; exact ⟨rfl, rfl⟩))
    (fun os started H enc _ => asp_lifted os started H enc)

end Go.Proofs.Ytinpmbllckdmgaa
