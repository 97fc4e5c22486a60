/- What is proved here: for every pair and number the law on SpreadPair returns true, and the pair reads as it did. No condition. -/
import Derived.Test.YtebkdaddndlmoaaGreatLP40
import Derived.Test.YtebkdaddndlmoaaGreatLP44
import Derived.Deep.RegionHeld3
namespace Go.Proofs.YtebkdaddndlmoaaGreat
open Go.ChangeShapes Go.WideShapes Go.ChangeAt Go.RowKit Go.Deep Go.Sort
set_option linter.unusedVariables false
set_option linter.unusedSimpArgs false
set_option maxRecDepth 100000
set_option maxHeartbeats 25600000

theorem asq_walk (sa si ho nx : Int) (a1 a2 aN aW aM aS : Option Addr) (n1 c1 n2 c2 nN cN nW cW nM cM nS cS : Nat) (r1 r2 : List Ru) (LN : List NdV) (LW : List WiV) (LM : List MlV) (LS : List EkV) (nd : Int) (w : World) (h : PCame w a1 a2 aN aW aM aS n1 n2 nN nW nM nS r1 r2 LN LW LM LS) :
    Calls Tryz.prog 6 #[.agg #[.int .i64 sa, .int .i64 si, .int .i64 ho, .int .i64 nx, .slice a1 n1 c1, .slice a2 n2 c2, .slice aN nN cN, .slice aW nW cW, .slice aM nM cM, .slice aS nS cS], .int .i64 nd] w fun e w' => e = .returned (.bool true) ∧ New w w' := by
  have hw := (New.refl w).alloc (.cells #[.int .i64 sa, .int .i64 si, .int .i64 ho, .int .i64 nx, .slice a1 n1 c1, .slice a2 n2 c2, .slice aN nN cN, .slice aW nW cW, .slice aM nM cM, .slice aS nS cS] 32)
  have bA := Blk.mk w w.heap.size 32 #[.int .i64 sa, .int .i64 si, .int .i64 ho, .int .i64 nx, .slice a1 n1 c1, .slice a2 n2 c2, .slice aN nN cN, .slice aW nW cW, .slice aM nM cM, .slice aS nS cS] rfl
  go_enter Tryz.func6, Tryz.ntmps6
  go_wp2_with fail
  refine (szPair_any sa si ho nx a1 a2 aN aW aM aS n1 c1 n2 c2 nN cN nW cW nM cM nS cS r1 r2 LN LW LM LS _ (h.new hw)).mono ?_
  rintro e w1 ⟨⟨z, rfl, hz⟩, hn1⟩
  have hw1 := hw.trans hn1
  have bA1 := bA.new hn1
  clear hw bA hn1
  by_cases hz0 : z < 0
  · go_wp2
    go_ret
    exact ⟨rfl, hw1⟩
  have hs : PSm n1 n2 LN LW LM LS := by rcases hz with hz | hz; (exfalso; omega); exact hz.2
  have HT : Hid (∀ X, New w X → Calls Tryz.prog 12 #[.agg #[.int .i64 sa, .int .i64 si, .int .i64 ho, .int .i64 nx, .slice a1 n1 c1, .slice a2 n2 c2, .slice aN nN cN, .slice aW nW cW, .slice aM nM cM, .slice aS nS cS]] X fun e w' => ∃ Y, e = .returned (.agg #[.int .i64 Y.sa, .int .i64 Y.si, .int .i64 Y.ho, .int .i64 Y.nx, .slice Y.a1 Y.n1 Y.c1, .slice Y.a2 Y.n2 Y.c2, .slice Y.aN Y.nN Y.cN, .slice Y.aW Y.nW Y.cW, .slice Y.aM Y.nM Y.cM, .slice Y.aS Y.nS Y.cS]) ∧ PrE Y (P0x sa si ho nx n1 n2 nN nW nM nS r1 r2 LN LW LM LS) ∧ PrL Y ∧ GoodX Y ∧ (∃ col, PrOw w' X.heap.size w'.heap.size col Y) ∧ New X w') := fun X hX => toPrL sa si ho nx a1 a2 aN aW aM aS n1 c1 n2 c2 nN cN nW cW nM cM nS cS r1 r2 LN LW LM LS X (h.new hX) hs
  obtain ⟨P0, HP0⟩ : ∃ P0, Hid ((P0x sa si ho nx n1 n2 nN nW nM nS r1 r2 LN LW LM LS) = P0) := ⟨_, rfl⟩
  rw [HP0.out] at HT
  clear hz h hs HP0
  have cA := bA1.cells
  go_wp2_with fail
  refine (HT.out _ hw1).mono ?_
  rintro e w2 ⟨X2, rfl, e2, l2, g2, ⟨co2, o2⟩, hn2⟩
  have bA2 := bA1.new hn2
  have hw2 := hw1.trans hn2
  clear cA bA1 hn2
  go_wp2_with fail
  refine (specSpL P0 X2 nd _ _ _ _ o2 e2 l2 g2).mono ?_
  rintro e w3 ⟨z3, R3, co3, rfl, k3, o3, hn3⟩
  have K3 : Hid (GoR P0 nd (nfA (spG) P0 nd) z3 R3) := k3
  have L0 : Hid (PrL P0) := (show PrE P0 X2 from e2.symm).lim l2
  obtain ⟨q3, hq3, O3⟩ : ∃ q, q = w3.heap.size ∧ PrOw w3 0 q co3 R3 := ⟨_, rfl, o3.low (Nat.zero_le _)⟩
  have al3 := (New.refl w3).alloc (.cells #[.int .i64 z3, .slice none 0 0, .int .i64 R3.sa, .int .i64 R3.si, .int .i64 R3.ho, .int .i64 R3.nx, .slice R3.a1 R3.n1 R3.c1, .slice R3.a2 R3.n2 R3.c2, .slice R3.aN R3.nN R3.cN, .slice R3.aW R3.nW R3.cW, .slice R3.aM R3.nM R3.cM, .slice R3.aS R3.nS R3.cS] 46)
  have bA3 := (bA2.new hn3).new al3
  have b3 := Blk.mk w3 w3.heap.size 46 #[.int .i64 z3, .slice none 0 0, .int .i64 R3.sa, .int .i64 R3.si, .int .i64 R3.ho, .int .i64 R3.nx, .slice R3.a1 R3.n1 R3.c1, .slice R3.a2 R3.n2 R3.c2, .slice R3.aN R3.nN R3.cN, .slice R3.aW R3.nW R3.cW, .slice R3.aM R3.nM R3.cM, .slice R3.aS R3.nS R3.cS] rfl
  have O3' := O3.new al3
  have hw3 := (hw2.trans hn3).trans al3
  have lt3 : w.heap.size < w3.heap.size := (bA2.new hn3).lt
  have sz3 : (w3.alloc (.cells #[.int .i64 z3, .slice none 0 0, .int .i64 R3.sa, .int .i64 R3.si, .int .i64 R3.ho, .int .i64 R3.nx, .slice R3.a1 R3.n1 R3.c1, .slice R3.a2 R3.n2 R3.c2, .slice R3.aN R3.nN R3.cN, .slice R3.aW R3.nW R3.cW, .slice R3.aM R3.nM R3.cM, .slice R3.aS R3.nS R3.cS] 46)).heap.size = w3.heap.size + 1 := by simp
  have cA := bA3.cells
  clear bA2 hn3 o3 O3 k3 o2 e2 l2 g2 al3
  go_wp2_with fail
  refine (HT.out _ hw3).mono ?_
  rintro e w4 ⟨X4, rfl, e4, l4, g4, ⟨co4, o4⟩, hn4⟩
  rw [sz3] at o4
  have al4 := (New.refl w4).alloc (.cells #[.int .i64 X4.sa, .int .i64 X4.si, .int .i64 X4.ho, .int .i64 X4.nx, .slice X4.a1 X4.n1 X4.c1, .slice X4.a2 X4.n2 X4.c2, .slice X4.aN X4.nN X4.cN, .slice X4.aW X4.nW X4.cW, .slice X4.aM X4.nM X4.cM, .slice X4.aS X4.nS X4.cS] 44)
  have n4 := hn4.trans al4
  have bA4 := bA3.new n4
  have b34 := b3.new n4
  have b4 := Blk.mk w4 w4.heap.size 44 #[.int .i64 X4.sa, .int .i64 X4.si, .int .i64 X4.ho, .int .i64 X4.nx, .slice X4.a1 X4.n1 X4.c1, .slice X4.a2 X4.n2 X4.c2, .slice X4.aN X4.nN X4.cN, .slice X4.aW X4.nW X4.cW, .slice X4.aM X4.nM X4.cM, .slice X4.aS X4.nS X4.cS] rfl
  have O34 := O3'.new n4
  have O44 := o4.new al4
  have hw4 := hw3.trans n4
  have lt4 : w3.heap.size + 1 ≤ w4.heap.size := by have := hn4.size; rw [sz3] at this; exact this
  have sz4 : (w4.alloc (.cells #[.int .i64 X4.sa, .int .i64 X4.si, .int .i64 X4.ho, .int .i64 X4.nx, .slice X4.a1 X4.n1 X4.c1, .slice X4.a2 X4.n2 X4.c2, .slice X4.aN X4.nN X4.cN, .slice X4.aW X4.nW X4.cW, .slice X4.aM X4.nM X4.cM, .slice X4.aS X4.nS X4.cS] 44)).heap.size = w4.heap.size + 1 := by simp
  have cB := b4.cells
  have E4 : Hid (PrE X4 P0) := e4
  have L4 : Hid (PrL X4) := l4
  have G4 : Hid (GoodX X4) := g4
  clear cA bA3 b3 hn4 o4 O3' al4 n4 e4 l4 g4 sz3
  go_wp2_with fail
  refine (implSpL P0 X4 nd _ _ _ _ O44 E4.out L4.out G4.out).mono ?_
  rintro e w5 ⟨z5, R5, co5, rfl, k5, o5, hn5⟩
  rw [sz4] at o5
  obtain ⟨rfl, e53⟩ := k5.det K3.out
  have l5 := limSp L0.out k5
  have al5 := (New.refl w5).alloc (.cells #[.int .i64 z5, .slice none 0 0, .int .i64 R5.sa, .int .i64 R5.si, .int .i64 R5.ho, .int .i64 R5.nx, .slice R5.a1 R5.n1 R5.c1, .slice R5.a2 R5.n2 R5.c2, .slice R5.aN R5.nN R5.cN, .slice R5.aW R5.nW R5.cW, .slice R5.aM R5.nM R5.cM, .slice R5.aS R5.nS R5.cS] 46)
  have n5 := hn5.trans al5
  have bA5 := bA4.new n5
  have b35 := b34.new n5
  have b45 := b4.new n5
  have b5 := Blk.mk w5 w5.heap.size 46 #[.int .i64 z5, .slice none 0 0, .int .i64 R5.sa, .int .i64 R5.si, .int .i64 R5.ho, .int .i64 R5.nx, .slice R5.a1 R5.n1 R5.c1, .slice R5.a2 R5.n2 R5.c2, .slice R5.aN R5.nN R5.cN, .slice R5.aW R5.nW R5.cW, .slice R5.aM R5.nM R5.cM, .slice R5.aS R5.nS R5.cS] rfl
  have O35 := O34.new n5
  have O45 := O44.new n5
  have O55 := o5.new al5
  have hw5 := hw4.trans n5
  have lt5 : w4.heap.size + 1 ≤ w5.heap.size := by have := hn5.size; rw [sz4] at this; exact this
  have sz5 : (w5.alloc (.cells #[.int .i64 z5, .slice none 0 0, .int .i64 R5.sa, .int .i64 R5.si, .int .i64 R5.ho, .int .i64 R5.nx, .slice R5.a1 R5.n1 R5.c1, .slice R5.a2 R5.n2 R5.c2, .slice R5.aN R5.nN R5.cN, .slice R5.aW R5.nW R5.cW, .slice R5.aM R5.nM R5.cM, .slice R5.aS R5.nS R5.cS] 46)).heap.size = w5.heap.size + 1 := by simp
  have E5 : Hid (PrE R5 R3) := e53
  have L5 : Hid (PrL R5) := l5
  clear bA4 b34 b4 cB hn5 o5 O34 O44 al5 n5 k5 e53 l5 sz4
  have c3' := b35.cells
  have c5' := b5.cells
  go_wp2_with fail
  refine (eqPR16 z5 R5 R3 _ O55.rd O35.rd E5.out L5.out).mono ?_
  rintro e w6 ⟨rfl, hn6⟩
  have bA6 := bA5.new hn6
  have b36 := b35.new hn6
  have b46 := b45.new hn6
  have b56 := b5.new hn6
  have O36 := O35.new hn6
  have O46 := O45.new hn6
  have O56 := O55.new hn6
  have hw6 := hw5.trans hn6
  have z6 := hn6.size
  clear bA5 b35 b45 b5 c3' c5' O35 O45 O55 hn6
  have cA := bA6.cells
  have cB := b46.cells
  have cAd := (bA6.new ((New.refl _).drew)).cells
  have cBd := (b46.new ((New.refl _).drew)).cells
  go_wp2_with fail
  go_region_held3 (fun W => (∀ j, W.cell? ⟨w.heap.size, j, none⟩ = (#[.int .i64 sa, .int .i64 si, .int .i64 ho, .int .i64 nx, .slice a1 n1 c1, .slice a2 n2 c2, .slice aN nN cN, .slice aW nW cW, .slice aM nM cM, .slice aS nS cS] : Array Value)[j]?) ∧ (∀ j, W.cell? ⟨w4.heap.size, j, none⟩ = (#[.int .i64 X4.sa, .int .i64 X4.si, .int .i64 X4.ho, .int .i64 X4.nx, .slice X4.a1 X4.n1 X4.c1, .slice X4.a2 X4.n2 X4.c2, .slice X4.aN X4.nN X4.cN, .slice X4.aW X4.nW X4.cW, .slice X4.aM X4.nM X4.cM, .slice X4.aS X4.nS X4.cS] : Array Value)[j]?)) (first | exact ⟨cA, cB⟩ | exact ⟨cAd, cBd⟩ | exact ⟨cA7, cB7⟩ | exact ⟨cA8, cB8⟩)
    (first
      | (go_at_call 12; refine (HT.out _ ?_).mono ?_; exact hw6.trans ((New.refl _).drew); rintro e w7 ⟨X7, rfl, e7, l7, g7, ⟨co7, o7⟩, hn7⟩; have n7 : New w6 w7 := ((New.refl _).drew).trans hn7; have cA7 := (bA6.new n7).cells; have cB7 := (b46.new n7).cells)
      | (go_at_call 16; refine (eqPr16 X4 X7 _ (O46.new n7).rd o7.rd (E4.out.trans e7.symm) L4.out).mono ?_; rintro e w8 ⟨rfl, hn8⟩; have n8 := n7.trans hn8; have cA8 := (bA6.new n8).cells; have cB8 := (b46.new n8).cells))
  have bA8 := bA6.new n8
  have b38 := b36.new n8
  have b48 := b46.new n8
  have b58 := b56.new n8
  have O38 := O36.new n8
  have O48 := O46.new n8
  have O58 := O56.new n8
  have hw8 := hw6.trans n8
  have z8 := n8.size
  clear cA cB cAd cBd cA7 cB7 cA8 cB8 bA6 b36 b46 b56 O36 O46 O56 n8 n7 hn7 hn8 o7 e7 l7 g7
  have cB := b48.cells
  go_wp2_with fail
  refine (markPr16 X4 _ _ _ 1 _ O48 L4.out (by omega) (by omega) (by omega)).mono ?_
  rintro e w9 ⟨rfl, -, ht⟩
  have bA9 := bA8.turn ht (by omega)
  have b39 := b38.turn ht (by omega)
  have b59 := b58.turn ht (by omega)
  have O39 := O38.turn ht (by intro x h1 h2 h3; omega)
  have O59 := O58.turn ht (by intro x h1 h2 h3; omega)
  have hw9 : New w w9 := hw8.before ht (fun i hi e => by omega)
  have z9 := ht.size
  clear bA8 b38 b48 b58 O38 O48 O58 cB ht
  have hk9 : ¬ eP16 1 X4 < 0 := by have := (k16_bd L4.out (k := 1) (by omega) (by omega)).2.2.2.2; omega
  generalize eP16 1 X4 = k9 at *
  have c3' := b39.cells
  have c5' := b59.cells
  go_wp2_with fail
  refine (eqPR16 z5 R5 R3 _ O59.rd O39.rd E5.out L5.out).mono ?_
  rintro e w10 ⟨rfl, hn10⟩
  have bA10 := bA9.new hn10
  have b310 := b39.new hn10
  have b510 := b59.new hn10
  have O310 := O39.new hn10
  have O510 := O59.new hn10
  have hw10 := hw9.trans hn10
  have z10 := hn10.size
  clear bA9 b39 b59 O39 O59 c3' c5' hn10
  have c5' := b510.cells
  go_wp2_with fail
  refine (markPR16 z5 R5 _ _ _ _ O510 L5.out (by omega)).mono ?_
  rintro e w11 ⟨rfl, m11, ht⟩
  have bA11 := bA10.turn ht (by omega)
  have b311 := b310.turn ht (by omega)
  have b511 := b510.turn ht (by omega)
  have O311 := O310.turn ht (by intro x h1 h2 h3; omega)
  have hw11 : New w w11 := hw10.before ht (fun i hi e => by omega)
  have hB : Hid (PrB R5) := O510.rd.b
  clear bA10 b310 b510 O310 O510 c5' ht
  have c5' := b511.cells
  obtain ⟨E, HE⟩ : ∃ E, Hid (eP16 1 R5 = E) := ⟨_, rfl⟩
  have hE0 : ¬ E < 0 := by rw [← HE.out]; have := (k16_bd L5.out (k := 1) (by omega) (by omega)).2.2.2.2; omega
  have hEE : (E != E) = false := by simp
  rw [HE.out]
  go_wp2_with fail
  refine (heldPR16 z5 R5 _ m11 L5.out hB.out).mono ?_
  rintro e w12 ⟨rfl, hn12⟩
  rw [HE.out]
  have bA12 := bA11.new hn12
  have b312 := b311.new hn12
  have b512 := b511.new hn12
  have O312 := O311.new hn12
  have m12 := m11.new hn12
  have hw12 := hw11.trans hn12
  clear bA11 b311 b511 O311 m11 c5' hn12
  have cA := bA12.cells
  go_wp2_with fail
  refine (HT.out _ hw12).mono ?_
  rintro e w13 ⟨X13, rfl, e13, l13, g13, ⟨co13, o13⟩, hn13⟩
  have b313 := b312.new hn13
  have b513 := b512.new hn13
  have O313 := O312.new hn13
  have m13 := m12.new hn13
  have hw13 := hw12.trans hn13
  have E13 : Hid (PrE X13 P0) := e13
  have L13 : Hid (PrL X13) := l13
  have G13 : Hid (GoodX X13) := g13
  clear bA12 b312 b512 O312 m12 cA hn13 e13 l13 g13
  go_wp2_with fail
  refine (implSpL P0 X13 nd _ _ _ _ o13 E13.out L13.out G13.out).mono ?_
  rintro e w14 ⟨z14, R14, co14, rfl, k14, o14, hn14⟩
  obtain ⟨rfl, e143⟩ := K3.out.det k14
  have l14 := limSp L0.out k14
  have al14 := (New.refl w14).alloc (.cells #[.int .i64 z5, .slice none 0 0, .int .i64 R14.sa, .int .i64 R14.si, .int .i64 R14.ho, .int .i64 R14.nx, .slice R14.a1 R14.n1 R14.c1, .slice R14.a2 R14.n2 R14.c2, .slice R14.aN R14.nN R14.cN, .slice R14.aW R14.nW R14.cW, .slice R14.aM R14.nM R14.cM, .slice R14.aS R14.nS R14.cS] 46)
  have n14 := hn14.trans al14
  have b314 := b313.new n14
  have b514 := b513.new n14
  have b9 := Blk.mk w14 w14.heap.size 46 #[.int .i64 z5, .slice none 0 0, .int .i64 R14.sa, .int .i64 R14.si, .int .i64 R14.ho, .int .i64 R14.nx, .slice R14.a1 R14.n1 R14.c1, .slice R14.a2 R14.n2 R14.c2, .slice R14.aN R14.nN R14.cN, .slice R14.aW R14.nW R14.cW, .slice R14.aM R14.nM R14.cM, .slice R14.aS R14.nS R14.cS] rfl
  have O314 := O313.new n14
  have O914 := o14.new al14
  have m14 := m13.new n14
  have hw14 := hw13.trans n14
  have E9 : Hid (PrE R14 R3) := e143.symm
  have L9 : Hid (PrL R14) := l14
  clear b313 b513 O313 m13 o13 o14 hn14 n14 al14 k14 e143 l14
  have c3' := b314.cells
  have c9' := b9.cells
  go_wp2_with fail
  refine (eqPR16 z5 R14 R3 _ O914.rd O314.rd E9.out L9.out).mono ?_
  rintro e w15 ⟨rfl, hn15⟩
  have c5' := (b514.new hn15).cells
  have m15 := m14.new hn15
  have hw15 := hw14.trans hn15
  clear b314 b514 b9 c3' c9' O314 O914 m14
  go_wp2_with fail
  refine (heldPR16 z5 R5 _ m15 L5.out hB.out).mono ?_
  rintro e w16 ⟨rfl, hn16⟩
  rw [HE.out]
  clear m15 c5'
  go_wp2
  go_ret
  exact ⟨rfl, hw15.trans hn16⟩

set_option maxRecDepth 100000 in
theorem asq_lifted (os : Os) (started : os.Started) (H : Type) (enc : TypeId × Value → H) :
    ReturnsInHanded {} Tryz.checked os 6 .any (Rows.fnExactSpreadPairSpec.pre6 enc Tryz.prog Tryz.f6 Rows.fnExactSpreadPairRow.domain false) (Rows.fnExactSpreadPairSpec.post enc Tryz.prog Tryz.f6 false true false false) := by
  refine returnsInHanded_of_change (C := Tryz.checked) own started (by kernel_rfl) Tryz.func6
    (ChangeSpec.witness6 (enc := enc) (C := Tryz.checked) false ⟨#[], #[.agg #[.int .i64 0, .int .i64 0, .int .i64 0, .int .i64 0, .slice none 0 0, .slice none 0 0, .slice none 0 0, .slice none 0 0, .slice none 0 0, .slice none 0 0], .int .i64 0], []⟩ 8 (by kernel_rfl) (by kernel_rfl) (by kernel_rfl) (by kernel_rfl)) ?_
  intro W base args ds gs before hval0 hW hcnd _
  have hval : ∀ (j : Nat) t v, Tryz.f6.params[j]? = some t → args[j]? = some v → Value.okWide Tryz.prog W .any base t v := hval0
  have hW' := hW
  obtain ⟨p, q, hA0, hV, rfl, hfz, hnd⟩ := hW
  have hA : DataW.TrodAll enc Tryz.prog W 0 (fun _ => true) true Tryz.f6.params.toList args.toList ds p := hA0
  rw [Tryz.params6] at hA hval
  obtain ⟨v0, vs0, d0, ds0, p0, q0, hargs0, rfl, rfl, h0, r0⟩ := trodAll_cons hA
  obtain ⟨v1, vs1, d1, ds1, p1, q1, hargs1, rfl, rfl, h1, r1⟩ := trodAll_cons r0
  obtain ⟨rfl, rfl, rfl⟩ := trodAll_nil r1
  obtain rfl : args = #[v0, v1] := by cases args; simp_all
  obtain ⟨rfl, rfl⟩ := trodVars_none hV
  have k0 := h0
  have lt0 : ∀ x ∈ p0, x.block < W.heap.size := by obtain ⟨m, hm⟩ := k0; exact DataW.trod_lt m _ _ _ hm
  obtain ⟨sa, si, ho, nx, a1, a2, aN, aW, aM, aS, n1, c1, n2, c2, nN, cN, nW, cW, nM, cM, nS, cS, r1, r2, LN, LW, LM, LS, rfl, hP⟩ := open_pair (hval 0 32 v0 rfl rfl) h0
  obtain ⟨x1, rfl, rfl, rfl, w1⟩ := open_int Tryz.underlying2 (hval 1 2 v1 rfl rfl) h1
  clear hA0 hval0
  refine (asq_walk sa si ho nx a1 a2 aN aW aM aS n1 c1 n2 c2 nN cN nW cW nM cM nS cS r1 r2 LN LW LM LS x1 W hP).mono fun e W' ⟨he, new⟩ => ?_
  have bel := new.below
  subst he
  exact ⟨_, rfl, _, _, _, [], _, [], hW', trodAll_mk1 (shut_bool Tryz.underlying4 _), (trodAll_cons_mk (Below.trod laidOut (by kernel_rfl) (of_decide_eq_true (by kernel_rfl)) k0 bel lt0) (trodAll_cons_mk (shut_int Tryz.underlying2 w1) trodAll_mk0)), rfl, bel.frame _, fun h => by cases h⟩

theorem asq_holds : Rows.FnExactSpreadPairSaid :=
  OpenClaim.holds_of_wide 6 Tryz.f6 rfl rfl rfl rfl rfl rfl rfl ⟨rfl, rfl, rfl, rfl, rfl⟩ rfl rfl rfl rfl rfl (by kernel_rfl) Tryz.func6 (by kernel_rfl)
    (of_decide_eq_true (by kernel_rfl)) (by unfold Func.isWrapper; first | (rw [if_pos (by decide +kernel)]; kernel_rfl) | (rw [if_neg (by decide +kernel)]; exact ⟨rfl, rfl⟩))
    (fun os started H enc _ => asq_lifted os started H enc)

end Go.Proofs.YtebkdaddndlmoaaGreat
