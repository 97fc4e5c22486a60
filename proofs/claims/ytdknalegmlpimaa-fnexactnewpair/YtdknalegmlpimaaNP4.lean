/- What is proved here: what the model's NewPair answers, for settings of at most 1048576 rules each. What is proved here: what the copying, measuring, comparing and judging of an event answer, for every event of at most 1048576 bytes. What is proved here: what the copying, measuring, comparing and judging of an entry answer, for every entry of at most 1048576 bytes. What is proved here: what appending one thing to a list of the call's own leaves, whatever the things are. What is proved here: what the marking of bytes leaves and the looking for marks answers, and what the packing of a frame answers. What is proved here: what the comparing and the marking of lists of entries, and of answers with them, leave, for lists of at most 2097152 entries and bytes. What is proved here: what putting lists of bytes one behind the other answers, for lists of at most 1048576 bytes. What is proved here: what the program's copy of an entry answers, for every entry of at most 1048576 bytes. What is proved here: facts on lists of entries that a call owns. No condition. What is proved here: how an argument that is an event comes in. No condition. What is proved here: how an argument that is an entry comes in. No condition. What is proved here: what the counting and the copying of lists of entries answer, for every list of at most 1048576 entries and bytes; how a node comes in. What is proved here: what the marking of an entry leaves, for every entry of at most 4194304 bytes. What is proved here: what the counting, copying, comparing, marking and holding of a node answer, for every node of at most 1048576 entries and bytes; how a node comes in. What is proved here: what the comparing of lists of nodes answers, for every list of at most 2097152 nodes. No other condition. What is proved here: what the measuring, copying and comparing of a wire answer, for every wire of at most 1048576 bytes. What is proved here: what the comparing of lists of wires answers, for every list of at most 2097152 wires. No other condition. What is proved here: how an argument that is a rule or a list of rules comes in. No condition. What is proved here: how an argument that is a router's settings comes in. No condition. What is proved here: what the comparing of two pairs without mails and with nothing sealed answers, for every pair of at most 1048576 rules, nodes and wires. What is proved here: what can be read, is marked and held of what NewPair answers, with a code or without one, for settings of at most 1048576 rules each. -/
import Derived.Test.YtdknalegmlpimaaNP3
import Derived.Test.YtdknalegmlpimaaN9Ss
import Derived.Test.YtdknalegmlpimaaN9Ap
import Derived.Test.YtdknalegmlpimaaNP1
import Derived.Test.YtdknalegmlpimaaAp
import Derived.Maps.AppendAt
import Derived.Lib.QuietBelow
import Derived.Deep.CutRange
import Derived.Test.YtdknalegmlpimaaQB
import Derived.Lib.AppendZeros
import Derived.Lib.SmallJoins
import Derived.LoopN
import Derived.Test.YtdknalegmlpimaaOpen
import Derived.Deep.SlicePairs
import Derived.Deep.RegionHeld3
import Derived.Test.YtdknalegmlpimaaR6Law
import Derived.Test.YtdknalegmlpimaaAtOpen
import Derived.Test.YtdknalegmlpimaaG9Se
namespace Go.Proofs.Ytdknalegmlpimaa
open Go.ChangeShapes Go.WideShapes Go.ChangeAt Go.RowKit Go.Deep Go.Sort
set_option linter.unusedVariables false
set_option linter.unusedSimpArgs false

theorem badP (z : Int) (w : World) : Calls Try.prog 15 #[.int .i64 z] w fun e w' => e = .returned (.agg #[.int .i64 z, .slice none 0 0, .int .i64 0, .int .i64 0, .int .i64 0, .int .i64 0, .slice none 0 0, .slice none 0 0, .slice none 0 0, .slice none 0 0, .slice none 0 0, .slice none 0 0]) ∧ New w w' := by
  have hw := (New.refl w).alloc (.cells #[.int .i64 0, .slice none 0 0, .int .i64 0, .int .i64 0, .int .i64 0, .int .i64 0, .slice none 0 0, .slice none 0 0, .slice none 0 0, .slice none 0 0, .slice none 0 0, .slice none 0 0] 40)
  have b1 := Blk.mk w w.heap.size 40 #[.int .i64 0, .slice none 0 0, .int .i64 0, .int .i64 0, .int .i64 0, .int .i64 0, .slice none 0 0, .slice none 0 0, .slice none 0 0, .slice none 0 0, .slice none 0 0, .slice none 0 0] rfl
  have ge0 : w.heap.size ≤ w.heap.size := Nat.le_refl _
  go_enter Try.func15, Try.ntmps15
  go_upto_region 1 with fail
  generalize w.alloc (.cells #[.int .i64 0, .slice none 0 0, .int .i64 0, .int .i64 0, .int .i64 0, .int .i64 0, .slice none 0 0, .slice none 0 0, .slice none 0 0, .slice none 0 0, .slice none 0 0, .slice none 0 0] 40) = w0 at *
  have cB := b1.cells
  have fB := b1.frees
  go_wp2
  refine bodyPost_ret (v := .agg #[.int .i64 z, .slice none 0 0, .int .i64 0, .int .i64 0, .int .i64 0, .int .i64 0, .slice none 0 0, .slice none 0 0, .slice none 0 0, .slice none 0 0, .slice none 0 0, .slice none 0 0]) (by simp [results, Try.results15, go_sem, cB]) rfl ⟨rfl, ?_⟩
  simp (disch := exact ge0) only [New.set_iff, hw]

set_option maxHeartbeats 3200000 in
theorem specNP_bad (sa si ho nx : Int) (a1 a2 : Option Addr) (n1 c1 n2 c2 : Nat) (r1 r2 : List Ru) (z : Int) (w : World) (h1 : RsAt w a1 r1) (h2 : RsAt w a2 r2) (e1 : r1.length = n1) (e2 : r2.length = n2) (m1 : n1 ≤ 1048576) (m2 : n2 ≤ 1048576) (z1 : a1 = none → n1 = 0 ∧ c1 = 0) (z2 : a2 = none → n2 = 0 ∧ c2 = 0) (hz : stF sa si ho nx r1 r2 = z) (hz0 : ¬ z = 0) :
    Calls Try.prog 5 #[.agg #[.int .i64 sa, .int .i64 si, .int .i64 ho, .int .i64 nx, .slice a1 n1 c1, .slice a2 n2 c2]] w fun e w' => e = .returned (.agg #[.int .i64 z, .slice none 0 0, .int .i64 0, .int .i64 0, .int .i64 0, .int .i64 0, .slice none 0 0, .slice none 0 0, .slice none 0 0, .slice none 0 0, .slice none 0 0, .slice none 0 0]) ∧ New w w' := by
  have E1 : Hid (r1.length = n1) := e1
  have E2 : Hid (r2.length = n2) := e2
  have hw : New w ((w.alloc (.cells #[.int .i64 sa, .int .i64 si, .int .i64 ho, .int .i64 nx, .slice a1 n1 c1, .slice a2 n2 c2] 32)).alloc (.cells #[.int .i64 0, .slice none 0 0, .int .i64 0, .int .i64 0, .int .i64 0, .int .i64 0, .slice none 0 0, .slice none 0 0, .slice none 0 0, .slice none 0 0, .slice none 0 0, .slice none 0 0] 40)) := ((New.refl w).alloc _).alloc _
  have bB : Blk ((w.alloc (.cells #[.int .i64 sa, .int .i64 si, .int .i64 ho, .int .i64 nx, .slice a1 n1 c1, .slice a2 n2 c2] 32)).alloc (.cells #[.int .i64 0, .slice none 0 0, .int .i64 0, .int .i64 0, .int .i64 0, .int .i64 0, .slice none 0 0, .slice none 0 0, .slice none 0 0, .slice none 0 0, .slice none 0 0, .slice none 0 0] 40)) (w.heap.size + 1) 40 #[.int .i64 0, .slice none 0 0, .int .i64 0, .int .i64 0, .int .i64 0, .int .i64 0, .slice none 0 0, .slice none 0 0, .slice none 0 0, .slice none 0 0, .slice none 0 0, .slice none 0 0] := Blk.mk _ _ _ _ (by simp)
  have bA : Blk ((w.alloc (.cells #[.int .i64 sa, .int .i64 si, .int .i64 ho, .int .i64 nx, .slice a1 n1 c1, .slice a2 n2 c2] 32)).alloc (.cells #[.int .i64 0, .slice none 0 0, .int .i64 0, .int .i64 0, .int .i64 0, .int .i64 0, .slice none 0 0, .slice none 0 0, .slice none 0 0, .slice none 0 0, .slice none 0 0, .slice none 0 0] 40)) w.heap.size 32 #[.int .i64 sa, .int .i64 si, .int .i64 ho, .int .i64 nx, .slice a1 n1 c1, .slice a2 n2 c2] := (Blk.mk _ _ _ _ rfl).alloc _
  have ge1 : w.heap.size ≤ w.heap.size + 1 := by omega
  clear e1 e2 z1 z2
  go_enter Try.func5, Try.ntmps5
  go_upto_region 1 with fail
  generalize ((w.alloc (.cells #[.int .i64 sa, .int .i64 si, .int .i64 ho, .int .i64 nx, .slice a1 n1 c1, .slice a2 n2 c2] 32)).alloc (.cells #[.int .i64 0, .slice none 0 0, .int .i64 0, .int .i64 0, .int .i64 0, .int .i64 0, .slice none 0 0, .slice none 0 0, .slice none 0 0, .slice none 0 0, .slice none 0 0, .slice none 0 0] 40)) = w0 at *
  have cA := bA.cells
  go_wp2_with fail
  refine (specSE sa si ho nx a1 a2 n1 c1 n2 c2 r1 r2 z _ (h1.new hw) (h2.new hw) E1.out E2.out m1 m2 hz).mono ?_
  rintro e w1 ⟨rfl, hn1⟩
  clear hz cA
  go_wp2_with fail
  refine (badP z _).mono ?_
  rintro e w2 ⟨rfl, hn2⟩
  have bB1 := (bB.new hn1).new hn2
  have cB := bB1.cells
  have fB := bB1.frees
  have N1 := (hw.trans hn1).trans hn2
  go_wp2
  refine bodyPost_ret (v := .agg #[.int .i64 z, .slice none 0 0, .int .i64 0, .int .i64 0, .int .i64 0, .int .i64 0, .slice none 0 0, .slice none 0 0, .slice none 0 0, .slice none 0 0, .slice none 0 0, .slice none 0 0]) (by simp [results, Try.results5, go_sem, cB]) rfl ⟨rfl, ?_⟩
  simp (disch := exact ge1) only [New.set_iff, N1]

set_option maxRecDepth 100000 in
set_option maxHeartbeats 12800000 in
theorem specNP_ok (sa si ho nx : Int) (a1 a2 : Option Addr) (n1 c1 n2 c2 : Nat) (r1 r2 : List Ru) (w : World) (h1 : RsAt w a1 r1) (h2 : RsAt w a2 r2) (e1 : r1.length = n1) (e2 : r2.length = n2) (m1 : n1 ≤ 1048576) (m2 : n2 ≤ 1048576) (z1 : a1 = none → n1 = 0 ∧ c1 = 0) (z2 : a2 = none → n2 = 0 ∧ c2 = 0) (hz : stF sa si ho nx r1 r2 = 0) :
    Calls Try.prog 5 #[.agg #[.int .i64 sa, .int .i64 si, .int .i64 ho, .int .i64 nx, .slice a1 n1 c1, .slice a2 n2 c2]] w fun e w' => (∃ x1 d1 x2 d2 yn dn yw dw, e = .returned (.agg #[.int .i64 0, .slice none 0 0, .int .i64 sa, .int .i64 si, .int .i64 ho, .int .i64 nx, .slice x1 n1 d1, .slice x2 n2 d2, .slice yn 2 dn, .slice yw 3 dw, .slice none 0 0, .slice none 0 0]) ∧ RsAt w' x1 r1 ∧ RsAt w' x2 r2 ∧ w'.ownsRow w.heap.size 53 9 (.slice yn 2 dn) 2 nz2 ∧ w'.ownsRow w.heap.size 55 4 (.slice yw 3 dw) 3 wz3) ∧ New w w' := by
  obtain ⟨iW, hiW, hzW0, hzW1, hzW2⟩ := info_parts Try.infoWiP
  obtain ⟨iN, hiN, hzN0, hzN1, hzN2⟩ := info_parts Try.infoNdP
  have E1 : Hid (r1.length = n1) := e1
  have E2 : Hid (r2.length = n2) := e2
  have Z1 : Hid (a1 = none → n1 = 0 ∧ c1 = 0) := z1
  have Z2 : Hid (a2 = none → n2 = 0 ∧ c2 = 0) := z2
  have hw : New w ((w.alloc (.cells #[.int .i64 sa, .int .i64 si, .int .i64 ho, .int .i64 nx, .slice a1 n1 c1, .slice a2 n2 c2] 32)).alloc (.cells #[.int .i64 0, .slice none 0 0, .int .i64 0, .int .i64 0, .int .i64 0, .int .i64 0, .slice none 0 0, .slice none 0 0, .slice none 0 0, .slice none 0 0, .slice none 0 0, .slice none 0 0] 40)) := ((New.refl w).alloc _).alloc _
  have bB : Blk ((w.alloc (.cells #[.int .i64 sa, .int .i64 si, .int .i64 ho, .int .i64 nx, .slice a1 n1 c1, .slice a2 n2 c2] 32)).alloc (.cells #[.int .i64 0, .slice none 0 0, .int .i64 0, .int .i64 0, .int .i64 0, .int .i64 0, .slice none 0 0, .slice none 0 0, .slice none 0 0, .slice none 0 0, .slice none 0 0, .slice none 0 0] 40)) (w.heap.size + 1) 40 #[.int .i64 0, .slice none 0 0, .int .i64 0, .int .i64 0, .int .i64 0, .int .i64 0, .slice none 0 0, .slice none 0 0, .slice none 0 0, .slice none 0 0, .slice none 0 0, .slice none 0 0] := Blk.mk _ _ _ _ (by simp)
  have bA : Blk ((w.alloc (.cells #[.int .i64 sa, .int .i64 si, .int .i64 ho, .int .i64 nx, .slice a1 n1 c1, .slice a2 n2 c2] 32)).alloc (.cells #[.int .i64 0, .slice none 0 0, .int .i64 0, .int .i64 0, .int .i64 0, .int .i64 0, .slice none 0 0, .slice none 0 0, .slice none 0 0, .slice none 0 0, .slice none 0 0, .slice none 0 0] 40)) w.heap.size 32 #[.int .i64 sa, .int .i64 si, .int .i64 ho, .int .i64 nx, .slice a1 n1 c1, .slice a2 n2 c2] := (Blk.mk _ _ _ _ rfl).alloc _
  clear e1 e2 z1 z2
  go_enter Try.func5, Try.ntmps5
  go_upto_region 1 with fail
  generalize ((w.alloc (.cells #[.int .i64 sa, .int .i64 si, .int .i64 ho, .int .i64 nx, .slice a1 n1 c1, .slice a2 n2 c2] 32)).alloc (.cells #[.int .i64 0, .slice none 0 0, .int .i64 0, .int .i64 0, .int .i64 0, .int .i64 0, .slice none 0 0, .slice none 0 0, .slice none 0 0, .slice none 0 0, .slice none 0 0, .slice none 0 0] 40)) = w0 at *
  have cA := bA.cells
  go_wp2_with fail
  refine (specSE sa si ho nx a1 a2 n1 c1 n2 c2 r1 r2 0 _ (h1.new hw) (h2.new hw) E1.out E2.out m1 m2 hz).mono ?_
  rintro e w1 ⟨rfl, hn1⟩
  have bA1 := bA.new hn1
  have hw1 := hw.trans hn1
  clear hz cA
  have cA := bA1.cells
  go_wp2_with fail
  refine (specSe9 sa si ho nx a1 a2 n1 c1 n2 c2 r1 r2 _ (h1.new hw1) (h2.new hw1) E1.out E2.out m1 m2 Z1.out Z2.out).mono ?_
  rintro e w2 ⟨x1, d1, x2, d2, rfl, oA, oB, hn2⟩
  have al := (New.refl w2).alloc (.cells #[.int .i64 sa, .int .i64 si, .int .i64 ho, .int .i64 nx, .slice x1 n1 d1, .slice x2 n2 d2, .slice none 0 0, .slice none 0 0, .slice none 0 0, .slice none 0 0] 38)
  have fV0 := Blk.mk w2 w2.heap.size 38 #[.int .i64 sa, .int .i64 si, .int .i64 ho, .int .i64 nx, .slice x1 n1 d1, .slice x2 n2 d2, .slice none 0 0, .slice none 0 0, .slice none 0 0, .slice none 0 0] rfl
  have o1V0 := (oA.low (lo' := w.heap.size) (by have := hw1.size; omega)).new al
  have o2V0 := (oB.low (lo' := w.heap.size) (by have := hw1.size; omega)).new al
  have nV0 := (hw1.trans hn2).trans al
  have bBV0 := ((bB.new hn1).new hn2).new al
  have hB2 : w.heap.size + 2 ≤ w2.heap.size := by have := ((bB.new hn1).new hn2).lt; omega
  have zB : Hid (w.heap.size ≤ w2.heap.size) := by unfold Hid; omega
  clear cA bA1 bA bB hn1 hn2 hw oA oB
  go_upto_region 5 with fail
  generalize w2.alloc (.cells #[.int .i64 sa, .int .i64 si, .int .i64 ho, .int .i64 nx, .slice x1 n1 d1, .slice x2 n2 d2, .slice none 0 0, .slice none 0 0, .slice none 0 0, .slice none 0 0] 38) = V0 at *
  clear al
  obtain ⟨B, hBB⟩ : ∃ B, Hid (w2.heap.size = B) := ⟨_, rfl⟩
  rw [hBB.out] at fV0 hB2 zB ⊢
  have onV0 : V0.ownsRow w.heap.size 53 9 (.slice none 0 0) 0 [] := ⟨rfl, .inl ⟨rfl, rfl⟩⟩
  have owV0 : V0.ownsRow w.heap.size 55 4 (.slice none 0 0) 0 [] := ⟨rfl, .inl ⟨rfl, rfl⟩⟩
  clear hw1 hBB
  go_wp2_with fail
  refine wp_loop_rounds 3 ?_
  rw [rounds_succ]
  have al : New V0 (V0.alloc (.cells #[.int .i64 0, .bool true, .int .i64 0, .int .i64 0, .slice none 0 0, .int .i64 0, .int .i64 0, .int .i64 0, .int .i64 0] 53)) := (New.refl V0).alloc _
  have cS := (Blk.mk V0 V0.heap.size 53 #[.int .i64 0, .bool true, .int .i64 0, .int .i64 0, .slice none 0 0, .int .i64 0, .int .i64 0, .int .i64 0, .int .i64 0] rfl).cells
  have ba : Hid (w.heap.size ≤ (V0.alloc (.cells #[.int .i64 0, .bool true, .int .i64 0, .int .i64 0, .slice none 0 0, .int .i64 0, .int .i64 0, .int .i64 0, .int .i64 0] 53)).heap.size) := (nV0.trans al).size
  have cF := fV0.cells
  go_wp2_with (at_builtin; refine wpList_apV _ rfl (.tmp 21) (.tmp 24) rfl w.heap.size 9 88 (.agg #[.int .i64 0, .bool false, .int .i64 0, .int .i64 0, .slice none 0 0, .int .i64 0, .int .i64 0, .int .i64 0, .int .i64 0]) Try.underlying33 hiN hzN0 hzN1 hzN2 rfl (by omega) (by omega) (Value.slice none 0 0) 0 [] rfl (row9_new onV0 al) V0.heap.size [Value.int .i64 0, .bool true, .int .i64 0, .int .i64 0, .slice none 0 0, .int .i64 0, .int .i64 0, .int .i64 0, .int .i64 0] rfl (by simp [Value.oneCell']) rfl (by intro j u hu; rw [cS j, List.getElem?_toArray]; exact hu) (by omega) ba.out ?_)
  intro vV1 V1 oo gg _
  have onV1 : V1.ownsRow w.heap.size 53 9 vV1 1 [Value.int .i64 0, .bool true, .int .i64 0, .int .i64 0, .slice none 0 0, .int .i64 0, .int .i64 0, .int .i64 0, .int .i64 0] := oo
  have rw' := row9_new onV0 al
  have tt : Turn (fun k => ((Value.slice none 0 0)).ownBlock = some k) (V0.alloc (.cells #[.int .i64 0, .bool true, .int .i64 0, .int .i64 0, .slice none 0 0, .int .i64 0, .int .i64 0, .int .i64 0, .int .i64 0] 53)) V1 := ⟨gg.os, gg.tape, gg.output, gg.size, fun k hk hs => gg.block k hk (fun x => hs x.symm)⟩
  have nV1 := (nV0.trans al).before tt (by intro j hj x; have := (rng_of rw' j x).1; omega)
  have fV1 := (fV0.new al).turn tt (fun x => ne_blk rw' (fV0.new al) (by decide) x)
  have bBV1 := (bBV0.new al).turn tt (fun x => ne_blk rw' (bBV0.new al) (by decide) x)
  have o1V1 := (o1V0.new al).turn tt (fun j hj x => ne_row rw' (ov_row (o1V0.new al)) (by decide) j x hj)
  have o2V1 := (o2V0.new al).turn tt (fun j hj x => ne_row rw' (ov_row (o2V0.new al)) (by decide) j x hj)
  have owV1 := row9_turn (row9_new owV0 al) tt (fun j hj x => ne_row rw' (row9_new owV0 al) (by decide) j x hj)
  clear oo gg tt rw' al cS ba cF nV0 fV0 o1V0 o2V0 onV0 owV0 bBV0
  obtain ⟨yV1, zV1, hv, -, -⟩ := row9_form onV1
  subst hv
  have cF := fV1.cells
  have fF := fV1.frees
  have tS := (Turn.refl (fun i => i = B) V1).set (p := ⟨B, 6, none⟩) rfl (.slice yV1 1 zV1)
  have fG1 : Blk (V1.setCell ⟨B, 6, none⟩ (.slice yV1 1 zV1)) B 38 #[.int .i64 sa, .int .i64 si, .int .i64 ho, .int .i64 nx, .slice x1 n1 d1, .slice x2 n2 d2, .slice yV1 1 zV1, .slice none 0 0, .slice none 0 0, .slice none 0 0] := fV1.set 6 (.slice yV1 1 zV1)
  have nG1 := nV1.before tS (by intro j hj x; omega)
  have bBG1 := bBV1.turn tS (by omega)
  have o1G1 := o1V1.turn tS (fun j hj x => ne_blk' o1V1 fV1 (by decide) (x ▸ hj))
  have o2G1 := o2V1.turn tS (fun j hj x => ne_blk' o2V1 fV1 (by decide) (x ▸ hj))
  have owG1 := row9_turn owV1 tS (fun j hj x => ne_blk owV1 fV1 (by decide) (x ▸ hj))
  have onG1 := row9_turn onV1 tS (fun j hj x => ne_blk onV1 fV1 (by decide) (x ▸ hj))
  go_upto_region 7 with fail
  generalize V1.setCell ⟨B, 6, none⟩ (.slice yV1 1 zV1) = G1 at *
  clear tS cF fF nV1 fV1 o1V1 o2V1 onV1 owV1 bBV1
  go_wp2_with fail
  rw [rounds_succ]
  have al : New G1 (G1.alloc (.cells #[.int .i64 1, .bool true, .int .i64 0, .int .i64 0, .slice none 0 0, .int .i64 0, .int .i64 0, .int .i64 0, .int .i64 0] 53)) := (New.refl G1).alloc _
  have cS := (Blk.mk G1 G1.heap.size 53 #[.int .i64 1, .bool true, .int .i64 0, .int .i64 0, .slice none 0 0, .int .i64 0, .int .i64 0, .int .i64 0, .int .i64 0] rfl).cells
  have ba : Hid (w.heap.size ≤ (G1.alloc (.cells #[.int .i64 1, .bool true, .int .i64 0, .int .i64 0, .slice none 0 0, .int .i64 0, .int .i64 0, .int .i64 0, .int .i64 0] 53)).heap.size) := (nG1.trans al).size
  have cF := fG1.cells
  go_wp2_with (at_builtin; refine wpList_apV _ rfl (.tmp 21) (.tmp 24) rfl w.heap.size 9 88 (.agg #[.int .i64 0, .bool false, .int .i64 0, .int .i64 0, .slice none 0 0, .int .i64 0, .int .i64 0, .int .i64 0, .int .i64 0]) Try.underlying33 hiN hzN0 hzN1 hzN2 rfl (by omega) (by omega) (Value.slice yV1 1 zV1) 1 [Value.int .i64 0, .bool true, .int .i64 0, .int .i64 0, .slice none 0 0, .int .i64 0, .int .i64 0, .int .i64 0, .int .i64 0] rfl (row9_new onG1 al) G1.heap.size [Value.int .i64 1, .bool true, .int .i64 0, .int .i64 0, .slice none 0 0, .int .i64 0, .int .i64 0, .int .i64 0, .int .i64 0] rfl (by simp [Value.oneCell']) rfl (by intro j u hu; rw [cS j, List.getElem?_toArray]; exact hu) (by omega) ba.out ?_)
  intro vV2 V2 oo gg _
  have onV2 : V2.ownsRow w.heap.size 53 9 vV2 2 [Value.int .i64 0, .bool true, .int .i64 0, .int .i64 0, .slice none 0 0, .int .i64 0, .int .i64 0, .int .i64 0, .int .i64 0, .int .i64 1, .bool true, .int .i64 0, .int .i64 0, .slice none 0 0, .int .i64 0, .int .i64 0, .int .i64 0, .int .i64 0] := oo
  have rw' := row9_new onG1 al
  have tt : Turn (fun k => ((Value.slice yV1 1 zV1)).ownBlock = some k) (G1.alloc (.cells #[.int .i64 1, .bool true, .int .i64 0, .int .i64 0, .slice none 0 0, .int .i64 0, .int .i64 0, .int .i64 0, .int .i64 0] 53)) V2 := ⟨gg.os, gg.tape, gg.output, gg.size, fun k hk hs => gg.block k hk (fun x => hs x.symm)⟩
  have nV2 := (nG1.trans al).before tt (by intro j hj x; have := (rng_of rw' j x).1; omega)
  have fV2 := (fG1.new al).turn tt (fun x => ne_blk rw' (fG1.new al) (by decide) x)
  have bBV2 := (bBG1.new al).turn tt (fun x => ne_blk rw' (bBG1.new al) (by decide) x)
  have o1V2 := (o1G1.new al).turn tt (fun j hj x => ne_row rw' (ov_row (o1G1.new al)) (by decide) j x hj)
  have o2V2 := (o2G1.new al).turn tt (fun j hj x => ne_row rw' (ov_row (o2G1.new al)) (by decide) j x hj)
  have owV2 := row9_turn (row9_new owG1 al) tt (fun j hj x => ne_row rw' (row9_new owG1 al) (by decide) j x hj)
  clear oo gg tt rw' al cS ba cF nG1 fG1 o1G1 o2G1 onG1 owG1 bBG1
  obtain ⟨yV2, zV2, hv, -, -⟩ := row9_form onV2
  subst hv
  have cF := fV2.cells
  have fF := fV2.frees
  have tS := (Turn.refl (fun i => i = B) V2).set (p := ⟨B, 6, none⟩) rfl (.slice yV2 2 zV2)
  have fG2 : Blk (V2.setCell ⟨B, 6, none⟩ (.slice yV2 2 zV2)) B 38 #[.int .i64 sa, .int .i64 si, .int .i64 ho, .int .i64 nx, .slice x1 n1 d1, .slice x2 n2 d2, .slice yV2 2 zV2, .slice none 0 0, .slice none 0 0, .slice none 0 0] := fV2.set 6 (.slice yV2 2 zV2)
  have nG2 := nV2.before tS (by intro j hj x; omega)
  have bBG2 := bBV2.turn tS (by omega)
  have o1G2 := o1V2.turn tS (fun j hj x => ne_blk' o1V2 fV2 (by decide) (x ▸ hj))
  have o2G2 := o2V2.turn tS (fun j hj x => ne_blk' o2V2 fV2 (by decide) (x ▸ hj))
  have owG2 := row9_turn owV2 tS (fun j hj x => ne_blk owV2 fV2 (by decide) (x ▸ hj))
  have onG2 := row9_turn onV2 tS (fun j hj x => ne_blk onV2 fV2 (by decide) (x ▸ hj))
  go_upto_region 7 with fail
  generalize V2.setCell ⟨B, 6, none⟩ (.slice yV2 2 zV2) = G2 at *
  clear tS cF fF nV2 fV2 o1V2 o2V2 onV2 owV2 bBV2
  go_wp2_with fail
  rw [rounds_succ]
  have cF := fG2.cells
  go_wp2_with fail
  clear cF
  refine wp_loop_rounds 4 ?_
  rw [rounds_succ]
  have al : New G2 (G2.alloc (.cells #[.int .i64 0, .slice none 0 0, .int .i64 0, .slice none 0 0] 55)) := (New.refl G2).alloc _
  have cS := (Blk.mk G2 G2.heap.size 55 #[.int .i64 0, .slice none 0 0, .int .i64 0, .slice none 0 0] rfl).cells
  have ba : Hid (w.heap.size ≤ (G2.alloc (.cells #[.int .i64 0, .slice none 0 0, .int .i64 0, .slice none 0 0] 55)).heap.size) := (nG2.trans al).size
  have cF := fG2.cells
  go_wp2_with (at_builtin; refine wpList_apV _ rfl (.tmp 32) (.tmp 34) rfl w.heap.size 4 64 (.agg #[.int .i64 0, .slice none 0 0, .int .i64 0, .slice none 0 0]) Try.underlying34 hiW hzW0 hzW1 hzW2 rfl (by omega) (by omega) (Value.slice none 0 0) 0 [] rfl (row9_new owG2 al) G2.heap.size [Value.int .i64 0, .slice none 0 0, .int .i64 0, .slice none 0 0] rfl (by simp [Value.oneCell']) rfl (by intro j u hu; rw [cS j, List.getElem?_toArray]; exact hu) (by omega) ba.out ?_)
  intro vV3 V3 oo gg _
  have owV3 : V3.ownsRow w.heap.size 55 4 vV3 1 [Value.int .i64 0, .slice none 0 0, .int .i64 0, .slice none 0 0] := oo
  have rw' := row9_new owG2 al
  have tt : Turn (fun k => ((Value.slice none 0 0)).ownBlock = some k) (G2.alloc (.cells #[.int .i64 0, .slice none 0 0, .int .i64 0, .slice none 0 0] 55)) V3 := ⟨gg.os, gg.tape, gg.output, gg.size, fun k hk hs => gg.block k hk (fun x => hs x.symm)⟩
  have nV3 := (nG2.trans al).before tt (by intro j hj x; have := (rng_of rw' j x).1; omega)
  have fV3 := (fG2.new al).turn tt (fun x => ne_blk rw' (fG2.new al) (by decide) x)
  have bBV3 := (bBG2.new al).turn tt (fun x => ne_blk rw' (bBG2.new al) (by decide) x)
  have o1V3 := (o1G2.new al).turn tt (fun j hj x => ne_row rw' (ov_row (o1G2.new al)) (by decide) j x hj)
  have o2V3 := (o2G2.new al).turn tt (fun j hj x => ne_row rw' (ov_row (o2G2.new al)) (by decide) j x hj)
  have onV3 := row9_turn (row9_new onG2 al) tt (fun j hj x => ne_row rw' (row9_new onG2 al) (by decide) j x hj)
  clear oo gg tt rw' al cS ba cF nG2 fG2 o1G2 o2G2 onG2 owG2 bBG2
  obtain ⟨yV3, zV3, hv, -, -⟩ := row9_form owV3
  subst hv
  have cF := fV3.cells
  have fF := fV3.frees
  have tS := (Turn.refl (fun i => i = B) V3).set (p := ⟨B, 7, none⟩) rfl (.slice yV3 1 zV3)
  have fG3 : Blk (V3.setCell ⟨B, 7, none⟩ (.slice yV3 1 zV3)) B 38 #[.int .i64 sa, .int .i64 si, .int .i64 ho, .int .i64 nx, .slice x1 n1 d1, .slice x2 n2 d2, .slice yV2 2 zV2, .slice yV3 1 zV3, .slice none 0 0, .slice none 0 0] := fV3.set 7 (.slice yV3 1 zV3)
  have nG3 := nV3.before tS (by intro j hj x; omega)
  have bBG3 := bBV3.turn tS (by omega)
  have o1G3 := o1V3.turn tS (fun j hj x => ne_blk' o1V3 fV3 (by decide) (x ▸ hj))
  have o2G3 := o2V3.turn tS (fun j hj x => ne_blk' o2V3 fV3 (by decide) (x ▸ hj))
  have owG3 := row9_turn owV3 tS (fun j hj x => ne_blk owV3 fV3 (by decide) (x ▸ hj))
  have onG3 := row9_turn onV3 tS (fun j hj x => ne_blk onV3 fV3 (by decide) (x ▸ hj))
  go_upto_region 11 with fail
  generalize V3.setCell ⟨B, 7, none⟩ (.slice yV3 1 zV3) = G3 at *
  clear tS cF fF nV3 fV3 o1V3 o2V3 onV3 owV3 bBV3
  go_wp2_with fail
  rw [rounds_succ]
  have al : New G3 (G3.alloc (.cells #[.int .i64 0, .slice none 0 0, .int .i64 0, .slice none 0 0] 55)) := (New.refl G3).alloc _
  have cS := (Blk.mk G3 G3.heap.size 55 #[.int .i64 0, .slice none 0 0, .int .i64 0, .slice none 0 0] rfl).cells
  have ba : Hid (w.heap.size ≤ (G3.alloc (.cells #[.int .i64 0, .slice none 0 0, .int .i64 0, .slice none 0 0] 55)).heap.size) := (nG3.trans al).size
  have cF := fG3.cells
  go_wp2_with (at_builtin; refine wpList_apV _ rfl (.tmp 32) (.tmp 34) rfl w.heap.size 4 64 (.agg #[.int .i64 0, .slice none 0 0, .int .i64 0, .slice none 0 0]) Try.underlying34 hiW hzW0 hzW1 hzW2 rfl (by omega) (by omega) (Value.slice yV3 1 zV3) 1 [Value.int .i64 0, .slice none 0 0, .int .i64 0, .slice none 0 0] rfl (row9_new owG3 al) G3.heap.size [Value.int .i64 0, .slice none 0 0, .int .i64 0, .slice none 0 0] rfl (by simp [Value.oneCell']) rfl (by intro j u hu; rw [cS j, List.getElem?_toArray]; exact hu) (by omega) ba.out ?_)
  intro vV4 V4 oo gg _
  have owV4 : V4.ownsRow w.heap.size 55 4 vV4 2 [Value.int .i64 0, .slice none 0 0, .int .i64 0, .slice none 0 0, .int .i64 0, .slice none 0 0, .int .i64 0, .slice none 0 0] := oo
  have rw' := row9_new owG3 al
  have tt : Turn (fun k => ((Value.slice yV3 1 zV3)).ownBlock = some k) (G3.alloc (.cells #[.int .i64 0, .slice none 0 0, .int .i64 0, .slice none 0 0] 55)) V4 := ⟨gg.os, gg.tape, gg.output, gg.size, fun k hk hs => gg.block k hk (fun x => hs x.symm)⟩
  have nV4 := (nG3.trans al).before tt (by intro j hj x; have := (rng_of rw' j x).1; omega)
  have fV4 := (fG3.new al).turn tt (fun x => ne_blk rw' (fG3.new al) (by decide) x)
  have bBV4 := (bBG3.new al).turn tt (fun x => ne_blk rw' (bBG3.new al) (by decide) x)
  have o1V4 := (o1G3.new al).turn tt (fun j hj x => ne_row rw' (ov_row (o1G3.new al)) (by decide) j x hj)
  have o2V4 := (o2G3.new al).turn tt (fun j hj x => ne_row rw' (ov_row (o2G3.new al)) (by decide) j x hj)
  have onV4 := row9_turn (row9_new onG3 al) tt (fun j hj x => ne_row rw' (row9_new onG3 al) (by decide) j x hj)
  clear oo gg tt rw' al cS ba cF nG3 fG3 o1G3 o2G3 onG3 owG3 bBG3
  obtain ⟨yV4, zV4, hv, -, -⟩ := row9_form owV4
  subst hv
  have cF := fV4.cells
  have fF := fV4.frees
  have tS := (Turn.refl (fun i => i = B) V4).set (p := ⟨B, 7, none⟩) rfl (.slice yV4 2 zV4)
  have fG4 : Blk (V4.setCell ⟨B, 7, none⟩ (.slice yV4 2 zV4)) B 38 #[.int .i64 sa, .int .i64 si, .int .i64 ho, .int .i64 nx, .slice x1 n1 d1, .slice x2 n2 d2, .slice yV2 2 zV2, .slice yV4 2 zV4, .slice none 0 0, .slice none 0 0] := fV4.set 7 (.slice yV4 2 zV4)
  have nG4 := nV4.before tS (by intro j hj x; omega)
  have bBG4 := bBV4.turn tS (by omega)
  have o1G4 := o1V4.turn tS (fun j hj x => ne_blk' o1V4 fV4 (by decide) (x ▸ hj))
  have o2G4 := o2V4.turn tS (fun j hj x => ne_blk' o2V4 fV4 (by decide) (x ▸ hj))
  have owG4 := row9_turn owV4 tS (fun j hj x => ne_blk owV4 fV4 (by decide) (x ▸ hj))
  have onG4 := row9_turn onV4 tS (fun j hj x => ne_blk onV4 fV4 (by decide) (x ▸ hj))
  go_upto_region 11 with fail
  generalize V4.setCell ⟨B, 7, none⟩ (.slice yV4 2 zV4) = G4 at *
  clear tS cF fF nV4 fV4 o1V4 o2V4 onV4 owV4 bBV4
  go_wp2_with fail
  rw [rounds_succ]
  have al : New G4 (G4.alloc (.cells #[.int .i64 0, .slice none 0 0, .int .i64 0, .slice none 0 0] 55)) := (New.refl G4).alloc _
  have cS := (Blk.mk G4 G4.heap.size 55 #[.int .i64 0, .slice none 0 0, .int .i64 0, .slice none 0 0] rfl).cells
  have ba : Hid (w.heap.size ≤ (G4.alloc (.cells #[.int .i64 0, .slice none 0 0, .int .i64 0, .slice none 0 0] 55)).heap.size) := (nG4.trans al).size
  have cF := fG4.cells
  go_wp2_with (at_builtin; refine wpList_apV _ rfl (.tmp 32) (.tmp 34) rfl w.heap.size 4 64 (.agg #[.int .i64 0, .slice none 0 0, .int .i64 0, .slice none 0 0]) Try.underlying34 hiW hzW0 hzW1 hzW2 rfl (by omega) (by omega) (Value.slice yV4 2 zV4) 2 [Value.int .i64 0, .slice none 0 0, .int .i64 0, .slice none 0 0, .int .i64 0, .slice none 0 0, .int .i64 0, .slice none 0 0] rfl (row9_new owG4 al) G4.heap.size [Value.int .i64 0, .slice none 0 0, .int .i64 0, .slice none 0 0] rfl (by simp [Value.oneCell']) rfl (by intro j u hu; rw [cS j, List.getElem?_toArray]; exact hu) (by omega) ba.out ?_)
  intro vV5 V5 oo gg _
  have owV5 : V5.ownsRow w.heap.size 55 4 vV5 3 [Value.int .i64 0, .slice none 0 0, .int .i64 0, .slice none 0 0, .int .i64 0, .slice none 0 0, .int .i64 0, .slice none 0 0, .int .i64 0, .slice none 0 0, .int .i64 0, .slice none 0 0] := oo
  have rw' := row9_new owG4 al
  have tt : Turn (fun k => ((Value.slice yV4 2 zV4)).ownBlock = some k) (G4.alloc (.cells #[.int .i64 0, .slice none 0 0, .int .i64 0, .slice none 0 0] 55)) V5 := ⟨gg.os, gg.tape, gg.output, gg.size, fun k hk hs => gg.block k hk (fun x => hs x.symm)⟩
  have nV5 := (nG4.trans al).before tt (by intro j hj x; have := (rng_of rw' j x).1; omega)
  have fV5 := (fG4.new al).turn tt (fun x => ne_blk rw' (fG4.new al) (by decide) x)
  have bBV5 := (bBG4.new al).turn tt (fun x => ne_blk rw' (bBG4.new al) (by decide) x)
  have o1V5 := (o1G4.new al).turn tt (fun j hj x => ne_row rw' (ov_row (o1G4.new al)) (by decide) j x hj)
  have o2V5 := (o2G4.new al).turn tt (fun j hj x => ne_row rw' (ov_row (o2G4.new al)) (by decide) j x hj)
  have onV5 := row9_turn (row9_new onG4 al) tt (fun j hj x => ne_row rw' (row9_new onG4 al) (by decide) j x hj)
  clear oo gg tt rw' al cS ba cF nG4 fG4 o1G4 o2G4 onG4 owG4 bBG4
  obtain ⟨yV5, zV5, hv, -, -⟩ := row9_form owV5
  subst hv
  have cF := fV5.cells
  have fF := fV5.frees
  have tS := (Turn.refl (fun i => i = B) V5).set (p := ⟨B, 7, none⟩) rfl (.slice yV5 3 zV5)
  have fG5 : Blk (V5.setCell ⟨B, 7, none⟩ (.slice yV5 3 zV5)) B 38 #[.int .i64 sa, .int .i64 si, .int .i64 ho, .int .i64 nx, .slice x1 n1 d1, .slice x2 n2 d2, .slice yV2 2 zV2, .slice yV5 3 zV5, .slice none 0 0, .slice none 0 0] := fV5.set 7 (.slice yV5 3 zV5)
  have nG5 := nV5.before tS (by intro j hj x; omega)
  have bBG5 := bBV5.turn tS (by omega)
  have o1G5 := o1V5.turn tS (fun j hj x => ne_blk' o1V5 fV5 (by decide) (x ▸ hj))
  have o2G5 := o2V5.turn tS (fun j hj x => ne_blk' o2V5 fV5 (by decide) (x ▸ hj))
  have owG5 := row9_turn owV5 tS (fun j hj x => ne_blk owV5 fV5 (by decide) (x ▸ hj))
  have onG5 := row9_turn onV5 tS (fun j hj x => ne_blk onV5 fV5 (by decide) (x ▸ hj))
  go_upto_region 11 with fail
  generalize V5.setCell ⟨B, 7, none⟩ (.slice yV5 3 zV5) = G5 at *
  clear tS cF fF nV5 fV5 o1V5 o2V5 onV5 owV5 bBV5
  go_wp2_with fail
  rw [rounds_succ]
  have cB := bBG5.cells
  have fB := bBG5.frees
  have cF := fG5.cells
  have ge1 : w.heap.size ≤ w.heap.size + 1 := by omega
  go_wp2
  refine bodyPost_ret (v := .agg #[.int .i64 0, .slice none 0 0, .int .i64 sa, .int .i64 si, .int .i64 ho, .int .i64 nx, .slice x1 n1 d1, .slice x2 n2 d2, .slice yV2 2 zV2, .slice yV5 3 zV5, .slice none 0 0, .slice none 0 0]) (by simp [results, Try.results5, go_sem, cB]) rfl ⟨⟨x1, d1, x2, d2, _, _, _, _, rfl, ?_⟩, ?_⟩
  · have tt : Turn (fun k => k = w.heap.size + 1) G5 ((((((((((((G5.setCell ⟨w.heap.size + 1, 0, none⟩ (.int .i64 0)).setCell ⟨w.heap.size + 1, 1, none⟩ (.slice none 0 0)).setCell ⟨w.heap.size + 1, 2, none⟩ (.int .i64 sa)).setCell ⟨w.heap.size + 1, 3, none⟩ (.int .i64 si)).setCell ⟨w.heap.size + 1, 4, none⟩ (.int .i64 ho)).setCell ⟨w.heap.size + 1, 5, none⟩ (.int .i64 nx)).setCell ⟨w.heap.size + 1, 6, none⟩ (.slice x1 n1 d1)).setCell ⟨w.heap.size + 1, 7, none⟩ (.slice x2 n2 d2)).setCell ⟨w.heap.size + 1, 8, none⟩ (.slice yV2 2 zV2)).setCell ⟨w.heap.size + 1, 9, none⟩ (.slice yV5 3 zV5)).setCell ⟨w.heap.size + 1, 10, none⟩ (.slice none 0 0)).setCell ⟨w.heap.size + 1, 11, none⟩ (.slice none 0 0)) := (Turn.here9 (Turn.here9 (Turn.here9 (Turn.here9 (Turn.here9 (Turn.here9 (Turn.here9 (Turn.here9 (Turn.here9 (Turn.here9 (Turn.here9 (Turn.here9 (Turn.refl _ _) _) _) _) _) _) _) _) _) _) _) _) _)
    exact ⟨(o1G5.turn tt (fun j hj x => ne_blk' o1G5 bBG5 (by decide) (x ▸ hj))).rdP, (o2G5.turn tt (fun j hj x => ne_blk' o2G5 bBG5 (by decide) (x ▸ hj))).rdP, row9_turn onG5 tt (fun j hj x => ne_blk onG5 bBG5 (by decide) (x ▸ hj)), row9_turn owG5 tt (fun j hj x => ne_blk owG5 bBG5 (by decide) (x ▸ hj))⟩
  · exact ((((((((((((nG5.setCell ge1 _).setCell ge1 _).setCell ge1 _).setCell ge1 _).setCell ge1 _).setCell ge1 _).setCell ge1 _).setCell ge1 _).setCell ge1 _).setCell ge1 _).setCell ge1 _).setCell ge1 _)

end Go.Proofs.Ytdknalegmlpimaa

namespace Go.Proofs.Ytdknalegmlpimaa
open Go.RowKit
set_option linter.unusedVariables false

/-- A peer's number, and a kind of event. -/
abbrev P9 (p : Int) : Prop := 0 ≤ p ∧ p ≤ 2
/-- The fault of an event. -/
def evF (k p : Int) (n : Nat) : Int :=
  if k < 1 ∨ 4 < k then 1 else if ¬ P9 p then 3 else if k = 3 ∧ p ≠ 0 then 3 else if k = 2 then (if n = 0 then 1 else if 60 < n then 2 else 0) else if n = 0 then 0 else 1

set_option maxHeartbeats 400000 in
theorem eqEvent_any (k p : Int) (a b : Option Addr) (n c d : Nat) (zs : List Int) (w : World) (ha : BsAt w a zs) (hb : BsAt w b zs) (hn : zs.length = n) (hm : n ≤ 1048576) :
    Calls Try.prog 75 #[.agg #[.int .i64 k, .int .i64 p, .slice a n c], .agg #[.int .i64 k, .int .i64 p, .slice b n d]] w fun e w' => e = .returned (.bool true) ∧ New w w' := by
  have hk : (k != k) = false := by simp
  have hp : (p != p) = false := by simp
  have hw := ((New.refl w).alloc (.cells #[.int .i64 k, .int .i64 p, .slice a n c] 98)).alloc (.cells #[.int .i64 k, .int .i64 p, .slice b n d] 98)
  go_enter Try.func75, Try.ntmps75
  go_wp2_with fail
  refine (eqBytes_any a b n c d zs _ (ha.new hw) (hb.new hw) hn hm).mono ?_
  rintro e w1 ⟨rfl, hn1⟩
  go_wp2
  go_ret
  exact ⟨rfl, hw.trans hn1⟩

end Go.Proofs.Ytdknalegmlpimaa

namespace Go.Proofs.Ytdknalegmlpimaa
open Go.RowKit
set_option linter.unusedVariables false

/-- The fault of an entry. -/
def enF (ep k p : Int) (n : Nat) : Int := if ep < 1 ∨ 1000 < ep then 3 else evF k p n

set_option maxHeartbeats 400000 in
theorem eqEntry_any (ep k p : Int) (a b : Option Addr) (n c d : Nat) (zs : List Int) (w : World) (ha : BsAt w a zs) (hb : BsAt w b zs) (hn : zs.length = n) (hm : n ≤ 1048576) :
    Calls Try.prog 66 #[.agg #[.int .i64 ep, .int .i64 k, .int .i64 p, .slice a n c], .agg #[.int .i64 ep, .int .i64 k, .int .i64 p, .slice b n d]] w fun e w' => e = .returned (.bool true) ∧ New w w' := by
  have hk : (ep != ep) = false := by simp
  have hw := ((New.refl w).alloc (.cells #[.int .i64 ep, .int .i64 k, .int .i64 p, .slice a n c] 100)).alloc (.cells #[.int .i64 ep, .int .i64 k, .int .i64 p, .slice b n d] 100)
  go_enter Try.func66, Try.ntmps66
  go_wp2_with fail
  refine (eqEvent_any k p a b n c d zs _ (ha.new hw) (hb.new hw) hn hm).mono ?_
  rintro e w1 ⟨rfl, hn1⟩
  go_wp2
  go_ret
  exact ⟨rfl, hw.trans hn1⟩

end Go.Proofs.Ytdknalegmlpimaa

namespace Go.Proofs.Ytdknalegmlpimaa
open Go.RowKit
set_option linter.unusedVariables false


section
variable {P : Program} {t e : TypeId} {i : TypeInfo}
end

end Go.Proofs.Ytdknalegmlpimaa

namespace Go.Proofs.Ytdknalegmlpimaa
open Go.RowKit

/-- The marks from k on. -/
def marks (k : Int) (n : Nat) : List Int := (List.range n).map (fun i : Nat => (k + i) % 256)
theorem marks_length (k : Int) (n : Nat) : (marks k n).length = n := by simp [marks]
theorem marks_bd (k : Int) (n : Nat) : ∀ z ∈ marks k n, 0 ≤ z ∧ z ≤ 255 := by
  intro z hz
  obtain ⟨i, _, rfl⟩ := List.mem_map.1 hz
  omega
theorem marks_succ (k : Int) (n : Nat) : marks k (n + 1) = marks k n ++ [(k + n) % 256] := by simp [marks, List.range_succ]
theorem marks_get (k : Int) (n j : Nat) (hj : j < n) : (marks k n)[j]? = some ((k + j) % 256) := by simp [marks, hj]

/-- The call owns the bytes zs at this address. -/
def OwAt (w : World) (a : Option Addr) (n c : Nat) (zs : List Int) : Prop :=
  zs.length = n ∧ (0 < n → ∃ g, a = some ⟨g, 0, none⟩ ∧ w.ownsRow 0 5 1 (.slice (some ⟨g, 0, none⟩) n c) n (zs.map (Value.int .u8)))
/-- The blocks that the address leads to. -/
def inA (a : Option Addr) : Nat → Prop := fun k => ∃ x : Addr, a = some x ∧ k = x.block

theorem OwAt.bs {w : World} {a : Option Addr} {n c : Nat} {zs : List Int} (h : OwAt w a n c zs) (hz : ∀ z ∈ zs, 0 ≤ z ∧ z ≤ 255) : BsAt w a zs := by
  by_cases h0 : 0 < n
  · obtain ⟨g, rfl, ho⟩ := h.2 h0
    exact BsAt.of_own ho hz
  · obtain rfl : zs = [] := List.eq_nil_of_length_eq_zero (by have := h.1; omega)
    exact BsAt.nil _ _
theorem OwAt.of_own {w : World} {g n c base : Nat} {zs : List Int} (h : w.ownsRow base 5 1 (.slice (some ⟨g, 0, none⟩) n c) n (zs.map (Value.int .u8))) : OwAt w (some ⟨g, 0, none⟩) n c zs :=
  ⟨by simpa using h.1, fun _ => ⟨g, rfl, own_base h⟩⟩
theorem OwAt.turn {w w' : World} {a : Option Addr} {n c : Nat} {zs : List Int} {S : Nat → Prop} (h : OwAt w a n c zs) (t : Turn S w w') (hS : ∀ x, a = some x → ¬ S x.block) : OwAt w' a n c zs :=
  ⟨h.1, fun h0 => by obtain ⟨g, rfl, ho⟩ := h.2 h0; exact ⟨g, rfl, own_turn ho t (hS _ rfl)⟩⟩
theorem OwAt.new {w w' : World} {a : Option Addr} {n c : Nat} {zs : List Int} (h : OwAt w a n c zs) (t : New w w') : OwAt w' a n c zs := h.turn t (fun _ _ f => f)

theorem mark_ob (zs : List Int) (k : Int) (j n : Nat) (hn : zs.length = n) (hj : j < n) :
    ((marks k j ++ zs.drop j).map (Value.int .u8)).set j (.int .u8 ((k + j) % 256)) = (marks k (j + 1) ++ zs.drop (j + 1)).map (Value.int .u8) := by
  rw [← List.map_set, List.set_append_right _ _ (by rw [marks_length]; omega), marks_length, Nat.sub_self, marks_succ, List.drop_eq_getElem_cons (by omega), List.set_cons_zero]
  simp

set_option maxHeartbeats 800000 in
theorem mark_any (a : Option Addr) (n c : Nat) (k : Int) (zs : List Int) (w : World) (h : OwAt w a n c zs) (hm : n ≤ 4194304) (hk0 : 0 ≤ k) (hk : k ≤ 1073741824) :
    Calls Try.prog 27 #[.slice a n c, .int .i64 k] w fun e w' => e = .returned (.int .i64 (k + n)) ∧ OwAt w' a n c (marks k n) ∧ Turn (inA a) w w' := by
  have hn := h.1
  go_enter Try.func27, Try.ntmps27
  go_wp2
  go_loopw [1, 5] (fun s i wr => ∃ j : Nat, j ≤ n ∧ i = .int .i64 j ∧ s = .int .i64 (k + j) ∧ OwAt wr a n c (marks k j ++ zs.drop j) ∧ Turn (inA a) w wr) (fun _ i _ => n - (intOf i).toNat)
  case atStart => exact ⟨0, Nat.zero_le _, rfl, by simp, by simpa [marks] using h, Turn.refl _ _⟩
  case round =>
    obtain ⟨j, hj, rfl, rfl, how, htn⟩ := hrel
    by_cases hlt : j < n
    · obtain ⟨g, rfl, ho⟩ := how.2 (by omega)
      have hfz := ho.frozenAt j
      have hst := ho.stored j (.int .u8 ((k + j) % 256))
      rw [mark_ob zs k j n hn hlt] at hst
      obtain ⟨HS, hgr⟩ := hst
      have hcw : ∃ v, wr.cell? ⟨g, j, none⟩ = some v := by
        rw [ho.cellAt j (by omega)]
        exact ⟨_, List.getElem?_eq_getElem (by have := ho.1; omega)⟩
      obtain ⟨v, hv⟩ := hcw
      clear h how ho
      go_wp2
      go_roundw
      case rel => exact ⟨j + 1, by omega, by go_num, by go_num, ⟨by rw [List.length_append, marks_length, List.length_drop]; omega, fun _ => ⟨g, rfl, HS⟩⟩, Turn.trans htn (Turn.of_grown hgr) (fun i _ e => ⟨_, rfl, e⟩)⟩
      case measure => simp [intOf]; omega
    · go_wp2
      go_ret
      have hjn : j = n := by omega
      subst hjn
      rw [List.drop_of_length_le (by omega), List.append_nil] at how
      exact ⟨rfl, how, htn⟩

set_option maxHeartbeats 400000 in
theorem held_any (a : Option Addr) (n c : Nat) (k : Int) (w : World) (h : BsAt w a (marks k n)) (hm : n ≤ 4194304) (hk0 : 0 ≤ k) (hk : k ≤ 1073741824) :
    Calls Try.prog 29 #[.slice a n c, .int .i64 k] w fun e w' => e = .returned (.int .i64 (k + n)) ∧ w' = w := by
  go_enter Try.func29, Try.ntmps29
  go_wp2
  go_loop [1, 5] (fun s i => ∃ j : Nat, j ≤ n ∧ i = .int .i64 j ∧ s = .int .i64 (k + j)) (fun _ i => n - (intOf i).toNat)
  case atStart => exact ⟨0, Nat.zero_le _, rfl, by simp⟩
  case round =>
    obtain ⟨j, hj, rfl, rfl⟩ := hrel
    by_cases hlt : j < n
    · obtain ⟨b, off, z, rfl, hz, hc, _, _⟩ := h.at j (by rw [marks_length]; exact hlt)
      rw [marks_get k n j hlt] at hz
      obtain rfl := Option.some.inj hz
      clear h hz
      go_wp2
      go_round
      case rel => exact ⟨j + 1, by omega, by go_num, by go_num⟩
      case measure => simp [intOf]; omega
    · go_wp2
      go_ret
      have hjn : j = n := by omega
      subst hjn
      exact ⟨rfl, rfl⟩

/-- A frame's bytes. -/
def packOf (k : Int) (zs : List Int) : List Int := [255, 255] ++ [((zs.length : Int) + 5) / 256, ((zs.length : Int) + 5) % 256] ++ [k] ++ zs
theorem packOf_length (k : Int) (zs : List Int) : (packOf k zs).length = zs.length + 5 := by simp [packOf]
theorem packOf_bd (k : Int) (zs : List Int) (h : ∀ z ∈ zs, 0 ≤ z ∧ z ≤ 255) (hl : zs.length ≤ 120) (hk : 1 ≤ k ∧ k ≤ 4) : ∀ z ∈ packOf k zs, 0 ≤ z ∧ z ≤ 255 := by
  intro z hz
  simp only [packOf, List.mem_append, List.mem_cons, List.not_mem_nil, or_false] at hz
  rcases hz with (((rfl | rfl) | (rfl | rfl)) | rfl) | hz
  · omega
  · omega
  · omega
  · omega
  · omega
  · exact h z hz

theorem New.lit {w : World} (n : Nat) (zs : List Int) (B : Nat) (hB : w.heap.size = B) (hn : zs.length = n) (hm : n ≤ 4194304) (cs : Array Value) (hc : cs.toList = zs.map (Value.int .u8)) :
    (w.alloc (.cells cs 5)).ownsRow 0 5 1 (.slice (some ⟨B, 0, none⟩) n n) n (zs.map (Value.int .u8)) := by
  subst hB
  rw [← hc]
  exact World.ownsRow_lit w cs n (Nat.zero_le _) (by unfold maxLen; omega) (by have := congrArg List.length hc; simp at this; omega)

end Go.Proofs.Ytdknalegmlpimaa

namespace Go.Proofs.Ytdknalegmlpimaa
open Go.RowKit Go.Sort
set_option linter.unusedVariables false
set_option linter.unusedSimpArgs false

/-- An entry. -/
structure Ek where
  ep : Int
  ki : Int
  pe : Int
  xs : List Int
/-- An entry in memory. -/
structure EkV where
  r : Ek
  a : Option Addr
  c : Nat
def EkV.cs (v : EkV) : List Value := [.int .i64 v.r.ep, .int .i64 v.r.ki, .int .i64 v.r.pe, .slice v.a v.r.xs.length v.c]
def cellsK (U : List EkV) : List Value := U.flatMap EkV.cs
theorem cellsK_len : ∀ U : List EkV, (cellsK U).length = U.length * 4
  | [] => rfl
  | x :: U => by
    have := cellsK_len U
    unfold cellsK at this ⊢
    rw [List.flatMap_cons, List.length_append, this]
    simp only [EkV.cs, List.length_cons, List.length_nil]
    omega
theorem cellsK_get : ∀ (U : List EkV) (i : Nat) (u : EkV), U[i]? = some u → ∀ j, j < 4 → (cellsK U)[i * 4 + j]? = u.cs[j]?
  | [], i, u, h, _, _ => by simp at h
  | x :: U, 0, u, h, j, hj => by
    simp at h
    subst h
    unfold cellsK
    rw [List.flatMap_cons, Nat.zero_mul, Nat.zero_add, List.getElem?_append_left (by simpa [EkV.cs] using hj)]
  | x :: U, i + 1, u, h, j, hj => by
    have ih := cellsK_get U i u (by simpa using h) j hj
    unfold cellsK at ih ⊢
    rw [List.flatMap_cons, List.getElem?_append_right (by simp [EkV.cs]; omega)]
    have e : (i + 1) * 4 + j - (EkV.cs x).length = i * 4 + j := by simp [EkV.cs]; omega
    rw [e]
    exact ih
theorem cellsK_set3 : ∀ (U : List EkV) (i : Nat) (u v : EkV), U[i]? = some u → (Value.slice v.a v.r.xs.length v.c) = .slice u.a u.r.xs.length u.c → (((cellsK U).set (i * 4) (.int .i64 v.r.ep)).set (i * 4 + 1) (.int .i64 v.r.ki)).set (i * 4 + 2) (.int .i64 v.r.pe) = cellsK (U.set i v)
  | [], i, u, v, h, _ => by simp at h
  | q :: U, 0, u, v, h, e => by
    simp at h
    subst h
    unfold cellsK
    simp only [List.set_cons_zero, List.flatMap_cons, Nat.zero_mul, Nat.zero_add, EkV.cs, List.cons_append, List.nil_append, List.set_cons_succ, e]
  | q :: U, i + 1, u, v, h, e => by
    have ih := cellsK_set3 U i u v (by simpa using h) e
    unfold cellsK at ih ⊢
    simp only [List.set_cons_succ, List.flatMap_cons]
    rw [← ih]
    have el : (EkV.cs q).length = 4 := rfl
    rw [List.set_append_right _ _ (by rw [el]; omega), List.set_append_right _ _ (by rw [el]; omega), List.set_append_right _ _ (by rw [el]; omega), el]
    rw [show (i + 1) * 4 - 4 = i * 4 by omega, show (i + 1) * 4 + 1 - 4 = i * 4 + 1 by omega, show (i + 1) * 4 + 2 - 4 = i * 4 + 2 by omega]

/-- The entries can be read there. -/
def LgAt (w : World) (A : Option Addr) (U : List EkV) : Prop := ∀ i u, U[i]? = some u → (∃ g, A = some ⟨g, 0, none⟩ ∧ ∀ j, j < 4 → w.cell? ⟨g, i * 4 + j, none⟩ = u.cs[j]?) ∧ BsAt w u.a u.r.xs ∧ u.r.xs.length ≤ 1048576
theorem LgAt.turn {w w' : World} {A : Option Addr} {U : List EkV} {S : Nat → Prop} (h : LgAt w A U) (t : Turn S w w') (hA : ∀ x, U ≠ [] → A = some x → ¬ S x.block) (hU : ∀ u ∈ U, ∀ x, u.r.xs ≠ [] → u.a = some x → ¬ S x.block) : LgAt w' A U := by
  intro i u hu
  obtain ⟨⟨g, hg, hc⟩, hb, hl⟩ := h i u hu
  have hne : U ≠ [] := by rintro rfl; simp at hu
  have h0 : w.cell? ⟨g, i * 4, none⟩ = some (.int .i64 u.r.ep) := hc 0 (by omega)
  exact ⟨⟨g, hg, fun j hj => (World.cell?_of_block (t.block g (World.block_lt_of_cell? w _ h0) (hA _ hne hg))).trans (hc j hj)⟩, hb.turnZ t (fun x hx => hU u (List.mem_of_getElem? hu) x hx), hl⟩
theorem LgAt.new {w w' : World} {A : Option Addr} {U : List EkV} (h : LgAt w A U) (t : New w w') : LgAt w' A U := h.turn t (fun _ _ _ f => f) (fun _ _ _ _ _ f => f)
theorem LgAt.at {w : World} {A : Option Addr} {U : List EkV} (h : LgAt w A U) (i : Nat) (hi : i < U.length) :
    ∃ (g : Nat) (ep ki pe : Int) (a : Option Addr) (n c : Nat) (xs : List Int), A = some ⟨g, 0, none⟩ ∧ U[i]? = some ⟨⟨ep, ki, pe, xs⟩, a, c⟩ ∧ xs.length = n ∧ BsAt w a xs ∧ n ≤ 1048576 ∧ w.cell? ⟨g, i * 4, none⟩ = some (.int .i64 ep) ∧ w.cell? ⟨g, i * 4 + 1, none⟩ = some (.int .i64 ki) ∧ w.cell? ⟨g, i * 4 + 2, none⟩ = some (.int .i64 pe) ∧ w.cell? ⟨g, i * 4 + 3, none⟩ = some (.slice a n c) := by
  obtain ⟨⟨g, hg, hc⟩, hb, hl⟩ := h i _ (List.getElem?_eq_getElem hi)
  exact ⟨g, _, _, _, _, _, _, _, hg, List.getElem?_eq_getElem hi, rfl, hb, hl, hc 0 (by omega), hc 1 (by omega), hc 2 (by omega), hc 3 (by omega)⟩

set_option maxHeartbeats 1600000 in
theorem eqEkS_any (A B : Option Addr) (n c d : Nat) (V U : List EkV) (w : World) (hF : LgAt w A V) (hG : LgAt w B U) (hVU : V.map EkV.r = U.map EkV.r) (hn : V.length = n) (hm : n ≤ 2097152) :
    Calls Try.prog 43 #[.slice A n c, .slice B n d] w fun e w' => e = .returned (.bool true) ∧ New w w' := by
  have hnn : ((n : Int) != (n : Int)) = false := by simp
  have HN : Hid (V.length = n) := hn
  have HU : Hid (V.map EkV.r = U.map EkV.r) := hVU
  have HUN : Hid (U.length = n) := by
    have := congrArg List.length hVU
    simp at this
    show U.length = n
    omega
  clear hn hVU
  go_enter Try.func43, Try.ntmps43
  go_wp2
  go_loopw [5] (fun i wr => ∃ k : Nat, k ≤ n ∧ i = .int .i64 k ∧ New w wr) (fun i _ => n - (intOf i).toNat)
  case atStart => exact ⟨0, Nat.zero_le _, rfl, New.refl _⟩
  case round =>
    obtain ⟨k, hk, rfl, hnw⟩ := hrel
    by_cases hlt : k < n
    · obtain ⟨g1, ep, ki, pe, a, m, c1, xs, rfl, hp1, hl1, hx1, hmx, x0, x1, x2, x3⟩ := (hF.new hnw).at k (by have := HN.out; omega)
      obtain ⟨g2, ep', ki', pe', a', m', c1', xs', rfl, hp2, hl2, hx2, hmx', y0, y1, y2, y3⟩ := (hG.new hnw).at k (by have := HUN.out; omega)
      have hh : (⟨ep, ki, pe, xs⟩ : Ek) = ⟨ep', ki', pe', xs'⟩ := by
        have h1 : (V.map EkV.r)[k]? = some ⟨ep, ki, pe, xs⟩ := by rw [List.getElem?_map, hp1]; rfl
        have h2 : (U.map EkV.r)[k]? = some ⟨ep', ki', pe', xs'⟩ := by rw [List.getElem?_map, hp2]; rfl
        rw [HU.out, h2] at h1
        exact (Option.some.inj h1).symm
      simp only [Ek.mk.injEq] at hh
      obtain ⟨rfl, rfl, rfl, rfl⟩ := hh
      obtain rfl : m = m' := hl1.symm.trans hl2
      have HL : Hid (xs.length = m) := hl1
      clear hp1 hp2 hF hG hl1 hl2
      have X0 := cell_regrown x0
      have X1 := cell_regrown x1
      have X2 := cell_regrown x2
      have X3 := cell_regrown x3
      have Y0 := cell_regrown y0
      have Y1 := cell_regrown y1
      have Y2 := cell_regrown y2
      have Y3 := cell_regrown y3
      go_wp2_with fail
      refine wp_region_quiet_below (by kernel_rfl) (by kernel_rfl) ?_
      repeat (go_big_quiet_step ((go_at_call 66; exact calls_regrown (eqEntry_any ep ki pe a a' m c1 c1' xs _ (hx1.new (new_regrown _ _ _)) (hx2.new (new_regrown _ _ _)) HL.out (by omega)))))
      refine wpQuiet_nil ?_
      rintro w1 hn1
      replace hn1 := new_of_regrown hn1
      go_wp2
      go_roundw
      case rel => exact ⟨k + 1, by omega, by go_num, hnw.trans hn1⟩
      case measure => simp [intOf]; omega
    · go_wp2
      go_ret
      exact ⟨rfl, hnw⟩

/-- An entry, marked from k on; the next mark. -/
def EkV.mkK (k : Int) (v : EkV) : EkV := ⟨⟨k, k + 1, k + 1 + 1, marks (k + 1 + 1 + 1) v.r.xs.length⟩, v.a, v.c⟩
def EkV.nxK (k : Int) (v : EkV) : Int := k + 1 + 1 + 1 + v.r.xs.length
def markK : Int → List EkV → List EkV
  | _, [] => []
  | k, v :: V => v.mkK k :: markK (v.nxK k) V
def endK : Int → List EkV → Int
  | k, [] => k
  | k, v :: V => endK (v.nxK k) V
theorem markK_length (V : List EkV) : ∀ k, (markK k V).length = V.length := by
  induction V with
  | nil => intro k; rfl
  | cons f F ih => intro k; simp [markK, ih]
theorem endK_snoc (V : List EkV) (v : EkV) : ∀ k, endK k (V ++ [v]) = v.nxK (endK k V) := by
  induction V with
  | nil => intro k; rfl
  | cons g F ih => intro k; simp only [List.cons_append, endK]; exact ih _
theorem markK_snoc (V : List EkV) (v : EkV) : ∀ k, markK k (V ++ [v]) = markK k V ++ [v.mkK (endK k V)] := by
  induction V with
  | nil => intro k; rfl
  | cons g F ih => intro k; simp only [List.cons_append, markK, endK, ih]
/-- How much there is to copy of a list. -/
def totK : List EkV → Nat
  | [] => 0
  | v :: V => v.r.xs.length + 1 + totK V
theorem totK_len : ∀ V : List EkV, V.length ≤ totK V
  | [] => Nat.le_refl _
  | v :: V => by have := totK_len V; simp only [totK, List.length_cons]; omega
theorem totK_mem : ∀ (V : List EkV) (v : EkV), v ∈ V → v.r.xs.length ≤ totK V
  | [], v, h => by simp at h
  | u :: V, v, h => by
    simp only [totK]
    rcases List.mem_cons.1 h with rfl | h
    · omega
    · have := totK_mem V v h; omega
theorem totK_take : ∀ (V : List EkV) (j : Nat), totK (V.take j) ≤ totK V
  | [], j => by simp
  | v :: V, 0 => by simp [totK]
  | v :: V, j + 1 => by have := totK_take V j; simp only [List.take_succ_cons, totK]; omega
theorem totK_snoc (V : List EkV) (v : EkV) : totK (V ++ [v]) = totK V + v.r.xs.length + 1 := by
  induction V with
  | nil => simp [totK]
  | cons f F ih => simp only [List.cons_append, totK, ih]; omega
theorem totK_drop {V : List EkV} {i : Nat} {v : EkV} (h : V[i]? = some v) : totK (V.drop i) = v.r.xs.length + 1 + totK (V.drop (i + 1)) := by
  obtain ⟨hk, e⟩ := List.getElem?_eq_some_iff.1 h
  rw [List.drop_eq_getElem_cons hk, e]
  rfl
theorem totK_map : ∀ (V U : List EkV), V.map EkV.r = U.map EkV.r → totK V = totK U
  | [], [], _ => rfl
  | [], u :: U, h => by simp at h
  | v :: V, [], h => by simp at h
  | v :: V, u :: U, h => by
    simp only [List.map_cons, List.cons.injEq] at h
    have := totK_map V U h.2
    simp only [totK, this, h.1]
theorem endK_bd (V : List EkV) : ∀ k, k ≤ endK k V ∧ endK k V ≤ k + 3 * totK V := by
  induction V with
  | nil => intro k; simp [endK, totK]
  | cons f F ih =>
    intro k
    have h2 := ih (f.nxK k)
    simp only [endK, totK]
    unfold EkV.nxK at h2 ⊢
    omega
theorem take_snocK {V : List EkV} {k : Nat} {f : EkV} (h : V[k]? = some f) : V.take (k + 1) = V.take k ++ [f] := by
  obtain ⟨hk, rfl⟩ := List.getElem?_eq_some_iff.1 h
  exact List.take_succ_eq_append_getElem hk
theorem markK_get (V : List EkV) {j : Nat} {f : EkV} (h : V[j]? = some f) (k : Int) : (markK k V)[j]? = some (f.mkK (endK k (V.take j))) := by
  induction V generalizing j k with
  | nil => simp at h
  | cons g F ih =>
    cases j with
    | zero => simp at h; subst h; simp [markK, endK]
    | succ j => simp at h; simp only [markK, List.getElem?_cons_succ, List.take_succ_cons, endK]; exact ih h _
theorem endK_take {V : List EkV} {j : Nat} {f : EkV} (h : V[j]? = some f) (k : Int) : endK k (V.take (j + 1)) = f.nxK (endK k (V.take j)) := by rw [take_snocK h, endK_snoc]
theorem stepK_get {V : List EkV} {j : Nat} {f : EkV} (h : V[j]? = some f) (k : Int) : (markK k (V.take j) ++ V.drop j)[j]? = some f := by
  obtain ⟨hj, rfl⟩ := List.getElem?_eq_some_iff.1 h
  have hl : (markK k (V.take j)).length = j := by rw [markK_length, List.length_take]; omega
  rw [List.getElem?_append_right (by omega), hl, Nat.sub_self, List.getElem?_drop]
  exact h
theorem stepK_set {V : List EkV} {j : Nat} {f : EkV} (h : V[j]? = some f) (k : Int) : (markK k (V.take j) ++ V.drop j).set j (f.mkK (endK k (V.take j))) = markK k (V.take (j + 1)) ++ V.drop (j + 1) := by
  have hf := take_snocK h
  obtain ⟨hj, rfl⟩ := List.getElem?_eq_some_iff.1 h
  have hl : (markK k (V.take j)).length = j := by rw [markK_length, List.length_take]; omega
  rw [hf, markK_snoc, List.set_append_right _ _ (by omega), hl, Nat.sub_self, List.drop_eq_getElem_cons hj, List.set_cons_zero]
  simp

/-- What the marking needs of a list: the row and each entry's bytes, of the call's own, from lo up to hi, each in a block of its own. -/
structure OwK (w : World) (lo hi g n c : Nat) (U : List EkV) : Prop where
  row : w.ownsRow 0 100 4 (.slice (some ⟨g, 0, none⟩) n c) n (cellsK U)
  own : ∀ (i : Nat) (u : EkV), U[i]? = some u → OwAt w u.a u.r.xs.length u.c u.r.xs
  len : ∀ u ∈ U, u.r.xs.length ≤ 1048576
  inn : ∀ u ∈ U, ∀ x, u.a = some x → lo ≤ x.block ∧ x.block < hi ∧ ¬ x.block = g
  glo : lo ≤ g ∧ g < hi
  apart : ∀ (i j : Nat) (u v : EkV) (x y : Addr), U[i]? = some u → U[j]? = some v → i ≠ j → u.a = some x → v.a = some y → ¬ x.block = y.block

theorem row_turnK {w w' : World} {g n c : Nat} {xs : List Value} {S : Nat → Prop} (h : w.ownsRow 0 100 4 (.slice (some ⟨g, 0, none⟩) n c) n xs) (t : Turn S w w') (hS : ¬ S g) : w'.ownsRow 0 100 4 (.slice (some ⟨g, 0, none⟩) n c) n xs := row9_turn h t (by intro k hk; simp [Value.ownBlock] at hk; subst hk; exact hS)
theorem set3k (w : World) (B j : Nat) (v0 v1 v2 : Value) : Turn (fun k => k = B) w (((w.setCell ⟨B, j, none⟩ v0).setCell ⟨B, j + 1, none⟩ v1).setCell ⟨B, j + 2, none⟩ v2) :=
  (((Turn.refl (fun k => k = B) w).set (p := ⟨B, j, none⟩) rfl v0).set (p := ⟨B, j + 1, none⟩) rfl v1).set (p := ⟨B, j + 2, none⟩) rfl v2

set_option maxHeartbeats 6400000 in
theorem markEkS_row (g n c lo hi : Nat) (k : Int) (U : List EkV) (w : World) (h : OwK w lo hi g n c U) (hn : U.length = n) (hT : totK U ≤ 2097152) (hm : n ≤ 2097152) (hk0 : 0 ≤ k) (hk : k ≤ 1048576) :
    Calls Try.prog 48 #[.slice (some ⟨g, 0, none⟩) n c, .int .i64 k] w fun e w' => e = .returned (.int .i64 (endK k U)) ∧ LgAt w' (some ⟨g, 0, none⟩) (markK k U) ∧ Turn (fun x => lo ≤ x ∧ x < hi) w w' := by
  have HLn : Hid (U.length = n) := hn
  have HBd : Hid (∀ j, j ≤ n → k ≤ endK k (U.take j) ∧ endK k (U.take j) ≤ k + 6291456) := by
    intro j hj
    have h1 := endK_bd (U.take j) k
    have h2 := totK_take U j
    omega
  have HLen : Hid (∀ u ∈ U, u.r.xs.length ≤ 1048576) := h.len
  have HInn : Hid (∀ u ∈ U, ∀ x, u.a = some x → lo ≤ x.block ∧ x.block < hi ∧ ¬ x.block = g) := h.inn
  have HAp : Hid (∀ (i j : Nat) (u v : EkV) (x y : Addr), U[i]? = some u → U[j]? = some v → i ≠ j → u.a = some x → v.a = some y → ¬ x.block = y.block) := h.apart
  have HGl : Hid (lo ≤ g ∧ g < hi) := h.glo
  have hrow := h.row
  have hown := h.own
  clear hn h
  go_enter Try.func48, Try.ntmps48
  go_wp2
  go_loopw [1, 5] (fun s i wr => ∃ j : Nat, j ≤ n ∧ i = .int .i64 j ∧ s = .int .i64 (endK k (U.take j)) ∧ wr.ownsRow 0 100 4 (.slice (some ⟨g, 0, none⟩) n c) n (cellsK (markK k (U.take j) ++ U.drop j)) ∧
      (∀ (i : Nat) (u : EkV), j ≤ i → U[i]? = some u → OwAt wr u.a u.r.xs.length u.c u.r.xs) ∧ (∀ (i : Nat) (u : EkV), i < j → U[i]? = some u → BsAt wr u.a (marks (endK k (U.take i) + 1 + 1 + 1) u.r.xs.length)) ∧ Turn (fun x => lo ≤ x ∧ x < hi) w wr) (fun _ i _ => n - (intOf i).toNat)
  case atStart => exact ⟨0, Nat.zero_le _, rfl, rfl, by simpa [markK] using hrow, fun i u _ hu => hown i u hu, fun i u hi => absurd hi (Nat.not_lt_zero i), Turn.refl _ _⟩
  case round =>
    obtain ⟨j, hj, rfl, rfl, hC, hrest, hdone, htn⟩ := hrel
    by_cases hlt : j < n
    · obtain ⟨f, hfj⟩ : ∃ f, U[j]? = some f := ⟨_, List.getElem?_eq_getElem (by have := HLn.out; omega)⟩
      have hCj := stepK_get hfj k
      have he := HBd.out j hj
      have HE : Hid (endK k (U.take (j + 1)) = f.nxK (endK k (U.take j))) := endK_take hfj k
      have HS2 : Hid _ := stepK_set hfj k
      have HKC : Hid (∀ u, U[j]? = some u → u = f) := by intro u hu; rw [hfj] at hu; exact (Option.some.inj hu).symm
      have HFJ : Hid (U[j]? = some f) := hfj
      have HDone : Hid (∀ (i : Nat) (u : EkV), i < j → U[i]? = some u → BsAt wr u.a (marks (endK k (U.take i) + 1 + 1 + 1) u.r.xs.length)) := hdone
      have HKE : Hid (∃ kk, kk = endK k (U.take j)) := ⟨_, rfl⟩
      obtain ⟨kc, hkc⟩ : ∃ kc, kc = endK k (U.take j) := ⟨_, rfl⟩
      have HK : Hid (kc = endK k (U.take j)) := hkc
      rw [← hkc] at he ⊢
      have HE2 : Hid (endK k (U.take (j + 1)) = f.nxK kc) := by unfold Hid; rw [hkc]; exact HE.out
      have HS3 : Hid ((markK k (U.take j) ++ U.drop j).set j (f.mkK kc) = markK k (U.take (j + 1)) ++ U.drop (j + 1)) := by unfold Hid; rw [hkc]; exact HS2.out
      clear hkc HE HS2 hdone
      generalize hCC0 : markK k (U.take j) ++ U.drop j = CC at *
      have HCj : Hid (CC[j]? = some f) := hCj
      have hCl : (cellsK CC).length = n * 4 := by have := hC.1; omega
      have hov := hrest j f (Nat.le_refl _) hfj
      have hlf := HLen.out f (List.mem_of_getElem? hfj)
      have hif := HInn.out f (List.mem_of_getElem? hfj)
      have x3 : wr.cell? ⟨g, j * 4 + 3, none⟩ = some (.slice f.a f.r.xs.length f.c) := by
        rw [World.ownsRow.cellAt hC (j * 4 + 3) (by omega)]
        exact cellsK_get CC j f hCj 3 (by omega)
      have f0 := fun q => World.ownsRow.frozenAt hC q
      obtain ⟨v0, c0⟩ : ∃ v, wr.cell? ⟨g, j * 4, none⟩ = some v := ⟨_, (World.ownsRow.cellAt hC _ (by omega)).trans (List.getElem?_eq_getElem (by omega))⟩
      obtain ⟨v1, c1⟩ : ∃ v, wr.cell? ⟨g, j * 4 + 1, none⟩ = some v := ⟨_, (World.ownsRow.cellAt hC _ (by omega)).trans (List.getElem?_eq_getElem (by omega))⟩
      obtain ⟨v2, c2⟩ : ∃ v, wr.cell? ⟨g, j * 4 + 2, none⟩ = some v := ⟨_, (World.ownsRow.cellAt hC _ (by omega)).trans (List.getElem?_eq_getElem (by omega))⟩
      have hg1 := (World.ownsRow.stored hC (j * 4) (.int .i64 kc)).1
      have hg2 := (World.ownsRow.stored hg1 (j * 4 + 1) (.int .i64 (kc + 1))).1
      have hg3 := (World.ownsRow.stored hg2 (j * 4 + 2) (.int .i64 (kc + 1 + 1))).1
      have hset := cellsK_set3 CC j f (f.mkK kc) HCj.out (by simp [EkV.mkK, marks_length])
      simp only [EkV.mkK] at hset
      rw [hset] at hg3
      have t3 := set3k wr g (j * 4) (.int .i64 kc) (.int .i64 (kc + 1)) (.int .i64 (kc + 1 + 1))
      have hov3 : OwAt _ f.a f.r.xs.length f.c f.r.xs := hov.turn t3 (fun x hx e => (hif x hx).2.2 e)
      have x33 : (((wr.setCell ⟨g, j * 4, none⟩ (.int .i64 kc)).setCell ⟨g, j * 4 + 1, none⟩ (.int .i64 (kc + 1))).setCell ⟨g, j * 4 + 2, none⟩ (.int .i64 (kc + 1 + 1))).cell? ⟨g, j * 4 + 3, none⟩ = some (.slice f.a f.r.xs.length f.c) := by
        rw [World.ownsRow.cellAt hg3 (j * 4 + 3) (by omega)]
        rw [cellsK_get _ j _ (by rw [List.getElem?_set_self (by have := (List.getElem?_eq_some_iff.1 HCj.out).1; omega)]) 3 (by omega)]
        simp [EkV.cs, marks_length]
      clear hg1 hg2 hset hfj hCj
      go_upto_region 10 with fail
      generalize (((wr.setCell ⟨g, j * 4, none⟩ (.int .i64 kc)).setCell ⟨g, j * 4 + 1, none⟩ (.int .i64 (kc + 1))).setCell ⟨g, j * 4 + 2, none⟩ (.int .i64 (kc + 1 + 1))) = w4 at *
      clear x3 c0 c1 c2 f0 hC hov
      go_wp2_with fail
      refine (mark_any f.a f.r.xs.length f.c (kc + 1 + 1 + 1) f.r.xs _ hov3 (by omega) (by omega) (by omega)).mono ?_
      rintro e w5 ⟨rfl, ho5, t5⟩
      clear x33
      have hif2 : ∀ i, inA f.a i → lo ≤ i ∧ i < hi ∧ ¬ i = g := by rintro i ⟨x, hx, e⟩; rw [e]; exact hif x hx
      have t45 : Turn (fun i => i = g ∨ inA f.a i) wr w5 := Turn.trans (S := fun i => i = g ∨ inA f.a i) (Turn.mono t3 (fun i _ e => .inl e)) t5 (fun i _ e => .inr e)
      go_wp2
      go_roundw
      case rel =>
        refine ⟨j + 1, by omega, by go_num, by rw [HE2.out]; rfl, ?_, ?_, ?_, ?_⟩
        · rw [← HS3.out]
          exact row_turnK hg3 t5 (fun e => (hif2 g e).2.2 rfl)
        · intro i u hi hu
          refine (hrest i u (by omega) hu).turn t45 ?_
          rintro x hx (e | ⟨y, hy, e⟩)
          · exact (HInn.out u (List.mem_of_getElem? hu) x hx).2.2 e
          · exact HAp.out i j u f x y hu HFJ.out (by omega) hx hy e
        · intro i u hi hu
          by_cases hij : i = j
          · subst hij
            obtain rfl := HKC.out u hu
            rw [← HK.out]
            exact ho5.bs (marks_bd _ _)
          · refine (HDone.out i u (by omega) hu).turn t45 ?_
            rintro x hx (e | ⟨y, hy, e⟩)
            · exact (HInn.out u (List.mem_of_getElem? hu) x hx).2.2 e
            · exact HAp.out i j u f x y hu HFJ.out (by omega) hx hy e
        · exact Turn.trans htn t45 (by rintro i _ (e | e); (rw [e]; exact HGl.out); exact ⟨(hif2 i e).1, (hif2 i e).2.1⟩)
      case measure => simp [intOf]; omega
    · go_wp2
      go_ret
      obtain rfl : j = n := by omega
      have e1 : U.take j = U := List.take_of_length_le (by rw [HLn.out]; omega)
      have e2 : U.drop j = [] := List.drop_eq_nil_of_le (by rw [HLn.out]; omega)
      rw [e1, e2, List.append_nil] at hC
      rw [e1]
      refine ⟨rfl, ?_, htn⟩
      intro i u hu
      have hi : i < (markK k U).length := (List.getElem?_eq_some_iff.1 hu).1
      rw [markK_length] at hi
      obtain ⟨f, hf⟩ : ∃ f, U[i]? = some f := ⟨_, List.getElem?_eq_getElem hi⟩
      have hm' := markK_get U hf k
      rw [hu] at hm'
      obtain rfl := Option.some.inj hm'
      refine ⟨⟨g, rfl, fun q hq => ?_⟩, ?_, ?_⟩
      · rw [World.ownsRow.cellAt hC (i * 4 + q) (by have := HLn.out; omega)]
        exact cellsK_get _ i _ hu q hq
      · exact hdone i f (by have := HLn.out; omega) hf
      · simp only [EkV.mkK, marks_length]
        exact HLen.out f (List.mem_of_getElem? hf)

set_option maxHeartbeats 1600000 in
theorem heldEkS_any (A : Option Addr) (n c : Nat) (k : Int) (U : List EkV) (w : World) (h : LgAt w A (markK k U)) (hn : U.length = n) (hl : ∀ u ∈ U, u.r.xs.length ≤ 1048576) (hT : totK U ≤ 2097152) (hm : n ≤ 2097152) (hk0 : 0 ≤ k) (hk : k ≤ 1048576) :
    Calls Try.prog 53 #[.slice A n c, .int .i64 k] w fun e w' => e = .returned (.int .i64 (endK k U)) ∧ w' = w := by
  have HLn : Hid (U.length = n) := hn
  have HL : Hid (∀ u ∈ U, u.r.xs.length ≤ 1048576) := hl
  have HBd : Hid (∀ j, j ≤ n → k ≤ endK k (U.take j) ∧ endK k (U.take j) ≤ k + 6291456) := by
    intro j hj
    have h1 := endK_bd (U.take j) k
    have h2 := totK_take U j
    omega
  clear hn hl
  go_enter Try.func53, Try.ntmps53
  go_wp2
  go_loopw [1, 5] (fun s i wr => ∃ j : Nat, j ≤ n ∧ i = .int .i64 j ∧ s = .int .i64 (endK k (U.take j)) ∧ wr = w) (fun _ i _ => n - (intOf i).toNat)
  case atStart => exact ⟨0, Nat.zero_le _, rfl, rfl, rfl⟩
  case round =>
    obtain ⟨j, hj, rfl, rfl, rfl⟩ := hrel
    by_cases hlt : j < n
    · obtain ⟨f, hfj⟩ : ∃ f, U[j]? = some f := ⟨_, List.getElem?_eq_getElem (by have := HLn.out; omega)⟩
      obtain ⟨⟨b, rfl, hcell⟩, hns, -⟩ := h j _ (markK_get U hfj k)
      have he := HBd.out j hj
      have HE : Hid (endK k (U.take (j + 1)) = f.nxK (endK k (U.take j))) := endK_take hfj k
      have hlf := HL.out f (List.mem_of_getElem? hfj)
      generalize endK k (U.take j) = kc at *
      obtain ⟨⟨ep, ki, pe, xs⟩, fa, fc⟩ := f
      have x0 : wr.cell? ⟨b, j * 4, none⟩ = some (.int .i64 kc) := hcell 0 (by omega)
      have x1 : wr.cell? ⟨b, j * 4 + 1, none⟩ = some (.int .i64 (kc + 1)) := hcell 1 (by omega)
      have x2 : wr.cell? ⟨b, j * 4 + 2, none⟩ = some (.int .i64 (kc + 1 + 1)) := hcell 2 (by omega)
      have x3 : wr.cell? ⟨b, j * 4 + 3, none⟩ = some (.slice fa xs.length fc) := by
        have := hcell 3 (by omega)
        simp only [EkV.mkK, EkV.cs, marks_length] at this
        exact this
      have hns' : BsAt wr fa (marks (kc + 1 + 1 + 1) xs.length) := hns
      clear hcell hfj hns h
      go_wp2_with fail
      refine (held_any fa xs.length fc (kc + 1 + 1 + 1) _ hns' (by omega) (by omega) (by omega)).mono ?_
      rintro e w5 ⟨rfl, rfl⟩
      go_wp2
      go_roundw
      case rel => exact ⟨j + 1, by omega, by go_num, by rw [HE.out]; rfl, by trivial⟩
      case measure => simp [intOf]; omega
    · go_wp2
      go_ret
      obtain rfl : j = n := by omega
      have e1 : U.take j = U := List.take_of_length_le (by rw [HLn.out]; omega)
      rw [e1]
      exact ⟨rfl, rfl⟩

end Go.Proofs.Ytdknalegmlpimaa

namespace Go.Proofs.Ytdknalegmlpimaa
open Go.RowKit Go.Sort
set_option linter.unusedVariables false

/-- A list of bytes in memory of the call's own, from lo on, or nil for none. -/
def OvB (w : World) (lo : Nat) (v : Value) (xs : List Int) : Prop := w.ownsRow lo 5 1 v xs.length (xs.map (Value.int .u8))

theorem OvB.form {w : World} {lo : Nat} {v : Value} {xs : List Int} (h : OvB w lo v xs) : (v = .slice none 0 0 ∧ xs = []) ∨ ∃ g c, v = .slice (some ⟨g, 0, none⟩) xs.length c ∧ lo ≤ g ∧ xs.length ≤ c ∧ w.ownsRow 0 5 1 (.slice (some ⟨g, 0, none⟩) xs.length c) xs.length (xs.map (Value.int .u8)) := by
  rcases Joins.ownsRow_forms h with ⟨rfl, h0⟩ | ⟨g, cap, rfl⟩
  · exact .inl ⟨rfl, List.eq_nil_of_length_eq_zero h0⟩
  · refine .inr ⟨g, cap, rfl, (World.ownsRow.lt h g rfl).1, ?_, own_base h⟩
    rcases h.2 with ⟨h1, _⟩ | ⟨g', cap', cur, h', hb, hh, hc, r⟩
    · cases h1
    · simp at h'
      omega
theorem OvB.turn {w w' : World} {lo : Nat} {v : Value} {xs : List Int} {S : Nat → Prop} (h : OvB w lo v xs) (t : Turn S w w') (hS : ∀ k, lo ≤ k → k < w.heap.size → ¬ S k) : OvB w' lo v xs := by
  refine ⟨h.1, ?_⟩
  rcases h.2 with h' | ⟨g', cap', cur, h', hb, hh, r⟩
  · exact .inl h'
  · have hlt : g' < w.heap.size := (Array.getElem?_eq_some_iff.1 hh).1
    exact .inr ⟨g', cap', cur, h', hb, (t.block g' hlt (hS g' hb hlt)).trans hh, r⟩
theorem OvB.new {w w' : World} {lo : Nat} {v : Value} {xs : List Int} (h : OvB w lo v xs) (t : New w w') : OvB w' lo v xs := h.turn t (fun _ _ _ f => f)
theorem OvB.blk {w : World} {lo : Nat} {v : Value} {xs : List Int} (h : OvB w lo v xs) : ∀ k, v.ownBlock = some k → lo ≤ k := by
  intro k hk
  rcases h.form with ⟨rfl, _⟩ | ⟨g, cap, rfl, hg, _, _⟩
  · simp [Value.ownBlock] at hk
  · simp [Value.ownBlock] at hk
    subst hk
    exact hg
theorem OvB.low {w : World} {lo lo' : Nat} {v : Value} {xs : List Int} (h : OvB w lo v xs) (hl : lo' ≤ lo) : OvB w lo' v xs := by
  refine ⟨h.1, ?_⟩
  rcases h.2 with h' | ⟨g', cap', cur, h', hb, hh, r⟩
  · exact .inl h'
  · exact .inr ⟨g', cap', cur, h', by omega, hh, r⟩
theorem OvB.bs {w : World} {lo : Nat} {v : Value} {xs : List Int} (h : OvB w lo v xs) (hb : ∀ z ∈ xs, 0 ≤ z ∧ z ≤ 255) : ∃ a c, v = .slice a xs.length c ∧ BsAt w a xs ∧ xs.length ≤ c ∧ ((a = none ∧ xs.length = 0 ∧ c = 0) ∨ ∃ g, a = some ⟨g, 0, none⟩ ∧ lo ≤ g ∧ g < w.heap.size) ∧ OwAt w a xs.length c xs := by
  rcases h.form with ⟨rfl, rfl⟩ | ⟨g, c, rfl, hg, hc, ho⟩
  · exact ⟨none, 0, rfl, BsAt.nil _ _, Nat.le_refl _, .inl ⟨rfl, rfl, rfl⟩, ⟨rfl, fun h => by simp at h⟩⟩
  · exact ⟨_, c, rfl, BsAt.of_own ho hb, hc, .inr ⟨g, rfl, hg, (ho.lt g rfl).2⟩, OwAt.of_own ho⟩

section
variable {P : Program} {t e : TypeId} {i : TypeInfo}
/-- Appending bytes, whatever their make, to a list that the call owns. -/
theorem run_apB (w : World) (ty : TypeId) (base : Nat) (ht : P.underlying t = some (.slice e)) (hi : P.info? e = some i) (hz : i.zero = some (.int .u8 0)) (hs : i.size = 1) (hb : i.bytes = 1)
    (v : Value) (xs : List Int) (hown : w.ownsRow base e 1 v xs.length (xs.map (Value.int .u8)))
    (a : Option Addr) (m c : Nat) (zs : List Int) (hsrc : BsAt w a zs) (hm : zs.length = m) (hnone : a = none → m = 0 ∧ c = 0) (hle : xs.length + m ≤ 4194304) (hbase : base ≤ w.heap.size) :
    ∃ v' w', (Builtin.append_ #[t, t] ty #[v, .slice a m c]).run P w = .ok v' w' ∧ w'.ownsRow base e 1 v' (xs ++ zs).length ((xs ++ zs).map (Value.int .u8)) ∧ w.grownBy w' v.ownBlock := by
  cases a with
  | none =>
    obtain ⟨rfl, rfl⟩ := hnone rfl
    obtain rfl : zs = [] := List.eq_nil_of_length_eq_zero hm
    have hrun := run_append_owned_none (P := P) w base t ty e i 1 ht hi v xs.length _ hown
    exact ⟨v, w, by simpa using hrun, by simpa using hown, World.grownBy.refl _ _⟩
  | some ad =>
    have hnews : ∀ j u, (zs.map (Value.int .u8))[j]? = some u → w.cell? (ad.add j) = some u := by
      intro j u hu
      rw [List.getElem?_map] at hu
      obtain ⟨z, hz', rfl⟩ := Option.map_eq_some_iff.1 hu
      obtain ⟨b, off, ha, hc, _⟩ := hsrc j z hz'
      obtain rfl := Option.some.inj ha
      rw [Addr.add_lit]
      exact hc
    obtain ⟨v', w', hr, h2, h3, _, h5⟩ := run_append_own_at (P := P) w base t ty e i (.int .u8 0) 1 1 ht hi hz hs hb rfl (by decide) v xs.length _ hown ad m c (zs.map (Value.int .u8)) (by simp [hm]) hnews (ints_oneCell _ _) (by unfold maxLen; omega) (by omega) hbase
    exact ⟨v', w', hr, by simpa [hm] using h2, h3⟩

theorem wp_apB (w : World) {o : Oper} {a : Act} {K : Act → World → Prop} {Q : Exit → Act → World → Prop} (s x : Operand)
    (ho : o.op = .call { callee := .builtin .append, args := #[s, x], argTypes := #[t, t] }) (base : Nat) (ht : P.underlying t = some (.slice e)) (hi : P.info? e = some i) (hz : i.zero = some (.int .u8 0)) (hs : i.size = 1) (hb : i.bytes = 1)
    (v : Value) (xs : List Int) (hsv : a.eval s = v) (hown : w.ownsRow base e 1 v xs.length (xs.map (Value.int .u8)))
    (ao : Option Addr) (m c : Nat) (zs : List Int) (hxv : a.eval x = .slice ao m c) (hsrc : BsAt w ao zs) (hm : zs.length = m) (hnone : ao = none → m = 0 ∧ c = 0) (hle : xs.length + m ≤ 4194304) (hbase : base ≤ w.heap.size)
    (h : ∀ v' w', w'.ownsRow base e 1 v' (xs ++ zs).length ((xs ++ zs).map (Value.int .u8)) → w.grownBy w' v.ownBlock → K (a.put o.dst v') w') : o.wp P a w K Q := by
  obtain ⟨v', w', hr, h2, h3⟩ := run_apB (P := P) w o.type base ht hi hz hs hb v xs hown ao m c zs hsrc hm hnone hle hbase
  unfold Oper.wp execOp
  simp only [ho, resolve, invoke, builtin, Sem.run_bind, Sem.run_pure, Result.andThen_ok, List.map_toArray, List.map_cons, List.map_nil, hsv, hxv, hr]
  exact h v' w' h2 h3

theorem wpList_apB (w : World) {ops : Array Oper} {rest : List Oper} {o : Oper} {a : Act} {Q : Exit → Act → World → Prop} (hgd : o.guard = none) (s x : Operand)
    (ho : o.op = .call { callee := .builtin .append, args := #[s, x], argTypes := #[t, t] }) (base : Nat) (ht : P.underlying t = some (.slice e)) (hi : P.info? e = some i) (hz : i.zero = some (.int .u8 0)) (hs : i.size = 1) (hb : i.bytes = 1)
    (v : Value) (xs : List Int) (hsv : a.eval s = v) (hown : w.ownsRow base e 1 v xs.length (xs.map (Value.int .u8)))
    (ao : Option Addr) (m c : Nat) (zs : List Int) (hxv : a.eval x = .slice ao m c) (hsrc : BsAt w ao zs) (hm : zs.length = m) (hnone : ao = none → m = 0 ∧ c = 0) (hle : xs.length + m ≤ 4194304) (hbase : base ≤ w.heap.size)
    (h : ∀ v' w', w'.ownsRow base e 1 v' (xs ++ zs).length ((xs ++ zs).map (Value.int .u8)) → w.grownBy w' v.ownBlock → wpList P ops Q rest (a.put o.dst v') w') : wpList P ops Q (o :: rest) a w :=
  wpList_plain hgd fun _ hK => wp_apB w s x ho base ht hi hz hs hb v xs hsv hown ao m c zs hxv hsrc hm hnone hle hbase fun v' w' h2 h3 => hK _ _ (h v' w' h2 h3)

theorem step_apB (w : World) {ops : Array Oper} {o : Oper} {a : Act} {K : Act → World → Prop} {Q : Exit → Act → World → Prop} {E : Prop} (hgd : o.guard = none) (s x : Operand)
    (ho : o.op = .call { callee := .builtin .append, args := #[s, x], argTypes := #[t, t] }) (base : Nat) (ht : P.underlying t = some (.slice e)) (hi : P.info? e = some i) (hz : i.zero = some (.int .u8 0)) (hs : i.size = 1) (hb : i.bytes = 1)
    (v : Value) (xs : List Int) (hsv : a.eval s = v) (hown : w.ownsRow base e 1 v xs.length (xs.map (Value.int .u8)))
    (ao : Option Addr) (m c : Nat) (zs : List Int) (hxv : a.eval x = .slice ao m c) (hsrc : BsAt w ao zs) (hm : zs.length = m) (hnone : ao = none → m = 0 ∧ c = 0) (hle : xs.length + m ≤ 4194304) (hbase : base ≤ w.heap.size)
    (h : ∀ v' w', w'.ownsRow base e 1 v' (xs ++ zs).length ((xs ++ zs).map (Value.int .u8)) → w.grownBy w' v.ownBlock → K (a.put o.dst v') w') :
    if Region.wanted o (yielded ops a.tmps) = true then Oper.wp P o a w K Q else E := by
  have hw : Region.wanted o (yielded ops a.tmps) = true := by simp [Region.wanted, hgd]
  rw [if_pos hw]
  exact wp_apB w s x ho base ht hi hz hs hb v xs hsv hown ao m c zs hxv hsrc hm hnone hle hbase h
end

end Go.Proofs.Ytdknalegmlpimaa

namespace Go.Proofs.Ytdknalegmlpimaa
open Go.RowKit
set_option linter.unusedVariables false
set_option linter.unusedSimpArgs false
set_option maxRecDepth 100000

end Go.Proofs.Ytdknalegmlpimaa

namespace Go.Proofs.Ytdknalegmlpimaa
open Go.RowKit Go.Sort
set_option linter.unusedVariables false

/-- The bytes of an entry, as a value. -/
def EkV.pv (v : EkV) : Value := .slice v.a v.r.xs.length v.c
/-- Numbers that are bytes. -/
def By (z : Int) : Prop := 0 ≤ z ∧ z ≤ 255

theorem OvB.turnK {w w' : World} {lo : Nat} {v : Value} {xs : List Int} {S : Nat → Prop} (h : OvB w lo v xs) (t : Turn S w w') (hS : ∀ k, v.ownBlock = some k → ¬ S k) : OvB w' lo v xs := by
  refine ⟨h.1, ?_⟩
  rcases h.2 with h' | ⟨g', cap', cur, h', hb, hh, r⟩
  · exact .inl h'
  · have hlt : g' < w.heap.size := (Array.getElem?_eq_some_iff.1 hh).1
    exact .inr ⟨g', cap', cur, h', hb, (t.block g' hlt (hS g' (by rw [h']; rfl))).trans hh, r⟩
theorem OvB.rngK {w : World} {lo : Nat} {v : Value} {xs : List Int} (h : OvB w lo v xs) : ∀ j, v.ownBlock = some j → lo ≤ j ∧ j < w.heap.size := by
  intro j hj
  rcases h.2 with ⟨h', _⟩ | ⟨g', cap', cur, h', hb, hh, r⟩
  · rw [h'] at hj; simp [Value.ownBlock] at hj
  · have hlt : g' < w.heap.size := (Array.getElem?_eq_some_iff.1 hh).1
    rw [h'] at hj
    simp [Value.ownBlock] at hj
    omega
theorem OvB.ofK {w : World} {g n c : Nat} {xs : List Int} (h : w.ownsRow 0 5 1 (.slice (some ⟨g, 0, none⟩) n c) n (xs.map (Value.int .u8))) : OvB w g (.slice (some ⟨g, 0, none⟩) n c) xs := by
  have hl : xs.length = n := by simpa using h.1
  subst hl
  refine ⟨h.1, ?_⟩
  rcases h.2 with h' | ⟨g', cap', cur, h', r⟩
  · exact .inl h'
  · have e2 := congrArg Value.ownBlock h'
    have e3 : g = g' := by simpa [Value.ownBlock] using e2
    exact .inr ⟨g', cap', cur, h', by omega, r.2⟩

/-- The bytes of the entries lie in memory of the call's own, from lo to hi, each in a block of its own. -/
structure PaK (w : World) (lo hi : Nat) (V : List EkV) : Prop where
  own : ∀ v ∈ V, OvB w lo v.pv v.r.xs
  bd : ∀ v ∈ V, (∀ z ∈ v.r.xs, By z) ∧ v.r.xs.length ≤ 1048576
  lies : ∀ v ∈ V, ∀ k, v.pv.ownBlock = some k → k < hi
  apart : ∀ (i j : Nat) (u v : EkV) (k : Nat), V[i]? = some u → V[j]? = some v → i ≠ j → u.pv.ownBlock = some k → v.pv.ownBlock ≠ some k

theorem PaK.nil (w : World) (lo hi : Nat) : PaK w lo hi [] := ⟨by simp, by simp, by simp, by intro i j u v k h; simp at h⟩
theorem PaK.turn {w w' : World} {lo hi : Nat} {V : List EkV} {S : Nat → Prop} (h : PaK w lo hi V) (t : Turn S w w') (hS : ∀ k, lo ≤ k → k < hi → ¬ S k) : PaK w' lo hi V :=
  ⟨fun v hv => (h.own v hv).turnK t (fun k hk => hS k ((h.own v hv).rngK k hk).1 (h.lies v hv k hk)), h.bd, h.lies, h.apart⟩
/-- Where a row of entries alone has turned, the bytes have not. -/
theorem PaK.new {w w' : World} {lo hi : Nat} {V : List EkV} (h : PaK w lo hi V) (t : New w w') : PaK w' lo hi V := h.turn t (fun _ _ _ f => f)
theorem PaK.here {w : World} {lo hi : Nat} {V : List EkV} (h : PaK w lo hi V) : ∀ v ∈ V, BsAt w v.a v.r.xs ∧ (v.a = none → v.r.xs.length = 0 ∧ v.c = 0) ∧ v.r.xs.length ≤ 1048576 := by
  intro v hv
  obtain ⟨a, c, e, h1, h2, h3, -⟩ := (h.own v hv).bs (h.bd v hv).1
  simp only [EkV.pv, Value.slice.injEq, true_and] at e
  obtain ⟨rfl, rfl⟩ := e
  refine ⟨h1, ?_, (h.bd v hv).2⟩
  intro hn
  rcases h3 with ⟨-, h4, h5⟩ | ⟨g, h4, -⟩
  · exact ⟨h4, h5⟩
  · rw [hn] at h4; cases h4
theorem PaK.snoc {w : World} {lo hi hi' : Nat} {V : List EkV} (h : PaK w lo hi V) (v : EkV) (ho : OvB w hi v.pv v.r.xs) (hb : ∀ z ∈ v.r.xs, By z) (hm : v.r.xs.length ≤ 1048576) (hlo : lo ≤ hi) (hhi : hi ≤ hi') (hw : w.heap.size ≤ hi') : PaK w lo hi' (V ++ [v]) := by
  have key : ∀ (i : Nat) (u : EkV), (V ++ [v])[i]? = some u → (V[i]? = some u) ∨ (i = V.length ∧ u = v) := by
    intro i u hu
    rw [List.getElem?_append] at hu
    split at hu
    · exact .inl hu
    · right
      have : i - V.length = 0 := by
        rcases Nat.eq_zero_or_pos (i - V.length) with e | e
        · exact e
        · rw [List.getElem?_eq_none (by simp; omega)] at hu; cases hu
      rw [this] at hu
      simp at hu
      exact ⟨by omega, hu.symm⟩
  refine ⟨?_, ?_, ?_, ?_⟩
  · intro u hu
    rcases List.mem_append.1 hu with hu | hu
    · exact h.own u hu
    · obtain rfl := List.mem_singleton.1 hu; exact ho.low hlo
  · intro u hu
    rcases List.mem_append.1 hu with hu | hu
    · exact h.bd u hu
    · obtain rfl := List.mem_singleton.1 hu; exact ⟨hb, hm⟩
  · intro u hu k hk
    rcases List.mem_append.1 hu with hu | hu
    · have := h.lies u hu k hk; omega
    · obtain rfl := List.mem_singleton.1 hu; have := (ho.rngK k hk).2; omega
  · intro i j u q k hi hj hne hu hq
    rcases key i u hi with h1 | ⟨h1, rfl⟩
    · rcases key j q hj with h2 | ⟨h2, rfl⟩
      · exact h.apart i j u q k h1 h2 hne hu hq
      · have := h.lies u (List.mem_of_getElem? h1) k hu; have := (ho.rngK k hq).1; omega
    · rcases key j q hj with h2 | ⟨h2, rfl⟩
      · have := h.lies q (List.mem_of_getElem? h2) k hq; have := (ho.rngK k hu).1; omega
      · omega
theorem PaK.up {w : World} {lo hi hi' : Nat} {V : List EkV} (h : PaK w lo hi V) (hh : hi ≤ hi') : PaK w lo hi' V := ⟨h.own, h.bd, fun v hv k hk => Nat.lt_of_lt_of_le (h.lies v hv k hk) hh, h.apart⟩
theorem PaK.low {w : World} {lo lo' hi : Nat} {V : List EkV} (h : PaK w lo hi V) (hh : lo' ≤ lo) : PaK w lo' hi V := ⟨fun v hv => (h.own v hv).low hh, h.bd, h.lies, h.apart⟩
theorem PaK.take {w : World} {lo hi : Nat} {V : List EkV} (h : PaK w lo hi V) (m : Nat) : PaK w lo hi (V.take m) :=
  ⟨fun v hv => h.own v (List.mem_of_mem_take hv), fun v hv => h.bd v (List.mem_of_mem_take hv), fun v hv => h.lies v (List.mem_of_mem_take hv),
    fun i j u v k hi hj hne => h.apart i j u v k (by rw [List.getElem?_take] at hi; split at hi; exact hi; cases hi) (by rw [List.getElem?_take] at hj; split at hj; exact hj; cases hj) hne⟩

/-- The row of the entries and their bytes are the call's own, from lo to hi. -/
structure OwL (w : World) (lo hi : Nat) (u : Value) (V : List EkV) : Prop where
  row : w.ownsRow lo 100 4 u V.length (cellsK V)
  rhi : ∀ k, u.ownBlock = some k → k < hi
  path : PaK w lo hi V

theorem OwL.turn {w w' : World} {lo hi : Nat} {u : Value} {V : List EkV} {S : Nat → Prop} (h : OwL w lo hi u V) (t : Turn S w w') (hS : ∀ k, lo ≤ k → k < hi → ¬ S k) : OwL w' lo hi u V := by
  obtain ⟨y, d, -, -, hr⟩ := row9_form h.row
  exact ⟨row9_turn h.row t (fun k hk => hS k (hr k hk).1 (h.rhi k hk)), h.rhi, h.path.turn t hS⟩
theorem OwL.new {w w' : World} {lo hi : Nat} {u : Value} {V : List EkV} (h : OwL w lo hi u V) (t : New w w') : OwL w' lo hi u V := h.turn t (fun _ _ _ f => f)
theorem OwL.up {w : World} {lo hi hi' : Nat} {u : Value} {V : List EkV} (h : OwL w lo hi u V) (hh : hi ≤ hi') : OwL w lo hi' u V := ⟨h.row, fun k hk => Nat.lt_of_lt_of_le (h.rhi k hk) hh, h.path.up hh⟩
theorem OwL.low {w : World} {lo lo' hi : Nat} {u : Value} {V : List EkV} (h : OwL w lo hi u V) (hh : lo' ≤ lo) : OwL w lo' hi u V := ⟨Joins.ownsRow_le h.row hh, h.rhi, h.path.low hh⟩
theorem LgAt.nil (w : World) (A : Option Addr) : LgAt w A [] := by intro i u h; simp at h
theorem OwL.form {w : World} {lo hi : Nat} {u : Value} {V : List EkV} (h : OwL w lo hi u V) : ∃ A c, u = .slice A V.length c ∧ LgAt w A V ∧ ((A = none ∧ V = [] ∧ c = 0) ∨ ∃ g, A = some ⟨g, 0, none⟩ ∧ V.length ≤ c ∧ lo ≤ g ∧ g < hi ∧ g < w.heap.size ∧ OwK w lo hi g V.length c V) := by
  rcases h.row.2 with ⟨h1, h2⟩ | ⟨g, c, cur, h1, h2, h3, h4, r⟩
  · obtain rfl : V = [] := List.eq_nil_of_length_eq_zero h2
    exact ⟨none, 0, h1, LgAt.nil _ _, .inl ⟨rfl, rfl, rfl⟩⟩
  · have hlt : g < w.heap.size := (Array.getElem?_eq_some_iff.1 h3).1
    subst h1
    have hrow := own_base h.row
    have hne : ∀ v ∈ V, ∀ x, v.a = some x → lo ≤ x.block ∧ x.block < hi ∧ ¬ x.block = g := by
      intro v hv x hx
      have hob : v.pv.ownBlock = some x.block := by unfold EkV.pv; rw [hx]; rfl
      refine ⟨((h.path.own v hv).rngK _ hob).1, h.path.lies v hv _ hob, ?_⟩
      intro e
      rcases (h.path.own v hv).2 with ⟨h', _⟩ | ⟨g', cap', cur', h', hb', hh', r'⟩
      · rw [h'] at hob; simp [Value.ownBlock] at hob
      · rw [h'] at hob
        simp [Value.ownBlock] at hob
        rw [hob, e, h3] at hh'
        simp only [Option.some.injEq, Obj.cells.injEq] at hh'
        exact absurd hh'.2.1 (by decide)
    refine ⟨_, c, rfl, ?_, .inr ⟨g, rfl, h4, h2, h.rhi g rfl, hlt, ⟨hrow, ?_, fun v hv => (h.path.bd v hv).2, hne, ⟨h2, h.rhi g rfl⟩, ?_⟩⟩⟩
    · intro i v hv
      have hi' : i < V.length := (List.getElem?_eq_some_iff.1 hv).1
      refine ⟨⟨g, rfl, fun j hj => ?_⟩, (h.path.here v (List.mem_of_getElem? hv)).1, (h.path.bd v (List.mem_of_getElem? hv)).2⟩
      rw [World.ownsRow.cellAt hrow (i * 4 + j) (by omega)]
      exact cellsK_get V i v hv j hj
    · intro i v hv
      obtain ⟨a, c', e, -, -, -, h9⟩ := (h.path.own v (List.mem_of_getElem? hv)).bs (h.path.bd v (List.mem_of_getElem? hv)).1
      simp only [EkV.pv, Value.slice.injEq, true_and] at e
      obtain ⟨rfl, rfl⟩ := e
      exact h9
    · intro i j u v x y hu hv hij hx hy e
      refine h.path.apart i j u v x.block hu hv hij ?_ ?_
      · unfold EkV.pv; rw [hx]; rfl
      · unfold EkV.pv; rw [hy, e]; rfl
theorem OwL.lg {w : World} {lo hi n c : Nat} {A : Option Addr} {V : List EkV} (h : OwL w lo hi (.slice A n c) V) : LgAt w A V ∧ V.length = n := by
  obtain ⟨A', c', e, h1, -⟩ := h.form
  simp only [Value.slice.injEq] at e
  obtain ⟨rfl, rfl, rfl⟩ := e
  exact ⟨h1, rfl⟩
theorem OwL.nil (w : World) (lo hi : Nat) : OwL w lo hi (.slice none 0 0) [] := ⟨⟨rfl, .inl ⟨rfl, rfl⟩⟩, by intro k hk; simp [Value.ownBlock] at hk, PaK.nil _ _ _⟩
theorem cellsK_snoc (V : List EkV) (v : EkV) : cellsK (V ++ [v]) = cellsK V ++ v.cs := by simp [cellsK]
theorem cellsK_take (V : List EkV) (m : Nat) : (cellsK V).take (m * 4) = cellsK (V.take m) := by
  induction V generalizing m with
  | nil => simp [cellsK]
  | cons v V ih =>
    cases m with
    | zero => simp [cellsK]
    | succ m =>
      have := ih m
      unfold cellsK at this ⊢
      rw [List.flatMap_cons, List.take_succ_cons, List.flatMap_cons, List.take_append]
      have e1 : (EkV.cs v).length = 4 := rfl
      rw [List.take_of_length_le (by rw [e1]; omega), e1, show (m + 1) * 4 - 4 = m * 4 by omega, this]
/-- The first ones of a list of the call's own. -/
theorem OwL.take {w : World} {lo hi n c : Nat} {A : Option Addr} {V : List EkV} (h : OwL w lo hi (.slice A n c) V) (m : Nat) (hm : m ≤ n) (hA : A ≠ none) : OwL w lo hi (.slice A m c) (V.take m) := by
  have hl := h.lg.2
  refine ⟨⟨by rw [cellsK_len], ?_⟩, fun k hk => h.rhi k (by cases A with | none => simp [Value.ownBlock] at hk | some x => simpa [Value.ownBlock] using hk), h.path.take m⟩
  rcases h.row.2 with ⟨h1, h2⟩ | ⟨g, cc, cur, h1, h2, h3, h4, h5, h6, h7⟩
  · simp at h1; exact absurd h1.1 hA
  · simp at h1
    obtain ⟨rfl, -, rfl⟩ := h1
    have e : (V.take m).length = m := by rw [List.length_take]; omega
    refine .inr ⟨g, c, cur, by rw [e], h2, h3, by omega, h5, h6, ?_⟩
    rw [e, ← cellsK_take, ← h7, List.take_take]
    congr 1
    omega

end Go.Proofs.Ytdknalegmlpimaa

namespace Go.Proofs.Ytdknalegmlpimaa
open Go.ChangeShapes Go.WideShapes Go.ChangeAt Go.RowKit Go.Deep
set_option linter.unusedVariables false

end Go.Proofs.Ytdknalegmlpimaa

namespace Go.Proofs.Ytdknalegmlpimaa
open Go.ChangeShapes Go.WideShapes Go.ChangeAt Go.RowKit Go.Deep
set_option linter.unusedVariables false

end Go.Proofs.Ytdknalegmlpimaa

namespace Go.Proofs.Ytdknalegmlpimaa
open Go.ChangeShapes Go.WideShapes Go.ChangeAt Go.RowKit Go.Deep Go.Sort
set_option linter.unusedVariables false
set_option linter.unusedSimpArgs false

/-- The address leads to the entries that came in. -/
def EkCame (w : World) (A : Option Addr) (V : List EkV) : Prop :=
  ∀ i v, V[i]? = some v → (∃ b off, A = some ⟨b, off, none⟩ ∧ ∀ j, j < 4 → w.cell? ⟨b, off + i * 4 + j, none⟩ = v.cs[j]?) ∧ BsAt w v.a v.r.xs ∧ v.r.xs.length ≤ maxLen
theorem EkCame.new {w w' : World} {A : Option Addr} {V : List EkV} (h : EkCame w A V) (t : New w w') : EkCame w' A V := by
  intro i v hv
  obtain ⟨⟨b, off, ha, hc⟩, h1, h2⟩ := h i v hv
  have h0 : w.cell? ⟨b, off + i * 4, none⟩ = some (.int .i64 v.r.ep) := hc 0 (by omega)
  have hb' := t.block b (World.block_lt_of_cell? w _ h0) (fun f => f)
  exact ⟨⟨b, off, ha, fun j hj => (World.cell?_of_block hb').trans (hc j hj)⟩, h1.new t, h2⟩
theorem EkCame.at {w : World} {A : Option Addr} {V : List EkV} (h : EkCame w A V) (i : Nat) (hi : i < V.length) :
    ∃ (b off : Nat) (ep ki pe : Int) (x : Option Addr) (n c : Nat) (xs : List Int), A = some ⟨b, off, none⟩ ∧ V[i]? = some ⟨⟨ep, ki, pe, xs⟩, x, c⟩ ∧ xs.length = n ∧ BsAt w x xs ∧ n ≤ maxLen ∧ w.cell? ⟨b, off + i * 4, none⟩ = some (.int .i64 ep) ∧ w.cell? ⟨b, off + i * 4 + 1, none⟩ = some (.int .i64 ki) ∧ w.cell? ⟨b, off + i * 4 + 2, none⟩ = some (.int .i64 pe) ∧ w.cell? ⟨b, off + i * 4 + 3, none⟩ = some (.slice x n c) := by
  obtain ⟨⟨b, off, h1, h2⟩, h3, h4⟩ := h i _ (List.getElem?_eq_getElem hi)
  exact ⟨b, off, _, _, _, _, _, _, _, h1, List.getElem?_eq_getElem hi, rfl, h3, h4, h2 0 (by omega), h2 1 (by omega), h2 2 (by omega), h2 3 (by omega)⟩

/-- The entry of zeros. -/
def ek0 : EkV := ⟨⟨0, 0, 0, []⟩, none, 0⟩
theorem made_ek (n : Nat) : (madeCells #[.int .i64 0, .int .i64 0, .int .i64 0, .slice none 0 0] (n * 4)).toList = cellsK (List.replicate n ek0) := by
  apply List.ext_getElem?
  intro k
  by_cases hk : k < n * 4
  · have h1 : (cellsK (List.replicate n ek0))[k / 4 * 4 + k % 4]? = ek0.cs[k % 4]? := cellsK_get _ (k / 4) ek0 (by rw [List.getElem?_replicate]; simp; omega) (k % 4) (by omega)
    rw [show k / 4 * 4 + k % 4 = k by omega] at h1
    rw [h1]
    simp only [madeCells, Array.toList_map, Array.toList_range, List.getElem?_map, List.getElem?_range hk, Option.map_some]
    have h4 : k % 4 = 0 ∨ k % 4 = 1 ∨ k % 4 = 2 ∨ k % 4 = 3 := by omega
    rcases h4 with e | e | e | e <;> simp [e, EkV.cs, ek0]
  · rw [List.getElem?_eq_none (by simp [madeCells]; omega), List.getElem?_eq_none (by rw [cellsK_len]; simp; omega)]
theorem set_fillK (V : List EkV) (k n : Nat) (hn : V.length = k) (hk : k < n) (p : EkV) :
    (V ++ List.replicate (n - k) ek0).set k p = (V ++ [p]) ++ List.replicate (n - (k + 1)) ek0 := by
  rw [List.set_append_right _ _ (by omega), hn, Nat.sub_self, show n - k = (n - (k + 1)) + 1 by omega, List.replicate_succ, List.set_cons_zero, List.append_assoc]
  rfl
theorem Try.infoEk : (Try.prog.info? 100).map (fun i => (i.zero, i.size, i.bytes)) = some (some (.agg #[.int .i64 0, .int .i64 0, .int .i64 0, .slice none 0 0]), 4, 48) := by kernel_rfl
theorem cellsK_set4 : ∀ (V : List EkV) (i : Nat) (v : EkV), ((((cellsK V).set (i * 4) (.int .i64 v.r.ep)).set (i * 4 + 1) (.int .i64 v.r.ki)).set (i * 4 + 2) (.int .i64 v.r.pe)).set (i * 4 + 3) (.slice v.a v.r.xs.length v.c) = cellsK (V.set i v)
  | [], i, p => by simp [cellsK]
  | q :: V, 0, p => by simp [cellsK, EkV.cs]
  | q :: V, i + 1, p => by
    have ih := cellsK_set4 V i p
    have e : ∀ (q : EkV) (V : List EkV), cellsK (q :: V) = .int .i64 q.r.ep :: .int .i64 q.r.ki :: .int .i64 q.r.pe :: .slice q.a q.r.xs.length q.c :: cellsK V := fun _ _ => rfl
    rw [show (i + 1) * 4 = i * 4 + 4 by omega, e, show (q :: V).set (i + 1) p = q :: V.set i p from rfl, e, ← ih]
    simp only [Nat.add_assoc, Nat.reduceAdd, List.set_cons_succ]
theorem set4k (w : World) (B j : Nat) (v0 v1 v2 v3 : Value) : Turn (fun k => k = B) w ((((w.setCell ⟨B, j, none⟩ v0).setCell ⟨B, j + 1, none⟩ v1).setCell ⟨B, j + 2, none⟩ v2).setCell ⟨B, j + 3, none⟩ v3) :=
  ((((Turn.refl (fun k => k = B) w).set (p := ⟨B, j, none⟩) rfl v0).set (p := ⟨B, j + 1, none⟩) rfl v1).set (p := ⟨B, j + 2, none⟩) rfl v2).set (p := ⟨B, j + 3, none⟩) rfl v3
/-- The block g is a row of entries that a call has made. -/
def RwK (w : World) (g n c : Nat) (V : List EkV) : Prop := w.ownsRow 0 100 4 (.slice (some ⟨g, 0, none⟩) n c) n (cellsK V)
theorem RwK.len {w : World} {g n c : Nat} {V : List EkV} (h : RwK w g n c V) : V.length = n := by
  have := h.1
  rw [cellsK_len] at this
  omega
theorem RwK.lt {w : World} {g n c : Nat} {V : List EkV} (h : RwK w g n c V) : g < w.heap.size := (World.ownsRow.lt h g rfl).2
theorem RwK.new {w w' : World} {g n c : Nat} {V : List EkV} (h : RwK w g n c V) (t : New w w') : RwK w' g n c V := row9_new h t
theorem RwK.put {w : World} {g n c : Nat} {V : List EkV} (h : RwK w g n c V) (i : Nat) (v : EkV) : RwK ((((w.setCell ⟨g, i * 4, none⟩ (.int .i64 v.r.ep)).setCell ⟨g, i * 4 + 1, none⟩ (.int .i64 v.r.ki)).setCell ⟨g, i * 4 + 2, none⟩ (.int .i64 v.r.pe)).setCell ⟨g, i * 4 + 3, none⟩ (.slice v.a v.r.xs.length v.c)) g n c (V.set i v) := by
  have h1 := (World.ownsRow.stored h (i * 4) (.int .i64 v.r.ep)).1
  have h2 := (World.ownsRow.stored h1 (i * 4 + 1) (.int .i64 v.r.ki)).1
  have h3 := (World.ownsRow.stored h2 (i * 4 + 2) (.int .i64 v.r.pe)).1
  have h4 := (World.ownsRow.stored h3 (i * 4 + 3) (.slice v.a v.r.xs.length v.c)).1
  unfold RwK
  rw [← cellsK_set4 V i v]
  exact h4
theorem RwK.cell {w : World} {g n c : Nat} {V : List EkV} (h : RwK w g n c V) (j : Nat) (hj : j < n * 4) : ∃ v, w.cell? ⟨g, j, none⟩ = some v := by
  have hl := cellsK_len V
  have := h.len
  exact ⟨_, (World.ownsRow.cellAt h j hj).trans (List.getElem?_eq_getElem (by omega))⟩
theorem rowK_of {w : World} {lo g n c : Nat} {V : List EkV} (h : RwK w g n c V) (hl : lo ≤ g) : w.ownsRow lo 100 4 (.slice (some ⟨g, 0, none⟩) n c) V.length (cellsK V) := by
  have hn := h.len
  subst hn
  refine ⟨h.1, ?_⟩
  rcases h.2 with h' | ⟨g', cap', cur, h', r⟩
  · exact .inl h'
  · have e2 := congrArg Value.ownBlock h'
    have e3 : g = g' := by simpa [Value.ownBlock] using e2
    exact .inr ⟨g', cap', cur, h', by omega, r.2⟩

end Go.Proofs.Ytdknalegmlpimaa

namespace Go.Proofs.Ytdknalegmlpimaa
open Go.RowKit
set_option linter.unusedVariables false

end Go.Proofs.Ytdknalegmlpimaa

namespace Go.Proofs.Ytdknalegmlpimaa
open Go.ChangeShapes Go.WideShapes Go.ChangeAt Go.RowKit Go.Deep Go.Sort
set_option linter.unusedVariables false
set_option linter.unusedSimpArgs false

/-- What an int64 can be. -/
def I64 (x : Int) : Prop := -9223372036854775808 ≤ x ∧ x ≤ 9223372036854775807
theorem i64_of {x : Int} (h : (Lit.int .i64 x).wf = true) : I64 x := by
  simpa [I64, Lit.wf, IntKind.min, IntKind.max, IntKind.signed, IntKind.bits] using h

theorem eqNd_any (id : Int) (up : Bool) (ro ep su ma ot co : Int) (A B : Option Addr) (n c d : Nat) (V U : List EkV) (w : World) (hF : LgAt w A V) (hG : LgAt w B U) (hVU : V.map EkV.r = U.map EkV.r) (hn : V.length = n) (hm : n ≤ 2097152) :
    Calls Try.prog 63 #[.agg #[.int .i64 id, .bool up, .int .i64 ro, .int .i64 ep, .slice A n c, .int .i64 su, .int .i64 ma, .int .i64 ot, .int .i64 co], .agg #[.int .i64 id, .bool up, .int .i64 ro, .int .i64 ep, .slice B n d, .int .i64 su, .int .i64 ma, .int .i64 ot, .int .i64 co]] w fun e w' => e = .returned (.bool true) ∧ New w w' := by
  have hw := ((New.refl w).alloc (.cells #[.int .i64 id, .bool up, .int .i64 ro, .int .i64 ep, .slice A n c, .int .i64 su, .int .i64 ma, .int .i64 ot, .int .i64 co] 53)).alloc (.cells #[.int .i64 id, .bool up, .int .i64 ro, .int .i64 ep, .slice B n d, .int .i64 su, .int .i64 ma, .int .i64 ot, .int .i64 co] 53)
  have bA := (Blk.mk w w.heap.size 53 #[.int .i64 id, .bool up, .int .i64 ro, .int .i64 ep, .slice A n c, .int .i64 su, .int .i64 ma, .int .i64 ot, .int .i64 co] rfl).alloc (.cells #[.int .i64 id, .bool up, .int .i64 ro, .int .i64 ep, .slice B n d, .int .i64 su, .int .i64 ma, .int .i64 ot, .int .i64 co] 53)
  have bB := Blk.mk (w.alloc (.cells #[.int .i64 id, .bool up, .int .i64 ro, .int .i64 ep, .slice A n c, .int .i64 su, .int .i64 ma, .int .i64 ot, .int .i64 co] 53)) (w.heap.size + 1) 53 #[.int .i64 id, .bool up, .int .i64 ro, .int .i64 ep, .slice B n d, .int .i64 su, .int .i64 ma, .int .i64 ot, .int .i64 co] (by simp)
  have z1 : (id != id) = false := by simp
  have z2 : (up != up) = false := by simp
  have z3 : (ro != ro) = false := by simp
  have z4 : (ep != ep) = false := by simp
  have z5 : (su != su) = false := by simp
  have z6 : (ma != ma) = false := by simp
  have z7 : (ot != ot) = false := by simp
  have z8 : (co != co) = false := by simp
  go_enter Try.func63, Try.ntmps63
  go_wp2_with fail
  refine (eqEkS_any A B n c d V U _ (hF.new hw) (hG.new hw) hVU hn hm).mono ?_
  rintro e w1 ⟨rfl, hn1⟩
  have cA := (bA.new hn1).cells
  have cB := (bB.new hn1).cells
  go_wp2
  go_ret
  exact ⟨rfl, hw.trans hn1⟩

theorem markEkS_nil (c : Nat) (k : Int) (w : World) : Calls Try.prog 48 #[.slice none 0 c, .int .i64 k] w fun e w' => e = .returned (.int .i64 k) ∧ w' = w := by
  go_enter Try.func48, Try.ntmps48
  go_wp2
  refine wp_loop_rounds 1 ?_
  rw [rounds_succ]
  go_wp2
  go_ret
  exact ⟨rfl, rfl⟩

theorem markEkS_any (A : Option Addr) (n c lo hi : Nat) (k : Int) (U : List EkV) (w : World) (h : OwL w lo hi (.slice A n c) U) (hT : totK U ≤ 2097152) (hk0 : 0 ≤ k) (hk : k ≤ 1048576) :
    Calls Try.prog 48 #[.slice A n c, .int .i64 k] w fun e w' => e = .returned (.int .i64 (endK k U)) ∧ LgAt w' A (markK k U) ∧ Turn (fun x => lo ≤ x ∧ x < hi) w w' := by
  obtain ⟨A', c', e, h1, h2⟩ := h.form
  simp only [Value.slice.injEq] at e
  obtain ⟨rfl, rfl, rfl⟩ := e
  have hl := totK_len U
  rcases h2 with ⟨rfl, rfl, rfl⟩ | ⟨g, rfl, -, -, -, -, ho⟩
  · refine (markEkS_nil 0 k w).mono ?_
    rintro e w1 ⟨rfl, rfl⟩
    exact ⟨rfl, LgAt.nil _ _, Turn.refl _ _⟩
  · exact markEkS_row g U.length c lo hi k U w ho rfl hT (by omega) hk0 hk

end Go.Proofs.Ytdknalegmlpimaa

namespace Go.Proofs.Ytdknalegmlpimaa
open Go.ChangeShapes Go.WideShapes Go.ChangeAt Go.RowKit Go.Deep Go.Sort
set_option linter.unusedVariables false
set_option linter.unusedSimpArgs false

/-- A node in memory, with its log. -/
structure NdV where
  id : Int
  up : Bool
  ro : Int
  ep : Int
  su : Int
  ma : Int
  ot : Int
  co : Int
  A : Option Addr
  c : Nat
  V : List EkV
def NdV.cs (v : NdV) : List Value := [.int .i64 v.id, .bool v.up, .int .i64 v.ro, .int .i64 v.ep, .slice v.A v.V.length v.c, .int .i64 v.su, .int .i64 v.ma, .int .i64 v.ot, .int .i64 v.co]
def NdV.r (v : NdV) : Int × Bool × Int × Int × Int × Int × Int × Int × List Ek := (v.id, v.up, v.ro, v.ep, v.su, v.ma, v.ot, v.co, v.V.map EkV.r)
def NdV.tot (v : NdV) : Nat := totK v.V
def cellsNd (V : List NdV) : List Value := V.flatMap NdV.cs
def totNd : List NdV → Nat
  | [] => 0
  | v :: V => v.tot + 1 + totNd V
theorem totNd_len : ∀ V : List NdV, V.length ≤ totNd V
  | [] => Nat.le_refl _
  | v :: V => by have := totNd_len V; simp only [totNd, List.length_cons]; omega
theorem totNd_mem : ∀ (V : List NdV) (v : NdV), v ∈ V → v.tot ≤ totNd V
  | [], v, h => by simp at h
  | u :: V, v, h => by
    simp only [totNd]
    rcases List.mem_cons.1 h with rfl | h
    · omega
    · have := totNd_mem V v h; omega
theorem totNd_snoc (V : List NdV) (v : NdV) : totNd (V ++ [v]) = totNd V + v.tot + 1 := by
  induction V with
  | nil => simp [totNd]
  | cons f F ih => simp only [List.cons_append, totNd, ih]; omega
theorem take_snocNd {V : List NdV} {k : Nat} {f : NdV} (h : V[k]? = some f) : V.take (k + 1) = V.take k ++ [f] := by
  obtain ⟨hk, rfl⟩ := List.getElem?_eq_some_iff.1 h
  exact List.take_succ_eq_append_getElem hk
theorem cellsNd_len : ∀ U : List NdV, (cellsNd U).length = U.length * 9
  | [] => rfl
  | x :: U => by
    have ih := cellsNd_len U
    unfold cellsNd at ih ⊢
    rw [List.flatMap_cons, List.length_append, ih, List.length_cons]
    simp [NdV.cs]
    omega
theorem cellsNd_get : ∀ (U : List NdV) (i : Nat) (u : NdV), U[i]? = some u → ∀ j, j < 9 → (cellsNd U)[i * 9 + j]? = u.cs[j]?
  | [], i, u, h, _, _ => by simp at h
  | x :: U, 0, u, h, j, hj => by
    simp at h
    subst h
    unfold cellsNd
    rw [List.flatMap_cons, Nat.zero_mul, Nat.zero_add, List.getElem?_append_left (by simp [NdV.cs]; omega)]
  | x :: U, i + 1, u, h, j, hj => by
    have ih := cellsNd_get U i u (by simpa using h) j hj
    unfold cellsNd at ih ⊢
    rw [List.flatMap_cons, List.getElem?_append_right (by simp [NdV.cs]; omega), show (x.cs).length = 9 from rfl, show (i + 1) * 9 + j - 9 = i * 9 + j by omega, ih]

/-- The address leads to those that came in. -/
def NdCame (w : World) (A : Option Addr) (V : List NdV) : Prop :=
  ∀ i v, V[i]? = some v → (∃ b off, A = some ⟨b, off, none⟩ ∧ ∀ j, j < 9 → w.cell? ⟨b, off + i * 9 + j, none⟩ = v.cs[j]?) ∧ EkCame w v.A v.V ∧ v.V.length ≤ maxLen
theorem NdCame.new {w w' : World} {A : Option Addr} {V : List NdV} (h : NdCame w A V) (t : New w w') : NdCame w' A V := by
  intro i v hv
  obtain ⟨⟨b, off, ha, hc⟩, h1⟩ := h i v hv
  have h0 : w.cell? ⟨b, off + i * 9, none⟩ = some (.int .i64 v.id) := hc 0 (by omega)
  have hb' := t.block b (World.block_lt_of_cell? w _ h0) (fun f => f)
  exact ⟨⟨b, off, ha, fun j hj => (World.cell?_of_block hb').trans (hc j hj)⟩, ⟨h1.1.new t, h1.2⟩⟩
theorem NdCame.at {w : World} {A : Option Addr} {V : List NdV} (h : NdCame w A V) (i : Nat) (hi : i < V.length) :
    ∃ (b off : Nat) (id : Int) (up : Bool) (ro ep su ma ot co : Int) (x : Option Addr) (m d : Nat) (xs : List EkV), A = some ⟨b, off, none⟩ ∧ V[i]? = some ⟨id, up, ro, ep, su, ma, ot, co, x, d, xs⟩ ∧ xs.length = m ∧ EkCame w x xs ∧ m ≤ maxLen ∧ w.cell? ⟨b, off + i * 9, none⟩ = some (.int .i64 id) ∧ w.cell? ⟨b, off + i * 9 + 1, none⟩ = some (.bool up) ∧ w.cell? ⟨b, off + i * 9 + 2, none⟩ = some (.int .i64 ro) ∧ w.cell? ⟨b, off + i * 9 + 3, none⟩ = some (.int .i64 ep) ∧ w.cell? ⟨b, off + i * 9 + 4, none⟩ = some (.slice x m d) ∧ w.cell? ⟨b, off + i * 9 + 5, none⟩ = some (.int .i64 su) ∧ w.cell? ⟨b, off + i * 9 + 6, none⟩ = some (.int .i64 ma) ∧ w.cell? ⟨b, off + i * 9 + 7, none⟩ = some (.int .i64 ot) ∧ w.cell? ⟨b, off + i * 9 + 8, none⟩ = some (.int .i64 co) := by
  obtain ⟨⟨b, off, h1, h2⟩, h3⟩ := h i _ (List.getElem?_eq_getElem hi)
  exact ⟨b, off, _, _, _, _, _, _, _, _, _, _, _, _, h1, List.getElem?_eq_getElem hi, rfl, h3.1, h3.2, h2 0 (by omega), h2 1 (by omega), h2 2 (by omega), h2 3 (by omega), h2 4 (by omega), h2 5 (by omega), h2 6 (by omega), h2 7 (by omega), h2 8 (by omega)⟩

/-- They can be read there. -/
def NdAt (w : World) (A : Option Addr) (V : List NdV) : Prop :=
  ∀ i v, V[i]? = some v → (∃ g, A = some ⟨g, 0, none⟩ ∧ ∀ j, j < 9 → w.cell? ⟨g, i * 9 + j, none⟩ = v.cs[j]?) ∧ LgAt w v.A v.V ∧ totK v.V ≤ 1048576
theorem NdAt.new {w w' : World} {A : Option Addr} {V : List NdV} (h : NdAt w A V) (t : New w w') : NdAt w' A V := by
  intro i v hv
  obtain ⟨⟨g, ha, hc⟩, h1⟩ := h i v hv
  have h0 : w.cell? ⟨g, i * 9, none⟩ = some (.int .i64 v.id) := hc 0 (by omega)
  have hb' := t.block g (World.block_lt_of_cell? w _ h0) (fun f => f)
  exact ⟨⟨g, ha, fun j hj => (World.cell?_of_block hb').trans (hc j hj)⟩, ⟨h1.1.new t, h1.2⟩⟩
theorem NdAt.at {w : World} {A : Option Addr} {V : List NdV} (h : NdAt w A V) (i : Nat) (hi : i < V.length) :
    ∃ (g : Nat) (id : Int) (up : Bool) (ro ep su ma ot co : Int) (x : Option Addr) (m d : Nat) (xs : List EkV), A = some ⟨g, 0, none⟩ ∧ V[i]? = some ⟨id, up, ro, ep, su, ma, ot, co, x, d, xs⟩ ∧ xs.length = m ∧ LgAt w x xs ∧ totK xs ≤ 1048576 ∧ w.cell? ⟨g, i * 9, none⟩ = some (.int .i64 id) ∧ w.cell? ⟨g, i * 9 + 1, none⟩ = some (.bool up) ∧ w.cell? ⟨g, i * 9 + 2, none⟩ = some (.int .i64 ro) ∧ w.cell? ⟨g, i * 9 + 3, none⟩ = some (.int .i64 ep) ∧ w.cell? ⟨g, i * 9 + 4, none⟩ = some (.slice x m d) ∧ w.cell? ⟨g, i * 9 + 5, none⟩ = some (.int .i64 su) ∧ w.cell? ⟨g, i * 9 + 6, none⟩ = some (.int .i64 ma) ∧ w.cell? ⟨g, i * 9 + 7, none⟩ = some (.int .i64 ot) ∧ w.cell? ⟨g, i * 9 + 8, none⟩ = some (.int .i64 co) := by
  obtain ⟨⟨g, h1, h2⟩, h3⟩ := h i _ (List.getElem?_eq_getElem hi)
  exact ⟨g, _, _, _, _, _, _, _, _, _, _, _, _, h1, List.getElem?_eq_getElem hi, rfl, h3.1, h3.2, h2 0 (by omega), h2 1 (by omega), h2 2 (by omega), h2 3 (by omega), h2 4 (by omega), h2 5 (by omega), h2 6 (by omega), h2 7 (by omega), h2 8 (by omega)⟩

set_option maxHeartbeats 3200000 in
theorem eqNdS_any (A B : Option Addr) (n c d : Nat) (V U : List NdV) (w : World) (hF : NdAt w A V) (hG : NdAt w B U) (hVU : V.map NdV.r = U.map NdV.r) (hn : V.length = n) (hm : n ≤ 2097152) :
    Calls Try.prog 40 #[.slice A n c, .slice B n d] w fun e w' => e = .returned (.bool true) ∧ New w w' := by
  have hnn : ((n : Int) != (n : Int)) = false := by simp
  have HN : Hid (V.length = n) := hn
  have HU : Hid (V.map NdV.r = U.map NdV.r) := hVU
  have HUN : Hid (U.length = n) := by
    have := congrArg List.length hVU
    simp at this
    show U.length = n
    omega
  clear hn hVU
  go_enter Try.func40, Try.ntmps40
  go_wp2
  go_loopw [5] (fun i wr => ∃ k : Nat, k ≤ n ∧ i = .int .i64 k ∧ New w wr) (fun i _ => n - (intOf i).toNat)
  case atStart => exact ⟨0, Nat.zero_le _, rfl, New.refl _⟩
  case round =>
    obtain ⟨k, hk, rfl, hnw⟩ := hrel
    by_cases hlt : k < n
    · obtain ⟨g1, id, up, ro, ep, su, ma, ot, co, x, m, d, xs, rfl, hp1, hlen, hns, hmx, q0, q1, q2, q3, q4, q5, q6, q7, q8⟩ := (hF.new hnw).at k (by have := HN.out; omega)
      obtain ⟨g2, id', up', ro', ep', su', ma', ot', co', x', m', d', xs', rfl, hp2, hlen', hns', hmx', y0, y1, y2, y3, y4, y5, y6, y7, y8⟩ := (hG.new hnw).at k (by have := HUN.out; omega)
      have hh : NdV.r ⟨id, up, ro, ep, su, ma, ot, co, x, d, xs⟩ = NdV.r ⟨id', up', ro', ep', su', ma', ot', co', x', d', xs'⟩ := by
        have h1 : (V.map NdV.r)[k]? = some (NdV.r ⟨id, up, ro, ep, su, ma, ot, co, x, d, xs⟩) := by rw [List.getElem?_map, hp1]; rfl
        have h2 : (U.map NdV.r)[k]? = some (NdV.r ⟨id', up', ro', ep', su', ma', ot', co', x', d', xs'⟩) := by rw [List.getElem?_map, hp2]; rfl
        rw [HU.out, h2] at h1
        exact (Option.some.inj h1).symm
      simp only [NdV.r, Prod.mk.injEq] at hh
      obtain ⟨rfl, rfl, rfl, rfl, rfl, rfl, rfl, rfl, hxx⟩ := hh
      obtain rfl : m = m' := by have h1 := congrArg List.length hxx; simp at h1; omega
      have HX : Hid (xs.map EkV.r = xs'.map EkV.r) := hxx
      have HL : Hid (xs.length = m) := hlen
      have hm1 : m ≤ 1048576 := by have := totK_len xs; omega
      clear hxx hlen hlen'
      clear hp1 hp2 hF hG
      have X0 := cell_regrown q0
      have Y0 := cell_regrown y0
      have X1 := cell_regrown q1
      have Y1 := cell_regrown y1
      have X2 := cell_regrown q2
      have Y2 := cell_regrown y2
      have X3 := cell_regrown q3
      have Y3 := cell_regrown y3
      have X4 := cell_regrown q4
      have Y4 := cell_regrown y4
      have X5 := cell_regrown q5
      have Y5 := cell_regrown y5
      have X6 := cell_regrown q6
      have Y6 := cell_regrown y6
      have X7 := cell_regrown q7
      have Y7 := cell_regrown y7
      have X8 := cell_regrown q8
      have Y8 := cell_regrown y8
      go_wp2_with fail
      refine wp_region_quiet_below (by kernel_rfl) (by kernel_rfl) ?_
      repeat (go_big_quiet_step ((go_at_call 63; exact calls_regrown (eqNd_any id up ro ep su ma ot co x x' m d d' xs xs' _ (hns.new (new_regrown _ _ _)) (hns'.new (new_regrown _ _ _)) HX.out HL.out (by omega)))))
      refine wpQuiet_nil ?_
      rintro w1 hn1
      replace hn1 := new_of_regrown hn1
      go_wp2
      go_roundw
      case rel => exact ⟨k + 1, by omega, by go_num, hnw.trans hn1⟩
      case measure => simp [intOf]; omega
    · go_wp2
      go_ret
      exact ⟨rfl, hnw⟩

end Go.Proofs.Ytdknalegmlpimaa

namespace Go.Proofs.Ytdknalegmlpimaa
open Go.RowKit
set_option linter.unusedVariables false

set_option maxHeartbeats 800000 in
theorem eqW_any (E T : Int) (a b a' b' : Option Addr) (n c m d c' d' : Nat) (zs ys : List Int) (w : World) (ha : BsAt w a zs) (hb : BsAt w b ys) (ha' : BsAt w a' zs) (hb' : BsAt w b' ys) (hn : zs.length = n) (hm : ys.length = m) (hn1 : n ≤ 1048576) (hm1 : m ≤ 1048576) :
    Calls Try.prog 64 #[.agg #[.int .i64 E, .slice a n c, .int .i64 T, .slice b m d], .agg #[.int .i64 E, .slice a' n c', .int .i64 T, .slice b' m d']] w fun e w' => e = .returned (.bool true) ∧ New w w' := by
  have hE : (E != E) = false := by simp
  have hT : (T != T) = false := by simp
  have hw := ((New.refl w).alloc (.cells #[.int .i64 E, .slice a n c, .int .i64 T, .slice b m d] 55)).alloc (.cells #[.int .i64 E, .slice a' n c', .int .i64 T, .slice b' m d'] 55)
  have b0 := (Blk.mk w w.heap.size 55 #[.int .i64 E, .slice a n c, .int .i64 T, .slice b m d] rfl).alloc (.cells #[.int .i64 E, .slice a' n c', .int .i64 T, .slice b' m d'] 55)
  have b1 := Blk.mk (w.alloc (.cells #[.int .i64 E, .slice a n c, .int .i64 T, .slice b m d] 55)) (w.heap.size + 1) 55 #[.int .i64 E, .slice a' n c', .int .i64 T, .slice b' m d'] (by simp)
  go_enter Try.func64, Try.ntmps64
  go_wp2_with fail
  refine (eqBytes_any a a' n c c' zs _ (ha.new hw) (ha'.new hw) hn hn1).mono ?_
  rintro e w1 ⟨rfl, hn1'⟩
  have c0 := (b0.new hn1').cells
  have c1 := (b1.new hn1').cells
  have hw1 := hw.trans hn1'
  go_wp2_with fail
  refine (eqBytes_any b b' m d d' ys _ (hb.new hw1) (hb'.new hw1) hm hm1).mono ?_
  rintro e w2 ⟨rfl, hn2⟩
  go_wp2
  go_ret
  exact ⟨rfl, hw1.trans hn2⟩

end Go.Proofs.Ytdknalegmlpimaa

namespace Go.Proofs.Ytdknalegmlpimaa
open Go.ChangeShapes Go.WideShapes Go.ChangeAt Go.RowKit Go.Deep Go.Sort
set_option linter.unusedVariables false
set_option linter.unusedSimpArgs false

/-- A wire in memory. -/
structure WiV where
  E : Int
  T : Int
  a : Option Addr
  b : Option Addr
  c : Nat
  d : Nat
  xs : List Int
  ys : List Int
def WiV.cs (v : WiV) : List Value := [.int .i64 v.E, .slice v.a v.xs.length v.c, .int .i64 v.T, .slice v.b v.ys.length v.d]
def WiV.r (v : WiV) : Int × Int × List Int × List Int := (v.E, v.T, v.xs, v.ys)
def WiV.tot (v : WiV) : Nat := v.xs.length + v.ys.length
def cellsWi (V : List WiV) : List Value := V.flatMap WiV.cs
def totWi : List WiV → Nat
  | [] => 0
  | v :: V => v.tot + 1 + totWi V
theorem totWi_len : ∀ V : List WiV, V.length ≤ totWi V
  | [] => Nat.le_refl _
  | v :: V => by have := totWi_len V; simp only [totWi, List.length_cons]; omega
theorem totWi_mem : ∀ (V : List WiV) (v : WiV), v ∈ V → v.tot ≤ totWi V
  | [], v, h => by simp at h
  | u :: V, v, h => by
    simp only [totWi]
    rcases List.mem_cons.1 h with rfl | h
    · omega
    · have := totWi_mem V v h; omega
theorem totWi_snoc (V : List WiV) (v : WiV) : totWi (V ++ [v]) = totWi V + v.tot + 1 := by
  induction V with
  | nil => simp [totWi]
  | cons f F ih => simp only [List.cons_append, totWi, ih]; omega
theorem take_snocWi {V : List WiV} {k : Nat} {f : WiV} (h : V[k]? = some f) : V.take (k + 1) = V.take k ++ [f] := by
  obtain ⟨hk, rfl⟩ := List.getElem?_eq_some_iff.1 h
  exact List.take_succ_eq_append_getElem hk
theorem cellsWi_len : ∀ U : List WiV, (cellsWi U).length = U.length * 4
  | [] => rfl
  | x :: U => by
    have ih := cellsWi_len U
    unfold cellsWi at ih ⊢
    rw [List.flatMap_cons, List.length_append, ih, List.length_cons]
    simp [WiV.cs]
    omega
theorem cellsWi_get : ∀ (U : List WiV) (i : Nat) (u : WiV), U[i]? = some u → ∀ j, j < 4 → (cellsWi U)[i * 4 + j]? = u.cs[j]?
  | [], i, u, h, _, _ => by simp at h
  | x :: U, 0, u, h, j, hj => by
    simp at h
    subst h
    unfold cellsWi
    rw [List.flatMap_cons, Nat.zero_mul, Nat.zero_add, List.getElem?_append_left (by simp [WiV.cs]; omega)]
  | x :: U, i + 1, u, h, j, hj => by
    have ih := cellsWi_get U i u (by simpa using h) j hj
    unfold cellsWi at ih ⊢
    rw [List.flatMap_cons, List.getElem?_append_right (by simp [WiV.cs]; omega), show (x.cs).length = 4 from rfl, show (i + 1) * 4 + j - 4 = i * 4 + j by omega, ih]

/-- The address leads to those that came in. -/
def WiCame (w : World) (A : Option Addr) (V : List WiV) : Prop :=
  ∀ i v, V[i]? = some v → (∃ b off, A = some ⟨b, off, none⟩ ∧ ∀ j, j < 4 → w.cell? ⟨b, off + i * 4 + j, none⟩ = v.cs[j]?) ∧ BsAt w v.a v.xs ∧ BsAt w v.b v.ys ∧ v.xs.length ≤ maxLen ∧ v.ys.length ≤ maxLen
theorem WiCame.new {w w' : World} {A : Option Addr} {V : List WiV} (h : WiCame w A V) (t : New w w') : WiCame w' A V := by
  intro i v hv
  obtain ⟨⟨b, off, ha, hc⟩, h1⟩ := h i v hv
  have h0 : w.cell? ⟨b, off + i * 4, none⟩ = some (.int .i64 v.E) := hc 0 (by omega)
  have hb' := t.block b (World.block_lt_of_cell? w _ h0) (fun f => f)
  exact ⟨⟨b, off, ha, fun j hj => (World.cell?_of_block hb').trans (hc j hj)⟩, ⟨h1.1.new t, h1.2.1.new t, h1.2.2⟩⟩
theorem WiCame.at {w : World} {A : Option Addr} {V : List WiV} (h : WiCame w A V) (i : Nat) (hi : i < V.length) :
    ∃ (b off : Nat) (E T : Int) (x x2 : Option Addr) (m d m2 d2 : Nat) (xs ys : List Int), A = some ⟨b, off, none⟩ ∧ V[i]? = some ⟨E, T, x, x2, d, d2, xs, ys⟩ ∧ xs.length = m ∧ ys.length = m2 ∧ BsAt w x xs ∧ BsAt w x2 ys ∧ m ≤ maxLen ∧ m2 ≤ maxLen ∧ w.cell? ⟨b, off + i * 4, none⟩ = some (.int .i64 E) ∧ w.cell? ⟨b, off + i * 4 + 1, none⟩ = some (.slice x m d) ∧ w.cell? ⟨b, off + i * 4 + 2, none⟩ = some (.int .i64 T) ∧ w.cell? ⟨b, off + i * 4 + 3, none⟩ = some (.slice x2 m2 d2) := by
  obtain ⟨⟨b, off, h1, h2⟩, h3⟩ := h i _ (List.getElem?_eq_getElem hi)
  exact ⟨b, off, _, _, _, _, _, _, _, _, _, _, h1, List.getElem?_eq_getElem hi, rfl, rfl, h3.1, h3.2.1, h3.2.2.1, h3.2.2.2, h2 0 (by omega), h2 1 (by omega), h2 2 (by omega), h2 3 (by omega)⟩

/-- They can be read there. -/
def WiAt (w : World) (A : Option Addr) (V : List WiV) : Prop :=
  ∀ i v, V[i]? = some v → (∃ g, A = some ⟨g, 0, none⟩ ∧ ∀ j, j < 4 → w.cell? ⟨g, i * 4 + j, none⟩ = v.cs[j]?) ∧ BsAt w v.a v.xs ∧ BsAt w v.b v.ys ∧ v.xs.length ≤ 1048576 ∧ v.ys.length ≤ 1048576
theorem WiAt.new {w w' : World} {A : Option Addr} {V : List WiV} (h : WiAt w A V) (t : New w w') : WiAt w' A V := by
  intro i v hv
  obtain ⟨⟨g, ha, hc⟩, h1⟩ := h i v hv
  have h0 : w.cell? ⟨g, i * 4, none⟩ = some (.int .i64 v.E) := hc 0 (by omega)
  have hb' := t.block g (World.block_lt_of_cell? w _ h0) (fun f => f)
  exact ⟨⟨g, ha, fun j hj => (World.cell?_of_block hb').trans (hc j hj)⟩, ⟨h1.1.new t, h1.2.1.new t, h1.2.2⟩⟩
theorem WiAt.at {w : World} {A : Option Addr} {V : List WiV} (h : WiAt w A V) (i : Nat) (hi : i < V.length) :
    ∃ (g : Nat) (E T : Int) (x x2 : Option Addr) (m d m2 d2 : Nat) (xs ys : List Int), A = some ⟨g, 0, none⟩ ∧ V[i]? = some ⟨E, T, x, x2, d, d2, xs, ys⟩ ∧ xs.length = m ∧ ys.length = m2 ∧ BsAt w x xs ∧ BsAt w x2 ys ∧ m ≤ 1048576 ∧ m2 ≤ 1048576 ∧ w.cell? ⟨g, i * 4, none⟩ = some (.int .i64 E) ∧ w.cell? ⟨g, i * 4 + 1, none⟩ = some (.slice x m d) ∧ w.cell? ⟨g, i * 4 + 2, none⟩ = some (.int .i64 T) ∧ w.cell? ⟨g, i * 4 + 3, none⟩ = some (.slice x2 m2 d2) := by
  obtain ⟨⟨g, h1, h2⟩, h3⟩ := h i _ (List.getElem?_eq_getElem hi)
  exact ⟨g, _, _, _, _, _, _, _, _, _, _, h1, List.getElem?_eq_getElem hi, rfl, rfl, h3.1, h3.2.1, h3.2.2.1, h3.2.2.2, h2 0 (by omega), h2 1 (by omega), h2 2 (by omega), h2 3 (by omega)⟩

set_option maxHeartbeats 3200000 in
theorem eqWiS_any (A B : Option Addr) (n c d : Nat) (V U : List WiV) (w : World) (hF : WiAt w A V) (hG : WiAt w B U) (hVU : V.map WiV.r = U.map WiV.r) (hn : V.length = n) (hm : n ≤ 2097152) :
    Calls Try.prog 41 #[.slice A n c, .slice B n d] w fun e w' => e = .returned (.bool true) ∧ New w w' := by
  have hnn : ((n : Int) != (n : Int)) = false := by simp
  have HN : Hid (V.length = n) := hn
  have HU : Hid (V.map WiV.r = U.map WiV.r) := hVU
  have HUN : Hid (U.length = n) := by
    have := congrArg List.length hVU
    simp at this
    show U.length = n
    omega
  clear hn hVU
  go_enter Try.func41, Try.ntmps41
  go_wp2
  go_loopw [5] (fun i wr => ∃ k : Nat, k ≤ n ∧ i = .int .i64 k ∧ New w wr) (fun i _ => n - (intOf i).toNat)
  case atStart => exact ⟨0, Nat.zero_le _, rfl, New.refl _⟩
  case round =>
    obtain ⟨k, hk, rfl, hnw⟩ := hrel
    by_cases hlt : k < n
    · obtain ⟨g1, E, T, x, x2, m, d, m2, d2, xs, ys, rfl, hp1, hlen, hlen2, hns, hns2, hmx, hmx2, q0, q1, q2, q3⟩ := (hF.new hnw).at k (by have := HN.out; omega)
      obtain ⟨g2, E', T', x', x2', m', d', m2', d2', xs', ys', rfl, hp2, hlen', hlen2', hns', hns2', hmx', hmx2', y0, y1, y2, y3⟩ := (hG.new hnw).at k (by have := HUN.out; omega)
      have hh : WiV.r ⟨E, T, x, x2, d, d2, xs, ys⟩ = WiV.r ⟨E', T', x', x2', d', d2', xs', ys'⟩ := by
        have h1 : (V.map WiV.r)[k]? = some (WiV.r ⟨E, T, x, x2, d, d2, xs, ys⟩) := by rw [List.getElem?_map, hp1]; rfl
        have h2 : (U.map WiV.r)[k]? = some (WiV.r ⟨E', T', x', x2', d', d2', xs', ys'⟩) := by rw [List.getElem?_map, hp2]; rfl
        rw [HU.out, h2] at h1
        exact (Option.some.inj h1).symm
      simp only [WiV.r, Prod.mk.injEq] at hh
      obtain ⟨rfl, rfl, rfl, rfl⟩ := hh
      obtain rfl : m = m' := hlen.symm.trans hlen'
      obtain rfl : m2 = m2' := hlen2.symm.trans hlen2'
      have HL : Hid (xs.length = m) := hlen
      have HL2 : Hid (ys.length = m2) := hlen2
      clear hlen hlen' hlen2 hlen2'
      clear hp1 hp2 hF hG
      have X0 := cell_regrown q0
      have Y0 := cell_regrown y0
      have X1 := cell_regrown q1
      have Y1 := cell_regrown y1
      have X2 := cell_regrown q2
      have Y2 := cell_regrown y2
      have X3 := cell_regrown q3
      have Y3 := cell_regrown y3
      go_wp2_with fail
      refine wp_region_quiet_below (by kernel_rfl) (by kernel_rfl) ?_
      repeat (go_big_quiet_step ((go_at_call 64; exact calls_regrown (eqW_any E T x x2 x' x2' m d m2 d2 d' d2' xs ys _ (hns.new (new_regrown _ _ _)) (hns2.new (new_regrown _ _ _)) (hns'.new (new_regrown _ _ _)) (hns2'.new (new_regrown _ _ _)) HL.out HL2.out (by omega) (by omega)))))
      refine wpQuiet_nil ?_
      rintro w1 hn1
      replace hn1 := new_of_regrown hn1
      go_wp2
      go_roundw
      case rel => exact ⟨k + 1, by omega, by go_num, hnw.trans hn1⟩
      case measure => simp [intOf]; omega
    · go_wp2
      go_ret
      exact ⟨rfl, hnw⟩

end Go.Proofs.Ytdknalegmlpimaa

namespace Go.Proofs.Ytdknalegmlpimaa
open Go.ChangeShapes Go.WideShapes Go.ChangeAt Go.RowKit Go.Deep

theorem Try.cI64R : Try.prog.cellsOf 2 = 1 := by kernel_rfl
theorem Try.cRu : Try.prog.cellsOf 78 = 8 := by kernel_rfl
theorem Try.cPx : Try.prog.cellsOf 76 = 2 := by kernel_rfl
theorem Try.cBlR : Try.prog.cellsOf 4 = 1 := by kernel_rfl

set_option maxRecDepth 100000 in
theorem open_rule_cells {H : Type} {enc : TypeId × Value → H} {W : World} {base fuel : Nat} {t1 : Nat → Bool} {t2 : Bool} {c0 c1 c2 c3 c4 c5 c6 c7 : Value} {y : DataW H × List MemPlace}
    (h : DataW.trod enc Try.prog W base t1 t2 fuel 78 [c0, c1, c2, c3, c4, c5, c6, c7] = some y) :
    ∃ (r : Ru), [c0, c1, c2, c3, c4, c5, c6, c7] = r.cs ∧ In6 r.pp := by
  obtain ⟨xs, m, _, rfl, hl, hlen, hf⟩ := DataW.trod_struct Try.underlying78 h
  match xs, hlen with
  | [y0, y1, y2, y3, y4, y5, y6], _ =>
    have k0 := hf 0 _ rfl
    have k1 := hf 1 _ rfl
    have k2 := hf 2 _ rfl
    have k3 := hf 3 _ rfl
    have k4 := hf 4 _ rfl
    have k5 := hf 5 _ rfl
    have k6 := hf 6 _ rfl
    simp [Try.cI64R, Try.cPx, Try.cBlR] at k0 k1 k2 k3 k4 k5 k6
    obtain ⟨ys, m', _, rfl, hl', hlen', hf'⟩ := DataW.trod_struct Try.underlying76 k0
    match ys, hlen' with
    | [z0, z1], _ =>
      have j0 := hf' 0 _ rfl
      have j1 := hf' 1 _ rfl
      simp [Try.cI64R] at j0 j1
      obtain ⟨a, e0, -, w0⟩ := DataW.trod_int Try.underlying2 j0
      obtain ⟨l, e1, -, w1⟩ := DataW.trod_int Try.underlying2 j1
      obtain ⟨ls, e2, -, w2⟩ := DataW.trod_int Try.underlying2 k1
      obtain ⟨ms, e3, -, w3⟩ := DataW.trod_int Try.underlying2 k2
      obtain ⟨s, e4, -, w4⟩ := DataW.trod_int Try.underlying2 k3
      obtain ⟨d, e5, -⟩ := DataW.trod_bool Try.underlying4 k4
      obtain ⟨lc, e6, -, w6⟩ := DataW.trod_int Try.underlying2 k5
      obtain ⟨pp, e7, -, w7⟩ := DataW.trod_int Try.underlying2 k6
      simp only [List.cons.injEq, and_true] at e0 e1 e2 e3 e4 e5 e6 e7
      subst e0 e1 e2 e3 e4 e5 e6 e7
      exact ⟨⟨a, l, ls, ms, s, d, lc, pp⟩, rfl, in6_of_wf w7⟩

set_option maxRecDepth 100000 in
theorem open_rule {H : Type} {enc : TypeId × Value → H} {W : World} {base b0 : Nat} {r : Reach} {t1 : Nat → Bool} {t2 : Bool} {v : Value} {d : DataW H} {p : List MemPlace}
    (hv : Value.okWide Try.prog W r b0 78 v) (h0 : DataW.Trod enc Try.prog W base t1 t2 78 v d p) :
    ∃ (a l ls ms s : Int) (d : Bool) (lc pp : Int), v = .agg #[.int .i64 a, .int .i64 l, .int .i64 ls, .int .i64 ms, .int .i64 s, .bool d, .int .i64 lc, .int .i64 pp] := by
  obtain ⟨cs, rfl, hsz⟩ := okWide_struct Try.underlying78 hv
  obtain ⟨c0, c1, c2, c3, c4, c5, c6, c7, rfl⟩ := array8 (hsz.trans Try.cRu)
  obtain ⟨fuel, hf⟩ := h0
  have hf' : DataW.trod enc Try.prog W base t1 t2 fuel 78 [c0, c1, c2, c3, c4, c5, c6, c7] = some (d, p) := by simpa [Value.cells] using hf
  obtain ⟨r, hr, -⟩ := open_rule_cells hf'
  simp only [Ru.cs, List.cons.injEq, and_true] at hr
  obtain ⟨rfl, rfl, rfl, rfl, rfl, rfl, rfl, rfl⟩ := hr
  exact ⟨_, _, _, _, _, _, _, _, rfl⟩

set_option maxRecDepth 100000 in
theorem open_rules {H : Type} {enc : TypeId × Value → H} {W : World} {base : Nat} {t1 : Nat → Bool} {t2 : Bool} {a : Option Addr} {n c : Nat} {d : DataW H} {p : List MemPlace}
    (h0 : DataW.Trod enc Try.prog W base t1 t2 24 (.slice a n c) d p) : ∃ rs, RsAt W a rs ∧ rs.length = n ∧ n ≤ maxLen := by
  obtain ⟨fuel, hf⟩ := h0
  rcases open_slice Try.underlying24 hf with ⟨hcs, _⟩ | ⟨x, l, cc, m, k, D, Pl, hcs, _, hl, hm, hmm, _, hall⟩
  · simp [Value.cells] at hcs
    obtain ⟨rfl, rfl, rfl⟩ := hcs
    exact ⟨[], RsAt.nil _ _, rfl, Nat.zero_le _⟩
  · simp [Value.cells] at hcs
    obtain ⟨rfl, rfl, rfl⟩ := hcs
    have hlm : n ≤ m := by rw [hmm]; split <;> omega
    have each : ∀ i, i < n → ∃ r : Ru, ∀ j, j < 8 → W.cell? (x.add (i * 8 + j)) = r.cs[j]? := by
      intro i hi
      obtain ⟨cs', h1, h2⟩ := hall i (by omega)
      rw [Try.cRu] at h1
      obtain ⟨_, hlen, hcell⟩ := World.cells?_some h1
      match cs', hlen with
      | [c0, c1, c2, c3, c4, c5, c6, c7], _ =>
        obtain ⟨r, hr, -⟩ := open_rule_cells h2
        refine ⟨r, fun j hj => ?_⟩
        have hc := hcell j (by omega)
        rw [add_add] at hc
        rw [hc, hr]
    refine ⟨(List.range n).map (fun i => if h : i < n then (each i h).choose else ru0), ?_, by simp, Nat.le_trans hl hm⟩
    obtain ⟨b, off, spot⟩ := x
    intro i q hq
    have hi : i < n := by
      have := (List.getElem?_eq_some_iff.1 hq).1
      simpa using this
    have hq' : q = (each i hi).choose := by
      rw [List.getElem?_map, List.getElem?_range hi] at hq
      simpa [hi] using hq.symm
    have hs := (each i hi).choose_spec
    rw [← hq'] at hs
    have hspot : spot = none := by
      obtain ⟨r0, hr0⟩ := each 0 (by omega)
      have h2 : W.cell? (Addr.add ⟨b, off, spot⟩ (0 * 8 + 0)) = some (.int .i64 r0.a) := hr0 0 (by omega)
      simpa [Addr.add] using World.cell?_spot h2
    subst hspot
    refine ⟨b, off, rfl, fun j hj => ?_⟩
    have := hs j hj
    rw [Addr.add_lit] at this
    rw [Nat.add_assoc]
    exact this

end Go.Proofs.Ytdknalegmlpimaa

namespace Go.Proofs.Ytdknalegmlpimaa
open Go.ChangeShapes Go.WideShapes Go.ChangeAt Go.RowKit Go.Deep
set_option linter.unusedVariables false

theorem arr6g {α : Type} {cs : Array α} (h : cs.size = 6) : ∃ c0 c1 c2 c3 c4 c5, cs = #[c0, c1, c2, c3, c4, c5] := by
  obtain ⟨l⟩ := cs
  match l, h with
  | [c0, c1, c2, c3, c4, c5], _ => exact ⟨c0, c1, c2, c3, c4, c5, rfl⟩
theorem Try.cSe9 : Try.prog.cellsOf 26 = 6 := by kernel_rfl
theorem Try.cRs9 : Try.prog.cellsOf 24 = 1 := by kernel_rfl
theorem Try.cI9g : Try.prog.cellsOf 2 = 1 := by kernel_rfl
theorem Try.cCf9 : Try.prog.cellsOf 23 = 3 := by kernel_rfl

set_option maxRecDepth 100000 in
theorem open_rules_cell {H : Type} {enc : TypeId × Value → H} {W : World} {base fuel : Nat} {t1 : Nat → Bool} {t2 : Bool} {v : Value} {y : DataW H × List MemPlace}
    (h : DataW.trod enc Try.prog W base t1 t2 fuel 24 [v] = some y) : ∃ (a : Option Addr) (n c : Nat) (rs : List Ru), v = .slice a n c ∧ RsAt W a rs ∧ rs.length = n ∧ n ≤ maxLen := by
  have hb : ∃ (a : Option Addr) (n c : Nat), v = .slice a n c := by
    rcases open_slice Try.underlying24 h with ⟨hcs, _⟩ | ⟨x, l, cc, m, k, D, Pl, hcs, _⟩
    · simp only [List.cons.injEq, and_true] at hcs
      exact ⟨none, 0, 0, hcs⟩
    · simp only [List.cons.injEq, and_true] at hcs
      exact ⟨some x, l, cc, hcs⟩
  obtain ⟨a, n, c, rfl⟩ := hb
  obtain ⟨rs, k1, k2, k3⟩ := open_rules (enc := enc) (W := W) (base := base) (t1 := t1) (t2 := t2) (a := a) (n := n) (c := c) (d := y.1) (p := y.2) ⟨fuel, by simpa [Value.cells] using h⟩
  exact ⟨a, n, c, rs, rfl, k1, k2, k3⟩

set_option maxRecDepth 100000 in
theorem open_settings_cells {H : Type} {enc : TypeId × Value → H} {W : World} {base fuel : Nat} {t1 : Nat → Bool} {t2 : Bool} {c0 c1 c2 c3 c4 c5 : Value} {y : DataW H × List MemPlace}
    (h : DataW.trod enc Try.prog W base t1 t2 fuel 26 [c0, c1, c2, c3, c4, c5] = some y) :
    ∃ (sa si ho nx : Int) (a1 a2 : Option Addr) (n1 k1 n2 k2 : Nat) (r1 r2 : List Ru), [c0, c1, c2, c3, c4, c5] = [.int .i64 sa, .int .i64 si, .int .i64 ho, .int .i64 nx, .slice a1 n1 k1, .slice a2 n2 k2] ∧ (RsAt W a1 r1 ∧ r1.length = n1 ∧ n1 ≤ maxLen) ∧ (RsAt W a2 r2 ∧ r2.length = n2 ∧ n2 ≤ maxLen) := by
  obtain ⟨xs, m, _, rfl, hl, hlen, hf⟩ := DataW.trod_struct Try.underlying26 h
  match xs, hlen with
  | [y0, y1, y2, y3], _ =>
    have k0 := hf 0 _ rfl
    have k1 := hf 1 _ rfl
    have k2 := hf 2 _ rfl
    have k3 := hf 3 _ rfl
    simp [Try.cI9g, Try.cCf9, Try.cRs9] at k0 k1 k2 k3
    obtain ⟨ys, m', _, rfl, hl', hlen', hf'⟩ := DataW.trod_struct Try.underlying23 k0
    match ys, hlen' with
    | [z0, z1, z2], _ =>
      have j0 := hf' 0 _ rfl
      have j1 := hf' 1 _ rfl
      have j2 := hf' 2 _ rfl
      simp [Try.cI9g] at j0 j1 j2
      obtain ⟨sa, e0, -, w0⟩ := DataW.trod_int Try.underlying2 j0
      obtain ⟨si, e1, -, w1⟩ := DataW.trod_int Try.underlying2 j1
      obtain ⟨ho, e2, -, w2⟩ := DataW.trod_int Try.underlying2 j2
      obtain ⟨nx, e3, -, w3⟩ := DataW.trod_int Try.underlying2 k1
      obtain ⟨a1, n1, d1, r1, rfl, u1, u2, u3⟩ := open_rules_cell k2
      obtain ⟨a2, n2, d2, r2, rfl, v1, v2, v3⟩ := open_rules_cell k3
      simp only [List.cons.injEq, and_true] at e0 e1 e2 e3
      subst e0 e1 e2 e3
      exact ⟨sa, si, ho, nx, a1, a2, n1, d1, n2, d2, r1, r2, rfl, ⟨u1, u2, u3⟩, ⟨v1, v2, v3⟩⟩

set_option maxRecDepth 100000 in
theorem open_settings {H : Type} {enc : TypeId × Value → H} {W : World} {base b0 : Nat} {r : Reach} {t1 : Nat → Bool} {t2 : Bool} {v : Value} {d : DataW H} {p : List MemPlace}
    (hv : Value.okWide Try.prog W r b0 26 v) (h0 : DataW.Trod enc Try.prog W base t1 t2 26 v d p) :
    ∃ (sa si ho nx : Int) (a1 a2 : Option Addr) (n1 k1 n2 k2 : Nat) (r1 r2 : List Ru), v = .agg #[.int .i64 sa, .int .i64 si, .int .i64 ho, .int .i64 nx, .slice a1 n1 k1, .slice a2 n2 k2] ∧ (RsAt W a1 r1 ∧ r1.length = n1 ∧ n1 ≤ maxLen) ∧ (RsAt W a2 r2 ∧ r2.length = n2 ∧ n2 ≤ maxLen) := by
  obtain ⟨cs, rfl, hsz⟩ := okWide_struct Try.underlying26 hv
  obtain ⟨c0, c1, c2, c3, c4, c5, rfl⟩ := arr6g (hsz.trans Try.cSe9)
  obtain ⟨fuel, hf⟩ := h0
  have hf' : DataW.trod enc Try.prog W base t1 t2 fuel 26 [c0, c1, c2, c3, c4, c5] = some (d, p) := by simpa [Value.cells] using hf
  obtain ⟨sa, si, ho, nx, a1, a2, n1, k1, n2, k2, r1, r2, hr, x1, x2⟩ := open_settings_cells hf'
  simp only [List.cons.injEq, and_true] at hr
  obtain ⟨rfl, rfl, rfl, rfl, rfl, rfl⟩ := hr
  exact ⟨sa, si, ho, nx, a1, a2, n1, k1, n2, k2, r1, r2, rfl, x1, x2⟩

end Go.Proofs.Ytdknalegmlpimaa

namespace Go.Proofs.Ytdknalegmlpimaa
open Go.ChangeShapes Go.WideShapes Go.ChangeAt Go.RowKit Go.Deep Go.Sort
set_option linter.unusedVariables false
set_option linter.unusedSimpArgs false

theorem eqM0 (w : World) : Calls Try.prog 42 #[.slice none 0 0, .slice none 0 0] w fun e w' => e = .returned (.bool true) ∧ w' = w := by
  go_enter Try.func42, Try.ntmps42
  go_wp2
  refine wp_loop_rounds 1 ?_
  rw [rounds_succ]
  go_wp2
  go_ret
  exact ⟨rfl, rfl⟩

theorem eqE0 (w : World) : Calls Try.prog 43 #[.slice none 0 0, .slice none 0 0] w fun e w' => e = .returned (.bool true) ∧ w' = w := by
  go_enter Try.func43, Try.ntmps43
  go_wp2
  refine wp_loop_rounds 1 ?_
  rw [rounds_succ]
  go_wp2
  go_ret
  exact ⟨rfl, rfl⟩

set_option maxHeartbeats 3200000 in
theorem eqPair0 (sa si ho nx : Int) (a1 a2 aN aW b1 b2 bN bW : Option Addr) (n1 c1 n2 c2 nN cN nW cW d1 d2 dN dW : Nat) (r1 r2 : List Ru) (VN UN : List NdV) (VW UW : List WiV) (w : World)
    (h1 : RsAt w a1 r1) (h2 : RsAt w a2 r2) (h3 : NdAt w aN VN) (h4 : WiAt w aW VW) (k1 : RsAt w b1 r1) (k2 : RsAt w b2 r2) (k3 : NdAt w bN UN) (k4 : WiAt w bW UW) (hN : VN.map NdV.r = UN.map NdV.r) (hW : VW.map WiV.r = UW.map WiV.r) (l1 : r1.length = n1) (l2 : r2.length = n2) (m1 : n1 ≤ 1048576) (m2 : n2 ≤ 1048576)
    (lN : VN.length = nN) (lW : VW.length = nW) (mN : nN ≤ 1048576) (mW : nW ≤ 1048576) :
    Calls Try.prog 23 #[.agg #[.int .i64 sa, .int .i64 si, .int .i64 ho, .int .i64 nx, .slice a1 n1 c1, .slice a2 n2 c2, .slice aN nN cN, .slice aW nW cW, .slice none 0 0, .slice none 0 0], .agg #[.int .i64 sa, .int .i64 si, .int .i64 ho, .int .i64 nx, .slice b1 n1 d1, .slice b2 n2 d2, .slice bN nN dN, .slice bW nW dW, .slice none 0 0, .slice none 0 0]] w fun e w' => e = .returned (.bool true) ∧ New w w' := by
  have hw : New w ((w.alloc (.cells #[.int .i64 sa, .int .i64 si, .int .i64 ho, .int .i64 nx, .slice a1 n1 c1, .slice a2 n2 c2, .slice aN nN cN, .slice aW nW cW, .slice none 0 0, .slice none 0 0] 38)).alloc (.cells #[.int .i64 sa, .int .i64 si, .int .i64 ho, .int .i64 nx, .slice b1 n1 d1, .slice b2 n2 d2, .slice bN nN dN, .slice bW nW dW, .slice none 0 0, .slice none 0 0] 38)) := ((New.refl w).alloc _).alloc _
  have bA : Blk ((w.alloc (.cells #[.int .i64 sa, .int .i64 si, .int .i64 ho, .int .i64 nx, .slice a1 n1 c1, .slice a2 n2 c2, .slice aN nN cN, .slice aW nW cW, .slice none 0 0, .slice none 0 0] 38)).alloc (.cells #[.int .i64 sa, .int .i64 si, .int .i64 ho, .int .i64 nx, .slice b1 n1 d1, .slice b2 n2 d2, .slice bN nN dN, .slice bW nW dW, .slice none 0 0, .slice none 0 0] 38)) w.heap.size 38 #[.int .i64 sa, .int .i64 si, .int .i64 ho, .int .i64 nx, .slice a1 n1 c1, .slice a2 n2 c2, .slice aN nN cN, .slice aW nW cW, .slice none 0 0, .slice none 0 0] := (Blk.mk _ _ _ _ rfl).alloc _
  have bB : Blk ((w.alloc (.cells #[.int .i64 sa, .int .i64 si, .int .i64 ho, .int .i64 nx, .slice a1 n1 c1, .slice a2 n2 c2, .slice aN nN cN, .slice aW nW cW, .slice none 0 0, .slice none 0 0] 38)).alloc (.cells #[.int .i64 sa, .int .i64 si, .int .i64 ho, .int .i64 nx, .slice b1 n1 d1, .slice b2 n2 d2, .slice bN nN dN, .slice bW nW dW, .slice none 0 0, .slice none 0 0] 38)) (w.heap.size + 1) 38 #[.int .i64 sa, .int .i64 si, .int .i64 ho, .int .i64 nx, .slice b1 n1 d1, .slice b2 n2 d2, .slice bN nN dN, .slice bW nW dW, .slice none 0 0, .slice none 0 0] := Blk.mk _ _ _ _ (by simp)
  go_enter Try.func23, Try.ntmps23
  have cA := bA.cells
  have cB := bB.cells
  go_wp2_with fail
  refine (eqSe_any sa si ho nx a1 a2 b1 b2 n1 c1 n2 c2 d1 d2 r1 r2 _ (h1.new hw) (h2.new hw) l1 l2 m1 m2 (k1.new hw) (k2.new hw)).mono ?_
  rintro e w1 ⟨rfl, hn1⟩
  have hw1 := hw.trans hn1
  replace bA := bA.new hn1
  replace bB := bB.new hn1
  clear cA cB hn1
  have cA := bA.cells
  have cB := bB.cells
  go_wp2_with fail
  refine (eqNdS_any aN bN nN cN dN VN UN _ (h3.new hw1) (k3.new hw1) hN lN (by omega)).mono ?_
  rintro e w2 ⟨rfl, hn2⟩
  have hw2 := hw1.trans hn2
  replace bA := bA.new hn2
  replace bB := bB.new hn2
  clear cA cB hn2
  have cA := bA.cells
  have cB := bB.cells
  go_wp2_with fail
  refine (eqWiS_any aW bW nW cW dW VW UW _ (h4.new hw2) (k4.new hw2) hW lW (by omega)).mono ?_
  rintro e w3 ⟨rfl, hn3⟩
  have hw3 := hw2.trans hn3
  replace bA := bA.new hn3
  replace bB := bB.new hn3
  clear cA cB hn3
  have cA := bA.cells
  have cB := bB.cells
  go_wp2_with fail
  refine (eqM0 _).mono ?_
  rintro e u1 ⟨rfl, hu⟩
  obtain rfl := hu.symm
  go_wp2_with fail
  refine (eqE0 _).mono ?_
  rintro e u2 ⟨rfl, hu⟩
  obtain rfl := hu.symm
  go_wp2
  go_ret
  exact ⟨rfl, hw3⟩

end Go.Proofs.Ytdknalegmlpimaa

namespace Go.Proofs.Ytdknalegmlpimaa
open Go.ChangeShapes Go.WideShapes Go.ChangeAt Go.RowKit Go.Deep Go.Sort
set_option linter.unusedVariables false
set_option linter.unusedSimpArgs false

def ndv (i : Int) : NdV := ⟨i, true, 0, 0, 0, 0, 0, 0, none, 0, []⟩
def wiv : WiV := ⟨0, 0, none, none, 0, 0, [], []⟩
def nds (k : Nat) : List NdV := if k = 2 then [ndv 0, ndv 1] else []
def wis (k : Nat) : List WiV := if k = 3 then [wiv, wiv, wiv] else []
/-- What can be read of an answer. -/
structure SP (W : World) (x1 x2 yn yw : Option Addr) (r1 r2 : List Ru) (kn kw : Nat) : Prop where
  o1 : RsAt W x1 r1
  o2 : RsAt W x2 r2
  on : NdAt W yn (nds kn)
  ow : WiAt W yw (wis kw)
theorem SP.new {W W' : World} {x1 x2 yn yw : Option Addr} {r1 r2 : List Ru} {kn kw : Nat} (h : SP W x1 x2 yn yw r1 r2 kn kw) (t : New W W') : SP W' x1 x2 yn yw r1 r2 kn kw := ⟨h.o1.new t, h.o2.new t, h.on.new t, h.ow.new t⟩
theorem rs_ltP {w : World} {a : Option Addr} {rs : List Ru} (h : RsAt w a rs) : ∀ x, rs ≠ [] → a = some x → x.block < w.heap.size := by
  intro x hr hx
  have hl : 0 < rs.length := List.length_pos_iff.2 hr
  obtain ⟨b, off, _, _, _, _, _, _, _, _, h1, -, h2, -⟩ := h.at 0 hl
  rw [h1] at hx
  cases hx
  exact World.block_lt_of_cell? w _ h2
theorem nds_nil {k : Nat} {v : NdV} (h : v ∈ nds k) : v.A = none ∧ v.V = [] := by
  unfold nds at h
  split at h
  · rcases List.mem_cons.1 h with rfl | h
    · exact ⟨rfl, rfl⟩
    · obtain rfl := List.mem_singleton.1 h; exact ⟨rfl, rfl⟩
  · cases h
theorem wis_nil {k : Nat} {v : WiV} (h : v ∈ wis k) : v = wiv := by
  unfold wis at h
  split at h
  · simpa using h
  · cases h
/-- What is read stays where only later blocks turn. -/
theorem SP.late {W W' : World} {x1 x2 yn yw : Option Addr} {r1 r2 : List Ru} {kn kw : Nat} (h : SP W x1 x2 yn yw r1 r2 kn kw) (t : Turn (fun j => W.heap.size ≤ j) W W') : SP W' x1 x2 yn yw r1 r2 kn kw := by
  refine ⟨h.o1.turn t (fun x a b c => ?_), h.o2.turn t (fun x a b c => ?_), ?_, ?_⟩
  · have := rs_ltP h.o1 x a b; omega
  · have := rs_ltP h.o2 x a b; omega
  · intro i v hv
    obtain ⟨⟨g, ha, hc⟩, -, -⟩ := h.on i v hv
    have h0 : W.cell? ⟨g, i * 9, none⟩ = some (.int .i64 v.id) := hc 0 (by omega)
    have hlt : g < W.heap.size := World.block_lt_of_cell? W _ h0
    have hb' := t.block g hlt (fun k => by omega)
    obtain ⟨e1, e2⟩ := nds_nil (List.mem_of_getElem? hv)
    refine ⟨⟨g, ha, fun j hj => (World.cell?_of_block hb').trans (hc j hj)⟩, ?_, ?_⟩
    · rw [e2]; exact LgAt.nil _ _
    · rw [e2]; simp [totK]
  · intro i v hv
    obtain ⟨⟨g, ha, hc⟩, -⟩ := h.ow i v hv
    have h0 : W.cell? ⟨g, i * 4, none⟩ = some (.int .i64 v.E) := hc 0 (by omega)
    have hlt : g < W.heap.size := World.block_lt_of_cell? W _ h0
    have hb' := t.block g hlt (fun k => by omega)
    refine ⟨⟨g, ha, fun j hj => (World.cell?_of_block hb').trans (hc j hj)⟩, ?_⟩
    obtain rfl := wis_nil (List.mem_of_getElem? hv)
    exact ⟨BsAt.nil _ _, BsAt.nil _ _, by simp [wiv], by simp [wiv]⟩
/-- What is read lies below b. -/
def SPB (W : World) (b : Nat) (x1 x2 yn yw : Option Addr) (r1 r2 : List Ru) (kn kw : Nat) : Prop := ∃ W0 : World, W0.heap.size ≤ b ∧ SP W0 x1 x2 yn yw r1 r2 kn kw ∧ Turn (fun j => b ≤ j) W0 W
theorem SPB.sr {W : World} {b : Nat} {x1 x2 yn yw : Option Addr} {r1 r2 : List Ru} {kn kw : Nat} (h : SPB W b x1 x2 yn yw r1 r2 kn kw) : SP W x1 x2 yn yw r1 r2 kn kw := by
  obtain ⟨W0, hb, k, t⟩ := h
  exact k.late ⟨t.os, t.tape, t.output, t.size, fun i hi hs => t.block i hi (fun e => hs (Nat.le_trans hb e))⟩
theorem SPB.turn {W W' : World} {b : Nat} {x1 x2 yn yw : Option Addr} {r1 r2 : List Ru} {kn kw : Nat} {S : Nat → Prop} (h : SPB W b x1 x2 yn yw r1 r2 kn kw) (t : Turn S W W') (hS : ∀ j, S j → b ≤ j) : SPB W' b x1 x2 yn yw r1 r2 kn kw := by
  obtain ⟨W0, hb, k, t0⟩ := h
  exact ⟨W0, hb, k, Turn.trans t0 t (fun i _ e => hS i e)⟩
theorem SPB.new {W W' : World} {b : Nat} {x1 x2 yn yw : Option Addr} {r1 r2 : List Ru} {kn kw : Nat} (h : SPB W b x1 x2 yn yw r1 r2 kn kw) (t : New W W') : SPB W' b x1 x2 yn yw r1 r2 kn kw := h.turn t (fun _ f => f.elim)

theorem row_some {w : World} {lo sz n d : Nat} {e : TypeId} {y : Option Addr} {xs : List Value} (h : w.ownsRow lo e sz (.slice y n d) n xs) (hn : 0 < n) : ∃ g, y = some ⟨g, 0, none⟩ ∧ lo ≤ g ∧ g < w.heap.size ∧ w.ownsRow 0 e sz (.slice (some ⟨g, 0, none⟩) n d) n xs := by
  obtain ⟨h0, h1⟩ := h
  rcases h1 with ⟨h1, h2⟩ | ⟨g, c, cur, h1, h2, h3, r⟩
  · omega
  · simp only [Value.slice.injEq, true_and] at h1
    obtain ⟨rfl, rfl⟩ := h1
    exact ⟨g, rfl, h2, (Array.getElem?_eq_some_iff.1 h3).1, h0, .inr ⟨g, d, cur, rfl, Nat.zero_le _, h3, r⟩⟩
theorem nd_at {W : World} {lo d : Nat} {y : Option Addr} (h : W.ownsRow lo 53 9 (.slice y 2 d) 2 nz2) : NdAt W y (nds 2) := by
  obtain ⟨g, rfl, -, -, k⟩ := row_some h (by omega)
  intro i v hv
  have hi : i < 2 := (List.getElem?_eq_some_iff.1 hv).1
  refine ⟨⟨g, rfl, fun j hj => ?_⟩, ?_⟩
  · rw [World.ownsRow.cellAt k (i * 9 + j) (by omega)]
    exact cellsNd_get (nds 2) i v hv j hj
  · obtain ⟨e1, e2⟩ := nds_nil (List.mem_of_getElem? hv)
    rw [e2]
    exact ⟨LgAt.nil _ _, by simp [totK]⟩
theorem wi_at {W : World} {lo d : Nat} {y : Option Addr} (h : W.ownsRow lo 55 4 (.slice y 3 d) 3 wz3) : WiAt W y (wis 3) := by
  obtain ⟨g, rfl, -, -, k⟩ := row_some h (by omega)
  intro i v hv
  have hi : i < 3 := (List.getElem?_eq_some_iff.1 hv).1
  refine ⟨⟨g, rfl, fun j hj => ?_⟩, ?_⟩
  · rw [World.ownsRow.cellAt k (i * 4 + j) (by omega)]
    exact cellsWi_get (wis 3) i v hv j hj
  · obtain rfl := wis_nil (List.mem_of_getElem? hv)
    exact ⟨BsAt.nil _ _, BsAt.nil _ _, by simp [wiv], by simp [wiv]⟩

/-- What an answer owns, from lo on. -/
def PA (W : World) (lo : Nat) (x1 : Option Addr) (n1 d1 : Nat) (x2 : Option Addr) (n2 d2 : Nat) (yn : Option Addr) (kn dn : Nat) (yw : Option Addr) (kw dw : Nat) (r1 r2 : List Ru) : Prop := (kn = 2 ∧ kw = 3 ∧ NpO W lo n1 n2 x1 d1 x2 d2 r1 r2 yn dn yw dw) ∨ (kn = 0 ∧ kw = 0 ∧ n1 = 0 ∧ n2 = 0 ∧ x1 = none ∧ d1 = 0 ∧ x2 = none ∧ d2 = 0 ∧ yn = none ∧ dn = 0 ∧ yw = none ∧ dw = 0 ∧ r1 = [] ∧ r2 = [])
theorem PA.turn {W W' : World} {lo : Nat} {x1 : Option Addr} {n1 d1 : Nat} {x2 : Option Addr} {n2 d2 : Nat} {yn : Option Addr} {kn dn : Nat} {yw : Option Addr} {kw dw : Nat} {r1 r2 : List Ru} {S : Nat → Prop} (h : PA W lo x1 n1 d1 x2 n2 d2 yn kn dn yw kw dw r1 r2) (t : Turn S W W') (hS : ∀ k, lo ≤ k → k < W.heap.size → ¬ S k) : PA W' lo x1 n1 d1 x2 n2 d2 yn kn dn yw kw dw r1 r2 := by
  rcases h with ⟨e, e', h⟩ | h
  · exact .inl ⟨e, e', h.o1.turn t (fun j hj => hS j (h.o1.blk j hj).1 (h.o1.blk j hj).2), h.o2.turn t (fun j hj => hS j (h.o2.blk j hj).1 (h.o2.blk j hj).2), h.a12, row9_turn h.on t (fun j hj => hS j (rng_of h.on j hj).1 (rng_of h.on j hj).2), row9_turn h.ow t (fun j hj => hS j (rng_of h.ow j hj).1 (rng_of h.ow j hj).2)⟩
  · exact .inr h
theorem PA.new {W W' : World} {lo : Nat} {x1 : Option Addr} {n1 d1 : Nat} {x2 : Option Addr} {n2 d2 : Nat} {yn : Option Addr} {kn dn : Nat} {yw : Option Addr} {kw dw : Nat} {r1 r2 : List Ru} (h : PA W lo x1 n1 d1 x2 n2 d2 yn kn dn yw kw dw r1 r2) (t : New W W') : PA W' lo x1 n1 d1 x2 n2 d2 yn kn dn yw kw dw r1 r2 := h.turn t (fun _ _ _ f => f)
theorem PA.sr {W : World} {lo : Nat} {x1 : Option Addr} {n1 d1 : Nat} {x2 : Option Addr} {n2 d2 : Nat} {yn : Option Addr} {kn dn : Nat} {yw : Option Addr} {kw dw : Nat} {r1 r2 : List Ru} (h : PA W lo x1 n1 d1 x2 n2 d2 yn kn dn yw kw dw r1 r2) : SP W x1 x2 yn yw r1 r2 kn kw := by
  rcases h with ⟨rfl, rfl, h⟩ | ⟨rfl, rfl, rfl, rfl, rfl, rfl, rfl, rfl, rfl, rfl, rfl, rfl, rfl, rfl⟩
  · exact ⟨h.o1.rdP, h.o2.rdP, nd_at h.on, wi_at h.ow⟩
  · exact ⟨RsAt.nil _ _, RsAt.nil _ _, fun i v hv => by simp [nds] at hv, fun i v hv => by simp [wis] at hv⟩
/-- The blocks that are marked. -/
def PS (x1 : Option Addr) (n1 d1 : Nat) (x2 : Option Addr) (n2 d2 : Nat) (yn : Option Addr) (kn dn : Nat) (yw : Option Addr) (kw dw : Nat) (j : Nat) : Prop := (Value.slice x1 n1 d1).ownBlock = some j ∨ (Value.slice x2 n2 d2).ownBlock = some j ∨ (Value.slice yn kn dn).ownBlock = some j ∨ (Value.slice yw kw dw).ownBlock = some j
theorem PA.rng {W : World} {lo : Nat} {x1 : Option Addr} {n1 d1 : Nat} {x2 : Option Addr} {n2 d2 : Nat} {yn : Option Addr} {kn dn : Nat} {yw : Option Addr} {kw dw : Nat} {r1 r2 : List Ru} (h : PA W lo x1 n1 d1 x2 n2 d2 yn kn dn yw kw dw r1 r2) : ∀ j, PS x1 n1 d1 x2 n2 d2 yn kn dn yw kw dw j → lo ≤ j ∧ j < W.heap.size := by
  intro j hj
  rcases h with ⟨rfl, rfl, h⟩ | ⟨rfl, rfl, rfl, rfl, rfl, rfl, rfl, rfl, rfl, rfl, rfl, rfl, rfl, rfl⟩
  · rcases hj with e | e | e | e
    · exact h.o1.blk j e
    · exact h.o2.blk j e
    · exact rng_of h.on j e
    · exact rng_of h.ow j e
  · rcases hj with e | e | e | e <;> simp [Value.ownBlock] at e
def eP (n1 n2 : Nat) : Int := 1 + 8 * (n1 : Int) + 8 * (n2 : Int) + 1 + 1 + 1 + 1 + 1 + 1 + 1 + 1 + 1 + 1 + 1 + 1 + 1 + 1 + 1 + 1 + 1 + 1 + 1 + 1 + 1 + 1
def eB (n1 n2 kn : Nat) : Int := if kn = 2 then eP n1 n2 else 1
/-- What is read of marked rules, nodes and wires. -/
structure MkP (w : World) (x1 x2 yn yw : Option Addr) (n1 n2 dn dw : Nat) : Prop where
  o1 : RsAt w x1 (mkRs 1 n1)
  o2 : RsAt w x2 (mkRs (1 + 8 * (n1 : Int)) n2)
  on : ∃ g, yn = some ⟨g, 0, none⟩ ∧ w.ownsRow 0 53 9 (.slice (some ⟨g, 0, none⟩) 2 dn) 2 (mkN2 (1 + 8 * (n1 : Int) + 8 * (n2 : Int)))
  ow : ∃ g, yw = some ⟨g, 0, none⟩ ∧ w.ownsRow 0 55 4 (.slice (some ⟨g, 0, none⟩) 3 dw) 3 (mkW3 (1 + 8 * (n1 : Int) + 8 * (n2 : Int) + 1 + 1 + 1 + 1 + 1 + 1 + 1 + 1 + 1 + 1 + 1 + 1 + 1 + 1 + 1 + 1))
theorem MkP.new {w w' : World} {x1 x2 yn yw : Option Addr} {n1 n2 dn dw : Nat} (h : MkP w x1 x2 yn yw n1 n2 dn dw) (t : New w w') : MkP w' x1 x2 yn yw n1 n2 dn dw := by
  obtain ⟨g, e, k⟩ := h.on
  obtain ⟨g', e', k'⟩ := h.ow
  exact ⟨h.o1.new t, h.o2.new t, ⟨g, e, row9_new k t⟩, ⟨g', e', row9_new k' t⟩⟩
def PM (W : World) (x1 : Option Addr) (n1 d1 : Nat) (x2 : Option Addr) (n2 d2 : Nat) (yn : Option Addr) (kn dn : Nat) (yw : Option Addr) (kw dw : Nat) : Prop := (kn = 2 ∧ kw = 3 ∧ MkP W x1 x2 yn yw n1 n2 dn dw) ∨ (kn = 0 ∧ kw = 0 ∧ n1 = 0 ∧ n2 = 0 ∧ x1 = none ∧ d1 = 0 ∧ x2 = none ∧ d2 = 0 ∧ yn = none ∧ dn = 0 ∧ yw = none ∧ dw = 0)
theorem PM.new {W W' : World} {x1 : Option Addr} {n1 d1 : Nat} {x2 : Option Addr} {n2 d2 : Nat} {yn : Option Addr} {kn dn : Nat} {yw : Option Addr} {kw dw : Nat} (h : PM W x1 n1 d1 x2 n2 d2 yn kn dn yw kw dw) (t : New W W') : PM W' x1 n1 d1 x2 n2 d2 yn kn dn yw kw dw := by
  rcases h with ⟨e, e', h⟩ | h
  · exact .inl ⟨e, e', h.new t⟩
  · exact .inr h

set_option maxHeartbeats 6400000 in
theorem markPr (sa si ho nx : Int) (x1 x2 yn yw : Option Addr) (n1 d1 n2 d2 dn dw : Nat) (lo : Nat) (r1 r2 : List Ru) (w : World) (h : NpO w lo n1 n2 x1 d1 x2 d2 r1 r2 yn dn yw dw) (m1 : n1 ≤ 1048576) (m2 : n2 ≤ 1048576) :
    Calls Try.prog 28 #[.agg #[.int .i64 sa, .int .i64 si, .int .i64 ho, .int .i64 nx, .slice x1 n1 d1, .slice x2 n2 d2, .slice yn 2 dn, .slice yw 3 dw, .slice none 0 0, .slice none 0 0], .int .i64 1] w fun e w' => e = .returned (.int .i64 (eP n1 n2)) ∧ MkP w' x1 x2 yn yw n1 n2 dn dw ∧ Turn (fun j => (Value.slice x1 n1 d1).ownBlock = some j ∨ (Value.slice x2 n2 d2).ownBlock = some j ∨ (Value.slice yn 2 dn).ownBlock = some j ∨ (Value.slice yw 3 dw).ownBlock = some j) w w' := by
  have al : New w (w.alloc (.cells #[.int .i64 sa, .int .i64 si, .int .i64 ho, .int .i64 nx, .slice x1 n1 d1, .slice x2 n2 d2, .slice yn 2 dn, .slice yw 3 dw, .slice none 0 0, .slice none 0 0] 38)) := (New.refl w).alloc _
  have bA := Blk.mk w w.heap.size 38 #[.int .i64 sa, .int .i64 si, .int .i64 ho, .int .i64 nx, .slice x1 n1 d1, .slice x2 n2 d2, .slice yn 2 dn, .slice yw 3 dw, .slice none 0 0, .slice none 0 0] rfl
  have F1 : Hid _ := h.o1.blk
  have F2 : Hid _ := h.o2.blk
  have NN : Hid _ := ne_row h.on (ov_row h.o1) (by decide)
  have NN2 : Hid _ := ne_row h.on (ov_row h.o2) (by decide)
  have NW1 : Hid _ := ne_row h.ow (ov_row h.o1) (by decide)
  have NW2 : Hid _ := ne_row h.ow (ov_row h.o2) (by decide)
  have NWN : Hid _ := ne_row h.ow h.on (by decide)
  obtain ⟨g, rfl, hg0, hg1, hon⟩ := row_some h.on (by omega)
  obtain ⟨g2, rfl, hh0, hh1, how⟩ := row_some h.ow (by omega)
  have G12 : Hid (¬ g = g2) := fun e => NWN.out g2 rfl (by rw [← e]; rfl)
  have AP : Hid _ := h.a12
  have p1 := h.o1.new al
  have p2 := h.o2.new al
  have pn := row9_new hon al
  have pw := row9_new how al
  have A1 : Hid (∀ j, (Value.slice x1 n1 d1).ownBlock = some j → ¬ j = g ∧ ¬ j = g2) := fun j hj => ⟨fun e => NN.out g rfl (e ▸ hj), fun e => NW1.out g2 rfl (e ▸ hj)⟩
  have A2 : Hid (∀ j, (Value.slice x2 n2 d2).ownBlock = some j → ¬ j = g ∧ ¬ j = g2) := fun j hj => ⟨fun e => NN2.out g rfl (e ▸ hj), fun e => NW2.out g2 rfl (e ▸ hj)⟩
  clear h hon how NN NN2 NW1 NW2 NWN
  go_enter Try.func28, Try.ntmps28
  go_upto_region 1 with fail
  generalize w.alloc (.cells #[.int .i64 sa, .int .i64 si, .int .i64 ho, .int .i64 nx, .slice x1 n1 d1, .slice x2 n2 d2, .slice (some ⟨g, 0, none⟩) 2 dn, .slice (some ⟨g2, 0, none⟩) 3 dw, .slice none 0 0, .slice none 0 0] 38) = w0 at *
  have cA := bA.cells
  go_wp2_with fail
  refine (markSe sa si ho nx x1 x2 n1 d1 n2 d2 lo 1 r1 r2 _ p1 p2 AP.out m1 m2 (by omega) (by omega)).mono ?_
  rintro e w1 ⟨rfl, q1, q2, t1⟩
  have bA1 := bA.turn t1 (fun e => by rcases e with e | e; (have := (F1.out _ e).2; omega); (have := (F2.out _ e).2; omega))
  have pn1 := row9_turn pn t1 (by intro k hk e; simp [Value.ownBlock] at hk; subst hk; rcases e with e | e; exact (A1.out _ e).1 rfl; exact (A2.out _ e).1 rfl)
  have pw1 := row9_turn pw t1 (by intro k hk e; simp [Value.ownBlock] at hk; subst hk; rcases e with e | e; exact (A1.out _ e).2 rfl; exact (A2.out _ e).2 rfl)
  have T1 : Hid _ := t1
  have hz1 : 0 ≤ 1 + 8 * (n1 : Int) + 8 * (n2 : Int) := by omega
  have hz2 : 1 + 8 * (n1 : Int) + 8 * (n2 : Int) ≤ 16777232 := by omega
  clear cA bA p1 p2 pn pw t1
  have cA := bA1.cells
  obtain ⟨z, hz⟩ : ∃ z, Hid (1 + 8 * (n1 : Int) + 8 * (n2 : Int) = z) := ⟨_, rfl⟩
  rw [hz.out] at hz1 hz2
  simp only [hz.out]
  go_wp2_with fail
  refine (markNd2 g dn z _ pn1 hz1 (by omega)).mono ?_
  rintro e w2 ⟨rfl, qn, t2⟩
  have q3 := q1.turn t2 (fun j hj e => (A1.out j hj).1 e)
  have q4 := q2.turn t2 (fun j hj e => (A2.out j hj).1 e)
  have pw2 := row9_turn pw1 t2 (by intro k hk e; simp [Value.ownBlock] at hk; subst hk; exact G12.out e.symm)
  have bA2 := bA1.turn t2 (by omega)
  have T2 : Hid _ := t2
  clear cA bA1 q1 q2 pn1 pw1 t2
  have cA := bA2.cells
  obtain ⟨z', hz'⟩ : ∃ z', Hid (z + 1 + 1 + 1 + 1 + 1 + 1 + 1 + 1 + 1 + 1 + 1 + 1 + 1 + 1 + 1 + 1 = z') := ⟨_, rfl⟩
  have hy1 : 0 ≤ z' := by rw [← hz'.out]; omega
  have hy2 : z' ≤ 33554432 := by rw [← hz'.out]; omega
  simp only [hz'.out]
  go_wp2_with fail
  refine (markWi3 g2 dw z' _ pw2 hy1 hy2).mono ?_
  rintro e w3 ⟨rfl, qw, t3⟩
  have q5 := q3.turn t3 (fun j hj e => (A1.out j hj).2 e)
  have q6 := q4.turn t3 (fun j hj e => (A2.out j hj).2 e)
  have qn3 := row9_turn qn t3 (by intro k hk e; simp [Value.ownBlock] at hk; subst hk; exact G12.out e)
  have bA3 := bA2.turn t3 (by omega)
  have R1 : Hid _ := q5.rdP
  have R2 : Hid _ := q6.rdP
  have RN : Hid _ := qn3
  have RW : Hid _ := qw
  have TT : Hid (Turn (fun j => (Value.slice x1 n1 d1).ownBlock = some j ∨ (Value.slice x2 n2 d2).ownBlock = some j ∨ (Value.slice (some ⟨g, 0, none⟩) 2 dn).ownBlock = some j ∨ (Value.slice (some ⟨g2, 0, none⟩) 3 dw).ownBlock = some j) w w3) := by
    have a1 : Turn (fun j => (Value.slice x1 n1 d1).ownBlock = some j ∨ (Value.slice x2 n2 d2).ownBlock = some j ∨ (Value.slice (some ⟨g, 0, none⟩) 2 dn).ownBlock = some j ∨ (Value.slice (some ⟨g2, 0, none⟩) 3 dw).ownBlock = some j) w w1 := Turn.trans (al.turn : Turn (fun j => (Value.slice x1 n1 d1).ownBlock = some j ∨ (Value.slice x2 n2 d2).ownBlock = some j ∨ (Value.slice (some ⟨g, 0, none⟩) 2 dn).ownBlock = some j ∨ (Value.slice (some ⟨g2, 0, none⟩) 3 dw).ownBlock = some j) w w0) T1.out (fun i _ e => e.elim Or.inl (fun e => Or.inr (Or.inl e)))
    have a2 := Turn.trans a1 T2.out (fun i _ e => Or.inr (Or.inr (Or.inl (by rw [e]; rfl))))
    exact Turn.trans a2 t3 (fun i _ e => Or.inr (Or.inr (Or.inr (by rw [e]; rfl))))
  clear q3 q4 q5 q6 qn qn3 qw t3 T1 T2 cA bA2 pw2
  have cA := bA3.cells
  go_wp2_with fail
  refine (markM0 _ _).mono ?_
  rintro e w4 ⟨rfl, hw4⟩
  obtain rfl := hw4.symm
  go_wp2_with fail
  refine (markE0 _ _).mono ?_
  rintro e w5 ⟨rfl, hw5⟩
  obtain rfl := hw5.symm
  go_wp2
  go_ret
  exact ⟨ret_i64 (by unfold eP; rw [hz.out, hz'.out]), ⟨R1.out, R2.out, ⟨g, rfl, hz.out.symm ▸ RN.out⟩, ⟨g2, rfl, by rw [hz.out, hz'.out]; exact RW.out⟩⟩, TT.out⟩

set_option maxHeartbeats 6400000 in
theorem heldPr (sa si ho nx : Int) (x1 x2 yn yw : Option Addr) (n1 d1 n2 d2 dn dw : Nat) (w : World) (h : MkP w x1 x2 yn yw n1 n2 dn dw) (m1 : n1 ≤ 1048576) (m2 : n2 ≤ 1048576) :
    Calls Try.prog 30 #[.agg #[.int .i64 sa, .int .i64 si, .int .i64 ho, .int .i64 nx, .slice x1 n1 d1, .slice x2 n2 d2, .slice yn 2 dn, .slice yw 3 dw, .slice none 0 0, .slice none 0 0], .int .i64 1] w fun e w' => e = .returned (.int .i64 (eP n1 n2)) ∧ New w w' := by
  have al : New w (w.alloc (.cells #[.int .i64 sa, .int .i64 si, .int .i64 ho, .int .i64 nx, .slice x1 n1 d1, .slice x2 n2 d2, .slice yn 2 dn, .slice yw 3 dw, .slice none 0 0, .slice none 0 0] 38)) := (New.refl w).alloc _
  have bA := Blk.mk w w.heap.size 38 #[.int .i64 sa, .int .i64 si, .int .i64 ho, .int .i64 nx, .slice x1 n1 d1, .slice x2 n2 d2, .slice yn 2 dn, .slice yw 3 dw, .slice none 0 0, .slice none 0 0] rfl
  obtain ⟨g, rfl, hon⟩ := h.on
  obtain ⟨g2, rfl, how⟩ := h.ow
  go_enter Try.func30, Try.ntmps30
  go_upto_region 1 with fail
  generalize w.alloc (.cells #[.int .i64 sa, .int .i64 si, .int .i64 ho, .int .i64 nx, .slice x1 n1 d1, .slice x2 n2 d2, .slice (some ⟨g, 0, none⟩) 2 dn, .slice (some ⟨g2, 0, none⟩) 3 dw, .slice none 0 0, .slice none 0 0] 38) = w0 at *
  have cA := bA.cells
  go_wp2_with fail
  refine (heldSe sa si ho nx x1 x2 n1 d1 n2 d2 1 _ (h.o1.new al) (h.o2.new al) m1 m2 (by omega) (by omega)).mono ?_
  rintro e w1 ⟨rfl, t1⟩
  have bA1 := bA.new t1
  have pn := row9_new hon (al.trans t1)
  have pw := row9_new how (al.trans t1)
  have N1 := al.trans t1
  have hz1 : 0 ≤ 1 + 8 * (n1 : Int) + 8 * (n2 : Int) := by omega
  have hz2 : 1 + 8 * (n1 : Int) + 8 * (n2 : Int) ≤ 16777232 := by omega
  clear cA bA hon how t1 al
  have cA := bA1.cells
  generalize hzz : 1 + 8 * (n1 : Int) + 8 * (n2 : Int) = z at *
  have HZ : Hid (1 + 8 * (n1 : Int) + 8 * (n2 : Int) = z) := hzz
  clear hzz h
  go_wp2_with fail
  refine (heldNd2 g dn z _ pn hz1 (by omega)).mono ?_
  rintro e w2 ⟨rfl, hw2⟩
  obtain rfl := hw2.symm
  generalize hyy : z + 1 + 1 + 1 + 1 + 1 + 1 + 1 + 1 + 1 + 1 + 1 + 1 + 1 + 1 + 1 + 1 = z' at *
  have HY : Hid (z + 1 + 1 + 1 + 1 + 1 + 1 + 1 + 1 + 1 + 1 + 1 + 1 + 1 + 1 + 1 + 1 = z') := hyy
  have hy1 : 0 ≤ z' := by omega
  have hy2 : z' ≤ 33554432 := by omega
  clear hyy
  go_wp2_with fail
  refine (heldWi3 g2 dw z' _ pw hy1 hy2).mono ?_
  rintro e w3 ⟨rfl, hw3⟩
  obtain rfl := hw3.symm
  have hz3 : ¬ z' + 1 + 1 + 1 + 1 + 1 + 1 < 0 := by omega
  go_wp2_with fail
  refine (heldM0 _ _).mono ?_
  rintro e w4 ⟨rfl, hw4⟩
  obtain rfl := hw4.symm
  go_wp2_with fail
  refine (heldE0 _ _).mono ?_
  rintro e w5 ⟨rfl, hw5⟩
  obtain rfl := hw5.symm
  go_wp2
  go_ret
  exact ⟨ret_i64 (by unfold eP; rw [HZ.out, HY.out]), N1⟩

set_option maxHeartbeats 3200000 in
theorem markPr0 (sa si ho nx : Int) (w : World) :
    Calls Try.prog 28 #[.agg #[.int .i64 sa, .int .i64 si, .int .i64 ho, .int .i64 nx, .slice none 0 0, .slice none 0 0, .slice none 0 0, .slice none 0 0, .slice none 0 0, .slice none 0 0], .int .i64 1] w fun e w' => e = .returned (.int .i64 1) ∧ Turn (fun j => False) w w' := by
  have al : New w (w.alloc (.cells #[.int .i64 sa, .int .i64 si, .int .i64 ho, .int .i64 nx, .slice none 0 0, .slice none 0 0, .slice none 0 0, .slice none 0 0, .slice none 0 0, .slice none 0 0] 38)) := (New.refl w).alloc _
  have bA := Blk.mk w w.heap.size 38 #[.int .i64 sa, .int .i64 si, .int .i64 ho, .int .i64 nx, .slice none 0 0, .slice none 0 0, .slice none 0 0, .slice none 0 0, .slice none 0 0, .slice none 0 0] rfl
  go_enter Try.func28, Try.ntmps28
  go_upto_region 1 with fail
  generalize w.alloc (.cells #[.int .i64 sa, .int .i64 si, .int .i64 ho, .int .i64 nx, .slice none 0 0, .slice none 0 0, .slice none 0 0, .slice none 0 0, .slice none 0 0, .slice none 0 0] 38) = w0 at *
  have cA := bA.cells
  go_wp2_with fail
  refine (markSe sa si ho nx none none 0 0 0 0 0 1 [] [] _ (OvR.nil _ _) (OvR.nil _ _) (by simp [Value.ownBlock]) (by omega) (by omega) (by omega) (by omega)).mono ?_
  rintro e w1 ⟨rfl, q1, q2, t1⟩
  rw [show (1 + 8 * ((0 : Nat) : Int) + 8 * ((0 : Nat) : Int)) = 1 by omega]
  have t1' : Turn (fun j => False) w0 w1 := ⟨t1.os, t1.tape, t1.output, t1.size, fun b hb _ => t1.block b hb (by simp [Value.ownBlock])⟩
  have N1 : New w w1 := al.trans t1'
  have bA1 := bA.turn t1' (fun f => f)
  clear cA bA q1 q2 t1
  have cA := bA1.cells
  go_wp2_with fail
  refine (markN0 _ _).mono ?_
  rintro e u0 ⟨rfl, hu⟩
  obtain rfl := hu.symm
  go_wp2_with fail
  refine (markW0 _ _).mono ?_
  rintro e u1 ⟨rfl, hu⟩
  obtain rfl := hu.symm
  go_wp2_with fail
  refine (markM0 _ _).mono ?_
  rintro e u2 ⟨rfl, hu⟩
  obtain rfl := hu.symm
  go_wp2_with fail
  refine (markE0 _ _).mono ?_
  rintro e u3 ⟨rfl, hu⟩
  obtain rfl := hu.symm
  go_wp2
  go_ret
  exact ⟨rfl, N1⟩

set_option maxHeartbeats 3200000 in
theorem heldPr0 (sa si ho nx : Int) (w : World) :
    Calls Try.prog 30 #[.agg #[.int .i64 sa, .int .i64 si, .int .i64 ho, .int .i64 nx, .slice none 0 0, .slice none 0 0, .slice none 0 0, .slice none 0 0, .slice none 0 0, .slice none 0 0], .int .i64 1] w fun e w' => e = .returned (.int .i64 1) ∧ New w w' := by
  have al : New w (w.alloc (.cells #[.int .i64 sa, .int .i64 si, .int .i64 ho, .int .i64 nx, .slice none 0 0, .slice none 0 0, .slice none 0 0, .slice none 0 0, .slice none 0 0, .slice none 0 0] 38)) := (New.refl w).alloc _
  have bA := Blk.mk w w.heap.size 38 #[.int .i64 sa, .int .i64 si, .int .i64 ho, .int .i64 nx, .slice none 0 0, .slice none 0 0, .slice none 0 0, .slice none 0 0, .slice none 0 0, .slice none 0 0] rfl
  go_enter Try.func30, Try.ntmps30
  go_upto_region 1 with fail
  generalize w.alloc (.cells #[.int .i64 sa, .int .i64 si, .int .i64 ho, .int .i64 nx, .slice none 0 0, .slice none 0 0, .slice none 0 0, .slice none 0 0, .slice none 0 0, .slice none 0 0] 38) = w0 at *
  have cA := bA.cells
  go_wp2_with fail
  refine (heldSe sa si ho nx none none 0 0 0 0 1 _ (RsAt.nil _ _) (RsAt.nil _ _) (by omega) (by omega) (by omega) (by omega)).mono ?_
  rintro e w1 ⟨rfl, t1⟩
  rw [show (1 + 8 * ((0 : Nat) : Int) + 8 * ((0 : Nat) : Int)) = 1 by omega]
  have N1 := al.trans t1
  have bA1 := bA.new t1
  clear cA bA t1
  have cA := bA1.cells
  go_wp2_with fail
  refine (heldN0 _ _).mono ?_
  rintro e u0 ⟨rfl, hu⟩
  obtain rfl := hu.symm
  go_wp2_with fail
  refine (heldW0 _ _).mono ?_
  rintro e u1 ⟨rfl, hu⟩
  obtain rfl := hu.symm
  go_wp2_with fail
  refine (heldM0 _ _).mono ?_
  rintro e u2 ⟨rfl, hu⟩
  obtain rfl := hu.symm
  go_wp2_with fail
  refine (heldE0 _ _).mono ?_
  rintro e u3 ⟨rfl, hu⟩
  obtain rfl := hu.symm
  go_wp2
  go_ret
  exact ⟨rfl, N1⟩

set_option maxHeartbeats 6400000 in
theorem markPP (z sa si ho nx : Int) (x1 : Option Addr) (n1 d1 : Nat) (x2 : Option Addr) (n2 d2 : Nat) (yn : Option Addr) (kn dn : Nat) (yw : Option Addr) (kw dw : Nat) (lo : Nat) (r1 r2 : List Ru) (w : World) (h : PA w lo x1 n1 d1 x2 n2 d2 yn kn dn yw kw dw r1 r2) (m1 : n1 ≤ 1048576) (m2 : n2 ≤ 1048576) :
    Calls Try.prog 11 #[.agg #[.int .i64 z, .slice none 0 0, .int .i64 sa, .int .i64 si, .int .i64 ho, .int .i64 nx, .slice x1 n1 d1, .slice x2 n2 d2, .slice yn kn dn, .slice yw kw dw, .slice none 0 0, .slice none 0 0], .int .i64 1] w fun e w' => e = .returned (.int .i64 (eB n1 n2 kn)) ∧ PM w' x1 n1 d1 x2 n2 d2 yn kn dn yw kw dw ∧ Turn (fun j => PS x1 n1 d1 x2 n2 d2 yn kn dn yw kw dw j) w w' := by
  rcases h with ⟨rfl, rfl, h⟩ | ⟨rfl, rfl, rfl, rfl, rfl, rfl, rfl, rfl, rfl, rfl, rfl, rfl, rfl, rfl⟩
  · have al : New w (w.alloc (.cells #[.int .i64 z, .slice none 0 0, .int .i64 sa, .int .i64 si, .int .i64 ho, .int .i64 nx, .slice x1 n1 d1, .slice x2 n2 d2, .slice yn 2 dn, .slice yw 3 dw, .slice none 0 0, .slice none 0 0] 40)) := (New.refl w).alloc _
    have bA := Blk.mk w w.heap.size 40 #[.int .i64 z, .slice none 0 0, .int .i64 sa, .int .i64 si, .int .i64 ho, .int .i64 nx, .slice x1 n1 d1, .slice x2 n2 d2, .slice yn 2 dn, .slice yw 3 dw, .slice none 0 0, .slice none 0 0] rfl
    have h' : NpO (w.alloc (.cells #[.int .i64 z, .slice none 0 0, .int .i64 sa, .int .i64 si, .int .i64 ho, .int .i64 nx, .slice x1 n1 d1, .slice x2 n2 d2, .slice yn 2 dn, .slice yw 3 dw, .slice none 0 0, .slice none 0 0] 40)) lo n1 n2 x1 d1 x2 d2 r1 r2 yn dn yw dw := ⟨h.o1.new al, h.o2.new al, h.a12, row9_new h.on al, row9_new h.ow al⟩
    clear h
    go_enter Try.func11, Try.ntmps11
    go_upto_region 1 with fail
    generalize w.alloc (.cells #[.int .i64 z, .slice none 0 0, .int .i64 sa, .int .i64 si, .int .i64 ho, .int .i64 nx, .slice x1 n1 d1, .slice x2 n2 d2, .slice yn 2 dn, .slice yw 3 dw, .slice none 0 0, .slice none 0 0] 40) = w0 at *
    have cA := bA.cells
    go_wp2_with fail
    refine (markB0 _ _).mono ?_
    rintro e u1 ⟨rfl, hu⟩
    obtain rfl := hu.symm
    go_wp2_with fail
    refine (markPr sa si ho nx x1 x2 yn yw n1 d1 n2 d2 dn dw lo r1 r2 _ h' m1 m2).mono ?_
    rintro e w1 ⟨rfl, hM, t1⟩
    have TT : Hid (Turn (fun j => PS x1 n1 d1 x2 n2 d2 yn 2 dn yw 3 dw j) w w1) := Turn.trans (al.turn : Turn (fun j => PS x1 n1 d1 x2 n2 d2 yn 2 dn yw 3 dw j) w w0) t1 (fun i _ e => e)
    have HM : Hid _ := hM
    clear cA bA t1 hM h'
    go_wp2
    go_ret
    exact ⟨ret_i64 (by unfold eB; rw [if_pos rfl]), .inl ⟨rfl, rfl, HM.out⟩, TT.out⟩
  · have al : New w (w.alloc (.cells #[.int .i64 z, .slice none 0 0, .int .i64 sa, .int .i64 si, .int .i64 ho, .int .i64 nx, .slice none 0 0, .slice none 0 0, .slice none 0 0, .slice none 0 0, .slice none 0 0, .slice none 0 0] 40)) := (New.refl w).alloc _
    have bA := Blk.mk w w.heap.size 40 #[.int .i64 z, .slice none 0 0, .int .i64 sa, .int .i64 si, .int .i64 ho, .int .i64 nx, .slice none 0 0, .slice none 0 0, .slice none 0 0, .slice none 0 0, .slice none 0 0, .slice none 0 0] rfl
    go_enter Try.func11, Try.ntmps11
    go_upto_region 1 with fail
    generalize w.alloc (.cells #[.int .i64 z, .slice none 0 0, .int .i64 sa, .int .i64 si, .int .i64 ho, .int .i64 nx, .slice none 0 0, .slice none 0 0, .slice none 0 0, .slice none 0 0, .slice none 0 0, .slice none 0 0] 40) = w0 at *
    have cA := bA.cells
    go_wp2_with fail
    refine (markB0 _ _).mono ?_
    rintro e u1 ⟨rfl, hu⟩
    obtain rfl := hu.symm
    go_wp2_with fail
    refine (markPr0 sa si ho nx _).mono ?_
    rintro e w1 ⟨rfl, t1⟩
    have N1 : New w w1 := al.trans t1
    clear cA bA t1
    go_wp2
    go_ret
    exact ⟨ret_i64 (by unfold eB; rw [if_neg (by omega)]), .inr ⟨rfl, rfl, rfl, rfl, rfl, rfl, rfl, rfl, rfl, rfl, rfl, rfl⟩, ⟨N1.os, N1.tape, N1.output, N1.size, fun b hb _ => N1.block b hb (fun f => f)⟩⟩

set_option maxHeartbeats 6400000 in
theorem heldPP (z sa si ho nx : Int) (x1 : Option Addr) (n1 d1 : Nat) (x2 : Option Addr) (n2 d2 : Nat) (yn : Option Addr) (kn dn : Nat) (yw : Option Addr) (kw dw : Nat) (w : World) (h : PM w x1 n1 d1 x2 n2 d2 yn kn dn yw kw dw) (m1 : n1 ≤ 1048576) (m2 : n2 ≤ 1048576) :
    Calls Try.prog 12 #[.agg #[.int .i64 z, .slice none 0 0, .int .i64 sa, .int .i64 si, .int .i64 ho, .int .i64 nx, .slice x1 n1 d1, .slice x2 n2 d2, .slice yn kn dn, .slice yw kw dw, .slice none 0 0, .slice none 0 0], .int .i64 1] w fun e w' => e = .returned (.int .i64 (eB n1 n2 kn)) ∧ New w w' := by
  rcases h with ⟨rfl, rfl, h⟩ | ⟨rfl, rfl, rfl, rfl, rfl, rfl, rfl, rfl, rfl, rfl, rfl, rfl⟩
  · have al : New w (w.alloc (.cells #[.int .i64 z, .slice none 0 0, .int .i64 sa, .int .i64 si, .int .i64 ho, .int .i64 nx, .slice x1 n1 d1, .slice x2 n2 d2, .slice yn 2 dn, .slice yw 3 dw, .slice none 0 0, .slice none 0 0] 40)) := (New.refl w).alloc _
    have bA := Blk.mk w w.heap.size 40 #[.int .i64 z, .slice none 0 0, .int .i64 sa, .int .i64 si, .int .i64 ho, .int .i64 nx, .slice x1 n1 d1, .slice x2 n2 d2, .slice yn 2 dn, .slice yw 3 dw, .slice none 0 0, .slice none 0 0] rfl
    have HE : Hid (eB n1 n2 2 = eP n1 n2) := by unfold Hid eB; rw [if_pos rfl]
    have hE0 : ¬ eP n1 n2 < 0 := by unfold eP; omega
    go_enter Try.func12, Try.ntmps12
    go_upto_region 1 with fail
    generalize w.alloc (.cells #[.int .i64 z, .slice none 0 0, .int .i64 sa, .int .i64 si, .int .i64 ho, .int .i64 nx, .slice x1 n1 d1, .slice x2 n2 d2, .slice yn 2 dn, .slice yw 3 dw, .slice none 0 0, .slice none 0 0] 40) = w0 at *
    have cA := bA.cells
    go_wp2_with fail
    refine (heldB0 _ _).mono ?_
    rintro e u1 ⟨rfl, hu⟩
    obtain rfl := hu.symm
    go_wp2_with fail
    refine (heldPr sa si ho nx x1 x2 yn yw n1 d1 n2 d2 dn dw _ (h.new al) m1 m2).mono ?_
    rintro e w1 ⟨rfl, t1⟩
    have N1 := al.trans t1
    clear cA bA t1 h
    generalize eP n1 n2 = E at *
    go_wp2
    go_ret
    exact ⟨ret_i64 HE.out.symm, N1⟩
  · have al : New w (w.alloc (.cells #[.int .i64 z, .slice none 0 0, .int .i64 sa, .int .i64 si, .int .i64 ho, .int .i64 nx, .slice none 0 0, .slice none 0 0, .slice none 0 0, .slice none 0 0, .slice none 0 0, .slice none 0 0] 40)) := (New.refl w).alloc _
    have bA := Blk.mk w w.heap.size 40 #[.int .i64 z, .slice none 0 0, .int .i64 sa, .int .i64 si, .int .i64 ho, .int .i64 nx, .slice none 0 0, .slice none 0 0, .slice none 0 0, .slice none 0 0, .slice none 0 0, .slice none 0 0] rfl
    go_enter Try.func12, Try.ntmps12
    go_upto_region 1 with fail
    generalize w.alloc (.cells #[.int .i64 z, .slice none 0 0, .int .i64 sa, .int .i64 si, .int .i64 ho, .int .i64 nx, .slice none 0 0, .slice none 0 0, .slice none 0 0, .slice none 0 0, .slice none 0 0, .slice none 0 0] 40) = w0 at *
    have cA := bA.cells
    go_wp2_with fail
    refine (heldB0 _ _).mono ?_
    rintro e u1 ⟨rfl, hu⟩
    obtain rfl := hu.symm
    go_wp2_with fail
    refine (heldPr0 sa si ho nx _).mono ?_
    rintro e w1 ⟨rfl, t1⟩
    have N1 := al.trans t1
    clear cA bA t1
    go_wp2
    go_ret
    exact ⟨ret_i64 (by unfold eB; rw [if_neg (by omega)]), N1⟩

theorem eqB0 (w : World) : Calls Try.prog 22 #[.slice none 0 0, .slice none 0 0] w fun e w' => e = .returned (.bool true) ∧ w' = w := by
  go_enter Try.func22, Try.ntmps22
  go_wp2
  refine wp_loop_rounds 1 ?_
  rw [rounds_succ]
  go_wp2
  go_ret
  exact ⟨rfl, rfl⟩

set_option maxHeartbeats 3200000 in
theorem eqPP (z sa si ho nx : Int) (x1a x2a yna ywa x1b x2b ynb ywb : Option Addr) (n1 n2 kn kw d1a d2a dna dwa d1b d2b dnb dwb : Nat) (r1 r2 : List Ru) (w : World) (h : SP w x1a x2a yna ywa r1 r2 kn kw) (k : SP w x1b x2b ynb ywb r1 r2 kn kw) (l1 : r1.length = n1) (l2 : r2.length = n2) (m1 : n1 ≤ 1048576) (m2 : n2 ≤ 1048576) (hn : (nds kn).length = kn) (hw' : (wis kw).length = kw) (hk : kn ≤ 2 ∧ kw ≤ 3) :
    Calls Try.prog 8 #[.agg #[.int .i64 z, .slice none 0 0, .int .i64 sa, .int .i64 si, .int .i64 ho, .int .i64 nx, .slice x1a n1 d1a, .slice x2a n2 d2a, .slice yna kn dna, .slice ywa kw dwa, .slice none 0 0, .slice none 0 0], .agg #[.int .i64 z, .slice none 0 0, .int .i64 sa, .int .i64 si, .int .i64 ho, .int .i64 nx, .slice x1b n1 d1b, .slice x2b n2 d2b, .slice ynb kn dnb, .slice ywb kw dwb, .slice none 0 0, .slice none 0 0]] w fun e w' => e = .returned (.bool true) ∧ New w w' := by
  have hw : New w ((w.alloc (.cells #[.int .i64 z, .slice none 0 0, .int .i64 sa, .int .i64 si, .int .i64 ho, .int .i64 nx, .slice x1a n1 d1a, .slice x2a n2 d2a, .slice yna kn dna, .slice ywa kw dwa, .slice none 0 0, .slice none 0 0] 40)).alloc (.cells #[.int .i64 z, .slice none 0 0, .int .i64 sa, .int .i64 si, .int .i64 ho, .int .i64 nx, .slice x1b n1 d1b, .slice x2b n2 d2b, .slice ynb kn dnb, .slice ywb kw dwb, .slice none 0 0, .slice none 0 0] 40)) := ((New.refl w).alloc _).alloc _
  have bA : Blk ((w.alloc (.cells #[.int .i64 z, .slice none 0 0, .int .i64 sa, .int .i64 si, .int .i64 ho, .int .i64 nx, .slice x1a n1 d1a, .slice x2a n2 d2a, .slice yna kn dna, .slice ywa kw dwa, .slice none 0 0, .slice none 0 0] 40)).alloc (.cells #[.int .i64 z, .slice none 0 0, .int .i64 sa, .int .i64 si, .int .i64 ho, .int .i64 nx, .slice x1b n1 d1b, .slice x2b n2 d2b, .slice ynb kn dnb, .slice ywb kw dwb, .slice none 0 0, .slice none 0 0] 40)) w.heap.size 40 #[.int .i64 z, .slice none 0 0, .int .i64 sa, .int .i64 si, .int .i64 ho, .int .i64 nx, .slice x1a n1 d1a, .slice x2a n2 d2a, .slice yna kn dna, .slice ywa kw dwa, .slice none 0 0, .slice none 0 0] := (Blk.mk _ _ _ _ rfl).alloc _
  have bB : Blk ((w.alloc (.cells #[.int .i64 z, .slice none 0 0, .int .i64 sa, .int .i64 si, .int .i64 ho, .int .i64 nx, .slice x1a n1 d1a, .slice x2a n2 d2a, .slice yna kn dna, .slice ywa kw dwa, .slice none 0 0, .slice none 0 0] 40)).alloc (.cells #[.int .i64 z, .slice none 0 0, .int .i64 sa, .int .i64 si, .int .i64 ho, .int .i64 nx, .slice x1b n1 d1b, .slice x2b n2 d2b, .slice ynb kn dnb, .slice ywb kw dwb, .slice none 0 0, .slice none 0 0] 40)) (w.heap.size + 1) 40 #[.int .i64 z, .slice none 0 0, .int .i64 sa, .int .i64 si, .int .i64 ho, .int .i64 nx, .slice x1b n1 d1b, .slice x2b n2 d2b, .slice ynb kn dnb, .slice ywb kw dwb, .slice none 0 0, .slice none 0 0] := Blk.mk _ _ _ _ (by simp)
  have hzz : (z != z) = false := by simp
  have h' := h.new hw
  have k' := k.new hw
  go_enter Try.func8, Try.ntmps8
  go_upto_region 1 with fail
  generalize ((w.alloc (.cells #[.int .i64 z, .slice none 0 0, .int .i64 sa, .int .i64 si, .int .i64 ho, .int .i64 nx, .slice x1a n1 d1a, .slice x2a n2 d2a, .slice yna kn dna, .slice ywa kw dwa, .slice none 0 0, .slice none 0 0] 40)).alloc (.cells #[.int .i64 z, .slice none 0 0, .int .i64 sa, .int .i64 si, .int .i64 ho, .int .i64 nx, .slice x1b n1 d1b, .slice x2b n2 d2b, .slice ynb kn dnb, .slice ywb kw dwb, .slice none 0 0, .slice none 0 0] 40)) = w0 at *
  have cA := bA.cells
  have cB := bB.cells
  go_wp2_with fail
  refine (eqB0 _).mono ?_
  rintro e u1 ⟨rfl, hu⟩
  obtain rfl := hu.symm
  go_wp2_with fail
  refine (eqPair0 sa si ho nx x1a x2a yna ywa x1b x2b ynb ywb n1 d1a n2 d2a kn dna kw dwa d1b d2b dnb dwb r1 r2 (nds kn) (nds kn) (wis kw) (wis kw) _ h'.o1 h'.o2 h'.on h'.ow k'.o1 k'.o2 k'.on k'.ow rfl rfl l1 l2 m1 m2 hn hw' (by omega) (by omega)).mono ?_
  rintro e w1 ⟨rfl, hn1⟩
  go_wp2
  go_ret
  exact ⟨rfl, hw.trans hn1⟩

end Go.Proofs.Ytdknalegmlpimaa
