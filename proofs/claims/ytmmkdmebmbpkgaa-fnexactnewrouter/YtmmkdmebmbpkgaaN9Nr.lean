/- What is proved here: what the program's NewRouter answers, for rules of at most 1048576. -/
import Derived.Test.YtmmkdmebmbpkgaaN9Res
import Derived.Test.YtmmkdmebmbpkgaaG9Se
namespace Go.Proofs.Ytmmkdmebmbpkgaa
open Go.RowKit Go.Sort
set_option linter.unusedVariables false

/-- The lists of a new router's answer are the call's own, from lo on, and lie apart. -/
structure NrOwn (W : World) (lo n1 n2 : Nat) (x1 : Option Addr) (d1 : Nat) (x2 : Option Addr) (d2 : Nat) (r1 r2 : List Ru) (yl : Option Addr) (dl : Nat) (yo : Option Addr) (dO : Nat) : Prop where
  o1 : OvR W lo (.slice x1 n1 d1) r1
  o2 : OvR W lo (.slice x2 n2 d2) r2
  ol : W.ownsRow lo 76 7 (.slice yl 3 dl) 3 (lz9 3)
  oo : W.ownsRow lo 54 1 (.slice yo 3 dO) 3 (List.replicate 3 (.slice none 0 0))
  a12 : ∀ j, (Value.slice x1 n1 d1).ownBlock = some j → (Value.slice x2 n2 d2).ownBlock ≠ some j
  a1l : ∀ j, (Value.slice x1 n1 d1).ownBlock = some j → (Value.slice yl 3 dl).ownBlock ≠ some j
  a1o : ∀ j, (Value.slice x1 n1 d1).ownBlock = some j → (Value.slice yo 3 dO).ownBlock ≠ some j
  a2l : ∀ j, (Value.slice x2 n2 d2).ownBlock = some j → (Value.slice yl 3 dl).ownBlock ≠ some j
  a2o : ∀ j, (Value.slice x2 n2 d2).ownBlock = some j → (Value.slice yo 3 dO).ownBlock ≠ some j
  alo : ∀ j, (Value.slice yl 3 dl).ownBlock = some j → (Value.slice yo 3 dO).ownBlock ≠ some j

theorem NwOwn.nr {w W : World} {n1 n2 : Nat} {x1 : Option Addr} {d1 : Nat} {x2 : Option Addr} {d2 : Nat} {r1 r2 : List Ru} {yl : Option Addr} {dl : Nat} {yo : Option Addr} {dO : Nat} (h : NwOwn w W n1 n2 x1 d1 x2 d2 r1 r2 yl dl yo dO) : NrOwn W (w.heap.size + 2) n1 n2 x1 d1 x2 d2 r1 r2 yl dl yo dO :=
  ⟨h.o1, h.o2, h.ol, h.oo, h.a12, h.a1l, h.a1o, h.a2l, h.a2o, h.alo⟩
theorem NrOwn.turn {W W' : World} {lo n1 n2 : Nat} {x1 : Option Addr} {d1 : Nat} {x2 : Option Addr} {d2 : Nat} {r1 r2 : List Ru} {yl : Option Addr} {dl : Nat} {yo : Option Addr} {dO : Nat} {S : Nat → Prop} (h : NrOwn W lo n1 n2 x1 d1 x2 d2 r1 r2 yl dl yo dO) (t : Turn S W W') (hS : ∀ k, lo ≤ k → k < W.heap.size → ¬ S k) : NrOwn W' lo n1 n2 x1 d1 x2 d2 r1 r2 yl dl yo dO := by
  obtain ⟨_, _, _, _, fo⟩ := row9_form h.oo
  obtain ⟨_, _, _, _, fl⟩ := row9_form h.ol
  exact ⟨h.o1.turn t (fun j hj => hS j (h.o1.blk j hj).1 (h.o1.blk j hj).2), h.o2.turn t (fun j hj => hS j (h.o2.blk j hj).1 (h.o2.blk j hj).2), row9_turn h.ol t (fun j hj => hS j (fl j hj).1 (fl j hj).2), row9_turn h.oo t (fun j hj => hS j (fo j hj).1 (fo j hj).2), h.a12, h.a1l, h.a1o, h.a2l, h.a2o, h.alo⟩
theorem NrOwn.new {W W' : World} {lo n1 n2 : Nat} {x1 : Option Addr} {d1 : Nat} {x2 : Option Addr} {d2 : Nat} {r1 r2 : List Ru} {yl : Option Addr} {dl : Nat} {yo : Option Addr} {dO : Nat} (h : NrOwn W lo n1 n2 x1 d1 x2 d2 r1 r2 yl dl yo dO) (t : New W W') : NrOwn W' lo n1 n2 x1 d1 x2 d2 r1 r2 yl dl yo dO := h.turn t (fun _ _ _ f => f)
theorem row9_low {w : World} {lo lo' sz n : Nat} {e : TypeId} {u : Value} {xs : List Value} (h : w.ownsRow lo e sz u n xs) (hl : lo' ≤ lo) : w.ownsRow lo' e sz u n xs := by
  refine ⟨h.1, ?_⟩
  rcases h.2 with h' | ⟨g', cap', cur, h', hb, hr⟩
  · exact .inl h'
  · exact .inr ⟨g', cap', cur, h', Nat.le_trans hl hb, hr⟩
theorem NrOwn.low {W : World} {lo lo' n1 n2 : Nat} {x1 : Option Addr} {d1 : Nat} {x2 : Option Addr} {d2 : Nat} {r1 r2 : List Ru} {yl : Option Addr} {dl : Nat} {yo : Option Addr} {dO : Nat} (h : NrOwn W lo n1 n2 x1 d1 x2 d2 r1 r2 yl dl yo dO) (hl : lo' ≤ lo) : NrOwn W lo' n1 n2 x1 d1 x2 d2 r1 r2 yl dl yo dO :=
  ⟨h.o1.low hl, h.o2.low hl, row9_low h.ol hl, row9_low h.oo hl, h.a12, h.a1l, h.a1o, h.a2l, h.a2o, h.alo⟩

set_option maxHeartbeats 1600000 in
theorem implNR_bad (sa si ho nx : Int) (a1 a2 : Option Addr) (n1 c1 n2 c2 : Nat) (r1 r2 : List Ru) (z : Int) (w : World) (h1 : RsAt w a1 r1) (h2 : RsAt w a2 r2) (e1 : r1.length = n1) (e2 : r2.length = n2) (m1 : n1 ≤ 1048576) (m2 : n2 ≤ 1048576) (hz : stF sa si ho nx r1 r2 = z) (hz0 : ¬ z = 0) : Calls Try.prog 7 #[.agg #[.int .i64 sa, .int .i64 si, .int .i64 ho, .int .i64 nx, .slice a1 n1 c1, .slice a2 n2 c2]] w fun e w' => e = .returned (.agg #[.int .i64 z, .int .i64 0, .int .i64 0, .int .i64 0, .int .i64 0, .slice none 0 0, .slice none 0 0, .slice none 0 0, .slice none 0 0, .slice none 0 0]) ∧ New w w' := by
  have E1 : Hid (r1.length = n1) := e1
  have E2 : Hid (r2.length = n2) := e2
  have hw : New w ((w.alloc (.cells #[.int .i64 sa, .int .i64 si, .int .i64 ho, .int .i64 nx, .slice a1 n1 c1, .slice a2 n2 c2] 31)).alloc (.cells #[.int .i64 0, .int .i64 0, .int .i64 0, .int .i64 0, .int .i64 0, .slice none 0 0, .slice none 0 0, .slice none 0 0, .slice none 0 0, .slice none 0 0] 38)) := ((New.refl w).alloc _).alloc _
  have bA : Blk ((w.alloc (.cells #[.int .i64 sa, .int .i64 si, .int .i64 ho, .int .i64 nx, .slice a1 n1 c1, .slice a2 n2 c2] 31)).alloc (.cells #[.int .i64 0, .int .i64 0, .int .i64 0, .int .i64 0, .int .i64 0, .slice none 0 0, .slice none 0 0, .slice none 0 0, .slice none 0 0, .slice none 0 0] 38)) w.heap.size 31 #[.int .i64 sa, .int .i64 si, .int .i64 ho, .int .i64 nx, .slice a1 n1 c1, .slice a2 n2 c2] := (Blk.mk _ _ _ _ rfl).alloc _
  have bB : Blk ((w.alloc (.cells #[.int .i64 sa, .int .i64 si, .int .i64 ho, .int .i64 nx, .slice a1 n1 c1, .slice a2 n2 c2] 31)).alloc (.cells #[.int .i64 0, .int .i64 0, .int .i64 0, .int .i64 0, .int .i64 0, .slice none 0 0, .slice none 0 0, .slice none 0 0, .slice none 0 0, .slice none 0 0] 38)) (w.heap.size + 1) 38 #[.int .i64 0, .int .i64 0, .int .i64 0, .int .i64 0, .int .i64 0, .slice none 0 0, .slice none 0 0, .slice none 0 0, .slice none 0 0, .slice none 0 0] := Blk.mk _ _ _ _ (by simp)
  have ge1 : w.heap.size ≤ w.heap.size + 1 := by omega
  have HZ : Hid (stF sa si ho nx r1 r2 = z) := hz
  clear e1 e2 hz
  go_enter Try.func7, Try.ntmps7
  go_upto_region 1 with fail
  generalize ((w.alloc (.cells #[.int .i64 sa, .int .i64 si, .int .i64 ho, .int .i64 nx, .slice a1 n1 c1, .slice a2 n2 c2] 31)).alloc (.cells #[.int .i64 0, .int .i64 0, .int .i64 0, .int .i64 0, .int .i64 0, .slice none 0 0, .slice none 0 0, .slice none 0 0, .slice none 0 0, .slice none 0 0] 38)) = w0 at *
  have cA := bA.cells
  go_wp2_with fail
  refine (implSE sa si ho nx a1 a2 n1 c1 n2 c2 r1 r2 z _ (h1.new hw) (h2.new hw) E1.out E2.out m1 m2 HZ.out).mono ?_
  rintro e w1 ⟨rfl, k1⟩
  have cB := (bB.new k1).cells
  have fB := (bB.new k1).frees
  have hw1 := hw.trans k1
  clear cA bA bB
  go_wp2
  refine bodyPost_ret (v := .agg #[.int .i64 z, .int .i64 0, .int .i64 0, .int .i64 0, .int .i64 0, .slice none 0 0, .slice none 0 0, .slice none 0 0, .slice none 0 0, .slice none 0 0]) (by simp [results, Try.results7, go_sem, cB]) rfl ⟨rfl, ?_⟩
  exact hw1.before (set10 w1 (w.heap.size + 1) _ _ _ _ _ _ _ _ _ _) (by intro i hi e; omega)

set_option maxRecDepth 100000 in
set_option maxHeartbeats 3200000 in
theorem implNR_ok (sa si ho nx : Int) (a1 a2 : Option Addr) (n1 c1 n2 c2 : Nat) (r1 r2 : List Ru) (w : World) (h1 : RsAt w a1 r1) (h2 : RsAt w a2 r2) (e1 : r1.length = n1) (e2 : r2.length = n2) (m1 : n1 ≤ 1048576) (m2 : n2 ≤ 1048576) (z1 : a1 = none → n1 = 0 ∧ c1 = 0) (z2 : a2 = none → n2 = 0 ∧ c2 = 0) (hz : stF sa si ho nx r1 r2 = 0) : Calls Try.prog 7 #[.agg #[.int .i64 sa, .int .i64 si, .int .i64 ho, .int .i64 nx, .slice a1 n1 c1, .slice a2 n2 c2]] w fun e w' => (∃ x1 d1 x2 d2 yl dl yo dO, e = .returned (.agg #[.int .i64 0, .int .i64 sa, .int .i64 si, .int .i64 ho, .int .i64 nx, .slice x1 n1 d1, .slice x2 n2 d2, .slice yl 3 dl, .slice none 0 0, .slice yo 3 dO]) ∧ NrOwn w' (w.heap.size + 2) n1 n2 x1 d1 x2 d2 r1 r2 yl dl yo dO) ∧ New w w' := by
  have E1 : Hid (r1.length = n1) := e1
  have E2 : Hid (r2.length = n2) := e2
  have hw : New w ((w.alloc (.cells #[.int .i64 sa, .int .i64 si, .int .i64 ho, .int .i64 nx, .slice a1 n1 c1, .slice a2 n2 c2] 31)).alloc (.cells #[.int .i64 0, .int .i64 0, .int .i64 0, .int .i64 0, .int .i64 0, .slice none 0 0, .slice none 0 0, .slice none 0 0, .slice none 0 0, .slice none 0 0] 38)) := ((New.refl w).alloc _).alloc _
  have bA : Blk ((w.alloc (.cells #[.int .i64 sa, .int .i64 si, .int .i64 ho, .int .i64 nx, .slice a1 n1 c1, .slice a2 n2 c2] 31)).alloc (.cells #[.int .i64 0, .int .i64 0, .int .i64 0, .int .i64 0, .int .i64 0, .slice none 0 0, .slice none 0 0, .slice none 0 0, .slice none 0 0, .slice none 0 0] 38)) w.heap.size 31 #[.int .i64 sa, .int .i64 si, .int .i64 ho, .int .i64 nx, .slice a1 n1 c1, .slice a2 n2 c2] := (Blk.mk _ _ _ _ rfl).alloc _
  have bB : Blk ((w.alloc (.cells #[.int .i64 sa, .int .i64 si, .int .i64 ho, .int .i64 nx, .slice a1 n1 c1, .slice a2 n2 c2] 31)).alloc (.cells #[.int .i64 0, .int .i64 0, .int .i64 0, .int .i64 0, .int .i64 0, .slice none 0 0, .slice none 0 0, .slice none 0 0, .slice none 0 0, .slice none 0 0] 38)) (w.heap.size + 1) 38 #[.int .i64 0, .int .i64 0, .int .i64 0, .int .i64 0, .int .i64 0, .slice none 0 0, .slice none 0 0, .slice none 0 0, .slice none 0 0, .slice none 0 0] := Blk.mk _ _ _ _ (by simp)
  have ge1 : w.heap.size ≤ w.heap.size + 1 := by omega
  have HZ : Hid (stF sa si ho nx r1 r2 = 0) := hz
  have Z1 : Hid (a1 = none → n1 = 0 ∧ c1 = 0) := z1
  have Z2 : Hid (a2 = none → n2 = 0 ∧ c2 = 0) := z2
  clear e1 e2 hz z1 z2
  go_enter Try.func7, Try.ntmps7
  go_upto_region 1 with fail
  generalize ((w.alloc (.cells #[.int .i64 sa, .int .i64 si, .int .i64 ho, .int .i64 nx, .slice a1 n1 c1, .slice a2 n2 c2] 31)).alloc (.cells #[.int .i64 0, .int .i64 0, .int .i64 0, .int .i64 0, .int .i64 0, .slice none 0 0, .slice none 0 0, .slice none 0 0, .slice none 0 0, .slice none 0 0] 38)) = w0 at *
  have cA := bA.cells
  go_wp2_with fail
  refine (implSE sa si ho nx a1 a2 n1 c1 n2 c2 r1 r2 0 _ (h1.new hw) (h2.new hw) E1.out E2.out m1 m2 HZ.out).mono ?_
  rintro e w1 ⟨rfl, k1⟩
  have bA1 := bA.new k1
  have bB1 := bB.new k1
  have hw1 := hw.trans k1
  clear cA bA bB
  have cA := bA1.cells
  go_wp2_with fail
  refine (resNew sa si ho nx a1 a2 n1 c1 n2 c2 r1 r2 _ (h1.new hw1) (h2.new hw1) E1.out E2.out m1 m2 Z1.out Z2.out).mono ?_
  rintro e w2 ⟨x1, d1, x2, d2, yl, dl, yo, dO, rfl, hN⟩
  have bB2 := bB1.new hN.nw
  have cB := bB2.cells
  have fB := bB2.frees
  have hw2 := hw1.trans hN.nw
  have sz1 := hw1.size
  have hbs : w.heap.size + 1 < w1.heap.size := (Array.getElem?_eq_some_iff.1 bB1).1
  have HN : Hid (NrOwn w2 (w1.heap.size + 2) n1 n2 x1 d1 x2 d2 r1 r2 yl dl yo dO) := hN.nr
  clear cA bA1 bB1 hN
  go_wp2
  have t10 := set10 w2 (w.heap.size + 1) (.int .i64 0) (.int .i64 sa) (.int .i64 si) (.int .i64 ho) (.int .i64 nx) (.slice x1 n1 d1) (.slice x2 n2 d2) (.slice yl 3 dl) (.slice none 0 0) (.slice yo 3 dO)
  refine bodyPost_ret (v := .agg #[.int .i64 0, .int .i64 sa, .int .i64 si, .int .i64 ho, .int .i64 nx, .slice x1 n1 d1, .slice x2 n2 d2, .slice yl 3 dl, .slice none 0 0, .slice yo 3 dO]) (by simp [results, Try.results7, go_sem, cB]) rfl ⟨⟨x1, d1, x2, d2, yl, dl, yo, dO, rfl, ?_⟩, ?_⟩
  · exact (HN.out.turn t10 (by intro k i1 i2 e; omega)).low (by omega)
  · exact hw2.before t10 (by intro i hi e; omega)

end Go.Proofs.Ytmmkdmebmbpkgaa
