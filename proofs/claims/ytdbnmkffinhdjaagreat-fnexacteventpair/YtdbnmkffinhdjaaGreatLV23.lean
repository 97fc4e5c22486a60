/- Lemmas and contracts of one law. -/
import Derived.Test.YtdbnmkffinhdjaaGreatLV22
import Derived.Test.YtdbnmkffinhdjaaGreatLV11
import Derived.Test.YtdbnmkffinhdjaaGreatLV3
namespace Go.Proofs.YtdbnmkffinhdjaaGreat
open Go.ChangeShapes Go.WideShapes Go.ChangeAt Go.RowKit Go.Deep Go.Sort
set_option linter.unusedVariables false
set_option linter.unusedSimpArgs false
set_option maxRecDepth 100000
set_option maxHeartbeats 25600000

theorem wi_by {w : World} {A : Option Addr} {V L : List WiV} (he : V.map WiV.r = L.map WiV.r) (h : WiCame w A L) : ∀ u ∈ V, (∀ z ∈ u.xs, By z) ∧ ∀ z ∈ u.ys, By z := by
  intro u hu
  have h1 : u.r ∈ V.map WiV.r := List.mem_map_of_mem hu
  rw [he] at h1
  obtain ⟨v, hv, e⟩ := List.mem_map.1 h1
  obtain ⟨i, hi⟩ := List.getElem?_of_mem hv
  have k := (h i v hi).2
  simp only [WiV.r, Prod.mk.injEq] at e
  obtain ⟨-, -, e1, e2⟩ := e
  rw [← e1, ← e2]
  exact ⟨k.1.lt, k.2.1.lt⟩
theorem mq_by {w : World} {A : Option Addr} {V L : List MlV} (he : V.map MlV.r = L.map MlV.r) (h : MqCame w A L) : ∀ u ∈ V, ∀ z ∈ u.m.e.xs, By z := by
  intro u hu
  have h1 : u.r ∈ V.map MlV.r := List.mem_map_of_mem hu
  rw [he] at h1
  obtain ⟨v, hv, e⟩ := List.mem_map.1 h1
  obtain ⟨i, hi⟩ := List.getElem?_of_mem hv
  have k := (h i v hi).2
  have e1 : v.m = u.m := e
  rw [← e1]
  exact k.1.lt

theorem toPair16 (sa si ho nx : Int) (a1 a2 aN aW aM aS : Option Addr) (n1 c1 n2 c2 nN cN nW cW nM cM nS cS : Nat) (r1 r2 : List Ru) (LN : List NdV) (LW : List WiV) (LM : List MlV) (LS : List EkV) (w : World) (h : PCame w a1 a2 aN aW aM aS n1 n2 nN nW nM nS r1 r2 LN LW LM LS) (hs : PSm n1 n2 LN LW LM LS) :
    Calls Tryz.prog 8 #[.agg #[.int .i64 sa, .int .i64 si, .int .i64 ho, .int .i64 nx, .slice a1 n1 c1, .slice a2 n2 c2, .slice aN nN cN, .slice aW nW cW, .slice aM nM cM, .slice aS nS cS]] w fun e w' => ∃ (g1 g2 gN gW gM gS : Nat) (VN : List NdV) (VW : List WiV) (VM : List MlV) (VS : List EkV), e = .returned (.agg #[.int .i64 sa, .int .i64 si, .int .i64 ho, .int .i64 nx, .slice (some ⟨g1, 0, none⟩) n1 n1, .slice (some ⟨g2, 0, none⟩) n2 n2, .slice (some ⟨gN, 0, none⟩) nN nN, .slice (some ⟨gW, 0, none⟩) nW nW, .slice (some ⟨gM, 0, none⟩) nM nM, .slice (some ⟨gS, 0, none⟩) nS nS]) ∧ PEq LN VN LW VW LM VM LS VS ∧ VN.length = nN ∧ VW.length = nW ∧ VM.length = nM ∧ VS.length = nS ∧ SomW VW ∧ SomM VM ∧ (∃ col, PrOw w' w.heap.size w'.heap.size col ⟨sa, si, ho, nx, some ⟨g1, 0, none⟩, n1, n1, some ⟨g2, 0, none⟩, n2, n2, some ⟨gN, 0, none⟩, nN, nN, some ⟨gW, 0, none⟩, nW, nW, some ⟨gM, 0, none⟩, nM, nM, some ⟨gS, 0, none⟩, nS, nS, r1, r2, VN, VW, VM, VS⟩) ∧ New w w' := by
  have hw0 : New w (((w.alloc (.cells #[.int .i64 sa, .int .i64 si, .int .i64 ho, .int .i64 nx, .slice a1 n1 c1, .slice a2 n2 c2, .slice aN nN cN, .slice aW nW cW, .slice aM nM cM, .slice aS nS cS] 32)).alloc (.cells #[.int .i64 0, .int .i64 0, .int .i64 0, .int .i64 0, .slice none 0 0, .slice none 0 0, .slice none 0 0, .slice none 0 0, .slice none 0 0, .slice none 0 0] 47)).alloc (.cells #[.int .i64 0, .int .i64 0, .int .i64 0, .int .i64 0, .slice none 0 0, .slice none 0 0, .slice none 0 0, .slice none 0 0, .slice none 0 0, .slice none 0 0] 47)) := (((New.refl w).alloc _).alloc _).alloc _
  have b0 : Blk (((w.alloc (.cells #[.int .i64 sa, .int .i64 si, .int .i64 ho, .int .i64 nx, .slice a1 n1 c1, .slice a2 n2 c2, .slice aN nN cN, .slice aW nW cW, .slice aM nM cM, .slice aS nS cS] 32)).alloc (.cells #[.int .i64 0, .int .i64 0, .int .i64 0, .int .i64 0, .slice none 0 0, .slice none 0 0, .slice none 0 0, .slice none 0 0, .slice none 0 0, .slice none 0 0] 47)).alloc (.cells #[.int .i64 0, .int .i64 0, .int .i64 0, .int .i64 0, .slice none 0 0, .slice none 0 0, .slice none 0 0, .slice none 0 0, .slice none 0 0, .slice none 0 0] 47)) w.heap.size 32 #[.int .i64 sa, .int .i64 si, .int .i64 ho, .int .i64 nx, .slice a1 n1 c1, .slice a2 n2 c2, .slice aN nN cN, .slice aW nW cW, .slice aM nM cM, .slice aS nS cS] := ((Blk.mk _ _ _ _ rfl).alloc _).alloc _
  have b1 : Blk (((w.alloc (.cells #[.int .i64 sa, .int .i64 si, .int .i64 ho, .int .i64 nx, .slice a1 n1 c1, .slice a2 n2 c2, .slice aN nN cN, .slice aW nW cW, .slice aM nM cM, .slice aS nS cS] 32)).alloc (.cells #[.int .i64 0, .int .i64 0, .int .i64 0, .int .i64 0, .slice none 0 0, .slice none 0 0, .slice none 0 0, .slice none 0 0, .slice none 0 0, .slice none 0 0] 47)).alloc (.cells #[.int .i64 0, .int .i64 0, .int .i64 0, .int .i64 0, .slice none 0 0, .slice none 0 0, .slice none 0 0, .slice none 0 0, .slice none 0 0, .slice none 0 0] 47)) (w.heap.size + 1) 47 #[.int .i64 0, .int .i64 0, .int .i64 0, .int .i64 0, .slice none 0 0, .slice none 0 0, .slice none 0 0, .slice none 0 0, .slice none 0 0, .slice none 0 0] := (Blk.mk _ _ _ _ (by simp)).alloc _
  have b2 : Blk (((w.alloc (.cells #[.int .i64 sa, .int .i64 si, .int .i64 ho, .int .i64 nx, .slice a1 n1 c1, .slice a2 n2 c2, .slice aN nN cN, .slice aW nW cW, .slice aM nM cM, .slice aS nS cS] 32)).alloc (.cells #[.int .i64 0, .int .i64 0, .int .i64 0, .int .i64 0, .slice none 0 0, .slice none 0 0, .slice none 0 0, .slice none 0 0, .slice none 0 0, .slice none 0 0] 47)).alloc (.cells #[.int .i64 0, .int .i64 0, .int .i64 0, .int .i64 0, .slice none 0 0, .slice none 0 0, .slice none 0 0, .slice none 0 0, .slice none 0 0, .slice none 0 0] 47)) (w.heap.size + 1 + 1) 47 #[.int .i64 0, .int .i64 0, .int .i64 0, .int .i64 0, .slice none 0 0, .slice none 0 0, .slice none 0 0, .slice none 0 0, .slice none 0 0, .slice none 0 0] := Blk.mk _ _ _ _ (by simp)
  have s0 : Hid ((((w.alloc (.cells #[.int .i64 sa, .int .i64 si, .int .i64 ho, .int .i64 nx, .slice a1 n1 c1, .slice a2 n2 c2, .slice aN nN cN, .slice aW nW cW, .slice aM nM cM, .slice aS nS cS] 32)).alloc (.cells #[.int .i64 0, .int .i64 0, .int .i64 0, .int .i64 0, .slice none 0 0, .slice none 0 0, .slice none 0 0, .slice none 0 0, .slice none 0 0, .slice none 0 0] 47)).alloc (.cells #[.int .i64 0, .int .i64 0, .int .i64 0, .int .i64 0, .slice none 0 0, .slice none 0 0, .slice none 0 0, .slice none 0 0, .slice none 0 0, .slice none 0 0] 47)).heap.size = w.heap.size + 1 + 1 + 1) := by unfold Hid; simp
  have ge1 : w.heap.size ≤ w.heap.size + 1 := by omega
  have ge2 : w.heap.size ≤ w.heap.size + 1 + 1 := by omega
  have d01 : ¬ w.heap.size + 1 + 1 = w.heap.size := by omega
  have d12 : ¬ w.heap.size + 1 + 1 = w.heap.size + 1 := by omega
  go_enter Tryz.func8, Tryz.ntmps8
  go_wp2_with fail
  refine (toSe_any sa si ho nx a1 a2 n1 c1 n2 c2 r1 r2 _ (h.s1.new hw0) (h.s2.new hw0) h.l1 h.l2 hs.m1 hs.m2).mono ?_
  rintro e w1 ⟨g1, g2, rfl, hg1, hg12, hoA, hoB, hn1⟩
  have S0 := s0.out
  have nn := hw0.trans hn1
  have p0 := b0.new hn1
  have p1 := b1.new hn1
  have p2 := b2.new hn1
  have c0 := p0.cells
  have c2' := p2.cells
  have f2 := p2.frees
  have t1 : Turn (fun k => k = w.heap.size + 1 + 1) w1 ((((((w1.setCell ⟨w.heap.size + 1 + 1, 0, none⟩ (.int .i64 sa)).setCell ⟨w.heap.size + 1 + 1, 1, none⟩ (.int .i64 si)).setCell ⟨w.heap.size + 1 + 1, 2, none⟩ (.int .i64 ho)).setCell ⟨w.heap.size + 1 + 1, 3, none⟩ (.int .i64 nx)).setCell ⟨w.heap.size + 1 + 1, 4, none⟩ (.slice (some ⟨g1, 0, none⟩) n1 n1)).setCell ⟨w.heap.size + 1 + 1, 5, none⟩ (.slice (some ⟨g2, 0, none⟩) n2 n2)) := (Turn.here9 (Turn.here9 (Turn.here9 (Turn.here9 (Turn.here9 (Turn.here9 (Turn.refl _ _) _) _) _) _) _) _)
  have m1 : New w ((((((w1.setCell ⟨w.heap.size + 1 + 1, 0, none⟩ (.int .i64 sa)).setCell ⟨w.heap.size + 1 + 1, 1, none⟩ (.int .i64 si)).setCell ⟨w.heap.size + 1 + 1, 2, none⟩ (.int .i64 ho)).setCell ⟨w.heap.size + 1 + 1, 3, none⟩ (.int .i64 nx)).setCell ⟨w.heap.size + 1 + 1, 4, none⟩ (.slice (some ⟨g1, 0, none⟩) n1 n1)).setCell ⟨w.heap.size + 1 + 1, 5, none⟩ (.slice (some ⟨g2, 0, none⟩) n2 n2)) := ((((((nn.setCell ge2 _).setCell ge2 _).setCell ge2 _).setCell ge2 _).setCell ge2 _).setCell ge2 _)
  have q2 : Blk ((((((w1.setCell ⟨w.heap.size + 1 + 1, 0, none⟩ (.int .i64 sa)).setCell ⟨w.heap.size + 1 + 1, 1, none⟩ (.int .i64 si)).setCell ⟨w.heap.size + 1 + 1, 2, none⟩ (.int .i64 ho)).setCell ⟨w.heap.size + 1 + 1, 3, none⟩ (.int .i64 nx)).setCell ⟨w.heap.size + 1 + 1, 4, none⟩ (.slice (some ⟨g1, 0, none⟩) n1 n1)).setCell ⟨w.heap.size + 1 + 1, 5, none⟩ (.slice (some ⟨g2, 0, none⟩) n2 n2)) (w.heap.size + 1 + 1) 47 #[.int .i64 sa, .int .i64 si, .int .i64 ho, .int .i64 nx, .slice (some ⟨g1, 0, none⟩) n1 n1, .slice (some ⟨g2, 0, none⟩) n2 n2, .slice none 0 0, .slice none 0 0, .slice none 0 0, .slice none 0 0] := ((((((p2.set 0 (.int .i64 sa)).set 1 (.int .i64 si)).set 2 (.int .i64 ho)).set 3 (.int .i64 nx)).set 4 (.slice (some ⟨g1, 0, none⟩) n1 n1)).set 5 (.slice (some ⟨g2, 0, none⟩) n2 n2))
  have q0 := p0.turn t1 (by omega)
  have q1 := p1.turn t1 (by omega)
  have z01 := hn1.size
  have G2L := hoB.lt
  have oA := hoA.turn t1 (by omega)
  have oB := hoB.turn t1 (by omega)
  have sz1 := t1.size
  clear b0 b1 b2 hn1 p0 p1 p2 hw0 t1 hoA hoB nn
  go_wp2_with fail
  refine (toNdS_own aN nN cN LN _ (h.nd.new m1) h.lN hs.mN).mono ?_
  rintro e w2 ⟨gN, VN, PN, QN, rfl, eN, hrN, hgN, hoN, hn2⟩
  have nn := m1.trans hn2
  have p0 := q0.new hn2
  have p1 := q1.new hn2
  have p2 : Blk w2 (w.heap.size + 1 + 1) 47 #[.int .i64 sa, .int .i64 si, .int .i64 ho, .int .i64 nx, .slice (some ⟨g1, 0, none⟩) n1 n1, .slice (some ⟨g2, 0, none⟩) n2 n2, .slice none 0 0, .slice none 0 0, .slice none 0 0, .slice none 0 0] := q2.new hn2
  have yl2 := hn2.size
  have LN' : Hid (VN.length = nN) := hrN.len
  have oAn := oA.new hn2
  have oBn := oB.new hn2
  clear c0 c2' f2 q0 q1 q2
  clear oA
  clear oB
  have c0 := p0.cells
  have c2' := p2.cells
  have f2 := p2.frees
  have t2 : Turn (fun k => k = w.heap.size + 1 + 1) w2 (w2.setCell ⟨w.heap.size + 1 + 1, 6, none⟩ (.slice (some ⟨gN, 0, none⟩) nN nN)) := Turn.here9 (Turn.refl _ _) _
  have m2 : New w (w2.setCell ⟨w.heap.size + 1 + 1, 6, none⟩ (.slice (some ⟨gN, 0, none⟩) nN nN)) := nn.setCell ge2 _
  have q2 := p2.set 6 (.slice (some ⟨gN, 0, none⟩) nN nN)
  have q0 := p0.turn t2 (by omega)
  have q1 := p1.turn t2 (by omega)
  have sz2 := t2.size
  have qN := hoN.own (hi := w2.heap.size) hrN (by omega) (Nat.le_refl _)
  have oN := qN.turn t2 (by intro j h1 e; have := h1.1; omega)
  clear qN
  have oA := oAn.turn t2 (by omega)
  clear oAn
  have oB := oBn.turn t2 (by omega)
  clear oBn
  clear hoN hrN hn2 p0 p1 p2 t2 nn
  go_wp2_with fail
  refine (toWiS_som aW nW cW LW _ (h.wi.new m2) h.lW hs.mW).mono ?_
  rintro e w3 ⟨gW, VW, rfl, eW, hrW, hgW, hoW, hsW, hn3⟩
  have nn := m2.trans hn3
  have p0 := q0.new hn3
  have p1 := q1.new hn3
  have p2 : Blk w3 (w.heap.size + 1 + 1) 47 #[.int .i64 sa, .int .i64 si, .int .i64 ho, .int .i64 nx, .slice (some ⟨g1, 0, none⟩) n1 n1, .slice (some ⟨g2, 0, none⟩) n2 n2, .slice (some ⟨gN, 0, none⟩) nN nN, .slice none 0 0, .slice none 0 0, .slice none 0 0] := q2.new hn3
  have yl3 := hn3.size
  have HSW : Hid (SomW VW) := hsW
  clear hsW
  have HBW : Hid (∀ u ∈ VW, (∀ z ∈ u.xs, By z) ∧ ∀ z ∈ u.ys, By z) := wi_by eW (h.wi)
  have LW' : Hid (VW.length = nW) := hrW.len
  have oAn := oA.new hn3
  have oBn := oB.new hn3
  have oNn := oN.new hn3
  clear c0 c2' f2 q0 q1 q2
  clear oA
  clear oB
  clear oN
  have c0 := p0.cells
  have c2' := p2.cells
  have f2 := p2.frees
  have t3 : Turn (fun k => k = w.heap.size + 1 + 1) w3 (w3.setCell ⟨w.heap.size + 1 + 1, 7, none⟩ (.slice (some ⟨gW, 0, none⟩) nW nW)) := Turn.here9 (Turn.refl _ _) _
  have m3 : New w (w3.setCell ⟨w.heap.size + 1 + 1, 7, none⟩ (.slice (some ⟨gW, 0, none⟩) nW nW)) := nn.setCell ge2 _
  have q2 := p2.set 7 (.slice (some ⟨gW, 0, none⟩) nW nW)
  have q0 := p0.turn t3 (by omega)
  have q1 := p1.turn t3 (by omega)
  have sz3 := t3.size
  have qW := hoW.own (hi := w3.heap.size) hrW (by omega) (Nat.le_refl _)
  have oW := qW.turn t3 (by intro j h1 e; have := h1.1; omega)
  clear qW
  have oA := oAn.turn t3 (by omega)
  clear oAn
  have oB := oBn.turn t3 (by omega)
  clear oBn
  have oN := oNn.turn t3 (by intro j h1 e; have := h1.1; omega)
  clear oNn
  clear hoW hrW hn3 p0 p1 p2 t3 nn
  go_wp2_with fail
  refine (toMqS_som aM nM cM LM _ (h.mq.new m3) h.lM hs.mM).mono ?_
  rintro e w4 ⟨gM, VM, rfl, eM, hrM, hgM, hoM, hsM, hn4⟩
  have nn := m3.trans hn4
  have p0 := q0.new hn4
  have p1 := q1.new hn4
  have p2 : Blk w4 (w.heap.size + 1 + 1) 47 #[.int .i64 sa, .int .i64 si, .int .i64 ho, .int .i64 nx, .slice (some ⟨g1, 0, none⟩) n1 n1, .slice (some ⟨g2, 0, none⟩) n2 n2, .slice (some ⟨gN, 0, none⟩) nN nN, .slice (some ⟨gW, 0, none⟩) nW nW, .slice none 0 0, .slice none 0 0] := q2.new hn4
  have yl4 := hn4.size
  have HSM : Hid (SomM VM) := hsM
  clear hsM
  have HBM : Hid (∀ u ∈ VM, ∀ z ∈ u.m.e.xs, By z) := mq_by eM (h.mq)
  have LM' : Hid (VM.length = nM) := hrM.len
  have oAn := oA.new hn4
  have oBn := oB.new hn4
  have oNn := oN.new hn4
  have oWn := oW.new hn4
  clear c0 c2' f2 q0 q1 q2
  clear oA
  clear oB
  clear oN
  clear oW
  have c0 := p0.cells
  have c2' := p2.cells
  have f2 := p2.frees
  have t4 : Turn (fun k => k = w.heap.size + 1 + 1) w4 (w4.setCell ⟨w.heap.size + 1 + 1, 8, none⟩ (.slice (some ⟨gM, 0, none⟩) nM nM)) := Turn.here9 (Turn.refl _ _) _
  have m4 : New w (w4.setCell ⟨w.heap.size + 1 + 1, 8, none⟩ (.slice (some ⟨gM, 0, none⟩) nM nM)) := nn.setCell ge2 _
  have q2 := p2.set 8 (.slice (some ⟨gM, 0, none⟩) nM nM)
  have q0 := p0.turn t4 (by omega)
  have q1 := p1.turn t4 (by omega)
  have sz4 := t4.size
  have qM := hoM.own (hi := w4.heap.size) hrM (by omega) (Nat.le_refl _)
  have oM := qM.turn t4 (by intro j h1 e; have := h1.1; omega)
  clear qM
  have oA := oAn.turn t4 (by omega)
  clear oAn
  have oB := oBn.turn t4 (by omega)
  clear oBn
  have oN := oNn.turn t4 (by intro j h1 e; have := h1.1; omega)
  clear oNn
  have oW := oWn.turn t4 (by intro j h1 e; have := h1.1; omega)
  clear oWn
  clear hoM hrM hn4 p0 p1 p2 t4 nn
  go_wp2_with fail
  refine (toEkS_any aS nS cS LS _ (h.se.new m4) h.lS hs.mS).mono ?_
  rintro e w5 ⟨gS, VS, rfl, eS, hoS, hn5⟩
  have nn := m4.trans hn5
  have p0 := q0.new hn5
  have p1 := q1.new hn5
  have p2 : Blk w5 (w.heap.size + 1 + 1) 47 #[.int .i64 sa, .int .i64 si, .int .i64 ho, .int .i64 nx, .slice (some ⟨g1, 0, none⟩) n1 n1, .slice (some ⟨g2, 0, none⟩) n2 n2, .slice (some ⟨gN, 0, none⟩) nN nN, .slice (some ⟨gW, 0, none⟩) nW nW, .slice (some ⟨gM, 0, none⟩) nM nM, .slice none 0 0] := q2.new hn5
  have yl5 := hn5.size
  have oAn := oA.new hn5
  have oBn := oB.new hn5
  have oNn := oN.new hn5
  have oWn := oW.new hn5
  have oMn := oM.new hn5
  clear c0 c2' f2 q0 q1 q2
  clear oA
  clear oB
  clear oN
  clear oW
  clear oM
  have c1' := p1.cells
  have f1 := p1.frees
  have c2' := p2.cells
  have f2 := p2.frees
  go_wp2
  refine bodyPost_ret (v := .agg #[.int .i64 sa, .int .i64 si, .int .i64 ho, .int .i64 nx, .slice (some ⟨g1, 0, none⟩) n1 n1, .slice (some ⟨g2, 0, none⟩) n2 n2, .slice (some ⟨gN, 0, none⟩) nN nN, .slice (some ⟨gW, 0, none⟩) nW nW, .slice (some ⟨gM, 0, none⟩) nM nM, .slice (some ⟨gS, 0, none⟩) nS nS]) (by simp [results, Tryz.results8, go_sem, c1']) rfl ⟨g1, g2, gN, gW, gM, gS, VN, VW, VM, VS, rfl, ⟨eN, eW, eM, eS⟩, LN'.out, LW'.out, LM'.out, hoS.lg.2, HSW.out, HSM.out, ?_, ?_⟩
  · have tt : Turn (fun i => i = w.heap.size + 1 ∨ i = w.heap.size + 1 + 1) w5 (((((((((((w5.setCell ⟨w.heap.size + 1 + 1, 9, none⟩ (.slice (some ⟨gS, 0, none⟩) nS nS)).setCell ⟨w.heap.size + 1, 0, none⟩ (.int .i64 sa)).setCell ⟨w.heap.size + 1, 1, none⟩ (.int .i64 si)).setCell ⟨w.heap.size + 1, 2, none⟩ (.int .i64 ho)).setCell ⟨w.heap.size + 1, 3, none⟩ (.int .i64 nx)).setCell ⟨w.heap.size + 1, 4, none⟩ (.slice (some ⟨g1, 0, none⟩) n1 n1)).setCell ⟨w.heap.size + 1, 5, none⟩ (.slice (some ⟨g2, 0, none⟩) n2 n2)).setCell ⟨w.heap.size + 1, 6, none⟩ (.slice (some ⟨gN, 0, none⟩) nN nN)).setCell ⟨w.heap.size + 1, 7, none⟩ (.slice (some ⟨gW, 0, none⟩) nW nW)).setCell ⟨w.heap.size + 1, 8, none⟩ (.slice (some ⟨gM, 0, none⟩) nM nM)).setCell ⟨w.heap.size + 1, 9, none⟩ (.slice (some ⟨gS, 0, none⟩) nS nS)) := (Turn.set (S := fun i => i = w.heap.size + 1 ∨ i = w.heap.size + 1 + 1) (Turn.set (S := fun i => i = w.heap.size + 1 ∨ i = w.heap.size + 1 + 1) (Turn.set (S := fun i => i = w.heap.size + 1 ∨ i = w.heap.size + 1 + 1) (Turn.set (S := fun i => i = w.heap.size + 1 ∨ i = w.heap.size + 1 + 1) (Turn.set (S := fun i => i = w.heap.size + 1 ∨ i = w.heap.size + 1 + 1) (Turn.set (S := fun i => i = w.heap.size + 1 ∨ i = w.heap.size + 1 + 1) (Turn.set (S := fun i => i = w.heap.size + 1 ∨ i = w.heap.size + 1 + 1) (Turn.set (S := fun i => i = w.heap.size + 1 ∨ i = w.heap.size + 1 + 1) (Turn.set (S := fun i => i = w.heap.size + 1 ∨ i = w.heap.size + 1 + 1) (Turn.set (S := fun i => i = w.heap.size + 1 ∨ i = w.heap.size + 1 + 1) (Turn.set (S := fun i => i = w.heap.size + 1 ∨ i = w.heap.size + 1 + 1) (Turn.refl _ _) (Or.inr rfl) _) (Or.inl rfl) _) (Or.inl rfl) _) (Or.inl rfl) _) (Or.inl rfl) _) (Or.inl rfl) _) (Or.inl rfl) _) (Or.inl rfl) _) (Or.inl rfl) _) (Or.inl rfl) _) (Or.inl rfl) _)
    have s5 := tt.size
    have GA := oAn.lt
    have GB := oBn.lt
    have kA : ∀ j, (Value.slice (some (⟨g1, 0, none⟩ : Addr)) n1 n1).ownBlock = some j → j = g1 := by intro j hj; simp [Value.ownBlock] at hj; omega
    have kB : ∀ j, (Value.slice (some (⟨g2, 0, none⟩ : Addr)) n2 n2).ownBlock = some j → j = g2 := by intro j hj; simp [Value.ownBlock] at hj; omega
    refine ⟨fun x => if x = g1 then 5 else if x = g2 then 6 else if x < gW then 1 else if x < gM then 2 else if x < w4.heap.size then 3 else 4, (oAn.turn tt (by omega)).ov.low (by omega), (oBn.turn tt (by omega)).ov.low (by omega), ?_, ?_, .inr ⟨gN, PN, QN, rfl, ?_⟩, .inr ⟨gW, rfl, ?_⟩, .inr ⟨gM, rfl, ?_⟩, ⟨_, _, hoS.turn tt (by intro j h1 h2 e; omega), ?_⟩, HBW.out, HBM.out⟩
    · intro j hj
      obtain rfl := kA j hj
      exact ⟨by simp, by omega, by omega⟩
    · intro j hj
      obtain rfl := kB j hj
      have : ¬ j = g1 := by omega
      exact ⟨by simp [this], by omega, by omega⟩
    · refine (oNn.turn tt (by intro j h1 e; have := h1.1; omega)).mono ?_
      intro x hx
      have h1 := hx.1
      have h2 := hx.2
      have c1 : ¬ x = g1 := by omega
      have c2 : ¬ x = g2 := by omega
      have c3 : x < gW := by omega
      exact ⟨by simp [c1, c2, c3], by omega, by omega⟩
    · refine (oWn.turn tt (by intro j h1 e; have := h1.1; omega)).mono ?_
      intro x hx
      have h1 := hx.1
      have h2 := hx.2
      have c1 : ¬ x = g1 := by omega
      have c2 : ¬ x = g2 := by omega
      have c3 : ¬ x < gW := by omega
      have c4 : x < gM := by omega
      exact ⟨by simp [c1, c2, c3, c4], by omega, by omega⟩
    · refine (oMn.turn tt (by intro j h1 e; have := h1.1; omega)).mono ?_
      intro x hx
      have h1 := hx.1
      have h2 := hx.2
      have c1 : ¬ x = g1 := by omega
      have c2 : ¬ x = g2 := by omega
      have c3 : ¬ x < gW := by omega
      have c4 : ¬ x < gM := by omega
      exact ⟨by simp [c1, c2, c3, c4, h2], by omega, by omega⟩
    · intro x h1 h2
      have c1 : ¬ x = g1 := by omega
      have c2 : ¬ x = g2 := by omega
      have c3 : ¬ x < gW := by omega
      have c4 : ¬ x < gM := by omega
      have c5 : ¬ x < w4.heap.size := by omega
      exact ⟨by simp [c1, c2, c3, c4, c5], by omega, by omega⟩
  · exact (((((((((((nn.setCell ge2 _).setCell ge1 _).setCell ge1 _).setCell ge1 _).setCell ge1 _).setCell ge1 _).setCell ge1 _).setCell ge1 _).setCell ge1 _).setCell ge1 _).setCell ge1 _)

end Go.Proofs.YtdbnmkffinhdjaaGreat

namespace Go.Proofs.YtdbnmkffinhdjaaGreat
open Go.RowKit
set_option linter.unusedVariables false
set_option maxHeartbeats 25600000

theorem OvB.ow {w : World} {lo n c : Nat} {a : Option Addr} {xs : List Int} (h : OvB w lo (.slice a n c) xs) (hb : ∀ z ∈ xs, 0 ≤ z ∧ z ≤ 255) : OwAt w a n c xs ∧ BsAt w a xs ∧ ∀ x, a = some x → lo ≤ x.block ∧ x.block < w.heap.size := by
  obtain ⟨a', c', e, hbs, hc, hs, ho⟩ := h.bs hb
  obtain ⟨rfl, rfl, rfl⟩ : a = a' ∧ n = xs.length ∧ c = c' := by simpa using e
  refine ⟨ho, hbs, ?_⟩
  rintro x rfl
  rcases hs with ⟨h, _⟩ | ⟨g, h, h1, h2⟩
  · cases h
  · obtain rfl := Option.some.inj h
    exact ⟨h1, h2⟩

theorem ov_turn {w w' : World} {lo : Nat} {v : Value} {xs : List Int} {S : Nat → Prop} (h : OvB w lo v xs) (t : Turn S w w') (hS : ∀ k, lo ≤ k → ¬ S k) : OvB w' lo v xs := h.turn t (fun k hk _ => hS k hk)

end Go.Proofs.YtdbnmkffinhdjaaGreat

namespace Go.Proofs.YtdbnmkffinhdjaaGreat
open Go.ChangeShapes Go.WideShapes Go.ChangeAt Go.RowKit Go.Deep Go.Sort
set_option linter.unusedVariables false
set_option linter.unusedSimpArgs false
set_option maxRecDepth 100000
set_option maxHeartbeats 25600000

/-- 'copy' of elements of ten cells into a row. -/
theorem run_copy10 {P : Program} (w : World) (dT sT ty elem : TypeId) (g o dLen dCap : Nat) (a : Addr) (sLen sCap : Nat) (cur : Array Value) (t : TypeId) (cs : List Value)
    (hu : P.underlying dT = some (.slice elem)) (hs : (P.info? elem).map (·.size) = some 10)
    (hg : w.heap[g]? = some (.cells cur t (0, 0))) (hn : cs.length = Nat.min sLen dLen * 10)
    (hsrc : ∀ j v, cs[j]? = some v → w.cell? (a.add j) = some v) (hfit : o + cs.length ≤ cur.size) (h1 : ∀ v ∈ cs, v.oneCell' = true) :
    (Builtin.copy_ #[dT, sT] ty #[.slice (some ⟨g, o, none⟩) dLen dCap, .slice (some a) sLen sCap]).run P w =
      .ok (goInt (Nat.min sLen dLen)) (w.setRow g (cur.toList.take o ++ cs ++ cur.toList.drop (o + cs.length)).toArray) := by
  have hst := run_storeCells_at P g o t cs 0 cur w hg (by simpa using hfit) h1
  have hf := run_firstCells_some (P := P) w 10 (Nat.min sLen dLen) a sLen sCap cs hn hsrc
  cases hq : P.info? elem with
  | none => simp [hq] at hs
  | some i =>
    have hi : i.size = 10 := by simpa [hq] using hs
    simp [Builtin.copy_, run_underlying hu, Builtin.lenOf, sizeOf, typeInfo, hq, hi, hf, hst]
theorem Turn.setRow16 {S : Nat → Prop} {a w : World} (h : Turn S a w) (g : Nat) (cs : Array Value) (hg : S g) : Turn S a (w.setRow g cs) :=
  ⟨h.os, h.tape, h.output, by simpa [World.setRow] using h.size, fun k hk hs => (setRow_other w g k cs (fun e => hs (e ▸ hg))).trans (h.block k hk hs)⟩
theorem Tryz.szMl10 : (Tryz.prog.info? 120).map (·.size) = some 10 := by kernel_rfl
theorem cellsMq_one (V : List MlV) : ∀ u ∈ cellsMq V, u.oneCell' = true := by
  intro u hu
  unfold cellsMq at hu
  obtain ⟨v, -, hv⟩ := List.mem_flatMap.1 hu
  unfold MlV.cs at hv
  simp only [List.mem_cons, List.not_mem_nil, or_false] at hv
  rcases hv with rfl | rfl | rfl | rfl | rfl | rfl | rfl | rfl | rfl | rfl <;> rfl
theorem MqAt.cellsAt {w : World} {g : Nat} {V : List MlV} (h : MqAt w (some ⟨g, 0, none⟩) V) : ∀ j u, (cellsMq V)[j]? = some u → w.cell? ⟨g, j, none⟩ = some u := by
  intro j u hu
  have hj : j < V.length * 10 := by have := (List.getElem?_eq_some_iff.1 hu).1; rw [cellsMq_len] at this; exact this
  obtain ⟨v, hv⟩ : ∃ v, V[j / 10]? = some v := ⟨_, List.getElem?_eq_getElem (by omega)⟩
  obtain ⟨⟨g', e, hc⟩, -⟩ := h (j / 10) v hv
  simp only [Option.some.injEq, Addr.mk.injEq, and_true] at e
  subst e
  have h1 := cellsMq_get V (j / 10) v hv (j % 10) (by omega)
  have h2 := hc (j % 10) (by omega)
  rw [show j / 10 * 10 + j % 10 = j by omega] at h1 h2
  rw [h2, ← h1, hu]
theorem cellsMq_set4 : ∀ (U : List MlV) (i : Nat) (u v : MlV), U[i]? = some u → v.m.kd = u.m.kd → v.m.tgt = u.m.tgt → v.m.ep = u.m.ep → v.m.at1 = u.m.at1 → v.m.pr = u.m.pr → v.m.has = u.m.has → ((((cellsMq U).set (i * 10 + 6) (.int .i64 v.m.e.ep)).set (i * 10 + 7) (.int .i64 v.m.e.ki)).set (i * 10 + 8) (.int .i64 v.m.e.pe)).set (i * 10 + 9) (.slice v.a v.m.e.xs.length v.c) = cellsMq (U.set i v)
  | [], i, u, v, h, _, _, _, _, _, _ => by simp at h
  | q :: U, 0, u, v, h, e1, e2, e3, e4, e5, e6 => by
    simp at h
    subst h
    simp [cellsMq, MlV.cs, e1, e2, e3, e4, e5, e6]
  | q :: U, i + 1, u, v, h, e1, e2, e3, e4, e5, e6 => by
    have ih := cellsMq_set4 U i u v (by simpa using h) e1 e2 e3 e4 e5 e6
    have e0 : ∀ (q : MlV) (U : List MlV), cellsMq (q :: U) = .int .i64 q.m.kd :: .int .i64 q.m.tgt :: .int .i64 q.m.ep :: .int .i64 q.m.at1 :: .int .i64 q.m.pr :: .bool q.m.has :: .int .i64 q.m.e.ep :: .int .i64 q.m.e.ki :: .int .i64 q.m.e.pe :: .slice q.a q.m.e.xs.length q.c :: cellsMq U := fun _ _ => rfl
    rw [show (i + 1) * 10 = i * 10 + 10 by omega, e0, show (q :: U).set (i + 1) v = q :: U.set i v from rfl, e0, ← ih]
    simp only [Nat.add_assoc, Nat.reduceAdd, List.set_cons_succ]

theorem copyMl16 (A : Option Addr) (n c : Nat) (V : List MlV) (w : World) (h : MqAt w A V) (hN : ∀ v ∈ V, v.a = none → v.m.e.xs.length = 0 ∧ v.c = 0) (hn : V.length = n) (hm : n ≤ 1048576) :
    Calls Tryz.prog 117 #[.slice A n c] w fun e w' => ∃ A' c' V', e = .returned (.slice A' n c') ∧ V'.map MlV.r = V.map MlV.r ∧ OwQn w' (fun x => w.heap.size ≤ x ∧ x < w'.heap.size) A' n c' V' ∧ New w w' := by
  by_cases h0 : n = 0
  · subst h0
    obtain rfl : V = [] := List.eq_nil_of_length_eq_zero hn
    go_enter Tryz.func117, Tryz.ntmps117
    go_wp2
    go_ret
    exact ⟨none, 0, [], rfl, rfl, .inl ⟨rfl, rfl, rfl, rfl⟩, New.refl _⟩
  obtain ⟨g0, rfl⟩ : ∃ g0, A = some ⟨g0, 0, none⟩ := by
    obtain ⟨⟨g, e, -⟩, -⟩ := h 0 _ (List.getElem?_eq_getElem (by omega))
    exact ⟨g, e⟩
  have HN : Hid (V.length = n) := hn
  clear hn
  obtain ⟨i0, hi, hz0, hz1, hz2⟩ := info_parts Tryz.infoMq
  have hne : ((n : Int) == 0) = false := by rw [beq_eq_false_iff_ne]; omega
  go_enter Tryz.func117, Tryz.ntmps117
  go_wp2_with (at_make; refine wpList_make_full _ rfl _ _ 44 rfl w.heap.size 120 i0 (.agg #[.int .i64 0, .int .i64 0, .int .i64 0, .int .i64 0, .int .i64 0, .bool false, .int .i64 0, .int .i64 0, .int .i64 0, .slice none 0 0]) 10 Tryz.underlying44 hi hz0 hz1 _ _ _ _ n rfl rfl rfl rfl ?b2 ?b3 (Nat.le_refl _) ?_)
  case b2 => rw [hz2]; omega
  case b3 => unfold maxLen; omega
  intro w0 hown0 hgrow0
  have hnew := New.of_grown hgrow0
  have h' := h.new hnew
  have hcur : ∃ cur : Array Value, w0.heap[w.heap.size]? = some (.cells cur 120 (0, 0)) ∧ cur.size = n * 10 := by
    rcases hown0.2 with ⟨e, -⟩ | ⟨g', cap', cur, e, hb, hg, k1, k2, k3, k4⟩
    · simp at e
    · simp only [Value.slice.injEq, Option.some.injEq, Addr.mk.injEq, and_true, true_and] at e
      obtain ⟨rfl, rfl⟩ := e
      exact ⟨cur, hg, k3⟩
  obtain ⟨cur, hcur, hcs⟩ := hcur
  have hlV : (cellsMq V).length = n * 10 := by rw [cellsMq_len, HN.out]
  have hcp : ∀ ty, (Builtin.copy_ #[44, 44] ty #[.slice (some ⟨w.heap.size, 0, none⟩) n n, .slice (some ⟨g0, 0, none⟩) n c]).run Tryz.prog w0 = .ok (goInt (Nat.min n n)) (w0.setRow w.heap.size (cellsMq V).toArray) := by
    intro ty
    have h1 := run_copy10 (P := Tryz.prog) w0 44 44 ty 120 w.heap.size 0 n n ⟨g0, 0, none⟩ n c cur 120 (cellsMq V) Tryz.underlying44 Tryz.szMl10 hcur (by rw [hlV]; show n * 10 = min n n * 10; rw [Nat.min_self]) (fun j u hu => by rw [Addr.add_lit, Nat.zero_add]; exact h'.cellsAt j u hu) (by omega) (cellsMq_one V)
    have e : cur.toList.take 0 ++ cellsMq V ++ cur.toList.drop (0 + (cellsMq V).length) = cellsMq V := by
      rw [List.take_zero, List.nil_append, List.drop_of_length_le (by rw [Array.length_toList]; omega), List.append_nil]
    rw [e] at h1
    exact h1
  go_wp2_with (simp only [hcp])
  have hw1 : New w (w0.setRow w.heap.size (cellsMq V).toArray) := hnew.before (Turn.setRow16 (S := fun j => j = w.heap.size) (Turn.refl _ _) w.heap.size _ rfl) (fun i h1 e => by omega)
  have how0 : RwMq (w0.setRow w.heap.size (cellsMq V).toArray) w.heap.size n n V := by
    refine ⟨hlV, .inr ⟨w.heap.size, n, (cellsMq V).toArray, rfl, Nat.zero_le _, setRow_heap w0 w.heap.size _ _ _ _ hcur, Nat.le_refl _, by unfold maxLen; omega, by simp [hlV], ?_⟩⟩
    rw [List.toList_toArray, List.take_of_length_le (by omega)]
  clear hcp hcur hcs hown0 hgrow0 h' hnew
  generalize w0.setRow w.heap.size (cellsMq V).toArray = w1 at *
  have hlt1 : w.heap.size < w1.heap.size := how0.lt
  have HNN : Hid (Nat.min n n = n) := Nat.min_self n
  go_loopw [16] (fun i wr => ∃ (k : Nat) (V' : List MlV), k ≤ n ∧ i = .int .i64 k ∧ V'.length = k ∧ V'.map MlV.r = (V.take k).map MlV.r ∧ New w wr ∧ RwMq wr w.heap.size n n (V' ++ V.drop k) ∧ ApM wr (w.heap.size + 1) V' ∧ w.heap.size < wr.heap.size) (fun i _ => n - (intOf i).toNat)
  case atStart => exact ⟨0, [], Nat.zero_le _, rfl, rfl, rfl, hw1, by simpa using how0, ⟨fun i v hv => by simp at hv, fun i j u v x y hi => by simp at hi⟩, hlt1⟩
  case round =>
    obtain ⟨k, V', hk, rfl, hl', hmap, hnw, how, hpa, hgl⟩ := hrel
    have HL' : Hid (V'.length = k) := hl'
    clear hl'
    by_cases hlt : k < n
    · obtain ⟨v, hv⟩ : ∃ v, V[k]? = some v := ⟨_, List.getElem?_eq_getElem (by have := HN.out; omega)⟩
      obtain ⟨-, hbs, hbl⟩ := (h.new hnw) k v hv
      have hnv := hN v (List.mem_of_getElem? hv)
      have hby : ∀ z ∈ v.m.e.xs, By z := hbs.lt
      have hgk : (V' ++ V.drop k)[k]? = some v := by
        rw [List.getElem?_append_right (by have := HL'.out; omega), HL'.out, Nat.sub_self, List.getElem?_drop, Nat.add_zero]
        exact hv
      have hcl := cellsMq_len (V' ++ V.drop k)
      have hcl2 : (V' ++ V.drop k).length = n := how.len
      have c6 : wr.cell? ⟨w.heap.size, k * 10 + 6, none⟩ = some (.int .i64 v.m.e.ep) := (World.ownsRow.cellAt how (k * 10 + 6) (by omega)).trans (cellsMq_get _ k v hgk 6 (by omega))
      have c7 : wr.cell? ⟨w.heap.size, k * 10 + 7, none⟩ = some (.int .i64 v.m.e.ki) := (World.ownsRow.cellAt how (k * 10 + 7) (by omega)).trans (cellsMq_get _ k v hgk 7 (by omega))
      have c8 : wr.cell? ⟨w.heap.size, k * 10 + 8, none⟩ = some (.int .i64 v.m.e.pe) := (World.ownsRow.cellAt how (k * 10 + 8) (by omega)).trans (cellsMq_get _ k v hgk 8 (by omega))
      have c9 : wr.cell? ⟨w.heap.size, k * 10 + 9, none⟩ = some (.slice v.a v.m.e.xs.length v.c) := (World.ownsRow.cellAt how (k * 10 + 9) (by omega)).trans (cellsMq_get _ k v hgk 9 (by omega))
      have HMp : Hid (∀ u : MlV, u.m = v.m → (V' ++ [u]).map MlV.r = (V.take (k + 1)).map MlV.r) := by
        intro u hu
        obtain ⟨hk', e⟩ := List.getElem?_eq_some_iff.1 hv
        rw [List.take_succ_eq_append_getElem hk', e, List.map_append, List.map_append, hmap]
        simp [MlV.r, hu]
      have HST : Hid (∀ u : MlV, (V' ++ V.drop k).set k u = (V' ++ [u]) ++ V.drop (k + 1)) := by
        intro u
        rw [List.set_append_right _ _ (by have := HL'.out; omega), HL'.out, Nat.sub_self, List.drop_eq_getElem_cons (by have := HN.out; omega), List.set_cons_zero, List.append_assoc]
        rfl
      have HHW : Hid _ := how
      have HPA : Hid _ := hpa
      have HGK : Hid _ := hgk
      have HBY : Hid _ := hby
      clear hmap hv how hpa hgk hcl hcl2 hby
      go_wp2_with (go_at_call 148; refine (copyE v.m.e.ep v.m.e.ki v.m.e.pe v.a v.m.e.xs.length v.c v.m.e.xs _ hbs rfl hnv hbl).mono ?_; rintro e w2 ⟨a', c', rfl, hov, hn2⟩; obtain ⟨HOA, HBS, HRG⟩ := hov.ow HBY.out; have HOA' : Hid _ := HOA; have HRG' : Hid _ := HRG; have HN2 : Hid _ := hn2; have HHW2 : Hid _ := row9_new HHW.out hn2; have f0 := fun j => World.ownsRow.frozenAt HHW2.out j; obtain ⟨x6, d6⟩ := RwMq.cell HHW2.out (k * 10 + 6) (by omega); obtain ⟨x7, d7⟩ := RwMq.cell HHW2.out (k * 10 + 7) (by omega); obtain ⟨x8, d8⟩ := RwMq.cell HHW2.out (k * 10 + 8) (by omega); obtain ⟨x9, d9⟩ := RwMq.cell HHW2.out (k * 10 + 9) (by omega); clear hov hn2 HOA HBS HRG)
      have tt : Turn (fun j => j = w.heap.size) w2 ((((w2.setCell ⟨w.heap.size, k * 10 + 6, none⟩ (.int .i64 v.m.e.ep)).setCell ⟨w.heap.size, k * 10 + 6 + 1, none⟩ (.int .i64 v.m.e.ki)).setCell ⟨w.heap.size, k * 10 + 6 + 2, none⟩ (.int .i64 v.m.e.pe)).setCell ⟨w.heap.size, k * 10 + 6 + 3, none⟩ (.slice a' v.m.e.xs.length c')) :=
        ((((Turn.refl (fun j => j = w.heap.size) w2).set (p := ⟨w.heap.size, k * 10 + 6, none⟩) rfl _).set (p := ⟨w.heap.size, k * 10 + 6 + 1, none⟩) rfl _).set (p := ⟨w.heap.size, k * 10 + 6 + 2, none⟩) rfl _).set (p := ⟨w.heap.size, k * 10 + 6 + 3, none⟩) rfl _
      have h1 := (World.ownsRow.stored HHW2.out (k * 10 + 6) (.int .i64 v.m.e.ep)).1
      have h2 := (World.ownsRow.stored h1 (k * 10 + 7) (.int .i64 v.m.e.ki)).1
      have h3 := (World.ownsRow.stored h2 (k * 10 + 8) (.int .i64 v.m.e.pe)).1
      have h4 := (World.ownsRow.stored h3 (k * 10 + 9) (.slice a' v.m.e.xs.length c')).1
      have h5 := cellsMq_set4 (V' ++ V.drop k) k v ⟨v.m, a', c'⟩ HGK.out rfl rfl rfl rfl rfl rfl
      rw [h5, HST.out] at h4
      have h6 : RwMq ((((w2.setCell ⟨w.heap.size, k * 10 + 6, none⟩ (.int .i64 v.m.e.ep)).setCell ⟨w.heap.size, k * 10 + 6 + 1, none⟩ (.int .i64 v.m.e.ki)).setCell ⟨w.heap.size, k * 10 + 6 + 2, none⟩ (.int .i64 v.m.e.pe)).setCell ⟨w.heap.size, k * 10 + 6 + 3, none⟩ (.slice a' v.m.e.xs.length c')) w.heap.size n n (V' ++ [⟨v.m, a', c'⟩] ++ V.drop (k + 1)) := h4
      have hlt2 : w.heap.size < w2.heap.size := by have := HN2.out.size; omega
      have hpa2 : ApM w2 (w.heap.size + 1) (V' ++ [⟨v.m, a', c'⟩]) := by
        refine (ApM.new HPA.out HN2.out).snoc (l := wr.heap.size) ⟨v.m, a', c'⟩ ⟨rfl, HOA'.out.2⟩ hbl (fun x hx => HRG'.out x hx) (by omega) ?_
        intro u hu x hx
        obtain ⟨i, hi'⟩ := List.getElem?_of_mem hu
        exact ((HPA.out.1 i u hi').2.2 x hx).2
      refine ⟨⟨k + 1, V' ++ [⟨v.m, a', c'⟩], by omega, by go_num, by simp [HL'.out], HMp.out _ rfl, (hnw.trans HN2.out).before tt (by intro i hi e; omega), h6, hpa2.turn tt (by intro j a b e; omega), by have := tt.size; omega⟩, by simp [intOf]; omega⟩
    · go_wp2
      go_ret
      have hkn : k = n := by omega
      subst hkn
      rw [List.take_of_length_le (by have := HN.out; omega)] at hmap
      rw [List.drop_of_length_le (by have := HN.out; omega), List.append_nil] at how
      have hap := hpa.own (hi := wr.heap.size) how (by omega) (Nat.le_refl _)
      exact ⟨some ⟨w.heap.size, 0, none⟩, k, V', rfl, hmap, .inr ⟨w.heap.size, rfl, hap⟩, hnw⟩

end Go.Proofs.YtdbnmkffinhdjaaGreat
