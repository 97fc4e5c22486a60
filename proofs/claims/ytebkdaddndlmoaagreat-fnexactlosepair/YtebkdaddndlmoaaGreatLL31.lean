/- What is proved here: what happen with lose, and LosePair, answer, for every pair of at most 1048576 things each. -/
import Derived.Test.YtebkdaddndlmoaaGreatLL30
import Derived.Test.YtebkdaddndlmoaaGreatLL28
import Derived.Test.YtebkdaddndlmoaaGreatLL5
namespace Go.Proofs.YtebkdaddndlmoaaGreat
open Go.ChangeShapes Go.WideShapes Go.ChangeAt Go.RowKit Go.Deep Go.Sort
set_option linter.unusedVariables false
set_option linter.unusedSimpArgs false
set_option maxRecDepth 100000


/-- What LosePair answers. -/
def LoR (P : PrV) (az z : Int) (R : PrV) : Prop := (¬ prF P = 0 ∧ z = prF P ∧ R = zPr) ∨ (prF P = 0 ∧ ¬ (0 ≤ az ∧ az < P.nM) ∧ z = 4 ∧ R = zPr) ∨ (prF P = 0 ∧ (0 ≤ az ∧ az < P.nM) ∧ z = 0 ∧ PrE R (P.drop az.toNat none 0))
set_option maxHeartbeats 6400000 in
theorem happenLo (P : PrV) (az : Int) (b0 b1 : Nat) (col : Nat → Nat) (w : World) (ho : PrOw w b0 b1 col P) (hl : PrL P) (hN : ∃ g, P.aN = some ⟨g, 0, none⟩) (hc : P.cN = P.nN) (hW : SomW P.VW) (hM : SomM P.VM) (h1 : ∃ g, P.a1 = some ⟨g, 0, none⟩) (h2 : ∃ g, P.a2 = some ⟨g, 0, none⟩) :
    Calls Tryz.prog 52 #[.agg #[.int .i64 P.sa, .int .i64 P.si, .int .i64 P.ho, .int .i64 P.nx, .slice P.a1 P.n1 P.c1, .slice P.a2 P.n2 P.c2, .slice P.aN P.nN P.cN, .slice P.aW P.nW P.cW, .slice P.aM P.nM P.cM, .slice P.aS P.nS P.cS, .int .i64 0, .int .i64 0, .int .i64 az, .int .i64 0, .bool false, .slice none 0 0, .int .i64 0, .int .i64 0, .slice none 0 0, .slice none 0 0], .func (.func 68) #[] #[]] w fun e w' => ∃ z R col', e = .returned (.agg #[.int .i64 z, .slice none 0 0, .int .i64 R.sa, .int .i64 R.si, .int .i64 R.ho, .int .i64 R.nx, .slice R.a1 R.n1 R.c1, .slice R.a2 R.n2 R.c2, .slice R.aN R.nN R.cN, .slice R.aW R.nW R.cW, .slice R.aM R.nM R.cM, .slice R.aS R.nS R.cS]) ∧ LoR P az z R ∧ PrOw w' w.heap.size w'.heap.size col' R ∧ New w w' := by
  have hw : New w ((w.alloc (.cells #[.int .i64 P.sa, .int .i64 P.si, .int .i64 P.ho, .int .i64 P.nx, .slice P.a1 P.n1 P.c1, .slice P.a2 P.n2 P.c2, .slice P.aN P.nN P.cN, .slice P.aW P.nW P.cW, .slice P.aM P.nM P.cM, .slice P.aS P.nS P.cS, .int .i64 0, .int .i64 0, .int .i64 az, .int .i64 0, .bool false, .slice none 0 0, .int .i64 0, .int .i64 0, .slice none 0 0, .slice none 0 0] 91)).alloc (.cells #[.int .i64 0, .slice none 0 0, .int .i64 0, .int .i64 0, .int .i64 0, .int .i64 0, .slice none 0 0, .slice none 0 0, .slice none 0 0, .slice none 0 0, .slice none 0 0, .slice none 0 0] 46)) := ((New.refl w).alloc _).alloc _
  have b0' : Blk ((w.alloc (.cells #[.int .i64 P.sa, .int .i64 P.si, .int .i64 P.ho, .int .i64 P.nx, .slice P.a1 P.n1 P.c1, .slice P.a2 P.n2 P.c2, .slice P.aN P.nN P.cN, .slice P.aW P.nW P.cW, .slice P.aM P.nM P.cM, .slice P.aS P.nS P.cS, .int .i64 0, .int .i64 0, .int .i64 az, .int .i64 0, .bool false, .slice none 0 0, .int .i64 0, .int .i64 0, .slice none 0 0, .slice none 0 0] 91)).alloc (.cells #[.int .i64 0, .slice none 0 0, .int .i64 0, .int .i64 0, .int .i64 0, .int .i64 0, .slice none 0 0, .slice none 0 0, .slice none 0 0, .slice none 0 0, .slice none 0 0, .slice none 0 0] 46)) w.heap.size 91 #[.int .i64 P.sa, .int .i64 P.si, .int .i64 P.ho, .int .i64 P.nx, .slice P.a1 P.n1 P.c1, .slice P.a2 P.n2 P.c2, .slice P.aN P.nN P.cN, .slice P.aW P.nW P.cW, .slice P.aM P.nM P.cM, .slice P.aS P.nS P.cS, .int .i64 0, .int .i64 0, .int .i64 az, .int .i64 0, .bool false, .slice none 0 0, .int .i64 0, .int .i64 0, .slice none 0 0, .slice none 0 0] := (Blk.mk _ _ _ _ rfl).alloc _
  have b1' : Blk ((w.alloc (.cells #[.int .i64 P.sa, .int .i64 P.si, .int .i64 P.ho, .int .i64 P.nx, .slice P.a1 P.n1 P.c1, .slice P.a2 P.n2 P.c2, .slice P.aN P.nN P.cN, .slice P.aW P.nW P.cW, .slice P.aM P.nM P.cM, .slice P.aS P.nS P.cS, .int .i64 0, .int .i64 0, .int .i64 az, .int .i64 0, .bool false, .slice none 0 0, .int .i64 0, .int .i64 0, .slice none 0 0, .slice none 0 0] 91)).alloc (.cells #[.int .i64 0, .slice none 0 0, .int .i64 0, .int .i64 0, .int .i64 0, .int .i64 0, .slice none 0 0, .slice none 0 0, .slice none 0 0, .slice none 0 0, .slice none 0 0, .slice none 0 0] 46)) (w.heap.size + 1) 46 #[.int .i64 0, .slice none 0 0, .int .i64 0, .int .i64 0, .int .i64 0, .int .i64 0, .slice none 0 0, .slice none 0 0, .slice none 0 0, .slice none 0 0, .slice none 0 0, .slice none 0 0] := Blk.mk _ _ _ _ (by simp)
  have s0 : Hid (((w.alloc (.cells #[.int .i64 P.sa, .int .i64 P.si, .int .i64 P.ho, .int .i64 P.nx, .slice P.a1 P.n1 P.c1, .slice P.a2 P.n2 P.c2, .slice P.aN P.nN P.cN, .slice P.aW P.nW P.cW, .slice P.aM P.nM P.cM, .slice P.aS P.nS P.cS, .int .i64 0, .int .i64 0, .int .i64 az, .int .i64 0, .bool false, .slice none 0 0, .int .i64 0, .int .i64 0, .slice none 0 0, .slice none 0 0] 91)).alloc (.cells #[.int .i64 0, .slice none 0 0, .int .i64 0, .int .i64 0, .int .i64 0, .int .i64 0, .slice none 0 0, .slice none 0 0, .slice none 0 0, .slice none 0 0, .slice none 0 0, .slice none 0 0] 46)).heap.size = w.heap.size + 1 + 1) := by unfold Hid; simp
  have HO : Hid (PrOw w b0 b1 col P) := ho
  have HL : Hid (PrL P) := hl
  have HPA : Hid (PAt w P.a1 P.a2 P.aN P.aW P.aM P.aS P.r1 P.r2 P.VN P.VW P.VM P.VS) := ho.pat hl hN hc hW
  have HW : Hid (SomW P.VW) := hW
  have HM : Hid (SomM P.VM) := hM
  have Z1 : Hid (P.a1 = none → P.n1 = 0 ∧ P.c1 = 0) := by obtain ⟨g, e⟩ := h1; intro e'; rw [e'] at e; cases e
  have Z2 : Hid (P.a2 = none → P.n2 = 0 ∧ P.c2 = 0) := by obtain ⟨g, e⟩ := h2; intro e'; rw [e'] at e; cases e
  have c0 := b0'.cells
  clear ho hl hN hc hW hM h1 h2
  go_enter Tryz.func52, Tryz.ntmps52
  go_wp2_with fail
  refine (implPaF P.sa P.si P.ho P.nx P.a1 P.a2 P.aN P.aW P.aM P.aS P.n1 P.c1 P.n2 P.c2 P.nN P.cN P.nW P.cW P.nM P.cM P.nS P.cS P.r1 P.r2 P.VN P.VW P.VM P.VS _ (HPA.out.new hw) HL.out.l1 HL.out.l2 HL.out.lN HL.out.lW HL.out.lM HL.out.lS HL.out.m1 HL.out.m2 HL.out.mN HL.out.mW HL.out.mM HL.out.mS (prF P) rfl).mono ?_
  rintro e w1 ⟨rfl, hn1⟩
  have n1 := hw.trans hn1
  have S0 := s0.out
  have z1 := hn1.size
  have p0 := b0'.new hn1
  have p1 := b1'.new hn1
  clear c0 b0' b1' hw hn1
  have c0 := p0.cells
  have c1 := p1.cells
  have f1 := p1.frees
  have f0 := p0.frees
  by_cases hv : prF P = 0
  · rw [hv]
    go_wp2_with fail
    refine (isNode_yes 0 _ (.inl rfl)).mono ?_
    rintro e w' ⟨rfl, hww⟩
    obtain rfl := hww
    go_wp2_with fail
    refine (isPeer0 _).mono ?_
    rintro e w' ⟨rfl, hww⟩
    obtain rfl := hww
    go_wp2_with fail
    refine (copyPr_1 w.heap.size P _ (fun j hj => by rw [c0 j]; exact pcCs_get P 0 0 az 0 false none 0 0 0 0 none 0 0 none 0 0 j hj) (HO.out.rd.new n1) HL.out HO.out.nl.1 HO.out.nl.2 HW.out.nl HM.out.nl Z1.out Z2.out).mono ?_
    rintro e w2 ⟨Q, cq, rfl, eQ, oQ, hn2⟩
    have n2 := n1.trans hn2
    have q0 := p0.new hn2
    have q1 := p1.new hn2
    have z2 := hn2.size
    clear c0 c1 f0 f1 p0 p1
    have c0 := q0.cells
    have f0 := q0.frees
    have t10 := set10t (S := fun x => x = w.heap.size) w2 w.heap.size rfl (.int .i64 Q.sa) (.int .i64 Q.si) (.int .i64 Q.ho) (.int .i64 Q.nx) (.slice Q.a1 Q.n1 Q.c1) (.slice Q.a2 Q.n2 Q.c2) (.slice Q.aN Q.nN Q.cN) (.slice Q.aW Q.nW Q.cW) (.slice Q.aM Q.nM Q.cM) (.slice Q.aS Q.nS Q.cS)
    have b10 := set10p (Q := Q) q0
    have s10 := t10.size
    have o10 := oQ.turn t10 (by intro x h1 h2 e; omega)
    have r10 := q1.turn t10 (by omega)
    have n10 := n2.before t10 (by intro i hi e; omega)
    have lQ := eQ.lim HL.out
    clear oQ q1 q0
    go_wp2_with fail
    refine (lose16 w.heap.size Q 0 0 az 0 false none 0 0 0 0 none 0 0 none 0 0 _ _ cq _ b10 o10 lQ (by omega) s10).mono ?_
    rintro e w3 ⟨R, z, col', rfl, b3, o3, t3, hcase⟩
    have r3 := r10.turn t3 (by omega)
    have n3 := n10.before t3 (by intro i hi e; omega)
    have z3 := t3.size
    clear c0 f0 b10 t10 o10 r10 t3
    have c0 := b3.cells
    have c8 : w3.cell? ⟨w.heap.size, 19, none⟩ = some (.slice none 0 0) := b3.cells 19
    have c1 := r3.cells
    have f1 := r3.frees
    rcases hcase with ⟨hz, rfl⟩ | ⟨hz, rfl, hR⟩
    · go_wp2
      refine bodyPost_ret (v := .agg #[.int .i64 4, .slice none 0 0, .int .i64 zPr.sa, .int .i64 zPr.si, .int .i64 zPr.ho, .int .i64 zPr.nx, .slice zPr.a1 zPr.n1 zPr.c1, .slice zPr.a2 zPr.n2 zPr.c2, .slice zPr.aN zPr.nN zPr.cN, .slice zPr.aW zPr.nW zPr.cW, .slice zPr.aM zPr.nM zPr.cM, .slice zPr.aS zPr.nS zPr.cS]) (by simp [results, Tryz.results52, go_sem, c1, zPr]) rfl ?_
      refine ⟨4, zPr, col', rfl, .inr (.inl ⟨hv, ?_, rfl, rfl⟩), zPr_ow _ _ _ _, new12 n3 (by omega) _ _ _ _ _ _ _ _ _ _ _ _⟩
      rw [← eQ.nM]; exact hz
    · simp only [pcCs] at c0
      go_wp2
      refine bodyPost_ret (v := .agg #[.int .i64 0, .slice none 0 0, .int .i64 R.sa, .int .i64 R.si, .int .i64 R.ho, .int .i64 R.nx, .slice R.a1 R.n1 R.c1, .slice R.a2 R.n2 R.c2, .slice R.aN R.nN R.cN, .slice R.aW R.nW R.cW, .slice R.aM R.nM R.cM, .slice R.aS R.nS R.cS]) (by simp [results, Tryz.results52, go_sem, c1]) rfl ?_
      refine ⟨0, R, col', rfl, .inr (.inr ⟨hv, ?_, rfl, hR.trans (eQ.drop _ _ _ _ _)⟩), fin12 o3 (by omega) (by omega) (Nat.le_refl _) _ _ _ _ _ _ _ _ _ _ _ _, new12 n3 (by omega) _ _ _ _ _ _ _ _ _ _ _ _⟩
      rw [← eQ.nM]; exact hz
  · have hvb : (prF P != 0) = true := by simp [hv]
    go_wp2
    refine bodyPost_ret (v := .agg #[.int .i64 (prF P), .slice none 0 0, .int .i64 zPr.sa, .int .i64 zPr.si, .int .i64 zPr.ho, .int .i64 zPr.nx, .slice zPr.a1 zPr.n1 zPr.c1, .slice zPr.a2 zPr.n2 zPr.c2, .slice zPr.aN zPr.nN zPr.cN, .slice zPr.aW zPr.nW zPr.cW, .slice zPr.aM zPr.nM zPr.cM, .slice zPr.aS zPr.nS zPr.cS]) (by simp [results, Tryz.results52, go_sem, c1, zPr]) rfl ?_
    exact ⟨prF P, zPr, col, rfl, .inl ⟨hv, rfl, rfl⟩, zPr_ow _ _ _ _, new12 n1 (by omega) _ _ _ _ _ _ _ _ _ _ _ _⟩

set_option maxHeartbeats 3200000 in
theorem implLose16 (P : PrV) (az : Int) (b0 b1 : Nat) (col : Nat → Nat) (w : World) (ho : PrOw w b0 b1 col P) (hl : PrL P) (hN : ∃ g, P.aN = some ⟨g, 0, none⟩) (hc : P.cN = P.nN) (hW : SomW P.VW) (hM : SomM P.VM) (h1 : ∃ g, P.a1 = some ⟨g, 0, none⟩) (h2 : ∃ g, P.a2 = some ⟨g, 0, none⟩) :
    Calls Tryz.prog 23 #[.agg #[.int .i64 P.sa, .int .i64 P.si, .int .i64 P.ho, .int .i64 P.nx, .slice P.a1 P.n1 P.c1, .slice P.a2 P.n2 P.c2, .slice P.aN P.nN P.cN, .slice P.aW P.nW P.cW, .slice P.aM P.nM P.cM, .slice P.aS P.nS P.cS], .int .i64 az] w fun e w' => ∃ z R col', e = .returned (.agg #[.int .i64 z, .slice none 0 0, .int .i64 R.sa, .int .i64 R.si, .int .i64 R.ho, .int .i64 R.nx, .slice R.a1 R.n1 R.c1, .slice R.a2 R.n2 R.c2, .slice R.aN R.nN R.cN, .slice R.aW R.nW R.cW, .slice R.aM R.nM R.cM, .slice R.aS R.nS R.cS]) ∧ LoR P az z R ∧ PrOw w' w.heap.size w'.heap.size col' R ∧ New w w' := by
  have hw : New w ((w.alloc (.cells #[.int .i64 P.sa, .int .i64 P.si, .int .i64 P.ho, .int .i64 P.nx, .slice P.a1 P.n1 P.c1, .slice P.a2 P.n2 P.c2, .slice P.aN P.nN P.cN, .slice P.aW P.nW P.cW, .slice P.aM P.nM P.cM, .slice P.aS P.nS P.cS] 44)).alloc (.cells #[.int .i64 0, .slice none 0 0, .int .i64 0, .int .i64 0, .int .i64 0, .int .i64 0, .slice none 0 0, .slice none 0 0, .slice none 0 0, .slice none 0 0, .slice none 0 0, .slice none 0 0] 46)) := ((New.refl w).alloc _).alloc _
  have b0' : Blk ((w.alloc (.cells #[.int .i64 P.sa, .int .i64 P.si, .int .i64 P.ho, .int .i64 P.nx, .slice P.a1 P.n1 P.c1, .slice P.a2 P.n2 P.c2, .slice P.aN P.nN P.cN, .slice P.aW P.nW P.cW, .slice P.aM P.nM P.cM, .slice P.aS P.nS P.cS] 44)).alloc (.cells #[.int .i64 0, .slice none 0 0, .int .i64 0, .int .i64 0, .int .i64 0, .int .i64 0, .slice none 0 0, .slice none 0 0, .slice none 0 0, .slice none 0 0, .slice none 0 0, .slice none 0 0] 46)) w.heap.size 44 #[.int .i64 P.sa, .int .i64 P.si, .int .i64 P.ho, .int .i64 P.nx, .slice P.a1 P.n1 P.c1, .slice P.a2 P.n2 P.c2, .slice P.aN P.nN P.cN, .slice P.aW P.nW P.cW, .slice P.aM P.nM P.cM, .slice P.aS P.nS P.cS] := (Blk.mk _ _ _ _ rfl).alloc _
  have b1' : Blk ((w.alloc (.cells #[.int .i64 P.sa, .int .i64 P.si, .int .i64 P.ho, .int .i64 P.nx, .slice P.a1 P.n1 P.c1, .slice P.a2 P.n2 P.c2, .slice P.aN P.nN P.cN, .slice P.aW P.nW P.cW, .slice P.aM P.nM P.cM, .slice P.aS P.nS P.cS] 44)).alloc (.cells #[.int .i64 0, .slice none 0 0, .int .i64 0, .int .i64 0, .int .i64 0, .int .i64 0, .slice none 0 0, .slice none 0 0, .slice none 0 0, .slice none 0 0, .slice none 0 0, .slice none 0 0] 46)) (w.heap.size + 1) 46 #[.int .i64 0, .slice none 0 0, .int .i64 0, .int .i64 0, .int .i64 0, .int .i64 0, .slice none 0 0, .slice none 0 0, .slice none 0 0, .slice none 0 0, .slice none 0 0, .slice none 0 0] := Blk.mk _ _ _ _ (by simp)
  have s0 : Hid (((w.alloc (.cells #[.int .i64 P.sa, .int .i64 P.si, .int .i64 P.ho, .int .i64 P.nx, .slice P.a1 P.n1 P.c1, .slice P.a2 P.n2 P.c2, .slice P.aN P.nN P.cN, .slice P.aW P.nW P.cW, .slice P.aM P.nM P.cM, .slice P.aS P.nS P.cS] 44)).alloc (.cells #[.int .i64 0, .slice none 0 0, .int .i64 0, .int .i64 0, .int .i64 0, .int .i64 0, .slice none 0 0, .slice none 0 0, .slice none 0 0, .slice none 0 0, .slice none 0 0, .slice none 0 0] 46)).heap.size = w.heap.size + 1 + 1) := by unfold Hid; simp
  have HH : Hid (∀ X, New w X → Calls Tryz.prog 52 #[.agg #[.int .i64 P.sa, .int .i64 P.si, .int .i64 P.ho, .int .i64 P.nx, .slice P.a1 P.n1 P.c1, .slice P.a2 P.n2 P.c2, .slice P.aN P.nN P.cN, .slice P.aW P.nW P.cW, .slice P.aM P.nM P.cM, .slice P.aS P.nS P.cS, .int .i64 0, .int .i64 0, .int .i64 az, .int .i64 0, .bool false, .slice none 0 0, .int .i64 0, .int .i64 0, .slice none 0 0, .slice none 0 0], .func (.func 68) #[] #[]] X fun e w' => ∃ z R col', e = .returned (.agg #[.int .i64 z, .slice none 0 0, .int .i64 R.sa, .int .i64 R.si, .int .i64 R.ho, .int .i64 R.nx, .slice R.a1 R.n1 R.c1, .slice R.a2 R.n2 R.c2, .slice R.aN R.nN R.cN, .slice R.aW R.nW R.cW, .slice R.aM R.nM R.cM, .slice R.aS R.nS R.cS]) ∧ LoR P az z R ∧ PrOw w' X.heap.size w'.heap.size col' R ∧ New X w') := fun X hX => happenLo P az b0 b1 col X (ho.new hX) hl hN hc hW hM h1 h2
  clear ho hl hN hc hW hM h1 h2
  have c0 := b0'.cells
  go_enter Tryz.func23, Tryz.ntmps23
  go_wp2_with fail
  refine (HH.out _ hw).mono ?_
  rintro e w1 ⟨z, R, col', rfl, hR, o1, hn1⟩
  have S0 := s0.out
  have n1 := hw.trans hn1
  have z1 := hn1.size
  have p1 := b1'.new hn1
  clear c0 b0' b1' hw hn1
  have c1 := p1.cells
  have f1 := p1.frees
  go_wp2
  refine bodyPost_ret (v := .agg #[.int .i64 z, .slice none 0 0, .int .i64 R.sa, .int .i64 R.si, .int .i64 R.ho, .int .i64 R.nx, .slice R.a1 R.n1 R.c1, .slice R.a2 R.n2 R.c2, .slice R.aN R.nN R.cN, .slice R.aW R.nW R.cW, .slice R.aM R.nM R.cM, .slice R.aS R.nS R.cS]) (by simp [results, Tryz.results23, go_sem, c1]) rfl ?_
  exact ⟨z, R, col', rfl, hR, fin12 o1 (by omega) (by omega) (Nat.le_refl _) _ _ _ _ _ _ _ _ _ _ _ _ , new12 n1 (by omega) _ _ _ _ _ _ _ _ _ _ _ _ ⟩

end Go.Proofs.YtebkdaddndlmoaaGreat
