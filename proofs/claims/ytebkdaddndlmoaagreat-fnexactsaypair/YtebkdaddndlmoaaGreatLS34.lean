/- What is proved here: what happen with say, and SayPair, answer, for every pair of at most 1048576 things each. -/
import Derived.Test.YtebkdaddndlmoaaGreatLS31
import Derived.Test.YtebkdaddndlmoaaGreatLS32
import Derived.Test.YtebkdaddndlmoaaGreatLS28
import Derived.Test.YtebkdaddndlmoaaGreatLS6
import Derived.Test.YtebkdaddndlmoaaGreatLS1
import Derived.Test.YtebkdaddndlmoaaGreatLS33
namespace Go.Proofs.YtebkdaddndlmoaaGreat
open Go.ChangeShapes Go.WideShapes Go.ChangeAt Go.RowKit Go.Deep Go.Sort
set_option linter.unusedVariables false
set_option linter.unusedSimpArgs false
set_option maxRecDepth 100000


/-- What SayPair tells. -/
def SaR (P : PrV) (pe : Int) (A : Wr) (z : Int) (R : PrV) : Prop := (¬ prF P = 0 ∧ z = prF P ∧ R = zPr) ∨ (prF P = 0 ∧ ¬ P9 pe ∧ z = 3 ∧ R = zPr) ∨ (prF P = 0 ∧ P9 pe ∧ ¬ A.z = 0 ∧ z = A.z ∧ R = zPr) ∨ (prF P = 0 ∧ P9 pe ∧ A.z = 0 ∧ z = 0 ∧ PrE R (P.setW pe.toNat (wiOf A)))
theorem SaR.to {P Q R : PrV} {pe z : Int} {A : Wr} (h : PrE Q P) (k : SaR Q pe A z R) : SaR P pe A z R := by
  unfold SaR at k ⊢
  rw [prF_alike h] at k
  rcases k with k | k | k | ⟨k1, k2, k3, k4, k5⟩
  · exact .inl k
  · exact .inr (.inl k)
  · exact .inr (.inr (.inl k))
  · exact .inr (.inr (.inr ⟨k1, k2, k3, k4, k5.trans (h.setW rfl)⟩))
theorem SaR.det {P R R' : PrV} {pe z z' : Int} {A : Wr} (k : SaR P pe A z R) (k' : SaR P pe A z' R') : z = z' ∧ PrE R R' := by
  have H : ∀ {u v : Int} {X Y : PrV} {c : Int}, u = c → X = zPr → v = c → Y = zPr → u = v ∧ PrE X Y := fun h1 h2 h3 h4 => ⟨h1.trans h3.symm, by rw [h2, h4]; exact PrE.refl _⟩
  unfold SaR at k k'
  rcases k with ⟨a1, a2, a3⟩ | ⟨a1, a2, a3, a4⟩ | ⟨a1, a2, a3, a4, a5⟩ | ⟨a1, a2, a3, a4, a5⟩
  · rcases k' with ⟨c1, c2, c3⟩ | ⟨c1, -⟩ | ⟨c1, -⟩ | ⟨c1, -⟩
    · exact H a2 a3 c2 c3
    · exact absurd c1 a1
    · exact absurd c1 a1
    · exact absurd c1 a1
  · rcases k' with ⟨c1, -⟩ | ⟨-, c2, c3, c4⟩ | ⟨-, c2, -⟩ | ⟨-, c2, -⟩
    · exact absurd a1 c1
    · exact H a3 a4 c3 c4
    · exact absurd c2 a2
    · exact absurd c2 a2
  · rcases k' with ⟨c1, -⟩ | ⟨-, c2, -⟩ | ⟨-, -, c3, c4, c5⟩ | ⟨-, -, c3, -⟩
    · exact absurd a1 c1
    · exact absurd a2 c2
    · exact H a4 a5 c4 c5
    · exact absurd c3 a3
  · rcases k' with ⟨c1, -⟩ | ⟨-, c2, -⟩ | ⟨-, -, c3, -⟩ | ⟨-, -, -, c4, c5⟩
    · exact absurd a1 c1
    · exact absurd a2 c2
    · exact absurd a3 c3
    · exact ⟨a4.trans c4.symm, a5.trans c5.symm⟩
theorem SaR.lim {P R : PrV} {pe z : Int} {A : Wr} (l : PrL P) (hA : prF P = 0 → P9 pe → A.z = 0 → A.Z.length ≤ 2000 ∧ A.Y.length ≤ 2000) (k : SaR P pe A z R) : PrL R := by
  unfold SaR at k
  rcases k with ⟨-, -, k⟩ | ⟨-, -, -, k⟩ | ⟨-, -, -, -, k⟩ | ⟨k1, k2, k3, -, k⟩
  · rw [k]; exact zPr_l
  · rw [k]; exact zPr_l
  · rw [k]; exact zPr_l
  · have h1 := totWi_2000 (V := P.VW) (fun v hv => wF_len (prBW k1 v hv))
    have h2 := (prB0_of k1).lW
    have h3 := hA k1 k2 k3
    exact k.lim (l.setW (by omega) (by show A.Z.length + A.Y.length ≤ 1000000; omega))

set_option maxHeartbeats 3200000 in
theorem set10s {w : World} {B : Nat} {P Q : PrV} {pe : Int} {dA : Option Addr} {dn dc : Nat} (h : Blk w B 91 (pcCs P 0 pe 0 0 false dA dn dc 0 0 none 0 0 none 0 0)) : Blk ((((((((((w.setCell ⟨B, 0, none⟩ (.int .i64 Q.sa)).setCell ⟨B, 1, none⟩ (.int .i64 Q.si)).setCell ⟨B, 2, none⟩ (.int .i64 Q.ho)).setCell ⟨B, 3, none⟩ (.int .i64 Q.nx)).setCell ⟨B, 4, none⟩ (.slice Q.a1 Q.n1 Q.c1)).setCell ⟨B, 5, none⟩ (.slice Q.a2 Q.n2 Q.c2)).setCell ⟨B, 6, none⟩ (.slice Q.aN Q.nN Q.cN)).setCell ⟨B, 7, none⟩ (.slice Q.aW Q.nW Q.cW)).setCell ⟨B, 8, none⟩ (.slice Q.aM Q.nM Q.cM)).setCell ⟨B, 9, none⟩ (.slice Q.aS Q.nS Q.cS)) B 91 (pcCs Q 0 pe 0 0 false dA dn dc 0 0 none 0 0 none 0 0) := by
  have h1 := ((((((((((h.set 0 (.int .i64 Q.sa)).set 1 (.int .i64 Q.si)).set 2 (.int .i64 Q.ho)).set 3 (.int .i64 Q.nx)).set 4 (.slice Q.a1 Q.n1 Q.c1)).set 5 (.slice Q.a2 Q.n2 Q.c2)).set 6 (.slice Q.aN Q.nN Q.cN)).set 7 (.slice Q.aW Q.nW Q.cW)).set 8 (.slice Q.aM Q.nM Q.cM)).set 9 (.slice Q.aS Q.nS Q.cS))
  simpa [pcCs] using h1

set_option maxHeartbeats 12800000 in
theorem happenSa (P : PrV) (pe : Int) (us : List Int) (dA : Option Addr) (dc : Nat) (A : Wr) (b0 b1 : Nat) (col : Nat → Nat) (w : World) (ho : PrOw w b0 b1 col P) (hl : PrL P) (hN : ∃ g, P.aN = some ⟨g, 0, none⟩) (hc : P.cN = P.nN) (hW : SomW P.VW) (hM : SomM P.VM) (h1 : ∃ g, P.a1 = some ⟨g, 0, none⟩) (h2 : ∃ g, P.a2 = some ⟨g, 0, none⟩) (hu : BsAt w dA us) (hnu : dA = none → us.length = 0 ∧ dc = 0) (hum : us.length ≤ 1048576) (hA : prF P = 0 → P9 pe → ∃ v, P.VW[pe.toNat]? = some v ∧ psA v.E v.T v.xs v.ys us = A) :
    Calls Tryz.prog 52 #[.agg #[.int .i64 P.sa, .int .i64 P.si, .int .i64 P.ho, .int .i64 P.nx, .slice P.a1 P.n1 P.c1, .slice P.a2 P.n2 P.c2, .slice P.aN P.nN P.cN, .slice P.aW P.nW P.cW, .slice P.aM P.nM P.cM, .slice P.aS P.nS P.cS, .int .i64 0, .int .i64 pe, .int .i64 0, .int .i64 0, .bool false, .slice dA us.length dc, .int .i64 0, .int .i64 0, .slice none 0 0, .slice none 0 0], .func (.func 53) #[] #[]] w fun e w' => ∃ z R col', e = .returned (.agg #[.int .i64 z, .slice none 0 0, .int .i64 R.sa, .int .i64 R.si, .int .i64 R.ho, .int .i64 R.nx, .slice R.a1 R.n1 R.c1, .slice R.a2 R.n2 R.c2, .slice R.aN R.nN R.cN, .slice R.aW R.nW R.cW, .slice R.aM R.nM R.cM, .slice R.aS R.nS R.cS]) ∧ SaR P pe A z R ∧ PrOw w' w.heap.size w'.heap.size col' R ∧ New w w' := by
  have hw : New w ((w.alloc (.cells #[.int .i64 P.sa, .int .i64 P.si, .int .i64 P.ho, .int .i64 P.nx, .slice P.a1 P.n1 P.c1, .slice P.a2 P.n2 P.c2, .slice P.aN P.nN P.cN, .slice P.aW P.nW P.cW, .slice P.aM P.nM P.cM, .slice P.aS P.nS P.cS, .int .i64 0, .int .i64 pe, .int .i64 0, .int .i64 0, .bool false, .slice dA us.length dc, .int .i64 0, .int .i64 0, .slice none 0 0, .slice none 0 0] 91)).alloc (.cells #[.int .i64 0, .slice none 0 0, .int .i64 0, .int .i64 0, .int .i64 0, .int .i64 0, .slice none 0 0, .slice none 0 0, .slice none 0 0, .slice none 0 0, .slice none 0 0, .slice none 0 0] 46)) := ((New.refl w).alloc _).alloc _
  have b0' : Blk ((w.alloc (.cells #[.int .i64 P.sa, .int .i64 P.si, .int .i64 P.ho, .int .i64 P.nx, .slice P.a1 P.n1 P.c1, .slice P.a2 P.n2 P.c2, .slice P.aN P.nN P.cN, .slice P.aW P.nW P.cW, .slice P.aM P.nM P.cM, .slice P.aS P.nS P.cS, .int .i64 0, .int .i64 pe, .int .i64 0, .int .i64 0, .bool false, .slice dA us.length dc, .int .i64 0, .int .i64 0, .slice none 0 0, .slice none 0 0] 91)).alloc (.cells #[.int .i64 0, .slice none 0 0, .int .i64 0, .int .i64 0, .int .i64 0, .int .i64 0, .slice none 0 0, .slice none 0 0, .slice none 0 0, .slice none 0 0, .slice none 0 0, .slice none 0 0] 46)) w.heap.size 91 #[.int .i64 P.sa, .int .i64 P.si, .int .i64 P.ho, .int .i64 P.nx, .slice P.a1 P.n1 P.c1, .slice P.a2 P.n2 P.c2, .slice P.aN P.nN P.cN, .slice P.aW P.nW P.cW, .slice P.aM P.nM P.cM, .slice P.aS P.nS P.cS, .int .i64 0, .int .i64 pe, .int .i64 0, .int .i64 0, .bool false, .slice dA us.length dc, .int .i64 0, .int .i64 0, .slice none 0 0, .slice none 0 0] := (Blk.mk _ _ _ _ rfl).alloc _
  have b1' : Blk ((w.alloc (.cells #[.int .i64 P.sa, .int .i64 P.si, .int .i64 P.ho, .int .i64 P.nx, .slice P.a1 P.n1 P.c1, .slice P.a2 P.n2 P.c2, .slice P.aN P.nN P.cN, .slice P.aW P.nW P.cW, .slice P.aM P.nM P.cM, .slice P.aS P.nS P.cS, .int .i64 0, .int .i64 pe, .int .i64 0, .int .i64 0, .bool false, .slice dA us.length dc, .int .i64 0, .int .i64 0, .slice none 0 0, .slice none 0 0] 91)).alloc (.cells #[.int .i64 0, .slice none 0 0, .int .i64 0, .int .i64 0, .int .i64 0, .int .i64 0, .slice none 0 0, .slice none 0 0, .slice none 0 0, .slice none 0 0, .slice none 0 0, .slice none 0 0] 46)) (w.heap.size + 1) 46 #[.int .i64 0, .slice none 0 0, .int .i64 0, .int .i64 0, .int .i64 0, .int .i64 0, .slice none 0 0, .slice none 0 0, .slice none 0 0, .slice none 0 0, .slice none 0 0, .slice none 0 0] := Blk.mk _ _ _ _ (by simp)
  have s0 : Hid (((w.alloc (.cells #[.int .i64 P.sa, .int .i64 P.si, .int .i64 P.ho, .int .i64 P.nx, .slice P.a1 P.n1 P.c1, .slice P.a2 P.n2 P.c2, .slice P.aN P.nN P.cN, .slice P.aW P.nW P.cW, .slice P.aM P.nM P.cM, .slice P.aS P.nS P.cS, .int .i64 0, .int .i64 pe, .int .i64 0, .int .i64 0, .bool false, .slice dA us.length dc, .int .i64 0, .int .i64 0, .slice none 0 0, .slice none 0 0] 91)).alloc (.cells #[.int .i64 0, .slice none 0 0, .int .i64 0, .int .i64 0, .int .i64 0, .int .i64 0, .slice none 0 0, .slice none 0 0, .slice none 0 0, .slice none 0 0, .slice none 0 0, .slice none 0 0] 46)).heap.size = w.heap.size + 1 + 1) := by unfold Hid; simp
  have HO : Hid (PrOw w b0 b1 col P) := ho
  have HL : Hid (PrL P) := hl
  have HPA : Hid (PAt w P.a1 P.a2 P.aN P.aW P.aM P.aS P.r1 P.r2 P.VN P.VW P.VM P.VS) := ho.pat hl hN hc hW
  have HW : Hid (SomW P.VW) := hW
  have HM : Hid (SomM P.VM) := hM
  have Z1 : Hid (P.a1 = none → P.n1 = 0 ∧ P.c1 = 0) := by obtain ⟨g, e⟩ := h1; intro e'; rw [e'] at e; cases e
  have Z2 : Hid (P.a2 = none → P.n2 = 0 ∧ P.c2 = 0) := by obtain ⟨g, e⟩ := h2; intro e'; rw [e'] at e; cases e
  have HA : Hid (prF P = 0 → P9 pe → ∃ v, P.VW[pe.toNat]? = some v ∧ psA v.E v.T v.xs v.ys us = A) := hA
  have HU : Hid (BsAt w dA us) := hu
  have HNU : Hid (dA = none → us.length = 0 ∧ dc = 0) := hnu
  have c0 := b0'.cells
  clear ho hl hN hc hW hM h1 h2 hA hu hnu
  go_enter Tryz.func52, Tryz.ntmps52
  go_wp2_with fail
  refine (implPaF P.sa P.si P.ho P.nx P.a1 P.a2 P.aN P.aW P.aM P.aS P.n1 P.c1 P.n2 P.c2 P.nN P.cN P.nW P.cW P.nM P.cM P.nS P.cS P.r1 P.r2 P.VN P.VW P.VM P.VS _ (HPA.out.new hw) HL.out.l1 HL.out.l2 HL.out.lN HL.out.lW HL.out.lM HL.out.lS HL.out.m1 HL.out.m2 HL.out.mN HL.out.mW HL.out.mM HL.out.mS (prF P) rfl).mono ?_
  rintro e w1 ⟨rfl, hn1⟩
  have n1 := hw.trans hn1
  have S0 := s0.out
  have z1 := hn1.size
  have p0 := b0'.new hn1
  have p1 := b1'.new hn1
  clear c0 b0' b1' hw hn1
  have c0 := p0.cells
  have c1 := p1.cells
  have f1 := p1.frees
  have f0 := p0.frees
  by_cases hv : prF P = 0
  case neg =>
    have hvb : (prF P != 0) = true := by simp [hv]
    go_wp2
    refine bodyPost_ret (v := .agg #[.int .i64 (prF P), .slice none 0 0, .int .i64 zPr.sa, .int .i64 zPr.si, .int .i64 zPr.ho, .int .i64 zPr.nx, .slice zPr.a1 zPr.n1 zPr.c1, .slice zPr.a2 zPr.n2 zPr.c2, .slice zPr.aN zPr.nN zPr.cN, .slice zPr.aW zPr.nW zPr.cW, .slice zPr.aM zPr.nM zPr.cM, .slice zPr.aS zPr.nS zPr.cS]) (by simp [results, Tryz.results52, go_sem, c1, zPr]) rfl ?_
    exact ⟨prF P, zPr, col, rfl, .inl ⟨hv, rfl, rfl⟩, zPr_ow _ _ _ _, new12 n1 (by omega) _ _ _ _ _ _ _ _ _ _ _ _ ⟩
  have HV : Hid (prF P = 0) := hv
  rw [hv]
  clear hv
  go_wp2_with fail
  refine (isNode_yes 0 _ (.inl rfl)).mono ?_
  rintro e w' ⟨rfl, hww⟩
  obtain rfl := hww
  by_cases hpe : P9 pe
  case neg =>
    go_wp2_with fail
    refine (peer9_no pe _ hpe).mono ?_
    rintro e w' ⟨rfl, hww⟩
    obtain rfl := hww
    go_wp2
    refine bodyPost_ret (v := .agg #[.int .i64 3, .slice none 0 0, .int .i64 zPr.sa, .int .i64 zPr.si, .int .i64 zPr.ho, .int .i64 zPr.nx, .slice zPr.a1 zPr.n1 zPr.c1, .slice zPr.a2 zPr.n2 zPr.c2, .slice zPr.aN zPr.nN zPr.cN, .slice zPr.aW zPr.nW zPr.cW, .slice zPr.aM zPr.nM zPr.cM, .slice zPr.aS zPr.nS zPr.cS]) (by simp [results, Tryz.results52, go_sem, c1, zPr]) rfl ?_
    exact ⟨3, zPr, col, rfl, .inr (.inl ⟨HV.out, hpe, rfl, rfl⟩), zPr_ow _ _ _ _, new12 n1 (by omega) _ _ _ _ _ _ _ _ _ _ _ _ ⟩
  obtain ⟨k, rfl⟩ : ∃ k : Nat, pe = k := ⟨pe.toNat, by have := hpe.1; omega⟩
  obtain ⟨v, hvk, hAv⟩ := HA.out HV.out hpe
  have HVK : Hid (P.VW[k]? = some v) := hvk
  have HAV : Hid (psA v.E v.T v.xs v.ys us = A) := hAv
  have HPE : Hid (P9 (k : Int)) := hpe
  clear hvk hAv HA
  go_wp2_with fail
  refine (peer9_yes k _ hpe).mono ?_
  rintro e w' ⟨rfl, hww⟩
  obtain rfl := hww
  clear hpe
  go_wp2_with fail
  refine (copyPr_1w w.heap.size P _ (fun j hj => by rw [c0 j]; exact pcCs_get P 0 k 0 0 false dA us.length dc 0 0 none 0 0 none 0 0 j hj) (HO.out.rd.new n1) HL.out HO.out.nl.1 HO.out.nl.2 HW.out.nl HM.out.nl Z1.out Z2.out).mono ?_
  rintro e w2 ⟨Q, cq, rfl, eQ, oQ, hWB, hn2⟩
  have n2 := n1.trans hn2
  have q0 : Blk w2 w.heap.size 91 (pcCs P 0 k 0 0 false dA us.length dc 0 0 none 0 0 none 0 0) := p0.new hn2
  have q1 := p1.new hn2
  have z2 := hn2.size
  clear c0 c1 f0 f1 p0 p1
  have c0 : ∀ j, w2.cell? ⟨w.heap.size, j, none⟩ = (#[.int .i64 P.sa, .int .i64 P.si, .int .i64 P.ho, .int .i64 P.nx, .slice P.a1 P.n1 P.c1, .slice P.a2 P.n2 P.c2, .slice P.aN P.nN P.cN, .slice P.aW P.nW P.cW, .slice P.aM P.nM P.cM, .slice P.aS P.nS P.cS, .int .i64 0, .int .i64 (k : Int), .int .i64 0, .int .i64 0, .bool false, .slice dA us.length dc, .int .i64 0, .int .i64 0, .slice none 0 0, .slice none 0 0] : Array Value)[j]? := q0.cells
  have f0 := q0.frees
  have t10 := set10t (S := fun x => x = w.heap.size) w2 w.heap.size rfl (.int .i64 Q.sa) (.int .i64 Q.si) (.int .i64 Q.ho) (.int .i64 Q.nx) (.slice Q.a1 Q.n1 Q.c1) (.slice Q.a2 Q.n2 Q.c2) (.slice Q.aN Q.nN Q.cN) (.slice Q.aW Q.nW Q.cW) (.slice Q.aM Q.nM Q.cM) (.slice Q.aS Q.nS Q.cS)
  have b10 := set10s (Q := Q) q0
  have s10 := t10.size
  have o10 := oQ.turn t10 (by intro x h1 h2 e; omega)
  have r10 := q1.turn t10 (by omega)
  have n10 := n2.before t10 (by intro i hi e; omega)
  have lQ := eQ.lim HL.out
  obtain ⟨u, huk, hur⟩ : ∃ u, Q.VW[k]? = some u ∧ v.r = u.r := by
    have h1 := congrArg (fun L => L[k]?) eQ.wi
    simp only [List.getElem?_map, HVK.out, Option.map_some] at h1
    obtain ⟨u, h2, h3⟩ := Option.map_eq_some_iff.1 h1
    exact ⟨u, h2, h3.symm⟩
  have hAu : psA u.E u.T u.xs u.ys us = A := by
    simp only [WiV.r, Prod.mk.injEq] at hur
    obtain ⟨e1, e2, e3, e4⟩ := hur
    rw [← e1, ← e2, ← e3, ← e4]; exact HAV.out
  have HAU : Hid (psA u.E u.T u.xs u.ys us = A) := hAu
  have hnlu := (hWB u (List.mem_of_getElem? huk)).2
  clear hWB
  have EQ : Hid (PrE Q P) := eQ
  clear oQ q1 q0 eQ hAu hur
  go_wp2_with fail
  refine (say16 w.heap.size k Q 0 0 0 false dA us.length dc 0 0 none 0 0 none 0 0 u us _ _ cq _ b10 o10 lQ (by omega) (by omega) s10 huk ?nl (HU.out.new n10) rfl HNU.out hum).mono ?_
  case nl => exact hnlu
  rw [HAU.out]
  rintro e w3 ⟨R, z, col', rfl, b3, o3, t3, hcase⟩
  have r3 := r10.turn t3 (by omega)
  have n3 := n10.before t3 (by intro i hi e; omega)
  have z3 := t3.size
  clear c0 f0 b10 t10 o10 r10 t3
  have c0 := b3.cells
  have c8 : w3.cell? ⟨w.heap.size, 19, none⟩ = some (.slice none 0 0) := b3.cells 19
  have c1 := r3.cells
  have f1 := r3.frees
  rcases hcase with ⟨hz, rfl⟩ | ⟨hz, rfl, hR⟩
  · have HZ : Hid (¬ A.z = 0) := hz
    have hzb : (A.z != 0) = true := by simp [hz]
    go_wp2
    refine bodyPost_ret (v := .agg #[.int .i64 A.z, .slice none 0 0, .int .i64 zPr.sa, .int .i64 zPr.si, .int .i64 zPr.ho, .int .i64 zPr.nx, .slice zPr.a1 zPr.n1 zPr.c1, .slice zPr.a2 zPr.n2 zPr.c2, .slice zPr.aN zPr.nN zPr.cN, .slice zPr.aW zPr.nW zPr.cW, .slice zPr.aM zPr.nM zPr.cM, .slice zPr.aS zPr.nS zPr.cS]) (by simp [results, Tryz.results52, go_sem, c1, zPr]) rfl ?_
    exact ⟨A.z, zPr, col', rfl, .inr (.inr (.inl ⟨HV.out, HPE.out, HZ.out, rfl, rfl⟩)), zPr_ow _ _ _ _, new12 n3 (by omega) _ _ _ _ _ _ _ _ _ _ _ _ ⟩
  · have HZ : Hid (A.z = 0) := hz
    clear hz
    simp only [pcCs] at c0
    go_wp2
    refine bodyPost_ret (v := .agg #[.int .i64 0, .slice none 0 0, .int .i64 R.sa, .int .i64 R.si, .int .i64 R.ho, .int .i64 R.nx, .slice R.a1 R.n1 R.c1, .slice R.a2 R.n2 R.c2, .slice R.aN R.nN R.cN, .slice R.aW R.nW R.cW, .slice R.aM R.nM R.cM, .slice R.aS R.nS R.cS]) (by simp [results, Tryz.results52, go_sem, c1]) rfl ?_
    exact ⟨0, R, col', rfl, .inr (.inr (.inr ⟨HV.out, HPE.out, HZ.out, rfl, hR.trans (EQ.out.setW rfl)⟩)), fin12 o3 (by omega) (by omega) (Nat.le_refl _) _ _ _ _ _ _ _ _ _ _ _ _ , new12 n3 (by omega) _ _ _ _ _ _ _ _ _ _ _ _ ⟩

set_option maxHeartbeats 3200000 in
theorem implSa (P : PrV) (pe : Int) (us : List Int) (dA : Option Addr) (dc : Nat) (A : Wr) (b0 b1 : Nat) (col : Nat → Nat) (w : World) (ho : PrOw w b0 b1 col P) (hl : PrL P) (hN : ∃ g, P.aN = some ⟨g, 0, none⟩) (hc : P.cN = P.nN) (hW : SomW P.VW) (hM : SomM P.VM) (h1 : ∃ g, P.a1 = some ⟨g, 0, none⟩) (h2 : ∃ g, P.a2 = some ⟨g, 0, none⟩) (hu : BsAt w dA us) (hnu : dA = none → us.length = 0 ∧ dc = 0) (hum : us.length ≤ 1048576) (hA : prF P = 0 → P9 pe → ∃ v, P.VW[pe.toNat]? = some v ∧ psA v.E v.T v.xs v.ys us = A) :
    Calls Tryz.prog 14 #[.agg #[.int .i64 P.sa, .int .i64 P.si, .int .i64 P.ho, .int .i64 P.nx, .slice P.a1 P.n1 P.c1, .slice P.a2 P.n2 P.c2, .slice P.aN P.nN P.cN, .slice P.aW P.nW P.cW, .slice P.aM P.nM P.cM, .slice P.aS P.nS P.cS], .int .i64 pe, .slice dA us.length dc] w fun e w' => ∃ z R col', e = .returned (.agg #[.int .i64 z, .slice none 0 0, .int .i64 R.sa, .int .i64 R.si, .int .i64 R.ho, .int .i64 R.nx, .slice R.a1 R.n1 R.c1, .slice R.a2 R.n2 R.c2, .slice R.aN R.nN R.cN, .slice R.aW R.nW R.cW, .slice R.aM R.nM R.cM, .slice R.aS R.nS R.cS]) ∧ SaR P pe A z R ∧ PrOw w' w.heap.size w'.heap.size col' R ∧ New w w' := by
  have hw : New w ((w.alloc (.cells #[.int .i64 P.sa, .int .i64 P.si, .int .i64 P.ho, .int .i64 P.nx, .slice P.a1 P.n1 P.c1, .slice P.a2 P.n2 P.c2, .slice P.aN P.nN P.cN, .slice P.aW P.nW P.cW, .slice P.aM P.nM P.cM, .slice P.aS P.nS P.cS] 44)).alloc (.cells #[.int .i64 0, .slice none 0 0, .int .i64 0, .int .i64 0, .int .i64 0, .int .i64 0, .slice none 0 0, .slice none 0 0, .slice none 0 0, .slice none 0 0, .slice none 0 0, .slice none 0 0] 46)) := ((New.refl w).alloc _).alloc _
  have b0' : Blk ((w.alloc (.cells #[.int .i64 P.sa, .int .i64 P.si, .int .i64 P.ho, .int .i64 P.nx, .slice P.a1 P.n1 P.c1, .slice P.a2 P.n2 P.c2, .slice P.aN P.nN P.cN, .slice P.aW P.nW P.cW, .slice P.aM P.nM P.cM, .slice P.aS P.nS P.cS] 44)).alloc (.cells #[.int .i64 0, .slice none 0 0, .int .i64 0, .int .i64 0, .int .i64 0, .int .i64 0, .slice none 0 0, .slice none 0 0, .slice none 0 0, .slice none 0 0, .slice none 0 0, .slice none 0 0] 46)) w.heap.size 44 #[.int .i64 P.sa, .int .i64 P.si, .int .i64 P.ho, .int .i64 P.nx, .slice P.a1 P.n1 P.c1, .slice P.a2 P.n2 P.c2, .slice P.aN P.nN P.cN, .slice P.aW P.nW P.cW, .slice P.aM P.nM P.cM, .slice P.aS P.nS P.cS] := (Blk.mk _ _ _ _ rfl).alloc _
  have b1' : Blk ((w.alloc (.cells #[.int .i64 P.sa, .int .i64 P.si, .int .i64 P.ho, .int .i64 P.nx, .slice P.a1 P.n1 P.c1, .slice P.a2 P.n2 P.c2, .slice P.aN P.nN P.cN, .slice P.aW P.nW P.cW, .slice P.aM P.nM P.cM, .slice P.aS P.nS P.cS] 44)).alloc (.cells #[.int .i64 0, .slice none 0 0, .int .i64 0, .int .i64 0, .int .i64 0, .int .i64 0, .slice none 0 0, .slice none 0 0, .slice none 0 0, .slice none 0 0, .slice none 0 0, .slice none 0 0] 46)) (w.heap.size + 1) 46 #[.int .i64 0, .slice none 0 0, .int .i64 0, .int .i64 0, .int .i64 0, .int .i64 0, .slice none 0 0, .slice none 0 0, .slice none 0 0, .slice none 0 0, .slice none 0 0, .slice none 0 0] := Blk.mk _ _ _ _ (by simp)
  have s0 : Hid (((w.alloc (.cells #[.int .i64 P.sa, .int .i64 P.si, .int .i64 P.ho, .int .i64 P.nx, .slice P.a1 P.n1 P.c1, .slice P.a2 P.n2 P.c2, .slice P.aN P.nN P.cN, .slice P.aW P.nW P.cW, .slice P.aM P.nM P.cM, .slice P.aS P.nS P.cS] 44)).alloc (.cells #[.int .i64 0, .slice none 0 0, .int .i64 0, .int .i64 0, .int .i64 0, .int .i64 0, .slice none 0 0, .slice none 0 0, .slice none 0 0, .slice none 0 0, .slice none 0 0, .slice none 0 0] 46)).heap.size = w.heap.size + 1 + 1) := by unfold Hid; simp
  have HH : Hid (∀ X, New w X → Calls Tryz.prog 52 #[.agg #[.int .i64 P.sa, .int .i64 P.si, .int .i64 P.ho, .int .i64 P.nx, .slice P.a1 P.n1 P.c1, .slice P.a2 P.n2 P.c2, .slice P.aN P.nN P.cN, .slice P.aW P.nW P.cW, .slice P.aM P.nM P.cM, .slice P.aS P.nS P.cS, .int .i64 0, .int .i64 pe, .int .i64 0, .int .i64 0, .bool false, .slice dA us.length dc, .int .i64 0, .int .i64 0, .slice none 0 0, .slice none 0 0], .func (.func 53) #[] #[]] X fun e w' => ∃ z R col', e = .returned (.agg #[.int .i64 z, .slice none 0 0, .int .i64 R.sa, .int .i64 R.si, .int .i64 R.ho, .int .i64 R.nx, .slice R.a1 R.n1 R.c1, .slice R.a2 R.n2 R.c2, .slice R.aN R.nN R.cN, .slice R.aW R.nW R.cW, .slice R.aM R.nM R.cM, .slice R.aS R.nS R.cS]) ∧ SaR P pe A z R ∧ PrOw w' X.heap.size w'.heap.size col' R ∧ New X w') := fun X hX => happenSa P pe us dA dc A b0 b1 col X (ho.new hX) hl hN hc hW hM h1 h2 (hu.new hX) hnu hum hA
  clear ho hl hN hc hW hM h1 h2 hA hu hnu
  have c0 := b0'.cells
  go_enter Tryz.func14, Tryz.ntmps14
  go_wp2_with fail
  refine (HH.out _ hw).mono ?_
  rintro e w1 ⟨z, R, col', rfl, hR, o1, hn1⟩
  have S0 := s0.out
  have n1 := hw.trans hn1
  have z1 := hn1.size
  have p1 := b1'.new hn1
  clear c0 b0' b1' hw hn1
  have c1 := p1.cells
  have f1 := p1.frees
  go_wp2
  refine bodyPost_ret (v := .agg #[.int .i64 z, .slice none 0 0, .int .i64 R.sa, .int .i64 R.si, .int .i64 R.ho, .int .i64 R.nx, .slice R.a1 R.n1 R.c1, .slice R.a2 R.n2 R.c2, .slice R.aN R.nN R.cN, .slice R.aW R.nW R.cW, .slice R.aM R.nM R.cM, .slice R.aS R.nS R.cS]) (by simp [results, Tryz.results14, go_sem, c1]) rfl ?_
  exact ⟨z, R, col', rfl, hR, fin12 o1 (by omega) (by omega) (Nat.le_refl _) _ _ _ _ _ _ _ _ _ _ _ _ , new12 n1 (by omega) _ _ _ _ _ _ _ _ _ _ _ _ ⟩

end Go.Proofs.YtebkdaddndlmoaaGreat
