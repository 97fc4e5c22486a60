/- Lemmas and contracts of one law. -/
import Derived.Test.YtdbnmkffinhdjaaGreatLV41
namespace Go.Proofs.YtdbnmkffinhdjaaGreat
open Go.ChangeShapes Go.WideShapes Go.ChangeAt Go.RowKit Go.Deep Go.Sort
set_option linter.unusedVariables false
set_option linter.unusedSimpArgs false
set_option maxRecDepth 100000
set_option maxHeartbeats 25600000

theorem eqPair16 (sa si ho nx : Int) (a1 a2 aN aW aM aS b1 b2 bN bW bM bS : Option Addr) (n1 c1 n2 c2 nN cN nW cW nM cM nS cS d1 d2 dN dW dM dS : Nat) (r1 r2 : List Ru) (VN UN : List NdV) (VW UW : List WiV) (VM UM : List MlV) (VS US : List EkV) (w : World)
    (h1 : RsAt w a1 r1) (h2 : RsAt w a2 r2) (h3 : NdAt w aN VN) (h4 : WiAt w aW VW) (h5 : MqAt w aM VM) (h6 : LgAt w aS VS) (k1 : RsAt w b1 r1) (k2 : RsAt w b2 r2) (k3 : NdAt w bN UN) (k4 : WiAt w bW UW) (k5 : MqAt w bM UM) (k6 : LgAt w bS US) (e1 : VN.map NdV.r = UN.map NdV.r) (e2 : VW.map WiV.r = UW.map WiV.r) (e3 : VM.map MlV.r = UM.map MlV.r) (e4 : VS.map EkV.r = US.map EkV.r) (l1 : r1.length = n1) (l2 : r2.length = n2) (m1 : n1 ≤ 1048576) (m2 : n2 ≤ 1048576)
    (lN : VN.length = nN) (lW : VW.length = nW) (lM : VM.length = nM) (lS : VS.length = nS) (hN : nN ≤ 1048576) (hW : nW ≤ 1048576) (hM : nM ≤ 1048576) (hS : nS ≤ 1048576) :
    Calls Tryz.prog 12 #[.agg #[.int .i64 sa, .int .i64 si, .int .i64 ho, .int .i64 nx, .slice a1 n1 c1, .slice a2 n2 c2, .slice aN nN cN, .slice aW nW cW, .slice aM nM cM, .slice aS nS cS], .agg #[.int .i64 sa, .int .i64 si, .int .i64 ho, .int .i64 nx, .slice b1 n1 d1, .slice b2 n2 d2, .slice bN nN dN, .slice bW nW dW, .slice bM nM dM, .slice bS nS dS]] w fun e w' => e = .returned (.bool true) ∧ New w w' := by
  have hw : New w ((w.alloc (.cells #[.int .i64 sa, .int .i64 si, .int .i64 ho, .int .i64 nx, .slice a1 n1 c1, .slice a2 n2 c2, .slice aN nN cN, .slice aW nW cW, .slice aM nM cM, .slice aS nS cS] 47)).alloc (.cells #[.int .i64 sa, .int .i64 si, .int .i64 ho, .int .i64 nx, .slice b1 n1 d1, .slice b2 n2 d2, .slice bN nN dN, .slice bW nW dW, .slice bM nM dM, .slice bS nS dS] 47)) := ((New.refl w).alloc _).alloc _
  have bA : Blk ((w.alloc (.cells #[.int .i64 sa, .int .i64 si, .int .i64 ho, .int .i64 nx, .slice a1 n1 c1, .slice a2 n2 c2, .slice aN nN cN, .slice aW nW cW, .slice aM nM cM, .slice aS nS cS] 47)).alloc (.cells #[.int .i64 sa, .int .i64 si, .int .i64 ho, .int .i64 nx, .slice b1 n1 d1, .slice b2 n2 d2, .slice bN nN dN, .slice bW nW dW, .slice bM nM dM, .slice bS nS dS] 47)) w.heap.size 47 #[.int .i64 sa, .int .i64 si, .int .i64 ho, .int .i64 nx, .slice a1 n1 c1, .slice a2 n2 c2, .slice aN nN cN, .slice aW nW cW, .slice aM nM cM, .slice aS nS cS] := (Blk.mk _ _ _ _ rfl).alloc _
  have bB : Blk ((w.alloc (.cells #[.int .i64 sa, .int .i64 si, .int .i64 ho, .int .i64 nx, .slice a1 n1 c1, .slice a2 n2 c2, .slice aN nN cN, .slice aW nW cW, .slice aM nM cM, .slice aS nS cS] 47)).alloc (.cells #[.int .i64 sa, .int .i64 si, .int .i64 ho, .int .i64 nx, .slice b1 n1 d1, .slice b2 n2 d2, .slice bN nN dN, .slice bW nW dW, .slice bM nM dM, .slice bS nS dS] 47)) (w.heap.size + 1) 47 #[.int .i64 sa, .int .i64 si, .int .i64 ho, .int .i64 nx, .slice b1 n1 d1, .slice b2 n2 d2, .slice bN nN dN, .slice bW nW dW, .slice bM nM dM, .slice bS nS dS] := Blk.mk _ _ _ _ (by simp)
  go_enter Tryz.func12, Tryz.ntmps12
  have cA := bA.cells
  have cB := bB.cells
  go_wp2_with fail
  refine (eqSe_any sa si ho nx a1 a2 b1 b2 n1 c1 n2 c2 d1 d2 r1 r2 _ (h1.new hw) (h2.new hw) l1 l2 m1 m2 (k1.new hw) (k2.new hw)).mono ?_
  rintro e w1 ⟨rfl, hn1⟩
  have hw1 := hw.trans hn1
  replace bA := bA.new hn1
  replace bB := bB.new hn1
  clear cA cB hn1
  have cA := bA.cells
  have cB := bB.cells
  go_wp2_with fail
  refine (eqNdS_any aN bN nN cN dN VN UN _ (h3.new hw1) (k3.new hw1) e1 lN (by omega)).mono ?_
  rintro e w2 ⟨rfl, hn2⟩
  have hw2 := hw1.trans hn2
  replace bA := bA.new hn2
  replace bB := bB.new hn2
  clear cA cB hn2
  have cA := bA.cells
  have cB := bB.cells
  go_wp2_with fail
  refine (eqWiS_any aW bW nW cW dW VW UW _ (h4.new hw2) (k4.new hw2) e2 lW (by omega)).mono ?_
  rintro e w3 ⟨rfl, hn3⟩
  have hw3 := hw2.trans hn3
  replace bA := bA.new hn3
  replace bB := bB.new hn3
  clear cA cB hn3
  have cA := bA.cells
  have cB := bB.cells
  go_wp2_with fail
  refine (eqMqS_any aM bM nM cM dM VM UM _ (h5.new hw3) (k5.new hw3) e3 lM (by omega)).mono ?_
  rintro e w4 ⟨rfl, hn4⟩
  have hw4 := hw3.trans hn4
  replace bA := bA.new hn4
  replace bB := bB.new hn4
  clear cA cB hn4
  have cA := bA.cells
  have cB := bB.cells
  go_wp2_with fail
  refine (eqEkS_any aS bS nS cS dS VS US _ (h6.new hw4) (k6.new hw4) e4 lS (by omega)).mono ?_
  rintro e w5 ⟨rfl, hn5⟩
  have hw5 := hw4.trans hn5
  replace bA := bA.new hn5
  replace bB := bB.new hn5
  clear cA cB hn5
  go_wp2
  go_ret
  exact ⟨rfl, hw5⟩
theorem eqPr16 (P Q : PrV) (w : World) (h : PrRd w P) (k : PrRd w Q) (he : PrE P Q) (hl : PrL P) :
    Calls Tryz.prog 12 #[.agg #[.int .i64 P.sa, .int .i64 P.si, .int .i64 P.ho, .int .i64 P.nx, .slice P.a1 P.n1 P.c1, .slice P.a2 P.n2 P.c2, .slice P.aN P.nN P.cN, .slice P.aW P.nW P.cW, .slice P.aM P.nM P.cM, .slice P.aS P.nS P.cS], .agg #[.int .i64 Q.sa, .int .i64 Q.si, .int .i64 Q.ho, .int .i64 Q.nx, .slice Q.a1 Q.n1 Q.c1, .slice Q.a2 Q.n2 Q.c2, .slice Q.aN Q.nN Q.cN, .slice Q.aW Q.nW Q.cW, .slice Q.aM Q.nM Q.cM, .slice Q.aS Q.nS Q.cS]] w fun e w' => e = .returned (.bool true) ∧ New w w' := by
  rw [← he.sa, ← he.si, ← he.ho, ← he.nx, ← he.n1, ← he.n2, ← he.nN, ← he.nW, ← he.nM, ← he.nS]
  exact eqPair16 P.sa P.si P.ho P.nx P.a1 P.a2 P.aN P.aW P.aM P.aS Q.a1 Q.a2 Q.aN Q.aW Q.aM Q.aS P.n1 P.c1 P.n2 P.c2 P.nN P.cN P.nW P.cW P.nM P.cM P.nS P.cS Q.c1 Q.c2 Q.cN Q.cW Q.cM Q.cS P.r1 P.r2 P.VN Q.VN P.VW Q.VW P.VM Q.VM P.VS Q.VS w h.s1 h.s2 h.nd h.wi h.mq h.se (he.r1 ▸ k.s1) (he.r2 ▸ k.s2) k.nd k.wi k.mq k.se he.nd he.wi he.mq he.se hl.l1 hl.l2 hl.m1 hl.m2 hl.lN hl.lW hl.lM hl.lS hl.mN hl.mW hl.mM hl.mS

end Go.Proofs.YtdbnmkffinhdjaaGreat
