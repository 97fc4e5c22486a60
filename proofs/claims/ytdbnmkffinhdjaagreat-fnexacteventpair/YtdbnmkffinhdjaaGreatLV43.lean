/- Lemmas and contracts of one law. -/
import Derived.Test.YtdbnmkffinhdjaaGreatLV42
import Derived.Test.YtdbnmkffinhdjaaGreatLV22
namespace Go.Proofs.YtdbnmkffinhdjaaGreat
open Go.ChangeShapes Go.WideShapes Go.ChangeAt Go.RowKit Go.Deep Go.Sort
set_option linter.unusedVariables false
set_option linter.unusedSimpArgs false
set_option maxRecDepth 100000
set_option maxHeartbeats 25600000

theorem eqB16 (w : World) : Calls Tryz.prog 38 #[.slice none 0 0, .slice none 0 0] w fun e w' => e = .returned (.bool true) ∧ w' = w := by
  go_enter Tryz.func38, Tryz.ntmps38
  go_wp2
  refine wp_loop_rounds 1 ?_
  rw [rounds_succ]
  go_wp2
  go_ret
  exact ⟨rfl, rfl⟩

theorem eqPR16 (z : Int) (P Q : PrV) (w : World) (h : PrRd w P) (k : PrRd w Q) (he : PrE P Q) (hl : PrL P) :
    Calls Tryz.prog 11 #[.agg #[.int .i64 z, .slice none 0 0, .int .i64 P.sa, .int .i64 P.si, .int .i64 P.ho, .int .i64 P.nx, .slice P.a1 P.n1 P.c1, .slice P.a2 P.n2 P.c2, .slice P.aN P.nN P.cN, .slice P.aW P.nW P.cW, .slice P.aM P.nM P.cM, .slice P.aS P.nS P.cS], .agg #[.int .i64 z, .slice none 0 0, .int .i64 Q.sa, .int .i64 Q.si, .int .i64 Q.ho, .int .i64 Q.nx, .slice Q.a1 Q.n1 Q.c1, .slice Q.a2 Q.n2 Q.c2, .slice Q.aN Q.nN Q.cN, .slice Q.aW Q.nW Q.cW, .slice Q.aM Q.nM Q.cM, .slice Q.aS Q.nS Q.cS]] w fun e w' => e = .returned (.bool true) ∧ New w w' := by
  have hw : New w ((w.alloc (.cells #[.int .i64 z, .slice none 0 0, .int .i64 P.sa, .int .i64 P.si, .int .i64 P.ho, .int .i64 P.nx, .slice P.a1 P.n1 P.c1, .slice P.a2 P.n2 P.c2, .slice P.aN P.nN P.cN, .slice P.aW P.nW P.cW, .slice P.aM P.nM P.cM, .slice P.aS P.nS P.cS] 49)).alloc (.cells #[.int .i64 z, .slice none 0 0, .int .i64 Q.sa, .int .i64 Q.si, .int .i64 Q.ho, .int .i64 Q.nx, .slice Q.a1 Q.n1 Q.c1, .slice Q.a2 Q.n2 Q.c2, .slice Q.aN Q.nN Q.cN, .slice Q.aW Q.nW Q.cW, .slice Q.aM Q.nM Q.cM, .slice Q.aS Q.nS Q.cS] 49)) := ((New.refl w).alloc _).alloc _
  have bA : Blk ((w.alloc (.cells #[.int .i64 z, .slice none 0 0, .int .i64 P.sa, .int .i64 P.si, .int .i64 P.ho, .int .i64 P.nx, .slice P.a1 P.n1 P.c1, .slice P.a2 P.n2 P.c2, .slice P.aN P.nN P.cN, .slice P.aW P.nW P.cW, .slice P.aM P.nM P.cM, .slice P.aS P.nS P.cS] 49)).alloc (.cells #[.int .i64 z, .slice none 0 0, .int .i64 Q.sa, .int .i64 Q.si, .int .i64 Q.ho, .int .i64 Q.nx, .slice Q.a1 Q.n1 Q.c1, .slice Q.a2 Q.n2 Q.c2, .slice Q.aN Q.nN Q.cN, .slice Q.aW Q.nW Q.cW, .slice Q.aM Q.nM Q.cM, .slice Q.aS Q.nS Q.cS] 49)) w.heap.size 49 #[.int .i64 z, .slice none 0 0, .int .i64 P.sa, .int .i64 P.si, .int .i64 P.ho, .int .i64 P.nx, .slice P.a1 P.n1 P.c1, .slice P.a2 P.n2 P.c2, .slice P.aN P.nN P.cN, .slice P.aW P.nW P.cW, .slice P.aM P.nM P.cM, .slice P.aS P.nS P.cS] := (Blk.mk _ _ _ _ rfl).alloc _
  have bB : Blk ((w.alloc (.cells #[.int .i64 z, .slice none 0 0, .int .i64 P.sa, .int .i64 P.si, .int .i64 P.ho, .int .i64 P.nx, .slice P.a1 P.n1 P.c1, .slice P.a2 P.n2 P.c2, .slice P.aN P.nN P.cN, .slice P.aW P.nW P.cW, .slice P.aM P.nM P.cM, .slice P.aS P.nS P.cS] 49)).alloc (.cells #[.int .i64 z, .slice none 0 0, .int .i64 Q.sa, .int .i64 Q.si, .int .i64 Q.ho, .int .i64 Q.nx, .slice Q.a1 Q.n1 Q.c1, .slice Q.a2 Q.n2 Q.c2, .slice Q.aN Q.nN Q.cN, .slice Q.aW Q.nW Q.cW, .slice Q.aM Q.nM Q.cM, .slice Q.aS Q.nS Q.cS] 49)) (w.heap.size + 1) 49 #[.int .i64 z, .slice none 0 0, .int .i64 Q.sa, .int .i64 Q.si, .int .i64 Q.ho, .int .i64 Q.nx, .slice Q.a1 Q.n1 Q.c1, .slice Q.a2 Q.n2 Q.c2, .slice Q.aN Q.nN Q.cN, .slice Q.aW Q.nW Q.cW, .slice Q.aM Q.nM Q.cM, .slice Q.aS Q.nS Q.cS] := Blk.mk _ _ _ _ (by simp)
  have hzz : (z != z) = false := by simp
  have h' := h.new hw
  have k' := k.new hw
  have HE : Hid (PrE P Q) := he
  clear he
  go_enter Tryz.func11, Tryz.ntmps11
  go_upto_region 1 with fail
  generalize ((w.alloc (.cells #[.int .i64 z, .slice none 0 0, .int .i64 P.sa, .int .i64 P.si, .int .i64 P.ho, .int .i64 P.nx, .slice P.a1 P.n1 P.c1, .slice P.a2 P.n2 P.c2, .slice P.aN P.nN P.cN, .slice P.aW P.nW P.cW, .slice P.aM P.nM P.cM, .slice P.aS P.nS P.cS] 49)).alloc (.cells #[.int .i64 z, .slice none 0 0, .int .i64 Q.sa, .int .i64 Q.si, .int .i64 Q.ho, .int .i64 Q.nx, .slice Q.a1 Q.n1 Q.c1, .slice Q.a2 Q.n2 Q.c2, .slice Q.aN Q.nN Q.cN, .slice Q.aW Q.nW Q.cW, .slice Q.aM Q.nM Q.cM, .slice Q.aS Q.nS Q.cS] 49)) = w0 at *
  have cA := bA.cells
  have cB := bB.cells
  go_wp2_with fail
  refine (eqB16 _).mono ?_
  rintro e u1 ⟨rfl, hu⟩
  obtain rfl := hu.symm
  go_wp2_with fail
  refine (eqPr16 P Q _ h' k' HE.out hl).mono ?_
  rintro e w1 ⟨rfl, hn1⟩
  go_wp2
  go_ret
  exact ⟨rfl, hw.trans hn1⟩

theorem markPR16 (z : Int) (P : PrV) (b0 b1 : Nat) (col : Nat → Nat) (w : World) (h : PrOw w b0 b1 col P) (hl : PrL P) (hb : b1 ≤ w.heap.size) :
    Calls Tryz.prog 16 #[.agg #[.int .i64 z, .slice none 0 0, .int .i64 P.sa, .int .i64 P.si, .int .i64 P.ho, .int .i64 P.nx, .slice P.a1 P.n1 P.c1, .slice P.a2 P.n2 P.c2, .slice P.aN P.nN P.cN, .slice P.aW P.nW P.cW, .slice P.aM P.nM P.cM, .slice P.aS P.nS P.cS], .int .i64 1] w fun e w' => e = .returned (.int .i64 (eP16 1 P)) ∧ PrMk w' P 1 ∧ Turn (fun x => b0 ≤ x ∧ x < b1) w w' := by
  have al : New w (w.alloc (.cells #[.int .i64 z, .slice none 0 0, .int .i64 P.sa, .int .i64 P.si, .int .i64 P.ho, .int .i64 P.nx, .slice P.a1 P.n1 P.c1, .slice P.a2 P.n2 P.c2, .slice P.aN P.nN P.cN, .slice P.aW P.nW P.cW, .slice P.aM P.nM P.cM, .slice P.aS P.nS P.cS] 49)) := (New.refl w).alloc _
  have bA := Blk.mk w w.heap.size 49 #[.int .i64 z, .slice none 0 0, .int .i64 P.sa, .int .i64 P.si, .int .i64 P.ho, .int .i64 P.nx, .slice P.a1 P.n1 P.c1, .slice P.a2 P.n2 P.c2, .slice P.aN P.nN P.cN, .slice P.aW P.nW P.cW, .slice P.aM P.nM P.cM, .slice P.aS P.nS P.cS] rfl
  have h0 := h.new al
  have hb0 := Nat.le_trans hb al.size
  clear h
  go_enter Tryz.func16, Tryz.ntmps16
  go_upto_region 1 with fail
  generalize w.alloc (.cells #[.int .i64 z, .slice none 0 0, .int .i64 P.sa, .int .i64 P.si, .int .i64 P.ho, .int .i64 P.nx, .slice P.a1 P.n1 P.c1, .slice P.a2 P.n2 P.c2, .slice P.aN P.nN P.cN, .slice P.aW P.nW P.cW, .slice P.aM P.nM P.cM, .slice P.aS P.nS P.cS] 49) = w0 at *
  have cA := bA.cells
  go_wp2_with fail
  refine (markB0 _ _).mono ?_
  rintro e u1 ⟨rfl, hu⟩
  obtain rfl := hu.symm
  go_wp2_with fail
  refine (markPr16 P b0 b1 col 1 _ h0 hl hb0 (by omega) (by omega)).mono ?_
  rintro e w1 ⟨rfl, hM, t1⟩
  have TT : Hid (Turn (fun x => b0 ≤ x ∧ x < b1) w w1) := Turn.trans (al.turn : Turn (fun x => b0 ≤ x ∧ x < b1) w w0) t1 (fun i _ e => e)
  have HM : Hid _ := hM
  clear cA bA t1 hM h0
  go_wp2
  go_ret
  exact ⟨rfl, HM.out, TT.out⟩

theorem heldPR16 (z : Int) (P : PrV) (w : World) (h : PrMk w P 1) (hl : PrL P) (hb : PrB P) :
    Calls Tryz.prog 17 #[.agg #[.int .i64 z, .slice none 0 0, .int .i64 P.sa, .int .i64 P.si, .int .i64 P.ho, .int .i64 P.nx, .slice P.a1 P.n1 P.c1, .slice P.a2 P.n2 P.c2, .slice P.aN P.nN P.cN, .slice P.aW P.nW P.cW, .slice P.aM P.nM P.cM, .slice P.aS P.nS P.cS], .int .i64 1] w fun e w' => e = .returned (.int .i64 (eP16 1 P)) ∧ New w w' := by
  have al : New w (w.alloc (.cells #[.int .i64 z, .slice none 0 0, .int .i64 P.sa, .int .i64 P.si, .int .i64 P.ho, .int .i64 P.nx, .slice P.a1 P.n1 P.c1, .slice P.a2 P.n2 P.c2, .slice P.aN P.nN P.cN, .slice P.aW P.nW P.cW, .slice P.aM P.nM P.cM, .slice P.aS P.nS P.cS] 49)) := (New.refl w).alloc _
  have bA := Blk.mk w w.heap.size 49 #[.int .i64 z, .slice none 0 0, .int .i64 P.sa, .int .i64 P.si, .int .i64 P.ho, .int .i64 P.nx, .slice P.a1 P.n1 P.c1, .slice P.a2 P.n2 P.c2, .slice P.aN P.nN P.cN, .slice P.aW P.nW P.cW, .slice P.aM P.nM P.cM, .slice P.aS P.nS P.cS] rfl
  have h0 := h.new al
  have hE0 : ¬ eP16 1 P < 0 := by have := (k16_bd hl (by omega : (0:Int) ≤ 1) (by omega)).2.2.2.2; omega
  clear h
  go_enter Tryz.func17, Tryz.ntmps17
  go_upto_region 1 with fail
  generalize w.alloc (.cells #[.int .i64 z, .slice none 0 0, .int .i64 P.sa, .int .i64 P.si, .int .i64 P.ho, .int .i64 P.nx, .slice P.a1 P.n1 P.c1, .slice P.a2 P.n2 P.c2, .slice P.aN P.nN P.cN, .slice P.aW P.nW P.cW, .slice P.aM P.nM P.cM, .slice P.aS P.nS P.cS] 49) = w0 at *
  have cA := bA.cells
  go_wp2_with fail
  refine (heldB0 _ _).mono ?_
  rintro e u1 ⟨rfl, hu⟩
  obtain rfl := hu.symm
  go_wp2_with fail
  refine (heldPr16 P 1 _ h0 hl hb (by omega) (by omega)).mono ?_
  rintro e w1 ⟨rfl, t1⟩
  have N1 := al.trans t1
  clear cA bA t1 h0
  go_wp2
  go_ret
  exact ⟨rfl, N1⟩

end Go.Proofs.YtdbnmkffinhdjaaGreat
