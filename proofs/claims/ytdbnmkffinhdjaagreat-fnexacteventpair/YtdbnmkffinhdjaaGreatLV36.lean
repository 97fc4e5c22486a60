/- Lemmas and contracts of one law. -/
import Derived.Test.YtdbnmkffinhdjaaGreatLV33
import Derived.Test.YtdbnmkffinhdjaaGreatLV27
import Derived.Test.YtdbnmkffinhdjaaGreatLV34
import Derived.Test.YtdbnmkffinhdjaaGreatLV35
import Derived.Deep.CutRange
import Derived.Deep.CutBlock
namespace Go.Proofs.YtdbnmkffinhdjaaGreat
open Go.ChangeShapes Go.WideShapes Go.ChangeAt Go.RowKit Go.Deep Go.Sort
set_option linter.unusedVariables false
set_option linter.unusedSimpArgs false
set_option maxRecDepth 100000
set_option maxHeartbeats 25600000

def nodF (P : PrV) (nd : Int) : Int := if prF P = 0 then (if nd = 0 ∨ nd = 1 then 0 else 3) else prF P
theorem l14Node16 (B : Nat) (P : PrV) (nd : Int) (w : World) (hb : Blk w B 47 #[.int .i64 P.sa, .int .i64 P.si, .int .i64 P.ho, .int .i64 P.nx, .slice P.a1 P.n1 P.c1, .slice P.a2 P.n2 P.c2, .slice P.aN P.nN P.cN, .slice P.aW P.nW P.cW, .slice P.aM P.nM P.cM, .slice P.aS P.nS P.cS]) (hp : PAt w P.a1 P.a2 P.aN P.aW P.aM P.aS P.r1 P.r2 P.VN P.VW P.VM P.VS) (hl : PrL P) :
    Calls Tryz.prog 26 #[.pointer (some ⟨B, 0, none⟩), .int .i64 nd] w fun e w' => e = .returned (.int .i64 (nodF P nd)) ∧ New w w' := by
  have HH : Hid (Calls Tryz.prog 60 #[.pointer (some ⟨B, 0, none⟩)] w fun e w' => e = .returned (.int .i64 (prF P)) ∧ New w w') := specPaFp P.sa P.si P.ho P.nx P.a1 P.a2 P.aN P.aW P.aM P.aS P.n1 P.c1 P.n2 P.c2 P.nN P.cN P.nW P.cW P.nM P.cM P.nS P.cS P.r1 P.r2 P.VN P.VW P.VM P.VS B w hb hp hl.l1 hl.l2 hl.lN hl.lW hl.lM hl.lS hl.m1 hl.m2 hl.mN hl.mW hl.mM hl.mS (prF P) rfl
  clear hb hp hl
  go_enter Tryz.func26, Tryz.ntmps26
  go_wp2_with fail
  refine HH.out.mono ?_
  rintro e w1 ⟨rfl, hn1⟩
  by_cases hv : prF P = 0
  · rw [hv]
    by_cases hz : nd = 0 ∨ nd = 1
    · have HZ : Hid (nd = 0 ∨ nd = 1) := hz
      clear hz
      go_wp2_with fail
      refine (in_yes nd 0 1 _ (by have := HZ.out; omega)).mono ?_
      rintro e w' ⟨rfl, hww⟩
      obtain rfl := hww
      go_wp2
      go_ret
      exact ⟨by unfold nodF; rw [if_pos hv, if_pos HZ.out]; rfl, hn1⟩
    · have HZ : Hid (¬ (nd = 0 ∨ nd = 1)) := hz
      clear hz
      go_wp2_with fail
      refine (in_no nd 0 1 _ (by have := HZ.out; omega)).mono ?_
      rintro e w' ⟨rfl, hww⟩
      obtain rfl := hww
      go_wp2
      go_ret
      exact ⟨by unfold nodF; rw [if_pos hv, if_neg HZ.out]; rfl, hn1⟩
  · go_wp2
    go_ret
    exact ⟨by unfold nodF; rw [if_neg hv]; rfl, hn1⟩
theorem fin12z {w : World} {B b0 b1 : Nat} {col : Nat → Nat} {R : PrV} (h : PrOw w b0 b1 col R) (hs : b1 ≤ w.heap.size) (hB : ∀ x, b0 ≤ x → x < b1 → ¬ col x = 0 → ¬ x = B) (v0 v1 v2 v3 v4 v5 v6 v7 v8 v9 v10 v11 : Value) : PrOw ((((((((((((w.setCell ⟨B, 0, none⟩ v0).setCell ⟨B, 1, none⟩ v1).setCell ⟨B, 2, none⟩ v2).setCell ⟨B, 3, none⟩ v3).setCell ⟨B, 4, none⟩ v4).setCell ⟨B, 5, none⟩ v5).setCell ⟨B, 6, none⟩ v6).setCell ⟨B, 7, none⟩ v7).setCell ⟨B, 8, none⟩ v8).setCell ⟨B, 9, none⟩ v9).setCell ⟨B, 10, none⟩ v10).setCell ⟨B, 11, none⟩ v11) b0 ((((((((((((w.setCell ⟨B, 0, none⟩ v0).setCell ⟨B, 1, none⟩ v1).setCell ⟨B, 2, none⟩ v2).setCell ⟨B, 3, none⟩ v3).setCell ⟨B, 4, none⟩ v4).setCell ⟨B, 5, none⟩ v5).setCell ⟨B, 6, none⟩ v6).setCell ⟨B, 7, none⟩ v7).setCell ⟨B, 8, none⟩ v8).setCell ⟨B, 9, none⟩ v9).setCell ⟨B, 10, none⟩ v10).setCell ⟨B, 11, none⟩ v11).heap.size col R := by
  have t := set12t (S := fun x => x = B) w B rfl v0 v1 v2 v3 v4 v5 v6 v7 v8 v9 v10 v11
  exact (h.turnZ t hB).up (Nat.le_trans hs t.size)
def GoS (P : PrV) (k : Nat) (a : NA) (z : Int) (R : PrV) : Prop := (¬ a.z = 0 ∧ z = a.z ∧ R = zPr) ∨ (a.z = 0 ∧ z = 0 ∧ PrE R (P.gone k a))

theorem l14Of16 (k : Nat) (P : PrV) (a : NA) (A S : Option Addr) (c cs : Nat) (U : List EkV) (Ms : List MlV) (b0 b1 bx by' : Nat) (col : Nat → Nat) (w : World) (ho : PrOw w b0 b1 col P) (hl : PrL P) (hW : SomW P.VW) (hM : SomM P.VM) (h1 : ∃ g, P.a1 = some ⟨g, 0, none⟩) (h2 : ∃ g, P.a2 = some ⟨g, 0, none⟩) (hk : k < P.nN) (hs : by' ≤ w.heap.size) (hxy : bx ≤ by') (hO : NrOw w bx by' A a.L.length c U S a.M.length cs Ms) (hU : U.map EkV.r = a.L) (hMm : Ms.map MlV.m = a.M) (hG : a.z = 0 → a.Good) :
    Calls Tryz.prog 28 #[.agg #[.int .i64 P.sa, .int .i64 P.si, .int .i64 P.ho, .int .i64 P.nx, .slice P.a1 P.n1 P.c1, .slice P.a2 P.n2 P.c2, .slice P.aN P.nN P.cN, .slice P.aW P.nW P.cW, .slice P.aM P.nM P.cM, .slice P.aS P.nS P.cS], .int .i64 (k : Int), .agg #[.int .i64 a.z, .int .i64 a.id, .bool a.up, .int .i64 a.ro, .int .i64 a.ep, .slice A a.L.length c, .int .i64 a.su, .int .i64 a.ma, .int .i64 a.ot, .int .i64 a.co, .slice S a.M.length cs]] w fun e w' => ∃ z R col', e = .returned (.agg #[.int .i64 z, .slice none 0 0, .int .i64 R.sa, .int .i64 R.si, .int .i64 R.ho, .int .i64 R.nx, .slice R.a1 R.n1 R.c1, .slice R.a2 R.n2 R.c2, .slice R.aN R.nN R.cN, .slice R.aW R.nW R.cW, .slice R.aM R.nM R.cM, .slice R.aS R.nS R.cS]) ∧ GoS P k a z R ∧ PrOw w' bx w'.heap.size col' R ∧ New w w' := by
  have hw : New w (((w.alloc (.cells #[.int .i64 P.sa, .int .i64 P.si, .int .i64 P.ho, .int .i64 P.nx, .slice P.a1 P.n1 P.c1, .slice P.a2 P.n2 P.c2, .slice P.aN P.nN P.cN, .slice P.aW P.nW P.cW, .slice P.aM P.nM P.cM, .slice P.aS P.nS P.cS] 47)).alloc (.cells #[.int .i64 a.z, .int .i64 a.id, .bool a.up, .int .i64 a.ro, .int .i64 a.ep, .slice A a.L.length c, .int .i64 a.su, .int .i64 a.ma, .int .i64 a.ot, .int .i64 a.co, .slice S a.M.length cs] 76)).alloc (.cells #[.int .i64 0, .slice none 0 0, .int .i64 0, .int .i64 0, .int .i64 0, .int .i64 0, .slice none 0 0, .slice none 0 0, .slice none 0 0, .slice none 0 0, .slice none 0 0, .slice none 0 0] 49)) := (((New.refl w).alloc _).alloc _).alloc _
  have bP : Blk (((w.alloc (.cells #[.int .i64 P.sa, .int .i64 P.si, .int .i64 P.ho, .int .i64 P.nx, .slice P.a1 P.n1 P.c1, .slice P.a2 P.n2 P.c2, .slice P.aN P.nN P.cN, .slice P.aW P.nW P.cW, .slice P.aM P.nM P.cM, .slice P.aS P.nS P.cS] 47)).alloc (.cells #[.int .i64 a.z, .int .i64 a.id, .bool a.up, .int .i64 a.ro, .int .i64 a.ep, .slice A a.L.length c, .int .i64 a.su, .int .i64 a.ma, .int .i64 a.ot, .int .i64 a.co, .slice S a.M.length cs] 76)).alloc (.cells #[.int .i64 0, .slice none 0 0, .int .i64 0, .int .i64 0, .int .i64 0, .int .i64 0, .slice none 0 0, .slice none 0 0, .slice none 0 0, .slice none 0 0, .slice none 0 0, .slice none 0 0] 49)) w.heap.size 47 #[.int .i64 P.sa, .int .i64 P.si, .int .i64 P.ho, .int .i64 P.nx, .slice P.a1 P.n1 P.c1, .slice P.a2 P.n2 P.c2, .slice P.aN P.nN P.cN, .slice P.aW P.nW P.cW, .slice P.aM P.nM P.cM, .slice P.aS P.nS P.cS] := ((Blk.mk _ _ _ _ rfl).alloc _).alloc _
  have bT : Blk (((w.alloc (.cells #[.int .i64 P.sa, .int .i64 P.si, .int .i64 P.ho, .int .i64 P.nx, .slice P.a1 P.n1 P.c1, .slice P.a2 P.n2 P.c2, .slice P.aN P.nN P.cN, .slice P.aW P.nW P.cW, .slice P.aM P.nM P.cM, .slice P.aS P.nS P.cS] 47)).alloc (.cells #[.int .i64 a.z, .int .i64 a.id, .bool a.up, .int .i64 a.ro, .int .i64 a.ep, .slice A a.L.length c, .int .i64 a.su, .int .i64 a.ma, .int .i64 a.ot, .int .i64 a.co, .slice S a.M.length cs] 76)).alloc (.cells #[.int .i64 0, .slice none 0 0, .int .i64 0, .int .i64 0, .int .i64 0, .int .i64 0, .slice none 0 0, .slice none 0 0, .slice none 0 0, .slice none 0 0, .slice none 0 0, .slice none 0 0] 49)) (w.heap.size + 1) 76 #[.int .i64 a.z, .int .i64 a.id, .bool a.up, .int .i64 a.ro, .int .i64 a.ep, .slice A a.L.length c, .int .i64 a.su, .int .i64 a.ma, .int .i64 a.ot, .int .i64 a.co, .slice S a.M.length cs] := (Blk.mk _ _ _ _ (by simp)).alloc _
  have bR : Blk (((w.alloc (.cells #[.int .i64 P.sa, .int .i64 P.si, .int .i64 P.ho, .int .i64 P.nx, .slice P.a1 P.n1 P.c1, .slice P.a2 P.n2 P.c2, .slice P.aN P.nN P.cN, .slice P.aW P.nW P.cW, .slice P.aM P.nM P.cM, .slice P.aS P.nS P.cS] 47)).alloc (.cells #[.int .i64 a.z, .int .i64 a.id, .bool a.up, .int .i64 a.ro, .int .i64 a.ep, .slice A a.L.length c, .int .i64 a.su, .int .i64 a.ma, .int .i64 a.ot, .int .i64 a.co, .slice S a.M.length cs] 76)).alloc (.cells #[.int .i64 0, .slice none 0 0, .int .i64 0, .int .i64 0, .int .i64 0, .int .i64 0, .slice none 0 0, .slice none 0 0, .slice none 0 0, .slice none 0 0, .slice none 0 0, .slice none 0 0] 49)) (w.heap.size + 2) 49 #[.int .i64 0, .slice none 0 0, .int .i64 0, .int .i64 0, .int .i64 0, .int .i64 0, .slice none 0 0, .slice none 0 0, .slice none 0 0, .slice none 0 0, .slice none 0 0, .slice none 0 0] := Blk.mk _ _ _ _ (by simp)
  have s0 : Hid ((((w.alloc (.cells #[.int .i64 P.sa, .int .i64 P.si, .int .i64 P.ho, .int .i64 P.nx, .slice P.a1 P.n1 P.c1, .slice P.a2 P.n2 P.c2, .slice P.aN P.nN P.cN, .slice P.aW P.nW P.cW, .slice P.aM P.nM P.cM, .slice P.aS P.nS P.cS] 47)).alloc (.cells #[.int .i64 a.z, .int .i64 a.id, .bool a.up, .int .i64 a.ro, .int .i64 a.ep, .slice A a.L.length c, .int .i64 a.su, .int .i64 a.ma, .int .i64 a.ot, .int .i64 a.co, .slice S a.M.length cs] 76)).alloc (.cells #[.int .i64 0, .slice none 0 0, .int .i64 0, .int .i64 0, .int .i64 0, .int .i64 0, .slice none 0 0, .slice none 0 0, .slice none 0 0, .slice none 0 0, .slice none 0 0, .slice none 0 0] 49)).heap.size = w.heap.size + 3) := by unfold Hid; simp
  have HH : Hid (∀ X, New w X → Calls Tryz.prog 62 #[.agg #[.int .i64 P.sa, .int .i64 P.si, .int .i64 P.ho, .int .i64 P.nx, .slice P.a1 P.n1 P.c1, .slice P.a2 P.n2 P.c2, .slice P.aN P.nN P.cN, .slice P.aW P.nW P.cW, .slice P.aM P.nM P.cM, .slice P.aS P.nS P.cS]] X fun e w' => ∃ Q col, e = .returned (.agg #[.int .i64 Q.sa, .int .i64 Q.si, .int .i64 Q.ho, .int .i64 Q.nx, .slice Q.a1 Q.n1 Q.c1, .slice Q.a2 Q.n2 Q.c2, .slice Q.aN Q.nN Q.cN, .slice Q.aW Q.nW Q.cW, .slice Q.aM Q.nM Q.cM, .slice Q.aS Q.nS Q.cS]) ∧ PrE Q P ∧ PrOw w' X.heap.size w'.heap.size col Q ∧ New X w') := fun X hX => sCopyPr P X (ho.rd.new hX) hl ho.nl.1 ho.nl.2 hW.nl hM.nl (by obtain ⟨g, e⟩ := h1; intro e'; rw [e'] at e; cases e) (by obtain ⟨g, e⟩ := h2; intro e'; rw [e'] at e; cases e)
  have HL : Hid (PrL P) := hl
  have HG : Hid (a.z = 0 → a.Good) := hG
  have HU : Hid (U.map EkV.r = a.L) := hU
  have HM : Hid (Ms.map MlV.m = a.M) := hMm
  have HO' : Hid (NrOw w bx by' A a.L.length c U S a.M.length cs Ms) := hO
  clear ho hl hW hM h1 h2 hG hU hMm hO
  have cT := bT.cells
  have cP := bP.cells
  go_enter Tryz.func28, Tryz.ntmps28
  go_upto_region 1 with fail
  generalize (((w.alloc (.cells #[.int .i64 P.sa, .int .i64 P.si, .int .i64 P.ho, .int .i64 P.nx, .slice P.a1 P.n1 P.c1, .slice P.a2 P.n2 P.c2, .slice P.aN P.nN P.cN, .slice P.aW P.nW P.cW, .slice P.aM P.nM P.cM, .slice P.aS P.nS P.cS] 47)).alloc (.cells #[.int .i64 a.z, .int .i64 a.id, .bool a.up, .int .i64 a.ro, .int .i64 a.ep, .slice A a.L.length c, .int .i64 a.su, .int .i64 a.ma, .int .i64 a.ot, .int .i64 a.co, .slice S a.M.length cs] 76)).alloc (.cells #[.int .i64 0, .slice none 0 0, .int .i64 0, .int .i64 0, .int .i64 0, .int .i64 0, .slice none 0 0, .slice none 0 0, .slice none 0 0, .slice none 0 0, .slice none 0 0, .slice none 0 0] 49)) = w0 at *
  by_cases hz : a.z = 0
  case neg =>
    have HZ : Hid (¬ a.z = 0) := hz
    have hzb : (a.z != 0) = true := by simp [hz]
    clear hz
    go_wp2_with fail
    refine (l14Bad16 a.z _).mono ?_
    rintro e w2 ⟨rfl, hn2⟩
    have n2 := hw.trans hn2
    have z2 := n2.size
    have r1 := bR.new hn2
    have c1 := r1.cells
    have f1 := r1.frees
    clear cT cP
    go_wp2
    refine bodyPost_ret (v := .agg #[.int .i64 a.z, .slice none 0 0, .int .i64 zPr.sa, .int .i64 zPr.si, .int .i64 zPr.ho, .int .i64 zPr.nx, .slice zPr.a1 zPr.n1 zPr.c1, .slice zPr.a2 zPr.n2 zPr.c2, .slice zPr.aN zPr.nN zPr.cN, .slice zPr.aW zPr.nW zPr.cW, .slice zPr.aM zPr.nM zPr.cM, .slice zPr.aS zPr.nS zPr.cS]) (by simp [results, Tryz.results28, go_sem, c1, zPr]) rfl ?_
    first
  | exact ⟨a.z, zPr, fun _ => 0, rfl, .inl ⟨HZ.out, rfl, rfl⟩, zPr_ow _ _ _ _, new12 n2 (by omega) _ _ _ _ _ _ _ _ _ _ _ _ ⟩
  | exact ⟨a.z, zPr, rfl, .inl ⟨HZ.out, rfl, rfl⟩, ⟨fun _ => 0, zPr_ow _ _ _ _⟩, new12 n2 (by omega) _ _ _ _ _ _ _ _ _ _ _ _ ⟩
  have g0 := HG.out hz
  have HZ : Hid (a.z = 0) := hz
  have hzb : (a.z != 0) = false := by simp [hz]
  clear hz HG
  go_wp2_with fail
  refine (HH.out _ hw).mono ?_
  rintro e w2 ⟨Q, cq, rfl, eQ, oQ, hn2⟩
  have S0 := s0.out
  have lQ := eQ.lim HL.out
  have bOut := Blk.mk w2 w2.heap.size 47 #[.int .i64 0, .int .i64 0, .int .i64 0, .int .i64 0, .slice none 0 0, .slice none 0 0, .slice none 0 0, .slice none 0 0, .slice none 0 0, .slice none 0 0] rfl
  have fOut := bOut.frees
  have cOut := bOut.cells
  clear cT cP
  go_upto_region 4 with fail
  clear fOut cOut bOut hzb
  have b3 := Blk.mk w2 w2.heap.size 47 #[.int .i64 Q.sa, .int .i64 Q.si, .int .i64 Q.ho, .int .i64 Q.nx, .slice Q.a1 Q.n1 Q.c1, .slice Q.a2 Q.n2 Q.c2, .slice Q.aN Q.nN Q.cN, .slice Q.aW Q.nW Q.cW, .slice Q.aM Q.nM Q.cM, .slice Q.aS Q.nS Q.cS] rfl
  have n23 : New w2 (w2.alloc (.cells #[.int .i64 Q.sa, .int .i64 Q.si, .int .i64 Q.ho, .int .i64 Q.nx, .slice Q.a1 Q.n1 Q.c1, .slice Q.a2 Q.n2 Q.c2, .slice Q.aN Q.nN Q.cN, .slice Q.aW Q.nW Q.cW, .slice Q.aM Q.nM Q.cM, .slice Q.aS Q.nS Q.cS] 47)) := (New.refl w2).alloc _
  have z3 : (w2.alloc (.cells #[.int .i64 Q.sa, .int .i64 Q.si, .int .i64 Q.ho, .int .i64 Q.nx, .slice Q.a1 Q.n1 Q.c1, .slice Q.a2 Q.n2 Q.c2, .slice Q.aN Q.nN Q.cN, .slice Q.aW Q.nW Q.cW, .slice Q.aM Q.nM Q.cM, .slice Q.aS Q.nS Q.cS] 47)).heap.size = w2.heap.size + 1 := by simp
  have nw3 := (hw.trans hn2).trans n23
  have bT3 := (bT.new hn2).new n23
  have bR3 := (bR.new hn2).new n23
  have o3 := oQ.new n23
  have zs2 := hn2.size
  clear oQ n23 bT bR bP hn2
  generalize (w2.alloc (.cells #[.int .i64 Q.sa, .int .i64 Q.si, .int .i64 Q.ho, .int .i64 Q.nx, .slice Q.a1 Q.n1 Q.c1, .slice Q.a2 Q.n2 Q.c2, .slice Q.aN Q.nN Q.cN, .slice Q.aW Q.nW Q.cW, .slice Q.aM Q.nM Q.cM, .slice Q.aS Q.nS Q.cS] 47)) = w3 at *
  obtain ⟨bA, hbA, o3'⟩ : ∃ bA, w.heap.size + 3 ≤ bA ∧ PrOw w3 bA w2.heap.size cq Q := ⟨_, by omega, o3⟩
  clear o3
  obtain ⟨g, Pf, Qf, ea, oN⟩ : ∃ g Pf Qf, Q.aN = some ⟨g, 0, none⟩ ∧ OwN1 w3 (Cl cq bA w2.heap.size 1) g Q.nN Q.cN Pf Qf Q.VN := by
    rcases o3'.oN with ⟨-, e, -⟩ | h
    · have := eQ.nN; omega
    · exact h
  have glo := oN.glo.2.1
  have ghi := oN.glo.2.2
  have gO : ¬ w2.heap.size = g := by omega
  have gT : ¬ w.heap.size + 1 = g := by omega
  have gR : ¬ w.heap.size + 2 = g := by omega
  have q6 : w3.cell? ⟨w2.heap.size, 6, none⟩ = some (.slice (some ⟨g, 0, none⟩) Q.nN Q.cN) := by
    have h1 := b3.cells 6
    rw [h1, ← ea]; rfl
  have t0 : w3.cell? ⟨w.heap.size + 1, 1, none⟩ = some (.int .i64 a.id) := bT3.cells 1
  have t1 : w3.cell? ⟨w.heap.size + 1, 2, none⟩ = some (.bool a.up) := bT3.cells 2
  have t2 : w3.cell? ⟨w.heap.size + 1, 3, none⟩ = some (.int .i64 a.ro) := bT3.cells 3
  have t3 : w3.cell? ⟨w.heap.size + 1, 4, none⟩ = some (.int .i64 a.ep) := bT3.cells 4
  have t4 : w3.cell? ⟨w.heap.size + 1, 5, none⟩ = some (.slice A a.L.length c) := bT3.cells 5
  have t5 : w3.cell? ⟨w.heap.size + 1, 6, none⟩ = some (.int .i64 a.su) := bT3.cells 6
  have t6 : w3.cell? ⟨w.heap.size + 1, 7, none⟩ = some (.int .i64 a.ma) := bT3.cells 7
  have t7 : w3.cell? ⟨w.heap.size + 1, 8, none⟩ = some (.int .i64 a.ot) := bT3.cells 8
  have t8 : w3.cell? ⟨w.heap.size + 1, 9, none⟩ = some (.int .i64 a.co) := bT3.cells 9
  have hkQ : k < Q.nN := by rw [eQ.nN]; exact hk
  have hki : (k : Int) < (Q.nN : Int) := by omega
  have hk0 : (0 : Int) ≤ (k : Int) := by omega
  have hrow := oN.row
  have f0 := fun q => World.ownsRow.frozenAt hrow q
  have lVN := lQ.lN
  obtain ⟨y0, cy0⟩ : ∃ y, w3.cell? ⟨g, k * 9, none⟩ = some y := ⟨_, (World.ownsRow.cellAt hrow (k * 9) (by omega)).trans (List.getElem?_eq_getElem (by rw [cellsNd_len]; omega))⟩
  obtain ⟨y1, cy1⟩ : ∃ y, w3.cell? ⟨g, k * 9 + 1, none⟩ = some y := ⟨_, (World.ownsRow.cellAt hrow (k * 9 + 1) (by omega)).trans (List.getElem?_eq_getElem (by rw [cellsNd_len]; omega))⟩
  obtain ⟨y2, cy2⟩ : ∃ y, w3.cell? ⟨g, k * 9 + 2, none⟩ = some y := ⟨_, (World.ownsRow.cellAt hrow (k * 9 + 2) (by omega)).trans (List.getElem?_eq_getElem (by rw [cellsNd_len]; omega))⟩
  obtain ⟨y3, cy3⟩ : ∃ y, w3.cell? ⟨g, k * 9 + 3, none⟩ = some y := ⟨_, (World.ownsRow.cellAt hrow (k * 9 + 3) (by omega)).trans (List.getElem?_eq_getElem (by rw [cellsNd_len]; omega))⟩
  obtain ⟨y4, cy4⟩ : ∃ y, w3.cell? ⟨g, k * 9 + 4, none⟩ = some y := ⟨_, (World.ownsRow.cellAt hrow (k * 9 + 4) (by omega)).trans (List.getElem?_eq_getElem (by rw [cellsNd_len]; omega))⟩
  obtain ⟨y5, cy5⟩ : ∃ y, w3.cell? ⟨g, k * 9 + 5, none⟩ = some y := ⟨_, (World.ownsRow.cellAt hrow (k * 9 + 5) (by omega)).trans (List.getElem?_eq_getElem (by rw [cellsNd_len]; omega))⟩
  obtain ⟨y6, cy6⟩ : ∃ y, w3.cell? ⟨g, k * 9 + 6, none⟩ = some y := ⟨_, (World.ownsRow.cellAt hrow (k * 9 + 6) (by omega)).trans (List.getElem?_eq_getElem (by rw [cellsNd_len]; omega))⟩
  obtain ⟨y7, cy7⟩ : ∃ y, w3.cell? ⟨g, k * 9 + 7, none⟩ = some y := ⟨_, (World.ownsRow.cellAt hrow (k * 9 + 7) (by omega)).trans (List.getElem?_eq_getElem (by rw [cellsNd_len]; omega))⟩
  obtain ⟨y8, cy8⟩ : ∃ y, w3.cell? ⟨g, k * 9 + 8, none⟩ = some y := ⟨_, (World.ownsRow.cellAt hrow (k * 9 + 8) (by omega)).trans (List.getElem?_eq_getElem (by rw [cellsNd_len]; omega))⟩
  have HLV : Hid (Q.VN.length = Q.nN) := lVN
  have EQ : Hid (PrE Q P) := eQ
  have LQ : Hid (PrL Q) := lQ
  clear lVN eQ lQ
  go_upto_region 5 with fail
  clear q6 f0 t0 cy0 t1 cy1 t2 cy2 t3 cy3 t4 cy4 t5 cy5 t6 cy6 t7 cy7 t8 cy8
  have hr0 := hrow
  have hr1 := (World.ownsRow.stored hr0 (k * 9) (.int .i64 a.id)).1
  have hr2 := (World.ownsRow.stored hr1 (k * 9 + 1) (.bool a.up)).1
  have hr3 := (World.ownsRow.stored hr2 (k * 9 + 2) (.int .i64 a.ro)).1
  have hr4 := (World.ownsRow.stored hr3 (k * 9 + 3) (.int .i64 a.ep)).1
  have hr5 := (World.ownsRow.stored hr4 (k * 9 + 4) (.slice A a.L.length c)).1
  have hr6 := (World.ownsRow.stored hr5 (k * 9 + 5) (.int .i64 a.su)).1
  have hr7 := (World.ownsRow.stored hr6 (k * 9 + 6) (.int .i64 a.ma)).1
  have hr8 := (World.ownsRow.stored hr7 (k * 9 + 7) (.int .i64 a.ot)).1
  have hr9 := (World.ownsRow.stored hr8 (k * 9 + 8) (.int .i64 a.co)).1
  have t9 := set9any (S := fun x => x = g) w3 g rfl (k * 9) (k * 9 + 1) (k * 9 + 2) (k * 9 + 3) (k * 9 + 4) (k * 9 + 5) (k * 9 + 6) (k * 9 + 7) (k * 9 + 8) (.int .i64 a.id) (.bool a.up) (.int .i64 a.ro) (.int .i64 a.ep) (.slice A a.L.length c) (.int .i64 a.su) (.int .i64 a.ma) (.int .i64 a.ot) (.int .i64 a.co)
  have hset := cellsNd_set9 Q.VN k (a.v A c U) (by have := HLV.out; omega)
  have hUl : U.length = a.L.length := by have := congrArg List.length HU.out; simpa using this
  simp only [NA.v, hUl] at hset
  rw [hset] at hr9
  clear hset hr0 hr1 hr2 hr3 hr4 hr5 hr6 hr7 hr8
  obtain ⟨lo, hi, Pm, oL, oS, dP, rP, rlo, rhi⟩ := HO'.out.new nw3
  have z9 := t9.size
  have HB9 := b3.turn t9 gO
  have HT9 := bT3.turn t9 gT
  have HR9 := bR3.turn t9 gR
  have oL9 := oL.turn t9 (by intro x h1 h2 e; omega)
  have oS9 := oS.turn t9 (by intro x h1 e; have := rP x h1; omega)
  have PO9 := o3'.setN (v := a.v A c U) (b0' := bx) (b2 := w2.heap.size) ea t9 hr9 (by show OwL _ lo hi (.slice A U.length c) U; rw [hUl]; exact oL9) (by have := g0.tt U HU.out; show totK U ≤ 1048576; omega) (.inr (by omega)) (by omega) rlo (by omega) (Nat.le_refl _)
  have tn9 : New w (((((((((w3.setCell ⟨g, k * 9, none⟩ (.int .i64 a.id)).setCell ⟨g, k * 9 + 1, none⟩ (.bool a.up)).setCell ⟨g, k * 9 + 2, none⟩ (.int .i64 a.ro)).setCell ⟨g, k * 9 + 3, none⟩ (.int .i64 a.ep)).setCell ⟨g, k * 9 + 4, none⟩ (.slice A a.L.length c)).setCell ⟨g, k * 9 + 5, none⟩ (.int .i64 a.su)).setCell ⟨g, k * 9 + 6, none⟩ (.int .i64 a.ma)).setCell ⟨g, k * 9 + 7, none⟩ (.int .i64 a.ot)).setCell ⟨g, k * 9 + 8, none⟩ (.int .i64 a.co)) := nw3.before t9 (by intro i hi e; omega)
  clear hrow hr9 oN t9 b3 bT3 bR3 o3' oL oS nw3
  generalize ((((((((w3.setCell ⟨g, k * 9, none⟩ (.int .i64 a.id)).setCell ⟨g, k * 9 + 1, none⟩ (.bool a.up)).setCell ⟨g, k * 9 + 2, none⟩ (.int .i64 a.ro)).setCell ⟨g, k * 9 + 3, none⟩ (.int .i64 a.ep)).setCell ⟨g, k * 9 + 4, none⟩ (.slice A a.L.length c)).setCell ⟨g, k * 9 + 5, none⟩ (.int .i64 a.su)).setCell ⟨g, k * 9 + 6, none⟩ (.int .i64 a.ma)).setCell ⟨g, k * 9 + 7, none⟩ (.int .i64 a.ot)).setCell ⟨g, k * 9 + 8, none⟩ (.int .i64 a.co) = w9 at *
  have HE : Hid (PrE (Q.setN k (a.v A c U)) (P.setN k (a.v none 0 (a.L.map ekOf)))) := EQ.out.setN (by simp only [NA.v, NdV.r, ekOf_map, HU.out])
  generalize hP1 : Q.setN k (a.v A c U) = P1 at *
  have LM1 : P1.VM.length = P1.nM := by rw [← hP1]; exact LQ.out.lM
  have mM1 : P1.nM ≤ 1048576 := by rw [← hP1]; exact LQ.out.mM
  generalize hcol1 : (fun x => if bA ≤ x ∧ x < w2.heap.size then cq x else if lo ≤ x ∧ x < hi then 1 else 0) = col1 at *
  have col0 : ∀ x, ¬ (bA ≤ x ∧ x < w2.heap.size) → ¬ (lo ≤ x ∧ x < hi) → col1 x = 0 := by
    intro x h1 h2
    rw [← hcol1]
    simp only [if_neg h1, if_neg h2]
  have olne : ∀ x, lo ≤ x → x < hi → ¬ col1 x = 3 := by
    intro x h1 h2
    rw [← hcol1]
    simp only [if_neg (show ¬ (bA ≤ x ∧ x < w2.heap.size) by omega), if_pos (And.intro h1 h2)]
    decide
  have colT : col1 (w.heap.size + 1) = 0 := col0 _ (by omega) (by omega)
  have colR : col1 (w.heap.size + 2) = 0 := col0 _ (by omega) (by omega)
  have hb9 : Hid (Blk w9 w2.heap.size 47 #[.int .i64 P1.sa, .int .i64 P1.si, .int .i64 P1.ho, .int .i64 P1.nx, .slice P1.a1 P1.n1 P1.c1, .slice P1.a2 P1.n2 P1.c2, .slice P1.aN P1.nN P1.cN, .slice P1.aW P1.nW P1.cW, .slice P1.aM P1.nM P1.cM, .slice P1.aS P1.nS P1.cS]) := by
    have e : (#[.int .i64 Q.sa, .int .i64 Q.si, .int .i64 Q.ho, .int .i64 Q.nx, .slice Q.a1 Q.n1 Q.c1, .slice Q.a2 Q.n2 Q.c2, .slice Q.aN Q.nN Q.cN, .slice Q.aW Q.nW Q.cW, .slice Q.aM Q.nM Q.cM, .slice Q.aS Q.nS Q.cS] : Array Value) = #[.int .i64 P1.sa, .int .i64 P1.si, .int .i64 P1.ho, .int .i64 P1.nx, .slice P1.a1 P1.n1 P1.c1, .slice P1.a2 P1.n2 P1.c2, .slice P1.aN P1.nN P1.cN, .slice P1.aW P1.nW P1.cW, .slice P1.aM P1.nM P1.cM, .slice P1.aS P1.nS P1.cS] := by rw [← hP1]; rfl
    show Blk w9 w2.heap.size 47 #[.int .i64 P1.sa, .int .i64 P1.si, .int .i64 P1.ho, .int .i64 P1.nx, .slice P1.a1 P1.n1 P1.c1, .slice P1.a2 P1.n2 P1.c2, .slice P1.aN P1.nN P1.cN, .slice P1.aW P1.nW P1.cW, .slice P1.aM P1.nM P1.cM, .slice P1.aS P1.nS P1.cS]
    rw [← e]; exact HB9
  have HT : Hid (Blk w9 (w.heap.size + 1) 76 #[.int .i64 a.z, .int .i64 a.id, .bool a.up, .int .i64 a.ro, .int .i64 a.ep, .slice A a.L.length c, .int .i64 a.su, .int .i64 a.ma, .int .i64 a.ot, .int .i64 a.co, .slice S a.M.length cs]) := HT9
  have HR : Hid (Blk w9 (w.heap.size + 2) 49 #[.int .i64 0, .slice none 0 0, .int .i64 0, .int .i64 0, .int .i64 0, .int .i64 0, .slice none 0 0, .slice none 0 0, .slice none 0 0, .slice none 0 0, .slice none 0 0, .slice none 0 0]) := HR9
  have LU : Hid (U.length = a.L.length) := hUl
  have FA : Hid (FitK A a.L.length c) := owl_fit oL9
  have OLU : Hid (OwL w9 lo hi (.slice A a.L.length c) U) := oL9
  have NLU : Hid (NlK U) := oL9.nl
  have LM9 : Hid (P1.VM.length = P1.nM) := LM1
  have SO : Hid (SdOw w9 Pm S a.M.length cs Ms) := oS9
  have PO : Hid (PrOw w9 bx w2.heap.size col1 P1) := PO9
  have TN9 : Hid (New w w9) := tn9
  have hlen : a.L.length ≤ 2097152 := by have := g0.ln; omega
  have HC0 : Hid (0 ≤ a.co) := g0.c0
  have HC1 : Hid (a.co ≤ a.L.length) := g0.c1
  have zs9 : w2.heap.size + 1 ≤ w9.heap.size := by omega
  clear hP1 HL HB9 HT9 HR9 hUl oS9 PO9 tn9 oL9 hcol1 LM1 ea LQ EQ HLV g0 z9 HH HO' z3
  go_upto_block 0 with fail
  go_cut [] from 8 to 46 (fun wx => ∃ (Px : PrV) (bz : Nat) (colx : Nat → Nat), Blk wx w2.heap.size 47 #[.int .i64 Px.sa, .int .i64 Px.si, .int .i64 Px.ho, .int .i64 Px.nx, .slice Px.a1 Px.n1 Px.c1, .slice Px.a2 Px.n2 Px.c2, .slice Px.aN Px.nN Px.cN, .slice Px.aW Px.nW Px.cW, .slice Px.aM Px.nM Px.cM, .slice Px.aS Px.nS Px.cS] ∧ Blk wx (w.heap.size + 1) 76 #[.int .i64 a.z, .int .i64 a.id, .bool a.up, .int .i64 a.ro, .int .i64 a.ep, .slice A a.L.length c, .int .i64 a.su, .int .i64 a.ma, .int .i64 a.ot, .int .i64 a.co, .slice S a.M.length cs] ∧ Blk wx (w.heap.size + 2) 49 #[.int .i64 0, .slice none 0 0, .int .i64 0, .int .i64 0, .int .i64 0, .int .i64 0, .slice none 0 0, .slice none 0 0, .slice none 0 0, .slice none 0 0, .slice none 0 0, .slice none 0 0] ∧ PrOw wx bx bz colx Px ∧ OwL wx lo hi (.slice A a.L.length c) U ∧ New w wx ∧ w2.heap.size + 1 ≤ wx.heap.size ∧ w2.heap.size ≤ bz ∧ bz ≤ wx.heap.size ∧ (∀ x, bx ≤ x → x < bz → ¬ colx x = 0 → ¬ x = w2.heap.size ∧ ¬ x = w.heap.size + 2) ∧ PrE Px ((P.setN k (a.v none 0 (a.L.map ekOf))).gM a.M))
  case first =>
    rcases SO.out with ⟨hm0, rfl, hq0, rfl⟩ | ⟨m, gm, hm1, rfl, hq1, hPg, hrm, hom, hbym, hlm, ham⟩
    · have HM0 : Hid (a.M = []) := by unfold Hid; rw [← HM.out, hm0]; rfl
      have HQ : Hid (a.M.length = 0) := hq0
      clear hm0 hq0
      have q10 : w9.cell? ⟨w.heap.size + 1, 10, none⟩ = some (.slice none 0 0) := by have h := HT.out.cells 10; rw [h, ← HQ.out]; rfl
      go_wp2_with fail
      refine wp_loop_rounds 1 ?_
      rw [rounds_succ]
      go_wp2_with fail
      go_meet
      exact ⟨P1, _, _, hb9.out, HT.out, HR.out, PO.out, OLU.out, TN9.out, zs9, Nat.le_refl _, by omega, fun x (h1 : bx ≤ x) (h2 : x < w2.heap.size) (h3 : ¬ col1 x = 0) => (show ¬ x = w2.heap.size ∧ ¬ x = w.heap.size + 2 from ⟨by omega, fun e => h3 (by rw [e]; exact colR)⟩), by rw [HM0.out]; exact (gM_nil _).trans (HE.out.gM [])⟩
    · have HM1 : Hid (a.M = [m.m]) := by unfold Hid; rw [← HM.out, hm1]; rfl
      have HQ : Hid (a.M.length = 1) := hq1
      clear hm1 hq1
      have q10 : w9.cell? ⟨w.heap.size + 1, 10, none⟩ = some (.slice (some ⟨gm, 0, none⟩) 1 cs) := by have h := HT.out.cells 10; rw [h, ← HQ.out]; rfl
      have q8 : w9.cell? ⟨w2.heap.size, 8, none⟩ = some (.slice P1.aM P1.nM P1.cM) := hb9.out.cells 8
      go_wp2_with fail
      refine wp_loop_rounds 2 ?_
      rw [rounds_succ]
      by_cases hfull : P1.nM < 40
      case neg =>
        have hd : decide ((P1.nM : Int) < 40) = false := by simp only [decide_eq_false_iff_not]; omega
        have HF : Hid (40 ≤ P1.nM) := by unfold Hid; omega
        clear hfull
        go_wp2_with fail
        go_meet
        exact ⟨P1, _, _, hb9.out, HT.out, HR.out, PO.out, OLU.out, TN9.out, zs9, Nat.le_refl _, by omega, fun x (h1 : bx ≤ x) (h2 : x < w2.heap.size) (h3 : ¬ col1 x = 0) => (show ¬ x = w2.heap.size ∧ ¬ x = w.heap.size + 2 from ⟨by omega, fun e => h3 (by rw [e]; exact colR)⟩), by rw [HM1.out]; exact (gM_full HF.out [m.m]).trans (HE.out.gM [m.m])⟩
      have hd : decide ((P1.nM : Int) < 40) = true := by simp only [decide_eq_true_eq]; omega
      have HF : Hid (P1.nM < 40) := hfull
      clear hfull
      go_upto_region 8 with fail
      clear q10 q8 hd
      obtain ⟨i0, hi', hz0, hz1, hz2⟩ := info_parts Tryz.infoMq
      have gms : gm < w2.heap.size := by have := rP gm hPg; omega
      have rowne : ∀ x, Pm x → ¬ (Value.slice P1.aM P1.nM P1.cM).ownBlock = some x := by
        intro x hx' e
        rcases PO.out.oQ with ⟨e', -⟩ | ⟨g', e', q⟩
        · rw [e'] at e; simp [Value.ownBlock] at e
        · rw [e'] at e
          simp [Value.ownBlock] at e
          subst e
          have h1 := q.glo.1
          have h2 := rP _ hx'
          have h3 := dP _ hx'
          rw [col0 g' (by omega) h3] at h1
          exact absurd h1 (by decide)
      have ownlo : ∀ x, (Value.slice P1.aM P1.nM P1.cM).ownBlock = some x → bx ≤ x ∧ x < w2.heap.size ∧ col1 x = 3 := by
        intro x e
        rcases PO.out.oQ with ⟨e', -⟩ | ⟨g', e', q⟩
        · rw [e'] at e; simp [Value.ownBlock] at e
        · rw [e'] at e
          simp [Value.ownBlock] at e
          subst e
          exact ⟨q.glo.2.1, q.glo.2.2, q.glo.1⟩
      have hlow : ∀ x, x < w.heap.size → (Value.slice P1.aM P1.nM P1.cM).ownBlock = some x → False := by
        intro x h1 e
        have h2 := ownlo _ e
        by_cases h3 : lo ≤ x ∧ x < hi
        · exact olne x h3.1 h3.2 h2.2.2
        · have h4 := col0 x (by omega) h3
          rw [h4] at h2
          exact absurd h2.2.2 (by decide)
      have neT : ¬ (Value.slice P1.aM P1.nM P1.cM).ownBlock = some (w.heap.size + 1) := fun e => by have := (ownlo _ e).2.2; rw [colT] at this; exact absurd this (by decide)
      have neR : ¬ (Value.slice P1.aM P1.nM P1.cM).ownBlock = some (w.heap.size + 2) := fun e => by have := (ownlo _ e).2.2; rw [colR] at this; exact absurd this (by decide)
      have H10 : Hid (∀ X, Turn (fun x => x = w2.heap.size ∨ (Value.slice P1.aM P1.nM P1.cM).ownBlock = some x) w9 X → X.cell? ⟨w.heap.size + 1, 10, none⟩ = some (.slice (some ⟨gm, 0, none⟩) 1 cs)) := fun X hX => by
        have h := (HT.out.turn hX (by rintro (e | e); omega; exact neT e)).cells 10
        rw [h, ← HQ.out]; rfl
      have hrmX : ∀ X, Turn (fun x => x = w2.heap.size ∨ (Value.slice P1.aM P1.nM P1.cM).ownBlock = some x) w9 X → X.ownsRow 0 120 10 (.slice (some ⟨gm, 0, none⟩) 1 cs) 1 m.cs := fun X hX => row9_turn hrm hX (by intro k hk; simp [Value.ownBlock] at hk; subst hk; rintro (e | e); omega; exact rowne _ hPg e)
      have R0 : Hid (∀ X, Turn (fun x => x = w2.heap.size ∨ (Value.slice P1.aM P1.nM P1.cM).ownBlock = some x) w9 X → X.cell? ⟨gm, 0, none⟩ = some (.int .i64 m.m.kd)) := fun X hX => World.ownsRow.cellAt (hrmX X hX) 0 (by omega)
      have R1 : Hid (∀ X, Turn (fun x => x = w2.heap.size ∨ (Value.slice P1.aM P1.nM P1.cM).ownBlock = some x) w9 X → X.cell? ⟨gm, 1, none⟩ = some (.int .i64 m.m.tgt)) := fun X hX => World.ownsRow.cellAt (hrmX X hX) 1 (by omega)
      have R2 : Hid (∀ X, Turn (fun x => x = w2.heap.size ∨ (Value.slice P1.aM P1.nM P1.cM).ownBlock = some x) w9 X → X.cell? ⟨gm, 2, none⟩ = some (.int .i64 m.m.ep)) := fun X hX => World.ownsRow.cellAt (hrmX X hX) 2 (by omega)
      have R3 : Hid (∀ X, Turn (fun x => x = w2.heap.size ∨ (Value.slice P1.aM P1.nM P1.cM).ownBlock = some x) w9 X → X.cell? ⟨gm, 3, none⟩ = some (.int .i64 m.m.at1)) := fun X hX => World.ownsRow.cellAt (hrmX X hX) 3 (by omega)
      have R4 : Hid (∀ X, Turn (fun x => x = w2.heap.size ∨ (Value.slice P1.aM P1.nM P1.cM).ownBlock = some x) w9 X → X.cell? ⟨gm, 4, none⟩ = some (.int .i64 m.m.pr)) := fun X hX => World.ownsRow.cellAt (hrmX X hX) 4 (by omega)
      have R5 : Hid (∀ X, Turn (fun x => x = w2.heap.size ∨ (Value.slice P1.aM P1.nM P1.cM).ownBlock = some x) w9 X → X.cell? ⟨gm, 5, none⟩ = some (.bool m.m.has)) := fun X hX => World.ownsRow.cellAt (hrmX X hX) 5 (by omega)
      have R6 : Hid (∀ X, Turn (fun x => x = w2.heap.size ∨ (Value.slice P1.aM P1.nM P1.cM).ownBlock = some x) w9 X → X.cell? ⟨gm, 6, none⟩ = some (.int .i64 m.m.e.ep)) := fun X hX => World.ownsRow.cellAt (hrmX X hX) 6 (by omega)
      have R7 : Hid (∀ X, Turn (fun x => x = w2.heap.size ∨ (Value.slice P1.aM P1.nM P1.cM).ownBlock = some x) w9 X → X.cell? ⟨gm, 7, none⟩ = some (.int .i64 m.m.e.ki)) := fun X hX => World.ownsRow.cellAt (hrmX X hX) 7 (by omega)
      have R8 : Hid (∀ X, Turn (fun x => x = w2.heap.size ∨ (Value.slice P1.aM P1.nM P1.cM).ownBlock = some x) w9 X → X.cell? ⟨gm, 8, none⟩ = some (.int .i64 m.m.e.pe)) := fun X hX => World.ownsRow.cellAt (hrmX X hX) 8 (by omega)
      have R9 : Hid (∀ X, Turn (fun x => x = w2.heap.size ∨ (Value.slice P1.aM P1.nM P1.cM).ownBlock = some x) w9 X → X.cell? ⟨gm, 9, none⟩ = some (.slice m.a m.m.e.xs.length m.c)) := fun X hX => World.ownsRow.cellAt (hrmX X hX) 9 (by omega)
      clear hrmX
      have hnone : m.a = none → m.m.e.xs.length = 0 := by
        intro e
        rcases Nat.eq_zero_or_pos m.m.e.xs.length with h0 | h0
        · exact h0
        · obtain ⟨g', e2, -⟩ := hom.2 h0
          rw [e] at e2; cases e2
      have PA := PO.out.recol (b2 := w9.heap.size) (col' := fun x => if x < w2.heap.size then col1 x else 0) (by omega) (fun x _ h2 _ => by simp only [if_pos h2])
      refine hw_start (n := 12) (S := fun X => Turn (fun x => x = w2.heap.size ∨ (Value.slice P1.aM P1.nM P1.cM).ownBlock = some x) w9 X) rfl (by kernel_rfl) ((New.refl w9).drew.turn) (fun hH => ?_)
      have nv0 : New w9 w9.drew := (New.refl w9).drew
      generalize w9.drew = v0 at *
      refine' hw_t 0 (some 36) _ rfl rfl nv0.turn ?hy1 ?rest1
      case hy1 =>
        intro X hX
        go_simp
        try rfl
      simp only [Act.put, pA9, pB9, pC9]
      refine' hw_t 2 (some 38) _ rfl rfl nv0.turn ?hy2 ?rest2
      case hy2 =>
        intro X hX
        go_simp
        try rfl
      simp only [Act.put, pA9, pB9, pC9]
      refine' hw_t 3 (some 39) _ rfl rfl nv0.turn ?hy3 ?rest3
      case hy3 =>
        intro X hX
        have q10 := H10.out X hX
        go_simp
        try rfl
      simp only [Act.put, pA9, pB9, pC9]
      refine' hw_t 4 (some 40) _ rfl rfl nv0.turn ?hy4 ?rest4
      case hy4 =>
        intro X hX
        go_simp
        try rfl
      simp only [Act.put, pA9, pB9, pC9]
      refine' hw_t 5 (some 41) _ rfl rfl nv0.turn ?hy5 ?rest5
      case hy5 =>
        intro X hX
        go_simp
        try rfl
      simp only [Act.put, pA9, pB9, pC9]
      refine' hw_t 6 (some 42) _ rfl rfl nv0.turn ?hy6 ?rest6
      case hy6 =>
        intro X hX
        have r0 := R0.out X hX
        have r1 := R1.out X hX
        have r2 := R2.out X hX
        have r3 := R3.out X hX
        have r4 := R4.out X hX
        have r5 := R5.out X hX
        have r6 := R6.out X hX
        have r7 := R7.out X hX
        have r8 := R8.out X hX
        have r9 := R9.out X hX
        go_simp
        try rfl
      simp only [Act.put, pA9, pB9, pC9]
      refine wpAnyH_ready (rs := [1, 7]) (by kernel_rfl) (by simp) (hw_step 1 (some 37) rfl rfl (by rfl) (fun K hK => ?o1) (hw_step 7 (some 43) rfl rfl (by rfl) (fun K hK => ?o2) (by intro j hj; cases hj)))
      case' o1 =>
        have g8 : v0.cell? ⟨w2.heap.size, 8, none⟩ = some (.slice P1.aM P1.nM P1.cM) := (hb9.out.new nv0).cells 8
        go_simp
        refine hK.out _ _ nv0.turn (fun _ => ?_)
        simp only [Act.put, pA9, pB9, pC9]
        clear g8
        refine hw_call 7 (some 43) rfl rfl (by kernel_rfl) (by rfl) (fun K hK => ?_)
      all_goals
        go_simp
        refine (sMl16b m.m m.a m.c _ ((hom.bs hbym).new nv0) (fun e => hnone e) hlm).mono ?_
        rintro e v1 ⟨a', c', rfl, hOB, hn1⟩
        have nv1 := nv0.trans hn1
        refine hK.out _ _ nv1.turn (fun _ => ?_)
        simp only [Act.put, pA9, pB9, pC9]
        first
          | refine hw_call 8 (some 44) rfl rfl (by decide +kernel) (by rfl) (fun K hK => ?_)
          | (refine wpAnyH_ready (rs := [1, 8]) (by kernel_rfl) (by simp) (hw_step 1 (some 37) rfl rfl (by rfl) (fun K hK => ?o3) (hw_step 8 (some 44) rfl rfl (by rfl) (fun K hK => ?o4) (by intro j hj; cases hj)))
             case' o3 =>
               have g8 : v1.cell? ⟨w2.heap.size, 8, none⟩ = some (.slice P1.aM P1.nM P1.cM) := (hb9.out.new nv1).cells 8
               go_simp
               refine hK.out _ _ nv1.turn (fun _ => ?_)
               simp only [Act.put, pA9, pB9, pC9]
               clear g8
               refine hw_call 8 (some 44) rfl rfl (by kernel_rfl) (by rfl) (fun K hK => ?_))
        all_goals
          go_simp
          have nB : New v1 (v1.alloc (.cells #[.int .i64 m.m.kd, .int .i64 m.m.tgt, .int .i64 m.m.ep, .int .i64 m.m.at1, .int .i64 m.m.pr, .bool m.m.has, .int .i64 m.m.e.ep, .int .i64 m.m.e.ki, .int .i64 m.m.e.pe, .slice a' m.m.e.xs.length c'] 120)) := (New.refl v1).alloc _
          have bB := Blk.mk v1 v1.heap.size 120 #[.int .i64 m.m.kd, .int .i64 m.m.tgt, .int .i64 m.m.ep, .int .i64 m.m.at1, .int .i64 m.m.pr, .bool m.m.has, .int .i64 m.m.e.ep, .int .i64 m.m.e.ki, .int .i64 m.m.e.pe, .slice a' m.m.e.xs.length c'] rfl
          have nv2 := nv1.trans nB
          refine hK.out _ _ nv2.turn (fun _ => ?_)
          simp only [Act.put, pA9, pB9, pC9]
          have zv1 := nv1.size
          generalize hLB : v1.heap.size = LB at *
          generalize v1.alloc (.cells #[.int .i64 m.m.kd, .int .i64 m.m.tgt, .int .i64 m.m.ep, .int .i64 m.m.at1, .int .i64 m.m.pr, .bool m.m.has, .int .i64 m.m.e.ep, .int .i64 m.m.e.ki, .int .i64 m.m.e.pe, .slice a' m.m.e.xs.length c'] 120) = v2 at *
          have hOB2 := hOB.new nB
          clear nB
          try
            refine hw_call 1 (some 37) rfl rfl (by decide +kernel) (by rfl) (fun K hK => ?_)
            have g8 : v2.cell? ⟨w2.heap.size, 8, none⟩ = some (.slice P1.aM P1.nM P1.cM) := (hb9.out.new nv2).cells 8
            go_simp
            refine hK.out _ _ nv2.turn (fun _ => ?_)
            simp only [Act.put, pA9, pB9, pC9]
            clear g8
          refine hw_call 9 (some 45) rfl rfl (by kernel_rfl) (by rfl) (fun K hK => ?_)
          obtain ⟨a2, c2, e2, -, -, hd2, hv2⟩ := hOB2.bs hbym
          simp only [Value.slice.injEq] at e2
          obtain ⟨rfl, -, rfl⟩ := e2
          have PB := (PA.new nv2).recol (b2 := v2.heap.size) (col' := fun x => if x < w2.heap.size then col1 x else 0) nv2.size (fun x _ h2 h3 => rfl)
          refine wp_apV _ (.tmp 37) (.tmp 44) rfl 0 10 96 _ Tryz.underlying44 hi' hz0 hz1 hz2 rfl (by omega) (by omega) _ P1.nM (cellsMq P1.VM) rfl PB.rowM LB (MlV.mk m.m a' c').cs rfl (mlv_one _) rfl (fun j u hu => by rw [bB.cells j, ← hu]; simp [MlV.cs]) (by omega) (Nat.zero_le _) ?_
          intro u' v3 r3 hg3 hu3
          have tg := grown_turn hg3
          have zv2' := nv2.size
          have zv0' := nv0.size
          have hblk : ∀ x, (MlV.mk m.m a' c').a = some x → bx ≤ x.block ∧ x.block < v2.heap.size ∧ (fun x => if x < w2.heap.size then col1 x else 0) x.block = 0 := by
            intro x hx
            rcases hd2 with ⟨e3, -⟩ | ⟨g3, e3, h3, h4⟩
            · rw [show (MlV.mk m.m a' c').a = a' from rfl, e3] at hx; cases hx
            · rw [show (MlV.mk m.m a' c').a = a' from rfl, e3] at hx
              cases hx
              exact ⟨by show bx ≤ g3; omega, h4, by show (if g3 < w2.heap.size then col1 g3 else 0) = 0; rw [if_neg (by omega)]⟩
          obtain ⟨aM', cM', col2, rfl, P2o, hc4⟩ := PB.addM (v := MlV.mk m.m a' c') LM9.out (Nat.le_refl _) hg3 r3 hu3 hv2 hbym hlm hblk (by omega)
          have tw3 : Turn (fun x => x = w2.heap.size ∨ (Value.slice P1.aM P1.nM P1.cM).ownBlock = some x) w9 v3 := Turn.trans nv2.turn tg (fun x _ h => .inr h)
          refine hK.out _ _ tw3 (fun _ => ?_)
          simp only [Act.put, pA9, pB9, pC9]
          refine hw_take 10 (some 46) (.pointer (some ⟨w2.heap.size, 8, none⟩)) rfl rfl (by kernel_rfl) (by kernel_rfl) (by kernel_rfl) (fun _ _ _ h => h) (by rfl) tw3 (fun X hX => ?_) ?_
          · go_simp
            try rfl
          simp only [Act.put, pA9, pB9, pC9]
          refine hw_call 11 none rfl rfl (by kernel_rfl) (by rfl) (fun K hK => ?_)
          have bO3 := ((hb9.out.new nv2).turn tg (fun e => by have := (ownlo _ e).2.1; omega))
          have g8 : v3.cell? ⟨w2.heap.size, 8, none⟩ = some (.slice P1.aM P1.nM P1.cM) := bO3.cells 8
          have fB := bO3.frees
          go_simp
          have t8 : Turn (fun x => x = w2.heap.size) v3 (v3.setCell ⟨w2.heap.size, 8, none⟩ (.slice aM' (P1.nM + 1) cM')) := (Turn.refl (fun x => x = w2.heap.size) v3).set (p := ⟨w2.heap.size, 8, none⟩) rfl _
          have tw4 : Turn (fun x => x = w2.heap.size ∨ (Value.slice P1.aM P1.nM P1.cM).ownBlock = some x) w9 (v3.setCell ⟨w2.heap.size, 8, none⟩ (.slice aM' (P1.nM + 1) cM')) := Turn.trans tw3 t8 (fun x _ h => .inl h)
          refine hK.out undef _ tw4 (fun _ => ?_)
          try simp only [Act.put, pA9, pB9, pC9]
          refine wpAnyH_done (by kernel_rfl) ?_ _
          have s8 := t8.size
          have s3 := tg.size
          have b8 : Blk (v3.setCell ⟨w2.heap.size, 8, none⟩ (.slice aM' (P1.nM + 1) cM')) w2.heap.size 47 #[.int .i64 (P1.addM aM' cM' (MlV.mk m.m a' c')).sa, .int .i64 (P1.addM aM' cM' (MlV.mk m.m a' c')).si, .int .i64 (P1.addM aM' cM' (MlV.mk m.m a' c')).ho, .int .i64 (P1.addM aM' cM' (MlV.mk m.m a' c')).nx, .slice (P1.addM aM' cM' (MlV.mk m.m a' c')).a1 (P1.addM aM' cM' (MlV.mk m.m a' c')).n1 (P1.addM aM' cM' (MlV.mk m.m a' c')).c1, .slice (P1.addM aM' cM' (MlV.mk m.m a' c')).a2 (P1.addM aM' cM' (MlV.mk m.m a' c')).n2 (P1.addM aM' cM' (MlV.mk m.m a' c')).c2, .slice (P1.addM aM' cM' (MlV.mk m.m a' c')).aN (P1.addM aM' cM' (MlV.mk m.m a' c')).nN (P1.addM aM' cM' (MlV.mk m.m a' c')).cN, .slice (P1.addM aM' cM' (MlV.mk m.m a' c')).aW (P1.addM aM' cM' (MlV.mk m.m a' c')).nW (P1.addM aM' cM' (MlV.mk m.m a' c')).cW, .slice (P1.addM aM' cM' (MlV.mk m.m a' c')).aM (P1.addM aM' cM' (MlV.mk m.m a' c')).nM (P1.addM aM' cM' (MlV.mk m.m a' c')).cM, .slice (P1.addM aM' cM' (MlV.mk m.m a' c')).aS (P1.addM aM' cM' (MlV.mk m.m a' c')).nS (P1.addM aM' cM' (MlV.mk m.m a' c')).cS] := bO3.set 8 (.slice aM' (P1.nM + 1) cM')
          have blkhi : ∀ y, (MlV.mk m.m a' c').a = some y → w2.heap.size + 1 ≤ y.block := by
            intro y hy
            rcases hd2 with ⟨e3, -⟩ | ⟨g3, e3, h3, -⟩
            · rw [show (MlV.mk m.m a' c').a = a' from rfl, e3] at hy; cases hy
            · rw [show (MlV.mk m.m a' c').a = a' from rfl, e3] at hy
              cases hy
              have := nv0.size
              show w2.heap.size + 1 ≤ g3
              omega
          have zv2 := nv2.size
          have cO2 : col2 w2.heap.size = 0 := hc4 _ (by omega) (by simp) (fun y hy e => by have := blkhi y hy; omega)
          have cR2 : col2 (w.heap.size + 2) = 0 := hc4 _ (by omega) (by simp only [if_pos (show w.heap.size + 2 < w2.heap.size by omega)]; exact colR) (fun y hy e => by have := blkhi y hy; omega)
          have P3o := P2o.turnZ t8 (by rintro x h1 h2 h3 rfl; exact h3 cO2)
          have ht3 := HT.out.turn tw4 (by rintro (e | e); omega; exact neT e)
          have hr3' := HR.out.turn tw4 (by rintro (e | e); omega; exact neR e)
          have tF : New w (v3.setCell ⟨w2.heap.size, 8, none⟩ (.slice aM' (P1.nM + 1) cM')) := TN9.out.before tw4 (by rintro x hx' (e | e); omega; have := (ownlo _ e).1; exact hlow x hx' e)
          have ol3 := OLU.out.turn tw4 (by
            rintro x h1 h2 (e | e)
            · omega
            · have h3 := ownlo _ e
              exact olne x h1 h2 h3.2.2)
          have q103 : ((v3.setCell ⟨w2.heap.size, 8, none⟩ (.slice aM' (P1.nM + 1) cM'))).cell? ⟨w.heap.size + 1, 10, none⟩ = some (.slice (some ⟨gm, 0, none⟩) 1 cs) := by have h := ht3.cells 10; rw [h, ← HQ.out]; rfl
          have szF : w2.heap.size + 1 ≤ ((v3.setCell ⟨w2.heap.size, 8, none⟩ (.slice aM' (P1.nM + 1) cM'))).heap.size := by omega
          clear bO3 g8 fB r3 hg3 hu3 tw3 tw4 tg PB bB hOB hOB2 hv2 hd2
          generalize (v3.setCell ⟨w2.heap.size, 8, none⟩ (.slice aM' (P1.nM + 1) cM')) = w4 at *
          go_wp2_with fail
          rw [rounds_succ]
          go_wp2_with fail
          go_meet
          exact ⟨(P1.addM aM' cM' (MlV.mk m.m a' c')), _, _, b8, ht3, hr3', P3o, ol3, tF, szF, by omega, s8, fun x (h1 : bx ≤ x) (h2 : x < v3.heap.size) (h3 : ¬ col2 x = 0) => (show ¬ x = w2.heap.size ∧ ¬ x = w.heap.size + 2 from ⟨fun e => h3 (by rw [e]; exact cO2), fun e => h3 (by rw [e]; exact cR2)⟩), by rw [HM1.out]; exact (gM_one HF.out aM' cM' (MlV.mk m.m a' c')).trans (HE.out.gM [m.m])⟩
  case rest =>
    obtain ⟨Px, bz, colx, bO_, bT_, bR_, PO_, OL_, NW_, sz_, zb1_, zb_, CZ_, eM⟩ := hcut
    have q9 : wc.cell? ⟨w2.heap.size, 9, none⟩ = some (.slice Px.aS Px.nS Px.cS) := bO_.cells 9
    have q5 : wc.cell? ⟨w.heap.size + 1, 5, none⟩ = some (.slice A a.L.length c) := bT_.cells 5
    have qc : wc.cell? ⟨w.heap.size + 1, 9, none⟩ = some (.int .i64 a.co) := bT_.cells 9
    have fO := bO_.frees
    have EM : Hid _ := eM
    clear eM
    by_cases hlt : (Px.nS : Int) < a.co
    · obtain ⟨kk, hkk⟩ : ∃ kk : Nat, a.co = kk := ⟨a.co.toNat, by have := HC0.out; omega⟩
      have HKK : Hid (a.co = kk) := hkk
      have hkn : kk ≤ a.L.length := by have := HC1.out; omega
      obtain ⟨gl, hA⟩ : ∃ gl, A = some ⟨gl, 0, none⟩ := by
        rcases FA.out.2 with ⟨-, e, -⟩ | h
        · omega
        · exact h
      have hnc := FA.out.1
      have HLT : Hid ((Px.nS : Int) < a.co) := hlt
      have hd : decide (Px.nS < kk) = true := by simp only [decide_eq_true_eq]; omega
      have k0 : (0 : Int) ≤ (kk : Int) := by omega
      have k1 : (kk : Int) ≤ (c : Int) := by omega
      have k2 : ¬ (kk : Int) < 0 := by omega
      rw [hkk] at qc
      rw [hA] at q5
      clear hkk hlt
      go_wp2_with fail
      refine (sEnt16 (some ⟨gl, 0, none⟩) kk c (U.take kk) _ (lg_take16 (hA ▸ OL_.lg.1) kk) (nlk_take16 NLU.out kk) (by rw [List.length_take, LU.out]; omega) (by omega)).mono ?_
      rintro e wt ⟨A', c', V', rfl, eV, oV, hnt⟩
      have bOt := bO_.new hnt
      have cOt := bOt.cells
      have fOt := bOt.frees
      clear q9 q5 qc fO
      go_upto_region 11 with fail
      have t9' : Turn (fun x => x = w2.heap.size) wt (wt.setCell ⟨w2.heap.size, 9, none⟩ (.slice A' kk c')) := (Turn.refl (fun x => x = w2.heap.size) wt).set (p := ⟨w2.heap.size, 9, none⟩) rfl _
      have b9 : Blk (wt.setCell ⟨w2.heap.size, 9, none⟩ (.slice A' kk c')) w2.heap.size 47 #[.int .i64 (Px.setS A' kk c' V').sa, .int .i64 (Px.setS A' kk c' V').si, .int .i64 (Px.setS A' kk c' V').ho, .int .i64 (Px.setS A' kk c' V').nx, .slice (Px.setS A' kk c' V').a1 (Px.setS A' kk c' V').n1 (Px.setS A' kk c' V').c1, .slice (Px.setS A' kk c' V').a2 (Px.setS A' kk c' V').n2 (Px.setS A' kk c' V').c2, .slice (Px.setS A' kk c' V').aN (Px.setS A' kk c' V').nN (Px.setS A' kk c' V').cN, .slice (Px.setS A' kk c' V').aW (Px.setS A' kk c' V').nW (Px.setS A' kk c' V').cW, .slice (Px.setS A' kk c' V').aM (Px.setS A' kk c' V').nM (Px.setS A' kk c' V').cM, .slice (Px.setS A' kk c' V').aS (Px.setS A' kk c' V').nS (Px.setS A' kk c' V').cS] := bOt.set 9 (.slice A' kk c')
      have zt := hnt.size
      have zt9 := t9'.size
      have PF := ((PO_.new hnt).turnZ t9' (fun x h1 h2 h3 e => (CZ_ x h1 h2 h3).1 e)).setS (a := A') (n := kk) (c := c') (U := V') (lo := wc.heap.size) (hi := wt.heap.size) (b2 := (wt.setCell ⟨w2.heap.size, 9, none⟩ (.slice A' kk c')).heap.size) (oV.turn t9' (by intro x h1 h2 e; omega)) zb_ zt9 (by omega) (by omega)
      have bRt := (bR_.new hnt).turn t9' (by omega)
      have NF := (NW_.trans hnt).before t9' (by intro i hi e; omega)
      have kc : ((kk : Int)).toNat = kk := by omega
      have eF : PrE (Px.setS A' kk c' V') (Px.gS a.co (U.map EkV.r)) := by
        have e9 := gS_yes (P := Px) (co := (kk : Int)) (HKK.out ▸ HLT.out) (L := U.map EkV.r) (U := V') (by rw [eV, List.map_take, kc]) A' c'
        rw [kc] at e9
        rw [HKK.out]
        exact e9
      have eG := eF.trans (EM.out.gS a.co (U.map EkV.r))
      rw [HU.out] at eG
      have zF : wt.heap.size ≤ (wt.setCell ⟨w2.heap.size, 9, none⟩ (.slice A' kk c')).heap.size := zt9
      clear cOt fOt bOt t9' k0 k1 k2 hd hkn hA hnc eF
      generalize wt.setCell ⟨w2.heap.size, 9, none⟩ (.slice A' kk c') = wf at *
      generalize Px.setS A' kk c' V' = R at *
      have EG : Hid _ := eG
      clear eG
      have cO := b9.cells
      have c1 := bRt.cells
      have f1 := bRt.frees
      go_wp2
      refine bodyPost_ret (v := .agg #[.int .i64 0, .slice none 0 0, .int .i64 R.sa, .int .i64 R.si, .int .i64 R.ho, .int .i64 R.nx, .slice R.a1 R.n1 R.c1, .slice R.a2 R.n2 R.c2, .slice R.aN R.nN R.cN, .slice R.aW R.nW R.cW, .slice R.aM R.nM R.cM, .slice R.aS R.nS R.cS]) (by simp [results, Tryz.results28, go_sem, c1]) rfl ?_
      first
      | exact ⟨0, R, _, rfl, .inr ⟨HZ.out, rfl, EG.out⟩, fin12z PF (by omega) (by intro x h1 h2 h3; by_cases h4 : x < bz; (simp only [if_pos h4] at h3; exact (CZ_ x h1 h4 h3).2); omega) _ _ _ _ _ _ _ _ _ _ _ _ , new12 NF (by omega) _ _ _ _ _ _ _ _ _ _ _ _ ⟩
      | exact ⟨0, R, rfl, .inr ⟨HZ.out, rfl, EG.out⟩, ⟨_, fin12z PF (by omega) (by intro x h1 h2 h3; by_cases h4 : x < bz; (simp only [if_pos h4] at h3; exact (CZ_ x h1 h4 h3).2); omega) _ _ _ _ _ _ _ _ _ _ _ _ ⟩, new12 NF (by omega) _ _ _ _ _ _ _ _ _ _ _ _ ⟩
    · have HLT : Hid (¬ (Px.nS : Int) < a.co) := hlt
      have hd : decide ((Px.nS : Int) < a.co) = false := by simp only [decide_eq_false_iff_not]; exact hlt
      clear hlt
      go_upto_region 11 with fail
      clear q9 q5 qc fO
      have eF := (gS_no HLT.out (U.map EkV.r)).trans (EM.out.gS a.co (U.map EkV.r))
      rw [HU.out] at eF
      have EG : Hid _ := eF
      clear eF hd
      have cO := bO_.cells
      have c1 := bR_.cells
      have f1 := bR_.frees
      go_wp2
      refine bodyPost_ret (v := .agg #[.int .i64 0, .slice none 0 0, .int .i64 Px.sa, .int .i64 Px.si, .int .i64 Px.ho, .int .i64 Px.nx, .slice Px.a1 Px.n1 Px.c1, .slice Px.a2 Px.n2 Px.c2, .slice Px.aN Px.nN Px.cN, .slice Px.aW Px.nW Px.cW, .slice Px.aM Px.nM Px.cM, .slice Px.aS Px.nS Px.cS]) (by simp [results, Tryz.results28, go_sem, c1]) rfl ?_
      first
      | exact ⟨0, Px, _, rfl, .inr ⟨HZ.out, rfl, EG.out⟩, fin12z PO_ (by omega) (fun x h1 h2 h3 => (CZ_ x h1 h2 h3).2) _ _ _ _ _ _ _ _ _ _ _ _ , new12 NW_ (by omega) _ _ _ _ _ _ _ _ _ _ _ _ ⟩
      | exact ⟨0, Px, rfl, .inr ⟨HZ.out, rfl, EG.out⟩, ⟨_, fin12z PO_ (by omega) (fun x h1 h2 h3 => (CZ_ x h1 h2 h3).2) _ _ _ _ _ _ _ _ _ _ _ _ ⟩, new12 NW_ (by omega) _ _ _ _ _ _ _ _ _ _ _ _ ⟩

end Go.Proofs.YtdbnmkffinhdjaaGreat
