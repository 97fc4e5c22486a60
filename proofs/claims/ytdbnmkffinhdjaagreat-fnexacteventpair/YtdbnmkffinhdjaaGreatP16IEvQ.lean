/- What is proved here: what EventPair answers, for every pair of at most 1048576 things each and every event. -/
import Derived.Test.YtdbnmkffinhdjaaGreatLV33
import Derived.Test.YtdbnmkffinhdjaaGreatLV28
import Derived.Test.YtdbnmkffinhdjaaGreatLV5
namespace Go.Proofs.YtdbnmkffinhdjaaGreat
open Go.ChangeShapes Go.WideShapes Go.ChangeAt Go.RowKit Go.Deep Go.Sort
set_option linter.unusedVariables false
set_option linter.unusedSimpArgs false
set_option maxRecDepth 100000
set_option maxHeartbeats 25600000

/-- As NfC, where the event is no input. -/
def NfE (F : Nat) (k : Int) (ext : List Value) (E : World → Prop) (v : NdV) (a : NA) : Prop := (¬ k = 2 → NfC F ext E v a) ∧ (k = 2 → a.z = 1)
theorem NfE.alike {F : Nat} {k : Int} {ext : List Value} {E : World → Prop} {v u : NdV} {a : NA} (h : NfE F k ext E v a) (e : v.r = u.r) : NfE F k ext E u a := ⟨fun hk => (h.1 hk).alike e, h.2⟩

theorem tell16 (B k : Nat) (P : PrV) (pe az ct : Int) (ke : Bool) (dA : Option Addr) (dn dc : Nat) (ek ep : Int) (eA : Option Addr) (en ec : Nat) (yA : Option Addr) (yn yc : Nat) (a : NA) (v : NdV) (E : World → Prop) (b0 b1 : Nat) (col : Nat → Nat) (w : World) (hb : Blk w B 86 (pcCs P (k : Int) pe az ct ke dA dn dc ek ep eA en ec yA yn yc)) (ho : PrOw w b0 b1 col P) (hl : PrL P) (hB : B < b0) (h01 : b0 ≤ b1) (hs : b1 ≤ w.heap.size) (hv : P.VN[k]? = some v) (hG : a.z = 0 → a.Good) (hF : NfE 81 ek [.agg #[.int .i64 ek, .int .i64 ep, .slice eA en ec]] E v a) (hE : ∀ X, New w X → E X) :
    Calls Tryz.prog 37 #[.pointer (some ⟨B, 0, none⟩)] w fun e w' => ∃ R z col', e = .returned (.int .i64 z) ∧ Blk w' B 86 (pcCs R (k : Int) pe az ct ke dA dn dc ek ep eA en ec yA yn yc) ∧ PrOw w' b0 w'.heap.size col' R ∧ Turn (fun x => x = B ∨ b0 ≤ x) w w' ∧ GoO P k a z R := by
  have HB : Hid (Blk w B 86 (pcCs P (k : Int) pe az ct ke dA dn dc ek ep eA en ec yA yn yc)) := hb
  have HO : Hid (PrOw w b0 b1 col P) := ho
  have HL : Hid (PrL P) := hl
  have HG : Hid (a.z = 0 → a.Good) := hG
  have HF : Hid (NfE 81 ek [.agg #[.int .i64 ek, .int .i64 ep, .slice eA en ec]] E v a) := hF
  have HE : Hid (∀ X, New w X → E X) := hE
  have HV : Hid (P.VN[k]? = some v) := hv
  have hkN : k < P.nN := by rw [← hl.lN]; exact (List.getElem?_eq_some_iff.1 hv).1
  clear hb ho hl hG hF hE hv
  go_enter Tryz.func37, Tryz.ntmps37
  have c16 : w.cell? ⟨B, 16, none⟩ = some (.int .i64 ek) := HB.out.cells 16
  by_cases hk2 : ek = 2
  case pos =>
    have hkb : (ek == 2) = true := by simp [hk2]
    have hz := HF.out.2 hk2
    have HK2 : Hid (a.z = 1) := hz
    clear hz hk2
    go_wp2
    go_ret
    exact ⟨P, 1, col, rfl, HB.out, HO.out.up (by omega), Turn.refl _ _, .inl ⟨by rw [HK2.out]; decide, HK2.out.symm⟩⟩
  have hkb : (ek == 2) = false := by simp [hk2]
  have HF1 : Hid (NfC 81 [.agg #[.int .i64 ek, .int .i64 ep, .slice eA en ec]] E v a) := HF.out.1 hk2
  clear hk2 HF
  go_upto_region 3 with fail
  clear c16 hkb
  refine hw_start (n := 14) (S := fun X => X.cell? ⟨B, 10, none⟩ = some (.int .i64 (k : Int)) ∧ X.cell? ⟨B, 16, none⟩ = some (.int .i64 ek) ∧ X.cell? ⟨B, 17, none⟩ = some (.int .i64 ep) ∧ X.cell? ⟨B, 18, none⟩ = some (.slice eA en ec)) rfl (by kernel_rfl) (⟨(HB.out.new (New.refl w).drew).cells 10, (HB.out.new (New.refl w).drew).cells 16, (HB.out.new (New.refl w).drew).cells 17, (HB.out.new (New.refl w).drew).cells 18⟩) (fun hH => ?_)
  have nv0 : New w w.drew := (New.refl w).drew
  generalize w.drew = v0 at *
  refine' hw_t 0 (some 9) _ rfl rfl ⟨(HB.out.new nv0).cells 10, (HB.out.new nv0).cells 16, (HB.out.new nv0).cells 17, (HB.out.new nv0).cells 18⟩ ?hy1 ?rest1
  case hy1 =>
    intro X hX
    go_simp
    try rfl
  simp only [Act.put, pA9, pB9, pC9]
  refine' hw_t 1 (some 10) _ rfl rfl ⟨(HB.out.new nv0).cells 10, (HB.out.new nv0).cells 16, (HB.out.new nv0).cells 17, (HB.out.new nv0).cells 18⟩ ?hy2 ?rest2
  case hy2 =>
    intro X hX
    go_simp
    try rfl
  simp only [Act.put, pA9, pB9, pC9]
  refine' hw_t 2 (some 11) _ rfl rfl ⟨(HB.out.new nv0).cells 10, (HB.out.new nv0).cells 16, (HB.out.new nv0).cells 17, (HB.out.new nv0).cells 18⟩ ?hy3 ?rest3
  case hy3 =>
    intro X hX
    go_simp
    try rfl
  simp only [Act.put, pA9, pB9, pC9]
  refine' hw_t 3 (some 12) _ rfl rfl ⟨(HB.out.new nv0).cells 10, (HB.out.new nv0).cells 16, (HB.out.new nv0).cells 17, (HB.out.new nv0).cells 18⟩ ?hy4 ?rest4
  case hy4 =>
    intro X hX
    go_simp
    try rfl
  simp only [Act.put, pA9, pB9, pC9]
  refine' hw_t 4 (some 13) _ rfl rfl ⟨(HB.out.new nv0).cells 10, (HB.out.new nv0).cells 16, (HB.out.new nv0).cells 17, (HB.out.new nv0).cells 18⟩ ?hy5 ?rest5
  case hy5 =>
    intro X hX
    obtain ⟨q10, q16, q17, q18⟩ := hX
    go_simp
    try rfl
  simp only [Act.put, pA9, pB9, pC9]
  refine' hw_t 5 (some 14) _ rfl rfl ⟨(HB.out.new nv0).cells 10, (HB.out.new nv0).cells 16, (HB.out.new nv0).cells 17, (HB.out.new nv0).cells 18⟩ ?hy6 ?rest6
  case hy6 =>
    intro X hX
    go_simp
    try rfl
  simp only [Act.put, pA9, pB9, pC9]
  refine' hw_t 7 (some 16) _ rfl rfl ⟨(HB.out.new nv0).cells 10, (HB.out.new nv0).cells 16, (HB.out.new nv0).cells 17, (HB.out.new nv0).cells 18⟩ ?hy7 ?rest7
  case hy7 =>
    intro X hX
    go_simp
    try rfl
  simp only [Act.put, pA9, pB9, pC9]
  refine' hw_t 8 (some 17) _ rfl rfl ⟨(HB.out.new nv0).cells 10, (HB.out.new nv0).cells 16, (HB.out.new nv0).cells 17, (HB.out.new nv0).cells 18⟩ ?hy8 ?rest8
  case hy8 =>
    intro X hX
    go_simp
    try rfl
  simp only [Act.put, pA9, pB9, pC9]
  refine' hw_t 9 (some 18) _ rfl rfl ⟨(HB.out.new nv0).cells 10, (HB.out.new nv0).cells 16, (HB.out.new nv0).cells 17, (HB.out.new nv0).cells 18⟩ ?hy9 ?rest9
  case hy9 =>
    intro X hX
    go_simp
    try rfl
  simp only [Act.put, pA9, pB9, pC9]
  refine' hw_t 10 (some 19) _ rfl rfl ⟨(HB.out.new nv0).cells 10, (HB.out.new nv0).cells 16, (HB.out.new nv0).cells 17, (HB.out.new nv0).cells 18⟩ ?hy10 ?rest10
  case hy10 =>
    intro X hX
    obtain ⟨q10, q16, q17, q18⟩ := hX
    go_simp
    try rfl
  simp only [Act.put, pA9, pB9, pC9]
  refine hw_call 6 (some 15) rfl rfl (by kernel_rfl) (by rfl) (fun K hK => ?_)
  go_simp
  obtain ⟨g, ea, hcs, lgv, nlv, fiv⟩ := (HO.out.new nv0).node HV.out HL.out.lN
  refine (own16 B g k P v pe az ct ke dA dn dc ek ep eA en ec yA yn yc _ (HB.out.new nv0) ea hcs hkN).mono ?_
  rintro e v1 ⟨rfl, hn1⟩
  have nv1 := nv0.trans hn1
  refine hK.out _ _ ⟨(HB.out.new nv1).cells 10, (HB.out.new nv1).cells 16, (HB.out.new nv1).cells 17, (HB.out.new nv1).cells 18⟩ (fun _ => ?_)
  simp only [Act.put, pA9, pB9, pC9]
  refine hw_call 11 (some 20) rfl rfl (by kernel_rfl) (by rfl) (fun K hK => ?_)
  go_simp
  refine (HF1.out v.A v.c v.V v1 (lgv.new hn1) nlv fiv rfl (HE.out _ nv1)).mono ?_
  rintro e v2 ⟨A, c, U, S, cs, Ms, rfl, hU, hM, hO, hn2⟩
  have nv2 := nv1.trans hn2
  refine hK.out _ _ ⟨(HB.out.new nv2).cells 10, (HB.out.new nv2).cells 16, (HB.out.new nv2).cells 17, (HB.out.new nv2).cells 18⟩ (fun _ => ?_)
  simp only [Act.put, pA9, pB9, pC9]
  refine hw_call 12 (some 21) rfl rfl (by kernel_rfl) (by rfl) (fun K hK => ?_)
  go_simp
  refine (goOn16 B k P (k : Int) pe az ct ke dA dn dc ek ep eA en ec yA yn yc a A S c cs U Ms b0 b1 v1.heap.size v2.heap.size col v2 (HB.out.new nv2) (HO.out.new nv2) HL.out hkN hB h01 (Nat.le_refl _) (Nat.le_trans hs nv1.size) hn2.size hO hU hM HG.out).mono ?_
  rintro e v3 ⟨R, z, col', rfl, b3, o3, t3, g3⟩
  refine hK.out _ _ ⟨b3.cells 10, b3.cells 16, b3.cells 17, b3.cells 18⟩ (fun _ => ?_)
  simp only [Act.put, pA9, pB9, pC9]
  refine' hw_t 13 (some 2) _ rfl rfl ⟨b3.cells 10, b3.cells 16, b3.cells 17, b3.cells 18⟩ ?hy11 ?rest11
  case hy11 =>
    intro X hX
    go_simp
    try rfl
  simp only [Act.put, pA9, pB9, pC9]
  refine wpAnyH_done (by kernel_rfl) ?_ _
  go_wp2
  go_ret
  exact ⟨R, z, col', rfl, b3, o3, Turn.trans nv2.turn t3 (fun _ _ h => h), g3⟩

theorem happenEv (P : PrV) (nd : Int) (k1 p1 : Int) (xA : Option Addr) (xm xd : Nat) (a : NA) (E : World → Prop) (b0 b1 : Nat) (col : Nat → Nat) (w : World) (ho : PrOw w b0 b1 col P) (hl : PrL P) (hN : ∃ g, P.aN = some ⟨g, 0, none⟩) (hc : P.cN = P.nN) (hW : SomW P.VW) (hM : SomM P.VM) (h1 : ∃ g, P.a1 = some ⟨g, 0, none⟩) (h2 : ∃ g, P.a2 = some ⟨g, 0, none⟩) (hA : prF P = 0 → (nd = 0 ∨ nd = 1) → ∃ v, P.VN[nd.toNat]? = some v ∧ (a.z = 0 → a.Good) ∧ NfE 81 k1 [.agg #[.int .i64 k1, .int .i64 p1, .slice xA xm xd]] E v a) (hE : ∀ X, New w X → E X) :
    Calls Tryz.prog 36 #[.agg #[.int .i64 P.sa, .int .i64 P.si, .int .i64 P.ho, .int .i64 P.nx, .slice P.a1 P.n1 P.c1, .slice P.a2 P.n2 P.c2, .slice P.aN P.nN P.cN, .slice P.aW P.nW P.cW, .slice P.aM P.nM P.cM, .slice P.aS P.nS P.cS, .int .i64 nd, .int .i64 0, .int .i64 0, .int .i64 0, .bool false, .slice none 0 0, .int .i64 k1, .int .i64 p1, .slice xA xm xd, .slice none 0 0], .func (.func 37) #[] #[]] w fun e w' => ∃ z R col', e = .returned (.agg #[.int .i64 z, .slice none 0 0, .int .i64 R.sa, .int .i64 R.si, .int .i64 R.ho, .int .i64 R.nx, .slice R.a1 R.n1 R.c1, .slice R.a2 R.n2 R.c2, .slice R.aN R.nN R.cN, .slice R.aW R.nW R.cW, .slice R.aM R.nM R.cM, .slice R.aS R.nS R.cS]) ∧ GoR P nd a z R ∧ PrOw w' w.heap.size w'.heap.size col' R ∧ New w w' := by
  have hw : New w ((w.alloc (.cells #[.int .i64 P.sa, .int .i64 P.si, .int .i64 P.ho, .int .i64 P.nx, .slice P.a1 P.n1 P.c1, .slice P.a2 P.n2 P.c2, .slice P.aN P.nN P.cN, .slice P.aW P.nW P.cW, .slice P.aM P.nM P.cM, .slice P.aS P.nS P.cS, .int .i64 nd, .int .i64 0, .int .i64 0, .int .i64 0, .bool false, .slice none 0 0, .int .i64 k1, .int .i64 p1, .slice xA xm xd, .slice none 0 0] 86)).alloc (.cells #[.int .i64 0, .slice none 0 0, .int .i64 0, .int .i64 0, .int .i64 0, .int .i64 0, .slice none 0 0, .slice none 0 0, .slice none 0 0, .slice none 0 0, .slice none 0 0, .slice none 0 0] 49)) := ((New.refl w).alloc _).alloc _
  have b0' : Blk ((w.alloc (.cells #[.int .i64 P.sa, .int .i64 P.si, .int .i64 P.ho, .int .i64 P.nx, .slice P.a1 P.n1 P.c1, .slice P.a2 P.n2 P.c2, .slice P.aN P.nN P.cN, .slice P.aW P.nW P.cW, .slice P.aM P.nM P.cM, .slice P.aS P.nS P.cS, .int .i64 nd, .int .i64 0, .int .i64 0, .int .i64 0, .bool false, .slice none 0 0, .int .i64 k1, .int .i64 p1, .slice xA xm xd, .slice none 0 0] 86)).alloc (.cells #[.int .i64 0, .slice none 0 0, .int .i64 0, .int .i64 0, .int .i64 0, .int .i64 0, .slice none 0 0, .slice none 0 0, .slice none 0 0, .slice none 0 0, .slice none 0 0, .slice none 0 0] 49)) w.heap.size 86 #[.int .i64 P.sa, .int .i64 P.si, .int .i64 P.ho, .int .i64 P.nx, .slice P.a1 P.n1 P.c1, .slice P.a2 P.n2 P.c2, .slice P.aN P.nN P.cN, .slice P.aW P.nW P.cW, .slice P.aM P.nM P.cM, .slice P.aS P.nS P.cS, .int .i64 nd, .int .i64 0, .int .i64 0, .int .i64 0, .bool false, .slice none 0 0, .int .i64 k1, .int .i64 p1, .slice xA xm xd, .slice none 0 0] := (Blk.mk _ _ _ _ rfl).alloc _
  have b1' : Blk ((w.alloc (.cells #[.int .i64 P.sa, .int .i64 P.si, .int .i64 P.ho, .int .i64 P.nx, .slice P.a1 P.n1 P.c1, .slice P.a2 P.n2 P.c2, .slice P.aN P.nN P.cN, .slice P.aW P.nW P.cW, .slice P.aM P.nM P.cM, .slice P.aS P.nS P.cS, .int .i64 nd, .int .i64 0, .int .i64 0, .int .i64 0, .bool false, .slice none 0 0, .int .i64 k1, .int .i64 p1, .slice xA xm xd, .slice none 0 0] 86)).alloc (.cells #[.int .i64 0, .slice none 0 0, .int .i64 0, .int .i64 0, .int .i64 0, .int .i64 0, .slice none 0 0, .slice none 0 0, .slice none 0 0, .slice none 0 0, .slice none 0 0, .slice none 0 0] 49)) (w.heap.size + 1) 49 #[.int .i64 0, .slice none 0 0, .int .i64 0, .int .i64 0, .int .i64 0, .int .i64 0, .slice none 0 0, .slice none 0 0, .slice none 0 0, .slice none 0 0, .slice none 0 0, .slice none 0 0] := Blk.mk _ _ _ _ (by simp)
  have s0 : Hid (((w.alloc (.cells #[.int .i64 P.sa, .int .i64 P.si, .int .i64 P.ho, .int .i64 P.nx, .slice P.a1 P.n1 P.c1, .slice P.a2 P.n2 P.c2, .slice P.aN P.nN P.cN, .slice P.aW P.nW P.cW, .slice P.aM P.nM P.cM, .slice P.aS P.nS P.cS, .int .i64 nd, .int .i64 0, .int .i64 0, .int .i64 0, .bool false, .slice none 0 0, .int .i64 k1, .int .i64 p1, .slice xA xm xd, .slice none 0 0] 86)).alloc (.cells #[.int .i64 0, .slice none 0 0, .int .i64 0, .int .i64 0, .int .i64 0, .int .i64 0, .slice none 0 0, .slice none 0 0, .slice none 0 0, .slice none 0 0, .slice none 0 0, .slice none 0 0] 49)).heap.size = w.heap.size + 1 + 1) := by unfold Hid; simp
  have HO : Hid (PrOw w b0 b1 col P) := ho
  have HL : Hid (PrL P) := hl
  have HPA : Hid (PAt w P.a1 P.a2 P.aN P.aW P.aM P.aS P.r1 P.r2 P.VN P.VW P.VM P.VS) := ho.pat hl hN hc hW
  have HW : Hid (SomW P.VW) := hW
  have HM : Hid (SomM P.VM) := hM
  have Z1 : Hid (P.a1 = none → P.n1 = 0 ∧ P.c1 = 0) := by obtain ⟨g, e⟩ := h1; intro e'; rw [e'] at e; cases e
  have Z2 : Hid (P.a2 = none → P.n2 = 0 ∧ P.c2 = 0) := by obtain ⟨g, e⟩ := h2; intro e'; rw [e'] at e; cases e
  have HA : Hid (prF P = 0 → (nd = 0 ∨ nd = 1) → ∃ v, P.VN[nd.toNat]? = some v ∧ (a.z = 0 → a.Good) ∧ NfE 81 k1 [.agg #[.int .i64 k1, .int .i64 p1, .slice xA xm xd]] E v a) := hA
  have HE : Hid (∀ X, New w X → E X) := hE
  have c0 := b0'.cells
  clear ho hl hN hc hW hM h1 h2 hA hE
  go_enter Tryz.func36, Tryz.ntmps36
  go_wp2_with fail
  refine (implPaF P.sa P.si P.ho P.nx P.a1 P.a2 P.aN P.aW P.aM P.aS P.n1 P.c1 P.n2 P.c2 P.nN P.cN P.nW P.cW P.nM P.cM P.nS P.cS P.r1 P.r2 P.VN P.VW P.VM P.VS _ (HPA.out.new hw) HL.out.l1 HL.out.l2 HL.out.lN HL.out.lW HL.out.lM HL.out.lS HL.out.m1 HL.out.m2 HL.out.mN HL.out.mW HL.out.mM HL.out.mS (prF P) rfl).mono ?_
  rintro e w1 ⟨rfl, hn1⟩
  have n1 := hw.trans hn1
  have S0 := s0.out
  have z1 := hn1.size
  have p0 := b0'.new hn1
  have pb1 := b1'.new hn1
  clear c0 b0' b1' hw hn1
  have c0 := p0.cells
  have c1 := pb1.cells
  have f1 := pb1.frees
  have f0 := p0.frees
  by_cases hv : prF P = 0
  case neg =>
    have hvb : (prF P != 0) = true := by simp [hv]
    go_wp2
    refine bodyPost_ret (v := .agg #[.int .i64 (prF P), .slice none 0 0, .int .i64 zPr.sa, .int .i64 zPr.si, .int .i64 zPr.ho, .int .i64 zPr.nx, .slice zPr.a1 zPr.n1 zPr.c1, .slice zPr.a2 zPr.n2 zPr.c2, .slice zPr.aN zPr.nN zPr.cN, .slice zPr.aW zPr.nW zPr.cW, .slice zPr.aM zPr.nM zPr.cM, .slice zPr.aS zPr.nS zPr.cS]) (by simp [results, Tryz.results36, go_sem, c1, zPr]) rfl ?_
    exact ⟨prF P, zPr, col, rfl, .inl ⟨hv, rfl, rfl⟩, zPr_ow _ _ _ _, new12 n1 (by omega) _ _ _ _ _ _ _ _ _ _ _ _⟩
  by_cases hnd : nd = 0 ∨ nd = 1
  case neg =>
    rw [hv]
    go_wp2_with fail
    refine (isNode_no nd _ hnd).mono ?_
    rintro e w' ⟨rfl, hww⟩
    obtain rfl := hww
    go_wp2
    refine bodyPost_ret (v := .agg #[.int .i64 3, .slice none 0 0, .int .i64 zPr.sa, .int .i64 zPr.si, .int .i64 zPr.ho, .int .i64 zPr.nx, .slice zPr.a1 zPr.n1 zPr.c1, .slice zPr.a2 zPr.n2 zPr.c2, .slice zPr.aN zPr.nN zPr.cN, .slice zPr.aW zPr.nW zPr.cW, .slice zPr.aM zPr.nM zPr.cM, .slice zPr.aS zPr.nS zPr.cS]) (by simp [results, Tryz.results36, go_sem, c1, zPr]) rfl ?_
    exact ⟨3, zPr, col, rfl, .inr (.inl ⟨hv, hnd, rfl, rfl⟩), zPr_ow _ _ _ _, new12 n1 (by omega) _ _ _ _ _ _ _ _ _ _ _ _⟩
  have HV : Hid (prF P = 0) := hv
  have B0 : Hid (PrB0 P) := prB0_of hv
  obtain ⟨k, rfl⟩ : ∃ k : Nat, nd = k := ⟨nd.toNat, by omega⟩
  have HND : Hid ((k : Int) = 0 ∨ (k : Int) = 1) := hnd
  · obtain ⟨v, hvk, hG, hF⟩ := HA.out hv hnd
    have HVK : Hid (P.VN[k]? = some v) := hvk
    have HG : Hid (a.z = 0 → a.Good) := hG
    have HF : Hid (NfE 81 k1 [.agg #[.int .i64 k1, .int .i64 p1, .slice xA xm xd]] E v a) := hF
    clear hvk hG hF HA
    rw [hv]
    clear hv
    go_wp2_with fail
    refine (isNode_yes k _ hnd).mono ?_
    rintro e w' ⟨rfl, hww⟩
    obtain rfl := hww
    clear hnd
    go_wp2_with fail
    refine (isPeer0 _).mono ?_
    rintro e w' ⟨rfl, hww⟩
    obtain rfl := hww
    go_wp2_with fail
    refine (copyPr_1 w.heap.size P _ (fun j hj => by rw [c0 j]; exact pcCs_get P k 0 0 0 false none 0 0 k1 p1 xA xm xd none 0 0 j hj) (HO.out.rd.new n1) HL.out HO.out.nl.1 HO.out.nl.2 HW.out.nl HM.out.nl Z1.out Z2.out).mono ?_
    rintro e w2 ⟨Q, cq, rfl, eQ, oQ, hn2⟩
    have n2 := n1.trans hn2
    have q0 : Blk w2 w.heap.size 86 (pcCs P k 0 0 0 false none 0 0 k1 p1 xA xm xd none 0 0) := p0.new hn2
    have q1 := pb1.new hn2
    have z2 := hn2.size
    clear c0 c1 f0 f1 p0 pb1
    have c0 : ∀ j, w2.cell? ⟨w.heap.size, j, none⟩ = (#[.int .i64 P.sa, .int .i64 P.si, .int .i64 P.ho, .int .i64 P.nx, .slice P.a1 P.n1 P.c1, .slice P.a2 P.n2 P.c2, .slice P.aN P.nN P.cN, .slice P.aW P.nW P.cW, .slice P.aM P.nM P.cM, .slice P.aS P.nS P.cS, .int .i64 (k : Int), .int .i64 0, .int .i64 0, .int .i64 0, .bool false, .slice none 0 0, .int .i64 k1, .int .i64 p1, .slice xA xm xd, .slice none 0 0] : Array Value)[j]? := q0.cells
    have f0 := q0.frees
    have t10 := set10t (S := fun x => x = w.heap.size) w2 w.heap.size rfl (.int .i64 Q.sa) (.int .i64 Q.si) (.int .i64 Q.ho) (.int .i64 Q.nx) (.slice Q.a1 Q.n1 Q.c1) (.slice Q.a2 Q.n2 Q.c2) (.slice Q.aN Q.nN Q.cN) (.slice Q.aW Q.nW Q.cW) (.slice Q.aM Q.nM Q.cM) (.slice Q.aS Q.nS Q.cS)
    have b10 := set10g (Q := Q) q0
    have s10 := t10.size
    have o10 := oQ.turn t10 (by intro x h1 h2 e; omega)
    have r10 := q1.turn t10 (by omega)
    have n10 := n2.before t10 (by intro i hi e; omega)
    have lQ := eQ.lim HL.out
    obtain ⟨u, huk, hur⟩ : ∃ u, Q.VN[k]? = some u ∧ v.r = u.r := by
      have h1 := congrArg (fun L => L[k]?) eQ.nd
      simp only [List.getElem?_map, HVK.out, Option.map_some] at h1
      obtain ⟨u, h2, h3⟩ := Option.map_eq_some_iff.1 h1
      exact ⟨u, h2, h3.symm⟩
    have EQ : Hid (PrE Q P) := eQ
    clear oQ q1 q0 eQ
    go_wp2_with fail
    refine (tell16 w.heap.size k Q 0 0 0 false none 0 0 k1 p1 xA xm xd none 0 0 a u E _ _ cq _ b10 o10 lQ (by omega) (by omega) s10 huk HG.out (HF.out.alike hur) (fun X hX => HE.out _ (n10.trans hX))).mono ?_
    rintro e w3 ⟨R, z, col', rfl, b3, o3, t3, hcase⟩
    have r3 := r10.turn t3 (by omega)
    have n3 := n10.before t3 (by intro i hi e; omega)
    have z3 := t3.size
    clear c0 f0 b10 t10 o10 r10 t3
    have c0 := b3.cells
    have c8 : w3.cell? ⟨w.heap.size, 19, none⟩ = some (.slice none 0 0) := b3.cells 19
    have c1 := r3.cells
    have f1 := r3.frees
    rcases hcase with ⟨hz, rfl⟩ | ⟨hz, rfl, hR⟩
    · have HZ : Hid (¬ a.z = 0) := hz
      have hzb : (a.z != 0) = true := by simp [hz]
      go_wp2
      refine bodyPost_ret (v := .agg #[.int .i64 a.z, .slice none 0 0, .int .i64 zPr.sa, .int .i64 zPr.si, .int .i64 zPr.ho, .int .i64 zPr.nx, .slice zPr.a1 zPr.n1 zPr.c1, .slice zPr.a2 zPr.n2 zPr.c2, .slice zPr.aN zPr.nN zPr.cN, .slice zPr.aW zPr.nW zPr.cW, .slice zPr.aM zPr.nM zPr.cM, .slice zPr.aS zPr.nS zPr.cS]) (by simp [results, Tryz.results36, go_sem, c1, zPr]) rfl ?_
      exact ⟨a.z, zPr, col', rfl, .inr (.inr (.inl ⟨HV.out, HND.out, HZ.out, rfl, rfl⟩)), zPr_ow _ _ _ _, new12 n3 (by omega) _ _ _ _ _ _ _ _ _ _ _ _⟩
    · have HZ : Hid (a.z = 0) := hz
      clear hz
      simp only [pcCs] at c0
      go_wp2
      refine bodyPost_ret (v := .agg #[.int .i64 0, .slice none 0 0, .int .i64 R.sa, .int .i64 R.si, .int .i64 R.ho, .int .i64 R.nx, .slice R.a1 R.n1 R.c1, .slice R.a2 R.n2 R.c2, .slice R.aN R.nN R.cN, .slice R.aW R.nW R.cW, .slice R.aM R.nM R.cM, .slice R.aS R.nS R.cS]) (by simp [results, Tryz.results36, go_sem, c1]) rfl ?_
      exact ⟨0, R, col', rfl, .inr (.inr (.inr ⟨HV.out, HND.out, HZ.out, rfl, hR.trans (EQ.out.gone _ _)⟩)), fin12 o3 (by omega) (by omega) (Nat.le_refl _) _ _ _ _ _ _ _ _ _ _ _ _, new12 n3 (by omega) _ _ _ _ _ _ _ _ _ _ _ _⟩

theorem implEv (P : PrV) (nd : Int) (k1 p1 : Int) (xA : Option Addr) (xm xd : Nat) (a : NA) (E : World → Prop) (b0 b1 : Nat) (col : Nat → Nat) (w : World) (ho : PrOw w b0 b1 col P) (hl : PrL P) (hN : ∃ g, P.aN = some ⟨g, 0, none⟩) (hc : P.cN = P.nN) (hW : SomW P.VW) (hM : SomM P.VM) (h1 : ∃ g, P.a1 = some ⟨g, 0, none⟩) (h2 : ∃ g, P.a2 = some ⟨g, 0, none⟩) (hA : prF P = 0 → (nd = 0 ∨ nd = 1) → ∃ v, P.VN[nd.toNat]? = some v ∧ (a.z = 0 → a.Good) ∧ NfE 81 k1 [.agg #[.int .i64 k1, .int .i64 p1, .slice xA xm xd]] E v a) (hE : ∀ X, New w X → E X) :
    Calls Tryz.prog 10 #[.agg #[.int .i64 P.sa, .int .i64 P.si, .int .i64 P.ho, .int .i64 P.nx, .slice P.a1 P.n1 P.c1, .slice P.a2 P.n2 P.c2, .slice P.aN P.nN P.cN, .slice P.aW P.nW P.cW, .slice P.aM P.nM P.cM, .slice P.aS P.nS P.cS], .int .i64 nd, .agg #[.int .i64 k1, .int .i64 p1, .slice xA xm xd]] w fun e w' => ∃ z R col', e = .returned (.agg #[.int .i64 z, .slice none 0 0, .int .i64 R.sa, .int .i64 R.si, .int .i64 R.ho, .int .i64 R.nx, .slice R.a1 R.n1 R.c1, .slice R.a2 R.n2 R.c2, .slice R.aN R.nN R.cN, .slice R.aW R.nW R.cW, .slice R.aM R.nM R.cM, .slice R.aS R.nS R.cS]) ∧ GoR P nd a z R ∧ PrOw w' w.heap.size w'.heap.size col' R ∧ New w w' := by
  have hw : New w (((w.alloc (.cells #[.int .i64 P.sa, .int .i64 P.si, .int .i64 P.ho, .int .i64 P.nx, .slice P.a1 P.n1 P.c1, .slice P.a2 P.n2 P.c2, .slice P.aN P.nN P.cN, .slice P.aW P.nW P.cW, .slice P.aM P.nM P.cM, .slice P.aS P.nS P.cS] 47)).alloc (.cells #[.int .i64 k1, .int .i64 p1, .slice xA xm xd] 52)).alloc (.cells #[.int .i64 0, .slice none 0 0, .int .i64 0, .int .i64 0, .int .i64 0, .int .i64 0, .slice none 0 0, .slice none 0 0, .slice none 0 0, .slice none 0 0, .slice none 0 0, .slice none 0 0] 49)) := (((New.refl w).alloc _).alloc _).alloc _
  have b0' : Blk (((w.alloc (.cells #[.int .i64 P.sa, .int .i64 P.si, .int .i64 P.ho, .int .i64 P.nx, .slice P.a1 P.n1 P.c1, .slice P.a2 P.n2 P.c2, .slice P.aN P.nN P.cN, .slice P.aW P.nW P.cW, .slice P.aM P.nM P.cM, .slice P.aS P.nS P.cS] 47)).alloc (.cells #[.int .i64 k1, .int .i64 p1, .slice xA xm xd] 52)).alloc (.cells #[.int .i64 0, .slice none 0 0, .int .i64 0, .int .i64 0, .int .i64 0, .int .i64 0, .slice none 0 0, .slice none 0 0, .slice none 0 0, .slice none 0 0, .slice none 0 0, .slice none 0 0] 49)) w.heap.size 47 #[.int .i64 P.sa, .int .i64 P.si, .int .i64 P.ho, .int .i64 P.nx, .slice P.a1 P.n1 P.c1, .slice P.a2 P.n2 P.c2, .slice P.aN P.nN P.cN, .slice P.aW P.nW P.cW, .slice P.aM P.nM P.cM, .slice P.aS P.nS P.cS] := ((Blk.mk _ _ _ _ rfl).alloc _).alloc _
  have bE' : Blk (((w.alloc (.cells #[.int .i64 P.sa, .int .i64 P.si, .int .i64 P.ho, .int .i64 P.nx, .slice P.a1 P.n1 P.c1, .slice P.a2 P.n2 P.c2, .slice P.aN P.nN P.cN, .slice P.aW P.nW P.cW, .slice P.aM P.nM P.cM, .slice P.aS P.nS P.cS] 47)).alloc (.cells #[.int .i64 k1, .int .i64 p1, .slice xA xm xd] 52)).alloc (.cells #[.int .i64 0, .slice none 0 0, .int .i64 0, .int .i64 0, .int .i64 0, .int .i64 0, .slice none 0 0, .slice none 0 0, .slice none 0 0, .slice none 0 0, .slice none 0 0, .slice none 0 0] 49)) (w.heap.size + 1) 52 #[.int .i64 k1, .int .i64 p1, .slice xA xm xd] := (Blk.mk _ _ _ _ (by simp)).alloc _
  have b1' : Blk (((w.alloc (.cells #[.int .i64 P.sa, .int .i64 P.si, .int .i64 P.ho, .int .i64 P.nx, .slice P.a1 P.n1 P.c1, .slice P.a2 P.n2 P.c2, .slice P.aN P.nN P.cN, .slice P.aW P.nW P.cW, .slice P.aM P.nM P.cM, .slice P.aS P.nS P.cS] 47)).alloc (.cells #[.int .i64 k1, .int .i64 p1, .slice xA xm xd] 52)).alloc (.cells #[.int .i64 0, .slice none 0 0, .int .i64 0, .int .i64 0, .int .i64 0, .int .i64 0, .slice none 0 0, .slice none 0 0, .slice none 0 0, .slice none 0 0, .slice none 0 0, .slice none 0 0] 49)) (w.heap.size + 2) 49 #[.int .i64 0, .slice none 0 0, .int .i64 0, .int .i64 0, .int .i64 0, .int .i64 0, .slice none 0 0, .slice none 0 0, .slice none 0 0, .slice none 0 0, .slice none 0 0, .slice none 0 0] := Blk.mk _ _ _ _ (by simp)
  have s0 : Hid ((((w.alloc (.cells #[.int .i64 P.sa, .int .i64 P.si, .int .i64 P.ho, .int .i64 P.nx, .slice P.a1 P.n1 P.c1, .slice P.a2 P.n2 P.c2, .slice P.aN P.nN P.cN, .slice P.aW P.nW P.cW, .slice P.aM P.nM P.cM, .slice P.aS P.nS P.cS] 47)).alloc (.cells #[.int .i64 k1, .int .i64 p1, .slice xA xm xd] 52)).alloc (.cells #[.int .i64 0, .slice none 0 0, .int .i64 0, .int .i64 0, .int .i64 0, .int .i64 0, .slice none 0 0, .slice none 0 0, .slice none 0 0, .slice none 0 0, .slice none 0 0, .slice none 0 0] 49)).heap.size = w.heap.size + 3) := by unfold Hid; simp
  have HH : Hid (∀ X, New w X → Calls Tryz.prog 36 #[.agg #[.int .i64 P.sa, .int .i64 P.si, .int .i64 P.ho, .int .i64 P.nx, .slice P.a1 P.n1 P.c1, .slice P.a2 P.n2 P.c2, .slice P.aN P.nN P.cN, .slice P.aW P.nW P.cW, .slice P.aM P.nM P.cM, .slice P.aS P.nS P.cS, .int .i64 nd, .int .i64 0, .int .i64 0, .int .i64 0, .bool false, .slice none 0 0, .int .i64 k1, .int .i64 p1, .slice xA xm xd, .slice none 0 0], .func (.func 37) #[] #[]] X fun e w' => ∃ z R col', e = .returned (.agg #[.int .i64 z, .slice none 0 0, .int .i64 R.sa, .int .i64 R.si, .int .i64 R.ho, .int .i64 R.nx, .slice R.a1 R.n1 R.c1, .slice R.a2 R.n2 R.c2, .slice R.aN R.nN R.cN, .slice R.aW R.nW R.cW, .slice R.aM R.nM R.cM, .slice R.aS R.nS R.cS]) ∧ GoR P nd a z R ∧ PrOw w' X.heap.size w'.heap.size col' R ∧ New X w') := fun X hX => happenEv P nd k1 p1 xA xm xd a E b0 b1 col X (ho.new hX) hl hN hc hW hM h1 h2 hA (fun Y hY => hE Y (hX.trans hY))
  clear ho hl hN hc hW hM h1 h2 hA hE
  have c0 := b0'.cells
  have cE := bE'.cells
  go_enter Tryz.func10, Tryz.ntmps10
  go_wp2_with fail
  refine (HH.out _ hw).mono ?_
  rintro e w1 ⟨z, R, col', rfl, hR, o1, hn1⟩
  have S0 := s0.out
  have n1 := hw.trans hn1
  have z1 := hn1.size
  have pb1 := b1'.new hn1
  clear c0 cE b0' b1' bE' hw hn1
  have c1 := pb1.cells
  have f1 := pb1.frees
  go_wp2
  refine bodyPost_ret (v := .agg #[.int .i64 z, .slice none 0 0, .int .i64 R.sa, .int .i64 R.si, .int .i64 R.ho, .int .i64 R.nx, .slice R.a1 R.n1 R.c1, .slice R.a2 R.n2 R.c2, .slice R.aN R.nN R.cN, .slice R.aW R.nW R.cW, .slice R.aM R.nM R.cM, .slice R.aS R.nS R.cS]) (by simp [results, Tryz.results10, go_sem, c1]) rfl ?_
  exact ⟨z, R, col', rfl, hR, fin12 o1 (by omega) (by omega) (Nat.le_refl _) _ _ _ _ _ _ _ _ _ _ _ _ , new12 n1 (by omega) _ _ _ _ _ _ _ _ _ _ _ _ ⟩

end Go.Proofs.YtdbnmkffinhdjaaGreat
