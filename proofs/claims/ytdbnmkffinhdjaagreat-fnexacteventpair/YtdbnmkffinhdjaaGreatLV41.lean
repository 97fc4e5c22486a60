/- Lemmas and contracts of one law. -/
import Derived.Test.YtdbnmkffinhdjaaGreatLV40
namespace Go.Proofs.YtdbnmkffinhdjaaGreat
open Go.ChangeShapes Go.WideShapes Go.ChangeAt Go.RowKit Go.Deep Go.Sort
set_option linter.unusedVariables false
set_option linter.unusedSimpArgs false
set_option maxRecDepth 100000
set_option maxHeartbeats 25600000

theorem Cl.ne {col : Nat → Nat} {b0 b1 i j x : Nat} (h : Cl col b0 b1 i x) (hij : i ≠ j) : ¬ Cl col b0 b1 j x := fun k => hij (h.1.symm.trans k.1)
def kN16 (k : Int) (P : PrV) : Int := k + 8 * (P.n1 : Int) + 8 * (P.n2 : Int)
def kW16 (k : Int) (P : PrV) : Int := endN (kN16 k P) P.VN
def kM16 (k : Int) (P : PrV) : Int := endW (kW16 k P) P.VW
def kS16 (k : Int) (P : PrV) : Int := endQ (kM16 k P) P.VM
def eP16 (k : Int) (P : PrV) : Int := endK (kS16 k P) P.VS
theorem k16_bd {k : Int} {P : PrV} (hl : PrL P) (hk0 : 0 ≤ k) (hk : k ≤ 1000) : (0 ≤ kN16 k P ∧ kN16 k P ≤ 16778216) ∧ (0 ≤ kW16 k P ∧ kW16 k P ≤ 33555432) ∧ (0 ≤ kM16 k P ∧ kM16 k P ≤ 37749736) ∧ (0 ≤ kS16 k P ∧ kS16 k P ≤ 56624104) ∧ 0 ≤ eP16 k P := by
  have m1 := hl.m1
  have m2 := hl.m2
  have tN := hl.tN
  have tW := hl.tW
  have tM := hl.tM
  have a1 : 0 ≤ kN16 k P ∧ kN16 k P ≤ 16778216 := by unfold kN16; omega
  have a2 := endN_bd P.VN (kN16 k P)
  have a3 := endW_bd P.VW (kW16 k P)
  have a4 := endQ_bd P.VM (kM16 k P)
  have a5 := endK_bd P.VS (kS16 k P)
  have e2 : kW16 k P = endN (kN16 k P) P.VN := rfl
  have e3 : kM16 k P = endW (kW16 k P) P.VW := rfl
  have e4 : kS16 k P = endQ (kM16 k P) P.VM := rfl
  have e5 : eP16 k P = endK (kS16 k P) P.VS := rfl
  omega
/-- What is read of a marked pair. -/
structure PrMk (w : World) (P : PrV) (k : Int) : Prop where
  s1 : RsAt w P.a1 (mkRs k P.n1)
  s2 : RsAt w P.a2 (mkRs (k + 8 * (P.n1 : Int)) P.n2)
  nd : NdAt w P.aN (markN (kN16 k P) P.VN)
  wi : WiAt w P.aW (markW (kW16 k P) P.VW)
  mq : MqAt w P.aM (markQ (kM16 k P) P.VM)
  se : LgAt w P.aS (markK (kS16 k P) P.VS)
theorem PrMk.new {w w' : World} {P : PrV} {k : Int} (h : PrMk w P k) (t : New w w') : PrMk w' P k := ⟨h.s1.new t, h.s2.new t, h.nd.new t, h.wi.new t, h.mq.new t, h.se.new t⟩
/-- How long the bytes of a pair are. -/
structure PrB (P : PrV) : Prop where
  nd : ∀ u ∈ P.VN, totK u.V ≤ 1048576 ∧ ∀ v ∈ u.V, v.r.xs.length ≤ 1048576
  wi : ∀ u ∈ P.VW, u.xs.length ≤ 1048576 ∧ u.ys.length ≤ 1048576
  mq : ∀ u ∈ P.VM, u.m.e.xs.length ≤ 1048576
  se : ∀ u ∈ P.VS, u.r.xs.length ≤ 1048576
theorem PrRd.b {w : World} {P : PrV} (h : PrRd w P) : PrB P := by
  refine ⟨fun u hu => ?_, fun u hu => ?_, fun u hu => ?_, fun u hu => ?_⟩
  · obtain ⟨i, hi⟩ := List.getElem?_of_mem hu
    obtain ⟨-, h1, h2⟩ := h.nd i u hi
    refine ⟨h2, fun v hv => ?_⟩
    obtain ⟨j, hj⟩ := List.getElem?_of_mem hv
    exact (h1 j v hj).2.2
  · obtain ⟨i, hi⟩ := List.getElem?_of_mem hu
    obtain ⟨-, -, -, h1⟩ := h.wi i u hi
    exact h1
  · obtain ⟨i, hi⟩ := List.getElem?_of_mem hu
    exact (h.mq i u hi).2.2
  · obtain ⟨i, hi⟩ := List.getElem?_of_mem hu
    exact (h.se i u hi).2.2

theorem markPr16 (P : PrV) (b0 b1 : Nat) (col : Nat → Nat) (k : Int) (w : World) (h : PrOw w b0 b1 col P) (hl : PrL P) (hb : b1 ≤ w.heap.size) (hk0 : 0 ≤ k) (hk : k ≤ 1000) :
    Calls Tryz.prog 14 #[.agg #[.int .i64 P.sa, .int .i64 P.si, .int .i64 P.ho, .int .i64 P.nx, .slice P.a1 P.n1 P.c1, .slice P.a2 P.n2 P.c2, .slice P.aN P.nN P.cN, .slice P.aW P.nW P.cW, .slice P.aM P.nM P.cM, .slice P.aS P.nS P.cS], .int .i64 k] w fun e w' => e = .returned (.int .i64 (eP16 k P)) ∧ PrMk w' P k ∧ Turn (fun x => b0 ≤ x ∧ x < b1) w w' := by
  have al : New w (w.alloc (.cells #[.int .i64 P.sa, .int .i64 P.si, .int .i64 P.ho, .int .i64 P.nx, .slice P.a1 P.n1 P.c1, .slice P.a2 P.n2 P.c2, .slice P.aN P.nN P.cN, .slice P.aW P.nW P.cW, .slice P.aM P.nM P.cM, .slice P.aS P.nS P.cS] 47)) := (New.refl w).alloc _
  have bA := Blk.mk w w.heap.size 47 #[.int .i64 P.sa, .int .i64 P.si, .int .i64 P.ho, .int .i64 P.nx, .slice P.a1 P.n1 P.c1, .slice P.a2 P.n2 P.c2, .slice P.aN P.nN P.cN, .slice P.aW P.nW P.cW, .slice P.aM P.nM P.cM, .slice P.aS P.nS P.cS] rfl
  obtain ⟨⟨zN, yN⟩, ⟨zW, yW⟩, ⟨zM, yM⟩, ⟨zS, yS⟩, -⟩ := k16_bd hl hk0 hk
  have HN : Hid (k + 8 * (P.n1 : Int) + 8 * (P.n2 : Int) = kN16 k P) := rfl
  have HW : Hid (endN (kN16 k P) P.VN = kW16 k P) := rfl
  have HM : Hid (endW (kW16 k P) P.VW = kM16 k P) := rfl
  have HS : Hid (endQ (kM16 k P) P.VM = kS16 k P) := rfl
  have HE : Hid (endK (kS16 k P) P.VS = eP16 k P) := rfl
  have h0 := h.new al
  have AP : Hid (∀ j, (Value.slice P.a1 P.n1 P.c1).ownBlock = some j → (Value.slice P.a2 P.n2 P.c2).ownBlock ≠ some j) := fun j e1 e2 => (h.k1 j e1).ne (by decide) (h.k2 j e2)
  have HK1 : Hid _ := h.k1
  have HK2 : Hid _ := h.k2
  obtain ⟨lo, hi, hs0, hcs⟩ := h0.oS
  have HCS : Hid _ := hcs
  have HB : Hid (∀ i x, Cl col b0 b1 i x → ¬ x = w.heap.size) := fun i x e e' => by have := e.2.2; omega
  obtain ⟨o1, o2, -, -, oN, oW, oQ, -⟩ := h0
  clear h hcs
  go_enter Tryz.func14, Tryz.ntmps14
  go_upto_region 1 with fail
  generalize w.alloc (.cells #[.int .i64 P.sa, .int .i64 P.si, .int .i64 P.ho, .int .i64 P.nx, .slice P.a1 P.n1 P.c1, .slice P.a2 P.n2 P.c2, .slice P.aN P.nN P.cN, .slice P.aW P.nW P.cW, .slice P.aM P.nM P.cM, .slice P.aS P.nS P.cS] 47) = w0 at *
  have cA := bA.cells
  go_wp2_with fail
  refine (markSe P.sa P.si P.ho P.nx P.a1 P.a2 P.n1 P.c1 P.n2 P.c2 b0 k P.r1 P.r2 _ o1 o2 AP.out hl.m1 hl.m2 hk0 hk).mono ?_
  rintro e w1 ⟨rfl, q1, q2, t1'⟩
  have t1 : Turn (fun x => Cl col b0 b1 5 x ∨ Cl col b0 b1 6 x) w0 w1 := t1'.mono (fun i _ e => by rcases e with e | e; exact .inl (HK1.out i e); exact .inr (HK2.out i e))
  have bA1 := bA.turn t1 (fun e => by rcases e with e | e <;> exact HB.out _ _ e rfl)
  have oN1 := oN.turn t1 (fun x e => by rintro (e' | e') <;> exact e.ne (by decide) e')
  have oW1 := oW.turn t1 (fun x e => by rintro (e' | e') <;> exact e.ne (by decide) e')
  have oQ1 := oQ.turn t1 (fun x e => by rintro (e' | e') <;> exact e.ne (by decide) e')
  have oS1 := hs0.turn t1 (fun x a b => by rintro (e' | e') <;> exact (HCS.out x a b).ne (by decide) e')
  have T1 : Hid (Turn (fun x => b0 ≤ x ∧ x < b1) w w1) := Turn.trans (al.turn : Turn (fun x => b0 ≤ x ∧ x < b1) w w0) t1 (fun i _ e => by rcases e with e | e <;> exact e.2)
  clear cA bA oN oW oQ hs0 t1 t1' o1 o2
  rw [HN.out]
  have cA := bA1.cells
  go_wp2_with fail
  refine (markNn P.aN P.nN P.cN _ (kN16 k P) P.VN _ oN1 hl.lN hl.tN (by have := hl.mN; omega) zN (by omega)).mono ?_
  rintro e w2 ⟨rfl, qN, t2⟩
  have bA2 := bA1.turn t2 (fun e => HB.out _ _ e rfl)
  have q12 := q1.turn t2 (fun j hj e => (HK1.out j hj).ne (by decide) e)
  have q22 := q2.turn t2 (fun j hj e => (HK2.out j hj).ne (by decide) e)
  have oW2 := oW1.turn t2 (fun x e e' => e.ne (by decide) e')
  have oQ2 := oQ1.turn t2 (fun x e e' => e.ne (by decide) e')
  have oS2 := oS1.turn t2 (fun x a b e' => (HCS.out x a b).ne (by decide) e')
  have T2 : Hid (Turn (fun x => b0 ≤ x ∧ x < b1) w w2) := Turn.trans T1.out t2 (fun i _ e => e.2)
  have BN := (oN1.bl).mark (kN16 k P)
  clear cA bA1 q1 q2 oN1 oW1 oQ1 oS1 t2 T1
  rw [HW.out]
  have cA := bA2.cells
  go_wp2_with fail
  refine (markWn P.aW P.nW P.cW _ (kW16 k P) P.VW _ oW2 hl.lW hl.tW (by have := hl.mW; omega) zW (by omega)).mono ?_
  rintro e w3 ⟨rfl, qW, t3⟩
  have bA3 := bA2.turn t3 (fun e => HB.out _ _ e rfl)
  have q13 := q12.turn t3 (fun j hj e => (HK1.out j hj).ne (by decide) e)
  have q23 := q22.turn t3 (fun j hj e => (HK2.out j hj).ne (by decide) e)
  have qN3 := qN.farF BN t3 (fun x e e' => e.ne (by decide) e')
  have oQ3 := oQ2.turn t3 (fun x e e' => e.ne (by decide) e')
  have oS3 := oS2.turn t3 (fun x a b e' => (HCS.out x a b).ne (by decide) e')
  have T3 : Hid (Turn (fun x => b0 ≤ x ∧ x < b1) w w3) := Turn.trans T2.out t3 (fun i _ e => e.2)
  have BW := (oW2.bl).mark (kW16 k P)
  clear cA bA2 q12 q22 qN oW2 oQ2 oS2 t3 T2
  rw [HM.out]
  have cA := bA3.cells
  go_wp2_with fail
  refine (markQn P.aM P.nM P.cM _ (kM16 k P) P.VM _ oQ3 hl.lM hl.tM (by have := hl.mM; omega) zM (by omega)).mono ?_
  rintro e w4 ⟨rfl, qM, t4⟩
  have bA4 := bA3.turn t4 (fun e => HB.out _ _ e rfl)
  have q14 := q13.turn t4 (fun j hj e => (HK1.out j hj).ne (by decide) e)
  have q24 := q23.turn t4 (fun j hj e => (HK2.out j hj).ne (by decide) e)
  have qN4 := qN3.farF BN t4 (fun x e e' => e.ne (by decide) e')
  have qW4 := qW.farF BW t4 (fun x e e' => e.ne (by decide) e')
  have oS4 := oS3.turn t4 (fun x a b e' => (HCS.out x a b).ne (by decide) e')
  have T4 : Hid (Turn (fun x => b0 ≤ x ∧ x < b1) w w4) := Turn.trans T3.out t4 (fun i _ e => e.2)
  have BM := (oQ3.bl).mark (kM16 k P)
  clear cA bA3 q13 q23 qN3 qW oQ3 oS3 t4 T3
  rw [HS.out]
  have cA := bA4.cells
  have HCS' : Hid (∀ x, lo ≤ x → x < hi → Cl col b0 b1 4 x) := HCS.out
  go_wp2_with fail
  refine (markEkS_B P.aS P.nS P.cS lo hi (kS16 k P) P.VS _ oS4 hl.tS zS (by omega)).mono ?_
  rintro e w5 ⟨rfl, qS, t5'⟩
  have t5 : Turn (fun x => Cl col b0 b1 4 x) w4 w5 := t5'.mono (fun i _ e => HCS'.out i e.1 e.2)
  have F1 : Hid (RsAt w5 P.a1 (mkRs k P.n1)) := (q14.turn t5 (fun j hj e => (HK1.out j hj).ne (by decide) e)).rd16
  have F2 : Hid (RsAt w5 P.a2 (mkRs (k + 8 * (P.n1 : Int)) P.n2)) := (q24.turn t5 (fun j hj e => (HK2.out j hj).ne (by decide) e)).rd16
  have F3 : Hid _ := qN4.farF BN t5 (fun x e e' => e.ne (by decide) e')
  have F4 : Hid _ := qW4.farF BW t5 (fun x e e' => e.ne (by decide) e')
  have F5 : Hid _ := qM.farF BM t5 (fun x e e' => e.ne (by decide) e')
  have F6 : Hid _ := qS
  have T5 : Hid (Turn (fun x => b0 ≤ x ∧ x < b1) w w5) := Turn.trans T4.out t5 (fun i _ e => e.2)
  clear cA bA4 q14 q24 qN4 qW4 qM oS4 t5 t5' T4 qS
  rw [HE.out]
  go_wp2
  go_ret
  exact ⟨rfl, ⟨F1.out, F2.out, F3.out, F4.out, F5.out, F6.out⟩, T5.out⟩

theorem heldPr16 (P : PrV) (k : Int) (w : World) (h : PrMk w P k) (hl : PrL P) (hb : PrB P) (hk0 : 0 ≤ k) (hk : k ≤ 1000) :
    Calls Tryz.prog 51 #[.agg #[.int .i64 P.sa, .int .i64 P.si, .int .i64 P.ho, .int .i64 P.nx, .slice P.a1 P.n1 P.c1, .slice P.a2 P.n2 P.c2, .slice P.aN P.nN P.cN, .slice P.aW P.nW P.cW, .slice P.aM P.nM P.cM, .slice P.aS P.nS P.cS], .int .i64 k] w fun e w' => e = .returned (.int .i64 (eP16 k P)) ∧ New w w' := by
  have al : New w (w.alloc (.cells #[.int .i64 P.sa, .int .i64 P.si, .int .i64 P.ho, .int .i64 P.nx, .slice P.a1 P.n1 P.c1, .slice P.a2 P.n2 P.c2, .slice P.aN P.nN P.cN, .slice P.aW P.nW P.cW, .slice P.aM P.nM P.cM, .slice P.aS P.nS P.cS] 47)) := (New.refl w).alloc _
  have bA := Blk.mk w w.heap.size 47 #[.int .i64 P.sa, .int .i64 P.si, .int .i64 P.ho, .int .i64 P.nx, .slice P.a1 P.n1 P.c1, .slice P.a2 P.n2 P.c2, .slice P.aN P.nN P.cN, .slice P.aW P.nW P.cW, .slice P.aM P.nM P.cM, .slice P.aS P.nS P.cS] rfl
  obtain ⟨⟨zN, yN⟩, ⟨zW, yW⟩, ⟨zM, yM⟩, ⟨zS, yS⟩, zE⟩ := k16_bd hl hk0 hk
  have HN : Hid (k + 8 * (P.n1 : Int) + 8 * (P.n2 : Int) = kN16 k P) := rfl
  have HW : Hid (endN (kN16 k P) P.VN = kW16 k P) := rfl
  have HM : Hid (endW (kW16 k P) P.VW = kM16 k P) := rfl
  have HS : Hid (endQ (kM16 k P) P.VM = kS16 k P) := rfl
  have HE : Hid (endK (kS16 k P) P.VS = eP16 k P) := rfl
  have gN : ¬ kN16 k P < 0 := by omega
  have gW : ¬ kW16 k P < 0 := by omega
  have gM : ¬ kM16 k P < 0 := by omega
  have gS : ¬ kS16 k P < 0 := by omega
  have gE : ¬ eP16 k P < 0 := by omega
  have h0 := h.new al
  clear h
  go_enter Tryz.func51, Tryz.ntmps51
  go_upto_region 1 with fail
  generalize w.alloc (.cells #[.int .i64 P.sa, .int .i64 P.si, .int .i64 P.ho, .int .i64 P.nx, .slice P.a1 P.n1 P.c1, .slice P.a2 P.n2 P.c2, .slice P.aN P.nN P.cN, .slice P.aW P.nW P.cW, .slice P.aM P.nM P.cM, .slice P.aS P.nS P.cS] 47) = w0 at *
  have cA := bA.cells
  go_wp2_with fail
  refine (heldSe P.sa P.si P.ho P.nx P.a1 P.a2 P.n1 P.c1 P.n2 P.c2 k _ h0.s1 h0.s2 hl.m1 hl.m2 hk0 hk).mono ?_
  rintro e w1 ⟨rfl, t1⟩
  have h1 := h0.new t1
  have bA1 := bA.new t1
  have N1 := al.trans t1
  clear cA bA h0 t1
  rw [HN.out]
  have cA := bA1.cells
  go_wp2_with fail
  refine (heldNdS_any P.aN P.nN P.cN (kN16 k P) P.VN _ h1.nd hl.lN hb.nd hl.tN (by have := hl.mN; omega) zN (by omega)).mono ?_
  rintro e u1 ⟨rfl, hu⟩
  obtain rfl := hu.symm
  rw [HW.out]
  go_wp2_with fail
  refine (heldWiS_any P.aW P.nW P.cW (kW16 k P) P.VW _ h1.wi hl.lW hb.wi hl.tW (by have := hl.mW; omega) zW (by omega)).mono ?_
  rintro e u2 ⟨rfl, hu⟩
  obtain rfl := hu.symm
  rw [HM.out]
  go_wp2_with fail
  refine (heldMqS_any P.aM P.nM P.cM (kM16 k P) P.VM _ h1.mq hl.lM hb.mq hl.tM (by have := hl.mM; omega) zM (by omega)).mono ?_
  rintro e u3 ⟨rfl, hu⟩
  obtain rfl := hu.symm
  rw [HS.out]
  go_wp2_with fail
  refine (heldEkS_B P.aS P.nS P.cS (kS16 k P) P.VS _ h1.se hl.lS hb.se hl.tS (by have := hl.mS; omega) zS (by omega)).mono ?_
  rintro e u4 ⟨rfl, hu⟩
  obtain rfl := hu.symm
  rw [HE.out]
  go_wp2
  go_ret
  exact ⟨rfl, N1⟩

end Go.Proofs.YtdbnmkffinhdjaaGreat
