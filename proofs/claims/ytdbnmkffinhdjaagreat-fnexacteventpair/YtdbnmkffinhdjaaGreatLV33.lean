/- Lemmas and contracts of one law. -/
import Derived.Test.YtdbnmkffinhdjaaGreatLV29
import Derived.Test.YtdbnmkffinhdjaaGreatLV32
namespace Go.Proofs.YtdbnmkffinhdjaaGreat
open Go.ChangeShapes Go.WideShapes Go.ChangeAt Go.RowKit Go.Deep Go.Sort
set_option linter.unusedVariables false
set_option linter.unusedSimpArgs false
set_option maxRecDepth 100000
set_option maxHeartbeats 25600000

/-- The pair that came in, by what it says. -/
def P0x (sa si ho nx : Int) (n1 n2 nN nW nM nS : Nat) (r1 r2 : List Ru) (LN : List NdV) (LW : List WiV) (LM : List MlV) (LS : List EkV) : PrV := ⟨sa, si, ho, nx, none, n1, 0, none, n2, 0, none, nN, 0, none, nW, 0, none, nM, 0, none, nS, 0, r1, r2, LN, LW, LM, LS⟩
structure GoodX (P : PrV) : Prop where
  hN : ∃ g, P.aN = some ⟨g, 0, none⟩
  hc : P.cN = P.nN
  hW : SomW P.VW
  hM : SomM P.VM
  h1 : ∃ g, P.a1 = some ⟨g, 0, none⟩
  h2 : ∃ g, P.a2 = some ⟨g, 0, none⟩
theorem toPrL (sa si ho nx : Int) (a1 a2 aN aW aM aS : Option Addr) (n1 c1 n2 c2 nN cN nW cW nM cM nS cS : Nat) (r1 r2 : List Ru) (LN : List NdV) (LW : List WiV) (LM : List MlV) (LS : List EkV) (w : World) (h : PCame w a1 a2 aN aW aM aS n1 n2 nN nW nM nS r1 r2 LN LW LM LS) (hs : PSm n1 n2 LN LW LM LS) :
    Calls Tryz.prog 8 #[.agg #[.int .i64 sa, .int .i64 si, .int .i64 ho, .int .i64 nx, .slice a1 n1 c1, .slice a2 n2 c2, .slice aN nN cN, .slice aW nW cW, .slice aM nM cM, .slice aS nS cS]] w fun e w' => ∃ X, e = .returned (.agg #[.int .i64 X.sa, .int .i64 X.si, .int .i64 X.ho, .int .i64 X.nx, .slice X.a1 X.n1 X.c1, .slice X.a2 X.n2 X.c2, .slice X.aN X.nN X.cN, .slice X.aW X.nW X.cW, .slice X.aM X.nM X.cM, .slice X.aS X.nS X.cS]) ∧ PrE X (P0x sa si ho nx n1 n2 nN nW nM nS r1 r2 LN LW LM LS) ∧ PrL X ∧ GoodX X ∧ (∃ col, PrOw w' w.heap.size w'.heap.size col X) ∧ New w w' := by
  have k1 := totNd_len LN; have k2 := totWi_len LW; have k3 := totMq_len LM; have k4 := totK_len LS
  have e1 := hs.mN; have e2 := hs.mW; have e3 := hs.mM; have e4 := hs.mS; have e5 := h.lN; have e6 := h.lW; have e7 := h.lM; have e8 := h.lS
  refine (toPair16 sa si ho nx a1 a2 aN aW aM aS n1 c1 n2 c2 nN cN nW cW nM cM nS cS r1 r2 LN LW LM LS w h hs).mono ?_
  rintro e w' ⟨g1, g2, gN, gW, gM, gS, VN, VW, VM, VS, rfl, pe, l1, l2, l3, l4, sW, sM, hO, hn⟩
  refine ⟨⟨sa, si, ho, nx, some ⟨g1, 0, none⟩, n1, n1, some ⟨g2, 0, none⟩, n2, n2, some ⟨gN, 0, none⟩, nN, nN, some ⟨gW, 0, none⟩, nW, nW, some ⟨gM, 0, none⟩, nM, nM, some ⟨gS, 0, none⟩, nS, nS, r1, r2, VN, VW, VM, VS⟩, rfl, ⟨rfl, rfl, rfl, rfl, rfl, rfl, rfl, rfl, rfl, rfl, rfl, rfl, pe.nd, pe.wi, pe.mq, pe.se⟩, ?_, ⟨⟨gN, rfl⟩, rfl, sW, sM, ⟨g1, rfl⟩, ⟨g2, rfl⟩⟩, hO, hn⟩
  refine ⟨h.l1, h.l2, l1, l2, l3, l4, hs.m1, hs.m2, ?_, ?_, ?_, ?_, ?_, ?_, ?_, ?_⟩
  · show nN ≤ 1048576; omega
  · show nW ≤ 1048576; omega
  · show nM ≤ 1048576; omega
  · show nS ≤ 1048576; omega
  · show totNd VN ≤ 2097152; rw [totNd_alike pe.nd]; omega
  · show totWi VW ≤ 2097152; rw [totWi_alike pe.wi]; omega
  · show totMq VM ≤ 2097152; rw [totMq_alike pe.mq]; omega
  · show totK VS ≤ 2097152; rw [totK_alike pe.se]; omega
theorem prF_alike {P Q : PrV} (h : PrE Q P) : prF Q = prF P := by
  unfold prF
  rw [h.sa, h.si, h.ho, h.nx, h.r1, h.r2, h.nd, h.wi, h.mq, h.se]

/-- A node's function, at a node that reads like v, answers as told. -/
def NfC (F : Nat) (ext : List Value) (E : World → Prop) (v : NdV) (a : NA) : Prop := ∀ (A : Option Addr) (c : Nat) (V : List EkV) (w : World), LgAt w A V → NlK V → FitK A V.length c → V.map EkV.r = v.V.map EkV.r → E w → Calls Tryz.prog F (Value.agg #[.int .i64 v.id, .bool v.up, .int .i64 v.ro, .int .i64 v.ep, .slice A V.length c, .int .i64 v.su, .int .i64 v.ma, .int .i64 v.ot, .int .i64 v.co] :: ext).toArray w (NrAns w a.z a.id a.up a.ro a.ep a.su a.ma a.ot a.co a.L a.M)
theorem NfC.alike {F : Nat} {ext : List Value} {E : World → Prop} {v u : NdV} {a : NA} (h : NfC F ext E v a) (e : v.r = u.r) : NfC F ext E u a := by
  simp only [NdV.r, Prod.mk.injEq] at e
  obtain ⟨e1, e2, e3, e4, e5, e6, e7, e8, e9⟩ := e
  intro A c V w h1 h2 h3 h4 h5
  have := h A c V w h1 h2 h3 (h4.trans e9.symm) h5
  rw [← e1, ← e2, ← e3, ← e4, ← e5, ← e6, ← e7, ← e8]
  exact this
/-- What the pair's function tells. -/
def GoR (P : PrV) (nd : Int) (a : NA) (z : Int) (R : PrV) : Prop := (¬ prF P = 0 ∧ z = prF P ∧ R = zPr) ∨ (prF P = 0 ∧ ¬ (nd = 0 ∨ nd = 1) ∧ z = 3 ∧ R = zPr) ∨ (prF P = 0 ∧ (nd = 0 ∨ nd = 1) ∧ ¬ a.z = 0 ∧ z = a.z ∧ R = zPr) ∨ (prF P = 0 ∧ (nd = 0 ∨ nd = 1) ∧ a.z = 0 ∧ z = 0 ∧ PrE R (P.gone nd.toNat a))
theorem GoR.to {P Q R : PrV} {nd z : Int} {a : NA} (h : PrE Q P) (k : GoR Q nd a z R) : GoR P nd a z R := by
  unfold GoR at k ⊢
  rw [prF_alike h] at k
  rcases k with k | k | k | ⟨k1, k2, k3, k4, k5⟩
  · exact .inl k
  · exact .inr (.inl k)
  · exact .inr (.inr (.inl k))
  · exact .inr (.inr (.inr ⟨k1, k2, k3, k4, k5.trans (h.gone _ _)⟩))
theorem GoR.det {P R R' : PrV} {nd z z' : Int} {a : NA} (k : GoR P nd a z R) (k' : GoR P nd a z' R') : z = z' ∧ PrE R R' := by
  unfold GoR at k k'
  by_cases hp : prF P = 0
  · by_cases hn : nd = 0 ∨ nd = 1
    · by_cases ha : a.z = 0
      · rcases k with k | k | k | k
        · exact absurd hp k.1
        · exact absurd hn k.2.1
        · exact absurd ha k.2.2.1
        · rcases k' with k' | k' | k' | k'
          · exact absurd hp k'.1
          · exact absurd hn k'.2.1
          · exact absurd ha k'.2.2.1
          · exact ⟨k.2.2.2.1.trans k'.2.2.2.1.symm, k.2.2.2.2.trans k'.2.2.2.2.symm⟩
      · rcases k with k | k | k | k
        · exact absurd hp k.1
        · exact absurd hn k.2.1
        · rcases k' with k' | k' | k' | k'
          · exact absurd hp k'.1
          · exact absurd hn k'.2.1
          · exact ⟨k.2.2.2.1.trans k'.2.2.2.1.symm, by rw [k.2.2.2.2, k'.2.2.2.2]; exact PrE.refl _⟩
          · exact absurd k'.2.2.1 ha
        · exact absurd k.2.2.1 ha
    · rcases k with k | k | k | k
      · exact absurd hp k.1
      · rcases k' with k' | k' | k' | k'
        · exact absurd hp k'.1
        · exact ⟨k.2.2.1.trans k'.2.2.1.symm, by rw [k.2.2.2, k'.2.2.2]; exact PrE.refl _⟩
        · exact absurd k'.2.1 hn
        · exact absurd k'.2.1 hn
      · exact absurd k.2.1 hn
      · exact absurd k.2.1 hn
  · rcases k with k | k | k | k
    · rcases k' with k' | k' | k' | k'
      · exact ⟨k.2.1.trans k'.2.1.symm, by rw [k.2.2, k'.2.2]; exact PrE.refl _⟩
      · exact absurd k'.1 hp
      · exact absurd k'.1 hp
      · exact absurd k'.1 hp
    · exact absurd k.1 hp
    · exact absurd k.1 hp
    · exact absurd k.1 hp
theorem GoR.lim {P R : PrV} {nd z : Int} {a : NA} (l : PrL P) (hG : prF P = 0 → (nd = 0 ∨ nd = 1) → a.z = 0 → a.Good) (k : GoR P nd a z R) : PrL R := by
  unfold GoR at k
  rcases k with ⟨-, -, k⟩ | ⟨-, -, -, k⟩ | ⟨-, -, -, -, k⟩ | ⟨k1, k2, k3, -, k⟩
  · rw [k]; exact zPr_l
  · rw [k]; exact zPr_l
  · rw [k]; exact zPr_l
  · exact k.lim (l.gone (prB0_of k1) (hG k1 k2 k3) _)
theorem set10g {w : World} {B : Nat} {P Q : PrV} {nd pe az ct : Int} {ke : Bool} {dA : Option Addr} {dn dc : Nat} {ek ep : Int} {eA : Option Addr} {en ec : Nat} {yA : Option Addr} {yn yc : Nat} (h : Blk w B 86 (pcCs P nd pe az ct ke dA dn dc ek ep eA en ec yA yn yc)) : Blk ((((((((((w.setCell ⟨B, 0, none⟩ (.int .i64 Q.sa)).setCell ⟨B, 1, none⟩ (.int .i64 Q.si)).setCell ⟨B, 2, none⟩ (.int .i64 Q.ho)).setCell ⟨B, 3, none⟩ (.int .i64 Q.nx)).setCell ⟨B, 4, none⟩ (.slice Q.a1 Q.n1 Q.c1)).setCell ⟨B, 5, none⟩ (.slice Q.a2 Q.n2 Q.c2)).setCell ⟨B, 6, none⟩ (.slice Q.aN Q.nN Q.cN)).setCell ⟨B, 7, none⟩ (.slice Q.aW Q.nW Q.cW)).setCell ⟨B, 8, none⟩ (.slice Q.aM Q.nM Q.cM)).setCell ⟨B, 9, none⟩ (.slice Q.aS Q.nS Q.cS)) B 86 (pcCs Q nd pe az ct ke dA dn dc ek ep eA en ec yA yn yc) := by
  have h1 := ((((((((((h.set 0 (.int .i64 Q.sa)).set 1 (.int .i64 Q.si)).set 2 (.int .i64 Q.ho)).set 3 (.int .i64 Q.nx)).set 4 (.slice Q.a1 Q.n1 Q.c1)).set 5 (.slice Q.a2 Q.n2 Q.c2)).set 6 (.slice Q.aN Q.nN Q.cN)).set 7 (.slice Q.aW Q.nW Q.cW)).set 8 (.slice Q.aM Q.nM Q.cM)).set 9 (.slice Q.aS Q.nS Q.cS))
  simpa [pcCs] using h1
/-- A node of a pair of the call's own, as it lies. -/
theorem PrOw.node {w : World} {b0 b1 k : Nat} {col : Nat → Nat} {P : PrV} {v : NdV} (h : PrOw w b0 b1 col P) (hv : P.VN[k]? = some v) (hl : P.VN.length = P.nN) : ∃ g, P.aN = some ⟨g, 0, none⟩ ∧ (∀ j, j < 9 → w.cell? ⟨g, k * 9 + j, none⟩ = v.cs[j]?) ∧ LgAt w v.A v.V ∧ NlK v.V ∧ FitK v.A v.V.length v.c := by
  have hk := (List.getElem?_eq_some_iff.1 hv).1
  rcases h.oN with ⟨-, -, -, e⟩ | ⟨g, A, B, e, q⟩
  · rw [e] at hk; simp at hk
  · refine ⟨g, e, fun j hj => ?_, (q.own k v hv).lg.1, (q.own k v hv).nl, owl_fit (q.own k v hv)⟩
    rw [World.ownsRow.cellAt q.row (k * 9 + j) (by omega)]
    exact cellsNd_get _ k v hv j hj

end Go.Proofs.YtdbnmkffinhdjaaGreat
