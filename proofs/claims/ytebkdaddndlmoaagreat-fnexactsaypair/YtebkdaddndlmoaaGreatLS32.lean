/- What is proved here: what the copying of a pair that came in answers, told as one pair. -/
import Derived.Test.YtebkdaddndlmoaaGreatLS29
namespace Go.Proofs.YtebkdaddndlmoaaGreat
open Go.ChangeShapes Go.WideShapes Go.ChangeAt Go.RowKit Go.Deep Go.Sort
set_option linter.unusedVariables false
set_option linter.unusedSimpArgs false
set_option maxRecDepth 100000

/-- The pair that came in, by what it says. -/
def P0x (sa si ho nx : Int) (n1 n2 nN nW nM nS : Nat) (r1 r2 : List Ru) (LN : List NdV) (LW : List WiV) (LM : List MlV) (LS : List EkV) : PrV := ⟨sa, si, ho, nx, none, n1, 0, none, n2, 0, none, nN, 0, none, nW, 0, none, nM, 0, none, nS, 0, r1, r2, LN, LW, LM, LS⟩
structure GoodX (P : PrV) : Prop where
  hN : ∃ g, P.aN = some ⟨g, 0, none⟩
  hc : P.cN = P.nN
  hW : SomW P.VW
  hM : SomM P.VM
  h1 : ∃ g, P.a1 = some ⟨g, 0, none⟩
  h2 : ∃ g, P.a2 = some ⟨g, 0, none⟩
theorem toPrL (sa si ho nx : Int) (a1 a2 aN aW aM aS : Option Addr) (n1 c1 n2 c2 nN cN nW cW nM cM nS cS : Nat) (r1 r2 : List Ru) (LN : List NdV) (LW : List WiV) (LM : List MlV) (LS : List EkV) (w : World) (h : PCame w a1 a2 aN aW aM aS n1 n2 nN nW nM nS r1 r2 LN LW LM LS) (hs : PSm n1 n2 LN LW LM LS) :
    Calls Tryz.prog 12 #[.agg #[.int .i64 sa, .int .i64 si, .int .i64 ho, .int .i64 nx, .slice a1 n1 c1, .slice a2 n2 c2, .slice aN nN cN, .slice aW nW cW, .slice aM nM cM, .slice aS nS cS]] w fun e w' => ∃ X, e = .returned (.agg #[.int .i64 X.sa, .int .i64 X.si, .int .i64 X.ho, .int .i64 X.nx, .slice X.a1 X.n1 X.c1, .slice X.a2 X.n2 X.c2, .slice X.aN X.nN X.cN, .slice X.aW X.nW X.cW, .slice X.aM X.nM X.cM, .slice X.aS X.nS X.cS]) ∧ PrE X (P0x sa si ho nx n1 n2 nN nW nM nS r1 r2 LN LW LM LS) ∧ PrL X ∧ GoodX X ∧ (∃ col, PrOw w' w.heap.size w'.heap.size col X) ∧ New w w' := by
  have k1 := totNd_len LN; have k2 := totWi_len LW; have k3 := totMq_len LM; have k4 := totK_len LS
  have e1 := hs.mN; have e2 := hs.mW; have e3 := hs.mM; have e4 := hs.mS; have e5 := h.lN; have e6 := h.lW; have e7 := h.lM; have e8 := h.lS
  refine (toPair16 sa si ho nx a1 a2 aN aW aM aS n1 c1 n2 c2 nN cN nW cW nM cM nS cS r1 r2 LN LW LM LS w h hs).mono ?_
  rintro e w' ⟨g1, g2, gN, gW, gM, gS, VN, VW, VM, VS, rfl, pe, l1, l2, l3, l4, sW, sM, hO, hn⟩
  refine ⟨⟨sa, si, ho, nx, some ⟨g1, 0, none⟩, n1, n1, some ⟨g2, 0, none⟩, n2, n2, some ⟨gN, 0, none⟩, nN, nN, some ⟨gW, 0, none⟩, nW, nW, some ⟨gM, 0, none⟩, nM, nM, some ⟨gS, 0, none⟩, nS, nS, r1, r2, VN, VW, VM, VS⟩, rfl, ⟨rfl, rfl, rfl, rfl, rfl, rfl, rfl, rfl, rfl, rfl, rfl, rfl, pe.nd, pe.wi, pe.mq, pe.se⟩, ?_, ⟨⟨gN, rfl⟩, rfl, sW, sM, ⟨g1, rfl⟩, ⟨g2, rfl⟩⟩, hO, hn⟩
  refine ⟨h.l1, h.l2, l1, l2, l3, l4, hs.m1, hs.m2, ?_, ?_, ?_, ?_, ?_, ?_, ?_, ?_⟩
  · show nN ≤ 1048576; omega
  · show nW ≤ 1048576; omega
  · show nM ≤ 1048576; omega
  · show nS ≤ 1048576; omega
  · show totNd VN ≤ 2097152; rw [totNd_alike pe.nd]; omega
  · show totWi VW ≤ 2097152; rw [totWi_alike pe.wi]; omega
  · show totMq VM ≤ 2097152; rw [totMq_alike pe.mq]; omega
  · show totK VS ≤ 2097152; rw [totK_alike pe.se]; omega
theorem prF_alike {P Q : PrV} (h : PrE Q P) : prF Q = prF P := by
  unfold prF
  rw [h.sa, h.si, h.ho, h.nx, h.r1, h.r2, h.nd, h.wi, h.mq, h.se]
end Go.Proofs.YtebkdaddndlmoaaGreat
