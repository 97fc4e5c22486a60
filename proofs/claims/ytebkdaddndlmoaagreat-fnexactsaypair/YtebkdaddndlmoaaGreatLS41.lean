/- What is proved here: what both sides of SayPair tell, over the pair that came in. -/
import Derived.Test.YtebkdaddndlmoaaGreatLS40
import Derived.Test.YtebkdaddndlmoaaGreatLS32
namespace Go.Proofs.YtebkdaddndlmoaaGreat
open Go.ChangeShapes Go.WideShapes Go.ChangeAt Go.RowKit Go.Deep Go.Sort
set_option linter.unusedVariables false
set_option linter.unusedSimpArgs false
set_option maxRecDepth 100000


/-- What the wire of a pair answers to what its peer says. -/
def saA (P : PrV) (pe : Int) (us : List Int) : Wr :=
  match P.VW[pe.toNat]? with
  | some v => psA v.E v.T v.xs v.ys us
  | none => Wr.bad 0
theorem saA_alike {P Q : PrV} (h : PrE Q P) (pe : Int) (us : List Int) : saA Q pe us = saA P pe us := by
  have h1 := congrArg (fun L => L[pe.toNat]?) h.wi
  simp only [List.getElem?_map] at h1
  unfold saA
  rcases hq : Q.VW[pe.toNat]? with _ | u
  · rcases hp : P.VW[pe.toNat]? with _ | v
    · rfl
    · rw [hq, hp] at h1; simp at h1
  · rcases hp : P.VW[pe.toNat]? with _ | v
    · rw [hq, hp] at h1; simp at h1
    · rw [hq, hp] at h1
      simp only [Option.map_some, Option.some.injEq, WiV.r, Prod.mk.injEq] at h1
      obtain ⟨e1, e2, e3, e4⟩ := h1
      simp only [e1, e2, e3, e4]
theorem saA_at {P : PrV} {pe : Int} (us : List Int) (h : prF P = 0) (hp : P9 pe) : ∃ v, P.VW[pe.toNat]? = some v ∧ psA v.E v.T v.xs v.ys us = saA P pe us := by
  have hl := (prB0_of h).lW
  have hk : pe.toNat < P.VW.length := by have := hp.1; have := hp.2; omega
  refine ⟨P.VW[pe.toNat], List.getElem?_eq_getElem hk, ?_⟩
  unfold saA
  rw [List.getElem?_eq_getElem hk]
theorem saA_len {P : PrV} {pe : Int} {us : List Int} (h : prF P = 0) (hp : P9 pe) (hz : (saA P pe us).z = 0) : (saA P pe us).Z.length ≤ 2000 ∧ (saA P pe us).Y.length ≤ 2000 := by
  obtain ⟨v, hv, e⟩ := saA_at us h hp
  rw [← e] at hz ⊢
  obtain ⟨h1, h2, h3⟩ := psA_ok hz
  rw [h2]
  exact ⟨by show (v.xs ++ us).length ≤ 2000; rw [List.length_append]; omega, (wF_len h1).2⟩
theorem implSaL (P0 X : PrV) (pe : Int) (us : List Int) (dA : Option Addr) (dc : Nat) (b0 b1 : Nat) (col : Nat → Nat) (w : World) (ho : PrOw w b0 b1 col X) (he : PrE X P0) (hl : PrL X) (g : GoodX X) (hu : BsAt w dA us) (hnu : dA = none → us.length = 0 ∧ dc = 0) (hum : us.length ≤ 1048576) : Calls Tryz.prog 14 #[.agg #[.int .i64 X.sa, .int .i64 X.si, .int .i64 X.ho, .int .i64 X.nx, .slice X.a1 X.n1 X.c1, .slice X.a2 X.n2 X.c2, .slice X.aN X.nN X.cN, .slice X.aW X.nW X.cW, .slice X.aM X.nM X.cM, .slice X.aS X.nS X.cS], .int .i64 pe, .slice dA us.length dc] w fun e w' => ∃ z R col', e = .returned (.agg #[.int .i64 z, .slice none 0 0, .int .i64 R.sa, .int .i64 R.si, .int .i64 R.ho, .int .i64 R.nx, .slice R.a1 R.n1 R.c1, .slice R.a2 R.n2 R.c2, .slice R.aN R.nN R.cN, .slice R.aW R.nW R.cW, .slice R.aM R.nM R.cM, .slice R.aS R.nS R.cS]) ∧ SaR P0 pe (saA P0 pe us) z R ∧ PrOw w' w.heap.size w'.heap.size col' R ∧ New w w' := by
  refine (implSa X pe us dA dc (saA P0 pe us) b0 b1 col w ho hl g.hN g.hc g.hW g.hM g.h1 g.h2 hu hnu hum (fun h1 h2 => by rw [← saA_alike he]; exact saA_at us h1 h2)).mono ?_
  rintro e w' ⟨z, R, col', h1, h2, h3, h4⟩
  exact ⟨z, R, col', h1, h2.to he, h3, h4⟩
theorem specSaL (P0 X : PrV) (pe : Int) (us : List Int) (dA : Option Addr) (dc : Nat) (b0 b1 : Nat) (col : Nat → Nat) (w : World) (ho : PrOw w b0 b1 col X) (he : PrE X P0) (hl : PrL X) (g : GoodX X) (hu : BsAt w dA us) (hnu : dA = none → us.length = 0 ∧ dc = 0) (hum : us.length ≤ 1048576) : Calls Tryz.prog 11 #[.agg #[.int .i64 X.sa, .int .i64 X.si, .int .i64 X.ho, .int .i64 X.nx, .slice X.a1 X.n1 X.c1, .slice X.a2 X.n2 X.c2, .slice X.aN X.nN X.cN, .slice X.aW X.nW X.cW, .slice X.aM X.nM X.cM, .slice X.aS X.nS X.cS], .int .i64 pe, .slice dA us.length dc] w fun e w' => ∃ z R col', e = .returned (.agg #[.int .i64 z, .slice none 0 0, .int .i64 R.sa, .int .i64 R.si, .int .i64 R.ho, .int .i64 R.nx, .slice R.a1 R.n1 R.c1, .slice R.a2 R.n2 R.c2, .slice R.aN R.nN R.cN, .slice R.aW R.nW R.cW, .slice R.aM R.nM R.cM, .slice R.aS R.nS R.cS]) ∧ SaR P0 pe (saA P0 pe us) z R ∧ PrOw w' w.heap.size w'.heap.size col' R ∧ New w w' := by
  refine (specSa X pe us dA dc (saA P0 pe us) b0 b1 col w ho hl g.hN g.hc g.hW g.hM g.h1 g.h2 hu hnu hum (fun h1 h2 => by rw [← saA_alike he]; exact saA_at us h1 h2)).mono ?_
  rintro e w' ⟨z, R, col', h1, h2, h3, h4⟩
  exact ⟨z, R, col', h1, h2.to he, h3, h4⟩

end Go.Proofs.YtebkdaddndlmoaaGreat
