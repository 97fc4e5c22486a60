/- What is proved here: what the copying of a pair that came in answers, told as one pair. -/
import Derived.Test.YtebkdaddndlmoaaGreatP16LsQ
import Derived.Test.YtebkdaddndlmoaaGreatLB30
namespace Go.Proofs.YtebkdaddndlmoaaGreat
open Go.ChangeShapes Go.WideShapes Go.ChangeAt Go.RowKit Go.Deep Go.Sort
set_option linter.unusedVariables false
set_option linter.unusedSimpArgs false
set_option maxRecDepth 100000


theorem LoR.to {P Q R : PrV} {az z : Int} (h : PrE Q P) (k : LoR Q az z R) : LoR P az z R := by
  unfold LoR at k ⊢
  rw [prF_alike h, h.nM] at k
  rcases k with k | k | ⟨k1, k2, k3, k4⟩
  · exact .inl k
  · exact .inr (.inl k)
  · exact .inr (.inr ⟨k1, k2, k3, k4.trans (h.drop _ _ _ _ _)⟩)
theorem LoR.det {P R R' : PrV} {az z z' : Int} (k : LoR P az z R) (k' : LoR P az z' R') : z = z' ∧ PrE R R' := by
  unfold LoR at k k'
  rcases k with ⟨k1, k2, k3⟩ | ⟨k1, k2, k3, k4⟩ | ⟨k1, k2, k3, k4⟩ <;> rcases k' with ⟨m1, m2, m3⟩ | ⟨m1, m2, m3, m4⟩ | ⟨m1, m2, m3, m4⟩
  · exact ⟨k2.trans m2.symm, by rw [k3, m3]; exact PrE.refl _⟩
  · exact absurd m1 k1
  · exact absurd m1 k1
  · exact absurd k1 m1
  · exact ⟨k3.trans m3.symm, by rw [k4, m4]; exact PrE.refl _⟩
  · exact absurd m2 k2
  · exact absurd k1 m1
  · exact absurd k2 m2
  · exact ⟨k3.trans m3.symm, k4.trans m4.symm⟩
theorem LoR.lim {P R : PrV} {az z : Int} (l : PrL P) (k : LoR P az z R) : PrL R := by
  unfold LoR at k
  rcases k with ⟨-, -, k⟩ | ⟨-, -, -, k⟩ | ⟨-, k2, -, k4⟩
  · rw [k]; exact zPr_l
  · rw [k]; exact zPr_l
  · exact k4.lim (l.drop (by omega) none 0)
theorem implLoL (P0 X : PrV) (az : Int) (b0 b1 : Nat) (col : Nat → Nat) (w : World) (ho : PrOw w b0 b1 col X) (he : PrE X P0) (hl : PrL X) (g : GoodX X) : Calls Tryz.prog 23 #[.agg #[.int .i64 X.sa, .int .i64 X.si, .int .i64 X.ho, .int .i64 X.nx, .slice X.a1 X.n1 X.c1, .slice X.a2 X.n2 X.c2, .slice X.aN X.nN X.cN, .slice X.aW X.nW X.cW, .slice X.aM X.nM X.cM, .slice X.aS X.nS X.cS], .int .i64 az] w fun e w' => ∃ z R col', e = .returned (.agg #[.int .i64 z, .slice none 0 0, .int .i64 R.sa, .int .i64 R.si, .int .i64 R.ho, .int .i64 R.nx, .slice R.a1 R.n1 R.c1, .slice R.a2 R.n2 R.c2, .slice R.aN R.nN R.cN, .slice R.aW R.nW R.cW, .slice R.aM R.nM R.cM, .slice R.aS R.nS R.cS]) ∧ LoR P0 az z R ∧ PrOw w' w.heap.size w'.heap.size col' R ∧ New w w' := by
  refine (implLose16 X az b0 b1 col w ho hl g.hN g.hc g.hW g.hM g.h1 g.h2).mono ?_
  rintro e w' ⟨z, R, col', h1, h2, h3, h4⟩
  exact ⟨z, R, col', h1, h2.to he, h3, h4⟩
theorem specLoL (P0 X : PrV) (az : Int) (b0 b1 : Nat) (col : Nat → Nat) (w : World) (ho : PrOw w b0 b1 col X) (he : PrE X P0) (hl : PrL X) (g : GoodX X) : Calls Tryz.prog 22 #[.agg #[.int .i64 X.sa, .int .i64 X.si, .int .i64 X.ho, .int .i64 X.nx, .slice X.a1 X.n1 X.c1, .slice X.a2 X.n2 X.c2, .slice X.aN X.nN X.cN, .slice X.aW X.nW X.cW, .slice X.aM X.nM X.cM, .slice X.aS X.nS X.cS], .int .i64 az] w fun e w' => ∃ z R col', e = .returned (.agg #[.int .i64 z, .slice none 0 0, .int .i64 R.sa, .int .i64 R.si, .int .i64 R.ho, .int .i64 R.nx, .slice R.a1 R.n1 R.c1, .slice R.a2 R.n2 R.c2, .slice R.aN R.nN R.cN, .slice R.aW R.nW R.cW, .slice R.aM R.nM R.cM, .slice R.aS R.nS R.cS]) ∧ LoR P0 az z R ∧ PrOw w' w.heap.size w'.heap.size col' R ∧ New w w' := by
  refine (specLose16 X az b0 b1 col w ho hl g.hN g.hc g.hW g.hM g.h1 g.h2).mono ?_
  rintro e w' ⟨z, R, col', h1, h2, h3, h4⟩
  exact ⟨z, R, col', h1, h2.to he, h3, h4⟩

end Go.Proofs.YtebkdaddndlmoaaGreat
