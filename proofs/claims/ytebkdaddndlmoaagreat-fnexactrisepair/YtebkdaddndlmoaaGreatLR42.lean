/- What is proved here: what both sides of RisePair tell, over the pair that came in. -/
import Derived.Test.YtebkdaddndlmoaaGreatLR38
import Derived.Test.YtebkdaddndlmoaaGreatLR39
import Derived.Test.YtebkdaddndlmoaaGreatLR40
import Derived.Test.YtebkdaddndlmoaaGreatLR34
import Derived.Test.YtebkdaddndlmoaaGreatLR41
namespace Go.Proofs.YtebkdaddndlmoaaGreat
open Go.ChangeShapes Go.WideShapes Go.ChangeAt Go.RowKit Go.Deep Go.Sort
set_option linter.unusedVariables false
set_option linter.unusedSimpArgs false
set_option maxRecDepth 100000


def riG : NdR → NA := fun x => match x with
  | (id, up, ro, ep, su, ma, ot, co, L) => if up = true then NA.bad 10 else ⟨0, id, true, ro, ep, su, ma, ot, co, L, []⟩
theorem riG_good {v : NdV} (h : nF v.id v.up v.ro v.ep v.su v.ma v.ot v.co v.V.length (v.V.map EkV.r) = 0) (hz : (riG v.r).z = 0) : (riG v.r).Good := by
  have k1 := nF_ok _ _ _ _ _ _ _ _ _ _ h
  by_cases hu : v.up = true
  · simp [riG, NdV.r, hu, NA.bad] at hz
  · have e : riG v.r = ⟨0, v.id, true, v.ro, v.ep, v.su, v.ma, v.ot, v.co, v.V.map EkV.r, []⟩ := by simp [riG, NdV.r, hu]
    rw [e]
    have hl := (ln60 h).2
    refine ⟨k1.2.2.2.1.2.2.2.1, ?_, ?_, fun U hU => Nat.le_trans (tot_of h hU) (by decide), Nat.zero_le _, fun m hm => by cases hm⟩
    · show v.co ≤ ((v.V.map EkV.r).length : Int)
      rw [List.length_map]
      have h1 := k1.2.2.2.1.2.2.2.2
      have h2 := k1.2.2.2.1.1.2
      omega
    · show (v.V.map EkV.r).length ≤ 200
      rw [List.length_map]; omega
theorem riG_i {v : NdV} (h : nF v.id v.up v.ro v.ep v.su v.ma v.ot v.co v.V.length (v.V.map EkV.r) = 0) : NfC 137 [] (fun _ => True) v (riG v.r) := by
  intro A c V w h1 h2 h3 h4 _
  obtain ⟨hf, hl⟩ := nF_like h h4
  have hm := (ln60 h).2
  by_cases hu : v.up = true
  · have e : riG v.r = NA.bad 10 := by simp [riG, NdV.r, hu]
    rw [e]
    rw [hu] at hf ⊢
    exact iRise_up v.id v.ro v.ep v.su v.ma v.ot v.co A V.length c V w h1 h2 rfl (by omega) hf
  · have e : riG v.r = ⟨0, v.id, true, v.ro, v.ep, v.su, v.ma, v.ot, v.co, v.V.map EkV.r, []⟩ := by simp [riG, NdV.r, hu]
    rw [e, ← h4]
    have hu' : v.up = false := by cases hq : v.up; rfl; exact absurd hq hu
    rw [hu'] at hf ⊢
    exact iRise_ok v.id v.ro v.ep v.su v.ma v.ot v.co A V.length c V w h1 h2 rfl (by omega) hf
theorem riG_s {v : NdV} (h : nF v.id v.up v.ro v.ep v.su v.ma v.ot v.co v.V.length (v.V.map EkV.r) = 0) : NfC 77 [] (fun _ => True) v (riG v.r) := by
  intro A c V w h1 h2 h3 h4 _
  obtain ⟨hf, hl⟩ := nF_like h h4
  have hm := (ln60 h).2
  by_cases hu : v.up = true
  · have e : riG v.r = NA.bad 10 := by simp [riG, NdV.r, hu]
    rw [e]
    rw [hu] at hf ⊢
    exact sRise_up v.id v.ro v.ep v.su v.ma v.ot v.co A V.length c V w h1 h2 rfl (by omega) hf
  · have e : riG v.r = ⟨0, v.id, true, v.ro, v.ep, v.su, v.ma, v.ot, v.co, v.V.map EkV.r, []⟩ := by simp [riG, NdV.r, hu]
    rw [e, ← h4]
    have hu' : v.up = false := by cases hq : v.up; rfl; exact absurd hq hu
    rw [hu'] at hf ⊢
    exact sRise_ok v.id v.ro v.ep v.su v.ma v.ot v.co A V.length c V w h1 h2 rfl (by omega) hf
theorem implRiL (P0 X : PrV) (nd : Int) (b0 b1 : Nat) (col : Nat → Nat) (w : World) (ho : PrOw w b0 b1 col X) (he : PrE X P0) (hl : PrL X) (g : GoodX X) : Calls Tryz.prog 31 #[.agg #[.int .i64 X.sa, .int .i64 X.si, .int .i64 X.ho, .int .i64 X.nx, .slice X.a1 X.n1 X.c1, .slice X.a2 X.n2 X.c2, .slice X.aN X.nN X.cN, .slice X.aW X.nW X.cW, .slice X.aM X.nM X.cM, .slice X.aS X.nS X.cS], .int .i64 nd] w fun e w' => ∃ z R col', e = .returned (.agg #[.int .i64 z, .slice none 0 0, .int .i64 R.sa, .int .i64 R.si, .int .i64 R.ho, .int .i64 R.nx, .slice R.a1 R.n1 R.c1, .slice R.a2 R.n2 R.c2, .slice R.aN R.nN R.cN, .slice R.aW R.nW R.cW, .slice R.aM R.nM R.cM, .slice R.aS R.nS R.cS]) ∧ GoR P0 nd (nfA (riG) P0 nd) z R ∧ PrOw w' w.heap.size w'.heap.size col' R ∧ New w w' := by
  refine (implRi X nd (nfA (riG) P0 nd) (fun _ => True) b0 b1 col w ho hl g.hN g.hc g.hW g.hM g.h1 g.h2 (fun h1 h2 => by
    obtain ⟨v, hv, hf⟩ := nd_at h1 h2
    rw [← nfA_alike he, nfA_at _ hv]
    exact ⟨v, hv, riG_good hf, riG_i hf⟩) (fun _ _ => trivial)).mono ?_
  rintro e w' ⟨z, R, col', h1, h2, h3, h4⟩
  exact ⟨z, R, col', h1, h2.to he, h3, h4⟩
theorem specRiL (P0 X : PrV) (nd : Int) (b0 b1 : Nat) (col : Nat → Nat) (w : World) (ho : PrOw w b0 b1 col X) (he : PrE X P0) (hl : PrL X) (g : GoodX X) : Calls Tryz.prog 30 #[.agg #[.int .i64 X.sa, .int .i64 X.si, .int .i64 X.ho, .int .i64 X.nx, .slice X.a1 X.n1 X.c1, .slice X.a2 X.n2 X.c2, .slice X.aN X.nN X.cN, .slice X.aW X.nW X.cW, .slice X.aM X.nM X.cM, .slice X.aS X.nS X.cS], .int .i64 nd] w fun e w' => ∃ z R col', e = .returned (.agg #[.int .i64 z, .slice none 0 0, .int .i64 R.sa, .int .i64 R.si, .int .i64 R.ho, .int .i64 R.nx, .slice R.a1 R.n1 R.c1, .slice R.a2 R.n2 R.c2, .slice R.aN R.nN R.cN, .slice R.aW R.nW R.cW, .slice R.aM R.nM R.cM, .slice R.aS R.nS R.cS]) ∧ GoR P0 nd (nfA (riG) P0 nd) z R ∧ PrOw w' w.heap.size w'.heap.size col' R ∧ New w w' := by
  refine (specRi X nd (nfA (riG) P0 nd) (fun _ => True) b0 b1 col w ho hl g.hN g.hc g.hW g.hM g.h1 g.h2 (fun h1 h2 => by
    obtain ⟨v, hv, hf⟩ := nd_at h1 h2
    rw [← nfA_alike he, nfA_at _ hv]
    exact ⟨v, hv, riG_good hf, riG_s hf⟩) (fun _ _ => trivial)).mono ?_
  rintro e w' ⟨z, R, col', h1, h2, h3, h4⟩
  exact ⟨z, R, col', h1, h2.to he, h3, h4⟩
theorem limRi {P0 R : PrV} {nd z : Int} (l : PrL P0) (k : GoR P0 nd (nfA (riG) P0 nd) z R) : PrL R :=
  k.lim l (fun h1 h2 h3 => by
    obtain ⟨v, hv, hf⟩ := nd_at h1 h2
    rw [nfA_at _ hv] at h3 ⊢
    exact riG_good hf h3)

end Go.Proofs.YtebkdaddndlmoaaGreat
