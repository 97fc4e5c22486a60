/- Lemmas and contracts of one law. -/
import Derived.Test.YtebkdaddndlmoaaGreatLP35
import Derived.Test.YtebkdaddndlmoaaGreatLP36
import Derived.Test.YtebkdaddndlmoaaGreatLP37
import Derived.Test.YtebkdaddndlmoaaGreatLP32
import Derived.Test.YtebkdaddndlmoaaGreatLP38
import Derived.Test.YtebkdaddndlmoaaGreatLP39
namespace Go.Proofs.YtebkdaddndlmoaaGreat
open Go.ChangeShapes Go.WideShapes Go.ChangeAt Go.RowKit Go.Deep Go.Sort
set_option linter.unusedVariables false
set_option linter.unusedSimpArgs false
set_option maxRecDepth 100000
set_option maxHeartbeats 25600000

def spG : NdR → NA := fun x => match x with
  | (id, up, ro, ep, su, ma, ot, co, L) => if up = false then NA.bad 10 else if ro ≠ 1 then NA.bad 10 else match L[ot.toNat]? with
    | some en => ⟨0, id, up, ro, ep, su, ma, ot, co, L, [⟨1, 1 - id, ep, ot, prevE L ot.toNat, true, en⟩]⟩
    | none => ⟨0, id, up, ro, ep, su, ma, ot, co, L, [⟨1, 1 - id, ep, ot, prevE L ot.toNat, false, ⟨0, 0, 0, []⟩⟩]⟩
theorem spG_eq {v : NdV} (hu : ¬ v.up = false) (hr : v.ro = 1) : spG v.r = match (v.V.map EkV.r)[v.ot.toNat]? with
    | some en => ⟨0, v.id, v.up, v.ro, v.ep, v.su, v.ma, v.ot, v.co, v.V.map EkV.r, [⟨1, 1 - v.id, v.ep, v.ot, prevE (v.V.map EkV.r) v.ot.toNat, true, en⟩]⟩
    | none => ⟨0, v.id, v.up, v.ro, v.ep, v.su, v.ma, v.ot, v.co, v.V.map EkV.r, [⟨1, 1 - v.id, v.ep, v.ot, prevE (v.V.map EkV.r) v.ot.toNat, false, ⟨0, 0, 0, []⟩⟩]⟩ := by
  show (if v.up = false then NA.bad 10 else if v.ro ≠ 1 then NA.bad 10 else _) = _
  rw [if_neg hu, if_neg (fun h => h hr)]
theorem spG_bad {v : NdV} (h : v.up = false ∨ ¬ v.ro = 1) : spG v.r = NA.bad 10 := by
  show (if v.up = false then NA.bad 10 else if v.ro ≠ 1 then NA.bad 10 else _) = _
  by_cases hu : v.up = false
  · rw [if_pos hu]
  · rw [if_neg hu, if_pos (h.resolve_left hu)]
theorem spG_good {v : NdV} (h : nF v.id v.up v.ro v.ep v.su v.ma v.ot v.co v.V.length (v.V.map EkV.r) = 0) (hz : (spG v.r).z = 0) : (spG v.r).Good := by
  have k1 := nF_ok _ _ _ _ _ _ _ _ _ _ h
  have hl := (ln60 h).2
  have c0 := k1.2.2.2.1.2.2.2.1
  have c1 := k1.2.2.2.1.2.2.2.2
  have c2 := k1.2.2.2.1.1.2
  have T : ∀ U : List EkV, U.map EkV.r = v.V.map EkV.r → totK U ≤ 1000000 := fun U hU => Nat.le_trans (tot_of h hU) (by decide)
  have ll : (v.V.map EkV.r).length = v.V.length := List.length_map ..
  by_cases hb : v.up = false ∨ ¬ v.ro = 1
  · rw [spG_bad hb] at hz; simp [NA.bad] at hz
  have hu : ¬ v.up = false := fun q => hb (.inl q)
  have hr : v.ro = 1 := Decidable.of_not_not (fun q => hb (.inr q))
  rw [spG_eq hu hr]
  have C1 : v.co ≤ ((v.V.map EkV.r).length : Int) := by rw [ll]; omega
  have C2 : (v.V.map EkV.r).length ≤ 200 := by omega
  rcases hq : (v.V.map EkV.r)[v.ot.toNat]? with _ | en
  · exact ⟨c0, C1, C2, T, Nat.le_refl _, fun m hm => by obtain rfl := List.mem_singleton.1 hm; exact Nat.zero_le _⟩
  · refine ⟨c0, C1, C2, T, Nat.le_refl _, fun m hm => ?_⟩
    obtain rfl := List.mem_singleton.1 hm
    have := lgF_en16 k1.2.2.1 en (List.mem_of_getElem? hq)
    show en.xs.length ≤ 1000
    omega
theorem spG_i {v : NdV} (h : nF v.id v.up v.ro v.ep v.su v.ma v.ot v.co v.V.length (v.V.map EkV.r) = 0) : NfC 134 [] (fun _ => True) v (spG v.r) := by
  intro A c V w h1 h2 h3 h4 _
  obtain ⟨hf, hl⟩ := nF_like h h4
  have hm := (ln60 h).2
  have k1 := nF_ok _ _ _ _ _ _ _ _ _ _ h
  by_cases hb : v.up = false ∨ ¬ v.ro = 1
  · rw [spG_bad hb]
    refine iSpread_f v.id v.up v.ro v.ep v.su v.ma v.ot v.co A V.length c V w h1 h2 rfl (by omega) 10 ?_ (by decide)
    rw [hf]
    unfold aF uF
    rcases hb with hb | hb
    · simp [hb]
    · by_cases hu : v.up = false
      · simp [hu]
      · simp [hu, hb]
  have hu : ¬ v.up = false := fun q => hb (.inl q)
  have hr : v.ro = 1 := Decidable.of_not_not (fun q => hb (.inr q))
  have ha : aF v.up v.ro (nF v.id v.up v.ro v.ep v.su v.ma v.ot v.co V.length (V.map EkV.r)) = 0 := by
    rw [hf]; unfold aF uF; simp [hu, hr]
  have o0 := k1.2.2.2.1.2.2.1
  rw [spG_eq hu hr, ← h4]
  obtain ⟨o, ho⟩ : ∃ o : Nat, v.ot = o := ⟨v.ot.toNat, by omega⟩
  have hto : v.ot.toNat = o := by omega
  rw [hto]
  rw [ho] at ha ⊢
  rcases hq : (V.map EkV.r)[o]? with _ | en
  · have h5 : V.length ≤ o := by
      have := List.getElem?_eq_none_iff.1 hq
      rw [List.length_map] at this; exact this
    exact iSpread_fk v.id v.up v.ro v.ep v.su v.ma o v.co A V.length c V w h1 h2 rfl (by omega) ha k1.1.1 h5 (by omega)
  · have h5 : o < V.length := by
      have := (List.getElem?_eq_some_iff.1 hq).1
      rw [List.length_map] at this; exact this
    exact iSpread_tk v.id v.up v.ro v.ep v.su v.ma o v.co A V.length c V w h1 h2 rfl (by omega) ha k1.1.1 h5 en hq
theorem spG_s {v : NdV} (h : nF v.id v.up v.ro v.ep v.su v.ma v.ot v.co v.V.length (v.V.map EkV.r) = 0) : NfC 73 [] (fun _ => True) v (spG v.r) := by
  intro A c V w h1 h2 h3 h4 _
  obtain ⟨hf, hl⟩ := nF_like h h4
  have hm := (ln60 h).2
  have k1 := nF_ok _ _ _ _ _ _ _ _ _ _ h
  by_cases hb : v.up = false ∨ ¬ v.ro = 1
  · rw [spG_bad hb]
    refine sSpread_f v.id v.up v.ro v.ep v.su v.ma v.ot v.co A V.length c V w h1 h2 rfl (by omega) 10 ?_ (by decide)
    rw [hf]
    unfold aF uF
    rcases hb with hb | hb
    · simp [hb]
    · by_cases hu : v.up = false
      · simp [hu]
      · simp [hu, hb]
  have hu : ¬ v.up = false := fun q => hb (.inl q)
  have hr : v.ro = 1 := Decidable.of_not_not (fun q => hb (.inr q))
  have ha : aF v.up v.ro (nF v.id v.up v.ro v.ep v.su v.ma v.ot v.co V.length (V.map EkV.r)) = 0 := by
    rw [hf]; unfold aF uF; simp [hu, hr]
  have o0 := k1.2.2.2.1.2.2.1
  rw [spG_eq hu hr, ← h4]
  obtain ⟨o, ho⟩ : ∃ o : Nat, v.ot = o := ⟨v.ot.toNat, by omega⟩
  have hto : v.ot.toNat = o := by omega
  rw [hto]
  rw [ho] at ha ⊢
  rcases hq : (V.map EkV.r)[o]? with _ | en
  · have h5 : V.length ≤ o := by
      have := List.getElem?_eq_none_iff.1 hq
      rw [List.length_map] at this; exact this
    exact sSpread_fk v.id v.up v.ro v.ep v.su v.ma o v.co A V.length c V w h1 h2 rfl (by omega) ha k1.1.1 h5 (by omega)
  · have h5 : o < V.length := by
      have := (List.getElem?_eq_some_iff.1 hq).1
      rw [List.length_map] at this; exact this
    exact sSpread_tk v.id v.up v.ro v.ep v.su v.ma o v.co A V.length c V w h1 h2 rfl (by omega) ha k1.1.1 h5 en hq
theorem implSpL (P0 X : PrV) (nd : Int) (b0 b1 : Nat) (col : Nat → Nat) (w : World) (ho : PrOw w b0 b1 col X) (he : PrE X P0) (hl : PrL X) (g : GoodX X) : Calls Tryz.prog 27 #[.agg #[.int .i64 X.sa, .int .i64 X.si, .int .i64 X.ho, .int .i64 X.nx, .slice X.a1 X.n1 X.c1, .slice X.a2 X.n2 X.c2, .slice X.aN X.nN X.cN, .slice X.aW X.nW X.cW, .slice X.aM X.nM X.cM, .slice X.aS X.nS X.cS], .int .i64 nd] w fun e w' => ∃ z R col', e = .returned (.agg #[.int .i64 z, .slice none 0 0, .int .i64 R.sa, .int .i64 R.si, .int .i64 R.ho, .int .i64 R.nx, .slice R.a1 R.n1 R.c1, .slice R.a2 R.n2 R.c2, .slice R.aN R.nN R.cN, .slice R.aW R.nW R.cW, .slice R.aM R.nM R.cM, .slice R.aS R.nS R.cS]) ∧ GoR P0 nd (nfA (spG) P0 nd) z R ∧ PrOw w' w.heap.size w'.heap.size col' R ∧ New w w' := by
  refine (implSp X nd (nfA (spG) P0 nd) (fun _ => True) b0 b1 col w ho hl g.hN g.hc g.hW g.hM g.h1 g.h2 (fun h1 h2 => by
    obtain ⟨v, hv, hf⟩ := nd_at h1 h2
    rw [← nfA_alike he, nfA_at _ hv]
    exact ⟨v, hv, spG_good hf, spG_i hf⟩) (fun _ _ => trivial)).mono ?_
  rintro e w' ⟨z, R, col', h1, h2, h3, h4⟩
  exact ⟨z, R, col', h1, h2.to he, h3, h4⟩
theorem specSpL (P0 X : PrV) (nd : Int) (b0 b1 : Nat) (col : Nat → Nat) (w : World) (ho : PrOw w b0 b1 col X) (he : PrE X P0) (hl : PrL X) (g : GoodX X) : Calls Tryz.prog 26 #[.agg #[.int .i64 X.sa, .int .i64 X.si, .int .i64 X.ho, .int .i64 X.nx, .slice X.a1 X.n1 X.c1, .slice X.a2 X.n2 X.c2, .slice X.aN X.nN X.cN, .slice X.aW X.nW X.cW, .slice X.aM X.nM X.cM, .slice X.aS X.nS X.cS], .int .i64 nd] w fun e w' => ∃ z R col', e = .returned (.agg #[.int .i64 z, .slice none 0 0, .int .i64 R.sa, .int .i64 R.si, .int .i64 R.ho, .int .i64 R.nx, .slice R.a1 R.n1 R.c1, .slice R.a2 R.n2 R.c2, .slice R.aN R.nN R.cN, .slice R.aW R.nW R.cW, .slice R.aM R.nM R.cM, .slice R.aS R.nS R.cS]) ∧ GoR P0 nd (nfA (spG) P0 nd) z R ∧ PrOw w' w.heap.size w'.heap.size col' R ∧ New w w' := by
  refine (specSp X nd (nfA (spG) P0 nd) (fun _ => True) b0 b1 col w ho hl g.hN g.hc g.hW g.hM g.h1 g.h2 (fun h1 h2 => by
    obtain ⟨v, hv, hf⟩ := nd_at h1 h2
    rw [← nfA_alike he, nfA_at _ hv]
    exact ⟨v, hv, spG_good hf, spG_s hf⟩) (fun _ _ => trivial)).mono ?_
  rintro e w' ⟨z, R, col', h1, h2, h3, h4⟩
  exact ⟨z, R, col', h1, h2.to he, h3, h4⟩
theorem limSp {P0 R : PrV} {nd z : Int} (l : PrL P0) (k : GoR P0 nd (nfA (spG) P0 nd) z R) : PrL R :=
  k.lim l (fun h1 h2 h3 => by
    obtain ⟨v, hv, hf⟩ := nd_at h1 h2
    rw [nfA_at _ hv] at h3 ⊢
    exact spG_good hf h3)

end Go.Proofs.YtebkdaddndlmoaaGreat
