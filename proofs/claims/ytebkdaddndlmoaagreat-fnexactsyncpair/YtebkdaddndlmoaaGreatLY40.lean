/- What is proved here: lemmas and contracts that the text of the law reaches; each names its own conditions. -/
import Derived.Test.YtebkdaddndlmoaaGreatLY36
import Derived.Test.YtebkdaddndlmoaaGreatLY37
import Derived.Test.YtebkdaddndlmoaaGreatLY38
import Derived.Test.YtebkdaddndlmoaaGreatLY33
import Derived.Test.YtebkdaddndlmoaaGreatLY39
namespace Go.Proofs.YtebkdaddndlmoaaGreat
open Go.ChangeShapes Go.WideShapes Go.ChangeAt Go.RowKit Go.Deep Go.Sort
set_option linter.unusedVariables false
set_option linter.unusedSimpArgs false
set_option maxRecDepth 100000
set_option maxHeartbeats 25600000

def syG : NdR → NA := fun x => match x with
  | (id, up, ro, ep, su, ma, ot, co, L) => if up = false then NA.bad 10 else if ro = 1 then ⟨0, id, up, 1, ep, L.length, ma, ot, max co (min (L.length : Int) ot), L, []⟩ else if ep = 0 then ⟨0, id, up, ro, 0, L.length, ma, ot, co, L, []⟩ else ⟨0, id, up, ro, ep, L.length, ma, ot, co, L, [⟨2, 1 - id, ep, ma, 0, false, ⟨0, 0, 0, []⟩⟩]⟩
theorem syG_good {v : NdV} (h : nF v.id v.up v.ro v.ep v.su v.ma v.ot v.co v.V.length (v.V.map EkV.r) = 0) (hz : (syG v.r).z = 0) : (syG v.r).Good := by
  have k1 := nF_ok _ _ _ _ _ _ _ _ _ _ h
  have hl := (ln60 h).2
  have c0 := k1.2.2.2.1.2.2.2.1
  have c1 := k1.2.2.2.1.2.2.2.2
  have c2 := k1.2.2.2.1.1.2
  have o1 := k1.2.2.2.1.2.2.1
  have T : ∀ U : List EkV, U.map EkV.r = v.V.map EkV.r → totK U ≤ 1000000 := fun U hU => Nat.le_trans (tot_of h hU) (by decide)
  have ll : (v.V.map EkV.r).length = v.V.length := List.length_map ..
  by_cases hu : v.up = false
  · simp [syG, NdV.r, hu, NA.bad] at hz
  by_cases hr : v.ro = 1
  · have e : syG v.r = ⟨0, v.id, v.up, 1, v.ep, (v.V.map EkV.r).length, v.ma, v.ot, max v.co (min ((v.V.map EkV.r).length : Int) v.ot), v.V.map EkV.r, []⟩ := by simp [syG, NdV.r, hu, hr]
    rw [e]
    refine ⟨?_, ?_, ?_, T, Nat.zero_le _, fun m hm => by cases hm⟩
    · show 0 ≤ max v.co (min ((v.V.map EkV.r).length : Int) v.ot)
      omega
    · show max v.co (min ((v.V.map EkV.r).length : Int) v.ot) ≤ ((v.V.map EkV.r).length : Int)
      rw [ll]; omega
    · show (v.V.map EkV.r).length ≤ 200
      omega
  by_cases he : v.ep = 0
  · have e : syG v.r = ⟨0, v.id, v.up, v.ro, 0, (v.V.map EkV.r).length, v.ma, v.ot, v.co, v.V.map EkV.r, []⟩ := by simp [syG, NdV.r, hu, hr, he]
    rw [e]
    refine ⟨c0, ?_, ?_, T, Nat.zero_le _, fun m hm => by cases hm⟩
    · show v.co ≤ ((v.V.map EkV.r).length : Int)
      rw [ll]; omega
    · show (v.V.map EkV.r).length ≤ 200
      omega
  · have e : syG v.r = ⟨0, v.id, v.up, v.ro, v.ep, (v.V.map EkV.r).length, v.ma, v.ot, v.co, v.V.map EkV.r, [⟨2, 1 - v.id, v.ep, v.ma, 0, false, ⟨0, 0, 0, []⟩⟩]⟩ := by simp [syG, NdV.r, hu, hr, he]
    rw [e]
    refine ⟨c0, ?_, ?_, T, Nat.le_refl _, fun m hm => ?_⟩
    · show v.co ≤ ((v.V.map EkV.r).length : Int)
      rw [ll]; omega
    · show (v.V.map EkV.r).length ≤ 200
      omega
    · obtain rfl := List.mem_singleton.1 hm
      exact Nat.zero_le _
theorem syG_i {v : NdV} (h : nF v.id v.up v.ro v.ep v.su v.ma v.ot v.co v.V.length (v.V.map EkV.r) = 0) : NfC 129 [] (fun _ => True) v (syG v.r) := by
  intro A c V w h1 h2 h3 h4 _
  obtain ⟨hf, hl⟩ := nF_like h h4
  have hm := (ln60 h).2
  have ll : (v.V.map EkV.r).length = V.length := by rw [List.length_map]; exact hl.symm
  have k1 := nF_ok _ _ _ _ _ _ _ _ _ _ h
  by_cases hu : v.up = false
  · have e : syG v.r = NA.bad 10 := by simp [syG, NdV.r, hu]
    rw [e]
    exact iSync_f v.id v.up v.ro v.ep v.su v.ma v.ot v.co A V.length c V w h1 h2 rfl (by omega) 10 (by rw [hf, hu]; rfl) (by decide)
  have hu' : uF v.up (nF v.id v.up v.ro v.ep v.su v.ma v.ot v.co V.length (V.map EkV.r)) = 0 := by
    rw [hf]; unfold uF; simp [hu]
  by_cases hr : v.ro = 1
  · have e : syG v.r = ⟨0, v.id, v.up, 1, v.ep, V.length, v.ma, v.ot, max v.co (min (V.length : Int) v.ot), V.map EkV.r, []⟩ := by rw [h4]; simp [syG, NdV.r, hu, hr, hl]
    rw [e]
    rw [hr] at hu' ⊢
    exact iSync_a v.id v.up v.ep v.su v.ma v.ot v.co A V.length c V w h1 h2 rfl (by omega) hu'
  by_cases he : v.ep = 0
  · have e : syG v.r = ⟨0, v.id, v.up, v.ro, 0, V.length, v.ma, v.ot, v.co, V.map EkV.r, []⟩ := by rw [h4]; simp [syG, NdV.r, hu, hr, he, hl]
    rw [e]
    rw [he] at hu' ⊢
    exact iSync_0 v.id v.up v.ro v.su v.ma v.ot v.co A V.length c V w h1 h2 rfl (by omega) hu' hr
  · have e : syG v.r = ⟨0, v.id, v.up, v.ro, v.ep, V.length, v.ma, v.ot, v.co, V.map EkV.r, [⟨2, 1 - v.id, v.ep, v.ma, 0, false, ⟨0, 0, 0, []⟩⟩]⟩ := by rw [h4]; simp [syG, NdV.r, hu, hr, he, hl]
    rw [e]
    exact iSync_s v.id v.up v.ro v.ep v.su v.ma v.ot v.co A V.length c V w h1 h2 rfl (by omega) hu' hr (by first | exact he | (have := k1.1.2.2.1; omega)) k1.1.1
theorem syG_s {v : NdV} (h : nF v.id v.up v.ro v.ep v.su v.ma v.ot v.co v.V.length (v.V.map EkV.r) = 0) : NfC 71 [] (fun _ => True) v (syG v.r) := by
  intro A c V w h1 h2 h3 h4 _
  obtain ⟨hf, hl⟩ := nF_like h h4
  have hm := (ln60 h).2
  have ll : (v.V.map EkV.r).length = V.length := by rw [List.length_map]; exact hl.symm
  have k1 := nF_ok _ _ _ _ _ _ _ _ _ _ h
  by_cases hu : v.up = false
  · have e : syG v.r = NA.bad 10 := by simp [syG, NdV.r, hu]
    rw [e]
    exact sSync_f v.id v.up v.ro v.ep v.su v.ma v.ot v.co A V.length c V w h1 h2 rfl (by omega) 10 (by rw [hf, hu]; rfl) (by decide)
  have hu' : uF v.up (nF v.id v.up v.ro v.ep v.su v.ma v.ot v.co V.length (V.map EkV.r)) = 0 := by
    rw [hf]; unfold uF; simp [hu]
  by_cases hr : v.ro = 1
  · have e : syG v.r = ⟨0, v.id, v.up, 1, v.ep, V.length, v.ma, v.ot, max v.co (min (V.length : Int) v.ot), V.map EkV.r, []⟩ := by rw [h4]; simp [syG, NdV.r, hu, hr, hl]
    rw [e]
    rw [hr] at hu' ⊢
    exact sSync_a v.id v.up v.ep v.su v.ma v.ot v.co A V.length c V w h1 h2 rfl (by omega) hu'
  by_cases he : v.ep = 0
  · have e : syG v.r = ⟨0, v.id, v.up, v.ro, 0, V.length, v.ma, v.ot, v.co, V.map EkV.r, []⟩ := by rw [h4]; simp [syG, NdV.r, hu, hr, he, hl]
    rw [e]
    rw [he] at hu' ⊢
    exact sSync_0 v.id v.up v.ro v.su v.ma v.ot v.co A V.length c V w h1 h2 rfl (by omega) hu' hr
  · have e : syG v.r = ⟨0, v.id, v.up, v.ro, v.ep, V.length, v.ma, v.ot, v.co, V.map EkV.r, [⟨2, 1 - v.id, v.ep, v.ma, 0, false, ⟨0, 0, 0, []⟩⟩]⟩ := by rw [h4]; simp [syG, NdV.r, hu, hr, he, hl]
    rw [e]
    exact sSync_s v.id v.up v.ro v.ep v.su v.ma v.ot v.co A V.length c V w h1 h2 rfl (by omega) hu' hr (by first | exact he | (have := k1.1.2.2.1; omega)) k1.1.1
theorem implSyL (P0 X : PrV) (nd : Int) (b0 b1 : Nat) (col : Nat → Nat) (w : World) (ho : PrOw w b0 b1 col X) (he : PrE X P0) (hl : PrL X) (g : GoodX X) : Calls Tryz.prog 25 #[.agg #[.int .i64 X.sa, .int .i64 X.si, .int .i64 X.ho, .int .i64 X.nx, .slice X.a1 X.n1 X.c1, .slice X.a2 X.n2 X.c2, .slice X.aN X.nN X.cN, .slice X.aW X.nW X.cW, .slice X.aM X.nM X.cM, .slice X.aS X.nS X.cS], .int .i64 nd] w fun e w' => ∃ z R col', e = .returned (.agg #[.int .i64 z, .slice none 0 0, .int .i64 R.sa, .int .i64 R.si, .int .i64 R.ho, .int .i64 R.nx, .slice R.a1 R.n1 R.c1, .slice R.a2 R.n2 R.c2, .slice R.aN R.nN R.cN, .slice R.aW R.nW R.cW, .slice R.aM R.nM R.cM, .slice R.aS R.nS R.cS]) ∧ GoR P0 nd (nfA (syG) P0 nd) z R ∧ PrOw w' w.heap.size w'.heap.size col' R ∧ New w w' := by
  refine (implSy X nd (nfA (syG) P0 nd) (fun _ => True) b0 b1 col w ho hl g.hN g.hc g.hW g.hM g.h1 g.h2 (fun h1 h2 => by
    obtain ⟨v, hv, hf⟩ := nd_at h1 h2
    rw [← nfA_alike he, nfA_at _ hv]
    exact ⟨v, hv, syG_good hf, syG_i hf⟩) (fun _ _ => trivial)).mono ?_
  rintro e w' ⟨z, R, col', h1, h2, h3, h4⟩
  exact ⟨z, R, col', h1, h2.to he, h3, h4⟩
theorem specSyL (P0 X : PrV) (nd : Int) (b0 b1 : Nat) (col : Nat → Nat) (w : World) (ho : PrOw w b0 b1 col X) (he : PrE X P0) (hl : PrL X) (g : GoodX X) : Calls Tryz.prog 24 #[.agg #[.int .i64 X.sa, .int .i64 X.si, .int .i64 X.ho, .int .i64 X.nx, .slice X.a1 X.n1 X.c1, .slice X.a2 X.n2 X.c2, .slice X.aN X.nN X.cN, .slice X.aW X.nW X.cW, .slice X.aM X.nM X.cM, .slice X.aS X.nS X.cS], .int .i64 nd] w fun e w' => ∃ z R col', e = .returned (.agg #[.int .i64 z, .slice none 0 0, .int .i64 R.sa, .int .i64 R.si, .int .i64 R.ho, .int .i64 R.nx, .slice R.a1 R.n1 R.c1, .slice R.a2 R.n2 R.c2, .slice R.aN R.nN R.cN, .slice R.aW R.nW R.cW, .slice R.aM R.nM R.cM, .slice R.aS R.nS R.cS]) ∧ GoR P0 nd (nfA (syG) P0 nd) z R ∧ PrOw w' w.heap.size w'.heap.size col' R ∧ New w w' := by
  refine (specSy X nd (nfA (syG) P0 nd) (fun _ => True) b0 b1 col w ho hl g.hN g.hc g.hW g.hM g.h1 g.h2 (fun h1 h2 => by
    obtain ⟨v, hv, hf⟩ := nd_at h1 h2
    rw [← nfA_alike he, nfA_at _ hv]
    exact ⟨v, hv, syG_good hf, syG_s hf⟩) (fun _ _ => trivial)).mono ?_
  rintro e w' ⟨z, R, col', h1, h2, h3, h4⟩
  exact ⟨z, R, col', h1, h2.to he, h3, h4⟩
theorem limSy {P0 R : PrV} {nd z : Int} (l : PrL P0) (k : GoR P0 nd (nfA (syG) P0 nd) z R) : PrL R :=
  k.lim l (fun h1 h2 h3 => by
    obtain ⟨v, hv, hf⟩ := nd_at h1 h2
    rw [nfA_at _ hv] at h3 ⊢
    exact syG_good hf h3)

end Go.Proofs.YtebkdaddndlmoaaGreat
