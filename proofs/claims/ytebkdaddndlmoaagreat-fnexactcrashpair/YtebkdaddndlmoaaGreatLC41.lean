/- What is proved here: lemmas and contracts that the text of the law reaches; each names its own conditions. -/
import Derived.Test.YtebkdaddndlmoaaGreatLC38
import Derived.Test.YtebkdaddndlmoaaGreatLC36
import Derived.Test.YtebkdaddndlmoaaGreatLC37
import Derived.Test.YtebkdaddndlmoaaGreatLC32
import Derived.Test.YtebkdaddndlmoaaGreatLC39
import Derived.Test.YtebkdaddndlmoaaGreatLC40
namespace Go.Proofs.YtebkdaddndlmoaaGreat
open Go.RowKit Go.Sort
set_option linter.unusedVariables false
set_option linter.unusedSimpArgs false
set_option maxRecDepth 100000
set_option maxHeartbeats 25600000

theorem iCrash_fA (id : Int) (up : Bool) (ro ep su ma ot co : Int) (A : Option Addr) (n c : Nat) (V : List EkV) (w : World) (h : LgAt w A V) (hN : NlK V) (hn : V.length = n) (hm : n ≤ 2097152) (xk : Int) (z : Int) (hf : uF up (nF id up ro ep su ma ot co n (V.map EkV.r)) = z) (hz : ¬ z = 0) :
    Calls Tryz.prog 135 #[.agg #[.int .i64 id, .bool up, .int .i64 ro, .int .i64 ep, .slice A n c, .int .i64 su, .int .i64 ma, .int .i64 ot, .int .i64 co], .int .i64 xk] w (NrAns w z 0 false 0 0 0 0 0 0 [] []) := by
  have hw := ((New.refl w).alloc (.cells #[.int .i64 id, .bool up, .int .i64 ro, .int .i64 ep, .slice A n c, .int .i64 su, .int .i64 ma, .int .i64 ot, .int .i64 co] 108)).alloc (.cells #[.int .i64 0, .int .i64 0, .bool false, .int .i64 0, .int .i64 0, .slice none 0 0, .int .i64 0, .int .i64 0, .int .i64 0, .int .i64 0, .slice none 0 0] 110)
  have b0 := (Blk.mk w w.heap.size 108 #[.int .i64 id, .bool up, .int .i64 ro, .int .i64 ep, .slice A n c, .int .i64 su, .int .i64 ma, .int .i64 ot, .int .i64 co] rfl).alloc (.cells #[.int .i64 0, .int .i64 0, .bool false, .int .i64 0, .int .i64 0, .slice none 0 0, .int .i64 0, .int .i64 0, .int .i64 0, .int .i64 0, .slice none 0 0] 110)
  have b1 := Blk.mk (w.alloc (.cells #[.int .i64 id, .bool up, .int .i64 ro, .int .i64 ep, .slice A n c, .int .i64 su, .int .i64 ma, .int .i64 ot, .int .i64 co] 108)) (w.heap.size + 1) 110 #[.int .i64 0, .int .i64 0, .bool false, .int .i64 0, .int .i64 0, .slice none 0 0, .int .i64 0, .int .i64 0, .int .i64 0, .int .i64 0, .slice none 0 0] (by simp)
  have s0 : Hid (((w.alloc (.cells #[.int .i64 id, .bool up, .int .i64 ro, .int .i64 ep, .slice A n c, .int .i64 su, .int .i64 ma, .int .i64 ot, .int .i64 co] 108)).alloc (.cells #[.int .i64 0, .int .i64 0, .bool false, .int .i64 0, .int .i64 0, .slice none 0 0, .int .i64 0, .int .i64 0, .int .i64 0, .int .i64 0, .slice none 0 0] 110)).heap.size = w.heap.size + 1 + 1) := by unfold Hid; simp
  go_enter Tryz.func135, Tryz.ntmps135
  go_upto_region 1 with fail
  generalize (w.alloc (.cells #[.int .i64 id, .bool up, .int .i64 ro, .int .i64 ep, .slice A n c, .int .i64 su, .int .i64 ma, .int .i64 ot, .int .i64 co] 108)).alloc (.cells #[.int .i64 0, .int .i64 0, .bool false, .int .i64 0, .int .i64 0, .slice none 0 0, .int .i64 0, .int .i64 0, .int .i64 0, .int .i64 0, .slice none 0 0] 110) = w0 at *
  have S0 := s0.out
  have c0 := b0.cells
  go_wp2_with fail
  refine (upF_any z w.heap.size id up ro ep su ma ot co A n c V _ b0 (h.new hw) hn hm hf).mono ?_
  rintro e w1 ⟨rfl, hn1⟩
  have b11 := b1.new hn1
  have b01 := b0.new hn1
  have c01 := b01.cells
  have hw1 := hw.trans hn1
  clear c0
  have c1 := (b11).cells
  have f1 := (b11).frees
  go_wp2
  refine bodyPost_ret (v := .agg #[.int .i64 z, .int .i64 0, .bool false, .int .i64 0, .int .i64 0, .slice none 0 0, .int .i64 0, .int .i64 0, .int .i64 0, .int .i64 0, .slice none 0 0]) (by simp [results, Tryz.results135, go_sem, c1]) rfl (nrAns_bad z ?_)
  exact ((((((((((((hw1)).setCell (by simp; try omega) _).setCell (by simp; try omega) _).setCell (by simp; try omega) _).setCell (by simp; try omega) _).setCell (by simp; try omega) _).setCell (by simp; try omega) _).setCell (by simp; try omega) _).setCell (by simp; try omega) _).setCell (by simp; try omega) _).setCell (by simp; try omega) _).setCell (by simp; try omega) _

end Go.Proofs.YtebkdaddndlmoaaGreat

namespace Go.Proofs.YtebkdaddndlmoaaGreat
open Go.ChangeShapes Go.WideShapes Go.ChangeAt Go.RowKit Go.Deep Go.Sort
set_option linter.unusedVariables false
set_option linter.unusedSimpArgs false
set_option maxRecDepth 100000
set_option maxHeartbeats 25600000

def crG (ct : Int) : NdR → NA := fun x => match x with
  | (id, up, ro, ep, su, ma, ot, co, L) => if up = false then NA.bad 10 else if ct < 0 ∨ (L.length : Int) - su < ct then NA.bad 3 else ⟨0, id, false, 0, ep, ((su + ct).toNat : Int), 0, 0, 0, L.take (su + ct).toNat, []⟩
theorem crG_up {v : NdV} {ct : Int} (hu : v.up = false) : crG ct v.r = NA.bad 10 := by
  show (if v.up = false then NA.bad 10 else _) = _
  rw [if_pos hu]
theorem crG_rg {v : NdV} {ct : Int} (hu : ¬ v.up = false) (hx : ct < 0 ∨ (v.V.length : Int) - v.su < ct) : crG ct v.r = NA.bad 3 := by
  show (if v.up = false then NA.bad 10 else if ct < 0 ∨ ((v.V.map EkV.r).length : Int) - v.su < ct then NA.bad 3 else _) = _
  rw [if_neg hu, List.length_map, if_pos hx]
theorem crG_ok {v : NdV} {ct : Int} (hu : ¬ v.up = false) (hx : ¬ (ct < 0 ∨ (v.V.length : Int) - v.su < ct)) : crG ct v.r = ⟨0, v.id, false, 0, v.ep, ((v.su + ct).toNat : Int), 0, 0, 0, (v.V.map EkV.r).take (v.su + ct).toNat, []⟩ := by
  show (if v.up = false then NA.bad 10 else if ct < 0 ∨ ((v.V.map EkV.r).length : Int) - v.su < ct then NA.bad 3 else _) = _
  rw [if_neg hu, List.length_map, if_neg hx]
theorem crG_good {v : NdV} {ct : Int} (h : nF v.id v.up v.ro v.ep v.su v.ma v.ot v.co v.V.length (v.V.map EkV.r) = 0) (hz : (crG ct v.r).z = 0) : (crG ct v.r).Good := by
  have hl := (ln60 h).2
  by_cases hu : v.up = false
  · rw [crG_up hu] at hz; simp [NA.bad] at hz
  by_cases hx : ct < 0 ∨ (v.V.length : Int) - v.su < ct
  · rw [crG_rg hu hx] at hz; simp [NA.bad] at hz
  rw [crG_ok hu hx]
  refine ⟨Int.le_refl _, Int.natCast_nonneg _, ?_, fun U hU => ?_, Nat.zero_le _, fun m hm => by cases hm⟩
  · show ((v.V.map EkV.r).take (v.su + ct).toNat).length ≤ 200
    rw [List.length_take, List.length_map]; omega
  · have h1 : U.map EkV.r = (v.V.take (v.su + ct).toNat).map EkV.r := by rw [List.map_take]; exact hU
    rw [totK_map U _ h1]
    have := totK_take v.V (v.su + ct).toNat
    have := (ln60 h).1
    omega
theorem crG_i {v : NdV} {ct : Int} (h : nF v.id v.up v.ro v.ep v.su v.ma v.ot v.co v.V.length (v.V.map EkV.r) = 0) : NfC 135 [.int .i64 ct] (fun _ => True) v (crG ct v.r) := by
  intro A c V w h1 h2 h3 h4 _
  obtain ⟨hf, hl⟩ := nF_like h h4
  have hm := (ln60 h).2
  have k1 := nF_ok _ _ _ _ _ _ _ _ _ _ h
  have s0 := k1.2.2.2.1.1.1
  have s1 := k1.2.2.2.1.1.2
  by_cases hu : v.up = false
  · rw [crG_up hu]
    exact iCrash_fA v.id v.up v.ro v.ep v.su v.ma v.ot v.co A V.length c V w h1 h2 rfl (by omega) ct 10 (by rw [hf, hu]; rfl) (by decide)
  have hu' : uF v.up (nF v.id v.up v.ro v.ep v.su v.ma v.ot v.co V.length (V.map EkV.r)) = 0 := by
    rw [hf]; unfold uF; simp [hu]
  by_cases hx : ct < 0 ∨ (v.V.length : Int) - v.su < ct
  · rw [crG_rg hu hx]
    by_cases hx0 : ct < 0
    · exact iCrash_r1A v.id v.up v.ro v.ep v.su v.ma v.ot v.co A V.length c V w h1 h2 rfl (by omega) ct hu' s0 (by omega) (by omega) hx0
    · exact iCrash_r2A v.id v.up v.ro v.ep v.su v.ma v.ot v.co A V.length c V w h1 h2 rfl (by omega) ct hu' s0 (by omega) (by omega) hx0 (by omega)
  · rw [crG_ok hu hx, ← h4, ← List.map_take]
    have hk : v.su + ct = ((v.su + ct).toNat : Int) := by omega
    have hkn : (v.su + ct).toNat ≤ V.length := by omega
    have hkc : (v.su + ct).toNat ≤ c := Nat.le_trans hkn h3.1
    rcases h3.2 with ⟨rfl, -⟩ | ⟨g, rfl⟩
    · exact iCrash_okN v.id v.up v.ro v.ep v.su v.ma v.ot v.co V.length c V w h1 h2 rfl (by omega) ct hu' s0 (by omega) (by omega) (by omega) (by omega) _ hk hkn hkc
    · exact iCrash_ok v.id v.up v.ro v.ep v.su v.ma v.ot v.co g V.length c V w h1 h2 rfl (by omega) ct hu' s0 (by omega) (by omega) (by omega) (by omega) _ hk hkn hkc
theorem crG_s {v : NdV} {ct : Int} (h : nF v.id v.up v.ro v.ep v.su v.ma v.ot v.co v.V.length (v.V.map EkV.r) = 0) : NfC 75 [.int .i64 ct] (fun _ => True) v (crG ct v.r) := by
  intro A c V w h1 h2 h3 h4 _
  obtain ⟨hf, hl⟩ := nF_like h h4
  have hm := (ln60 h).2
  have k1 := nF_ok _ _ _ _ _ _ _ _ _ _ h
  have s0 := k1.2.2.2.1.1.1
  have s1 := k1.2.2.2.1.1.2
  by_cases hu : v.up = false
  · rw [crG_up hu]
    exact sCrash_f v.id v.up v.ro v.ep v.su v.ma v.ot v.co A V.length c V w h1 h2 rfl (by omega) ct 10 (by rw [hf, hu]; rfl) (by decide)
  have hu' : uF v.up (nF v.id v.up v.ro v.ep v.su v.ma v.ot v.co V.length (V.map EkV.r)) = 0 := by
    rw [hf]; unfold uF; simp [hu]
  by_cases hx : ct < 0 ∨ (v.V.length : Int) - v.su < ct
  · rw [crG_rg hu hx]
    exact sCrash_r v.id v.up v.ro v.ep v.su v.ma v.ot v.co A V.length c V w h1 h2 rfl (by omega) ct hu' s0 (by omega) (by omega) (by omega)
  · rw [crG_ok hu hx, ← h4, ← List.map_take]
    exact sCrash_ok v.id v.up v.ro v.ep v.su v.ma v.ot v.co A V.length c V w h1 h2 rfl (by omega) ct hu' s0 (by omega) (by omega) (by omega) (by omega) _ (by omega) (by omega)
theorem implCrL (P0 X : PrV) (nd : Int) (ct : Int) (b0 b1 : Nat) (col : Nat → Nat) (w : World) (ho : PrOw w b0 b1 col X) (he : PrE X P0) (hl : PrL X) (g : GoodX X) : Calls Tryz.prog 29 #[.agg #[.int .i64 X.sa, .int .i64 X.si, .int .i64 X.ho, .int .i64 X.nx, .slice X.a1 X.n1 X.c1, .slice X.a2 X.n2 X.c2, .slice X.aN X.nN X.cN, .slice X.aW X.nW X.cW, .slice X.aM X.nM X.cM, .slice X.aS X.nS X.cS], .int .i64 nd, .int .i64 ct] w fun e w' => ∃ z R col', e = .returned (.agg #[.int .i64 z, .slice none 0 0, .int .i64 R.sa, .int .i64 R.si, .int .i64 R.ho, .int .i64 R.nx, .slice R.a1 R.n1 R.c1, .slice R.a2 R.n2 R.c2, .slice R.aN R.nN R.cN, .slice R.aW R.nW R.cW, .slice R.aM R.nM R.cM, .slice R.aS R.nS R.cS]) ∧ GoR P0 nd (nfA (crG ct) P0 nd) z R ∧ PrOw w' w.heap.size w'.heap.size col' R ∧ New w w' := by
  refine (implCr X nd ct (nfA (crG ct) P0 nd) (fun _ => True) b0 b1 col w ho hl g.hN g.hc g.hW g.hM g.h1 g.h2 (fun h1 h2 => by
    obtain ⟨v, hv, hf⟩ := nd_at h1 h2
    rw [← nfA_alike he, nfA_at _ hv]
    exact ⟨v, hv, crG_good hf, crG_i hf⟩) (fun _ _ => trivial)).mono ?_
  rintro e w' ⟨z, R, col', h1, h2, h3, h4⟩
  exact ⟨z, R, col', h1, h2.to he, h3, h4⟩
theorem specCrL (P0 X : PrV) (nd : Int) (ct : Int) (b0 b1 : Nat) (col : Nat → Nat) (w : World) (ho : PrOw w b0 b1 col X) (he : PrE X P0) (hl : PrL X) (g : GoodX X) : Calls Tryz.prog 28 #[.agg #[.int .i64 X.sa, .int .i64 X.si, .int .i64 X.ho, .int .i64 X.nx, .slice X.a1 X.n1 X.c1, .slice X.a2 X.n2 X.c2, .slice X.aN X.nN X.cN, .slice X.aW X.nW X.cW, .slice X.aM X.nM X.cM, .slice X.aS X.nS X.cS], .int .i64 nd, .int .i64 ct] w fun e w' => ∃ z R col', e = .returned (.agg #[.int .i64 z, .slice none 0 0, .int .i64 R.sa, .int .i64 R.si, .int .i64 R.ho, .int .i64 R.nx, .slice R.a1 R.n1 R.c1, .slice R.a2 R.n2 R.c2, .slice R.aN R.nN R.cN, .slice R.aW R.nW R.cW, .slice R.aM R.nM R.cM, .slice R.aS R.nS R.cS]) ∧ GoR P0 nd (nfA (crG ct) P0 nd) z R ∧ PrOw w' w.heap.size w'.heap.size col' R ∧ New w w' := by
  refine (specCr X nd ct (nfA (crG ct) P0 nd) (fun _ => True) b0 b1 col w ho hl g.hN g.hc g.hW g.hM g.h1 g.h2 (fun h1 h2 => by
    obtain ⟨v, hv, hf⟩ := nd_at h1 h2
    rw [← nfA_alike he, nfA_at _ hv]
    exact ⟨v, hv, crG_good hf, crG_s hf⟩) (fun _ _ => trivial)).mono ?_
  rintro e w' ⟨z, R, col', h1, h2, h3, h4⟩
  exact ⟨z, R, col', h1, h2.to he, h3, h4⟩
theorem limCr {P0 R : PrV} {nd z : Int} {ct : Int} (l : PrL P0) (k : GoR P0 nd (nfA (crG ct) P0 nd) z R) : PrL R :=
  k.lim l (fun h1 h2 h3 => by
    obtain ⟨v, hv, hf⟩ := nd_at h1 h2
    rw [nfA_at _ hv] at h3 ⊢
    exact crG_good hf h3)

end Go.Proofs.YtebkdaddndlmoaaGreat
