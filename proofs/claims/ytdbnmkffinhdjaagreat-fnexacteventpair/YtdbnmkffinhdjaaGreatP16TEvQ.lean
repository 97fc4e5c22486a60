/- What is proved here: what both sides of EventPair tell, over the pair that came in. -/
import Derived.Test.YtdbnmkffinhdjaaGreatP16OEvQ
import Derived.Test.YtdbnmkffinhdjaaGreatP16IEvQ
import Derived.Test.YtdbnmkffinhdjaaGreatLV37
import Derived.Test.YtdbnmkffinhdjaaGreatLV33
import Derived.Test.YtdbnmkffinhdjaaGreatP16AdQ
namespace Go.Proofs.YtdbnmkffinhdjaaGreat
open Go.ChangeShapes Go.WideShapes Go.ChangeAt Go.RowKit Go.Deep Go.Sort
set_option linter.unusedVariables false
set_option linter.unusedSimpArgs false
set_option maxRecDepth 100000
set_option maxHeartbeats 25600000

def evG (k p : Int) (xs : List Int) : NdR → NA := fun x => if k = 2 then NA.bad 1 else adG k p xs x
theorem evG_2 {k p : Int} {xs : List Int} {x : NdR} (h : k = 2) : evG k p xs x = NA.bad 1 := if_pos h
theorem evG_n {k p : Int} {xs : List Int} {x : NdR} (h : ¬ k = 2) : evG k p xs x = adG k p xs x := if_neg h
theorem evG_good {v : NdV} {k p : Int} {xs : List Int} (h : nF v.id v.up v.ro v.ep v.su v.ma v.ot v.co v.V.length (v.V.map EkV.r) = 0) (hz : (evG k p xs v.r).z = 0) : (evG k p xs v.r).Good := by
  by_cases hk : k = 2
  · rw [evG_2 hk] at hz; exact absurd hz (by decide)
  · rw [evG_n hk] at hz ⊢; exact adG_good h hz
theorem evG_i {v : NdV} {k p : Int} {x : Option Addr} {m d : Nat} {xs : List Int} (h : nF v.id v.up v.ro v.ep v.su v.ma v.ot v.co v.V.length (v.V.map EkV.r) = 0) (hX : xs.length = m) (hnx : x = none → m = 0 ∧ d = 0) (hm1 : m ≤ 1048576) : NfE 81 k [.agg #[.int .i64 k, .int .i64 p, .slice x m d]] (fun w => BsAt w x xs) v (evG k p xs v.r) :=
  ⟨fun hk => by rw [evG_n hk]; exact adG_i h hX hnx hm1, fun hk => by rw [evG_2 hk]; rfl⟩
theorem evG_s {v : NdV} {k p : Int} {x : Option Addr} {m d : Nat} {xs : List Int} (h : nF v.id v.up v.ro v.ep v.su v.ma v.ot v.co v.V.length (v.V.map EkV.r) = 0) (hX : xs.length = m) (hnx : x = none → m = 0 ∧ d = 0) (hm1 : m ≤ 1048576) : NfE 29 k [.agg #[.int .i64 k, .int .i64 p, .slice x m d]] (fun w => BsAt w x xs) v (evG k p xs v.r) :=
  ⟨fun hk => by rw [evG_n hk]; exact adG_s h hX hnx hm1, fun hk => by rw [evG_2 hk]; rfl⟩
theorem implEvL (P0 X : PrV) (nd k1 p1 : Int) (xA : Option Addr) (xm xd : Nat) (xs : List Int) (b0 b1 : Nat) (col : Nat → Nat) (w : World) (ho : PrOw w b0 b1 col X) (he : PrE X P0) (hl : PrL X) (g : GoodX X) (hx : BsAt w xA xs) (hX : xs.length = xm) (hnx : xA = none → xm = 0 ∧ xd = 0) (hm1 : xm ≤ 1048576) : Calls Tryz.prog 10 #[.agg #[.int .i64 X.sa, .int .i64 X.si, .int .i64 X.ho, .int .i64 X.nx, .slice X.a1 X.n1 X.c1, .slice X.a2 X.n2 X.c2, .slice X.aN X.nN X.cN, .slice X.aW X.nW X.cW, .slice X.aM X.nM X.cM, .slice X.aS X.nS X.cS], .int .i64 nd, .agg #[.int .i64 k1, .int .i64 p1, .slice xA xm xd]] w fun e w' => ∃ z R col', e = .returned (.agg #[.int .i64 z, .slice none 0 0, .int .i64 R.sa, .int .i64 R.si, .int .i64 R.ho, .int .i64 R.nx, .slice R.a1 R.n1 R.c1, .slice R.a2 R.n2 R.c2, .slice R.aN R.nN R.cN, .slice R.aW R.nW R.cW, .slice R.aM R.nM R.cM, .slice R.aS R.nS R.cS]) ∧ GoR P0 nd (nfA (evG k1 p1 xs) P0 nd) z R ∧ PrOw w' w.heap.size w'.heap.size col' R ∧ New w w' := by
  refine (implEv X nd k1 p1 xA xm xd (nfA (evG k1 p1 xs) P0 nd) (fun w => BsAt w xA xs) b0 b1 col w ho hl g.hN g.hc g.hW g.hM g.h1 g.h2 (fun h1 h2 => by
    obtain ⟨v, hv, hf⟩ := nd_at h1 h2
    rw [← nfA_alike he, nfA_at _ hv]
    exact ⟨v, hv, evG_good hf, evG_i hf hX hnx hm1⟩) (fun Y hY => hx.new hY)).mono ?_
  rintro e w' ⟨z, R, col', h1, h2, h3, h4⟩
  exact ⟨z, R, col', h1, h2.to he, h3, h4⟩
theorem specEvL (P0 X : PrV) (nd k1 p1 : Int) (xA : Option Addr) (xm xd : Nat) (xs : List Int) (b0 b1 : Nat) (col : Nat → Nat) (w : World) (ho : PrOw w b0 b1 col X) (he : PrE X P0) (hl : PrL X) (g : GoodX X) (hx : BsAt w xA xs) (hX : xs.length = xm) (hnx : xA = none → xm = 0 ∧ xd = 0) (hm1 : xm ≤ 1048576) : Calls Tryz.prog 7 #[.agg #[.int .i64 X.sa, .int .i64 X.si, .int .i64 X.ho, .int .i64 X.nx, .slice X.a1 X.n1 X.c1, .slice X.a2 X.n2 X.c2, .slice X.aN X.nN X.cN, .slice X.aW X.nW X.cW, .slice X.aM X.nM X.cM, .slice X.aS X.nS X.cS], .int .i64 nd, .agg #[.int .i64 k1, .int .i64 p1, .slice xA xm xd]] w fun e w' => ∃ z R col', e = .returned (.agg #[.int .i64 z, .slice none 0 0, .int .i64 R.sa, .int .i64 R.si, .int .i64 R.ho, .int .i64 R.nx, .slice R.a1 R.n1 R.c1, .slice R.a2 R.n2 R.c2, .slice R.aN R.nN R.cN, .slice R.aW R.nW R.cW, .slice R.aM R.nM R.cM, .slice R.aS R.nS R.cS]) ∧ GoR P0 nd (nfA (evG k1 p1 xs) P0 nd) z R ∧ PrOw w' w.heap.size w'.heap.size col' R ∧ New w w' := by
  refine (specEv X nd k1 p1 xA xm xd (nfA (evG k1 p1 xs) P0 nd) (fun w => BsAt w xA xs) b0 b1 col w ho hl g.hN g.hc g.hW g.hM g.h1 g.h2 (fun h1 h2 => by
    obtain ⟨v, hv, hf⟩ := nd_at h1 h2
    rw [← nfA_alike he, nfA_at _ hv]
    exact ⟨v, hv, evG_good hf, evG_s hf hX hnx hm1⟩) (fun Y hY => hx.new hY)).mono ?_
  rintro e w' ⟨z, R, col', h1, h2, h3, h4⟩
  exact ⟨z, R, col', h1, h2.to he, h3, h4⟩
theorem limEv {P0 R : PrV} {nd z k1 p1 : Int} {xs : List Int} (l : PrL P0) (k : GoR P0 nd (nfA (evG k1 p1 xs) P0 nd) z R) : PrL R :=
  k.lim l (fun h1 h2 h3 => by
    obtain ⟨v, hv, hf⟩ := nd_at h1 h2
    rw [nfA_at _ hv] at h3 ⊢
    exact evG_good hf h3)

end Go.Proofs.YtdbnmkffinhdjaaGreat
