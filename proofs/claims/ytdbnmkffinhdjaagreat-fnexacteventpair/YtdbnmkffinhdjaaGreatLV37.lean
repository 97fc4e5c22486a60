/- Lemmas and contracts of one law. -/
import Derived.Test.YtdbnmkffinhdjaaGreatLV33
namespace Go.Proofs.YtdbnmkffinhdjaaGreat
open Go.ChangeShapes Go.WideShapes Go.ChangeAt Go.RowKit Go.Deep Go.Sort
set_option linter.unusedVariables false
set_option linter.unusedSimpArgs false
set_option maxRecDepth 100000
set_option maxHeartbeats 25600000

def NA.bad (z : Int) : NA := ⟨z, 0, false, 0, 0, 0, 0, 0, 0, [], []⟩
abbrev NdR := Int × Bool × Int × Int × Int × Int × Int × Int × List Ek
def nfA (g : NdR → NA) (P : PrV) (nd : Int) : NA :=
  match (P.VN.map NdV.r)[nd.toNat]? with
  | some x => g x
  | none => NA.bad 0
theorem nfA_alike {P Q : PrV} (h : PrE Q P) (g : NdR → NA) (nd : Int) : nfA g Q nd = nfA g P nd := by
  unfold nfA; rw [h.nd]
theorem nfA_at {P : PrV} {nd : Int} {v : NdV} (g : NdR → NA) (hv : P.VN[nd.toNat]? = some v) : nfA g P nd = g v.r := by
  unfold nfA; rw [List.getElem?_map, hv]; rfl
theorem nd_at {P : PrV} {nd : Int} (h : prF P = 0) (hp : nd = 0 ∨ nd = 1) : ∃ v, P.VN[nd.toNat]? = some v ∧ nF v.id v.up v.ro v.ep v.su v.ma v.ot v.co v.V.length (v.V.map EkV.r) = 0 := by
  have h0 := prB0_of h
  have hk : nd.toNat < P.VN.length := by have := h0.lN; omega
  exact ⟨P.VN[nd.toNat], List.getElem?_eq_getElem hk, (h0.nf _ _ (List.getElem?_eq_getElem hk)).1⟩
theorem ln60 {v : NdV} (h : nF v.id v.up v.ro v.ep v.su v.ma v.ot v.co v.V.length (v.V.map EkV.r) = 0) : totK v.V ≤ 6100 ∧ v.V.length ≤ 100 := by
  have k1 := nF_ok _ _ _ _ _ _ _ _ _ _ h
  have k2 := totK_60 (V := v.V) (fun u hu => lgF_en16 k1.2.2.1 u.r (List.mem_map_of_mem hu))
  have := k1.2.1
  exact ⟨by omega, this⟩
theorem nF_like {v : NdV} {V : List EkV} (h : nF v.id v.up v.ro v.ep v.su v.ma v.ot v.co v.V.length (v.V.map EkV.r) = 0) (e : V.map EkV.r = v.V.map EkV.r) : nF v.id v.up v.ro v.ep v.su v.ma v.ot v.co V.length (V.map EkV.r) = 0 ∧ V.length = v.V.length := by
  have hl : V.length = v.V.length := by have := congrArg List.length e; simpa using this
  rw [e, hl]; exact ⟨h, rfl⟩

end Go.Proofs.YtdbnmkffinhdjaaGreat
