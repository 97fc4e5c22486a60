/- Lemmas and contracts of one law. -/
import Derived.Test.YtebkdaddndlmoaaGreatLP32
import Derived.Test.YtebkdaddndlmoaaGreatLP24
namespace Go.Proofs.YtebkdaddndlmoaaGreat
open Go.ChangeShapes Go.WideShapes Go.ChangeAt Go.RowKit Go.Deep Go.Sort
set_option linter.unusedVariables false
set_option linter.unusedSimpArgs false
set_option maxRecDepth 100000
set_option maxHeartbeats 25600000

def NA.bad (z : Int) : NA := ⟨z, 0, false, 0, 0, 0, 0, 0, 0, [], []⟩
abbrev NdR := Int × Bool × Int × Int × Int × Int × Int × Int × List Ek
def nfA (g : NdR → NA) (P : PrV) (nd : Int) : NA :=
  match (P.VN.map NdV.r)[nd.toNat]? with
  | some x => g x
  | none => NA.bad 0
theorem nfA_alike {P Q : PrV} (h : PrE Q P) (g : NdR → NA) (nd : Int) : nfA g Q nd = nfA g P nd := by
  unfold nfA; rw [h.nd]
theorem nfA_at {P : PrV} {nd : Int} {v : NdV} (g : NdR → NA) (hv : P.VN[nd.toNat]? = some v) : nfA g P nd = g v.r := by
  unfold nfA; rw [List.getElem?_map, hv]; rfl
theorem nd_at {P : PrV} {nd : Int} (h : prF P = 0) (hp : nd = 0 ∨ nd = 1) : ∃ v, P.VN[nd.toNat]? = some v ∧ nF v.id v.up v.ro v.ep v.su v.ma v.ot v.co v.V.length (v.V.map EkV.r) = 0 := by
  have h0 := prB0_of h
  have hk : nd.toNat < P.VN.length := by have := h0.lN; omega
  exact ⟨P.VN[nd.toNat], List.getElem?_eq_getElem hk, (h0.nf _ _ (List.getElem?_eq_getElem hk)).1⟩
theorem ln60 {v : NdV} (h : nF v.id v.up v.ro v.ep v.su v.ma v.ot v.co v.V.length (v.V.map EkV.r) = 0) : totK v.V ≤ 6100 ∧ v.V.length ≤ 100 := by
  have k1 := nF_ok _ _ _ _ _ _ _ _ _ _ h
  have k2 := totK_60 (V := v.V) (fun u hu => lgF_en16 k1.2.2.1 u.r (List.mem_map_of_mem hu))
  have := k1.2.1
  exact ⟨by omega, this⟩
theorem tot_of {v : NdV} (h : nF v.id v.up v.ro v.ep v.su v.ma v.ot v.co v.V.length (v.V.map EkV.r) = 0) {U : List EkV} (e : U.map EkV.r = v.V.map EkV.r) : totK U ≤ 6100 := by
  rw [totK_map U v.V e]; exact (ln60 h).1
theorem nF_like {v : NdV} {V : List EkV} (h : nF v.id v.up v.ro v.ep v.su v.ma v.ot v.co v.V.length (v.V.map EkV.r) = 0) (e : V.map EkV.r = v.V.map EkV.r) : nF v.id v.up v.ro v.ep v.su v.ma v.ot v.co V.length (V.map EkV.r) = 0 ∧ V.length = v.V.length := by
  have hl : V.length = v.V.length := by have := congrArg List.length e; simpa using this
  rw [e, hl]; exact ⟨h, rfl⟩

end Go.Proofs.YtebkdaddndlmoaaGreat

namespace Go.Proofs.YtebkdaddndlmoaaGreat
open Go.RowKit Go.Sort
set_option linter.unusedVariables false
set_option linter.unusedSimpArgs false
set_option maxRecDepth 100000
set_option maxHeartbeats 25600000

def MlV.pv (v : MlV) : Value := .slice v.a v.m.e.xs.length v.c
/-- A log and a mail, of the call's own. -/
theorem NrOw.send {w : World} {b0 b1 lo hi n c g cs lb : Nat} {A : Option Addr} {U : List EkV} (v : MlV) (h : OwL w lo hi (.slice A n c) U) (h0 : b0 ≤ lo) (h1 : hi ≤ b1) (hr : w.ownsRow 0 137 10 (.slice (some ⟨g, 0, none⟩) 1 cs) 1 v.cs) (hg : ¬ (lo ≤ g ∧ g < hi)) (hg0 : b0 ≤ g) (hg1 : g < b1)
    (hv : OvB w lb v.pv v.m.e.xs) (hb : ∀ z ∈ v.m.e.xs, By z) (hl : v.m.e.xs.length ≤ 1048576) (hlb : b0 ≤ lb) (hk : ∀ k, v.pv.ownBlock = some k → k < lo) (hlo : lo ≤ b1) : NrOw w b0 b1 A n c U (some ⟨g, 0, none⟩) 1 cs [v] := by
  refine ⟨lo, hi, fun i => i = g ∨ v.pv.ownBlock = some i, h, .inr ⟨v, g, rfl, rfl, rfl, .inl rfl, hr, ?_, hb, hl, ?_⟩, ?_, ?_, h0, h1⟩
  · obtain ⟨a, c', e, -, -, -, h9⟩ := hv.bs hb
    simp only [MlV.pv, Value.slice.injEq, true_and] at e
    obtain ⟨rfl, rfl⟩ := e
    exact h9
  · intro x hx
    have hob : v.pv.ownBlock = some x.block := by unfold MlV.pv; rw [hx]; rfl
    refine ⟨.inr hob, fun e => ?_⟩
    exact rowv_neK hr (by decide) hv (k := g) rfl (by rw [hob, e])
  · rintro i (e | e)
    · rw [e]; exact hg
    · have := hk i e; omega
  · rintro i (e | e)
    · rw [e]; exact ⟨hg0, hg1⟩
    · have := hk i e; have := (hv.rngK i e).1; omega

/-- The epoch ahead of a place. -/
def prevE (L : List Ek) : Nat → Int
  | 0 => 0
  | j + 1 => ((L[j]?).map Ek.ep).getD 0

theorem eahead_any (o : Nat) (B : Nat) (id : Int) (up : Bool) (ro ep su ma ot co : Int) (A : Option Addr) (n c : Nat) (V : List EkV) (w : World) (hb : Blk w B 108 #[.int .i64 id, .bool up, .int .i64 ro, .int .i64 ep, .slice A n c, .int .i64 su, .int .i64 ma, .int .i64 ot, .int .i64 co]) (h : LgAt w A V) (hn : V.length = n) (hm : n ≤ 2097152) (ho : o ≤ n) :
    Calls Tryz.prog 168 #[.pointer (some ⟨B, 0, none⟩), .int .i64 (o : Int)] w fun e w' => e = .returned (.int .i64 (prevE (V.map EkV.r) o)) ∧ w' = w := by
  have cB := hb.cells
  cases o with
  | zero =>
    have HR : Hid ((0 : Int) = prevE (V.map EkV.r) 0) := rfl
    go_enter Tryz.func168, Tryz.ntmps168
    go_wp2
    go_ret
    exact ⟨ret_i64 HR.out, rfl⟩
  | succ j =>
    obtain ⟨g, ep1, ki, pe, x, m, d, xs, rfl, hv, -, -, -, q0, -, -, -⟩ := h.at j (by omega)
    have HR : Hid (ep1 = prevE (V.map EkV.r) (j + 1)) := by unfold Hid prevE; simp [hv]
    have hj : ¬ ((j : Int) + 1 = 0) := by omega
    have gj : (((j : Int) + 1) == 0) = false := by simp [hj]
    have hjn : j < n := by omega
    clear hv h
    go_enter Tryz.func168, Tryz.ntmps168
    go_wp2
    go_ret
    exact ⟨ret_i64 HR.out, rfl⟩

theorem prev_any (o : Nat) (B : Nat) (id : Int) (up : Bool) (ro ep su ma ot co : Int) (A : Option Addr) (n c : Nat) (V : List EkV) (w : World) (hb : Blk w B 108 #[.int .i64 id, .bool up, .int .i64 ro, .int .i64 ep, .slice A n c, .int .i64 su, .int .i64 ma, .int .i64 ot, .int .i64 co]) (h : LgAt w A V) (hn : V.length = n) (hm : n ≤ 2097152) (ho : o ≤ n) :
    Calls Tryz.prog 132 #[.pointer (some ⟨B, 0, none⟩), .int .i64 (o : Int)] w fun e w' => e = .returned (.int .i64 (prevE (V.map EkV.r) o)) ∧ w' = w := by
  have cB := hb.cells
  cases o with
  | zero =>
    have HR : Hid ((0 : Int) = prevE (V.map EkV.r) 0) := rfl
    go_enter Tryz.func132, Tryz.ntmps132
    go_wp2
    go_ret
    exact ⟨ret_i64 HR.out, rfl⟩
  | succ j =>
    obtain ⟨g, ep1, ki, pe, x, m, d, xs, rfl, hv, -, -, -, q0, -, -, -⟩ := h.at j (by omega)
    have HR : Hid (ep1 = prevE (V.map EkV.r) (j + 1)) := by unfold Hid prevE; simp [hv]
    have hj : ¬ ((j : Int) + 1 = 0) := by omega
    have gj : (((j : Int) + 1) == 0) = false := by simp [hj]
    have hjn : j < n := by omega
    clear hv h
    go_enter Tryz.func132, Tryz.ntmps132
    go_wp2
    go_ret
    exact ⟨ret_i64 HR.out, rfl⟩

end Go.Proofs.YtebkdaddndlmoaaGreat
