/- What is proved here: what putting two lists of mails one behind the other answers, for lists of at most 1048576 mails. What is proved here: limits of pairs that read alike; what a pair of the call's own gives to PairFault; a pair without one of its mails. No condition. What is proved here: the fault of a pair as lists. No condition. -/
import Derived.Test.YtebkdaddndlmoaaGreatLR27
import Derived.Lib.AppendZeros
import Derived.LoopN
import Derived.Test.YtebkdaddndlmoaaGreatLR23
import Derived.Test.YtebkdaddndlmoaaGreatLR20
namespace Go.Proofs.YtebkdaddndlmoaaGreat
open Go.RowKit Go.Sort
set_option linter.unusedVariables false
set_option linter.unusedSimpArgs false

section
variable {P : Program} {t e : TypeId} {i : TypeInfo}
end
end Go.Proofs.YtebkdaddndlmoaaGreat

namespace Go.Proofs.YtebkdaddndlmoaaGreat
open Go.ChangeShapes Go.WideShapes Go.ChangeAt Go.RowKit Go.Deep Go.Sort
set_option linter.unusedVariables false
set_option linter.unusedSimpArgs false
set_option maxRecDepth 100000

theorem totNd_alike : ∀ {V U : List NdV}, V.map NdV.r = U.map NdV.r → totNd V = totNd U
  | [], [], _ => rfl
  | [], _ :: _, h => by simp at h
  | _ :: _, [], h => by simp at h
  | v :: V, u :: U, h => by
    simp only [List.map_cons, List.cons.injEq] at h
    have ih := totNd_alike h.2
    have e : v.V.map EkV.r = u.V.map EkV.r := by
      have := h.1
      simp only [NdV.r, Prod.mk.injEq] at this
      exact this.2.2.2.2.2.2.2.2
    have := totK_alike e
    simp only [totNd, NdV.tot, ih, this]
theorem totWi_alike : ∀ {V U : List WiV}, V.map WiV.r = U.map WiV.r → totWi V = totWi U
  | [], [], _ => rfl
  | [], _ :: _, h => by simp at h
  | _ :: _, [], h => by simp at h
  | v :: V, u :: U, h => by
    simp only [List.map_cons, List.cons.injEq] at h
    have ih := totWi_alike h.2
    have e := h.1
    simp only [WiV.r, Prod.mk.injEq] at e
    simp only [totWi, WiV.tot, ih, e.2.2.1, e.2.2.2]
theorem totMq_alike : ∀ {V U : List MlV}, V.map MlV.r = U.map MlV.r → totMq V = totMq U
  | [], [], _ => rfl
  | [], _ :: _, h => by simp at h
  | _ :: _, [], h => by simp at h
  | v :: V, u :: U, h => by
    simp only [List.map_cons, List.cons.injEq] at h
    have ih := totMq_alike h.2
    have e : v.m = u.m := h.1
    simp only [totMq, MlV.tot, ih, e]
theorem PrE.lim {P Q : PrV} (l : PrL P) (h : PrE Q P) : PrL Q := by
  have hN := congrArg List.length h.nd
  have hW := congrArg List.length h.wi
  have hM := congrArg List.length h.mq
  have hS := congrArg List.length h.se
  simp only [List.length_map] at hN hW hM hS
  refine ⟨?_, ?_, ?_, ?_, ?_, ?_, ?_, ?_, ?_, ?_, ?_, ?_, ?_, ?_, ?_, ?_⟩
  · rw [h.r1, h.n1]; exact l.l1
  · rw [h.r2, h.n2]; exact l.l2
  · rw [hN, h.nN]; exact l.lN
  · rw [hW, h.nW]; exact l.lW
  · rw [hM, h.nM]; exact l.lM
  · rw [hS, h.nS]; exact l.lS
  · rw [h.n1]; exact l.m1
  · rw [h.n2]; exact l.m2
  · rw [h.nN]; exact l.mN
  · rw [h.nW]; exact l.mW
  · rw [h.nM]; exact l.mM
  · rw [h.nS]; exact l.mS
  · rw [totNd_alike h.nd]; exact l.tN
  · rw [totWi_alike h.wi]; exact l.tW
  · rw [totMq_alike h.mq]; exact l.tM
  · rw [totK_alike h.se]; exact l.tS
theorem PrE.refl (P : PrV) : PrE P P := ⟨rfl, rfl, rfl, rfl, rfl, rfl, rfl, rfl, rfl, rfl, rfl, rfl, rfl, rfl, rfl, rfl⟩
theorem owl_fit {w : World} {lo hi n c : Nat} {A : Option Addr} {V : List EkV} (h : OwL w lo hi (.slice A n c) V) : FitK A n c := by
  obtain ⟨A', c', e, -, h2⟩ := h.form
  simp only [Value.slice.injEq] at e
  obtain ⟨rfl, rfl, rfl⟩ := e
  rcases h2 with ⟨h3, h4, h5⟩ | ⟨g, h3, h4, -⟩
  · subst h4 h5; exact ⟨by simp, .inl ⟨h3, rfl, rfl⟩⟩
  · exact ⟨h4, .inr ⟨g, h3⟩⟩
/-- What PairFault's contracts ask of a pair. -/
theorem PrOw.pat {w : World} {b0 b1 : Nat} {col : Nat → Nat} {P : PrV} (h : PrOw w b0 b1 col P) (l : PrL P) (hN : ∃ g, P.aN = some ⟨g, 0, none⟩) (hc : P.cN = P.nN) (hW : SomW P.VW) : PAt w P.a1 P.a2 P.aN P.aW P.aM P.aS P.r1 P.r2 P.VN P.VW P.VM P.VS := by
  have hr := h.rd
  have hn := h.nl
  refine ⟨hr.s1, hr.s2, hr.nd, hr.wi, hr.mq, hr.se, ?_, ?_, ?_, hn.2, hn.1⟩
  · rcases h.oN with ⟨e, -⟩ | ⟨g, A, B, e, k⟩
    · obtain ⟨g, e'⟩ := hN; rw [e] at e'; cases e'
    · refine ⟨g, e, ?_⟩
      have := k.row
      rw [hc, ← l.lN] at this
      exact this
  · intro v hv
    rcases h.oN with ⟨-, -, -, e⟩ | ⟨g, A, B, -, k⟩
    · rw [e] at hv; cases hv
    · obtain ⟨i, hi⟩ := List.getElem?_of_mem hv
      exact owl_fit (k.own i v hi)
  · intro v hv
    obtain ⟨h1, h2, h3, h4⟩ := hW v hv
    exact ⟨⟨h3, .inr h1⟩, ⟨h4, .inr h2⟩⟩
theorem SomW.nl {V : List WiV} (h : SomW V) : ∀ v ∈ V, (v.a = none → v.xs.length = 0 ∧ v.c = 0) ∧ (v.b = none → v.ys.length = 0 ∧ v.d = 0) := by
  intro v hv
  obtain ⟨⟨g, e1⟩, ⟨g', e2⟩, -⟩ := h v hv
  exact ⟨fun e => (by rw [e] at e1; cases e1), fun e => (by rw [e] at e2; cases e2)⟩
theorem SomM.nl {V : List MlV} (h : SomM V) : ∀ v ∈ V, v.a = none → v.m.e.xs.length = 0 ∧ v.c = 0 := by
  intro v hv e
  obtain ⟨g, e1⟩ := h v hv
  rw [e] at e1; cases e1

/-- A pair without its mail k. -/
def PrV.drop (P : PrV) (k : Nat) (a : Option Addr) (c : Nat) : PrV := { P with aM := a, nM := P.nM - 1, cM := c, VM := P.VM.take k ++ P.VM.drop (k + 1) }
theorem drop_len {V : List MlV} {k : Nat} (hk : k < V.length) : (V.take k ++ V.drop (k + 1)).length = V.length - 1 := by
  rw [← List.eraseIdx_eq_take_drop_succ, List.length_eraseIdx]
  simp [hk]
theorem PrE.drop {P Q : PrV} (h : PrE Q P) (k : Nat) (a a' : Option Addr) (c c' : Nat) : PrE (Q.drop k a c) (P.drop k a' c') := by
  refine ⟨h.sa, h.si, h.ho, h.nx, h.n1, h.n2, h.nN, h.nW, ?_, h.nS, h.r1, h.r2, h.nd, h.wi, ?_, h.se⟩
  · show Q.nM - 1 = P.nM - 1
    rw [h.nM]
  · show (Q.VM.take k ++ Q.VM.drop (k + 1)).map MlV.r = (P.VM.take k ++ P.VM.drop (k + 1)).map MlV.r
    rw [List.map_append, List.map_append, List.map_take, List.map_take, List.map_drop, List.map_drop, h.mq]
theorem totMq_app (V U : List MlV) : totMq (V ++ U) = totMq V + totMq U := by
  induction V with
  | nil => simp [totMq]
  | cons v V ih => simp [totMq, ih, Nat.add_assoc]
theorem totMq_cut (V : List MlV) (k : Nat) : totMq (V.take k ++ V.drop (k + 1)) ≤ totMq V := by
  have h1 := totMq_app (V.take k) (V.drop k)
  rw [List.take_append_drop] at h1
  have h2 : totMq (V.drop (k + 1)) ≤ totMq (V.drop k) := by
    rw [show V.drop (k + 1) = (V.drop k).drop 1 by rw [List.drop_drop]]
    cases V.drop k with
    | nil => exact Nat.le_refl _
    | cons v U => simp [totMq]
  rw [totMq_app, h1]; omega
theorem PrL.drop {P : PrV} (l : PrL P) {k : Nat} (hk : k < P.nM) (a : Option Addr) (c : Nat) : PrL (P.drop k a c) := by
  have h1 := l.lM
  have h2 := l.mM
  refine ⟨l.l1, l.l2, l.lN, l.lW, ?_, l.lS, l.m1, l.m2, l.mN, l.mW, ?_, l.mS, l.tN, l.tW, Nat.le_trans (totMq_cut _ _) l.tM, l.tS⟩
  · show (P.VM.take k ++ P.VM.drop (k + 1)).length = P.nM - 1
    rw [drop_len (by omega), h1]
  · show P.nM - 1 ≤ 1048576
    omega
theorem PrOw.up {w : World} {b0 b1 b2 : Nat} {col : Nat → Nat} {P : PrV} (h : PrOw w b0 b1 col P) (hb : b1 ≤ b2) : PrOw w b0 b2 col P := by
  obtain ⟨lo, hi, hS, hcS⟩ := h.oS
  have hc : ∀ i x, Cl col b0 b1 i x → Cl col b0 b2 i x := fun i x hx => ⟨hx.1, hx.2.1, Nat.lt_of_lt_of_le hx.2.2 hb⟩
  exact ⟨h.o1, h.o2, fun j hj => hc _ _ (h.k1 j hj), fun j hj => hc _ _ (h.k2 j hj), h.oN.mono (hc _), h.oW.mono (hc _), h.oQ.mono (hc _), ⟨lo, hi, hS, fun x h1 h2 => hc _ _ (hcS x h1 h2)⟩, h.bW, h.bM⟩
/-- The pair with nothing. -/
def zPr : PrV := ⟨0, 0, 0, 0, none, 0, 0, none, 0, 0, none, 0, 0, none, 0, 0, none, 0, 0, none, 0, 0, [], [], [], [], [], []⟩
theorem zPr_ow (w : World) (b0 b1 : Nat) (col : Nat → Nat) : PrOw w b0 b1 col zPr := by
  refine ⟨⟨rfl, .inl ⟨rfl, rfl⟩⟩, ⟨rfl, .inl ⟨rfl, rfl⟩⟩, fun j hj => by simp [Value.ownBlock, zPr] at hj, fun j hj => by simp [Value.ownBlock, zPr] at hj, .inl ⟨rfl, rfl, rfl, rfl⟩, .inl ⟨rfl, rfl, rfl, rfl⟩, .inl ⟨rfl, rfl, rfl, rfl⟩, ⟨0, 0, OwL.nil _ _ _, fun x _ h => by omega⟩, (fun u hu => by cases hu), (fun u hu => by cases hu)⟩
theorem zPr_l : PrL zPr := ⟨rfl, rfl, rfl, rfl, rfl, rfl, by decide, by decide, by decide, by decide, by decide, by decide, by decide, by decide, by decide, by decide⟩

end Go.Proofs.YtebkdaddndlmoaaGreat

namespace Go.Proofs.YtebkdaddndlmoaaGreat
open Go.RowKit Go.Sort Go.Deep
set_option linter.unusedVariables false
set_option linter.unusedSimpArgs false

/-- The first that is not 0. -/
def ffF {α : Type} (g : α → Int) : List α → Int
  | [] => 0
  | x :: L => if g x ≠ 0 then g x else ffF g L
theorem ffF_at {α : Type} {g : α → Int} {L : List α} {k : Nat} {x : α} (h : L[k]? = some x) : ffF g (L.drop k) = if g x ≠ 0 then g x else ffF g (L.drop (k + 1)) := by
  obtain ⟨hk, e⟩ := List.getElem?_eq_some_iff.1 h
  rw [List.drop_eq_getElem_cons hk, ffF, e]
theorem ffF_end {α : Type} {g : α → Int} {L : List α} {k : Nat} (h : L.length ≤ k) : ffF g (L.drop k) = 0 := by
  rw [List.drop_eq_nil_of_le h]; rfl
/-- The fault of a node at a place. -/
def n1F (k : Int) (x : Int × Bool × Int × Int × Int × Int × Int × Int × List Ek) : Int :=
  match x with
  | (id, up, ro, ep, su, ma, ot, co, L) => if nF id up ro ep su ma ot co L.length L ≠ 0 then nF id up ro ep su ma ot co L.length L else if id ≠ k then 1 else 0
def ndF (L : List (Int × Bool × Int × Int × Int × Int × Int × Int × List Ek)) : Int :=
  match L with
  | [x, y] => if n1F 0 x ≠ 0 then n1F 0 x else n1F 1 y
  | _ => 0
def w1F (x : Int × Int × List Int × List Int) : Int := match x with | (E, T, xs, ys) => wF E T xs.length ys.length
def m1F (x : Ml) : Int := if ¬ (x.tgt = 0 ∨ x.tgt = 1) then 1 else mlF x.tgt x.kd x.tgt x.ep x.at1 x.pr x.has x.e.ep x.e.ki x.e.pe x.e.xs.length
def e1F (x : Ek) : Int := enF x.ep x.ki x.pe x.xs.length
def msF (L : List Ml) : Int := if 40 < L.length then 2 else ffF m1F L
def seF (L : List Ek) : Int := if 100 < L.length then 2 else ffF e1F L
theorem pick1 {f r v : Int} (h : (if f ≠ 0 then f else r) = v) : (f ≠ 0 → f = v) ∧ (f = 0 → r = v) := by
  refine ⟨fun a => ?_, fun a => ?_⟩ <;> simp_all
theorem pick2 {f id k v : Int} (h : (if f ≠ 0 then f else if id ≠ k then 1 else 0) = v) : (f ≠ 0 → f = v) ∧ (f = 0 → id ≠ k → 1 = v) ∧ (f = 0 → id = k → 0 = v) := by
  refine ⟨fun a => ?_, fun a b => ?_, fun a b => ?_⟩ <;> simp_all
theorem pick3 {f id k r v : Int} (h : (if (if f ≠ 0 then f else if id ≠ k then 1 else 0) ≠ 0 then (if f ≠ 0 then f else if id ≠ k then 1 else 0) else r) = v) : (f ≠ 0 → f = v) ∧ (f = 0 → id ≠ k → 1 = v) ∧ (f = 0 → id = k → r = v) := by
  refine ⟨fun a => ?_, fun a b => ?_, fun a b => ?_⟩ <;> simp_all
/-- What is asked of mails and of what is sealed. -/
def q1F (a b : Int) : Int := if a ≠ 0 then a else b
theorem pickq {a b v : Int} (h : q1F a b = v) : (a ≠ 0 → a = v) ∧ (a = 0 → b = v) := pick1 h
/-- The fault of a pair. -/
def pF (sa si ho nx : Int) (r1 r2 : List Ru) (N : List (Int × Bool × Int × Int × Int × Int × Int × Int × List Ek)) (W : List (Int × Int × List Int × List Int)) (M : List Ml) (S : List Ek) : Int :=
  q1F (stF sa si ho nx r1 r2) (if ¬ (N.length = 2 ∧ W.length = 3) then 1 else q1F (ndF N) (q1F (ffF w1F W) (q1F (msF M) (seF S))))

end Go.Proofs.YtebkdaddndlmoaaGreat
