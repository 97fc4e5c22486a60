/- What is proved here: facts on answers with nodes. No condition. -/
import Derived.Test.YtkbdmcimgepakaaGreatK12Mm
namespace Go.Proofs.YtkbdmcimgepakaaGreat
open Go.RowKit Go.Sort
set_option linter.unusedVariables false
set_option linter.unusedSimpArgs false
set_option maxRecDepth 100000

/-- An answer can be read there, all in blocks below b. -/
structure NrRd (w : World) (b : Nat) (A : Option Addr) (U : List EkV) (S : Option Addr) (Ms : List MlV) : Prop where
  lg : LgAt w A U
  sd : SdAt w S Ms
  l1 : ∀ x, A = some x → x.block < b
  l2 : ∀ u ∈ U, ∀ x, u.a = some x → x.block < b
  l3 : ∀ x, S = some x → x.block < b
  l4 : ∀ v ∈ Ms, ∀ x, v.a = some x → x.block < b
theorem NrRd.turn {w w' : World} {b : Nat} {A S : Option Addr} {U : List EkV} {Ms : List MlV} {T : Nat → Prop} (h : NrRd w b A U S Ms) (t : Turn T w w') (hT : ∀ k, k < b → ¬ T k) : NrRd w' b A U S Ms :=
  ⟨h.lg.turn t (fun x _ hx => hT _ (h.l1 x hx)) (fun u hu x _ hx => hT _ (h.l2 u hu x hx)), h.sd.turn t (fun x hx => hT _ (h.l3 x hx)) (fun v hv x hx => hT _ (h.l4 v hv x hx)), h.l1, h.l2, h.l3, h.l4⟩
theorem NrRd.new {w w' : World} {b : Nat} {A S : Option Addr} {U : List EkV} {Ms : List MlV} (h : NrRd w b A U S Ms) (t : New w w') : NrRd w' b A U S Ms := h.turn t (fun _ _ f => f)

/-- All of an answer is the call's own, from b0 to b1. -/
def NrOw (w : World) (b0 b1 : Nat) (A : Option Addr) (n c : Nat) (U : List EkV) (S : Option Addr) (q cs : Nat) (Ms : List MlV) : Prop :=
  ∃ (lo hi : Nat) (P : Nat → Prop), OwL w lo hi (.slice A n c) U ∧ SdOw w P S q cs Ms ∧ (∀ i, P i → ¬ (lo ≤ i ∧ i < hi)) ∧ (∀ i, P i → b0 ≤ i ∧ i < b1) ∧ b0 ≤ lo ∧ hi ≤ b1
theorem NrOw.turn {w w' : World} {b0 b1 n c q cs : Nat} {A S : Option Addr} {U : List EkV} {Ms : List MlV} {T : Nat → Prop} (h : NrOw w b0 b1 A n c U S q cs Ms) (t : Turn T w w') (hT : ∀ k, b0 ≤ k → k < b1 → ¬ T k) : NrOw w' b0 b1 A n c U S q cs Ms := by
  obtain ⟨lo, hi, P, h1, h2, h3, h4, h5, h6⟩ := h
  exact ⟨lo, hi, P, h1.turn t (fun k k1 k2 => hT k (by omega) (by omega)), h2.turn t (fun k hk => hT k (h4 k hk).1 (h4 k hk).2), h3, h4, h5, h6⟩
theorem NrOw.new {w w' : World} {b0 b1 n c q cs : Nat} {A S : Option Addr} {U : List EkV} {Ms : List MlV} (h : NrOw w b0 b1 A n c U S q cs Ms) (t : New w w') : NrOw w' b0 b1 A n c U S q cs Ms := h.turn t (fun _ _ _ f => f)
theorem OwL.blocks {w : World} {lo hi n c : Nat} {A : Option Addr} {U : List EkV} (h : OwL w lo hi (.slice A n c) U) : (∀ x, A = some x → lo ≤ x.block ∧ x.block < hi) ∧ (∀ u ∈ U, ∀ x, u.a = some x → lo ≤ x.block ∧ x.block < hi) := by
  refine ⟨fun x hx => ?_, fun u hu x hx => ?_⟩
  · obtain ⟨A', c', ef, -, h2⟩ := h.form
    simp only [Value.slice.injEq] at ef
    obtain ⟨rfl, rfl, rfl⟩ := ef
    rcases h2 with ⟨rfl, -, -⟩ | ⟨g, rfl, -, h3, h4, -, -⟩
    · cases hx
    · cases hx; exact ⟨h3, h4⟩
  · have hob : u.pv.ownBlock = some x.block := by unfold EkV.pv; rw [hx]; rfl
    exact ⟨((h.path.own u hu).rngK _ hob).1, h.path.lies u hu _ hob⟩
theorem NrOw.rd {w : World} {b0 b1 n c q cs : Nat} {A S : Option Addr} {U : List EkV} {Ms : List MlV} (h : NrOw w b0 b1 A n c U S q cs Ms) : NrRd w b1 A U S Ms ∧ U.length = n ∧ Ms.length = q ∧ NlK U := by
  obtain ⟨lo, hi, P, h1, h2, h3, h4, h5, h6⟩ := h
  have k1 := h1.blocks
  have k2 := h2.sd
  exact ⟨⟨h1.lg.1, k2.1, fun x hx => Nat.lt_of_lt_of_le (k1.1 x hx).2 h6, fun u hu x hx => Nat.lt_of_lt_of_le (k1.2 u hu x hx).2 h6, fun x hx => (h4 _ (k2.2.2.1 x hx)).2, fun v hv x hx => (h4 _ (k2.2.2.2 v hv x hx)).2⟩, h1.lg.2, k2.2.1, h1.nl⟩

/-- An answer with a node and mails. -/
def NrAns (w : World) (z1 id1 : Int) (up1 : Bool) (ro1 ep1 su1 ma1 ot1 co1 : Int) (L : List Ek) (M : List Ml) (e : Ending) (w' : World) : Prop :=
  ∃ (A : Option Addr) (c : Nat) (U : List EkV) (S : Option Addr) (cs : Nat) (Ms : List MlV), e = .returned (.agg #[.int .i64 z1, .int .i64 id1, .bool up1, .int .i64 ro1, .int .i64 ep1, .slice A L.length c, .int .i64 su1, .int .i64 ma1, .int .i64 ot1, .int .i64 co1, .slice S M.length cs]) ∧ U.map EkV.r = L ∧ Ms.map MlV.m = M ∧ NrOw w' w.heap.size w'.heap.size A L.length c U S M.length cs Ms ∧ New w w'

end Go.Proofs.YtkbdmcimgepakaaGreat
