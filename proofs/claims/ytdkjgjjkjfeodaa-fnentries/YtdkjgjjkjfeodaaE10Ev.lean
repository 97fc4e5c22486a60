/- What is proved here: facts on lists of entries that a call owns: the list's cells, and the bytes of each entry in memory of its own. -/
import Derived.Test.YtdkjgjjkjfeodaaE10Mx
import Derived.Test.YtdkjgjjkjfeodaaE10Av
namespace Go.Proofs.Ytdkjgjjkjfeodaa
open Go.RowKit
set_option linter.unusedVariables false

/-- An entry in memory: its place in the bytes that it was read of; where its own bytes lie. -/
structure EvM where
  t : Nat
  a : Option Addr
  cap : Nat
/-- Its bytes; its cells. -/
def EvM.by (zs : List Int) (x : EvM) : List Int := ((zs.drop x.t).drop 8).take (eSz (zs.drop x.t) - 8)
def EvM.pv (zs : List Int) (x : EvM) : Value := .slice x.a (eSz (zs.drop x.t) - 8) x.cap
def EvM.cs (zs : List Int) (x : EvM) : List Value := [.int .i64 (numAt (zs.drop x.t) 3 2), .int .i64 (zs[x.t + 5]?.getD 0), .int .i64 (zs[x.t + 6]?.getD 0), x.pv zs]

theorem row_ne_row {w : World} {lo lo' sz sz' n n' : Nat} {e e' : TypeId} {u u' : Value} {xs xs' : List Value} (h : w.ownsRow lo e sz u n xs) (h' : w.ownsRow lo' e' sz' u' n' xs') (hne : e ≠ e') : ∀ k, u.ownBlock = some k → u'.ownBlock ≠ some k := by
  intro k hk hk'
  rcases h.2 with ⟨h1, h2⟩ | ⟨g, c, cur, h1, h2, h3, r⟩
  · subst h1; simp [Value.ownBlock] at hk
  · rcases h'.2 with ⟨i1, i2⟩ | ⟨g', c', cur', i1, i2, i3, r'⟩
    · subst i1; simp [Value.ownBlock] at hk'
    · subst h1 i1
      simp [Value.ownBlock] at hk hk'
      subst hk hk'
      rw [h3] at i3
      simp at i3
      exact hne i3.2

/-- The bytes of the entries lie in memory of the call's own, from lo on, each in a block of its own. -/
structure EvOwn (w : World) (lo : Nat) (zs : List Int) (V : List EvM) : Prop where
  own : ∀ x ∈ V, w.ownsRow lo 5 1 (x.pv zs) (eSz (zs.drop x.t) - 8) ((x.by zs).map (Value.int .u8))
  apart : ∀ (i j : Nat) (u v : EvM) (k : Nat), V[i]? = some u → V[j]? = some v → i ≠ j → (u.pv zs).ownBlock = some k → (v.pv zs).ownBlock ≠ some k

theorem EvOwn.nil (w : World) (lo : Nat) (zs : List Int) : EvOwn w lo zs [] := ⟨by simp, by intro i j u v k h; simp at h⟩
theorem EvOwn.turn {w w' : World} {lo : Nat} {zs : List Int} {V : List EvM} {S : Nat → Prop} (h : EvOwn w lo zs V) (t : Turn S w w') (hS : ∀ x ∈ V, ∀ k, (x.pv zs).ownBlock = some k → ¬ S k) : EvOwn w' lo zs V :=
  ⟨fun x hx => row9_turn (h.own x hx) t (hS x hx), h.apart⟩
theorem EvOwn.new {w w' : World} {lo : Nat} {zs : List Int} {V : List EvM} (h : EvOwn w lo zs V) (t : New w w') : EvOwn w' lo zs V := h.turn t (fun _ _ _ _ f => f)
theorem EvOwn.snoc {w : World} {lo : Nat} {zs : List Int} {V : List EvM} (h : EvOwn w lo zs V) (x : EvM) (ho : w.ownsRow lo 5 1 (x.pv zs) (eSz (zs.drop x.t) - 8) ((x.by zs).map (Value.int .u8))) (hl : ∀ y ∈ V, ∀ k, (y.pv zs).ownBlock = some k → (x.pv zs).ownBlock ≠ some k) : EvOwn w lo zs (V ++ [x]) := by
  have key : ∀ (i : Nat) (u : EvM), (V ++ [x])[i]? = some u → (V[i]? = some u) ∨ (i = V.length ∧ u = x) := by
    intro i u hu
    rw [List.getElem?_append] at hu
    split at hu
    · exact .inl hu
    · right
      have : i - V.length = 0 := by
        rcases Nat.eq_zero_or_pos (i - V.length) with e | e
        · exact e
        · rw [List.getElem?_eq_none (by simp; omega)] at hu; cases hu
      rw [this] at hu
      simp at hu
      exact ⟨by omega, hu.symm⟩
  refine ⟨?_, ?_⟩
  · intro u hu
    rcases List.mem_append.1 hu with hu | hu
    · exact h.own u hu
    · obtain rfl := List.mem_singleton.1 hu; exact ho
  · intro i j u v k hi hj hne hu hv
    rcases key i u hi with hi2 | ⟨rfl, rfl⟩
    · rcases key j v hj with hj2 | ⟨rfl, rfl⟩
      · exact h.apart i j u v k hi2 hj2 hne hu hv
      · exact hl u (List.mem_of_getElem? hi2) k hu hv
    · rcases key j v hj with hj2 | ⟨rfl, rfl⟩
      · exact hl v (List.mem_of_getElem? hj2) k hv hu
      · exact hne rfl
theorem EvOwn.low {w : World} {lo lo' : Nat} {zs : List Int} {V : List EvM} (h : EvOwn w lo zs V) (hl : lo' ≤ lo) : EvOwn w lo' zs V := by
  refine ⟨fun x hx => ?_, h.apart⟩
  obtain ⟨h1, h2⟩ := h.own x hx
  refine ⟨h1, ?_⟩
  rcases h2 with h2 | ⟨g, c, cur, e1, e2, r⟩
  · exact .inl h2
  · exact .inr ⟨g, c, cur, e1, by omega, r⟩
theorem cells_len (zs : List Int) : ∀ V : List EvM, (V.flatMap (EvM.cs zs)).length = V.length * 4
  | [] => rfl
  | x :: V => by
    rw [List.flatMap_cons, List.length_append, cells_len zs V]
    simp only [EvM.cs, List.length_cons, List.length_nil]
    omega

end Go.Proofs.Ytdkjgjjkjfeodaa
