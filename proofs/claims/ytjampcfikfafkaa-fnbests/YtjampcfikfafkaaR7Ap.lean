/- What is proved here: facts on lists of routes that grow. No condition. -/
import Derived.Test.YtjampcfikfafkaaR7Cp
namespace Go.Proofs.Ytjampcfikfafkaa
open Go.RowKit Go.Sort
set_option linter.unusedVariables false

theorem PathsT.turn7 {w w' : World} {lo hi : Nat} {V : List Rv} {S : Nat → Prop} (h : PathsT w lo hi V) (t : Turn S w w') (hS : ∀ v ∈ V, ∀ k, v.pv.ownBlock = some k → ¬ S k) : PathsT w' lo hi V :=
  ⟨fun v hv => (h.own v hv).turn7 t (hS v hv), h.bd, h.lies, h.apart⟩
theorem rowv_ne7 {w : World} {lo lo' n k : Nat} {u v : Value} {cs : List Value} {xs : List Int} (h : w.ownsRow lo 35 8 u n cs) (ho : OvN w lo' v xs) (hu : u.ownBlock = some k) : v.ownBlock ≠ some k := by
  intro e
  rcases ho.2 with ⟨h', _⟩ | ⟨g1, c1, cur1, h1, _, hb1, _⟩
  · rw [h'] at e; simp [Value.ownBlock] at e
  · rw [h1] at e
    simp [Value.ownBlock] at e
    subst e
    rcases h.2 with ⟨h', _⟩ | ⟨g2, _, cur2, h2, _, hb2, _⟩
    · rw [h'] at hu; simp [Value.ownBlock] at hu
    · rw [h2] at hu
      simp [Value.ownBlock] at hu
      subst hu
      rw [hb1] at hb2
      simp at hb2
theorem Turn.grown7 {w w' : World} {row : Option Nat} (h : w.grownBy w' row) : Turn (fun k => row = some k) w w' := ⟨h.os, h.tape, h.output, h.size, fun k hk hs => h.block k hk (fun e => hs e.symm)⟩

theorem OwT.appended {w2 w3 w4 w5 : World} {lo : Nat} {u v' : Value} {V : List Rv} {v : Rv} (h : OwT w2 lo w2.heap.size u V) (hlo : lo ≤ w2.heap.size) (n3 : New w2 w3) (ho : OvN w3 w2.heap.size v.pv v.r.xs) (hb : ∀ z ∈ v.r.xs, In6 z) (hm : v.r.xs.length ≤ 1048576) (n4 : New w3 w4)
    (hr : w5.ownsRow lo 35 8 v' (V ++ [v]).length (cellsT (V ++ [v]))) (hg : w4.grownBy w5 u.ownBlock) : OwT w5 lo w5.heap.size v' (V ++ [v]) := by
  have P4 := ((h.path.new n3).snoc v ho hb hm hlo n3.size (Nat.le_refl _)).new n4
  have r4 := row_turn7 h.row (n3.trans n4) (fun _ _ f => f)
  refine ⟨hr, fun k hk => (row_rng7 hr k hk).2, (P4.turn7 (Turn.grown7 hg) ?_).up (Nat.le_trans n4.size hg.size)⟩
  intro q hq k hk e
  exact rowv_ne7 r4 (P4.own q hq) e hk

/-- A row of no routes. -/
theorem row_lit7 {w : World} {B lo : Nat} (h : Blk w B 35 #[]) (hl : lo ≤ B) : w.ownsRow lo 35 8 (.slice (some ⟨B, 0, none⟩) 0 0) ([] : List Rv).length (cellsT []) :=
  ⟨rfl, .inr ⟨B, 0, #[], rfl, hl, h, Nat.le_refl _, by unfold maxLen; omega, rfl, rfl⟩⟩

theorem filter_next {K : Rt → Bool} {V : List Rv} {k : Nat} {v : Rv} (h : V[k]? = some v) : (V.take (k + 1)).filter (fun u => K u.r) = (V.take k).filter (fun u => K u.r) ++ (if K v.r then [v] else []) := by
  obtain ⟨hk, rfl⟩ := List.getElem?_eq_some_iff.1 h
  rw [List.take_succ_eq_append_getElem hk, List.filter_append]
  simp [List.filter_cons]
theorem filterR_next {K : Rt → Bool} {V : List Rv} {k : Nat} {v : Rv} (h : V[k]? = some v) : ((V.take (k + 1)).map Rv.r).filter K = ((V.take k).map Rv.r).filter K ++ (if K v.r then [v.r] else []) := by
  obtain ⟨hk, rfl⟩ := List.getElem?_eq_some_iff.1 h
  rw [List.take_succ_eq_append_getElem hk, List.map_append, List.filter_append]
  simp [List.filter_cons]
theorem filter_map7 (K : Rt → Bool) (V : List Rv) : (V.filter (fun u => K u.r)).map Rv.r = (V.map Rv.r).filter K := by
  rw [List.filter_map]
  rfl

end Go.Proofs.Ytjampcfikfafkaa
