/- What is proved here: facts on lists of routes that a call owns. No condition. -/
import Derived.Test.YtjampcfikfafkaaGreatR7Law
import Derived.Test.YtjampcfikfafkaaGreatR7Mk
import Derived.Maps.AppendAt
namespace Go.Proofs.YtjampcfikfafkaaGreat
open Go.RowKit Go.Sort
set_option linter.unusedVariables false

/-- The path of a route, as a value. -/
def Rv.pv (v : Rv) : Value := .slice v.x v.r.xs.length v.c

theorem OvN.turn7 {w w' : World} {lo : Nat} {v : Value} {xs : List Int} {S : Nat → Prop} (h : OvN w lo v xs) (t : Turn S w w') (hS : ∀ k, v.ownBlock = some k → ¬ S k) : OvN w' lo v xs := by
  refine ⟨h.1, ?_⟩
  rcases h.2 with h' | ⟨g', cap', cur, h', hb, hh, r⟩
  · exact .inl h'
  · have hlt : g' < w.heap.size := (Array.getElem?_eq_some_iff.1 hh).1
    exact .inr ⟨g', cap', cur, h', hb, (t.block g' hlt (hS g' (by rw [h']; rfl))).trans hh, r⟩
theorem OvN.rng7 {w : World} {lo : Nat} {v : Value} {xs : List Int} (h : OvN w lo v xs) : ∀ j, v.ownBlock = some j → lo ≤ j ∧ j < w.heap.size := by
  intro j hj
  rcases h.2 with ⟨h', _⟩ | ⟨g', cap', cur, h', hb, hh, r⟩
  · rw [h'] at hj; simp [Value.ownBlock] at hj
  · have hlt : g' < w.heap.size := (Array.getElem?_eq_some_iff.1 hh).1
    rw [h'] at hj
    simp [Value.ownBlock] at hj
    omega
theorem OwN.ov7 {w : World} {g n c : Nat} {xs : List Int} (h : OwN w g n c xs) : OvN w g (.slice (some ⟨g, 0, none⟩) n c) xs := by
  have hl := h.len
  subst hl
  refine ⟨h.1, ?_⟩
  rcases h.2 with h' | ⟨g', cap', cur, h', r⟩
  · exact .inl h'
  · have e2 := congrArg Value.ownBlock h'
    have e3 : g = g' := by simpa [Value.ownBlock] using e2
    exact .inr ⟨g', cap', cur, h', by omega, r.2⟩

/-- The paths of the routes lie in memory of the call's own, from lo to hi, each in a block of its own. -/
structure PathsT (w : World) (lo hi : Nat) (V : List Rv) : Prop where
  own : ∀ v ∈ V, OvN w lo v.pv v.r.xs
  bd : ∀ v ∈ V, (∀ z ∈ v.r.xs, In6 z) ∧ v.r.xs.length ≤ 1048576
  lies : ∀ v ∈ V, ∀ k, v.pv.ownBlock = some k → k < hi
  apart : ∀ (i j : Nat) (u v : Rv) (k : Nat), V[i]? = some u → V[j]? = some v → i ≠ j → u.pv.ownBlock = some k → v.pv.ownBlock ≠ some k

theorem PathsT.nil (w : World) (lo hi : Nat) : PathsT w lo hi [] := ⟨by simp, by simp, by simp, by intro i j u v k h; simp at h⟩
theorem PathsT.turn {w w' : World} {lo hi : Nat} {V : List Rv} {S : Nat → Prop} (h : PathsT w lo hi V) (t : Turn S w w') (hS : ∀ k, lo ≤ k → k < hi → ¬ S k) : PathsT w' lo hi V :=
  ⟨fun v hv => (h.own v hv).turn7 t (fun k hk => hS k ((h.own v hv).rng7 k hk).1 (h.lies v hv k hk)), h.bd, h.lies, h.apart⟩
theorem PathsT.new {w w' : World} {lo hi : Nat} {V : List Rv} (h : PathsT w lo hi V) (t : New w w') : PathsT w' lo hi V := h.turn t (fun _ _ _ f => f)
theorem PathsT.here {w : World} {lo hi : Nat} {V : List Rv} (h : PathsT w lo hi V) : ∀ v ∈ V, v.here w := by
  intro v hv
  obtain ⟨a, c, e, h1, h2, -⟩ := (h.own v hv).ns (h.bd v hv).1
  simp only [Rv.pv, Value.slice.injEq, true_and] at e
  obtain ⟨rfl, rfl⟩ := e
  exact ⟨h1, h2, (h.bd v hv).2⟩
theorem PathsT.snoc {w : World} {lo hi hi' : Nat} {V : List Rv} (h : PathsT w lo hi V) (v : Rv) (ho : OvN w hi v.pv v.r.xs) (hb : ∀ z ∈ v.r.xs, In6 z) (hm : v.r.xs.length ≤ 1048576) (hlo : lo ≤ hi) (hhi : hi ≤ hi') (hw : w.heap.size ≤ hi') : PathsT w lo hi' (V ++ [v]) := by
  have key : ∀ (i : Nat) (u : Rv), (V ++ [v])[i]? = some u → (V[i]? = some u) ∨ (i = V.length ∧ u = v) := by
    intro i u hu
    rw [List.getElem?_append] at hu
    split at hu
    · exact .inl hu
    · right
      have : i - V.length = 0 := by
        rcases Nat.eq_zero_or_pos (i - V.length) with e | e
        · exact e
        · rw [List.getElem?_eq_none (by simp; omega)] at hu; cases hu
      rw [this] at hu
      simp at hu
      exact ⟨by omega, hu.symm⟩
  refine ⟨?_, ?_, ?_, ?_⟩
  · intro u hu
    rcases List.mem_append.1 hu with hu | hu
    · exact h.own u hu
    · obtain rfl := List.mem_singleton.1 hu; exact ho.low hlo
  · intro u hu
    rcases List.mem_append.1 hu with hu | hu
    · exact h.bd u hu
    · obtain rfl := List.mem_singleton.1 hu; exact ⟨hb, hm⟩
  · intro u hu k hk
    rcases List.mem_append.1 hu with hu | hu
    · have := h.lies u hu k hk; omega
    · obtain rfl := List.mem_singleton.1 hu; have := (ho.rng7 k hk).2; omega
  · intro i j u q k hi hj hne hu hq
    rcases key i u hi with h1 | ⟨h1, rfl⟩
    · rcases key j q hj with h2 | ⟨h2, rfl⟩
      · exact h.apart i j u q k h1 h2 hne hu hq
      · have := h.lies u (List.mem_of_getElem? h1) k hu; have := (ho.rng7 k hq).1; omega
    · rcases key j q hj with h2 | ⟨h2, rfl⟩
      · have := h.lies q (List.mem_of_getElem? h2) k hq; have := (ho.rng7 k hu).1; omega
      · omega
theorem PathsT.up {w : World} {lo hi hi' : Nat} {V : List Rv} (h : PathsT w lo hi V) (hh : hi ≤ hi') : PathsT w lo hi' V := ⟨h.own, h.bd, fun v hv k hk => Nat.lt_of_lt_of_le (h.lies v hv k hk) hh, h.apart⟩
theorem PathsT.low {w : World} {lo lo' hi : Nat} {V : List Rv} (h : PathsT w lo hi V) (hh : lo' ≤ lo) : PathsT w lo' hi V := ⟨fun v hv => (h.own v hv).low hh, h.bd, h.lies, h.apart⟩

/-- The row of the routes and their paths are the call's own, from lo to hi. -/
structure OwT (w : World) (lo hi : Nat) (u : Value) (V : List Rv) : Prop where
  row : w.ownsRow lo 38 8 u V.length (cellsT V)
  rhi : ∀ k, u.ownBlock = some k → k < hi
  path : PathsT w lo hi V

theorem row_turn7 {w w' : World} {lo : Nat} {u : Value} {V : List Rv} {S : Nat → Prop} (h : w.ownsRow lo 38 8 u V.length (cellsT V)) (t : Turn S w w') (hS : ∀ k, u.ownBlock = some k → ¬ S k) : w'.ownsRow lo 38 8 u V.length (cellsT V) := by
  refine ⟨h.1, ?_⟩
  rcases h.2 with h' | ⟨g', cap', cur, h', hb, hh, r⟩
  · exact .inl h'
  · have hlt : g' < w.heap.size := (Array.getElem?_eq_some_iff.1 hh).1
    exact .inr ⟨g', cap', cur, h', hb, (t.block g' hlt (hS g' (by rw [h']; rfl))).trans hh, r⟩
theorem row_rng7 {w : World} {lo n : Nat} {u : Value} {xs : List Value} (h : w.ownsRow lo 38 8 u n xs) : ∀ k, u.ownBlock = some k → lo ≤ k ∧ k < w.heap.size := by
  intro j hj
  rcases h.2 with ⟨h', _⟩ | ⟨g', cap', cur, h', hb, hh, r⟩
  · rw [h'] at hj; simp [Value.ownBlock] at hj
  · have hlt : g' < w.heap.size := (Array.getElem?_eq_some_iff.1 hh).1
    rw [h'] at hj
    simp [Value.ownBlock] at hj
    omega
theorem row_form7 {w : World} {lo : Nat} {u : Value} {V : List Rv} (h : w.ownsRow lo 38 8 u V.length (cellsT V)) : (u = .slice none 0 0 ∧ V = []) ∨ ∃ g c, u = .slice (some ⟨g, 0, none⟩) V.length c ∧ lo ≤ g ∧ g < w.heap.size ∧ OwRow w g V.length c V := by
  rcases h.2 with ⟨h1, h2⟩ | ⟨g, c, cur, h1, h2, h3, r⟩
  · exact .inl ⟨h1, List.eq_nil_of_length_eq_zero h2⟩
  · have hlt : g < w.heap.size := (Array.getElem?_eq_some_iff.1 h3).1
    exact .inr ⟨g, c, h1, h2, hlt, h.1, .inr ⟨g, c, cur, rfl, Nat.zero_le _, h3, r⟩⟩
theorem row_of7 {w : World} {lo g n c : Nat} {V : List Rv} (h : OwRow w g n c V) (hl : lo ≤ g) : w.ownsRow lo 38 8 (.slice (some ⟨g, 0, none⟩) n c) V.length (cellsT V) := by
  have hn := h.len
  subst hn
  refine ⟨h.1, ?_⟩
  rcases h.2 with h' | ⟨g', cap', cur, h', r⟩
  · exact .inl h'
  · have e2 := congrArg Value.ownBlock h'
    have e3 : g = g' := by simpa [Value.ownBlock] using e2
    exact .inr ⟨g', cap', cur, h', by omega, r.2⟩

theorem OwT.turn {w w' : World} {lo hi : Nat} {u : Value} {V : List Rv} {S : Nat → Prop} (h : OwT w lo hi u V) (t : Turn S w w') (hS : ∀ k, lo ≤ k → k < hi → ¬ S k) : OwT w' lo hi u V :=
  ⟨row_turn7 h.row t (fun k hk => hS k (row_rng7 h.row k hk).1 (h.rhi k hk)), h.rhi, h.path.turn t hS⟩
theorem OwT.new {w w' : World} {lo hi : Nat} {u : Value} {V : List Rv} (h : OwT w lo hi u V) (t : New w w') : OwT w' lo hi u V := h.turn t (fun _ _ _ f => f)
theorem OwT.up {w : World} {lo hi hi' : Nat} {u : Value} {V : List Rv} (h : OwT w lo hi u V) (hh : hi ≤ hi') : OwT w lo hi' u V := ⟨h.row, fun k hk => Nat.lt_of_lt_of_le (h.rhi k hk) hh, h.path.up hh⟩
theorem OwT.form {w : World} {lo hi : Nat} {u : Value} {V : List Rv} (h : OwT w lo hi u V) : ∃ A c, u = .slice A V.length c ∧ RtAt w A V ∧ (A = none → V.length = 0 ∧ c = 0) := by
  rcases row_form7 h.row with ⟨rfl, rfl⟩ | ⟨g, c, rfl, -, -, ho⟩
  · exact ⟨none, 0, rfl, RtAt.nil _ _, fun _ => ⟨rfl, rfl⟩⟩
  · exact ⟨_, c, rfl, ho.rt h.path.here, by intro e; cases e⟩
theorem OwT.rt {w : World} {lo hi n c : Nat} {A : Option Addr} {V : List Rv} (h : OwT w lo hi (.slice A n c) V) : RtAt w A V ∧ V.length = n := by
  obtain ⟨A', c', e, h1, -⟩ := h.form
  simp only [Value.slice.injEq] at e
  obtain ⟨rfl, rfl, rfl⟩ := e
  exact ⟨h1, rfl⟩
theorem OwT.nil (w : World) (lo hi : Nat) : OwT w lo hi (.slice none 0 0) [] := ⟨⟨rfl, .inl ⟨rfl, rfl⟩⟩, by intro k hk; simp [Value.ownBlock] at hk, PathsT.nil _ _ _⟩

section
variable {P : Program} {t e : TypeId} {i : TypeInfo}
/-- Appending a route to a list that the call owns. -/
theorem wpList_apT (w : World) {ops : Array Oper} {rest : List Oper} {o : Oper} {a : Act} {Q : Exit → Act → World → Prop} (hgd : o.guard = none) (s x : Operand)
    (ho : o.op = .call { callee := .builtin .append, args := #[s, x], argTypes := #[t, t] }) (base : Nat) (zero : Value) (ht : P.underlying t = some (.slice e)) (hi : P.info? e = some i) (hz : i.zero = some zero) (hs : i.size = 8) (hb : i.bytes = 80) (hz1 : zero.cells.size = 8)
    (v : Value) (rs : List Rv) (hsv : a.eval s = v) (hown : w.ownsRow base e 8 v rs.length (cellsT rs))
    (L : Nat) (r : Rv) (hxv : a.eval x = .slice (some ⟨L, 0, none⟩) 1 1) (hsrc : ∀ j, w.cell? ⟨L, j, none⟩ = r.cs[j]?) (hle : rs.length + 1 ≤ 4194304) (hbase : base ≤ w.heap.size)
    (h : ∀ v' w', w'.ownsRow base e 8 v' (rs ++ [r]).length (cellsT (rs ++ [r])) → w.grownBy w' v.ownBlock → (v'.ownBlock = v.ownBlock ∨ v'.ownBlock = some w.heap.size) → wpList P ops Q rest (a.put o.dst v') w') : wpList P ops Q (o :: rest) a w := by
  refine wpList_plain hgd fun _ hK => ?_
  have hnews : ∀ j u, r.cs[j]? = some u → w.cell? ((⟨L, 0, none⟩ : Addr).add j) = some u := by
    intro j u hu
    rw [Addr.add_lit, Nat.zero_add, hsrc j, hu]
  obtain ⟨v', w', hr, h2, h3, _, h5⟩ := run_append_own_at (P := P) w base t o.type e i zero 8 80 ht hi hz hs hb hz1 (by decide) v rs.length (cellsT rs) hown ⟨L, 0, none⟩ 1 1 r.cs rfl hnews (by simp [Rv.cs, Value.oneCell']) (by unfold maxLen; omega) (by omega) hbase
  unfold Oper.wp execOp
  simp only [ho, resolve, invoke, builtin, Sem.run_bind, Sem.run_pure, Result.andThen_ok, List.map_toArray, List.map_cons, List.map_nil, hsv, hxv, hr]
  exact hK _ _ (h v' w' (by rw [cellsT_snoc]; simpa using h2) h3 h5)
end

end Go.Proofs.YtjampcfikfafkaaGreat
