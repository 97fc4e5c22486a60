/- What is proved here: facts on lists of entries that a call owns. No condition. -/
import Derived.Test.YtlkhmnjghdbmoaaGreatDoorK12Ls
import Derived.Test.YtlkhmnjghdbmoaaGreatDoorE10Ce
namespace Go.Proofs.YtlkhmnjghdbmoaaGreatDoor
open Go.RowKit Go.Sort
set_option linter.unusedVariables false

/-- The bytes of an entry, as a value. -/
def EkV.pv (v : EkV) : Value := .slice v.a v.r.xs.length v.c
/-- Numbers that are bytes. -/
def By (z : Int) : Prop := 0 ≤ z ∧ z ≤ 255

theorem OvB.turnK {w w' : World} {lo : Nat} {v : Value} {xs : List Int} {S : Nat → Prop} (h : OvB w lo v xs) (t : Turn S w w') (hS : ∀ k, v.ownBlock = some k → ¬ S k) : OvB w' lo v xs := by
  refine ⟨h.1, ?_⟩
  rcases h.2 with h' | ⟨g', cap', cur, h', hb, hh, r⟩
  · exact .inl h'
  · have hlt : g' < w.heap.size := (Array.getElem?_eq_some_iff.1 hh).1
    exact .inr ⟨g', cap', cur, h', hb, (t.block g' hlt (hS g' (by rw [h']; rfl))).trans hh, r⟩
theorem OvB.rngK {w : World} {lo : Nat} {v : Value} {xs : List Int} (h : OvB w lo v xs) : ∀ j, v.ownBlock = some j → lo ≤ j ∧ j < w.heap.size := by
  intro j hj
  rcases h.2 with ⟨h', _⟩ | ⟨g', cap', cur, h', hb, hh, r⟩
  · rw [h'] at hj; simp [Value.ownBlock] at hj
  · have hlt : g' < w.heap.size := (Array.getElem?_eq_some_iff.1 hh).1
    rw [h'] at hj
    simp [Value.ownBlock] at hj
    omega
theorem OvB.ofK {w : World} {g n c : Nat} {xs : List Int} (h : w.ownsRow 0 5 1 (.slice (some ⟨g, 0, none⟩) n c) n (xs.map (Value.int .u8))) : OvB w g (.slice (some ⟨g, 0, none⟩) n c) xs := by
  have hl : xs.length = n := by simpa using h.1
  subst hl
  refine ⟨h.1, ?_⟩
  rcases h.2 with h' | ⟨g', cap', cur, h', r⟩
  · exact .inl h'
  · have e2 := congrArg Value.ownBlock h'
    have e3 : g = g' := by simpa [Value.ownBlock] using e2
    exact .inr ⟨g', cap', cur, h', by omega, r.2⟩

/-- The bytes of the entries lie in memory of the call's own, from lo to hi, each in a block of its own. -/
structure PaK (w : World) (lo hi : Nat) (V : List EkV) : Prop where
  own : ∀ v ∈ V, OvB w lo v.pv v.r.xs
  bd : ∀ v ∈ V, (∀ z ∈ v.r.xs, By z) ∧ v.r.xs.length ≤ 1048576
  lies : ∀ v ∈ V, ∀ k, v.pv.ownBlock = some k → k < hi
  apart : ∀ (i j : Nat) (u v : EkV) (k : Nat), V[i]? = some u → V[j]? = some v → i ≠ j → u.pv.ownBlock = some k → v.pv.ownBlock ≠ some k

theorem PaK.nil (w : World) (lo hi : Nat) : PaK w lo hi [] := ⟨by simp, by simp, by simp, by intro i j u v k h; simp at h⟩
theorem PaK.turn {w w' : World} {lo hi : Nat} {V : List EkV} {S : Nat → Prop} (h : PaK w lo hi V) (t : Turn S w w') (hS : ∀ k, lo ≤ k → k < hi → ¬ S k) : PaK w' lo hi V :=
  ⟨fun v hv => (h.own v hv).turnK t (fun k hk => hS k ((h.own v hv).rngK k hk).1 (h.lies v hv k hk)), h.bd, h.lies, h.apart⟩
/-- Where a row of entries alone has turned, the bytes have not. -/
theorem PaK.new {w w' : World} {lo hi : Nat} {V : List EkV} (h : PaK w lo hi V) (t : New w w') : PaK w' lo hi V := h.turn t (fun _ _ _ f => f)
theorem PaK.here {w : World} {lo hi : Nat} {V : List EkV} (h : PaK w lo hi V) : ∀ v ∈ V, BsAt w v.a v.r.xs ∧ (v.a = none → v.r.xs.length = 0 ∧ v.c = 0) ∧ v.r.xs.length ≤ 1048576 := by
  intro v hv
  obtain ⟨a, c, e, h1, h2, h3, -⟩ := (h.own v hv).bs (h.bd v hv).1
  simp only [EkV.pv, Value.slice.injEq, true_and] at e
  obtain ⟨rfl, rfl⟩ := e
  refine ⟨h1, ?_, (h.bd v hv).2⟩
  intro hn
  rcases h3 with ⟨-, h4, h5⟩ | ⟨g, h4, -⟩
  · exact ⟨h4, h5⟩
  · rw [hn] at h4; cases h4
theorem PaK.snoc {w : World} {lo hi hi' : Nat} {V : List EkV} (h : PaK w lo hi V) (v : EkV) (ho : OvB w hi v.pv v.r.xs) (hb : ∀ z ∈ v.r.xs, By z) (hm : v.r.xs.length ≤ 1048576) (hlo : lo ≤ hi) (hhi : hi ≤ hi') (hw : w.heap.size ≤ hi') : PaK w lo hi' (V ++ [v]) := by
  have key : ∀ (i : Nat) (u : EkV), (V ++ [v])[i]? = some u → (V[i]? = some u) ∨ (i = V.length ∧ u = v) := by
    intro i u hu
    rw [List.getElem?_append] at hu
    split at hu
    · exact .inl hu
    · right
      have : i - V.length = 0 := by
        rcases Nat.eq_zero_or_pos (i - V.length) with e | e
        · exact e
        · rw [List.getElem?_eq_none (by simp; omega)] at hu; cases hu
      rw [this] at hu
      simp at hu
      exact ⟨by omega, hu.symm⟩
  refine ⟨?_, ?_, ?_, ?_⟩
  · intro u hu
    rcases List.mem_append.1 hu with hu | hu
    · exact h.own u hu
    · obtain rfl := List.mem_singleton.1 hu; exact ho.low hlo
  · intro u hu
    rcases List.mem_append.1 hu with hu | hu
    · exact h.bd u hu
    · obtain rfl := List.mem_singleton.1 hu; exact ⟨hb, hm⟩
  · intro u hu k hk
    rcases List.mem_append.1 hu with hu | hu
    · have := h.lies u hu k hk; omega
    · obtain rfl := List.mem_singleton.1 hu; have := (ho.rngK k hk).2; omega
  · intro i j u q k hi hj hne hu hq
    rcases key i u hi with h1 | ⟨h1, rfl⟩
    · rcases key j q hj with h2 | ⟨h2, rfl⟩
      · exact h.apart i j u q k h1 h2 hne hu hq
      · have := h.lies u (List.mem_of_getElem? h1) k hu; have := (ho.rngK k hq).1; omega
    · rcases key j q hj with h2 | ⟨h2, rfl⟩
      · have := h.lies q (List.mem_of_getElem? h2) k hq; have := (ho.rngK k hu).1; omega
      · omega
theorem PaK.up {w : World} {lo hi hi' : Nat} {V : List EkV} (h : PaK w lo hi V) (hh : hi ≤ hi') : PaK w lo hi' V := ⟨h.own, h.bd, fun v hv k hk => Nat.lt_of_lt_of_le (h.lies v hv k hk) hh, h.apart⟩
theorem PaK.low {w : World} {lo lo' hi : Nat} {V : List EkV} (h : PaK w lo hi V) (hh : lo' ≤ lo) : PaK w lo' hi V := ⟨fun v hv => (h.own v hv).low hh, h.bd, h.lies, h.apart⟩
theorem PaK.take {w : World} {lo hi : Nat} {V : List EkV} (h : PaK w lo hi V) (m : Nat) : PaK w lo hi (V.take m) :=
  ⟨fun v hv => h.own v (List.mem_of_mem_take hv), fun v hv => h.bd v (List.mem_of_mem_take hv), fun v hv => h.lies v (List.mem_of_mem_take hv),
    fun i j u v k hi hj hne => h.apart i j u v k (by rw [List.getElem?_take] at hi; split at hi; exact hi; cases hi) (by rw [List.getElem?_take] at hj; split at hj; exact hj; cases hj) hne⟩

/-- The row of the entries and their bytes are the call's own, from lo to hi. -/
structure OwL (w : World) (lo hi : Nat) (u : Value) (V : List EkV) : Prop where
  row : w.ownsRow lo 104 4 u V.length (cellsK V)
  rhi : ∀ k, u.ownBlock = some k → k < hi
  path : PaK w lo hi V

theorem OwL.turn {w w' : World} {lo hi : Nat} {u : Value} {V : List EkV} {S : Nat → Prop} (h : OwL w lo hi u V) (t : Turn S w w') (hS : ∀ k, lo ≤ k → k < hi → ¬ S k) : OwL w' lo hi u V := by
  obtain ⟨y, d, -, -, hr⟩ := row9_form h.row
  exact ⟨row9_turn h.row t (fun k hk => hS k (hr k hk).1 (h.rhi k hk)), h.rhi, h.path.turn t hS⟩
theorem OwL.new {w w' : World} {lo hi : Nat} {u : Value} {V : List EkV} (h : OwL w lo hi u V) (t : New w w') : OwL w' lo hi u V := h.turn t (fun _ _ _ f => f)
theorem OwL.up {w : World} {lo hi hi' : Nat} {u : Value} {V : List EkV} (h : OwL w lo hi u V) (hh : hi ≤ hi') : OwL w lo hi' u V := ⟨h.row, fun k hk => Nat.lt_of_lt_of_le (h.rhi k hk) hh, h.path.up hh⟩
theorem OwL.low {w : World} {lo lo' hi : Nat} {u : Value} {V : List EkV} (h : OwL w lo hi u V) (hh : lo' ≤ lo) : OwL w lo' hi u V := ⟨Joins.ownsRow_le h.row hh, h.rhi, h.path.low hh⟩
theorem LgAt.nil (w : World) (A : Option Addr) : LgAt w A [] := by intro i u h; simp at h
theorem OwL.form {w : World} {lo hi : Nat} {u : Value} {V : List EkV} (h : OwL w lo hi u V) : ∃ A c, u = .slice A V.length c ∧ LgAt w A V ∧ ((A = none ∧ V = [] ∧ c = 0) ∨ ∃ g, A = some ⟨g, 0, none⟩ ∧ V.length ≤ c ∧ lo ≤ g ∧ g < hi ∧ g < w.heap.size ∧ OwK w lo hi g V.length c V) := by
  rcases h.row.2 with ⟨h1, h2⟩ | ⟨g, c, cur, h1, h2, h3, h4, r⟩
  · obtain rfl : V = [] := List.eq_nil_of_length_eq_zero h2
    exact ⟨none, 0, h1, LgAt.nil _ _, .inl ⟨rfl, rfl, rfl⟩⟩
  · have hlt : g < w.heap.size := (Array.getElem?_eq_some_iff.1 h3).1
    subst h1
    have hrow := own_base h.row
    have hne : ∀ v ∈ V, ∀ x, v.a = some x → lo ≤ x.block ∧ x.block < hi ∧ ¬ x.block = g := by
      intro v hv x hx
      have hob : v.pv.ownBlock = some x.block := by unfold EkV.pv; rw [hx]; rfl
      refine ⟨((h.path.own v hv).rngK _ hob).1, h.path.lies v hv _ hob, ?_⟩
      intro e
      rcases (h.path.own v hv).2 with ⟨h', _⟩ | ⟨g', cap', cur', h', hb', hh', r'⟩
      · rw [h'] at hob; simp [Value.ownBlock] at hob
      · rw [h'] at hob
        simp [Value.ownBlock] at hob
        rw [hob, e, h3] at hh'
        simp only [Option.some.injEq, Obj.cells.injEq] at hh'
        exact absurd hh'.2.1 (by decide)
    refine ⟨_, c, rfl, ?_, .inr ⟨g, rfl, h4, h2, h.rhi g rfl, hlt, ⟨hrow, ?_, fun v hv => (h.path.bd v hv).2, hne, ⟨h2, h.rhi g rfl⟩, ?_⟩⟩⟩
    · intro i v hv
      have hi' : i < V.length := (List.getElem?_eq_some_iff.1 hv).1
      refine ⟨⟨g, rfl, fun j hj => ?_⟩, (h.path.here v (List.mem_of_getElem? hv)).1, (h.path.bd v (List.mem_of_getElem? hv)).2⟩
      rw [World.ownsRow.cellAt hrow (i * 4 + j) (by omega)]
      exact cellsK_get V i v hv j hj
    · intro i v hv
      obtain ⟨a, c', e, -, -, -, h9⟩ := (h.path.own v (List.mem_of_getElem? hv)).bs (h.path.bd v (List.mem_of_getElem? hv)).1
      simp only [EkV.pv, Value.slice.injEq, true_and] at e
      obtain ⟨rfl, rfl⟩ := e
      exact h9
    · intro i j u v x y hu hv hij hx hy e
      refine h.path.apart i j u v x.block hu hv hij ?_ ?_
      · unfold EkV.pv; rw [hx]; rfl
      · unfold EkV.pv; rw [hy, e]; rfl
theorem OwL.lg {w : World} {lo hi n c : Nat} {A : Option Addr} {V : List EkV} (h : OwL w lo hi (.slice A n c) V) : LgAt w A V ∧ V.length = n := by
  obtain ⟨A', c', e, h1, -⟩ := h.form
  simp only [Value.slice.injEq] at e
  obtain ⟨rfl, rfl, rfl⟩ := e
  exact ⟨h1, rfl⟩
theorem OwL.nil (w : World) (lo hi : Nat) : OwL w lo hi (.slice none 0 0) [] := ⟨⟨rfl, .inl ⟨rfl, rfl⟩⟩, by intro k hk; simp [Value.ownBlock] at hk, PaK.nil _ _ _⟩
theorem cellsK_snoc (V : List EkV) (v : EkV) : cellsK (V ++ [v]) = cellsK V ++ v.cs := by simp [cellsK]
theorem cellsK_take (V : List EkV) (m : Nat) : (cellsK V).take (m * 4) = cellsK (V.take m) := by
  induction V generalizing m with
  | nil => simp [cellsK]
  | cons v V ih =>
    cases m with
    | zero => simp [cellsK]
    | succ m =>
      have := ih m
      unfold cellsK at this ⊢
      rw [List.flatMap_cons, List.take_succ_cons, List.flatMap_cons, List.take_append]
      have e1 : (EkV.cs v).length = 4 := rfl
      rw [List.take_of_length_le (by rw [e1]; omega), e1, show (m + 1) * 4 - 4 = m * 4 by omega, this]
/-- The first ones of a list of the call's own. -/
theorem OwL.take {w : World} {lo hi n c : Nat} {A : Option Addr} {V : List EkV} (h : OwL w lo hi (.slice A n c) V) (m : Nat) (hm : m ≤ n) (hA : A ≠ none) : OwL w lo hi (.slice A m c) (V.take m) := by
  have hl := h.lg.2
  refine ⟨⟨by rw [cellsK_len], ?_⟩, fun k hk => h.rhi k (by cases A with | none => simp [Value.ownBlock] at hk | some x => simpa [Value.ownBlock] using hk), h.path.take m⟩
  rcases h.row.2 with ⟨h1, h2⟩ | ⟨g, cc, cur, h1, h2, h3, h4, h5, h6, h7⟩
  · simp at h1; exact absurd h1.1 hA
  · simp at h1
    obtain ⟨rfl, -, rfl⟩ := h1
    have e : (V.take m).length = m := by rw [List.length_take]; omega
    refine .inr ⟨g, c, cur, by rw [e], h2, h3, by omega, h5, h6, ?_⟩
    rw [e, ← cellsK_take, ← h7, List.take_take]
    congr 1
    omega

end Go.Proofs.YtlkhmnjghdbmoaaGreatDoor
