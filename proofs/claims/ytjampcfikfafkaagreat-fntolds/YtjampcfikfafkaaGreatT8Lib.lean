/- What is proved here: facts on things told and lists of things told in memory. No condition. -/
import Derived.Test.YtjampcfikfafkaaGreatAtLaw
namespace Go.Proofs.YtjampcfikfafkaaGreat
open Go.RowKit Go.Sort
set_option linter.unusedVariables false

/-- A thing told. -/
structure Td where
  a : Int
  l : Int
  o : Int
  xs : List Int
  nx : Int
  md : Int
  lc : Int

/-- A thing told in memory: its path lies at an address, with room. -/
structure Tv where
  r : Td
  x : Option Addr
  c : Nat

/-- The cells of a thing told. -/
def Tv.cs (v : Tv) : List Value := [.int .i64 v.r.a, .int .i64 v.r.l, .int .i64 v.r.o, .slice v.x v.r.xs.length v.c, .int .i64 v.r.nx, .int .i64 v.r.md, .int .i64 v.r.lc]

/-- The path of a thing told is there. -/
def Tv.here (w : World) (v : Tv) : Prop := NsAt w v.x v.r.xs ∧ (v.x = none → v.r.xs.length = 0 ∧ v.c = 0) ∧ v.r.xs.length ≤ 1048576

/-- The address leads to the things told. -/
def TdAt (w : World) (A : Option Addr) (V : List Tv) : Prop :=
  ∀ i v, V[i]? = some v → (∃ b off, A = some ⟨b, off, none⟩ ∧ ∀ j, j < 7 → w.cell? ⟨b, off + i * 7 + j, none⟩ = v.cs[j]?) ∧ v.here w

theorem TdAt.nil (w : World) (a : Option Addr) : TdAt w a [] := by intro i z h; simp at h

theorem Tv.here.turn {w w' : World} {v : Tv} {S : Nat → Prop} (h : v.here w) (t : Turn S w w') (hS : ∀ x, v.r.xs ≠ [] → v.x = some x → ¬ S x.block) : v.here w' := ⟨h.1.turn t hS, h.2⟩
theorem Tv.here.new {w w' : World} {v : Tv} (h : v.here w) (t : New w w') : v.here w' := ⟨h.1.new t, h.2⟩

theorem TdAt.turn {w w' : World} {a : Option Addr} {V : List Tv} {S : Nat → Prop} (h : TdAt w a V) (t : Turn S w w') (hS : ∀ x, V ≠ [] → a = some x → ¬ S x.block) (hP : ∀ v ∈ V, ∀ x, v.r.xs ≠ [] → v.x = some x → ¬ S x.block) : TdAt w' a V := by
  intro i v hv
  obtain ⟨⟨b, off, ha, hc⟩, hh⟩ := h i v hv
  have h0 : w.cell? ⟨b, off + i * 7, none⟩ = some (.int .i64 v.r.a) := hc 0 (by omega)
  have hb' := t.block b (World.block_lt_of_cell? w _ h0) (hS _ (by rintro rfl; simp at hv) ha)
  exact ⟨⟨b, off, ha, fun j hj => (World.cell?_of_block hb').trans (hc j hj)⟩, hh.turn t (hP v (List.mem_of_getElem? hv))⟩
theorem TdAt.new {w w' : World} {a : Option Addr} {V : List Tv} (h : TdAt w a V) (t : New w w') : TdAt w' a V := h.turn t (fun _ _ _ f => f) (fun _ _ _ _ _ f => f)

theorem TdAt.at {w : World} {A : Option Addr} {V : List Tv} (h : TdAt w A V) (i : Nat) (hi : i < V.length) :
    ∃ (b off : Nat) (a l o nx md lc : Int) (x : Option Addr) (n c : Nat) (xs : List Int), A = some ⟨b, off, none⟩ ∧ V[i]? = some ⟨⟨a, l, o, xs, nx, md, lc⟩, x, c⟩ ∧ xs.length = n ∧ NsAt w x xs ∧ (x = none → n = 0 ∧ c = 0) ∧ n ≤ 1048576 ∧ w.cell? ⟨b, off + i * 7, none⟩ = some (.int .i64 a) ∧ w.cell? ⟨b, off + i * 7 + 1, none⟩ = some (.int .i64 l) ∧ w.cell? ⟨b, off + i * 7 + 2, none⟩ = some (.int .i64 o) ∧ w.cell? ⟨b, off + i * 7 + 3, none⟩ = some (.slice x n c) ∧ w.cell? ⟨b, off + i * 7 + 4, none⟩ = some (.int .i64 nx) ∧ w.cell? ⟨b, off + i * 7 + 5, none⟩ = some (.int .i64 md) ∧ w.cell? ⟨b, off + i * 7 + 6, none⟩ = some (.int .i64 lc) := by
  obtain ⟨⟨b, off, h1, h2⟩, hh⟩ := h i _ (List.getElem?_eq_getElem hi)
  exact ⟨b, off, _, _, _, _, _, _, _, _, _, _, h1, List.getElem?_eq_getElem hi, rfl, hh.1, hh.2.1, hh.2.2, h2 0 (by omega), h2 1 (by omega), h2 2 (by omega), h2 3 (by omega), h2 4 (by omega), h2 5 (by omega), h2 6 (by omega)⟩

def cells8 (V : List Tv) : List Value := V.flatMap Tv.cs
theorem cells8_cons (v : Tv) (V : List Tv) : cells8 (v :: V) = .int .i64 v.r.a :: .int .i64 v.r.l :: .int .i64 v.r.o :: .slice v.x v.r.xs.length v.c :: .int .i64 v.r.nx :: .int .i64 v.r.md :: .int .i64 v.r.lc :: cells8 V := rfl
theorem cells8_app (v : Tv) (V : List Tv) : cells8 (v :: V) = v.cs ++ cells8 V := rfl
theorem cells8_snoc (V : List Tv) (v : Tv) : cells8 (V ++ [v]) = cells8 V ++ v.cs := by simp [cells8]
theorem cells8_len : ∀ V : List Tv, (cells8 V).length = V.length * 7
  | [] => rfl
  | r :: V => by rw [cells8_app, List.length_append, cells8_len V, List.length_cons]; simp [Tv.cs]; omega
theorem cells8_get : ∀ (V : List Tv) (i : Nat) (r : Tv), V[i]? = some r → ∀ j, j < 7 → (cells8 V)[i * 7 + j]? = r.cs[j]?
  | [], i, p, h => by simp at h
  | q :: V, 0, p, h => by
    intro j hj
    simp at h
    subst h
    rw [cells8_app, Nat.zero_mul, Nat.zero_add, List.getElem?_append_left (by simpa [Tv.cs] using hj)]
  | q :: V, i + 1, p, h => by
    intro j hj
    have h' : V[i]? = some p := by simpa using h
    rw [cells8_app, List.getElem?_append_right (by simp [Tv.cs]; omega), show (i + 1) * 7 + j - q.cs.length = i * 7 + j by simp [Tv.cs]; omega]
    exact cells8_get V i p h' j hj
theorem cells8_set : ∀ (V : List Tv) (i : Nat) (v : Tv), (((((((cells8 V).set (i * 7) (.int .i64 v.r.a)).set (i * 7 + 1) (.int .i64 v.r.l)).set (i * 7 + 2) (.int .i64 v.r.o)).set (i * 7 + 3) (.slice v.x v.r.xs.length v.c)).set (i * 7 + 4) (.int .i64 v.r.nx)).set (i * 7 + 5) (.int .i64 v.r.md)).set (i * 7 + 6) (.int .i64 v.r.lc) = cells8 (V.set i v)
  | [], i, p => by simp [cells8]
  | q :: V, 0, p => by simp [cells8_cons]
  | q :: V, i + 1, p => by
    have ih := cells8_set V i p
    rw [show (i + 1) * 7 = i * 7 + 7 by omega, cells8_cons, show (q :: V).set (i + 1) p = q :: V.set i p from rfl, cells8_cons, ← ih]
    simp only [Nat.add_assoc, Nat.reduceAdd, List.set_cons_succ]

/-- The block g is a row of things told that a call has made. -/
def OwRow8 (w : World) (g n c : Nat) (V : List Tv) : Prop := w.ownsRow 0 43 7 (.slice (some ⟨g, 0, none⟩) n c) n (cells8 V)

theorem OwRow8.len {w : World} {g n c : Nat} {V : List Tv} (h : OwRow8 w g n c V) : V.length = n := by
  have := h.1
  rw [cells8_len] at this
  omega
theorem OwRow8.lt {w : World} {g n c : Nat} {V : List Tv} (h : OwRow8 w g n c V) : g < w.heap.size := (World.ownsRow.lt h g rfl).2
theorem OwRow8.turn {w w' : World} {g n c : Nat} {V : List Tv} {S : Nat → Prop} (h : OwRow8 w g n c V) (t : Turn S w w') (hS : ¬ S g) : OwRow8 w' g n c V := by
  have hg := h.lt
  refine ⟨h.1, ?_⟩
  rcases h.2 with ⟨h', _⟩ | ⟨g', cap', cur, h', r⟩
  · simp at h'
  · simp only [Value.slice.injEq, Option.some.injEq, Addr.mk.injEq, and_true, true_and] at h'
    obtain ⟨rfl, rfl⟩ := h'
    exact .inr ⟨g, c, cur, rfl, r.1, (t.block g hg hS).trans r.2.1, r.2.2⟩
theorem OwRow8.new {w w' : World} {g n c : Nat} {V : List Tv} (h : OwRow8 w g n c V) (t : New w w') : OwRow8 w' g n c V := h.turn t (fun f => f)
theorem OwRow8.rt {w : World} {g n c : Nat} {V : List Tv} (h : OwRow8 w g n c V) (hp : ∀ v ∈ V, v.here w) : TdAt w (some ⟨g, 0, none⟩) V := by
  intro i v hv
  have hl := h.len
  have hi : i < V.length := (List.getElem?_eq_some_iff.1 hv).1
  refine ⟨⟨g, 0, rfl, fun j hj => ?_⟩, hp v (List.mem_of_getElem? hv)⟩
  rw [Nat.zero_add, World.ownsRow.cellAt h (i * 7 + j) (by omega)]
  exact cells8_get V i v hv j hj
theorem OwRow8.put {w : World} {g n c : Nat} {V : List Tv} (h : OwRow8 w g n c V) (i : Nat) (v : Tv) : OwRow8 (((((((w.setCell ⟨g, i * 7, none⟩ (.int .i64 v.r.a)).setCell ⟨g, i * 7 + 1, none⟩ (.int .i64 v.r.l)).setCell ⟨g, i * 7 + 2, none⟩ (.int .i64 v.r.o)).setCell ⟨g, i * 7 + 3, none⟩ (.slice v.x v.r.xs.length v.c)).setCell ⟨g, i * 7 + 4, none⟩ (.int .i64 v.r.nx)).setCell ⟨g, i * 7 + 5, none⟩ (.int .i64 v.r.md)).setCell ⟨g, i * 7 + 6, none⟩ (.int .i64 v.r.lc)) g n c (V.set i v) := by
  have h1 := (World.ownsRow.stored h (i * 7) (.int .i64 v.r.a)).1
  have h2 := (World.ownsRow.stored h1 (i * 7 + 1) (.int .i64 v.r.l)).1
  have h3 := (World.ownsRow.stored h2 (i * 7 + 2) (.int .i64 v.r.o)).1
  have h4 := (World.ownsRow.stored h3 (i * 7 + 3) (.slice v.x v.r.xs.length v.c)).1
  have h5 := (World.ownsRow.stored h4 (i * 7 + 4) (.int .i64 v.r.nx)).1
  have h6 := (World.ownsRow.stored h5 (i * 7 + 5) (.int .i64 v.r.md)).1
  have h7 := (World.ownsRow.stored h6 (i * 7 + 6) (.int .i64 v.r.lc)).1
  unfold OwRow8
  rw [← cells8_set V i v]
  exact h7
theorem OwRow8.cell {w : World} {g n c : Nat} {V : List Tv} (h : OwRow8 w g n c V) (j : Nat) (hj : j < n * 7) : ∃ v, w.cell? ⟨g, j, none⟩ = some v := by
  have hl := cells8_len V
  have := h.len
  exact ⟨_, (World.ownsRow.cellAt h j hj).trans (List.getElem?_eq_getElem (by omega))⟩

/-- The thing told of zeros. -/
def tv0 : Tv := ⟨⟨0, 0, 0, [], 0, 0, 0⟩, none, 0⟩
theorem made_tv (n : Nat) : (madeCells #[.int .i64 0, .int .i64 0, .int .i64 0, .slice none 0 0, .int .i64 0, .int .i64 0, .int .i64 0] (n * 7)).toList = cells8 (List.replicate n tv0) := by
  apply List.ext_getElem?
  intro k
  by_cases hk : k < n * 7
  · have h1 : (cells8 (List.replicate n tv0))[k / 7 * 7 + k % 7]? = tv0.cs[k % 7]? := cells8_get _ (k / 7) tv0 (by rw [List.getElem?_replicate]; simp; omega) (k % 7) (by omega)
    rw [show k / 7 * 7 + k % 7 = k by omega] at h1
    rw [h1]
    simp only [madeCells, Array.toList_map, Array.toList_range, List.getElem?_map, List.getElem?_range hk, Option.map_some]
    have h8 : k % 7 = 0 ∨ k % 7 = 1 ∨ k % 7 = 2 ∨ k % 7 = 3 ∨ k % 7 = 4 ∨ k % 7 = 5 ∨ k % 7 = 6 := by omega
    rcases h8 with e | e | e | e | e | e | e <;> simp [e, Tv.cs, tv0]
  · rw [List.getElem?_eq_none (by simp [madeCells]; omega), List.getElem?_eq_none (by rw [cells8_len]; simp; omega)]

theorem set_fill8 (V : List Tv) (k n : Nat) (hn : V.length = k) (hk : k < n) (p : Tv) :
    (V ++ List.replicate (n - k) tv0).set k p = (V ++ [p]) ++ List.replicate (n - (k + 1)) tv0 := by
  rw [List.set_append_right _ _ (by omega), hn, Nat.sub_self, show n - k = (n - (k + 1)) + 1 by omega, List.replicate_succ, List.set_cons_zero, List.append_assoc]
  rfl

theorem Tryz.infoTd : (Tryz.prog.info? 43).map (fun i => (i.zero, i.size, i.bytes)) = some (some (.agg #[.int .i64 0, .int .i64 0, .int .i64 0, .slice none 0 0, .int .i64 0, .int .i64 0, .int .i64 0]), 7, 72) := by kernel_rfl

/-- The counting of paths: what is left of k behind the things told, from left to right; none where it does not go. -/
def szF8 : List Tv → Nat → Option Nat
  | [], k => some k
  | v :: V, k => if v.r.xs.length ≤ k then szF8 V (k - v.r.xs.length) else none
theorem szF8_next {V : List Tv} {i : Nat} {v : Tv} (h : V[i]? = some v) (k : Nat) : szF8 (V.drop i) k = if v.r.xs.length ≤ k then szF8 (V.drop (i + 1)) (k - v.r.xs.length) else none := by
  obtain ⟨hk, e⟩ := List.getElem?_eq_some_iff.1 h
  rw [List.drop_eq_getElem_cons hk, e]
  rfl
theorem szF8_le : ∀ (V : List Tv) (k m : Nat), szF8 V k = some m → (∀ v ∈ V, v.r.xs.length ≤ k) ∧ m ≤ k
  | [], k, m, h => by simp [szF8] at h; simp; omega
  | v :: V, k, m, h => by
    unfold szF8 at h
    split at h
    · have := szF8_le V _ m h
      refine ⟨fun u hu => ?_, by omega⟩
      rcases List.mem_cons.1 hu with rfl | hu
      · assumption
      · have := this.1 u hu; omega
    · cases h

end Go.Proofs.YtjampcfikfafkaaGreat
