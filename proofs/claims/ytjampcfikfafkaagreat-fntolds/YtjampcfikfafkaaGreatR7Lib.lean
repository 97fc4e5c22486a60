/- What is proved here: facts on routes and lists of routes in memory. No condition. -/
import Derived.Test.YtjampcfikfafkaaGreatR7Cmp
namespace Go.Proofs.YtjampcfikfafkaaGreat
open Go.RowKit Go.Sort
set_option linter.unusedVariables false

/-- A route. -/
structure Rt where
  p : Int
  a : Int
  l : Int
  o : Int
  xs : List Int
  nx : Int
  md : Int
  lc : Int

/-- A route in memory: its path lies at an address, with room. -/
structure Rv where
  r : Rt
  x : Option Addr
  c : Nat

/-- The cells of a route. -/
def Rv.cs (v : Rv) : List Value := [.int .i64 v.r.p, .int .i64 v.r.a, .int .i64 v.r.l, .int .i64 v.r.o, .slice v.x v.r.xs.length v.c, .int .i64 v.r.nx, .int .i64 v.r.md, .int .i64 v.r.lc]

/-- The path of a route is there. -/
def Rv.here (w : World) (v : Rv) : Prop := NsAt w v.x v.r.xs ∧ (v.x = none → v.r.xs.length = 0 ∧ v.c = 0) ∧ v.r.xs.length ≤ 1048576

/-- The address leads to the routes. -/
def RtAt (w : World) (A : Option Addr) (V : List Rv) : Prop :=
  ∀ i v, V[i]? = some v → (∃ b off, A = some ⟨b, off, none⟩ ∧ ∀ j, j < 8 → w.cell? ⟨b, off + i * 8 + j, none⟩ = v.cs[j]?) ∧ v.here w

theorem RtAt.nil (w : World) (a : Option Addr) : RtAt w a [] := by intro i z h; simp at h

theorem Rv.here.turn {w w' : World} {v : Rv} {S : Nat → Prop} (h : v.here w) (t : Turn S w w') (hS : ∀ x, v.r.xs ≠ [] → v.x = some x → ¬ S x.block) : v.here w' := ⟨h.1.turn t hS, h.2⟩
theorem Rv.here.new {w w' : World} {v : Rv} (h : v.here w) (t : New w w') : v.here w' := ⟨h.1.new t, h.2⟩

theorem RtAt.turn {w w' : World} {a : Option Addr} {V : List Rv} {S : Nat → Prop} (h : RtAt w a V) (t : Turn S w w') (hS : ∀ x, V ≠ [] → a = some x → ¬ S x.block) (hP : ∀ v ∈ V, ∀ x, v.r.xs ≠ [] → v.x = some x → ¬ S x.block) : RtAt w' a V := by
  intro i v hv
  obtain ⟨⟨b, off, ha, hc⟩, hh⟩ := h i v hv
  have h0 : w.cell? ⟨b, off + i * 8, none⟩ = some (.int .i64 v.r.p) := hc 0 (by omega)
  have hb' := t.block b (World.block_lt_of_cell? w _ h0) (hS _ (by rintro rfl; simp at hv) ha)
  exact ⟨⟨b, off, ha, fun j hj => (World.cell?_of_block hb').trans (hc j hj)⟩, hh.turn t (hP v (List.mem_of_getElem? hv))⟩
theorem RtAt.new {w w' : World} {a : Option Addr} {V : List Rv} (h : RtAt w a V) (t : New w w') : RtAt w' a V := h.turn t (fun _ _ _ f => f) (fun _ _ _ _ _ f => f)

theorem RtAt.at {w : World} {A : Option Addr} {V : List Rv} (h : RtAt w A V) (i : Nat) (hi : i < V.length) :
    ∃ (b off : Nat) (p a l o nx md lc : Int) (x : Option Addr) (n c : Nat) (xs : List Int), A = some ⟨b, off, none⟩ ∧ V[i]? = some ⟨⟨p, a, l, o, xs, nx, md, lc⟩, x, c⟩ ∧ xs.length = n ∧ NsAt w x xs ∧ (x = none → n = 0 ∧ c = 0) ∧ n ≤ 1048576 ∧ w.cell? ⟨b, off + i * 8, none⟩ = some (.int .i64 p) ∧ w.cell? ⟨b, off + i * 8 + 1, none⟩ = some (.int .i64 a) ∧ w.cell? ⟨b, off + i * 8 + 2, none⟩ = some (.int .i64 l) ∧ w.cell? ⟨b, off + i * 8 + 3, none⟩ = some (.int .i64 o) ∧ w.cell? ⟨b, off + i * 8 + 4, none⟩ = some (.slice x n c) ∧ w.cell? ⟨b, off + i * 8 + 5, none⟩ = some (.int .i64 nx) ∧ w.cell? ⟨b, off + i * 8 + 6, none⟩ = some (.int .i64 md) ∧ w.cell? ⟨b, off + i * 8 + 7, none⟩ = some (.int .i64 lc) := by
  obtain ⟨⟨b, off, h1, h2⟩, hh⟩ := h i _ (List.getElem?_eq_getElem hi)
  exact ⟨b, off, _, _, _, _, _, _, _, _, _, _, _, h1, List.getElem?_eq_getElem hi, rfl, hh.1, hh.2.1, hh.2.2, h2 0 (by omega), h2 1 (by omega), h2 2 (by omega), h2 3 (by omega), h2 4 (by omega), h2 5 (by omega), h2 6 (by omega), h2 7 (by omega)⟩

def cellsT (V : List Rv) : List Value := V.flatMap Rv.cs
theorem cellsT_cons (v : Rv) (V : List Rv) : cellsT (v :: V) = .int .i64 v.r.p :: .int .i64 v.r.a :: .int .i64 v.r.l :: .int .i64 v.r.o :: .slice v.x v.r.xs.length v.c :: .int .i64 v.r.nx :: .int .i64 v.r.md :: .int .i64 v.r.lc :: cellsT V := rfl
theorem cellsT_app (v : Rv) (V : List Rv) : cellsT (v :: V) = v.cs ++ cellsT V := rfl
theorem cellsT_snoc (V : List Rv) (v : Rv) : cellsT (V ++ [v]) = cellsT V ++ v.cs := by simp [cellsT]
theorem cellsT_len : ∀ V : List Rv, (cellsT V).length = V.length * 8
  | [] => rfl
  | r :: V => by rw [cellsT_app, List.length_append, cellsT_len V, List.length_cons]; simp [Rv.cs]; omega
theorem cellsT_get : ∀ (V : List Rv) (i : Nat) (r : Rv), V[i]? = some r → ∀ j, j < 8 → (cellsT V)[i * 8 + j]? = r.cs[j]?
  | [], i, p, h => by simp at h
  | q :: V, 0, p, h => by
    intro j hj
    simp at h
    subst h
    rw [cellsT_app, Nat.zero_mul, Nat.zero_add, List.getElem?_append_left (by simpa [Rv.cs] using hj)]
  | q :: V, i + 1, p, h => by
    intro j hj
    have h' : V[i]? = some p := by simpa using h
    rw [cellsT_app, List.getElem?_append_right (by simp [Rv.cs]; omega), show (i + 1) * 8 + j - q.cs.length = i * 8 + j by simp [Rv.cs]; omega]
    exact cellsT_get V i p h' j hj
theorem cellsT_set : ∀ (V : List Rv) (i : Nat) (v : Rv), ((((((((cellsT V).set (i * 8) (.int .i64 v.r.p)).set (i * 8 + 1) (.int .i64 v.r.a)).set (i * 8 + 2) (.int .i64 v.r.l)).set (i * 8 + 3) (.int .i64 v.r.o)).set (i * 8 + 4) (.slice v.x v.r.xs.length v.c)).set (i * 8 + 5) (.int .i64 v.r.nx)).set (i * 8 + 6) (.int .i64 v.r.md)).set (i * 8 + 7) (.int .i64 v.r.lc) = cellsT (V.set i v)
  | [], i, p => by simp [cellsT]
  | q :: V, 0, p => by simp [cellsT_cons]
  | q :: V, i + 1, p => by
    have ih := cellsT_set V i p
    rw [show (i + 1) * 8 = i * 8 + 8 by omega, cellsT_cons, show (q :: V).set (i + 1) p = q :: V.set i p from rfl, cellsT_cons, ← ih]
    simp only [Nat.add_assoc, Nat.reduceAdd, List.set_cons_succ]

/-- The block g is a row of routes that a call has made. -/
def OwRow (w : World) (g n c : Nat) (V : List Rv) : Prop := w.ownsRow 0 38 8 (.slice (some ⟨g, 0, none⟩) n c) n (cellsT V)

theorem OwRow.len {w : World} {g n c : Nat} {V : List Rv} (h : OwRow w g n c V) : V.length = n := by
  have := h.1
  rw [cellsT_len] at this
  omega
theorem OwRow.lt {w : World} {g n c : Nat} {V : List Rv} (h : OwRow w g n c V) : g < w.heap.size := (World.ownsRow.lt h g rfl).2
theorem OwRow.turn {w w' : World} {g n c : Nat} {V : List Rv} {S : Nat → Prop} (h : OwRow w g n c V) (t : Turn S w w') (hS : ¬ S g) : OwRow w' g n c V := by
  have hg := h.lt
  refine ⟨h.1, ?_⟩
  rcases h.2 with ⟨h', _⟩ | ⟨g', cap', cur, h', r⟩
  · simp at h'
  · simp only [Value.slice.injEq, Option.some.injEq, Addr.mk.injEq, and_true, true_and] at h'
    obtain ⟨rfl, rfl⟩ := h'
    exact .inr ⟨g, c, cur, rfl, r.1, (t.block g hg hS).trans r.2.1, r.2.2⟩
theorem OwRow.new {w w' : World} {g n c : Nat} {V : List Rv} (h : OwRow w g n c V) (t : New w w') : OwRow w' g n c V := h.turn t (fun f => f)
theorem OwRow.rt {w : World} {g n c : Nat} {V : List Rv} (h : OwRow w g n c V) (hp : ∀ v ∈ V, v.here w) : RtAt w (some ⟨g, 0, none⟩) V := by
  intro i v hv
  have hl := h.len
  have hi : i < V.length := (List.getElem?_eq_some_iff.1 hv).1
  refine ⟨⟨g, 0, rfl, fun j hj => ?_⟩, hp v (List.mem_of_getElem? hv)⟩
  rw [Nat.zero_add, World.ownsRow.cellAt h (i * 8 + j) (by omega)]
  exact cellsT_get V i v hv j hj
theorem OwRow.put {w : World} {g n c : Nat} {V : List Rv} (h : OwRow w g n c V) (i : Nat) (v : Rv) : OwRow ((((((((w.setCell ⟨g, i * 8, none⟩ (.int .i64 v.r.p)).setCell ⟨g, i * 8 + 1, none⟩ (.int .i64 v.r.a)).setCell ⟨g, i * 8 + 2, none⟩ (.int .i64 v.r.l)).setCell ⟨g, i * 8 + 3, none⟩ (.int .i64 v.r.o)).setCell ⟨g, i * 8 + 4, none⟩ (.slice v.x v.r.xs.length v.c)).setCell ⟨g, i * 8 + 5, none⟩ (.int .i64 v.r.nx)).setCell ⟨g, i * 8 + 6, none⟩ (.int .i64 v.r.md)).setCell ⟨g, i * 8 + 7, none⟩ (.int .i64 v.r.lc)) g n c (V.set i v) := by
  have h1 := (World.ownsRow.stored h (i * 8) (.int .i64 v.r.p)).1
  have h2 := (World.ownsRow.stored h1 (i * 8 + 1) (.int .i64 v.r.a)).1
  have h3 := (World.ownsRow.stored h2 (i * 8 + 2) (.int .i64 v.r.l)).1
  have h4 := (World.ownsRow.stored h3 (i * 8 + 3) (.int .i64 v.r.o)).1
  have h5 := (World.ownsRow.stored h4 (i * 8 + 4) (.slice v.x v.r.xs.length v.c)).1
  have h6 := (World.ownsRow.stored h5 (i * 8 + 5) (.int .i64 v.r.nx)).1
  have h7 := (World.ownsRow.stored h6 (i * 8 + 6) (.int .i64 v.r.md)).1
  have h8 := (World.ownsRow.stored h7 (i * 8 + 7) (.int .i64 v.r.lc)).1
  unfold OwRow
  rw [← cellsT_set V i v]
  exact h8
theorem OwRow.cell {w : World} {g n c : Nat} {V : List Rv} (h : OwRow w g n c V) (j : Nat) (hj : j < n * 8) : ∃ v, w.cell? ⟨g, j, none⟩ = some v := by
  have hl := cellsT_len V
  have := h.len
  exact ⟨_, (World.ownsRow.cellAt h j hj).trans (List.getElem?_eq_getElem (by omega))⟩

/-- The route of zeros. -/
def rv0 : Rv := ⟨⟨0, 0, 0, 0, [], 0, 0, 0⟩, none, 0⟩
theorem made_rv (n : Nat) : (madeCells #[.int .i64 0, .int .i64 0, .int .i64 0, .int .i64 0, .slice none 0 0, .int .i64 0, .int .i64 0, .int .i64 0] (n * 8)).toList = cellsT (List.replicate n rv0) := by
  apply List.ext_getElem?
  intro k
  by_cases hk : k < n * 8
  · have h1 : (cellsT (List.replicate n rv0))[k / 8 * 8 + k % 8]? = rv0.cs[k % 8]? := cellsT_get _ (k / 8) rv0 (by rw [List.getElem?_replicate]; simp; omega) (k % 8) (by omega)
    rw [show k / 8 * 8 + k % 8 = k by omega] at h1
    rw [h1]
    simp only [madeCells, Array.toList_map, Array.toList_range, List.getElem?_map, List.getElem?_range hk, Option.map_some]
    have h8 : k % 8 = 0 ∨ k % 8 = 1 ∨ k % 8 = 2 ∨ k % 8 = 3 ∨ k % 8 = 4 ∨ k % 8 = 5 ∨ k % 8 = 6 ∨ k % 8 = 7 := by omega
    rcases h8 with e | e | e | e | e | e | e | e <;> simp [e, Rv.cs, rv0]
  · rw [List.getElem?_eq_none (by simp [madeCells]; omega), List.getElem?_eq_none (by rw [cellsT_len]; simp; omega)]

theorem set_fillT (V : List Rv) (k n : Nat) (hn : V.length = k) (hk : k < n) (p : Rv) :
    (V ++ List.replicate (n - k) rv0).set k p = (V ++ [p]) ++ List.replicate (n - (k + 1)) rv0 := by
  rw [List.set_append_right _ _ (by omega), hn, Nat.sub_self, show n - k = (n - (k + 1)) + 1 by omega, List.replicate_succ, List.set_cons_zero, List.append_assoc]
  rfl

theorem Tryz.infoRt : (Tryz.prog.info? 38).map (fun i => (i.zero, i.size, i.bytes)) = some (some (.agg #[.int .i64 0, .int .i64 0, .int .i64 0, .int .i64 0, .slice none 0 0, .int .i64 0, .int .i64 0, .int .i64 0]), 8, 80) := by kernel_rfl

/-- The counting of paths: what is left of k behind the routes, from left to right; none where it does not go. -/
def szF : List Rv → Nat → Option Nat
  | [], k => some k
  | v :: V, k => if v.r.xs.length ≤ k then szF V (k - v.r.xs.length) else none
theorem szF_next {V : List Rv} {i : Nat} {v : Rv} (h : V[i]? = some v) (k : Nat) : szF (V.drop i) k = if v.r.xs.length ≤ k then szF (V.drop (i + 1)) (k - v.r.xs.length) else none := by
  obtain ⟨hk, e⟩ := List.getElem?_eq_some_iff.1 h
  rw [List.drop_eq_getElem_cons hk, e]
  rfl
theorem szF_le : ∀ (V : List Rv) (k m : Nat), szF V k = some m → (∀ v ∈ V, v.r.xs.length ≤ k) ∧ m ≤ k
  | [], k, m, h => by simp [szF] at h; simp; omega
  | v :: V, k, m, h => by
    unfold szF at h
    split at h
    · have := szF_le V _ m h
      refine ⟨fun u hu => ?_, by omega⟩
      rcases List.mem_cons.1 hu with rfl | hu
      · assumption
      · have := this.1 u hu; omega
    · cases h

theorem szRt_ok (p a l o nx md lc : Int) (x : Option Addr) (n c : Nat) (k : Nat) (w : World) (hk : k ≤ 1048576) (h : n ≤ k) : Calls Tryz.prog 46 #[.agg #[.int .i64 p, .int .i64 a, .int .i64 l, .int .i64 o, .slice x n c, .int .i64 nx, .int .i64 md, .int .i64 lc], .int .i64 k] w fun e w' => e = .returned (.int .i64 ((k : Int) - n)) ∧ New w w' := by
  have hw := (New.refl w).alloc (.cells #[.int .i64 p, .int .i64 a, .int .i64 l, .int .i64 o, .slice x n c, .int .i64 nx, .int .i64 md, .int .i64 lc] 90)
  have cA := (Blk.mk w _ 90 #[.int .i64 p, .int .i64 a, .int .i64 l, .int .i64 o, .slice x n c, .int .i64 nx, .int .i64 md, .int .i64 lc] rfl).cells
  go_enter Tryz.func46, Tryz.ntmps46
  go_wp2_with fail
  refine (szAt_ok o nx md lc x n c k _ hk h).mono ?_
  rintro e w1 ⟨rfl, h1⟩
  go_wp2
  go_ret
  exact ⟨rfl, hw.trans h1⟩

theorem szRt_big (p a l o nx md lc : Int) (x : Option Addr) (n c : Nat) (k : Nat) (w : World) (hk : k ≤ 1048576) (hm : n ≤ maxLen) (h : k < n) : Calls Tryz.prog 46 #[.agg #[.int .i64 p, .int .i64 a, .int .i64 l, .int .i64 o, .slice x n c, .int .i64 nx, .int .i64 md, .int .i64 lc], .int .i64 k] w fun e w' => e = .returned (.int .i64 (-1)) ∧ New w w' := by
  have hw := (New.refl w).alloc (.cells #[.int .i64 p, .int .i64 a, .int .i64 l, .int .i64 o, .slice x n c, .int .i64 nx, .int .i64 md, .int .i64 lc] 90)
  have cA := (Blk.mk w _ 90 #[.int .i64 p, .int .i64 a, .int .i64 l, .int .i64 o, .slice x n c, .int .i64 nx, .int .i64 md, .int .i64 lc] rfl).cells
  go_enter Tryz.func46, Tryz.ntmps46
  go_wp2_with fail
  refine (szAt_big o nx md lc x n c k _ hk hm h).mono ?_
  rintro e w1 ⟨rfl, h1⟩
  go_wp2
  go_ret
  exact ⟨rfl, hw.trans h1⟩

theorem szRt_okZ (p a l o nx md lc : Int) (x : Option Addr) (n c : Nat) (k : Int) (w : World) (h0 : 0 ≤ k) (hk : k ≤ 1048576) (h : (n : Int) ≤ k) : Calls Tryz.prog 46 #[.agg #[.int .i64 p, .int .i64 a, .int .i64 l, .int .i64 o, .slice x n c, .int .i64 nx, .int .i64 md, .int .i64 lc], .int .i64 k] w fun e w' => e = .returned (.int .i64 (k - n)) ∧ New w w' := by
  obtain ⟨K, rfl⟩ : ∃ K : Nat, k = K := ⟨k.toNat, by omega⟩
  exact szRt_ok p a l o nx md lc x n c K w (by omega) (by omega)

theorem szRt_bigZ (p a l o nx md lc : Int) (x : Option Addr) (n c : Nat) (k : Int) (w : World) (h0 : 0 ≤ k) (hk : k ≤ 1048576) (hm : n ≤ maxLen) (h : k < (n : Int)) : Calls Tryz.prog 46 #[.agg #[.int .i64 p, .int .i64 a, .int .i64 l, .int .i64 o, .slice x n c, .int .i64 nx, .int .i64 md, .int .i64 lc], .int .i64 k] w fun e w' => e = .returned (.int .i64 (-1)) ∧ New w w' := by
  obtain ⟨K, rfl⟩ : ∃ K : Nat, k = K := ⟨k.toNat, by omega⟩
  exact szRt_big p a l o nx md lc x n c K w (by omega) hm (by omega)

end Go.Proofs.YtjampcfikfafkaaGreat
