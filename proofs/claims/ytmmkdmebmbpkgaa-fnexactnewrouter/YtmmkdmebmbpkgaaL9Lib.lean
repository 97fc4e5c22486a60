/- What is proved here: facts on links and lists of links in memory. No condition. -/
import Derived.Test.YtmmkdmebmbpkgaaT8Ls
import Derived.Test.YtmmkdmebmbpkgaaFrLib
namespace Go.Proofs.Ytmmkdmebmbpkgaa
open Go.RowKit Go.Sort
set_option linter.unusedVariables false

/-- A link. -/
structure Lk where
  st : Int
  pe : Int
  ho : Int
  si : Int
  sp : Int
  bs : List Int
  td : List Td

/-- A link in memory: its bytes and what it was told lie at addresses, with room. -/
structure Lv where
  st : Int
  pe : Int
  ho : Int
  si : Int
  sp : Int
  bs : List Int
  b : Option Addr
  bc : Nat
  V : List Tv
  t : Option Addr
  tc : Nat

def Lv.r (v : Lv) : Lk := ⟨v.st, v.pe, v.ho, v.si, v.sp, v.bs, v.V.map Tv.r⟩
/-- The cells of a link. -/
def Lv.cs (v : Lv) : List Value := [.int .i64 v.st, .int .i64 v.pe, .int .i64 v.ho, .int .i64 v.si, .int .i64 v.sp, .slice v.b v.bs.length v.bc, .slice v.t v.V.length v.tc]

/-- The lists of a link are there. -/
def Lv.here (w : World) (v : Lv) : Prop := BsAt w v.b v.bs ∧ v.bs.length ≤ 1048576 ∧ TdAt w v.t v.V ∧ v.V.length ≤ 1048576
/-- The lists of a link came in. -/
def Lv.came (w : World) (v : Lv) : Prop := BsAt w v.b v.bs ∧ v.bs.length ≤ maxLen ∧ TdCame w v.t v.V ∧ v.V.length ≤ maxLen
/-- The lists of a link are small. -/
def Lv.small (v : Lv) : Prop := v.bs.length ≤ 1048576 ∧ v.V.length ≤ 1048576 ∧ ∀ u ∈ v.V, u.r.xs.length ≤ 1048576

theorem Lv.here.new {w w' : World} {v : Lv} (h : v.here w) (t : New w w') : v.here w' := ⟨h.1.new t, h.2.1, h.2.2.1.new t, h.2.2.2⟩
theorem Lv.came.new {w w' : World} {v : Lv} (h : v.came w) (t : New w w') : v.came w' := ⟨h.1.new t, h.2.1, h.2.2.1.new t, h.2.2.2⟩
theorem Lv.came.ok {w : World} {v : Lv} (h : v.came w) (s : v.small) : v.here w := ⟨h.1, s.1, h.2.2.1.rt s.2.2, s.2.1⟩

/-- The address leads to the links. -/
def LkAt (w : World) (A : Option Addr) (V : List Lv) : Prop :=
  ∀ i v, V[i]? = some v → (∃ b off, A = some ⟨b, off, none⟩ ∧ ∀ j, j < 7 → w.cell? ⟨b, off + i * 7 + j, none⟩ = v.cs[j]?) ∧ v.here w
/-- The address leads to the links that came in. -/
def LkCame (w : World) (A : Option Addr) (V : List Lv) : Prop :=
  ∀ i v, V[i]? = some v → (∃ b off, A = some ⟨b, off, none⟩ ∧ ∀ j, j < 7 → w.cell? ⟨b, off + i * 7 + j, none⟩ = v.cs[j]?) ∧ v.came w

theorem LkAt.nil (w : World) (a : Option Addr) : LkAt w a [] := by intro i z h; simp at h

theorem LkAt.new {w w' : World} {a : Option Addr} {V : List Lv} (h : LkAt w a V) (t : New w w') : LkAt w' a V := by
  intro i v hv
  obtain ⟨⟨b, off, ha, hc⟩, hh⟩ := h i v hv
  have h0 : w.cell? ⟨b, off + i * 7, none⟩ = some (.int .i64 v.st) := hc 0 (by omega)
  have hb' := t.block b (World.block_lt_of_cell? w _ h0) (fun f => f)
  exact ⟨⟨b, off, ha, fun j hj => (World.cell?_of_block hb').trans (hc j hj)⟩, hh.new t⟩
theorem LkCame.new {w w' : World} {a : Option Addr} {V : List Lv} (h : LkCame w a V) (t : New w w') : LkCame w' a V := by
  intro i v hv
  obtain ⟨⟨b, off, ha, hc⟩, hh⟩ := h i v hv
  have h0 : w.cell? ⟨b, off + i * 7, none⟩ = some (.int .i64 v.st) := hc 0 (by omega)
  have hb' := t.block b (World.block_lt_of_cell? w _ h0) (fun f => f)
  exact ⟨⟨b, off, ha, fun j hj => (World.cell?_of_block hb').trans (hc j hj)⟩, hh.new t⟩
theorem LkCame.ok {w : World} {A : Option Addr} {V : List Lv} (h : LkCame w A V) (hb : ∀ v ∈ V, v.small) : LkAt w A V := by
  intro i v hv
  obtain ⟨h1, h2⟩ := h i v hv
  exact ⟨h1, h2.ok (hb v (List.mem_of_getElem? hv))⟩

theorem LkAt.at {w : World} {A : Option Addr} {V : List Lv} (h : LkAt w A V) (i : Nat) (hi : i < V.length) :
    ∃ (g off : Nat) (st pe ho si sp : Int) (bs : List Int) (b : Option Addr) (c : Nat) (U : List Tv) (t : Option Addr) (d n m : Nat), A = some ⟨g, off, none⟩ ∧ V[i]? = some ⟨st, pe, ho, si, sp, bs, b, c, U, t, d⟩ ∧ bs.length = n ∧ U.length = m ∧ BsAt w b bs ∧ TdAt w t U ∧ n ≤ 1048576 ∧ m ≤ 1048576 ∧
      w.cell? ⟨g, off + i * 7, none⟩ = some (.int .i64 st) ∧ w.cell? ⟨g, off + i * 7 + 1, none⟩ = some (.int .i64 pe) ∧ w.cell? ⟨g, off + i * 7 + 2, none⟩ = some (.int .i64 ho) ∧ w.cell? ⟨g, off + i * 7 + 3, none⟩ = some (.int .i64 si) ∧ w.cell? ⟨g, off + i * 7 + 4, none⟩ = some (.int .i64 sp) ∧ w.cell? ⟨g, off + i * 7 + 5, none⟩ = some (.slice b n c) ∧ w.cell? ⟨g, off + i * 7 + 6, none⟩ = some (.slice t m d) := by
  obtain ⟨⟨b, off, h1, h2⟩, hh⟩ := h i _ (List.getElem?_eq_getElem hi)
  exact ⟨b, off, _, _, _, _, _, _, _, _, _, _, _, _, _, h1, List.getElem?_eq_getElem hi, rfl, rfl, hh.1, hh.2.2.1, hh.2.1, hh.2.2.2, h2 0 (by omega), h2 1 (by omega), h2 2 (by omega), h2 3 (by omega), h2 4 (by omega), h2 5 (by omega), h2 6 (by omega)⟩
theorem LkCame.at {w : World} {A : Option Addr} {V : List Lv} (h : LkCame w A V) (i : Nat) (hi : i < V.length) :
    ∃ (g off : Nat) (st pe ho si sp : Int) (bs : List Int) (b : Option Addr) (c : Nat) (U : List Tv) (t : Option Addr) (d n m : Nat), A = some ⟨g, off, none⟩ ∧ V[i]? = some ⟨st, pe, ho, si, sp, bs, b, c, U, t, d⟩ ∧ bs.length = n ∧ U.length = m ∧ BsAt w b bs ∧ TdCame w t U ∧ n ≤ maxLen ∧ m ≤ maxLen ∧
      w.cell? ⟨g, off + i * 7, none⟩ = some (.int .i64 st) ∧ w.cell? ⟨g, off + i * 7 + 1, none⟩ = some (.int .i64 pe) ∧ w.cell? ⟨g, off + i * 7 + 2, none⟩ = some (.int .i64 ho) ∧ w.cell? ⟨g, off + i * 7 + 3, none⟩ = some (.int .i64 si) ∧ w.cell? ⟨g, off + i * 7 + 4, none⟩ = some (.int .i64 sp) ∧ w.cell? ⟨g, off + i * 7 + 5, none⟩ = some (.slice b n c) ∧ w.cell? ⟨g, off + i * 7 + 6, none⟩ = some (.slice t m d) := by
  obtain ⟨⟨b, off, h1, h2⟩, hh⟩ := h i _ (List.getElem?_eq_getElem hi)
  exact ⟨b, off, _, _, _, _, _, _, _, _, _, _, _, _, _, h1, List.getElem?_eq_getElem hi, rfl, rfl, hh.1, hh.2.2.1, hh.2.1, hh.2.2.2, h2 0 (by omega), h2 1 (by omega), h2 2 (by omega), h2 3 (by omega), h2 4 (by omega), h2 5 (by omega), h2 6 (by omega)⟩

def cells9 (V : List Lv) : List Value := V.flatMap Lv.cs
theorem cells9_cons (v : Lv) (V : List Lv) : cells9 (v :: V) = .int .i64 v.st :: .int .i64 v.pe :: .int .i64 v.ho :: .int .i64 v.si :: .int .i64 v.sp :: .slice v.b v.bs.length v.bc :: .slice v.t v.V.length v.tc :: cells9 V := rfl
theorem cells9_app (v : Lv) (V : List Lv) : cells9 (v :: V) = v.cs ++ cells9 V := rfl
theorem cells9_snoc (V : List Lv) (v : Lv) : cells9 (V ++ [v]) = cells9 V ++ v.cs := by simp [cells9]
theorem cells9_len : ∀ V : List Lv, (cells9 V).length = V.length * 7
  | [] => rfl
  | r :: V => by rw [cells9_app, List.length_append, cells9_len V, List.length_cons]; simp [Lv.cs]; omega
theorem cells9_get : ∀ (V : List Lv) (i : Nat) (r : Lv), V[i]? = some r → ∀ j, j < 7 → (cells9 V)[i * 7 + j]? = r.cs[j]?
  | [], i, p, h => by simp at h
  | q :: V, 0, p, h => by
    intro j hj
    simp at h
    subst h
    rw [cells9_app, Nat.zero_mul, Nat.zero_add, List.getElem?_append_left (by simpa [Lv.cs] using hj)]
  | q :: V, i + 1, p, h => by
    intro j hj
    have h' : V[i]? = some p := by simpa using h
    rw [cells9_app, List.getElem?_append_right (by simp [Lv.cs]; omega), show (i + 1) * 7 + j - q.cs.length = i * 7 + j by simp [Lv.cs]; omega]
    exact cells9_get V i p h' j hj
theorem cells9_set : ∀ (V : List Lv) (i : Nat) (v : Lv), (((((((cells9 V).set (i * 7) (.int .i64 v.st)).set (i * 7 + 1) (.int .i64 v.pe)).set (i * 7 + 2) (.int .i64 v.ho)).set (i * 7 + 3) (.int .i64 v.si)).set (i * 7 + 4) (.int .i64 v.sp)).set (i * 7 + 5) (.slice v.b v.bs.length v.bc)).set (i * 7 + 6) (.slice v.t v.V.length v.tc) = cells9 (V.set i v)
  | [], i, p => by simp [cells9]
  | q :: V, 0, p => by simp [cells9_cons]
  | q :: V, i + 1, p => by
    have ih := cells9_set V i p
    rw [show (i + 1) * 7 = i * 7 + 7 by omega, cells9_cons, show (q :: V).set (i + 1) p = q :: V.set i p from rfl, cells9_cons, ← ih]
    simp only [Nat.add_assoc, Nat.reduceAdd, List.set_cons_succ]

/-- The block g is a row of links that a call has made. -/
def OwRow9 (w : World) (g n c : Nat) (V : List Lv) : Prop := w.ownsRow 0 76 7 (.slice (some ⟨g, 0, none⟩) n c) n (cells9 V)

theorem OwRow9.len {w : World} {g n c : Nat} {V : List Lv} (h : OwRow9 w g n c V) : V.length = n := by
  have := h.1
  rw [cells9_len] at this
  omega
theorem OwRow9.lt {w : World} {g n c : Nat} {V : List Lv} (h : OwRow9 w g n c V) : g < w.heap.size := (World.ownsRow.lt h g rfl).2
theorem OwRow9.turn {w w' : World} {g n c : Nat} {V : List Lv} {S : Nat → Prop} (h : OwRow9 w g n c V) (t : Turn S w w') (hS : ¬ S g) : OwRow9 w' g n c V := by
  have hg := h.lt
  refine ⟨h.1, ?_⟩
  rcases h.2 with ⟨h', _⟩ | ⟨g', cap', cur, h', r⟩
  · simp at h'
  · simp only [Value.slice.injEq, Option.some.injEq, Addr.mk.injEq, and_true, true_and] at h'
    obtain ⟨rfl, rfl⟩ := h'
    exact .inr ⟨g, c, cur, rfl, r.1, (t.block g hg hS).trans r.2.1, r.2.2⟩
theorem OwRow9.new {w w' : World} {g n c : Nat} {V : List Lv} (h : OwRow9 w g n c V) (t : New w w') : OwRow9 w' g n c V := h.turn t (fun f => f)
theorem OwRow9.rt {w : World} {g n c : Nat} {V : List Lv} (h : OwRow9 w g n c V) (hp : ∀ v ∈ V, v.here w) : LkAt w (some ⟨g, 0, none⟩) V := by
  intro i v hv
  have hl := h.len
  have hi : i < V.length := (List.getElem?_eq_some_iff.1 hv).1
  refine ⟨⟨g, 0, rfl, fun j hj => ?_⟩, hp v (List.mem_of_getElem? hv)⟩
  rw [Nat.zero_add, World.ownsRow.cellAt h (i * 7 + j) (by omega)]
  exact cells9_get V i v hv j hj
theorem OwRow9.put {w : World} {g n c : Nat} {V : List Lv} (h : OwRow9 w g n c V) (i : Nat) (v : Lv) : OwRow9 (((((((w.setCell ⟨g, i * 7, none⟩ (.int .i64 v.st)).setCell ⟨g, i * 7 + 1, none⟩ (.int .i64 v.pe)).setCell ⟨g, i * 7 + 2, none⟩ (.int .i64 v.ho)).setCell ⟨g, i * 7 + 3, none⟩ (.int .i64 v.si)).setCell ⟨g, i * 7 + 4, none⟩ (.int .i64 v.sp)).setCell ⟨g, i * 7 + 5, none⟩ (.slice v.b v.bs.length v.bc)).setCell ⟨g, i * 7 + 6, none⟩ (.slice v.t v.V.length v.tc)) g n c (V.set i v) := by
  have h1 := (World.ownsRow.stored h (i * 7) (.int .i64 v.st)).1
  have h2 := (World.ownsRow.stored h1 (i * 7 + 1) (.int .i64 v.pe)).1
  have h3 := (World.ownsRow.stored h2 (i * 7 + 2) (.int .i64 v.ho)).1
  have h4 := (World.ownsRow.stored h3 (i * 7 + 3) (.int .i64 v.si)).1
  have h5 := (World.ownsRow.stored h4 (i * 7 + 4) (.int .i64 v.sp)).1
  have h6 := (World.ownsRow.stored h5 (i * 7 + 5) (.slice v.b v.bs.length v.bc)).1
  have h7 := (World.ownsRow.stored h6 (i * 7 + 6) (.slice v.t v.V.length v.tc)).1
  unfold OwRow9
  rw [← cells9_set V i v]
  exact h7
theorem OwRow9.cell {w : World} {g n c : Nat} {V : List Lv} (h : OwRow9 w g n c V) (j : Nat) (hj : j < n * 7) : ∃ v, w.cell? ⟨g, j, none⟩ = some v := by
  have hl := cells9_len V
  have := h.len
  exact ⟨_, (World.ownsRow.cellAt h j hj).trans (List.getElem?_eq_getElem (by omega))⟩

/-- The link of zeros. -/
def lv0 : Lv := ⟨0, 0, 0, 0, 0, [], none, 0, [], none, 0⟩
theorem made_lv (n : Nat) : (madeCells #[.int .i64 0, .int .i64 0, .int .i64 0, .int .i64 0, .int .i64 0, .slice none 0 0, .slice none 0 0] (n * 7)).toList = cells9 (List.replicate n lv0) := by
  apply List.ext_getElem?
  intro k
  by_cases hk : k < n * 7
  · have h1 : (cells9 (List.replicate n lv0))[k / 7 * 7 + k % 7]? = lv0.cs[k % 7]? := cells9_get _ (k / 7) lv0 (by rw [List.getElem?_replicate]; simp; omega) (k % 7) (by omega)
    rw [show k / 7 * 7 + k % 7 = k by omega] at h1
    rw [h1]
    simp only [madeCells, Array.toList_map, Array.toList_range, List.getElem?_map, List.getElem?_range hk, Option.map_some]
    have h8 : k % 7 = 0 ∨ k % 7 = 1 ∨ k % 7 = 2 ∨ k % 7 = 3 ∨ k % 7 = 4 ∨ k % 7 = 5 ∨ k % 7 = 6 := by omega
    rcases h8 with e | e | e | e | e | e | e <;> simp [e, Lv.cs, lv0]
  · rw [List.getElem?_eq_none (by simp [madeCells]; omega), List.getElem?_eq_none (by rw [cells9_len]; simp; omega)]

theorem set_fill9 (V : List Lv) (k n : Nat) (hn : V.length = k) (hk : k < n) (p : Lv) :
    (V ++ List.replicate (n - k) lv0).set k p = (V ++ [p]) ++ List.replicate (n - (k + 1)) lv0 := by
  rw [List.set_append_right _ _ (by omega), hn, Nat.sub_self, show n - k = (n - (k + 1)) + 1 by omega, List.replicate_succ, List.set_cons_zero, List.append_assoc]
  rfl

theorem Try.infoLk : (Try.prog.info? 76).map (fun i => (i.zero, i.size, i.bytes)) = some (some (.agg #[.int .i64 0, .int .i64 0, .int .i64 0, .int .i64 0, .int .i64 0, .slice none 0 0, .slice none 0 0]), 7, 88) := by kernel_rfl

/-- The lists of a link are the call's own, from lo to hi. -/
structure LkOwn (w : World) (lo hi : Nat) (v : Lv) : Prop where
  byt : ∃ g, v.b = some ⟨g, 0, none⟩ ∧ lo ≤ g ∧ g < hi ∧ w.ownsRow 0 5 1 (.slice (some ⟨g, 0, none⟩) v.bs.length v.bc) v.bs.length (v.bs.map (Value.int .u8))
  bb : (∀ z ∈ v.bs, 0 ≤ z ∧ z ≤ 255) ∧ v.bs.length ≤ 1048576
  tds : Ow8 w lo hi (.slice v.t v.V.length v.tc) v.V
  tm : v.V.length ≤ 1048576

theorem LkOwn.turn {w w' : World} {lo hi : Nat} {v : Lv} {S : Nat → Prop} (h : LkOwn w lo hi v) (t : Turn S w w') (hS : ∀ k, lo ≤ k → k < hi → ¬ S k) : LkOwn w' lo hi v := by
  obtain ⟨⟨g, h1, h2, h3, h4⟩, h5, h6, h7⟩ := h
  exact ⟨⟨g, h1, h2, h3, own_turn h4 t (hS g h2 h3)⟩, h5, h6.turn t hS, h7⟩
theorem LkOwn.new {w w' : World} {lo hi : Nat} {v : Lv} (h : LkOwn w lo hi v) (t : New w w') : LkOwn w' lo hi v := h.turn t (fun _ _ _ f => f)
theorem LkOwn.up {w : World} {lo hi hi' : Nat} {v : Lv} (h : LkOwn w lo hi v) (hh : hi ≤ hi') : LkOwn w lo hi' v := by
  obtain ⟨⟨g, h1, h2, h3, h4⟩, h5, h6, h7⟩ := h
  exact ⟨⟨g, h1, h2, by omega, h4⟩, h5, h6.up hh, h7⟩
theorem Ow8.low {w : World} {lo lo' hi : Nat} {u : Value} {V : List Tv} (h : Ow8 w lo hi u V) (hh : lo' ≤ lo) : Ow8 w lo' hi u V := by
  refine ⟨?_, h.rhi, h.path.low hh⟩
  obtain ⟨h1, h2⟩ := h.row
  refine ⟨h1, ?_⟩
  rcases h2 with h' | ⟨g', cap', cur, h', hb, hr⟩
  · exact .inl h'
  · exact .inr ⟨g', cap', cur, h', Nat.le_trans hh hb, hr⟩
theorem LkOwn.low {w : World} {lo lo' hi : Nat} {v : Lv} (h : LkOwn w lo hi v) (hh : lo' ≤ lo) : LkOwn w lo' hi v := by
  obtain ⟨⟨g, h1, h2, h3, h4⟩, h5, h6, h7⟩ := h
  exact ⟨⟨g, h1, by omega, h3, h4⟩, h5, h6.low hh, h7⟩
theorem LkOwn.here {w : World} {lo hi : Nat} {v : Lv} (h : LkOwn w lo hi v) : v.here w := by
  obtain ⟨⟨g, h1, h2, h3, h4⟩, h5, h6, h7⟩ := h
  refine ⟨?_, h5.2, h6.rt.1, h7⟩
  rw [h1]
  exact BsAt.of_own h4 h5.1

end Go.Proofs.Ytmmkdmebmbpkgaa
