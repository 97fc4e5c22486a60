/- What is proved here: what the copying, measuring, comparing and judging of a frame answer, for every frame whose body has at most 1048576 bytes. What is proved here: facts on links and lists of links in memory. No condition. What is proved here: how an argument that is a list of links comes in. No condition. What is proved here: what the counting, the copying and the comparing of links answer, for lists of at most 1048576 links whose lists are so too. What is proved here: what the model's NewRouter answers, for rules of at most 1048576, and how an answer is read. What is proved here: what the program's comparing of two routes answers, at all numbers. No condition. What is proved here: facts on routes and lists of routes in memory. No condition. What is proved here: what the copying and the comparing of routes and of lists of routes answer, for every list of at most 1048576 routes with paths of at most 1048576 numbers. What is proved here: facts on lists of routes that a call owns. No condition. What is proved here: how an argument that is a route or a list of routes comes in. No condition. What is proved here: what the counting, the copying and the comparing of lists of routes answer, for every list of at most 1048576 routes with paths of at most 1048576 numbers. What is proved here: what the counting, the copying and the comparing of routers answer, where all lists have at most 1048576 things. What is proved here: what the comparing of two answers of NewRouter tells, where all lists have at most 1048576 things and what is sent is three nil lists or none. -/
import Derived.Test.YtdknalegmlpimaaNumLib
import Derived.Test.YtdknalegmlpimaaT8Ls
import Derived.Test.YtdknalegmlpimaaOpen
import Derived.Test.YtdknalegmlpimaaS5Open
import Derived.Test.YtdknalegmlpimaaTn9
import Derived.Deep.CutRange
import Derived.Test.YtdknalegmlpimaaN9Sl
import Derived.Test.YtdknalegmlpimaaAtLaw
import Derived.Deep.RegionHeld3
import Derived.Test.YtdknalegmlpimaaR7Mk
import Derived.Maps.AppendAt
import Derived.Test.YtdknalegmlpimaaAtOpen
import Derived.Deep.SlicePairs
import Derived.Test.YtdknalegmlpimaaG9Se
namespace Go.Proofs.Ytdknalegmlpimaa
open Go.RowKit

/-- The fault of a frame. -/
def ff (k : Int) (n : Nat) : Int := if k < 1 ∨ 4 < k then 3 else if 120 < n then 2 else 0

end Go.Proofs.Ytdknalegmlpimaa

namespace Go.Proofs.Ytdknalegmlpimaa
open Go.RowKit Go.Sort
set_option linter.unusedVariables false

/-- A link. -/
structure Lk where
  st : Int
  pe : Int
  ho : Int
  si : Int
  sp : Int
  bs : List Int
  td : List Td

/-- A link in memory: its bytes and what it was told lie at addresses, with room. -/
structure Lv where
  st : Int
  pe : Int
  ho : Int
  si : Int
  sp : Int
  bs : List Int
  b : Option Addr
  bc : Nat
  V : List Tv
  t : Option Addr
  tc : Nat

def Lv.r (v : Lv) : Lk := ⟨v.st, v.pe, v.ho, v.si, v.sp, v.bs, v.V.map Tv.r⟩
/-- The cells of a link. -/
def Lv.cs (v : Lv) : List Value := [.int .i64 v.st, .int .i64 v.pe, .int .i64 v.ho, .int .i64 v.si, .int .i64 v.sp, .slice v.b v.bs.length v.bc, .slice v.t v.V.length v.tc]

/-- The lists of a link are there. -/
def Lv.here (w : World) (v : Lv) : Prop := BsAt w v.b v.bs ∧ v.bs.length ≤ 1048576 ∧ TdAt w v.t v.V ∧ v.V.length ≤ 1048576
/-- The lists of a link came in. -/
def Lv.came (w : World) (v : Lv) : Prop := BsAt w v.b v.bs ∧ v.bs.length ≤ maxLen ∧ TdCame w v.t v.V ∧ v.V.length ≤ maxLen
/-- The lists of a link are small. -/
def Lv.small (v : Lv) : Prop := v.bs.length ≤ 1048576 ∧ v.V.length ≤ 1048576 ∧ ∀ u ∈ v.V, u.r.xs.length ≤ 1048576

theorem Lv.here.new {w w' : World} {v : Lv} (h : v.here w) (t : New w w') : v.here w' := ⟨h.1.new t, h.2.1, h.2.2.1.new t, h.2.2.2⟩
theorem Lv.came.new {w w' : World} {v : Lv} (h : v.came w) (t : New w w') : v.came w' := ⟨h.1.new t, h.2.1, h.2.2.1.new t, h.2.2.2⟩
theorem Lv.came.ok {w : World} {v : Lv} (h : v.came w) (s : v.small) : v.here w := ⟨h.1, s.1, h.2.2.1.rt s.2.2, s.2.1⟩

/-- The address leads to the links. -/
def LkAt (w : World) (A : Option Addr) (V : List Lv) : Prop :=
  ∀ i v, V[i]? = some v → (∃ b off, A = some ⟨b, off, none⟩ ∧ ∀ j, j < 7 → w.cell? ⟨b, off + i * 7 + j, none⟩ = v.cs[j]?) ∧ v.here w
/-- The address leads to the links that came in. -/
def LkCame (w : World) (A : Option Addr) (V : List Lv) : Prop :=
  ∀ i v, V[i]? = some v → (∃ b off, A = some ⟨b, off, none⟩ ∧ ∀ j, j < 7 → w.cell? ⟨b, off + i * 7 + j, none⟩ = v.cs[j]?) ∧ v.came w

theorem LkAt.nil (w : World) (a : Option Addr) : LkAt w a [] := by intro i z h; simp at h

theorem LkAt.new {w w' : World} {a : Option Addr} {V : List Lv} (h : LkAt w a V) (t : New w w') : LkAt w' a V := by
  intro i v hv
  obtain ⟨⟨b, off, ha, hc⟩, hh⟩ := h i v hv
  have h0 : w.cell? ⟨b, off + i * 7, none⟩ = some (.int .i64 v.st) := hc 0 (by omega)
  have hb' := t.block b (World.block_lt_of_cell? w _ h0) (fun f => f)
  exact ⟨⟨b, off, ha, fun j hj => (World.cell?_of_block hb').trans (hc j hj)⟩, hh.new t⟩
theorem LkCame.new {w w' : World} {a : Option Addr} {V : List Lv} (h : LkCame w a V) (t : New w w') : LkCame w' a V := by
  intro i v hv
  obtain ⟨⟨b, off, ha, hc⟩, hh⟩ := h i v hv
  have h0 : w.cell? ⟨b, off + i * 7, none⟩ = some (.int .i64 v.st) := hc 0 (by omega)
  have hb' := t.block b (World.block_lt_of_cell? w _ h0) (fun f => f)
  exact ⟨⟨b, off, ha, fun j hj => (World.cell?_of_block hb').trans (hc j hj)⟩, hh.new t⟩
theorem LkCame.ok {w : World} {A : Option Addr} {V : List Lv} (h : LkCame w A V) (hb : ∀ v ∈ V, v.small) : LkAt w A V := by
  intro i v hv
  obtain ⟨h1, h2⟩ := h i v hv
  exact ⟨h1, h2.ok (hb v (List.mem_of_getElem? hv))⟩

theorem LkAt.at {w : World} {A : Option Addr} {V : List Lv} (h : LkAt w A V) (i : Nat) (hi : i < V.length) :
    ∃ (g off : Nat) (st pe ho si sp : Int) (bs : List Int) (b : Option Addr) (c : Nat) (U : List Tv) (t : Option Addr) (d n m : Nat), A = some ⟨g, off, none⟩ ∧ V[i]? = some ⟨st, pe, ho, si, sp, bs, b, c, U, t, d⟩ ∧ bs.length = n ∧ U.length = m ∧ BsAt w b bs ∧ TdAt w t U ∧ n ≤ 1048576 ∧ m ≤ 1048576 ∧
      w.cell? ⟨g, off + i * 7, none⟩ = some (.int .i64 st) ∧ w.cell? ⟨g, off + i * 7 + 1, none⟩ = some (.int .i64 pe) ∧ w.cell? ⟨g, off + i * 7 + 2, none⟩ = some (.int .i64 ho) ∧ w.cell? ⟨g, off + i * 7 + 3, none⟩ = some (.int .i64 si) ∧ w.cell? ⟨g, off + i * 7 + 4, none⟩ = some (.int .i64 sp) ∧ w.cell? ⟨g, off + i * 7 + 5, none⟩ = some (.slice b n c) ∧ w.cell? ⟨g, off + i * 7 + 6, none⟩ = some (.slice t m d) := by
  obtain ⟨⟨b, off, h1, h2⟩, hh⟩ := h i _ (List.getElem?_eq_getElem hi)
  exact ⟨b, off, _, _, _, _, _, _, _, _, _, _, _, _, _, h1, List.getElem?_eq_getElem hi, rfl, rfl, hh.1, hh.2.2.1, hh.2.1, hh.2.2.2, h2 0 (by omega), h2 1 (by omega), h2 2 (by omega), h2 3 (by omega), h2 4 (by omega), h2 5 (by omega), h2 6 (by omega)⟩
theorem LkCame.at {w : World} {A : Option Addr} {V : List Lv} (h : LkCame w A V) (i : Nat) (hi : i < V.length) :
    ∃ (g off : Nat) (st pe ho si sp : Int) (bs : List Int) (b : Option Addr) (c : Nat) (U : List Tv) (t : Option Addr) (d n m : Nat), A = some ⟨g, off, none⟩ ∧ V[i]? = some ⟨st, pe, ho, si, sp, bs, b, c, U, t, d⟩ ∧ bs.length = n ∧ U.length = m ∧ BsAt w b bs ∧ TdCame w t U ∧ n ≤ maxLen ∧ m ≤ maxLen ∧
      w.cell? ⟨g, off + i * 7, none⟩ = some (.int .i64 st) ∧ w.cell? ⟨g, off + i * 7 + 1, none⟩ = some (.int .i64 pe) ∧ w.cell? ⟨g, off + i * 7 + 2, none⟩ = some (.int .i64 ho) ∧ w.cell? ⟨g, off + i * 7 + 3, none⟩ = some (.int .i64 si) ∧ w.cell? ⟨g, off + i * 7 + 4, none⟩ = some (.int .i64 sp) ∧ w.cell? ⟨g, off + i * 7 + 5, none⟩ = some (.slice b n c) ∧ w.cell? ⟨g, off + i * 7 + 6, none⟩ = some (.slice t m d) := by
  obtain ⟨⟨b, off, h1, h2⟩, hh⟩ := h i _ (List.getElem?_eq_getElem hi)
  exact ⟨b, off, _, _, _, _, _, _, _, _, _, _, _, _, _, h1, List.getElem?_eq_getElem hi, rfl, rfl, hh.1, hh.2.2.1, hh.2.1, hh.2.2.2, h2 0 (by omega), h2 1 (by omega), h2 2 (by omega), h2 3 (by omega), h2 4 (by omega), h2 5 (by omega), h2 6 (by omega)⟩

def cells9 (V : List Lv) : List Value := V.flatMap Lv.cs
theorem cells9_cons (v : Lv) (V : List Lv) : cells9 (v :: V) = .int .i64 v.st :: .int .i64 v.pe :: .int .i64 v.ho :: .int .i64 v.si :: .int .i64 v.sp :: .slice v.b v.bs.length v.bc :: .slice v.t v.V.length v.tc :: cells9 V := rfl
theorem cells9_app (v : Lv) (V : List Lv) : cells9 (v :: V) = v.cs ++ cells9 V := rfl
theorem cells9_snoc (V : List Lv) (v : Lv) : cells9 (V ++ [v]) = cells9 V ++ v.cs := by simp [cells9]
theorem cells9_len : ∀ V : List Lv, (cells9 V).length = V.length * 7
  | [] => rfl
  | r :: V => by rw [cells9_app, List.length_append, cells9_len V, List.length_cons]; simp [Lv.cs]; omega
theorem cells9_get : ∀ (V : List Lv) (i : Nat) (r : Lv), V[i]? = some r → ∀ j, j < 7 → (cells9 V)[i * 7 + j]? = r.cs[j]?
  | [], i, p, h => by simp at h
  | q :: V, 0, p, h => by
    intro j hj
    simp at h
    subst h
    rw [cells9_app, Nat.zero_mul, Nat.zero_add, List.getElem?_append_left (by simpa [Lv.cs] using hj)]
  | q :: V, i + 1, p, h => by
    intro j hj
    have h' : V[i]? = some p := by simpa using h
    rw [cells9_app, List.getElem?_append_right (by simp [Lv.cs]; omega), show (i + 1) * 7 + j - q.cs.length = i * 7 + j by simp [Lv.cs]; omega]
    exact cells9_get V i p h' j hj
theorem cells9_set : ∀ (V : List Lv) (i : Nat) (v : Lv), (((((((cells9 V).set (i * 7) (.int .i64 v.st)).set (i * 7 + 1) (.int .i64 v.pe)).set (i * 7 + 2) (.int .i64 v.ho)).set (i * 7 + 3) (.int .i64 v.si)).set (i * 7 + 4) (.int .i64 v.sp)).set (i * 7 + 5) (.slice v.b v.bs.length v.bc)).set (i * 7 + 6) (.slice v.t v.V.length v.tc) = cells9 (V.set i v)
  | [], i, p => by simp [cells9]
  | q :: V, 0, p => by simp [cells9_cons]
  | q :: V, i + 1, p => by
    have ih := cells9_set V i p
    rw [show (i + 1) * 7 = i * 7 + 7 by omega, cells9_cons, show (q :: V).set (i + 1) p = q :: V.set i p from rfl, cells9_cons, ← ih]
    simp only [Nat.add_assoc, Nat.reduceAdd, List.set_cons_succ]

/-- The link of zeros. -/
def lv0 : Lv := ⟨0, 0, 0, 0, 0, [], none, 0, [], none, 0⟩
theorem made_lv (n : Nat) : (madeCells #[.int .i64 0, .int .i64 0, .int .i64 0, .int .i64 0, .int .i64 0, .slice none 0 0, .slice none 0 0] (n * 7)).toList = cells9 (List.replicate n lv0) := by
  apply List.ext_getElem?
  intro k
  by_cases hk : k < n * 7
  · have h1 : (cells9 (List.replicate n lv0))[k / 7 * 7 + k % 7]? = lv0.cs[k % 7]? := cells9_get _ (k / 7) lv0 (by rw [List.getElem?_replicate]; simp; omega) (k % 7) (by omega)
    rw [show k / 7 * 7 + k % 7 = k by omega] at h1
    rw [h1]
    simp only [madeCells, Array.toList_map, Array.toList_range, List.getElem?_map, List.getElem?_range hk, Option.map_some]
    have h8 : k % 7 = 0 ∨ k % 7 = 1 ∨ k % 7 = 2 ∨ k % 7 = 3 ∨ k % 7 = 4 ∨ k % 7 = 5 ∨ k % 7 = 6 := by omega
    rcases h8 with e | e | e | e | e | e | e <;> simp [e, Lv.cs, lv0]
  · rw [List.getElem?_eq_none (by simp [madeCells]; omega), List.getElem?_eq_none (by rw [cells9_len]; simp; omega)]

theorem set_fill9 (V : List Lv) (k n : Nat) (hn : V.length = k) (hk : k < n) (p : Lv) :
    (V ++ List.replicate (n - k) lv0).set k p = (V ++ [p]) ++ List.replicate (n - (k + 1)) lv0 := by
  rw [List.set_append_right _ _ (by omega), hn, Nat.sub_self, show n - k = (n - (k + 1)) + 1 by omega, List.replicate_succ, List.set_cons_zero, List.append_assoc]
  rfl

end Go.Proofs.Ytdknalegmlpimaa

namespace Go.Proofs.Ytdknalegmlpimaa
open Go.ChangeShapes Go.WideShapes Go.ChangeAt Go.RowKit Go.Deep
set_option linter.unusedVariables false

set_option maxRecDepth 100000 in
theorem open_bytes_cell {H : Type} {enc : TypeId × Value → H} {W : World} {base fuel : Nat} {t1 : Nat → Bool} {t2 : Bool} {v : Value} {y : DataW H × List MemPlace}
    (h : DataW.trod enc Try.prog W base t1 t2 fuel 28 [v] = some y) : ∃ (a : Option Addr) (n c : Nat) (zs : List Int), v = .slice a n c ∧ BsAt W a zs ∧ zs.length = n ∧ n ≤ maxLen := by
  have hb : ∃ (a : Option Addr) (n c : Nat), v = .slice a n c := by
    rcases open_ints Try.underlying28 Try.underlying5 (by kernel_rfl) h with ⟨hcs, _⟩ | ⟨x, l, c, zs, hcs, _⟩
    · simp only [List.cons.injEq, and_true] at hcs
      exact ⟨none, 0, 0, hcs⟩
    · simp only [List.cons.injEq, and_true] at hcs
      exact ⟨some x, l, c, hcs⟩
  obtain ⟨a, n, c, rfl⟩ := hb
  obtain ⟨zs, h1, h2, h3, h4⟩ := open_bytes (enc := enc) (W := W) (base := base) (t1 := t1) (t2 := t2) (a := a) (n := n) (c := c) (d := y.1) (p := y.2) ⟨fuel, by simpa [Value.cells] using h⟩
  exact ⟨a, n, c, zs, rfl, h1, h2, h4⟩

end Go.Proofs.Ytdknalegmlpimaa

namespace Go.Proofs.Ytdknalegmlpimaa
open Go.RowKit Go.Sort
set_option linter.unusedVariables false

end Go.Proofs.Ytdknalegmlpimaa

namespace Go.Proofs.Ytdknalegmlpimaa
open Go.RowKit Go.Sort
set_option linter.unusedVariables false

end Go.Proofs.Ytdknalegmlpimaa

namespace Go.Proofs.Ytdknalegmlpimaa
open Go.RowKit Go.Sort
set_option linter.unusedVariables false

theorem New.drew_mark7 {a b : World} : New a.drew b ↔ New a b := ⟨fun h => ⟨h.os, h.tape, h.output, h.size, h.block⟩, fun h => ⟨h.os, h.tape, h.output, h.size, h.block⟩⟩
/-- What was laid down lies there still. -/
def NewA7 (X : World) (o : Obj) (Y : World) : Prop := New (X.alloc o) Y
theorem New.alloc_mark7 {X Y : World} {o : Obj} : New (X.alloc o) Y ↔ (New X Y ∧ NewA7 X o Y) := ⟨fun h => ⟨((New.refl X).alloc o).trans h, h⟩, fun h => h.2⟩
theorem Blk.laid7 {X Y : World} {t : TypeId} {cs : Array Value} (h : NewA7 X (.cells cs t) Y) : Blk Y X.heap.size t cs := (Blk.mk X _ t cs rfl).new h

def cmp3 (x y : Int) : Int := if x < y then -1 else if y < x then 1 else 0
/-- The first number that is not 0. -/
def orL : List Int → Int
  | [] => 0
  | c :: q => if c = 0 then orL q else c
theorem orL_next {cs : List Int} {k : Nat} {c : Int} (h : cs[k]? = some c) : orL (cs.drop k) = if c = 0 then orL (cs.drop (k + 1)) else c := by
  obtain ⟨hk, e⟩ := List.getElem?_eq_some_iff.1 h
  rw [List.drop_eq_getElem_cons hk, e]
  rfl

/-- Which of two routes is better. -/
def cmpW (p o md lc : Int) (n : Nat) (p' o' md' lc' : Int) (n' : Nat) : Int := orL [cmp3 lc' lc, cmp3 n n', cmp3 o o', cmp3 md md', cmp3 p p']
/-- Which of two routes stands ahead. -/
def cmpR (p a l p' a' l' : Int) : Int := orL [orL [cmp3 a a', cmp3 l l'], cmp3 p p']

end Go.Proofs.Ytdknalegmlpimaa

namespace Go.Proofs.Ytdknalegmlpimaa
open Go.RowKit Go.Sort
set_option linter.unusedVariables false

/-- A route. -/
structure Rt where
  p : Int
  a : Int
  l : Int
  o : Int
  xs : List Int
  nx : Int
  md : Int
  lc : Int

/-- A route in memory: its path lies at an address, with room. -/
structure Rv where
  r : Rt
  x : Option Addr
  c : Nat

/-- The cells of a route. -/
def Rv.cs (v : Rv) : List Value := [.int .i64 v.r.p, .int .i64 v.r.a, .int .i64 v.r.l, .int .i64 v.r.o, .slice v.x v.r.xs.length v.c, .int .i64 v.r.nx, .int .i64 v.r.md, .int .i64 v.r.lc]

/-- The path of a route is there. -/
def Rv.here (w : World) (v : Rv) : Prop := NsAt w v.x v.r.xs ∧ (v.x = none → v.r.xs.length = 0 ∧ v.c = 0) ∧ v.r.xs.length ≤ 1048576

/-- The address leads to the routes. -/
def RtAt (w : World) (A : Option Addr) (V : List Rv) : Prop :=
  ∀ i v, V[i]? = some v → (∃ b off, A = some ⟨b, off, none⟩ ∧ ∀ j, j < 8 → w.cell? ⟨b, off + i * 8 + j, none⟩ = v.cs[j]?) ∧ v.here w

theorem RtAt.nil (w : World) (a : Option Addr) : RtAt w a [] := by intro i z h; simp at h

theorem Rv.here.turn {w w' : World} {v : Rv} {S : Nat → Prop} (h : v.here w) (t : Turn S w w') (hS : ∀ x, v.r.xs ≠ [] → v.x = some x → ¬ S x.block) : v.here w' := ⟨h.1.turn t hS, h.2⟩
theorem Rv.here.new {w w' : World} {v : Rv} (h : v.here w) (t : New w w') : v.here w' := ⟨h.1.new t, h.2⟩

theorem RtAt.turn {w w' : World} {a : Option Addr} {V : List Rv} {S : Nat → Prop} (h : RtAt w a V) (t : Turn S w w') (hS : ∀ x, V ≠ [] → a = some x → ¬ S x.block) (hP : ∀ v ∈ V, ∀ x, v.r.xs ≠ [] → v.x = some x → ¬ S x.block) : RtAt w' a V := by
  intro i v hv
  obtain ⟨⟨b, off, ha, hc⟩, hh⟩ := h i v hv
  have h0 : w.cell? ⟨b, off + i * 8, none⟩ = some (.int .i64 v.r.p) := hc 0 (by omega)
  have hb' := t.block b (World.block_lt_of_cell? w _ h0) (hS _ (by rintro rfl; simp at hv) ha)
  exact ⟨⟨b, off, ha, fun j hj => (World.cell?_of_block hb').trans (hc j hj)⟩, hh.turn t (hP v (List.mem_of_getElem? hv))⟩
theorem RtAt.new {w w' : World} {a : Option Addr} {V : List Rv} (h : RtAt w a V) (t : New w w') : RtAt w' a V := h.turn t (fun _ _ _ f => f) (fun _ _ _ _ _ f => f)

theorem RtAt.at {w : World} {A : Option Addr} {V : List Rv} (h : RtAt w A V) (i : Nat) (hi : i < V.length) :
    ∃ (b off : Nat) (p a l o nx md lc : Int) (x : Option Addr) (n c : Nat) (xs : List Int), A = some ⟨b, off, none⟩ ∧ V[i]? = some ⟨⟨p, a, l, o, xs, nx, md, lc⟩, x, c⟩ ∧ xs.length = n ∧ NsAt w x xs ∧ (x = none → n = 0 ∧ c = 0) ∧ n ≤ 1048576 ∧ w.cell? ⟨b, off + i * 8, none⟩ = some (.int .i64 p) ∧ w.cell? ⟨b, off + i * 8 + 1, none⟩ = some (.int .i64 a) ∧ w.cell? ⟨b, off + i * 8 + 2, none⟩ = some (.int .i64 l) ∧ w.cell? ⟨b, off + i * 8 + 3, none⟩ = some (.int .i64 o) ∧ w.cell? ⟨b, off + i * 8 + 4, none⟩ = some (.slice x n c) ∧ w.cell? ⟨b, off + i * 8 + 5, none⟩ = some (.int .i64 nx) ∧ w.cell? ⟨b, off + i * 8 + 6, none⟩ = some (.int .i64 md) ∧ w.cell? ⟨b, off + i * 8 + 7, none⟩ = some (.int .i64 lc) := by
  obtain ⟨⟨b, off, h1, h2⟩, hh⟩ := h i _ (List.getElem?_eq_getElem hi)
  exact ⟨b, off, _, _, _, _, _, _, _, _, _, _, _, h1, List.getElem?_eq_getElem hi, rfl, hh.1, hh.2.1, hh.2.2, h2 0 (by omega), h2 1 (by omega), h2 2 (by omega), h2 3 (by omega), h2 4 (by omega), h2 5 (by omega), h2 6 (by omega), h2 7 (by omega)⟩

def cellsT (V : List Rv) : List Value := V.flatMap Rv.cs
theorem cellsT_cons (v : Rv) (V : List Rv) : cellsT (v :: V) = .int .i64 v.r.p :: .int .i64 v.r.a :: .int .i64 v.r.l :: .int .i64 v.r.o :: .slice v.x v.r.xs.length v.c :: .int .i64 v.r.nx :: .int .i64 v.r.md :: .int .i64 v.r.lc :: cellsT V := rfl
theorem cellsT_app (v : Rv) (V : List Rv) : cellsT (v :: V) = v.cs ++ cellsT V := rfl
theorem cellsT_snoc (V : List Rv) (v : Rv) : cellsT (V ++ [v]) = cellsT V ++ v.cs := by simp [cellsT]
theorem cellsT_len : ∀ V : List Rv, (cellsT V).length = V.length * 8
  | [] => rfl
  | r :: V => by rw [cellsT_app, List.length_append, cellsT_len V, List.length_cons]; simp [Rv.cs]; omega
theorem cellsT_get : ∀ (V : List Rv) (i : Nat) (r : Rv), V[i]? = some r → ∀ j, j < 8 → (cellsT V)[i * 8 + j]? = r.cs[j]?
  | [], i, p, h => by simp at h
  | q :: V, 0, p, h => by
    intro j hj
    simp at h
    subst h
    rw [cellsT_app, Nat.zero_mul, Nat.zero_add, List.getElem?_append_left (by simpa [Rv.cs] using hj)]
  | q :: V, i + 1, p, h => by
    intro j hj
    have h' : V[i]? = some p := by simpa using h
    rw [cellsT_app, List.getElem?_append_right (by simp [Rv.cs]; omega), show (i + 1) * 8 + j - q.cs.length = i * 8 + j by simp [Rv.cs]; omega]
    exact cellsT_get V i p h' j hj
theorem cellsT_set : ∀ (V : List Rv) (i : Nat) (v : Rv), ((((((((cellsT V).set (i * 8) (.int .i64 v.r.p)).set (i * 8 + 1) (.int .i64 v.r.a)).set (i * 8 + 2) (.int .i64 v.r.l)).set (i * 8 + 3) (.int .i64 v.r.o)).set (i * 8 + 4) (.slice v.x v.r.xs.length v.c)).set (i * 8 + 5) (.int .i64 v.r.nx)).set (i * 8 + 6) (.int .i64 v.r.md)).set (i * 8 + 7) (.int .i64 v.r.lc) = cellsT (V.set i v)
  | [], i, p => by simp [cellsT]
  | q :: V, 0, p => by simp [cellsT_cons]
  | q :: V, i + 1, p => by
    have ih := cellsT_set V i p
    rw [show (i + 1) * 8 = i * 8 + 8 by omega, cellsT_cons, show (q :: V).set (i + 1) p = q :: V.set i p from rfl, cellsT_cons, ← ih]
    simp only [Nat.add_assoc, Nat.reduceAdd, List.set_cons_succ]

/-- The route of zeros. -/
def rv0 : Rv := ⟨⟨0, 0, 0, 0, [], 0, 0, 0⟩, none, 0⟩
theorem made_rv (n : Nat) : (madeCells #[.int .i64 0, .int .i64 0, .int .i64 0, .int .i64 0, .slice none 0 0, .int .i64 0, .int .i64 0, .int .i64 0] (n * 8)).toList = cellsT (List.replicate n rv0) := by
  apply List.ext_getElem?
  intro k
  by_cases hk : k < n * 8
  · have h1 : (cellsT (List.replicate n rv0))[k / 8 * 8 + k % 8]? = rv0.cs[k % 8]? := cellsT_get _ (k / 8) rv0 (by rw [List.getElem?_replicate]; simp; omega) (k % 8) (by omega)
    rw [show k / 8 * 8 + k % 8 = k by omega] at h1
    rw [h1]
    simp only [madeCells, Array.toList_map, Array.toList_range, List.getElem?_map, List.getElem?_range hk, Option.map_some]
    have h8 : k % 8 = 0 ∨ k % 8 = 1 ∨ k % 8 = 2 ∨ k % 8 = 3 ∨ k % 8 = 4 ∨ k % 8 = 5 ∨ k % 8 = 6 ∨ k % 8 = 7 := by omega
    rcases h8 with e | e | e | e | e | e | e | e <;> simp [e, Rv.cs, rv0]
  · rw [List.getElem?_eq_none (by simp [madeCells]; omega), List.getElem?_eq_none (by rw [cellsT_len]; simp; omega)]

theorem set_fillT (V : List Rv) (k n : Nat) (hn : V.length = k) (hk : k < n) (p : Rv) :
    (V ++ List.replicate (n - k) rv0).set k p = (V ++ [p]) ++ List.replicate (n - (k + 1)) rv0 := by
  rw [List.set_append_right _ _ (by omega), hn, Nat.sub_self, show n - k = (n - (k + 1)) + 1 by omega, List.replicate_succ, List.set_cons_zero, List.append_assoc]
  rfl

/-- The counting of paths: what is left of k behind the routes, from left to right; none where it does not go. -/
def szF : List Rv → Nat → Option Nat
  | [], k => some k
  | v :: V, k => if v.r.xs.length ≤ k then szF V (k - v.r.xs.length) else none
theorem szF_next {V : List Rv} {i : Nat} {v : Rv} (h : V[i]? = some v) (k : Nat) : szF (V.drop i) k = if v.r.xs.length ≤ k then szF (V.drop (i + 1)) (k - v.r.xs.length) else none := by
  obtain ⟨hk, e⟩ := List.getElem?_eq_some_iff.1 h
  rw [List.drop_eq_getElem_cons hk, e]
  rfl
theorem szF_le : ∀ (V : List Rv) (k m : Nat), szF V k = some m → (∀ v ∈ V, v.r.xs.length ≤ k) ∧ m ≤ k
  | [], k, m, h => by simp [szF] at h; simp; omega
  | v :: V, k, m, h => by
    unfold szF at h
    split at h
    · have := szF_le V _ m h
      refine ⟨fun u hu => ?_, by omega⟩
      rcases List.mem_cons.1 hu with rfl | hu
      · assumption
      · have := this.1 u hu; omega
    · cases h

end Go.Proofs.Ytdknalegmlpimaa

namespace Go.Proofs.Ytdknalegmlpimaa
open Go.RowKit Go.Sort
set_option linter.unusedVariables false

end Go.Proofs.Ytdknalegmlpimaa

namespace Go.Proofs.Ytdknalegmlpimaa
open Go.RowKit Go.Sort
set_option linter.unusedVariables false

/-- The path of a route, as a value. -/
def Rv.pv (v : Rv) : Value := .slice v.x v.r.xs.length v.c

theorem OvN.turn7 {w w' : World} {lo : Nat} {v : Value} {xs : List Int} {S : Nat → Prop} (h : OvN w lo v xs) (t : Turn S w w') (hS : ∀ k, v.ownBlock = some k → ¬ S k) : OvN w' lo v xs := by
  refine ⟨h.1, ?_⟩
  rcases h.2 with h' | ⟨g', cap', cur, h', hb, hh, r⟩
  · exact .inl h'
  · have hlt : g' < w.heap.size := (Array.getElem?_eq_some_iff.1 hh).1
    exact .inr ⟨g', cap', cur, h', hb, (t.block g' hlt (hS g' (by rw [h']; rfl))).trans hh, r⟩
theorem OvN.rng7 {w : World} {lo : Nat} {v : Value} {xs : List Int} (h : OvN w lo v xs) : ∀ j, v.ownBlock = some j → lo ≤ j ∧ j < w.heap.size := by
  intro j hj
  rcases h.2 with ⟨h', _⟩ | ⟨g', cap', cur, h', hb, hh, r⟩
  · rw [h'] at hj; simp [Value.ownBlock] at hj
  · have hlt : g' < w.heap.size := (Array.getElem?_eq_some_iff.1 hh).1
    rw [h'] at hj
    simp [Value.ownBlock] at hj
    omega
theorem OwN.ov7 {w : World} {g n c : Nat} {xs : List Int} (h : OwN w g n c xs) : OvN w g (.slice (some ⟨g, 0, none⟩) n c) xs := by
  have hl := h.len
  subst hl
  refine ⟨h.1, ?_⟩
  rcases h.2 with h' | ⟨g', cap', cur, h', r⟩
  · exact .inl h'
  · have e2 := congrArg Value.ownBlock h'
    have e3 : g = g' := by simpa [Value.ownBlock] using e2
    exact .inr ⟨g', cap', cur, h', by omega, r.2⟩

/-- The paths of the routes lie in memory of the call's own, from lo to hi, each in a block of its own. -/
structure PathsT (w : World) (lo hi : Nat) (V : List Rv) : Prop where
  own : ∀ v ∈ V, OvN w lo v.pv v.r.xs
  bd : ∀ v ∈ V, (∀ z ∈ v.r.xs, In6 z) ∧ v.r.xs.length ≤ 1048576
  lies : ∀ v ∈ V, ∀ k, v.pv.ownBlock = some k → k < hi
  apart : ∀ (i j : Nat) (u v : Rv) (k : Nat), V[i]? = some u → V[j]? = some v → i ≠ j → u.pv.ownBlock = some k → v.pv.ownBlock ≠ some k

theorem PathsT.nil (w : World) (lo hi : Nat) : PathsT w lo hi [] := ⟨by simp, by simp, by simp, by intro i j u v k h; simp at h⟩
theorem PathsT.turn {w w' : World} {lo hi : Nat} {V : List Rv} {S : Nat → Prop} (h : PathsT w lo hi V) (t : Turn S w w') (hS : ∀ k, lo ≤ k → k < hi → ¬ S k) : PathsT w' lo hi V :=
  ⟨fun v hv => (h.own v hv).turn7 t (fun k hk => hS k ((h.own v hv).rng7 k hk).1 (h.lies v hv k hk)), h.bd, h.lies, h.apart⟩
theorem PathsT.new {w w' : World} {lo hi : Nat} {V : List Rv} (h : PathsT w lo hi V) (t : New w w') : PathsT w' lo hi V := h.turn t (fun _ _ _ f => f)
theorem PathsT.here {w : World} {lo hi : Nat} {V : List Rv} (h : PathsT w lo hi V) : ∀ v ∈ V, v.here w := by
  intro v hv
  obtain ⟨a, c, e, h1, h2, -⟩ := (h.own v hv).ns (h.bd v hv).1
  simp only [Rv.pv, Value.slice.injEq, true_and] at e
  obtain ⟨rfl, rfl⟩ := e
  exact ⟨h1, h2, (h.bd v hv).2⟩
theorem PathsT.snoc {w : World} {lo hi hi' : Nat} {V : List Rv} (h : PathsT w lo hi V) (v : Rv) (ho : OvN w hi v.pv v.r.xs) (hb : ∀ z ∈ v.r.xs, In6 z) (hm : v.r.xs.length ≤ 1048576) (hlo : lo ≤ hi) (hhi : hi ≤ hi') (hw : w.heap.size ≤ hi') : PathsT w lo hi' (V ++ [v]) := by
  have key : ∀ (i : Nat) (u : Rv), (V ++ [v])[i]? = some u → (V[i]? = some u) ∨ (i = V.length ∧ u = v) := by
    intro i u hu
    rw [List.getElem?_append] at hu
    split at hu
    · exact .inl hu
    · right
      have : i - V.length = 0 := by
        rcases Nat.eq_zero_or_pos (i - V.length) with e | e
        · exact e
        · rw [List.getElem?_eq_none (by simp; omega)] at hu; cases hu
      rw [this] at hu
      simp at hu
      exact ⟨by omega, hu.symm⟩
  refine ⟨?_, ?_, ?_, ?_⟩
  · intro u hu
    rcases List.mem_append.1 hu with hu | hu
    · exact h.own u hu
    · obtain rfl := List.mem_singleton.1 hu; exact ho.low hlo
  · intro u hu
    rcases List.mem_append.1 hu with hu | hu
    · exact h.bd u hu
    · obtain rfl := List.mem_singleton.1 hu; exact ⟨hb, hm⟩
  · intro u hu k hk
    rcases List.mem_append.1 hu with hu | hu
    · have := h.lies u hu k hk; omega
    · obtain rfl := List.mem_singleton.1 hu; have := (ho.rng7 k hk).2; omega
  · intro i j u q k hi hj hne hu hq
    rcases key i u hi with h1 | ⟨h1, rfl⟩
    · rcases key j q hj with h2 | ⟨h2, rfl⟩
      · exact h.apart i j u q k h1 h2 hne hu hq
      · have := h.lies u (List.mem_of_getElem? h1) k hu; have := (ho.rng7 k hq).1; omega
    · rcases key j q hj with h2 | ⟨h2, rfl⟩
      · have := h.lies q (List.mem_of_getElem? h2) k hq; have := (ho.rng7 k hu).1; omega
      · omega
theorem PathsT.up {w : World} {lo hi hi' : Nat} {V : List Rv} (h : PathsT w lo hi V) (hh : hi ≤ hi') : PathsT w lo hi' V := ⟨h.own, h.bd, fun v hv k hk => Nat.lt_of_lt_of_le (h.lies v hv k hk) hh, h.apart⟩
theorem PathsT.low {w : World} {lo lo' hi : Nat} {V : List Rv} (h : PathsT w lo hi V) (hh : lo' ≤ lo) : PathsT w lo' hi V := ⟨fun v hv => (h.own v hv).low hh, h.bd, h.lies, h.apart⟩

section
variable {P : Program} {t e : TypeId} {i : TypeInfo}
/-- Appending a route to a list that the call owns. -/
theorem wpList_apT (w : World) {ops : Array Oper} {rest : List Oper} {o : Oper} {a : Act} {Q : Exit → Act → World → Prop} (hgd : o.guard = none) (s x : Operand)
    (ho : o.op = .call { callee := .builtin .append, args := #[s, x], argTypes := #[t, t] }) (base : Nat) (zero : Value) (ht : P.underlying t = some (.slice e)) (hi : P.info? e = some i) (hz : i.zero = some zero) (hs : i.size = 8) (hb : i.bytes = 80) (hz1 : zero.cells.size = 8)
    (v : Value) (rs : List Rv) (hsv : a.eval s = v) (hown : w.ownsRow base e 8 v rs.length (cellsT rs))
    (L : Nat) (r : Rv) (hxv : a.eval x = .slice (some ⟨L, 0, none⟩) 1 1) (hsrc : ∀ j, w.cell? ⟨L, j, none⟩ = r.cs[j]?) (hle : rs.length + 1 ≤ 4194304) (hbase : base ≤ w.heap.size)
    (h : ∀ v' w', w'.ownsRow base e 8 v' (rs ++ [r]).length (cellsT (rs ++ [r])) → w.grownBy w' v.ownBlock → (v'.ownBlock = v.ownBlock ∨ v'.ownBlock = some w.heap.size) → wpList P ops Q rest (a.put o.dst v') w') : wpList P ops Q (o :: rest) a w := by
  refine wpList_plain hgd fun _ hK => ?_
  have hnews : ∀ j u, r.cs[j]? = some u → w.cell? ((⟨L, 0, none⟩ : Addr).add j) = some u := by
    intro j u hu
    rw [Addr.add_lit, Nat.zero_add, hsrc j, hu]
  obtain ⟨v', w', hr, h2, h3, _, h5⟩ := run_append_own_at (P := P) w base t o.type e i zero 8 80 ht hi hz hs hb hz1 (by decide) v rs.length (cellsT rs) hown ⟨L, 0, none⟩ 1 1 r.cs rfl hnews (by simp [Rv.cs, Value.oneCell']) (by unfold maxLen; omega) (by omega) hbase
  unfold Oper.wp execOp
  simp only [ho, resolve, invoke, builtin, Sem.run_bind, Sem.run_pure, Result.andThen_ok, List.map_toArray, List.map_cons, List.map_nil, hsv, hxv, hr]
  exact hK _ _ (h v' w' (by rw [cellsT_snoc]; simpa using h2) h3 h5)
end

end Go.Proofs.Ytdknalegmlpimaa

namespace Go.Proofs.Ytdknalegmlpimaa
open Go.ChangeShapes Go.WideShapes Go.ChangeAt Go.RowKit Go.Deep

/-- A route that came in: its path is there. -/
def Rv.came (w : World) (v : Rv) : Prop := NsAt w v.x v.r.xs ∧ (v.x = none → v.r.xs.length = 0 ∧ v.c = 0) ∧ v.r.xs.length ≤ maxLen

/-- The address leads to the routes that came in. -/
def RtCame (w : World) (A : Option Addr) (V : List Rv) : Prop :=
  ∀ i v, V[i]? = some v → (∃ b off, A = some ⟨b, off, none⟩ ∧ ∀ j, j < 8 → w.cell? ⟨b, off + i * 8 + j, none⟩ = v.cs[j]?) ∧ v.came w

end Go.Proofs.Ytdknalegmlpimaa

namespace Go.Proofs.Ytdknalegmlpimaa
open Go.RowKit Go.Sort
set_option linter.unusedVariables false

theorem set8 (w : World) (B j : Nat) (v0 v1 v2 v3 v4 v5 v6 v7 : Value) : Turn (fun k => k = B) w ((((((((w.setCell ⟨B, j, none⟩ v0).setCell ⟨B, j + 1, none⟩ v1).setCell ⟨B, j + 2, none⟩ v2).setCell ⟨B, j + 3, none⟩ v3).setCell ⟨B, j + 4, none⟩ v4).setCell ⟨B, j + 5, none⟩ v5).setCell ⟨B, j + 6, none⟩ v6).setCell ⟨B, j + 7, none⟩ v7) :=
  ((((((((Turn.refl (fun k => k = B) w).set (p := ⟨B, j, none⟩) rfl v0).set (p := ⟨B, j + 1, none⟩) rfl v1).set (p := ⟨B, j + 2, none⟩) rfl v2).set (p := ⟨B, j + 3, none⟩) rfl v3).set (p := ⟨B, j + 4, none⟩) rfl v4).set (p := ⟨B, j + 5, none⟩) rfl v5).set (p := ⟨B, j + 6, none⟩) rfl v6).set (p := ⟨B, j + 7, none⟩) rfl v7

theorem RtCame.new {w w' : World} {A : Option Addr} {V : List Rv} (h : RtCame w A V) (t : New w w') : RtCame w' A V := by
  intro i v hv
  obtain ⟨⟨b, off, ha, hc⟩, h1, h2⟩ := h i v hv
  have h0 : w.cell? ⟨b, off + i * 8, none⟩ = some (.int .i64 v.r.p) := hc 0 (by omega)
  have hb' := t.block b (World.block_lt_of_cell? w _ h0) (fun f => f)
  exact ⟨⟨b, off, ha, fun j hj => (World.cell?_of_block hb').trans (hc j hj)⟩, h1.new t, h2⟩
theorem RtCame.at {w : World} {A : Option Addr} {V : List Rv} (h : RtCame w A V) (i : Nat) (hi : i < V.length) :
    ∃ (b off : Nat) (p a l o nx md lc : Int) (x : Option Addr) (n c : Nat) (xs : List Int), A = some ⟨b, off, none⟩ ∧ V[i]? = some ⟨⟨p, a, l, o, xs, nx, md, lc⟩, x, c⟩ ∧ xs.length = n ∧ NsAt w x xs ∧ (x = none → n = 0 ∧ c = 0) ∧ n ≤ maxLen ∧ w.cell? ⟨b, off + i * 8, none⟩ = some (.int .i64 p) ∧ w.cell? ⟨b, off + i * 8 + 1, none⟩ = some (.int .i64 a) ∧ w.cell? ⟨b, off + i * 8 + 2, none⟩ = some (.int .i64 l) ∧ w.cell? ⟨b, off + i * 8 + 3, none⟩ = some (.int .i64 o) ∧ w.cell? ⟨b, off + i * 8 + 4, none⟩ = some (.slice x n c) ∧ w.cell? ⟨b, off + i * 8 + 5, none⟩ = some (.int .i64 nx) ∧ w.cell? ⟨b, off + i * 8 + 6, none⟩ = some (.int .i64 md) ∧ w.cell? ⟨b, off + i * 8 + 7, none⟩ = some (.int .i64 lc) := by
  obtain ⟨⟨b, off, h1, h2⟩, hh⟩ := h i _ (List.getElem?_eq_getElem hi)
  exact ⟨b, off, _, _, _, _, _, _, _, _, _, _, _, h1, List.getElem?_eq_getElem hi, rfl, hh.1, hh.2.1, hh.2.2, h2 0 (by omega), h2 1 (by omega), h2 2 (by omega), h2 3 (by omega), h2 4 (by omega), h2 5 (by omega), h2 6 (by omega), h2 7 (by omega)⟩
theorem RtCame.rt {w : World} {A : Option Addr} {V : List Rv} (h : RtCame w A V) (hb : ∀ v ∈ V, v.r.xs.length ≤ 1048576) : RtAt w A V := by
  intro i v hv
  obtain ⟨h1, h2, h3, -⟩ := h i v hv
  exact ⟨h1, h2, h3, hb v (List.mem_of_getElem? hv)⟩

end Go.Proofs.Ytdknalegmlpimaa

namespace Go.Proofs.Ytdknalegmlpimaa
open Go.RowKit Go.Sort
set_option linter.unusedVariables false

end Go.Proofs.Ytdknalegmlpimaa

namespace Go.Proofs.Ytdknalegmlpimaa
open Go.RowKit Go.Sort
set_option linter.unusedVariables false

end Go.Proofs.Ytdknalegmlpimaa
