/- Lemmas and contracts of one law. -/
import Derived.Test.YtdbnmkffinhdjaaGreatLV2
import Derived.Test.YtdbnmkffinhdjaaGreatLV20
import Derived.Deep.RegionHeld3
import Derived.Deep.MidRow
import Derived.Test.YtdbnmkffinhdjaaGreatLV19
import Derived.Test.YtdbnmkffinhdjaaGreatLV17
import Derived.Deep.CutRange
import Derived.Maps.AppendAt
import Derived.Test.YtdbnmkffinhdjaaGreatLV18
import Derived.Deep.SlicePairs
import Derived.Test.YtdbnmkffinhdjaaGreatLV1
import Derived.Test.YtdbnmkffinhdjaaGreatLV3
namespace Go.Proofs.YtdbnmkffinhdjaaGreat
open Go.RowKit Go.Sort
set_option linter.unusedVariables false
set_option maxHeartbeats 25600000

section
variable {P : Program} {t e : TypeId} {i : TypeInfo}
end






theorem lit_rules (w : World) (lo : Nat) (h : lo ≤ w.heap.size) : (w.alloc (.cells #[] 159)).ownsRow lo 159 8 (.slice (some ⟨w.heap.size, 0, none⟩) 0 0) ([] : List Ru).length (cellsR []) :=
  ⟨rfl, .inr ⟨w.heap.size, 0, #[], rfl, h, heap_alloc_new _ _, Nat.le_refl _, Nat.zero_le _, by simp, by simp [cellsR]⟩⟩




/-- A thing told. -/
structure Td where
  a : Int
  l : Int
  o : Int
  xs : List Int
  nx : Int
  md : Int
  lc : Int

/-- A thing told in memory: its path lies at an address, with room. -/
structure Tv where
  r : Td
  x : Option Addr
  c : Nat

/-- The cells of a thing told. -/
def Tv.cs (v : Tv) : List Value := [.int .i64 v.r.a, .int .i64 v.r.l, .int .i64 v.r.o, .slice v.x v.r.xs.length v.c, .int .i64 v.r.nx, .int .i64 v.r.md, .int .i64 v.r.lc]

/-- The path of a thing told is there. -/
def Tv.here (w : World) (v : Tv) : Prop := NsAt w v.x v.r.xs ∧ (v.x = none → v.r.xs.length = 0 ∧ v.c = 0) ∧ v.r.xs.length ≤ 1048576

/-- The address leads to the things told. -/
def TdAt (w : World) (A : Option Addr) (V : List Tv) : Prop :=
  ∀ i v, V[i]? = some v → (∃ b off, A = some ⟨b, off, none⟩ ∧ ∀ j, j < 7 → w.cell? ⟨b, off + i * 7 + j, none⟩ = v.cs[j]?) ∧ v.here w

theorem TdAt.nil (w : World) (a : Option Addr) : TdAt w a [] := by intro i z h; simp at h

theorem Tv.here.turn {w w' : World} {v : Tv} {S : Nat → Prop} (h : v.here w) (t : Turn S w w') (hS : ∀ x, v.r.xs ≠ [] → v.x = some x → ¬ S x.block) : v.here w' := ⟨h.1.turn t hS, h.2⟩
theorem Tv.here.new {w w' : World} {v : Tv} (h : v.here w) (t : New w w') : v.here w' := ⟨h.1.new t, h.2⟩

theorem TdAt.turn {w w' : World} {a : Option Addr} {V : List Tv} {S : Nat → Prop} (h : TdAt w a V) (t : Turn S w w') (hS : ∀ x, V ≠ [] → a = some x → ¬ S x.block) (hP : ∀ v ∈ V, ∀ x, v.r.xs ≠ [] → v.x = some x → ¬ S x.block) : TdAt w' a V := by
  intro i v hv
  obtain ⟨⟨b, off, ha, hc⟩, hh⟩ := h i v hv
  have h0 : w.cell? ⟨b, off + i * 7, none⟩ = some (.int .i64 v.r.a) := hc 0 (by omega)
  have hb' := t.block b (World.block_lt_of_cell? w _ h0) (hS _ (by rintro rfl; simp at hv) ha)
  exact ⟨⟨b, off, ha, fun j hj => (World.cell?_of_block hb').trans (hc j hj)⟩, hh.turn t (hP v (List.mem_of_getElem? hv))⟩
theorem TdAt.new {w w' : World} {a : Option Addr} {V : List Tv} (h : TdAt w a V) (t : New w w') : TdAt w' a V := h.turn t (fun _ _ _ f => f) (fun _ _ _ _ _ f => f)

theorem TdAt.at {w : World} {A : Option Addr} {V : List Tv} (h : TdAt w A V) (i : Nat) (hi : i < V.length) :
    ∃ (b off : Nat) (a l o nx md lc : Int) (x : Option Addr) (n c : Nat) (xs : List Int), A = some ⟨b, off, none⟩ ∧ V[i]? = some ⟨⟨a, l, o, xs, nx, md, lc⟩, x, c⟩ ∧ xs.length = n ∧ NsAt w x xs ∧ (x = none → n = 0 ∧ c = 0) ∧ n ≤ 1048576 ∧ w.cell? ⟨b, off + i * 7, none⟩ = some (.int .i64 a) ∧ w.cell? ⟨b, off + i * 7 + 1, none⟩ = some (.int .i64 l) ∧ w.cell? ⟨b, off + i * 7 + 2, none⟩ = some (.int .i64 o) ∧ w.cell? ⟨b, off + i * 7 + 3, none⟩ = some (.slice x n c) ∧ w.cell? ⟨b, off + i * 7 + 4, none⟩ = some (.int .i64 nx) ∧ w.cell? ⟨b, off + i * 7 + 5, none⟩ = some (.int .i64 md) ∧ w.cell? ⟨b, off + i * 7 + 6, none⟩ = some (.int .i64 lc) := by
  obtain ⟨⟨b, off, h1, h2⟩, hh⟩ := h i _ (List.getElem?_eq_getElem hi)
  exact ⟨b, off, _, _, _, _, _, _, _, _, _, _, h1, List.getElem?_eq_getElem hi, rfl, hh.1, hh.2.1, hh.2.2, h2 0 (by omega), h2 1 (by omega), h2 2 (by omega), h2 3 (by omega), h2 4 (by omega), h2 5 (by omega), h2 6 (by omega)⟩



/-- The path of a thing told, as a value. -/
def Tv.pv (v : Tv) : Value := .slice v.x v.r.xs.length v.c

section
variable {P : Program} {t e : TypeId} {i : TypeInfo}
end

end Go.Proofs.YtdbnmkffinhdjaaGreat

namespace Go.Proofs.YtdbnmkffinhdjaaGreat
open Go.ChangeShapes Go.WideShapes Go.ChangeAt Go.RowKit Go.Deep
set_option maxHeartbeats 25600000

/-- A thing told that came in: its path is there. -/
def Tv.came (w : World) (v : Tv) : Prop := NsAt w v.x v.r.xs ∧ (v.x = none → v.r.xs.length = 0 ∧ v.c = 0) ∧ v.r.xs.length ≤ maxLen

/-- The address leads to the things told that came in. -/
def TdCame (w : World) (A : Option Addr) (V : List Tv) : Prop :=
  ∀ i v, V[i]? = some v → (∃ b off, A = some ⟨b, off, none⟩ ∧ ∀ j, j < 7 → w.cell? ⟨b, off + i * 7 + j, none⟩ = v.cs[j]?) ∧ v.came w

end Go.Proofs.YtdbnmkffinhdjaaGreat

namespace Go.Proofs.YtdbnmkffinhdjaaGreat
open Go.RowKit Go.Sort
set_option linter.unusedVariables false
set_option maxHeartbeats 25600000

theorem TdCame.new {w w' : World} {A : Option Addr} {V : List Tv} (h : TdCame w A V) (t : New w w') : TdCame w' A V := by
  intro i v hv
  obtain ⟨⟨b, off, ha, hc⟩, h1, h2⟩ := h i v hv
  have h0 : w.cell? ⟨b, off + i * 7, none⟩ = some (.int .i64 v.r.a) := hc 0 (by omega)
  have hb' := t.block b (World.block_lt_of_cell? w _ h0) (fun f => f)
  exact ⟨⟨b, off, ha, fun j hj => (World.cell?_of_block hb').trans (hc j hj)⟩, h1.new t, h2⟩
theorem TdCame.at {w : World} {A : Option Addr} {V : List Tv} (h : TdCame w A V) (i : Nat) (hi : i < V.length) :
    ∃ (b off : Nat) (a l o nx md lc : Int) (x : Option Addr) (n c : Nat) (xs : List Int), A = some ⟨b, off, none⟩ ∧ V[i]? = some ⟨⟨a, l, o, xs, nx, md, lc⟩, x, c⟩ ∧ xs.length = n ∧ NsAt w x xs ∧ (x = none → n = 0 ∧ c = 0) ∧ n ≤ maxLen ∧ w.cell? ⟨b, off + i * 7, none⟩ = some (.int .i64 a) ∧ w.cell? ⟨b, off + i * 7 + 1, none⟩ = some (.int .i64 l) ∧ w.cell? ⟨b, off + i * 7 + 2, none⟩ = some (.int .i64 o) ∧ w.cell? ⟨b, off + i * 7 + 3, none⟩ = some (.slice x n c) ∧ w.cell? ⟨b, off + i * 7 + 4, none⟩ = some (.int .i64 nx) ∧ w.cell? ⟨b, off + i * 7 + 5, none⟩ = some (.int .i64 md) ∧ w.cell? ⟨b, off + i * 7 + 6, none⟩ = some (.int .i64 lc) := by
  obtain ⟨⟨b, off, h1, h2⟩, hh⟩ := h i _ (List.getElem?_eq_getElem hi)
  exact ⟨b, off, _, _, _, _, _, _, _, _, _, _, h1, List.getElem?_eq_getElem hi, rfl, hh.1, hh.2.1, hh.2.2, h2 0 (by omega), h2 1 (by omega), h2 2 (by omega), h2 3 (by omega), h2 4 (by omega), h2 5 (by omega), h2 6 (by omega)⟩
theorem TdCame.rt {w : World} {A : Option Addr} {V : List Tv} (h : TdCame w A V) (hb : ∀ v ∈ V, v.r.xs.length ≤ 1048576) : TdAt w A V := by
  intro i v hv
  obtain ⟨h1, h2, h3, -⟩ := h i v hv
  exact ⟨h1, h2, h3, hb v (List.mem_of_getElem? hv)⟩


/-- A link. -/
structure Lk where
  st : Int
  pe : Int
  ho : Int
  si : Int
  sp : Int
  bs : List Int
  td : List Td

/-- A link in memory: its bytes and what it was told lie at addresses, with room. -/
structure Lv where
  st : Int
  pe : Int
  ho : Int
  si : Int
  sp : Int
  bs : List Int
  b : Option Addr
  bc : Nat
  V : List Tv
  t : Option Addr
  tc : Nat

def Lv.r (v : Lv) : Lk := ⟨v.st, v.pe, v.ho, v.si, v.sp, v.bs, v.V.map Tv.r⟩
/-- The cells of a link. -/
def Lv.cs (v : Lv) : List Value := [.int .i64 v.st, .int .i64 v.pe, .int .i64 v.ho, .int .i64 v.si, .int .i64 v.sp, .slice v.b v.bs.length v.bc, .slice v.t v.V.length v.tc]

/-- The lists of a link are there. -/
def Lv.here (w : World) (v : Lv) : Prop := BsAt w v.b v.bs ∧ v.bs.length ≤ 1048576 ∧ TdAt w v.t v.V ∧ v.V.length ≤ 1048576
/-- The lists of a link came in. -/
def Lv.came (w : World) (v : Lv) : Prop := BsAt w v.b v.bs ∧ v.bs.length ≤ maxLen ∧ TdCame w v.t v.V ∧ v.V.length ≤ maxLen
/-- The lists of a link are small. -/
def Lv.small (v : Lv) : Prop := v.bs.length ≤ 1048576 ∧ v.V.length ≤ 1048576 ∧ ∀ u ∈ v.V, u.r.xs.length ≤ 1048576

theorem Lv.here.new {w w' : World} {v : Lv} (h : v.here w) (t : New w w') : v.here w' := ⟨h.1.new t, h.2.1, h.2.2.1.new t, h.2.2.2⟩
theorem Lv.came.new {w w' : World} {v : Lv} (h : v.came w) (t : New w w') : v.came w' := ⟨h.1.new t, h.2.1, h.2.2.1.new t, h.2.2.2⟩
theorem Lv.came.ok {w : World} {v : Lv} (h : v.came w) (s : v.small) : v.here w := ⟨h.1, s.1, h.2.2.1.rt s.2.2, s.2.1⟩

/-- The address leads to the links. -/
def LkAt (w : World) (A : Option Addr) (V : List Lv) : Prop :=
  ∀ i v, V[i]? = some v → (∃ b off, A = some ⟨b, off, none⟩ ∧ ∀ j, j < 7 → w.cell? ⟨b, off + i * 7 + j, none⟩ = v.cs[j]?) ∧ v.here w
theorem LkAt.nil (w : World) (a : Option Addr) : LkAt w a [] := by intro i z h; simp at h

theorem LkAt.new {w w' : World} {a : Option Addr} {V : List Lv} (h : LkAt w a V) (t : New w w') : LkAt w' a V := by
  intro i v hv
  obtain ⟨⟨b, off, ha, hc⟩, hh⟩ := h i v hv
  have h0 : w.cell? ⟨b, off + i * 7, none⟩ = some (.int .i64 v.st) := hc 0 (by omega)
  have hb' := t.block b (World.block_lt_of_cell? w _ h0) (fun f => f)
  exact ⟨⟨b, off, ha, fun j hj => (World.cell?_of_block hb').trans (hc j hj)⟩, hh.new t⟩
theorem LkAt.at {w : World} {A : Option Addr} {V : List Lv} (h : LkAt w A V) (i : Nat) (hi : i < V.length) :
    ∃ (g off : Nat) (st pe ho si sp : Int) (bs : List Int) (b : Option Addr) (c : Nat) (U : List Tv) (t : Option Addr) (d n m : Nat), A = some ⟨g, off, none⟩ ∧ V[i]? = some ⟨st, pe, ho, si, sp, bs, b, c, U, t, d⟩ ∧ bs.length = n ∧ U.length = m ∧ BsAt w b bs ∧ TdAt w t U ∧ n ≤ 1048576 ∧ m ≤ 1048576 ∧
      w.cell? ⟨g, off + i * 7, none⟩ = some (.int .i64 st) ∧ w.cell? ⟨g, off + i * 7 + 1, none⟩ = some (.int .i64 pe) ∧ w.cell? ⟨g, off + i * 7 + 2, none⟩ = some (.int .i64 ho) ∧ w.cell? ⟨g, off + i * 7 + 3, none⟩ = some (.int .i64 si) ∧ w.cell? ⟨g, off + i * 7 + 4, none⟩ = some (.int .i64 sp) ∧ w.cell? ⟨g, off + i * 7 + 5, none⟩ = some (.slice b n c) ∧ w.cell? ⟨g, off + i * 7 + 6, none⟩ = some (.slice t m d) := by
  obtain ⟨⟨b, off, h1, h2⟩, hh⟩ := h i _ (List.getElem?_eq_getElem hi)
  exact ⟨b, off, _, _, _, _, _, _, _, _, _, _, _, _, _, h1, List.getElem?_eq_getElem hi, rfl, rfl, hh.1, hh.2.2.1, hh.2.1, hh.2.2.2, h2 0 (by omega), h2 1 (by omega), h2 2 (by omega), h2 3 (by omega), h2 4 (by omega), h2 5 (by omega), h2 6 (by omega)⟩
/-- The link of zeros. -/
def lv0 : Lv := ⟨0, 0, 0, 0, 0, [], none, 0, [], none, 0⟩
end Go.Proofs.YtdbnmkffinhdjaaGreat

namespace Go.Proofs.YtdbnmkffinhdjaaGreat
open Go.ChangeShapes Go.WideShapes Go.ChangeAt Go.RowKit Go.Deep
set_option linter.unusedVariables false
set_option maxHeartbeats 25600000

end Go.Proofs.YtdbnmkffinhdjaaGreat

namespace Go.Proofs.YtdbnmkffinhdjaaGreat
open Go.RowKit Go.Sort
set_option linter.unusedVariables false
set_option maxHeartbeats 25600000


/-- So many lists that are nil lie at an address. -/
def OuAt (W : World) (y : Option Addr) (n : Nat) : Prop := ∀ j, j < n → ∃ b off, y = some ⟨b, off, none⟩ ∧ W.cell? ⟨b, off + j, none⟩ = some (.slice none 0 0)
theorem OuAt.new {W W' : World} {y : Option Addr} {n : Nat} (h : OuAt W y n) (t : New W W') : OuAt W' y n := by
  intro j hj
  obtain ⟨b, off, e, hc⟩ := h j hj
  exact ⟨b, off, e, (World.cell?_of_block (t.block b (World.block_lt_of_cell? W _ hc) (fun f => f))).trans hc⟩
theorem OuAt.of {W : World} {lo : Nat} {y : Option Addr} {d : Nat} (h : W.ownsRow lo 33 1 (.slice y 3 d) 3 (List.replicate 3 (.slice none 0 0))) : OuAt W y 3 := by
  intro j hj
  rcases h.2 with ⟨h1, h2⟩ | ⟨g, c, cur, h1, h2, h3, r⟩
  · simp at h2
  · simp only [Value.slice.injEq] at h1
    obtain ⟨rfl, -, rfl⟩ := h1
    refine ⟨g, 0, rfl, ?_⟩
    rw [Nat.zero_add, World.ownsRow.cellAt h j (by omega), List.getElem?_replicate, if_pos hj]
theorem OvR.rd {w : World} {lo n d : Nat} {x : Option Addr} {rs : List Ru} (h : OvR w lo (.slice x n d) rs) : RsAt w x rs := by
  obtain ⟨a, c, e, h1, -⟩ := h.rs
  simp only [Value.slice.injEq] at e
  obtain ⟨rfl, -, -⟩ := e
  exact h1


/-- A route. -/
structure Rt where
  p : Int
  a : Int
  l : Int
  o : Int
  xs : List Int
  nx : Int
  md : Int
  lc : Int

/-- A route in memory: its path lies at an address, with room. -/
structure Rv where
  r : Rt
  x : Option Addr
  c : Nat

/-- The cells of a route. -/
def Rv.cs (v : Rv) : List Value := [.int .i64 v.r.p, .int .i64 v.r.a, .int .i64 v.r.l, .int .i64 v.r.o, .slice v.x v.r.xs.length v.c, .int .i64 v.r.nx, .int .i64 v.r.md, .int .i64 v.r.lc]

/-- The path of a route is there. -/
def Rv.here (w : World) (v : Rv) : Prop := NsAt w v.x v.r.xs ∧ (v.x = none → v.r.xs.length = 0 ∧ v.c = 0) ∧ v.r.xs.length ≤ 1048576

theorem Rv.here.turn {w w' : World} {v : Rv} {S : Nat → Prop} (h : v.here w) (t : Turn S w w') (hS : ∀ x, v.r.xs ≠ [] → v.x = some x → ¬ S x.block) : v.here w' := ⟨h.1.turn t hS, h.2⟩
theorem Rv.here.new {w w' : World} {v : Rv} (h : v.here w) (t : New w w') : v.here w' := ⟨h.1.new t, h.2⟩

/-- The counting of paths: what is left of k behind the routes, from left to right; none where it does not go. -/
def szF : List Rv → Nat → Option Nat
  | [], k => some k
  | v :: V, k => if v.r.xs.length ≤ k then szF V (k - v.r.xs.length) else none


/-- The path of a route, as a value. -/
def Rv.pv (v : Rv) : Value := .slice v.x v.r.xs.length v.c

section
variable {P : Program} {t e : TypeId} {i : TypeInfo}
end

end Go.Proofs.YtdbnmkffinhdjaaGreat

namespace Go.Proofs.YtdbnmkffinhdjaaGreat
open Go.ChangeShapes Go.WideShapes Go.ChangeAt Go.RowKit Go.Deep
set_option maxHeartbeats 25600000

/-- A route that came in: its path is there. -/
def Rv.came (w : World) (v : Rv) : Prop := NsAt w v.x v.r.xs ∧ (v.x = none → v.r.xs.length = 0 ∧ v.c = 0) ∧ v.r.xs.length ≤ maxLen

end Go.Proofs.YtdbnmkffinhdjaaGreat

namespace Go.Proofs.YtdbnmkffinhdjaaGreat
open Go.RowKit Go.Sort
set_option linter.unusedVariables false
set_option maxHeartbeats 25600000



theorem OuAt.at {W : World} {y : Option Addr} {n : Nat} (h : OuAt W y n) (j : Nat) (hj : j < n) : ∃ b off, y = some ⟨b, off, none⟩ ∧ W.cell? ⟨b, off + j, none⟩ = some (.slice none 0 0) := h j hj


/-- A rule, marked from k on. -/
def mkR1 (k : Int) : Ru := ⟨k, k + 1, k + 1 + 1, k + 1 + 1 + 1, k + 1 + 1 + 1 + 1, (k + 1 + 1 + 1 + 1 + 1) % 3 == 0, k + 1 + 1 + 1 + 1 + 1 + 1, k + 1 + 1 + 1 + 1 + 1 + 1 + 1⟩
/-- So many rules, marked from k on. -/
def mkRs (k : Int) : Nat → List Ru
  | 0 => []
  | n + 1 => mkRs k n ++ [mkR1 (k + 8 * n)]
theorem mkRs_length (k : Int) : ∀ n, (mkRs k n).length = n
  | 0 => rfl
  | n + 1 => by simp [mkRs, mkRs_length k n]
theorem mkRs_get (k : Int) : ∀ (n j : Nat), j < n → (mkRs k n)[j]? = some (mkR1 (k + 8 * j))
  | 0, j, h => by omega
  | n + 1, j, h => by
    unfold mkRs
    by_cases e : j < n
    · rw [List.getElem?_append_left (by rw [mkRs_length]; exact e)]
      exact mkRs_get k n j e
    · obtain rfl : j = n := by omega
      rw [List.getElem?_append_right (by rw [mkRs_length]; omega), mkRs_length, Nat.sub_self]
      rfl
theorem mkRs_set (k : Int) (rs : List Ru) (j : Nat) (hj : j < rs.length) : (mkRs k j ++ rs.drop j).set j (mkR1 (k + 8 * j)) = mkRs k (j + 1) ++ rs.drop (j + 1) := by
  rw [List.set_append_right _ _ (by rw [mkRs_length]; omega), mkRs_length, Nat.sub_self, List.drop_eq_getElem_cons hj, List.set_cons_zero]
  simp [mkRs]

set_option maxRecDepth 100000 in
theorem markRu (g n c : Nat) (k : Int) (rs : List Ru) (w : World) (h : OwR w g n c rs) (hm : n ≤ 1048576) (hk0 : 0 ≤ k) (hk : k ≤ 16777216) :
    Calls Tryz.prog 89 #[.slice (some ⟨g, 0, none⟩) n c, .int .i64 k] w fun e w' => e = .returned (.int .i64 (k + 8 * (n : Int))) ∧ OwR w' g n c (mkRs k n) ∧ Turn (fun j => j = g) w w' := by
  have HN : Hid (rs.length = n) := h.len
  go_enter Tryz.func89, Tryz.ntmps89
  go_wp2
  go_loopw [1, 5] (fun t i wr => ∃ (j : Nat) (z : Int), j ≤ n ∧ z = k + 8 * (j : Int) ∧ t = .int .i64 z ∧ i = .int .i64 j ∧ Turn (fun j => j = g) w wr ∧ OwR wr g n c (mkRs k j ++ rs.drop j)) (fun _ i _ => n - (intOf i).toNat)
  case atStart => exact ⟨0, k, Nat.zero_le _, by omega, rfl, rfl, Turn.refl _ _, by simpa [mkRs] using h⟩
  case round =>
    obtain ⟨j, z, hj, hz, rfl, rfl, ht, ho⟩ := hrel
    by_cases hlt : j < n
    · have hz1 : 0 ≤ z := by omega
      have hz2 : z ≤ 25165824 := by omega
      have HZ : Hid (z = k + 8 * (j : Int)) := hz
      have hset := mkRs_set k rs j (by have := HN.out; omega)
      rw [← hz] at hset
      have HS : Hid (cellsR ((mkRs k j ++ rs.drop j).set j (mkR1 z)) = cellsR (mkRs k (j + 1) ++ rs.drop (j + 1))) := congrArg cellsR hset
      have HC : Hid _ := cellsR_set (mkRs k j ++ rs.drop j) j (mkR1 z)
      have hl0 : Hid ((cellsR (mkRs k j ++ rs.drop j)).length = n * 8) := by show _ = _; rw [cellsR_len, ho.len]
      have O0 : wr.ownsRow 0 159 8 (.slice (some ⟨g, 0, none⟩) n c) n (cellsR (mkRs k j ++ rs.drop j)) := ho
      have T0 : Turn (fun j => j = g) w wr := ht
      clear hz hset ho h ht
      generalize cellsR (mkRs k j ++ rs.drop j) = X0 at *
      generalize wr = W0 at *
      have c0 : ∃ v, W0.cell? ⟨g, j * 8, none⟩ = some v := by
        have hh := World.ownsRow.cellAt O0 (j * 8) (by omega)
        exact ⟨_, hh.trans (List.getElem?_eq_getElem (by skip; have := hl0.out; omega))⟩
      obtain ⟨q0, c0⟩ := c0
      have f0 := World.ownsRow.frozenAt O0 (j * 8)
      have O1 := (World.ownsRow.stored O0 (j * 8) (.int .i64 z)).1
      have T1 : Turn (fun j => j = g) w (W0.setCell ⟨g, j * 8, none⟩ (.int .i64 z)) := Turn.here9 T0 _
      have P1 : Hid _ := O1
      have S1 : Hid _ := T1
      clear O0 T0 O1 T1
      go_upto_region 6 with fail
      generalize (W0.setCell ⟨g, j * 8, none⟩ (.int .i64 z)) = W1 at *
      have O1 := P1.out
      have T1 := S1.out
      clear P1 S1 c0 f0
      have c1 : ∃ v, W1.cell? ⟨g, j * 8 + 1, none⟩ = some v := by
        have hh := World.ownsRow.cellAt O1 (j * 8 + 1) (by omega)
        exact ⟨_, hh.trans (List.getElem?_eq_getElem (by simp only [List.length_set]; have := hl0.out; omega))⟩
      obtain ⟨q1, c1⟩ := c1
      have f1 := World.ownsRow.frozenAt O1 (j * 8 + 1)
      have O2 := (World.ownsRow.stored O1 (j * 8 + 1) (.int .i64 (z + 1))).1
      have T2 : Turn (fun j => j = g) w (W1.setCell ⟨g, j * 8 + 1, none⟩ (.int .i64 (z + 1))) := Turn.here9 T1 _
      have P2 : Hid _ := O2
      have S2 : Hid _ := T2
      clear O1 T1 O2 T2
      go_upto_region 8 with fail
      generalize (W1.setCell ⟨g, j * 8 + 1, none⟩ (.int .i64 (z + 1))) = W2 at *
      have O2 := P2.out
      have T2 := S2.out
      clear P2 S2 c1 f1
      have c2 : ∃ v, W2.cell? ⟨g, j * 8 + 2, none⟩ = some v := by
        have hh := World.ownsRow.cellAt O2 (j * 8 + 2) (by omega)
        exact ⟨_, hh.trans (List.getElem?_eq_getElem (by simp only [List.length_set]; have := hl0.out; omega))⟩
      obtain ⟨q2, c2⟩ := c2
      have f2 := World.ownsRow.frozenAt O2 (j * 8 + 2)
      have O3 := (World.ownsRow.stored O2 (j * 8 + 2) (.int .i64 (z + 1 + 1))).1
      have T3 : Turn (fun j => j = g) w (W2.setCell ⟨g, j * 8 + 2, none⟩ (.int .i64 (z + 1 + 1))) := Turn.here9 T2 _
      have P3 : Hid _ := O3
      have S3 : Hid _ := T3
      clear O2 T2 O3 T3
      go_upto_region 10 with fail
      generalize (W2.setCell ⟨g, j * 8 + 2, none⟩ (.int .i64 (z + 1 + 1))) = W3 at *
      have O3 := P3.out
      have T3 := S3.out
      clear P3 S3 c2 f2
      have c3 : ∃ v, W3.cell? ⟨g, j * 8 + 3, none⟩ = some v := by
        have hh := World.ownsRow.cellAt O3 (j * 8 + 3) (by omega)
        exact ⟨_, hh.trans (List.getElem?_eq_getElem (by simp only [List.length_set]; have := hl0.out; omega))⟩
      obtain ⟨q3, c3⟩ := c3
      have f3 := World.ownsRow.frozenAt O3 (j * 8 + 3)
      have O4 := (World.ownsRow.stored O3 (j * 8 + 3) (.int .i64 (z + 1 + 1 + 1))).1
      have T4 : Turn (fun j => j = g) w (W3.setCell ⟨g, j * 8 + 3, none⟩ (.int .i64 (z + 1 + 1 + 1))) := Turn.here9 T3 _
      have P4 : Hid _ := O4
      have S4 : Hid _ := T4
      clear O3 T3 O4 T4
      go_upto_region 12 with fail
      generalize (W3.setCell ⟨g, j * 8 + 3, none⟩ (.int .i64 (z + 1 + 1 + 1))) = W4 at *
      have O4 := P4.out
      have T4 := S4.out
      clear P4 S4 c3 f3
      have c4 : ∃ v, W4.cell? ⟨g, j * 8 + 4, none⟩ = some v := by
        have hh := World.ownsRow.cellAt O4 (j * 8 + 4) (by omega)
        exact ⟨_, hh.trans (List.getElem?_eq_getElem (by simp only [List.length_set]; have := hl0.out; omega))⟩
      obtain ⟨q4, c4⟩ := c4
      have f4 := World.ownsRow.frozenAt O4 (j * 8 + 4)
      have O5 := (World.ownsRow.stored O4 (j * 8 + 4) (.int .i64 (z + 1 + 1 + 1 + 1))).1
      have T5 : Turn (fun j => j = g) w (W4.setCell ⟨g, j * 8 + 4, none⟩ (.int .i64 (z + 1 + 1 + 1 + 1))) := Turn.here9 T4 _
      have P5 : Hid _ := O5
      have S5 : Hid _ := T5
      clear O4 T4 O5 T5
      go_upto_region 14 with fail
      generalize (W4.setCell ⟨g, j * 8 + 4, none⟩ (.int .i64 (z + 1 + 1 + 1 + 1))) = W5 at *
      have O5 := P5.out
      have T5 := S5.out
      clear P5 S5 c4 f4
      have c5 : ∃ v, W5.cell? ⟨g, j * 8 + 5, none⟩ = some v := by
        have hh := World.ownsRow.cellAt O5 (j * 8 + 5) (by omega)
        exact ⟨_, hh.trans (List.getElem?_eq_getElem (by simp only [List.length_set]; have := hl0.out; omega))⟩
      obtain ⟨q5, c5⟩ := c5
      have f5 := World.ownsRow.frozenAt O5 (j * 8 + 5)
      have O6 := (World.ownsRow.stored O5 (j * 8 + 5) (.bool ((z + 1 + 1 + 1 + 1 + 1) % 3 == 0))).1
      have T6 : Turn (fun j => j = g) w (W5.setCell ⟨g, j * 8 + 5, none⟩ (.bool ((z + 1 + 1 + 1 + 1 + 1) % 3 == 0))) := Turn.here9 T5 _
      have P6 : Hid _ := O6
      have S6 : Hid _ := T6
      clear O5 T5 O6 T6
      go_upto_region 16 with fail
      generalize (W5.setCell ⟨g, j * 8 + 5, none⟩ (.bool ((z + 1 + 1 + 1 + 1 + 1) % 3 == 0))) = W6 at *
      have O6 := P6.out
      have T6 := S6.out
      clear P6 S6 c5 f5
      have c6 : ∃ v, W6.cell? ⟨g, j * 8 + 6, none⟩ = some v := by
        have hh := World.ownsRow.cellAt O6 (j * 8 + 6) (by omega)
        exact ⟨_, hh.trans (List.getElem?_eq_getElem (by simp only [List.length_set]; have := hl0.out; omega))⟩
      obtain ⟨q6, c6⟩ := c6
      have f6 := World.ownsRow.frozenAt O6 (j * 8 + 6)
      have O7 := (World.ownsRow.stored O6 (j * 8 + 6) (.int .i64 (z + 1 + 1 + 1 + 1 + 1 + 1))).1
      have T7 : Turn (fun j => j = g) w (W6.setCell ⟨g, j * 8 + 6, none⟩ (.int .i64 (z + 1 + 1 + 1 + 1 + 1 + 1))) := Turn.here9 T6 _
      have P7 : Hid _ := O7
      have S7 : Hid _ := T7
      clear O6 T6 O7 T7
      go_upto_region 18 with fail
      generalize (W6.setCell ⟨g, j * 8 + 6, none⟩ (.int .i64 (z + 1 + 1 + 1 + 1 + 1 + 1))) = W7 at *
      have O7 := P7.out
      have T7 := S7.out
      clear P7 S7 c6 f6
      have c7 : ∃ v, W7.cell? ⟨g, j * 8 + 7, none⟩ = some v := by
        have hh := World.ownsRow.cellAt O7 (j * 8 + 7) (by omega)
        exact ⟨_, hh.trans (List.getElem?_eq_getElem (by simp only [List.length_set]; have := hl0.out; omega))⟩
      obtain ⟨q7, c7⟩ := c7
      have f7 := World.ownsRow.frozenAt O7 (j * 8 + 7)
      have O8 := (World.ownsRow.stored O7 (j * 8 + 7) (.int .i64 (z + 1 + 1 + 1 + 1 + 1 + 1 + 1))).1
      have T8 : Turn (fun j => j = g) w (W7.setCell ⟨g, j * 8 + 7, none⟩ (.int .i64 (z + 1 + 1 + 1 + 1 + 1 + 1 + 1))) := Turn.here9 T7 _
      have P8 : Hid _ := O8
      have S8 : Hid _ := T8
      clear O7 T7 O8 T8
      go_wp2
      go_roundw
      case rel =>
        refine ⟨j + 1, z + 1 + 1 + 1 + 1 + 1 + 1 + 1 + 1, by omega, by have := HZ.out; omega, rfl, by go_num, S8.out, ?_⟩
        have e := HC.out
        rw [HS.out] at e
        unfold OwR
        rw [← e]
        exact P8.out
      case measure => simp [intOf]; omega
    · obtain rfl : j = n := by omega
      go_wp2
      go_ret
      refine ⟨by subst hz; rfl, ?_, ht⟩
      rwa [List.drop_of_length_le (by have := HN.out; omega), List.append_nil] at ho

end Go.Proofs.YtdbnmkffinhdjaaGreat
