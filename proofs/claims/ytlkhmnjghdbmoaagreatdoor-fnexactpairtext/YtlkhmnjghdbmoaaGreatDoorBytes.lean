/- What is proved here: small facts on bytes in memory and on lists of numbers, for the texts behind it. No condition. -/
import Derived.WalkKit
import Derived.Deep.QuietTactic
import Derived.BigQuiet
namespace Go.Proofs.YtlkhmnjghdbmoaaGreatDoor
open Go.RowKit

/-- The address leads to the bytes zs. -/
def BsAt (w : World) (a : Option Addr) (zs : List Int) : Prop :=
  ∀ i z, zs[i]? = some z → ∃ b off, a = some ⟨b, off, none⟩ ∧ w.cell? ⟨b, off + i, none⟩ = some (.int .u8 z) ∧ 0 ≤ z ∧ z ≤ 255

/-- From w to w' nothing old has turned but the blocks of S. -/
structure Turn (S : Nat → Prop) (w w' : World) : Prop where
  os : w'.os = w.os
  tape : w'.tape = w.tape
  output : w'.output = w.output
  size : w.heap.size ≤ w'.heap.size
  block : ∀ k, k < w.heap.size → ¬ S k → w'.heap[k]? = w.heap[k]?

/-- Nothing old has turned. -/
def New (w w' : World) : Prop := Turn (fun _ => False) w w'

theorem Turn.refl (S : Nat → Prop) (w : World) : Turn S w w := ⟨rfl, rfl, rfl, Nat.le_refl _, fun _ _ _ => rfl⟩
theorem New.refl (w : World) : New w w := Turn.refl _ w

theorem Turn.trans {S T : Nat → Prop} {a b c : World} (h : Turn S a b) (k : Turn T b c) (hT : ∀ i, i < a.heap.size → T i → S i) : Turn S a c :=
  ⟨k.os.trans h.os, k.tape.trans h.tape, k.output.trans h.output, Nat.le_trans h.size k.size,
    fun i hi hs => (k.block i (Nat.lt_of_lt_of_le hi h.size) (fun ht => hs (hT i hi ht))).trans (h.block i hi hs)⟩

theorem Turn.mono {S T : Nat → Prop} {a b : World} (h : Turn S a b) (hT : ∀ i, i < a.heap.size → S i → T i) : Turn T a b :=
  ⟨h.os, h.tape, h.output, h.size, fun i hi hs => h.block i hi (fun ht => hs (hT i hi ht))⟩

theorem New.trans {a b c : World} (h : New a b) (k : New b c) : New a c := Turn.trans h k (fun _ _ f => f)
theorem New.turn {S : Nat → Prop} {a b : World} (h : New a b) : Turn S a b := Turn.mono h (fun _ _ f => f.elim)
theorem New.before {S : Nat → Prop} {a b c : World} (h : New a b) (k : Turn S b c) (hT : ∀ i, i < a.heap.size → ¬ S i) : New a c := Turn.trans h k hT

theorem New.below {w w' : World} (h : New w w') : Below w.heap.size w w' := ⟨h.os, h.tape, h.output, h.size, fun k hk => h.block k hk (fun f => f)⟩
theorem New.of_below {w w' : World} {B : Nat} (h : Below B w w') (hB : w.heap.size ≤ B) : New w w' := ⟨h.os, h.tape, h.output, h.size, fun k hk _ => h.block k (Nat.lt_of_lt_of_le hk hB)⟩
theorem New.of_grown {w w' : World} (h : w.grownBy w' none) : New w w' := ⟨h.os, h.tape, h.output, h.size, fun k hk _ => h.block k hk (by simp)⟩
theorem Turn.of_grown {w w' : World} {g : Nat} (h : w.grownBy w' (some g)) : Turn (fun k => k = g) w w' := ⟨h.os, h.tape, h.output, h.size, fun k hk hs => h.block k hk (by intro e; exact hs (Option.some.inj e))⟩
theorem New.drew {a w : World} (h : New a w) : New a w.drew := ⟨h.os, h.tape, h.output, h.size, h.block⟩
theorem New.drewN {a w : World} (h : New a w) (n : Nat) : New a (w.drewN n) := ⟨h.os, h.tape, h.output, h.size, h.block⟩
theorem New.alloc {a w : World} (h : New a w) (o : Obj) : New a (w.alloc o) := h.trans (New.of_below ((Below.refl w.heap.size w).alloc (Nat.le_refl _) o) (Nat.le_refl _))

theorem New.setCell {a w : World} (h : New a w) {p : Addr} (hp : a.heap.size ≤ p.block) (u : Value) : New a (w.setCell p u) :=
  ⟨h.os, h.tape, h.output, by simpa [World.setCell] using h.size, fun k hk hs => (Below.heap_setCell w p u k (by omega)).trans (h.block k hk hs)⟩

theorem Turn.set {S : Nat → Prop} {a w : World} (h : Turn S a w) {p : Addr} (hp : S p.block) (u : Value) : Turn S a (w.setCell p u) :=
  ⟨h.os, h.tape, h.output, by simpa [World.setCell] using h.size, fun k hk hs => (Below.heap_setCell w p u k (fun e => hs (e ▸ hp))).trans (h.block k hk hs)⟩

theorem BsAt.nil (w : World) (a : Option Addr) : BsAt w a [] := by intro i z h; simp at h

theorem BsAt.lt {w : World} {a : Option Addr} {zs : List Int} (h : BsAt w a zs) : ∀ z ∈ zs, 0 ≤ z ∧ z ≤ 255 := by
  intro z hz
  obtain ⟨i, hi, rfl⟩ := List.mem_iff_getElem.1 hz
  obtain ⟨_, _, _, _, h1, h2⟩ := h i _ (List.getElem?_eq_getElem hi)
  exact ⟨h1, h2⟩

theorem BsAt.at {w : World} {a : Option Addr} {zs : List Int} (h : BsAt w a zs) (i : Nat) (hi : i < zs.length) :
    ∃ b off z, a = some ⟨b, off, none⟩ ∧ zs[i]? = some z ∧ w.cell? ⟨b, off + i, none⟩ = some (.int .u8 z) ∧ 0 ≤ z ∧ z ≤ 255 := by
  obtain ⟨b, off, h1, h2, h3⟩ := h i _ (List.getElem?_eq_getElem hi)
  exact ⟨b, off, _, h1, List.getElem?_eq_getElem hi, h2, h3⟩

theorem BsAt.turn {w w' : World} {a : Option Addr} {zs : List Int} {S : Nat → Prop} (h : BsAt w a zs) (t : Turn S w w') (hS : ∀ x, a = some x → ¬ S x.block) : BsAt w' a zs := by
  intro i z hz
  obtain ⟨b, off, ha, hc, hb⟩ := h i z hz
  exact ⟨b, off, ha, (World.cell?_of_block (t.block b (World.block_lt_of_cell? w _ hc) (hS _ ha))).trans hc, hb⟩

theorem BsAt.turnZ {w w' : World} {a : Option Addr} {zs : List Int} {S : Nat → Prop} (h : BsAt w a zs) (t : Turn S w w') (hS : ∀ x, zs ≠ [] → a = some x → ¬ S x.block) : BsAt w' a zs := by
  intro i z hz
  obtain ⟨b, off, ha, hc, hb⟩ := h i z hz
  exact ⟨b, off, ha, (World.cell?_of_block (t.block b (World.block_lt_of_cell? w _ hc) (hS _ (by rintro rfl; simp at hz) ha))).trans hc, hb⟩

theorem BsAt.new {w w' : World} {a : Option Addr} {zs : List Int} (h : BsAt w a zs) (t : New w w') : BsAt w' a zs := h.turn t (fun _ _ f => f)

theorem BsAt.take {w : World} {a : Option Addr} {zs : List Int} (h : BsAt w a zs) (n : Nat) : BsAt w a (zs.take n) := by
  intro i z hz
  rw [List.getElem?_take] at hz
  split at hz
  · exact h i z hz
  · cases hz

theorem BsAt.block_lt {w : World} {a : Option Addr} {zs : List Int} (h : BsAt w a zs) (hz : zs ≠ []) : ∃ b off, a = some ⟨b, off, none⟩ ∧ b < w.heap.size := by
  obtain ⟨b, off, z, ha, _, hc, _⟩ := h.at 0 (by cases zs <;> simp_all)
  exact ⟨b, off, ha, World.block_lt_of_cell? w _ hc⟩

/-- Bytes that the call owns are bytes. -/
theorem BsAt.of_own {w : World} {base g n cap : Nat} {e : TypeId} {zs : List Int} (h : w.ownsRow base e 1 (.slice (some ⟨g, 0, none⟩) n cap) n (zs.map (Value.int .u8))) (hb : ∀ z ∈ zs, 0 ≤ z ∧ z ≤ 255) :
    BsAt w (some ⟨g, 0, none⟩) zs := by
  intro i z hz
  have hl : zs.length = n := by simpa using h.1
  have hi : i < zs.length := (List.getElem?_eq_some_iff.1 hz).1
  have hc := h.cellAt i (by omega)
  refine ⟨g, 0, rfl, ?_, hb z (List.mem_of_getElem? hz)⟩
  rw [Nat.zero_add, hc]
  simp [hz]

theorem own_base {w : World} {base : Nat} {e : TypeId} {size : Nat} {v : Value} {n : Nat} {xs : List Value} (h : w.ownsRow base e size v n xs) : w.ownsRow 0 e size v n xs := by
  refine ⟨h.1, ?_⟩
  rcases h.2 with h' | ⟨g, cap, cur, hv, hb, r⟩
  · exact .inl h'
  · exact .inr ⟨g, cap, cur, hv, Nat.zero_le _, r⟩

theorem own_turn {w w' : World} {base g n cap : Nat} {e : TypeId} {xs : List Value} {S : Nat → Prop} (h : w.ownsRow base e 1 (.slice (some ⟨g, 0, none⟩) n cap) n xs) (t : Turn S w w') (hS : ¬ S g) :
    w'.ownsRow base e 1 (.slice (some ⟨g, 0, none⟩) n cap) n xs := by
  have hg : g < w.heap.size := (h.lt g rfl).2
  refine ⟨h.1, ?_⟩
  rcases h.2 with ⟨h', _⟩ | ⟨g', cap', cur, h', r⟩
  · simp at h'
  · simp only [Value.slice.injEq, Option.some.injEq, Addr.mk.injEq, and_true, true_and] at h'
    obtain ⟨rfl, rfl⟩ := h'
    exact .inr ⟨g, cap, cur, rfl, r.1, (t.block g hg hS).trans r.2.1, r.2.2⟩

theorem own_new {w w' : World} {base g n cap : Nat} {e : TypeId} {xs : List Value} (h : w.ownsRow base e 1 (.slice (some ⟨g, 0, none⟩) n cap) n xs) (t : New w w') :
    w'.ownsRow base e 1 (.slice (some ⟨g, 0, none⟩) n cap) n xs := own_turn h t (fun f => f)

/-- The block B holds just these cells, and may be written. -/
def Blk (w : World) (B : Nat) (t : TypeId) (cs : Array Value) : Prop := w.heap[B]? = some (.cells cs t (0, 0))
theorem Blk.lt {w : World} {B : Nat} {t : TypeId} {cs : Array Value} (h : Blk w B t cs) : B < w.heap.size := by
  rcases Nat.lt_or_ge B w.heap.size with hlt | hge
  · exact hlt
  · unfold Blk at h; rw [Array.getElem?_eq_none hge] at h; cases h
theorem Blk.cells {w : World} {B : Nat} {t : TypeId} {cs : Array Value} (h : Blk w B t cs) : ∀ j, w.cell? ⟨B, j, none⟩ = cs[j]? := fun j => cell_of_row w B j cs t (0, 0) h
theorem Blk.frees {w : World} {B : Nat} {t : TypeId} {cs : Array Value} (h : Blk w B t cs) : ∀ j, w.frozen? ⟨B, j, none⟩ = false := fun j => frozen_of_row w B j cs t h
theorem Blk.turn {w w' : World} {B : Nat} {t : TypeId} {cs : Array Value} {S : Nat → Prop} (h : Blk w B t cs) (k : Turn S w w') (hS : ¬ S B) : Blk w' B t cs := (k.block B h.lt hS).trans h
theorem Blk.new {w w' : World} {B : Nat} {t : TypeId} {cs : Array Value} (h : Blk w B t cs) (k : New w w') : Blk w' B t cs := h.turn k (fun f => f)
theorem Blk.alloc {w : World} {B : Nat} {t : TypeId} {cs : Array Value} (h : Blk w B t cs) (o : Obj) : Blk (w.alloc o) B t cs := h.new ((New.refl w).alloc o)
theorem Blk.mk (w : World) (B : Nat) (t : TypeId) (cs : Array Value) (hB : w.heap.size = B) : Blk (w.alloc (.cells cs t)) B t cs := by subst hB; exact heap_alloc_new w _
theorem Blk.grow {w w' : World} {B : Nat} {t : TypeId} {cs : Array Value} {row : Option Nat} (h : Blk w B t cs) (k : w.grownBy w' row) (hr : row ≠ some B) : Blk w' B t cs := (k.block B h.lt (fun e => hr e.symm)).trans h

theorem Blk.set {w : World} {B : Nat} {t : TypeId} {cs : Array Value} (h : Blk w B t cs) (j : Nat) (v : Value) : Blk (w.setCell ⟨B, j, none⟩ v) B t (cs.setIfInBounds j v) := heap_setCell_same w B j cs t v h
theorem Blk.ne_own {w : World} {B g n c base : Nat} {t e : TypeId} {cs : Array Value} {xs : List Value} (h : Blk w B t cs) (ho : w.ownsRow base e 1 (.slice (some ⟨g, 0, none⟩) n c) n xs) (hne : t ≠ e) : B ≠ g := by
  rintro rfl
  rcases ho.2 with ⟨h', _⟩ | ⟨g', cap', cur, h', r⟩
  · simp at h'
  · simp only [Value.slice.injEq, Option.some.injEq, Addr.mk.injEq, and_true, true_and] at h'
    obtain ⟨rfl, rfl⟩ := h'
    have := r.2.1
    unfold Blk at h
    rw [h] at this
    simp only [Option.some.injEq, Obj.cells.injEq] at this
    exact hne this.2.1

theorem take_snoc {zs : List Int} {k : Nat} {z : Int} (h : zs[k]? = some z) : zs.take (k + 1) = zs.take k ++ [z] := by
  obtain ⟨hk, rfl⟩ := List.getElem?_eq_some_iff.1 h
  exact List.take_succ_eq_append_getElem hk

theorem ret_slice {a : Option Addr} {n m cap : Nat} (h : n = m) : Ending.returned (.slice a n cap) = .returned (.slice a m cap) := by rw [h]
theorem ret_i64 {a b : Int} (h : a = b) : Ending.returned (.int .i64 a) = .returned (.int .i64 b) := by rw [h]

/-- The sum of bytes, as the document says it. -/
def sumOf (zs : List Int) : Int := zs.foldl (fun h z => (h * 257 + z + 1) % 65521) 7
theorem sumOf_snoc (l : List Int) (z : Int) : sumOf (l ++ [z]) = (sumOf l * 257 + z + 1) % 65521 := by simp [sumOf]
theorem foldl_bd (l : List Int) : ∀ h : Int, 0 ≤ h → h ≤ 65520 → 0 ≤ l.foldl (fun h z => (h * 257 + z + 1) % 65521) h ∧ l.foldl (fun h z => (h * 257 + z + 1) % 65521) h ≤ 65520 := by
  induction l with
  | nil => intro h h0 h1; exact ⟨h0, h1⟩
  | cons z l ih => intro h _ _; exact ih ((h * 257 + z + 1) % 65521) (by omega) (by omega)
theorem sumOf_bd (l : List Int) : 0 ≤ sumOf l ∧ sumOf l ≤ 65520 := foldl_bd l 7 (by omega) (by omega)

end Go.Proofs.YtlkhmnjghdbmoaaGreatDoor
