/- What is proved here: what the copying, the comparing and the judging of a list of prefixes answer, for every list of at most 1048576 prefixes. -/
import Derived.Test.YtlkhmnjghdbmoaaGreatDoorPxOpen
namespace Go.Proofs.YtlkhmnjghdbmoaaGreatDoor
open Go.RowKit Go.Sort

/-- A whole number that an int64 holds. -/
def In6 (x : Int) : Prop := -9223372036854775808 ≤ x ∧ x ≤ 9223372036854775807

/-- The address leads to the prefixes ps. -/
def PsAt (w : World) (a : Option Addr) (ps : List (Int × Int)) : Prop :=
  ∀ i p, ps[i]? = some p → ∃ b off, a = some ⟨b, off, none⟩ ∧ w.cell? ⟨b, off + i * 2, none⟩ = some (.int .i64 p.1) ∧ w.cell? ⟨b, off + i * 2 + 1, none⟩ = some (.int .i64 p.2) ∧ In6 p.1 ∧ In6 p.2

theorem PsAt.nil (w : World) (a : Option Addr) : PsAt w a [] := by intro i z h; simp at h

theorem PsAt.at {w : World} {a : Option Addr} {ps : List (Int × Int)} (h : PsAt w a ps) (i : Nat) (hi : i < ps.length) :
    ∃ b off x y, a = some ⟨b, off, none⟩ ∧ ps[i]? = some (x, y) ∧ w.cell? ⟨b, off + i * 2, none⟩ = some (.int .i64 x) ∧ w.cell? ⟨b, off + i * 2 + 1, none⟩ = some (.int .i64 y) := by
  obtain ⟨b, off, h1, h2, h3, _⟩ := h i _ (List.getElem?_eq_getElem hi)
  exact ⟨b, off, _, _, h1, List.getElem?_eq_getElem hi, h2, h3⟩

theorem PsAt.bd {w : World} {a : Option Addr} {ps : List (Int × Int)} (h : PsAt w a ps) : ∀ p ∈ ps, In6 p.1 ∧ In6 p.2 := by
  intro p hp
  obtain ⟨i, hi, rfl⟩ := List.mem_iff_getElem.1 hp
  obtain ⟨_, _, _, _, _, h4⟩ := h i _ (List.getElem?_eq_getElem hi)
  exact h4

theorem PsAt.turn {w w' : World} {a : Option Addr} {ps : List (Int × Int)} {S : Nat → Prop} (h : PsAt w a ps) (t : Turn S w w') (hS : ∀ x, ps ≠ [] → a = some x → ¬ S x.block) : PsAt w' a ps := by
  intro i p hp
  obtain ⟨b, off, ha, hc, hd, hb⟩ := h i p hp
  have hb' := t.block b (World.block_lt_of_cell? w _ hc) (hS _ (by rintro rfl; simp at hp) ha)
  exact ⟨b, off, ha, (World.cell?_of_block hb').trans hc, (World.cell?_of_block hb').trans hd, hb⟩

theorem PsAt.new {w w' : World} {a : Option Addr} {ps : List (Int × Int)} (h : PsAt w a ps) (t : New w w') : PsAt w' a ps := h.turn t (fun _ _ _ f => f)

def cellsP (ps : List (Int × Int)) : List Value := ps.flatMap fun p => [.int .i64 p.1, .int .i64 p.2]
theorem cellsP_cons (p : Int × Int) (ps : List (Int × Int)) : cellsP (p :: ps) = .int .i64 p.1 :: .int .i64 p.2 :: cellsP ps := rfl
theorem cellsP_append (ps qs : List (Int × Int)) : cellsP (ps ++ qs) = cellsP ps ++ cellsP qs := by simp [cellsP]
theorem cellsP_len : ∀ ps : List (Int × Int), (cellsP ps).length = ps.length * 2
  | [] => rfl
  | p :: ps => by rw [cellsP_cons, List.length_cons, List.length_cons, List.length_cons, cellsP_len ps]; omega
theorem cellsP_get : ∀ (ps : List (Int × Int)) (i : Nat) (p : Int × Int), ps[i]? = some p → (cellsP ps)[i * 2]? = some (.int .i64 p.1) ∧ (cellsP ps)[i * 2 + 1]? = some (.int .i64 p.2)
  | [], i, p, h => by simp at h
  | q :: ps, 0, p, h => by simp at h; subst h; simp [cellsP_cons]
  | q :: ps, i + 1, p, h => by
    simp at h
    have := cellsP_get ps i p h
    rw [cellsP_cons, show (i + 1) * 2 = i * 2 + 1 + 1 by omega, show i * 2 + 1 + 1 + 1 = (i * 2 + 1) + 1 + 1 by omega]
    simpa using this
theorem cellsP_set : ∀ (ps : List (Int × Int)) (i : Nat) (p : Int × Int), ((cellsP ps).set (i * 2) (.int .i64 p.1)).set (i * 2 + 1) (.int .i64 p.2) = cellsP (ps.set i p)
  | [], i, p => by simp [cellsP]
  | q :: ps, 0, p => by simp [cellsP_cons]
  | q :: ps, i + 1, p => by
    rw [cellsP_cons, show (i + 1) * 2 = i * 2 + 1 + 1 by omega, show i * 2 + 1 + 1 + 1 = (i * 2 + 1) + 1 + 1 by omega]
    simp only [List.set_cons_succ, cellsP_cons]
    rw [cellsP_set ps i p]

/-- The block g is a row of prefixes that a call has made. -/
def OwP (w : World) (g n c : Nat) (ps : List (Int × Int)) : Prop := w.ownsRow 0 141 2 (.slice (some ⟨g, 0, none⟩) n c) n (cellsP ps)

theorem OwP.len {w : World} {g n c : Nat} {ps : List (Int × Int)} (h : OwP w g n c ps) : ps.length = n := by
  have := h.1
  rw [cellsP_len] at this
  omega
theorem OwP.lt {w : World} {g n c : Nat} {ps : List (Int × Int)} (h : OwP w g n c ps) : g < w.heap.size := (World.ownsRow.lt h g rfl).2
theorem OwP.turn {w w' : World} {g n c : Nat} {ps : List (Int × Int)} {S : Nat → Prop} (h : OwP w g n c ps) (t : Turn S w w') (hS : ¬ S g) : OwP w' g n c ps := by
  have hg := h.lt
  refine ⟨h.1, ?_⟩
  rcases h.2 with ⟨h', _⟩ | ⟨g', cap', cur, h', r⟩
  · simp at h'
  · simp only [Value.slice.injEq, Option.some.injEq, Addr.mk.injEq, and_true, true_and] at h'
    obtain ⟨rfl, rfl⟩ := h'
    exact .inr ⟨g, c, cur, rfl, r.1, (t.block g hg hS).trans r.2.1, r.2.2⟩
theorem OwP.new {w w' : World} {g n c : Nat} {ps : List (Int × Int)} (h : OwP w g n c ps) (t : New w w') : OwP w' g n c ps := h.turn t (fun f => f)
theorem OwP.ps {w : World} {g n c : Nat} {ps : List (Int × Int)} (h : OwP w g n c ps) (hb : ∀ p ∈ ps, In6 p.1 ∧ In6 p.2) : PsAt w (some ⟨g, 0, none⟩) ps := by
  intro i p hp
  have hl := h.len
  have hi : i < ps.length := (List.getElem?_eq_some_iff.1 hp).1
  have hc := World.ownsRow.cellAt h (i * 2) (by omega)
  have hd := World.ownsRow.cellAt h (i * 2 + 1) (by omega)
  obtain ⟨e0, e1⟩ := cellsP_get ps i p hp
  exact ⟨g, 0, rfl, by rw [Nat.zero_add, hc, e0], by rw [Nat.zero_add, hd, e1], hb p (List.mem_of_getElem? hp)⟩
theorem OwP.put {w : World} {g n c : Nat} {ps : List (Int × Int)} (h : OwP w g n c ps) (i : Nat) (x y : Int) : OwP ((w.setCell ⟨g, i * 2, none⟩ (.int .i64 x)).setCell ⟨g, i * 2 + 1, none⟩ (.int .i64 y)) g n c (ps.set i (x, y)) := by
  have h1 := (World.ownsRow.stored h (i * 2) (.int .i64 x)).1
  have h2 := (World.ownsRow.stored h1 (i * 2 + 1) (.int .i64 y)).1
  unfold OwP
  rw [← cellsP_set ps i (x, y)]
  exact h2
theorem Blk.ne_P {w : World} {B g n c : Nat} {t : TypeId} {cs : Array Value} {ps : List (Int × Int)} (h : Blk w B t cs) (ho : OwP w g n c ps) (hne : t ≠ 141) : B ≠ g := by
  rintro rfl
  rcases ho.2 with ⟨h', _⟩ | ⟨g', cap', cur, h', r⟩
  · simp at h'
  · simp only [Value.slice.injEq, Option.some.injEq, Addr.mk.injEq, and_true, true_and] at h'
    obtain ⟨rfl, rfl⟩ := h'
    have := r.2.1
    unfold Blk at h
    rw [h] at this
    simp only [Option.some.injEq, Obj.cells.injEq] at this
    exact hne this.2.1

theorem Tryz.infoPx : (Tryz.prog.info? 141).map (fun i => (i.zero, i.size, i.bytes)) = some (some (.agg #[.int .i64 0, .int .i64 0]), 2, 16) := by kernel_rfl

theorem made_two (v : Value) (m : Nat) : (madeCells #[v, v] m).toList = List.replicate m v := by
  apply List.eq_replicate_iff.2
  refine ⟨by simp [madeCells], ?_⟩
  intro b hb
  simp only [madeCells, Array.toList_map, List.mem_map] at hb
  obtain ⟨i, _, rfl⟩ := hb
  have : i % 2 = 0 ∨ i % 2 = 1 := by omega
  rcases this with h | h <;> simp [h]
theorem cellsP_zero : ∀ n : Nat, cellsP (List.replicate n (0, 0)) = List.replicate (n * 2) (.int .i64 0)
  | 0 => rfl
  | n + 1 => by rw [List.replicate_succ, cellsP_cons, cellsP_zero n, show (n + 1) * 2 = n * 2 + 1 + 1 by omega, List.replicate_succ, List.replicate_succ]

theorem OwP.cell {w : World} {g n c : Nat} {ps : List (Int × Int)} (h : OwP w g n c ps) (j : Nat) (hj : j < n * 2) : ∃ v, w.cell? ⟨g, j, none⟩ = some v := by
  have hl := cellsP_len ps
  have := h.len
  exact ⟨_, (World.ownsRow.cellAt h j hj).trans (List.getElem?_eq_getElem (by omega))⟩

theorem set_fill (ps : List (Int × Int)) (k n : Nat) (hn : ps.length = n) (p : Int × Int) (hp : ps[k]? = some p) :
    (ps.take k ++ List.replicate (n - k) (0, 0)).set k p = ps.take (k + 1) ++ List.replicate (n - (k + 1)) (0, 0) := by
  obtain ⟨hk, rfl⟩ := List.getElem?_eq_some_iff.1 hp
  have hl : (ps.take k).length = k := by simp; omega
  rw [List.set_append_right _ _ (by omega), hl, Nat.sub_self, show n - k = (n - (k + 1)) + 1 by omega, List.replicate_succ, List.set_cons_zero, List.take_succ_eq_append_getElem hk, List.append_assoc]
  rfl

end Go.Proofs.YtlkhmnjghdbmoaaGreatDoor
