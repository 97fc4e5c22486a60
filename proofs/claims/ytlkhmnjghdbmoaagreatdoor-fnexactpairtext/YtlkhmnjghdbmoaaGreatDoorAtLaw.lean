/- What is proved here: what the copying, the comparing and the counting of attributes answer, for every list of at most 1048576 numbers. -/
import Derived.Test.YtlkhmnjghdbmoaaGreatDoorAtFn
namespace Go.Proofs.YtlkhmnjghdbmoaaGreatDoor
open Go.RowKit Go.Sort
set_option linter.unusedVariables false

/-- The block g is a row of numbers that a call has made. -/
def OwN (w : World) (g n c : Nat) (xs : List Int) : Prop := w.ownsRow 0 2 1 (.slice (some ⟨g, 0, none⟩) n c) n (xs.map (Value.int .i64))

theorem OwN.len {w : World} {g n c : Nat} {xs : List Int} (h : OwN w g n c xs) : xs.length = n := by simpa using h.1
theorem OwN.lt {w : World} {g n c : Nat} {xs : List Int} (h : OwN w g n c xs) : g < w.heap.size := (World.ownsRow.lt h g rfl).2
theorem OwN.turn {w w' : World} {g n c : Nat} {xs : List Int} {S : Nat → Prop} (h : OwN w g n c xs) (t : Turn S w w') (hS : ¬ S g) : OwN w' g n c xs := own_turn h t hS
theorem OwN.new {w w' : World} {g n c : Nat} {xs : List Int} (h : OwN w g n c xs) (t : New w w') : OwN w' g n c xs := own_new h t
theorem OwN.ns {w : World} {g n c : Nat} {xs : List Int} (h : OwN w g n c xs) (hb : ∀ z ∈ xs, In6 z) : NsAt w (some ⟨g, 0, none⟩) xs := by
  intro i z hz
  have hl := h.len
  have hi : i < xs.length := (List.getElem?_eq_some_iff.1 hz).1
  have hc := World.ownsRow.cellAt h i (by omega)
  refine ⟨g, 0, rfl, ?_, hb z (List.mem_of_getElem? hz)⟩
  rw [Nat.zero_add, hc]
  simp [hz]

theorem New.set_iff {a w : World} {p : Addr} {u : Value} (hp : a.heap.size ≤ p.block) : New a (w.setCell p u) ↔ New a w :=
  ⟨fun h => ⟨h.os, h.tape, h.output, by simpa [World.setCell] using h.size, fun k hk hs => (Below.heap_setCell w p u k (by omega)).symm.trans (h.block k hk hs)⟩, fun h => h.setCell hp u⟩
theorem New.drew_iff {a w : World} : New a w.drew ↔ New a w := ⟨fun h => ⟨h.os, h.tape, h.output, h.size, h.block⟩, fun h => h.drew⟩
theorem OwN.set_iff {w : World} {g n c : Nat} {xs : List Int} {p : Addr} {u : Value} (hp : ¬ p.block = g) : OwN (w.setCell p u) g n c xs ↔ OwN w g n c xs := by
  have hb : (w.setCell p u).heap[g]? = w.heap[g]? := Below.heap_setCell w p u g (fun e => hp e.symm)
  unfold OwN World.ownsRow
  constructor
  · rintro ⟨h1, h2⟩
    refine ⟨h1, ?_⟩
    rcases h2 with h' | ⟨g', cap', cur, h', r⟩
    · exact .inl h'
    · simp only [Value.slice.injEq, Option.some.injEq, Addr.mk.injEq, and_true, true_and] at h'
      obtain ⟨rfl, rfl⟩ := h'
      exact .inr ⟨g, c, cur, rfl, r.1, hb.symm.trans r.2.1, r.2.2⟩
  · rintro ⟨h1, h2⟩
    refine ⟨h1, ?_⟩
    rcases h2 with h' | ⟨g', cap', cur, h', r⟩
    · exact .inl h'
    · simp only [Value.slice.injEq, Option.some.injEq, Addr.mk.injEq, and_true, true_and] at h'
      obtain ⟨rfl, rfl⟩ := h'
      exact .inr ⟨g, c, cur, rfl, r.1, hb.trans r.2.1, r.2.2⟩

theorem Tryz.infoI64 : (Tryz.prog.info? 2).map (fun i => (i.zero, i.size, i.bytes)) = some (some (.int .i64 0), 1, 8) := by kernel_rfl

theorem obN (xs : List Int) (k n : Nat) (hn : xs.length = n) (z : Int) (hz : xs[k]? = some z) :
    (((xs.take k).map (Value.int .i64)) ++ List.replicate (n - k) (Value.int .i64 0)).set k (.int .i64 z) = ((xs.take (k + 1)).map (Value.int .i64)) ++ List.replicate (n - (k + 1)) (Value.int .i64 0) := by
  obtain ⟨hk, rfl⟩ := List.getElem?_eq_some_iff.1 hz
  have hl : ((xs.take k).map (Value.int .i64)).length = k := by simp; omega
  rw [List.set_append_right _ _ (by omega), hl, Nat.sub_self, show n - k = (n - (k + 1)) + 1 by omega, List.replicate_succ, List.set_cons_zero, List.take_succ_eq_append_getElem hk]
  simp only [List.map_append, List.map_cons, List.map_nil, List.append_assoc, List.singleton_append]

end Go.Proofs.YtlkhmnjghdbmoaaGreatDoor
