/- What is proved here: what the library's sorting answers at a row of prefixes that a call has made, with the program's comparing. No condition beyond the length. -/
import Derived.Test.YtefbeaoinikbgaaOrLib
namespace Go.Proofs.Ytefbeaoinikbgaa
open Go.RowKit Go.Sort Go.Shelf

theorem flat_size (L : List (Int × Int)) : (flatK encP 2 L.toArray).size = L.length * 2 := by simp

theorem flat_get (L : List (Int × Int)) (t : Nat) (ht : t < L.length * 2) : (cellsP L)[t]? = some ((flatK encP 2 L.toArray)[t]!) := by
  rw [get_flatK _ _ _ t (by simpa using ht)]
  have hi : t / 2 < L.length := by omega
  obtain ⟨g0, g1⟩ := cellsP_get L (t / 2) _ (List.getElem?_eq_getElem hi)
  have he : L.toArray[t / 2]! = L[t / 2] := by rw [getElem!_pos _ _ (by simpa using hi)]; simp
  rw [he]
  rcases Nat.mod_two_eq_zero_or_one t with h | h
  · have e : t = t / 2 * 2 := by omega
    rw [h]
    have e2 : (cellsP L)[t]? = (cellsP L)[t / 2 * 2]? := congrArg (fun i => (cellsP L)[i]?) e
    rw [e2, g0]
    rfl
  · have e : t = t / 2 * 2 + 1 := by omega
    rw [h]
    have e2 : (cellsP L)[t]? = (cellsP L)[t / 2 * 2 + 1]? := congrArg (fun i => (cellsP L)[i]?) e
    rw [e2, g1]
    rfl

theorem flat_list (L : List (Int × Int)) : (flatK encP 2 L.toArray).toList = cellsP L := by
  apply List.ext_getElem?
  intro t
  by_cases ht : t < L.length * 2
  · rw [flat_get L t ht, Array.getElem?_toList, Array.getElem?_eq_getElem (by simpa using ht), getElem!_pos _ _ (by simpa using ht)]
  · rw [List.getElem?_eq_none (by simp; omega), List.getElem?_eq_none (by rw [cellsP_len]; omega)]

theorem OwP.block {w : World} {g m c : Nat} {ps : List (Int × Int)} (h : OwP w g m c ps) : ∃ cur, w.heap[g]? = some (.cells cur 25 (0, 0)) ∧ m ≤ c ∧ c ≤ maxLen ∧ cur.size = c * 2 ∧ cur.toList.take (m * 2) = cellsP ps := by
  rcases h.2 with ⟨h', _⟩ | ⟨g', cap', cur, h', r⟩
  · simp at h'
  · simp only [Value.slice.injEq, Option.some.injEq, Addr.mk.injEq, and_true, true_and] at h'
    obtain ⟨rfl, rfl⟩ := h'
    exact ⟨cur, r.2.1, r.2.2.1, r.2.2.2.1, r.2.2.2.2.1, r.2.2.2.2.2⟩

theorem OwP.holdsK {w : World} {g m c : Nat} {ps : List (Int × Int)} (h : OwP w g m c ps) : HoldsK encP 2 w g 0 ps.toArray := by
  intro j hj
  have hl := h.len
  have hj' : j < ps.length * 2 := by simpa using hj
  have hc := World.ownsRow.cellAt h j (by omega)
  rw [flat_get ps j hj'] at hc
  rw [Nat.zero_add]
  exact ⟨hc, World.ownsRow.frozenAt h j⟩

theorem heap_put {w : World} {g n : Nat} {os : Array Obj} {cur : Array Value} {e : TypeId} {fr : Nat × Nat} (d : Array Value) (hb : w.heap[g]? = some (.cells cur e fr)) :
    (grow (putRow id (Sort.ahead w n) g 0 d) os).heap[g]? = some (.cells (putCells id 0 d cur) e fr) := by
  have hg : g < w.heap.size := (Array.getElem?_eq_some_iff.1 hb).1
  rw [heap_grow_old _ _ (by simpa using hg)]
  simp [putRow, mapBlock, Sort.ahead, Array.getElem?_modify, hb, onCells]

theorem turn_put {w : World} {g n : Nat} {os : Array Obj} (d : Array Value) : Turn (fun k => k = g) w (grow (putRow id (Sort.ahead w n) g 0 d) os) := by
  refine ⟨rfl, rfl, rfl, by simp, fun k hk hne => ?_⟩
  rw [heap_grow_old _ _ (by simpa using hk)]
  have : g ≠ k := fun e => hne e.symm
  simp [putRow, mapBlock, Sort.ahead, Array.getElem?_modify, this]

theorem take_put (cur : Array Value) (d : Array Value) (h : d.size ≤ cur.size) : (putCells id 0 d cur).toList.take d.size = d.toList := by
  apply List.ext_getElem?
  intro j
  by_cases hj : j < d.size
  · rw [List.getElem?_take_of_lt hj, Array.getElem?_toList]
    simp [putCells, hj, show j < cur.size by omega]
  · rw [List.getElem?_take_eq_none (by omega), List.getElem?_eq_none (by simp; omega)]

theorem OwP.sorted {w : World} {g m c n : Nat} {ps qs : List (Int × Int)} {os : Array Obj} (h : OwP w g m c ps) (hl : qs.length = ps.length) : OwP (sortWorldK encP 2 w g 0 n qs.toArray os) g m c qs := by
  obtain ⟨cur, hb, h1, h2, h3, h4⟩ := h.block
  have hlen := h.len
  refine ⟨by rw [cellsP_len, hl, hlen], .inr ⟨g, c, _, rfl, Nat.zero_le _, heap_put _ hb, h1, h2, by simp [putCells, h3], ?_⟩⟩
  have hs : (flatK encP 2 qs.toArray).size = m * 2 := by simp; omega
  rw [← flat_list qs, ← hs]
  exact take_put _ _ (by rw [hs, h3]; omega)

theorem Try.aggPx (w : World) : (isAgg 25).run Try.prog w = .ok true w := by kernel_rfl
theorem Try.sizePx (w : World) : (Go.sizeOf 25).run Try.prog w = .ok 2 w := by kernel_rfl

theorem sort_any {w : World} {g m c : Nat} {ps : List (Int × Int)} (h : OwP w g m c ps) (hm : m ≤ 1048576) :
    Calls Try.prog 31 #[.slice (some ⟨g, 0, none⟩) m c, .func (.func 32) #[] #[]] w fun e w' => e = .returned (.tuple #[]) ∧ OwP w' g m c (ps.mergeSort fun x y => !(ltOf cmpP) y x) ∧ Turn (fun k => k = g) w w' := by
  have eg : ∀ args w, (callFunc 32 args).run Try.prog w = .ok (.enter 32 args) w := enters_of Try.func32 (by kernel_rfl) rfl
  have hl := h.len
  have hcon := AnyQ.slices_SortFunc_total Try.sortL 2 Try.aggPx Try.sizePx encP (fun _ => rfl) (fun x v hv => by simp [encP] at hv; rcases hv with rfl | rfl <;> rfl) cmpP swoP 32 #[] g 0 c ps.toArray w eg (fun _ _ _ _ x y => cmpP_any x y _) h.holdsK h.lt (by simp; omega) totP
  change Calls Try.prog 31 #[.slice (some ⟨g, 0, none⟩) ps.toArray.size c, _] _ _ at hcon
  rw [show ps.toArray.size = m by simpa using hl] at hcon
  refine hcon.mono ?_
  rintro e w1 ⟨rfl, n, os, rfl⟩
  exact ⟨rfl, h.sorted (by simp), turn_put _⟩

end Go.Proofs.Ytefbeaoinikbgaa
