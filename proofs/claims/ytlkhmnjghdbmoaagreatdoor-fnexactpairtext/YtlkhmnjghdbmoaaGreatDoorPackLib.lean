/- What is proved here: what the marking of bytes leaves and the looking for marks answers, and what the packing of a frame answers. -/
import Derived.Test.YtlkhmnjghdbmoaaGreatDoorFrLib
import Derived.Test.YtlkhmnjghdbmoaaGreatDoorAp
namespace Go.Proofs.YtlkhmnjghdbmoaaGreatDoor
open Go.RowKit

/-- The marks from k on. -/
def marks (k : Int) (n : Nat) : List Int := (List.range n).map (fun i : Nat => (k + i) % 256)
theorem marks_length (k : Int) (n : Nat) : (marks k n).length = n := by simp [marks]
theorem marks_bd (k : Int) (n : Nat) : ∀ z ∈ marks k n, 0 ≤ z ∧ z ≤ 255 := by
  intro z hz
  obtain ⟨i, _, rfl⟩ := List.mem_map.1 hz
  omega
theorem marks_succ (k : Int) (n : Nat) : marks k (n + 1) = marks k n ++ [(k + n) % 256] := by simp [marks, List.range_succ]
theorem marks_get (k : Int) (n j : Nat) (hj : j < n) : (marks k n)[j]? = some ((k + j) % 256) := by simp [marks, hj]

/-- The call owns the bytes zs at this address. -/
def OwAt (w : World) (a : Option Addr) (n c : Nat) (zs : List Int) : Prop :=
  zs.length = n ∧ (0 < n → ∃ g, a = some ⟨g, 0, none⟩ ∧ w.ownsRow 0 5 1 (.slice (some ⟨g, 0, none⟩) n c) n (zs.map (Value.int .u8)))
/-- The blocks that the address leads to. -/
def inA (a : Option Addr) : Nat → Prop := fun k => ∃ x : Addr, a = some x ∧ k = x.block

theorem OwAt.bs {w : World} {a : Option Addr} {n c : Nat} {zs : List Int} (h : OwAt w a n c zs) (hz : ∀ z ∈ zs, 0 ≤ z ∧ z ≤ 255) : BsAt w a zs := by
  by_cases h0 : 0 < n
  · obtain ⟨g, rfl, ho⟩ := h.2 h0
    exact BsAt.of_own ho hz
  · obtain rfl : zs = [] := List.eq_nil_of_length_eq_zero (by have := h.1; omega)
    exact BsAt.nil _ _
theorem OwAt.of_own {w : World} {g n c base : Nat} {zs : List Int} (h : w.ownsRow base 5 1 (.slice (some ⟨g, 0, none⟩) n c) n (zs.map (Value.int .u8))) : OwAt w (some ⟨g, 0, none⟩) n c zs :=
  ⟨by simpa using h.1, fun _ => ⟨g, rfl, own_base h⟩⟩
theorem OwAt.turn {w w' : World} {a : Option Addr} {n c : Nat} {zs : List Int} {S : Nat → Prop} (h : OwAt w a n c zs) (t : Turn S w w') (hS : ∀ x, a = some x → ¬ S x.block) : OwAt w' a n c zs :=
  ⟨h.1, fun h0 => by obtain ⟨g, rfl, ho⟩ := h.2 h0; exact ⟨g, rfl, own_turn ho t (hS _ rfl)⟩⟩
theorem OwAt.new {w w' : World} {a : Option Addr} {n c : Nat} {zs : List Int} (h : OwAt w a n c zs) (t : New w w') : OwAt w' a n c zs := h.turn t (fun _ _ f => f)

theorem mark_ob (zs : List Int) (k : Int) (j n : Nat) (hn : zs.length = n) (hj : j < n) :
    ((marks k j ++ zs.drop j).map (Value.int .u8)).set j (.int .u8 ((k + j) % 256)) = (marks k (j + 1) ++ zs.drop (j + 1)).map (Value.int .u8) := by
  rw [← List.map_set, List.set_append_right _ _ (by rw [marks_length]; omega), marks_length, Nat.sub_self, marks_succ, List.drop_eq_getElem_cons (by omega), List.set_cons_zero]
  simp

/-- A frame's bytes. -/
def packOf (k : Int) (zs : List Int) : List Int := [255, 255] ++ [((zs.length : Int) + 5) / 256, ((zs.length : Int) + 5) % 256] ++ [k] ++ zs
theorem packOf_length (k : Int) (zs : List Int) : (packOf k zs).length = zs.length + 5 := by simp [packOf]
theorem packOf_bd (k : Int) (zs : List Int) (h : ∀ z ∈ zs, 0 ≤ z ∧ z ≤ 255) (hl : zs.length ≤ 120) (hk : 1 ≤ k ∧ k ≤ 4) : ∀ z ∈ packOf k zs, 0 ≤ z ∧ z ≤ 255 := by
  intro z hz
  simp only [packOf, List.mem_append, List.mem_cons, List.not_mem_nil, or_false] at hz
  rcases hz with (((rfl | rfl) | (rfl | rfl)) | rfl) | hz
  · omega
  · omega
  · omega
  · omega
  · omega
  · exact h z hz

theorem New.lit {w : World} (n : Nat) (zs : List Int) (B : Nat) (hB : w.heap.size = B) (hn : zs.length = n) (hm : n ≤ 4194304) (cs : Array Value) (hc : cs.toList = zs.map (Value.int .u8)) :
    (w.alloc (.cells cs 5)).ownsRow 0 5 1 (.slice (some ⟨B, 0, none⟩) n n) n (zs.map (Value.int .u8)) := by
  subst hB
  rw [← hc]
  exact World.ownsRow_lit w cs n (Nat.zero_le _) (by unfold maxLen; omega) (by have := congrArg List.length hc; simp at this; omega)

end Go.Proofs.YtlkhmnjghdbmoaaGreatDoor
