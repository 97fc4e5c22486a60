/- What is proved here: how an argument that is a list of bytes comes in and goes out, for the rows of the laws. -/
import Derived.Test.YtlkhmnjghdbmoaaGreatDoorUtil
import Derived.ProofKit
import Derived.OpenShut
import Derived.ShutString
import Derived.ChangeOld
import Derived.Lib.SmallJoins
namespace Go.Proofs.YtlkhmnjghdbmoaaGreatDoor
open Go.ChangeShapes Go.WideShapes Go.ChangeAt Go.RowKit

theorem own : ownKnob Tryz.prog.godebug = none := by kernel_rfl
theorem laidOut : laidOutB Tryz.prog = true := by kernel_rfl

theorem open_bytes {H : Type} {enc : TypeId × Value → H} {W : World} {base : Nat} {t1 : Nat → Bool} {t2 : Bool} {a : Option Addr} {n c : Nat} {d : DataW H} {p : List MemPlace}
    (h0 : DataW.Trod enc Tryz.prog W base t1 t2 66 (.slice a n c) d p) : ∃ zs, BsAt W a zs ∧ zs.length = n ∧ n ≤ c ∧ n ≤ maxLen := by
  obtain ⟨fuel, hf⟩ := h0
  rcases open_ints Tryz.underlying66 Tryz.underlying5 (by kernel_rfl) hf with ⟨hcs, _⟩ | ⟨x, l, c, zs, hcs, _, hl, hm, hz, _, hcell, hwz⟩
  · simp [Value.cells] at hcs
    obtain ⟨rfl, rfl, rfl⟩ := hcs
    exact ⟨[], BsAt.nil _ _, rfl, Nat.le_refl _, Nat.zero_le _⟩
  · simp [Value.cells] at hcs
    obtain ⟨rfl, rfl, rfl⟩ := hcs
    have hz' : n ≤ zs.length := by rw [hz]; split <;> omega
    exact ⟨zs.take n, BsAt.of_cells n hcell hwz, by rw [List.length_take]; omega, hl, Nat.le_trans hl hm⟩

theorem open_nil {H : Type} {enc : TypeId × Value → H} {W : World} {base : Nat} {t1 : Nat → Bool} {t2 : Bool} {a : Option Addr} {n c : Nat} {d : DataW H} {p : List MemPlace}
    (h0 : DataW.Trod enc Tryz.prog W base t1 t2 66 (.slice a n c) d p) : a = none → n = 0 ∧ c = 0 := by
  intro ha
  obtain ⟨fuel, hf⟩ := h0
  rcases open_ints Tryz.underlying66 Tryz.underlying5 (by kernel_rfl) hf with ⟨hcs, _⟩ | ⟨x, l, c, zs, hcs, _⟩
  · simp [Value.cells] at hcs
    exact ⟨hcs.2.1, hcs.2.2⟩
  · simp [Value.cells, ha] at hcs

end Go.Proofs.YtlkhmnjghdbmoaaGreatDoor
