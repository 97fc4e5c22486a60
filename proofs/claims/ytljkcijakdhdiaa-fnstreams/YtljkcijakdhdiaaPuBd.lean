/- What is proved here: bounds of what the reading of bytes as an update tells. -/
import Derived.Test.YtljkcijakdhdiaaPuLaw2
namespace Go.Proofs.Ytljkcijakdhdiaa
open Go.RowKit Go.Sort
set_option linter.unusedVariables false

theorem rdP_le : ∀ zs : List Int, (rdP zs).length ≤ zs.length
  | a :: b :: c :: r => by have := rdP_le r; simp [rdP]; omega
  | [] => by simp [rdP]
  | [_] => by simp [rdP]
  | [_, _] => by simp [rdP]
theorem bdZ (c : Int) : Bd (puZ c) := ⟨by simp [puZ], by simp [puZ], by simp [puZ], by simp [puZ], by simp [puZ], by simp [puZ]⟩
theorem bdS {L : List (Int × Int)} (h : ∀ q ∈ L, In6 q.1 ∧ In6 q.2) (hl : L.length ≤ 1048576) : Bd (puS L) := ⟨h, by simp [puS], by simp [puS], hl, by simp [puS], by simp [puS]⟩
theorem bdU {L : List (Int × Int)} (h : ∀ q ∈ L, In6 q.1 ∧ In6 q.2) (hl : L.length ≤ 1048576) : Bd (puU L) := ⟨h, by simp [puU], by simp [puU], hl, by simp [puU], by simp [puU]⟩
theorem rdP_in {zs : List Int} (h : ∀ z ∈ zs, 0 ≤ z ∧ z ≤ 255) : ∀ p ∈ rdP zs, In6 p.1 ∧ In6 p.2 := by
  intro p hp
  have := rdP_bd zs h p hp
  unfold In6; omega
theorem rdU_bd (gs : List (Int × Int)) (ls : List Int) (hg : ∀ q ∈ gs, In6 q.1 ∧ In6 q.2) (hgl : gs.length ≤ 1048576) (hz : ∀ z ∈ ls, 0 ≤ z ∧ z ≤ 255) (hl : ls.length ≤ 1048576) : Bd (rdU gs ls) := by
  have ht : ∀ q ∈ gs.take 8, In6 q.1 ∧ In6 q.2 := fun q hq => hg q (List.mem_of_mem_take hq)
  have htl : (gs.take 8).length ≤ 1048576 := by rw [List.length_take]; omega
  unfold rdU
  split
  · split
    · exact bdU hg hgl
    · exact bdS ht htl
  · rename_i z h0
    have hb := hz z (List.mem_of_getElem? h0)
    split
    · exact bdS ht htl
    · have hr := rdP_in (zs := ls.drop (8 + 2 * z.toNat)) (fun x hx => hz x (List.mem_of_mem_drop hx))
      split
      · refine ⟨hg, ?_, hr, hgl, ?_, ?_⟩
        · intro x hx
          unfold puA nsR at hx
          obtain ⟨i, _, rfl⟩ := List.mem_map.1 hx
          have := numAt_bd2 ls hz (1 + 2 * i)
          unfold In6; omega
        · show (nsR ls z.toNat).length ≤ _
          rw [nsR_len]; omega
        · show (rdP (ls.drop (8 + 2 * z.toNat))).length ≤ _
          have := rdP_le (ls.drop (8 + 2 * z.toNat))
          rw [List.length_drop] at this
          omega
      · refine bdS ?_ ?_
        · intro q hq
          rcases List.mem_append.1 (List.mem_of_mem_take hq) with h | h
          · exact hg q h
          · exact hr q (List.mem_filter.1 h).1
        · rw [List.length_take]; omega
theorem pu_bd (zs : List Int) (hz : ∀ z ∈ zs, 0 ≤ z ∧ z ≤ 255) (hl : zs.length ≤ 1048576) : Bd (pu zs) := by
  unfold pu
  split
  · exact bdZ 5
  · rename_i z h0
    split
    · exact bdZ 5
    · split
      · exact bdZ 3
      · refine rdU_bd _ _ (rdP_in (fun x hx => hz x (List.mem_of_mem_drop (List.mem_of_mem_take hx)))) ?_ (fun x hx => hz x (List.mem_of_mem_drop hx)) (by rw [List.length_drop]; omega)
        have := rdP_le ((zs.drop 1).take (z.toNat * 3))
        rw [List.length_take, List.length_drop] at this
        show (rdP ((zs.drop 1).take (z.toNat * 3))).length ≤ _
        omega

end Go.Proofs.Ytljkcijakdhdiaa
