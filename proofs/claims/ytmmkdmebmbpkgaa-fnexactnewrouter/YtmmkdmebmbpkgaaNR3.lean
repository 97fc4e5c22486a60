/- What is proved here: what the marking of lists of rules leaves and what the looking for the marks answers, for lists of at most 1048576 rules. What is proved here: what the looking for the marks of rules answers, for lists of at most 1048576 rules, and what is marked and held of nothing. What is proved here: what the marking of three links of zeros leaves and what the looking for the marks answers. What is proved here: what the marking of settings leaves and what the looking for the marks answers, for rules of at most 1048576. What is proved here: what the marking of a new router leaves and what the looking for the marks answers, for rules of at most 1048576. What is proved here: what is marked and held of what NewRouter answers, with a code and without one, for settings of at most 1048576 rules each. What is proved here: what is marked, held and read of what NewRouter answers, with a code or without one, for settings of at most 1048576 rules each. What is proved here: how an argument that is a rule or a list of rules comes in. No condition. What is proved here: how an argument that is a router's settings comes in. No condition. -/
import Derived.Test.YtmmkdmebmbpkgaaNR2
import Derived.Test.YtmmkdmebmbpkgaaR6Law
import Derived.Test.YtmmkdmebmbpkgaaAtOpen
import Derived.Deep.SlicePairs
import Derived.Test.YtmmkdmebmbpkgaaG9Se
namespace Go.Proofs.Ytmmkdmebmbpkgaa
open Go.RowKit Go.Sort
set_option linter.unusedVariables false

/-- A rule, marked from k on. -/
def mkR1 (k : Int) : Ru := ⟨k, k + 1, k + 1 + 1, k + 1 + 1 + 1, k + 1 + 1 + 1 + 1, (k + 1 + 1 + 1 + 1 + 1) % 3 == 0, k + 1 + 1 + 1 + 1 + 1 + 1, k + 1 + 1 + 1 + 1 + 1 + 1 + 1⟩
/-- So many rules, marked from k on. -/
def mkRs (k : Int) : Nat → List Ru
  | 0 => []
  | n + 1 => mkRs k n ++ [mkR1 (k + 8 * n)]
theorem mkRs_length (k : Int) : ∀ n, (mkRs k n).length = n
  | 0 => rfl
  | n + 1 => by simp [mkRs, mkRs_length k n]
theorem mkRs_get (k : Int) : ∀ (n j : Nat), j < n → (mkRs k n)[j]? = some (mkR1 (k + 8 * j))
  | 0, j, h => by omega
  | n + 1, j, h => by
    unfold mkRs
    by_cases e : j < n
    · rw [List.getElem?_append_left (by rw [mkRs_length]; exact e)]
      exact mkRs_get k n j e
    · obtain rfl : j = n := by omega
      rw [List.getElem?_append_right (by rw [mkRs_length]; omega), mkRs_length, Nat.sub_self]
      rfl
theorem mkRs_set (k : Int) (rs : List Ru) (j : Nat) (hj : j < rs.length) : (mkRs k j ++ rs.drop j).set j (mkR1 (k + 8 * j)) = mkRs k (j + 1) ++ rs.drop (j + 1) := by
  rw [List.set_append_right _ _ (by rw [mkRs_length]; omega), mkRs_length, Nat.sub_self, List.drop_eq_getElem_cons hj, List.set_cons_zero]
  simp [mkRs]

theorem setR8 (w : World) (B j : Nat) (v0 v1 v2 v3 v4 v5 v6 v7 : Value) : Turn (fun k => k = B) w ((((((((w.setCell ⟨B, j, none⟩ v0).setCell ⟨B, j + 1, none⟩ v1).setCell ⟨B, j + 2, none⟩ v2).setCell ⟨B, j + 3, none⟩ v3).setCell ⟨B, j + 4, none⟩ v4).setCell ⟨B, j + 5, none⟩ v5).setCell ⟨B, j + 6, none⟩ v6).setCell ⟨B, j + 7, none⟩ v7) :=
  Turn.here9 (Turn.here9 (Turn.here9 (Turn.here9 (Turn.here9 (Turn.here9 (Turn.here9 (Turn.here9 (Turn.refl _ _) _) _) _) _) _) _) _) _

set_option maxRecDepth 100000 in
set_option maxHeartbeats 6400000 in
theorem markRu (g n c : Nat) (k : Int) (rs : List Ru) (w : World) (h : OwR w g n c rs) (hm : n ≤ 1048576) (hk0 : 0 ≤ k) (hk : k ≤ 16777216) :
    Calls Try.prog 25 #[.slice (some ⟨g, 0, none⟩) n c, .int .i64 k] w fun e w' => e = .returned (.int .i64 (k + 8 * (n : Int))) ∧ OwR w' g n c (mkRs k n) ∧ Turn (fun j => j = g) w w' := by
  have HN : Hid (rs.length = n) := h.len
  go_enter Try.func25, Try.ntmps25
  go_wp2
  go_loopw [1, 5] (fun t i wr => ∃ (j : Nat) (z : Int), j ≤ n ∧ z = k + 8 * (j : Int) ∧ t = .int .i64 z ∧ i = .int .i64 j ∧ Turn (fun j => j = g) w wr ∧ OwR wr g n c (mkRs k j ++ rs.drop j)) (fun _ i _ => n - (intOf i).toNat)
  case atStart => exact ⟨0, k, Nat.zero_le _, by omega, rfl, rfl, Turn.refl _ _, by simpa [mkRs] using h⟩
  case round =>
    obtain ⟨j, z, hj, hz, rfl, rfl, ht, ho⟩ := hrel
    by_cases hlt : j < n
    · have hz1 : 0 ≤ z := by omega
      have hz2 : z ≤ 25165824 := by omega
      have HZ : Hid (z = k + 8 * (j : Int)) := hz
      have hset := mkRs_set k rs j (by have := HN.out; omega)
      rw [← hz] at hset
      have HS : Hid (cellsR ((mkRs k j ++ rs.drop j).set j (mkR1 z)) = cellsR (mkRs k (j + 1) ++ rs.drop (j + 1))) := congrArg cellsR hset
      have HC : Hid _ := cellsR_set (mkRs k j ++ rs.drop j) j (mkR1 z)
      have hl0 : Hid ((cellsR (mkRs k j ++ rs.drop j)).length = n * 8) := by show _ = _; rw [cellsR_len, ho.len]
      have O0 : wr.ownsRow 0 80 8 (.slice (some ⟨g, 0, none⟩) n c) n (cellsR (mkRs k j ++ rs.drop j)) := ho
      have T0 : Turn (fun j => j = g) w wr := ht
      clear hz hset ho h ht
      generalize cellsR (mkRs k j ++ rs.drop j) = X0 at *
      generalize wr = W0 at *
      have c0 : ∃ v, W0.cell? ⟨g, j * 8, none⟩ = some v := by
        have hh := World.ownsRow.cellAt O0 (j * 8) (by omega)
        exact ⟨_, hh.trans (List.getElem?_eq_getElem (by skip; have := hl0.out; omega))⟩
      obtain ⟨q0, c0⟩ := c0
      have f0 := World.ownsRow.frozenAt O0 (j * 8)
      have O1 := (World.ownsRow.stored O0 (j * 8) (.int .i64 z)).1
      have T1 : Turn (fun j => j = g) w (W0.setCell ⟨g, j * 8, none⟩ (.int .i64 z)) := Turn.here9 T0 _
      have P1 : Hid _ := O1
      have S1 : Hid _ := T1
      clear O0 T0 O1 T1
      go_upto_region 6 with fail
      generalize (W0.setCell ⟨g, j * 8, none⟩ (.int .i64 z)) = W1 at *
      have O1 := P1.out
      have T1 := S1.out
      clear P1 S1 c0 f0
      have c1 : ∃ v, W1.cell? ⟨g, j * 8 + 1, none⟩ = some v := by
        have hh := World.ownsRow.cellAt O1 (j * 8 + 1) (by omega)
        exact ⟨_, hh.trans (List.getElem?_eq_getElem (by simp only [List.length_set]; have := hl0.out; omega))⟩
      obtain ⟨q1, c1⟩ := c1
      have f1 := World.ownsRow.frozenAt O1 (j * 8 + 1)
      have O2 := (World.ownsRow.stored O1 (j * 8 + 1) (.int .i64 (z + 1))).1
      have T2 : Turn (fun j => j = g) w (W1.setCell ⟨g, j * 8 + 1, none⟩ (.int .i64 (z + 1))) := Turn.here9 T1 _
      have P2 : Hid _ := O2
      have S2 : Hid _ := T2
      clear O1 T1 O2 T2
      go_upto_region 8 with fail
      generalize (W1.setCell ⟨g, j * 8 + 1, none⟩ (.int .i64 (z + 1))) = W2 at *
      have O2 := P2.out
      have T2 := S2.out
      clear P2 S2 c1 f1
      have c2 : ∃ v, W2.cell? ⟨g, j * 8 + 2, none⟩ = some v := by
        have hh := World.ownsRow.cellAt O2 (j * 8 + 2) (by omega)
        exact ⟨_, hh.trans (List.getElem?_eq_getElem (by simp only [List.length_set]; have := hl0.out; omega))⟩
      obtain ⟨q2, c2⟩ := c2
      have f2 := World.ownsRow.frozenAt O2 (j * 8 + 2)
      have O3 := (World.ownsRow.stored O2 (j * 8 + 2) (.int .i64 (z + 1 + 1))).1
      have T3 : Turn (fun j => j = g) w (W2.setCell ⟨g, j * 8 + 2, none⟩ (.int .i64 (z + 1 + 1))) := Turn.here9 T2 _
      have P3 : Hid _ := O3
      have S3 : Hid _ := T3
      clear O2 T2 O3 T3
      go_upto_region 10 with fail
      generalize (W2.setCell ⟨g, j * 8 + 2, none⟩ (.int .i64 (z + 1 + 1))) = W3 at *
      have O3 := P3.out
      have T3 := S3.out
      clear P3 S3 c2 f2
      have c3 : ∃ v, W3.cell? ⟨g, j * 8 + 3, none⟩ = some v := by
        have hh := World.ownsRow.cellAt O3 (j * 8 + 3) (by omega)
        exact ⟨_, hh.trans (List.getElem?_eq_getElem (by simp only [List.length_set]; have := hl0.out; omega))⟩
      obtain ⟨q3, c3⟩ := c3
      have f3 := World.ownsRow.frozenAt O3 (j * 8 + 3)
      have O4 := (World.ownsRow.stored O3 (j * 8 + 3) (.int .i64 (z + 1 + 1 + 1))).1
      have T4 : Turn (fun j => j = g) w (W3.setCell ⟨g, j * 8 + 3, none⟩ (.int .i64 (z + 1 + 1 + 1))) := Turn.here9 T3 _
      have P4 : Hid _ := O4
      have S4 : Hid _ := T4
      clear O3 T3 O4 T4
      go_upto_region 12 with fail
      generalize (W3.setCell ⟨g, j * 8 + 3, none⟩ (.int .i64 (z + 1 + 1 + 1))) = W4 at *
      have O4 := P4.out
      have T4 := S4.out
      clear P4 S4 c3 f3
      have c4 : ∃ v, W4.cell? ⟨g, j * 8 + 4, none⟩ = some v := by
        have hh := World.ownsRow.cellAt O4 (j * 8 + 4) (by omega)
        exact ⟨_, hh.trans (List.getElem?_eq_getElem (by simp only [List.length_set]; have := hl0.out; omega))⟩
      obtain ⟨q4, c4⟩ := c4
      have f4 := World.ownsRow.frozenAt O4 (j * 8 + 4)
      have O5 := (World.ownsRow.stored O4 (j * 8 + 4) (.int .i64 (z + 1 + 1 + 1 + 1))).1
      have T5 : Turn (fun j => j = g) w (W4.setCell ⟨g, j * 8 + 4, none⟩ (.int .i64 (z + 1 + 1 + 1 + 1))) := Turn.here9 T4 _
      have P5 : Hid _ := O5
      have S5 : Hid _ := T5
      clear O4 T4 O5 T5
      go_upto_region 14 with fail
      generalize (W4.setCell ⟨g, j * 8 + 4, none⟩ (.int .i64 (z + 1 + 1 + 1 + 1))) = W5 at *
      have O5 := P5.out
      have T5 := S5.out
      clear P5 S5 c4 f4
      have c5 : ∃ v, W5.cell? ⟨g, j * 8 + 5, none⟩ = some v := by
        have hh := World.ownsRow.cellAt O5 (j * 8 + 5) (by omega)
        exact ⟨_, hh.trans (List.getElem?_eq_getElem (by simp only [List.length_set]; have := hl0.out; omega))⟩
      obtain ⟨q5, c5⟩ := c5
      have f5 := World.ownsRow.frozenAt O5 (j * 8 + 5)
      have O6 := (World.ownsRow.stored O5 (j * 8 + 5) (.bool ((z + 1 + 1 + 1 + 1 + 1) % 3 == 0))).1
      have T6 : Turn (fun j => j = g) w (W5.setCell ⟨g, j * 8 + 5, none⟩ (.bool ((z + 1 + 1 + 1 + 1 + 1) % 3 == 0))) := Turn.here9 T5 _
      have P6 : Hid _ := O6
      have S6 : Hid _ := T6
      clear O5 T5 O6 T6
      go_upto_region 16 with fail
      generalize (W5.setCell ⟨g, j * 8 + 5, none⟩ (.bool ((z + 1 + 1 + 1 + 1 + 1) % 3 == 0))) = W6 at *
      have O6 := P6.out
      have T6 := S6.out
      clear P6 S6 c5 f5
      have c6 : ∃ v, W6.cell? ⟨g, j * 8 + 6, none⟩ = some v := by
        have hh := World.ownsRow.cellAt O6 (j * 8 + 6) (by omega)
        exact ⟨_, hh.trans (List.getElem?_eq_getElem (by simp only [List.length_set]; have := hl0.out; omega))⟩
      obtain ⟨q6, c6⟩ := c6
      have f6 := World.ownsRow.frozenAt O6 (j * 8 + 6)
      have O7 := (World.ownsRow.stored O6 (j * 8 + 6) (.int .i64 (z + 1 + 1 + 1 + 1 + 1 + 1))).1
      have T7 : Turn (fun j => j = g) w (W6.setCell ⟨g, j * 8 + 6, none⟩ (.int .i64 (z + 1 + 1 + 1 + 1 + 1 + 1))) := Turn.here9 T6 _
      have P7 : Hid _ := O7
      have S7 : Hid _ := T7
      clear O6 T6 O7 T7
      go_upto_region 18 with fail
      generalize (W6.setCell ⟨g, j * 8 + 6, none⟩ (.int .i64 (z + 1 + 1 + 1 + 1 + 1 + 1))) = W7 at *
      have O7 := P7.out
      have T7 := S7.out
      clear P7 S7 c6 f6
      have c7 : ∃ v, W7.cell? ⟨g, j * 8 + 7, none⟩ = some v := by
        have hh := World.ownsRow.cellAt O7 (j * 8 + 7) (by omega)
        exact ⟨_, hh.trans (List.getElem?_eq_getElem (by simp only [List.length_set]; have := hl0.out; omega))⟩
      obtain ⟨q7, c7⟩ := c7
      have f7 := World.ownsRow.frozenAt O7 (j * 8 + 7)
      have O8 := (World.ownsRow.stored O7 (j * 8 + 7) (.int .i64 (z + 1 + 1 + 1 + 1 + 1 + 1 + 1))).1
      have T8 : Turn (fun j => j = g) w (W7.setCell ⟨g, j * 8 + 7, none⟩ (.int .i64 (z + 1 + 1 + 1 + 1 + 1 + 1 + 1))) := Turn.here9 T7 _
      have P8 : Hid _ := O8
      have S8 : Hid _ := T8
      clear O7 T7 O8 T8
      go_wp2
      go_roundw
      case rel =>
        refine ⟨j + 1, z + 1 + 1 + 1 + 1 + 1 + 1 + 1 + 1, by omega, by have := HZ.out; omega, rfl, by go_num, S8.out, ?_⟩
        have e := HC.out
        rw [HS.out] at e
        unfold OwR
        rw [← e]
        exact P8.out
      case measure => simp [intOf]; omega
    · obtain rfl : j = n := by omega
      go_wp2
      go_ret
      refine ⟨by subst hz; rfl, ?_, ht⟩
      rwa [List.drop_of_length_le (by have := HN.out; omega), List.append_nil] at ho

end Go.Proofs.Ytmmkdmebmbpkgaa

namespace Go.Proofs.Ytmmkdmebmbpkgaa
open Go.RowKit Go.Sort
set_option linter.unusedVariables false

set_option maxRecDepth 100000 in
set_option maxHeartbeats 6400000 in
theorem heldRu (x : Option Addr) (n c : Nat) (k : Int) (w : World) (h : RsAt w x (mkRs k n)) (hm : n ≤ 1048576) (hk0 : 0 ≤ k) (hk : k ≤ 16777216) :
    Calls Try.prog 70 #[.slice x n c, .int .i64 k] w fun e w' => e = .returned (.int .i64 (k + 8 * (n : Int))) ∧ New w w' := by
  go_enter Try.func70, Try.ntmps70
  go_wp2
  go_loopw [1, 5] (fun t i wr => ∃ (j : Nat) (z : Int), j ≤ n ∧ z = k + 8 * (j : Int) ∧ t = .int .i64 z ∧ i = .int .i64 j ∧ New w wr) (fun _ i _ => n - (intOf i).toNat)
  case atStart => exact ⟨0, k, Nat.zero_le _, by omega, rfl, rfl, New.refl _⟩
  case round =>
    obtain ⟨j, z, hj, hz, rfl, rfl, hnw⟩ := hrel
    by_cases hlt : j < n
    · obtain ⟨b, off, f0, f1, f2, f3, f4, f5, f6, f7, rfl, hv, q0, q1, q2, q3, q4, q5, q6, q7⟩ := (h.new hnw).at j (by rw [mkRs_length]; exact hlt)
      rw [mkRs_get k n j hlt, ← hz] at hv
      have hv' := Option.some.inj hv
      simp only [mkR1, Ru.mk.injEq] at hv'
      obtain ⟨rfl, rfl, rfl, rfl, rfl, rfl, rfl, rfl⟩ := hv'
      have hz1 : 0 ≤ z := by omega
      have hz2 : z ≤ 25165824 := by omega
      have HZ : Hid (z = k + 8 * (j : Int)) := hz
      have d0 : (z != z) = false := by simp
      have d1 : (z + 1 != z + 1) = false := by simp
      have d2 : (z + 1 + 1 != z + 1 + 1) = false := by simp
      have d3 : (z + 1 + 1 + 1 != z + 1 + 1 + 1) = false := by simp
      have d4 : (z + 1 + 1 + 1 + 1 != z + 1 + 1 + 1 + 1) = false := by simp
      have d6 : (z + 1 + 1 + 1 + 1 + 1 + 1 != z + 1 + 1 + 1 + 1 + 1 + 1) = false := by simp
      have d7 : (z + 1 + 1 + 1 + 1 + 1 + 1 + 1 != z + 1 + 1 + 1 + 1 + 1 + 1 + 1) = false := by simp
      have d5 : (((z + 1 + 1 + 1 + 1 + 1) % 3 == 0) != ((z + 1 + 1 + 1 + 1 + 1) % 3 == 0)) = false := by simp
      clear hv hz h
      go_wp2
      go_roundw
      case rel => exact ⟨j + 1, z + 1 + 1 + 1 + 1 + 1 + 1 + 1 + 1, by omega, by have := HZ.out; omega, rfl, by go_num, hnw⟩
      case measure => simp [intOf]; omega
    · obtain rfl : j = n := by omega
      go_wp2
      go_ret
      exact ⟨by subst hz; rfl, hnw⟩

theorem markB0 (k : Int) (w : World) : Calls Try.prog 48 #[.slice none 0 0, .int .i64 k] w fun e w' => e = .returned (.int .i64 k) ∧ w' = w := by
  go_enter Try.func48, Try.ntmps48
  go_wp2
  refine wp_loop_rounds 1 ?_
  rw [rounds_succ]
  go_wp2
  go_ret
  exact ⟨rfl, rfl⟩

theorem heldB0 (k : Int) (w : World) : Calls Try.prog 52 #[.slice none 0 0, .int .i64 k] w fun e w' => e = .returned (.int .i64 k) ∧ w' = w := by
  go_enter Try.func52, Try.ntmps52
  go_wp2
  refine wp_loop_rounds 1 ?_
  rw [rounds_succ]
  go_wp2
  go_ret
  exact ⟨rfl, rfl⟩

theorem markT0 (k : Int) (w : World) : Calls Try.prog 68 #[.slice none 0 0, .int .i64 k] w fun e w' => e = .returned (.int .i64 k) ∧ w' = w := by
  go_enter Try.func68, Try.ntmps68
  go_wp2
  refine wp_loop_rounds 1 ?_
  rw [rounds_succ]
  go_wp2
  go_ret
  exact ⟨rfl, rfl⟩

theorem heldT0 (k : Int) (w : World) : Calls Try.prog 71 #[.slice none 0 0, .int .i64 k] w fun e w' => e = .returned (.int .i64 k) ∧ w' = w := by
  go_enter Try.func71, Try.ntmps71
  go_wp2
  refine wp_loop_rounds 1 ?_
  rw [rounds_succ]
  go_wp2
  go_ret
  exact ⟨rfl, rfl⟩

theorem markQ0 (k : Int) (w : World) : Calls Try.prog 47 #[.slice none 0 0, .int .i64 k] w fun e w' => e = .returned (.int .i64 k) ∧ w' = w := by
  go_enter Try.func47, Try.ntmps47
  go_wp2
  refine wp_loop_rounds 1 ?_
  rw [rounds_succ]
  go_wp2
  go_ret
  exact ⟨rfl, rfl⟩

theorem heldQ0 (k : Int) (w : World) : Calls Try.prog 51 #[.slice none 0 0, .int .i64 k] w fun e w' => e = .returned (.int .i64 k) ∧ w' = w := by
  go_enter Try.func51, Try.ntmps51
  go_wp2
  refine wp_loop_rounds 1 ?_
  rw [rounds_succ]
  go_wp2
  go_ret
  exact ⟨rfl, rfl⟩

end Go.Proofs.Ytmmkdmebmbpkgaa

namespace Go.Proofs.Ytmmkdmebmbpkgaa
open Go.RowKit Go.Sort
set_option linter.unusedVariables false

/-- The cells of three links, marked from k on. -/
def mkL3 (k : Int) : List Value := [Value.int .i64 k, .int .i64 (k + 1), .int .i64 (k + 1 + 1), .int .i64 (k + 1 + 1 + 1), .int .i64 (k + 1 + 1 + 1 + 1), .slice none 0 0, .slice none 0 0, .int .i64 (k + 1 + 1 + 1 + 1 + 1), .int .i64 (k + 1 + 1 + 1 + 1 + 1 + 1), .int .i64 (k + 1 + 1 + 1 + 1 + 1 + 1 + 1), .int .i64 (k + 1 + 1 + 1 + 1 + 1 + 1 + 1 + 1), .int .i64 (k + 1 + 1 + 1 + 1 + 1 + 1 + 1 + 1 + 1), .slice none 0 0, .slice none 0 0, .int .i64 (k + 1 + 1 + 1 + 1 + 1 + 1 + 1 + 1 + 1 + 1), .int .i64 (k + 1 + 1 + 1 + 1 + 1 + 1 + 1 + 1 + 1 + 1 + 1), .int .i64 (k + 1 + 1 + 1 + 1 + 1 + 1 + 1 + 1 + 1 + 1 + 1 + 1), .int .i64 (k + 1 + 1 + 1 + 1 + 1 + 1 + 1 + 1 + 1 + 1 + 1 + 1 + 1), .int .i64 (k + 1 + 1 + 1 + 1 + 1 + 1 + 1 + 1 + 1 + 1 + 1 + 1 + 1 + 1), .slice none 0 0, .slice none 0 0]
theorem lz9_3 : lz9 3 = [Value.int .i64 0, .int .i64 0, .int .i64 0, .int .i64 0, .int .i64 0, .slice none 0 0, .slice none 0 0, .int .i64 0, .int .i64 0, .int .i64 0, .int .i64 0, .int .i64 0, .slice none 0 0, .slice none 0 0, .int .i64 0, .int .i64 0, .int .i64 0, .int .i64 0, .int .i64 0, .slice none 0 0, .slice none 0 0] := rfl

set_option maxRecDepth 100000 in
set_option maxHeartbeats 12800000 in
theorem markLk3 (g c : Nat) (k : Int) (w : World) (h : w.ownsRow 0 76 7 (.slice (some ⟨g, 0, none⟩) 3 c) 3 (lz9 3)) (hk0 : 0 ≤ k) (hk : k ≤ 33554432) :
    Calls Try.prog 46 #[.slice (some ⟨g, 0, none⟩) 3 c, .int .i64 k] w fun e w' => e = .returned (.int .i64 (k + 1 + 1 + 1 + 1 + 1 + 1 + 1 + 1 + 1 + 1 + 1 + 1 + 1 + 1 + 1)) ∧ w'.ownsRow 0 76 7 (.slice (some ⟨g, 0, none⟩) 3 c) 3 (mkL3 k) ∧ Turn (fun j => j = g) w w' := by
  rw [lz9_3] at h
  go_enter Try.func46, Try.ntmps46
  have O0 := h
  have T0 : Turn (fun j => j = g) w w := Turn.refl _ _
  clear h
  go_wp2
  refine wp_loop_rounds 4 ?_
  rw [rounds_succ]
  have c0 : w.cell? ⟨g, 0, none⟩ = some (.int .i64 0) := World.ownsRow.cellAt O0 0 (by omega)
  have f0 := World.ownsRow.frozenAt O0 0
  have P1 : Hid ((w.setCell ⟨g, 0, none⟩ (.int .i64 k)).ownsRow 0 76 7 (.slice (some ⟨g, 0, none⟩) 3 c) 3 [Value.int .i64 k, .int .i64 0, .int .i64 0, .int .i64 0, .int .i64 0, .slice none 0 0, .slice none 0 0, .int .i64 0, .int .i64 0, .int .i64 0, .int .i64 0, .int .i64 0, .slice none 0 0, .slice none 0 0, .int .i64 0, .int .i64 0, .int .i64 0, .int .i64 0, .int .i64 0, .slice none 0 0, .slice none 0 0]) := (World.ownsRow.stored O0 0 (.int .i64 k)).1
  have S1 : Hid (Turn (fun j => j = g) w (w.setCell ⟨g, 0, none⟩ (.int .i64 k))) := Turn.here9 T0 _
  clear O0 T0
  go_upto_region 6 with fail
  generalize (w.setCell ⟨g, 0, none⟩ (.int .i64 k)) = W1 at *
  have O1 := P1.out
  have T1 := S1.out
  clear P1 S1 c0 f0
  have c1 : W1.cell? ⟨g, 1, none⟩ = some (.int .i64 0) := World.ownsRow.cellAt O1 1 (by omega)
  have f1 := World.ownsRow.frozenAt O1 1
  have P2 : Hid ((W1.setCell ⟨g, 1, none⟩ (.int .i64 (k + 1))).ownsRow 0 76 7 (.slice (some ⟨g, 0, none⟩) 3 c) 3 [Value.int .i64 k, .int .i64 (k + 1), .int .i64 0, .int .i64 0, .int .i64 0, .slice none 0 0, .slice none 0 0, .int .i64 0, .int .i64 0, .int .i64 0, .int .i64 0, .int .i64 0, .slice none 0 0, .slice none 0 0, .int .i64 0, .int .i64 0, .int .i64 0, .int .i64 0, .int .i64 0, .slice none 0 0, .slice none 0 0]) := (World.ownsRow.stored O1 1 (.int .i64 (k + 1))).1
  have S2 : Hid (Turn (fun j => j = g) w (W1.setCell ⟨g, 1, none⟩ (.int .i64 (k + 1)))) := Turn.here9 T1 _
  clear O1 T1
  go_upto_region 8 with fail
  generalize (W1.setCell ⟨g, 1, none⟩ (.int .i64 (k + 1))) = W2 at *
  have O2 := P2.out
  have T2 := S2.out
  clear P2 S2 c1 f1
  have c2 : W2.cell? ⟨g, 2, none⟩ = some (.int .i64 0) := World.ownsRow.cellAt O2 2 (by omega)
  have f2 := World.ownsRow.frozenAt O2 2
  have P3 : Hid ((W2.setCell ⟨g, 2, none⟩ (.int .i64 (k + 1 + 1))).ownsRow 0 76 7 (.slice (some ⟨g, 0, none⟩) 3 c) 3 [Value.int .i64 k, .int .i64 (k + 1), .int .i64 (k + 1 + 1), .int .i64 0, .int .i64 0, .slice none 0 0, .slice none 0 0, .int .i64 0, .int .i64 0, .int .i64 0, .int .i64 0, .int .i64 0, .slice none 0 0, .slice none 0 0, .int .i64 0, .int .i64 0, .int .i64 0, .int .i64 0, .int .i64 0, .slice none 0 0, .slice none 0 0]) := (World.ownsRow.stored O2 2 (.int .i64 (k + 1 + 1))).1
  have S3 : Hid (Turn (fun j => j = g) w (W2.setCell ⟨g, 2, none⟩ (.int .i64 (k + 1 + 1)))) := Turn.here9 T2 _
  clear O2 T2
  go_upto_region 10 with fail
  generalize (W2.setCell ⟨g, 2, none⟩ (.int .i64 (k + 1 + 1))) = W3 at *
  have O3 := P3.out
  have T3 := S3.out
  clear P3 S3 c2 f2
  have c3 : W3.cell? ⟨g, 3, none⟩ = some (.int .i64 0) := World.ownsRow.cellAt O3 3 (by omega)
  have f3 := World.ownsRow.frozenAt O3 3
  have P4 : Hid ((W3.setCell ⟨g, 3, none⟩ (.int .i64 (k + 1 + 1 + 1))).ownsRow 0 76 7 (.slice (some ⟨g, 0, none⟩) 3 c) 3 [Value.int .i64 k, .int .i64 (k + 1), .int .i64 (k + 1 + 1), .int .i64 (k + 1 + 1 + 1), .int .i64 0, .slice none 0 0, .slice none 0 0, .int .i64 0, .int .i64 0, .int .i64 0, .int .i64 0, .int .i64 0, .slice none 0 0, .slice none 0 0, .int .i64 0, .int .i64 0, .int .i64 0, .int .i64 0, .int .i64 0, .slice none 0 0, .slice none 0 0]) := (World.ownsRow.stored O3 3 (.int .i64 (k + 1 + 1 + 1))).1
  have S4 : Hid (Turn (fun j => j = g) w (W3.setCell ⟨g, 3, none⟩ (.int .i64 (k + 1 + 1 + 1)))) := Turn.here9 T3 _
  clear O3 T3
  go_upto_region 12 with fail
  generalize (W3.setCell ⟨g, 3, none⟩ (.int .i64 (k + 1 + 1 + 1))) = W4 at *
  have O4 := P4.out
  have T4 := S4.out
  clear P4 S4 c3 f3
  have c4 : W4.cell? ⟨g, 4, none⟩ = some (.int .i64 0) := World.ownsRow.cellAt O4 4 (by omega)
  have f4 := World.ownsRow.frozenAt O4 4
  have P5 : Hid ((W4.setCell ⟨g, 4, none⟩ (.int .i64 (k + 1 + 1 + 1 + 1))).ownsRow 0 76 7 (.slice (some ⟨g, 0, none⟩) 3 c) 3 [Value.int .i64 k, .int .i64 (k + 1), .int .i64 (k + 1 + 1), .int .i64 (k + 1 + 1 + 1), .int .i64 (k + 1 + 1 + 1 + 1), .slice none 0 0, .slice none 0 0, .int .i64 0, .int .i64 0, .int .i64 0, .int .i64 0, .int .i64 0, .slice none 0 0, .slice none 0 0, .int .i64 0, .int .i64 0, .int .i64 0, .int .i64 0, .int .i64 0, .slice none 0 0, .slice none 0 0]) := (World.ownsRow.stored O4 4 (.int .i64 (k + 1 + 1 + 1 + 1))).1
  have S5 : Hid (Turn (fun j => j = g) w (W4.setCell ⟨g, 4, none⟩ (.int .i64 (k + 1 + 1 + 1 + 1)))) := Turn.here9 T4 _
  clear O4 T4
  go_upto_region 14 with fail
  generalize (W4.setCell ⟨g, 4, none⟩ (.int .i64 (k + 1 + 1 + 1 + 1))) = W5 at *
  have O5 := P5.out
  have T5 := S5.out
  clear P5 S5 c4 f4
  have c5 : W5.cell? ⟨g, 5, none⟩ = some (.slice none 0 0) := World.ownsRow.cellAt O5 5 (by omega)
  have c6 : W5.cell? ⟨g, 6, none⟩ = some (.slice none 0 0) := World.ownsRow.cellAt O5 6 (by omega)
  go_wp2_with fail
  refine (markB0 _ _).mono ?_
  rintro e u0 ⟨rfl, hu⟩
  obtain rfl := hu.symm
  go_wp2_with fail
  refine (markT0 _ _).mono ?_
  rintro e t0 ⟨rfl, hu⟩
  obtain rfl := hu.symm
  clear c5 c6
  go_wp2_with fail
  rw [rounds_succ]
  have c5 : W5.cell? ⟨g, 7, none⟩ = some (.int .i64 0) := World.ownsRow.cellAt O5 7 (by omega)
  have f5 := World.ownsRow.frozenAt O5 7
  have P6 : Hid ((W5.setCell ⟨g, 7, none⟩ (.int .i64 (k + 1 + 1 + 1 + 1 + 1))).ownsRow 0 76 7 (.slice (some ⟨g, 0, none⟩) 3 c) 3 [Value.int .i64 k, .int .i64 (k + 1), .int .i64 (k + 1 + 1), .int .i64 (k + 1 + 1 + 1), .int .i64 (k + 1 + 1 + 1 + 1), .slice none 0 0, .slice none 0 0, .int .i64 (k + 1 + 1 + 1 + 1 + 1), .int .i64 0, .int .i64 0, .int .i64 0, .int .i64 0, .slice none 0 0, .slice none 0 0, .int .i64 0, .int .i64 0, .int .i64 0, .int .i64 0, .int .i64 0, .slice none 0 0, .slice none 0 0]) := (World.ownsRow.stored O5 7 (.int .i64 (k + 1 + 1 + 1 + 1 + 1))).1
  have S6 : Hid (Turn (fun j => j = g) w (W5.setCell ⟨g, 7, none⟩ (.int .i64 (k + 1 + 1 + 1 + 1 + 1)))) := Turn.here9 T5 _
  clear O5 T5
  go_upto_region 6 with fail
  generalize (W5.setCell ⟨g, 7, none⟩ (.int .i64 (k + 1 + 1 + 1 + 1 + 1))) = W6 at *
  have O6 := P6.out
  have T6 := S6.out
  clear P6 S6 c5 f5
  have c6 : W6.cell? ⟨g, 8, none⟩ = some (.int .i64 0) := World.ownsRow.cellAt O6 8 (by omega)
  have f6 := World.ownsRow.frozenAt O6 8
  have P7 : Hid ((W6.setCell ⟨g, 8, none⟩ (.int .i64 (k + 1 + 1 + 1 + 1 + 1 + 1))).ownsRow 0 76 7 (.slice (some ⟨g, 0, none⟩) 3 c) 3 [Value.int .i64 k, .int .i64 (k + 1), .int .i64 (k + 1 + 1), .int .i64 (k + 1 + 1 + 1), .int .i64 (k + 1 + 1 + 1 + 1), .slice none 0 0, .slice none 0 0, .int .i64 (k + 1 + 1 + 1 + 1 + 1), .int .i64 (k + 1 + 1 + 1 + 1 + 1 + 1), .int .i64 0, .int .i64 0, .int .i64 0, .slice none 0 0, .slice none 0 0, .int .i64 0, .int .i64 0, .int .i64 0, .int .i64 0, .int .i64 0, .slice none 0 0, .slice none 0 0]) := (World.ownsRow.stored O6 8 (.int .i64 (k + 1 + 1 + 1 + 1 + 1 + 1))).1
  have S7 : Hid (Turn (fun j => j = g) w (W6.setCell ⟨g, 8, none⟩ (.int .i64 (k + 1 + 1 + 1 + 1 + 1 + 1)))) := Turn.here9 T6 _
  clear O6 T6
  go_upto_region 8 with fail
  generalize (W6.setCell ⟨g, 8, none⟩ (.int .i64 (k + 1 + 1 + 1 + 1 + 1 + 1))) = W7 at *
  have O7 := P7.out
  have T7 := S7.out
  clear P7 S7 c6 f6
  have c7 : W7.cell? ⟨g, 9, none⟩ = some (.int .i64 0) := World.ownsRow.cellAt O7 9 (by omega)
  have f7 := World.ownsRow.frozenAt O7 9
  have P8 : Hid ((W7.setCell ⟨g, 9, none⟩ (.int .i64 (k + 1 + 1 + 1 + 1 + 1 + 1 + 1))).ownsRow 0 76 7 (.slice (some ⟨g, 0, none⟩) 3 c) 3 [Value.int .i64 k, .int .i64 (k + 1), .int .i64 (k + 1 + 1), .int .i64 (k + 1 + 1 + 1), .int .i64 (k + 1 + 1 + 1 + 1), .slice none 0 0, .slice none 0 0, .int .i64 (k + 1 + 1 + 1 + 1 + 1), .int .i64 (k + 1 + 1 + 1 + 1 + 1 + 1), .int .i64 (k + 1 + 1 + 1 + 1 + 1 + 1 + 1), .int .i64 0, .int .i64 0, .slice none 0 0, .slice none 0 0, .int .i64 0, .int .i64 0, .int .i64 0, .int .i64 0, .int .i64 0, .slice none 0 0, .slice none 0 0]) := (World.ownsRow.stored O7 9 (.int .i64 (k + 1 + 1 + 1 + 1 + 1 + 1 + 1))).1
  have S8 : Hid (Turn (fun j => j = g) w (W7.setCell ⟨g, 9, none⟩ (.int .i64 (k + 1 + 1 + 1 + 1 + 1 + 1 + 1)))) := Turn.here9 T7 _
  clear O7 T7
  go_upto_region 10 with fail
  generalize (W7.setCell ⟨g, 9, none⟩ (.int .i64 (k + 1 + 1 + 1 + 1 + 1 + 1 + 1))) = W8 at *
  have O8 := P8.out
  have T8 := S8.out
  clear P8 S8 c7 f7
  have c8 : W8.cell? ⟨g, 10, none⟩ = some (.int .i64 0) := World.ownsRow.cellAt O8 10 (by omega)
  have f8 := World.ownsRow.frozenAt O8 10
  have P9 : Hid ((W8.setCell ⟨g, 10, none⟩ (.int .i64 (k + 1 + 1 + 1 + 1 + 1 + 1 + 1 + 1))).ownsRow 0 76 7 (.slice (some ⟨g, 0, none⟩) 3 c) 3 [Value.int .i64 k, .int .i64 (k + 1), .int .i64 (k + 1 + 1), .int .i64 (k + 1 + 1 + 1), .int .i64 (k + 1 + 1 + 1 + 1), .slice none 0 0, .slice none 0 0, .int .i64 (k + 1 + 1 + 1 + 1 + 1), .int .i64 (k + 1 + 1 + 1 + 1 + 1 + 1), .int .i64 (k + 1 + 1 + 1 + 1 + 1 + 1 + 1), .int .i64 (k + 1 + 1 + 1 + 1 + 1 + 1 + 1 + 1), .int .i64 0, .slice none 0 0, .slice none 0 0, .int .i64 0, .int .i64 0, .int .i64 0, .int .i64 0, .int .i64 0, .slice none 0 0, .slice none 0 0]) := (World.ownsRow.stored O8 10 (.int .i64 (k + 1 + 1 + 1 + 1 + 1 + 1 + 1 + 1))).1
  have S9 : Hid (Turn (fun j => j = g) w (W8.setCell ⟨g, 10, none⟩ (.int .i64 (k + 1 + 1 + 1 + 1 + 1 + 1 + 1 + 1)))) := Turn.here9 T8 _
  clear O8 T8
  go_upto_region 12 with fail
  generalize (W8.setCell ⟨g, 10, none⟩ (.int .i64 (k + 1 + 1 + 1 + 1 + 1 + 1 + 1 + 1))) = W9 at *
  have O9 := P9.out
  have T9 := S9.out
  clear P9 S9 c8 f8
  have c9 : W9.cell? ⟨g, 11, none⟩ = some (.int .i64 0) := World.ownsRow.cellAt O9 11 (by omega)
  have f9 := World.ownsRow.frozenAt O9 11
  have P10 : Hid ((W9.setCell ⟨g, 11, none⟩ (.int .i64 (k + 1 + 1 + 1 + 1 + 1 + 1 + 1 + 1 + 1))).ownsRow 0 76 7 (.slice (some ⟨g, 0, none⟩) 3 c) 3 [Value.int .i64 k, .int .i64 (k + 1), .int .i64 (k + 1 + 1), .int .i64 (k + 1 + 1 + 1), .int .i64 (k + 1 + 1 + 1 + 1), .slice none 0 0, .slice none 0 0, .int .i64 (k + 1 + 1 + 1 + 1 + 1), .int .i64 (k + 1 + 1 + 1 + 1 + 1 + 1), .int .i64 (k + 1 + 1 + 1 + 1 + 1 + 1 + 1), .int .i64 (k + 1 + 1 + 1 + 1 + 1 + 1 + 1 + 1), .int .i64 (k + 1 + 1 + 1 + 1 + 1 + 1 + 1 + 1 + 1), .slice none 0 0, .slice none 0 0, .int .i64 0, .int .i64 0, .int .i64 0, .int .i64 0, .int .i64 0, .slice none 0 0, .slice none 0 0]) := (World.ownsRow.stored O9 11 (.int .i64 (k + 1 + 1 + 1 + 1 + 1 + 1 + 1 + 1 + 1))).1
  have S10 : Hid (Turn (fun j => j = g) w (W9.setCell ⟨g, 11, none⟩ (.int .i64 (k + 1 + 1 + 1 + 1 + 1 + 1 + 1 + 1 + 1)))) := Turn.here9 T9 _
  clear O9 T9
  go_upto_region 14 with fail
  generalize (W9.setCell ⟨g, 11, none⟩ (.int .i64 (k + 1 + 1 + 1 + 1 + 1 + 1 + 1 + 1 + 1))) = W10 at *
  have O10 := P10.out
  have T10 := S10.out
  clear P10 S10 c9 f9
  have c5 : W10.cell? ⟨g, 12, none⟩ = some (.slice none 0 0) := World.ownsRow.cellAt O10 12 (by omega)
  have c6 : W10.cell? ⟨g, 13, none⟩ = some (.slice none 0 0) := World.ownsRow.cellAt O10 13 (by omega)
  go_wp2_with fail
  refine (markB0 _ _).mono ?_
  rintro e u1 ⟨rfl, hu⟩
  obtain rfl := hu.symm
  go_wp2_with fail
  refine (markT0 _ _).mono ?_
  rintro e t1 ⟨rfl, hu⟩
  obtain rfl := hu.symm
  clear c5 c6
  go_wp2_with fail
  rw [rounds_succ]
  have c10 : W10.cell? ⟨g, 14, none⟩ = some (.int .i64 0) := World.ownsRow.cellAt O10 14 (by omega)
  have f10 := World.ownsRow.frozenAt O10 14
  have P11 : Hid ((W10.setCell ⟨g, 14, none⟩ (.int .i64 (k + 1 + 1 + 1 + 1 + 1 + 1 + 1 + 1 + 1 + 1))).ownsRow 0 76 7 (.slice (some ⟨g, 0, none⟩) 3 c) 3 [Value.int .i64 k, .int .i64 (k + 1), .int .i64 (k + 1 + 1), .int .i64 (k + 1 + 1 + 1), .int .i64 (k + 1 + 1 + 1 + 1), .slice none 0 0, .slice none 0 0, .int .i64 (k + 1 + 1 + 1 + 1 + 1), .int .i64 (k + 1 + 1 + 1 + 1 + 1 + 1), .int .i64 (k + 1 + 1 + 1 + 1 + 1 + 1 + 1), .int .i64 (k + 1 + 1 + 1 + 1 + 1 + 1 + 1 + 1), .int .i64 (k + 1 + 1 + 1 + 1 + 1 + 1 + 1 + 1 + 1), .slice none 0 0, .slice none 0 0, .int .i64 (k + 1 + 1 + 1 + 1 + 1 + 1 + 1 + 1 + 1 + 1), .int .i64 0, .int .i64 0, .int .i64 0, .int .i64 0, .slice none 0 0, .slice none 0 0]) := (World.ownsRow.stored O10 14 (.int .i64 (k + 1 + 1 + 1 + 1 + 1 + 1 + 1 + 1 + 1 + 1))).1
  have S11 : Hid (Turn (fun j => j = g) w (W10.setCell ⟨g, 14, none⟩ (.int .i64 (k + 1 + 1 + 1 + 1 + 1 + 1 + 1 + 1 + 1 + 1)))) := Turn.here9 T10 _
  clear O10 T10
  go_upto_region 6 with fail
  generalize (W10.setCell ⟨g, 14, none⟩ (.int .i64 (k + 1 + 1 + 1 + 1 + 1 + 1 + 1 + 1 + 1 + 1))) = W11 at *
  have O11 := P11.out
  have T11 := S11.out
  clear P11 S11 c10 f10
  have c11 : W11.cell? ⟨g, 15, none⟩ = some (.int .i64 0) := World.ownsRow.cellAt O11 15 (by omega)
  have f11 := World.ownsRow.frozenAt O11 15
  have P12 : Hid ((W11.setCell ⟨g, 15, none⟩ (.int .i64 (k + 1 + 1 + 1 + 1 + 1 + 1 + 1 + 1 + 1 + 1 + 1))).ownsRow 0 76 7 (.slice (some ⟨g, 0, none⟩) 3 c) 3 [Value.int .i64 k, .int .i64 (k + 1), .int .i64 (k + 1 + 1), .int .i64 (k + 1 + 1 + 1), .int .i64 (k + 1 + 1 + 1 + 1), .slice none 0 0, .slice none 0 0, .int .i64 (k + 1 + 1 + 1 + 1 + 1), .int .i64 (k + 1 + 1 + 1 + 1 + 1 + 1), .int .i64 (k + 1 + 1 + 1 + 1 + 1 + 1 + 1), .int .i64 (k + 1 + 1 + 1 + 1 + 1 + 1 + 1 + 1), .int .i64 (k + 1 + 1 + 1 + 1 + 1 + 1 + 1 + 1 + 1), .slice none 0 0, .slice none 0 0, .int .i64 (k + 1 + 1 + 1 + 1 + 1 + 1 + 1 + 1 + 1 + 1), .int .i64 (k + 1 + 1 + 1 + 1 + 1 + 1 + 1 + 1 + 1 + 1 + 1), .int .i64 0, .int .i64 0, .int .i64 0, .slice none 0 0, .slice none 0 0]) := (World.ownsRow.stored O11 15 (.int .i64 (k + 1 + 1 + 1 + 1 + 1 + 1 + 1 + 1 + 1 + 1 + 1))).1
  have S12 : Hid (Turn (fun j => j = g) w (W11.setCell ⟨g, 15, none⟩ (.int .i64 (k + 1 + 1 + 1 + 1 + 1 + 1 + 1 + 1 + 1 + 1 + 1)))) := Turn.here9 T11 _
  clear O11 T11
  go_upto_region 8 with fail
  generalize (W11.setCell ⟨g, 15, none⟩ (.int .i64 (k + 1 + 1 + 1 + 1 + 1 + 1 + 1 + 1 + 1 + 1 + 1))) = W12 at *
  have O12 := P12.out
  have T12 := S12.out
  clear P12 S12 c11 f11
  have c12 : W12.cell? ⟨g, 16, none⟩ = some (.int .i64 0) := World.ownsRow.cellAt O12 16 (by omega)
  have f12 := World.ownsRow.frozenAt O12 16
  have P13 : Hid ((W12.setCell ⟨g, 16, none⟩ (.int .i64 (k + 1 + 1 + 1 + 1 + 1 + 1 + 1 + 1 + 1 + 1 + 1 + 1))).ownsRow 0 76 7 (.slice (some ⟨g, 0, none⟩) 3 c) 3 [Value.int .i64 k, .int .i64 (k + 1), .int .i64 (k + 1 + 1), .int .i64 (k + 1 + 1 + 1), .int .i64 (k + 1 + 1 + 1 + 1), .slice none 0 0, .slice none 0 0, .int .i64 (k + 1 + 1 + 1 + 1 + 1), .int .i64 (k + 1 + 1 + 1 + 1 + 1 + 1), .int .i64 (k + 1 + 1 + 1 + 1 + 1 + 1 + 1), .int .i64 (k + 1 + 1 + 1 + 1 + 1 + 1 + 1 + 1), .int .i64 (k + 1 + 1 + 1 + 1 + 1 + 1 + 1 + 1 + 1), .slice none 0 0, .slice none 0 0, .int .i64 (k + 1 + 1 + 1 + 1 + 1 + 1 + 1 + 1 + 1 + 1), .int .i64 (k + 1 + 1 + 1 + 1 + 1 + 1 + 1 + 1 + 1 + 1 + 1), .int .i64 (k + 1 + 1 + 1 + 1 + 1 + 1 + 1 + 1 + 1 + 1 + 1 + 1), .int .i64 0, .int .i64 0, .slice none 0 0, .slice none 0 0]) := (World.ownsRow.stored O12 16 (.int .i64 (k + 1 + 1 + 1 + 1 + 1 + 1 + 1 + 1 + 1 + 1 + 1 + 1))).1
  have S13 : Hid (Turn (fun j => j = g) w (W12.setCell ⟨g, 16, none⟩ (.int .i64 (k + 1 + 1 + 1 + 1 + 1 + 1 + 1 + 1 + 1 + 1 + 1 + 1)))) := Turn.here9 T12 _
  clear O12 T12
  go_upto_region 10 with fail
  generalize (W12.setCell ⟨g, 16, none⟩ (.int .i64 (k + 1 + 1 + 1 + 1 + 1 + 1 + 1 + 1 + 1 + 1 + 1 + 1))) = W13 at *
  have O13 := P13.out
  have T13 := S13.out
  clear P13 S13 c12 f12
  have c13 : W13.cell? ⟨g, 17, none⟩ = some (.int .i64 0) := World.ownsRow.cellAt O13 17 (by omega)
  have f13 := World.ownsRow.frozenAt O13 17
  have P14 : Hid ((W13.setCell ⟨g, 17, none⟩ (.int .i64 (k + 1 + 1 + 1 + 1 + 1 + 1 + 1 + 1 + 1 + 1 + 1 + 1 + 1))).ownsRow 0 76 7 (.slice (some ⟨g, 0, none⟩) 3 c) 3 [Value.int .i64 k, .int .i64 (k + 1), .int .i64 (k + 1 + 1), .int .i64 (k + 1 + 1 + 1), .int .i64 (k + 1 + 1 + 1 + 1), .slice none 0 0, .slice none 0 0, .int .i64 (k + 1 + 1 + 1 + 1 + 1), .int .i64 (k + 1 + 1 + 1 + 1 + 1 + 1), .int .i64 (k + 1 + 1 + 1 + 1 + 1 + 1 + 1), .int .i64 (k + 1 + 1 + 1 + 1 + 1 + 1 + 1 + 1), .int .i64 (k + 1 + 1 + 1 + 1 + 1 + 1 + 1 + 1 + 1), .slice none 0 0, .slice none 0 0, .int .i64 (k + 1 + 1 + 1 + 1 + 1 + 1 + 1 + 1 + 1 + 1), .int .i64 (k + 1 + 1 + 1 + 1 + 1 + 1 + 1 + 1 + 1 + 1 + 1), .int .i64 (k + 1 + 1 + 1 + 1 + 1 + 1 + 1 + 1 + 1 + 1 + 1 + 1), .int .i64 (k + 1 + 1 + 1 + 1 + 1 + 1 + 1 + 1 + 1 + 1 + 1 + 1 + 1), .int .i64 0, .slice none 0 0, .slice none 0 0]) := (World.ownsRow.stored O13 17 (.int .i64 (k + 1 + 1 + 1 + 1 + 1 + 1 + 1 + 1 + 1 + 1 + 1 + 1 + 1))).1
  have S14 : Hid (Turn (fun j => j = g) w (W13.setCell ⟨g, 17, none⟩ (.int .i64 (k + 1 + 1 + 1 + 1 + 1 + 1 + 1 + 1 + 1 + 1 + 1 + 1 + 1)))) := Turn.here9 T13 _
  clear O13 T13
  go_upto_region 12 with fail
  generalize (W13.setCell ⟨g, 17, none⟩ (.int .i64 (k + 1 + 1 + 1 + 1 + 1 + 1 + 1 + 1 + 1 + 1 + 1 + 1 + 1))) = W14 at *
  have O14 := P14.out
  have T14 := S14.out
  clear P14 S14 c13 f13
  have c14 : W14.cell? ⟨g, 18, none⟩ = some (.int .i64 0) := World.ownsRow.cellAt O14 18 (by omega)
  have f14 := World.ownsRow.frozenAt O14 18
  have P15 : Hid ((W14.setCell ⟨g, 18, none⟩ (.int .i64 (k + 1 + 1 + 1 + 1 + 1 + 1 + 1 + 1 + 1 + 1 + 1 + 1 + 1 + 1))).ownsRow 0 76 7 (.slice (some ⟨g, 0, none⟩) 3 c) 3 [Value.int .i64 k, .int .i64 (k + 1), .int .i64 (k + 1 + 1), .int .i64 (k + 1 + 1 + 1), .int .i64 (k + 1 + 1 + 1 + 1), .slice none 0 0, .slice none 0 0, .int .i64 (k + 1 + 1 + 1 + 1 + 1), .int .i64 (k + 1 + 1 + 1 + 1 + 1 + 1), .int .i64 (k + 1 + 1 + 1 + 1 + 1 + 1 + 1), .int .i64 (k + 1 + 1 + 1 + 1 + 1 + 1 + 1 + 1), .int .i64 (k + 1 + 1 + 1 + 1 + 1 + 1 + 1 + 1 + 1), .slice none 0 0, .slice none 0 0, .int .i64 (k + 1 + 1 + 1 + 1 + 1 + 1 + 1 + 1 + 1 + 1), .int .i64 (k + 1 + 1 + 1 + 1 + 1 + 1 + 1 + 1 + 1 + 1 + 1), .int .i64 (k + 1 + 1 + 1 + 1 + 1 + 1 + 1 + 1 + 1 + 1 + 1 + 1), .int .i64 (k + 1 + 1 + 1 + 1 + 1 + 1 + 1 + 1 + 1 + 1 + 1 + 1 + 1), .int .i64 (k + 1 + 1 + 1 + 1 + 1 + 1 + 1 + 1 + 1 + 1 + 1 + 1 + 1 + 1), .slice none 0 0, .slice none 0 0]) := (World.ownsRow.stored O14 18 (.int .i64 (k + 1 + 1 + 1 + 1 + 1 + 1 + 1 + 1 + 1 + 1 + 1 + 1 + 1 + 1))).1
  have S15 : Hid (Turn (fun j => j = g) w (W14.setCell ⟨g, 18, none⟩ (.int .i64 (k + 1 + 1 + 1 + 1 + 1 + 1 + 1 + 1 + 1 + 1 + 1 + 1 + 1 + 1)))) := Turn.here9 T14 _
  clear O14 T14
  go_upto_region 14 with fail
  generalize (W14.setCell ⟨g, 18, none⟩ (.int .i64 (k + 1 + 1 + 1 + 1 + 1 + 1 + 1 + 1 + 1 + 1 + 1 + 1 + 1 + 1))) = W15 at *
  have O15 := P15.out
  have T15 := S15.out
  clear P15 S15 c14 f14
  have c5 : W15.cell? ⟨g, 19, none⟩ = some (.slice none 0 0) := World.ownsRow.cellAt O15 19 (by omega)
  have c6 : W15.cell? ⟨g, 20, none⟩ = some (.slice none 0 0) := World.ownsRow.cellAt O15 20 (by omega)
  go_wp2_with fail
  refine (markB0 _ _).mono ?_
  rintro e u2 ⟨rfl, hu⟩
  obtain rfl := hu.symm
  go_wp2_with fail
  refine (markT0 _ _).mono ?_
  rintro e t2 ⟨rfl, hu⟩
  obtain rfl := hu.symm
  clear c5 c6
  go_wp2_with fail
  rw [rounds_succ]
  go_wp2
  go_ret
  exact ⟨rfl, O15, T15⟩

set_option maxRecDepth 100000 in
set_option maxHeartbeats 12800000 in
theorem heldLk3 (g c : Nat) (k : Int) (w : World) (h : w.ownsRow 0 76 7 (.slice (some ⟨g, 0, none⟩) 3 c) 3 (mkL3 k)) (hk0 : 0 ≤ k) (hk : k ≤ 33554432) :
    Calls Try.prog 50 #[.slice (some ⟨g, 0, none⟩) 3 c, .int .i64 k] w fun e w' => e = .returned (.int .i64 (k + 1 + 1 + 1 + 1 + 1 + 1 + 1 + 1 + 1 + 1 + 1 + 1 + 1 + 1 + 1)) ∧ w' = w := by
  have c0 : w.cell? ⟨g, 0, none⟩ = some (.int .i64 k) := World.ownsRow.cellAt h 0 (by omega)
  have c1 : w.cell? ⟨g, 1, none⟩ = some (.int .i64 (k + 1)) := World.ownsRow.cellAt h 1 (by omega)
  have c2 : w.cell? ⟨g, 2, none⟩ = some (.int .i64 (k + 1 + 1)) := World.ownsRow.cellAt h 2 (by omega)
  have c3 : w.cell? ⟨g, 3, none⟩ = some (.int .i64 (k + 1 + 1 + 1)) := World.ownsRow.cellAt h 3 (by omega)
  have c4 : w.cell? ⟨g, 4, none⟩ = some (.int .i64 (k + 1 + 1 + 1 + 1)) := World.ownsRow.cellAt h 4 (by omega)
  have c5 : w.cell? ⟨g, 5, none⟩ = some (.slice none 0 0) := World.ownsRow.cellAt h 5 (by omega)
  have c6 : w.cell? ⟨g, 6, none⟩ = some (.slice none 0 0) := World.ownsRow.cellAt h 6 (by omega)
  have c7 : w.cell? ⟨g, 7, none⟩ = some (.int .i64 (k + 1 + 1 + 1 + 1 + 1)) := World.ownsRow.cellAt h 7 (by omega)
  have c8 : w.cell? ⟨g, 8, none⟩ = some (.int .i64 (k + 1 + 1 + 1 + 1 + 1 + 1)) := World.ownsRow.cellAt h 8 (by omega)
  have c9 : w.cell? ⟨g, 9, none⟩ = some (.int .i64 (k + 1 + 1 + 1 + 1 + 1 + 1 + 1)) := World.ownsRow.cellAt h 9 (by omega)
  have c10 : w.cell? ⟨g, 10, none⟩ = some (.int .i64 (k + 1 + 1 + 1 + 1 + 1 + 1 + 1 + 1)) := World.ownsRow.cellAt h 10 (by omega)
  have c11 : w.cell? ⟨g, 11, none⟩ = some (.int .i64 (k + 1 + 1 + 1 + 1 + 1 + 1 + 1 + 1 + 1)) := World.ownsRow.cellAt h 11 (by omega)
  have c12 : w.cell? ⟨g, 12, none⟩ = some (.slice none 0 0) := World.ownsRow.cellAt h 12 (by omega)
  have c13 : w.cell? ⟨g, 13, none⟩ = some (.slice none 0 0) := World.ownsRow.cellAt h 13 (by omega)
  have c14 : w.cell? ⟨g, 14, none⟩ = some (.int .i64 (k + 1 + 1 + 1 + 1 + 1 + 1 + 1 + 1 + 1 + 1)) := World.ownsRow.cellAt h 14 (by omega)
  have c15 : w.cell? ⟨g, 15, none⟩ = some (.int .i64 (k + 1 + 1 + 1 + 1 + 1 + 1 + 1 + 1 + 1 + 1 + 1)) := World.ownsRow.cellAt h 15 (by omega)
  have c16 : w.cell? ⟨g, 16, none⟩ = some (.int .i64 (k + 1 + 1 + 1 + 1 + 1 + 1 + 1 + 1 + 1 + 1 + 1 + 1)) := World.ownsRow.cellAt h 16 (by omega)
  have c17 : w.cell? ⟨g, 17, none⟩ = some (.int .i64 (k + 1 + 1 + 1 + 1 + 1 + 1 + 1 + 1 + 1 + 1 + 1 + 1 + 1)) := World.ownsRow.cellAt h 17 (by omega)
  have c18 : w.cell? ⟨g, 18, none⟩ = some (.int .i64 (k + 1 + 1 + 1 + 1 + 1 + 1 + 1 + 1 + 1 + 1 + 1 + 1 + 1 + 1)) := World.ownsRow.cellAt h 18 (by omega)
  have c19 : w.cell? ⟨g, 19, none⟩ = some (.slice none 0 0) := World.ownsRow.cellAt h 19 (by omega)
  have c20 : w.cell? ⟨g, 20, none⟩ = some (.slice none 0 0) := World.ownsRow.cellAt h 20 (by omega)
  have d0 : (k != k) = false := by simp
  have d1 : (k + 1 != k + 1) = false := by simp
  have d2 : (k + 1 + 1 != k + 1 + 1) = false := by simp
  have d3 : (k + 1 + 1 + 1 != k + 1 + 1 + 1) = false := by simp
  have d4 : (k + 1 + 1 + 1 + 1 != k + 1 + 1 + 1 + 1) = false := by simp
  have d5 : (k + 1 + 1 + 1 + 1 + 1 != k + 1 + 1 + 1 + 1 + 1) = false := by simp
  have d6 : (k + 1 + 1 + 1 + 1 + 1 + 1 != k + 1 + 1 + 1 + 1 + 1 + 1) = false := by simp
  have d7 : (k + 1 + 1 + 1 + 1 + 1 + 1 + 1 != k + 1 + 1 + 1 + 1 + 1 + 1 + 1) = false := by simp
  have d8 : (k + 1 + 1 + 1 + 1 + 1 + 1 + 1 + 1 != k + 1 + 1 + 1 + 1 + 1 + 1 + 1 + 1) = false := by simp
  have d9 : (k + 1 + 1 + 1 + 1 + 1 + 1 + 1 + 1 + 1 != k + 1 + 1 + 1 + 1 + 1 + 1 + 1 + 1 + 1) = false := by simp
  have d10 : (k + 1 + 1 + 1 + 1 + 1 + 1 + 1 + 1 + 1 + 1 != k + 1 + 1 + 1 + 1 + 1 + 1 + 1 + 1 + 1 + 1) = false := by simp
  have d11 : (k + 1 + 1 + 1 + 1 + 1 + 1 + 1 + 1 + 1 + 1 + 1 != k + 1 + 1 + 1 + 1 + 1 + 1 + 1 + 1 + 1 + 1 + 1) = false := by simp
  have d12 : (k + 1 + 1 + 1 + 1 + 1 + 1 + 1 + 1 + 1 + 1 + 1 + 1 != k + 1 + 1 + 1 + 1 + 1 + 1 + 1 + 1 + 1 + 1 + 1 + 1) = false := by simp
  have d13 : (k + 1 + 1 + 1 + 1 + 1 + 1 + 1 + 1 + 1 + 1 + 1 + 1 + 1 != k + 1 + 1 + 1 + 1 + 1 + 1 + 1 + 1 + 1 + 1 + 1 + 1 + 1) = false := by simp
  have d14 : (k + 1 + 1 + 1 + 1 + 1 + 1 + 1 + 1 + 1 + 1 + 1 + 1 + 1 + 1 != k + 1 + 1 + 1 + 1 + 1 + 1 + 1 + 1 + 1 + 1 + 1 + 1 + 1 + 1) = false := by simp
  clear h
  go_enter Try.func50, Try.ntmps50
  go_wp2
  refine wp_loop_rounds 4 ?_
  rw [rounds_succ]
  go_wp2_with fail
  refine (heldB0 _ _).mono ?_
  rintro e u0 ⟨rfl, hu⟩
  obtain rfl := hu.symm
  go_wp2_with fail
  refine (heldT0 _ _).mono ?_
  rintro e t0 ⟨rfl, hu⟩
  obtain rfl := hu.symm
  go_wp2_with fail
  rw [rounds_succ]
  go_wp2_with fail
  refine (heldB0 _ _).mono ?_
  rintro e u1 ⟨rfl, hu⟩
  obtain rfl := hu.symm
  go_wp2_with fail
  refine (heldT0 _ _).mono ?_
  rintro e t1 ⟨rfl, hu⟩
  obtain rfl := hu.symm
  go_wp2_with fail
  rw [rounds_succ]
  go_wp2_with fail
  refine (heldB0 _ _).mono ?_
  rintro e u2 ⟨rfl, hu⟩
  obtain rfl := hu.symm
  go_wp2_with fail
  refine (heldT0 _ _).mono ?_
  rintro e t2 ⟨rfl, hu⟩
  obtain rfl := hu.symm
  go_wp2_with fail
  rw [rounds_succ]
  go_wp2
  go_ret
  exact ⟨rfl, rfl⟩

end Go.Proofs.Ytmmkdmebmbpkgaa

namespace Go.Proofs.Ytmmkdmebmbpkgaa
open Go.RowKit Go.Sort
set_option linter.unusedVariables false

theorem OwR.ov {w : World} {g n c : Nat} {rs : List Ru} (h : OwR w g n c rs) : OvR w g (.slice (some ⟨g, 0, none⟩) n c) rs := by
  have hn := h.len
  subst hn
  refine ⟨h.1, ?_⟩
  rcases h.2 with h' | ⟨g', cap', cur, h', r⟩
  · exact .inl h'
  · have e3 : g = g' := by simpa [Value.ownBlock] using congrArg Value.ownBlock h'
    exact .inr ⟨g', cap', cur, h', by omega, r.2⟩

/-- A list of rules of the call's own, nil or not, is marked. -/
theorem markOv (x : Option Addr) (n d lo : Nat) (k : Int) (rs : List Ru) (w : World) (h : OvR w lo (.slice x n d) rs) (hm : n ≤ 1048576) (hk0 : 0 ≤ k) (hk : k ≤ 16777216) :
    Calls Try.prog 25 #[.slice x n d, .int .i64 k] w fun e w' => e = .returned (.int .i64 (k + 8 * (n : Int))) ∧ OvR w' lo (.slice x n d) (mkRs k n) ∧ Turn (fun j => (Value.slice x n d).ownBlock = some j) w w' := by
  rcases h.form with ⟨e, rfl⟩ | ⟨g, c, e, hl, hlt, ho⟩
  · simp only [Value.slice.injEq] at e
    obtain ⟨rfl, rfl, rfl⟩ := e
    go_enter Try.func25, Try.ntmps25
    go_wp2
    refine wp_loop_rounds 1 ?_
    rw [rounds_succ]
    go_wp2
    go_ret
    exact ⟨by simp, OvR.nil _ _, Turn.refl _ _⟩
  · simp only [Value.slice.injEq] at e
    obtain ⟨rfl, rfl, rfl⟩ := e
    refine (markRu g rs.length d k rs w ho hm hk0 hk).mono ?_
    rintro e w' ⟨rfl, o, t⟩
    refine ⟨rfl, ?_, ?_⟩
    · exact o.ov.low hl
    · exact ⟨t.os, t.tape, t.output, t.size, fun b hb hs => t.block b hb (fun e => hs (by rw [e]; rfl))⟩

set_option maxHeartbeats 1600000 in
theorem markSe (sa si ho nx : Int) (x1 x2 : Option Addr) (n1 d1 n2 d2 lo : Nat) (k : Int) (r1 r2 : List Ru) (w : World) (h1 : OvR w lo (.slice x1 n1 d1) r1) (h2 : OvR w lo (.slice x2 n2 d2) r2) (ap : ∀ j, (Value.slice x1 n1 d1).ownBlock = some j → (Value.slice x2 n2 d2).ownBlock ≠ some j) (m1 : n1 ≤ 1048576) (m2 : n2 ≤ 1048576) (hk0 : 0 ≤ k) (hk : k ≤ 1000) :
    Calls Try.prog 10 #[.agg #[.int .i64 sa, .int .i64 si, .int .i64 ho, .int .i64 nx, .slice x1 n1 d1, .slice x2 n2 d2], .int .i64 k] w fun e w' => e = .returned (.int .i64 (k + 8 * (n1 : Int) + 8 * (n2 : Int))) ∧ OvR w' lo (.slice x1 n1 d1) (mkRs k n1) ∧ OvR w' lo (.slice x2 n2 d2) (mkRs (k + 8 * (n1 : Int)) n2) ∧ Turn (fun j => (Value.slice x1 n1 d1).ownBlock = some j ∨ (Value.slice x2 n2 d2).ownBlock = some j) w w' := by
  have al : New w (w.alloc (.cells #[.int .i64 sa, .int .i64 si, .int .i64 ho, .int .i64 nx, .slice x1 n1 d1, .slice x2 n2 d2] 31)) := (New.refl w).alloc _
  have bA := Blk.mk w w.heap.size 31 #[.int .i64 sa, .int .i64 si, .int .i64 ho, .int .i64 nx, .slice x1 n1 d1, .slice x2 n2 d2] rfl
  have f1 := h1.blk
  have f2 := h2.blk
  have F1 : Hid _ := f1
  have F2 : Hid _ := f2
  have AP : Hid _ := ap
  have p1 := h1.new al
  have p2 := h2.new al
  clear h1 h2 f1 f2 ap
  go_enter Try.func10, Try.ntmps10
  go_upto_region 1 with fail
  generalize w.alloc (.cells #[.int .i64 sa, .int .i64 si, .int .i64 ho, .int .i64 nx, .slice x1 n1 d1, .slice x2 n2 d2] 31) = w0 at *
  have cA := bA.cells
  go_wp2_with fail
  refine (markOv x1 n1 d1 lo k r1 _ p1 m1 hk0 (by omega)).mono ?_
  rintro e w1 ⟨rfl, q1, t1⟩
  have bA1 := bA.turn t1 (fun e => by have := (F1.out _ e).2; omega)
  have q2 := p2.turn t1 (fun j hj e => AP.out j e hj)
  have hz1 : 0 ≤ k + 8 * (n1 : Int) := by omega
  have hz2 : k + 8 * (n1 : Int) ≤ 16777216 := by omega
  clear cA bA p1 p2
  have cA := bA1.cells
  obtain ⟨z, hz⟩ : ∃ z, Hid (k + 8 * (n1 : Int) = z) := ⟨_, rfl⟩
  rw [hz.out] at hz1 hz2
  simp only [hz.out]
  go_wp2_with fail
  refine (markOv x2 n2 d2 lo z r2 _ q2 m2 hz1 hz2).mono ?_
  rintro e w2 ⟨rfl, q3, t2⟩
  have q4 := q1.turn t2 (fun j hj e => AP.out j hj e)
  have Q3 : Hid _ := q3
  have Q4 : Hid _ := q4
  have TT : Hid (Turn (fun j => (Value.slice x1 n1 d1).ownBlock = some j ∨ (Value.slice x2 n2 d2).ownBlock = some j) w w2) := by
    have a1 : Turn (fun j => (Value.slice x1 n1 d1).ownBlock = some j ∨ (Value.slice x2 n2 d2).ownBlock = some j) w w1 := Turn.trans (⟨al.os, al.tape, al.output, al.size, fun b hb hs => al.block b hb (fun f => f)⟩ : Turn (fun j => (Value.slice x1 n1 d1).ownBlock = some j ∨ (Value.slice x2 n2 d2).ownBlock = some j) w w0) t1 (fun i _ e => Or.inl e)
    exact Turn.trans a1 t2 (fun i _ e => Or.inr e)
  clear q1 q2 q3 q4 t1 t2 cA bA1
  go_wp2
  go_ret
  exact ⟨ret_i64 (by rw [hz.out]), Q4.out, hz.out.symm ▸ Q3.out, TT.out⟩

set_option maxHeartbeats 1600000 in
theorem heldSe (sa si ho nx : Int) (x1 x2 : Option Addr) (n1 d1 n2 d2 : Nat) (k : Int) (w : World) (h1 : RsAt w x1 (mkRs k n1)) (h2 : RsAt w x2 (mkRs (k + 8 * (n1 : Int)) n2)) (m1 : n1 ≤ 1048576) (m2 : n2 ≤ 1048576) (hk0 : 0 ≤ k) (hk : k ≤ 1000) :
    Calls Try.prog 49 #[.agg #[.int .i64 sa, .int .i64 si, .int .i64 ho, .int .i64 nx, .slice x1 n1 d1, .slice x2 n2 d2], .int .i64 k] w fun e w' => e = .returned (.int .i64 (k + 8 * (n1 : Int) + 8 * (n2 : Int))) ∧ New w w' := by
  have al : New w (w.alloc (.cells #[.int .i64 sa, .int .i64 si, .int .i64 ho, .int .i64 nx, .slice x1 n1 d1, .slice x2 n2 d2] 31)) := (New.refl w).alloc _
  have bA := Blk.mk w w.heap.size 31 #[.int .i64 sa, .int .i64 si, .int .i64 ho, .int .i64 nx, .slice x1 n1 d1, .slice x2 n2 d2] rfl
  go_enter Try.func49, Try.ntmps49
  go_upto_region 1 with fail
  generalize w.alloc (.cells #[.int .i64 sa, .int .i64 si, .int .i64 ho, .int .i64 nx, .slice x1 n1 d1, .slice x2 n2 d2] 31) = w0 at *
  have cA := bA.cells
  go_wp2_with fail
  refine (heldRu x1 n1 d1 k _ (h1.new al) m1 hk0 (by omega)).mono ?_
  rintro e w1 ⟨rfl, t1⟩
  have bA1 := bA.new t1
  have h2' := (h2.new al).new t1
  have hz1 : 0 ≤ k + 8 * (n1 : Int) := by omega
  have hz2 : k + 8 * (n1 : Int) ≤ 16777216 := by omega
  clear cA bA h1 h2
  have cA := bA1.cells
  generalize hzz : k + 8 * (n1 : Int) = z at *
  have HZ : Hid (k + 8 * (n1 : Int) = z) := hzz
  clear hzz
  go_wp2_with fail
  refine (heldRu x2 n2 d2 z _ h2' m2 hz1 hz2).mono ?_
  rintro e w2 ⟨rfl, t2⟩
  have hz3 : 0 ≤ z + 8 * (n2 : Int) := by omega
  go_wp2
  go_ret
  exact ⟨ret_i64 (by rw [HZ.out]), (al.trans t1).trans t2⟩

end Go.Proofs.Ytmmkdmebmbpkgaa

namespace Go.Proofs.Ytmmkdmebmbpkgaa
open Go.RowKit Go.Sort
set_option linter.unusedVariables false

theorem markOu (y : Option Addr) (d : Nat) (k : Int) (w : World) (h : OuAt w y 3) : Calls Try.prog 27 #[.slice y 3 d, .int .i64 k] w fun e w' => e = .returned (.int .i64 k) ∧ w' = w := by
  obtain ⟨b, off, rfl, c0⟩ := h 0 (by omega)
  simp only [Nat.add_zero] at c0
  obtain ⟨b1, off1, e1, c1⟩ := h 1 (by omega)
  obtain ⟨b2, off2, e2, c2⟩ := h 2 (by omega)
  simp only [Option.some.injEq, Addr.mk.injEq, and_true] at e1 e2
  obtain ⟨rfl, rfl⟩ := e1
  obtain ⟨rfl, rfl⟩ := e2
  clear h
  go_enter Try.func27, Try.ntmps27
  go_wp2
  refine wp_loop_rounds 4 ?_
  rw [rounds_succ]
  go_wp2_with fail
  refine (markB0 _ _).mono ?_
  rintro e u0 ⟨rfl, hu⟩
  obtain rfl := hu.symm
  go_wp2_with fail
  rw [rounds_succ]
  go_wp2_with fail
  refine (markB0 _ _).mono ?_
  rintro e u1 ⟨rfl, hu⟩
  obtain rfl := hu.symm
  go_wp2_with fail
  rw [rounds_succ]
  go_wp2_with fail
  refine (markB0 _ _).mono ?_
  rintro e u2 ⟨rfl, hu⟩
  obtain rfl := hu.symm
  go_wp2_with fail
  rw [rounds_succ]
  go_wp2
  go_ret
  exact ⟨rfl, rfl⟩

theorem heldOu (y : Option Addr) (d : Nat) (k : Int) (w : World) (h : OuAt w y 3) (hk : 0 ≤ k) : Calls Try.prog 29 #[.slice y 3 d, .int .i64 k] w fun e w' => e = .returned (.int .i64 k) ∧ w' = w := by
  obtain ⟨b, off, rfl, c0⟩ := h 0 (by omega)
  simp only [Nat.add_zero] at c0
  obtain ⟨b1, off1, e1, c1⟩ := h 1 (by omega)
  obtain ⟨b2, off2, e2, c2⟩ := h 2 (by omega)
  simp only [Option.some.injEq, Addr.mk.injEq, and_true] at e1 e2
  obtain ⟨rfl, rfl⟩ := e1
  obtain ⟨rfl, rfl⟩ := e2
  clear h
  go_enter Try.func29, Try.ntmps29
  go_wp2
  refine wp_loop_rounds 4 ?_
  rw [rounds_succ]
  go_wp2_with fail
  refine (heldB0 _ _).mono ?_
  rintro e u0 ⟨rfl, hu⟩
  obtain rfl := hu.symm
  go_wp2_with fail
  rw [rounds_succ]
  go_wp2_with fail
  refine (heldB0 _ _).mono ?_
  rintro e u1 ⟨rfl, hu⟩
  obtain rfl := hu.symm
  go_wp2_with fail
  rw [rounds_succ]
  go_wp2_with fail
  refine (heldB0 _ _).mono ?_
  rintro e u2 ⟨rfl, hu⟩
  obtain rfl := hu.symm
  go_wp2_with fail
  rw [rounds_succ]
  go_wp2
  go_ret
  exact ⟨rfl, rfl⟩

end Go.Proofs.Ytmmkdmebmbpkgaa

namespace Go.Proofs.Ytmmkdmebmbpkgaa
open Go.ChangeShapes Go.WideShapes Go.ChangeAt Go.RowKit Go.Deep Go.Sort
set_option linter.unusedVariables false
set_option linter.unusedSimpArgs false

/-- Behind the marks of an answer without a code. -/
def eR (n1 n2 : Nat) : Int := 1 + 8 * (n1 : Int) + 8 * (n2 : Int) + 1 + 1 + 1 + 1 + 1 + 1 + 1 + 1 + 1 + 1 + 1 + 1 + 1 + 1 + 1
theorem row3 {w : World} {lo sz d : Nat} {e : TypeId} {y : Option Addr} {xs : List Value} (h : w.ownsRow lo e sz (.slice y 3 d) 3 xs) : ∃ g, y = some ⟨g, 0, none⟩ ∧ lo ≤ g ∧ g < w.heap.size ∧ w.ownsRow 0 e sz (.slice (some ⟨g, 0, none⟩) 3 d) 3 xs := by
  obtain ⟨h0, h1⟩ := h
  rcases h1 with ⟨h1, h2⟩ | ⟨g, c, cur, h1, h2, h3, r⟩
  · omega
  · simp only [Value.slice.injEq, true_and] at h1
    obtain ⟨rfl, rfl⟩ := h1
    exact ⟨g, rfl, h2, (Array.getElem?_eq_some_iff.1 h3).1, h0, .inr ⟨g, d, cur, rfl, Nat.zero_le _, h3, r⟩⟩
/-- What is read of marked rules and links. -/
structure MkR (w : World) (x1 x2 yl : Option Addr) (n1 n2 dl : Nat) : Prop where
  o1 : RsAt w x1 (mkRs 1 n1)
  o2 : RsAt w x2 (mkRs (1 + 8 * (n1 : Int)) n2)
  ol : ∃ g, yl = some ⟨g, 0, none⟩ ∧ w.ownsRow 0 76 7 (.slice (some ⟨g, 0, none⟩) 3 dl) 3 (mkL3 (1 + 8 * (n1 : Int) + 8 * (n2 : Int)))
theorem MkR.new {w w' : World} {x1 x2 yl : Option Addr} {n1 n2 dl : Nat} (h : MkR w x1 x2 yl n1 n2 dl) (t : New w w') : MkR w' x1 x2 yl n1 n2 dl := by
  obtain ⟨g, e, k⟩ := h.ol
  exact ⟨h.o1.new t, h.o2.new t, ⟨g, e, row9_new k t⟩⟩

set_option maxHeartbeats 3200000 in
theorem markRt (sa si ho nx : Int) (x1 x2 yl yo : Option Addr) (n1 d1 n2 d2 dl dO : Nat) (lo : Nat) (r1 r2 : List Ru) (w : World) (h1 : OvR w lo (.slice x1 n1 d1) r1) (h2 : OvR w lo (.slice x2 n2 d2) r2) (ol : w.ownsRow lo 76 7 (.slice yl 3 dl) 3 (lz9 3)) (a12 : ∀ j, (Value.slice x1 n1 d1).ownBlock = some j → (Value.slice x2 n2 d2).ownBlock ≠ some j) (a1l : ∀ j, (Value.slice x1 n1 d1).ownBlock = some j → (Value.slice yl 3 dl).ownBlock ≠ some j) (a2l : ∀ j, (Value.slice x2 n2 d2).ownBlock = some j → (Value.slice yl 3 dl).ownBlock ≠ some j) (m1 : n1 ≤ 1048576) (m2 : n2 ≤ 1048576) :
    Calls Try.prog 26 #[.agg #[.int .i64 sa, .int .i64 si, .int .i64 ho, .int .i64 nx, .slice x1 n1 d1, .slice x2 n2 d2, .slice yl 3 dl, .slice none 0 0], .int .i64 1] w fun e w' => e = .returned (.int .i64 (eR n1 n2)) ∧ MkR w' x1 x2 yl n1 n2 dl ∧ Turn (fun j => (Value.slice x1 n1 d1).ownBlock = some j ∨ (Value.slice x2 n2 d2).ownBlock = some j ∨ (Value.slice yl 3 dl).ownBlock = some j) w w' := by
  have al : New w (w.alloc (.cells #[.int .i64 sa, .int .i64 si, .int .i64 ho, .int .i64 nx, .slice x1 n1 d1, .slice x2 n2 d2, .slice yl 3 dl, .slice none 0 0] 35)) := (New.refl w).alloc _
  have bA := Blk.mk w w.heap.size 35 #[.int .i64 sa, .int .i64 si, .int .i64 ho, .int .i64 nx, .slice x1 n1 d1, .slice x2 n2 d2, .slice yl 3 dl, .slice none 0 0] rfl
  have F1 : Hid _ := h1.blk
  have F2 : Hid _ := h2.blk
  obtain ⟨g, rfl, hg0, hg1, hol⟩ := row3 ol
  have AP : Hid _ := a12
  have A1 : Hid (∀ j, (Value.slice x1 n1 d1).ownBlock = some j → ¬ j = g) := fun j hj e => a1l j hj (by rw [e]; rfl)
  have A2 : Hid (∀ j, (Value.slice x2 n2 d2).ownBlock = some j → ¬ j = g) := fun j hj e => a2l j hj (by rw [e]; rfl)
  have p1 := h1.new al
  have p2 := h2.new al
  have pl := row9_new hol al
  clear h1 h2 a12 a1l a2l ol hol
  go_enter Try.func26, Try.ntmps26
  go_upto_region 1 with fail
  generalize w.alloc (.cells #[.int .i64 sa, .int .i64 si, .int .i64 ho, .int .i64 nx, .slice x1 n1 d1, .slice x2 n2 d2, .slice (some ⟨g, 0, none⟩) 3 dl, .slice none 0 0] 35) = w0 at *
  have cA := bA.cells
  go_wp2_with fail
  refine (markSe sa si ho nx x1 x2 n1 d1 n2 d2 lo 1 r1 r2 _ p1 p2 AP.out m1 m2 (by omega) (by omega)).mono ?_
  rintro e w1 ⟨rfl, q1, q2, t1⟩
  have bA1 := bA.turn t1 (fun e => by rcases e with e | e; (have := (F1.out _ e).2; omega); (have := (F2.out _ e).2; omega))
  have pl1 := row9_turn pl t1 (by intro k hk e; simp [Value.ownBlock] at hk; subst hk; rcases e with e | e; exact A1.out _ e rfl; exact A2.out _ e rfl)
  have T1 : Hid _ := t1
  have hz1 : 0 ≤ 1 + 8 * (n1 : Int) + 8 * (n2 : Int) := by omega
  have hz2 : 1 + 8 * (n1 : Int) + 8 * (n2 : Int) ≤ 33554432 := by omega
  clear cA bA p1 p2 pl t1
  have cA := bA1.cells
  obtain ⟨z, hz⟩ : ∃ z, Hid (1 + 8 * (n1 : Int) + 8 * (n2 : Int) = z) := ⟨_, rfl⟩
  rw [hz.out] at hz1 hz2
  simp only [hz.out]
  go_wp2_with fail
  refine (markLk3 g dl z _ pl1 hz1 hz2).mono ?_
  rintro e w2 ⟨rfl, ql, t2⟩
  have q3 := q1.turn t2 (fun j hj e => A1.out j hj e)
  have q4 := q2.turn t2 (fun j hj e => A2.out j hj e)
  have bA2 := bA1.turn t2 (by omega)
  have R1 : Hid _ := q3.rd
  have R2 : Hid _ := q4.rd
  have RL : Hid _ := ql
  have TT : Hid (Turn (fun j => (Value.slice x1 n1 d1).ownBlock = some j ∨ (Value.slice x2 n2 d2).ownBlock = some j ∨ (Value.slice (some ⟨g, 0, none⟩) 3 dl).ownBlock = some j) w w2) := by
    have a1 : Turn (fun j => (Value.slice x1 n1 d1).ownBlock = some j ∨ (Value.slice x2 n2 d2).ownBlock = some j ∨ (Value.slice (some ⟨g, 0, none⟩) 3 dl).ownBlock = some j) w w1 := Turn.trans (⟨al.os, al.tape, al.output, al.size, fun b hb hs => al.block b hb (fun f => f)⟩ : Turn (fun j => (Value.slice x1 n1 d1).ownBlock = some j ∨ (Value.slice x2 n2 d2).ownBlock = some j ∨ (Value.slice (some ⟨g, 0, none⟩) 3 dl).ownBlock = some j) w w0) T1.out (fun i _ e => e.elim Or.inl (fun e => Or.inr (Or.inl e)))
    exact Turn.trans a1 t2 (fun i _ e => Or.inr (Or.inr (by rw [e]; rfl)))
  clear q1 q2 q3 q4 ql t2 T1 cA bA1 pl1
  have cA := bA2.cells
  go_wp2_with fail
  refine (markQ0 _ _).mono ?_
  rintro e w3 ⟨rfl, hw3⟩
  obtain rfl := hw3.symm
  go_wp2
  go_ret
  exact ⟨ret_i64 (by unfold eR; rw [hz.out]), ⟨R1.out, R2.out, ⟨g, rfl, hz.out.symm ▸ RL.out⟩⟩, TT.out⟩

set_option maxHeartbeats 3200000 in
theorem heldRt (sa si ho nx : Int) (x1 x2 yl yo : Option Addr) (n1 d1 n2 d2 dl dO : Nat) (w : World) (h : MkR w x1 x2 yl n1 n2 dl) (m1 : n1 ≤ 1048576) (m2 : n2 ≤ 1048576) :
    Calls Try.prog 28 #[.agg #[.int .i64 sa, .int .i64 si, .int .i64 ho, .int .i64 nx, .slice x1 n1 d1, .slice x2 n2 d2, .slice yl 3 dl, .slice none 0 0], .int .i64 1] w fun e w' => e = .returned (.int .i64 (eR n1 n2)) ∧ New w w' := by
  have al : New w (w.alloc (.cells #[.int .i64 sa, .int .i64 si, .int .i64 ho, .int .i64 nx, .slice x1 n1 d1, .slice x2 n2 d2, .slice yl 3 dl, .slice none 0 0] 35)) := (New.refl w).alloc _
  have bA := Blk.mk w w.heap.size 35 #[.int .i64 sa, .int .i64 si, .int .i64 ho, .int .i64 nx, .slice x1 n1 d1, .slice x2 n2 d2, .slice yl 3 dl, .slice none 0 0] rfl
  obtain ⟨g, rfl, hol⟩ := h.ol
  go_enter Try.func28, Try.ntmps28
  go_upto_region 1 with fail
  generalize w.alloc (.cells #[.int .i64 sa, .int .i64 si, .int .i64 ho, .int .i64 nx, .slice x1 n1 d1, .slice x2 n2 d2, .slice (some ⟨g, 0, none⟩) 3 dl, .slice none 0 0] 35) = w0 at *
  have cA := bA.cells
  go_wp2_with fail
  refine (heldSe sa si ho nx x1 x2 n1 d1 n2 d2 1 _ (h.o1.new al) (h.o2.new al) m1 m2 (by omega) (by omega)).mono ?_
  rintro e w1 ⟨rfl, t1⟩
  have bA1 := bA.new t1
  have pl := row9_new hol (al.trans t1)
  have N1 := al.trans t1
  have hz1 : 0 ≤ 1 + 8 * (n1 : Int) + 8 * (n2 : Int) := by omega
  have hz2 : 1 + 8 * (n1 : Int) + 8 * (n2 : Int) ≤ 33554432 := by omega
  clear cA bA hol t1 al
  have cA := bA1.cells
  generalize hzz : 1 + 8 * (n1 : Int) + 8 * (n2 : Int) = z at *
  have HZ : Hid (1 + 8 * (n1 : Int) + 8 * (n2 : Int) = z) := hzz
  clear hzz h
  go_wp2_with fail
  refine (heldLk3 g dl z _ pl hz1 hz2).mono ?_
  rintro e w2 ⟨rfl, hw2⟩
  obtain rfl := hw2.symm
  have hz3 : ¬ z + 1 + 1 + 1 + 1 + 1 + 1 + 1 + 1 + 1 + 1 + 1 + 1 + 1 + 1 + 1 < 0 := by omega
  go_wp2_with fail
  refine (heldQ0 _ _).mono ?_
  rintro e w3 ⟨rfl, hw3⟩
  obtain rfl := hw3.symm
  go_wp2
  go_ret
  exact ⟨ret_i64 (by unfold eR; rw [HZ.out]), N1⟩

end Go.Proofs.Ytmmkdmebmbpkgaa

namespace Go.Proofs.Ytmmkdmebmbpkgaa
open Go.ChangeShapes Go.WideShapes Go.ChangeAt Go.RowKit Go.Deep Go.Sort
set_option linter.unusedVariables false
set_option linter.unusedSimpArgs false

theorem markL0 (k : Int) (w : World) : Calls Try.prog 46 #[.slice none 0 0, .int .i64 k] w fun e w' => e = .returned (.int .i64 k) ∧ w' = w := by
  go_enter Try.func46, Try.ntmps46
  go_wp2
  refine wp_loop_rounds 1 ?_
  rw [rounds_succ]
  go_wp2
  go_ret
  exact ⟨rfl, rfl⟩
theorem heldL0 (k : Int) (w : World) : Calls Try.prog 50 #[.slice none 0 0, .int .i64 k] w fun e w' => e = .returned (.int .i64 k) ∧ w' = w := by
  go_enter Try.func50, Try.ntmps50
  go_wp2
  refine wp_loop_rounds 1 ?_
  rw [rounds_succ]
  go_wp2
  go_ret
  exact ⟨rfl, rfl⟩
theorem markO0 (k : Int) (w : World) : Calls Try.prog 27 #[.slice none 0 0, .int .i64 k] w fun e w' => e = .returned (.int .i64 k) ∧ w' = w := by
  go_enter Try.func27, Try.ntmps27
  go_wp2
  refine wp_loop_rounds 1 ?_
  rw [rounds_succ]
  go_wp2
  go_ret
  exact ⟨rfl, rfl⟩
theorem heldO0 (k : Int) (w : World) : Calls Try.prog 29 #[.slice none 0 0, .int .i64 k] w fun e w' => e = .returned (.int .i64 k) ∧ w' = w := by
  go_enter Try.func29, Try.ntmps29
  go_wp2
  refine wp_loop_rounds 1 ?_
  rw [rounds_succ]
  go_wp2
  go_ret
  exact ⟨rfl, rfl⟩

/-- What can be read of an answer. -/
structure SR (W : World) (x1 x2 yl yo : Option Addr) (r1 r2 : List Ru) (kl : Nat) : Prop where
  o1 : RsAt W x1 r1
  o2 : RsAt W x2 r2
  ol : LkAt W yl (List.replicate kl lv0)
  oo : OuAt W yo kl
theorem SR.new {W W' : World} {x1 x2 yl yo : Option Addr} {r1 r2 : List Ru} {kl : Nat} (h : SR W x1 x2 yl yo r1 r2 kl) (t : New W W') : SR W' x1 x2 yl yo r1 r2 kl := ⟨h.o1.new t, h.o2.new t, h.ol.new t, h.oo.new t⟩
theorem rs_lt {w : World} {a : Option Addr} {rs : List Ru} (h : RsAt w a rs) : ∀ x, rs ≠ [] → a = some x → x.block < w.heap.size := by
  intro x hr hx
  have hl : 0 < rs.length := List.length_pos_iff.2 hr
  obtain ⟨b, off, _, _, _, _, _, _, _, _, h1, -, h2, -⟩ := h.at 0 hl
  rw [h1] at hx
  cases hx
  exact World.block_lt_of_cell? w _ h2
/-- What is read stays where only later blocks turn. -/
theorem SR.late {W W' : World} {x1 x2 yl yo : Option Addr} {r1 r2 : List Ru} {kl : Nat} (h : SR W x1 x2 yl yo r1 r2 kl) (t : Turn (fun j => W.heap.size ≤ j) W W') : SR W' x1 x2 yl yo r1 r2 kl := by
  refine ⟨h.o1.turn t (fun x a b c => ?_), h.o2.turn t (fun x a b c => ?_), ?_, ?_⟩
  · have := rs_lt h.o1 x a b; omega
  · have := rs_lt h.o2 x a b; omega
  · intro i v hv
    obtain ⟨⟨b, off, ha, hc⟩, -⟩ := h.ol i v hv
    have hv' : v = lv0 := List.eq_of_mem_replicate (List.mem_of_getElem? hv)
    have h0 : W.cell? ⟨b, off + i * 7, none⟩ = some (.int .i64 v.st) := hc 0 (by omega)
    have hlt : b < W.heap.size := World.block_lt_of_cell? W _ h0
    have hb' := t.block b hlt (fun k => by omega)
    refine ⟨⟨b, off, ha, fun j hj => (World.cell?_of_block hb').trans (hc j hj)⟩, ?_⟩
    subst hv'
    exact ⟨BsAt.nil _ _, by simp [lv0], TdAt.nil _ _, by simp [lv0]⟩
  · intro j hj
    obtain ⟨b, off, e, hc⟩ := h.oo j hj
    have hlt : b < W.heap.size := World.block_lt_of_cell? W _ hc
    exact ⟨b, off, e, (World.cell?_of_block (t.block b hlt (fun k => by omega))).trans hc⟩

/-- What is read lies below b. -/
def SRB (W : World) (b : Nat) (x1 x2 yl yo : Option Addr) (r1 r2 : List Ru) (kl : Nat) : Prop := ∃ W0 : World, W0.heap.size ≤ b ∧ SR W0 x1 x2 yl yo r1 r2 kl ∧ Turn (fun j => b ≤ j) W0 W
theorem SRB.sr {W : World} {b : Nat} {x1 x2 yl yo : Option Addr} {r1 r2 : List Ru} {kl : Nat} (h : SRB W b x1 x2 yl yo r1 r2 kl) : SR W x1 x2 yl yo r1 r2 kl := by
  obtain ⟨W0, hb, k, t⟩ := h
  exact k.late ⟨t.os, t.tape, t.output, t.size, fun i hi hs => t.block i hi (fun e => hs (Nat.le_trans hb e))⟩
theorem SRB.turn {W W' : World} {b : Nat} {x1 x2 yl yo : Option Addr} {r1 r2 : List Ru} {kl : Nat} {S : Nat → Prop} (h : SRB W b x1 x2 yl yo r1 r2 kl) (t : Turn S W W') (hS : ∀ j, S j → b ≤ j) : SRB W' b x1 x2 yl yo r1 r2 kl := by
  obtain ⟨W0, hb, k, t0⟩ := h
  exact ⟨W0, hb, k, Turn.trans t0 t (fun i _ e => hS i e)⟩
theorem SRB.new {W W' : World} {b : Nat} {x1 x2 yl yo : Option Addr} {r1 r2 : List Ru} {kl : Nat} (h : SRB W b x1 x2 yl yo r1 r2 kl) (t : New W W') : SRB W' b x1 x2 yl yo r1 r2 kl := h.turn t (fun _ f => f.elim)
/-- What an answer owns, from lo on. -/
def NA (W : World) (lo : Nat) (x1 : Option Addr) (n1 d1 : Nat) (x2 : Option Addr) (n2 d2 : Nat) (yl : Option Addr) (kl dl : Nat) (yo : Option Addr) (dO : Nat) (r1 r2 : List Ru) : Prop := (kl = 3 ∧ NrOwn W lo n1 n2 x1 d1 x2 d2 r1 r2 yl dl yo dO) ∨ (kl = 0 ∧ n1 = 0 ∧ n2 = 0 ∧ x1 = none ∧ d1 = 0 ∧ x2 = none ∧ d2 = 0 ∧ yl = none ∧ dl = 0 ∧ yo = none ∧ dO = 0 ∧ r1 = [] ∧ r2 = [])
theorem NA.turn {W W' : World} {lo : Nat} {x1 : Option Addr} {n1 d1 : Nat} {x2 : Option Addr} {n2 d2 : Nat} {yl : Option Addr} {kl dl : Nat} {yo : Option Addr} {dO : Nat} {r1 r2 : List Ru} {S : Nat → Prop} (h : NA W lo x1 n1 d1 x2 n2 d2 yl kl dl yo dO r1 r2) (t : Turn S W W') (hS : ∀ k, lo ≤ k → k < W.heap.size → ¬ S k) : NA W' lo x1 n1 d1 x2 n2 d2 yl kl dl yo dO r1 r2 := by
  rcases h with ⟨e, h⟩ | h
  · exact .inl ⟨e, h.turn t hS⟩
  · exact .inr h
theorem NA.new {W W' : World} {lo : Nat} {x1 : Option Addr} {n1 d1 : Nat} {x2 : Option Addr} {n2 d2 : Nat} {yl : Option Addr} {kl dl : Nat} {yo : Option Addr} {dO : Nat} {r1 r2 : List Ru} (h : NA W lo x1 n1 d1 x2 n2 d2 yl kl dl yo dO r1 r2) (t : New W W') : NA W' lo x1 n1 d1 x2 n2 d2 yl kl dl yo dO r1 r2 := h.turn t (fun _ _ _ f => f)
theorem NA.low {W : World} {lo lo' : Nat} {x1 : Option Addr} {n1 d1 : Nat} {x2 : Option Addr} {n2 d2 : Nat} {yl : Option Addr} {kl dl : Nat} {yo : Option Addr} {dO : Nat} {r1 r2 : List Ru} (h : NA W lo x1 n1 d1 x2 n2 d2 yl kl dl yo dO r1 r2) (hl : lo' ≤ lo) : NA W lo' x1 n1 d1 x2 n2 d2 yl kl dl yo dO r1 r2 := by
  rcases h with ⟨e, h⟩ | h
  · exact .inl ⟨e, h.low hl⟩
  · exact .inr h
theorem NA.sr {W : World} {lo : Nat} {x1 : Option Addr} {n1 d1 : Nat} {x2 : Option Addr} {n2 d2 : Nat} {yl : Option Addr} {kl dl : Nat} {yo : Option Addr} {dO : Nat} {r1 r2 : List Ru} (h : NA W lo x1 n1 d1 x2 n2 d2 yl kl dl yo dO r1 r2) : SR W x1 x2 yl yo r1 r2 kl := by
  rcases h with ⟨rfl, h⟩ | ⟨rfl, rfl, rfl, rfl, rfl, rfl, rfl, rfl, rfl, rfl, rfl, rfl, rfl⟩
  · exact ⟨h.rd.o1, h.rd.o2, h.rd.ol, h.rd.oo⟩
  · exact ⟨RsAt.nil _ _, RsAt.nil _ _, LkAt.nil _ _, fun j hj => by omega⟩
/-- The blocks that are marked. -/
def NS (x1 : Option Addr) (n1 d1 : Nat) (x2 : Option Addr) (n2 d2 : Nat) (yl : Option Addr) (kl dl : Nat) (yo : Option Addr) (dO : Nat) (j : Nat) : Prop := (Value.slice x1 n1 d1).ownBlock = some j ∨ (Value.slice x2 n2 d2).ownBlock = some j ∨ (Value.slice yl kl dl).ownBlock = some j
theorem NA.rng {W : World} {lo : Nat} {x1 : Option Addr} {n1 d1 : Nat} {x2 : Option Addr} {n2 d2 : Nat} {yl : Option Addr} {kl dl : Nat} {yo : Option Addr} {dO : Nat} {r1 r2 : List Ru} (h : NA W lo x1 n1 d1 x2 n2 d2 yl kl dl yo dO r1 r2) : ∀ j, NS x1 n1 d1 x2 n2 d2 yl kl dl yo dO j → lo ≤ j ∧ j < W.heap.size := by
  intro j hj
  rcases h with ⟨rfl, h⟩ | ⟨rfl, rfl, rfl, rfl, rfl, rfl, rfl, rfl, rfl, rfl, rfl, rfl, rfl⟩
  · obtain ⟨_, _, _, _, fl⟩ := row9_form h.ol
    rcases hj with e | e | e
    · exact h.o1.blk j e
    · exact h.o2.blk j e
    · exact fl j e
  · rcases hj with e | e | e <;> simp [Value.ownBlock] at e
def eA (n1 n2 kl : Nat) : Int := if kl = 3 then eR n1 n2 else 1
/-- An answer that is marked. -/
def NM (W : World) (x1 : Option Addr) (n1 d1 : Nat) (x2 : Option Addr) (n2 d2 : Nat) (yl : Option Addr) (kl dl : Nat) (yo : Option Addr) (dO : Nat) : Prop := (kl = 3 ∧ MkR W x1 x2 yl n1 n2 dl ∧ OuAt W yo 3) ∨ (kl = 0 ∧ n1 = 0 ∧ n2 = 0 ∧ x1 = none ∧ d1 = 0 ∧ x2 = none ∧ d2 = 0 ∧ yl = none ∧ dl = 0 ∧ yo = none ∧ dO = 0)
theorem NM.new {W W' : World} {x1 : Option Addr} {n1 d1 : Nat} {x2 : Option Addr} {n2 d2 : Nat} {yl : Option Addr} {kl dl : Nat} {yo : Option Addr} {dO : Nat} (h : NM W x1 n1 d1 x2 n2 d2 yl kl dl yo dO) (t : New W W') : NM W' x1 n1 d1 x2 n2 d2 yl kl dl yo dO := by
  rcases h with ⟨e, h, k⟩ | h
  · exact .inl ⟨e, h.new t, k.new t⟩
  · exact .inr h

set_option maxHeartbeats 3200000 in
theorem markRt0 (sa si ho nx : Int) (w : World) :
    Calls Try.prog 26 #[.agg #[.int .i64 sa, .int .i64 si, .int .i64 ho, .int .i64 nx, .slice none 0 0, .slice none 0 0, .slice none 0 0, .slice none 0 0], .int .i64 1] w fun e w' => e = .returned (.int .i64 1) ∧ Turn (fun j => False) w w' := by
  have al : New w (w.alloc (.cells #[.int .i64 sa, .int .i64 si, .int .i64 ho, .int .i64 nx, .slice none 0 0, .slice none 0 0, .slice none 0 0, .slice none 0 0] 35)) := (New.refl w).alloc _
  have bA := Blk.mk w w.heap.size 35 #[.int .i64 sa, .int .i64 si, .int .i64 ho, .int .i64 nx, .slice none 0 0, .slice none 0 0, .slice none 0 0, .slice none 0 0] rfl
  go_enter Try.func26, Try.ntmps26
  go_upto_region 1 with fail
  generalize w.alloc (.cells #[.int .i64 sa, .int .i64 si, .int .i64 ho, .int .i64 nx, .slice none 0 0, .slice none 0 0, .slice none 0 0, .slice none 0 0] 35) = w0 at *
  have cA := bA.cells
  go_wp2_with fail
  refine (markSe sa si ho nx none none 0 0 0 0 0 1 [] [] _ (OvR.nil _ _) (OvR.nil _ _) (by simp [Value.ownBlock]) (by omega) (by omega) (by omega) (by omega)).mono ?_
  rintro e w1 ⟨rfl, q1, q2, t1⟩
  rw [show (1 + 8 * ((0 : Nat) : Int) + 8 * ((0 : Nat) : Int)) = 1 by omega]
  have t1' : Turn (fun j => False) w0 w1 := ⟨t1.os, t1.tape, t1.output, t1.size, fun b hb _ => t1.block b hb (by simp [Value.ownBlock])⟩
  have N1 : New w w1 := al.trans t1'
  have bA1 := bA.turn t1' (fun f => f)
  clear cA bA q1 q2 t1
  have cA := bA1.cells
  go_wp2_with fail
  refine (markL0 _ _).mono ?_
  rintro e w2 ⟨rfl, hw2⟩
  obtain rfl := hw2.symm
  go_wp2_with fail
  refine (markQ0 _ _).mono ?_
  rintro e w3 ⟨rfl, hw3⟩
  obtain rfl := hw3.symm
  go_wp2
  go_ret
  exact ⟨rfl, N1⟩

set_option maxHeartbeats 3200000 in
theorem heldRt0 (sa si ho nx : Int) (w : World) :
    Calls Try.prog 28 #[.agg #[.int .i64 sa, .int .i64 si, .int .i64 ho, .int .i64 nx, .slice none 0 0, .slice none 0 0, .slice none 0 0, .slice none 0 0], .int .i64 1] w fun e w' => e = .returned (.int .i64 1) ∧ New w w' := by
  have al : New w (w.alloc (.cells #[.int .i64 sa, .int .i64 si, .int .i64 ho, .int .i64 nx, .slice none 0 0, .slice none 0 0, .slice none 0 0, .slice none 0 0] 35)) := (New.refl w).alloc _
  have bA := Blk.mk w w.heap.size 35 #[.int .i64 sa, .int .i64 si, .int .i64 ho, .int .i64 nx, .slice none 0 0, .slice none 0 0, .slice none 0 0, .slice none 0 0] rfl
  go_enter Try.func28, Try.ntmps28
  go_upto_region 1 with fail
  generalize w.alloc (.cells #[.int .i64 sa, .int .i64 si, .int .i64 ho, .int .i64 nx, .slice none 0 0, .slice none 0 0, .slice none 0 0, .slice none 0 0] 35) = w0 at *
  have cA := bA.cells
  go_wp2_with fail
  refine (heldSe sa si ho nx none none 0 0 0 0 1 _ (RsAt.nil _ _) (RsAt.nil _ _) (by omega) (by omega) (by omega) (by omega)).mono ?_
  rintro e w1 ⟨rfl, t1⟩
  rw [show (1 + 8 * ((0 : Nat) : Int) + 8 * ((0 : Nat) : Int)) = 1 by omega]
  have N1 := al.trans t1
  have bA1 := bA.new t1
  clear cA bA t1
  have cA := bA1.cells
  go_wp2_with fail
  refine (heldL0 _ _).mono ?_
  rintro e w2 ⟨rfl, hw2⟩
  obtain rfl := hw2.symm
  go_wp2_with fail
  refine (heldQ0 _ _).mono ?_
  rintro e w3 ⟨rfl, hw3⟩
  obtain rfl := hw3.symm
  go_wp2
  go_ret
  exact ⟨rfl, N1⟩

set_option maxHeartbeats 6400000 in
theorem markRR (z sa si ho nx : Int) (x1 : Option Addr) (n1 d1 : Nat) (x2 : Option Addr) (n2 d2 : Nat) (yl : Option Addr) (kl dl : Nat) (yo : Option Addr) (dO : Nat) (lo : Nat) (r1 r2 : List Ru) (w : World) (h : NA w lo x1 n1 d1 x2 n2 d2 yl kl dl yo dO r1 r2) (m1 : n1 ≤ 1048576) (m2 : n2 ≤ 1048576) :
    Calls Try.prog 11 #[.agg #[.int .i64 z, .int .i64 sa, .int .i64 si, .int .i64 ho, .int .i64 nx, .slice x1 n1 d1, .slice x2 n2 d2, .slice yl kl dl, .slice none 0 0, .slice yo kl dO], .int .i64 1] w fun e w' => e = .returned (.int .i64 (eA n1 n2 kl)) ∧ NM w' x1 n1 d1 x2 n2 d2 yl kl dl yo dO ∧ Turn (fun j => NS x1 n1 d1 x2 n2 d2 yl kl dl yo dO j) w w' := by
  rcases h with ⟨rfl, h⟩ | ⟨rfl, rfl, rfl, rfl, rfl, rfl, rfl, rfl, rfl, rfl, rfl, rfl, rfl⟩
  · have al : New w (w.alloc (.cells #[.int .i64 z, .int .i64 sa, .int .i64 si, .int .i64 ho, .int .i64 nx, .slice x1 n1 d1, .slice x2 n2 d2, .slice yl 3 dl, .slice none 0 0, .slice yo 3 dO] 38)) := (New.refl w).alloc _
    have bA := Blk.mk w w.heap.size 38 #[.int .i64 z, .int .i64 sa, .int .i64 si, .int .i64 ho, .int .i64 nx, .slice x1 n1 d1, .slice x2 n2 d2, .slice yl 3 dl, .slice none 0 0, .slice yo 3 dO] rfl
    have hO : Hid (NrOwn w lo n1 n2 x1 d1 x2 d2 r1 r2 yl dl yo dO) := h
    have h' := h.new al
    clear h
    go_enter Try.func11, Try.ntmps11
    go_upto_region 1 with fail
    generalize w.alloc (.cells #[.int .i64 z, .int .i64 sa, .int .i64 si, .int .i64 ho, .int .i64 nx, .slice x1 n1 d1, .slice x2 n2 d2, .slice yl 3 dl, .slice none 0 0, .slice yo 3 dO] 38) = w0 at *
    have cA := bA.cells
    go_wp2_with fail
    refine (markRt sa si ho nx x1 x2 yl yo n1 d1 n2 d2 dl dO lo r1 r2 _ h'.o1 h'.o2 h'.ol h'.a12 h'.a1l h'.a2l m1 m2).mono ?_
    rintro e w1 ⟨rfl, hM, t1⟩
    have k1 := hO.out.o1.blk
    have k2 := hO.out.o2.blk
    obtain ⟨_, _, _, _, kl'⟩ := row9_form hO.out.ol
    have oo1 := row9_turn h'.oo t1 (by intro j hj e; rcases e with e | e | e; exact hO.out.a1o j e hj; exact hO.out.a2o j e hj; exact hO.out.alo j e hj)
    have bA1 := bA.turn t1 (by intro e; rcases e with e | e | e; (have := (k1 _ e).2; omega); (have := (k2 _ e).2; omega); (have := (kl' _ e).2; omega))
    have TT : Hid (Turn (fun j => NS x1 n1 d1 x2 n2 d2 yl 3 dl yo dO j) w w1) := Turn.trans (al.turn : Turn (fun j => NS x1 n1 d1 x2 n2 d2 yl 3 dl yo dO j) w w0) t1 (fun i _ e => e)
    have OO : Hid (OuAt w1 yo 3) := OuAt.of oo1
    have HM : Hid _ := hM
    clear cA bA t1 k1 k2 kl' oo1 hM h'
    have cA := bA1.cells
    go_wp2_with fail
    refine (markOu yo dO _ _ OO.out).mono ?_
    rintro e w2 ⟨rfl, hw2⟩
    obtain rfl := hw2.symm
    go_wp2
    go_ret
    exact ⟨ret_i64 (by unfold eA; rw [if_pos rfl]), .inl ⟨rfl, HM.out, OO.out⟩, TT.out⟩
  · have al : New w (w.alloc (.cells #[.int .i64 z, .int .i64 sa, .int .i64 si, .int .i64 ho, .int .i64 nx, .slice none 0 0, .slice none 0 0, .slice none 0 0, .slice none 0 0, .slice none 0 0] 38)) := (New.refl w).alloc _
    have bA := Blk.mk w w.heap.size 38 #[.int .i64 z, .int .i64 sa, .int .i64 si, .int .i64 ho, .int .i64 nx, .slice none 0 0, .slice none 0 0, .slice none 0 0, .slice none 0 0, .slice none 0 0] rfl
    go_enter Try.func11, Try.ntmps11
    go_upto_region 1 with fail
    generalize w.alloc (.cells #[.int .i64 z, .int .i64 sa, .int .i64 si, .int .i64 ho, .int .i64 nx, .slice none 0 0, .slice none 0 0, .slice none 0 0, .slice none 0 0, .slice none 0 0] 38) = w0 at *
    have cA := bA.cells
    go_wp2_with fail
    refine (markRt0 sa si ho nx _).mono ?_
    rintro e w1 ⟨rfl, t1⟩
    have bA1 := bA.turn t1 (fun f => f)
    have N1 : New w w1 := al.trans t1
    clear cA bA t1
    have cA := bA1.cells
    go_wp2_with fail
    refine (markO0 _ _).mono ?_
    rintro e w2 ⟨rfl, hw2⟩
    obtain rfl := hw2.symm
    go_wp2
    go_ret
    exact ⟨ret_i64 (by unfold eA; rw [if_neg (by omega)]), .inr ⟨rfl, rfl, rfl, rfl, rfl, rfl, rfl, rfl, rfl, rfl, rfl⟩, ⟨N1.os, N1.tape, N1.output, N1.size, fun b hb _ => N1.block b hb (fun f => f)⟩⟩

set_option maxHeartbeats 6400000 in
theorem heldRR (z sa si ho nx : Int) (x1 : Option Addr) (n1 d1 : Nat) (x2 : Option Addr) (n2 d2 : Nat) (yl : Option Addr) (kl dl : Nat) (yo : Option Addr) (dO : Nat) (w : World) (h : NM w x1 n1 d1 x2 n2 d2 yl kl dl yo dO) (m1 : n1 ≤ 1048576) (m2 : n2 ≤ 1048576) :
    Calls Try.prog 12 #[.agg #[.int .i64 z, .int .i64 sa, .int .i64 si, .int .i64 ho, .int .i64 nx, .slice x1 n1 d1, .slice x2 n2 d2, .slice yl kl dl, .slice none 0 0, .slice yo kl dO], .int .i64 1] w fun e w' => e = .returned (.int .i64 (eA n1 n2 kl)) ∧ New w w' := by
  rcases h with ⟨rfl, h, hO⟩ | ⟨rfl, rfl, rfl, rfl, rfl, rfl, rfl, rfl, rfl, rfl, rfl⟩
  · have al : New w (w.alloc (.cells #[.int .i64 z, .int .i64 sa, .int .i64 si, .int .i64 ho, .int .i64 nx, .slice x1 n1 d1, .slice x2 n2 d2, .slice yl 3 dl, .slice none 0 0, .slice yo 3 dO] 38)) := (New.refl w).alloc _
    have bA := Blk.mk w w.heap.size 38 #[.int .i64 z, .int .i64 sa, .int .i64 si, .int .i64 ho, .int .i64 nx, .slice x1 n1 d1, .slice x2 n2 d2, .slice yl 3 dl, .slice none 0 0, .slice yo 3 dO] rfl
    have hE : 0 ≤ eR n1 n2 := by unfold eR; omega
    have hE0 : ¬ eR n1 n2 < 0 := by omega
    go_enter Try.func12, Try.ntmps12
    go_upto_region 1 with fail
    generalize w.alloc (.cells #[.int .i64 z, .int .i64 sa, .int .i64 si, .int .i64 ho, .int .i64 nx, .slice x1 n1 d1, .slice x2 n2 d2, .slice yl 3 dl, .slice none 0 0, .slice yo 3 dO] 38) = w0 at *
    have cA := bA.cells
    go_wp2_with fail
    refine (heldRt sa si ho nx x1 x2 yl yo n1 d1 n2 d2 dl dO _ (h.new al) m1 m2).mono ?_
    rintro e w1 ⟨rfl, t1⟩
    have bA1 := bA.new t1
    have N1 := al.trans t1
    have OO := hO.new N1
    have HE : Hid (eA n1 n2 3 = eR n1 n2) := by unfold Hid eA; rw [if_pos rfl]
    clear cA bA t1 h hO
    have cA := bA1.cells
    generalize eR n1 n2 = E at *
    go_wp2_with fail
    refine (heldOu yo dO _ _ OO hE).mono ?_
    rintro e w2 ⟨rfl, hw2⟩
    obtain rfl := hw2.symm
    go_wp2
    go_ret
    exact ⟨ret_i64 HE.out.symm, N1⟩
  · have al : New w (w.alloc (.cells #[.int .i64 z, .int .i64 sa, .int .i64 si, .int .i64 ho, .int .i64 nx, .slice none 0 0, .slice none 0 0, .slice none 0 0, .slice none 0 0, .slice none 0 0] 38)) := (New.refl w).alloc _
    have bA := Blk.mk w w.heap.size 38 #[.int .i64 z, .int .i64 sa, .int .i64 si, .int .i64 ho, .int .i64 nx, .slice none 0 0, .slice none 0 0, .slice none 0 0, .slice none 0 0, .slice none 0 0] rfl
    go_enter Try.func12, Try.ntmps12
    go_upto_region 1 with fail
    generalize w.alloc (.cells #[.int .i64 z, .int .i64 sa, .int .i64 si, .int .i64 ho, .int .i64 nx, .slice none 0 0, .slice none 0 0, .slice none 0 0, .slice none 0 0, .slice none 0 0] 38) = w0 at *
    have cA := bA.cells
    go_wp2_with fail
    refine (heldRt0 sa si ho nx _).mono ?_
    rintro e w1 ⟨rfl, t1⟩
    have bA1 := bA.new t1
    have N1 := al.trans t1
    clear cA bA t1
    have cA := bA1.cells
    go_wp2_with fail
    refine (heldO0 _ _).mono ?_
    rintro e w2 ⟨rfl, hw2⟩
    obtain rfl := hw2.symm
    go_wp2
    go_ret
    exact ⟨ret_i64 (by unfold eA; rw [if_neg (by omega)]), N1⟩

end Go.Proofs.Ytmmkdmebmbpkgaa

namespace Go.Proofs.Ytmmkdmebmbpkgaa
open Go.ChangeShapes Go.WideShapes Go.ChangeAt Go.RowKit Go.Deep

theorem Try.cI64R : Try.prog.cellsOf 2 = 1 := by kernel_rfl
theorem Try.cRu : Try.prog.cellsOf 84 = 8 := by kernel_rfl
theorem Try.cPx : Try.prog.cellsOf 82 = 2 := by kernel_rfl
theorem Try.cBlR : Try.prog.cellsOf 4 = 1 := by kernel_rfl

set_option maxRecDepth 100000 in
theorem open_rule_cells {H : Type} {enc : TypeId × Value → H} {W : World} {base fuel : Nat} {t1 : Nat → Bool} {t2 : Bool} {c0 c1 c2 c3 c4 c5 c6 c7 : Value} {y : DataW H × List MemPlace}
    (h : DataW.trod enc Try.prog W base t1 t2 fuel 84 [c0, c1, c2, c3, c4, c5, c6, c7] = some y) :
    ∃ (r : Ru), [c0, c1, c2, c3, c4, c5, c6, c7] = r.cs ∧ In6 r.pp := by
  obtain ⟨xs, m, _, rfl, hl, hlen, hf⟩ := DataW.trod_struct Try.underlying84 h
  match xs, hlen with
  | [y0, y1, y2, y3, y4, y5, y6], _ =>
    have k0 := hf 0 _ rfl
    have k1 := hf 1 _ rfl
    have k2 := hf 2 _ rfl
    have k3 := hf 3 _ rfl
    have k4 := hf 4 _ rfl
    have k5 := hf 5 _ rfl
    have k6 := hf 6 _ rfl
    simp [Try.cI64R, Try.cPx, Try.cBlR] at k0 k1 k2 k3 k4 k5 k6
    obtain ⟨ys, m', _, rfl, hl', hlen', hf'⟩ := DataW.trod_struct Try.underlying82 k0
    match ys, hlen' with
    | [z0, z1], _ =>
      have j0 := hf' 0 _ rfl
      have j1 := hf' 1 _ rfl
      simp [Try.cI64R] at j0 j1
      obtain ⟨a, e0, -, w0⟩ := DataW.trod_int Try.underlying2 j0
      obtain ⟨l, e1, -, w1⟩ := DataW.trod_int Try.underlying2 j1
      obtain ⟨ls, e2, -, w2⟩ := DataW.trod_int Try.underlying2 k1
      obtain ⟨ms, e3, -, w3⟩ := DataW.trod_int Try.underlying2 k2
      obtain ⟨s, e4, -, w4⟩ := DataW.trod_int Try.underlying2 k3
      obtain ⟨d, e5, -⟩ := DataW.trod_bool Try.underlying4 k4
      obtain ⟨lc, e6, -, w6⟩ := DataW.trod_int Try.underlying2 k5
      obtain ⟨pp, e7, -, w7⟩ := DataW.trod_int Try.underlying2 k6
      simp only [List.cons.injEq, and_true] at e0 e1 e2 e3 e4 e5 e6 e7
      subst e0 e1 e2 e3 e4 e5 e6 e7
      exact ⟨⟨a, l, ls, ms, s, d, lc, pp⟩, rfl, in6_of_wf w7⟩

set_option maxRecDepth 100000 in
theorem open_rule {H : Type} {enc : TypeId × Value → H} {W : World} {base b0 : Nat} {r : Reach} {t1 : Nat → Bool} {t2 : Bool} {v : Value} {d : DataW H} {p : List MemPlace}
    (hv : Value.okWide Try.prog W r b0 84 v) (h0 : DataW.Trod enc Try.prog W base t1 t2 84 v d p) :
    ∃ (a l ls ms s : Int) (d : Bool) (lc pp : Int), v = .agg #[.int .i64 a, .int .i64 l, .int .i64 ls, .int .i64 ms, .int .i64 s, .bool d, .int .i64 lc, .int .i64 pp] := by
  obtain ⟨cs, rfl, hsz⟩ := okWide_struct Try.underlying84 hv
  obtain ⟨c0, c1, c2, c3, c4, c5, c6, c7, rfl⟩ := array8 (hsz.trans Try.cRu)
  obtain ⟨fuel, hf⟩ := h0
  have hf' : DataW.trod enc Try.prog W base t1 t2 fuel 84 [c0, c1, c2, c3, c4, c5, c6, c7] = some (d, p) := by simpa [Value.cells] using hf
  obtain ⟨r, hr, -⟩ := open_rule_cells hf'
  simp only [Ru.cs, List.cons.injEq, and_true] at hr
  obtain ⟨rfl, rfl, rfl, rfl, rfl, rfl, rfl, rfl⟩ := hr
  exact ⟨_, _, _, _, _, _, _, _, rfl⟩

set_option maxRecDepth 100000 in
theorem open_rules {H : Type} {enc : TypeId × Value → H} {W : World} {base : Nat} {t1 : Nat → Bool} {t2 : Bool} {a : Option Addr} {n c : Nat} {d : DataW H} {p : List MemPlace}
    (h0 : DataW.Trod enc Try.prog W base t1 t2 24 (.slice a n c) d p) : ∃ rs, RsAt W a rs ∧ rs.length = n ∧ n ≤ maxLen := by
  obtain ⟨fuel, hf⟩ := h0
  rcases open_slice Try.underlying24 hf with ⟨hcs, _⟩ | ⟨x, l, cc, m, k, D, Pl, hcs, _, hl, hm, hmm, _, hall⟩
  · simp [Value.cells] at hcs
    obtain ⟨rfl, rfl, rfl⟩ := hcs
    exact ⟨[], RsAt.nil _ _, rfl, Nat.zero_le _⟩
  · simp [Value.cells] at hcs
    obtain ⟨rfl, rfl, rfl⟩ := hcs
    have hlm : n ≤ m := by rw [hmm]; split <;> omega
    have each : ∀ i, i < n → ∃ r : Ru, ∀ j, j < 8 → W.cell? (x.add (i * 8 + j)) = r.cs[j]? := by
      intro i hi
      obtain ⟨cs', h1, h2⟩ := hall i (by omega)
      rw [Try.cRu] at h1
      obtain ⟨_, hlen, hcell⟩ := World.cells?_some h1
      match cs', hlen with
      | [c0, c1, c2, c3, c4, c5, c6, c7], _ =>
        obtain ⟨r, hr, -⟩ := open_rule_cells h2
        refine ⟨r, fun j hj => ?_⟩
        have hc := hcell j (by omega)
        rw [add_add] at hc
        rw [hc, hr]
    refine ⟨(List.range n).map (fun i => if h : i < n then (each i h).choose else ru0), ?_, by simp, Nat.le_trans hl hm⟩
    obtain ⟨b, off, spot⟩ := x
    intro i q hq
    have hi : i < n := by
      have := (List.getElem?_eq_some_iff.1 hq).1
      simpa using this
    have hq' : q = (each i hi).choose := by
      rw [List.getElem?_map, List.getElem?_range hi] at hq
      simpa [hi] using hq.symm
    have hs := (each i hi).choose_spec
    rw [← hq'] at hs
    have hspot : spot = none := by
      obtain ⟨r0, hr0⟩ := each 0 (by omega)
      have h2 : W.cell? (Addr.add ⟨b, off, spot⟩ (0 * 8 + 0)) = some (.int .i64 r0.a) := hr0 0 (by omega)
      simpa [Addr.add] using World.cell?_spot h2
    subst hspot
    refine ⟨b, off, rfl, fun j hj => ?_⟩
    have := hs j hj
    rw [Addr.add_lit] at this
    rw [Nat.add_assoc]
    exact this

end Go.Proofs.Ytmmkdmebmbpkgaa

namespace Go.Proofs.Ytmmkdmebmbpkgaa
open Go.ChangeShapes Go.WideShapes Go.ChangeAt Go.RowKit Go.Deep
set_option linter.unusedVariables false

theorem arr6g {α : Type} {cs : Array α} (h : cs.size = 6) : ∃ c0 c1 c2 c3 c4 c5, cs = #[c0, c1, c2, c3, c4, c5] := by
  obtain ⟨l⟩ := cs
  match l, h with
  | [c0, c1, c2, c3, c4, c5], _ => exact ⟨c0, c1, c2, c3, c4, c5, rfl⟩
theorem Try.cSe9 : Try.prog.cellsOf 26 = 6 := by kernel_rfl
theorem Try.cRs9 : Try.prog.cellsOf 24 = 1 := by kernel_rfl
theorem Try.cI9g : Try.prog.cellsOf 2 = 1 := by kernel_rfl
theorem Try.cCf9 : Try.prog.cellsOf 23 = 3 := by kernel_rfl

set_option maxRecDepth 100000 in
theorem open_rules_cell {H : Type} {enc : TypeId × Value → H} {W : World} {base fuel : Nat} {t1 : Nat → Bool} {t2 : Bool} {v : Value} {y : DataW H × List MemPlace}
    (h : DataW.trod enc Try.prog W base t1 t2 fuel 24 [v] = some y) : ∃ (a : Option Addr) (n c : Nat) (rs : List Ru), v = .slice a n c ∧ RsAt W a rs ∧ rs.length = n ∧ n ≤ maxLen := by
  have hb : ∃ (a : Option Addr) (n c : Nat), v = .slice a n c := by
    rcases open_slice Try.underlying24 h with ⟨hcs, _⟩ | ⟨x, l, cc, m, k, D, Pl, hcs, _⟩
    · simp only [List.cons.injEq, and_true] at hcs
      exact ⟨none, 0, 0, hcs⟩
    · simp only [List.cons.injEq, and_true] at hcs
      exact ⟨some x, l, cc, hcs⟩
  obtain ⟨a, n, c, rfl⟩ := hb
  obtain ⟨rs, k1, k2, k3⟩ := open_rules (enc := enc) (W := W) (base := base) (t1 := t1) (t2 := t2) (a := a) (n := n) (c := c) (d := y.1) (p := y.2) ⟨fuel, by simpa [Value.cells] using h⟩
  exact ⟨a, n, c, rs, rfl, k1, k2, k3⟩

set_option maxRecDepth 100000 in
theorem open_settings_cells {H : Type} {enc : TypeId × Value → H} {W : World} {base fuel : Nat} {t1 : Nat → Bool} {t2 : Bool} {c0 c1 c2 c3 c4 c5 : Value} {y : DataW H × List MemPlace}
    (h : DataW.trod enc Try.prog W base t1 t2 fuel 26 [c0, c1, c2, c3, c4, c5] = some y) :
    ∃ (sa si ho nx : Int) (a1 a2 : Option Addr) (n1 k1 n2 k2 : Nat) (r1 r2 : List Ru), [c0, c1, c2, c3, c4, c5] = [.int .i64 sa, .int .i64 si, .int .i64 ho, .int .i64 nx, .slice a1 n1 k1, .slice a2 n2 k2] ∧ (RsAt W a1 r1 ∧ r1.length = n1 ∧ n1 ≤ maxLen) ∧ (RsAt W a2 r2 ∧ r2.length = n2 ∧ n2 ≤ maxLen) := by
  obtain ⟨xs, m, _, rfl, hl, hlen, hf⟩ := DataW.trod_struct Try.underlying26 h
  match xs, hlen with
  | [y0, y1, y2, y3], _ =>
    have k0 := hf 0 _ rfl
    have k1 := hf 1 _ rfl
    have k2 := hf 2 _ rfl
    have k3 := hf 3 _ rfl
    simp [Try.cI9g, Try.cCf9, Try.cRs9] at k0 k1 k2 k3
    obtain ⟨ys, m', _, rfl, hl', hlen', hf'⟩ := DataW.trod_struct Try.underlying23 k0
    match ys, hlen' with
    | [z0, z1, z2], _ =>
      have j0 := hf' 0 _ rfl
      have j1 := hf' 1 _ rfl
      have j2 := hf' 2 _ rfl
      simp [Try.cI9g] at j0 j1 j2
      obtain ⟨sa, e0, -, w0⟩ := DataW.trod_int Try.underlying2 j0
      obtain ⟨si, e1, -, w1⟩ := DataW.trod_int Try.underlying2 j1
      obtain ⟨ho, e2, -, w2⟩ := DataW.trod_int Try.underlying2 j2
      obtain ⟨nx, e3, -, w3⟩ := DataW.trod_int Try.underlying2 k1
      obtain ⟨a1, n1, d1, r1, rfl, u1, u2, u3⟩ := open_rules_cell k2
      obtain ⟨a2, n2, d2, r2, rfl, v1, v2, v3⟩ := open_rules_cell k3
      simp only [List.cons.injEq, and_true] at e0 e1 e2 e3
      subst e0 e1 e2 e3
      exact ⟨sa, si, ho, nx, a1, a2, n1, d1, n2, d2, r1, r2, rfl, ⟨u1, u2, u3⟩, ⟨v1, v2, v3⟩⟩

set_option maxRecDepth 100000 in
theorem open_settings {H : Type} {enc : TypeId × Value → H} {W : World} {base b0 : Nat} {r : Reach} {t1 : Nat → Bool} {t2 : Bool} {v : Value} {d : DataW H} {p : List MemPlace}
    (hv : Value.okWide Try.prog W r b0 26 v) (h0 : DataW.Trod enc Try.prog W base t1 t2 26 v d p) :
    ∃ (sa si ho nx : Int) (a1 a2 : Option Addr) (n1 k1 n2 k2 : Nat) (r1 r2 : List Ru), v = .agg #[.int .i64 sa, .int .i64 si, .int .i64 ho, .int .i64 nx, .slice a1 n1 k1, .slice a2 n2 k2] ∧ (RsAt W a1 r1 ∧ r1.length = n1 ∧ n1 ≤ maxLen) ∧ (RsAt W a2 r2 ∧ r2.length = n2 ∧ n2 ≤ maxLen) := by
  obtain ⟨cs, rfl, hsz⟩ := okWide_struct Try.underlying26 hv
  obtain ⟨c0, c1, c2, c3, c4, c5, rfl⟩ := arr6g (hsz.trans Try.cSe9)
  obtain ⟨fuel, hf⟩ := h0
  have hf' : DataW.trod enc Try.prog W base t1 t2 fuel 26 [c0, c1, c2, c3, c4, c5] = some (d, p) := by simpa [Value.cells] using hf
  obtain ⟨sa, si, ho, nx, a1, a2, n1, k1, n2, k2, r1, r2, hr, x1, x2⟩ := open_settings_cells hf'
  simp only [List.cons.injEq, and_true] at hr
  obtain ⟨rfl, rfl, rfl, rfl, rfl, rfl⟩ := hr
  exact ⟨sa, si, ho, nx, a1, a2, n1, k1, n2, k2, r1, r2, rfl, x1, x2⟩

end Go.Proofs.Ytmmkdmebmbpkgaa
