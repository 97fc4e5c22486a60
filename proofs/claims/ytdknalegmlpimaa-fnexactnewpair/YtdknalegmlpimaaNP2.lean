/- What is proved here: what the marking of lists of rules leaves and what the looking for the marks answers, for lists of at most 1048576 rules. What is proved here: what the looking for the marks of rules answers, for lists of at most 1048576 rules, and what is marked and held of nothing. What is proved here: what the marking of three links of zeros leaves and what the looking for the marks answers. What is proved here: what the marking of settings leaves and what the looking for the marks answers, for rules of at most 1048576. What is proved here: what the marking of two new nodes and of three empty wires leaves, and what the looking for the marks answers. No condition. What is proved here: how structs that lie in blocks are loaded and stored, whole, in a region that draws its order. No condition. -/
import Derived.Test.YtdknalegmlpimaaNP1
import Derived.Test.YtdknalegmlpimaaBytes
import Derived.Deep.RegionHeld3
import Derived.Laws.Tables
import Derived.Laws.Rows
namespace Go.Proofs.Ytdknalegmlpimaa
open Go.RowKit Go.Sort
set_option linter.unusedVariables false

/-- A rule, marked from k on. -/
def mkR1 (k : Int) : Ru := ⟨k, k + 1, k + 1 + 1, k + 1 + 1 + 1, k + 1 + 1 + 1 + 1, (k + 1 + 1 + 1 + 1 + 1) % 3 == 0, k + 1 + 1 + 1 + 1 + 1 + 1, k + 1 + 1 + 1 + 1 + 1 + 1 + 1⟩
/-- So many rules, marked from k on. -/
def mkRs (k : Int) : Nat → List Ru
  | 0 => []
  | n + 1 => mkRs k n ++ [mkR1 (k + 8 * n)]
theorem mkRs_length (k : Int) : ∀ n, (mkRs k n).length = n
  | 0 => rfl
  | n + 1 => by simp [mkRs, mkRs_length k n]
theorem mkRs_get (k : Int) : ∀ (n j : Nat), j < n → (mkRs k n)[j]? = some (mkR1 (k + 8 * j))
  | 0, j, h => by omega
  | n + 1, j, h => by
    unfold mkRs
    by_cases e : j < n
    · rw [List.getElem?_append_left (by rw [mkRs_length]; exact e)]
      exact mkRs_get k n j e
    · obtain rfl : j = n := by omega
      rw [List.getElem?_append_right (by rw [mkRs_length]; omega), mkRs_length, Nat.sub_self]
      rfl
theorem mkRs_set (k : Int) (rs : List Ru) (j : Nat) (hj : j < rs.length) : (mkRs k j ++ rs.drop j).set j (mkR1 (k + 8 * j)) = mkRs k (j + 1) ++ rs.drop (j + 1) := by
  rw [List.set_append_right _ _ (by rw [mkRs_length]; omega), mkRs_length, Nat.sub_self, List.drop_eq_getElem_cons hj, List.set_cons_zero]
  simp [mkRs]

theorem setR8 (w : World) (B j : Nat) (v0 v1 v2 v3 v4 v5 v6 v7 : Value) : Turn (fun k => k = B) w ((((((((w.setCell ⟨B, j, none⟩ v0).setCell ⟨B, j + 1, none⟩ v1).setCell ⟨B, j + 2, none⟩ v2).setCell ⟨B, j + 3, none⟩ v3).setCell ⟨B, j + 4, none⟩ v4).setCell ⟨B, j + 5, none⟩ v5).setCell ⟨B, j + 6, none⟩ v6).setCell ⟨B, j + 7, none⟩ v7) :=
  Turn.here9 (Turn.here9 (Turn.here9 (Turn.here9 (Turn.here9 (Turn.here9 (Turn.here9 (Turn.here9 (Turn.refl _ _) _) _) _) _) _) _) _) _

set_option maxRecDepth 100000 in
set_option maxHeartbeats 6400000 in
theorem markRu (g n c : Nat) (k : Int) (rs : List Ru) (w : World) (h : OwR w g n c rs) (hm : n ≤ 1048576) (hk0 : 0 ≤ k) (hk : k ≤ 16777216) :
    Calls Try.prog 26 #[.slice (some ⟨g, 0, none⟩) n c, .int .i64 k] w fun e w' => e = .returned (.int .i64 (k + 8 * (n : Int))) ∧ OwR w' g n c (mkRs k n) ∧ Turn (fun j => j = g) w w' := by
  have HN : Hid (rs.length = n) := h.len
  go_enter Try.func26, Try.ntmps26
  go_wp2
  go_loopw [1, 5] (fun t i wr => ∃ (j : Nat) (z : Int), j ≤ n ∧ z = k + 8 * (j : Int) ∧ t = .int .i64 z ∧ i = .int .i64 j ∧ Turn (fun j => j = g) w wr ∧ OwR wr g n c (mkRs k j ++ rs.drop j)) (fun _ i _ => n - (intOf i).toNat)
  case atStart => exact ⟨0, k, Nat.zero_le _, by omega, rfl, rfl, Turn.refl _ _, by simpa [mkRs] using h⟩
  case round =>
    obtain ⟨j, z, hj, hz, rfl, rfl, ht, ho⟩ := hrel
    by_cases hlt : j < n
    · have hz1 : 0 ≤ z := by omega
      have hz2 : z ≤ 25165824 := by omega
      have HZ : Hid (z = k + 8 * (j : Int)) := hz
      have hset := mkRs_set k rs j (by have := HN.out; omega)
      rw [← hz] at hset
      have HS : Hid (cellsR ((mkRs k j ++ rs.drop j).set j (mkR1 z)) = cellsR (mkRs k (j + 1) ++ rs.drop (j + 1))) := congrArg cellsR hset
      have HC : Hid _ := cellsR_set (mkRs k j ++ rs.drop j) j (mkR1 z)
      have hl0 : Hid ((cellsR (mkRs k j ++ rs.drop j)).length = n * 8) := by show _ = _; rw [cellsR_len, ho.len]
      have O0 : wr.ownsRow 0 74 8 (.slice (some ⟨g, 0, none⟩) n c) n (cellsR (mkRs k j ++ rs.drop j)) := ho
      have T0 : Turn (fun j => j = g) w wr := ht
      clear hz hset ho h ht
      generalize cellsR (mkRs k j ++ rs.drop j) = X0 at *
      generalize wr = W0 at *
      have c0 : ∃ v, W0.cell? ⟨g, j * 8, none⟩ = some v := by
        have hh := World.ownsRow.cellAt O0 (j * 8) (by omega)
        exact ⟨_, hh.trans (List.getElem?_eq_getElem (by skip; have := hl0.out; omega))⟩
      obtain ⟨q0, c0⟩ := c0
      have f0 := World.ownsRow.frozenAt O0 (j * 8)
      have O1 := (World.ownsRow.stored O0 (j * 8) (.int .i64 z)).1
      have T1 : Turn (fun j => j = g) w (W0.setCell ⟨g, j * 8, none⟩ (.int .i64 z)) := Turn.here9 T0 _
      have P1 : Hid _ := O1
      have S1 : Hid _ := T1
      clear O0 T0 O1 T1
      go_upto_region 6 with fail
      generalize (W0.setCell ⟨g, j * 8, none⟩ (.int .i64 z)) = W1 at *
      have O1 := P1.out
      have T1 := S1.out
      clear P1 S1 c0 f0
      have c1 : ∃ v, W1.cell? ⟨g, j * 8 + 1, none⟩ = some v := by
        have hh := World.ownsRow.cellAt O1 (j * 8 + 1) (by omega)
        exact ⟨_, hh.trans (List.getElem?_eq_getElem (by simp only [List.length_set]; have := hl0.out; omega))⟩
      obtain ⟨q1, c1⟩ := c1
      have f1 := World.ownsRow.frozenAt O1 (j * 8 + 1)
      have O2 := (World.ownsRow.stored O1 (j * 8 + 1) (.int .i64 (z + 1))).1
      have T2 : Turn (fun j => j = g) w (W1.setCell ⟨g, j * 8 + 1, none⟩ (.int .i64 (z + 1))) := Turn.here9 T1 _
      have P2 : Hid _ := O2
      have S2 : Hid _ := T2
      clear O1 T1 O2 T2
      go_upto_region 8 with fail
      generalize (W1.setCell ⟨g, j * 8 + 1, none⟩ (.int .i64 (z + 1))) = W2 at *
      have O2 := P2.out
      have T2 := S2.out
      clear P2 S2 c1 f1
      have c2 : ∃ v, W2.cell? ⟨g, j * 8 + 2, none⟩ = some v := by
        have hh := World.ownsRow.cellAt O2 (j * 8 + 2) (by omega)
        exact ⟨_, hh.trans (List.getElem?_eq_getElem (by simp only [List.length_set]; have := hl0.out; omega))⟩
      obtain ⟨q2, c2⟩ := c2
      have f2 := World.ownsRow.frozenAt O2 (j * 8 + 2)
      have O3 := (World.ownsRow.stored O2 (j * 8 + 2) (.int .i64 (z + 1 + 1))).1
      have T3 : Turn (fun j => j = g) w (W2.setCell ⟨g, j * 8 + 2, none⟩ (.int .i64 (z + 1 + 1))) := Turn.here9 T2 _
      have P3 : Hid _ := O3
      have S3 : Hid _ := T3
      clear O2 T2 O3 T3
      go_upto_region 10 with fail
      generalize (W2.setCell ⟨g, j * 8 + 2, none⟩ (.int .i64 (z + 1 + 1))) = W3 at *
      have O3 := P3.out
      have T3 := S3.out
      clear P3 S3 c2 f2
      have c3 : ∃ v, W3.cell? ⟨g, j * 8 + 3, none⟩ = some v := by
        have hh := World.ownsRow.cellAt O3 (j * 8 + 3) (by omega)
        exact ⟨_, hh.trans (List.getElem?_eq_getElem (by simp only [List.length_set]; have := hl0.out; omega))⟩
      obtain ⟨q3, c3⟩ := c3
      have f3 := World.ownsRow.frozenAt O3 (j * 8 + 3)
      have O4 := (World.ownsRow.stored O3 (j * 8 + 3) (.int .i64 (z + 1 + 1 + 1))).1
      have T4 : Turn (fun j => j = g) w (W3.setCell ⟨g, j * 8 + 3, none⟩ (.int .i64 (z + 1 + 1 + 1))) := Turn.here9 T3 _
      have P4 : Hid _ := O4
      have S4 : Hid _ := T4
      clear O3 T3 O4 T4
      go_upto_region 12 with fail
      generalize (W3.setCell ⟨g, j * 8 + 3, none⟩ (.int .i64 (z + 1 + 1 + 1))) = W4 at *
      have O4 := P4.out
      have T4 := S4.out
      clear P4 S4 c3 f3
      have c4 : ∃ v, W4.cell? ⟨g, j * 8 + 4, none⟩ = some v := by
        have hh := World.ownsRow.cellAt O4 (j * 8 + 4) (by omega)
        exact ⟨_, hh.trans (List.getElem?_eq_getElem (by simp only [List.length_set]; have := hl0.out; omega))⟩
      obtain ⟨q4, c4⟩ := c4
      have f4 := World.ownsRow.frozenAt O4 (j * 8 + 4)
      have O5 := (World.ownsRow.stored O4 (j * 8 + 4) (.int .i64 (z + 1 + 1 + 1 + 1))).1
      have T5 : Turn (fun j => j = g) w (W4.setCell ⟨g, j * 8 + 4, none⟩ (.int .i64 (z + 1 + 1 + 1 + 1))) := Turn.here9 T4 _
      have P5 : Hid _ := O5
      have S5 : Hid _ := T5
      clear O4 T4 O5 T5
      go_upto_region 14 with fail
      generalize (W4.setCell ⟨g, j * 8 + 4, none⟩ (.int .i64 (z + 1 + 1 + 1 + 1))) = W5 at *
      have O5 := P5.out
      have T5 := S5.out
      clear P5 S5 c4 f4
      have c5 : ∃ v, W5.cell? ⟨g, j * 8 + 5, none⟩ = some v := by
        have hh := World.ownsRow.cellAt O5 (j * 8 + 5) (by omega)
        exact ⟨_, hh.trans (List.getElem?_eq_getElem (by simp only [List.length_set]; have := hl0.out; omega))⟩
      obtain ⟨q5, c5⟩ := c5
      have f5 := World.ownsRow.frozenAt O5 (j * 8 + 5)
      have O6 := (World.ownsRow.stored O5 (j * 8 + 5) (.bool ((z + 1 + 1 + 1 + 1 + 1) % 3 == 0))).1
      have T6 : Turn (fun j => j = g) w (W5.setCell ⟨g, j * 8 + 5, none⟩ (.bool ((z + 1 + 1 + 1 + 1 + 1) % 3 == 0))) := Turn.here9 T5 _
      have P6 : Hid _ := O6
      have S6 : Hid _ := T6
      clear O5 T5 O6 T6
      go_upto_region 16 with fail
      generalize (W5.setCell ⟨g, j * 8 + 5, none⟩ (.bool ((z + 1 + 1 + 1 + 1 + 1) % 3 == 0))) = W6 at *
      have O6 := P6.out
      have T6 := S6.out
      clear P6 S6 c5 f5
      have c6 : ∃ v, W6.cell? ⟨g, j * 8 + 6, none⟩ = some v := by
        have hh := World.ownsRow.cellAt O6 (j * 8 + 6) (by omega)
        exact ⟨_, hh.trans (List.getElem?_eq_getElem (by simp only [List.length_set]; have := hl0.out; omega))⟩
      obtain ⟨q6, c6⟩ := c6
      have f6 := World.ownsRow.frozenAt O6 (j * 8 + 6)
      have O7 := (World.ownsRow.stored O6 (j * 8 + 6) (.int .i64 (z + 1 + 1 + 1 + 1 + 1 + 1))).1
      have T7 : Turn (fun j => j = g) w (W6.setCell ⟨g, j * 8 + 6, none⟩ (.int .i64 (z + 1 + 1 + 1 + 1 + 1 + 1))) := Turn.here9 T6 _
      have P7 : Hid _ := O7
      have S7 : Hid _ := T7
      clear O6 T6 O7 T7
      go_upto_region 18 with fail
      generalize (W6.setCell ⟨g, j * 8 + 6, none⟩ (.int .i64 (z + 1 + 1 + 1 + 1 + 1 + 1))) = W7 at *
      have O7 := P7.out
      have T7 := S7.out
      clear P7 S7 c6 f6
      have c7 : ∃ v, W7.cell? ⟨g, j * 8 + 7, none⟩ = some v := by
        have hh := World.ownsRow.cellAt O7 (j * 8 + 7) (by omega)
        exact ⟨_, hh.trans (List.getElem?_eq_getElem (by simp only [List.length_set]; have := hl0.out; omega))⟩
      obtain ⟨q7, c7⟩ := c7
      have f7 := World.ownsRow.frozenAt O7 (j * 8 + 7)
      have O8 := (World.ownsRow.stored O7 (j * 8 + 7) (.int .i64 (z + 1 + 1 + 1 + 1 + 1 + 1 + 1))).1
      have T8 : Turn (fun j => j = g) w (W7.setCell ⟨g, j * 8 + 7, none⟩ (.int .i64 (z + 1 + 1 + 1 + 1 + 1 + 1 + 1))) := Turn.here9 T7 _
      have P8 : Hid _ := O8
      have S8 : Hid _ := T8
      clear O7 T7 O8 T8
      go_wp2
      go_roundw
      case rel =>
        refine ⟨j + 1, z + 1 + 1 + 1 + 1 + 1 + 1 + 1 + 1, by omega, by have := HZ.out; omega, rfl, by go_num, S8.out, ?_⟩
        have e := HC.out
        rw [HS.out] at e
        unfold OwR
        rw [← e]
        exact P8.out
      case measure => simp [intOf]; omega
    · obtain rfl : j = n := by omega
      go_wp2
      go_ret
      refine ⟨by subst hz; rfl, ?_, ht⟩
      rwa [List.drop_of_length_le (by have := HN.out; omega), List.append_nil] at ho

end Go.Proofs.Ytdknalegmlpimaa

namespace Go.Proofs.Ytdknalegmlpimaa
open Go.RowKit Go.Sort
set_option linter.unusedVariables false

set_option maxRecDepth 100000 in
set_option maxHeartbeats 6400000 in
theorem heldRu (x : Option Addr) (n c : Nat) (k : Int) (w : World) (h : RsAt w x (mkRs k n)) (hm : n ≤ 1048576) (hk0 : 0 ≤ k) (hk : k ≤ 16777216) :
    Calls Try.prog 68 #[.slice x n c, .int .i64 k] w fun e w' => e = .returned (.int .i64 (k + 8 * (n : Int))) ∧ New w w' := by
  go_enter Try.func68, Try.ntmps68
  go_wp2
  go_loopw [1, 5] (fun t i wr => ∃ (j : Nat) (z : Int), j ≤ n ∧ z = k + 8 * (j : Int) ∧ t = .int .i64 z ∧ i = .int .i64 j ∧ New w wr) (fun _ i _ => n - (intOf i).toNat)
  case atStart => exact ⟨0, k, Nat.zero_le _, by omega, rfl, rfl, New.refl _⟩
  case round =>
    obtain ⟨j, z, hj, hz, rfl, rfl, hnw⟩ := hrel
    by_cases hlt : j < n
    · obtain ⟨b, off, f0, f1, f2, f3, f4, f5, f6, f7, rfl, hv, q0, q1, q2, q3, q4, q5, q6, q7⟩ := (h.new hnw).at j (by rw [mkRs_length]; exact hlt)
      rw [mkRs_get k n j hlt, ← hz] at hv
      have hv' := Option.some.inj hv
      simp only [mkR1, Ru.mk.injEq] at hv'
      obtain ⟨rfl, rfl, rfl, rfl, rfl, rfl, rfl, rfl⟩ := hv'
      have hz1 : 0 ≤ z := by omega
      have hz2 : z ≤ 25165824 := by omega
      have HZ : Hid (z = k + 8 * (j : Int)) := hz
      have d0 : (z != z) = false := by simp
      have d1 : (z + 1 != z + 1) = false := by simp
      have d2 : (z + 1 + 1 != z + 1 + 1) = false := by simp
      have d3 : (z + 1 + 1 + 1 != z + 1 + 1 + 1) = false := by simp
      have d4 : (z + 1 + 1 + 1 + 1 != z + 1 + 1 + 1 + 1) = false := by simp
      have d6 : (z + 1 + 1 + 1 + 1 + 1 + 1 != z + 1 + 1 + 1 + 1 + 1 + 1) = false := by simp
      have d7 : (z + 1 + 1 + 1 + 1 + 1 + 1 + 1 != z + 1 + 1 + 1 + 1 + 1 + 1 + 1) = false := by simp
      have d5 : (((z + 1 + 1 + 1 + 1 + 1) % 3 == 0) != ((z + 1 + 1 + 1 + 1 + 1) % 3 == 0)) = false := by simp
      clear hv hz h
      go_wp2
      go_roundw
      case rel => exact ⟨j + 1, z + 1 + 1 + 1 + 1 + 1 + 1 + 1 + 1, by omega, by have := HZ.out; omega, rfl, by go_num, hnw⟩
      case measure => simp [intOf]; omega
    · obtain rfl : j = n := by omega
      go_wp2
      go_ret
      exact ⟨by subst hz; rfl, hnw⟩

theorem markB0 (k : Int) (w : World) : Calls Try.prog 27 #[.slice none 0 0, .int .i64 k] w fun e w' => e = .returned (.int .i64 k) ∧ w' = w := by
  go_enter Try.func27, Try.ntmps27
  go_wp2
  refine wp_loop_rounds 1 ?_
  rw [rounds_succ]
  go_wp2
  go_ret
  exact ⟨rfl, rfl⟩

theorem heldB0 (k : Int) (w : World) : Calls Try.prog 29 #[.slice none 0 0, .int .i64 k] w fun e w' => e = .returned (.int .i64 k) ∧ w' = w := by
  go_enter Try.func29, Try.ntmps29
  go_wp2
  refine wp_loop_rounds 1 ?_
  rw [rounds_succ]
  go_wp2
  go_ret
  exact ⟨rfl, rfl⟩

end Go.Proofs.Ytdknalegmlpimaa

namespace Go.Proofs.Ytdknalegmlpimaa
open Go.RowKit Go.Sort
set_option linter.unusedVariables false

/-- The cells of three links, marked from k on. -/
def mkL3 (k : Int) : List Value := [Value.int .i64 k, .int .i64 (k + 1), .int .i64 (k + 1 + 1), .int .i64 (k + 1 + 1 + 1), .int .i64 (k + 1 + 1 + 1 + 1), .slice none 0 0, .slice none 0 0, .int .i64 (k + 1 + 1 + 1 + 1 + 1), .int .i64 (k + 1 + 1 + 1 + 1 + 1 + 1), .int .i64 (k + 1 + 1 + 1 + 1 + 1 + 1 + 1), .int .i64 (k + 1 + 1 + 1 + 1 + 1 + 1 + 1 + 1), .int .i64 (k + 1 + 1 + 1 + 1 + 1 + 1 + 1 + 1 + 1), .slice none 0 0, .slice none 0 0, .int .i64 (k + 1 + 1 + 1 + 1 + 1 + 1 + 1 + 1 + 1 + 1), .int .i64 (k + 1 + 1 + 1 + 1 + 1 + 1 + 1 + 1 + 1 + 1 + 1), .int .i64 (k + 1 + 1 + 1 + 1 + 1 + 1 + 1 + 1 + 1 + 1 + 1 + 1), .int .i64 (k + 1 + 1 + 1 + 1 + 1 + 1 + 1 + 1 + 1 + 1 + 1 + 1 + 1), .int .i64 (k + 1 + 1 + 1 + 1 + 1 + 1 + 1 + 1 + 1 + 1 + 1 + 1 + 1 + 1), .slice none 0 0, .slice none 0 0]
theorem lz9_3 : lz9 3 = [Value.int .i64 0, .int .i64 0, .int .i64 0, .int .i64 0, .int .i64 0, .slice none 0 0, .slice none 0 0, .int .i64 0, .int .i64 0, .int .i64 0, .int .i64 0, .int .i64 0, .slice none 0 0, .slice none 0 0, .int .i64 0, .int .i64 0, .int .i64 0, .int .i64 0, .int .i64 0, .slice none 0 0, .slice none 0 0] := rfl

end Go.Proofs.Ytdknalegmlpimaa

namespace Go.Proofs.Ytdknalegmlpimaa
open Go.RowKit Go.Sort
set_option linter.unusedVariables false

theorem OwR.ov {w : World} {g n c : Nat} {rs : List Ru} (h : OwR w g n c rs) : OvR w g (.slice (some ⟨g, 0, none⟩) n c) rs := by
  have hn := h.len
  subst hn
  refine ⟨h.1, ?_⟩
  rcases h.2 with h' | ⟨g', cap', cur, h', r⟩
  · exact .inl h'
  · have e3 : g = g' := by simpa [Value.ownBlock] using congrArg Value.ownBlock h'
    exact .inr ⟨g', cap', cur, h', by omega, r.2⟩

/-- A list of rules of the call's own, nil or not, is marked. -/
theorem markOv (x : Option Addr) (n d lo : Nat) (k : Int) (rs : List Ru) (w : World) (h : OvR w lo (.slice x n d) rs) (hm : n ≤ 1048576) (hk0 : 0 ≤ k) (hk : k ≤ 16777216) :
    Calls Try.prog 26 #[.slice x n d, .int .i64 k] w fun e w' => e = .returned (.int .i64 (k + 8 * (n : Int))) ∧ OvR w' lo (.slice x n d) (mkRs k n) ∧ Turn (fun j => (Value.slice x n d).ownBlock = some j) w w' := by
  rcases h.form with ⟨e, rfl⟩ | ⟨g, c, e, hl, hlt, ho⟩
  · simp only [Value.slice.injEq] at e
    obtain ⟨rfl, rfl, rfl⟩ := e
    go_enter Try.func26, Try.ntmps26
    go_wp2
    refine wp_loop_rounds 1 ?_
    rw [rounds_succ]
    go_wp2
    go_ret
    exact ⟨by simp, OvR.nil _ _, Turn.refl _ _⟩
  · simp only [Value.slice.injEq] at e
    obtain ⟨rfl, rfl, rfl⟩ := e
    refine (markRu g rs.length d k rs w ho hm hk0 hk).mono ?_
    rintro e w' ⟨rfl, o, t⟩
    refine ⟨rfl, ?_, ?_⟩
    · exact o.ov.low hl
    · exact ⟨t.os, t.tape, t.output, t.size, fun b hb hs => t.block b hb (fun e => hs (by rw [e]; rfl))⟩

set_option maxHeartbeats 1600000 in
theorem markSe (sa si ho nx : Int) (x1 x2 : Option Addr) (n1 d1 n2 d2 lo : Nat) (k : Int) (r1 r2 : List Ru) (w : World) (h1 : OvR w lo (.slice x1 n1 d1) r1) (h2 : OvR w lo (.slice x2 n2 d2) r2) (ap : ∀ j, (Value.slice x1 n1 d1).ownBlock = some j → (Value.slice x2 n2 d2).ownBlock ≠ some j) (m1 : n1 ≤ 1048576) (m2 : n2 ≤ 1048576) (hk0 : 0 ≤ k) (hk : k ≤ 1000) :
    Calls Try.prog 10 #[.agg #[.int .i64 sa, .int .i64 si, .int .i64 ho, .int .i64 nx, .slice x1 n1 d1, .slice x2 n2 d2], .int .i64 k] w fun e w' => e = .returned (.int .i64 (k + 8 * (n1 : Int) + 8 * (n2 : Int))) ∧ OvR w' lo (.slice x1 n1 d1) (mkRs k n1) ∧ OvR w' lo (.slice x2 n2 d2) (mkRs (k + 8 * (n1 : Int)) n2) ∧ Turn (fun j => (Value.slice x1 n1 d1).ownBlock = some j ∨ (Value.slice x2 n2 d2).ownBlock = some j) w w' := by
  have al : New w (w.alloc (.cells #[.int .i64 sa, .int .i64 si, .int .i64 ho, .int .i64 nx, .slice x1 n1 d1, .slice x2 n2 d2] 32)) := (New.refl w).alloc _
  have bA := Blk.mk w w.heap.size 32 #[.int .i64 sa, .int .i64 si, .int .i64 ho, .int .i64 nx, .slice x1 n1 d1, .slice x2 n2 d2] rfl
  have f1 := h1.blk
  have f2 := h2.blk
  have F1 : Hid _ := f1
  have F2 : Hid _ := f2
  have AP : Hid _ := ap
  have p1 := h1.new al
  have p2 := h2.new al
  clear h1 h2 f1 f2 ap
  go_enter Try.func10, Try.ntmps10
  go_upto_region 1 with fail
  generalize w.alloc (.cells #[.int .i64 sa, .int .i64 si, .int .i64 ho, .int .i64 nx, .slice x1 n1 d1, .slice x2 n2 d2] 32) = w0 at *
  have cA := bA.cells
  go_wp2_with fail
  refine (markOv x1 n1 d1 lo k r1 _ p1 m1 hk0 (by omega)).mono ?_
  rintro e w1 ⟨rfl, q1, t1⟩
  have bA1 := bA.turn t1 (fun e => by have := (F1.out _ e).2; omega)
  have q2 := p2.turn t1 (fun j hj e => AP.out j e hj)
  have hz1 : 0 ≤ k + 8 * (n1 : Int) := by omega
  have hz2 : k + 8 * (n1 : Int) ≤ 16777216 := by omega
  clear cA bA p1 p2
  have cA := bA1.cells
  obtain ⟨z, hz⟩ : ∃ z, Hid (k + 8 * (n1 : Int) = z) := ⟨_, rfl⟩
  rw [hz.out] at hz1 hz2
  simp only [hz.out]
  go_wp2_with fail
  refine (markOv x2 n2 d2 lo z r2 _ q2 m2 hz1 hz2).mono ?_
  rintro e w2 ⟨rfl, q3, t2⟩
  have q4 := q1.turn t2 (fun j hj e => AP.out j hj e)
  have Q3 : Hid _ := q3
  have Q4 : Hid _ := q4
  have TT : Hid (Turn (fun j => (Value.slice x1 n1 d1).ownBlock = some j ∨ (Value.slice x2 n2 d2).ownBlock = some j) w w2) := by
    have a1 : Turn (fun j => (Value.slice x1 n1 d1).ownBlock = some j ∨ (Value.slice x2 n2 d2).ownBlock = some j) w w1 := Turn.trans (⟨al.os, al.tape, al.output, al.size, fun b hb hs => al.block b hb (fun f => f)⟩ : Turn (fun j => (Value.slice x1 n1 d1).ownBlock = some j ∨ (Value.slice x2 n2 d2).ownBlock = some j) w w0) t1 (fun i _ e => Or.inl e)
    exact Turn.trans a1 t2 (fun i _ e => Or.inr e)
  clear q1 q2 q3 q4 t1 t2 cA bA1
  go_wp2
  go_ret
  exact ⟨ret_i64 (by rw [hz.out]), Q4.out, hz.out.symm ▸ Q3.out, TT.out⟩

set_option maxHeartbeats 1600000 in
theorem heldSe (sa si ho nx : Int) (x1 x2 : Option Addr) (n1 d1 n2 d2 : Nat) (k : Int) (w : World) (h1 : RsAt w x1 (mkRs k n1)) (h2 : RsAt w x2 (mkRs (k + 8 * (n1 : Int)) n2)) (m1 : n1 ≤ 1048576) (m2 : n2 ≤ 1048576) (hk0 : 0 ≤ k) (hk : k ≤ 1000) :
    Calls Try.prog 49 #[.agg #[.int .i64 sa, .int .i64 si, .int .i64 ho, .int .i64 nx, .slice x1 n1 d1, .slice x2 n2 d2], .int .i64 k] w fun e w' => e = .returned (.int .i64 (k + 8 * (n1 : Int) + 8 * (n2 : Int))) ∧ New w w' := by
  have al : New w (w.alloc (.cells #[.int .i64 sa, .int .i64 si, .int .i64 ho, .int .i64 nx, .slice x1 n1 d1, .slice x2 n2 d2] 32)) := (New.refl w).alloc _
  have bA := Blk.mk w w.heap.size 32 #[.int .i64 sa, .int .i64 si, .int .i64 ho, .int .i64 nx, .slice x1 n1 d1, .slice x2 n2 d2] rfl
  go_enter Try.func49, Try.ntmps49
  go_upto_region 1 with fail
  generalize w.alloc (.cells #[.int .i64 sa, .int .i64 si, .int .i64 ho, .int .i64 nx, .slice x1 n1 d1, .slice x2 n2 d2] 32) = w0 at *
  have cA := bA.cells
  go_wp2_with fail
  refine (heldRu x1 n1 d1 k _ (h1.new al) m1 hk0 (by omega)).mono ?_
  rintro e w1 ⟨rfl, t1⟩
  have bA1 := bA.new t1
  have h2' := (h2.new al).new t1
  have hz1 : 0 ≤ k + 8 * (n1 : Int) := by omega
  have hz2 : k + 8 * (n1 : Int) ≤ 16777216 := by omega
  clear cA bA h1 h2
  have cA := bA1.cells
  generalize hzz : k + 8 * (n1 : Int) = z at *
  have HZ : Hid (k + 8 * (n1 : Int) = z) := hzz
  clear hzz
  go_wp2_with fail
  refine (heldRu x2 n2 d2 z _ h2' m2 hz1 hz2).mono ?_
  rintro e w2 ⟨rfl, t2⟩
  have hz3 : 0 ≤ z + 8 * (n2 : Int) := by omega
  go_wp2
  go_ret
  exact ⟨ret_i64 (by rw [HZ.out]), (al.trans t1).trans t2⟩

end Go.Proofs.Ytdknalegmlpimaa

namespace Go.Proofs.Ytdknalegmlpimaa
open Go.RowKit Go.Sort
set_option linter.unusedVariables false
set_option linter.unusedSimpArgs false

theorem markE0 (k : Int) (w : World) : Calls Try.prog 48 #[.slice none 0 0, .int .i64 k] w fun e w' => e = .returned (.int .i64 k) ∧ w' = w := by
  go_enter Try.func48, Try.ntmps48
  go_wp2
  refine wp_loop_rounds 1 ?_
  rw [rounds_succ]
  go_wp2
  go_ret
  exact ⟨rfl, rfl⟩

theorem heldE0 (k : Int) (w : World) : Calls Try.prog 53 #[.slice none 0 0, .int .i64 k] w fun e w' => e = .returned (.int .i64 k) ∧ w' = w := by
  go_enter Try.func53, Try.ntmps53
  go_wp2
  refine wp_loop_rounds 1 ?_
  rw [rounds_succ]
  go_wp2
  go_ret
  exact ⟨rfl, rfl⟩

theorem markM0 (k : Int) (w : World) : Calls Try.prog 47 #[.slice none 0 0, .int .i64 k] w fun e w' => e = .returned (.int .i64 k) ∧ w' = w := by
  go_enter Try.func47, Try.ntmps47
  go_wp2
  refine wp_loop_rounds 1 ?_
  rw [rounds_succ]
  go_wp2
  go_ret
  exact ⟨rfl, rfl⟩

theorem heldM0 (k : Int) (w : World) : Calls Try.prog 52 #[.slice none 0 0, .int .i64 k] w fun e w' => e = .returned (.int .i64 k) ∧ w' = w := by
  go_enter Try.func52, Try.ntmps52
  go_wp2
  refine wp_loop_rounds 1 ?_
  rw [rounds_succ]
  go_wp2
  go_ret
  exact ⟨rfl, rfl⟩

theorem markN0 (k : Int) (w : World) : Calls Try.prog 45 #[.slice none 0 0, .int .i64 k] w fun e w' => e = .returned (.int .i64 k) ∧ w' = w := by
  go_enter Try.func45, Try.ntmps45
  go_wp2
  refine wp_loop_rounds 1 ?_
  rw [rounds_succ]
  go_wp2
  go_ret
  exact ⟨rfl, rfl⟩

theorem heldN0 (k : Int) (w : World) : Calls Try.prog 50 #[.slice none 0 0, .int .i64 k] w fun e w' => e = .returned (.int .i64 k) ∧ w' = w := by
  go_enter Try.func50, Try.ntmps50
  go_wp2
  refine wp_loop_rounds 1 ?_
  rw [rounds_succ]
  go_wp2
  go_ret
  exact ⟨rfl, rfl⟩

theorem markW0 (k : Int) (w : World) : Calls Try.prog 46 #[.slice none 0 0, .int .i64 k] w fun e w' => e = .returned (.int .i64 k) ∧ w' = w := by
  go_enter Try.func46, Try.ntmps46
  go_wp2
  refine wp_loop_rounds 1 ?_
  rw [rounds_succ]
  go_wp2
  go_ret
  exact ⟨rfl, rfl⟩

theorem heldW0 (k : Int) (w : World) : Calls Try.prog 51 #[.slice none 0 0, .int .i64 k] w fun e w' => e = .returned (.int .i64 k) ∧ w' = w := by
  go_enter Try.func51, Try.ntmps51
  go_wp2
  refine wp_loop_rounds 1 ?_
  rw [rounds_succ]
  go_wp2
  go_ret
  exact ⟨rfl, rfl⟩

/-- The cells of two new nodes, and of the two marked from k on. -/
def nz2 : List Value := [Value.int .i64 0, .bool true, .int .i64 0, .int .i64 0, .slice none 0 0, .int .i64 0, .int .i64 0, .int .i64 0, .int .i64 0, .int .i64 1, .bool true, .int .i64 0, .int .i64 0, .slice none 0 0, .int .i64 0, .int .i64 0, .int .i64 0, .int .i64 0]
def mkN2 (k : Int) : List Value := [Value.int .i64 k, .bool ((k + 1) % 3 == 0), .int .i64 (k + 1 + 1), .int .i64 (k + 1 + 1 + 1), .slice none 0 0, .int .i64 (k + 1 + 1 + 1 + 1), .int .i64 (k + 1 + 1 + 1 + 1 + 1), .int .i64 (k + 1 + 1 + 1 + 1 + 1 + 1), .int .i64 (k + 1 + 1 + 1 + 1 + 1 + 1 + 1), .int .i64 (k + 1 + 1 + 1 + 1 + 1 + 1 + 1 + 1), .bool ((k + 1 + 1 + 1 + 1 + 1 + 1 + 1 + 1 + 1) % 3 == 0), .int .i64 (k + 1 + 1 + 1 + 1 + 1 + 1 + 1 + 1 + 1 + 1), .int .i64 (k + 1 + 1 + 1 + 1 + 1 + 1 + 1 + 1 + 1 + 1 + 1), .slice none 0 0, .int .i64 (k + 1 + 1 + 1 + 1 + 1 + 1 + 1 + 1 + 1 + 1 + 1 + 1), .int .i64 (k + 1 + 1 + 1 + 1 + 1 + 1 + 1 + 1 + 1 + 1 + 1 + 1 + 1), .int .i64 (k + 1 + 1 + 1 + 1 + 1 + 1 + 1 + 1 + 1 + 1 + 1 + 1 + 1 + 1), .int .i64 (k + 1 + 1 + 1 + 1 + 1 + 1 + 1 + 1 + 1 + 1 + 1 + 1 + 1 + 1 + 1)]

set_option maxRecDepth 100000 in
set_option maxHeartbeats 12800000 in
theorem markNd2 (g c : Nat) (k : Int) (w : World) (h : w.ownsRow 0 53 9 (.slice (some ⟨g, 0, none⟩) 2 c) 2 nz2) (hk0 : 0 ≤ k) (hk : k ≤ 33554432) :
    Calls Try.prog 45 #[.slice (some ⟨g, 0, none⟩) 2 c, .int .i64 k] w fun e w' => e = .returned (.int .i64 (k + 1 + 1 + 1 + 1 + 1 + 1 + 1 + 1 + 1 + 1 + 1 + 1 + 1 + 1 + 1 + 1)) ∧ w'.ownsRow 0 53 9 (.slice (some ⟨g, 0, none⟩) 2 c) 2 (mkN2 k) ∧ Turn (fun j => j = g) w w' := by
  unfold nz2 at h
  go_enter Try.func45, Try.ntmps45
  have O0 := h
  have T0 : Turn (fun j => j = g) w w := Turn.refl _ _
  clear h
  go_wp2
  refine wp_loop_rounds 3 ?_
  rw [rounds_succ]
  have c0 : w.cell? ⟨g, 0, none⟩ = some (.int .i64 0) := World.ownsRow.cellAt O0 0 (by omega)
  have f0 := World.ownsRow.frozenAt O0 0
  have P1 : Hid ((w.setCell ⟨g, 0, none⟩ (.int .i64 k)).ownsRow 0 53 9 (.slice (some ⟨g, 0, none⟩) 2 c) 2 [Value.int .i64 k, .bool true, .int .i64 0, .int .i64 0, .slice none 0 0, .int .i64 0, .int .i64 0, .int .i64 0, .int .i64 0, .int .i64 1, .bool true, .int .i64 0, .int .i64 0, .slice none 0 0, .int .i64 0, .int .i64 0, .int .i64 0, .int .i64 0]) := (World.ownsRow.stored O0 0 (.int .i64 k)).1
  have S1 : Hid (Turn (fun j => j = g) w (w.setCell ⟨g, 0, none⟩ (.int .i64 k))) := Turn.here9 T0 _
  clear O0 T0
  go_upto_region 6 with fail
  generalize (w.setCell ⟨g, 0, none⟩ (.int .i64 k)) = W1 at *
  have O1 := P1.out
  have T1 := S1.out
  clear P1 S1 c0 f0
  have c1 : W1.cell? ⟨g, 1, none⟩ = some (.bool true) := World.ownsRow.cellAt O1 1 (by omega)
  have f1 := World.ownsRow.frozenAt O1 1
  have P2 : Hid ((W1.setCell ⟨g, 1, none⟩ (.bool ((k + 1) % 3 == 0))).ownsRow 0 53 9 (.slice (some ⟨g, 0, none⟩) 2 c) 2 [Value.int .i64 k, .bool ((k + 1) % 3 == 0), .int .i64 0, .int .i64 0, .slice none 0 0, .int .i64 0, .int .i64 0, .int .i64 0, .int .i64 0, .int .i64 1, .bool true, .int .i64 0, .int .i64 0, .slice none 0 0, .int .i64 0, .int .i64 0, .int .i64 0, .int .i64 0]) := (World.ownsRow.stored O1 1 (.bool ((k + 1) % 3 == 0))).1
  have S2 : Hid (Turn (fun j => j = g) w (W1.setCell ⟨g, 1, none⟩ (.bool ((k + 1) % 3 == 0)))) := Turn.here9 T1 _
  clear O1 T1
  go_upto_region 8 with fail
  generalize (W1.setCell ⟨g, 1, none⟩ (.bool ((k + 1) % 3 == 0))) = W2 at *
  have O2 := P2.out
  have T2 := S2.out
  clear P2 S2 c1 f1
  have c2 : W2.cell? ⟨g, 2, none⟩ = some (.int .i64 0) := World.ownsRow.cellAt O2 2 (by omega)
  have f2 := World.ownsRow.frozenAt O2 2
  have P3 : Hid ((W2.setCell ⟨g, 2, none⟩ (.int .i64 (k + 1 + 1))).ownsRow 0 53 9 (.slice (some ⟨g, 0, none⟩) 2 c) 2 [Value.int .i64 k, .bool ((k + 1) % 3 == 0), .int .i64 (k + 1 + 1), .int .i64 0, .slice none 0 0, .int .i64 0, .int .i64 0, .int .i64 0, .int .i64 0, .int .i64 1, .bool true, .int .i64 0, .int .i64 0, .slice none 0 0, .int .i64 0, .int .i64 0, .int .i64 0, .int .i64 0]) := (World.ownsRow.stored O2 2 (.int .i64 (k + 1 + 1))).1
  have S3 : Hid (Turn (fun j => j = g) w (W2.setCell ⟨g, 2, none⟩ (.int .i64 (k + 1 + 1)))) := Turn.here9 T2 _
  clear O2 T2
  go_upto_region 10 with fail
  generalize (W2.setCell ⟨g, 2, none⟩ (.int .i64 (k + 1 + 1))) = W3 at *
  have O3 := P3.out
  have T3 := S3.out
  clear P3 S3 c2 f2
  have c3 : W3.cell? ⟨g, 3, none⟩ = some (.int .i64 0) := World.ownsRow.cellAt O3 3 (by omega)
  have f3 := World.ownsRow.frozenAt O3 3
  have P4 : Hid ((W3.setCell ⟨g, 3, none⟩ (.int .i64 (k + 1 + 1 + 1))).ownsRow 0 53 9 (.slice (some ⟨g, 0, none⟩) 2 c) 2 [Value.int .i64 k, .bool ((k + 1) % 3 == 0), .int .i64 (k + 1 + 1), .int .i64 (k + 1 + 1 + 1), .slice none 0 0, .int .i64 0, .int .i64 0, .int .i64 0, .int .i64 0, .int .i64 1, .bool true, .int .i64 0, .int .i64 0, .slice none 0 0, .int .i64 0, .int .i64 0, .int .i64 0, .int .i64 0]) := (World.ownsRow.stored O3 3 (.int .i64 (k + 1 + 1 + 1))).1
  have S4 : Hid (Turn (fun j => j = g) w (W3.setCell ⟨g, 3, none⟩ (.int .i64 (k + 1 + 1 + 1)))) := Turn.here9 T3 _
  clear O3 T3
  go_upto_region 12 with fail
  generalize (W3.setCell ⟨g, 3, none⟩ (.int .i64 (k + 1 + 1 + 1))) = W4 at *
  have O4 := P4.out
  have T4 := S4.out
  clear P4 S4 c3 f3
  have c5 : W4.cell? ⟨g, 4, none⟩ = some (.slice none 0 0) := World.ownsRow.cellAt O4 4 (by omega)
  go_wp2_with fail
  refine (markE0 _ _).mono ?_
  rintro e u0 ⟨rfl, hu⟩
  obtain rfl := hu.symm
  clear c5
  have c4 : W4.cell? ⟨g, 5, none⟩ = some (.int .i64 0) := World.ownsRow.cellAt O4 5 (by omega)
  have f4 := World.ownsRow.frozenAt O4 5
  have P5 : Hid ((W4.setCell ⟨g, 5, none⟩ (.int .i64 (k + 1 + 1 + 1 + 1))).ownsRow 0 53 9 (.slice (some ⟨g, 0, none⟩) 2 c) 2 [Value.int .i64 k, .bool ((k + 1) % 3 == 0), .int .i64 (k + 1 + 1), .int .i64 (k + 1 + 1 + 1), .slice none 0 0, .int .i64 (k + 1 + 1 + 1 + 1), .int .i64 0, .int .i64 0, .int .i64 0, .int .i64 1, .bool true, .int .i64 0, .int .i64 0, .slice none 0 0, .int .i64 0, .int .i64 0, .int .i64 0, .int .i64 0]) := (World.ownsRow.stored O4 5 (.int .i64 (k + 1 + 1 + 1 + 1))).1
  have S5 : Hid (Turn (fun j => j = g) w (W4.setCell ⟨g, 5, none⟩ (.int .i64 (k + 1 + 1 + 1 + 1)))) := Turn.here9 T4 _
  clear O4 T4
  go_upto_region 15 with fail
  generalize (W4.setCell ⟨g, 5, none⟩ (.int .i64 (k + 1 + 1 + 1 + 1))) = W5 at *
  have O5 := P5.out
  have T5 := S5.out
  clear P5 S5 c4 f4
  have c5 : W5.cell? ⟨g, 6, none⟩ = some (.int .i64 0) := World.ownsRow.cellAt O5 6 (by omega)
  have f5 := World.ownsRow.frozenAt O5 6
  have P6 : Hid ((W5.setCell ⟨g, 6, none⟩ (.int .i64 (k + 1 + 1 + 1 + 1 + 1))).ownsRow 0 53 9 (.slice (some ⟨g, 0, none⟩) 2 c) 2 [Value.int .i64 k, .bool ((k + 1) % 3 == 0), .int .i64 (k + 1 + 1), .int .i64 (k + 1 + 1 + 1), .slice none 0 0, .int .i64 (k + 1 + 1 + 1 + 1), .int .i64 (k + 1 + 1 + 1 + 1 + 1), .int .i64 0, .int .i64 0, .int .i64 1, .bool true, .int .i64 0, .int .i64 0, .slice none 0 0, .int .i64 0, .int .i64 0, .int .i64 0, .int .i64 0]) := (World.ownsRow.stored O5 6 (.int .i64 (k + 1 + 1 + 1 + 1 + 1))).1
  have S6 : Hid (Turn (fun j => j = g) w (W5.setCell ⟨g, 6, none⟩ (.int .i64 (k + 1 + 1 + 1 + 1 + 1)))) := Turn.here9 T5 _
  clear O5 T5
  go_upto_region 17 with fail
  generalize (W5.setCell ⟨g, 6, none⟩ (.int .i64 (k + 1 + 1 + 1 + 1 + 1))) = W6 at *
  have O6 := P6.out
  have T6 := S6.out
  clear P6 S6 c5 f5
  have c6 : W6.cell? ⟨g, 7, none⟩ = some (.int .i64 0) := World.ownsRow.cellAt O6 7 (by omega)
  have f6 := World.ownsRow.frozenAt O6 7
  have P7 : Hid ((W6.setCell ⟨g, 7, none⟩ (.int .i64 (k + 1 + 1 + 1 + 1 + 1 + 1))).ownsRow 0 53 9 (.slice (some ⟨g, 0, none⟩) 2 c) 2 [Value.int .i64 k, .bool ((k + 1) % 3 == 0), .int .i64 (k + 1 + 1), .int .i64 (k + 1 + 1 + 1), .slice none 0 0, .int .i64 (k + 1 + 1 + 1 + 1), .int .i64 (k + 1 + 1 + 1 + 1 + 1), .int .i64 (k + 1 + 1 + 1 + 1 + 1 + 1), .int .i64 0, .int .i64 1, .bool true, .int .i64 0, .int .i64 0, .slice none 0 0, .int .i64 0, .int .i64 0, .int .i64 0, .int .i64 0]) := (World.ownsRow.stored O6 7 (.int .i64 (k + 1 + 1 + 1 + 1 + 1 + 1))).1
  have S7 : Hid (Turn (fun j => j = g) w (W6.setCell ⟨g, 7, none⟩ (.int .i64 (k + 1 + 1 + 1 + 1 + 1 + 1)))) := Turn.here9 T6 _
  clear O6 T6
  go_upto_region 19 with fail
  generalize (W6.setCell ⟨g, 7, none⟩ (.int .i64 (k + 1 + 1 + 1 + 1 + 1 + 1))) = W7 at *
  have O7 := P7.out
  have T7 := S7.out
  clear P7 S7 c6 f6
  have c7 : W7.cell? ⟨g, 8, none⟩ = some (.int .i64 0) := World.ownsRow.cellAt O7 8 (by omega)
  have f7 := World.ownsRow.frozenAt O7 8
  have P8 : Hid ((W7.setCell ⟨g, 8, none⟩ (.int .i64 (k + 1 + 1 + 1 + 1 + 1 + 1 + 1))).ownsRow 0 53 9 (.slice (some ⟨g, 0, none⟩) 2 c) 2 [Value.int .i64 k, .bool ((k + 1) % 3 == 0), .int .i64 (k + 1 + 1), .int .i64 (k + 1 + 1 + 1), .slice none 0 0, .int .i64 (k + 1 + 1 + 1 + 1), .int .i64 (k + 1 + 1 + 1 + 1 + 1), .int .i64 (k + 1 + 1 + 1 + 1 + 1 + 1), .int .i64 (k + 1 + 1 + 1 + 1 + 1 + 1 + 1), .int .i64 1, .bool true, .int .i64 0, .int .i64 0, .slice none 0 0, .int .i64 0, .int .i64 0, .int .i64 0, .int .i64 0]) := (World.ownsRow.stored O7 8 (.int .i64 (k + 1 + 1 + 1 + 1 + 1 + 1 + 1))).1
  have S8 : Hid (Turn (fun j => j = g) w (W7.setCell ⟨g, 8, none⟩ (.int .i64 (k + 1 + 1 + 1 + 1 + 1 + 1 + 1)))) := Turn.here9 T7 _
  clear O7 T7
  go_upto_region 20 with fail
  generalize (W7.setCell ⟨g, 8, none⟩ (.int .i64 (k + 1 + 1 + 1 + 1 + 1 + 1 + 1))) = W8 at *
  have O8 := P8.out
  have T8 := S8.out
  clear P8 S8 c7 f7
  go_wp2_with fail
  rw [rounds_succ]
  have c8 : W8.cell? ⟨g, 9, none⟩ = some (.int .i64 1) := World.ownsRow.cellAt O8 9 (by omega)
  have f8 := World.ownsRow.frozenAt O8 9
  have P9 : Hid ((W8.setCell ⟨g, 9, none⟩ (.int .i64 (k + 1 + 1 + 1 + 1 + 1 + 1 + 1 + 1))).ownsRow 0 53 9 (.slice (some ⟨g, 0, none⟩) 2 c) 2 [Value.int .i64 k, .bool ((k + 1) % 3 == 0), .int .i64 (k + 1 + 1), .int .i64 (k + 1 + 1 + 1), .slice none 0 0, .int .i64 (k + 1 + 1 + 1 + 1), .int .i64 (k + 1 + 1 + 1 + 1 + 1), .int .i64 (k + 1 + 1 + 1 + 1 + 1 + 1), .int .i64 (k + 1 + 1 + 1 + 1 + 1 + 1 + 1), .int .i64 (k + 1 + 1 + 1 + 1 + 1 + 1 + 1 + 1), .bool true, .int .i64 0, .int .i64 0, .slice none 0 0, .int .i64 0, .int .i64 0, .int .i64 0, .int .i64 0]) := (World.ownsRow.stored O8 9 (.int .i64 (k + 1 + 1 + 1 + 1 + 1 + 1 + 1 + 1))).1
  have S9 : Hid (Turn (fun j => j = g) w (W8.setCell ⟨g, 9, none⟩ (.int .i64 (k + 1 + 1 + 1 + 1 + 1 + 1 + 1 + 1)))) := Turn.here9 T8 _
  clear O8 T8
  go_upto_region 6 with fail
  generalize (W8.setCell ⟨g, 9, none⟩ (.int .i64 (k + 1 + 1 + 1 + 1 + 1 + 1 + 1 + 1))) = W9 at *
  have O9 := P9.out
  have T9 := S9.out
  clear P9 S9 c8 f8
  have c9 : W9.cell? ⟨g, 10, none⟩ = some (.bool true) := World.ownsRow.cellAt O9 10 (by omega)
  have f9 := World.ownsRow.frozenAt O9 10
  have P10 : Hid ((W9.setCell ⟨g, 10, none⟩ (.bool ((k + 1 + 1 + 1 + 1 + 1 + 1 + 1 + 1 + 1) % 3 == 0))).ownsRow 0 53 9 (.slice (some ⟨g, 0, none⟩) 2 c) 2 [Value.int .i64 k, .bool ((k + 1) % 3 == 0), .int .i64 (k + 1 + 1), .int .i64 (k + 1 + 1 + 1), .slice none 0 0, .int .i64 (k + 1 + 1 + 1 + 1), .int .i64 (k + 1 + 1 + 1 + 1 + 1), .int .i64 (k + 1 + 1 + 1 + 1 + 1 + 1), .int .i64 (k + 1 + 1 + 1 + 1 + 1 + 1 + 1), .int .i64 (k + 1 + 1 + 1 + 1 + 1 + 1 + 1 + 1), .bool ((k + 1 + 1 + 1 + 1 + 1 + 1 + 1 + 1 + 1) % 3 == 0), .int .i64 0, .int .i64 0, .slice none 0 0, .int .i64 0, .int .i64 0, .int .i64 0, .int .i64 0]) := (World.ownsRow.stored O9 10 (.bool ((k + 1 + 1 + 1 + 1 + 1 + 1 + 1 + 1 + 1) % 3 == 0))).1
  have S10 : Hid (Turn (fun j => j = g) w (W9.setCell ⟨g, 10, none⟩ (.bool ((k + 1 + 1 + 1 + 1 + 1 + 1 + 1 + 1 + 1) % 3 == 0)))) := Turn.here9 T9 _
  clear O9 T9
  go_upto_region 8 with fail
  generalize (W9.setCell ⟨g, 10, none⟩ (.bool ((k + 1 + 1 + 1 + 1 + 1 + 1 + 1 + 1 + 1) % 3 == 0))) = W10 at *
  have O10 := P10.out
  have T10 := S10.out
  clear P10 S10 c9 f9
  have c10 : W10.cell? ⟨g, 11, none⟩ = some (.int .i64 0) := World.ownsRow.cellAt O10 11 (by omega)
  have f10 := World.ownsRow.frozenAt O10 11
  have P11 : Hid ((W10.setCell ⟨g, 11, none⟩ (.int .i64 (k + 1 + 1 + 1 + 1 + 1 + 1 + 1 + 1 + 1 + 1))).ownsRow 0 53 9 (.slice (some ⟨g, 0, none⟩) 2 c) 2 [Value.int .i64 k, .bool ((k + 1) % 3 == 0), .int .i64 (k + 1 + 1), .int .i64 (k + 1 + 1 + 1), .slice none 0 0, .int .i64 (k + 1 + 1 + 1 + 1), .int .i64 (k + 1 + 1 + 1 + 1 + 1), .int .i64 (k + 1 + 1 + 1 + 1 + 1 + 1), .int .i64 (k + 1 + 1 + 1 + 1 + 1 + 1 + 1), .int .i64 (k + 1 + 1 + 1 + 1 + 1 + 1 + 1 + 1), .bool ((k + 1 + 1 + 1 + 1 + 1 + 1 + 1 + 1 + 1) % 3 == 0), .int .i64 (k + 1 + 1 + 1 + 1 + 1 + 1 + 1 + 1 + 1 + 1), .int .i64 0, .slice none 0 0, .int .i64 0, .int .i64 0, .int .i64 0, .int .i64 0]) := (World.ownsRow.stored O10 11 (.int .i64 (k + 1 + 1 + 1 + 1 + 1 + 1 + 1 + 1 + 1 + 1))).1
  have S11 : Hid (Turn (fun j => j = g) w (W10.setCell ⟨g, 11, none⟩ (.int .i64 (k + 1 + 1 + 1 + 1 + 1 + 1 + 1 + 1 + 1 + 1)))) := Turn.here9 T10 _
  clear O10 T10
  go_upto_region 10 with fail
  generalize (W10.setCell ⟨g, 11, none⟩ (.int .i64 (k + 1 + 1 + 1 + 1 + 1 + 1 + 1 + 1 + 1 + 1))) = W11 at *
  have O11 := P11.out
  have T11 := S11.out
  clear P11 S11 c10 f10
  have c11 : W11.cell? ⟨g, 12, none⟩ = some (.int .i64 0) := World.ownsRow.cellAt O11 12 (by omega)
  have f11 := World.ownsRow.frozenAt O11 12
  have P12 : Hid ((W11.setCell ⟨g, 12, none⟩ (.int .i64 (k + 1 + 1 + 1 + 1 + 1 + 1 + 1 + 1 + 1 + 1 + 1))).ownsRow 0 53 9 (.slice (some ⟨g, 0, none⟩) 2 c) 2 [Value.int .i64 k, .bool ((k + 1) % 3 == 0), .int .i64 (k + 1 + 1), .int .i64 (k + 1 + 1 + 1), .slice none 0 0, .int .i64 (k + 1 + 1 + 1 + 1), .int .i64 (k + 1 + 1 + 1 + 1 + 1), .int .i64 (k + 1 + 1 + 1 + 1 + 1 + 1), .int .i64 (k + 1 + 1 + 1 + 1 + 1 + 1 + 1), .int .i64 (k + 1 + 1 + 1 + 1 + 1 + 1 + 1 + 1), .bool ((k + 1 + 1 + 1 + 1 + 1 + 1 + 1 + 1 + 1) % 3 == 0), .int .i64 (k + 1 + 1 + 1 + 1 + 1 + 1 + 1 + 1 + 1 + 1), .int .i64 (k + 1 + 1 + 1 + 1 + 1 + 1 + 1 + 1 + 1 + 1 + 1), .slice none 0 0, .int .i64 0, .int .i64 0, .int .i64 0, .int .i64 0]) := (World.ownsRow.stored O11 12 (.int .i64 (k + 1 + 1 + 1 + 1 + 1 + 1 + 1 + 1 + 1 + 1 + 1))).1
  have S12 : Hid (Turn (fun j => j = g) w (W11.setCell ⟨g, 12, none⟩ (.int .i64 (k + 1 + 1 + 1 + 1 + 1 + 1 + 1 + 1 + 1 + 1 + 1)))) := Turn.here9 T11 _
  clear O11 T11
  go_upto_region 12 with fail
  generalize (W11.setCell ⟨g, 12, none⟩ (.int .i64 (k + 1 + 1 + 1 + 1 + 1 + 1 + 1 + 1 + 1 + 1 + 1))) = W12 at *
  have O12 := P12.out
  have T12 := S12.out
  clear P12 S12 c11 f11
  have c5 : W12.cell? ⟨g, 13, none⟩ = some (.slice none 0 0) := World.ownsRow.cellAt O12 13 (by omega)
  go_wp2_with fail
  refine (markE0 _ _).mono ?_
  rintro e u1 ⟨rfl, hu⟩
  obtain rfl := hu.symm
  clear c5
  have c12 : W12.cell? ⟨g, 14, none⟩ = some (.int .i64 0) := World.ownsRow.cellAt O12 14 (by omega)
  have f12 := World.ownsRow.frozenAt O12 14
  have P13 : Hid ((W12.setCell ⟨g, 14, none⟩ (.int .i64 (k + 1 + 1 + 1 + 1 + 1 + 1 + 1 + 1 + 1 + 1 + 1 + 1))).ownsRow 0 53 9 (.slice (some ⟨g, 0, none⟩) 2 c) 2 [Value.int .i64 k, .bool ((k + 1) % 3 == 0), .int .i64 (k + 1 + 1), .int .i64 (k + 1 + 1 + 1), .slice none 0 0, .int .i64 (k + 1 + 1 + 1 + 1), .int .i64 (k + 1 + 1 + 1 + 1 + 1), .int .i64 (k + 1 + 1 + 1 + 1 + 1 + 1), .int .i64 (k + 1 + 1 + 1 + 1 + 1 + 1 + 1), .int .i64 (k + 1 + 1 + 1 + 1 + 1 + 1 + 1 + 1), .bool ((k + 1 + 1 + 1 + 1 + 1 + 1 + 1 + 1 + 1) % 3 == 0), .int .i64 (k + 1 + 1 + 1 + 1 + 1 + 1 + 1 + 1 + 1 + 1), .int .i64 (k + 1 + 1 + 1 + 1 + 1 + 1 + 1 + 1 + 1 + 1 + 1), .slice none 0 0, .int .i64 (k + 1 + 1 + 1 + 1 + 1 + 1 + 1 + 1 + 1 + 1 + 1 + 1), .int .i64 0, .int .i64 0, .int .i64 0]) := (World.ownsRow.stored O12 14 (.int .i64 (k + 1 + 1 + 1 + 1 + 1 + 1 + 1 + 1 + 1 + 1 + 1 + 1))).1
  have S13 : Hid (Turn (fun j => j = g) w (W12.setCell ⟨g, 14, none⟩ (.int .i64 (k + 1 + 1 + 1 + 1 + 1 + 1 + 1 + 1 + 1 + 1 + 1 + 1)))) := Turn.here9 T12 _
  clear O12 T12
  go_upto_region 15 with fail
  generalize (W12.setCell ⟨g, 14, none⟩ (.int .i64 (k + 1 + 1 + 1 + 1 + 1 + 1 + 1 + 1 + 1 + 1 + 1 + 1))) = W13 at *
  have O13 := P13.out
  have T13 := S13.out
  clear P13 S13 c12 f12
  have c13 : W13.cell? ⟨g, 15, none⟩ = some (.int .i64 0) := World.ownsRow.cellAt O13 15 (by omega)
  have f13 := World.ownsRow.frozenAt O13 15
  have P14 : Hid ((W13.setCell ⟨g, 15, none⟩ (.int .i64 (k + 1 + 1 + 1 + 1 + 1 + 1 + 1 + 1 + 1 + 1 + 1 + 1 + 1))).ownsRow 0 53 9 (.slice (some ⟨g, 0, none⟩) 2 c) 2 [Value.int .i64 k, .bool ((k + 1) % 3 == 0), .int .i64 (k + 1 + 1), .int .i64 (k + 1 + 1 + 1), .slice none 0 0, .int .i64 (k + 1 + 1 + 1 + 1), .int .i64 (k + 1 + 1 + 1 + 1 + 1), .int .i64 (k + 1 + 1 + 1 + 1 + 1 + 1), .int .i64 (k + 1 + 1 + 1 + 1 + 1 + 1 + 1), .int .i64 (k + 1 + 1 + 1 + 1 + 1 + 1 + 1 + 1), .bool ((k + 1 + 1 + 1 + 1 + 1 + 1 + 1 + 1 + 1) % 3 == 0), .int .i64 (k + 1 + 1 + 1 + 1 + 1 + 1 + 1 + 1 + 1 + 1), .int .i64 (k + 1 + 1 + 1 + 1 + 1 + 1 + 1 + 1 + 1 + 1 + 1), .slice none 0 0, .int .i64 (k + 1 + 1 + 1 + 1 + 1 + 1 + 1 + 1 + 1 + 1 + 1 + 1), .int .i64 (k + 1 + 1 + 1 + 1 + 1 + 1 + 1 + 1 + 1 + 1 + 1 + 1 + 1), .int .i64 0, .int .i64 0]) := (World.ownsRow.stored O13 15 (.int .i64 (k + 1 + 1 + 1 + 1 + 1 + 1 + 1 + 1 + 1 + 1 + 1 + 1 + 1))).1
  have S14 : Hid (Turn (fun j => j = g) w (W13.setCell ⟨g, 15, none⟩ (.int .i64 (k + 1 + 1 + 1 + 1 + 1 + 1 + 1 + 1 + 1 + 1 + 1 + 1 + 1)))) := Turn.here9 T13 _
  clear O13 T13
  go_upto_region 17 with fail
  generalize (W13.setCell ⟨g, 15, none⟩ (.int .i64 (k + 1 + 1 + 1 + 1 + 1 + 1 + 1 + 1 + 1 + 1 + 1 + 1 + 1))) = W14 at *
  have O14 := P14.out
  have T14 := S14.out
  clear P14 S14 c13 f13
  have c14 : W14.cell? ⟨g, 16, none⟩ = some (.int .i64 0) := World.ownsRow.cellAt O14 16 (by omega)
  have f14 := World.ownsRow.frozenAt O14 16
  have P15 : Hid ((W14.setCell ⟨g, 16, none⟩ (.int .i64 (k + 1 + 1 + 1 + 1 + 1 + 1 + 1 + 1 + 1 + 1 + 1 + 1 + 1 + 1))).ownsRow 0 53 9 (.slice (some ⟨g, 0, none⟩) 2 c) 2 [Value.int .i64 k, .bool ((k + 1) % 3 == 0), .int .i64 (k + 1 + 1), .int .i64 (k + 1 + 1 + 1), .slice none 0 0, .int .i64 (k + 1 + 1 + 1 + 1), .int .i64 (k + 1 + 1 + 1 + 1 + 1), .int .i64 (k + 1 + 1 + 1 + 1 + 1 + 1), .int .i64 (k + 1 + 1 + 1 + 1 + 1 + 1 + 1), .int .i64 (k + 1 + 1 + 1 + 1 + 1 + 1 + 1 + 1), .bool ((k + 1 + 1 + 1 + 1 + 1 + 1 + 1 + 1 + 1) % 3 == 0), .int .i64 (k + 1 + 1 + 1 + 1 + 1 + 1 + 1 + 1 + 1 + 1), .int .i64 (k + 1 + 1 + 1 + 1 + 1 + 1 + 1 + 1 + 1 + 1 + 1), .slice none 0 0, .int .i64 (k + 1 + 1 + 1 + 1 + 1 + 1 + 1 + 1 + 1 + 1 + 1 + 1), .int .i64 (k + 1 + 1 + 1 + 1 + 1 + 1 + 1 + 1 + 1 + 1 + 1 + 1 + 1), .int .i64 (k + 1 + 1 + 1 + 1 + 1 + 1 + 1 + 1 + 1 + 1 + 1 + 1 + 1 + 1), .int .i64 0]) := (World.ownsRow.stored O14 16 (.int .i64 (k + 1 + 1 + 1 + 1 + 1 + 1 + 1 + 1 + 1 + 1 + 1 + 1 + 1 + 1))).1
  have S15 : Hid (Turn (fun j => j = g) w (W14.setCell ⟨g, 16, none⟩ (.int .i64 (k + 1 + 1 + 1 + 1 + 1 + 1 + 1 + 1 + 1 + 1 + 1 + 1 + 1 + 1)))) := Turn.here9 T14 _
  clear O14 T14
  go_upto_region 19 with fail
  generalize (W14.setCell ⟨g, 16, none⟩ (.int .i64 (k + 1 + 1 + 1 + 1 + 1 + 1 + 1 + 1 + 1 + 1 + 1 + 1 + 1 + 1))) = W15 at *
  have O15 := P15.out
  have T15 := S15.out
  clear P15 S15 c14 f14
  have c15 : W15.cell? ⟨g, 17, none⟩ = some (.int .i64 0) := World.ownsRow.cellAt O15 17 (by omega)
  have f15 := World.ownsRow.frozenAt O15 17
  have P16 : Hid ((W15.setCell ⟨g, 17, none⟩ (.int .i64 (k + 1 + 1 + 1 + 1 + 1 + 1 + 1 + 1 + 1 + 1 + 1 + 1 + 1 + 1 + 1))).ownsRow 0 53 9 (.slice (some ⟨g, 0, none⟩) 2 c) 2 [Value.int .i64 k, .bool ((k + 1) % 3 == 0), .int .i64 (k + 1 + 1), .int .i64 (k + 1 + 1 + 1), .slice none 0 0, .int .i64 (k + 1 + 1 + 1 + 1), .int .i64 (k + 1 + 1 + 1 + 1 + 1), .int .i64 (k + 1 + 1 + 1 + 1 + 1 + 1), .int .i64 (k + 1 + 1 + 1 + 1 + 1 + 1 + 1), .int .i64 (k + 1 + 1 + 1 + 1 + 1 + 1 + 1 + 1), .bool ((k + 1 + 1 + 1 + 1 + 1 + 1 + 1 + 1 + 1) % 3 == 0), .int .i64 (k + 1 + 1 + 1 + 1 + 1 + 1 + 1 + 1 + 1 + 1), .int .i64 (k + 1 + 1 + 1 + 1 + 1 + 1 + 1 + 1 + 1 + 1 + 1), .slice none 0 0, .int .i64 (k + 1 + 1 + 1 + 1 + 1 + 1 + 1 + 1 + 1 + 1 + 1 + 1), .int .i64 (k + 1 + 1 + 1 + 1 + 1 + 1 + 1 + 1 + 1 + 1 + 1 + 1 + 1), .int .i64 (k + 1 + 1 + 1 + 1 + 1 + 1 + 1 + 1 + 1 + 1 + 1 + 1 + 1 + 1), .int .i64 (k + 1 + 1 + 1 + 1 + 1 + 1 + 1 + 1 + 1 + 1 + 1 + 1 + 1 + 1 + 1)]) := (World.ownsRow.stored O15 17 (.int .i64 (k + 1 + 1 + 1 + 1 + 1 + 1 + 1 + 1 + 1 + 1 + 1 + 1 + 1 + 1 + 1))).1
  have S16 : Hid (Turn (fun j => j = g) w (W15.setCell ⟨g, 17, none⟩ (.int .i64 (k + 1 + 1 + 1 + 1 + 1 + 1 + 1 + 1 + 1 + 1 + 1 + 1 + 1 + 1 + 1)))) := Turn.here9 T15 _
  clear O15 T15
  go_upto_region 20 with fail
  generalize (W15.setCell ⟨g, 17, none⟩ (.int .i64 (k + 1 + 1 + 1 + 1 + 1 + 1 + 1 + 1 + 1 + 1 + 1 + 1 + 1 + 1 + 1))) = W16 at *
  have O16 := P16.out
  have T16 := S16.out
  clear P16 S16 c15 f15
  go_wp2_with fail
  rw [rounds_succ]
  go_wp2
  go_ret
  exact ⟨rfl, O16, T16⟩

set_option maxRecDepth 100000 in
set_option maxHeartbeats 12800000 in
theorem heldNd2 (g c : Nat) (k : Int) (w : World) (h : w.ownsRow 0 53 9 (.slice (some ⟨g, 0, none⟩) 2 c) 2 (mkN2 k)) (hk0 : 0 ≤ k) (hk : k ≤ 33554432) :
    Calls Try.prog 50 #[.slice (some ⟨g, 0, none⟩) 2 c, .int .i64 k] w fun e w' => e = .returned (.int .i64 (k + 1 + 1 + 1 + 1 + 1 + 1 + 1 + 1 + 1 + 1 + 1 + 1 + 1 + 1 + 1 + 1)) ∧ w' = w := by
  have c0 : w.cell? ⟨g, 0, none⟩ = some (.int .i64 k) := World.ownsRow.cellAt h 0 (by omega)
  have c1 : w.cell? ⟨g, 1, none⟩ = some (.bool ((k + 1) % 3 == 0)) := World.ownsRow.cellAt h 1 (by omega)
  have c2 : w.cell? ⟨g, 2, none⟩ = some (.int .i64 (k + 1 + 1)) := World.ownsRow.cellAt h 2 (by omega)
  have c3 : w.cell? ⟨g, 3, none⟩ = some (.int .i64 (k + 1 + 1 + 1)) := World.ownsRow.cellAt h 3 (by omega)
  have c4 : w.cell? ⟨g, 4, none⟩ = some (.slice none 0 0) := World.ownsRow.cellAt h 4 (by omega)
  have c5 : w.cell? ⟨g, 5, none⟩ = some (.int .i64 (k + 1 + 1 + 1 + 1)) := World.ownsRow.cellAt h 5 (by omega)
  have c6 : w.cell? ⟨g, 6, none⟩ = some (.int .i64 (k + 1 + 1 + 1 + 1 + 1)) := World.ownsRow.cellAt h 6 (by omega)
  have c7 : w.cell? ⟨g, 7, none⟩ = some (.int .i64 (k + 1 + 1 + 1 + 1 + 1 + 1)) := World.ownsRow.cellAt h 7 (by omega)
  have c8 : w.cell? ⟨g, 8, none⟩ = some (.int .i64 (k + 1 + 1 + 1 + 1 + 1 + 1 + 1)) := World.ownsRow.cellAt h 8 (by omega)
  have c9 : w.cell? ⟨g, 9, none⟩ = some (.int .i64 (k + 1 + 1 + 1 + 1 + 1 + 1 + 1 + 1)) := World.ownsRow.cellAt h 9 (by omega)
  have c10 : w.cell? ⟨g, 10, none⟩ = some (.bool ((k + 1 + 1 + 1 + 1 + 1 + 1 + 1 + 1 + 1) % 3 == 0)) := World.ownsRow.cellAt h 10 (by omega)
  have c11 : w.cell? ⟨g, 11, none⟩ = some (.int .i64 (k + 1 + 1 + 1 + 1 + 1 + 1 + 1 + 1 + 1 + 1)) := World.ownsRow.cellAt h 11 (by omega)
  have c12 : w.cell? ⟨g, 12, none⟩ = some (.int .i64 (k + 1 + 1 + 1 + 1 + 1 + 1 + 1 + 1 + 1 + 1 + 1)) := World.ownsRow.cellAt h 12 (by omega)
  have c13 : w.cell? ⟨g, 13, none⟩ = some (.slice none 0 0) := World.ownsRow.cellAt h 13 (by omega)
  have c14 : w.cell? ⟨g, 14, none⟩ = some (.int .i64 (k + 1 + 1 + 1 + 1 + 1 + 1 + 1 + 1 + 1 + 1 + 1 + 1)) := World.ownsRow.cellAt h 14 (by omega)
  have c15 : w.cell? ⟨g, 15, none⟩ = some (.int .i64 (k + 1 + 1 + 1 + 1 + 1 + 1 + 1 + 1 + 1 + 1 + 1 + 1 + 1)) := World.ownsRow.cellAt h 15 (by omega)
  have c16 : w.cell? ⟨g, 16, none⟩ = some (.int .i64 (k + 1 + 1 + 1 + 1 + 1 + 1 + 1 + 1 + 1 + 1 + 1 + 1 + 1 + 1)) := World.ownsRow.cellAt h 16 (by omega)
  have c17 : w.cell? ⟨g, 17, none⟩ = some (.int .i64 (k + 1 + 1 + 1 + 1 + 1 + 1 + 1 + 1 + 1 + 1 + 1 + 1 + 1 + 1 + 1)) := World.ownsRow.cellAt h 17 (by omega)
  have d0 : (k != k) = false := by simp
  have d1 : (k + 1 != k + 1) = false := by simp
  have d2 : (k + 1 + 1 != k + 1 + 1) = false := by simp
  have d3 : (k + 1 + 1 + 1 != k + 1 + 1 + 1) = false := by simp
  have d4 : (k + 1 + 1 + 1 + 1 != k + 1 + 1 + 1 + 1) = false := by simp
  have d5 : (k + 1 + 1 + 1 + 1 + 1 != k + 1 + 1 + 1 + 1 + 1) = false := by simp
  have d6 : (k + 1 + 1 + 1 + 1 + 1 + 1 != k + 1 + 1 + 1 + 1 + 1 + 1) = false := by simp
  have d7 : (k + 1 + 1 + 1 + 1 + 1 + 1 + 1 != k + 1 + 1 + 1 + 1 + 1 + 1 + 1) = false := by simp
  have d8 : (k + 1 + 1 + 1 + 1 + 1 + 1 + 1 + 1 != k + 1 + 1 + 1 + 1 + 1 + 1 + 1 + 1) = false := by simp
  have d9 : (k + 1 + 1 + 1 + 1 + 1 + 1 + 1 + 1 + 1 != k + 1 + 1 + 1 + 1 + 1 + 1 + 1 + 1 + 1) = false := by simp
  have d10 : (k + 1 + 1 + 1 + 1 + 1 + 1 + 1 + 1 + 1 + 1 != k + 1 + 1 + 1 + 1 + 1 + 1 + 1 + 1 + 1 + 1) = false := by simp
  have d11 : (k + 1 + 1 + 1 + 1 + 1 + 1 + 1 + 1 + 1 + 1 + 1 != k + 1 + 1 + 1 + 1 + 1 + 1 + 1 + 1 + 1 + 1 + 1) = false := by simp
  have d12 : (k + 1 + 1 + 1 + 1 + 1 + 1 + 1 + 1 + 1 + 1 + 1 + 1 != k + 1 + 1 + 1 + 1 + 1 + 1 + 1 + 1 + 1 + 1 + 1 + 1) = false := by simp
  have d13 : (k + 1 + 1 + 1 + 1 + 1 + 1 + 1 + 1 + 1 + 1 + 1 + 1 + 1 != k + 1 + 1 + 1 + 1 + 1 + 1 + 1 + 1 + 1 + 1 + 1 + 1 + 1) = false := by simp
  have d14 : (k + 1 + 1 + 1 + 1 + 1 + 1 + 1 + 1 + 1 + 1 + 1 + 1 + 1 + 1 != k + 1 + 1 + 1 + 1 + 1 + 1 + 1 + 1 + 1 + 1 + 1 + 1 + 1 + 1) = false := by simp
  have d15 : (k + 1 + 1 + 1 + 1 + 1 + 1 + 1 + 1 + 1 + 1 + 1 + 1 + 1 + 1 + 1 != k + 1 + 1 + 1 + 1 + 1 + 1 + 1 + 1 + 1 + 1 + 1 + 1 + 1 + 1 + 1) = false := by simp
  have b1 : ((((k + 1) % 3 == 0) : Bool) != ((k + 1) % 3 == 0)) = false := by simp
  have b9 : ((((k + 1 + 1 + 1 + 1 + 1 + 1 + 1 + 1 + 1) % 3 == 0) : Bool) != ((k + 1 + 1 + 1 + 1 + 1 + 1 + 1 + 1 + 1) % 3 == 0)) = false := by simp
  clear h
  go_enter Try.func50, Try.ntmps50
  go_wp2
  refine wp_loop_rounds 3 ?_
  rw [rounds_succ]
  go_wp2_with fail
  refine (heldE0 _ _).mono ?_
  rintro e u0 ⟨rfl, hu⟩
  obtain rfl := hu.symm
  go_wp2_with fail
  rw [rounds_succ]
  go_wp2_with fail
  refine (heldE0 _ _).mono ?_
  rintro e u1 ⟨rfl, hu⟩
  obtain rfl := hu.symm
  go_wp2_with fail
  rw [rounds_succ]
  go_wp2
  go_ret
  exact ⟨rfl, rfl⟩

/-- The cells of three empty wires, and of the three marked from k on. -/
def wz3 : List Value := [Value.int .i64 0, .slice none 0 0, .int .i64 0, .slice none 0 0, .int .i64 0, .slice none 0 0, .int .i64 0, .slice none 0 0, .int .i64 0, .slice none 0 0, .int .i64 0, .slice none 0 0]
def mkW3 (k : Int) : List Value := [Value.int .i64 k, .slice none 0 0, .int .i64 (k + 1), .slice none 0 0, .int .i64 (k + 1 + 1), .slice none 0 0, .int .i64 (k + 1 + 1 + 1), .slice none 0 0, .int .i64 (k + 1 + 1 + 1 + 1), .slice none 0 0, .int .i64 (k + 1 + 1 + 1 + 1 + 1), .slice none 0 0]

set_option maxRecDepth 100000 in
set_option maxHeartbeats 12800000 in
theorem markWi3 (g c : Nat) (k : Int) (w : World) (h : w.ownsRow 0 55 4 (.slice (some ⟨g, 0, none⟩) 3 c) 3 wz3) (hk0 : 0 ≤ k) (hk : k ≤ 33554432) :
    Calls Try.prog 46 #[.slice (some ⟨g, 0, none⟩) 3 c, .int .i64 k] w fun e w' => e = .returned (.int .i64 (k + 1 + 1 + 1 + 1 + 1 + 1)) ∧ w'.ownsRow 0 55 4 (.slice (some ⟨g, 0, none⟩) 3 c) 3 (mkW3 k) ∧ Turn (fun j => j = g) w w' := by
  unfold wz3 at h
  go_enter Try.func46, Try.ntmps46
  have O0 := h
  have T0 : Turn (fun j => j = g) w w := Turn.refl _ _
  clear h
  go_wp2
  refine wp_loop_rounds 4 ?_
  rw [rounds_succ]
  have c0 : w.cell? ⟨g, 0, none⟩ = some (.int .i64 0) := World.ownsRow.cellAt O0 0 (by omega)
  have f0 := World.ownsRow.frozenAt O0 0
  have P1 : Hid ((w.setCell ⟨g, 0, none⟩ (.int .i64 k)).ownsRow 0 55 4 (.slice (some ⟨g, 0, none⟩) 3 c) 3 [Value.int .i64 k, .slice none 0 0, .int .i64 0, .slice none 0 0, .int .i64 0, .slice none 0 0, .int .i64 0, .slice none 0 0, .int .i64 0, .slice none 0 0, .int .i64 0, .slice none 0 0]) := (World.ownsRow.stored O0 0 (.int .i64 k)).1
  have S1 : Hid (Turn (fun j => j = g) w (w.setCell ⟨g, 0, none⟩ (.int .i64 k))) := Turn.here9 T0 _
  clear O0 T0
  go_upto_region 6 with fail
  generalize (w.setCell ⟨g, 0, none⟩ (.int .i64 k)) = W1 at *
  have O1 := P1.out
  have T1 := S1.out
  clear P1 S1 c0 f0
  have c5 : W1.cell? ⟨g, 1, none⟩ = some (.slice none 0 0) := World.ownsRow.cellAt O1 1 (by omega)
  go_wp2_with fail
  refine (markB0 _ _).mono ?_
  rintro e u0 ⟨rfl, hu⟩
  obtain rfl := hu.symm
  clear c5
  have c1 : W1.cell? ⟨g, 2, none⟩ = some (.int .i64 0) := World.ownsRow.cellAt O1 2 (by omega)
  have f1 := World.ownsRow.frozenAt O1 2
  have P2 : Hid ((W1.setCell ⟨g, 2, none⟩ (.int .i64 (k + 1))).ownsRow 0 55 4 (.slice (some ⟨g, 0, none⟩) 3 c) 3 [Value.int .i64 k, .slice none 0 0, .int .i64 (k + 1), .slice none 0 0, .int .i64 0, .slice none 0 0, .int .i64 0, .slice none 0 0, .int .i64 0, .slice none 0 0, .int .i64 0, .slice none 0 0]) := (World.ownsRow.stored O1 2 (.int .i64 (k + 1))).1
  have S2 : Hid (Turn (fun j => j = g) w (W1.setCell ⟨g, 2, none⟩ (.int .i64 (k + 1)))) := Turn.here9 T1 _
  clear O1 T1
  go_upto_region 9 with fail
  generalize (W1.setCell ⟨g, 2, none⟩ (.int .i64 (k + 1))) = W2 at *
  have O2 := P2.out
  have T2 := S2.out
  clear P2 S2 c1 f1
  have c5 : W2.cell? ⟨g, 3, none⟩ = some (.slice none 0 0) := World.ownsRow.cellAt O2 3 (by omega)
  go_wp2_with fail
  refine (markB0 _ _).mono ?_
  rintro e u1 ⟨rfl, hu⟩
  obtain rfl := hu.symm
  clear c5
  go_wp2_with fail
  rw [rounds_succ]
  have c2 : W2.cell? ⟨g, 4, none⟩ = some (.int .i64 0) := World.ownsRow.cellAt O2 4 (by omega)
  have f2 := World.ownsRow.frozenAt O2 4
  have P3 : Hid ((W2.setCell ⟨g, 4, none⟩ (.int .i64 (k + 1 + 1))).ownsRow 0 55 4 (.slice (some ⟨g, 0, none⟩) 3 c) 3 [Value.int .i64 k, .slice none 0 0, .int .i64 (k + 1), .slice none 0 0, .int .i64 (k + 1 + 1), .slice none 0 0, .int .i64 0, .slice none 0 0, .int .i64 0, .slice none 0 0, .int .i64 0, .slice none 0 0]) := (World.ownsRow.stored O2 4 (.int .i64 (k + 1 + 1))).1
  have S3 : Hid (Turn (fun j => j = g) w (W2.setCell ⟨g, 4, none⟩ (.int .i64 (k + 1 + 1)))) := Turn.here9 T2 _
  clear O2 T2
  go_upto_region 6 with fail
  generalize (W2.setCell ⟨g, 4, none⟩ (.int .i64 (k + 1 + 1))) = W3 at *
  have O3 := P3.out
  have T3 := S3.out
  clear P3 S3 c2 f2
  have c5 : W3.cell? ⟨g, 5, none⟩ = some (.slice none 0 0) := World.ownsRow.cellAt O3 5 (by omega)
  go_wp2_with fail
  refine (markB0 _ _).mono ?_
  rintro e u2 ⟨rfl, hu⟩
  obtain rfl := hu.symm
  clear c5
  have c3 : W3.cell? ⟨g, 6, none⟩ = some (.int .i64 0) := World.ownsRow.cellAt O3 6 (by omega)
  have f3 := World.ownsRow.frozenAt O3 6
  have P4 : Hid ((W3.setCell ⟨g, 6, none⟩ (.int .i64 (k + 1 + 1 + 1))).ownsRow 0 55 4 (.slice (some ⟨g, 0, none⟩) 3 c) 3 [Value.int .i64 k, .slice none 0 0, .int .i64 (k + 1), .slice none 0 0, .int .i64 (k + 1 + 1), .slice none 0 0, .int .i64 (k + 1 + 1 + 1), .slice none 0 0, .int .i64 0, .slice none 0 0, .int .i64 0, .slice none 0 0]) := (World.ownsRow.stored O3 6 (.int .i64 (k + 1 + 1 + 1))).1
  have S4 : Hid (Turn (fun j => j = g) w (W3.setCell ⟨g, 6, none⟩ (.int .i64 (k + 1 + 1 + 1)))) := Turn.here9 T3 _
  clear O3 T3
  go_upto_region 9 with fail
  generalize (W3.setCell ⟨g, 6, none⟩ (.int .i64 (k + 1 + 1 + 1))) = W4 at *
  have O4 := P4.out
  have T4 := S4.out
  clear P4 S4 c3 f3
  have c5 : W4.cell? ⟨g, 7, none⟩ = some (.slice none 0 0) := World.ownsRow.cellAt O4 7 (by omega)
  go_wp2_with fail
  refine (markB0 _ _).mono ?_
  rintro e u3 ⟨rfl, hu⟩
  obtain rfl := hu.symm
  clear c5
  go_wp2_with fail
  rw [rounds_succ]
  have c4 : W4.cell? ⟨g, 8, none⟩ = some (.int .i64 0) := World.ownsRow.cellAt O4 8 (by omega)
  have f4 := World.ownsRow.frozenAt O4 8
  have P5 : Hid ((W4.setCell ⟨g, 8, none⟩ (.int .i64 (k + 1 + 1 + 1 + 1))).ownsRow 0 55 4 (.slice (some ⟨g, 0, none⟩) 3 c) 3 [Value.int .i64 k, .slice none 0 0, .int .i64 (k + 1), .slice none 0 0, .int .i64 (k + 1 + 1), .slice none 0 0, .int .i64 (k + 1 + 1 + 1), .slice none 0 0, .int .i64 (k + 1 + 1 + 1 + 1), .slice none 0 0, .int .i64 0, .slice none 0 0]) := (World.ownsRow.stored O4 8 (.int .i64 (k + 1 + 1 + 1 + 1))).1
  have S5 : Hid (Turn (fun j => j = g) w (W4.setCell ⟨g, 8, none⟩ (.int .i64 (k + 1 + 1 + 1 + 1)))) := Turn.here9 T4 _
  clear O4 T4
  go_upto_region 6 with fail
  generalize (W4.setCell ⟨g, 8, none⟩ (.int .i64 (k + 1 + 1 + 1 + 1))) = W5 at *
  have O5 := P5.out
  have T5 := S5.out
  clear P5 S5 c4 f4
  have c5 : W5.cell? ⟨g, 9, none⟩ = some (.slice none 0 0) := World.ownsRow.cellAt O5 9 (by omega)
  go_wp2_with fail
  refine (markB0 _ _).mono ?_
  rintro e u4 ⟨rfl, hu⟩
  obtain rfl := hu.symm
  clear c5
  have c5 : W5.cell? ⟨g, 10, none⟩ = some (.int .i64 0) := World.ownsRow.cellAt O5 10 (by omega)
  have f5 := World.ownsRow.frozenAt O5 10
  have P6 : Hid ((W5.setCell ⟨g, 10, none⟩ (.int .i64 (k + 1 + 1 + 1 + 1 + 1))).ownsRow 0 55 4 (.slice (some ⟨g, 0, none⟩) 3 c) 3 [Value.int .i64 k, .slice none 0 0, .int .i64 (k + 1), .slice none 0 0, .int .i64 (k + 1 + 1), .slice none 0 0, .int .i64 (k + 1 + 1 + 1), .slice none 0 0, .int .i64 (k + 1 + 1 + 1 + 1), .slice none 0 0, .int .i64 (k + 1 + 1 + 1 + 1 + 1), .slice none 0 0]) := (World.ownsRow.stored O5 10 (.int .i64 (k + 1 + 1 + 1 + 1 + 1))).1
  have S6 : Hid (Turn (fun j => j = g) w (W5.setCell ⟨g, 10, none⟩ (.int .i64 (k + 1 + 1 + 1 + 1 + 1)))) := Turn.here9 T5 _
  clear O5 T5
  go_upto_region 9 with fail
  generalize (W5.setCell ⟨g, 10, none⟩ (.int .i64 (k + 1 + 1 + 1 + 1 + 1))) = W6 at *
  have O6 := P6.out
  have T6 := S6.out
  clear P6 S6 c5 f5
  have c5 : W6.cell? ⟨g, 11, none⟩ = some (.slice none 0 0) := World.ownsRow.cellAt O6 11 (by omega)
  go_wp2_with fail
  refine (markB0 _ _).mono ?_
  rintro e u5 ⟨rfl, hu⟩
  obtain rfl := hu.symm
  clear c5
  go_wp2_with fail
  rw [rounds_succ]
  go_wp2
  go_ret
  exact ⟨rfl, O6, T6⟩

set_option maxRecDepth 100000 in
set_option maxHeartbeats 12800000 in
theorem heldWi3 (g c : Nat) (k : Int) (w : World) (h : w.ownsRow 0 55 4 (.slice (some ⟨g, 0, none⟩) 3 c) 3 (mkW3 k)) (hk0 : 0 ≤ k) (hk : k ≤ 33554432) :
    Calls Try.prog 51 #[.slice (some ⟨g, 0, none⟩) 3 c, .int .i64 k] w fun e w' => e = .returned (.int .i64 (k + 1 + 1 + 1 + 1 + 1 + 1)) ∧ w' = w := by
  have c0 : w.cell? ⟨g, 0, none⟩ = some (.int .i64 k) := World.ownsRow.cellAt h 0 (by omega)
  have c1 : w.cell? ⟨g, 1, none⟩ = some (.slice none 0 0) := World.ownsRow.cellAt h 1 (by omega)
  have c2 : w.cell? ⟨g, 2, none⟩ = some (.int .i64 (k + 1)) := World.ownsRow.cellAt h 2 (by omega)
  have c3 : w.cell? ⟨g, 3, none⟩ = some (.slice none 0 0) := World.ownsRow.cellAt h 3 (by omega)
  have c4 : w.cell? ⟨g, 4, none⟩ = some (.int .i64 (k + 1 + 1)) := World.ownsRow.cellAt h 4 (by omega)
  have c5 : w.cell? ⟨g, 5, none⟩ = some (.slice none 0 0) := World.ownsRow.cellAt h 5 (by omega)
  have c6 : w.cell? ⟨g, 6, none⟩ = some (.int .i64 (k + 1 + 1 + 1)) := World.ownsRow.cellAt h 6 (by omega)
  have c7 : w.cell? ⟨g, 7, none⟩ = some (.slice none 0 0) := World.ownsRow.cellAt h 7 (by omega)
  have c8 : w.cell? ⟨g, 8, none⟩ = some (.int .i64 (k + 1 + 1 + 1 + 1)) := World.ownsRow.cellAt h 8 (by omega)
  have c9 : w.cell? ⟨g, 9, none⟩ = some (.slice none 0 0) := World.ownsRow.cellAt h 9 (by omega)
  have c10 : w.cell? ⟨g, 10, none⟩ = some (.int .i64 (k + 1 + 1 + 1 + 1 + 1)) := World.ownsRow.cellAt h 10 (by omega)
  have c11 : w.cell? ⟨g, 11, none⟩ = some (.slice none 0 0) := World.ownsRow.cellAt h 11 (by omega)
  have d0 : (k != k) = false := by simp
  have d1 : (k + 1 != k + 1) = false := by simp
  have d2 : (k + 1 + 1 != k + 1 + 1) = false := by simp
  have d3 : (k + 1 + 1 + 1 != k + 1 + 1 + 1) = false := by simp
  have d4 : (k + 1 + 1 + 1 + 1 != k + 1 + 1 + 1 + 1) = false := by simp
  have d5 : (k + 1 + 1 + 1 + 1 + 1 != k + 1 + 1 + 1 + 1 + 1) = false := by simp
  clear h
  go_enter Try.func51, Try.ntmps51
  go_wp2
  refine wp_loop_rounds 4 ?_
  rw [rounds_succ]
  go_wp2_with fail
  refine (heldB0 _ _).mono ?_
  rintro e u0 ⟨rfl, hu⟩
  obtain rfl := hu.symm
  go_wp2_with fail
  refine (heldB0 _ _).mono ?_
  rintro e u1 ⟨rfl, hu⟩
  obtain rfl := hu.symm
  go_wp2_with fail
  rw [rounds_succ]
  go_wp2_with fail
  refine (heldB0 _ _).mono ?_
  rintro e u2 ⟨rfl, hu⟩
  obtain rfl := hu.symm
  go_wp2_with fail
  refine (heldB0 _ _).mono ?_
  rintro e u3 ⟨rfl, hu⟩
  obtain rfl := hu.symm
  go_wp2_with fail
  rw [rounds_succ]
  go_wp2_with fail
  refine (heldB0 _ _).mono ?_
  rintro e u4 ⟨rfl, hu⟩
  obtain rfl := hu.symm
  go_wp2_with fail
  refine (heldB0 _ _).mono ?_
  rintro e u5 ⟨rfl, hu⟩
  obtain rfl := hu.symm
  go_wp2_with fail
  rw [rounds_succ]
  go_wp2
  go_ret
  exact ⟨rfl, rfl⟩

end Go.Proofs.Ytdknalegmlpimaa

namespace Go.Proofs.Ytdknalegmlpimaa
open Go.RowKit

theorem Turn.rowW {a w : World} {B : Nat} {S : Nat → Prop} (h : Turn S a w) (hS : S B) (cs : Array Value) : Turn S a (w.setRow B cs) :=
  ⟨h.os, h.tape, h.output, by simpa [World.setRow] using h.size, fun k hk hs => (setRow_other w B k cs (fun e => hs (e ▸ hS))).trans (h.block k hk hs)⟩
theorem Blk.rowW {w : World} {B : Nat} {t : TypeId} {old : Array Value} (h : Blk w B t old) (cs : Array Value) : Blk (w.setRow B cs) B t cs := setRow_heap w B old cs t (0, 0) h
theorem Blk.rowO {w : World} {B C : Nat} {t : TypeId} {cs : Array Value} (h : Blk w C t cs) (hne : ¬ C = B) (ds : Array Value) : Blk (w.setRow B ds) C t cs := (setRow_other w B C ds hne).trans h
theorem Turn.drewW {S : Nat → Prop} {a w : World} (h : Turn S a w) : Turn S a w.drew := ⟨h.os, h.tape, h.output, h.size, h.block⟩

/-- A struct that lies in a block is loaded, whole, wherever the block is known. -/
theorem yields_load_blk {P : Program} {ops : Array Oper} {S : World → Prop} {op : Oper} {a : Act} (hw : Region.wanted op (yielded ops a.tmps) = true) (ty : TypeId) (x : Operand) (ho : op.op = .load ty x)
    (B : Nat) (hx : a.eval x = .pointer (some ⟨B, 0, none⟩)) (cs : Array Value) (d : TypeDesc) (hS : ∀ w, S w → Blk w B ty cs)
    (hu : P.underlying ty = some d) (hd : (match d with | .struct _ | .array _ _ => true | _ => false) = true) (hi : (P.info? ty).map (·.size) = some cs.size) : YieldsIf P ops S op (.agg cs) a :=
  .inl ⟨hw, fun w hw' => by
    unfold execOp
    simp only [ho, hx, Instr.loadAt, Instr.sureAddr, Sem.run_bind, Sem.run_pure, Result.andThen_ok, run_loadVar_row w B ty ty cs (0, 0) d (hS w hw') hu hd hi]⟩

/-- What is walked under more is walked under less. -/
theorem wpAnyH_more {P : Program} {md : Region.Mode} {ops : Array Oper} {Q : Exit → Act → World → Prop} {S S' : World → Prop} (hs : ∀ w, S' w → S w) : ∀ (fuel : Nat) (listed : Array Bool) (a : Act) (w : World), wpAnyH P md ops Q S' fuel listed a w → wpAnyH P md ops Q S fuel listed a w
  | 0, _, _, _, h => h
  | fuel + 1, _, _, _, h => ⟨h.1, fun i hi => wpOp_mono (fun a' w' h3 => ⟨hs _ h3.1, wpAnyH_more hs fuel _ a' w' h3.2⟩) (h.2 i hi)⟩

/-- A struct that lies in a block is loaded, whole. -/
theorem run_load_blk {P : Program} {op : Oper} {a : Act} {w : World} (ty : TypeId) (x : Operand) (ho : op.op = .load ty x) (B : Nat) (hx : a.eval x = .pointer (some ⟨B, 0, none⟩)) (cs : Array Value) (d : TypeDesc) (hb : Blk w B ty cs)
    (hu : P.underlying ty = some d) (hd : (match d with | .struct _ | .array _ _ => true | _ => false) = true) (hi : (P.info? ty).map (·.size) = some cs.size) : (execOp a.eval op).run P w = .ok (.value (.agg cs)) w := by
  unfold execOp
  simp only [ho, hx, Instr.loadAt, Instr.sureAddr, Sem.run_bind, Sem.run_pure, Result.andThen_ok, run_loadVar_row w B ty ty cs (0, 0) d hb hu hd hi]

section
variable {P : Program} {ops : Array Oper} {Q : Exit → Act → World → Prop} {md : Region.Mode} {S : World → Prop}
/-- The beginning of a walk by hand through a region that draws its order. -/
theorem hw_start {id n : Nat} {a : Act} {w : World} (hn : ops.size = n) (hm : P.follows .mixedOrders = true) (hS : S w.drew) (h : S w.drew → wpAnyH P .any ops Q S n (Array.replicate n false) a w.drew) : (Code.region id ops true).wp P Q a w := by
  subst hn
  exact wp_region_held_drew hm hS h
/-- An operation that only yields is taken first. -/
theorem hw_take {fuel : Nat} {listed : Array Bool} {a : Act} {w : World} (i : Nat) (d : Option Tmp) (v : Value) {oi : Oper} (hi : ops[i]? = some oi) (hd : oi.dst = d)
    (hs : Region.noSelect ops = true) (hf : Region.free md ops listed i = true) (hr : (Region.ready md ops listed).contains i = true)
    (hQ : ∀ c a w, Q (.panic c) (a.put d v) w → Q (.panic c) a w) (hw : Region.wanted oi (yielded ops a.tmps) = true) (hS : S w) (hy : ∀ w, S w → (execOp a.eval oi).run P w = .ok (.value v) w)
    (h : wpAnyH P md ops Q S fuel (listed.setIfInBounds i true) (a.put d v) w) : wpAnyH P md ops Q S (fuel + 1) listed a w := by
  subst hd
  exact wpAnyH_take hi hs hf hr hQ (.inl ⟨hw, hy⟩) hS h
/-- The one operation that may come up is run. -/
theorem hw_call {fuel : Nat} {listed : Array Bool} {a : Act} {w : World} (i : Nat) (d : Option Tmp) {oi : Oper} (hi : ops[i]? = some oi) (hd : oi.dst = d) (hr : Region.ready md ops listed = [i]) (hw : Region.wanted oi (yielded ops a.tmps) = true)
    (h : ∀ K' : Act → World → Prop, Shut (∀ u w', S w' → (S w' → wpAnyH P md ops Q S fuel (listed.setIfInBounds i true) (a.put d u) w') → K' (a.put d u) w') → Oper.wp P oi a w K' Q) : wpAnyH P md ops Q S (fuel + 1) listed a w := by
  subst hd
  refine wpAnyH_ready hr (by simp) ?_
  intro j hj
  obtain rfl := List.mem_singleton.1 hj
  refine wpOp_step hi (fun K' hK => ?_)
  rw [if_pos hw]
  exact h K' (fun u w' hS' hW => hK _ _ ⟨hS', hW hS'⟩)
/-- One of those that may come up is run. -/
theorem hw_step {fuel : Nat} {listed : Array Bool} {a : Act} {w : World} {rs : List Nat} (i : Nat) (d : Option Tmp) {oi : Oper} (hi : ops[i]? = some oi) (hd : oi.dst = d) (hw : Region.wanted oi (yielded ops a.tmps) = true)
    (h : ∀ K' : Act → World → Prop, Shut (∀ u w', S w' → (S w' → wpAnyH P md ops Q S fuel (listed.setIfInBounds i true) (a.put d u) w') → K' (a.put d u) w') → Oper.wp P oi a w K' Q) (hs : AllReadyH P md ops Q S fuel listed a w rs) : AllReadyH P md ops Q S fuel listed a w (i :: rs) := by
  subst hd
  intro j hj
  rcases List.mem_cons.1 hj with rfl | hj
  · refine wpOp_step hi (fun K' hK => ?_)
    rw [if_pos hw]
    exact h K' (fun u w' hS' hW => hK _ _ ⟨hS', hW hS'⟩)
  · exact hs j hj
/-- A struct is stored, whole, into a block that is known. -/
theorem hw_store {a : Act} {w : World} {K : Act → World → Prop} (ty : TypeId) (x y : Operand) {oi : Oper} (ho : oi.op = .store ty x y) (hd : oi.dst = none) (B : Nat) (cs old : Array Value) (hx : a.eval x = .pointer (some ⟨B, 0, none⟩)) (hy : a.eval y = .agg cs)
    (hb : Blk w B ty old) (hi : (P.info? ty).map (·.size) = some cs.size) (hold : old.size = cs.size) (h1 : cs.all (·.oneCell') = true) (h : K (a.put none undef) (w.setRow B cs)) : Oper.wp P oi a w K Q := by
  refine wp_store_row ty x y ho B cs hx hy ty old hb hi hold h1 ?_
  rw [hd]
  exact h
end

theorem results_row3 {fn : Func} {t0 t1 t2 : Tmp} {ty0 ty1 ty2 : TypeId} {P : Program} {w : World} {tmps : Array Value} {B0 B1 B2 : Nat} {cs0 cs1 cs2 : Array Value} (h : fn.results = #[.cell t0 ty0, .cell t1 ty1, .cell t2 ty2])
    (ht0 : tmps[t0]? = some (.pointer (some ⟨B0, 0, none⟩))) (ht1 : tmps[t1]? = some (.pointer (some ⟨B1, 0, none⟩))) (ht2 : tmps[t2]? = some (.pointer (some ⟨B2, 0, none⟩)))
    (hb0 : Blk w B0 ty0 cs0) (hb1 : Blk w B1 ty1 cs1) (hb2 : Blk w B2 ty2 cs2)
    (hu0 : ∃ fs, P.underlying ty0 = some (.struct fs)) (hu1 : ∃ fs, P.underlying ty1 = some (.struct fs)) (hu2 : ∃ fs, P.underlying ty2 = some (.struct fs))
    (hi0 : (P.info? ty0).map (·.size) = some cs0.size) (hi1 : (P.info? ty1).map (·.size) = some cs1.size) (hi2 : (P.info? ty2).map (·.size) = some cs2.size) :
    (results fn tmps).run P w = .ok (.tuple #[.agg cs0, .agg cs1, .agg cs2]) w := by
  obtain ⟨f0, hu0⟩ := hu0
  obtain ⟨f1, hu1⟩ := hu1
  obtain ⟨f2, hu2⟩ := hu2
  have hl0 := run_loadVar_row (P := P) w B0 ty0 ty0 cs0 (0, 0) (.struct f0) hb0 hu0 rfl hi0
  have hl1 := run_loadVar_row (P := P) w B1 ty1 ty1 cs1 (0, 0) (.struct f1) hb1 hu1 rfl hi1
  have hl2 := run_loadVar_row (P := P) w B2 ty2 ty2 cs2 (0, 0) (.struct f2) hb2 hu2 rfl hi2
  simp [results, h, ht0, ht1, ht2, asAddr, hl0, hl1, hl2]

end Go.Proofs.Ytdknalegmlpimaa
