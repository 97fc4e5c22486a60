/- What is proved here: what the two readings of a number in bytes answer, for every list of bytes, place and size. -/
import Derived.Test.YtljkcijakdhdiaaUtil
namespace Go.Proofs.Ytljkcijakdhdiaa
open Go.RowKit

def num (l : List Int) : Int := l.foldl (fun n z => n * 256 + z) 0
theorem num_snoc (l : List Int) (z : Int) : num (l ++ [z]) = num l * 256 + z := by simp [num]
theorem num_bd3 (l : List Int) (h : ∀ z ∈ l, 0 ≤ z ∧ z ≤ 255) (hl : l.length ≤ 3) : 0 ≤ num l ∧ num l ≤ 16777215 := by
  match l, hl with
  | [], _ => simp [num]
  | [a], _ => have := h a (by simp); simp [num]; omega
  | [a, b], _ => have := h a (by simp); have := h b (by simp); simp [num]; omega
  | [a, b, c], _ => have := h a (by simp); have := h b (by simp); have := h c (by simp); simp [num]; omega
/-- The number in m bytes from the place t on. -/
def numAt (zs : List Int) (t m : Nat) : Int := num ((zs.drop t).take m)
theorem numAt_snoc {zs : List Int} {t k : Nat} {z : Int} (h : zs[t + k]? = some z) : numAt zs t (k + 1) = numAt zs t k * 256 + z := by
  unfold numAt
  rw [take_snoc (z := z) (by rw [List.getElem?_drop]; exact h)]
  exact num_snoc _ _
theorem numAt_bd3 (zs : List Int) (hz : ∀ z ∈ zs, 0 ≤ z ∧ z ≤ 255) (t k : Nat) (hk : k ≤ 3) : 0 ≤ numAt zs t k ∧ numAt zs t k ≤ 16777215 :=
  num_bd3 _ (fun z h => hz z (List.mem_of_mem_drop (List.mem_of_mem_take h))) (by rw [List.length_take]; omega)
theorem numAt_bd4 (zs : List Int) (hz : ∀ z ∈ zs, 0 ≤ z ∧ z ≤ 255) (t k : Nat) (hk : k ≤ 4) : 0 ≤ numAt zs t k ∧ numAt zs t k ≤ 4294967295 := by
  by_cases h : k ≤ 3
  · have := numAt_bd3 zs hz t k h; omega
  · obtain rfl : k = 3 + 1 := by omega
    have h3 := numAt_bd3 zs hz t 3 (Nat.le_refl _)
    cases hg : zs[t + 3]? with
    | none =>
      have : numAt zs t (3 + 1) = numAt zs t 3 := by
        unfold numAt
        have : (zs.drop t).length ≤ 3 := by rw [List.length_drop]; have := List.getElem?_eq_none_iff.1 hg; omega
        rw [List.take_of_length_le (by omega), List.take_of_length_le this]
      omega
    | some z => rw [numAt_snoc hg]; have := hz z (List.mem_of_getElem? hg); omega

theorem New.cells {W w1 : World} (hb : New W w1) : ∀ b o, b < W.heap.size → w1.cell? ⟨b, o, none⟩ = W.cell? ⟨b, o, none⟩ :=
  fun b o h => hb.below.cell (p := ⟨b, o, none⟩) h

theorem New.frozens {W w1 : World} (hb : New W w1) : ∀ b o, b < W.heap.size → w1.frozen? ⟨b, o, none⟩ = W.frozen? ⟨b, o, none⟩ :=
  fun b o h => hb.below.frozen (p := ⟨b, o, none⟩) h

theorem in_yes (v lo hi : Int) (w : World) (h : lo ≤ v ∧ v ≤ hi) : Calls Try.prog 64 #[.int .i64 v, .int .i64 lo, .int .i64 hi] w fun e w' => e = .returned (.bool true) ∧ w' = w := by
  obtain ⟨h1, h2⟩ := h
  go_enter Try.func64, Try.ntmps64
  go_wp2
  go_ret
  exact ⟨by simp, rfl⟩

theorem in_no (v lo hi : Int) (w : World) (h : v < lo ∨ hi < v) : Calls Try.prog 64 #[.int .i64 v, .int .i64 lo, .int .i64 hi] w fun e w' => e = .returned (.bool false) ∧ w' = w := by
  by_cases h1 : lo ≤ v
  · have h2 : hi < v := by omega
    go_enter Try.func64, Try.ntmps64
    go_wp2
    go_ret
    exact ⟨by simp; omega, rfl⟩
  · go_enter Try.func64, Try.ntmps64
    go_wp2
    go_ret
    exact ⟨rfl, rfl⟩

set_option maxHeartbeats 400000 in
theorem take_any (a : Option Addr) (n c t m : Nat) (zs : List Int) (w : World) (h : BsAt w a zs) (hn : zs.length = n) (hm : n ≤ 1048576) (ht : t + m ≤ n) (hm4 : m ≤ 4) :
    Calls Try.prog 38 #[.slice a n c, .int .i64 t, .int .i64 m] w fun e w' => e = .returned (.int .i64 (numAt zs t m)) ∧ w' = w := by
  go_enter Try.func38, Try.ntmps38
  go_wp2
  go_loop [7, 8] (fun s i => ∃ k : Nat, k ≤ m ∧ i = .int .i64 k ∧ s = .int .i64 (numAt zs t k)) (fun _ i => m - (intOf i).toNat)
  case atStart => exact ⟨0, Nat.zero_le _, rfl, rfl⟩
  case round =>
    obtain ⟨k, hk, rfl, rfl⟩ := hrel
    by_cases hlt : k < m
    · obtain ⟨b, off, z, rfl, hz, hc, hz0, hz1⟩ := h.at (t + k) (by omega)
      have HS : Hid (numAt zs t (k + 1) = numAt zs t k * 256 + z) := numAt_snoc hz
      have hb := numAt_bd3 zs h.lt t k (by omega)
      clear hz h
      generalize numAt zs t k = s at *
      go_wp2
      go_round
      case rel => exact ⟨k + 1, by omega, by go_num, by rw [HS.out]⟩
      case measure => simp [intOf]; omega
    · have hkm : k = m := by omega
      subst hkm
      go_wp2
      go_ret
      exact ⟨rfl, rfl⟩

set_option maxHeartbeats 800000 in
theorem implNum_bad (a : Option Addr) (n c : Nat) (t m : Int) (w : World) (hm : n ≤ 1048576) (h : m < 1 ∨ 4 < m ∨ t < 0 ∨ n - m < t) :
    Calls Try.prog 55 #[.slice a n c, .int .i64 t, .int .i64 m] w fun e w' => e = .returned (.agg #[.int .i64 3, .int .i64 0]) ∧ New w w' := by
  have h' : m < 1 ∨ (1 ≤ m ∧ 4 < m) ∨ (1 ≤ m ∧ m ≤ 4 ∧ t < 0) ∨ (1 ≤ m ∧ m ≤ 4 ∧ 0 ≤ t ∧ n - m < t) := by omega
  clear h
  rcases h' with h | ⟨h, h1⟩ | ⟨h, h1, h2⟩ | ⟨h, h1, h2, h3⟩
  all_goals
    go_enter Try.func55, Try.ntmps55
    go_wp2
    exact bodyPost_ret (v := .agg #[.int .i64 3, .int .i64 0]) (by simp [results, Try.results55, go_sem]) rfl ⟨rfl, (New.refl _).alloc _⟩

set_option maxHeartbeats 800000 in
theorem implNum_good (a : Option Addr) (n c t m : Nat) (zs : List Int) (w : World) (h : BsAt w a zs) (hn : zs.length = n) (hc : n ≤ c) (hm : n ≤ 1048576) (h1 : 1 ≤ m) (h2 : m ≤ 4) (h3 : t + m ≤ n) :
    Calls Try.prog 55 #[.slice a n c, .int .i64 t, .int .i64 m] w fun e w' => e = .returned (.agg #[.int .i64 0, .int .i64 (numAt zs t m)]) ∧ New w w' := by
  obtain ⟨b, off, z0, rfl, -, -, -⟩ := h.at 0 (by omega)
  have h' := h.new ((New.refl _).alloc (.cells #[.int .i64 0, .int .i64 0] 77))
  go_enter Try.func55, Try.ntmps55
  go_wp2
  go_loop [7, 36] (fun s i => ∃ k : Nat, k ≤ m ∧ i = .int .i64 k ∧ s = .int .i64 (numAt zs t k)) (fun _ i => m - (intOf i).toNat)
  case atStart => exact ⟨0, Nat.zero_le _, rfl, rfl⟩
  case round =>
    obtain ⟨k, hk, rfl, rfl⟩ := hrel
    by_cases hlt : k < m
    · obtain ⟨b1, off1, z, e1, hz, hc, hz0, hz1⟩ := h'.at (t + k) (by omega)
      simp only [Option.some.injEq, Addr.mk.injEq, and_true] at e1
      obtain ⟨rfl, rfl⟩ := e1
      have HS : Hid (numAt zs t (k + 1) = numAt zs t k * 256 + z) := numAt_snoc hz
      have hb := numAt_bd3 zs h.lt t k (by omega)
      rw [← Nat.add_assoc] at hc
      clear hz h h'
      generalize numAt zs t k = s at *
      go_wp2
      go_round
      case rel => exact ⟨k + 1, by omega, by go_num, by rw [HS.out]⟩
      case measure => simp [intOf]; omega
    · have hkm : k = m := by omega
      subst hkm
      go_wp2
      exact bodyPost_ret (v := .agg #[.int .i64 0, .int .i64 (numAt zs t k)]) (by simp [results, Try.results55, go_sem]) rfl ⟨rfl, (New.refl _).alloc _⟩

end Go.Proofs.Ytljkcijakdhdiaa
