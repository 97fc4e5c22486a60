/- What is proved here: what the comparing, the marking and the looking for marks in what the reading of an update told answer. -/
import Derived.Test.YtljkcijakdhdiaaRdImpl
import Derived.Test.YtljkcijakdhdiaaMkLaw
namespace Go.Proofs.Ytljkcijakdhdiaa
open Go.RowKit Go.Sort
set_option linter.unusedVariables false

theorem In6.of {x : Int} (h0 : 0 ≤ x) (h1 : x ≤ 1099511627776) : In6 x := by unfold In6; omega
theorem mkP_bd (s : Int) (n : Nat) (h0 : 0 ≤ s) (h1 : s ≤ 1073741824) (hn : n ≤ 1048576) : ∀ p ∈ mkP s n, In6 p.1 ∧ In6 p.2 := by
  intro p hp
  obtain ⟨j, hj, rfl⟩ := List.mem_iff_getElem.1 hp
  rw [mkP_len] at hj
  have := mkP_get n s j hj
  rw [List.getElem?_eq_getElem (by rw [mkP_len]; exact hj)] at this
  rw [Option.some.inj this]
  exact ⟨In6.of (by show 0 ≤ s + 2 * (j : Int); omega) (by show s + 2 * (j : Int) ≤ _; omega), In6.of (by show 0 ≤ s + 2 * (j : Int) + 1; omega) (by show s + 2 * (j : Int) + 1 ≤ _; omega)⟩
theorem mkN_bd (s : Int) (n : Nat) (h0 : 0 ≤ s) (h1 : s ≤ 1073741824) (hn : n ≤ 1048576) : ∀ z ∈ mkN s n, In6 z := by
  intro z hz
  unfold mkN at hz
  obtain ⟨i, hi, rfl⟩ := List.mem_map.1 hz
  have := List.mem_range.1 hi
  exact In6.of (by omega) (by omega)

set_option maxHeartbeats 800000 in
theorem heldPs_any (a : Option Addr) (n c : Nat) (s : Int) (w : World) (h : PsAt w a (mkP s n)) (hm : n ≤ 1048576) (hs0 : 0 ≤ s) (hs1 : s ≤ 1073741824) :
    Calls Try.prog 47 #[.slice a n c, .int .i64 s] w fun e w' => e = .returned (.int .i64 (s + 2 * (n : Int))) ∧ w' = w := by
  go_enter Try.func47, Try.ntmps47
  go_wp2
  go_loop [1, 5] (fun t i => ∃ k : Nat, k ≤ n ∧ i = .int .i64 k ∧ t = .int .i64 (s + 2 * (k : Int))) (fun _ i => n - (intOf i).toNat)
  case atStart => exact ⟨0, Nat.zero_le _, rfl, by simp⟩
  case round =>
    obtain ⟨k, hk, rfl, rfl⟩ := hrel
    by_cases hlt : k < n
    · obtain ⟨b, off, x, y, rfl, hp, x0, x1⟩ := h.at k (by rw [mkP_len]; exact hlt)
      rw [mkP_get n s k hlt] at hp
      simp only [Option.some.injEq, Prod.mk.injEq] at hp
      obtain ⟨rfl, rfl⟩ := hp
      go_wp2
      go_round
      case rel => exact ⟨k + 1, by omega, by go_num, by go_num⟩
      case measure => simp [intOf]; omega
    · obtain rfl : k = n := by omega
      go_wp2
      go_ret
      exact ⟨rfl, rfl⟩

set_option maxHeartbeats 800000 in
theorem heldNs_any (a : Option Addr) (n c : Nat) (s : Int) (w : World) (h : NsAt w a (mkN s n)) (hm : n ≤ 1048576) (hs0 : 0 ≤ s) (hs1 : s ≤ 1073741824) :
    Calls Try.prog 48 #[.slice a n c, .int .i64 s] w fun e w' => e = .returned (.int .i64 (s + (n : Int))) ∧ w' = w := by
  go_enter Try.func48, Try.ntmps48
  go_wp2
  go_loop [1, 5] (fun t i => ∃ k : Nat, k ≤ n ∧ i = .int .i64 k ∧ t = .int .i64 (s + (k : Int))) (fun _ i => n - (intOf i).toNat)
  case atStart => exact ⟨0, Nat.zero_le _, rfl, by simp⟩
  case round =>
    obtain ⟨k, hk, rfl, rfl⟩ := hrel
    by_cases hlt : k < n
    · obtain ⟨b, off, rfl, x0, _⟩ := h k _ (mkN_get s n k hlt)
      go_wp2
      go_round
      case rel => exact ⟨k + 1, by omega, by go_num, by go_num⟩
      case measure => simp [intOf]; omega
    · obtain rfl : k = n := by omega
      go_wp2
      go_ret
      exact ⟨rfl, rfl⟩

theorem markQ_any (v : Value) (L : List (Int × Int)) (lo n : Nat) (s : Int) (w : World) (h : OwQ w lo v L) (hn : L.length = n) (hm : n ≤ 1048576) (hs0 : 0 ≤ s) (hs1 : s ≤ 1073741824) :
    Calls Try.prog 45 #[v, .int .i64 s] w fun e w' => e = .returned (.int .i64 (s + 2 * (n : Int))) ∧ OwQ w' lo v (mkP s n) ∧ Turn (fun k => v.ownBlock = some k) w w' := by
  rcases h with ⟨rfl, rfl⟩ | ⟨g, c, rfl, hg, ho⟩
  · obtain rfl : n = 0 := hn.symm
    go_enter Try.func45, Try.ntmps45
    go_wp2_with fail
    go_loopw [1, 5] (fun t i wr => t = .int .i64 s ∧ i = .int .i64 0 ∧ New w wr) (fun _ _ _ => 0)
    case atStart => exact ⟨rfl, rfl, New.refl _⟩
    case round =>
      obtain ⟨rfl, rfl, hN⟩ := hrel
      go_wp2
      go_ret
      exact ⟨by simp, .inl ⟨rfl, rfl⟩, hN.turn⟩
  · rw [hn] at ho ⊢
    refine (markPs_t g n c L s w ho hm hs0 hs1).mono ?_
    rintro e w' ⟨rfl, h2, ht⟩
    refine ⟨rfl, .inr ⟨g, c, by rw [mkP_len], hg, by rw [mkP_len]; exact h2⟩, ht.mono (fun i _ e => by subst e; rfl)⟩

theorem markM_any (v : Value) (L : List Int) (lo n : Nat) (s : Int) (w : World) (h : OwM w lo v L) (hn : L.length = n) (hm : n ≤ 1048576) (hs0 : 0 ≤ s) (hs1 : s ≤ 1073741824) :
    Calls Try.prog 46 #[v, .int .i64 s] w fun e w' => e = .returned (.int .i64 (s + (n : Int))) ∧ OwM w' lo v (mkN s n) ∧ Turn (fun k => v.ownBlock = some k) w w' := by
  rcases h with ⟨rfl, rfl⟩ | ⟨g, c, rfl, hg, ho⟩
  · obtain rfl : n = 0 := hn.symm
    go_enter Try.func46, Try.ntmps46
    go_wp2_with fail
    go_loopw [1, 5] (fun t i wr => t = .int .i64 s ∧ i = .int .i64 0 ∧ New w wr) (fun _ _ _ => 0)
    case atStart => exact ⟨rfl, rfl, New.refl _⟩
    case round =>
      obtain ⟨rfl, rfl, hN⟩ := hrel
      go_wp2
      go_ret
      exact ⟨by simp, .inl ⟨rfl, rfl⟩, hN.turn⟩
  · rw [hn] at ho ⊢
    refine (markNs_t g n c L s w ho hm hs0 hs1).mono ?_
    rintro e w' ⟨rfl, h2, ht⟩
    refine ⟨rfl, .inr ⟨g, c, by rw [mkN_len], hg, by rw [mkN_len]; exact h2⟩, ht.mono (fun i _ e => by subst e; rfl)⟩

end Go.Proofs.Ytljkcijakdhdiaa
