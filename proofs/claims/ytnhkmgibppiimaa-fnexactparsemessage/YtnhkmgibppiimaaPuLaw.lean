/- What is proved here: what the comparing, the marking and the looking for marks in what the reading of an update told answer. -/
import Derived.Test.YtnhkmgibppiimaaRdImpl
import Derived.Test.YtnhkmgibppiimaaMkLaw
namespace Go.Proofs.Ytnhkmgibppiimaa
open Go.RowKit Go.Sort
set_option linter.unusedVariables false

theorem In6.of {x : Int} (h0 : 0 ≤ x) (h1 : x ≤ 1099511627776) : In6 x := by unfold In6; omega
theorem mkP_bd (s : Int) (n : Nat) (h0 : 0 ≤ s) (h1 : s ≤ 1073741824) (hn : n ≤ 1048576) : ∀ p ∈ mkP s n, In6 p.1 ∧ In6 p.2 := by
  intro p hp
  obtain ⟨j, hj, rfl⟩ := List.mem_iff_getElem.1 hp
  rw [mkP_len] at hj
  have := mkP_get n s j hj
  rw [List.getElem?_eq_getElem (by rw [mkP_len]; exact hj)] at this
  rw [Option.some.inj this]
  exact ⟨In6.of (by show 0 ≤ s + 2 * (j : Int); omega) (by show s + 2 * (j : Int) ≤ _; omega), In6.of (by show 0 ≤ s + 2 * (j : Int) + 1; omega) (by show s + 2 * (j : Int) + 1 ≤ _; omega)⟩
theorem mkN_bd (s : Int) (n : Nat) (h0 : 0 ≤ s) (h1 : s ≤ 1073741824) (hn : n ≤ 1048576) : ∀ z ∈ mkN s n, In6 z := by
  intro z hz
  unfold mkN at hz
  obtain ⟨i, hi, rfl⟩ := List.mem_map.1 hz
  have := List.mem_range.1 hi
  exact In6.of (by omega) (by omega)

set_option maxHeartbeats 800000 in
theorem heldPs_any (a : Option Addr) (n c : Nat) (s : Int) (w : World) (h : PsAt w a (mkP s n)) (hm : n ≤ 1048576) (hs0 : 0 ≤ s) (hs1 : s ≤ 1073741824) :
    Calls Try.prog 62 #[.slice a n c, .int .i64 s] w fun e w' => e = .returned (.int .i64 (s + 2 * (n : Int))) ∧ w' = w := by
  go_enter Try.func62, Try.ntmps62
  go_wp2
  go_loop [1, 5] (fun t i => ∃ k : Nat, k ≤ n ∧ i = .int .i64 k ∧ t = .int .i64 (s + 2 * (k : Int))) (fun _ i => n - (intOf i).toNat)
  case atStart => exact ⟨0, Nat.zero_le _, rfl, by simp⟩
  case round =>
    obtain ⟨k, hk, rfl, rfl⟩ := hrel
    by_cases hlt : k < n
    · obtain ⟨b, off, x, y, rfl, hp, x0, x1⟩ := h.at k (by rw [mkP_len]; exact hlt)
      rw [mkP_get n s k hlt] at hp
      simp only [Option.some.injEq, Prod.mk.injEq] at hp
      obtain ⟨rfl, rfl⟩ := hp
      go_wp2
      go_round
      case rel => exact ⟨k + 1, by omega, by go_num, by go_num⟩
      case measure => simp [intOf]; omega
    · obtain rfl : k = n := by omega
      go_wp2
      go_ret
      exact ⟨rfl, rfl⟩

set_option maxHeartbeats 800000 in
theorem heldNs_any (a : Option Addr) (n c : Nat) (s : Int) (w : World) (h : NsAt w a (mkN s n)) (hm : n ≤ 1048576) (hs0 : 0 ≤ s) (hs1 : s ≤ 1073741824) :
    Calls Try.prog 63 #[.slice a n c, .int .i64 s] w fun e w' => e = .returned (.int .i64 (s + (n : Int))) ∧ w' = w := by
  go_enter Try.func63, Try.ntmps63
  go_wp2
  go_loop [1, 5] (fun t i => ∃ k : Nat, k ≤ n ∧ i = .int .i64 k ∧ t = .int .i64 (s + (k : Int))) (fun _ i => n - (intOf i).toNat)
  case atStart => exact ⟨0, Nat.zero_le _, rfl, by simp⟩
  case round =>
    obtain ⟨k, hk, rfl, rfl⟩ := hrel
    by_cases hlt : k < n
    · obtain ⟨b, off, rfl, x0, _⟩ := h k _ (mkN_get s n k hlt)
      go_wp2
      go_round
      case rel => exact ⟨k + 1, by omega, by go_num, by go_num⟩
      case measure => simp [intOf]; omega
    · obtain rfl : k = n := by omega
      go_wp2
      go_ret
      exact ⟨rfl, rfl⟩

theorem heldAt_any (o nx md lc : Int) (a : Option Addr) (n c : Nat) (s : Int) (w : World) (h : NsAt w a (mkN s n)) (hm : n ≤ 1048576) (hs0 : 0 ≤ s) (hs1 : s ≤ 1073741824) :
    Calls Try.prog 76 #[.agg #[.int .i64 o, .slice a n c, .int .i64 nx, .int .i64 md, .int .i64 lc], .int .i64 s] w fun e w' => e = .returned (.int .i64 (s + (n : Int))) ∧ New w w' := by
  have hw := (New.refl w).alloc (.cells #[.int .i64 o, .slice a n c, .int .i64 nx, .int .i64 md, .int .i64 lc] 29)
  have hnn : ¬ s + (n : Int) < 0 := by omega
  go_enter Try.func76, Try.ntmps76
  go_wp2_with fail
  refine (heldNs_any a n c s _ (h.new hw) hm hs0 hs1).mono ?_
  rintro e w1 ⟨rfl, rfl⟩
  go_wp2
  go_ret
  exact ⟨rfl, hw⟩

set_option maxHeartbeats 1600000 in
theorem heldUp_any (ga a ra : Option Addr) (gn gc n c rn rc : Nat) (has : Bool) (o nx md lc s : Int) (w : World) (hp : PsAt w ga (mkP s gn)) (hq : NsAt w a (mkN (s + 2 * (gn : Int)) n)) (hr : PsAt w ra (mkP (s + 2 * (gn : Int) + n) rn)) (h1 : gn ≤ 1048576) (h2 : n ≤ 1048576) (h3 : rn ≤ 1048576) (hs0 : 0 ≤ s) (hs1 : s ≤ 1048576) :
    Calls Try.prog 57 #[.agg #[.slice ga gn gc, .bool has, .int .i64 o, .slice a n c, .int .i64 nx, .int .i64 md, .int .i64 lc, .slice ra rn rc], .int .i64 s] w fun e w' => e = .returned (.int .i64 (s + 2 * (gn : Int) + n + 2 * (rn : Int))) ∧ New w w' := by
  have hw := (New.refl w).alloc (.cells #[.slice ga gn gc, .bool has, .int .i64 o, .slice a n c, .int .i64 nx, .int .i64 md, .int .i64 lc, .slice ra rn rc] 31)
  have bU := Blk.mk w w.heap.size 31 #[.slice ga gn gc, .bool has, .int .i64 o, .slice a n c, .int .i64 nx, .int .i64 md, .int .i64 lc, .slice ra rn rc] rfl
  have n1 : ¬ s + 2 * (gn : Int) < 0 := by omega
  have n2 : ¬ s + 2 * (gn : Int) + n < 0 := by omega
  have n3 : ¬ s + 2 * (gn : Int) + n + 2 * (rn : Int) < 0 := by omega
  go_enter Try.func57, Try.ntmps57
  go_wp2_with fail
  refine (heldPs_any ga gn gc s _ (hp.new hw) h1 hs0 (by omega)).mono ?_
  rintro e w1 ⟨rfl, rfl⟩
  have cU := bU.cells
  go_wp2_with fail
  refine (heldAt_any o nx md lc a n c (s + 2 * (gn : Int)) _ (hq.new hw) h2 (by omega) (by omega)).mono ?_
  rintro e w2 ⟨rfl, hn2⟩
  have cU2 := (bU.new hn2).cells
  clear cU
  go_wp2_with fail
  refine (heldPs_any ra rn rc (s + 2 * (gn : Int) + n) _ ((hr.new hw).new hn2) h3 (by omega) (by omega)).mono ?_
  rintro e w3 ⟨rfl, rfl⟩
  go_wp2
  go_ret
  exact ⟨rfl, hw.trans hn2⟩

theorem markQ_any (v : Value) (L : List (Int × Int)) (lo n : Nat) (s : Int) (w : World) (h : OwQ w lo v L) (hn : L.length = n) (hm : n ≤ 1048576) (hs0 : 0 ≤ s) (hs1 : s ≤ 1073741824) :
    Calls Try.prog 60 #[v, .int .i64 s] w fun e w' => e = .returned (.int .i64 (s + 2 * (n : Int))) ∧ OwQ w' lo v (mkP s n) ∧ Turn (fun k => v.ownBlock = some k) w w' := by
  rcases h with ⟨rfl, rfl⟩ | ⟨g, c, rfl, hg, ho⟩
  · obtain rfl : n = 0 := hn.symm
    go_enter Try.func60, Try.ntmps60
    go_wp2_with fail
    go_loopw [1, 5] (fun t i wr => t = .int .i64 s ∧ i = .int .i64 0 ∧ New w wr) (fun _ _ _ => 0)
    case atStart => exact ⟨rfl, rfl, New.refl _⟩
    case round =>
      obtain ⟨rfl, rfl, hN⟩ := hrel
      go_wp2
      go_ret
      exact ⟨by simp, .inl ⟨rfl, rfl⟩, hN.turn⟩
  · rw [hn] at ho ⊢
    refine (markPs_t g n c L s w ho hm hs0 hs1).mono ?_
    rintro e w' ⟨rfl, h2, ht⟩
    refine ⟨rfl, .inr ⟨g, c, by rw [mkP_len], hg, by rw [mkP_len]; exact h2⟩, ht.mono (fun i _ e => by subst e; rfl)⟩

theorem markM_any (v : Value) (L : List Int) (lo n : Nat) (s : Int) (w : World) (h : OwM w lo v L) (hn : L.length = n) (hm : n ≤ 1048576) (hs0 : 0 ≤ s) (hs1 : s ≤ 1073741824) :
    Calls Try.prog 61 #[v, .int .i64 s] w fun e w' => e = .returned (.int .i64 (s + (n : Int))) ∧ OwM w' lo v (mkN s n) ∧ Turn (fun k => v.ownBlock = some k) w w' := by
  rcases h with ⟨rfl, rfl⟩ | ⟨g, c, rfl, hg, ho⟩
  · obtain rfl : n = 0 := hn.symm
    go_enter Try.func61, Try.ntmps61
    go_wp2_with fail
    go_loopw [1, 5] (fun t i wr => t = .int .i64 s ∧ i = .int .i64 0 ∧ New w wr) (fun _ _ _ => 0)
    case atStart => exact ⟨rfl, rfl, New.refl _⟩
    case round =>
      obtain ⟨rfl, rfl, hN⟩ := hrel
      go_wp2
      go_ret
      exact ⟨by simp, .inl ⟨rfl, rfl⟩, hN.turn⟩
  · rw [hn] at ho ⊢
    refine (markNs_t g n c L s w ho hm hs0 hs1).mono ?_
    rintro e w' ⟨rfl, h2, ht⟩
    refine ⟨rfl, .inr ⟨g, c, by rw [mkN_len], hg, by rw [mkN_len]; exact h2⟩, ht.mono (fun i _ e => by subst e; rfl)⟩

end Go.Proofs.Ytnhkmgibppiimaa
