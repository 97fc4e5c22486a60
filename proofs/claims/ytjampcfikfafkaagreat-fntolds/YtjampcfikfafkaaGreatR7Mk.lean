/- What is proved here: what the marking of numbers and the looking for marks answer, for lists of at most 1048576 numbers. -/
import Derived.Test.YtjampcfikfafkaaGreatR6Pa
namespace Go.Proofs.YtjampcfikfafkaaGreat
open Go.RowKit Go.Sort
set_option linter.unusedVariables false

theorem OvN.nil7 (w : World) (lo : Nat) : OvN w lo (.slice none 0 0) [] := ⟨rfl, .inl ⟨rfl, rfl⟩⟩

/-- n numbers, marked from s on. -/
def mkN7 (s : Int) (n : Nat) : List Int := (List.range n).map (fun i : Nat => s + i)
theorem mkN7_len (s : Int) (n : Nat) : (mkN7 s n).length = n := by simp [mkN7]
theorem mkN7_succ (s : Int) (n : Nat) : mkN7 s (n + 1) = mkN7 s n ++ [s + n] := by simp [mkN7, List.range_succ]
theorem mkN7_get (s : Int) (n j : Nat) (hj : j < n) : (mkN7 s n)[j]? = some (s + j) := by simp [mkN7, hj]
theorem mkN7_in (s : Int) (n : Nat) (h0 : 0 ≤ s) (h1 : s ≤ 1125899906842624) (h2 : n ≤ 1048576) : ∀ z ∈ mkN7 s n, In6 z := by
  intro z hz
  simp only [mkN7, List.mem_map, List.mem_range] at hz
  obtain ⟨i, hi, rfl⟩ := hz
  unfold In6
  omega
theorem mkN7_ob (xs : List Int) (k : Int) (j n : Nat) (hn : xs.length = n) (hj : j < n) :
    ((mkN7 k j ++ xs.drop j).map (Value.int .i64)).set j (.int .i64 (k + j)) = (mkN7 k (j + 1) ++ xs.drop (j + 1)).map (Value.int .i64) := by
  rw [← List.map_set, List.set_append_right _ _ (by rw [mkN7_len]; omega), mkN7_len, Nat.sub_self, mkN7_succ, List.drop_eq_getElem_cons (by omega), List.set_cons_zero]
  simp

set_option maxHeartbeats 800000 in
theorem markNs7 (g m c : Nat) (xs : List Int) (s : Int) (w : World) (h : OwN w g m c xs) (hm : m ≤ 1048576) (hs0 : 0 ≤ s) (hs1 : s ≤ 1125899906842624) :
    Calls Tryz.prog 52 #[.slice (some ⟨g, 0, none⟩) m c, .int .i64 s] w fun e w' => e = .returned (.int .i64 (s + (m : Int))) ∧ OwN w' g m c (mkN7 s m) ∧ Turn (fun k => k = g) w w' := by
  have HL : Hid (xs.length = m) := h.len
  go_enter Tryz.func52, Tryz.ntmps52
  go_wp2_with fail
  go_loopw [1, 5] (fun t i wr => ∃ k : Nat, k ≤ m ∧ i = .int .i64 k ∧ t = .int .i64 (s + (k : Int)) ∧ OwN wr g m c (mkN7 s k ++ xs.drop k) ∧ Turn (fun q => q = g) w wr) (fun _ i _ => m - (intOf i).toNat)
  case atStart => exact ⟨0, Nat.zero_le _, rfl, by simp, by simpa [mkN7] using h, Turn.refl _ _⟩
  case round =>
    obtain ⟨k, hk, rfl, rfl, ho, ht⟩ := hrel
    by_cases hlt : k < m
    · have hfz := World.ownsRow.frozenAt ho k
      have hst := World.ownsRow.stored ho k (.int .i64 (s + k))
      rw [mkN7_ob xs s k m HL.out hlt] at hst
      obtain ⟨HS, hgr⟩ := hst
      have hcw : ∃ v, wr.cell? ⟨g, k, none⟩ = some v := by
        rw [World.ownsRow.cellAt ho k (by omega)]
        exact ⟨_, List.getElem?_eq_getElem (by have := ho.1; omega)⟩
      obtain ⟨v, hv⟩ := hcw
      clear ho
      go_wp2
      go_roundw
      case rel => exact ⟨k + 1, by omega, by go_num, by go_num, HS, Turn.trans ht (Turn.of_grown (g := g) hgr) (fun i _ e => e)⟩
      case measure => simp [intOf]; omega
    · obtain rfl : k = m := by omega
      go_wp2
      go_ret
      rw [List.drop_of_length_le (by rw [HL.out]; omega), List.append_nil] at ho
      exact ⟨rfl, ho, ht⟩

theorem markNs70 (s : Int) (w : World) : Calls Tryz.prog 52 #[.slice none 0 0, .int .i64 s] w fun e w' => e = .returned (.int .i64 s) ∧ w' = w := by
  go_enter Tryz.func52, Tryz.ntmps52
  go_wp2
  refine wp_loop_rounds 1 ?_
  rw [rounds_succ]
  go_wp2
  go_ret
  exact ⟨rfl, rfl⟩

theorem markOv7 (lo : Nat) (a : Option Addr) (n k : Nat) (xs : List Int) (s : Int) (w : World) (h : OvN w lo (.slice a n k) xs) (hn : xs.length = n) (hm : n ≤ 1048576) (hs0 : 0 ≤ s) (hs1 : s ≤ 1125899906842624) :
    Calls Tryz.prog 52 #[.slice a n k, .int .i64 s] w fun e w' => e = .returned (.int .i64 (s + (n : Int))) ∧ OvN w' lo (.slice a n k) (mkN7 s n) ∧ Turn (fun j => (Value.slice a n k).ownBlock = some j) w w' := by
  rcases h.form with ⟨hv, h0⟩ | ⟨g, c, hv, hg, ho⟩
  · cases hv
    refine (markNs70 s w).mono ?_
    rintro e w1 ⟨rfl, rfl⟩
    exact ⟨by simp, OvN.nil7 _ _, Turn.refl _ _⟩
  · have hv' : a = some ⟨g, 0, none⟩ ∧ n = xs.length ∧ k = c := by simpa using hv
    obtain ⟨rfl, rfl, rfl⟩ := hv'
    refine (markNs7 g xs.length k xs s w ho hm hs0 hs1).mono ?_
    rintro e w1 ⟨rfl, ho1, ht⟩
    refine ⟨rfl, ?_, ht.mono (fun i _ e => by rw [e]; rfl)⟩
    unfold OvN
    rw [mkN7_len]
    refine ⟨ho1.1, ?_⟩
    rcases ho1.2 with h' | ⟨g', cap', cur, h', r⟩
    · exact .inl h'
    · have e' : g = g' := by
        have e2 := congrArg Value.ownBlock h'
        simpa [Value.ownBlock] using e2
      exact .inr ⟨g', cap', cur, h', by omega, r.2⟩

theorem heldNs7 (a : Option Addr) (n c : Nat) (s : Int) (w : World) (h : NsAt w a (mkN7 s n)) (hm : n ≤ 1048576) (hs0 : 0 ≤ s) (hs1 : s ≤ 1125899906842624) :
    Calls Tryz.prog 91 #[.slice a n c, .int .i64 s] w fun e w' => e = .returned (.int .i64 (s + (n : Int))) ∧ w' = w := by
  go_enter Tryz.func91, Tryz.ntmps91
  go_wp2
  go_loop [1, 5] (fun t i => ∃ k : Nat, k ≤ n ∧ i = .int .i64 k ∧ t = .int .i64 (s + (k : Int))) (fun _ i => n - (intOf i).toNat)
  case atStart => exact ⟨0, Nat.zero_le _, rfl, by simp⟩
  case round =>
    obtain ⟨k, hk, rfl, rfl⟩ := hrel
    by_cases hlt : k < n
    · obtain ⟨b, off, rfl, x0, _⟩ := h k _ (mkN7_get s n k hlt)
      go_wp2
      go_round
      case rel => exact ⟨k + 1, by omega, by go_num, by go_num⟩
      case measure => simp [intOf]; omega
    · obtain rfl : k = n := by omega
      go_wp2
      go_ret
      exact ⟨rfl, rfl⟩

theorem OvN.nsAt7 {w : World} {lo n k : Nat} {a : Option Addr} {xs : List Int} (h : OvN w lo (.slice a n k) xs) (hb : ∀ z ∈ xs, In6 z) : NsAt w a xs := by
  obtain ⟨a', c, e, h1, _⟩ := h.ns hb
  cases e
  exact h1

end Go.Proofs.YtjampcfikfafkaaGreat
