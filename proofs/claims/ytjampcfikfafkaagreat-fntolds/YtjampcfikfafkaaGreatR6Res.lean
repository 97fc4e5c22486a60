/- What is proved here: what the comparing, the marking and the looking for marks of an answer with attributes answer, for paths of at most 1048576 numbers. -/
import Derived.Test.YtjampcfikfafkaaGreatR6Pa
import Derived.Test.YtjampcfikfafkaaGreatR6Ex
namespace Go.Proofs.YtjampcfikfafkaaGreat
open Go.RowKit Go.Sort
set_option linter.unusedVariables false

/-- n numbers, marked from s on. -/
def mkN6 (s : Int) (n : Nat) : List Int := (List.range n).map (fun i : Nat => s + i)
theorem mkN6_len (s : Int) (n : Nat) : (mkN6 s n).length = n := by simp [mkN6]
theorem mkN6_succ (s : Int) (n : Nat) : mkN6 s (n + 1) = mkN6 s n ++ [s + n] := by simp [mkN6, List.range_succ]
theorem mkN6_get (s : Int) (n j : Nat) (hj : j < n) : (mkN6 s n)[j]? = some (s + j) := by simp [mkN6, hj]
theorem mkN6_in (s : Int) (n : Nat) (h0 : 0 ≤ s) (h1 : s ≤ 1073741824) (h2 : n ≤ 1048576) : ∀ z ∈ mkN6 s n, In6 z := by
  intro z hz
  simp only [mkN6, List.mem_map, List.mem_range] at hz
  obtain ⟨i, hi, rfl⟩ := hz
  unfold In6
  omega
theorem mkN6_ob (xs : List Int) (k : Int) (j n : Nat) (hn : xs.length = n) (hj : j < n) :
    ((mkN6 k j ++ xs.drop j).map (Value.int .i64)).set j (.int .i64 (k + j)) = (mkN6 k (j + 1) ++ xs.drop (j + 1)).map (Value.int .i64) := by
  rw [← List.map_set, List.set_append_right _ _ (by rw [mkN6_len]; omega), mkN6_len, Nat.sub_self, mkN6_succ, List.drop_eq_getElem_cons (by omega), List.set_cons_zero]
  simp

set_option maxHeartbeats 800000 in
theorem markNs6 (g m c : Nat) (xs : List Int) (s : Int) (w : World) (h : OwN w g m c xs) (hm : m ≤ 1048576) (hs0 : 0 ≤ s) (hs1 : s ≤ 1073741824) :
    Calls Tryz.prog 52 #[.slice (some ⟨g, 0, none⟩) m c, .int .i64 s] w fun e w' => e = .returned (.int .i64 (s + (m : Int))) ∧ OwN w' g m c (mkN6 s m) ∧ Turn (fun k => k = g) w w' := by
  have HL : Hid (xs.length = m) := h.len
  go_enter Tryz.func52, Tryz.ntmps52
  go_wp2_with fail
  go_loopw [1, 5] (fun t i wr => ∃ k : Nat, k ≤ m ∧ i = .int .i64 k ∧ t = .int .i64 (s + (k : Int)) ∧ OwN wr g m c (mkN6 s k ++ xs.drop k) ∧ Turn (fun q => q = g) w wr) (fun _ i _ => m - (intOf i).toNat)
  case atStart => exact ⟨0, Nat.zero_le _, rfl, by simp, by simpa [mkN6] using h, Turn.refl _ _⟩
  case round =>
    obtain ⟨k, hk, rfl, rfl, ho, ht⟩ := hrel
    by_cases hlt : k < m
    · have hfz := World.ownsRow.frozenAt ho k
      have hst := World.ownsRow.stored ho k (.int .i64 (s + k))
      rw [mkN6_ob xs s k m HL.out hlt] at hst
      obtain ⟨HS, hgr⟩ := hst
      have hcw : ∃ v, wr.cell? ⟨g, k, none⟩ = some v := by
        rw [World.ownsRow.cellAt ho k (by omega)]
        exact ⟨_, List.getElem?_eq_getElem (by have := ho.1; omega)⟩
      obtain ⟨v, hv⟩ := hcw
      clear ho
      go_wp2
      go_roundw
      case rel => exact ⟨k + 1, by omega, by go_num, by go_num, HS, Turn.trans ht (Turn.of_grown (g := g) hgr) (fun i _ e => e)⟩
      case measure => simp [intOf]; omega
    · obtain rfl : k = m := by omega
      go_wp2
      go_ret
      rw [List.drop_of_length_le (by rw [HL.out]; omega), List.append_nil] at ho
      exact ⟨rfl, ho, ht⟩

theorem markNs60 (s : Int) (w : World) : Calls Tryz.prog 52 #[.slice none 0 0, .int .i64 s] w fun e w' => e = .returned (.int .i64 s) ∧ w' = w := by
  go_enter Tryz.func52, Tryz.ntmps52
  go_wp2
  refine wp_loop_rounds 1 ?_
  rw [rounds_succ]
  go_wp2
  go_ret
  exact ⟨rfl, rfl⟩

theorem markOv (lo : Nat) (a : Option Addr) (n k : Nat) (xs : List Int) (s : Int) (w : World) (h : OvN w lo (.slice a n k) xs) (hn : xs.length = n) (hm : n ≤ 1048576) (hs0 : 0 ≤ s) (hs1 : s ≤ 1073741824) :
    Calls Tryz.prog 52 #[.slice a n k, .int .i64 s] w fun e w' => e = .returned (.int .i64 (s + (n : Int))) ∧ OvN w' lo (.slice a n k) (mkN6 s n) ∧ Turn (fun j => (Value.slice a n k).ownBlock = some j) w w' := by
  rcases h.form with ⟨hv, h0⟩ | ⟨g, c, hv, hg, ho⟩
  · cases hv
    refine (markNs60 s w).mono ?_
    rintro e w1 ⟨rfl, rfl⟩
    exact ⟨by simp, OvN.nil _ _, Turn.refl _ _⟩
  · have hv' : a = some ⟨g, 0, none⟩ ∧ n = xs.length ∧ k = c := by simpa using hv
    obtain ⟨rfl, rfl, rfl⟩ := hv'
    refine (markNs6 g xs.length k xs s w ho hm hs0 hs1).mono ?_
    rintro e w1 ⟨rfl, ho1, ht⟩
    refine ⟨rfl, ?_, ht.mono (fun i _ e => by rw [e]; rfl)⟩
    unfold OvN
    rw [mkN6_len]
    refine ⟨ho1.1, ?_⟩
    rcases ho1.2 with h' | ⟨g', cap', cur, h', r⟩
    · exact .inl h'
    · have e' : g = g' := by
        have e2 := congrArg Value.ownBlock h'
        simpa [Value.ownBlock] using e2
      exact .inr ⟨g', cap', cur, h', by omega, r.2⟩

theorem heldNs6 (a : Option Addr) (n c : Nat) (s : Int) (w : World) (h : NsAt w a (mkN6 s n)) (hm : n ≤ 1048576) (hs0 : 0 ≤ s) (hs1 : s ≤ 1073741824) :
    Calls Tryz.prog 91 #[.slice a n c, .int .i64 s] w fun e w' => e = .returned (.int .i64 (s + (n : Int))) ∧ w' = w := by
  go_enter Tryz.func91, Tryz.ntmps91
  go_wp2
  go_loop [1, 5] (fun t i => ∃ k : Nat, k ≤ n ∧ i = .int .i64 k ∧ t = .int .i64 (s + (k : Int))) (fun _ i => n - (intOf i).toNat)
  case atStart => exact ⟨0, Nat.zero_le _, rfl, by simp⟩
  case round =>
    obtain ⟨k, hk, rfl, rfl⟩ := hrel
    by_cases hlt : k < n
    · obtain ⟨b, off, rfl, x0, _⟩ := h k _ (mkN6_get s n k hlt)
      go_wp2
      go_round
      case rel => exact ⟨k + 1, by omega, by go_num, by go_num⟩
      case measure => simp [intOf]; omega
    · obtain rfl : k = n := by omega
      go_wp2
      go_ret
      exact ⟨rfl, rfl⟩

theorem OvN.nsAt {w : World} {lo n k : Nat} {a : Option Addr} {xs : List Int} (h : OvN w lo (.slice a n k) xs) (hb : ∀ z ∈ xs, In6 z) : NsAt w a xs := by
  obtain ⟨a', c, e, h1, _⟩ := h.ns hb
  cases e
  exact h1

/-- An answer of the call's own, laid open. -/
theorem AAns.opened {w w' : World} {rc rr ro : Int} {ns : List Int} {rx rd rl : Int} {e : Ending} {n : Nat} (h : AAns w ⟨rc, rr, ro, ns, rx, rd, rl⟩ e w') (hn : ns.length = n) :
    ∃ a k, e = .returned (.agg #[.int .i64 rc, .int .i64 rr, .int .i64 ro, .slice a n k, .int .i64 rx, .int .i64 rd, .int .i64 rl]) ∧ OvN w' w.heap.size (.slice a n k) ns ∧ New w w' := by
  obtain ⟨v, he, ho, hw⟩ := h
  rcases ho.form with ⟨rfl, h0⟩ | ⟨g, c, rfl, hg, _⟩
  · have h0' : ns = [] := h0
    subst h0'
    subst hn
    exact ⟨none, 0, he, ho, hw⟩
  · subst hn
    exact ⟨_, c, he, ho, hw⟩

theorem OvN.rng {w : World} {lo : Nat} {v : Value} {xs : List Int} (h : OvN w lo v xs) : ∀ j, v.ownBlock = some j → lo ≤ j ∧ j < w.heap.size := by
  intro j hj
  rcases h.form with ⟨rfl, _⟩ | ⟨g, cap, rfl, hg, ho⟩
  · simp [Value.ownBlock] at hj
  · simp [Value.ownBlock] at hj
    subst hj
    exact ⟨hg, ho.lt⟩
theorem OwN.ov {w : World} {g n c : Nat} {xs : List Int} (h : OwN w g n c xs) : OvN w g (.slice (some ⟨g, 0, none⟩) n c) xs := by
  have hl := h.len
  subst hl
  refine ⟨h.1, ?_⟩
  rcases h.2 with h' | ⟨g', cap', cur, h', r⟩
  · exact .inl h'
  · have e2 := congrArg Value.ownBlock h'
    have e3 : g = g' := by simpa [Value.ownBlock] using e2
    exact .inr ⟨g', cap', cur, h', by omega, r.2⟩

end Go.Proofs.YtjampcfikfafkaaGreat
