/- What is proved here: what the marking of lists of prefixes, of numbers, of attributes and of an update leaves, and what the looking for marks answers. -/
import Derived.Test.YtdmcbnmaknpkmaaUpLaw
namespace Go.Proofs.Ytdmcbnmaknpkmaa
open Go.RowKit Go.Sort
set_option linter.unusedVariables false

/-- n prefixes, marked from s on. -/
def mkP : Int → Nat → List (Int × Int)
  | _, 0 => []
  | s, n + 1 => (s, s + 1) :: mkP (s + 2) n
theorem mkP_len : ∀ (n : Nat) (s : Int), (mkP s n).length = n
  | 0, _ => rfl
  | n + 1, s => by simp [mkP, mkP_len n]
theorem mkP_get : ∀ (n : Nat) (s : Int) (j : Nat), j < n → (mkP s n)[j]? = some (s + 2 * j, s + 2 * j + 1)
  | 0, _, j, h => by omega
  | n + 1, s, 0, _ => by simp [mkP]
  | n + 1, s, j + 1, h => by
    rw [mkP, List.getElem?_cons_succ, mkP_get n (s + 2) j (by omega)]
    congr 2 <;> omega
/-- The first k are marked. -/
def half (s : Int) (ps : List (Int × Int)) (k : Nat) : List (Int × Int) := mkP s k ++ ps.drop k
theorem half_zero (s : Int) (ps : List (Int × Int)) : half s ps 0 = ps := by simp [half, mkP]
theorem half_all (s : Int) (ps : List (Int × Int)) : half s ps ps.length = mkP s ps.length := by simp [half]
theorem mkP_snoc : ∀ (n : Nat) (s : Int), mkP s (n + 1) = mkP s n ++ [(s + 2 * n, s + 2 * n + 1)]
  | 0, s => by simp [mkP]
  | n + 1, s => by
    rw [mkP, mkP_snoc n (s + 2), mkP, List.cons_append]
    congr 3
    congr 1 <;> omega
theorem half_next (s : Int) (ps : List (Int × Int)) (k : Nat) (h : k < ps.length) : (half s ps k).set k (s + 2 * k, s + 2 * k + 1) = half s ps (k + 1) := by
  unfold half
  rw [mkP_snoc, List.set_append_right _ _ (by rw [mkP_len]; exact Nat.le_refl _), mkP_len, Nat.sub_self, List.drop_eq_getElem_cons h, List.set_cons_zero, List.append_assoc, List.singleton_append]


set_option maxHeartbeats 800000 in
theorem markPs_t (g m c : Nat) (ps : List (Int × Int)) (s : Int) (w : World) (h : OwP w g m c ps) (hm : m ≤ 1048576) (hs0 : 0 ≤ s) (hs1 : s ≤ 1073741824) :
    Calls Try.prog 34 #[.slice (some ⟨g, 0, none⟩) m c, .int .i64 s] w fun e w' => e = .returned (.int .i64 (s + 2 * (m : Int))) ∧ OwP w' g m c (mkP s m) ∧ Turn (fun k => k = g) w w' := by
  have HL : Hid (ps.length = m) := h.len
  go_enter Try.func34, Try.ntmps34
  go_wp2_with fail
  go_loopw [1, 5] (fun t i wr => ∃ k : Nat, k ≤ m ∧ i = .int .i64 k ∧ t = .int .i64 (s + 2 * (k : Int)) ∧ OwP wr g m c (half s ps k) ∧ Turn (fun q => q = g) w wr) (fun _ i _ => m - (intOf i).toNat)
  case atStart => exact ⟨0, Nat.zero_le _, rfl, by simp, by rw [half_zero]; exact h, Turn.refl _ _⟩
  case round =>
    obtain ⟨k, hk, rfl, rfl, ho, ht⟩ := hrel
    by_cases hlt : k < m
    · obtain ⟨v0, c0⟩ := ho.cell (k * 2) (by omega)
      obtain ⟨v1, c1⟩ := ho.cell (k * 2 + 1) (by omega)
      have f0 := fun j => World.ownsRow.frozenAt ho j
      have hp := ho.put k (s + 2 * (k : Int)) (s + 2 * (k : Int) + 1)
      rw [half_next s ps k (by rw [HL.out]; exact hlt)] at hp
      go_wp2
      go_roundw
      case rel => exact ⟨k + 1, by omega, by go_num, by go_num, hp, (ht.set rfl _).set rfl _⟩
      case measure => simp [intOf]; omega
    · obtain rfl : k = m := by omega
      go_wp2
      go_ret
      refine ⟨rfl, ?_, ht⟩
      have := half_all s ps
      rw [HL.out] at this
      rw [← this]
      exact ho

/-- n numbers, marked from s on. -/
def mkN (s : Int) (n : Nat) : List Int := (List.range n).map (fun i : Nat => s + i)
theorem mkN_len (s : Int) (n : Nat) : (mkN s n).length = n := by simp [mkN]
theorem mkN_succ (s : Int) (n : Nat) : mkN s (n + 1) = mkN s n ++ [s + n] := by simp [mkN, List.range_succ]
theorem mkN_get (s : Int) (n j : Nat) (hj : j < n) : (mkN s n)[j]? = some (s + j) := by simp [mkN, hj]

theorem mkN_ob (xs : List Int) (k : Int) (j n : Nat) (hn : xs.length = n) (hj : j < n) :
    ((mkN k j ++ xs.drop j).map (Value.int .i64)).set j (.int .i64 (k + j)) = (mkN k (j + 1) ++ xs.drop (j + 1)).map (Value.int .i64) := by
  rw [← List.map_set, List.set_append_right _ _ (by rw [mkN_len]; omega), mkN_len, Nat.sub_self, mkN_succ, List.drop_eq_getElem_cons (by omega), List.set_cons_zero]
  simp

set_option maxHeartbeats 800000 in
theorem markNs_t (g m c : Nat) (xs : List Int) (s : Int) (w : World) (h : OwN w g m c xs) (hm : m ≤ 1048576) (hs0 : 0 ≤ s) (hs1 : s ≤ 1073741824) :
    Calls Try.prog 54 #[.slice (some ⟨g, 0, none⟩) m c, .int .i64 s] w fun e w' => e = .returned (.int .i64 (s + (m : Int))) ∧ OwN w' g m c (mkN s m) ∧ Turn (fun k => k = g) w w' := by
  have HL : Hid (xs.length = m) := h.len
  go_enter Try.func54, Try.ntmps54
  go_wp2_with fail
  go_loopw [1, 5] (fun t i wr => ∃ k : Nat, k ≤ m ∧ i = .int .i64 k ∧ t = .int .i64 (s + (k : Int)) ∧ OwN wr g m c (mkN s k ++ xs.drop k) ∧ Turn (fun q => q = g) w wr) (fun _ i _ => m - (intOf i).toNat)
  case atStart => exact ⟨0, Nat.zero_le _, rfl, by simp, by simpa [mkN] using h, Turn.refl _ _⟩
  case round =>
    obtain ⟨k, hk, rfl, rfl, ho, ht⟩ := hrel
    by_cases hlt : k < m
    · have hfz := World.ownsRow.frozenAt ho k
      have hst := World.ownsRow.stored ho k (.int .i64 (s + k))
      rw [mkN_ob xs s k m HL.out hlt] at hst
      obtain ⟨HS, hgr⟩ := hst
      have hcw : ∃ v, wr.cell? ⟨g, k, none⟩ = some v := by
        rw [World.ownsRow.cellAt ho k (by omega)]
        exact ⟨_, List.getElem?_eq_getElem (by have := ho.1; omega)⟩
      obtain ⟨v, hv⟩ := hcw
      clear ho
      go_wp2
      go_roundw
      case rel => exact ⟨k + 1, by omega, by go_num, by go_num, HS, Turn.trans ht (Turn.of_grown (g := g) hgr) (fun i _ e => e)⟩
      case measure => simp [intOf]; omega
    · obtain rfl : k = m := by omega
      go_wp2
      go_ret
      rw [List.drop_of_length_le (by rw [HL.out]; omega), List.append_nil] at ho
      exact ⟨rfl, ho, ht⟩

theorem markAt_t (o nx md lc : Int) (g m c : Nat) (xs : List Int) (s : Int) (w : World) (h : OwN w g m c xs) (hm : m ≤ 1048576) (hs0 : 0 ≤ s) (hs1 : s ≤ 1073741824) :
    Calls Try.prog 35 #[.agg #[.int .i64 o, .slice (some ⟨g, 0, none⟩) m c, .int .i64 nx, .int .i64 md, .int .i64 lc], .int .i64 s] w fun e w' => e = .returned (.int .i64 (s + (m : Int))) ∧ OwN w' g m c (mkN s m) ∧ Turn (fun k => k = g) w w' := by
  have hw := (New.refl w).alloc (.cells #[.int .i64 o, .slice (some ⟨g, 0, none⟩) m c, .int .i64 nx, .int .i64 md, .int .i64 lc] 36)
  go_enter Try.func35, Try.ntmps35
  go_wp2_with fail
  refine (markNs_t g m c xs s _ (h.new hw) hm hs0 hs1).mono ?_
  rintro e w1 ⟨rfl, ho1, ht1⟩
  go_wp2
  go_ret
  exact ⟨rfl, ho1, Turn.trans hw.turn ht1 (fun _ _ e => e)⟩

set_option maxHeartbeats 1600000 in
theorem markUp_t (p q r gn gc n c rn rc : Nat) (has : Bool) (o nx md lc s : Int) (gs rs : List (Int × Int)) (xs : List Int) (w : World) (hp : OwP w p gn gc gs) (hq : OwN w q n c xs) (hr : OwP w r rn rc rs) (hpq : ¬ p = q) (hpr : ¬ p = r) (hqr : ¬ q = r) (h1 : gn ≤ 1048576) (h2 : n ≤ 1048576) (h3 : rn ≤ 1048576) (hs0 : 0 ≤ s) (hs1 : s ≤ 1048576) :
    Calls Try.prog 19 #[.agg #[.slice (some ⟨p, 0, none⟩) gn gc, .bool has, .int .i64 o, .slice (some ⟨q, 0, none⟩) n c, .int .i64 nx, .int .i64 md, .int .i64 lc, .slice (some ⟨r, 0, none⟩) rn rc], .int .i64 s] w fun e w' => e = .returned (.int .i64 (s + 2 * (gn : Int) + n + 2 * (rn : Int))) ∧ OwP w' p gn gc (mkP s gn) ∧ OwN w' q n c (mkN (s + 2 * (gn : Int)) n) ∧ OwP w' r rn rc (mkP (s + 2 * (gn : Int) + n) rn) ∧ Turn (fun k => k = p ∨ k = q ∨ k = r) w w' := by
  have hw := (New.refl w).alloc (.cells #[.slice (some ⟨p, 0, none⟩) gn gc, .bool has, .int .i64 o, .slice (some ⟨q, 0, none⟩) n c, .int .i64 nx, .int .i64 md, .int .i64 lc, .slice (some ⟨r, 0, none⟩) rn rc] 38)
  have bU := Blk.mk w w.heap.size 38 #[.slice (some ⟨p, 0, none⟩) gn gc, .bool has, .int .i64 o, .slice (some ⟨q, 0, none⟩) n c, .int .i64 nx, .int .i64 md, .int .i64 lc, .slice (some ⟨r, 0, none⟩) rn rc] rfl
  have lp := hp.lt
  have lq := hq.lt
  have lr := hr.lt
  go_enter Try.func19, Try.ntmps19
  go_wp2_with fail
  refine (markPs_t p gn gc gs s _ (hp.new hw) h1 hs0 (by omega)).mono ?_
  rintro e w1 ⟨rfl, ho1, ht1⟩
  have b1 := bU.turn ht1 (by omega)
  have c1 := b1.cells
  have q1 := (hq.new hw).turn ht1 (fun e => hpq e.symm)
  have r1 := (hr.new hw).turn ht1 (fun e => hpr e.symm)
  go_wp2_with fail
  refine (markAt_t o nx md lc q n c xs (s + 2 * (gn : Int)) _ q1 h2 (by omega) (by omega)).mono ?_
  rintro e w2 ⟨rfl, ho2, ht2⟩
  have b2 := b1.turn ht2 (by omega)
  have c2 := b2.cells
  have p2 := ho1.turn ht2 hpq
  have r2 := r1.turn ht2 (fun e => hqr e.symm)
  clear c1
  go_wp2_with fail
  refine (markPs_t r rn rc rs (s + 2 * (gn : Int) + n) _ r2 h3 (by omega) (by omega)).mono ?_
  rintro e w3 ⟨rfl, ho3, ht3⟩
  go_wp2
  go_ret
  refine ⟨rfl, p2.turn ht3 hpr, ho2.turn ht3 hqr, ho3, ?_⟩
  exact Turn.trans (Turn.trans (Turn.trans hw.turn (ht1.mono (fun _ _ e => Or.inl e)) (fun _ _ e => e)) (ht2.mono (T := fun k => k = p ∨ k = q ∨ k = r) (fun _ _ e => Or.inr (Or.inl e))) (fun _ _ e => e)) (ht3.mono (T := fun k => k = p ∨ k = q ∨ k = r) (fun _ _ e => Or.inr (Or.inr e))) (fun _ _ e => e)

end Go.Proofs.Ytdmcbnmaknpkmaa
