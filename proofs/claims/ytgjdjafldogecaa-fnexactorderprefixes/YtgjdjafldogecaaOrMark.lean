/- What is proved here: what the marking of a list of prefixes leaves, what the looking for marks answers, and the comparing of two answers of the ordering. -/
import Derived.Test.YtgjdjafldogecaaOrImpl
namespace Go.Proofs.Ytgjdjafldogecaa
open Go.RowKit Go.Sort Go.Shelf
set_option linter.unusedVariables false

/-- n prefixes, marked from s on. -/
def mkP : Int → Nat → List (Int × Int)
  | _, 0 => []
  | s, n + 1 => (s, s + 1) :: mkP (s + 2) n
theorem mkP_len : ∀ (n : Nat) (s : Int), (mkP s n).length = n
  | 0, _ => rfl
  | n + 1, s => by simp [mkP, mkP_len n]
theorem mkP_get : ∀ (n : Nat) (s : Int) (j : Nat), j < n → (mkP s n)[j]? = some (s + 2 * j, s + 2 * j + 1)
  | 0, _, j, h => by omega
  | n + 1, s, 0, _ => by simp [mkP]
  | n + 1, s, j + 1, h => by
    rw [mkP, List.getElem?_cons_succ, mkP_get n (s + 2) j (by omega)]
    congr 2 <;> omega
/-- The first k are marked. -/
def half (s : Int) (ps : List (Int × Int)) (k : Nat) : List (Int × Int) := mkP s k ++ ps.drop k
theorem half_zero (s : Int) (ps : List (Int × Int)) : half s ps 0 = ps := by simp [half, mkP]
theorem half_all (s : Int) (ps : List (Int × Int)) : half s ps ps.length = mkP s ps.length := by simp [half]
theorem mkP_snoc : ∀ (n : Nat) (s : Int), mkP s (n + 1) = mkP s n ++ [(s + 2 * n, s + 2 * n + 1)]
  | 0, s => by simp [mkP]
  | n + 1, s => by
    rw [mkP, mkP_snoc n (s + 2), mkP, List.cons_append]
    congr 3
    congr 1 <;> omega
theorem half_next (s : Int) (ps : List (Int × Int)) (k : Nat) (h : k < ps.length) : (half s ps k).set k (s + 2 * k, s + 2 * k + 1) = half s ps (k + 1) := by
  unfold half
  rw [mkP_snoc, List.set_append_right _ _ (by rw [mkP_len]; exact Nat.le_refl _), mkP_len, Nat.sub_self, List.drop_eq_getElem_cons h, List.set_cons_zero, List.append_assoc, List.singleton_append]

theorem OwL.ps {w : World} {lo : Nat} {v : Value} {L : List (Int × Int)} (h : OwL w lo v L) (hb : ∀ p ∈ L, In6 p.1 ∧ In6 p.2) : ∃ a c, v = .slice a L.length c ∧ PsAt w a L := by
  rcases h with ⟨rfl, rfl⟩ | ⟨g, c, rfl, _, ho⟩
  · exact ⟨none, 0, rfl, PsAt.nil _ _⟩
  · exact ⟨_, c, rfl, ho.ps hb⟩

set_option maxHeartbeats 800000 in
theorem markP_row (g m c : Nat) (ps : List (Int × Int)) (w : World) (h : OwP w g m c ps) (hm : m ≤ 1048576) :
    Calls Try.prog 36 #[.slice (some ⟨g, 0, none⟩) m c, .int .i64 1] w fun e w' => e = .returned (.int .i64 (1 + 2 * (m : Int))) ∧ OwP w' g m c (mkP 1 m) ∧ Turn (fun k => k = g) w w' := by
  have HL : Hid (ps.length = m) := h.len
  go_enter Try.func36, Try.ntmps36
  go_wp2_with fail
  go_loopw [1, 5] (fun s i wr => ∃ k : Nat, k ≤ m ∧ i = .int .i64 k ∧ s = .int .i64 (1 + 2 * (k : Int)) ∧ OwP wr g m c (half 1 ps k) ∧ Turn (fun q => q = g) w wr) (fun _ i _ => m - (intOf i).toNat)
  case atStart => exact ⟨0, Nat.zero_le _, rfl, rfl, by rw [half_zero]; exact h, Turn.refl _ _⟩
  case round =>
    obtain ⟨k, hk, rfl, rfl, ho, ht⟩ := hrel
    by_cases hlt : k < m
    · obtain ⟨v0, c0⟩ := ho.cell (k * 2) (by omega)
      obtain ⟨v1, c1⟩ := ho.cell (k * 2 + 1) (by omega)
      have f0 := fun j => World.ownsRow.frozenAt ho j
      have hp := ho.put k (1 + 2 * (k : Int)) (1 + 2 * (k : Int) + 1)
      rw [half_next 1 ps k (by rw [HL.out]; exact hlt)] at hp
      go_wp2
      go_roundw
      case rel => exact ⟨k + 1, by omega, by go_num, by go_num, hp, (ht.set rfl _).set rfl _⟩
      case measure => simp [intOf]; omega
    · obtain rfl : k = m := by omega
      go_wp2
      go_ret
      refine ⟨rfl, ?_, ht⟩
      have := half_all 1 ps
      rw [HL.out] at this
      rw [← this]
      exact ho

theorem markP_nil (w : World) : Calls Try.prog 36 #[.slice none 0 0, .int .i64 1] w fun e w' => e = .returned (.int .i64 1) ∧ w' = w := by
  go_enter Try.func36, Try.ntmps36
  go_wp2_with fail
  go_loopw [1, 5] (fun s i wr => i = .int .i64 0 ∧ s = .int .i64 1 ∧ wr = w) (fun _ _ _ => 0)
  case atStart => exact ⟨rfl, rfl, rfl⟩
  case round =>
    obtain ⟨rfl, rfl, rfl⟩ := hrel
    go_wp2
    go_ret
    exact ⟨rfl, rfl⟩

theorem markP_any (lo : Nat) (v : Value) (L : List (Int × Int)) (w : World) (h : OwL w lo v L) (hm : L.length ≤ 1048576) :
    Calls Try.prog 36 #[v, .int .i64 1] w fun e w' => e = .returned (.int .i64 (1 + 2 * (L.length : Int))) ∧ OwL w' lo v (mkP 1 L.length) ∧ Turn (fun k => some k = v.ownBlock) w w' := by
  rcases h with ⟨rfl, rfl⟩ | ⟨g, c, rfl, hg, ho⟩
  · refine (markP_nil w).mono ?_
    rintro e w' ⟨rfl, rfl⟩
    exact ⟨rfl, .inl ⟨rfl, rfl⟩, Turn.refl _ _⟩
  · refine (markP_row g L.length c L w ho hm).mono ?_
    rintro e w' ⟨rfl, ho', ht⟩
    exact ⟨rfl, .inr ⟨g, c, by rw [mkP_len], hg, by rw [mkP_len]; exact ho'⟩, ht.mono (fun k _ e => by rw [e]; rfl)⟩

set_option maxHeartbeats 800000 in
theorem heldP_any (a : Option Addr) (m c : Nat) (w : World) (h : PsAt w a (mkP 1 m)) (hm : m ≤ 1048576) :
    Calls Try.prog 67 #[.slice a m c, .int .i64 1] w fun e w' => e = .returned (.int .i64 (1 + 2 * (m : Int))) ∧ w' = w := by
  go_enter Try.func67, Try.ntmps67
  go_wp2_with fail
  go_loopw [1, 5] (fun s i wr => ∃ k : Nat, k ≤ m ∧ i = .int .i64 k ∧ s = .int .i64 (1 + 2 * (k : Int)) ∧ wr = w) (fun _ i _ => m - (intOf i).toNat)
  case atStart => exact ⟨0, Nat.zero_le _, rfl, rfl, rfl⟩
  case round =>
    obtain ⟨k, hk, rfl, rfl, rfl⟩ := hrel
    by_cases hlt : k < m
    · obtain ⟨g1, o1, x, y, rfl, hp1, x0, x1⟩ := h.at k (by rw [mkP_len]; exact hlt)
      rw [mkP_get m 1 k hlt] at hp1
      simp only [Option.some.injEq, Prod.mk.injEq] at hp1
      obtain ⟨rfl, rfl⟩ := hp1
      have hx0 : ((1 + 2 * (k : Int)) != (1 + 2 * (k : Int))) = false := by simp
      have hx1 : ((1 + 2 * (k : Int) + 1) != (1 + 2 * (k : Int) + 1)) = false := by simp
      go_wp2
      go_roundw
      case rel => exact ⟨k + 1, by omega, by go_num, by go_num, trivial⟩
      case measure => simp [intOf]; omega
    · obtain rfl : k = m := by omega
      go_wp2
      go_ret
      exact ⟨rfl, rfl⟩

theorem mkP_bd (m : Nat) (hm : m ≤ 1048576) : ∀ p ∈ mkP 1 m, In6 p.1 ∧ In6 p.2 := by
  intro p hp
  obtain ⟨i, hi⟩ := List.mem_iff_getElem?.1 hp
  have hl : i < m := by have := (List.getElem?_eq_some_iff.1 hi).1; rwa [mkP_len] at this
  rw [mkP_get m 1 i hl] at hi
  obtain rfl := Option.some.inj hi
  unfold In6
  simp only
  omega

theorem heldPR_any (lo : Nat) (cd : Int) (v : Value) (m : Nat) (w : World) (h : OwL w lo v (mkP 1 m)) (hm : m ≤ 1048576) :
    Calls Try.prog 38 #[.agg #[.int .i64 cd, v], .int .i64 1] w fun e w' => e = .returned (.int .i64 (1 + 2 * (m : Int))) ∧ New w w' := by
  have hA := (New.refl w).alloc (.cells #[.int .i64 cd, v] 59)
  obtain ⟨a, c, rfl, hp⟩ := (h.turn hA (fun _ _ f => f)).ps (mkP_bd m hm)
  simp only [mkP_len] at hp hA ⊢
  have h0 : ¬ (1 + 2 * (m : Int) < 0) := by omega
  go_enter Try.func38, Try.ntmps38
  go_wp2_with fail
  refine (heldP_any a m c _ hp hm).mono ?_
  rintro e w1 ⟨rfl, rfl⟩
  go_wp2
  go_ret
  exact ⟨rfl, hA⟩

theorem markPR_any (lo : Nat) (cd : Int) (v : Value) (L : List (Int × Int)) (w : World) (h : OwL w lo v L) (hm : L.length ≤ 1048576) :
    Calls Try.prog 37 #[.agg #[.int .i64 cd, v], .int .i64 1] w fun e w' => e = .returned (.int .i64 (1 + 2 * (L.length : Int))) ∧ OwL w' lo v (mkP 1 L.length) ∧ Turn (fun k => some k = v.ownBlock) w w' := by
  have hA := (New.refl w).alloc (.cells #[.int .i64 cd, v] 59)
  have hL := h.turn hA (fun _ _ f => f)
  go_enter Try.func37, Try.ntmps37
  go_wp2_with fail
  refine (markP_any lo v L _ hL hm).mono ?_
  rintro e w1 ⟨rfl, hL1, ht1⟩
  go_wp2
  go_ret
  exact ⟨rfl, hL1, Turn.trans (New.turn hA) ht1 (fun _ _ e => e)⟩

theorem eqPR_any (lo lo' : Nat) (cd : Int) (v v' : Value) (L : List (Int × Int)) (w : World) (h : OwL w lo v L) (h' : OwL w lo' v' L) (hb : ∀ p ∈ L, In6 p.1 ∧ In6 p.2) (hm : L.length ≤ 1048576) :
    Calls Try.prog 35 #[.agg #[.int .i64 cd, v], .agg #[.int .i64 cd, v']] w fun e w' => e = .returned (.bool true) ∧ New w w' := by
  have hA := ((New.refl w).alloc (.cells #[.int .i64 cd, v] 59)).alloc (.cells #[.int .i64 cd, v'] 59)
  obtain ⟨a, c, e1, hp⟩ := (h.turn hA (fun _ _ f => f)).ps hb
  obtain ⟨a', c', e2, hp'⟩ := (h'.turn hA (fun _ _ f => f)).ps hb
  have hx : (cd != cd) = false := by simp
  subst e1
  subst e2
  generalize hl : L.length = m at *
  go_enter Try.func35, Try.ntmps35
  go_wp2_with fail
  refine (eqPs_any a a' m c c' L _ hp hp' hl hm).mono ?_
  rintro e w1 ⟨rfl, hn1⟩
  go_wp2
  go_ret
  exact ⟨rfl, hA.trans hn1⟩

end Go.Proofs.Ytgjdjafldogecaa
