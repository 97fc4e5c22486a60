/- Lemmas and contracts of one law. -/
import Derived.Test.YtdbnmkffinhdjaaGreatLV14
import Derived.Test.YtdbnmkffinhdjaaGreatLV16
import Derived.WalkKit
import Derived.Laws.BitsAllLaws
import Derived.Test.YtdbnmkffinhdjaaGreatLV1
import Derived.Test.YtdbnmkffinhdjaaGreatLV2
import Derived.Deep.RegionWith
import Derived.Test.YtdbnmkffinhdjaaGreatLV3
namespace Go.Proofs.YtdbnmkffinhdjaaGreat
open Go.ChangeShapes Go.WideShapes Go.ChangeAt Go.RowKit Go.Deep Go.Sort
set_option linter.unusedVariables false
set_option linter.unusedSimpArgs false
set_option maxHeartbeats 25600000

/-- What belongs to the wires lies in blocks of its own. -/
def ApW (w : World) (lo : Nat) (V : List WiV) : Prop :=
  (∀ (i : Nat) (v : WiV), V[i]? = some v → (OwAt w v.a v.xs.length v.c v.xs ∧ OwAt w v.b v.ys.length v.d v.ys) ∧ (v.xs.length ≤ 1048576 ∧ v.ys.length ≤ 1048576) ∧ (∀ x, (v.a = some x ∨ v.b = some x) → lo ≤ x.block ∧ x.block < w.heap.size) ∧ (∀ x y, v.a = some x → v.b = some y → ¬ x.block = y.block)) ∧ ∀ (i j : Nat) (u v : WiV) (x y : Addr), V[i]? = some u → V[j]? = some v → i ≠ j → (u.a = some x ∨ u.b = some x) → (v.a = some y ∨ v.b = some y) → ¬ x.block = y.block
theorem ApW.turn {w w' : World} {lo : Nat} {V : List WiV} {S : Nat → Prop} (h : ApW w lo V) (t : Turn S w w') (hS : ∀ k, lo ≤ k → k < w.heap.size → ¬ S k) : ApW w' lo V := by
  refine ⟨fun i v hv => ?_, h.2⟩
  obtain ⟨h1, h2, h3, h4⟩ := h.1 i v hv
  have hs := t.size
  refine ⟨⟨h1.1.turn t (fun x hx => hS _ (h3 x (.inl hx)).1 (h3 x (.inl hx)).2), h1.2.turn t (fun x hx => hS _ (h3 x (.inr hx)).1 (h3 x (.inr hx)).2)⟩, h2, fun x hx => ⟨(h3 x hx).1, Nat.lt_of_lt_of_le (h3 x hx).2 hs⟩, h4⟩
theorem ApW.new {w w' : World} {lo : Nat} {V : List WiV} (h : ApW w lo V) (t : New w w') : ApW w' lo V := h.turn t (fun _ _ _ f => f)
theorem ApW.snoc {w : World} {lo l : Nat} {V : List WiV} (h : ApW w lo V) (v : WiV) (ho : OwAt w v.a v.xs.length v.c v.xs ∧ OwAt w v.b v.ys.length v.d v.ys) (hb : v.xs.length ≤ 1048576 ∧ v.ys.length ≤ 1048576) (hr : ∀ x, (v.a = some x ∨ v.b = some x) → l ≤ x.block ∧ x.block < w.heap.size) (hs : ∀ x y, v.a = some x → v.b = some y → ¬ x.block = y.block) (hl : lo ≤ l) (hh : ∀ u ∈ V, ∀ x, (u.a = some x ∨ u.b = some x) → x.block < l) : ApW w lo (V ++ [v]) := by
  have key : ∀ (i : Nat) (u : WiV), (V ++ [v])[i]? = some u → (V[i]? = some u) ∨ (i = V.length ∧ u = v) := by
    intro i u hu
    rw [List.getElem?_append] at hu
    split at hu
    · exact .inl hu
    · right
      have : i - V.length = 0 := by
        rcases Nat.eq_zero_or_pos (i - V.length) with e | e
        · exact e
        · rw [List.getElem?_eq_none (by simp; omega)] at hu; cases hu
      rw [this] at hu
      simp at hu
      exact ⟨by omega, hu.symm⟩
  refine ⟨fun i u hu => ?_, fun i j u q x y hi hj hne hx hy => ?_⟩
  · rcases key i u hu with h1 | ⟨-, rfl⟩
    · exact h.1 i u h1
    · exact ⟨ho, hb, fun x hx => ⟨Nat.le_trans hl (hr x hx).1, (hr x hx).2⟩, hs⟩
  · rcases key i u hi with h1 | ⟨h1, rfl⟩
    · rcases key j q hj with h2 | ⟨h2, rfl⟩
      · exact h.2 i j u q x y h1 h2 hne hx hy
      · have := hh u (List.mem_of_getElem? h1) x hx; have := (hr y hy).1; omega
    · rcases key j q hj with h2 | ⟨h2, rfl⟩
      · have := hh q (List.mem_of_getElem? h2) y hy; have := (hr x hx).1; omega
      · omega

theorem ApW.own {w : World} {lo hi g n c : Nat} {V : List WiV} (h : ApW w lo V) (hr : w.ownsRow 0 132 4 (.slice (some ⟨g, 0, none⟩) n c) n (cellsWi V)) (hg : g < lo) (hh : w.heap.size ≤ hi) : OwW1 w (fun x => g ≤ x ∧ x < hi) g n c V := by
  have hm : ∀ u ∈ V, ∃ i : Nat, V[i]? = some u := fun u hu => List.getElem?_of_mem hu
  refine ⟨hr, fun i u hu => (h.1 i u hu).1, fun u hu => ?_, fun u hu x hx => ?_, ?_, fun u hu => ?_, h.2⟩
  · obtain ⟨i, hi'⟩ := hm u hu
    exact (h.1 i u hi').2.1
  · obtain ⟨i, hi'⟩ := hm u hu
    have := (h.1 i u hi').2.2.1 x hx
    exact ⟨⟨by omega, by omega⟩, by omega⟩
  · have := (World.ownsRow.lt hr g rfl).2
    exact ⟨by omega, by omega⟩
  · obtain ⟨i, hi'⟩ := hm u hu
    exact (h.1 i u hi').2.2.2


/-- What belongs to the mails lies in blocks of its own. -/
def ApM (w : World) (lo : Nat) (V : List MlV) : Prop :=
  (∀ (i : Nat) (v : MlV), V[i]? = some v → (OwAt w v.a v.m.e.xs.length v.c v.m.e.xs) ∧ (v.m.e.xs.length ≤ 1048576) ∧ (∀ x, v.a = some x → lo ≤ x.block ∧ x.block < w.heap.size)) ∧ ∀ (i j : Nat) (u v : MlV) (x y : Addr), V[i]? = some u → V[j]? = some v → i ≠ j → u.a = some x → v.a = some y → ¬ x.block = y.block
theorem ApM.turn {w w' : World} {lo : Nat} {V : List MlV} {S : Nat → Prop} (h : ApM w lo V) (t : Turn S w w') (hS : ∀ k, lo ≤ k → k < w.heap.size → ¬ S k) : ApM w' lo V := by
  refine ⟨fun i v hv => ?_, h.2⟩
  obtain ⟨h1, h2, h3⟩ := h.1 i v hv
  have hs := t.size
  refine ⟨h1.turn t (fun x hx => hS _ (h3 x hx).1 (h3 x hx).2), h2, fun x hx => ⟨(h3 x hx).1, Nat.lt_of_lt_of_le (h3 x hx).2 hs⟩⟩
theorem ApM.new {w w' : World} {lo : Nat} {V : List MlV} (h : ApM w lo V) (t : New w w') : ApM w' lo V := h.turn t (fun _ _ _ f => f)
theorem ApM.snoc {w : World} {lo l : Nat} {V : List MlV} (h : ApM w lo V) (v : MlV) (ho : OwAt w v.a v.m.e.xs.length v.c v.m.e.xs) (hb : v.m.e.xs.length ≤ 1048576) (hr : ∀ x, v.a = some x → l ≤ x.block ∧ x.block < w.heap.size) (hl : lo ≤ l) (hh : ∀ u ∈ V, ∀ x, u.a = some x → x.block < l) : ApM w lo (V ++ [v]) := by
  have key : ∀ (i : Nat) (u : MlV), (V ++ [v])[i]? = some u → (V[i]? = some u) ∨ (i = V.length ∧ u = v) := by
    intro i u hu
    rw [List.getElem?_append] at hu
    split at hu
    · exact .inl hu
    · right
      have : i - V.length = 0 := by
        rcases Nat.eq_zero_or_pos (i - V.length) with e | e
        · exact e
        · rw [List.getElem?_eq_none (by simp; omega)] at hu; cases hu
      rw [this] at hu
      simp at hu
      exact ⟨by omega, hu.symm⟩
  refine ⟨fun i u hu => ?_, fun i j u q x y hi hj hne hx hy => ?_⟩
  · rcases key i u hu with h1 | ⟨-, rfl⟩
    · exact h.1 i u h1
    · exact ⟨ho, hb, fun x hx => ⟨Nat.le_trans hl (hr x hx).1, (hr x hx).2⟩⟩
  · rcases key i u hi with h1 | ⟨h1, rfl⟩
    · rcases key j q hj with h2 | ⟨h2, rfl⟩
      · exact h.2 i j u q x y h1 h2 hne hx hy
      · have := hh u (List.mem_of_getElem? h1) x hx; have := (hr y hy).1; omega
    · rcases key j q hj with h2 | ⟨h2, rfl⟩
      · have := hh q (List.mem_of_getElem? h2) y hy; have := (hr x hx).1; omega
      · omega

theorem ApM.own {w : World} {lo hi g n c : Nat} {V : List MlV} (h : ApM w lo V) (hr : w.ownsRow 0 120 10 (.slice (some ⟨g, 0, none⟩) n c) n (cellsMq V)) (hg : g < lo) (hh : w.heap.size ≤ hi) : OwQ1 w (fun x => g ≤ x ∧ x < hi) g n c V := by
  have hm : ∀ u ∈ V, ∃ i : Nat, V[i]? = some u := fun u hu => List.getElem?_of_mem hu
  refine ⟨hr, fun i u hu => (h.1 i u hu).1, fun u hu => ?_, fun u hu x hx => ?_, ?_, h.2⟩
  · obtain ⟨i, hi'⟩ := hm u hu
    exact (h.1 i u hi').2.1
  · obtain ⟨i, hi'⟩ := hm u hu
    have := (h.1 i u hi').2.2 x hx
    exact ⟨⟨by omega, by omega⟩, by omega⟩
  · have := (World.ownsRow.lt hr g rfl).2
    exact ⟨by omega, by omega⟩

end Go.Proofs.YtdbnmkffinhdjaaGreat

namespace Go.Proofs.YtdbnmkffinhdjaaGreat
open Go.RowKit
set_option maxHeartbeats 25600000

/-- How many addresses a prefix of length l has. -/
def szp (l : Int) : Int := 2 ^ (16 - l).toNat

theorem len_cases {l : Int} (h0 : 0 ≤ l) (h1 : l ≤ 16) : ∃ k : Nat, k ≤ 16 ∧ l = 16 - (k : Int) := ⟨(16 - l).toNat, by omega, by omega⟩
theorem szp_nat (k : Nat) (hk : k ≤ 16) : szp (16 - (k : Int)) = ((2 ^ k : Nat) : Int) := by
  unfold szp
  rw [show (16 - (16 - (k : Int))).toNat = k by omega]
  simp
theorem pow_bd (k : Nat) (hk : k ≤ 16) : 1 ≤ 2 ^ k ∧ 2 ^ k ≤ 65536 :=
  ⟨Nat.one_le_two_pow, Nat.pow_le_pow_right (n := 2) (by omega) hk⟩
theorem szp_bd {l : Int} (h0 : 0 ≤ l) (h1 : l ≤ 16) : 1 ≤ szp l ∧ szp l ≤ 65536 := by
  obtain ⟨k, hk, rfl⟩ := len_cases h0 h1
  rw [szp_nat k hk]
  have := pow_bd k hk
  omega

theorem and_low (a k : Nat) : a &&& (2 ^ k - 1) = a % 2 ^ k := Nat.and_two_pow_sub_one_eq_mod a k

/-- impl: the bits behind the mask. -/
theorem bits_low16 {a l : Int} (ha : 0 ≤ a) (ha' : a ≤ 65535) (h0 : 0 ≤ l) (h1 : l ≤ 16) : bits .andNot .u16 a (65536 - szp l) = a % szp l := by
  obtain ⟨k, hk, rfl⟩ := len_cases h0 h1
  obtain ⟨A, rfl⟩ := Int.eq_ofNat_of_zero_le ha
  have hp := pow_bd k hk
  rw [szp_nat k hk, show (65536 - ((2 ^ k : Nat) : Int)) = ((65536 - 2 ^ k : Nat) : Int) by omega, u16_andNot_nat A (65536 - 2 ^ k) (by omega) (by omega), show 65535 - (65536 - 2 ^ k) = 2 ^ k - 1 by omega, and_low]
  simp

theorem wrap_small (n : Nat) (h : n < 65536) : IntKind.i64.wrap (n : Int) = n := by
  simp [IntKind.wrap, IntKind.bits, IntKind.signed]
  omega

theorem i64_ofP (a : Nat) (ha : a < 65536) : (BitVec.ofInt 64 (a : Int)).toNat = a := by
  rw [BitVec.ofInt_natCast, BitVec.toNat_ofNat]; exact Nat.mod_eq_of_lt (by omega)

theorem bits_low64 {a l : Int} (ha : 0 ≤ a) (ha' : a ≤ 65535) (h0 : 0 ≤ l) (h1 : l ≤ 16) : bits .and .i64 a (szp l - 1) = a % szp l := by
  obtain ⟨k, hk, rfl⟩ := len_cases h0 h1
  obtain ⟨A, rfl⟩ := Int.eq_ofNat_of_zero_le ha
  have hp := pow_bd k hk
  have hm := Nat.mod_lt A (show 2 ^ k > 0 by omega)
  rw [szp_nat k hk, show ((2 ^ k : Nat) : Int) - 1 = ((2 ^ k - 1 : Nat) : Int) by omega]
  show IntKind.i64.wrap ((BitVec.ofInt 64 (A : Int) &&& BitVec.ofInt 64 ((2 ^ k - 1 : Nat) : Int)).toNat : Int) = _
  rw [BitVec.toNat_and, i64_ofP A (by omega), i64_ofP _ (by omega), and_low, wrap_small _ (by omega), ← Int.natCast_emod]

/-- The fault of a prefix. -/
def pf (a l : Int) : Int := if a < 0 ∨ 65535 < a ∨ l < 0 ∨ 16 < l then 3 else if a % szp l ≠ 0 then 1 else 0


theorem isAddr_yes (v : Int) (w : World) (h : 0 ≤ v ∧ v ≤ 65535) : Calls Tryz.prog 142 #[.int .i64 v] w fun e w' => e = .returned (.bool true) ∧ w' = w := by
  obtain ⟨h1, h2⟩ := h
  go_enter Tryz.func142, Tryz.ntmps142
  go_wp2
  go_ret
  exact ⟨by simp, rfl⟩

theorem isAddr_no (v : Int) (w : World) (h : v < 0 ∨ 65535 < v) : Calls Tryz.prog 142 #[.int .i64 v] w fun e w' => e = .returned (.bool false) ∧ w' = w := by
  by_cases h1 : 0 ≤ v
  · have h2 : 65535 < v := by omega
    go_enter Tryz.func142, Tryz.ntmps142
    go_wp2
    go_ret
    exact ⟨by simp; omega, rfl⟩
  · go_enter Tryz.func142, Tryz.ntmps142
    go_wp2
    go_ret
    exact ⟨rfl, rfl⟩

theorem mask_small : ∀ k : Nat, k < 17 → 65535 * 2 ^ k % 65536 = 65536 - 2 ^ k := by decide
theorem mask_eq {l : Int} (h0 : 0 ≤ l) (h1 : l ≤ 16) : IntKind.u16.wrap (65535 * 2 ^ (16 - l).toNat) = 65536 - szp l := by
  obtain ⟨k, hk, rfl⟩ := len_cases h0 h1
  have hp := pow_bd k hk
  have hm := mask_small k (by omega)
  rw [szp_nat k hk, IntKind.wrap_u16, show (16 - (16 - (k : Int))).toNat = k by omega]
  have : (65535 * 2 ^ k : Int) = ((65535 * 2 ^ k : Nat) : Int) := by simp
  rw [this]
  omega

theorem maskOf_any (l : Int) (w : World) (h0 : 0 ≤ l) (h1 : l ≤ 16) : Calls Tryz.prog 191 #[.int .i64 l] w fun e w' => e = .returned (.int .u16 (65536 - szp l)) ∧ w' = w := by
  have hm := mask_eq h0 h1
  go_enter Tryz.func191, Tryz.ntmps191
  go_wp2
  go_ret
  exact ⟨rfl, rfl⟩

theorem implPF (a l : Int) (w : World) : Calls Tryz.prog 186 #[.agg #[.int .i64 a, .int .i64 l]] w fun e w' => e = .returned (.int .i64 (pf a l)) ∧ New w w' := by
  by_cases ha : a < 0 ∨ 65535 < a
  · have hf : Hid (pf a l = 3) := by unfold pf Hid; rw [if_pos (by omega)]
    go_enter Tryz.func186, Tryz.ntmps186
    go_wp2_with fail
    refine (isAddr_no _ _ ha).mono ?_
    rintro e w1 ⟨rfl, rfl⟩
    go_wp2
    go_ret
    exact ⟨ret_i64 hf.out.symm, (New.refl _).alloc _⟩
  · have ha0 : 0 ≤ a := by omega
    have ha1 : a ≤ 65535 := by omega
    by_cases hl0 : l < 0
    · have hf : Hid (pf a l = 3) := by unfold pf Hid; rw [if_pos (by omega)]
      go_enter Tryz.func186, Tryz.ntmps186
      go_wp2_with fail
      refine (isAddr_yes _ _ ⟨ha0, ha1⟩).mono ?_
      rintro e w1 ⟨rfl, rfl⟩
      go_wp2
      go_ret
      exact ⟨ret_i64 hf.out.symm, (New.refl _).alloc _⟩
    · by_cases hl1 : 16 < l
      · have hf : Hid (pf a l = 3) := by unfold pf Hid; rw [if_pos (by omega)]
        go_enter Tryz.func186, Tryz.ntmps186
        go_wp2_with fail
        refine (isAddr_yes _ _ ⟨ha0, ha1⟩).mono ?_
        rintro e w1 ⟨rfl, rfl⟩
        go_wp2
        go_ret
        exact ⟨ret_i64 hf.out.symm, (New.refl _).alloc _⟩
      · have hl2 : 0 ≤ l := by omega
        have hl3 : l ≤ 16 := by omega
        have hwa : IntKind.u16.wrap a = a := by rw [IntKind.wrap_u16]; omega
        have hlow := bits_low16 ha0 ha1 hl2 hl3
        by_cases hz : a % szp l = 0
        · have hf : Hid (pf a l = 0) := by unfold pf Hid; rw [if_neg (by omega), if_neg (by omega)]
          go_enter Tryz.func186, Tryz.ntmps186
          go_wp2_with fail
          refine (isAddr_yes _ _ ⟨ha0, ha1⟩).mono ?_
          rintro e w1 ⟨rfl, rfl⟩
          go_wp2_with fail
          go_quiet ((go_at_call 191; exact Calls.quiet_of_same (maskOf_any l _ hl2 hl3)))
          go_wp2
          go_ret
          exact ⟨ret_i64 hf.out.symm, ((New.refl _).alloc _).drewN _⟩
        · have hf : Hid (pf a l = 1) := by unfold pf Hid; rw [if_neg (by omega), if_pos (by omega)]
          go_enter Tryz.func186, Tryz.ntmps186
          go_wp2_with fail
          refine (isAddr_yes _ _ ⟨ha0, ha1⟩).mono ?_
          rintro e w1 ⟨rfl, rfl⟩
          go_wp2_with fail
          go_quiet ((go_at_call 191; exact Calls.quiet_of_same (maskOf_any l _ hl2 hl3)))
          go_wp2
          go_ret
          exact ⟨ret_i64 hf.out.symm, ((New.refl _).alloc _).drewN _⟩

theorem l2Rest_any (l : Int) (w : World) (h0 : 0 ≤ l) (h1 : l ≤ 16) : Calls Tryz.prog 190 #[.int .i64 l] w fun e w' => e = .returned (.int .i64 (szp l - 1)) ∧ w' = w := by
  have hb := szp_bd h0 h1
  have hm : (2 ^ (16 - l).toNat : Int) = szp l := rfl
  go_enter Tryz.func190, Tryz.ntmps190
  go_wp2
  go_ret
  exact ⟨rfl, rfl⟩

theorem l2Addr_yes (v : Int) (w : World) (h : 0 ≤ v ∧ v ≤ 65535) : Calls Tryz.prog 136 #[.int .i64 v] w fun e w' => e = .returned (.bool true) ∧ w' = w := by
  go_enter Tryz.func136, Tryz.ntmps136
  go_wp2_with fail
  refine (in_yes _ _ _ _ h).mono ?_
  rintro e w1 ⟨rfl, rfl⟩
  go_wp2
  go_ret
  exact ⟨rfl, rfl⟩

theorem l2Addr_no (v : Int) (w : World) (h : v < 0 ∨ 65535 < v) : Calls Tryz.prog 136 #[.int .i64 v] w fun e w' => e = .returned (.bool false) ∧ w' = w := by
  go_enter Tryz.func136, Tryz.ntmps136
  go_wp2_with fail
  refine (in_no _ _ _ _ h).mono ?_
  rintro e w1 ⟨rfl, rfl⟩
  go_wp2
  go_ret
  exact ⟨rfl, rfl⟩

theorem specPF (a l : Int) (w : World) : Calls Tryz.prog 184 #[.agg #[.int .i64 a, .int .i64 l]] w fun e w' => e = .returned (.int .i64 (pf a l)) ∧ New w w' := by
  by_cases ha : a < 0 ∨ 65535 < a
  · have hf : Hid (pf a l = 3) := by unfold pf Hid; rw [if_pos (by omega)]
    go_enter Tryz.func184, Tryz.ntmps184
    go_wp2_with fail
    refine (l2Addr_no _ _ ha).mono ?_
    rintro e w1 ⟨rfl, rfl⟩
    go_wp2
    go_ret
    exact ⟨ret_i64 hf.out.symm, (New.refl _).alloc _⟩
  · have ha0 : 0 ≤ a := by omega
    have ha1 : a ≤ 65535 := by omega
    by_cases hl : l < 0 ∨ 16 < l
    · have hf : Hid (pf a l = 3) := by unfold pf Hid; rw [if_pos (by omega)]
      go_enter Tryz.func184, Tryz.ntmps184
      go_wp2_with fail
      refine (l2Addr_yes _ _ ⟨ha0, ha1⟩).mono ?_
      rintro e w1 ⟨rfl, rfl⟩
      go_wp2_with fail
      refine (in_no _ _ _ _ hl).mono ?_
      rintro e w1 ⟨rfl, rfl⟩
      go_wp2
      go_ret
      exact ⟨ret_i64 hf.out.symm, (New.refl _).alloc _⟩
    · have hl2 : 0 ≤ l := by omega
      have hl3 : l ≤ 16 := by omega
      have hlow := bits_low64 ha0 ha1 hl2 hl3
      by_cases hz : a % szp l = 0
      · have hf : Hid (pf a l = 0) := by unfold pf Hid; rw [if_neg (by omega), if_neg (by omega)]
        go_enter Tryz.func184, Tryz.ntmps184
        go_wp2_with fail
        refine (l2Addr_yes _ _ ⟨ha0, ha1⟩).mono ?_
        rintro e w1 ⟨rfl, rfl⟩
        go_wp2_with fail
        refine (in_yes _ _ _ _ ⟨hl2, hl3⟩).mono ?_
        rintro e w1 ⟨rfl, rfl⟩
        go_wp2_with fail
        go_quiet ((go_at_call 190; exact Calls.quiet_of_same (l2Rest_any l _ hl2 hl3)))
        go_wp2
        go_ret
        exact ⟨ret_i64 hf.out.symm, ((New.refl _).alloc _).drewN _⟩
      · have hf : Hid (pf a l = 1) := by unfold pf Hid; rw [if_neg (by omega), if_pos (by omega)]
        go_enter Tryz.func184, Tryz.ntmps184
        go_wp2_with fail
        refine (l2Addr_yes _ _ ⟨ha0, ha1⟩).mono ?_
        rintro e w1 ⟨rfl, rfl⟩
        go_wp2_with fail
        refine (in_yes _ _ _ _ ⟨hl2, hl3⟩).mono ?_
        rintro e w1 ⟨rfl, rfl⟩
        go_wp2_with fail
        go_quiet ((go_at_call 190; exact Calls.quiet_of_same (l2Rest_any l _ hl2 hl3)))
        go_wp2
        go_ret
        exact ⟨ret_i64 hf.out.symm, ((New.refl _).alloc _).drewN _⟩

end Go.Proofs.YtdbnmkffinhdjaaGreat

namespace Go.Proofs.YtdbnmkffinhdjaaGreat
open Go.RowKit Go.Sort
set_option maxHeartbeats 25600000

theorem implPF_is (a l c : Int) (w : World) (h : pf a l = c) : Calls Tryz.prog 186 #[.agg #[.int .i64 a, .int .i64 l]] w fun e w' => e = .returned (.int .i64 c) ∧ New w w' := h ▸ implPF a l w
theorem specPF_is (a l c : Int) (w : World) (h : pf a l = c) : Calls Tryz.prog 184 #[.agg #[.int .i64 a, .int .i64 l]] w fun e w' => e = .returned (.int .i64 c) ∧ New w w' := h ▸ specPF a l w

end Go.Proofs.YtdbnmkffinhdjaaGreat

namespace Go.Proofs.YtdbnmkffinhdjaaGreat
open Go.ChangeShapes Go.WideShapes Go.ChangeAt Go.RowKit
set_option maxHeartbeats 25600000

theorem toPrefix_any (a l : Int) (w : World) : Calls Tryz.prog 140 #[.agg #[.int .i64 a, .int .i64 l]] w fun e w' => e = .returned (.agg #[.int .i64 a, .int .i64 l]) ∧ New w w' := by
  go_enter Tryz.func140, Tryz.ntmps140
  go_wp2
  refine bodyPost_ret (v := .agg #[.int .i64 a, .int .i64 l]) (by simp [results, Tryz.results140, go_sem]) rfl ⟨rfl, ?_⟩
  exact ((((New.refl w).alloc _).alloc _).alloc _)

end Go.Proofs.YtdbnmkffinhdjaaGreat

namespace Go.Proofs.YtdbnmkffinhdjaaGreat
open Go.RowKit Go.Sort
set_option maxHeartbeats 25600000

/-- A whole number that an int64 holds. -/
def In6 (x : Int) : Prop := -9223372036854775808 ≤ x ∧ x ≤ 9223372036854775807


theorem eqPrefix_any (x y : Int) (w : World) : Calls Tryz.prog 151 #[.agg #[.int .i64 x, .int .i64 y], .agg #[.int .i64 x, .int .i64 y]] w fun e w' => e = .returned (.bool true) ∧ New w w' := by
  have hx : (x != x) = false := by simp
  have hy : (y != y) = false := by simp
  go_enter Tryz.func151, Tryz.ntmps151
  go_wp2
  go_ret
  exact ⟨rfl, ((New.refl _).alloc _).alloc _⟩

end Go.Proofs.YtdbnmkffinhdjaaGreat

namespace Go.Proofs.YtdbnmkffinhdjaaGreat
open Go.RowKit Go.Sort
set_option linter.unusedVariables false
set_option maxHeartbeats 25600000

/-- The address leads to the numbers xs. -/
def NsAt (w : World) (a : Option Addr) (xs : List Int) : Prop :=
  ∀ i z, xs[i]? = some z → ∃ b off, a = some ⟨b, off, none⟩ ∧ w.cell? ⟨b, off + i, none⟩ = some (.int .i64 z) ∧ In6 z

theorem NsAt.nil (w : World) (a : Option Addr) : NsAt w a [] := by intro i z h; simp at h

theorem NsAt.at {w : World} {a : Option Addr} {xs : List Int} (h : NsAt w a xs) (i : Nat) (hi : i < xs.length) :
    ∃ b off z, a = some ⟨b, off, none⟩ ∧ xs[i]? = some z ∧ w.cell? ⟨b, off + i, none⟩ = some (.int .i64 z) ∧ In6 z := by
  obtain ⟨b, off, h1, h2, h3⟩ := h i _ (List.getElem?_eq_getElem hi)
  exact ⟨b, off, _, h1, List.getElem?_eq_getElem hi, h2, h3⟩

theorem NsAt.bd {w : World} {a : Option Addr} {xs : List Int} (h : NsAt w a xs) : ∀ z ∈ xs, In6 z := by
  intro z hz
  obtain ⟨i, hi, rfl⟩ := List.mem_iff_getElem.1 hz
  obtain ⟨_, _, _, _, h4⟩ := h i _ (List.getElem?_eq_getElem hi)
  exact h4

theorem NsAt.turn {w w' : World} {a : Option Addr} {xs : List Int} {S : Nat → Prop} (h : NsAt w a xs) (t : Turn S w w') (hS : ∀ x, xs ≠ [] → a = some x → ¬ S x.block) : NsAt w' a xs := by
  intro i z hz
  obtain ⟨b, off, ha, hc, hb⟩ := h i z hz
  exact ⟨b, off, ha, (World.cell?_of_block (t.block b (World.block_lt_of_cell? w _ hc) (hS _ (by rintro rfl; simp at hz) ha))).trans hc, hb⟩

theorem NsAt.new {w w' : World} {a : Option Addr} {xs : List Int} (h : NsAt w a xs) (t : New w w') : NsAt w' a xs := h.turn t (fun _ _ _ f => f)

theorem fits_yesA (x : Int) (w : World) (h : 0 ≤ x ∧ x ≤ 65535) : Calls Tryz.prog 188 #[.int .i64 x] w fun e w' => e = .returned (.bool true) ∧ w' = w := by
  obtain ⟨h1, h2⟩ := h
  go_enter Tryz.func188, Tryz.ntmps188
  go_wp2
  go_ret
  exact ⟨by simp, rfl⟩

theorem fits_noA (x : Int) (w : World) (h : x < 0 ∨ 65535 < x) : Calls Tryz.prog 188 #[.int .i64 x] w fun e w' => e = .returned (.bool false) ∧ w' = w := by
  by_cases h1 : 0 ≤ x
  · have h2 : 65535 < x := by omega
    go_enter Tryz.func188, Tryz.ntmps188
    go_wp2
    go_ret
    exact ⟨by simp; omega, rfl⟩
  · go_enter Tryz.func188, Tryz.ntmps188
    go_wp2
    go_ret
    exact ⟨rfl, rfl⟩

theorem word_yes (x : Int) (w : World) (h : 0 ≤ x ∧ x ≤ 65535) : Calls Tryz.prog 185 #[.int .i64 x] w fun e w' => e = .returned (.bool true) ∧ w' = w := by
  go_enter Tryz.func185, Tryz.ntmps185
  go_wp2_with fail
  refine (in_yes _ _ _ _ h).mono ?_
  rintro e w1 ⟨rfl, rfl⟩
  go_wp2
  go_ret
  exact ⟨rfl, rfl⟩

theorem word_no (x : Int) (w : World) (h : x < 0 ∨ 65535 < x) : Calls Tryz.prog 185 #[.int .i64 x] w fun e w' => e = .returned (.bool false) ∧ w' = w := by
  go_enter Tryz.func185, Tryz.ntmps185
  go_wp2_with fail
  refine (in_no _ _ _ _ h).mono ?_
  rintro e w1 ⟨rfl, rfl⟩
  go_wp2
  go_ret
  exact ⟨rfl, rfl⟩

/-- A number that fits two bytes. -/
abbrev Wd (x : Int) : Prop := 0 ≤ x ∧ x ≤ 65535


theorem New.set_iff {a w : World} {p : Addr} {u : Value} (hp : a.heap.size ≤ p.block) : New a (w.setCell p u) ↔ New a w :=
  ⟨fun h => ⟨h.os, h.tape, h.output, by simpa [World.setCell] using h.size, fun k hk hs => (Below.heap_setCell w p u k (by omega)).symm.trans (h.block k hk hs)⟩, fun h => h.setCell hp u⟩

/-- A rule. -/
structure Ru where
  a : Int
  l : Int
  ls : Int
  ms : Int
  s : Int
  d : Bool
  lc : Int
  pp : Int

/-- The cells of a rule. -/
def Ru.cs (r : Ru) : List Value := [.int .i64 r.a, .int .i64 r.l, .int .i64 r.ls, .int .i64 r.ms, .int .i64 r.s, .bool r.d, .int .i64 r.lc, .int .i64 r.pp]

/-- The numbers of a rule are in their bounds. -/
abbrev RuB (ls ms s lc pp : Int) : Prop := (0 ≤ ls ∧ ls ≤ 16) ∧ (0 ≤ ms ∧ ms ≤ 16) ∧ Wd s ∧ (-1 ≤ lc ∧ lc ≤ 65535) ∧ (0 ≤ pp ∧ pp ≤ 3)
/-- The parts of a rule do not fit. -/
abbrev RuX (ls ms : Int) (d : Bool) (lc pp : Int) : Prop := ms < ls ∨ (d = true ∧ (lc ≠ -1 ∨ pp ≠ 0))
/-- The fault of a rule. -/
def rf (a l ls ms s : Int) (d : Bool) (lc pp : Int) : Int := if pf a l = 0 then (if RuB ls ms s lc pp then (if RuX ls ms d lc pp then 1 else 0) else 3) else pf a l
def Ru.f (r : Ru) : Int := rf r.a r.l r.ls r.ms r.s r.d r.lc r.pp

def rfc : List Ru → Int
  | [] => 0
  | r :: q => if r.f = 0 then rfc q else r.f
/-- The fault of a list of rules. -/
def rsf (rs : List Ru) : Int := if 8 < rs.length then 2 else rfc rs

theorem rfc_next {rs : List Ru} {k : Nat} {r : Ru} (h : rs[k]? = some r) : rfc (rs.drop k) = if r.f = 0 then rfc (rs.drop (k + 1)) else r.f := by
  obtain ⟨hk, e⟩ := List.getElem?_eq_some_iff.1 h
  rw [List.drop_eq_getElem_cons hk, e]
  rfl
/-- The address leads to the rules rs. -/
def RsAt (w : World) (a : Option Addr) (rs : List Ru) : Prop :=
  ∀ i r, rs[i]? = some r → ∃ b off, a = some ⟨b, off, none⟩ ∧ ∀ j, j < 8 → w.cell? ⟨b, off + i * 8 + j, none⟩ = r.cs[j]?

theorem RsAt.nil (w : World) (a : Option Addr) : RsAt w a [] := by intro i z h; simp at h

theorem RsAt.at {w : World} {a : Option Addr} {rs : List Ru} (h : RsAt w a rs) (i : Nat) (hi : i < rs.length) :
    ∃ b off x l ls ms s d lc pp, a = some ⟨b, off, none⟩ ∧ rs[i]? = some ⟨x, l, ls, ms, s, d, lc, pp⟩ ∧ w.cell? ⟨b, off + i * 8, none⟩ = some (.int .i64 x) ∧ w.cell? ⟨b, off + i * 8 + 1, none⟩ = some (.int .i64 l) ∧ w.cell? ⟨b, off + i * 8 + 2, none⟩ = some (.int .i64 ls) ∧ w.cell? ⟨b, off + i * 8 + 3, none⟩ = some (.int .i64 ms) ∧ w.cell? ⟨b, off + i * 8 + 4, none⟩ = some (.int .i64 s) ∧ w.cell? ⟨b, off + i * 8 + 5, none⟩ = some (.bool d) ∧ w.cell? ⟨b, off + i * 8 + 6, none⟩ = some (.int .i64 lc) ∧ w.cell? ⟨b, off + i * 8 + 7, none⟩ = some (.int .i64 pp) := by
  obtain ⟨b, off, h1, h2⟩ := h i _ (List.getElem?_eq_getElem hi)
  exact ⟨b, off, _, _, _, _, _, _, _, _, h1, List.getElem?_eq_getElem hi, h2 0 (by omega), h2 1 (by omega), h2 2 (by omega), h2 3 (by omega), h2 4 (by omega), h2 5 (by omega), h2 6 (by omega), h2 7 (by omega)⟩

theorem RsAt.turn {w w' : World} {a : Option Addr} {rs : List Ru} {S : Nat → Prop} (h : RsAt w a rs) (t : Turn S w w') (hS : ∀ x, rs ≠ [] → a = some x → ¬ S x.block) : RsAt w' a rs := by
  intro i p hp
  obtain ⟨b, off, ha, hc⟩ := h i p hp
  have h0 : w.cell? ⟨b, off + i * 8, none⟩ = some (.int .i64 p.a) := hc 0 (by omega)
  have hb' := t.block b (World.block_lt_of_cell? w _ h0) (hS _ (by rintro rfl; simp at hp) ha)
  exact ⟨b, off, ha, fun j hj => (World.cell?_of_block hb').trans (hc j hj)⟩

theorem RsAt.new {w w' : World} {a : Option Addr} {rs : List Ru} (h : RsAt w a rs) (t : New w w') : RsAt w' a rs := h.turn t (fun _ _ _ f => f)

def cellsR (rs : List Ru) : List Value := rs.flatMap Ru.cs
theorem cellsR_cons (r : Ru) (rs : List Ru) : cellsR (r :: rs) = .int .i64 r.a :: .int .i64 r.l :: .int .i64 r.ls :: .int .i64 r.ms :: .int .i64 r.s :: .bool r.d :: .int .i64 r.lc :: .int .i64 r.pp :: cellsR rs := rfl
theorem cellsR_app (r : Ru) (rs : List Ru) : cellsR (r :: rs) = r.cs ++ cellsR rs := rfl
theorem cellsR_len : ∀ rs : List Ru, (cellsR rs).length = rs.length * 8
  | [] => rfl
  | r :: rs => by rw [cellsR_app, List.length_append, cellsR_len rs, List.length_cons]; simp [Ru.cs]; omega
theorem cellsR_get : ∀ (rs : List Ru) (i : Nat) (r : Ru), rs[i]? = some r → ∀ j, j < 8 → (cellsR rs)[i * 8 + j]? = r.cs[j]?
  | [], i, p, h => by simp at h
  | q :: rs, 0, p, h => by
    intro j hj
    simp at h
    subst h
    rw [cellsR_app, Nat.zero_mul, Nat.zero_add, List.getElem?_append_left (by simpa [Ru.cs] using hj)]
  | q :: rs, i + 1, p, h => by
    intro j hj
    have h' : rs[i]? = some p := by simpa using h
    rw [cellsR_app, List.getElem?_append_right (by simp [Ru.cs]; omega), show (i + 1) * 8 + j - q.cs.length = i * 8 + j by simp [Ru.cs]; omega]
    exact cellsR_get rs i p h' j hj
theorem cellsR_set : ∀ (rs : List Ru) (i : Nat) (r : Ru), ((((((((cellsR rs).set (i * 8) (.int .i64 r.a)).set (i * 8 + 1) (.int .i64 r.l)).set (i * 8 + 2) (.int .i64 r.ls)).set (i * 8 + 3) (.int .i64 r.ms)).set (i * 8 + 4) (.int .i64 r.s)).set (i * 8 + 5) (.bool r.d)).set (i * 8 + 6) (.int .i64 r.lc)).set (i * 8 + 7) (.int .i64 r.pp) = cellsR (rs.set i r)
  | [], i, p => by simp [cellsR]
  | q :: rs, 0, p => by simp [cellsR_cons]
  | q :: rs, i + 1, p => by
    have ih := cellsR_set rs i p
    rw [show (i + 1) * 8 = i * 8 + 8 by omega, cellsR_cons, show (q :: rs).set (i + 1) p = q :: rs.set i p from rfl, cellsR_cons, ← ih]
    simp only [Nat.add_assoc, Nat.reduceAdd, List.set_cons_succ]

/-- The block g is a row of rules that a call has made. -/
def OwR (w : World) (g n c : Nat) (rs : List Ru) : Prop := w.ownsRow 0 159 8 (.slice (some ⟨g, 0, none⟩) n c) n (cellsR rs)

theorem OwR.len {w : World} {g n c : Nat} {rs : List Ru} (h : OwR w g n c rs) : rs.length = n := by
  have := h.1
  rw [cellsR_len] at this
  omega
theorem OwR.lt {w : World} {g n c : Nat} {rs : List Ru} (h : OwR w g n c rs) : g < w.heap.size := (World.ownsRow.lt h g rfl).2
theorem OwR.turn {w w' : World} {g n c : Nat} {rs : List Ru} {S : Nat → Prop} (h : OwR w g n c rs) (t : Turn S w w') (hS : ¬ S g) : OwR w' g n c rs := by
  have hg := h.lt
  refine ⟨h.1, ?_⟩
  rcases h.2 with ⟨h', _⟩ | ⟨g', cap', cur, h', r⟩
  · simp at h'
  · simp only [Value.slice.injEq, Option.some.injEq, Addr.mk.injEq, and_true, true_and] at h'
    obtain ⟨rfl, rfl⟩ := h'
    exact .inr ⟨g, c, cur, rfl, r.1, (t.block g hg hS).trans r.2.1, r.2.2⟩
theorem OwR.new {w w' : World} {g n c : Nat} {rs : List Ru} (h : OwR w g n c rs) (t : New w w') : OwR w' g n c rs := h.turn t (fun f => f)
theorem OwR.rs {w : World} {g n c : Nat} {rs : List Ru} (h : OwR w g n c rs) : RsAt w (some ⟨g, 0, none⟩) rs := by
  intro i p hp
  have hl := h.len
  have hi : i < rs.length := (List.getElem?_eq_some_iff.1 hp).1
  refine ⟨g, 0, rfl, fun j hj => ?_⟩
  rw [Nat.zero_add, World.ownsRow.cellAt h (i * 8 + j) (by omega)]
  exact cellsR_get rs i p hp j hj
theorem OwR.put {w : World} {g n c : Nat} {rs : List Ru} (h : OwR w g n c rs) (i : Nat) (a l ls ms s : Int) (d : Bool) (lc pp : Int) : OwR ((((((((w.setCell ⟨g, i * 8, none⟩ (.int .i64 a)).setCell ⟨g, i * 8 + 1, none⟩ (.int .i64 l)).setCell ⟨g, i * 8 + 2, none⟩ (.int .i64 ls)).setCell ⟨g, i * 8 + 3, none⟩ (.int .i64 ms)).setCell ⟨g, i * 8 + 4, none⟩ (.int .i64 s)).setCell ⟨g, i * 8 + 5, none⟩ (.bool d)).setCell ⟨g, i * 8 + 6, none⟩ (.int .i64 lc)).setCell ⟨g, i * 8 + 7, none⟩ (.int .i64 pp)) g n c (rs.set i ⟨a, l, ls, ms, s, d, lc, pp⟩) := by
  have h1 := (World.ownsRow.stored h (i * 8) (.int .i64 a)).1
  have h2 := (World.ownsRow.stored h1 (i * 8 + 1) (.int .i64 l)).1
  have h3 := (World.ownsRow.stored h2 (i * 8 + 2) (.int .i64 ls)).1
  have h4 := (World.ownsRow.stored h3 (i * 8 + 3) (.int .i64 ms)).1
  have h5 := (World.ownsRow.stored h4 (i * 8 + 4) (.int .i64 s)).1
  have h6 := (World.ownsRow.stored h5 (i * 8 + 5) (.bool d)).1
  have h7 := (World.ownsRow.stored h6 (i * 8 + 6) (.int .i64 lc)).1
  have h8 := (World.ownsRow.stored h7 (i * 8 + 7) (.int .i64 pp)).1
  unfold OwR
  rw [← cellsR_set rs i ⟨a, l, ls, ms, s, d, lc, pp⟩]
  exact h8
theorem OwR.cell {w : World} {g n c : Nat} {rs : List Ru} (h : OwR w g n c rs) (j : Nat) (hj : j < n * 8) : ∃ v, w.cell? ⟨g, j, none⟩ = some v := by
  have hl := cellsR_len rs
  have := h.len
  exact ⟨_, (World.ownsRow.cellAt h j hj).trans (List.getElem?_eq_getElem (by omega))⟩

/-- The rule of zeros. -/
def ru0 : Ru := ⟨0, 0, 0, 0, 0, false, 0, 0⟩
theorem made_ru (n : Nat) : (madeCells #[.int .i64 0, .int .i64 0, .int .i64 0, .int .i64 0, .int .i64 0, .bool false, .int .i64 0, .int .i64 0] (n * 8)).toList = cellsR (List.replicate n ru0) := by
  apply List.ext_getElem?
  intro k
  by_cases hk : k < n * 8
  · have h1 : (cellsR (List.replicate n ru0))[k / 8 * 8 + k % 8]? = ru0.cs[k % 8]? := cellsR_get _ (k / 8) ru0 (by rw [List.getElem?_replicate]; simp; omega) (k % 8) (by omega)
    rw [show k / 8 * 8 + k % 8 = k by omega] at h1
    rw [h1]
    simp only [madeCells, Array.toList_map, Array.toList_range, List.getElem?_map, List.getElem?_range hk, Option.map_some]
    have h8 : k % 8 = 0 ∨ k % 8 = 1 ∨ k % 8 = 2 ∨ k % 8 = 3 ∨ k % 8 = 4 ∨ k % 8 = 5 ∨ k % 8 = 6 ∨ k % 8 = 7 := by omega
    rcases h8 with e | e | e | e | e | e | e | e <;> simp [e, Ru.cs, ru0]
  · rw [List.getElem?_eq_none (by simp [madeCells]; omega), List.getElem?_eq_none (by rw [cellsR_len]; simp; omega)]

theorem set_fillR (rs : List Ru) (k n : Nat) (hn : rs.length = n) (p : Ru) (hp : rs[k]? = some p) :
    (rs.take k ++ List.replicate (n - k) ru0).set k p = rs.take (k + 1) ++ List.replicate (n - (k + 1)) ru0 := by
  obtain ⟨hk, rfl⟩ := List.getElem?_eq_some_iff.1 hp
  have hl : (rs.take k).length = k := by simp; omega
  rw [List.set_append_right _ _ (by omega), hl, Nat.sub_self, show n - k = (n - (k + 1)) + 1 by omega, List.replicate_succ, List.set_cons_zero, List.take_succ_eq_append_getElem hk, List.append_assoc]
  rfl

theorem szRs_ok (a : Option Addr) (n c l : Nat) (w : World) (hl : l ≤ 1048576) (h : n ≤ l) : Calls Tryz.prog 55 #[.slice a n c, .int .i64 l] w fun e w' => e = .returned (.int .i64 ((l : Int) - n)) ∧ w' = w := by
  go_enter Tryz.func55, Tryz.ntmps55
  go_wp2
  go_ret
  exact ⟨rfl, rfl⟩

theorem szRs_big (a : Option Addr) (n c l : Nat) (w : World) (hl : l ≤ 1048576) (hn : n ≤ maxLen) (h : l < n) : Calls Tryz.prog 55 #[.slice a n c, .int .i64 l] w fun e w' => e = .returned (.int .i64 (-1)) ∧ w' = w := by
  unfold maxLen at hn
  go_enter Tryz.func55, Tryz.ntmps55
  go_wp2
  go_ret
  exact ⟨rfl, rfl⟩

theorem Tryz.infoRu : (Tryz.prog.info? 159).map (fun i => (i.zero, i.size, i.bytes)) = some (some (.agg #[.int .i64 0, .int .i64 0, .int .i64 0, .int .i64 0, .int .i64 0, .bool false, .int .i64 0, .int .i64 0]), 8, 64) := by kernel_rfl

end Go.Proofs.YtdbnmkffinhdjaaGreat
