/- What is proved here: what the two readings of a number in a text answer, for every text. No condition. -/
import Derived.Test.YthjoogfbhaceoaaDoorPsFn
import Derived.Lib.Strings
namespace Go.Proofs.YthjoogfbhaceoaaDoor
open Go.RowKit Go.Sort

def okD (b : UInt8) : Bool := decide (48 ≤ b.toNat) && decide (b.toNat ≤ 57)
def dgs (l : List UInt8) : Int := l.foldl (fun n b => n * 10 + ((b.toNat : Int) - 48)) 0
theorem dgs_snoc (l : List UInt8) (b : UInt8) : dgs (l ++ [b]) = dgs l * 10 + ((b.toNat : Int) - 48) := by simp [dgs]
/-- A number of at most three digits, no 0 ahead. -/
def numD (l : List UInt8) : Option Int :=
  if l.length = 0 ∨ 3 < l.length ∨ (1 < l.length ∧ l[0]? = some 48) ∨ l.all okD = false then none else some (dgs l)
theorem dgs_bd : ∀ (l : List UInt8), l.all okD = true → l.length ≤ 3 → 0 ≤ dgs l ∧ dgs l ≤ 999
  | [], _, _ => by simp [dgs]
  | [a], h, _ => by simp [okD, dgs] at *; omega
  | [a, b], h, _ => by simp [okD, dgs] at *; omega
  | [a, b, c], h, _ => by simp [okD, dgs] at *; omega
  | a :: b :: c :: d :: r, _, h => by simp at h
theorem numD_bd {l : List UInt8} {v : Int} (h : numD l = some v) : 0 ≤ v ∧ v ≤ 999 := by
  unfold numD at h
  split at h
  · cases h
  · rename_i hc
    obtain rfl := Option.some.inj h
    refine dgs_bd l ?_ (by omega)
    cases ha : l.all okD with
    | true => rfl
    | false => exact absurd (.inr (.inr (.inr ha))) hc

theorem byte_at {s : ByteArray} {k : Nat} {b : UInt8} (h : s.data.toList[k]? = some b) : ∀ hk : k < s.size, s[k]'hk = b := by
  intro hk
  have := (List.getElem?_eq_some_iff.1 h).2
  rw [← this]
  simp [ByteArray.getElem_eq_getElem_data]

theorem byte_some (s : ByteArray) (k : Nat) (hk : k < s.size) : ∃ b, s.data.toList[k]? = some b := by
  have hk' : k < s.data.toList.length := by rw [← Lib.size_eq]; exact hk
  exact ⟨_, List.getElem?_eq_getElem hk'⟩

theorem all_take {l : List UInt8} {k : Nat} {b : UInt8} (hb : l[k]? = some b) (h : (l.take k).all okD = true) (hk : okD b = true) : (l.take (k + 1)).all okD = true := by
  obtain ⟨hlt, rfl⟩ := List.getElem?_eq_some_iff.1 hb
  rw [List.take_succ_eq_append_getElem hlt]
  simp only [List.all_append, h, List.all_cons, hk, List.all_nil, Bool.and_self]
theorem dgs_take {l : List UInt8} {k : Nat} {b : UInt8} (hb : l[k]? = some b) : dgs (l.take (k + 1)) = dgs (l.take k) * 10 + ((b.toNat : Int) - 48) := by
  obtain ⟨hlt, rfl⟩ := List.getElem?_eq_some_iff.1 hb
  rw [List.take_succ_eq_append_getElem hlt, dgs_snoc]
theorem all_false {l : List UInt8} {k : Nat} {b : UInt8} (hb : l[k]? = some b) (hk : okD b = false) : l.all okD = false := by
  rw [List.all_eq_false]
  exact ⟨b, List.mem_of_getElem? hb, by simp [hk]⟩

theorem ret_pair {a b : Int} {x y : Bool} (h : a = b) (h' : x = y) : Ending.returned (.tuple #[.int .i64 a, .bool x]) = .returned (.tuple #[.int .i64 b, .bool y]) := by rw [h, h']

set_option maxHeartbeats 800000 in
theorem specNum3 (s : ByteArray) (w : World) (hm : s.size ≤ 1048576) : Calls Tryd.prog 24 #[.string s, .int .i64 3] w fun e w' => e = .returned (.tuple #[.int .i64 ((numD s.data.toList).getD 0), .bool (numD s.data.toList).isSome]) ∧ w' = w := by
  have HL : Hid (s.size = s.data.toList.length) := Lib.size_eq s
  by_cases h0 : s.size = 0
  · have hf : Hid (numD s.data.toList = none) := by unfold numD Hid; rw [if_pos (by rw [← HL.out]; omega)]
    go_enter Tryd.func24, Tryd.ntmps24
    go_wp2
    go_ret2
    exact ⟨ret_pair (by rw [hf.out]; rfl) (by rw [hf.out]; rfl), rfl⟩
  · have hse : ((s.size : Int) == 0) = false := by rw [beq_eq_false_iff_ne]; omega
    by_cases h3 : 3 < s.size
    · have hf : Hid (numD s.data.toList = none) := by unfold numD Hid; rw [if_pos (by rw [← HL.out]; omega)]
      have h1 : 1 ≤ s.size := by omega
      go_enter Tryd.func24, Tryd.ntmps24
      go_wp2
      go_ret2
      exact ⟨ret_pair (by rw [hf.out]; rfl) (by rw [hf.out]; rfl), rfl⟩
    · have h1 : 1 ≤ s.size := by omega
      have h3' : s.size ≤ 3 := by omega
      obtain ⟨b0, hb0⟩ := byte_some s 0 (by omega)
      by_cases hz : 1 < s.size ∧ b0.toNat = 48
      · obtain ⟨hz1, hz2⟩ := hz
        have hf : Hid (numD s.data.toList = none) := by
          have hb : b0 = 48 := UInt8.toNat_inj.1 hz2
          unfold numD Hid
          rw [if_pos (.inr (.inr (.inl ⟨by rw [← HL.out]; exact hz1, by rw [hb0, hb]⟩)))]
        have hat := byte_at hb0
        clear hb0
        go_enter Tryd.func24, Tryd.ntmps24
        go_wp2
        go_ret2
        exact ⟨ret_pair (by rw [hf.out]; rfl) (by rw [hf.out]; rfl), rfl⟩
      · have HZ : Hid (¬ (1 < s.size ∧ b0.toNat = 48)) := hz
        have hat := byte_at hb0
        have HB0 : Hid (s.data.toList[0]? = some b0) := hb0
        clear hb0 hz
        by_cases hs1 : 1 < s.size
        · have hne : (b0.toNat : Int) ≠ 48 := by intro h; exact HZ.out ⟨hs1, by omega⟩
          have hne' : ((b0.toNat : Int) == 48) = false := by simpa using hne
          go_enter Tryd.func24, Tryd.ntmps24
          go_wp2
          go_loopw [6, 7] (fun v i wr => ∃ k : Nat, k ≤ s.size ∧ i = .int .i64 k ∧ v = .int .i64 (dgs (s.data.toList.take k)) ∧ wr = w ∧ (s.data.toList.take k).all okD = true) (fun _ i _ => s.size - (intOf i).toNat)
          case atStart => exact ⟨0, Nat.zero_le _, rfl, rfl, rfl, rfl⟩
          case round =>
            obtain ⟨k, hk, rfl, rfl, rfl, hok⟩ := hrel
            have hbd := dgs_bd _ hok (by rw [List.length_take]; omega)
            by_cases hlt : k < s.size
            · obtain ⟨b, hb⟩ := byte_some s k hlt
              have hatk := byte_at hb
              have hstep : Hid (dgs (s.data.toList.take (k + 1)) = dgs (s.data.toList.take k) * 10 + ((b.toNat : Int) - 48)) := dgs_take hb
              by_cases hlo : (b.toNat : Int) < 48
              · have hf : Hid (numD s.data.toList = none) := by unfold numD Hid; rw [if_pos (.inr (.inr (.inr (all_false hb (by simp [okD]; omega)))))]
                clear hb hok hstep
                go_wp2
                go_ret2
                exact ⟨ret_pair (by rw [hf.out]; rfl) (by rw [hf.out]; rfl), rfl⟩
              · by_cases hhi : 57 < (b.toNat : Int)
                · have hf : Hid (numD s.data.toList = none) := by unfold numD Hid; rw [if_pos (.inr (.inr (.inr (all_false hb (by simp [okD]; omega)))))]
                  clear hb hok hstep
                  go_wp2
                  go_ret2
                  exact ⟨ret_pair (by rw [hf.out]; rfl) (by rw [hf.out]; rfl), rfl⟩
                · have hok' : Hid ((s.data.toList.take (k + 1)).all okD = true) := all_take hb hok (by simp [okD]; omega)
                  have hd0 : 48 ≤ (b.toNat : Int) := by omega
                  have hd1 : (b.toNat : Int) ≤ 57 := by omega
                  clear hb hok
                  generalize dgs (s.data.toList.take k) = v at *
                  go_wp2
                  go_roundw
                  case rel => exact ⟨k + 1, by omega, by go_num, by rw [hstep.out], by trivial, hok'.out⟩
                  case measure => simp [intOf]; omega
            · have hkn : k = s.data.toList.length := by rw [← HL.out]; omega
              have hf : Hid (numD s.data.toList = some (dgs (s.data.toList.take k))) := by
                have hall : s.data.toList.all okD = true := by rw [hkn, List.take_length] at hok; exact hok
                unfold numD Hid
                rw [if_neg, hkn, List.take_length]
                rintro (h | h | ⟨h, h'⟩ | h)
                · rw [← HL.out] at h; omega
                · rw [← HL.out] at h; omega
                · rw [← HL.out] at h; rw [HB0.out] at h'; exact HZ.out ⟨h, by rw [Option.some.inj h']; rfl⟩
                · rw [hall] at h; cases h
              clear hok hkn
              go_wp2
              go_ret2
              exact ⟨ret_pair (by rw [hf.out]; rfl) (by rw [hf.out]; rfl), rfl⟩
        · go_enter Tryd.func24, Tryd.ntmps24
          go_wp2
          go_loopw [6, 7] (fun v i wr => ∃ k : Nat, k ≤ s.size ∧ i = .int .i64 k ∧ v = .int .i64 (dgs (s.data.toList.take k)) ∧ wr = w ∧ (s.data.toList.take k).all okD = true) (fun _ i _ => s.size - (intOf i).toNat)
          case atStart => exact ⟨0, Nat.zero_le _, rfl, rfl, rfl, rfl⟩
          case round =>
            obtain ⟨k, hk, rfl, rfl, rfl, hok⟩ := hrel
            have hbd := dgs_bd _ hok (by rw [List.length_take]; omega)
            by_cases hlt : k < s.size
            · obtain ⟨b, hb⟩ := byte_some s k hlt
              have hatk := byte_at hb
              have hstep : Hid (dgs (s.data.toList.take (k + 1)) = dgs (s.data.toList.take k) * 10 + ((b.toNat : Int) - 48)) := dgs_take hb
              by_cases hlo : (b.toNat : Int) < 48
              · have hf : Hid (numD s.data.toList = none) := by unfold numD Hid; rw [if_pos (.inr (.inr (.inr (all_false hb (by simp [okD]; omega)))))]
                clear hb hok hstep
                go_wp2
                go_ret2
                exact ⟨ret_pair (by rw [hf.out]; rfl) (by rw [hf.out]; rfl), rfl⟩
              · by_cases hhi : 57 < (b.toNat : Int)
                · have hf : Hid (numD s.data.toList = none) := by unfold numD Hid; rw [if_pos (.inr (.inr (.inr (all_false hb (by simp [okD]; omega)))))]
                  clear hb hok hstep
                  go_wp2
                  go_ret2
                  exact ⟨ret_pair (by rw [hf.out]; rfl) (by rw [hf.out]; rfl), rfl⟩
                · have hok' : Hid ((s.data.toList.take (k + 1)).all okD = true) := all_take hb hok (by simp [okD]; omega)
                  have hd0 : 48 ≤ (b.toNat : Int) := by omega
                  have hd1 : (b.toNat : Int) ≤ 57 := by omega
                  clear hb hok
                  generalize dgs (s.data.toList.take k) = v at *
                  go_wp2
                  go_roundw
                  case rel => exact ⟨k + 1, by omega, by go_num, by rw [hstep.out], by trivial, hok'.out⟩
                  case measure => simp [intOf]; omega
            · have hkn : k = s.data.toList.length := by rw [← HL.out]; omega
              have hf : Hid (numD s.data.toList = some (dgs (s.data.toList.take k))) := by
                have hall : s.data.toList.all okD = true := by rw [hkn, List.take_length] at hok; exact hok
                unfold numD Hid
                rw [if_neg, hkn, List.take_length]
                rintro (h | h | ⟨h, h'⟩ | h)
                · rw [← HL.out] at h; omega
                · rw [← HL.out] at h; omega
                · rw [← HL.out] at h; rw [HB0.out] at h'; exact HZ.out ⟨h, by rw [Option.some.inj h']; rfl⟩
                · rw [hall] at h; cases h
              clear hok hkn
              go_wp2
              go_ret2
              exact ⟨ret_pair (by rw [hf.out]; rfl) (by rw [hf.out]; rfl), rfl⟩

theorem dgs_le : ∀ (l : List UInt8) (a : Int), 0 ≤ a → l.all okD = true → 0 ≤ l.foldl (fun n b => n * 10 + ((b.toNat : Int) - 48)) a ∧ l.foldl (fun n b => n * 10 + ((b.toNat : Int) - 48)) a < (a + 1) * 10 ^ l.length
  | [], a, h, _ => by simp; omega
  | b :: r, a, h, ha => by
    simp only [List.all_cons, Bool.and_eq_true, okD, decide_eq_true_eq] at ha
    have h1 := dgs_le r (a * 10 + ((b.toNat : Int) - 48)) (by omega) ha.2
    simp only [List.foldl_cons, List.length_cons]
    refine ⟨h1.1, Int.lt_of_lt_of_le h1.2 ?_⟩
    rw [Int.pow_succ, Int.mul_comm (10 ^ r.length) 10, ← Int.mul_assoc]
    refine Int.mul_le_mul_of_nonneg_right (by omega) ?_
    exact Int.le_of_lt (Int.pow_pos (by omega))
theorem dgs_bd5 {l : List UInt8} (h : l.all okD = true) (hl : l.length ≤ 5) : 0 ≤ dgs l ∧ dgs l ≤ 99999 := by
  have h1 := dgs_le l 0 (by omega) h
  refine ⟨h1.1, ?_⟩
  have h2 : ((0 : Int) + 1) * 10 ^ l.length ≤ 100000 := by
    rcases Nat.lt_or_ge l.length 1 with h | h
    · have : l.length = 0 := by omega
      rw [this]; decide
    · rcases (by omega : l.length = 1 ∨ l.length = 2 ∨ l.length = 3 ∨ l.length = 4 ∨ l.length = 5) with h | h | h | h | h <;> rw [h] <;> decide
  have h3 := h1.2
  unfold dgs
  omega
/-- A number of at most m digits. -/
def digM (m : Nat) (l : List UInt8) : Option Int := if l.length = 0 ∨ m < l.length ∨ l.all okD = false then none else some (dgs l)
theorem numD_dig {l : List UInt8} (h : ¬ (1 < l.length ∧ l[0]? = some 48)) : numD l = digM 3 l := by
  unfold numD digM
  by_cases h1 : l.length = 0 ∨ 3 < l.length ∨ l.all okD = false
  · rw [if_pos h1, if_pos]
    rcases h1 with h1 | h1 | h1
    · exact .inl h1
    · exact .inr (.inl h1)
    · exact .inr (.inr (.inr h1))
  · rw [if_neg h1, if_neg]
    rintro (h2 | h2 | h2 | h2)
    · exact h1 (.inl h2)
    · exact h1 (.inr (.inl h2))
    · exact h h2
    · exact h1 (.inr (.inr h2))
theorem digM_bd {m : Nat} {l : List UInt8} {v : Int} (hm : m ≤ 5) (h : digM m l = some v) : 0 ≤ v ∧ v ≤ 99999 := by
  unfold digM at h
  split at h
  · cases h
  · rename_i hc
    obtain rfl := Option.some.inj h
    refine dgs_bd5 ?_ (by omega)
    cases ha : l.all okD with
    | true => rfl
    | false => exact absurd (.inr (.inr ha)) hc

set_option maxHeartbeats 800000 in
theorem implDig (s : ByteArray) (m : Nat) (w : World) (hm : s.size ≤ 1048576) (hm5 : m ≤ 5) : Calls Tryd.prog 35 #[.string s, .int .i64 (m : Int)] w fun e w' => e = .returned (.tuple #[.int .i64 ((digM m s.data.toList).getD 0), .bool (digM m s.data.toList).isSome]) ∧ w' = w := by
  have HL : Hid (s.size = s.data.toList.length) := Lib.size_eq s
  by_cases h0 : s.size = 0
  · have hf : Hid (digM m s.data.toList = none) := by unfold digM Hid; rw [if_pos (by rw [← HL.out]; omega)]
    go_enter Tryd.func35, Tryd.ntmps35
    go_wp2
    go_ret2
    exact ⟨ret_pair (by rw [hf.out]; rfl) (by rw [hf.out]; rfl), rfl⟩
  · have hse : ((s.size : Int) == 0) = false := by rw [beq_eq_false_iff_ne]; omega
    by_cases h3 : m < s.size
    · have hf : Hid (digM m s.data.toList = none) := by unfold digM Hid; rw [if_pos (by rw [← HL.out]; omega)]
      have h1 : 1 ≤ s.size := by omega
      go_enter Tryd.func35, Tryd.ntmps35
      go_wp2
      go_ret2
      exact ⟨ret_pair (by rw [hf.out]; rfl) (by rw [hf.out]; rfl), rfl⟩
    · have h1 : 1 ≤ s.size := by omega
      have h3' : s.size ≤ m := by omega
      go_enter Tryd.func35, Tryd.ntmps35
      go_wp2
      go_loopw [6, 19] (fun v i wr => ∃ k : Nat, k ≤ s.size ∧ i = .int .i64 k ∧ v = .int .i64 (dgs (s.data.toList.take k)) ∧ wr = w ∧ (s.data.toList.take k).all okD = true) (fun _ i _ => s.size - (intOf i).toNat)
      case atStart => exact ⟨0, Nat.zero_le _, rfl, rfl, rfl, rfl⟩
      case round =>
        obtain ⟨k, hk, rfl, rfl, rfl, hok⟩ := hrel
        have hbd := dgs_bd5 hok (by rw [List.length_take]; omega)
        by_cases hlt : k < s.size
        · obtain ⟨b, hb⟩ := byte_some s k hlt
          have hatk := byte_at hb
          have hstep : Hid (dgs (s.data.toList.take (k + 1)) = dgs (s.data.toList.take k) * 10 + ((b.toNat : Int) - 48)) := dgs_take hb
          by_cases hlo : (b.toNat : Int) < 48
          · have hf : Hid (digM m s.data.toList = none) := by unfold digM Hid; rw [if_pos (.inr (.inr (all_false hb (by simp [okD]; omega))))]
            clear hb hok hstep
            go_wp2
            go_ret2
            exact ⟨ret_pair (by rw [hf.out]; rfl) (by rw [hf.out]; rfl), rfl⟩
          · by_cases hhi : 57 < (b.toNat : Int)
            · have hf : Hid (digM m s.data.toList = none) := by unfold digM Hid; rw [if_pos (.inr (.inr (all_false hb (by simp [okD]; omega))))]
              clear hb hok hstep
              go_wp2
              go_ret2
              exact ⟨ret_pair (by rw [hf.out]; rfl) (by rw [hf.out]; rfl), rfl⟩
            · have hok' : Hid ((s.data.toList.take (k + 1)).all okD = true) := all_take hb hok (by simp [okD]; omega)
              have hd0 : 48 ≤ (b.toNat : Int) := by omega
              have hd1 : (b.toNat : Int) ≤ 57 := by omega
              clear hb hok
              generalize dgs (s.data.toList.take k) = v at *
              go_wp2
              go_roundw
              case rel => exact ⟨k + 1, by omega, by go_num, by rw [hstep.out], by trivial, hok'.out⟩
              case measure => simp [intOf]; omega
        · have hkn : k = s.data.toList.length := by rw [← HL.out]; omega
          have hf : Hid (digM m s.data.toList = some (dgs (s.data.toList.take k))) := by
            have hall : s.data.toList.all okD = true := by rw [hkn, List.take_length] at hok; exact hok
            unfold digM Hid
            rw [if_neg, hkn, List.take_length]
            rintro (h | h | h)
            · rw [← HL.out] at h; omega
            · rw [← HL.out] at h; omega
            · rw [hall] at h; cases h
          clear hok hkn
          go_wp2
          go_ret2
          exact ⟨ret_pair (by rw [hf.out]; rfl) (by rw [hf.out]; rfl), rfl⟩

set_option maxHeartbeats 800000 in
theorem implNum3 (s : ByteArray) (w : World) (hm : s.size ≤ 1048576) : Calls Tryd.prog 21 #[.string s] w fun e w' => e = .returned (.tuple #[.int .i64 ((numD s.data.toList).getD 0), .bool (numD s.data.toList).isSome]) ∧ w' = w := by
  have HL : Hid (s.size = s.data.toList.length) := Lib.size_eq s
  by_cases hs1 : 1 < s.size
  · obtain ⟨b0, hb0⟩ := byte_some s 0 (by omega)
    by_cases hz2 : b0.toNat = 48
    · have hf : Hid (numD s.data.toList = none) := by
        have hb : b0 = 48 := UInt8.toNat_inj.1 hz2
        unfold numD Hid
        rw [if_pos (.inr (.inr (.inl ⟨by rw [← HL.out]; exact hs1, by rw [hb0, hb]⟩)))]
      have hat := byte_at hb0
      clear hb0
      go_enter Tryd.func21, Tryd.ntmps21
      go_wp2
      go_ret2
      exact ⟨ret_pair (by rw [hf.out]; rfl) (by rw [hf.out]; rfl), rfl⟩
    · have hf : Hid (numD s.data.toList = digM 3 s.data.toList) := numD_dig (by
        rintro ⟨_, h⟩
        rw [hb0] at h
        exact hz2 (by rw [Option.some.inj h]; rfl))
      have hat := byte_at hb0
      have hne : (b0.toNat : Int) ≠ 48 := by omega
      have hne' : ((b0.toNat : Int) == 48) = false := by simpa using hne
      clear hb0
      go_enter Tryd.func21, Tryd.ntmps21
      go_wp2_with fail
      refine (implDig s 3 _ hm (by omega)).mono ?_
      rintro e w1 ⟨rfl, rfl⟩
      go_wp2
      go_ret2
      exact ⟨ret_pair (by rw [hf.out]) (by rw [hf.out]), rfl⟩
  · have hf : Hid (numD s.data.toList = digM 3 s.data.toList) := numD_dig (by
      rintro ⟨h, _⟩
      rw [← HL.out] at h
      exact hs1 h)
    go_enter Tryd.func21, Tryd.ntmps21
    go_wp2_with fail
    refine (implDig s 3 _ hm (by omega)).mono ?_
    rintro e w1 ⟨rfl, rfl⟩
    go_wp2
    go_ret2
    exact ⟨ret_pair (by rw [hf.out]) (by rw [hf.out]), rfl⟩

end Go.Proofs.YthjoogfbhaceoaaDoor
