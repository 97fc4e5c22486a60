/- What is proved here: a prefix is read back from its text, and a text that is read is the text of what is read; plain words of lists of bytes, no run of the program. -/
import Derived.Test.YthjoogfbhaceoaaDoorPpLib
import Derived.Test.YthjoogfbhaceoaaDoorTxFn
namespace Go.Proofs.YthjoogfbhaceoaaDoor
open Go.RowKit Go.Sort

theorem dB_ok {n : Nat} (h : n < 10) : okD (dB n) = true := by
  have := dB_nat h
  simp [okD, this]
  omega
theorem dB_zero {n : Nat} (h : n < 10) (h0 : n ≠ 0) : dB n ≠ 48 := by
  intro e
  have h1 := dB_nat h
  rw [e] at h1
  have : (48 : UInt8).toNat = 48 := rfl
  omega
theorem dd_two {n : Nat} (h : ¬ n < 10) (h2 : n < 100) : Lib.decDigits n = [dB (n / 10), dB (n % 10)] := by rw [dd_big h, dd_small (by omega)]; rfl
theorem dd_three {n : Nat} (h : ¬ n < 100) (h2 : n < 1000) : Lib.decDigits n = [dB (n / 100), dB (n / 10 % 10), dB (n % 10)] := by
  rw [dd_big (by omega), dd_two (by omega) (by omega), show n / 10 / 10 = n / 100 by omega]; rfl

theorem num_dd {n : Nat} (h : n < 1000) : numD (Lib.decDigits n) = some (n : Int) := by
  by_cases h1 : n < 10
  · rw [dd_small h1]
    unfold numD
    rw [if_neg]
    · simp [dgs, dB_nat h1]; omega
    · simp [dB_ok h1]
  · by_cases h2 : n < 100
    · rw [dd_two h1 h2]
      have a1 := dB_nat (show n / 10 < 10 by omega)
      have a2 := dB_nat (show n % 10 < 10 by omega)
      have k1 := dB_ok (show n / 10 < 10 by omega)
      have k2 := dB_ok (show n % 10 < 10 by omega)
      have z1 := dB_zero (show n / 10 < 10 by omega) (by omega)
      unfold numD
      rw [if_neg]
      · simp [dgs, a1, a2]; omega
      · simp [k1, k2, z1]
    · rw [dd_three h2 h]
      have a1 := dB_nat (show n / 100 < 10 by omega)
      have a2 := dB_nat (show n / 10 % 10 < 10 by omega)
      have a3 := dB_nat (show n % 10 < 10 by omega)
      have k1 := dB_ok (show n / 100 < 10 by omega)
      have k2 := dB_ok (show n / 10 % 10 < 10 by omega)
      have k3 := dB_ok (show n % 10 < 10 by omega)
      have z1 := dB_zero (show n / 100 < 10 by omega) (by omega)
      unfold numD
      rw [if_neg]
      · simp [dgs, a1, a2, a3]; omega
      · simp [k1, k2, k3, z1]

theorem okD_bd {b : UInt8} (h : okD b = true) : 48 ≤ b.toNat ∧ b.toNat ≤ 57 := by simpa [okD] using h
theorem dB_of {b : UInt8} {n : Nat} (h : okD b = true) (hn : n = b.toNat - 48) : dB n = b := by
  have hb := okD_bd h
  apply UInt8.toNat_inj.1
  rw [dB_nat (by omega)]
  omega

theorem dd_num {l : List UInt8} {v : Int} (h : numD l = some v) : Lib.decDigits v.toNat = l := by
  unfold numD at h
  split at h
  · cases h
  · rename_i hc
    simp only [not_or, not_and, Bool.not_eq_false] at hc
    obtain ⟨c0, c1, c2, c3⟩ := hc
    obtain rfl := Option.some.inj h
    match l, c0, c1, c2, c3 with
    | [], c0, _, _, _ => exact absurd rfl c0
    | a :: b :: c :: d :: r, _, c1, _, _ => exact absurd (by simp) c1
    | [a], _, _, _, c3 =>
      have k1 : okD a = true := by simpa using c3
      have b1 := okD_bd k1
      have e : (dgs [a]).toNat = a.toNat - 48 := by simp [dgs]; omega
      rw [e, dd_small (by omega), dB_of k1 rfl]
    | [a, b], _, _, c2, c3 =>
      obtain ⟨k1, k2⟩ : okD a = true ∧ okD b = true := by simpa using c3
      have b1 := okD_bd k1
      have b2 := okD_bd k2
      have hz : a.toNat ≠ 48 := fun e => c2 (by simp) (by simp; exact UInt8.toNat_inj.1 e)
      have e : (dgs [a, b]).toNat = (a.toNat - 48) * 10 + (b.toNat - 48) := by simp [dgs]; omega
      rw [e, dd_two (by omega) (by omega), dB_of k1 (by omega), dB_of k2 (by omega)]
    | [a, b, c], _, _, c2, c3 =>
      obtain ⟨k1, k2, k3⟩ : okD a = true ∧ okD b = true ∧ okD c = true := by simpa using c3
      have b1 := okD_bd k1
      have b2 := okD_bd k2
      have b3 := okD_bd k3
      have hz : a.toNat ≠ 48 := fun e => c2 (by simp) (by simp; exact UInt8.toNat_inj.1 e)
      have e : (dgs [a, b, c]).toNat = (a.toNat - 48) * 100 + (b.toNat - 48) * 10 + (c.toNat - 48) := by simp [dgs]; omega
      rw [e, dd_three (by omega) (by omega), dB_of k1 (by omega), dB_of k2 (by omega), dB_of k3 (by omega)]

theorem bef_app {c : UInt8} : ∀ {a : List UInt8} (r : List UInt8), c ∉ a → bef c (a ++ c :: r) = a ∧ aft c (a ++ c :: r) = r
  | [], r, _ => by simp [bef, aft]
  | b :: a, r, h => by
    simp only [List.mem_cons, not_or] at h
    obtain ⟨h1, h2⟩ := bef_app (a := a) r h.2
    have hb : ¬ b = c := fun e => h.1 e.symm
    rw [List.cons_append]
    exact ⟨by simp only [bef, if_neg hb, h1], by simp only [aft, if_neg hb, h2]⟩

theorem dd_no {n : Nat} (h : n < 1000) {c : UInt8} (hc : okD c = false) : c ∉ Lib.decDigits n := by
  intro hm
  have := numD_has hm hc
  rw [num_dd h] at this
  cases this

/-- The text of a prefix as a list. -/
def txL (h o l : Nat) : List UInt8 := (Lib.decDigits h ++ 46 :: Lib.decDigits o) ++ 47 :: Lib.decDigits l
theorem txt_list (h o l : Nat) : txt h o l = ⟨(txL h o l).toArray⟩ := by
  unfold txt txL
  rw [show (⟨#[46]⟩ : ByteArray) = ⟨[46].toArray⟩ from rfl, show (⟨#[47]⟩ : ByteArray) = ⟨[47].toArray⟩ from rfl, app_bytes, app_bytes, app_bytes, app_bytes]
  simp
theorem txL_len {h o l : Nat} (hh : h < 1000) (ho : o < 1000) (hl : l < 1000) : (txL h o l).length ≤ 11 := by
  have h1 := dd_len hh
  have h2 := dd_len ho
  have h3 := dd_len hl
  simp [txL]
  omega

theorem parse_txt {h o l : Nat} (hh : h < 256) (ho : o < 256) (hl : l < 1000) (hp : pf ((h * 256 + o : Nat) : Int) (l : Int) = 0) : parse (txL h o l) = (0, ((h * 256 + o : Nat) : Int), (l : Int)) := by
  have n1 : (47 : UInt8) ∉ Lib.decDigits h ++ 46 :: Lib.decDigits o := by
    simp only [List.mem_append, List.mem_cons, not_or]
    exact ⟨dd_no (by omega) (by decide), by decide, dd_no (by omega) (by decide)⟩
  obtain ⟨b1, a1⟩ := bef_app (Lib.decDigits l) n1
  obtain ⟨b2, a2⟩ := bef_app (Lib.decDigits o) (dd_no (c := 46) (show h < 1000 by omega) (by decide))
  have := parse_yes (l := txL h o l) (h := h) (o := o) (n := l) (by unfold txL; rw [b1, b2]; exact num_dd (by omega)) (by unfold txL; rw [b1, a2]; exact num_dd (by omega)) (by unfold txL; rw [a1]; exact num_dd hl)
  rw [this]
  unfold pfx
  rw [if_neg (by omega), show (h : Int) * 256 + (o : Int) = ((h * 256 + o : Nat) : Int) by omega, if_pos hp]

theorem txt_parse {x : List UInt8} (h0 : (parse x).1 = 0) : ∃ h o l : Nat, h < 256 ∧ o < 256 ∧ l ≤ 16 ∧ pf ((h * 256 + o : Nat) : Int) (l : Int) = 0 ∧ parse x = (0, ((h * 256 + o : Nat) : Int), (l : Int)) ∧ x = txL h o l := by
  cases h1 : numD (bef 46 (bef 47 x)) with
  | none => rw [parse_no3 h1] at h0; cases h0
  | some h =>
    cases h2 : numD (aft 46 (bef 47 x)) with
    | none => rw [parse_no2 h2] at h0; cases h0
    | some o =>
      cases h3 : numD (aft 47 x) with
      | none => rw [parse_no1 h3] at h0; cases h0
      | some n =>
        have hp := parse_yes h1 h2 h3
        have d1 := numD_bd h1
        have d2 := numD_bd h2
        have d3 := numD_bd h3
        rw [hp] at h0
        unfold pfx at h0
        split at h0
        · cases h0
        · rename_i hb
          split at h0
          · rename_i hz
            have hl := pf_ok hz
            obtain ⟨h, rfl⟩ := Int.eq_ofNat_of_zero_le d1.1
            obtain ⟨o, rfl⟩ := Int.eq_ofNat_of_zero_le d2.1
            obtain ⟨n, rfl⟩ := Int.eq_ofNat_of_zero_le d3.1
            have e1 := dd_num h1
            have e2 := dd_num h2
            have e3 := dd_num h3
            simp only [Int.toNat_natCast] at e1 e2 e3
            have m1 : (47 : UInt8) ∈ x := by
              apply Classical.byContradiction
              intro hn
              rw [aft_not hn] at h3
              cases h3
            have m2 : (46 : UInt8) ∈ bef 47 x := by
              apply Classical.byContradiction
              intro hn
              rw [aft_not hn] at h2
              cases h2
            have hcast : (h : Int) * 256 + (o : Int) = ((h * 256 + o : Nat) : Int) := by omega
            rw [hcast] at hz
            refine ⟨h, o, n, by omega, by omega, by omega, hz, ?_, ?_⟩
            · rw [hp]
              unfold pfx
              rw [if_neg hb, hcast, if_pos hz]
            · unfold txL
              rw [e1, e2, e3, ← cut_eq m2]
              exact cut_eq m1
          · rename_i hz
            exact absurd h0 hz

end Go.Proofs.YthjoogfbhaceoaaDoor
