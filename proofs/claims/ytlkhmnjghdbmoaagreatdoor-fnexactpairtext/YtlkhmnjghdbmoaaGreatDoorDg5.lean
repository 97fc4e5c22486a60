/- What is proved here: what the writing of a number below 100000 in decimal answers, in the program's library and in the model, where the library's table of powers of ten lies as it is laid. -/
import Derived.Test.YtlkhmnjghdbmoaaGreatDoorDgLib
import Derived.Test.YtlkhmnjghdbmoaaGreatDoorShelf
namespace Go.Proofs.YtlkhmnjghdbmoaaGreatDoor
open Go.RowKit Go.Sort

theorem dd_len5 {n : Nat} (h : n < 100000) : (Lib.decDigits n).length ≤ 5 := by
  by_cases h1 : n < 10
  · rw [dd_small h1]; simp
  · by_cases h2 : n / 10 < 10
    · rw [dd_big h1, dd_small h2]; simp
    · by_cases h3 : n / 10 / 10 < 10
      · rw [dd_big h1, dd_big h2, dd_small h3]; simp
      · by_cases h4 : n / 10 / 10 / 10 < 10
        · rw [dd_big h1, dd_big h2, dd_big h3, dd_small h4]; simp
        · rw [dd_big h1, dd_big h2, dd_big h3, dd_big h4, dd_small (by omega)]; simp

set_option maxHeartbeats 800000 in
theorem digits_step5 (n : Nat) (w : World) (h : ¬ n < 10) (hm : n < 100000) (ih : ∀ w, Calls Tryz.prog 74 #[.int .i64 ((n / 10 : Nat) : Int)] w fun e w' => e = .returned (.string ⟨(Lib.decDigits (n / 10)).toArray⟩) ∧ New w w') :
    Calls Tryz.prog 74 #[.int .i64 (n : Int)] w fun e w' => e = .returned (.string ⟨(Lib.decDigits n).toArray⟩) ∧ New w w' := by
  have hf : Hid (Lib.decDigits n = Lib.decDigits (n / 10) ++ [dB (n % 10)]) := dd_big h
  have hz := dB_nat (show n % 10 < 10 by omega)
  have hcv := conv_one (dB (n % 10))
  rw [hz] at hcv
  have hq : (n : Int).tdiv 10 = ((n / 10 : Nat) : Int) := by rw [Int.tdiv_eq_ediv_of_nonneg (by omega)]; omega
  have hr : (n : Int).tmod 10 = ((n % 10 : Nat) : Int) := by rw [Int.tmod_eq_emod_of_nonneg (by omega)]; omega
  have hq2 : (n : Int) / 10 = ((n / 10 : Nat) : Int) := by omega
  have hr2 : (n : Int) % 10 = ((n % 10 : Nat) : Int) := by omega
  have hlen := dd_len5 (show n / 10 < 100000 by omega)
  generalize hD : Lib.decDigits (n / 10) = D at *
  generalize dB (n % 10) = B at *
  have hrb : n % 10 < 10 := by omega
  have hqb : n / 10 < 10000 := by omega
  generalize n % 10 = r at *
  generalize n / 10 = q at *
  have hcast : ((48 + r : Nat) : Int) = 48 + (r : Int) := by omega
  rw [hcast] at hcv
  have hwq : IntKind.i64.wrap (q : Int) = q := by simp [IntKind.wrap, IntKind.bits, IntKind.signed]; omega
  have hwr : IntKind.i64.wrap (r : Int) = r := by simp [IntKind.wrap, IntKind.bits, IntKind.signed]; omega
  have hwa : IntKind.i64.wrap (48 + (r : Int)) = 48 + (r : Int) := by simp [IntKind.wrap, IntKind.bits, IntKind.signed]; omega
  have hwu : IntKind.u8.wrap (48 + (r : Int)) = 48 + (r : Int) := by simp [IntKind.wrap, IntKind.bits, IntKind.signed]; omega
  clear hz hcast hD
  go_enter Tryz.func74, Tryz.ntmps74
  go_wp2_with fail
  go_region_with (go_at_call 74; refine (ih _).mono ?_; rintro e w2 ⟨rfl, hn2⟩; (have hN : New w w2 := (New.of_below (B := w.heap.size) (by go_grown) (Nat.le_refl _)).trans hn2); have hc2 := hn2.cells w.heap.size 0)
  all_goals
    go_wp2
    go_ret
    refine ⟨?_, by first | exact hN | exact hN.alloc _ | exact (hN.alloc _).drew⟩
    rw [hf.out, ← app_bytes]
    rfl

theorem digits5 (n : Nat) (w : World) (hm : n < 100000) : Calls Tryz.prog 74 #[.int .i64 (n : Int)] w fun e w' => e = .returned (.string ⟨(Lib.decDigits n).toArray⟩) ∧ New w w' := by
  by_cases h1 : n < 10
  · exact digits_small n w h1
  · refine digits_step5 n w h1 hm fun w1 => ?_
    by_cases h2 : n / 10 < 10
    · exact digits_small _ w1 h2
    · refine digits_step5 _ w1 h2 (by omega) fun w2 => ?_
      by_cases h3 : n / 10 / 10 < 10
      · exact digits_small _ w2 h3
      · refine digits_step5 _ w2 h3 (by omega) fun w3 => ?_
        by_cases h4 : n / 10 / 10 / 10 < 10
        · exact digits_small _ w3 h4
        · exact digits_step5 _ w3 h4 (by omega) fun w4 => digits_small _ w4 (by omega)

/-- The library's table of powers of ten lies in w. -/
def Tab (w : World) : Prop := Lib.TabIs Tryz.prog w "internal/strconv.uint64pow10" .u64 Lib.pow10Tab
theorem Tryz.gPow : Tryz.prog.globalNamed "internal/strconv.uint64pow10" = some 1 := by kernel_rfl
theorem Tab.new {w w' : World} (h : Tab w) (n : New w w') : Tab w' := Joins.tab_stays Tryz.gPow h n.below (Nat.le_refl _)

theorem fmt5 (n : Nat) (w : World) (hm : n < 100000) (ht : Tab w) : Calls Tryz.prog 89 #[.int .i64 (n : Int), .int .i64 10] w fun e w' => e = .returned (.string ⟨(Lib.decDigits n).toArray⟩) ∧ New w w' := by
  have hc : Calls Tryz.prog 89 #[.int .i64 (n : Int), .int .i64 10] w fun e w' => e = .returned (.string ⟨(Lib.itoa (n : Int)).toArray⟩) ∧ ∃ k os, w' = grow (w.drewN k) os :=
    Any.strconv_FormatInt_10 Tryz.laysM173 (n : Int) (by omega) (by omega) w ht
  refine hc.mono ?_
  rintro e w1 ⟨rfl, k, os, rfl⟩
  refine ⟨?_, new_of_regrown ⟨⟨w.drawn + k, os⟩, rfl⟩⟩
  have : Lib.itoa (n : Int) = Lib.decDigits n := by unfold Lib.itoa; rw [if_neg (by omega)]; simp
  rw [this]

/-- Joining texts. -/
theorem joinS (bk c : Nat) (xs : List ByteArray) (m : Nat) (sep : ByteArray) (w : World) (hm : xs.length = m) (hcells : ∀ (j : Nat) x, xs[j]? = some x → w.cell? ⟨bk, j, none⟩ = some (.string x)) (hbk : bk < w.heap.size) (hcap : m ≤ c) (hN : m ≤ 1000) (hlen : (Lib.join (xs.map (·.data.toList)) sep.data.toList).length ≤ 100000) :
    Calls Tryz.prog 25 #[.slice (some ⟨bk, 0, none⟩) m c, .string sep] w fun e w' => e = .returned (.string ⟨(Lib.join (xs.map (·.data.toList)) sep.data.toList).toArray⟩) ∧ New w w' := by
  subst hm
  have hc : Calls Tryz.prog 25 #[.slice (some ⟨bk, 0, none⟩) xs.length c, .string sep] w fun e w' => e = .returned (.string ⟨(Lib.join (xs.map (·.data.toList)) sep.data.toList).toArray⟩) ∧ Below w.heap.size w w' :=
    Any.strings_Join Tryz.lays156 Tryz.Builder_Extra_156 bk 0 c xs sep w (fun j x hx => by rw [Nat.zero_add]; exact hcells j x hx) hbk (by omega) hcap (by omega)
  refine hc.mono ?_
  rintro e w1 ⟨rfl, hb⟩
  exact ⟨rfl, New.of_below hb (Nat.le_refl _)⟩

end Go.Proofs.YtlkhmnjghdbmoaaGreatDoor
