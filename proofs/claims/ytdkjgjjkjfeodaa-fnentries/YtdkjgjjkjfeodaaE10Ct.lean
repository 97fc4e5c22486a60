/- What is proved here: what the model's cutting of bytes behind so many entries answers, for at most 1048576 bytes. -/
import Derived.Test.YtdkjgjjkjfeodaaE10Rd
import Derived.Test.YtdkjgjjkjfeodaaE10Cn
namespace Go.Proofs.Ytdkjgjjkjfeodaa
open Go.RowKit
set_option linter.unusedVariables false
set_option linter.unusedSimpArgs false
set_option maxRecDepth 100000

theorem come_from (zs : List Int) : ∀ (m t : Nat) (pre : List Nat), Come zs pre t → zs.length - t ≤ m → Come zs (pre ++ eAts zs t) (eUse zs t) ∧ ¬ 0 < eSz (zs.drop (eUse zs t))
  | 0, t, pre, h, hm => by
    have h1 := eSz_le (zs.drop t)
    simp only [List.length_drop] at h1
    have h0 : ¬ 0 < eSz (zs.drop t) := by omega
    rw [eAts_zero h0, eUse_zero h0, List.append_nil]
    exact ⟨h, h0⟩
  | m + 1, t, pre, h, hm => by
    by_cases h1 : 0 < eSz (zs.drop t)
    · rw [eAts_pos h1, eUse_pos h1]
      have := come_from zs m (t + eSz (zs.drop t)) (pre ++ [t]) (h.snoc h1) (by omega)
      simpa using this
    · rw [eAts_zero h1, eUse_zero h1, List.append_nil]
      exact ⟨h, h1⟩
theorem come_full (zs : List Int) : Come zs (eAts zs 0) (eUse zs 0) ∧ ¬ 0 < eSz (zs.drop (eUse zs 0)) := by
  have := come_from zs zs.length 0 [] Come.nil (by omega)
  simpa using this
theorem eTo_all {zs : List Int} {k : Nat} (h : (eAts zs 0).length ≤ k) : eTo zs k = eUse zs 0 := (come_full zs).1.stay (come_full zs).2 h

set_option maxHeartbeats 3200000 in
theorem specCut (b off n c kk : Nat) (zs : List Int) (w : World) (h : BsAt w (some ⟨b, off, none⟩) zs) (hn : zs.length = n) (hc : n ≤ c) (hm : n ≤ 1048576) (hkk : kk ≤ 1048576) :
    Calls Try.prog 51 #[.slice (some ⟨b, off, none⟩) n c, .int .i64 kk] w fun e w' => e = .returned (.slice (some ⟨b, off, none⟩) (eTo zs kk) c) ∧ New w w' := by
  go_enter Try.func51, Try.ntmps51
  go_wp2
  go_loopw [1, 5] (fun q p wr => ∃ j : Nat, j ≤ kk ∧ q = .int .i64 ((kk : Int) - (j : Int)) ∧ p = .int .i64 (eTo zs j : Int) ∧ New w wr) (fun q _ _ => (intOf q).toNat)
  case atStart => exact ⟨0, Nat.zero_le _, by simp, rfl, New.refl _⟩
  case round =>
    obtain ⟨j, hj, rfl, rfl, nr⟩ := hrel
    have ht := eTo_le zs j
    rw [hn] at ht
    by_cases hlt : j < kk
    · have hgo : 0 < (kk : Int) - (j : Int) := by omega
      have hzr := h.new nr
      have hcut := cutTs hzr hn hc ht
      have hdl : (zs.drop (eTo zs j)).length = n - eTo zs j := by simp [hn]
      have hle := eSz_le (zs.drop (eTo zs j))
      rw [hdl] at hle
      have HS : Hid (eTo zs (j + 1) = eTo zs j + eSz (zs.drop (eTo zs j))) := rfl
      generalize eTo zs j = t at *
      have ht0 : (0 : Int) ≤ (t : Int) := by omega
      have ht1 : (t : Int) ≤ (n : Int) := by omega
      have hw1 : -1048577 ≤ (kk : Int) - (j : Int) - 1 := by omega
      have hw2 : (kk : Int) - (j : Int) - 1 ≤ 1048577 := by omega
      by_cases hp : 0 < eSz (zs.drop t)
      · have h8 := eSz_ge hp
        rw [if_neg (by omega : ¬ c = t)] at hcut
        have hOne := specOne b (off + t) (n - t) (c - t) (zs.drop t) wr hcut hdl (by omega) (by omega)
        go_wp2_with fail
        refine hOne.mono ?_
        clear hOne
        rintro e w2 ⟨v2, rfl, hn2, -, hv⟩
        obtain ⟨g, cap, rfl, hg, ho⟩ := hv hp
        clear hv ho
        go_wp2
        go_roundw
        case rel => exact ⟨j + 1, by omega, by congr 1; push_cast; omega, by rw [HS.out]; push_cast; rfl, nr.trans (hn2.alloc _)⟩
        case measure => simp [intOf]; omega
      · have hE : eSz (zs.drop t) = 0 := by omega
        have hE' : ((eSz (zs.drop t) : Nat) : Int) = 0 := by omega
        by_cases hct : c = t
        · subst hct
          have hOne := specOne b off 0 0 (zs.drop c) wr (by rw [List.drop_eq_nil_of_le (by omega)]; exact BsAt.nil _ _) (by rw [hdl]; omega) (by omega) (by omega)
          go_wp2_with fail
          refine hOne.mono ?_
          clear hOne
          rintro e w2 ⟨v2, rfl, hn2, hv, -⟩
          obtain rfl := hv hE
          rw [hE']
          go_wp2
          go_roundw
          case rel => exact ⟨j + 1, by omega, by congr 1; push_cast; omega, by rw [HS.out, hE]; simp, nr.trans (hn2.alloc _)⟩
          case measure => simp [intOf]; omega
        · rw [if_neg hct] at hcut
          have hOne := specOne b (off + t) (n - t) (c - t) (zs.drop t) wr hcut hdl (by omega) (by omega)
          go_wp2_with fail
          refine hOne.mono ?_
          clear hOne
          rintro e w2 ⟨v2, rfl, hn2, hv, -⟩
          obtain rfl := hv hE
          rw [hE']
          go_wp2
          go_roundw
          case rel => exact ⟨j + 1, by omega, by congr 1; push_cast; omega, by rw [HS.out, hE]; simp, nr.trans (hn2.alloc _)⟩
          case measure => simp [intOf]; omega
    · obtain rfl : j = kk := by omega
      have hgo : ¬ 0 < (j : Int) - (j : Int) := by omega
      have ht1 : ((eTo zs j : Nat) : Int) ≤ (c : Int) := by omega
      have ht0 : (0 : Int) ≤ ((eTo zs j : Nat) : Int) := by omega
      go_wp2
      go_ret
      exact ⟨rfl, nr⟩

end Go.Proofs.Ytdkjgjjkjfeodaa
