/- What is proved here: what the model's judging of a log answers, for every log of at most 1048576 entries and bytes. -/
import Derived.Test.YtlkhmnjghdbmoaaGreatDoorK12Lf
import Derived.Test.YtlkhmnjghdbmoaaGreatDoorK12Nx
namespace Go.Proofs.YtlkhmnjghdbmoaaGreatDoor
open Go.RowKit Go.Sort
set_option linter.unusedVariables false
set_option linter.unusedSimpArgs false

/-- A log of more than 100 entries. -/
def lg2 (n : Nat) (x : Int) : Int := if 100 < n then 2 else x

variable {o : Nat}

set_option maxHeartbeats 3200000 in
theorem specLF (B : Nat) (id : Int) (up : Bool) (ro ep su ma ot co : Int) (A : Option Addr) (n c : Nat) (V : List EkV) (w : World) (hb : NdC w B o #[.int .i64 id, .bool up, .int .i64 ro, .int .i64 ep, .slice A n c, .int .i64 su, .int .i64 ma, .int .i64 ot, .int .i64 co]) (h : LgAt w A V) (hn : V.length = n) (hm : n ≤ 2097152) :
    Calls Tryz.prog 97 #[.pointer (some ⟨B, o, none⟩)] w fun e w' => e = .returned (.int .i64 (lg2 n (lgF ep 0 (V.map EkV.r)))) ∧ New w w' := by
  have HN : Hid (V.length = n) := hn
  have cB := hb.cells
  clear hn
  by_cases hbig : 100 < n
  · have HR : Hid ((2 : Int) = lg2 n (lgF ep 0 (V.map EkV.r))) := by unfold Hid lg2; rw [if_pos hbig]
    go_enter Tryz.func97, Tryz.ntmps97
    go_wp2
    go_ret
    exact ⟨ret_i64 HR.out, New.refl _⟩
  have HL2 : lg2 n (lgF ep 0 (V.map EkV.r)) = lgF ep 0 (V.map EkV.r) := by unfold lg2; rw [if_neg hbig]
  rw [HL2]
  clear HL2
  go_enter Tryz.func97, Tryz.ntmps97
  go_wp2
  go_loopw [3] (fun i wr => ∃ (k : Nat) (p : Int), k ≤ n ∧ i = .int .i64 k ∧ New w wr ∧ Hid (k = 0 → p = 0) ∧ Hid (0 < k → ∃ u, V[k - 1]? = some u ∧ p = u.r.ep) ∧ Hid (lgF ep p ((V.map EkV.r).drop k) = lgF ep 0 (V.map EkV.r))) (fun i _ => n - (intOf i).toNat)
  case atStart => exact ⟨0, 0, Nat.zero_le _, rfl, New.refl _, fun _ => rfl, fun h => by omega, by unfold Hid; simp⟩
  case round =>
    obtain ⟨k, p, hk, rfl, hnw, hp0, hp1, hL⟩ := hrel
    have cB := (hb.new hnw).cells
    by_cases hlt : k < n
    · obtain ⟨g, e1, ki, pe, a, m, c1, xs, rfl, hv, hl, hx, hmx, x0, x1, x2, x3⟩ := (h.new hnw).at k (by have := HN.out; omega)
      have HD : Hid (lgF ep 0 (V.map EkV.r) = _) := hL.out.symm.trans (lgF_at hv hl)
      have HV : Hid (V[k]? = some ⟨⟨e1, ki, pe, xs⟩, a, c1⟩) := hv
      have hprev : Hid (0 < k → wr.cell? ⟨g, (k - 1) * 4, none⟩ = some (.int .i64 p)) := by
        intro h0
        obtain ⟨u, hu, rfl⟩ := hp1.out h0
        obtain ⟨⟨g', hg', hc'⟩, -, -⟩ := (h.new hnw) (k - 1) u hu
        cases hg'
        exact hc' 0 (by omega)
      clear hv hl h hL hp1
      go_wp2_with fail
      refine (specEN e1 ki pe a m c1 _ (by omega)).mono ?_
      rintro e w2 ⟨rfl, hn2⟩
      have lB := (hb.new hnw).lt
      have cN := ((hb.new hnw).new hn2).cells
      have hw2 := hnw.trans hn2
      have lg := World.block_lt_of_cell? wr _ x0
      have y0 : w2.cell? ⟨g, k * 4, none⟩ = some (.int .i64 e1) := (hn2.cells _ _ lg).trans x0
      have hprev2 : Hid (0 < k → w2.cell? ⟨g, (k - 1) * 4, none⟩ = some (.int .i64 p)) := fun h0 => (hn2.cells _ _ lg).trans (hprev.out h0)
      have HX : Hid (enF e1 ki pe m = 0 → 1 ≤ e1 ∧ e1 ≤ 1000) := enF_ep
      clear x0 x1 x2 x3 cB hprev
      generalize enF e1 ki pe m = f at *
      by_cases hf : f = 0
      · subst hf
        have hE := HX.out rfl
        by_cases h1 : ep < e1
        · have g1 : decide (ep < e1) = true := decide_eq_true h1
          have HR : Hid (lgF ep 0 (V.map EkV.r) = 1) := by unfold Hid; rw [HD.out]; simp [h1]
          go_wp2
          have Y0 := cell_regrown y0
          have CN := ndc_regrown ((hb.new hnw).new hn2)
          refine wp_region_quiet_below (by kernel_rfl) (by kernel_rfl) ?_
          repeat (go_big_quiet_step (fail))
          refine wpQuiet_nil ?_
          rintro w3 hn3
          replace hn3 := new_of_regrown hn3
          go_wp2
          go_ret
          exact ⟨ret_i64 HR.out.symm, hw2.trans hn3⟩
        · have g1 : decide (ep < e1) = false := decide_eq_false h1
          by_cases hk0 : k = 0
          · subst hk0
            obtain rfl := hp0.out rfl
            have y0 : w2.cell? ⟨g, 0, none⟩ = some (.int .i64 e1) := by simpa using y0
            have HR : Hid (lgF ep e1 ((V.map EkV.r).drop (0 + 1)) = lgF ep 0 (V.map EkV.r)) := by unfold Hid; rw [HD.out]; simp [h1]; intro; omega
            go_wp2
            have Y0 := cell_regrown y0
            have CN := ndc_regrown ((hb.new hnw).new hn2)
            refine wp_region_quiet_below (by kernel_rfl) (by kernel_rfl) ?_
            repeat (go_big_quiet_step (fail))
            refine wpQuiet_nil ?_
            rintro w3 hn3
            replace hn3 := new_of_regrown hn3
            go_wp2
            go_roundw
            case rel => exact ⟨0 + 1, e1, by omega, by go_num, hw2.trans hn3, fun h => by omega, fun _ => ⟨_, HV.out, rfl⟩, HR⟩
            case measure => simp [intOf]; omega
          · have hkp : 0 < k := by omega
            have hc2 := hprev2.out hkp
            obtain ⟨j, rfl⟩ : ∃ j, k = j + 1 := ⟨k - 1, by omega⟩
            simp only [Nat.add_sub_cancel] at hc2
            clear hkp
            have g2 : decide ((0 : Int) < (j : Int) + 1) = true := decide_eq_true (by omega)
            by_cases h2 : e1 < p
            · have HR : Hid (lgF ep 0 (V.map EkV.r) = 1) := by unfold Hid; rw [HD.out]; simp [h2]
              go_wp2
              have Y0 := cell_regrown y0
              have CN := ndc_regrown ((hb.new hnw).new hn2)
              have C2 := cell_regrown hc2
              refine wp_region_quiet_below (by kernel_rfl) (by kernel_rfl) ?_
              repeat (go_big_quiet_step (fail))
              refine wpQuiet_nil ?_
              rintro w3 hn3
              replace hn3 := new_of_regrown hn3
              go_wp2
              go_ret
              exact ⟨ret_i64 HR.out.symm, hw2.trans hn3⟩
            · have HR : Hid (lgF ep e1 ((V.map EkV.r).drop (j + 1 + 1)) = lgF ep 0 (V.map EkV.r)) := by unfold Hid; rw [HD.out]; simp [h1, h2]
              go_wp2
              have Y0 := cell_regrown y0
              have CN := ndc_regrown ((hb.new hnw).new hn2)
              have C2 := cell_regrown hc2
              refine wp_region_quiet_below (by kernel_rfl) (by kernel_rfl) ?_
              repeat (go_big_quiet_step (fail))
              refine wpQuiet_nil ?_
              rintro w3 hn3
              replace hn3 := new_of_regrown hn3
              go_wp2
              go_roundw
              case rel => exact ⟨j + 1 + 1, e1, by omega, by go_num, hw2.trans hn3, fun h => by omega, fun _ => ⟨_, HV.out, rfl⟩, HR⟩
              case measure => simp [intOf]; omega
      · have HR : Hid (lgF ep 0 (V.map EkV.r) = f) := by unfold Hid; rw [HD.out]; simp [hf]
        go_wp2
        go_ret
        exact ⟨ret_i64 HR.out.symm, hw2⟩
    · have HR : Hid (0 = lgF ep 0 (V.map EkV.r)) := by unfold Hid; rw [← hL.out, lgF_end ep p (by have := HN.out; omega)]
      go_wp2
      go_ret
      exact ⟨ret_i64 HR.out, hnw⟩

end Go.Proofs.YtlkhmnjghdbmoaaGreatDoor
