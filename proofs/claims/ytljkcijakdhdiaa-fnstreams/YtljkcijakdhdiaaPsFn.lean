/- What is proved here: what the copying, the comparing and the judging of a list of prefixes answer, for every list of at most 1048576 prefixes. -/
import Derived.Test.YtljkcijakdhdiaaPsLib
namespace Go.Proofs.Ytljkcijakdhdiaa
open Go.RowKit Go.Sort

theorem eqPrefix_any (x y : Int) (w : World) : Calls Try.prog 96 #[.agg #[.int .i64 x, .int .i64 y], .agg #[.int .i64 x, .int .i64 y]] w fun e w' => e = .returned (.bool true) ∧ New w w' := by
  have hx : (x != x) = false := by simp
  have hy : (y != y) = false := by simp
  go_enter Try.func96, Try.ntmps96
  go_wp2
  go_ret
  exact ⟨rfl, ((New.refl _).alloc _).alloc _⟩

set_option maxHeartbeats 800000 in
theorem eqPs_any (a b : Option Addr) (n c d : Nat) (ps : List (Int × Int)) (w : World) (hF : PsAt w a ps) (hG : PsAt w b ps) (hn : ps.length = n) (hm : n ≤ 1048576) :
    Calls Try.prog 81 #[.slice a n c, .slice b n d] w fun e w' => e = .returned (.bool true) ∧ New w w' := by
  have hnn : ((n : Int) != (n : Int)) = false := by simp
  go_enter Try.func81, Try.ntmps81
  go_wp2
  go_loopw [5] (fun i wr => ∃ k : Nat, k ≤ n ∧ i = .int .i64 k ∧ New w wr) (fun i _ => n - (intOf i).toNat)
  case atStart => exact ⟨0, Nat.zero_le _, rfl, New.refl _⟩
  case round =>
    obtain ⟨k, hk, rfl, hnw⟩ := hrel
    by_cases hlt : k < n
    · obtain ⟨g1, o1, x, y, rfl, hp1, x0, x1⟩ := (hF.new hnw).at k (by omega)
      obtain ⟨g2, o2, x', y', rfl, hp2, y0, y1⟩ := (hG.new hnw).at k (by omega)
      obtain ⟨rfl, rfl⟩ : x = x' ∧ y = y' := by simpa using Option.some.inj (hp1.symm.trans hp2)
      clear hp1 hp2 hF hG
      have X0 := cell_regrown x0
      have X1 := cell_regrown x1
      have Y0 := cell_regrown y0
      have Y1 := cell_regrown y1
      go_wp2_with fail
      refine wp_region_quiet_below (by kernel_rfl) (by kernel_rfl) ?_
      repeat (go_big_quiet_step ((go_at_call 96; exact calls_regrown (eqPrefix_any x y _))))
      refine wpQuiet_nil ?_
      rintro w1 hn1
      replace hn1 := new_of_regrown hn1
      go_wp2
      go_roundw
      case rel => exact ⟨k + 1, by omega, by go_num, hnw.trans hn1⟩
      case measure => simp [intOf]; omega
    · go_wp2
      go_ret
      exact ⟨rfl, hnw⟩

/-- The first fault of a list. -/
def lfc : List (Int × Int) → Int
  | [] => 0
  | p :: r => if pf p.1 p.2 = 0 then lfc r else pf p.1 p.2
/-- The fault of a list. -/
def lf (ps : List (Int × Int)) : Int := if 200 < ps.length then 2 else lfc ps

theorem lfc_next {ps : List (Int × Int)} {k : Nat} {x y : Int} (h : ps[k]? = some (x, y)) : lfc (ps.drop k) = if pf x y = 0 then lfc (ps.drop (k + 1)) else pf x y := by
  obtain ⟨hk, e⟩ := List.getElem?_eq_some_iff.1 h
  rw [List.drop_eq_getElem_cons hk, e]
  rfl
theorem lfc_ok {ps : List (Int × Int)} (h : lfc ps = 0) : ∀ p ∈ ps, pf p.1 p.2 = 0 := by
  induction ps with
  | nil => simp
  | cons q r ih =>
    unfold lfc at h
    by_cases hq : pf q.1 q.2 = 0
    · rw [if_pos hq] at h
      intro p hp
      rcases List.mem_cons.1 hp with rfl | hp
      · exact hq
      · exact ih h p hp
    · rw [if_neg hq] at h
      exact absurd h hq
theorem lf_ok {ps : List (Int × Int)} (h : lf ps = 0) : ps.length ≤ 200 ∧ ∀ p ∈ ps, pf p.1 p.2 = 0 := by
  unfold lf at h
  split at h
  · omega
  · exact ⟨by omega, lfc_ok h⟩

set_option maxHeartbeats 800000 in
theorem l2List_any (a : Option Addr) (n c : Nat) (ps : List (Int × Int)) (w : World) (h : PsAt w a ps) (hn : ps.length = n) (hm : n ≤ 1048576) :
    Calls Try.prog 92 #[.slice a n c] w fun e w' => e = .returned (.int .i64 (lf ps)) ∧ New w w' := by
  by_cases hbig : 200 < n
  · have hf : Hid (lf ps = 2) := by unfold lf Hid; rw [if_pos (by omega)]
    go_enter Try.func92, Try.ntmps92
    go_wp2
    go_ret
    exact ⟨ret_i64 hf.out.symm, New.refl _⟩
  · have hf : Hid (lf ps = lfc (ps.drop 0)) := by unfold lf Hid; rw [if_neg (by omega)]; rfl
    have HN : Hid (ps.length = n) := hn
    clear hn
    go_enter Try.func92, Try.ntmps92
    go_wp2
    go_loopw [3] (fun i wr => ∃ k : Nat, k ≤ n ∧ i = .int .i64 k ∧ New w wr ∧ Hid (lf ps = lfc (ps.drop k))) (fun i _ => n - (intOf i).toNat)
    case atStart => exact ⟨0, Nat.zero_le _, rfl, New.refl _, hf⟩
    case round =>
      obtain ⟨k, hk, rfl, hnw, hl⟩ := hrel
      by_cases hlt : k < n
      · obtain ⟨g1, o1, x, y, rfl, hp1, x0, x1⟩ := (h.new hnw).at k (by rw [HN.out]; exact hlt)
        have hx := lfc_next hp1
        rcases pf_three x y with hp | hp | hp
        · have hl' : Hid (lf ps = lfc (ps.drop (k + 1))) := by unfold Hid; rw [hl.out, hx, if_pos hp]
          clear hx hp1
          go_wp2_with fail
          refine (specPF_is x y _ _ hp).mono ?_
          rintro e w1 ⟨rfl, hn1⟩
          go_wp2
          go_roundw
          case rel => exact ⟨k + 1, by omega, by go_num, hnw.trans hn1, hl'⟩
          case measure => simp [intOf]; omega
        all_goals
          have hl' : Hid (lf ps = pf x y) := by unfold Hid; rw [hl.out, hx, if_neg (by omega)]
          clear hx hp1
          go_wp2_with fail
          refine (specPF_is x y _ _ hp).mono ?_
          rintro e w1 ⟨rfl, hn1⟩
          go_wp2
          go_ret
          exact ⟨ret_i64 (by rw [hl'.out, hp]), hnw.trans hn1⟩
      · have hl' : Hid (lf ps = 0) := by
          unfold Hid
          rw [hl.out, List.drop_of_length_le (by rw [HN.out]; omega)]
          rfl
        go_wp2
        go_ret
        exact ⟨ret_i64 hl'.out.symm, hnw⟩

set_option maxHeartbeats 800000 in
theorem listFault_any (a : Option Addr) (n c : Nat) (ps : List (Int × Int)) (w : World) (h : PsAt w a ps) (hn : ps.length = n) (hm : n ≤ 1048576) :
    Calls Try.prog 103 #[.slice a n c] w fun e w' => e = .returned (.int .i64 (lf ps)) ∧ New w w' := by
  by_cases hbig : 200 < n
  · have hf : Hid (lf ps = 2) := by unfold lf Hid; rw [if_pos (by omega)]
    go_enter Try.func103, Try.ntmps103
    go_wp2
    go_ret
    exact ⟨ret_i64 hf.out.symm, New.refl _⟩
  · have hf : Hid (lf ps = lfc (ps.drop 0)) := by unfold lf Hid; rw [if_neg (by omega)]; rfl
    have HN : Hid (ps.length = n) := hn
    clear hn
    go_enter Try.func103, Try.ntmps103
    go_wp2
    go_loopw [11] (fun i wr => ∃ k : Nat, k ≤ n ∧ i = .int .i64 k ∧ New w wr ∧ Hid (lf ps = lfc (ps.drop k))) (fun i _ => n - (intOf i).toNat)
    case atStart => exact ⟨0, Nat.zero_le _, rfl, New.refl _, hf⟩
    case round =>
      obtain ⟨k, hk, rfl, hnw, hl⟩ := hrel
      by_cases hlt : k < n
      · obtain ⟨g1, o1, x, y, rfl, hp1, x0, x1⟩ := (h.new hnw).at k (by rw [HN.out]; exact hlt)
        have hx := lfc_next hp1
        rcases pf_three x y with hp | hp | hp
        · have hl' : Hid (lf ps = lfc (ps.drop (k + 1))) := by unfold Hid; rw [hl.out, hx, if_pos hp]
          clear hx hp1
          go_wp2_with fail
          refine (implPF_is x y _ _ hp).mono ?_
          rintro e w1 ⟨rfl, hn1⟩
          go_wp2
          go_roundw
          case rel => exact ⟨k + 1, by omega, by go_num, (hnw.alloc _).trans hn1, hl'⟩
          case measure => simp [intOf]; omega
        all_goals
          have hl' : Hid (lf ps = pf x y) := by unfold Hid; rw [hl.out, hx, if_neg (by omega)]
          clear hx hp1
          go_wp2_with fail
          refine (implPF_is x y _ _ hp).mono ?_
          rintro e w1 ⟨rfl, hn1⟩
          go_wp2
          go_ret
          exact ⟨ret_i64 (by rw [hl'.out, hp]), (hnw.alloc _).trans hn1⟩
      · have hl' : Hid (lf ps = 0) := by
          unfold Hid
          rw [hl.out, List.drop_of_length_le (by rw [HN.out]; omega)]
          rfl
        go_wp2
        go_ret
        exact ⟨ret_i64 hl'.out.symm, hnw⟩

end Go.Proofs.Ytljkcijakdhdiaa
