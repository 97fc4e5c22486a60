/- What is proved here: what the copying, the comparing and the judging of a list of prefixes answer, for every list of at most 1048576 prefixes. -/
import Derived.Test.YtljkcijakdhdiaaDoorPsLib
namespace Go.Proofs.YtljkcijakdhdiaaDoor
open Go.RowKit Go.Sort

set_option maxHeartbeats 800000 in
theorem toPs_any (a : Option Addr) (n c : Nat) (ps : List (Int × Int)) (w : World) (h : PsAt w a ps) (hn : ps.length = n) (hm : n ≤ 1048576) :
    Calls Tryd.prog 28 #[.slice a n c] w fun e w' => ∃ g, e = .returned (.slice (some ⟨g, 0, none⟩) n n) ∧ w.heap.size ≤ g ∧ OwP w' g n n ps ∧ New w w' := by
  obtain ⟨i0, hi, hz0, hz1, hz2⟩ := info_parts Tryd.infoPx
  go_enter Tryd.func28, Tryd.ntmps28
  go_wp2_with (at_make; refine wpList_make_full _ rfl _ _ 34 rfl w.heap.size 64 i0 (.agg #[.int .i64 0, .int .i64 0]) 2 Tryd.underlying34 hi hz0 hz1 _ _ _ _ n rfl rfl rfl rfl ?b2 ?b3 (Nat.le_refl _) ?_)
  case b2 => rw [hz2]; omega
  case b3 => unfold maxLen; omega
  intro w0 hown0 hgrow0
  have hown : OwP w0 w.heap.size n n (ps.take 0 ++ List.replicate (n - 0) (0, 0)) := by
    have := own_base hown0
    rw [made_two] at this
    simpa [OwP, cellsP_zero] using this
  have hnew := New.of_grown hgrow0
  clear hown0 hgrow0
  go_wp2
  go_loopw [4] (fun i wr => ∃ k : Nat, k ≤ n ∧ i = .int .i64 k ∧ New w wr ∧ OwP wr w.heap.size n n (ps.take k ++ List.replicate (n - k) (0, 0))) (fun i _ => n - (intOf i).toNat)
  case atStart => exact ⟨0, Nat.zero_le _, rfl, hnew, hown⟩
  case round =>
    obtain ⟨k, hk, rfl, hnw, how⟩ := hrel
    by_cases hlt : k < n
    · obtain ⟨b, off, x, y, rfl, hz, hc, hd⟩ := (h.new hnw).at k (by omega)
      go_wp2_with fail
      refine (toPrefix_any x y _).mono ?_
      rintro e w1 ⟨rfl, hn1⟩
      have how1 := how.new hn1
      have hput := how1.put k x y
      rw [set_fill ps k n hn (x, y) hz] at hput
      have hn2 : New w ((w1.setCell ⟨w.heap.size, k * 2, none⟩ (.int .i64 x)).setCell ⟨w.heap.size, k * 2 + 1, none⟩ (.int .i64 y)) := ((hnw.trans hn1).setCell (Nat.le_refl _) _).setCell (Nat.le_refl _) _
      have f0 := World.ownsRow.frozenAt how1 (k * 2)
      have f1 := World.ownsRow.frozenAt how1 (k * 2 + 1)
      obtain ⟨v0, c0⟩ := how1.cell (k * 2) (by omega)
      obtain ⟨v1, c1⟩ := how1.cell (k * 2 + 1) (by omega)
      clear hz h how how1
      go_wp2
      go_roundw
      case rel => exact ⟨k + 1, by omega, by go_num, hn2, hput⟩
      case measure => simp [intOf]; omega
    · go_wp2
      go_ret
      refine ⟨_, rfl, Nat.le_refl _, ?_, hnw⟩
      have hkn : k = n := by omega
      subst hkn
      rw [List.take_of_length_le (by omega)] at how
      simpa using how

theorem eqPrefix_any (x y : Int) (w : World) : Calls Tryd.prog 61 #[.agg #[.int .i64 x, .int .i64 y], .agg #[.int .i64 x, .int .i64 y]] w fun e w' => e = .returned (.bool true) ∧ New w w' := by
  have hx : (x != x) = false := by simp
  have hy : (y != y) = false := by simp
  go_enter Tryd.func61, Tryd.ntmps61
  go_wp2
  go_ret
  exact ⟨rfl, ((New.refl _).alloc _).alloc _⟩

set_option maxHeartbeats 800000 in
theorem eqPs_any (a b : Option Addr) (n c d : Nat) (ps : List (Int × Int)) (w : World) (hF : PsAt w a ps) (hG : PsAt w b ps) (hn : ps.length = n) (hm : n ≤ 1048576) :
    Calls Tryd.prog 38 #[.slice a n c, .slice b n d] w fun e w' => e = .returned (.bool true) ∧ New w w' := by
  have hnn : ((n : Int) != (n : Int)) = false := by simp
  go_enter Tryd.func38, Tryd.ntmps38
  go_wp2
  go_loopw [5] (fun i wr => ∃ k : Nat, k ≤ n ∧ i = .int .i64 k ∧ New w wr) (fun i _ => n - (intOf i).toNat)
  case atStart => exact ⟨0, Nat.zero_le _, rfl, New.refl _⟩
  case round =>
    obtain ⟨k, hk, rfl, hnw⟩ := hrel
    by_cases hlt : k < n
    · obtain ⟨g1, o1, x, y, rfl, hp1, x0, x1⟩ := (hF.new hnw).at k (by omega)
      obtain ⟨g2, o2, x', y', rfl, hp2, y0, y1⟩ := (hG.new hnw).at k (by omega)
      obtain ⟨rfl, rfl⟩ : x = x' ∧ y = y' := by simpa using Option.some.inj (hp1.symm.trans hp2)
      clear hp1 hp2 hF hG
      have X0 := cell_regrown x0
      have X1 := cell_regrown x1
      have Y0 := cell_regrown y0
      have Y1 := cell_regrown y1
      go_wp2_with fail
      refine wp_region_quiet_below (by kernel_rfl) (by kernel_rfl) ?_
      repeat (go_big_quiet_step ((go_at_call 61; exact calls_regrown (eqPrefix_any x y _))))
      refine wpQuiet_nil ?_
      rintro w1 hn1
      replace hn1 := new_of_regrown hn1
      go_wp2
      go_roundw
      case rel => exact ⟨k + 1, by omega, by go_num, hnw.trans hn1⟩
      case measure => simp [intOf]; omega
    · go_wp2
      go_ret
      exact ⟨rfl, hnw⟩

/-- The first fault of a list. -/
def lfc : List (Int × Int) → Int
  | [] => 0
  | p :: r => if pf p.1 p.2 = 0 then lfc r else pf p.1 p.2
/-- The fault of a list. -/
def lf (ps : List (Int × Int)) : Int := if 200 < ps.length then 2 else lfc ps

theorem lfc_next {ps : List (Int × Int)} {k : Nat} {x y : Int} (h : ps[k]? = some (x, y)) : lfc (ps.drop k) = if pf x y = 0 then lfc (ps.drop (k + 1)) else pf x y := by
  obtain ⟨hk, e⟩ := List.getElem?_eq_some_iff.1 h
  rw [List.drop_eq_getElem_cons hk, e]
  rfl
theorem lfc_ok {ps : List (Int × Int)} (h : lfc ps = 0) : ∀ p ∈ ps, pf p.1 p.2 = 0 := by
  induction ps with
  | nil => simp
  | cons q r ih =>
    unfold lfc at h
    by_cases hq : pf q.1 q.2 = 0
    · rw [if_pos hq] at h
      intro p hp
      rcases List.mem_cons.1 hp with rfl | hp
      · exact hq
      · exact ih h p hp
    · rw [if_neg hq] at h
      exact absurd h hq
theorem lf_ok {ps : List (Int × Int)} (h : lf ps = 0) : ps.length ≤ 200 ∧ ∀ p ∈ ps, pf p.1 p.2 = 0 := by
  unfold lf at h
  split at h
  · omega
  · exact ⟨by omega, lfc_ok h⟩

set_option maxHeartbeats 800000 in
theorem l2List_any (a : Option Addr) (n c : Nat) (ps : List (Int × Int)) (w : World) (h : PsAt w a ps) (hn : ps.length = n) (hm : n ≤ 1048576) :
    Calls Tryd.prog 42 #[.slice a n c] w fun e w' => e = .returned (.int .i64 (lf ps)) ∧ New w w' := by
  by_cases hbig : 200 < n
  · have hf : Hid (lf ps = 2) := by unfold lf Hid; rw [if_pos (by omega)]
    go_enter Tryd.func42, Tryd.ntmps42
    go_wp2
    go_ret
    exact ⟨ret_i64 hf.out.symm, New.refl _⟩
  · have hf : Hid (lf ps = lfc (ps.drop 0)) := by unfold lf Hid; rw [if_neg (by omega)]; rfl
    have HN : Hid (ps.length = n) := hn
    clear hn
    go_enter Tryd.func42, Tryd.ntmps42
    go_wp2
    go_loopw [3] (fun i wr => ∃ k : Nat, k ≤ n ∧ i = .int .i64 k ∧ New w wr ∧ Hid (lf ps = lfc (ps.drop k))) (fun i _ => n - (intOf i).toNat)
    case atStart => exact ⟨0, Nat.zero_le _, rfl, New.refl _, hf⟩
    case round =>
      obtain ⟨k, hk, rfl, hnw, hl⟩ := hrel
      by_cases hlt : k < n
      · obtain ⟨g1, o1, x, y, rfl, hp1, x0, x1⟩ := (h.new hnw).at k (by rw [HN.out]; exact hlt)
        have hx := lfc_next hp1
        rcases pf_three x y with hp | hp | hp
        · have hl' : Hid (lf ps = lfc (ps.drop (k + 1))) := by unfold Hid; rw [hl.out, hx, if_pos hp]
          clear hx hp1
          go_wp2_with fail
          refine (specPF_is x y _ _ hp).mono ?_
          rintro e w1 ⟨rfl, hn1⟩
          go_wp2
          go_roundw
          case rel => exact ⟨k + 1, by omega, by go_num, hnw.trans hn1, hl'⟩
          case measure => simp [intOf]; omega
        all_goals
          have hl' : Hid (lf ps = pf x y) := by unfold Hid; rw [hl.out, hx, if_neg (by omega)]
          clear hx hp1
          go_wp2_with fail
          refine (specPF_is x y _ _ hp).mono ?_
          rintro e w1 ⟨rfl, hn1⟩
          go_wp2
          go_ret
          exact ⟨ret_i64 (by rw [hl'.out, hp]), hnw.trans hn1⟩
      · have hl' : Hid (lf ps = 0) := by
          unfold Hid
          rw [hl.out, List.drop_of_length_le (by rw [HN.out]; omega)]
          rfl
        go_wp2
        go_ret
        exact ⟨ret_i64 hl'.out.symm, hnw⟩

set_option maxHeartbeats 800000 in
theorem listFault_any (a : Option Addr) (n c : Nat) (ps : List (Int × Int)) (w : World) (h : PsAt w a ps) (hn : ps.length = n) (hm : n ≤ 1048576) :
    Calls Tryd.prog 53 #[.slice a n c] w fun e w' => e = .returned (.int .i64 (lf ps)) ∧ New w w' := by
  by_cases hbig : 200 < n
  · have hf : Hid (lf ps = 2) := by unfold lf Hid; rw [if_pos (by omega)]
    go_enter Tryd.func53, Tryd.ntmps53
    go_wp2
    go_ret
    exact ⟨ret_i64 hf.out.symm, New.refl _⟩
  · have hf : Hid (lf ps = lfc (ps.drop 0)) := by unfold lf Hid; rw [if_neg (by omega)]; rfl
    have HN : Hid (ps.length = n) := hn
    clear hn
    go_enter Tryd.func53, Tryd.ntmps53
    go_wp2
    go_loopw [11] (fun i wr => ∃ k : Nat, k ≤ n ∧ i = .int .i64 k ∧ New w wr ∧ Hid (lf ps = lfc (ps.drop k))) (fun i _ => n - (intOf i).toNat)
    case atStart => exact ⟨0, Nat.zero_le _, rfl, New.refl _, hf⟩
    case round =>
      obtain ⟨k, hk, rfl, hnw, hl⟩ := hrel
      by_cases hlt : k < n
      · obtain ⟨g1, o1, x, y, rfl, hp1, x0, x1⟩ := (h.new hnw).at k (by rw [HN.out]; exact hlt)
        have hx := lfc_next hp1
        rcases pf_three x y with hp | hp | hp
        · have hl' : Hid (lf ps = lfc (ps.drop (k + 1))) := by unfold Hid; rw [hl.out, hx, if_pos hp]
          clear hx hp1
          go_wp2_with fail
          refine (implPF_is x y _ _ hp).mono ?_
          rintro e w1 ⟨rfl, hn1⟩
          go_wp2
          go_roundw
          case rel => exact ⟨k + 1, by omega, by go_num, (hnw.alloc _).trans hn1, hl'⟩
          case measure => simp [intOf]; omega
        all_goals
          have hl' : Hid (lf ps = pf x y) := by unfold Hid; rw [hl.out, hx, if_neg (by omega)]
          clear hx hp1
          go_wp2_with fail
          refine (implPF_is x y _ _ hp).mono ?_
          rintro e w1 ⟨rfl, hn1⟩
          go_wp2
          go_ret
          exact ⟨ret_i64 (by rw [hl'.out, hp]), (hnw.alloc _).trans hn1⟩
      · have hl' : Hid (lf ps = 0) := by
          unfold Hid
          rw [hl.out, List.drop_of_length_le (by rw [HN.out]; omega)]
          rfl
        go_wp2
        go_ret
        exact ⟨ret_i64 hl'.out.symm, hnw⟩

end Go.Proofs.YtljkcijakdhdiaaDoor
