/- What is proved here: what the comparing of attributes and the judging of an update answer, in the program and in its model, for every lists of at most 1048576 elements. -/
import Derived.Test.YtljkcijakdhdiaaAtLib
namespace Go.Proofs.Ytljkcijakdhdiaa
open Go.RowKit Go.Sort
set_option linter.unusedVariables false

theorem take_eq_next {xs ys : List Int} {k : Nat} {z : Int} (h : xs.take k = ys.take k) (hx : xs[k]? = some z) (hy : ys[k]? = some z) : xs.take (k + 1) = ys.take (k + 1) := by
  rw [take_snoc hx, take_snoc hy, h]

set_option maxHeartbeats 800000 in
theorem equal64 (a b : Option Addr) (n m c d : Nat) (xs ys : List Int) (v : Bool) (w : World) (ha : NsAt w a xs) (hb : NsAt w b ys) (hn : xs.length = n) (hm : ys.length = m) (hn1 : n ≤ 1048576) (hm1 : m ≤ 1048576) (hv : decide (xs = ys) = v) :
    Calls Try.prog 111 #[.slice a n c, .slice b m d] w fun e w' => e = .returned (.bool v) ∧ New w w' := by
  have HV : Hid (decide (xs = ys) = v) := hv
  clear hv
  by_cases hne : n = m
  · subst hne
    have HN : Hid (xs.length = n) := hn
    have HM : Hid (ys.length = n) := hm
    clear hn hm
    have hnn : ((n : Int) != (n : Int)) = false := by simp
    go_enter Try.func111, Try.ntmps111
    go_wp2
    go_loopw [13] (fun i wr => ∃ k : Nat, k ≤ n ∧ i = .int .i64 k ∧ New w wr ∧ Hid (xs.take k = ys.take k)) (fun i _ => n - (intOf i).toNat)
    case atStart => exact ⟨0, Nat.zero_le _, rfl, New.refl _, rfl⟩
    case round =>
      obtain ⟨k, hk, rfl, hnw, hl⟩ := hrel
      by_cases hlt : k < n
      · obtain ⟨b1, off1, z, rfl, hz, hc, -⟩ := (ha.new hnw).at k (by rw [HN.out]; exact hlt)
        obtain ⟨b2, off2, z', rfl, hz', hc', -⟩ := (hb.new hnw).at k (by rw [HM.out]; exact hlt)
        by_cases e : z = z'
        · subst e
          have hl' : Hid (xs.take (k + 1) = ys.take (k + 1)) := take_eq_next hl.out hz hz'
          clear hz hz' hl ha hb
          go_wp2
          go_quiet (fail)
          go_wp2
          go_roundw
          case rel => exact ⟨k + 1, by omega, by go_num, hnw.drewN _, hl'⟩
          case measure => simp [intOf]; omega
        · have hx : Hid (v = false) := by
            unfold Hid
            rw [← HV.out]
            simp only [decide_eq_false_iff_not]
            rintro rfl
            rw [hz] at hz'
            exact e (Option.some.inj hz')
          have e' : (z != z') = true := by simpa using e
          clear hz hz' hl ha hb
          go_wp2
          go_quiet (fail)
          go_wp2
          go_ret
          exact ⟨ret_bool hx.out.symm, hnw.drewN _⟩
      · have hx : Hid (v = true) := by
          unfold Hid
          rw [← HV.out]
          have := hl.out
          rw [List.take_of_length_le (by rw [HN.out]; omega), List.take_of_length_le (by rw [HM.out]; omega)] at this
          simpa using this
        go_wp2
        go_ret
        exact ⟨ret_bool hx.out.symm, hnw⟩
  · have hx : Hid (v = false) := by
      unfold Hid
      rw [← HV.out]
      simp only [decide_eq_false_iff_not]
      rintro rfl
      omega
    have e' : ((n : Int) != (m : Int)) = true := by simp; omega
    clear hn hm
    go_enter Try.func111, Try.ntmps111
    go_wp2
    go_ret
    exact ⟨ret_bool hx.out.symm, New.refl _⟩

/-- Two attributes have all fields the same. -/
abbrev SaP (o : Int) (xs : List Int) (nx md lc p : Int) (ys : List Int) (ny me ld : Int) : Prop := o = p ∧ nx = ny ∧ md = me ∧ lc = ld ∧ xs = ys

set_option maxHeartbeats 1600000 in
theorem implSA (o nx md lc p ny me ld : Int) (a b : Option Addr) (n m c d : Nat) (xs ys : List Int) (v : Bool) (w : World) (ha : NsAt w a xs) (hb : NsAt w b ys) (hn : xs.length = n) (hm : ys.length = m) (hn1 : n ≤ 1048576) (hm1 : m ≤ 1048576) (hv : decide (SaP o xs nx md lc p ys ny me ld) = v) :
    Calls Try.prog 105 #[.agg #[.int .i64 o, .slice a n c, .int .i64 nx, .int .i64 md, .int .i64 lc], .agg #[.int .i64 p, .slice b m d, .int .i64 ny, .int .i64 me, .int .i64 ld]] w fun e w' => e = .returned (.bool v) ∧ New w w' := by
  have hw := ((New.refl w).alloc (.cells #[.int .i64 o, .slice a n c, .int .i64 nx, .int .i64 md, .int .i64 lc] 47)).alloc (.cells #[.int .i64 p, .slice b m d, .int .i64 ny, .int .i64 me, .int .i64 ld] 47)
  have HV : Hid (decide (SaP o xs nx md lc p ys ny me ld) = v) := hv
  clear hv
  by_cases g1 : o = p
  · subst g1
    by_cases g2 : nx = ny
    · subst g2
      by_cases g3 : md = me
      · subst g3
        by_cases g4 : lc = ld
        · subst g4
          have hv' : decide (xs = ys) = v := by rw [← HV.out]; simp [SaP]
          go_enter Try.func105, Try.ntmps105
          go_wp2_with fail
          refine (equal64 a b n m c d xs ys v _ (ha.new hw) (hb.new hw) hn hm hn1 hm1 hv').mono ?_
          rintro e w1 ⟨rfl, hn1⟩
          go_wp2
          go_ret
          exact ⟨rfl, hw.trans hn1⟩
        · have hx : Hid (v = false) := by unfold Hid; rw [← HV.out]; simp [SaP, g4]
          have e' : (lc == ld) = false := by simpa using g4
          go_enter Try.func105, Try.ntmps105
          go_wp2
          go_ret
          exact ⟨ret_bool hx.out.symm, hw⟩
      · have hx : Hid (v = false) := by unfold Hid; rw [← HV.out]; simp [SaP, g3]
        have e' : (md == me) = false := by simpa using g3
        go_enter Try.func105, Try.ntmps105
        go_wp2
        go_ret
        exact ⟨ret_bool hx.out.symm, hw⟩
    · have hx : Hid (v = false) := by unfold Hid; rw [← HV.out]; simp [SaP, g2]
      have e' : (nx == ny) = false := by simpa using g2
      go_enter Try.func105, Try.ntmps105
      go_wp2
      go_ret
      exact ⟨ret_bool hx.out.symm, hw⟩
  · have hx : Hid (v = false) := by unfold Hid; rw [← HV.out]; simp [SaP, g1]
    have e' : (o == p) = false := by simpa using g1
    go_enter Try.func105, Try.ntmps105
    go_wp2
    go_ret
    exact ⟨ret_bool hx.out.symm, hw⟩

/-- All of the attributes are zero. -/
abbrev ZaP (o : Int) (xs : List Int) (nx md lc : Int) : Prop := o = 0 ∧ xs.length = 0 ∧ nx = 0 ∧ md = 0 ∧ lc = 0

set_option maxHeartbeats 1600000 in
theorem zero_any (o nx md lc : Int) (a : Option Addr) (n c : Nat) (xs : List Int) (v : Bool) (w : World) (hn : xs.length = n) (hn1 : n ≤ 1048576) (hv : decide (ZaP o xs nx md lc) = v) :
    Calls Try.prog 93 #[.agg #[.int .i64 o, .slice a n c, .int .i64 nx, .int .i64 md, .int .i64 lc]] w fun e w' => e = .returned (.bool v) ∧ New w w' := by
  have hw := (New.refl w).alloc (.cells #[.int .i64 o, .slice a n c, .int .i64 nx, .int .i64 md, .int .i64 lc] 47)
  have HV : Hid (decide (o = 0 ∧ n = 0 ∧ nx = 0 ∧ md = 0 ∧ lc = 0) = v) := by unfold Hid; subst hn; exact hv
  clear hv hn
  by_cases g1 : o = 0
  · subst g1
    by_cases g2 : n = 0
    · subst g2
      by_cases g3 : nx = 0
      · subst g3
        by_cases g4 : md = 0
        · subst g4
          by_cases g5 : lc = 0
          · subst g5
            have hx : Hid (v = true) := by unfold Hid; rw [← HV.out]; simp
            go_enter Try.func93, Try.ntmps93
            go_wp2
            go_ret
            exact ⟨ret_bool hx.out.symm, hw⟩
          · have hx : Hid (v = false) := by unfold Hid; rw [← HV.out]; simp [g5]
            have e' : (lc == 0) = false := by simpa using g5
            go_enter Try.func93, Try.ntmps93
            go_wp2
            go_ret
            exact ⟨ret_bool hx.out.symm, hw⟩
        · have hx : Hid (v = false) := by unfold Hid; rw [← HV.out]; simp [g4]
          have e' : (md == 0) = false := by simpa using g4
          go_enter Try.func93, Try.ntmps93
          go_wp2
          go_ret
          exact ⟨ret_bool hx.out.symm, hw⟩
      · have hx : Hid (v = false) := by unfold Hid; rw [← HV.out]; simp [g3]
        have e' : (nx == 0) = false := by simpa using g3
        go_enter Try.func93, Try.ntmps93
        go_wp2
        go_ret
        exact ⟨ret_bool hx.out.symm, hw⟩
    · have hx : Hid (v = false) := by unfold Hid; rw [← HV.out]; simp [g2]
      have e' : ((n : Int) == 0) = false := by simpa using g2
      go_enter Try.func93, Try.ntmps93
      go_wp2
      go_ret
      exact ⟨ret_bool hx.out.symm, hw⟩
  · have hx : Hid (v = false) := by unfold Hid; rw [← HV.out]; simp [g1]
    have e' : (o == 0) = false := by simpa using g1
    go_enter Try.func93, Try.ntmps93
    go_wp2
    go_ret
    exact ⟨ret_bool hx.out.symm, hw⟩

end Go.Proofs.Ytljkcijakdhdiaa
