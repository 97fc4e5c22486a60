/- What is proved here: what the comparing of lists of bytes and of rules answers, for lists of at most 1048576 things. -/
import Derived.Test.YtkahlmkhancloabR6Law
namespace Go.Proofs.Ytkahlmkhancloab
open Go.RowKit Go.Sort
set_option linter.unusedVariables false

theorem take_next9 {α : Type} {xs ys : List α} {k : Nat} {z : α} (h : xs.take k = ys.take k) (hx : xs[k]? = some z) (hy : ys[k]? = some z) : xs.take (k + 1) = ys.take (k + 1) := by
  obtain ⟨h1, e1⟩ := List.getElem?_eq_some_iff.1 hx
  obtain ⟨h2, e2⟩ := List.getElem?_eq_some_iff.1 hy
  rw [List.take_succ_eq_append_getElem h1, List.take_succ_eq_append_getElem h2, h, e1, e2]

set_option maxHeartbeats 800000 in
theorem equalU8 (a b : Option Addr) (n m c d : Nat) (xs ys : List Int) (v : Bool) (w : World) (ha : BsAt w a xs) (hb : BsAt w b ys) (hn : xs.length = n) (hm : ys.length = m) (hn1 : n ≤ 1048576) (hm1 : m ≤ 1048576) (hv : decide (xs = ys) = v) :
    Calls Try.prog 69 #[.slice a n c, .slice b m d] w fun e w' => e = .returned (.bool v) ∧ New w w' := by
  have HV : Hid (decide (xs = ys) = v) := hv
  clear hv
  by_cases hne : n = m
  · subst hne
    have HN : Hid (xs.length = n) := hn
    have HM : Hid (ys.length = n) := hm
    clear hn hm
    have hnn : ((n : Int) != (n : Int)) = false := by simp
    go_enter Try.func69, Try.ntmps69
    go_wp2
    go_loopw [13] (fun i wr => ∃ k : Nat, k ≤ n ∧ i = .int .i64 k ∧ New w wr ∧ Hid (xs.take k = ys.take k)) (fun i _ => n - (intOf i).toNat)
    case atStart => exact ⟨0, Nat.zero_le _, rfl, New.refl _, rfl⟩
    case round =>
      obtain ⟨k, hk, rfl, hnw, hl⟩ := hrel
      by_cases hlt : k < n
      · obtain ⟨b1, off1, z, rfl, hz, hc, -⟩ := (ha.new hnw).at k (by rw [HN.out]; exact hlt)
        obtain ⟨b2, off2, z', rfl, hz', hc', -⟩ := (hb.new hnw).at k (by rw [HM.out]; exact hlt)
        by_cases e : z = z'
        · subst e
          have hl' : Hid (xs.take (k + 1) = ys.take (k + 1)) := take_eq_next hl.out hz hz'
          clear hz hz' hl ha hb
          go_wp2
          go_quiet (fail)
          go_wp2
          go_roundw
          case rel => exact ⟨k + 1, by omega, by go_num, hnw.drewN _, hl'⟩
          case measure => simp [intOf]; omega
        · have hx : Hid (v = false) := by
            unfold Hid
            rw [← HV.out]
            simp only [decide_eq_false_iff_not]
            rintro rfl
            rw [hz] at hz'
            exact e (Option.some.inj hz')
          have e' : (z != z') = true := by simpa using e
          clear hz hz' hl ha hb
          go_wp2
          go_quiet (fail)
          go_wp2
          go_ret
          exact ⟨ret_bool hx.out.symm, hnw.drewN _⟩
      · have hx : Hid (v = true) := by
          unfold Hid
          rw [← HV.out]
          have := hl.out
          rw [List.take_of_length_le (by rw [HN.out]; omega), List.take_of_length_le (by rw [HM.out]; omega)] at this
          simpa using this
        go_wp2
        go_ret
        exact ⟨ret_bool hx.out.symm, hnw⟩
  · have hx : Hid (v = false) := by
      unfold Hid
      rw [← HV.out]
      simp only [decide_eq_false_iff_not]
      rintro rfl
      omega
    have e' : ((n : Int) != (m : Int)) = true := by simp; omega
    clear hn hm
    go_enter Try.func69, Try.ntmps69
    go_wp2
    go_ret
    exact ⟨ret_bool hx.out.symm, New.refl _⟩

set_option maxHeartbeats 3200000 in
theorem equalRu (x y : Option Addr) (n m c e0 : Nat) (xs ys : List Ru) (v : Bool) (w : World) (ha : RsAt w x xs) (hb : RsAt w y ys) (hn : xs.length = n) (hm : ys.length = m) (hn1 : n ≤ 1048576) (hm1 : m ≤ 1048576) (hv : v = true ↔ xs = ys) :
    Calls Try.prog 68 #[.slice x n c, .slice y m e0] w fun e w' => e = .returned (.bool v) ∧ New w w' := by
  have HV : Hid (v = true ↔ xs = ys) := hv
  clear hv
  by_cases hne : n = m
  · subst hne
    have HN : Hid (xs.length = n) := hn
    have HM : Hid (ys.length = n) := hm
    clear hn hm
    have hnn : ((n : Int) != (n : Int)) = false := by simp
    go_enter Try.func68, Try.ntmps68
    go_wp2
    go_loopw [13] (fun i wr => ∃ k : Nat, k ≤ n ∧ i = .int .i64 k ∧ New w wr ∧ Hid (xs.take k = ys.take k)) (fun i _ => n - (intOf i).toNat)
    case atStart => exact ⟨0, Nat.zero_le _, rfl, New.refl _, rfl⟩
    case round =>
      obtain ⟨k, hk, rfl, hnw, hl⟩ := hrel
      by_cases hlt : k < n
      · obtain ⟨b1, off1, a, l, ls, ms, s, d, lc, pp, rfl, hz, q0, q1, q2, q3, q4, q5, q6, q7⟩ := (ha.new hnw).at k (by rw [HN.out]; exact hlt)
        obtain ⟨b2, off2, a', l', ls', ms', s', d', lc', pp', rfl, hz', y0, y1, y2, y3, y4, y5, y6, y7⟩ := (hb.new hnw).at k (by rw [HM.out]; exact hlt)
        have HX : Hid ((Ru.mk a l ls ms s d lc pp) ≠ Ru.mk a' l' ls' ms' s' d' lc' pp' → v = false) := by
          intro e
          cases v
          · rfl
          · have h9 := HV.out.1 rfl
            rw [h9, hz'] at hz
            exact absurd (Option.some.inj hz).symm e
        by_cases g0 : a = a'
        · subst g0
          by_cases g1 : l = l'
          · subst g1
            by_cases g2 : ls = ls'
            · subst g2
              by_cases g3 : ms = ms'
              · subst g3
                by_cases g4 : s = s'
                · subst g4
                  by_cases g5 : d = d'
                  · subst g5
                    by_cases g6 : lc = lc'
                    · subst g6
                      by_cases g7 : pp = pp'
                      · subst g7
                        have hl' : Hid (xs.take (k + 1) = ys.take (k + 1)) := take_next9 hl.out hz hz'
                        clear hz hz' hl ha hb
                        go_wp2
                        go_quiet (fail)
                        go_wp2
                        go_roundw
                        case rel => exact ⟨k + 1, by omega, by go_num, hnw.drewN _, hl'⟩
                        case measure => simp [intOf]; omega
                      · have hx : Hid (v = false) := HX.out (by simp [Ru.mk.injEq, g7])
                        have g7' : (pp == pp') = false := by simpa using g7
                        clear hz hz' hl ha hb HX
                        go_wp2
                        go_quiet (fail)
                        go_wp2
                        go_ret
                        exact ⟨ret_bool hx.out.symm, hnw.drewN _⟩
                    · have hx : Hid (v = false) := HX.out (by simp [Ru.mk.injEq, g6])
                      have g6' : (lc == lc') = false := by simpa using g6
                      clear hz hz' hl ha hb HX
                      go_wp2
                      go_quiet (fail)
                      go_wp2
                      go_ret
                      exact ⟨ret_bool hx.out.symm, hnw.drewN _⟩
                  · have hx : Hid (v = false) := HX.out (by simp [Ru.mk.injEq, g5])
                    have g5' : (d == d') = false := by simpa using g5
                    clear hz hz' hl ha hb HX
                    go_wp2
                    go_quiet (fail)
                    go_wp2
                    go_ret
                    exact ⟨ret_bool hx.out.symm, hnw.drewN _⟩
                · have hx : Hid (v = false) := HX.out (by simp [Ru.mk.injEq, g4])
                  have g4' : (s == s') = false := by simpa using g4
                  clear hz hz' hl ha hb HX
                  go_wp2
                  go_quiet (fail)
                  go_wp2
                  go_ret
                  exact ⟨ret_bool hx.out.symm, hnw.drewN _⟩
              · have hx : Hid (v = false) := HX.out (by simp [Ru.mk.injEq, g3])
                have g3' : (ms == ms') = false := by simpa using g3
                clear hz hz' hl ha hb HX
                go_wp2
                go_quiet (fail)
                go_wp2
                go_ret
                exact ⟨ret_bool hx.out.symm, hnw.drewN _⟩
            · have hx : Hid (v = false) := HX.out (by simp [Ru.mk.injEq, g2])
              have g2' : (ls == ls') = false := by simpa using g2
              clear hz hz' hl ha hb HX
              go_wp2
              go_quiet (fail)
              go_wp2
              go_ret
              exact ⟨ret_bool hx.out.symm, hnw.drewN _⟩
          · have hx : Hid (v = false) := HX.out (by simp [Ru.mk.injEq, g1])
            have g1' : (l == l') = false := by simpa using g1
            clear hz hz' hl ha hb HX
            go_wp2
            go_quiet (fail)
            go_wp2
            go_ret
            exact ⟨ret_bool hx.out.symm, hnw.drewN _⟩
        · have hx : Hid (v = false) := HX.out (by simp [Ru.mk.injEq, g0])
          have g0' : (a == a') = false := by simpa using g0
          clear hz hz' hl ha hb HX
          go_wp2
          go_quiet (fail)
          go_wp2
          go_ret
          exact ⟨ret_bool hx.out.symm, hnw.drewN _⟩
      · have hx : Hid (v = true) := by
          have := hl.out
          rw [List.take_of_length_le (by rw [HN.out]; omega), List.take_of_length_le (by rw [HM.out]; omega)] at this
          exact HV.out.2 this
        go_wp2
        go_ret
        exact ⟨ret_bool hx.out.symm, hnw⟩
  · have hx : Hid (v = false) := by
      cases v
      · rfl
      · have h9 := HV.out.1 rfl
        subst h9
        exact absurd (hn.symm.trans hm) hne
    have e' : ((n : Int) != (m : Int)) = true := by simp; omega
    clear hn hm
    go_enter Try.func68, Try.ntmps68
    go_wp2
    go_ret
    exact ⟨ret_bool hx.out.symm, New.refl _⟩

set_option maxHeartbeats 3200000 in
theorem specRu (x y : Option Addr) (n m c e0 : Nat) (xs ys : List Ru) (v : Bool) (w : World) (ha : RsAt w x xs) (hb : RsAt w y ys) (hn : xs.length = n) (hm : ys.length = m) (hn1 : n ≤ 1048576) (hm1 : m ≤ 1048576) (hv : v = true ↔ xs = ys) :
    Calls Try.prog 38 #[.slice x n c, .slice y m e0] w fun e w' => e = .returned (.bool v) ∧ New w w' := by
  have HV : Hid (v = true ↔ xs = ys) := hv
  clear hv
  by_cases hne : n = m
  · subst hne
    have HN : Hid (xs.length = n) := hn
    have HM : Hid (ys.length = n) := hm
    clear hn hm
    have hnn : ((n : Int) != (n : Int)) = false := by simp
    go_enter Try.func38, Try.ntmps38
    go_wp2
    go_loopw [5] (fun i wr => ∃ k : Nat, k ≤ n ∧ i = .int .i64 k ∧ New w wr ∧ Hid (xs.take k = ys.take k)) (fun i _ => n - (intOf i).toNat)
    case atStart => exact ⟨0, Nat.zero_le _, rfl, New.refl _, rfl⟩
    case round =>
      obtain ⟨k, hk, rfl, hnw, hl⟩ := hrel
      by_cases hlt : k < n
      · obtain ⟨b1, off1, a, l, ls, ms, s, d, lc, pp, rfl, hz, q0, q1, q2, q3, q4, q5, q6, q7⟩ := (ha.new hnw).at k (by rw [HN.out]; exact hlt)
        obtain ⟨b2, off2, a', l', ls', ms', s', d', lc', pp', rfl, hz', y0, y1, y2, y3, y4, y5, y6, y7⟩ := (hb.new hnw).at k (by rw [HM.out]; exact hlt)
        have HX : Hid ((Ru.mk a l ls ms s d lc pp) ≠ Ru.mk a' l' ls' ms' s' d' lc' pp' → v = false) := by
          intro e
          cases v
          · rfl
          · have h9 := HV.out.1 rfl
            rw [h9, hz'] at hz
            exact absurd (Option.some.inj hz).symm e
        by_cases g0 : a = a'
        · subst g0
          by_cases g1 : l = l'
          · subst g1
            by_cases g2 : ls = ls'
            · subst g2
              by_cases g3 : ms = ms'
              · subst g3
                by_cases g4 : s = s'
                · subst g4
                  by_cases g5 : d = d'
                  · subst g5
                    by_cases g6 : lc = lc'
                    · subst g6
                      by_cases g7 : pp = pp'
                      · subst g7
                        have hl' : Hid (xs.take (k + 1) = ys.take (k + 1)) := take_next9 hl.out hz hz'
                        clear hz hz' hl ha hb
                        go_wp2
                        go_quiet (fail)
                        go_wp2
                        go_roundw
                        case rel => exact ⟨k + 1, by omega, by go_num, hnw.drewN _, hl'⟩
                        case measure => simp [intOf]; omega
                      · have hx : Hid (v = false) := HX.out (by simp [Ru.mk.injEq, g7])
                        have g7' : (pp == pp') = false := by simpa using g7
                        clear hz hz' hl ha hb HX
                        go_wp2
                        go_quiet (fail)
                        go_wp2
                        go_ret
                        exact ⟨ret_bool hx.out.symm, hnw.drewN _⟩
                    · have hx : Hid (v = false) := HX.out (by simp [Ru.mk.injEq, g6])
                      have g6' : (lc == lc') = false := by simpa using g6
                      clear hz hz' hl ha hb HX
                      go_wp2
                      go_quiet (fail)
                      go_wp2
                      go_ret
                      exact ⟨ret_bool hx.out.symm, hnw.drewN _⟩
                  · have hx : Hid (v = false) := HX.out (by simp [Ru.mk.injEq, g5])
                    have g5' : (d == d') = false := by simpa using g5
                    clear hz hz' hl ha hb HX
                    go_wp2
                    go_quiet (fail)
                    go_wp2
                    go_ret
                    exact ⟨ret_bool hx.out.symm, hnw.drewN _⟩
                · have hx : Hid (v = false) := HX.out (by simp [Ru.mk.injEq, g4])
                  have g4' : (s == s') = false := by simpa using g4
                  clear hz hz' hl ha hb HX
                  go_wp2
                  go_quiet (fail)
                  go_wp2
                  go_ret
                  exact ⟨ret_bool hx.out.symm, hnw.drewN _⟩
              · have hx : Hid (v = false) := HX.out (by simp [Ru.mk.injEq, g3])
                have g3' : (ms == ms') = false := by simpa using g3
                clear hz hz' hl ha hb HX
                go_wp2
                go_quiet (fail)
                go_wp2
                go_ret
                exact ⟨ret_bool hx.out.symm, hnw.drewN _⟩
            · have hx : Hid (v = false) := HX.out (by simp [Ru.mk.injEq, g2])
              have g2' : (ls == ls') = false := by simpa using g2
              clear hz hz' hl ha hb HX
              go_wp2
              go_quiet (fail)
              go_wp2
              go_ret
              exact ⟨ret_bool hx.out.symm, hnw.drewN _⟩
          · have hx : Hid (v = false) := HX.out (by simp [Ru.mk.injEq, g1])
            have g1' : (l == l') = false := by simpa using g1
            clear hz hz' hl ha hb HX
            go_wp2
            go_quiet (fail)
            go_wp2
            go_ret
            exact ⟨ret_bool hx.out.symm, hnw.drewN _⟩
        · have hx : Hid (v = false) := HX.out (by simp [Ru.mk.injEq, g0])
          have g0' : (a == a') = false := by simpa using g0
          clear hz hz' hl ha hb HX
          go_wp2
          go_quiet (fail)
          go_wp2
          go_ret
          exact ⟨ret_bool hx.out.symm, hnw.drewN _⟩
      · have hx : Hid (v = true) := by
          have := hl.out
          rw [List.take_of_length_le (by rw [HN.out]; omega), List.take_of_length_le (by rw [HM.out]; omega)] at this
          exact HV.out.2 this
        go_wp2
        go_ret
        exact ⟨ret_bool hx.out.symm, hnw⟩
  · have hx : Hid (v = false) := by
      cases v
      · rfl
      · have h9 := HV.out.1 rfl
        subst h9
        exact absurd (hn.symm.trans hm) hne
    have e' : ((n : Int) != (m : Int)) = true := by simp; omega
    clear hn hm
    go_enter Try.func38, Try.ntmps38
    go_wp2
    go_ret
    exact ⟨ret_bool hx.out.symm, New.refl _⟩

end Go.Proofs.Ytkahlmkhancloab
