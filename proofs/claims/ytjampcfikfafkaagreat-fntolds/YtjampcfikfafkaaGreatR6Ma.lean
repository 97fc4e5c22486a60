/- What is proved here: whether a number stands in a path, and whether a rule matches, in the program and in the model, for every path of at most 1048576 numbers. -/
import Derived.Test.YtjampcfikfafkaaGreatR6Law
import Derived.Deep.RegionHeld3
import Derived.Laws.EntriesVeiled
namespace Go.Proofs.YtjampcfikfafkaaGreat
open Go.RowKit Go.Sort
set_option linter.unusedVariables false

theorem drop_no {xs : List Int} {k : Nat} {y z : Int} (h : xs[k]? = some y) (hne : ¬ z = y) (hk : z ∉ xs.take k) : z ∉ xs.take (k + 1) := by
  rw [take_snoc h]
  simp only [List.mem_append, List.mem_singleton, not_or]
  exact ⟨hk, hne⟩

set_option maxHeartbeats 800000 in
theorem index64 (x : Option Addr) (n c : Nat) (xs : List Int) (z : Int) (w : World) (h : NsAt w x xs) (hn : xs.length = n) (hm : n ≤ 1048576) :
    Calls Tryz.prog 81 #[.slice x n c, .int .i64 z] w fun e w' => ∃ q : Int, e = .returned (.int .i64 q) ∧ (z ∈ xs → 0 ≤ q) ∧ (z ∉ xs → q < 0) ∧ w' = w := by
  have HN : Hid (xs.length = n) := hn
  clear hn
  go_enter Tryz.func81, Tryz.ntmps81
  go_wp2
  go_loopw [8] (fun i wr => ∃ k : Nat, k ≤ n ∧ i = .int .i64 k ∧ wr = w ∧ Hid (z ∉ xs.take k)) (fun i _ => n - (intOf i).toNat)
  case atStart => exact ⟨0, Nat.zero_le _, rfl, rfl, by simp [Hid]⟩
  case round =>
    obtain ⟨k, hk, rfl, rfl, hl⟩ := hrel
    by_cases hlt : k < n
    · obtain ⟨b, off, y, rfl, hz, hc, -⟩ := h.at k (by rw [HN.out]; exact hlt)
      by_cases hy : z = y
      · subst hy
        have hin : Hid (z ∈ xs) := List.mem_of_getElem? hz
        clear hz h hl
        go_wp2
        go_ret
        exact ⟨_, rfl, fun _ => by omega, fun k => absurd hin.out k, by first | rfl | trivial⟩
      · have e1 : (z == y) = false := by simpa using hy
        have hl' : Hid (z ∉ xs.take (k + 1)) := drop_no hz hy hl.out
        clear hz hl
        go_wp2
        go_roundw
        case rel => exact ⟨k + 1, by omega, by go_num, by first | rfl | trivial, hl'⟩
        case measure => simp [intOf]; omega
    · have hno : Hid (z ∉ xs) := by
        have := hl.out
        rw [List.take_of_length_le (by rw [HN.out]; omega)] at this
        exact this
      go_wp2
      go_ret
      exact ⟨_, rfl, fun k => absurd k hno.out, fun _ => by omega, by first | rfl | trivial⟩

theorem contains64 (x : Option Addr) (n c : Nat) (xs : List Int) (z : Int) (v : Bool) (w : World) (h : NsAt w x xs) (hn : xs.length = n) (hm : n ≤ 1048576) (hv : decide (z ∈ xs) = v) :
    Calls Tryz.prog 43 #[.slice x n c, .int .i64 z] w fun e w' => e = .returned (.bool v) ∧ w' = w := by
  have HV : Hid (decide (z ∈ xs) = v) := hv
  clear hv
  go_enter Tryz.func43, Tryz.ntmps43
  go_wp2_with fail
  refine (index64 x n c xs z _ h hn hm).mono ?_
  rintro e w1 ⟨q, rfl, h1, h2, rfl⟩
  by_cases hz : z ∈ xs
  · have h3 := h1 hz
    have hv' : Hid (v = true) := by unfold Hid; rw [← HV.out]; simpa using hz
    clear h1 h2
    go_wp2
    go_ret
    exact ⟨ret_bool (by first | (rw [hv'.out]; done) | (rw [hv'.out]; simpa using h3)), by first | rfl | trivial⟩
  · have h3 := h2 hz
    have hv' : Hid (v = false) := by unfold Hid; rw [← HV.out]; simpa using hz
    clear h1 h2
    go_wp2
    go_ret
    exact ⟨ret_bool (by first | (rw [hv'.out]; done) | (rw [hv'.out]; simpa using h3)), by first | rfl | trivial⟩

theorem implHL (o nx md lo : Int) (x : Option Addr) (n c : Nat) (xs : List Int) (z : Int) (v : Bool) (w : World) (h : NsAt w x xs) (hn : xs.length = n) (hm : n ≤ 1048576) (hv : decide (z ∈ xs) = v) :
    Calls Tryz.prog 10 #[.agg #[.int .i64 o, .slice x n c, .int .i64 nx, .int .i64 md, .int .i64 lo], .int .i64 z] w fun e w' => e = .returned (.bool v) ∧ New w w' := by
  have hw := (New.refl w).alloc (.cells #[.int .i64 o, .slice x n c, .int .i64 nx, .int .i64 md, .int .i64 lo] 36)
  go_enter Tryz.func10, Tryz.ntmps10
  go_wp2_with fail
  refine (contains64 x n c xs z v _ (h.new hw) hn hm hv).mono ?_
  rintro e w1 ⟨rfl, rfl⟩
  go_wp2
  go_ret
  exact ⟨rfl, hw⟩

set_option maxHeartbeats 800000 in
theorem specHL (o nx md lo : Int) (x : Option Addr) (n c : Nat) (xs : List Int) (z : Int) (v : Bool) (w : World) (h : NsAt w x xs) (hn : xs.length = n) (hm : n ≤ 1048576) (hv : decide (z ∈ xs) = v) :
    Calls Tryz.prog 126 #[.agg #[.int .i64 o, .slice x n c, .int .i64 nx, .int .i64 md, .int .i64 lo], .int .i64 z] w fun e w' => e = .returned (.bool v) ∧ New w w' := by
  have hw := (New.refl w).alloc (.cells #[.int .i64 o, .slice x n c, .int .i64 nx, .int .i64 md, .int .i64 lo] 36)
  have hB := (Blk.mk w w.heap.size 36 #[.int .i64 o, .slice x n c, .int .i64 nx, .int .i64 md, .int .i64 lo] rfl).cells
  have hh := h.new hw
  have HV : Hid (decide (z ∈ xs) = v) := hv
  have HN : Hid (xs.length = n) := hn
  clear hn hv
  go_enter Tryz.func126, Tryz.ntmps126
  go_wp2
  go_loopw [5] (fun i wr => ∃ k : Nat, k ≤ n ∧ i = .int .i64 k ∧ wr = w.alloc (.cells #[.int .i64 o, .slice x n c, .int .i64 nx, .int .i64 md, .int .i64 lo] 36) ∧ Hid (z ∉ xs.take k)) (fun i _ => n - (intOf i).toNat)
  case atStart => exact ⟨0, Nat.zero_le _, rfl, rfl, by simp [Hid]⟩
  case round =>
    obtain ⟨k, hk, rfl, rfl, hl⟩ := hrel
    by_cases hlt : k < n
    · obtain ⟨b, off, y, rfl, hz, hc, -⟩ := hh.at k (by rw [HN.out]; exact hlt)
      by_cases hy : z = y
      · subst hy
        have hin : Hid (v = true) := by unfold Hid; rw [← HV.out]; simpa using List.mem_of_getElem? hz
        clear hz h hh hl
        go_wp2
        go_ret
        exact ⟨ret_bool hin.out.symm, hw⟩
      · have e1 : (y == z) = false := by simpa using fun e => hy e.symm
        have hl' : Hid (z ∉ xs.take (k + 1)) := drop_no hz hy hl.out
        clear hz hl
        go_wp2
        go_roundw
        case rel => exact ⟨k + 1, by omega, by go_num, by first | rfl | trivial, hl'⟩
        case measure => simp [intOf]; omega
    · have hno : Hid (v = false) := by
        have := hl.out
        rw [List.take_of_length_le (by rw [HN.out]; omega)] at this
        unfold Hid; rw [← HV.out]; simpa using this
      go_wp2
      go_ret
      exact ⟨ret_bool hno.out.symm, hw⟩

/-- A rule matches a prefix and a path. -/
def mt (a l ls ms s p q : Int) (xs : List Int) : Bool := inP p q a l && decide (ls ≤ q) && decide (q ≤ ms) && (decide (s = 0) || decide (s ∈ xs))

theorem mk_matcher (a l ls ms s : Int) (d : Bool) (lc pp : Int) (w : World) : Calls Tryz.prog 98 #[.agg #[.int .i64 a, .int .i64 l, .int .i64 ls, .int .i64 ms, .int .i64 s, .bool d, .int .i64 lc, .int .i64 pp]] w fun e w' => ∃ B, e = .returned (.func (.func 118) #[] #[.pointer (some ⟨B, 0, none⟩)]) ∧ w.heap.size ≤ B ∧ Blk w' B 93 #[.int .i64 a, .int .i64 l, .int .i64 ls, .int .i64 ms, .int .i64 s, .bool d, .int .i64 lc, .int .i64 pp] ∧ New w w' := by
  have hw := (New.refl w).alloc (.cells #[.int .i64 a, .int .i64 l, .int .i64 ls, .int .i64 ms, .int .i64 s, .bool d, .int .i64 lc, .int .i64 pp] 93)
  have b0 := Blk.mk w w.heap.size 93 #[.int .i64 a, .int .i64 l, .int .i64 ls, .int .i64 ms, .int .i64 s, .bool d, .int .i64 lc, .int .i64 pp] rfl
  have hmf : ∀ (fn : Fn) (first cap : Array Value) (w : World), (Instr.makeFunc fn first cap).run Tryz.prog w = .ok (.func fn first cap) w := fun _ _ _ _ => rfl
  go_enter Tryz.func98, Tryz.ntmps98
  go_wp2
  go_ret
  exact ⟨_, rfl, Nat.le_refl _, b0, hw⟩

set_option maxHeartbeats 1600000 in
theorem matcher_any (a l ls ms s : Int) (d : Bool) (lc pp : Int) (p q : Int) (o nx md lo : Int) (x : Option Addr) (n c : Nat) (xs : List Int) (B : Nat) (v : Bool) (w : World) (hB : Blk w B 93 #[.int .i64 a, .int .i64 l, .int .i64 ls, .int .i64 ms, .int .i64 s, .bool d, .int .i64 lc, .int .i64 pp]) (h : NsAt w x xs) (hn : xs.length = n) (hm : n ≤ 1048576) (hv : mt a l ls ms s p q xs = v) :
    Calls Tryz.prog 118 #[.agg #[.int .i64 p, .int .i64 q], .agg #[.int .i64 o, .slice x n c, .int .i64 nx, .int .i64 md, .int .i64 lo], .pointer (some ⟨B, 0, none⟩)] w fun e w' => e = .returned (.bool v) ∧ New w w' := by
  have HV : Hid (mt a l ls ms s p q xs = v) := hv
  clear hv
  have hw := ((New.refl w).alloc (.cells #[.int .i64 p, .int .i64 q] 33)).alloc (.cells #[.int .i64 o, .slice x n c, .int .i64 nx, .int .i64 md, .int .i64 lo] 36)
  have b0 := hB.new hw
  have c0 := b0.cells
  have b1 : Blk ((w.alloc (.cells #[.int .i64 p, .int .i64 q] 33)).alloc (.cells #[.int .i64 o, .slice x n c, .int .i64 nx, .int .i64 md, .int .i64 lo] 36)) w.heap.size 33 #[.int .i64 p, .int .i64 q] := (Blk.mk _ _ _ _ rfl).alloc _
  have b2 : Blk ((w.alloc (.cells #[.int .i64 p, .int .i64 q] 33)).alloc (.cells #[.int .i64 o, .slice x n c, .int .i64 nx, .int .i64 md, .int .i64 lo] 36)) (w.heap.size + 1) 36 #[.int .i64 o, .slice x n c, .int .i64 nx, .int .i64 md, .int .i64 lo] := Blk.mk _ _ _ _ (by simp)
  by_cases g1 : ls ≤ q
  case neg =>
    have hf : Hid (v = false) := by unfold Hid; rw [← HV.out]; simp [mt, g1]
    have g1' : q < ls := by omega
    go_enter Tryz.func118, Tryz.ntmps118
    go_wp2
    go_ret
    exact ⟨ret_bool hf.out.symm, hw⟩
  by_cases g2 : q ≤ ms
  case neg =>
    have hf : Hid (v = false) := by unfold Hid; rw [← HV.out]; simp [mt, g2]
    have g2' : ms < q := by omega
    go_enter Tryz.func118, Tryz.ntmps118
    go_wp2
    go_ret
    exact ⟨ret_bool (by first | (rw [hf.out]; done) | (rw [hf.out]; simp; done) | (rw [hf.out]; simp; omega)), hw⟩
  cases hi : inP p q a l
  case false =>
    have hf : Hid (v = false) := by unfold Hid; rw [← HV.out]; simp [mt, hi]
    go_enter Tryz.func118, Tryz.ntmps118
    go_wp2_with fail
    refine (implIn p q a l _).mono ?_
    rintro e w1 ⟨rfl, hn1⟩
    rw [hi]
    go_wp2
    go_ret
    exact ⟨ret_bool hf.out.symm, hw.trans hn1⟩
  go_enter Tryz.func118, Tryz.ntmps118
  go_wp2_with fail
  refine (implIn p q a l _).mono ?_
  rintro e w1 ⟨rfl, hn1⟩
  rw [hi]
  have c0' := (b0.new hn1).cells
  have c2' := (b2.new hn1).cells
  clear c0
  by_cases g3 : s = 0
  · subst g3
    have hf : Hid (v = true) := by unfold Hid; rw [← HV.out]; simp [mt, hi, g1, g2]
    go_wp2
    go_ret
    exact ⟨ret_bool hf.out.symm, hw.trans hn1⟩
  · have e3 : (s == 0) = false := by simpa using g3
    have hf : decide (s ∈ xs) = v := by rw [← HV.out]; simp [mt, hi, g1, g2, g3]
    go_wp2_with fail
    refine (contains64 x n c xs s v _ ((h.new hw).new hn1) hn hm hf).mono ?_
    rintro e w2 ⟨rfl, rfl⟩
    go_wp2
    go_ret
    exact ⟨rfl, hw.trans hn1⟩

set_option maxHeartbeats 1600000 in
theorem l6M_any (a l ls ms s : Int) (d : Bool) (lc pp : Int) (p q : Int) (o nx md lo : Int) (x : Option Addr) (n c : Nat) (xs : List Int) (v : Bool) (w : World) (h : NsAt w x xs) (hn : xs.length = n) (hm : n ≤ 1048576) (hv : mt a l ls ms s p q xs = v) :
    Calls Tryz.prog 106 #[.agg #[.int .i64 a, .int .i64 l, .int .i64 ls, .int .i64 ms, .int .i64 s, .bool d, .int .i64 lc, .int .i64 pp], .agg #[.int .i64 p, .int .i64 q], .agg #[.int .i64 o, .slice x n c, .int .i64 nx, .int .i64 md, .int .i64 lo]] w fun e w' => e = .returned (.bool v) ∧ New w w' := by
  have HV : Hid (mt a l ls ms s p q xs = v) := hv
  clear hv
  have hw := (((New.refl w).alloc (.cells #[.int .i64 a, .int .i64 l, .int .i64 ls, .int .i64 ms, .int .i64 s, .bool d, .int .i64 lc, .int .i64 pp] 93)).alloc (.cells #[.int .i64 p, .int .i64 q] 33)).alloc (.cells #[.int .i64 o, .slice x n c, .int .i64 nx, .int .i64 md, .int .i64 lo] 36)
  have b0 : Blk (((w.alloc (.cells #[.int .i64 a, .int .i64 l, .int .i64 ls, .int .i64 ms, .int .i64 s, .bool d, .int .i64 lc, .int .i64 pp] 93)).alloc (.cells #[.int .i64 p, .int .i64 q] 33)).alloc (.cells #[.int .i64 o, .slice x n c, .int .i64 nx, .int .i64 md, .int .i64 lo] 36)) w.heap.size 93 #[.int .i64 a, .int .i64 l, .int .i64 ls, .int .i64 ms, .int .i64 s, .bool d, .int .i64 lc, .int .i64 pp] := ((Blk.mk _ _ _ _ rfl).alloc _).alloc _
  have b1 : Blk (((w.alloc (.cells #[.int .i64 a, .int .i64 l, .int .i64 ls, .int .i64 ms, .int .i64 s, .bool d, .int .i64 lc, .int .i64 pp] 93)).alloc (.cells #[.int .i64 p, .int .i64 q] 33)).alloc (.cells #[.int .i64 o, .slice x n c, .int .i64 nx, .int .i64 md, .int .i64 lo] 36)) (w.heap.size + 1) 33 #[.int .i64 p, .int .i64 q] := (Blk.mk _ _ _ _ (by simp)).alloc _
  have b2 : Blk (((w.alloc (.cells #[.int .i64 a, .int .i64 l, .int .i64 ls, .int .i64 ms, .int .i64 s, .bool d, .int .i64 lc, .int .i64 pp] 93)).alloc (.cells #[.int .i64 p, .int .i64 q] 33)).alloc (.cells #[.int .i64 o, .slice x n c, .int .i64 nx, .int .i64 md, .int .i64 lo] 36)) (w.heap.size + 1 + 1) 36 #[.int .i64 o, .slice x n c, .int .i64 nx, .int .i64 md, .int .i64 lo] := Blk.mk _ _ _ _ (by simp)
  go_enter Tryz.func106, Tryz.ntmps106
  go_wp2_with fail
  refine (specIn p q a l _).mono ?_
  rintro e w1 ⟨rfl, hn1⟩
  have c0 := (b0.new hn1).cells
  have c1 := (b1.new hn1).cells
  have c2 := (b2.new hn1).cells
  have hw1 := hw.trans hn1
  have h1 := h.new hw1
  clear b0 b1 b2 hw hn1 h
  cases hi : inP p q a l
  case false =>
    have hf : Hid (v = false) := by unfold Hid; rw [← HV.out]; simp [mt, hi]
    go_wp2
    go_ret
    exact ⟨ret_bool hf.out.symm, hw1⟩
  go_wp2_with fail
  by_cases g1 : ls ≤ q ∧ q ≤ ms
  case neg =>
    have hf : Hid (v = false) := by unfold Hid; rw [← HV.out]; simp [mt]; omega
    refine (in_no q ls ms _ (by omega)).mono ?_
    rintro e w2 ⟨rfl, rfl⟩
    go_wp2
    go_ret
    exact ⟨ret_bool hf.out.symm, hw1⟩
  refine (in_yes q ls ms _ g1).mono ?_
  rintro e w2 ⟨rfl, rfl⟩
  by_cases g3 : s = 0
  · subst g3
    have hf : Hid (v = true) := by unfold Hid; rw [← HV.out]; simp [mt, hi, g1]
    go_wp2
    go_ret
    exact ⟨ret_bool hf.out.symm, hw1⟩
  · have e3 : (s == 0) = false := by simpa using g3
    have hf : decide (s ∈ xs) = v := by rw [← HV.out]; simp [mt, hi, g1, g3]
    go_wp2_with fail
    refine (specHL o nx md lo x n c xs s v _ h1 hn hm hf).mono ?_
    rintro e w2 ⟨rfl, hn2⟩
    go_wp2
    go_ret
    exact ⟨rfl, hw1.trans hn2⟩

end Go.Proofs.YtjampcfikfafkaaGreat
