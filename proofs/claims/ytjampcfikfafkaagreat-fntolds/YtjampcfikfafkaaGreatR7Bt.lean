/- What is proved here: what BetterRoute answers, in the program and in the model, at all numbers. The paths have at most 1048576 numbers. -/
import Derived.Test.YtjampcfikfafkaaGreatR7Cmp
import Derived.Deep.CutRange
namespace Go.Proofs.YtjampcfikfafkaaGreat
open Go.RowKit Go.Sort
set_option linter.unusedVariables false

theorem cmp3_eq {x y : Int} (h : x = y) : cmp3 x y = 0 := by subst h; simp [cmp3]
theorem cmp3_lt {x y : Int} (h : x < y) : cmp3 x y = -1 := by unfold cmp3; rw [if_pos h]
theorem cmp3_gt {x y : Int} (h : y < x) : cmp3 x y = 1 := by unfold cmp3; rw [if_neg (by omega), if_pos h]
theorem orL_zero {c : Int} {q : List Int} (h : c = 0) : orL (c :: q) = orL q := by simp [orL, h]
theorem orL_one {c : Int} {q : List Int} (h : c ≠ 0) : orL (c :: q) = c := by simp [orL, h]

set_option maxHeartbeats 6400000 in
theorem specBT (p a l o nx md lc : Int) (x : Option Addr) (n c : Nat) (p' a' l' o' nx' md' lc' : Int) (x' : Option Addr) (n' c' : Nat) (v : Bool) (w : World) (hn : n ≤ 1048576) (hn' : n' ≤ 1048576) (hv : decide (cmpW p o md lc n p' o' md' lc' n' < 0) = v) : Calls Tryz.prog 124 #[.agg #[.int .i64 p, .int .i64 a, .int .i64 l, .int .i64 o, .slice x n c, .int .i64 nx, .int .i64 md, .int .i64 lc], .agg #[.int .i64 p', .int .i64 a', .int .i64 l', .int .i64 o', .slice x' n' c', .int .i64 nx', .int .i64 md', .int .i64 lc']] w fun e w' => e = .returned (.bool v) ∧ New w w' := by
  have N0 := ((New.refl w).alloc (.cells #[.int .i64 p, .int .i64 a, .int .i64 l, .int .i64 o, .slice x n c, .int .i64 nx, .int .i64 md, .int .i64 lc] 38)).alloc (.cells #[.int .i64 p', .int .i64 a', .int .i64 l', .int .i64 o', .slice x' n' c', .int .i64 nx', .int .i64 md', .int .i64 lc'] 38)
  have bA : Blk ((w.alloc (.cells #[.int .i64 p, .int .i64 a, .int .i64 l, .int .i64 o, .slice x n c, .int .i64 nx, .int .i64 md, .int .i64 lc] 38)).alloc (.cells #[.int .i64 p', .int .i64 a', .int .i64 l', .int .i64 o', .slice x' n' c', .int .i64 nx', .int .i64 md', .int .i64 lc'] 38)) w.heap.size 38 #[.int .i64 p, .int .i64 a, .int .i64 l, .int .i64 o, .slice x n c, .int .i64 nx, .int .i64 md, .int .i64 lc] := ((Blk.mk w _ 38 #[.int .i64 p, .int .i64 a, .int .i64 l, .int .i64 o, .slice x n c, .int .i64 nx, .int .i64 md, .int .i64 lc] rfl).alloc _)
  have bB : Blk ((w.alloc (.cells #[.int .i64 p, .int .i64 a, .int .i64 l, .int .i64 o, .slice x n c, .int .i64 nx, .int .i64 md, .int .i64 lc] 38)).alloc (.cells #[.int .i64 p', .int .i64 a', .int .i64 l', .int .i64 o', .slice x' n' c', .int .i64 nx', .int .i64 md', .int .i64 lc'] 38)) (w.heap.size + 1) 38 #[.int .i64 p', .int .i64 a', .int .i64 l', .int .i64 o', .slice x' n' c', .int .i64 nx', .int .i64 md', .int .i64 lc'] := (Blk.mk _ (w.heap.size + 1) 38 #[.int .i64 p', .int .i64 a', .int .i64 l', .int .i64 o', .slice x' n' c', .int .i64 nx', .int .i64 md', .int .i64 lc'] (by simp))
  have cA := bA.cells
  have cB := bB.cells
  have HV : Hid (decide (cmpW p o md lc n p' o' md' lc' n' < 0) = v) := hv
  clear hv bA bB
  by_cases e0 : lc' = lc
  · have z0 : (lc != lc') = false := by simp; omega
    by_cases e1 : n = n'
    · have z1 : ((n : Int) != (n' : Int)) = false := by simp; omega
      by_cases e2 : o = o'
      · have z2 : (o != o') = false := by simp; omega
        by_cases e3 : md = md'
        · have z3 : (md != md') = false := by simp; omega
          by_cases e4 : p < p'
          · have q0 : cmp3 lc' lc = 0 := cmp3_eq (by omega)
            have q1 : cmp3 n n' = 0 := cmp3_eq (by omega)
            have q2 : cmp3 o o' = 0 := cmp3_eq (by omega)
            have q3 : cmp3 md md' = 0 := cmp3_eq (by omega)
            have qk : cmp3 p p' = -1 := cmp3_lt (by omega)
            have HB : v = true := by
              have := HV.out
              rw [← this]; simp [cmpW, orL, q0, q1, q2, q3, qk]
            clear HV qk q0 e0 q1 e1 q2 e2 q3 e3
            subst HB
            go_enter Tryz.func124, Tryz.ntmps124
            go_wp2
            go_ret
            exact ⟨rfl, N0⟩
          · by_cases f4 : p' < p
            · have q0 : cmp3 lc' lc = 0 := cmp3_eq (by omega)
              have q1 : cmp3 n n' = 0 := cmp3_eq (by omega)
              have q2 : cmp3 o o' = 0 := cmp3_eq (by omega)
              have q3 : cmp3 md md' = 0 := cmp3_eq (by omega)
              have qk : cmp3 p p' = 1 := cmp3_gt (by omega)
              have HB : v = false := by
                have := HV.out
                rw [← this]; simp [cmpW, orL, q0, q1, q2, q3, qk]
              clear HV qk q0 e0 q1 e1 q2 e2 q3 e3
              subst HB
              go_enter Tryz.func124, Tryz.ntmps124
              go_wp2
              go_ret
              exact ⟨rfl, N0⟩
            · have q0 : cmp3 lc' lc = 0 := cmp3_eq (by omega)
              have q1 : cmp3 n n' = 0 := cmp3_eq (by omega)
              have q2 : cmp3 o o' = 0 := cmp3_eq (by omega)
              have q3 : cmp3 md md' = 0 := cmp3_eq (by omega)
              have qk : cmp3 p p' = 0 := cmp3_eq (by omega)
              have HB : v = false := by
                have := HV.out
                rw [← this]; simp [cmpW, orL, q0, q1, q2, q3, qk]
              clear HV qk q0 e0 q1 e1 q2 e2 q3 e3
              subst HB
              go_enter Tryz.func124, Tryz.ntmps124
              go_wp2
              go_ret
              exact ⟨rfl, N0⟩
        · have z3 : (md != md') = true := by simp; omega
          by_cases f3 : md < md'
          · have q0 : cmp3 lc' lc = 0 := cmp3_eq (by omega)
            have q1 : cmp3 n n' = 0 := cmp3_eq (by omega)
            have q2 : cmp3 o o' = 0 := cmp3_eq (by omega)
            have qk : cmp3 md md' = -1 := cmp3_lt (by omega)
            have HB : v = true := by
              have := HV.out
              rw [← this]; simp [cmpW, orL, q0, q1, q2, qk]
            clear HV qk q0 e0 q1 e1 q2 e2
            subst HB
            go_enter Tryz.func124, Tryz.ntmps124
            go_wp2
            go_ret
            exact ⟨rfl, N0⟩
          · have q0 : cmp3 lc' lc = 0 := cmp3_eq (by omega)
            have q1 : cmp3 n n' = 0 := cmp3_eq (by omega)
            have q2 : cmp3 o o' = 0 := cmp3_eq (by omega)
            have qk : cmp3 md md' = 1 := cmp3_gt (by omega)
            have HB : v = false := by
              have := HV.out
              rw [← this]; simp [cmpW, orL, q0, q1, q2, qk]
            clear HV qk q0 e0 q1 e1 q2 e2
            subst HB
            go_enter Tryz.func124, Tryz.ntmps124
            go_wp2
            go_ret
            exact ⟨rfl, N0⟩
      · have z2 : (o != o') = true := by simp; omega
        by_cases f2 : o < o'
        · have q0 : cmp3 lc' lc = 0 := cmp3_eq (by omega)
          have q1 : cmp3 n n' = 0 := cmp3_eq (by omega)
          have qk : cmp3 o o' = -1 := cmp3_lt (by omega)
          have HB : v = true := by
            have := HV.out
            rw [← this]; simp [cmpW, orL, q0, q1, qk]
          clear HV qk q0 e0 q1 e1
          subst HB
          go_enter Tryz.func124, Tryz.ntmps124
          go_wp2
          go_ret
          exact ⟨rfl, N0⟩
        · have q0 : cmp3 lc' lc = 0 := cmp3_eq (by omega)
          have q1 : cmp3 n n' = 0 := cmp3_eq (by omega)
          have qk : cmp3 o o' = 1 := cmp3_gt (by omega)
          have HB : v = false := by
            have := HV.out
            rw [← this]; simp [cmpW, orL, q0, q1, qk]
          clear HV qk q0 e0 q1 e1
          subst HB
          go_enter Tryz.func124, Tryz.ntmps124
          go_wp2
          go_ret
          exact ⟨rfl, N0⟩
    · have z1 : ((n : Int) != (n' : Int)) = true := by simp; omega
      by_cases f1 : n < n'
      · have q0 : cmp3 lc' lc = 0 := cmp3_eq (by omega)
        have qk : cmp3 n n' = -1 := cmp3_lt (by omega)
        have HB : v = true := by
          have := HV.out
          rw [← this]; simp [cmpW, orL, q0, qk]
        clear HV qk q0 e0
        subst HB
        go_enter Tryz.func124, Tryz.ntmps124
        go_wp2
        go_ret
        exact ⟨rfl, N0⟩
      · have q0 : cmp3 lc' lc = 0 := cmp3_eq (by omega)
        have qk : cmp3 n n' = 1 := cmp3_gt (by omega)
        have HB : v = false := by
          have := HV.out
          rw [← this]; simp [cmpW, orL, q0, qk]
        clear HV qk q0 e0
        subst HB
        go_enter Tryz.func124, Tryz.ntmps124
        go_wp2
        go_ret
        exact ⟨rfl, N0⟩
  · have z0 : (lc != lc') = true := by simp; omega
    by_cases f0 : lc' < lc
    · have qk : cmp3 lc' lc = -1 := cmp3_lt (by omega)
      have HB : v = true := by
        have := HV.out
        rw [← this]; simp [cmpW, orL, qk]
      clear HV qk 
      subst HB
      go_enter Tryz.func124, Tryz.ntmps124
      go_wp2
      go_ret
      exact ⟨rfl, N0⟩
    · have qk : cmp3 lc' lc = 1 := cmp3_gt (by omega)
      have HB : v = false := by
        have := HV.out
        rw [← this]; simp [cmpW, orL, qk]
      clear HV qk 
      subst HB
      go_enter Tryz.func124, Tryz.ntmps124
      go_wp2
      go_ret
      exact ⟨rfl, N0⟩

end Go.Proofs.YtjampcfikfafkaaGreat
