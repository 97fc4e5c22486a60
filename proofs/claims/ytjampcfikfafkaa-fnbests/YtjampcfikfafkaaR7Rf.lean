/- What is proved here: what the fault of a route and of a list of routes is, in the program and in the model, for paths of at most 1048576 numbers. -/
import Derived.Test.YtjampcfikfafkaaR7Cr
import Derived.Test.YtjampcfikfafkaaR7Bt
import Derived.Test.YtjampcfikfafkaaR7Lib
import Derived.Deep.CutRange
namespace Go.Proofs.Ytjampcfikfafkaa
open Go.RowKit Go.Sort
set_option linter.unusedVariables false

/-- A peer's number. -/
abbrev Pe (p : Int) : Prop := 0 ≤ p ∧ p ≤ 2
/-- The fault of a route. -/
def rtf (p a l o : Int) (xs : List Int) (nx md lc : Int) : Int := if Pe p then (if pf a l = 0 then af o xs nx md lc else pf a l) else 3
def Rt.f (r : Rt) : Int := rtf r.p r.a r.l r.o r.xs r.nx r.md r.lc
/-- The route stands behind the other one. -/
def Rt.lt (s r : Rt) : Bool := decide (cmpR s.p s.a s.l r.p r.a r.l < 0)
/-- The fault of the routes behind one. -/
def ribC : Option Rt → List Rt → Int
  | _, [] => 0
  | none, r :: R => if r.f = 0 then ribC (some r) R else r.f
  | some s, r :: R => if r.f = 0 then (if s.lt r = true then ribC (some r) R else 1) else r.f
/-- The fault of a list of routes. -/
def ribF (R : List Rt) : Int := if 60 < R.length then 2 else ribC none R

theorem peer_yes (p : Int) (w : World) (h : Pe p) : Calls Try.prog 47 #[.int .i64 p] w fun e w' => e = .returned (.bool true) ∧ w' = w := by
  obtain ⟨h0, h1⟩ := h
  have h2 : p < 3 := by omega
  clear h1
  go_enter Try.func47, Try.ntmps47
  go_wp2
  go_ret
  exact ⟨rfl, rfl⟩
theorem peer_no (p : Int) (w : World) (h : ¬ Pe p) : Calls Try.prog 47 #[.int .i64 p] w fun e w' => e = .returned (.bool false) ∧ w' = w := by
  by_cases h0 : 0 ≤ p
  · have h1 : ¬ p < 3 := by unfold Pe at h; omega
    clear h
    go_enter Try.func47, Try.ntmps47
    go_wp2
    go_ret
    exact ⟨rfl, rfl⟩
  · clear h
    go_enter Try.func47, Try.ntmps47
    go_wp2
    go_ret
    exact ⟨rfl, rfl⟩
theorem speer_yes (p : Int) (w : World) (h : Pe p) : Calls Try.prog 53 #[.int .i64 p] w fun e w' => e = .returned (.bool true) ∧ w' = w := by
  go_enter Try.func53, Try.ntmps53
  go_wp2_with fail
  refine (in_yes _ _ _ _ h).mono ?_
  rintro e w1 ⟨rfl, rfl⟩
  go_wp2
  go_ret
  exact ⟨rfl, rfl⟩
theorem speer_no (p : Int) (w : World) (h : ¬ Pe p) : Calls Try.prog 53 #[.int .i64 p] w fun e w' => e = .returned (.bool false) ∧ w' = w := by
  have h' : p < 0 ∨ 2 < p := by unfold Pe at h; omega
  go_enter Try.func53, Try.ntmps53
  go_wp2_with fail
  refine (in_no _ _ _ _ h').mono ?_
  rintro e w1 ⟨rfl, rfl⟩
  go_wp2
  go_ret
  exact ⟨rfl, rfl⟩

set_option maxHeartbeats 3200000 in
theorem implRTF (p a l o nx md lc : Int) (x : Option Addr) (n c : Nat) (xs : List Int) (z : Int) (w : World) (h : NsAt w x xs) (hn : xs.length = n) (hm : n ≤ 1048576) (hz : rtf p a l o xs nx md lc = z) : Calls Try.prog 28 #[.agg #[.int .i64 p, .int .i64 a, .int .i64 l, .int .i64 o, .slice x n c, .int .i64 nx, .int .i64 md, .int .i64 lc]] w fun e w' => e = .returned (.int .i64 z) ∧ New w w' := by
  have N0 := (New.refl w).alloc (.cells #[.int .i64 p, .int .i64 a, .int .i64 l, .int .i64 o, .slice x n c, .int .i64 nx, .int .i64 md, .int .i64 lc] 35)
  have bA := (Blk.mk w _ 35 #[.int .i64 p, .int .i64 a, .int .i64 l, .int .i64 o, .slice x n c, .int .i64 nx, .int .i64 md, .int .i64 lc] rfl)
  have cA := bA.cells
  have HN : Hid (xs.length = n) := hn
  clear hn
  by_cases hp : Pe p
  · by_cases hf : pf a l = 0
    · have HZ : Hid (af o xs nx md lc = z) := by
        have := hz
        unfold rtf at this
        rw [if_pos hp, if_pos hf] at this
        exact this
      clear hz
      have HF : Hid (pf a l = 0) := hf
      have HP : Hid (Pe p) := hp
      clear hf hp
      go_enter Try.func28, Try.ntmps28
      go_wp2_with fail
      refine (peer_yes p _ HP.out).mono ?_
      rintro e w1 ⟨rfl, rfl⟩
      go_wp2_with fail
      refine (implPF_is a l 0 _ HF.out).mono ?_
      rintro e w2 ⟨rfl, h2⟩
      have cA := (bA.new h2).cells
      go_wp2_with fail
      refine (implAF o nx md lc x n c xs _ ((h.new N0).new h2) HN.out hm).mono ?_
      rintro e w3 ⟨rfl, h3⟩
      go_wp2
      go_ret
      exact ⟨ret_i64 HZ.out, (N0.trans h2).trans h3⟩
    · have HZ : Hid (pf a l = z) := by
        have := hz
        unfold rtf at this
        rw [if_pos hp, if_neg hf] at this
        exact this
      have hne : (z != 0) = true := by
        have := HZ.out
        rw [← this]
        simpa using hf
      clear hz
      have HP : Hid (Pe p) := hp
      clear hf hp
      go_enter Try.func28, Try.ntmps28
      go_wp2_with fail
      refine (peer_yes p _ HP.out).mono ?_
      rintro e w1 ⟨rfl, rfl⟩
      go_wp2_with fail
      refine (implPF_is a l z _ HZ.out).mono ?_
      rintro e w2 ⟨rfl, h2⟩
      go_wp2
      go_ret
      exact ⟨rfl, N0.trans h2⟩
  · have HZ : Hid (z = 3) := by
      have := hz
      unfold rtf at this
      rw [if_neg hp] at this
      exact this.symm
    clear hz
    have HP : Hid (¬ Pe p) := hp
    clear hp
    obtain rfl := HZ.out
    go_enter Try.func28, Try.ntmps28
    go_wp2_with fail
    refine (peer_no p _ HP.out).mono ?_
    rintro e w1 ⟨rfl, rfl⟩
    go_wp2
    go_ret
    exact ⟨rfl, N0⟩

set_option maxHeartbeats 3200000 in
theorem specRTF (p a l o nx md lc : Int) (x : Option Addr) (n c : Nat) (xs : List Int) (z : Int) (w : World) (h : NsAt w x xs) (hn : xs.length = n) (hm : n ≤ 1048576) (hz : rtf p a l o xs nx md lc = z) : Calls Try.prog 34 #[.agg #[.int .i64 p, .int .i64 a, .int .i64 l, .int .i64 o, .slice x n c, .int .i64 nx, .int .i64 md, .int .i64 lc]] w fun e w' => e = .returned (.int .i64 z) ∧ New w w' := by
  have N0 := (New.refl w).alloc (.cells #[.int .i64 p, .int .i64 a, .int .i64 l, .int .i64 o, .slice x n c, .int .i64 nx, .int .i64 md, .int .i64 lc] 35)
  have bA := (Blk.mk w _ 35 #[.int .i64 p, .int .i64 a, .int .i64 l, .int .i64 o, .slice x n c, .int .i64 nx, .int .i64 md, .int .i64 lc] rfl)
  have cA := bA.cells
  have HN : Hid (xs.length = n) := hn
  clear hn
  by_cases hp : Pe p
  · by_cases hf : pf a l = 0
    · have HZ : Hid (af o xs nx md lc = z) := by
        have := hz
        unfold rtf at this
        rw [if_pos hp, if_pos hf] at this
        exact this
      clear hz
      have HF : Hid (pf a l = 0) := hf
      have HP : Hid (Pe p) := hp
      clear hf hp
      go_enter Try.func34, Try.ntmps34
      go_wp2_with fail
      refine (speer_yes p _ HP.out).mono ?_
      rintro e w1 ⟨rfl, rfl⟩
      go_wp2_with fail
      refine (specPF_is a l 0 _ HF.out).mono ?_
      rintro e w2 ⟨rfl, h2⟩
      have cA := (bA.new h2).cells
      go_wp2_with fail
      refine (specAF o nx md lc x n c xs _ ((h.new N0).new h2) HN.out hm).mono ?_
      rintro e w3 ⟨rfl, h3⟩
      go_wp2
      go_ret
      exact ⟨ret_i64 HZ.out, (N0.trans h2).trans h3⟩
    · have HZ : Hid (pf a l = z) := by
        have := hz
        unfold rtf at this
        rw [if_pos hp, if_neg hf] at this
        exact this
      have hne : (z != 0) = true := by
        have := HZ.out
        rw [← this]
        simpa using hf
      clear hz
      have HP : Hid (Pe p) := hp
      clear hf hp
      go_enter Try.func34, Try.ntmps34
      go_wp2_with fail
      refine (speer_yes p _ HP.out).mono ?_
      rintro e w1 ⟨rfl, rfl⟩
      go_wp2_with fail
      refine (specPF_is a l z _ HZ.out).mono ?_
      rintro e w2 ⟨rfl, h2⟩
      go_wp2
      go_ret
      exact ⟨rfl, N0.trans h2⟩
  · have HZ : Hid (z = 3) := by
      have := hz
      unfold rtf at this
      rw [if_neg hp] at this
      exact this.symm
    clear hz
    have HP : Hid (¬ Pe p) := hp
    clear hp
    obtain rfl := HZ.out
    go_enter Try.func34, Try.ntmps34
    go_wp2_with fail
    refine (speer_no p _ HP.out).mono ?_
    rintro e w1 ⟨rfl, rfl⟩
    go_wp2
    go_ret
    exact ⟨rfl, N0⟩

set_option maxHeartbeats 1600000 in
theorem ahead7 (a l a' l' : Int) (v : Bool) (w : World) (hv : decide (orL [cmp3 a a', cmp3 l l'] < 0) = v) : Calls Try.prog 56 #[.agg #[.int .i64 a, .int .i64 l], .agg #[.int .i64 a', .int .i64 l']] w fun e w' => e = .returned (.bool v) ∧ New w w' := by
  have N0 := ((New.refl w).alloc (.cells #[.int .i64 a, .int .i64 l] 30)).alloc (.cells #[.int .i64 a', .int .i64 l'] 30)
  by_cases h : a = a'
  · have hx : (a != a') = false := by simp [h]
    by_cases hl : l < l'
    · have HV : v = true := by rw [← hv]; simp [orL, cmp3_eq h, cmp3_lt hl]
      clear hv h
      subst HV
      go_enter Try.func56, Try.ntmps56
      go_wp2
      go_ret
      exact ⟨rfl, N0⟩
    · have HV : v = false := by
        rw [← hv]
        by_cases e : l = l'
        · simp [orL, cmp3_eq h, cmp3_eq e]
        · simp [orL, cmp3_eq h, cmp3_gt (show l' < l by omega)]
      clear hv h
      subst HV
      go_enter Try.func56, Try.ntmps56
      go_wp2
      go_ret
      exact ⟨by first | rfl | exact ret_bool (decide_eq_false (by omega)), N0⟩
  · have hx : (a != a') = true := by simp [h]
    by_cases hl : a < a'
    · have HV : v = true := by rw [← hv]; simp [orL, cmp3_lt hl]
      clear hv h
      subst HV
      go_enter Try.func56, Try.ntmps56
      go_wp2
      go_ret
      exact ⟨rfl, N0⟩
    · have HV : v = false := by rw [← hv]; simp [orL, cmp3_gt (show a' < a by omega)]
      clear hv h
      subst HV
      go_enter Try.func56, Try.ntmps56
      go_wp2
      go_ret
      exact ⟨by first | rfl | exact ret_bool (decide_eq_false (by omega)), N0⟩

set_option maxHeartbeats 1600000 in
theorem behind7 (p a l o nx md lc : Int) (x : Option Addr) (n c : Nat) (p' a' l' o' nx' md' lc' : Int) (x' : Option Addr) (n' c' : Nat) (v : Bool) (w : World) (hv : decide (cmpR p a l p' a' l' < 0) = v) : Calls Try.prog 35 #[.agg #[.int .i64 p, .int .i64 a, .int .i64 l, .int .i64 o, .slice x n c, .int .i64 nx, .int .i64 md, .int .i64 lc], .agg #[.int .i64 p', .int .i64 a', .int .i64 l', .int .i64 o', .slice x' n' c', .int .i64 nx', .int .i64 md', .int .i64 lc']] w fun e w' => e = .returned (.bool v) ∧ New w w' := by
  have N0 : New w ((w.alloc (.cells #[.int .i64 p, .int .i64 a, .int .i64 l, .int .i64 o, .slice x n c, .int .i64 nx, .int .i64 md, .int .i64 lc] 35)).alloc (.cells #[.int .i64 p', .int .i64 a', .int .i64 l', .int .i64 o', .slice x' n' c', .int .i64 nx', .int .i64 md', .int .i64 lc'] 35)) := ((New.refl w).alloc _).alloc _
  have bA : Blk ((w.alloc (.cells #[.int .i64 p, .int .i64 a, .int .i64 l, .int .i64 o, .slice x n c, .int .i64 nx, .int .i64 md, .int .i64 lc] 35)).alloc (.cells #[.int .i64 p', .int .i64 a', .int .i64 l', .int .i64 o', .slice x' n' c', .int .i64 nx', .int .i64 md', .int .i64 lc'] 35)) w.heap.size 35 #[.int .i64 p, .int .i64 a, .int .i64 l, .int .i64 o, .slice x n c, .int .i64 nx, .int .i64 md, .int .i64 lc] := ((Blk.mk w _ 35 #[.int .i64 p, .int .i64 a, .int .i64 l, .int .i64 o, .slice x n c, .int .i64 nx, .int .i64 md, .int .i64 lc] rfl).alloc _)
  have bB : Blk ((w.alloc (.cells #[.int .i64 p, .int .i64 a, .int .i64 l, .int .i64 o, .slice x n c, .int .i64 nx, .int .i64 md, .int .i64 lc] 35)).alloc (.cells #[.int .i64 p', .int .i64 a', .int .i64 l', .int .i64 o', .slice x' n' c', .int .i64 nx', .int .i64 md', .int .i64 lc'] 35)) (w.heap.size + 1) 35 #[.int .i64 p', .int .i64 a', .int .i64 l', .int .i64 o', .slice x' n' c', .int .i64 nx', .int .i64 md', .int .i64 lc'] := (Blk.mk _ (w.heap.size + 1) 35 #[.int .i64 p', .int .i64 a', .int .i64 l', .int .i64 o', .slice x' n' c', .int .i64 nx', .int .i64 md', .int .i64 lc'] (by simp))
  have cA := bA.cells
  have cB := bB.cells
  by_cases ha : a = a'
  · by_cases hl : l = l'
    · subst ha
      subst hl
      have e1 : orL [cmp3 a a, cmp3 l l] = 0 := by simp [orL, cmp3]
      by_cases hp : p < p'
      · have HV : v = true := by rw [← hv]; simp [cmpR, orL, cmp3_lt hp]; simp [cmp3]
        clear hv e1
        subst HV
        go_enter Try.func35, Try.ntmps35
        go_wp2
        go_ret
        exact ⟨rfl, N0⟩
      · have HV : v = false := by
          rw [← hv]
          by_cases e : p = p'
          · simp [cmpR, orL, cmp3_eq e]; simp [cmp3]
          · simp [cmpR, orL, cmp3_gt (show p' < p by omega)]; simp [cmp3]
        clear hv e1
        subst HV
        go_enter Try.func35, Try.ntmps35
        go_wp2
        go_ret
        exact ⟨by first | rfl | exact ret_bool (decide_eq_false (by omega)), N0⟩
    · subst ha
      have HV : Hid (decide (orL [cmp3 a a, cmp3 l l'] < 0) = v) := by
        show _ = _
        rw [← hv]
        have hne : orL [cmp3 a a, cmp3 l l'] ≠ 0 := by
          rcases Int.lt_or_gt_of_ne hl with h | h
          · simp [orL, cmp3_eq (rfl : a = a), cmp3_lt h]
          · simp [orL, cmp3_eq (rfl : a = a), cmp3_gt h]
        unfold cmpR
        rw [orL_one hne]
      clear hv
      go_enter Try.func35, Try.ntmps35
      go_wp2_with fail
      refine (ahead7 a l a l' v _ HV.out).mono ?_
      rintro e w2 ⟨rfl, h2⟩
      go_wp2
      go_ret
      exact ⟨rfl, N0.trans h2⟩
  · have HV : Hid (decide (orL [cmp3 a a', cmp3 l l'] < 0) = v) := by
      show _ = _
      rw [← hv]
      have hne : orL [cmp3 a a', cmp3 l l'] ≠ 0 := by
        rcases Int.lt_or_gt_of_ne ha with h | h
        · simp [orL, cmp3_lt h]
        · simp [orL, cmp3_gt h]
      unfold cmpR
      rw [orL_one hne]
    clear hv
    go_enter Try.func35, Try.ntmps35
    go_wp2_with fail
    refine (ahead7 a l a' l' v _ HV.out).mono ?_
    rintro e w2 ⟨rfl, h2⟩
    go_wp2
    go_ret
    exact ⟨rfl, N0.trans h2⟩

theorem ribC_next {q : Option Rt} {R : List Rt} {k : Nat} {r : Rt} (h : R[k]? = some r) : ribC q (R.drop k) = if r.f = 0 then (if (match q with | none => true | some s => s.lt r) = true then ribC (some r) (R.drop (k + 1)) else 1) else r.f := by
  obtain ⟨hk, e⟩ := List.getElem?_eq_some_iff.1 h
  rw [List.drop_eq_getElem_cons hk, e]
  cases q <;> simp [ribC]

end Go.Proofs.Ytjampcfikfafkaa
