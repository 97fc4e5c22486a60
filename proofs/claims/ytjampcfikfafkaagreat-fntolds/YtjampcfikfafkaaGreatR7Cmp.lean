/- What is proved here: what the program's comparing of two routes answers, at all numbers. No condition. -/
import Derived.Test.YtjampcfikfafkaaGreatAtLaw
import Derived.Deep.RegionHeld3
namespace Go.Proofs.YtjampcfikfafkaaGreat
open Go.RowKit Go.Sort
set_option linter.unusedVariables false

theorem New.drew_mark7 {a b : World} : New a.drew b ↔ New a b := ⟨fun h => ⟨h.os, h.tape, h.output, h.size, h.block⟩, fun h => ⟨h.os, h.tape, h.output, h.size, h.block⟩⟩
/-- What was laid down lies there still. -/
def NewA7 (X : World) (o : Obj) (Y : World) : Prop := New (X.alloc o) Y
theorem New.alloc_mark7 {X Y : World} {o : Obj} : New (X.alloc o) Y ↔ (New X Y ∧ NewA7 X o Y) := ⟨fun h => ⟨((New.refl X).alloc o).trans h, h⟩, fun h => h.2⟩
theorem Blk.laid7 {X Y : World} {t : TypeId} {cs : Array Value} (h : NewA7 X (.cells cs t) Y) : Blk Y X.heap.size t cs := (Blk.mk X _ t cs rfl).new h

def cmp3 (x y : Int) : Int := if x < y then -1 else if y < x then 1 else 0
/-- The first number that is not 0. -/
def orL : List Int → Int
  | [] => 0
  | c :: q => if c = 0 then orL q else c
theorem orL_next {cs : List Int} {k : Nat} {c : Int} (h : cs[k]? = some c) : orL (cs.drop k) = if c = 0 then orL (cs.drop (k + 1)) else c := by
  obtain ⟨hk, e⟩ := List.getElem?_eq_some_iff.1 h
  rw [List.drop_eq_getElem_cons hk, e]
  rfl

theorem compare_any (x y : Int) (w : World) : Calls Tryz.prog 84 #[.int .i64 x, .int .i64 y] w fun e w' => e = .returned (.int .i64 (cmp3 x y)) ∧ w' = w := by
  have hx : (x != x) = false := by simp
  have hy : (y != y) = false := by simp
  by_cases h1 : x < y
  · have hf : Hid (cmp3 x y = -1) := by unfold Hid cmp3; rw [if_pos h1]
    go_enter Tryz.func84, Tryz.ntmps84
    go_wp2
    go_ret
    exact ⟨ret_i64 hf.out.symm, rfl⟩
  · by_cases h2 : y < x
    · have hf : Hid (cmp3 x y = 1) := by unfold Hid cmp3; rw [if_neg h1, if_pos h2]
      go_enter Tryz.func84, Tryz.ntmps84
      go_wp2
      go_ret
      exact ⟨ret_i64 hf.out.symm, rfl⟩
    · have hf : Hid (cmp3 x y = 0) := by unfold Hid cmp3; rw [if_neg h1, if_neg h2]
      go_enter Tryz.func84, Tryz.ntmps84
      go_wp2
      go_ret
      exact ⟨ret_i64 hf.out.symm, rfl⟩

theorem compare_int (x y : Int) (w : World) : Calls Tryz.prog 156 #[.int .i64 x, .int .i64 y] w fun e w' => e = .returned (.int .i64 (cmp3 x y)) ∧ w' = w := by
  have hx : (x != x) = false := by simp
  have hy : (y != y) = false := by simp
  by_cases h1 : x < y
  · have hf : Hid (cmp3 x y = -1) := by unfold Hid cmp3; rw [if_pos h1]
    go_enter Tryz.func156, Tryz.ntmps156
    go_wp2
    go_ret
    exact ⟨ret_i64 hf.out.symm, rfl⟩
  · by_cases h2 : y < x
    · have hf : Hid (cmp3 x y = 1) := by unfold Hid cmp3; rw [if_neg h1, if_pos h2]
      go_enter Tryz.func156, Tryz.ntmps156
      go_wp2
      go_ret
      exact ⟨ret_i64 hf.out.symm, rfl⟩
    · have hf : Hid (cmp3 x y = 0) := by unfold Hid cmp3; rw [if_neg h1, if_neg h2]
      go_enter Tryz.func156, Tryz.ntmps156
      go_wp2
      go_ret
      exact ⟨ret_i64 hf.out.symm, rfl⟩

set_option maxHeartbeats 800000 in
theorem or_list (cs : List Int) (n L : Nat) (w : World) (hn : cs.length = n) (hm : n ≤ 100) (h : ∀ i z, cs[i]? = some z → w.cell? ⟨L, i, none⟩ = some (.int .i64 z)) : Calls Tryz.prog 83 #[.slice (some ⟨L, 0, none⟩) n n] w fun e w' => e = .returned (.int .i64 (orL cs)) ∧ w' = w := by
  have HN : Hid (cs.length = n) := hn
  clear hn
  go_enter Tryz.func83, Tryz.ntmps83
  go_wp2_with fail
  go_loopw [8] (fun i wr => ∃ k : Nat, k ≤ n ∧ i = .int .i64 k ∧ wr = w ∧ orL cs = orL (cs.drop k)) (fun i _ => n - (intOf i).toNat)
  case atStart => exact ⟨0, Nat.zero_le _, rfl, rfl, rfl⟩
  case round =>
    obtain ⟨k, hk, rfl, rfl, he⟩ := hrel
    by_cases hlt : k < n
    · obtain ⟨z, hz⟩ : ∃ z, cs[k]? = some z := ⟨_, List.getElem?_eq_getElem (by have := HN.out; omega)⟩
      have hc := h k z hz
      have he' := he
      rw [orL_next hz] at he'
      by_cases h0 : z = 0
      · subst h0
        have hz0 : ((0 : Int) != 0) = false := rfl
        rw [if_pos rfl] at he'
        have HE : Hid _ := he'
        clear he he' hz
        go_wp2
        go_roundw
        case rel => exact ⟨k + 1, by omega, by go_num, by trivial, HE.out⟩
        case measure => simp [intOf]; omega
      · have hz0 : (z != 0) = true := by simpa using h0
        rw [if_neg h0] at he'
        have HE : Hid _ := he'
        clear he he' hz
        go_wp2
        go_ret
        exact ⟨ret_i64 HE.out.symm, rfl⟩
    · have hkn : cs.drop k = [] := List.drop_eq_nil_of_le (by have := HN.out; omega)
      rw [hkn] at he
      have HE : Hid (orL cs = 0) := he
      clear he
      go_wp2
      go_ret
      exact ⟨ret_i64 HE.out.symm, rfl⟩

theorem or_at (cs : List Int) (r : Int) (n L : Nat) (w : World) (hr : orL cs = r) (hn : cs.length = n) (hm : n ≤ 100) (h : Blk w L 3 (cs.map (Value.int .i64)).toArray) : Calls Tryz.prog 83 #[.slice (some ⟨L, 0, none⟩) n n] w fun e w' => e = .returned (.int .i64 r) ∧ w' = w := by
  subst hr
  refine or_list cs n L w hn hm ?_
  intro i z hz
  rw [h.cells i]
  simp [hz]

/-- Which of two routes is better. -/
def cmpW (p o md lc : Int) (n : Nat) (p' o' md' lc' : Int) (n' : Nat) : Int := orL [cmp3 lc' lc, cmp3 n n', cmp3 o o', cmp3 md md', cmp3 p p']
/-- Which of two routes stands ahead. -/
def cmpR (p a l p' a' l' : Int) : Int := orL [orL [cmp3 a a', cmp3 l l'], cmp3 p p']

set_option maxHeartbeats 6400000 in
theorem worth_any (p a l o nx md lc : Int) (x : Option Addr) (n c : Nat) (p' a' l' o' nx' md' lc' : Int) (x' : Option Addr) (n' c' : Nat) (w : World) (hn : n ≤ 1048576) (hn' : n' ≤ 1048576) : Calls Tryz.prog 155 #[.agg #[.int .i64 p, .int .i64 a, .int .i64 l, .int .i64 o, .slice x n c, .int .i64 nx, .int .i64 md, .int .i64 lc], .agg #[.int .i64 p', .int .i64 a', .int .i64 l', .int .i64 o', .slice x' n' c', .int .i64 nx', .int .i64 md', .int .i64 lc']] w fun e w' => e = .returned (.int .i64 (cmpW p o md lc n p' o' md' lc' n')) ∧ New w w' := by
  have hN := (((New.refl w).alloc (.cells #[.int .i64 p, .int .i64 a, .int .i64 l, .int .i64 o, .slice x n c, .int .i64 nx, .int .i64 md, .int .i64 lc] 38)).alloc (.cells #[.int .i64 p', .int .i64 a', .int .i64 l', .int .i64 o', .slice x' n' c', .int .i64 nx', .int .i64 md', .int .i64 lc'] 38)).alloc (.cells #[.int .i64 (cmp3 lc' lc), .int .i64 (cmp3 n n'), .int .i64 (cmp3 o o'), .int .i64 (cmp3 md md'), .int .i64 (cmp3 p p')] 3)
  have kk : Hid (Calls Tryz.prog 83 #[.slice (some ⟨w.heap.size + 1 + 1, 0, none⟩) 5 5] (((w.alloc (.cells #[.int .i64 p, .int .i64 a, .int .i64 l, .int .i64 o, .slice x n c, .int .i64 nx, .int .i64 md, .int .i64 lc] 38)).alloc (.cells #[.int .i64 p', .int .i64 a', .int .i64 l', .int .i64 o', .slice x' n' c', .int .i64 nx', .int .i64 md', .int .i64 lc'] 38)).alloc (.cells #[.int .i64 (cmp3 lc' lc), .int .i64 (cmp3 n n'), .int .i64 (cmp3 o o'), .int .i64 (cmp3 md md'), .int .i64 (cmp3 p p')] 3)).drew fun e w' => e = .returned (.int .i64 (cmpW p o md lc n p' o' md' lc' n')) ∧ w' = (((w.alloc (.cells #[.int .i64 p, .int .i64 a, .int .i64 l, .int .i64 o, .slice x n c, .int .i64 nx, .int .i64 md, .int .i64 lc] 38)).alloc (.cells #[.int .i64 p', .int .i64 a', .int .i64 l', .int .i64 o', .slice x' n' c', .int .i64 nx', .int .i64 md', .int .i64 lc'] 38)).alloc (.cells #[.int .i64 (cmp3 lc' lc), .int .i64 (cmp3 n n'), .int .i64 (cmp3 o o'), .int .i64 (cmp3 md md'), .int .i64 (cmp3 p p')] 3)).drew) :=
    or_at [cmp3 lc' lc, cmp3 n n', cmp3 o o', cmp3 md md', cmp3 p p'] _ 5 _ _ rfl rfl (by omega) ((Blk.mk _ _ _ _ (by simp)).new (New.refl _).drew)
  have cA : ∀ j, ((w.alloc (.cells #[.int .i64 p, .int .i64 a, .int .i64 l, .int .i64 o, .slice x n c, .int .i64 nx, .int .i64 md, .int .i64 lc] 38)).alloc (.cells #[.int .i64 p', .int .i64 a', .int .i64 l', .int .i64 o', .slice x' n' c', .int .i64 nx', .int .i64 md', .int .i64 lc'] 38)).cell? ⟨w.heap.size, j, none⟩ = #[Value.int .i64 p, .int .i64 a, .int .i64 l, .int .i64 o, .slice x n c, .int .i64 nx, .int .i64 md, .int .i64 lc][j]? := ((Blk.mk w _ 38 #[.int .i64 p, .int .i64 a, .int .i64 l, .int .i64 o, .slice x n c, .int .i64 nx, .int .i64 md, .int .i64 lc] rfl).alloc _).cells
  have cB : ∀ j, ((w.alloc (.cells #[.int .i64 p, .int .i64 a, .int .i64 l, .int .i64 o, .slice x n c, .int .i64 nx, .int .i64 md, .int .i64 lc] 38)).alloc (.cells #[.int .i64 p', .int .i64 a', .int .i64 l', .int .i64 o', .slice x' n' c', .int .i64 nx', .int .i64 md', .int .i64 lc'] 38)).cell? ⟨w.heap.size + 1, j, none⟩ = #[Value.int .i64 p', .int .i64 a', .int .i64 l', .int .i64 o', .slice x' n' c', .int .i64 nx', .int .i64 md', .int .i64 lc'][j]? := (Blk.mk _ (w.heap.size + 1) 38 #[.int .i64 p', .int .i64 a', .int .i64 l', .int .i64 o', .slice x' n' c', .int .i64 nx', .int .i64 md', .int .i64 lc'] (by simp)).cells
  have kA : ∀ ob j, (((w.alloc (.cells #[.int .i64 p, .int .i64 a, .int .i64 l, .int .i64 o, .slice x n c, .int .i64 nx, .int .i64 md, .int .i64 lc] 38)).alloc (.cells #[.int .i64 p', .int .i64 a', .int .i64 l', .int .i64 o', .slice x' n' c', .int .i64 nx', .int .i64 md', .int .i64 lc'] 38)).alloc ob).cell? ⟨w.heap.size, j, none⟩ = #[Value.int .i64 p, .int .i64 a, .int .i64 l, .int .i64 o, .slice x n c, .int .i64 nx, .int .i64 md, .int .i64 lc][j]? := fun ob => (((Blk.mk w _ 38 #[.int .i64 p, .int .i64 a, .int .i64 l, .int .i64 o, .slice x n c, .int .i64 nx, .int .i64 md, .int .i64 lc] rfl).alloc _).alloc ob).cells
  have kB : ∀ ob j, (((w.alloc (.cells #[.int .i64 p, .int .i64 a, .int .i64 l, .int .i64 o, .slice x n c, .int .i64 nx, .int .i64 md, .int .i64 lc] 38)).alloc (.cells #[.int .i64 p', .int .i64 a', .int .i64 l', .int .i64 o', .slice x' n' c', .int .i64 nx', .int .i64 md', .int .i64 lc'] 38)).alloc ob).cell? ⟨w.heap.size + 1, j, none⟩ = #[Value.int .i64 p', .int .i64 a', .int .i64 l', .int .i64 o', .slice x' n' c', .int .i64 nx', .int .i64 md', .int .i64 lc'][j]? := fun ob => ((Blk.mk _ (w.heap.size + 1) 38 #[.int .i64 p', .int .i64 a', .int .i64 l', .int .i64 o', .slice x' n' c', .int .i64 nx', .int .i64 md', .int .i64 lc'] (by simp)).alloc ob).cells
  go_enter Tryz.func155, Tryz.ntmps155
  go_wp2_with fail
  go_region_held3 (fun W' => (∀ j, W'.cell? ⟨w.heap.size, j, none⟩ = #[Value.int .i64 p, .int .i64 a, .int .i64 l, .int .i64 o, .slice x n c, .int .i64 nx, .int .i64 md, .int .i64 lc][j]?) ∧ (∀ j, W'.cell? ⟨w.heap.size + 1, j, none⟩ = #[Value.int .i64 p', .int .i64 a', .int .i64 l', .int .i64 o', .slice x' n' c', .int .i64 nx', .int .i64 md', .int .i64 lc'][j]?)) (first | exact ⟨cA, cB⟩ | exact ⟨kA _, kB _⟩)
    (first
      | (go_at_call 84; refine (compare_any _ _ _).mono ?_; rintro e w' ⟨rfl, rfl⟩)
      | (go_at_call 156; refine (compare_int _ _ _).mono ?_; rintro e w' ⟨rfl, rfl⟩)
      | (go_at_call 83; refine kk.out.mono ?_; rintro e w' ⟨rfl, rfl⟩))
  all_goals
    go_wp2
    go_ret
    exact ⟨rfl, hN.drew⟩

set_option maxHeartbeats 3200000 in
theorem prefs_any (a l a' l' : Int) (w : World) : Calls Tryz.prog 45 #[.agg #[.int .i64 a, .int .i64 l], .agg #[.int .i64 a', .int .i64 l']] w fun e w' => e = .returned (.int .i64 (orL [cmp3 a a', cmp3 l l'])) ∧ New w w' := by
  have hN := (((New.refl w).alloc (.cells #[.int .i64 a, .int .i64 l] 33)).alloc (.cells #[.int .i64 a', .int .i64 l'] 33)).alloc (.cells #[.int .i64 (cmp3 a a'), .int .i64 (cmp3 l l')] 3)
  have kk : Hid (Calls Tryz.prog 83 #[.slice (some ⟨w.heap.size + 1 + 1, 0, none⟩) 2 2] (((w.alloc (.cells #[.int .i64 a, .int .i64 l] 33)).alloc (.cells #[.int .i64 a', .int .i64 l'] 33)).alloc (.cells #[.int .i64 (cmp3 a a'), .int .i64 (cmp3 l l')] 3)).drew fun e w' => e = .returned (.int .i64 (orL [cmp3 a a', cmp3 l l'])) ∧ w' = (((w.alloc (.cells #[.int .i64 a, .int .i64 l] 33)).alloc (.cells #[.int .i64 a', .int .i64 l'] 33)).alloc (.cells #[.int .i64 (cmp3 a a'), .int .i64 (cmp3 l l')] 3)).drew) :=
    or_at [cmp3 a a', cmp3 l l'] _ 2 _ _ rfl rfl (by omega) ((Blk.mk _ _ _ _ (by simp)).new (New.refl _).drew)
  have cA : ∀ j, ((w.alloc (.cells #[.int .i64 a, .int .i64 l] 33)).alloc (.cells #[.int .i64 a', .int .i64 l'] 33)).cell? ⟨w.heap.size, j, none⟩ = #[Value.int .i64 a, .int .i64 l][j]? := ((Blk.mk w _ 33 #[.int .i64 a, .int .i64 l] rfl).alloc _).cells
  have cB : ∀ j, ((w.alloc (.cells #[.int .i64 a, .int .i64 l] 33)).alloc (.cells #[.int .i64 a', .int .i64 l'] 33)).cell? ⟨w.heap.size + 1, j, none⟩ = #[Value.int .i64 a', .int .i64 l'][j]? := (Blk.mk _ (w.heap.size + 1) 33 #[.int .i64 a', .int .i64 l'] (by simp)).cells
  have kA : ∀ ob j, (((w.alloc (.cells #[.int .i64 a, .int .i64 l] 33)).alloc (.cells #[.int .i64 a', .int .i64 l'] 33)).alloc ob).cell? ⟨w.heap.size, j, none⟩ = #[Value.int .i64 a, .int .i64 l][j]? := fun ob => (((Blk.mk w _ 33 #[.int .i64 a, .int .i64 l] rfl).alloc _).alloc ob).cells
  have kB : ∀ ob j, (((w.alloc (.cells #[.int .i64 a, .int .i64 l] 33)).alloc (.cells #[.int .i64 a', .int .i64 l'] 33)).alloc ob).cell? ⟨w.heap.size + 1, j, none⟩ = #[Value.int .i64 a', .int .i64 l'][j]? := fun ob => ((Blk.mk _ (w.heap.size + 1) 33 #[.int .i64 a', .int .i64 l'] (by simp)).alloc ob).cells
  go_enter Tryz.func45, Tryz.ntmps45
  go_wp2_with fail
  go_region_held3 (fun W' => (∀ j, W'.cell? ⟨w.heap.size, j, none⟩ = #[Value.int .i64 a, .int .i64 l][j]?) ∧ (∀ j, W'.cell? ⟨w.heap.size + 1, j, none⟩ = #[Value.int .i64 a', .int .i64 l'][j]?)) (first | exact ⟨cA, cB⟩ | exact ⟨kA _, kB _⟩)
    (first
      | (go_at_call 84; refine (compare_any _ _ _).mono ?_; rintro e w' ⟨rfl, rfl⟩)
      | (go_at_call 83; refine kk.out.mono ?_; rintro e w' ⟨rfl, rfl⟩))
  all_goals
    go_wp2
    go_ret
    exact ⟨rfl, hN.drew⟩

end Go.Proofs.YtjampcfikfafkaaGreat
