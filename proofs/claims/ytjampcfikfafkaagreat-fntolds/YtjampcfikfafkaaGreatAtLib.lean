/- What is proved here: what the judging and the comparing of attributes answer, in the program and in its model, for every list of at most 1048576 numbers. -/
import Derived.Test.YtjampcfikfafkaaGreatPsFn
namespace Go.Proofs.YtjampcfikfafkaaGreat
open Go.RowKit Go.Sort
set_option linter.unusedVariables false

/-- The address leads to the numbers xs. -/
def NsAt (w : World) (a : Option Addr) (xs : List Int) : Prop :=
  ∀ i z, xs[i]? = some z → ∃ b off, a = some ⟨b, off, none⟩ ∧ w.cell? ⟨b, off + i, none⟩ = some (.int .i64 z) ∧ In6 z

theorem NsAt.nil (w : World) (a : Option Addr) : NsAt w a [] := by intro i z h; simp at h

theorem NsAt.at {w : World} {a : Option Addr} {xs : List Int} (h : NsAt w a xs) (i : Nat) (hi : i < xs.length) :
    ∃ b off z, a = some ⟨b, off, none⟩ ∧ xs[i]? = some z ∧ w.cell? ⟨b, off + i, none⟩ = some (.int .i64 z) ∧ In6 z := by
  obtain ⟨b, off, h1, h2, h3⟩ := h i _ (List.getElem?_eq_getElem hi)
  exact ⟨b, off, _, h1, List.getElem?_eq_getElem hi, h2, h3⟩

theorem NsAt.bd {w : World} {a : Option Addr} {xs : List Int} (h : NsAt w a xs) : ∀ z ∈ xs, In6 z := by
  intro z hz
  obtain ⟨i, hi, rfl⟩ := List.mem_iff_getElem.1 hz
  obtain ⟨_, _, _, _, h4⟩ := h i _ (List.getElem?_eq_getElem hi)
  exact h4

theorem NsAt.turn {w w' : World} {a : Option Addr} {xs : List Int} {S : Nat → Prop} (h : NsAt w a xs) (t : Turn S w w') (hS : ∀ x, xs ≠ [] → a = some x → ¬ S x.block) : NsAt w' a xs := by
  intro i z hz
  obtain ⟨b, off, ha, hc, hb⟩ := h i z hz
  exact ⟨b, off, ha, (World.cell?_of_block (t.block b (World.block_lt_of_cell? w _ hc) (hS _ (by rintro rfl; simp at hz) ha))).trans hc, hb⟩

theorem NsAt.new {w w' : World} {a : Option Addr} {xs : List Int} (h : NsAt w a xs) (t : New w w') : NsAt w' a xs := h.turn t (fun _ _ _ f => f)

theorem fits_yesA (x : Int) (w : World) (h : 0 ≤ x ∧ x ≤ 65535) : Calls Tryz.prog 82 #[.int .i64 x] w fun e w' => e = .returned (.bool true) ∧ w' = w := by
  obtain ⟨h1, h2⟩ := h
  go_enter Tryz.func82, Tryz.ntmps82
  go_wp2
  go_ret
  exact ⟨by simp, rfl⟩

theorem fits_noA (x : Int) (w : World) (h : x < 0 ∨ 65535 < x) : Calls Tryz.prog 82 #[.int .i64 x] w fun e w' => e = .returned (.bool false) ∧ w' = w := by
  by_cases h1 : 0 ≤ x
  · have h2 : 65535 < x := by omega
    go_enter Tryz.func82, Tryz.ntmps82
    go_wp2
    go_ret
    exact ⟨by simp; omega, rfl⟩
  · go_enter Tryz.func82, Tryz.ntmps82
    go_wp2
    go_ret
    exact ⟨rfl, rfl⟩

theorem isSys_yes (x : Int) (w : World) (h : 1 ≤ x ∧ x ≤ 65535) : Calls Tryz.prog 63 #[.int .i64 x] w fun e w' => e = .returned (.bool true) ∧ w' = w := by
  obtain ⟨h1, h2⟩ := h
  go_enter Tryz.func63, Tryz.ntmps63
  go_wp2
  go_ret
  exact ⟨by simp, rfl⟩

theorem isSys_no (x : Int) (w : World) (h : x < 1 ∨ 65535 < x) : Calls Tryz.prog 63 #[.int .i64 x] w fun e w' => e = .returned (.bool false) ∧ w' = w := by
  by_cases h1 : 1 ≤ x
  · have h2 : 65535 < x := by omega
    go_enter Tryz.func63, Tryz.ntmps63
    go_wp2
    go_ret
    exact ⟨by simp; omega, rfl⟩
  · go_enter Tryz.func63, Tryz.ntmps63
    go_wp2
    go_ret
    exact ⟨rfl, rfl⟩

theorem word_yes (x : Int) (w : World) (h : 0 ≤ x ∧ x ≤ 65535) : Calls Tryz.prog 104 #[.int .i64 x] w fun e w' => e = .returned (.bool true) ∧ w' = w := by
  go_enter Tryz.func104, Tryz.ntmps104
  go_wp2_with fail
  refine (in_yes _ _ _ _ h).mono ?_
  rintro e w1 ⟨rfl, rfl⟩
  go_wp2
  go_ret
  exact ⟨rfl, rfl⟩

theorem word_no (x : Int) (w : World) (h : x < 0 ∨ 65535 < x) : Calls Tryz.prog 104 #[.int .i64 x] w fun e w' => e = .returned (.bool false) ∧ w' = w := by
  go_enter Tryz.func104, Tryz.ntmps104
  go_wp2_with fail
  refine (in_no _ _ _ _ h).mono ?_
  rintro e w1 ⟨rfl, rfl⟩
  go_wp2
  go_ret
  exact ⟨rfl, rfl⟩

/-- The fault of a path's systems. -/
def afc : List Int → Int
  | [] => 0
  | x :: r => if 1 ≤ x ∧ x ≤ 65535 then afc r else 3
/-- A number that fits two bytes. -/
abbrev Wd (x : Int) : Prop := 0 ≤ x ∧ x ≤ 65535
/-- The numbers of attributes beside the path are right. -/
abbrev Ao (o nx md lc : Int) : Prop := (0 ≤ o ∧ o ≤ 2) ∧ Wd nx ∧ Wd md ∧ Wd lc
/-- The fault of attributes. -/
def af (o : Int) (xs : List Int) (nx md lc : Int) : Int := if Ao o nx md lc then (if 6 < xs.length then 2 else afc xs) else 3

theorem afc_next {xs : List Int} {k : Nat} {x : Int} (h : xs[k]? = some x) : afc (xs.drop k) = if 1 ≤ x ∧ x ≤ 65535 then afc (xs.drop (k + 1)) else 3 := by
  obtain ⟨hk, e⟩ := List.getElem?_eq_some_iff.1 h
  rw [List.drop_eq_getElem_cons hk, e]
  rfl
theorem af_bad {o nx md lc : Int} {xs : List Int} (h : ¬ Ao o nx md lc) : af o xs nx md lc = 3 := if_neg h
theorem af_many {o nx md lc : Int} {xs : List Int} (h : Ao o nx md lc) (hx : 6 < xs.length) : af o xs nx md lc = 2 := by unfold af; rw [if_pos h, if_pos hx]
theorem af_rest {o nx md lc : Int} {xs : List Int} (h : Ao o nx md lc) (hx : ¬ 6 < xs.length) : af o xs nx md lc = afc xs := by unfold af; rw [if_pos h, if_neg hx]

/-- The value of attributes. -/
def atV (o : Int) (a : Option Addr) (n c : Nat) (nx md lc : Int) : Value := .agg #[.int .i64 o, .slice a n c, .int .i64 nx, .int .i64 md, .int .i64 lc]

set_option maxHeartbeats 1600000 in
theorem implAF (o nx md lc : Int) (a : Option Addr) (n c : Nat) (xs : List Int) (w : World) (h : NsAt w a xs) (hn : xs.length = n) (hm : n ≤ 1048576) :
    Calls Tryz.prog 44 #[.agg #[.int .i64 o, .slice a n c, .int .i64 nx, .int .i64 md, .int .i64 lc]] w fun e w' => e = .returned (.int .i64 (af o xs nx md lc)) ∧ New w w' := by
  have hw := (New.refl w).alloc (.cells #[.int .i64 o, .slice a n c, .int .i64 nx, .int .i64 md, .int .i64 lc] 36)
  have HN : Hid (xs.length = n) := hn
  clear hn
  by_cases g1 : o < 0
  · have hf : Hid (af o xs nx md lc = 3) := af_bad (by unfold Ao; omega)
    go_enter Tryz.func44, Tryz.ntmps44
    go_wp2
    go_ret
    exact ⟨ret_i64 hf.out.symm, hw⟩
  by_cases g2 : 2 < o
  · have hf : Hid (af o xs nx md lc = 3) := af_bad (by unfold Ao; omega)
    go_enter Tryz.func44, Tryz.ntmps44
    go_wp2
    go_ret
    exact ⟨ret_i64 hf.out.symm, hw⟩
  by_cases g3 : nx < 0 ∨ 65535 < nx
  · have hf : Hid (af o xs nx md lc = 3) := af_bad (by unfold Ao Wd; omega)
    go_enter Tryz.func44, Tryz.ntmps44
    go_wp2_with fail
    refine (isAddr_no _ _ g3).mono ?_
    rintro e w1 ⟨rfl, rfl⟩
    go_wp2
    go_ret
    exact ⟨ret_i64 hf.out.symm, hw⟩
  have g3' : 0 ≤ nx ∧ nx ≤ 65535 := by omega
  by_cases g4 : md < 0 ∨ 65535 < md
  · have hf : Hid (af o xs nx md lc = 3) := af_bad (by unfold Ao Wd; omega)
    go_enter Tryz.func44, Tryz.ntmps44
    go_wp2_with fail
    refine (isAddr_yes _ _ g3').mono ?_
    rintro e w1 ⟨rfl, rfl⟩
    go_wp2_with fail
    refine (fits_noA _ _ g4).mono ?_
    rintro e w1 ⟨rfl, rfl⟩
    go_wp2
    go_ret
    exact ⟨ret_i64 hf.out.symm, hw⟩
  have g4' : 0 ≤ md ∧ md ≤ 65535 := by omega
  by_cases g5 : lc < 0 ∨ 65535 < lc
  · have hf : Hid (af o xs nx md lc = 3) := af_bad (by unfold Ao Wd; omega)
    go_enter Tryz.func44, Tryz.ntmps44
    go_wp2_with fail
    refine (isAddr_yes _ _ g3').mono ?_
    rintro e w1 ⟨rfl, rfl⟩
    go_wp2_with fail
    refine (fits_yesA _ _ g4').mono ?_
    rintro e w1 ⟨rfl, rfl⟩
    go_wp2_with fail
    refine (fits_noA _ _ g5).mono ?_
    rintro e w1 ⟨rfl, rfl⟩
    go_wp2
    go_ret
    exact ⟨ret_i64 hf.out.symm, hw⟩
  have g5' : 0 ≤ lc ∧ lc ≤ 65535 := by omega
  have ok : Hid (Ao o nx md lc) := by unfold Ao Wd Hid; omega
  clear g3 g4 g5
  go_enter Tryz.func44, Tryz.ntmps44
  go_wp2_with fail
  refine (isAddr_yes _ _ g3').mono ?_
  rintro e w1 ⟨rfl, rfl⟩
  go_wp2_with fail
  refine (fits_yesA _ _ g4').mono ?_
  rintro e w1 ⟨rfl, rfl⟩
  go_wp2_with fail
  refine (fits_yesA _ _ g5').mono ?_
  rintro e w1 ⟨rfl, rfl⟩
  by_cases g6 : 6 < n
  · have hf : Hid (af o xs nx md lc = 2) := af_many ok.out (by rw [HN.out]; exact g6)
    go_wp2
    go_ret
    exact ⟨ret_i64 hf.out.symm, hw⟩
  have hf : Hid (af o xs nx md lc = afc (xs.drop 0)) := af_rest ok.out (by rw [HN.out]; exact g6)
  go_wp2
  go_loopw [38] (fun i wr => ∃ k : Nat, k ≤ n ∧ i = .int .i64 k ∧ New w wr ∧ Hid (af o xs nx md lc = afc (xs.drop k))) (fun i _ => n - (intOf i).toNat)
  case atStart => exact ⟨0, Nat.zero_le _, rfl, hw, hf⟩
  case round =>
    obtain ⟨k, hk, rfl, hnw, hl⟩ := hrel
    by_cases hlt : k < n
    · obtain ⟨b, off, z, rfl, hz, hc, -⟩ := (h.new hnw).at k (by rw [HN.out]; exact hlt)
      have hx := afc_next hz
      by_cases hz1 : 1 ≤ z ∧ z ≤ 65535
      · have hl' : Hid (af o xs nx md lc = afc (xs.drop (k + 1))) := by unfold Hid; rw [hl.out, hx, if_pos hz1]
        clear hx hz hl
        go_wp2_with fail
        refine (isSys_yes _ _ hz1).mono ?_
        rintro e w2 ⟨rfl, rfl⟩
        go_wp2
        go_roundw
        case rel => exact ⟨k + 1, by omega, by go_num, hnw, hl'⟩
        case measure => simp [intOf]; omega
      · have hl' : Hid (af o xs nx md lc = 3) := by unfold Hid; rw [hl.out, hx, if_neg hz1]
        clear hx hz hl
        go_wp2_with fail
        refine (isSys_no z _ (by omega)).mono ?_
        rintro e w2 ⟨rfl, rfl⟩
        go_wp2
        go_ret
        exact ⟨ret_i64 hl'.out.symm, hnw⟩
    · have hl' : Hid (af o xs nx md lc = 0) := by
        unfold Hid
        rw [hl.out, List.drop_of_length_le (by rw [HN.out]; omega)]
        rfl
      go_wp2
      go_ret
      exact ⟨ret_i64 hl'.out.symm, hnw⟩

set_option maxHeartbeats 1600000 in
theorem specAF (o nx md lc : Int) (a : Option Addr) (n c : Nat) (xs : List Int) (w : World) (h : NsAt w a xs) (hn : xs.length = n) (hm : n ≤ 1048576) :
    Calls Tryz.prog 102 #[.agg #[.int .i64 o, .slice a n c, .int .i64 nx, .int .i64 md, .int .i64 lc]] w fun e w' => e = .returned (.int .i64 (af o xs nx md lc)) ∧ New w w' := by
  have hw := (New.refl w).alloc (.cells #[.int .i64 o, .slice a n c, .int .i64 nx, .int .i64 md, .int .i64 lc] 36)
  have hB : Blk (w.alloc (.cells #[.int .i64 o, .slice a n c, .int .i64 nx, .int .i64 md, .int .i64 lc] 36)) w.heap.size 36 #[.int .i64 o, .slice a n c, .int .i64 nx, .int .i64 md, .int .i64 lc] := Blk.mk _ _ _ _ rfl
  have HN : Hid (xs.length = n) := hn
  clear hn
  by_cases g1 : o < 0 ∨ 2 < o
  · have hf : Hid (af o xs nx md lc = 3) := af_bad (by unfold Ao; omega)
    go_enter Tryz.func102, Tryz.ntmps102
    go_wp2_with fail
    refine (in_no _ _ _ _ g1).mono ?_
    rintro e w1 ⟨rfl, rfl⟩
    go_wp2
    go_ret
    exact ⟨ret_i64 hf.out.symm, hw⟩
  have g1' : 0 ≤ o ∧ o ≤ 2 := by omega
  by_cases g3 : nx < 0 ∨ 65535 < nx
  · have hf : Hid (af o xs nx md lc = 3) := af_bad (by unfold Ao Wd; omega)
    go_enter Tryz.func102, Tryz.ntmps102
    go_wp2_with fail
    refine (in_yes _ _ _ _ g1').mono ?_
    rintro e w1 ⟨rfl, rfl⟩
    go_wp2_with fail
    refine (word_no _ _ g3).mono ?_
    rintro e w1 ⟨rfl, rfl⟩
    go_wp2
    go_ret
    exact ⟨ret_i64 hf.out.symm, hw⟩
  have g3' : 0 ≤ nx ∧ nx ≤ 65535 := by omega
  by_cases g4 : md < 0 ∨ 65535 < md
  · have hf : Hid (af o xs nx md lc = 3) := af_bad (by unfold Ao Wd; omega)
    go_enter Tryz.func102, Tryz.ntmps102
    go_wp2_with fail
    refine (in_yes _ _ _ _ g1').mono ?_
    rintro e w1 ⟨rfl, rfl⟩
    go_wp2_with fail
    refine (word_yes _ _ g3').mono ?_
    rintro e w1 ⟨rfl, rfl⟩
    go_wp2_with fail
    refine (word_no _ _ g4).mono ?_
    rintro e w1 ⟨rfl, rfl⟩
    go_wp2
    go_ret
    exact ⟨ret_i64 hf.out.symm, hw⟩
  have g4' : 0 ≤ md ∧ md ≤ 65535 := by omega
  by_cases g5 : lc < 0 ∨ 65535 < lc
  · have hf : Hid (af o xs nx md lc = 3) := af_bad (by unfold Ao Wd; omega)
    go_enter Tryz.func102, Tryz.ntmps102
    go_wp2_with fail
    refine (in_yes _ _ _ _ g1').mono ?_
    rintro e w1 ⟨rfl, rfl⟩
    go_wp2_with fail
    refine (word_yes _ _ g3').mono ?_
    rintro e w1 ⟨rfl, rfl⟩
    go_wp2_with fail
    refine (word_yes _ _ g4').mono ?_
    rintro e w1 ⟨rfl, rfl⟩
    go_wp2_with fail
    refine (word_no _ _ g5).mono ?_
    rintro e w1 ⟨rfl, rfl⟩
    go_wp2
    go_ret
    exact ⟨ret_i64 hf.out.symm, hw⟩
  have g5' : 0 ≤ lc ∧ lc ≤ 65535 := by omega
  have ok : Hid (Ao o nx md lc) := by unfold Ao Wd Hid; omega
  clear g1 g3 g4 g5
  go_enter Tryz.func102, Tryz.ntmps102
  go_wp2_with fail
  refine (in_yes _ _ _ _ g1').mono ?_
  rintro e w1 ⟨rfl, rfl⟩
  go_wp2_with fail
  refine (word_yes _ _ g3').mono ?_
  rintro e w1 ⟨rfl, rfl⟩
  go_wp2_with fail
  refine (word_yes _ _ g4').mono ?_
  rintro e w1 ⟨rfl, rfl⟩
  go_wp2_with fail
  refine (word_yes _ _ g5').mono ?_
  rintro e w1 ⟨rfl, rfl⟩
  by_cases g6 : 6 < n
  · have hf : Hid (af o xs nx md lc = 2) := af_many ok.out (by rw [HN.out]; exact g6)
    go_wp2
    go_ret
    exact ⟨ret_i64 hf.out.symm, hw⟩
  have hf : Hid (af o xs nx md lc = afc (xs.drop 0)) := af_rest ok.out (by rw [HN.out]; exact g6)
  go_wp2
  go_loopw [3] (fun i wr => ∃ k : Nat, k ≤ n ∧ i = .int .i64 k ∧ New w wr ∧ Blk wr w.heap.size 36 #[.int .i64 o, .slice a n c, .int .i64 nx, .int .i64 md, .int .i64 lc] ∧ Hid (af o xs nx md lc = afc (xs.drop k))) (fun i _ => n - (intOf i).toNat)
  case atStart => exact ⟨0, Nat.zero_le _, rfl, hw, hB, hf⟩
  case round =>
    obtain ⟨k, hk, rfl, hnw, hbl, hl⟩ := hrel
    have cB := hbl.cells
    by_cases hlt : k < n
    · obtain ⟨b, off, z, rfl, hz, hc, -⟩ := (h.new hnw).at k (by rw [HN.out]; exact hlt)
      have hx := afc_next hz
      by_cases hz1 : 1 ≤ z ∧ z ≤ 65535
      · have hl' : Hid (af o xs nx md lc = afc (xs.drop (k + 1))) := by unfold Hid; rw [hl.out, hx, if_pos hz1]
        clear hx hz hl
        go_wp2_with fail
        refine (in_yes _ _ _ _ hz1).mono ?_
        rintro e w2 ⟨rfl, rfl⟩
        go_wp2
        go_roundw
        case rel => exact ⟨k + 1, by omega, by go_num, hnw, hbl, hl'⟩
        case measure => simp [intOf]; omega
      · have hl' : Hid (af o xs nx md lc = 3) := by unfold Hid; rw [hl.out, hx, if_neg hz1]
        clear hx hz hl
        go_wp2_with fail
        refine (in_no z _ _ _ (by omega)).mono ?_
        rintro e w2 ⟨rfl, rfl⟩
        go_wp2
        go_ret
        exact ⟨ret_i64 hl'.out.symm, hnw⟩
    · have hl' : Hid (af o xs nx md lc = 0) := by
        unfold Hid
        rw [hl.out, List.drop_of_length_le (by rw [HN.out]; omega)]
        rfl
      go_wp2
      go_ret
      exact ⟨ret_i64 hl'.out.symm, hnw⟩

end Go.Proofs.YtjampcfikfafkaaGreat
