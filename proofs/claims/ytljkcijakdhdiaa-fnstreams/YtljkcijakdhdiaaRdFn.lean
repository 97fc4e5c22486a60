/- What is proved here: what the program's looking for a prefix with a fault, and its reading of attributes, answer. -/
import Derived.Test.YtljkcijakdhdiaaRdLib
namespace Go.Proofs.Ytljkcijakdhdiaa
open Go.RowKit Go.Sort
set_option linter.unusedVariables false

theorem hasF_is (x y : Int) (v : Bool) (w : World) (h : decide (pf x y ≠ 0) = v) : Calls Try.prog 86 #[.agg #[.int .i64 x, .int .i64 y]] w fun e w' => e = .returned (.bool v) ∧ New w w' := by
  have hw := (New.refl w).alloc (.cells #[.int .i64 x, .int .i64 y] 88)
  have HV : Hid (decide (pf x y ≠ 0) = v) := h
  clear h
  rcases pf_three x y with hp | hp | hp
  · have hx : Hid (v = false) := by unfold Hid; rw [← HV.out]; simp [hp]
    go_enter Try.func86, Try.ntmps86
    go_wp2_with fail
    refine (implPF_is x y _ _ hp).mono ?_
    rintro e w1 ⟨rfl, hn1⟩
    go_wp2
    go_ret
    exact ⟨ret_bool hx.out.symm, hw.trans hn1⟩
  all_goals
    have hx : Hid (v = true) := by unfold Hid; rw [← HV.out]; simp [hp]
    go_enter Try.func86, Try.ntmps86
    go_wp2_with fail
    refine (implPF_is x y _ _ hp).mono ?_
    rintro e w1 ⟨rfl, hn1⟩
    go_wp2
    go_ret
    exact ⟨ret_bool hx.out.symm, hw.trans hn1⟩

/-- The first place with a fault. -/
def ixF : List (Int × Int) → Int
  | [] => -1
  | p :: r => if pf p.1 p.2 ≠ 0 then 0 else if ixF r < 0 then -1 else ixF r + 1
theorem ixF_bd : ∀ ps : List (Int × Int), -1 ≤ ixF ps ∧ ixF ps < ps.length ∨ (ps = [] ∧ ixF ps = -1)
  | [] => .inr ⟨rfl, rfl⟩
  | p :: r => by
    left
    have := ixF_bd r
    simp only [ixF, List.length_cons]
    split
    · omega
    · split
      · omega
      · rcases this with h | ⟨h1, h2⟩ <;> omega
theorem ixF_neg : ∀ ps : List (Int × Int), ixF ps < 0 ↔ ∀ p ∈ ps, pf p.1 p.2 = 0
  | [] => by simp [ixF]
  | p :: r => by
    have ih := ixF_neg r
    simp only [ixF, List.mem_cons]
    constructor
    · intro h
      split at h
      · omega
      · rename_i hp
        split at h
        · rename_i hr
          rintro q (rfl | hq)
          · simpa using hp
          · exact ih.1 hr q hq
        · omega
    · intro h
      have hp := h p (.inl rfl)
      have hr := ih.2 (fun q hq => h q (.inr hq))
      rw [if_neg (by simpa using hp), if_pos hr]
      omega

set_option maxHeartbeats 1600000 in
theorem index_any (a : Option Addr) (n c : Nat) (ps : List (Int × Int)) (w : World) (h : PsAt w a ps) (hn : ps.length = n) (hm : n ≤ 1048576) :
    Calls Try.prog 98 #[.slice a n c, .func (.func 86) #[] #[]] w fun e w' => e = .returned (.int .i64 (ixF ps)) ∧ New w w' := by
  have HN : Hid (ps.length = n) := hn
  clear hn
  go_enter Try.func98, Try.ntmps98
  go_wp2
  go_loopw [8] (fun i wr => ∃ k : Nat, k ≤ n ∧ i = .int .i64 k ∧ New w wr ∧ Hid (ixF ps = if ixF (ps.drop k) < 0 then -1 else ixF (ps.drop k) + k)) (fun i _ => n - (intOf i).toNat)
  case atStart => exact ⟨0, Nat.zero_le _, rfl, New.refl _, by unfold Hid; rcases ixF_bd ps with h | ⟨_, h⟩ <;> simp <;> omega⟩
  case round =>
    obtain ⟨k, hk, rfl, hnw, hl⟩ := hrel
    by_cases hlt : k < n
    · obtain ⟨g1, o1, x, y, rfl, hp1, x0, x1⟩ := (h.new hnw).at k (by rw [HN.out]; exact hlt)
      have hd : ps.drop k = (x, y) :: ps.drop (k + 1) := by
        obtain ⟨hk', e⟩ := List.getElem?_eq_some_iff.1 hp1
        rw [List.drop_eq_getElem_cons hk', e]
      by_cases hz : pf x y = 0
      · have hl' : Hid (ixF ps = if ixF (ps.drop (k + 1)) < 0 then -1 else ixF (ps.drop (k + 1)) + ((k + 1 : Nat) : Int)) := by
          unfold Hid
          rw [hl.out, hd]
          simp only [ixF, hz, ne_eq, not_true_eq_false, if_false]
          split
          · simp
          · rw [if_neg (by omega)]; omega
        have hv : decide (pf x y ≠ 0) = false := by simp [hz]
        clear hd hp1 hl hz
        go_wp2_with fail
        refine (hasF_is x y false _ hv).mono ?_
        rintro e w1 ⟨rfl, hn1⟩
        go_wp2
        go_roundw
        case rel => exact ⟨k + 1, by omega, by go_num, hnw.trans hn1, hl'⟩
        case measure => simp [intOf]; omega
      · have hl' : Hid (ixF ps = k) := by
          unfold Hid
          rw [hl.out, hd]
          simp [ixF, hz]
        have hv : decide (pf x y ≠ 0) = true := by simp [hz]
        clear hd hp1 hl hz
        go_wp2_with fail
        refine (hasF_is x y true _ hv).mono ?_
        rintro e w1 ⟨rfl, hn1⟩
        go_wp2
        go_ret
        exact ⟨ret_i64 hl'.out.symm, hnw.trans hn1⟩
    · have hl' : Hid (ixF ps = -1) := by
        unfold Hid
        rw [hl.out, List.drop_of_length_le (by rw [HN.out]; omega)]
        simp [ixF]
      go_wp2
      go_ret
      exact ⟨ret_i64 hl'.out.symm, hnw⟩

theorem contains_is (a : Option Addr) (n c : Nat) (ps : List (Int × Int)) (v : Bool) (w : World) (h : PsAt w a ps) (hn : ps.length = n) (hm : n ≤ 1048576) (hv : decide (∃ p ∈ ps, pf p.1 p.2 ≠ 0) = v) :
    Calls Try.prog 85 #[.slice a n c, .func (.func 86) #[] #[]] w fun e w' => e = .returned (.bool v) ∧ New w w' := by
  have hd : Hid (decide (0 ≤ ixF ps) = v) := by
    unfold Hid
    rw [← hv]
    congr 1
    apply propext
    have := ixF_neg ps
    constructor
    · intro h0
      apply Classical.byContradiction
      intro hno
      have : ixF ps < 0 := this.2 (fun p hp => Classical.byContradiction fun hq => hno ⟨p, hp, hq⟩)
      omega
    · rintro ⟨p, hp, hq⟩
      apply Classical.byContradiction
      intro h0
      exact hq (this.1 (by omega) p hp)
  clear hv
  go_enter Try.func85, Try.ntmps85
  go_wp2_with fail
  refine (index_any a n c ps _ h hn hm).mono ?_
  rintro e w1 ⟨rfl, hn1⟩
  generalize ixF ps = q at *
  go_wp2
  go_ret
  exact ⟨by rw [← hd.out]; rfl, hn1⟩

theorem attrsEnd_any (b off n c : Nat) (z : Int) (w : World) (hc : w.cell? ⟨b, off, none⟩ = some (.int .u8 z)) (h0 : 0 ≤ z) (h1 : z ≤ 255) (hn : 0 < n) :
    Calls Try.prog 87 #[.slice (some ⟨b, off, none⟩) n c] w fun e w' => e = .returned (.int .i64 (8 + 2 * z)) ∧ w' = w := by
  have hwz : IntKind.i64.wrap z = z := by simp [IntKind.wrap, IntKind.signed, IntKind.bits]; omega
  have hn' : (0 : Int) < (n : Int) := by omega
  go_enter Try.func87, Try.ntmps87
  go_wp2
  go_ret
  exact ⟨rfl, rfl⟩

end Go.Proofs.Ytljkcijakdhdiaa
