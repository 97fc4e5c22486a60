/- What is proved here: what the fault of a journal is, in the program and in the model, for every journal of at most 1048576 bytes each. -/
import Derived.Test.YtdkjgjjkjfeodaaE10Cn
import Derived.Test.YtdkjgjjkjfeodaaE10Rd
namespace Go.Proofs.Ytdkjgjjkjfeodaa
open Go.RowKit Go.Sort
set_option linter.unusedVariables false
set_option linter.unusedSimpArgs false
set_option maxRecDepth 100000

/-- The fault of a journal. -/
def jF (zs ys : List Int) : Int := if 6000 < zs.length + ys.length then 2 else if eUse zs 0 < zs.length then 5 else if eUse ys 0 < ys.length then 5 else 0

theorem Sl10.some {w : World} {b o n c : Nat} (h : b < w.heap.size) : Sl10 w (some ⟨b, o, none⟩) n c := .inr ⟨b, o, rfl, h⟩
theorem reg_lt {w : World} {b : Nat} (h : b < w.heap.size) (d : Nat) (os : Array Obj) : b < (grow (redrawn w d) os).heap.size := Nat.lt_of_lt_of_le h (new_regrown w d os).size

set_option maxHeartbeats 1600000 in
theorem implJF (b o n c b2 o2 m d : Nat) (zs ys : List Int) (w : World) (h : BsAt w (some ⟨b, o, none⟩) zs) (k : BsAt w (some ⟨b2, o2, none⟩) ys) (hb : b < w.heap.size) (hb2 : b2 < w.heap.size) (hn : zs.length = n) (hm : ys.length = m) (hc : n ≤ c) (hd : m ≤ d) (hn1 : n ≤ 1048576) (hm1 : m ≤ 1048576) :
    Calls Try.prog 13 #[.agg #[.slice (some ⟨b, o, none⟩) n c, .slice (some ⟨b2, o2, none⟩) m d]] w fun e w' => e = .returned (.int .i64 (jF zs ys)) ∧ New w w' := by
  have hw := (New.refl w).alloc (.cells #[.slice (some ⟨b, o, none⟩) n c, .slice (some ⟨b2, o2, none⟩) m d] 25)
  have b0 := Blk.mk w w.heap.size 25 #[.slice (some ⟨b, o, none⟩) n c, .slice (some ⟨b2, o2, none⟩) m d] rfl
  have hlt := hw.size
  by_cases hbig : 6000 < n + m
  · have hf : Hid (jF zs ys = 2) := by unfold jF Hid; rw [hn, hm, if_pos hbig]
    have hbi : (6000 : Int) < (n : Int) + (m : Int) := by omega
    go_enter Try.func13, Try.ntmps13
    go_wp2
    go_ret
    exact ⟨ret_i64 hf.out.symm, hw⟩
  · have hbi : ¬ (6000 : Int) < (n : Int) + (m : Int) := by omega
    have hu := eUse_le zs zs.length 0 (by omega) (by omega)
    have hu2 := eUse_le ys ys.length 0 (by omega) (by omega)
    rw [hn] at hu
    rw [hm] at hu2
    by_cases h1 : eUse zs 0 < n
    · have hf : Hid (jF zs ys = 5) := by unfold jF Hid; rw [hn, hm, if_neg hbig, if_pos h1]
      have h1' : ((eUse zs 0 : Nat) : Int) < (n : Int) := by omega
      go_enter Try.func13, Try.ntmps13
      go_upto_region 3 with fail
      generalize w.alloc (.cells #[.slice (some ⟨b, o, none⟩) n c, .slice (some ⟨b2, o2, none⟩) m d] 25) = w0 at *
      have h' := h.new hw
      have k' := k.new hw
      have c0 := blk_regrown b0
      refine wp_region_quiet_below (by kernel_rfl) (by kernel_rfl) ?_
      repeat (go_big_quiet_step ((go_at_call 35; exact calls_regrown (wholeE (some ⟨b, o, none⟩) n c zs _ (h'.new (new_regrown _ _ _)) (Sl10.some (reg_lt (Nat.lt_of_lt_of_le hb hlt) _ _)) hn hc hn1))))
      refine wpQuiet_nil ?_
      rintro w1 k1
      replace k1 := new_of_regrown k1
      go_wp2
      go_ret
      exact ⟨ret_i64 hf.out.symm, hw.trans k1⟩
    · have h1e : eUse zs 0 = n := by omega
      have HU : Hid (eUse zs 0 = n) := h1e
      by_cases h2 : eUse ys 0 < m
      · have hf : Hid (jF zs ys = 5) := by unfold jF Hid; rw [hn, hm, if_neg hbig, if_neg h1, if_pos h2]
        have h2' : ((eUse ys 0 : Nat) : Int) < (m : Int) := by omega
        have HV : Hid (((eUse ys 0 : Nat) : Int) < (m : Int)) := h2'
        clear h1 h1e hu hu2
        go_enter Try.func13, Try.ntmps13
        go_upto_region 3 with fail
        generalize w.alloc (.cells #[.slice (some ⟨b, o, none⟩) n c, .slice (some ⟨b2, o2, none⟩) m d] 25) = w0 at *
        have h' := h.new hw
        have k' := k.new hw
        have c0 := blk_regrown b0
        refine wp_region_quiet_below (by kernel_rfl) (by kernel_rfl) ?_
        have W1 : ∀ X, New w0 X → Calls Try.prog 35 #[.slice (some ⟨b, o, none⟩) n c] X fun e w' => e = .returned (.slice (some ⟨b, o, none⟩) n c) ∧ New X w' := fun X hX => by have hh := wholeE (some ⟨b, o, none⟩) n c zs X (h'.new hX) (Sl10.some (Nat.lt_of_lt_of_le (Nat.lt_of_lt_of_le hb hlt) hX.size)) hn hc hn1; rw [HU.out] at hh; exact hh
        have W2 : ∀ X, New w0 X → Calls Try.prog 35 #[.slice (some ⟨b2, o2, none⟩) m d] X fun e w' => e = .returned (.slice (some ⟨b2, o2, none⟩) (eUse ys 0) d) ∧ New X w' := fun X hX => wholeE (some ⟨b2, o2, none⟩) m d ys X (k'.new hX) (Sl10.some (Nat.lt_of_lt_of_le (Nat.lt_of_lt_of_le hb2 hlt) hX.size)) hm hd hm1
        repeat (go_big_quiet_step (first | (go_at_call_of 35 b; exact calls_regrown (W1 _ (new_regrown _ _ _))) | (go_at_call_of 35 b2; exact calls_regrown (W2 _ (new_regrown _ _ _)))))
        refine wpQuiet_nil ?_
        rintro w1 k1
        replace k1 := new_of_regrown k1
        go_wp2
        go_ret
        exact ⟨ret_i64 hf.out.symm, hw.trans k1⟩
      · have hf : Hid (jF zs ys = 0) := by unfold jF Hid; rw [hn, hm, if_neg hbig, if_neg h1, if_neg h2]
        have h2e : eUse ys 0 = m := by omega
        have HV : Hid (eUse ys 0 = m) := h2e
        clear h1 h1e hu hu2 h2 h2e
        go_enter Try.func13, Try.ntmps13
        go_upto_region 3 with fail
        generalize w.alloc (.cells #[.slice (some ⟨b, o, none⟩) n c, .slice (some ⟨b2, o2, none⟩) m d] 25) = w0 at *
        have h' := h.new hw
        have k' := k.new hw
        have c0 := blk_regrown b0
        refine wp_region_quiet_below (by kernel_rfl) (by kernel_rfl) ?_
        have W1 : ∀ X, New w0 X → Calls Try.prog 35 #[.slice (some ⟨b, o, none⟩) n c] X fun e w' => e = .returned (.slice (some ⟨b, o, none⟩) n c) ∧ New X w' := fun X hX => by have hh := wholeE (some ⟨b, o, none⟩) n c zs X (h'.new hX) (Sl10.some (Nat.lt_of_lt_of_le (Nat.lt_of_lt_of_le hb hlt) hX.size)) hn hc hn1; rw [HU.out] at hh; exact hh
        have W2 : ∀ X, New w0 X → Calls Try.prog 35 #[.slice (some ⟨b2, o2, none⟩) m d] X fun e w' => e = .returned (.slice (some ⟨b2, o2, none⟩) m d) ∧ New X w' := fun X hX => by have hh := wholeE (some ⟨b2, o2, none⟩) m d ys X (k'.new hX) (Sl10.some (Nat.lt_of_lt_of_le (Nat.lt_of_lt_of_le hb2 hlt) hX.size)) hm hd hm1; rw [HV.out] at hh; exact hh
        repeat (go_big_quiet_step (first | (go_at_call_of 35 b; exact calls_regrown (W1 _ (new_regrown _ _ _))) | (go_at_call_of 35 b2; exact calls_regrown (W2 _ (new_regrown _ _ _)))))
        refine wpQuiet_nil ?_
        rintro w1 k1
        replace k1 := new_of_regrown k1
        go_wp2
        go_ret
        exact ⟨ret_i64 hf.out.symm, hw.trans k1⟩

set_option maxHeartbeats 1600000 in
theorem specJF (b o n c b2 o2 m d : Nat) (zs ys : List Int) (w : World) (h : BsAt w (some ⟨b, o, none⟩) zs) (k : BsAt w (some ⟨b2, o2, none⟩) ys) (hb : b < w.heap.size) (hb2 : b2 < w.heap.size) (hn : zs.length = n) (hm : ys.length = m) (hc : n ≤ c) (hd : m ≤ d) (hn1 : n ≤ 1048576) (hm1 : m ≤ 1048576) :
    Calls Try.prog 36 #[.agg #[.slice (some ⟨b, o, none⟩) n c, .slice (some ⟨b2, o2, none⟩) m d]] w fun e w' => e = .returned (.int .i64 (jF zs ys)) ∧ New w w' := by
  have hw := (New.refl w).alloc (.cells #[.slice (some ⟨b, o, none⟩) n c, .slice (some ⟨b2, o2, none⟩) m d] 25)
  have b0 := Blk.mk w w.heap.size 25 #[.slice (some ⟨b, o, none⟩) n c, .slice (some ⟨b2, o2, none⟩) m d] rfl
  by_cases hbig : 6000 < n + m
  · have hf : Hid (jF zs ys = 2) := by unfold jF Hid; rw [hn, hm, if_pos hbig]
    have hbi : (6000 : Int) < (n : Int) + (m : Int) := by omega
    go_enter Try.func36, Try.ntmps36
    go_wp2
    go_ret
    exact ⟨ret_i64 hf.out.symm, hw⟩
  · have hbi : ¬ (6000 : Int) < (n : Int) + (m : Int) := by omega
    have hu := eUse_le zs zs.length 0 (by omega) (by omega)
    have hu2 := eUse_le ys ys.length 0 (by omega) (by omega)
    rw [hn] at hu
    rw [hm] at hu2
    go_enter Try.func36, Try.ntmps36
    go_wp2_with fail
    refine (specRead b o n c zs _ (h.new hw) hn hc hn1).mono ?_
    rintro e w1 ⟨v, V, rfl, hR, -⟩
    have n1 := hw.trans hR.new
    have b1 := b0.new hR.new
    have c1 := b1.cells
    clear hR
    by_cases h1 : eUse zs 0 < n
    · have hf : Hid (jF zs ys = 5) := by unfold jF Hid; rw [hn, hm, if_neg hbig, if_pos h1]
      have h1' : (((eUse zs 0 : Nat) : Int) != (n : Int)) = true := by simp; omega
      go_wp2
      go_ret
      exact ⟨ret_i64 hf.out.symm, n1⟩
    · have h1' : (((eUse zs 0 : Nat) : Int) != (n : Int)) = false := by simp; omega
      go_wp2_with fail
      refine (specRead b2 o2 m d ys _ (k.new n1) hm hd hm1).mono ?_
      rintro e w2 ⟨v2, V2, rfl, hR2, -⟩
      have n2 := n1.trans hR2.new
      have b2' := b1.new hR2.new
      have c2 := b2'.cells
      clear hR2
      by_cases h2 : eUse ys 0 < m
      · have hf : Hid (jF zs ys = 5) := by unfold jF Hid; rw [hn, hm, if_neg hbig, if_neg h1, if_pos h2]
        have h2' : (((eUse ys 0 : Nat) : Int) != (m : Int)) = true := by simp; omega
        go_wp2
        go_ret
        exact ⟨ret_i64 hf.out.symm, n2⟩
      · have hf : Hid (jF zs ys = 0) := by unfold jF Hid; rw [hn, hm, if_neg hbig, if_neg h1, if_neg h2]
        have h2' : (((eUse ys 0 : Nat) : Int) != (m : Int)) = false := by simp; omega
        go_wp2
        go_ret
        exact ⟨ret_i64 hf.out.symm, n2⟩

end Go.Proofs.Ytdkjgjjkjfeodaa
