/- What is proved here: what the copying, measuring, comparing and judging of an entry answer, for every entry of at most 1048576 bytes. -/
import Derived.Test.YtdkjgjjkjfeodaaE9Ev
namespace Go.Proofs.Ytdkjgjjkjfeodaa
open Go.RowKit
set_option linter.unusedVariables false

/-- The fault of an entry. -/
def enF (ep k p : Int) (n : Nat) : Int := if ep < 1 ∨ 1000 < ep then 3 else evF k p n

theorem epoch_yes (ep : Int) (w : World) (h : 1 ≤ ep ∧ ep ≤ 1000) : Calls Try.prog 47 #[.int .i64 ep] w fun e w' => e = .returned (.bool true) ∧ w' = w := by
  obtain ⟨h0, h1⟩ := h
  go_enter Try.func47, Try.ntmps47
  go_wp2
  go_ret
  exact ⟨rfl, rfl⟩

theorem epoch_no (ep : Int) (w : World) (h : ep < 1 ∨ 1000 < ep) : Calls Try.prog 47 #[.int .i64 ep] w fun e w' => e = .returned (.bool false) ∧ w' = w := by
  by_cases h0 : 1 ≤ ep
  · have h1 : ¬ ep ≤ 1000 := by omega
    clear h
    go_enter Try.func47, Try.ntmps47
    go_wp2
    go_ret
    exact ⟨rfl, rfl⟩
  · clear h
    go_enter Try.func47, Try.ntmps47
    go_wp2
    go_ret
    exact ⟨rfl, rfl⟩

theorem sepoch_yes (ep : Int) (w : World) (h : 1 ≤ ep ∧ ep ≤ 1000) : Calls Try.prog 64 #[.int .i64 ep] w fun e w' => e = .returned (.bool true) ∧ w' = w := by
  go_enter Try.func64, Try.ntmps64
  go_wp2_with fail
  refine (in_yes _ _ _ _ h).mono ?_
  rintro e w1 ⟨rfl, rfl⟩
  go_wp2
  go_ret
  exact ⟨rfl, rfl⟩

theorem sepoch_no (ep : Int) (w : World) (h : ep < 1 ∨ 1000 < ep) : Calls Try.prog 64 #[.int .i64 ep] w fun e w' => e = .returned (.bool false) ∧ w' = w := by
  go_enter Try.func64, Try.ntmps64
  go_wp2_with fail
  refine (in_no _ _ _ _ h).mono ?_
  rintro e w1 ⟨rfl, rfl⟩
  go_wp2
  go_ret
  exact ⟨rfl, rfl⟩

set_option maxHeartbeats 800000 in
theorem implEN (ep k p : Int) (a : Option Addr) (n c : Nat) (w : World) (hm : n ≤ 1048576) : Calls Try.prog 18 #[.agg #[.int .i64 ep, .int .i64 k, .int .i64 p, .slice a n c]] w fun e w' => e = .returned (.int .i64 (enF ep k p n)) ∧ New w w' := by
  have b0 := Blk.mk w w.heap.size 40 #[.int .i64 ep, .int .i64 k, .int .i64 p, .slice a n c] rfl
  have hw := (New.refl w).alloc (.cells #[.int .i64 ep, .int .i64 k, .int .i64 p, .slice a n c] 40)
  by_cases he : ep < 1 ∨ 1000 < ep
  · have hf : Hid (enF ep k p n = 3) := by unfold enF Hid; rw [if_pos he]
    go_enter Try.func18, Try.ntmps18
    go_wp2_with fail
    refine (epoch_no _ _ he).mono ?_
    rintro e w1 ⟨rfl, rfl⟩
    go_wp2
    go_ret
    exact ⟨ret_i64 hf.out.symm, hw⟩
  · have hf : Hid (enF ep k p n = evF k p n) := by unfold enF Hid; rw [if_neg he]
    go_enter Try.func18, Try.ntmps18
    go_wp2_with fail
    refine (epoch_yes _ _ (by omega)).mono ?_
    rintro e w1 ⟨rfl, rfl⟩
    go_wp2_with fail
    refine (implEV k p a n c _ hm).mono ?_
    rintro e w2 ⟨rfl, hn2⟩
    go_wp2
    go_ret
    exact ⟨ret_i64 hf.out.symm, hw.trans hn2⟩

set_option maxHeartbeats 800000 in
theorem specEN (ep k p : Int) (a : Option Addr) (n c : Nat) (w : World) (hm : n ≤ 1048576) : Calls Try.prog 45 #[.agg #[.int .i64 ep, .int .i64 k, .int .i64 p, .slice a n c]] w fun e w' => e = .returned (.int .i64 (enF ep k p n)) ∧ New w w' := by
  have b0 := Blk.mk w w.heap.size 40 #[.int .i64 ep, .int .i64 k, .int .i64 p, .slice a n c] rfl
  have hw := (New.refl w).alloc (.cells #[.int .i64 ep, .int .i64 k, .int .i64 p, .slice a n c] 40)
  by_cases he : ep < 1 ∨ 1000 < ep
  · have hf : Hid (enF ep k p n = 3) := by unfold enF Hid; rw [if_pos he]
    go_enter Try.func45, Try.ntmps45
    go_wp2_with fail
    refine (sepoch_no _ _ he).mono ?_
    rintro e w1 ⟨rfl, rfl⟩
    go_wp2
    go_ret
    exact ⟨ret_i64 hf.out.symm, hw⟩
  · have hf : Hid (enF ep k p n = evF k p n) := by unfold enF Hid; rw [if_neg he]
    go_enter Try.func45, Try.ntmps45
    go_wp2_with fail
    refine (sepoch_yes _ _ (by omega)).mono ?_
    rintro e w1 ⟨rfl, rfl⟩
    go_wp2_with fail
    refine (specEV k p a n c _ hm).mono ?_
    rintro e w2 ⟨rfl, hn2⟩
    go_wp2
    go_ret
    exact ⟨ret_i64 hf.out.symm, hw.trans hn2⟩

set_option maxHeartbeats 400000 in
theorem eqEntry_any (ep k p : Int) (a b : Option Addr) (n c d : Nat) (zs : List Int) (w : World) (ha : BsAt w a zs) (hb : BsAt w b zs) (hn : zs.length = n) (hm : n ≤ 1048576) :
    Calls Try.prog 69 #[.agg #[.int .i64 ep, .int .i64 k, .int .i64 p, .slice a n c], .agg #[.int .i64 ep, .int .i64 k, .int .i64 p, .slice b n d]] w fun e w' => e = .returned (.bool true) ∧ New w w' := by
  have hk : (ep != ep) = false := by simp
  have hw := ((New.refl w).alloc (.cells #[.int .i64 ep, .int .i64 k, .int .i64 p, .slice a n c] 40)).alloc (.cells #[.int .i64 ep, .int .i64 k, .int .i64 p, .slice b n d] 40)
  go_enter Try.func69, Try.ntmps69
  go_wp2_with fail
  refine (eqEvent_any k p a b n c d zs _ (ha.new hw) (hb.new hw) hn hm).mono ?_
  rintro e w1 ⟨rfl, hn1⟩
  go_wp2
  go_ret
  exact ⟨rfl, hw.trans hn1⟩

end Go.Proofs.Ytdkjgjjkjfeodaa
