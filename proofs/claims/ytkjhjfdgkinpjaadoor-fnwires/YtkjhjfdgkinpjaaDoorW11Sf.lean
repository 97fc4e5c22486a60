/- What is proved here: what is asked ahead of all that a speaker wants of a wire, in the program and in the model. The condition: package errors' own variable and the program's errNoEpoch hold what the text lays. -/
import Derived.Test.YtkjhjfdgkinpjaaDoorW11As
import Derived.Test.YtkjhjfdgkinpjaaDoorW11Wf
namespace Go.Proofs.YtkjhjfdgkinpjaaDoor
open Go.RowKit
set_option linter.unusedVariables false
set_option linter.unusedSimpArgs false

/-- What the package-level variables hold. -/
def Glob (w : World) : Prop := w.cell? ⟨1, 0, none⟩ = some (.iface 81 (.agg #[.pointer (some ⟨2, 58, none⟩)])) ∧ ∃ ad, w.cell? ⟨0, 0, none⟩ = some (.iface 94 (.pointer (some ad)))
theorem Glob.new {w w' : World} (h : Glob w) (t : New w w') : Glob w' := by
  obtain ⟨h1, ad, h2⟩ := h
  exact ⟨(World.cell?_of_block (t.block _ (World.block_lt_of_cell? w _ h1) (fun f => f))).trans h1, ad, (World.cell?_of_block (t.block _ (World.block_lt_of_cell? w _ h2) (fun f => f))).trans h2⟩

/-- What is asked of a speaker. -/
def sF (E T ep : Int) (n m : Nat) : Int := if wF E T n m = 0 then (if ep < 1 ∨ 1000 < ep then 3 else if ep < E then 9 else 0) else wF E T n m

theorem sF_zero {E T ep : Int} {n m : Nat} (h : sF E T ep n m = 0) : wF E T n m = 0 ∧ 1 ≤ ep ∧ ep ≤ 1000 ∧ E ≤ ep := by
  unfold sF at h
  split at h
  · rename_i h0
    split at h
    · omega
    · split at h
      · omega
      · exact ⟨h0, by omega, by omega, by omega⟩
  · rename_i h0
    exact (h0 h).elim

theorem isE_yes (v : Int) (w : World) (h : 1 ≤ v ∧ v ≤ 1000) : Calls Tryd.prog 38 #[.int .i64 v] w fun e w' => e = .returned (.bool true) ∧ w' = w := by
  obtain ⟨h1, h2⟩ := h
  go_enter Tryd.func38, Tryd.ntmps38
  go_wp2
  go_ret
  exact ⟨by simp, rfl⟩

theorem isE_no (v : Int) (w : World) (h : v < 1 ∨ 1000 < v) : Calls Tryd.prog 38 #[.int .i64 v] w fun e w' => e = .returned (.bool false) ∧ w' = w := by
  by_cases h1 : 1 ≤ v
  · have h2 : 1000 < v := by omega
    go_enter Tryd.func38, Tryd.ntmps38
    go_wp2
    go_ret
    exact ⟨by simp; omega, rfl⟩
  · go_enter Tryd.func38, Tryd.ntmps38
    go_wp2
    go_ret
    exact ⟨rfl, rfl⟩

theorem l10E_yes (v : Int) (w : World) (h : 1 ≤ v ∧ v ≤ 1000) : Calls Tryd.prog 37 #[.int .i64 v] w fun e w' => e = .returned (.bool true) ∧ w' = w := by
  go_enter Tryd.func37, Tryd.ntmps37
  go_wp2_with fail
  refine (in_yes v 1 1000 _ h).mono ?_
  rintro e w1 ⟨rfl, rfl⟩
  go_wp2
  go_ret
  exact ⟨rfl, rfl⟩

theorem l10E_no (v : Int) (w : World) (h : v < 1 ∨ 1000 < v) : Calls Tryd.prog 37 #[.int .i64 v] w fun e w' => e = .returned (.bool false) ∧ w' = w := by
  go_enter Tryd.func37, Tryd.ntmps37
  go_wp2_with fail
  refine (in_no v 1 1000 _ h).mono ?_
  rintro e w1 ⟨rfl, rfl⟩
  go_wp2
  go_ret
  exact ⟨rfl, rfl⟩

set_option maxHeartbeats 800000 in
theorem pass_bad (E T ep : Int) (a b : Option Addr) (n c m d : Nat) (w : World) (ad : Addr) (hg : w.cell? ⟨0, 0, none⟩ = some (.iface 94 (.pointer (some ad)))) (h : ep < 1 ∨ 1000 < ep) :
    Calls Tryd.prog 33 #[.agg #[.int .i64 E, .slice a n c, .int .i64 T, .slice b m d], .int .i64 ep] w fun e w' => e = .returned (.iface 94 (.pointer (some ad))) ∧ New w w' := by
  have hw := (New.refl w).alloc (.cells #[.int .i64 E, .slice a n c, .int .i64 T, .slice b m d] 25)
  have hg' := (World.cell?_of_block (hw.block _ (World.block_lt_of_cell? w _ hg) (fun f => f))).trans hg
  go_enter Tryd.func33, Tryd.ntmps33
  go_wp2_with fail
  refine (isE_no ep _ h).mono ?_
  rintro e w1 ⟨rfl, rfl⟩
  go_wp2
  go_ret
  exact ⟨rfl, hw⟩

set_option maxHeartbeats 800000 in
theorem pass_old (E T ep : Int) (a b : Option Addr) (n c m d : Nat) (w : World) (h : 1 ≤ ep ∧ ep ≤ 1000) (hE : ep < E) :
    Calls Tryd.prog 33 #[.agg #[.int .i64 E, .slice a n c, .int .i64 T, .slice b m d], .int .i64 ep] w fun e w' => e = .returned (.iface 61 (.agg #[.int .i64 ep, .int .i64 E])) ∧ New w w' := by
  have hw := (New.refl w).alloc (.cells #[.int .i64 E, .slice a n c, .int .i64 T, .slice b m d] 25)
  go_enter Tryd.func33, Tryd.ntmps33
  go_wp2_with fail
  refine (isE_yes ep _ h).mono ?_
  rintro e w1 ⟨rfl, rfl⟩
  go_wp2
  go_ret
  exact ⟨rfl, hw⟩

set_option maxHeartbeats 800000 in
theorem pass_ok (E T ep : Int) (a b : Option Addr) (n c m d : Nat) (w : World) (h : 1 ≤ ep ∧ ep ≤ 1000) (hE : ¬ ep < E) :
    Calls Tryd.prog 33 #[.agg #[.int .i64 E, .slice a n c, .int .i64 T, .slice b m d], .int .i64 ep] w fun e w' => e = .returned .nilIface ∧ New w w' := by
  have hw := (New.refl w).alloc (.cells #[.int .i64 E, .slice a n c, .int .i64 T, .slice b m d] 25)
  go_enter Tryd.func33, Tryd.ntmps33
  go_wp2_with fail
  refine (isE_yes ep _ h).mono ?_
  rintro e w1 ⟨rfl, rfl⟩
  go_wp2
  go_ret
  exact ⟨rfl, hw⟩

set_option maxHeartbeats 1600000 in
theorem implSF (E T ep : Int) (a b : Option Addr) (n c m d : Nat) (w : World) (hG : Glob w) (hn1 : n ≤ 1048576) (hm1 : m ≤ 1048576) :
    Calls Tryd.prog 25 #[.agg #[.int .i64 E, .slice a n c, .int .i64 T, .slice b m d], .int .i64 ep] w fun e w' => e = .returned (.int .i64 (sF E T ep n m)) ∧ New w w' := by
  have hw := (New.refl w).alloc (.cells #[.int .i64 E, .slice a n c, .int .i64 T, .slice b m d] 25)
  have b0 := Blk.mk w w.heap.size 25 #[.int .i64 E, .slice a n c, .int .i64 T, .slice b m d] rfl
  by_cases hf : wF E T n m = 0
  · have hf' : (wF E T n m != 0) = false := by simp [hf]
    have HF : Hid (wF E T n m = 0) := hf
    clear hf
    by_cases h1 : ep < 1 ∨ 1000 < ep
    · have hs : Hid (sF E T ep n m = 3) := by unfold sF Hid; rw [if_pos HF.out, if_pos h1]
      go_enter Tryd.func25, Tryd.ntmps25
      go_wp2_with fail
      refine (implWF E T a b n c m d _ hn1 hm1).mono ?_
      rintro e w1 ⟨rfl, hn1'⟩
      have c0 := (b0.new hn1').cells
      have n1 := hw.trans hn1'
      obtain ⟨g1, ad, g2⟩ := hG.new n1
      go_wp2_with fail
      refine (pass_bad E T ep a b n c m d _ ad g2 h1).mono ?_
      rintro e w2 ⟨rfl, hn2⟩
      have n2 := n1.trans hn2
      obtain ⟨k1, -⟩ := hG.new (n2.alloc (.cells #[.int .i64 0, .int .i64 0] 61))
      clear c0 g1 g2
      go_wp2_with fail
      refine (as_miss11 _ _ _ k1).mono ?_
      rintro e w3 ⟨rfl, hn3⟩
      go_wp2
      go_ret
      exact ⟨ret_i64 hs.out.symm, (n2.alloc _).trans hn3⟩
    · have h1' : 1 ≤ ep ∧ ep ≤ 1000 := by omega
      by_cases h2 : ep < E
      · have hs : Hid (sF E T ep n m = 9) := by unfold sF Hid; rw [if_pos HF.out, if_neg h1, if_pos h2]
        go_enter Tryd.func25, Tryd.ntmps25
        go_wp2_with fail
        refine (implWF E T a b n c m d _ hn1 hm1).mono ?_
        rintro e w1 ⟨rfl, hn1'⟩
        have c0 := (b0.new hn1').cells
        have n1 := hw.trans hn1'
        go_wp2_with fail
        refine (pass_old E T ep a b n c m d _ h1' h2).mono ?_
        rintro e w2 ⟨rfl, hn2⟩
        have n2 := n1.trans hn2
        obtain ⟨k1, -⟩ := hG.new (n2.alloc (.cells #[.int .i64 0, .int .i64 0] 61))
        have bB := Blk.mk w2 w2.heap.size 61 #[.int .i64 0, .int .i64 0] rfl
        have s2 := n2.size
        clear c0
        go_wp2_with fail
        refine (as_hit11 ep E w2.heap.size _ _ k1 bB rfl).mono ?_
        rintro e w3 ⟨rfl, hn3⟩
        go_wp2
        go_ret
        exact ⟨ret_i64 hs.out.symm, (n2.alloc _).before hn3 (by intro i hi e; omega)⟩
      · have hs : Hid (sF E T ep n m = 0) := by unfold sF Hid; rw [if_pos HF.out, if_neg h1, if_neg h2]
        go_enter Tryd.func25, Tryd.ntmps25
        go_wp2_with fail
        refine (implWF E T a b n c m d _ hn1 hm1).mono ?_
        rintro e w1 ⟨rfl, hn1'⟩
        have c0 := (b0.new hn1').cells
        have n1 := hw.trans hn1'
        go_wp2_with fail
        refine (pass_ok E T ep a b n c m d _ h1' (by omega)).mono ?_
        rintro e w2 ⟨rfl, hn2⟩
        go_wp2
        go_ret
        exact ⟨ret_i64 hs.out.symm, n1.trans hn2⟩
  · have hf' : (wF E T n m != 0) = true := by simp [hf]
    have hs : Hid (sF E T ep n m = wF E T n m) := by unfold sF Hid; rw [if_neg hf]
    clear hf
    go_enter Tryd.func25, Tryd.ntmps25
    go_wp2_with fail
    refine (implWF E T a b n c m d _ hn1 hm1).mono ?_
    rintro e w1 ⟨rfl, hn1'⟩
    go_wp2
    go_ret
    exact ⟨ret_i64 hs.out.symm, hw.trans hn1'⟩

set_option maxHeartbeats 1600000 in
theorem specSF (E T ep : Int) (a b : Option Addr) (n c m d : Nat) (w : World) (hn1 : n ≤ 1048576) (hm1 : m ≤ 1048576) :
    Calls Tryd.prog 30 #[.agg #[.int .i64 E, .slice a n c, .int .i64 T, .slice b m d], .int .i64 ep] w fun e w' => e = .returned (.int .i64 (sF E T ep n m)) ∧ New w w' := by
  have hw := (New.refl w).alloc (.cells #[.int .i64 E, .slice a n c, .int .i64 T, .slice b m d] 25)
  have b0 := Blk.mk w w.heap.size 25 #[.int .i64 E, .slice a n c, .int .i64 T, .slice b m d] rfl
  by_cases hf : wF E T n m = 0
  · have hf' : (wF E T n m != 0) = false := by simp [hf]
    have HF : Hid (wF E T n m = 0) := hf
    clear hf
    by_cases h1 : ep < 1 ∨ 1000 < ep
    · have hs : Hid (sF E T ep n m = 3) := by unfold sF Hid; rw [if_pos HF.out, if_pos h1]
      go_enter Tryd.func30, Tryd.ntmps30
      go_wp2_with fail
      refine (specWF E T a b n c m d _ hn1 hm1).mono ?_
      rintro e w1 ⟨rfl, hn1'⟩
      have n1 := hw.trans hn1'
      go_wp2_with fail
      refine (l10E_no ep _ h1).mono ?_
      rintro e w2 ⟨rfl, rfl⟩
      go_wp2
      go_ret
      exact ⟨ret_i64 hs.out.symm, n1⟩
    · have h1' : 1 ≤ ep ∧ ep ≤ 1000 := by omega
      by_cases h2 : ep < E
      · have hs : Hid (sF E T ep n m = 9) := by unfold sF Hid; rw [if_pos HF.out, if_neg h1, if_pos h2]
        go_enter Tryd.func30, Tryd.ntmps30
        go_wp2_with fail
        refine (specWF E T a b n c m d _ hn1 hm1).mono ?_
        rintro e w1 ⟨rfl, hn1'⟩
        have c0 := (b0.new hn1').cells
        have n1 := hw.trans hn1'
        go_wp2_with fail
        refine (l10E_yes ep _ h1').mono ?_
        rintro e w2 ⟨rfl, rfl⟩
        go_wp2
        go_ret
        exact ⟨ret_i64 hs.out.symm, n1⟩
      · have hs : Hid (sF E T ep n m = 0) := by unfold sF Hid; rw [if_pos HF.out, if_neg h1, if_neg h2]
        go_enter Tryd.func30, Tryd.ntmps30
        go_wp2_with fail
        refine (specWF E T a b n c m d _ hn1 hm1).mono ?_
        rintro e w1 ⟨rfl, hn1'⟩
        have c0 := (b0.new hn1').cells
        have n1 := hw.trans hn1'
        go_wp2_with fail
        refine (l10E_yes ep _ h1').mono ?_
        rintro e w2 ⟨rfl, rfl⟩
        go_wp2
        go_ret
        exact ⟨ret_i64 hs.out.symm, n1⟩
  · have hf' : (wF E T n m != 0) = true := by simp [hf]
    have hs : Hid (sF E T ep n m = wF E T n m) := by unfold sF Hid; rw [if_neg hf]
    clear hf
    go_enter Tryd.func30, Tryd.ntmps30
    go_wp2_with fail
    refine (specWF E T a b n c m d _ hn1 hm1).mono ?_
    rintro e w1 ⟨rfl, hn1'⟩
    go_wp2
    go_ret
    exact ⟨ret_i64 hs.out.symm, hw.trans hn1'⟩

end Go.Proofs.YtkjhjfdgkinpjaaDoor
