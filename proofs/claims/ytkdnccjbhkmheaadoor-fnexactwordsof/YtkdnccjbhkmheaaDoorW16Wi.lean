/- What is proved here: what the program's WordsOf answers, for every line of at most 1048576 bytes, where internal/bytealg.MaxLen holds an int: its pieces between blanks that are not empty, in order, in new memory. -/
import Derived.Test.YtkdnccjbhkmheaaDoorW16Wo
namespace Go.Proofs.YtkdnccjbhkmheaaDoor
open Go.RowKit Go.Sort
set_option linter.unusedVariables false

/-- internal/bytealg.MaxLen holds an int. -/
def MaxI (w : World) : Prop := ∃ m : Int, w.cell? ⟨Tryd.lays146_ren.g 1, 0, none⟩ = some (.int .i64 m)
theorem MaxI.turn {w w' : World} {S : Nat → Prop} (h : MaxI w) (t : Turn S w w') (hS : ¬ S (Tryd.lays146_ren.g 1)) : MaxI w' := by
  obtain ⟨m, hm⟩ := h
  exact ⟨m, (World.cell?_of_block (t.block _ (World.block_lt_of_cell? w _ hm) hS)).trans hm⟩
theorem MaxI.new {w w' : World} (h : MaxI w) (t : New w w') : MaxI w' := h.turn t (fun f => f)
theorem cloneS (s : ByteArray) (w : World) (hm : s.size ≤ 1048576) : Calls Tryd.prog 11 #[.string s] w fun e w' => e = .returned (.string s) ∧ New w w' := by
  go_enter Tryd.func11, Tryd.ntmps11
  go_wp2_with (go_at_call 17; refine (Any.stringslite_Clone Tryd.laysM316 s _ (by omega)).mono ?_; rintro e w1 ⟨rfl, hb⟩)
  have hn1 := New.of_below hb (Nat.le_refl _)
  go_ret
  exact ⟨rfl, hn1⟩
theorem splitW (s : ByteArray) (w : World) (h : MaxI w) (hm : s.size ≤ 1048576) : Calls Tryd.prog 10 #[.string s, .string ⟨#[32]⟩] w fun e w' => e = .returned (.slice (some ⟨w.heap.size, 0, none⟩) (pcs 32 s.data.toList).length (pcs 32 s.data.toList).length) ∧ w' = w.alloc (.cells (strs (pcs 32 s.data.toList)).toArray 9) := by
  obtain ⟨m, hm'⟩ := h
  obtain ⟨h1, h2⟩ := split_strs s
  have := Any.strings_Split Tryd.lays146 Tryd.infoStr s ⟨#[32]⟩ m w (by omega) hm' (by decide)
  rw [h1, h2] at this
  exact this

set_option maxHeartbeats 1600000 in
theorem implWo (s : ByteArray) (w : World) (hM : MaxI w) (hm : s.size ≤ 1048576) :
    Calls Tryd.prog 5 #[.string s] w fun e w' => ∃ a n c, e = .returned (.agg #[.int .i64 0, .slice a n c]) ∧ OwWd w' w.heap.size a n c (wds s.data.toList) ∧ New w w' := by
  obtain ⟨i0, hi, hz0, hz1, hz2⟩ := info_parts Tryd.infoStr
  have hM0 := hM.new ((New.refl w).alloc (.cells #[.int .i64 0, .slice none 0 0] 24))
  have b0 : Blk (w.alloc (.cells #[.int .i64 0, .slice none 0 0] 24)) w.heap.size 24 #[.int .i64 0, .slice none 0 0] := Blk.mk _ _ _ _ rfl
  have hw0 : New w (w.alloc (.cells #[.int .i64 0, .slice none 0 0] 24)) := (New.refl w).alloc _
  have HW : Hid (wds s.data.toList = (pcs 32 s.data.toList).filter (fun p => !p.isEmpty)) := rfl
  have HPL : Hid ((pcs 32 s.data.toList).length ≤ s.size + 1) := by
    show (pcs 32 s.data.toList).length ≤ s.size + 1
    rw [Lib.size_eq]; exact pcs_len _
  have HPB : Hid (∀ p ∈ pcs 32 s.data.toList, p.length ≤ 1048576) := by
    show ∀ p ∈ pcs 32 s.data.toList, p.length ≤ 1048576
    intro p hp
    have := pcs_mem_le 32 s.data.toList p hp
    rw [← Lib.size_eq] at this
    omega
  have hsp := splitW s _ hM0 hm
  rw [HW.out]
  generalize pcs 32 s.data.toList = P at *
  go_enter Tryd.func5, Tryd.ntmps5
  go_wp2_with (go_at_call 10; refine hsp.mono ?_; rintro e w1 ⟨rfl, hw1⟩; have HW1 : Hid _ := hw1; clear hw1)
  have hsz1 : w1.heap.size = w.heap.size + 1 + 1 := by rw [HW1.out]; simp
  have bP : Blk w1 (w.heap.size + 1) 9 (strs P).toArray := by rw [HW1.out]; exact Blk.mk _ _ _ _ (by simp)
  have n1 : New (w.alloc (.cells #[.int .i64 0, .slice none 0 0] 24)) w1 := by rw [HW1.out]; exact (New.refl _).alloc _
  have b1 : Blk w1 w.heap.size 24 #[.int .i64 0, .slice none 0 0] := b0.new n1
  have hw11 : New w w1 := hw0.trans n1
  have HC : Hid (∀ (W : World), New w1 W → ∀ (k : Nat) (p : List UInt8), P[k]? = some p → W.cell? ⟨w.heap.size + 1, k, none⟩ = some (.string ⟨p.toArray⟩)) := by
    show ∀ (W : World), New w1 W → ∀ (k : Nat) (p : List UInt8), P[k]? = some p → W.cell? ⟨w.heap.size + 1, k, none⟩ = some (.string ⟨p.toArray⟩)
    intro W hW k p hp
    have h1 := (bP.new hW).cells k
    rw [h1]
    simp [strs, hp]
  have HSZ : Hid (w1.heap.size = w.heap.size + 1 + 1) := hsz1
  clear hsp HW1 b0 bP n1 hw0 hsz1
  go_loopw [3, 9] (fun out i wr => ∃ (k n c : Nat) (a : Option Addr), i = .int .i64 k ∧ k ≤ P.length ∧ out = .slice a n c ∧ OwWd wr w1.heap.size a n c ((P.take k).filter (fun p => !p.isEmpty)) ∧ New w1 wr) (fun _ i _ => P.length - (intOf i).toNat)
  case atStart => exact ⟨0, 0, 0, none, rfl, Nat.zero_le _, rfl, OwWd.nil _ _, New.refl _⟩
  case round =>
    obtain ⟨k, n, c, a, rfl, hk, rfl, hown, hnw⟩ := hrel
    have HPL' := HPL.out
    by_cases hlt : k < P.length
    · obtain ⟨p, hp⟩ : ∃ p, P[k]? = some p := ⟨_, List.getElem?_eq_getElem hlt⟩
      have hcell := HC.out wr hnw k p hp
      have hpl : p.length ≤ 1048576 := HPB.out p (List.mem_of_getElem? hp)
      have hst : Hid _ := wds_step P hp
      by_cases he : p = []
      · subst he
        clear hp
        go_wp2
        go_roundw
        case rel => exact ⟨k + 1, n, c, a, by go_num, by omega, rfl, by rw [hst.out]; simpa using hown, hnw⟩
        case measure => simp [intOf]; omega
      · have hne : (!p.isEmpty) = true := by simpa using he
        have hst' : Hid ((P.take (k + 1)).filter (fun p => !p.isEmpty) = (P.take k).filter (fun p => !p.isEmpty) ++ [p]) := by
          show _ = _
          rw [hst.out, if_neg (by simpa using he)]
        have hnk : n ≤ k := by rw [← hown.2]; exact wds_le P k
        have hL : Hid (((P.take k).filter (fun p => !p.isEmpty)).length = n) := hown.2
        have hcl := cloneS ⟨p.toArray⟩
        have hps : (⟨p.toArray⟩ : ByteArray).size ≤ 1048576 := by rw [Lib.size_eq]; exact hpl
        clear hp hst
        generalize (P.take k).filter (fun p => !p.isEmpty) = D at *
        go_wp2_with (first
          | (go_at_call 11; refine (hcl _ hps).mono ?_; rintro e w2 ⟨rfl, hn2⟩; have hown2 := hown.new hn2; have hnw2 := hnw.trans hn2; have hrow := hown2.1; obtain ⟨-, -, -, -, hob⟩ := form16 hrow)
          | (at_builtin; refine wpList_append_own_at _ rfl _ _ 22 rfl w1.heap.size 9 i0 (.string ByteArray.empty) 1 16 Tryd.underlying22 hi hz0 hz1 hz2 rfl (by decide) _ _ _ rfl (hrow.alloc _) ⟨w2.heap.size, 0, none⟩ 1 1 [.string ⟨p.toArray⟩] rfl rfl (cell_one_new _ _ _) (by simp [Value.oneCell']) (by unfold maxLen; omega) (by omega) (by have := hnw2.size; simp; omega) ?_; intro v' w3 hown' hgrow hnil hloc))
        obtain ⟨y, d, rfl, -, hyb⟩ := form16 hown'
        have hnw1 : New w1 w3 := (hnw2.alloc _).before (grown16 hgrow) (fun i h1 h2 => by have := hob i h2; omega)
        go_roundw
        case rel => exact ⟨k + 1, n + 1, d, y, by go_num, by omega, rfl, ⟨by rw [hst'.out]; simpa [strs] using hown', by rw [hst'.out]; simp [hL.out]⟩, hnw1⟩
        case measure => simp [intOf]; omega
    · have hkn : Hid (k = P.length) := by show k = P.length; omega
      have hgt : ¬ ((k : Int) < P.length) := by omega
      have bR := b1.new hnw
      have cR := bR.cells
      have fR := bR.frees
      have hown9 : Hid (OwWd wr w1.heap.size a n c (P.filter (fun p => !p.isEmpty))) := by have h := hown; rw [hkn.out, List.take_length] at h; exact h
      clear hown
      go_wp2
      refine bodyPost_ret (v := .agg #[.int .i64 0, .slice a n c]) (by simp [results, Tryd.results5, go_sem, cR]) rfl ⟨a, n, c, rfl, ?_, ?_⟩
      · refine OwWd.low (OwWd.turn hown9.out (S := fun i => i = w.heap.size) ?_ ?_) (by have := HSZ.out; omega)
        · exact Turn.set (S := fun i => i = w.heap.size) (Turn.set (S := fun i => i = w.heap.size) (Turn.refl _ _) rfl _) rfl _
        · intro k h1 h2 e; have := HSZ.out; omega
      · exact New.setCell (New.setCell (hw11.trans hnw) (Nat.le_refl _) _) (Nat.le_refl _) _

theorem specWof (s : ByteArray) (w : World) (hm : s.size ≤ 1048576) :
    Calls Tryd.prog 4 #[.string s] w fun e w' => ∃ a n c, e = .returned (.agg #[.int .i64 0, .slice a n c]) ∧ OwWd w' w.heap.size a n c (wds s.data.toList) ∧ New w w' := by
  go_enter Tryd.func4, Tryd.ntmps4
  go_wp2_with (go_at_call 9; refine (specWo s _ hm).mono ?_; rintro e w1 ⟨a, n, c, rfl, ho, hn1⟩; have bR := (Blk.mk w w.heap.size 24 #[.int .i64 0, .slice none 0 0] rfl).new hn1; have cR := bR.cells; have fR := bR.frees; have HO : Hid _ := ho; clear ho)
  refine bodyPost_ret (v := .agg #[.int .i64 0, .slice a n c]) (by simp [results, Tryd.results4, go_sem, cR]) rfl ⟨a, n, c, rfl, ?_, ?_⟩
  · refine OwWd.low (OwWd.turn HO.out (S := fun i => i = w.heap.size) (Turn.set (S := fun i => i = w.heap.size) (Turn.set (S := fun i => i = w.heap.size) (Turn.refl _ _) rfl _) rfl _) ?_) (by simp)
    intro k h1 h2 e; simp at h1; omega
  · exact New.setCell (New.setCell (((New.refl w).alloc _).trans hn1) (Nat.le_refl _) _) (Nat.le_refl _) _

end Go.Proofs.YtkdnccjbhkmheaaDoor
