/- What is proved here: what the two judgings of a log answer, for every log of at most 1048576 entries and bytes. -/
import Derived.Test.YtlkhmnjghdbmoaaGreatDoorK12Nd
namespace Go.Proofs.YtlkhmnjghdbmoaaGreatDoor
open Go.RowKit Go.Sort
set_option linter.unusedVariables false
set_option linter.unusedSimpArgs false

/-- The fault of a log in the epoch E, behind an entry of the epoch p. -/
def lgF (E : Int) : Int → List Ek → Int
  | _, [] => 0
  | p, x :: L => if enF x.ep x.ki x.pe x.xs.length ≠ 0 then enF x.ep x.ki x.pe x.xs.length else if E < x.ep ∨ x.ep < p then 1 else lgF E x.ep L

theorem lgF_at {V : List EkV} {k m : Nat} {e1 ki pe E p : Int} {xs : List Int} {a : Option Addr} {c1 : Nat} (hv : V[k]? = some ⟨⟨e1, ki, pe, xs⟩, a, c1⟩) (hl : xs.length = m) :
    lgF E p ((V.map EkV.r).drop k) = if enF e1 ki pe m ≠ 0 then enF e1 ki pe m else if E < e1 ∨ e1 < p then 1 else lgF E e1 ((V.map EkV.r).drop (k + 1)) := by
  obtain ⟨hk, e⟩ := List.getElem?_eq_some_iff.1 hv
  have hk' : k < (V.map EkV.r).length := by simpa using hk
  rw [List.drop_eq_getElem_cons hk', lgF]
  simp only [List.getElem_map, e, hl]
theorem lgF_end {V : List EkV} {k : Nat} (E p : Int) (hk : V.length ≤ k) : lgF E p ((V.map EkV.r).drop k) = 0 := by
  rw [List.drop_eq_nil_of_le (by simpa using hk)]; rfl
theorem enF_ep {e1 ki pe : Int} {m : Nat} (h : enF e1 ki pe m = 0) : 1 ≤ e1 ∧ e1 ≤ 1000 := by
  unfold enF at h
  by_cases he : e1 < 1 ∨ 1000 < e1
  · rw [if_pos he] at h; omega
  · omega

set_option maxHeartbeats 3200000 in
theorem implLF (B : Nat) (id : Int) (up : Bool) (ro ep su ma ot co : Int) (A : Option Addr) (n c : Nat) (V : List EkV) (w : World) (hb : Blk w B 107 #[.int .i64 id, .bool up, .int .i64 ro, .int .i64 ep, .slice A n c, .int .i64 su, .int .i64 ma, .int .i64 ot, .int .i64 co]) (h : LgAt w A V) (hn : V.length = n) (hm : n ≤ 2097152) :
    Calls Tryz.prog 106 #[.pointer (some ⟨B, 0, none⟩)] w fun e w' => e = .returned (.int .i64 (lgF ep 0 (V.map EkV.r))) ∧ New w w' := by
  have HN : Hid (V.length = n) := hn
  have cB := hb.cells
  clear hn
  go_enter Tryz.func106, Tryz.ntmps106
  go_wp2
  go_loopw [3, 12] (fun q i wr => ∃ (k : Nat) (p : Int), k ≤ n ∧ i = .int .i64 k ∧ q = .int .i64 p ∧ New w wr ∧ Hid (lgF ep p ((V.map EkV.r).drop k) = lgF ep 0 (V.map EkV.r))) (fun _ i _ => n - (intOf i).toNat)
  case atStart => exact ⟨0, 0, Nat.zero_le _, rfl, rfl, New.refl _, by unfold Hid; simp⟩
  case round =>
    obtain ⟨k, p, hk, rfl, rfl, hnw, hL⟩ := hrel
    by_cases hlt : k < n
    · obtain ⟨g, e1, ki, pe, a, m, c1, xs, rfl, hv, hl, hx, hmx, x0, x1, x2, x3⟩ := (h.new hnw).at k (by have := HN.out; omega)
      have HD : Hid (lgF ep 0 (V.map EkV.r) = _) := hL.out.symm.trans (lgF_at hv hl)
      have cBr := (hb.new hnw).cells
      have lB := (hb.new hnw).lt
      have hw1 := hnw.alloc (.cells #[.int .i64 e1, .int .i64 ki, .int .i64 pe, .slice a m c1] 104)
      have bx := Blk.mk wr wr.heap.size 104 #[.int .i64 e1, .int .i64 ki, .int .i64 pe, .slice a m c1] rfl
      clear hv hl h hL cB
      go_wp2_with fail
      refine (implEN e1 ki pe a m c1 _ (by omega)).mono ?_
      rintro e w2 ⟨rfl, hn2⟩
      have cX := (bx.new hn2).cells
      have cN := (((hb.new hnw).alloc _).new hn2).cells
      have hw2 := hw1.trans hn2
      have HX : Hid (enF e1 ki pe m = 0 → 1 ≤ e1 ∧ e1 ≤ 1000) := enF_ep
      clear x0 x1 x2 x3 cBr
      generalize enF e1 ki pe m = f at *
      by_cases hf : f = 0
      · subst hf
        by_cases h1 : ep < e1
        · have HR : Hid (lgF ep 0 (V.map EkV.r) = 1) := by unfold Hid; rw [HD.out]; simp [h1]
          go_wp2
          go_quiet (fail)
          go_wp2
          go_ret
          exact ⟨ret_i64 HR.out.symm, hw2.drewN _⟩
        · by_cases h2 : e1 < p
          · have HR : Hid (lgF ep 0 (V.map EkV.r) = 1) := by unfold Hid; rw [HD.out]; simp [h2]
            go_wp2
            go_quiet (fail)
            go_wp2
            go_ret
            exact ⟨ret_i64 HR.out.symm, hw2.drewN _⟩
          · have HR : Hid (lgF ep e1 ((V.map EkV.r).drop (k + 1)) = lgF ep 0 (V.map EkV.r)) := by unfold Hid; rw [HD.out]; simp [h1, h2]
            go_wp2
            go_quiet (fail)
            have cX := (bx.new (hn2.drewN 1)).cells
            go_wp2
            go_roundw
            case rel => exact ⟨k + 1, e1, by omega, by go_num, rfl, hw2.drewN _, HR⟩
            case measure => simp [intOf]; omega
      · have HR : Hid (lgF ep 0 (V.map EkV.r) = f) := by unfold Hid; rw [HD.out]; simp [hf]
        go_wp2
        go_ret
        exact ⟨ret_i64 HR.out.symm, hw2⟩
    · have HR : Hid (0 = lgF ep 0 (V.map EkV.r)) := by unfold Hid; rw [← hL.out, lgF_end ep p (by have := HN.out; omega)]
      go_wp2
      go_ret
      exact ⟨ret_i64 HR.out, hnw⟩

end Go.Proofs.YtlkhmnjghdbmoaaGreatDoor
