/- What is proved here: what the look for a wrong mark and the taking of one frame answer, for every list of bytes. -/
import Derived.Test.YtopkihgdemcneaaHead
import Derived.Laws.AppendOwnNone
namespace Go.Proofs.Ytopkihgdemcneaa
open Go.RowKit

/-- One of the first two bytes is not 255. -/
def wrongB (zs : List Int) : Bool := (zs.take 2).any (fun z => z != 255)
theorem wrong_of0 {zs : List Int} {z : Int} (h : zs[0]? = some z) (hz : z ≠ 255) : wrongB zs = true := by
  cases zs with
  | nil => simp at h
  | cons x l => simp at h; subst h; simp [wrongB, hz]
theorem wrong_of1 {zs : List Int} {z : Int} (h : zs[1]? = some z) (hz : z ≠ 255) : wrongB zs = true := by
  match zs, h with
  | x :: y :: l, h => simp at h; subst h; simp [wrongB, hz]
theorem wrong_no0 {zs : List Int} (h : zs.length = 0) : wrongB zs = false := by
  obtain rfl := List.eq_nil_of_length_eq_zero h
  rfl
theorem wrong_no1 {zs : List Int} (h : zs.length = 1) (h0 : zs[0]? = some 255) : wrongB zs = false := by
  match zs, h with
  | [x], _ => simp at h0; subst h0; simp [wrongB]
theorem wrong_no2 {zs : List Int} (h0 : zs[0]? = some 255) (h1 : zs[1]? = some 255) : wrongB zs = false := by
  match zs, h1 with
  | x :: y :: l, h1 => simp at h0 h1; subst h0; subst h1; simp [wrongB]
theorem ret_bool {a b : Bool} (h : a = b) : Ending.returned (.bool a) = .returned (.bool b) := by rw [h]

set_option maxHeartbeats 1600000 in
theorem wrong_any (a : Option Addr) (n c : Nat) (zs : List Int) (w : World) (h : BsAt w a zs) (hn : zs.length = n) (hc : n ≤ c) (hm : n ≤ 1048576) :
    Calls Try.prog 31 #[.slice a n c] w fun e w' => e = .returned (.bool (wrongB zs)) ∧ w' = w := by
  have hmx : max (2 : Int) 0 = 2 := by decide
  by_cases h0 : n = 0
  · have HF : Hid (wrongB zs = false) := wrong_no0 (by omega)
    subst h0
    clear hn
    go_enter Try.func31, Try.ntmps31
    go_wp2
    refine wp_loop_rounds 1 ?_
    rw [rounds_succ]
    go_wp2
    go_ret
    exact ⟨ret_bool HF.out.symm, rfl⟩
  obtain ⟨b, off, z0, rfl, hz0, c0, y0, y0'⟩ := h.at 0 (by omega)
  rw [Nat.add_zero] at c0
  by_cases h1 : n = 1
  · subst h1
    by_cases e0 : z0 = 255
    · subst e0
      have HF : Hid (wrongB zs = false) := wrong_no1 hn hz0
      clear hn hz0
      go_enter Try.func31, Try.ntmps31
      go_wp2
      refine wp_loop_rounds 2 ?_
      rw [rounds_succ]
      go_wp2
      rw [rounds_succ]
      go_wp2
      go_ret
      exact ⟨ret_bool HF.out.symm, rfl⟩
    · have HF : Hid (wrongB zs = true) := wrong_of0 hz0 e0
      have t0 : (z0 != 255) = true := by simp [e0]
      clear hn hz0 e0
      go_enter Try.func31, Try.ntmps31
      go_wp2
      refine wp_loop_rounds 1 ?_
      rw [rounds_succ]
      go_wp2
      go_ret
      exact ⟨ret_bool HF.out.symm, rfl⟩
  obtain ⟨b', off', z1, e', hz1, c1, y1, y1'⟩ := h.at 1 (by omega)
  simp only [Option.some.injEq, Addr.mk.injEq, and_true] at e'
  obtain ⟨rfl, rfl⟩ := e'
  have p2 : (2 : Int) ≤ (n : Int) := by omega
  by_cases e0 : z0 = 255
  · subst e0
    by_cases e1 : z1 = 255
    · subst e1
      have HF : Hid (wrongB zs = false) := wrong_no2 hz0 hz1
      clear hn hz0 hz1
      go_enter Try.func31, Try.ntmps31
      go_wp2
      refine wp_loop_rounds 3 ?_
      rw [rounds_succ]
      go_wp2
      rw [rounds_succ]
      go_wp2
      rw [rounds_succ]
      go_wp2
      go_ret
      exact ⟨ret_bool HF.out.symm, rfl⟩
    · have HF : Hid (wrongB zs = true) := wrong_of1 hz1 e1
      have t1 : (z1 != 255) = true := by simp [e1]
      clear hn hz0 hz1 e1
      go_enter Try.func31, Try.ntmps31
      go_wp2
      refine wp_loop_rounds 2 ?_
      rw [rounds_succ]
      go_wp2
      rw [rounds_succ]
      go_wp2
      go_ret
      exact ⟨ret_bool HF.out.symm, rfl⟩
  · have HF : Hid (wrongB zs = true) := wrong_of0 hz0 e0
    have t0 : (z0 != 255) = true := by simp [e0]
    clear hn hz0 e0 hz1
    go_enter Try.func31, Try.ntmps31
    go_wp2
    refine wp_loop_rounds 1 ?_
    rw [rounds_succ]
    go_wp2
    go_ret
    exact ⟨ret_bool HF.out.symm, rfl⟩

theorem BsAt.drop {w : World} {b off : Nat} {zs : List Int} (h : BsAt w (some ⟨b, off, none⟩) zs) (k : Nat) : BsAt w (some ⟨b, off + k, none⟩) (zs.drop k) := by
  intro i z hz
  rw [List.getElem?_drop] at hz
  obtain ⟨b', off', e, hc, hb⟩ := h _ z hz
  simp only [Option.some.injEq, Addr.mk.injEq, and_true] at e
  obtain ⟨rfl, rfl⟩ := e
  exact ⟨b, off + k, rfl, by rw [Nat.add_assoc]; exact hc, hb⟩

set_option maxHeartbeats 1600000 in
theorem frameOf_any (b off n c : Nat) (zs : List Int) (w : World) (h : BsAt w (some ⟨b, off, none⟩) zs) (hn : zs.length = n) (h5 : 5 ≤ n) (hc : n ≤ c) (hm : n ≤ 1048576) :
    Calls Try.prog 32 #[.slice (some ⟨b, off, none⟩) n c] w fun e w' => ∃ a' c', e = .returned (.agg #[.int .i64 (zs.getD 4 0), .slice a' (n - 5) c']) ∧
      OwAt w' a' (n - 5) c' (zs.drop 5) ∧ (∀ x, a' = some x → w.heap.size ≤ x.block ∧ x.block < w'.heap.size) ∧ (a' = none → n - 5 = 0 ∧ c' = 0) ∧ New w w' := by
  obtain ⟨i0, hi, hz0, hz1, hz2⟩ := info_parts Try.infoU8
  obtain ⟨b', off', z4, e', hz4, c4, y4, y4'⟩ := h.at 4 (by omega)
  simp only [Option.some.injEq, Addr.mk.injEq, and_true] at e'
  obtain ⟨rfl, rfl⟩ := e'
  have HG : Hid (zs.getD 4 0 = z4) := getD_of hz4
  have hblt : b < w.heap.size := World.block_lt_of_cell? w _ c4
  clear hz4
  have hw := (New.refl w).alloc (.cells #[.int .i64 0, .slice none 0 0] 26)
  have b1 := Blk.mk w w.heap.size 26 #[.int .i64 0, .slice none 0 0] rfl
  by_cases hn5 : n = 5
  · subst hn5
    have HD : Hid (zs.drop 5 = []) := List.drop_of_length_le (by omega)
    clear hn
    by_cases hc5 : c = 5
    · subst hc5
      go_enter Try.func32, Try.ntmps32
      go_wp2
      refine bodyPost_ret (v := .agg #[.int .i64 z4, .slice none 0 0]) (by simp [results, Try.results32, go_sem]) rfl ⟨none, 0, by rw [HG.out], ⟨by rw [HD.out]; rfl, fun h => by omega⟩, (by intro x hx; cases hx), by simp, ?_⟩
      exact (New.refl _).alloc _
    · go_enter Try.func32, Try.ntmps32
      go_wp2
      refine bodyPost_ret (v := .agg #[.int .i64 z4, .slice none 0 0]) (by simp [results, Try.results32, go_sem]) rfl ⟨none, 0, by rw [HG.out], ⟨by rw [HD.out]; rfl, fun h => by omega⟩, (by intro x hx; cases hx), by simp, ?_⟩
      exact (New.refl _).alloc _
  · have hpos : 0 < n - 5 := by omega
    have hc5 : ¬ c = 5 := by omega
    have c5 : ((5 : Nat) : Int) ≤ (n : Int) := by omega
    have hl : (zs.drop 5).length = n - 5 := by rw [List.length_drop, hn]
    have HL : Hid ((zs.drop 5).length = n - 5) := hl
    have hsrc := (h.drop 5).new hw
    clear hn hl
    go_enter Try.func32, Try.ntmps32
    go_wp2_with (at_builtin; refine wpList_ap _ rfl _ _ rfl 0 Try.underlying22 hi hz0 hz1 hz2 (.slice none 0 0) 0 [] rfl (World.ownsRow_nil _ _ _ _) (some ⟨b, off + 5, none⟩) (n - 5) (c - 5) (zs.drop 5) rfl hsrc HL.out (by intro h; cases h) (by omega) (by omega) (Nat.zero_le _) (w.heap.size + 1) (by simp) ?_)
    intro g cap w1 ho1 hgr1 hat1
    have hg1 : w.heap.size < g := by
      rcases hat1 with h' | h'
      · simp [Value.ownBlock] at h'
      · omega
    have b2 := b1.grow hgr1 (by simp [Value.ownBlock])
    have hw1 : New w w1 := hw.grow hgr1 (by intro j hj; simp [Value.ownBlock] at hj)
    have c4' : w1.cell? ⟨b, off + 4, none⟩ = some (.int .u8 z4) := (hw1.cells _ _ (World.block_lt_of_cell? w _ c4)).trans c4
    have d := b2.cells
    have f := b2.frees
    clear hat1 hgr1 b1 hsrc c4
    go_wp2
    have hlt := (ho1.lt g rfl).2
    have ht : Turn (fun i => i = w.heap.size) w1 ((w1.setCell ⟨w.heap.size, 0, none⟩ (.int .i64 z4)).setCell ⟨w.heap.size, 1, none⟩ (.slice (some ⟨g, 0, none⟩) (n - 5) cap)) := Turn.set (S := fun i => i = w.heap.size) (Turn.set (S := fun i => i = w.heap.size) (Turn.refl _ _) rfl _) rfl _
    refine bodyPost_ret (v := .agg #[.int .i64 z4, .slice (some ⟨g, 0, none⟩) (n - 5) cap]) (by simp [results, Try.results32, go_sem, d]) rfl ⟨some ⟨g, 0, none⟩, cap, by rw [HG.out], ?_, ?_, (by intro h; cases h), (hw1.setCell (Nat.le_refl _) _).setCell (Nat.le_refl _) _⟩
    · refine OwAt.of_own (base := 0) (own_turn ?_ ht (by omega))
      simpa using ho1
    · intro x hx
      obtain rfl := Option.some.inj hx
      exact ⟨by simp; omega, by have := ht.size; simp at this ⊢; omega⟩

end Go.Proofs.Ytopkihgdemcneaa
