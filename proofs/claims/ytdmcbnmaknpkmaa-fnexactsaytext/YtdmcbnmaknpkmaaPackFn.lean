/- What is proved here: what the two packings of a frame answer, for every frame whose body has at most 1048576 bytes. -/
import Derived.Test.YtdmcbnmaknpkmaaPackLib
namespace Go.Proofs.Ytdmcbnmaknpkmaa
open Go.RowKit

/-- What PackFrame answers: the fault, or the frame's bytes in new memory. -/
def PackAns (w : World) (k : Int) (zs : List Int) (e : Ending) (w' : World) : Prop :=
  ∃ (a : Option Addr) (m cap : Nat) (ys : List Int), e = .returned (.agg #[.int .i64 (ff k zs.length), .slice a m cap]) ∧ OwAt w' a m cap ys ∧ (∀ z ∈ ys, 0 ≤ z ∧ z ≤ 255) ∧ (∀ x, a = some x → w.heap.size ≤ x.block ∧ x.block < w'.heap.size) ∧ New w w' ∧
    ys = (if ff k zs.length = 0 then packOf k zs else []) ∧ (a = none → m = 0 ∧ cap = 0)

theorem ff_zero {k : Int} {n : Nat} (h : ff k n = 0) : 1 ≤ k ∧ k ≤ 4 ∧ n ≤ 120 := by
  unfold ff at h
  split at h
  · omega
  · split at h
    · omega
    · omega

set_option maxHeartbeats 1600000 in
theorem implPackFrame_any (k : Int) (a : Option Addr) (n c : Nat) (zs : List Int) (w : World) (h : BsAt w a zs) (hn : zs.length = n) (hm : n ≤ 1048576) (hnone : a = none → n = 0 ∧ c = 0) :
    Calls Try.prog 29 #[.agg #[.int .i64 k, .slice a n c]] w fun e w' => PackAns w k zs e w' := by
  have hw := ((New.refl w).alloc (.cells #[.int .i64 k, .slice a n c] 65)).alloc (.cells #[.int .i64 0, .slice none 0 0] 33)
  by_cases hf : ff k n = 0
  · have hf' : (ff k n != 0) = false := by simp [hf]
    obtain ⟨hk1, hk4, hn120⟩ := ff_zero hf
    have HF : Hid (ff k n = 0) := hf
    clear hf
    obtain ⟨i0, hi, hz0, hz1, hz2⟩ := info_parts Try.infoU8
    have b0 := (Blk.mk w w.heap.size 65 #[.int .i64 k, .slice a n c] rfl).alloc (.cells #[.int .i64 0, .slice none 0 0] 33)
    have b1 := Blk.mk (w.alloc (.cells #[.int .i64 k, .slice a n c] 65)) (w.heap.size + 1) 33 #[.int .i64 0, .slice none 0 0] (by simp)
    go_enter Try.func29, Try.ntmps29
    go_wp2_with fail
    refine (implFF k a n c _ hm).mono ?_
    rintro e w1 ⟨rfl, hn1⟩
    have b0 := b0.new hn1
    have b1 := b1.new hn1
    have s1 := b1.lt
    have hw1 := hw.trans hn1
    have c0 := b0.cells
    clear hn1 hw
    go_wp2_with (at_make; refine wpList_make_own _ rfl _ _ 31 rfl 0 5 i0 (.int .u8 0) 1 Try.underlying31 hi hz0 hz1 _ _ _ (n + 5) rfl rfl (by omega) ?b2 ?b3 (Nat.zero_le _) ?_)
    case b2 => rw [hz2]; omega
    case b3 => unfold maxLen; omega
    intro w2 ho2 hgr2
    have s2 := hgr2.size
    have hw2 : New w w2 := hw1.trans (New.of_grown hgr2)
    have b0 := b0.new (New.of_grown hgr2)
    have b1 := b1.new (New.of_grown hgr2)
    have hbs : BsAt (w2.alloc (.cells #[.int .u8 255, .int .u8 255] 5)) (some ⟨w2.heap.size, 0, none⟩) [255, 255] := BsAt.of_block (heap_alloc_new _ _) _ rfl (by simp)
    clear c0 hgr2
    go_wp2_with (at_builtin; refine wpList_ap _ rfl (.tmp 18) (.tmp 19) rfl 0 Try.underlying31 hi hz0 hz1 hz2 (.slice (some ⟨w1.heap.size, 0, none⟩) 0 (n + 5)) 0 [] rfl (ho2.alloc _) (some ⟨w2.heap.size, 0, none⟩) 2 2 _ rfl hbs rfl (by intro h; cases h) (by omega) (by omega) (Nat.zero_le _) (w2.heap.size + 1) (by simp) ?_)
    intro g3 cap3 w3 ho3 hgr3 hat3
    have hg3 : w.heap.size + 1 < g3 := by
      rcases hat3 with h' | h'
      · simp [Value.ownBlock] at h'; omega
      · omega
    have hw3 : New w w3 := (hw2.alloc _).grow hgr3 (by intro j hj; simp [Value.ownBlock] at hj; omega)
    have b0 := (b0.alloc _).grow hgr3 (by simp [Value.ownBlock]; omega)
    have b1 := (b1.alloc _).grow hgr3 (by simp [Value.ownBlock]; omega)
    clear hat3 hgr3 ho2 hbs
    go_wp2_with fail
    refine (appendPair_any g3 2 cap3 (5 + (n : Int)) [255, 255] _ (by simpa using ho3) (by omega) (by omega) (by omega)).mono ?_
    rintro e w4 ⟨g4, cap4, rfl, hg4, ho4, ht4⟩
    have b0 := b0.turn ht4 (by omega)
    have b1 := b1.turn ht4 (by omega)
    have s3 := hw3.size
    have hw4 : New w w4 := hw3.before ht4 (by intro i hi h; omega)
    have hg4' : w.heap.size + 1 < g4 := by
      rcases hg4 with h' | h'
      · omega
      · have := b1.lt; have := ht4.size; have hb := (ho3.lt g3 rfl).2; omega
    have c0 := b0.cells
    have hbs : BsAt (w4.alloc (.cells #[.int .u8 k] 5)) (some ⟨w4.heap.size, 0, none⟩) [k] := BsAt.of_block (heap_alloc_new _ _) _ rfl (by simp; omega)
    clear ht4 ho3 hg4
    go_wp2_with (at_builtin; refine wpList_ap _ rfl (.tmp 24) (.tmp 28) rfl 0 Try.underlying31 hi hz0 hz1 hz2 (.slice (some ⟨g4, 0, none⟩) 4 cap4) 4 _ rfl (ho4.alloc _) (some ⟨w4.heap.size, 0, none⟩) 1 1 _ rfl hbs rfl (by intro h; cases h) (by omega) (by omega) (Nat.zero_le _) (w4.heap.size + 1) (by simp) ?_)
    intro g5 cap5 w5 ho5 hgr5 hat5
    have s4 := b1.lt
    have hg5 : w.heap.size + 1 < g5 := by
      rcases hat5 with h' | h'
      · simp [Value.ownBlock] at h'; omega
      · omega
    have hw5 : New w w5 := (hw4.alloc _).grow hgr5 (by intro j hj; simp [Value.ownBlock] at hj; omega)
    have b0 := (b0.alloc _).grow hgr5 (by simp [Value.ownBlock]; omega)
    have b1 := (b1.alloc _).grow hgr5 (by simp [Value.ownBlock]; omega)
    have c0 := b0.cells
    clear hat5 hgr5 ho4 hbs
    go_wp2_with (at_builtin; refine wpList_ap _ rfl (.tmp 30) (.tmp 32) rfl 0 Try.underlying31 hi hz0 hz1 hz2 (.slice (some ⟨g5, 0, none⟩) 5 cap5) 5 [255, 255, (5 + (n : Int)) / 256, (5 + (n : Int)) % 256, k] rfl ho5 a n c _ rfl (h.new hw5) hn hnone (by omega) (by omega) (Nat.zero_le _) w5.heap.size rfl ?_)
    intro g6 cap6 w6 ho6 hgr6 hat6
    have s5 := b1.lt
    have hg6 : w.heap.size + 1 < g6 := by
      rcases hat6 with h' | h'
      · simp [Value.ownBlock] at h'; omega
      · omega
    have hw6 : New w w6 := hw5.grow hgr6 (by intro j hj; simp [Value.ownBlock] at hj; omega)
    have b1 := b1.grow hgr6 (by simp [Value.ownBlock]; omega)
    have c1 := b1.cells
    have f1 := b1.frees
    clear hat6 hgr6 ho5 c0
    go_wp2
    refine bodyPost_ret (v := .agg #[.int .i64 0, .slice (some ⟨g6, 0, none⟩) (5 + n) cap6]) (by simp [results, Try.results29, go_sem, c1]) rfl ?_
    have hlt := (ho6.lt g6 rfl).2
    have ht : Turn (fun i => i = w.heap.size + 1) w6 ((w6.setCell ⟨w.heap.size + 1, 0, none⟩ (.int .i64 0)).setCell ⟨w.heap.size + 1, 1, none⟩ (.slice (some ⟨g6, 0, none⟩) (5 + n) cap6)) := Turn.set (S := fun i => i = w.heap.size + 1) (Turn.set (S := fun i => i = w.heap.size + 1) (Turn.refl _ _) rfl _) rfl _
    have ho7 : w6.ownsRow 0 5 1 (.slice (some ⟨g6, 0, none⟩) (5 + n) cap6) (5 + n) ((packOf k zs).map (Value.int .u8)) := by
      have e : packOf k zs = [255, 255, (5 + (n : Int)) / 256, (5 + (n : Int)) % 256, k] ++ zs := by simp [packOf, hn, Int.add_comm]
      rw [e]
      simpa using ho6
    refine ⟨some ⟨g6, 0, none⟩, 5 + n, cap6, packOf k zs, by rw [hn, HF.out], OwAt.of_own (own_turn ho7 ht (by omega)), packOf_bd k zs h.lt (by omega) ⟨hk1, hk4⟩, ?_, ?_, by rw [hn, if_pos HF.out], by intro h; cases h⟩
    · intro x hx
      obtain rfl := Option.some.inj hx
      exact ⟨by simp; omega, by have := ht.size; simp at this ⊢; omega⟩
    · exact (hw6.setCell (by simp) _).setCell (by simp) _
  · have hf' : (ff k n != 0) = true := by simp [hf]
    have HF : Hid (¬ ff k n = 0) := hf
    clear hf
    go_enter Try.func29, Try.ntmps29
    go_wp2_with fail
    refine (implFF k a n c _ hm).mono ?_
    rintro e w1 ⟨rfl, hn1⟩
    have s1 := hn1.size
    simp at s1
    have d0 : w1.cell? ⟨w.heap.size + 1, 0, none⟩ = some (.int .i64 0) := by rw [hn1.cells _ _ (by simp)]; go_simp
    have d1 : w1.cell? ⟨w.heap.size + 1, 1, none⟩ = some (.slice none 0 0) := by rw [hn1.cells _ _ (by simp)]; go_simp
    have f0 : w1.frozen? ⟨w.heap.size + 1, 0, none⟩ = false := by rw [hn1.frozens _ _ (by simp)]; go_simp
    have f1 : w1.frozen? ⟨w.heap.size + 1, 1, none⟩ = false := by rw [hn1.frozens _ _ (by simp)]; go_simp
    have hw1 := hw.trans hn1
    go_wp2
    refine bodyPost_ret (v := .agg #[.int .i64 (ff k n), .slice none 0 0]) (by simp [results, Try.results29, go_sem, d0, d1]) rfl ?_
    refine ⟨none, 0, 0, [], by rw [hn], ⟨rfl, fun h => by omega⟩, by simp, (by intro x hx; cases hx), (hw1.setCell (by simp) _).setCell (by simp) _, by rw [hn, if_neg HF.out], fun _ => ⟨rfl, rfl⟩⟩

set_option maxHeartbeats 400000 in
theorem eqBR_any (x : Int) (a b : Option Addr) (n c d : Nat) (zs : List Int) (w : World) (ha : BsAt w a zs) (hb : BsAt w b zs) (hn : zs.length = n) (hm : n ≤ 1048576) :
    Calls Try.prog 8 #[.agg #[.int .i64 x, .slice a n c], .agg #[.int .i64 x, .slice b n d]] w fun e w' => e = .returned (.bool true) ∧ New w w' := by
  have hk : (x != x) = false := by simp
  have hw := ((New.refl w).alloc (.cells #[.int .i64 x, .slice a n c] 33)).alloc (.cells #[.int .i64 x, .slice b n d] 33)
  go_enter Try.func8, Try.ntmps8
  go_wp2_with fail
  refine (eqBytes_any a b n c d zs _ (ha.new hw) (hb.new hw) hn hm).mono ?_
  rintro e w1 ⟨rfl, hn1⟩
  go_wp2
  go_ret
  exact ⟨rfl, hw.trans hn1⟩

theorem markBR_any (x : Int) (a : Option Addr) (n c : Nat) (k : Int) (zs : List Int) (w : World) (h : OwAt w a n c zs) (hm : n ≤ 4194304) (hk0 : 0 ≤ k) (hk : k ≤ 1073741824) :
    Calls Try.prog 11 #[.agg #[.int .i64 x, .slice a n c], .int .i64 k] w fun e w' => e = .returned (.int .i64 (k + n)) ∧ OwAt w' a n c (marks k n) ∧ Turn (inA a) w w' := by
  have hw := (New.refl w).alloc (.cells #[.int .i64 x, .slice a n c] 33)
  go_enter Try.func11, Try.ntmps11
  go_wp2_with fail
  refine (mark_any a n c k zs _ (h.new hw) hm hk0 hk).mono ?_
  rintro e w1 ⟨rfl, ho1, ht1⟩
  go_wp2
  go_ret
  exact ⟨rfl, ho1, Turn.trans hw.turn ht1 (fun _ _ h => h)⟩

theorem heldBR_any (x : Int) (a : Option Addr) (n c : Nat) (k : Int) (w : World) (h : BsAt w a (marks k n)) (hm : n ≤ 4194304) (hk0 : 0 ≤ k) (hk : k ≤ 1073741824) :
    Calls Try.prog 12 #[.agg #[.int .i64 x, .slice a n c], .int .i64 k] w fun e w' => e = .returned (.int .i64 (k + n)) ∧ New w w' := by
  have hw := (New.refl w).alloc (.cells #[.int .i64 x, .slice a n c] 33)
  go_enter Try.func12, Try.ntmps12
  go_wp2_with fail
  refine (held_any a n c k _ (h.new hw) hm hk0 hk).mono ?_
  rintro e w1 ⟨rfl, rfl⟩
  go_wp2
  go_ret
  exact ⟨rfl, hw⟩

end Go.Proofs.Ytdmcbnmaknpkmaa
