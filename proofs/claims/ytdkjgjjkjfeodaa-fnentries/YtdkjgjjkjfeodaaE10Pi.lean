/- What is proved here: what the packing of an entry answers in the program, for every entry of at most 1048576 bytes. -/
import Derived.Test.YtdkjgjjkjfeodaaE10En
import Derived.Test.YtdkjgjjkjfeodaaPackFn
namespace Go.Proofs.Ytdkjgjjkjfeodaa
open Go.RowKit
set_option linter.unusedVariables false

/-- What is summed of an entry; its bytes. -/
def enB (ep k p : Int) (zs : List Int) : List Int := [ep / 256, ep % 256, k, p, (zs.length : Int)] ++ zs
def enP (ep k p : Int) (zs : List Int) : List Int := [5 + (zs.length : Int), sumOf (enB ep k p zs) / 256, sumOf (enB ep k p zs) % 256] ++ enB ep k p zs

theorem enB_len (ep k p : Int) (zs : List Int) : (enB ep k p zs).length = 5 + zs.length := by simp [enB]; omega
theorem enP_len (ep k p : Int) (zs : List Int) : (enP ep k p zs).length = 8 + zs.length := by simp [enP, enB_len]; omega
theorem enF_zero {ep k p : Int} {n : Nat} (h : enF ep k p n = 0) : 1 ≤ ep ∧ ep ≤ 1000 ∧ 1 ≤ k ∧ k ≤ 4 ∧ 0 ≤ p ∧ p ≤ 2 ∧ n ≤ 60 := by
  unfold enF evF P9 at h
  repeat (split at h)
  all_goals omega
theorem enB_bd {ep k p : Int} {zs : List Int} (hz : ∀ z ∈ zs, 0 ≤ z ∧ z ≤ 255) (he : 1 ≤ ep ∧ ep ≤ 1000) (hk : 1 ≤ k ∧ k ≤ 4) (hp : 0 ≤ p ∧ p ≤ 2) (hn : zs.length ≤ 60) : ∀ z ∈ enB ep k p zs, 0 ≤ z ∧ z ≤ 255 := by
  intro z h
  simp only [enB, List.cons_append, List.nil_append, List.mem_cons] at h
  rcases h with rfl | rfl | rfl | rfl | rfl | h
  · omega
  · omega
  · omega
  · omega
  · omega
  · exact hz z h
theorem enP_bd {ep k p : Int} {zs : List Int} (hz : ∀ z ∈ zs, 0 ≤ z ∧ z ≤ 255) (he : 1 ≤ ep ∧ ep ≤ 1000) (hk : 1 ≤ k ∧ k ≤ 4) (hp : 0 ≤ p ∧ p ≤ 2) (hn : zs.length ≤ 60) : ∀ z ∈ enP ep k p zs, 0 ≤ z ∧ z ≤ 255 := by
  intro z h
  have hb := sumOf_bd (enB ep k p zs)
  simp only [enP, List.cons_append, List.nil_append, List.mem_cons] at h
  rcases h with rfl | rfl | rfl | h
  · omega
  · omega
  · omega
  · exact enB_bd hz he hk hp hn z h

/-- What PackEntry answers: the fault, or the entry's bytes in new memory. -/
def EnAns (w : World) (ep k p : Int) (zs : List Int) (e : Ending) (w' : World) : Prop :=
  ∃ (a : Option Addr) (m cap : Nat) (ys : List Int), e = .returned (.agg #[.int .i64 (enF ep k p zs.length), .slice a m cap]) ∧ OwAt w' a m cap ys ∧ (∀ z ∈ ys, 0 ≤ z ∧ z ≤ 255) ∧ (∀ x, a = some x → w.heap.size ≤ x.block ∧ x.block < w'.heap.size) ∧ New w w' ∧
    ys = (if enF ep k p zs.length = 0 then enP ep k p zs else []) ∧ (a = none → m = 0 ∧ cap = 0)

set_option maxHeartbeats 4000000 in
theorem implPE (ep k p : Int) (a : Option Addr) (n c : Nat) (zs : List Int) (w : World) (h : BsAt w a zs) (hn : zs.length = n) (hm : n ≤ 1048576) (hnone : a = none → n = 0 ∧ c = 0) :
    Calls Try.prog 19 #[.agg #[.int .i64 ep, .int .i64 k, .int .i64 p, .slice a n c]] w fun e w' => EnAns w ep k p zs e w' := by
  have hw := ((New.refl w).alloc (.cells #[.int .i64 ep, .int .i64 k, .int .i64 p, .slice a n c] 40)).alloc (.cells #[.int .i64 0, .slice none 0 0] 46)
  have b0 := (Blk.mk w w.heap.size 40 #[.int .i64 ep, .int .i64 k, .int .i64 p, .slice a n c] rfl).alloc (.cells #[.int .i64 0, .slice none 0 0] 46)
  have b1 := Blk.mk (w.alloc (.cells #[.int .i64 ep, .int .i64 k, .int .i64 p, .slice a n c] 40)) (w.heap.size + 1) 46 #[.int .i64 0, .slice none 0 0] (by simp)
  by_cases hf : enF ep k p n = 0
  · have hf' : (enF ep k p n != 0) = false := by simp [hf]
    obtain ⟨he1, he2, hk1, hk4, hp0, hp2, hn60⟩ := enF_zero hf
    have HF : Hid (enF ep k p n = 0) := hf
    clear hf
    obtain ⟨i0, hi, hz0, hz1, hz2⟩ := info_parts Try.infoU8
    go_enter Try.func19, Try.ntmps19
    go_wp2_with fail
    refine (implEN ep k p a n c _ hm).mono ?_
    rintro e w1 ⟨rfl, hn1⟩
    have b0 := b0.new hn1
    have b1 := b1.new hn1
    have s1 := b1.lt
    have hw1 := hw.trans hn1
    have c0 := b0.cells
    clear hn1 hw
    go_wp2_with (at_make; refine wpList_make_own _ rfl _ _ 22 rfl 0 5 i0 (.int .u8 0) 1 Try.underlying22 hi hz0 hz1 _ _ _ (5 + n) rfl rfl (by omega) ?b2 ?b3 (Nat.zero_le _) ?_)
    case b2 => rw [hz2]; omega
    case b3 => unfold maxLen; omega
    intro w2 ho2 hgr2
    have s2 := hgr2.size
    have hw2 : New w w2 := hw1.trans (New.of_grown hgr2)
    have b0 := b0.new (New.of_grown hgr2)
    have b1 := b1.new (New.of_grown hgr2)
    have c0 := b0.cells
    clear hgr2
    go_wp2_with fail
    refine (appendPair_any w1.heap.size 0 (5 + n) ep [] _ (by simpa using ho2) (by omega) (by omega) (by omega)).mono ?_
    rintro e w3 ⟨g3, cap3, rfl, hg3, ho3, ht3⟩
    have b0 := b0.turn ht3 (by omega)
    have b1 := b1.turn ht3 (by omega)
    have hw3 : New w w3 := hw2.before ht3 (by intro i hi h; omega)
    have hg3' : w.heap.size + 1 < g3 := by omega
    have c0 := b0.cells
    have s3 := b1.lt
    have hbs : BsAt (w3.alloc (.cells #[.int .u8 k, .int .u8 p, .int .u8 n] 5)) (some ⟨w3.heap.size, 0, none⟩) [k, p, (n : Int)] := BsAt.of_block (heap_alloc_new _ _) _ rfl (by simp; omega)
    clear ht3 ho2 hg3
    go_wp2_with (at_builtin; refine wpList_ap _ rfl (.tmp 24) (.tmp 38) rfl 0 Try.underlying22 hi hz0 hz1 hz2 (.slice (some ⟨g3, 0, none⟩) 2 cap3) 2 [ep / 256, ep % 256] rfl (by simpa using ho3.alloc _) (some ⟨w3.heap.size, 0, none⟩) 3 3 _ rfl hbs rfl (by intro h; cases h) (by omega) (by omega) (Nat.zero_le _) (w3.heap.size + 1) (by simp) ?_)
    intro g4 cap4 w4 ho4 hgr4 hat4
    have hg4 : w.heap.size + 1 < g4 := by
      rcases hat4 with h' | h'
      · simp [Value.ownBlock] at h'; omega
      · omega
    have hw4 : New w w4 := (hw3.alloc _).grow hgr4 (by intro j hj; simp [Value.ownBlock] at hj; omega)
    have b0 := (b0.alloc _).grow hgr4 (by simp [Value.ownBlock]; omega)
    have b1 := (b1.alloc _).grow hgr4 (by simp [Value.ownBlock]; omega)
    have c0 := b0.cells
    clear hat4 hgr4 ho3 hbs
    go_wp2_with (at_builtin; refine wpList_ap _ rfl (.tmp 40) (.tmp 43) rfl 0 Try.underlying22 hi hz0 hz1 hz2 (.slice (some ⟨g4, 0, none⟩) 5 cap4) 5 [ep / 256, ep % 256, k, p, (n : Int)] rfl ho4 a n c _ rfl (h.new hw4) hn hnone (by omega) (by omega) (Nat.zero_le _) w4.heap.size rfl ?_)
    intro g5 cap5 w5 ho5 hgr5 hat5
    have s4 := b1.lt
    have hg5 : w.heap.size + 1 < g5 := by
      rcases hat5 with h' | h'
      · simp [Value.ownBlock] at h'; omega
      · omega
    have hw5 : New w w5 := hw4.grow hgr5 (by intro j hj; simp [Value.ownBlock] at hj; omega)
    have b1 := b1.grow hgr5 (by simp [Value.ownBlock]; omega)
    have eB : enB ep k p zs = [ep / 256, ep % 256, k, p, (n : Int)] ++ zs := by simp [enB, hn]
    have lB : (enB ep k p zs).length = 5 + n := by rw [enB_len, hn]
    have bB := enB_bd h.lt ⟨he1, he2⟩ ⟨hk1, hk4⟩ ⟨hp0, hp2⟩ (by omega : zs.length ≤ 60)
    have bP := enP_bd h.lt ⟨he1, he2⟩ ⟨hk1, hk4⟩ ⟨hp0, hp2⟩ (by omega : zs.length ≤ 60)
    replace ho5 : w5.ownsRow 0 5 1 (.slice (some ⟨g5, 0, none⟩) (5 + n) cap5) (5 + n) ((enB ep k p zs).map (Value.int .u8)) := by rw [eB]; simpa using ho5
    have hS5 : BsAt w5 (some ⟨g5, 0, none⟩) (enB ep k p zs) := BsAt.of_own ho5 bB
    have hl5 := (ho5.lt g5 rfl).2
    have HP : Hid (enP ep k p zs = [5 + (n : Int), sumOf (enB ep k p zs) / 256, sumOf (enB ep k p zs) % 256] ++ enB ep k p zs) := by unfold Hid enP; rw [hn]
    have sb := sumOf_bd (enB ep k p zs)
    clear eB c0 b0 hat5 hgr5 ho4 ho5
    generalize enB ep k p zs = ys at *
    go_wp2_with (at_make; refine wpList_make_own _ rfl _ _ 22 rfl 0 5 i0 (.int .u8 0) 1 Try.underlying22 hi hz0 hz1 _ _ _ (8 + n) rfl rfl (by omega) ?b4 ?b5 (Nat.zero_le _) ?_)
    case b4 => rw [hz2]; omega
    case b5 => unfold maxLen; omega
    intro w6 ho6 hgr6
    have s6 := hgr6.size
    have hw6 : New w w6 := hw5.trans (New.of_grown hgr6)
    have b1 := b1.new (New.of_grown hgr6)
    have hS6 := hS5.new (New.of_grown hgr6)
    have hl6 := (ho6.lt w5.heap.size rfl).2
    have hbs : BsAt (w6.alloc (.cells #[.int .u8 (5 + (n : Int))] 5)) (some ⟨w6.heap.size, 0, none⟩) [5 + (n : Int)] := BsAt.of_block (heap_alloc_new _ _) _ rfl (by simp; omega)
    clear hgr6 hS5
    go_wp2_with (at_builtin; refine wpList_ap _ rfl (.tmp 48) (.tmp 51) rfl 0 Try.underlying22 hi hz0 hz1 hz2 (.slice (some ⟨w5.heap.size, 0, none⟩) 0 (8 + n)) 0 [] rfl (ho6.alloc _) (some ⟨w6.heap.size, 0, none⟩) 1 1 _ rfl hbs rfl (by intro h; cases h) (by omega) (by omega) (Nat.zero_le _) (w6.heap.size + 1) (by simp) ?_)
    intro g7 cap7 w7 ho7 hgr7 hat7
    have hg7 : w5.heap.size ≤ g7 := by
      rcases hat7 with h' | h'
      · simp [Value.ownBlock] at h'; omega
      · omega
    have hw7 : New w w7 := (hw6.alloc _).grow hgr7 (by intro j hj; simp [Value.ownBlock] at hj; omega)
    have b1 := (b1.alloc _).grow hgr7 (by simp [Value.ownBlock]; omega)
    have hS7 : BsAt w7 (some ⟨g5, 0, none⟩) ys := (hS6.new ((New.refl _).alloc _)).turn (Turn.of_grown (g := w5.heap.size) (by simpa [Value.ownBlock] using hgr7)) (by intro x hx; cases hx; simp; omega)
    clear hat7 hgr7 ho6 hbs hS6
    go_wp2_with fail
    refine (implSum_any (some ⟨g5, 0, none⟩) (5 + n) cap5 ys _ hS7 lB (by omega)).mono ?_
    rintro e w8 ⟨rfl, rfl⟩
    have s8 := b1.lt
    go_wp2_with fail
    refine (appendPair_any g7 1 cap7 (sumOf ys) [5 + (n : Int)] _ (by simpa using ho7) (by omega) (by omega) (by omega)).mono ?_
    rintro e w9 ⟨g9, cap9, rfl, hg9, ho9, ht9⟩
    have hl7 := (ho7.lt g7 rfl).2
    have hg9' : w5.heap.size ≤ g9 := by omega
    have b1 := b1.turn ht9 (by omega)
    have hw9 : New w w9 := hw7.before ht9 (by intro i hi h; omega)
    have hS9 : BsAt w9 (some ⟨g5, 0, none⟩) ys := hS7.turn ht9 (by intro x hx; cases hx; simp; omega)
    have s9 := b1.lt
    clear ht9 ho7 hS7 hg9
    go_wp2_with (at_builtin; refine wpList_ap _ rfl (.tmp 57) (.tmp 58) rfl 0 Try.underlying22 hi hz0 hz1 hz2 (.slice (some ⟨g9, 0, none⟩) 3 cap9) 3 [5 + (n : Int), sumOf ys / 256, sumOf ys % 256] rfl (by simpa using ho9) (some ⟨g5, 0, none⟩) (5 + n) cap5 ys rfl hS9 lB (by intro h; cases h) (by omega) (by omega) (Nat.zero_le _) w9.heap.size rfl ?_)
    intro g10 cap10 w10 ho10 hgr10 hat10
    have hg10 : w5.heap.size ≤ g10 := by
      rcases hat10 with h' | h'
      · simp [Value.ownBlock] at h'; omega
      · have := hw9.size; have := (ho9.lt g9 rfl).2; omega
    have hw10 : New w w10 := hw9.grow hgr10 (by intro j hj; simp [Value.ownBlock] at hj; omega)
    have b1 := b1.grow hgr10 (by simp [Value.ownBlock]; omega)
    have c1 := b1.cells
    have f1 := b1.frees
    have hlt := (ho10.lt g10 rfl).2
    clear hat10 hgr10 ho9 hS9
    go_wp2
    refine bodyPost_ret (v := .agg #[.int .i64 0, .slice (some ⟨g10, 0, none⟩) (3 + (5 + n)) cap10]) (by simp [results, Try.results19, go_sem, c1]) rfl ?_
    have ht : Turn (fun i => i = w.heap.size + 1) w10 ((w10.setCell ⟨w.heap.size + 1, 0, none⟩ (.int .i64 0)).setCell ⟨w.heap.size + 1, 1, none⟩ (.slice (some ⟨g10, 0, none⟩) (3 + (5 + n)) cap10)) := Turn.set (S := fun i => i = w.heap.size + 1) (Turn.set (S := fun i => i = w.heap.size + 1) (Turn.refl _ _) rfl _) rfl _
    have ho11 : w10.ownsRow 0 5 1 (.slice (some ⟨g10, 0, none⟩) (3 + (5 + n)) cap10) (3 + (5 + n)) ((enP ep k p zs).map (Value.int .u8)) := by
      rw [HP.out]
      simpa using ho10
    refine ⟨some ⟨g10, 0, none⟩, 3 + (5 + n), cap10, enP ep k p zs, by rw [hn, HF.out], OwAt.of_own (own_turn ho11 ht (by omega)), bP, ?_, ?_, by rw [hn, if_pos HF.out], by intro h; cases h⟩
    · intro x hx
      obtain rfl := Option.some.inj hx
      exact ⟨by simp; omega, by have := ht.size; simp at this ⊢; omega⟩
    · exact (hw10.setCell (by simp) _).setCell (by simp) _
  · have hf' : (enF ep k p n != 0) = true := by simp [hf]
    have HF : Hid (¬ enF ep k p n = 0) := hf
    clear hf
    go_enter Try.func19, Try.ntmps19
    go_wp2_with fail
    refine (implEN ep k p a n c _ hm).mono ?_
    rintro e w1 ⟨rfl, hn1⟩
    have b1 := b1.new hn1
    have c1 := b1.cells
    have f1 := b1.frees
    have hw1 := hw.trans hn1
    go_wp2
    refine bodyPost_ret (v := .agg #[.int .i64 (enF ep k p n), .slice none 0 0]) (by simp [results, Try.results19, go_sem, c1]) rfl ?_
    refine ⟨none, 0, 0, [], by rw [hn], ⟨rfl, fun h => by omega⟩, by simp, (by intro x hx; cases hx), (hw1.setCell (by simp) _).setCell (by simp) _, by rw [hn, if_neg HF.out], fun _ => ⟨rfl, rfl⟩⟩

end Go.Proofs.Ytdkjgjjkjfeodaa
