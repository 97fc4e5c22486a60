/- What is proved here: what the drawing of a frame answers. -/
import Derived.Test.YtopkihgdemcneaaDraw
namespace Go.Proofs.Ytopkihgdemcneaa
open Go.RowKit

/-- A frame that was drawn. -/
def FrAns (w : World) (B : Nat) (a : Option Addr) (n c : Nat) (zs : List Int) (t : Nat) (e : Ending) (w' : World) : Prop :=
  ∃ (k : Int) (g m cap t' : Nat) (ys : List Int), e = .returned (.agg #[.int .i64 k, .slice (some ⟨g, 0, none⟩) m cap]) ∧ 0 ≤ k ∧ k ≤ 5 ∧ m ≤ 121 ∧ w.heap.size ≤ g ∧ t' ≤ t + 400 ∧
    w'.ownsRow 0 5 1 (.slice (some ⟨g, 0, none⟩) m cap) m (ys.map (Value.int .u8)) ∧ (∀ y ∈ ys, 0 ≤ y ∧ y ≤ 255) ∧ Sc w' B a n c zs t' ∧ Turn (fun k => k = B) w w'

set_option maxHeartbeats 3200000 in
theorem frame_sc {B n c t : Nat} {a : Option Addr} {zs : List Int} {w : World} (h : Sc w B a n c zs t) (ht : t ≤ 50000) (ha : ∀ x, zs ≠ [] → a = some x → x.block < w.heap.size) :
    Calls Try.prog 17 #[.pointer (some ⟨B, 0, none⟩)] w fun e w' => FrAns w B a n c zs t e w' := by
  obtain ⟨i0, hi, hz0, hz1, hz2⟩ := info_parts Try.infoU8
  have hBlt := h.blk.lt
  have hA0 := (New.refl w).alloc (.cells #[.int .i64 0, .slice none 0 0] 26)
  have b2 := Blk.mk w w.heap.size 26 #[.int .i64 0, .slice none 0 0] rfl
  have tk : ∀ {x y z : World}, Turn (fun k => k = B) x y → Turn (fun k => k = B) y z → Turn (fun k => k = B) x z := fun p q => Turn.trans p q (fun _ _ h => h)
  have TK : Hid (∀ {x y z : World}, Turn (fun k => k = B) x y → Turn (fun k => k = B) y z → Turn (fun k => k = B) x z) := tk
  clear tk
  go_enter Try.func17, Try.ntmps17
  go_wp2_with fail
  refine (next_sc (h.new hA0) 4 (by omega) (by omega)).mono ?_
  rintro e w1 ⟨r1, rfl, hd1, hs1, ht1⟩
  obtain ⟨p1, p2, -⟩ := hd1
  have p2 := p2 (by omega)
  go_wp2_with fail
  refine (next_sc hs1 9 (by omega) (by omega)).mono ?_
  rintro e w2 ⟨r2, rfl, hd2, hs2, ht2⟩
  obtain ⟨q1, q2, -⟩ := hd2
  have q2 := q2 (by omega)
  go_wp2_with fail
  refine (next_sc hs2 30 (by omega) (by omega)).mono ?_
  rintro e w3 ⟨r3, rfl, hd3, hs3, ht3⟩
  obtain ⟨s1, s2, -⟩ := hd3
  have s2 := s2 (by omega)
  go_wp2_with fail
  have hbl := Blk.mk w3 w3.heap.size 2 #[.int .i64 r2, .int .i64 r3, .int .i64 0, .int .i64 120] rfl
  have hal := (New.refl w3).alloc (.cells #[.int .i64 r2, .int .i64 r3, .int .i64 0, .int .i64 120] 2)
  refine (pick_sc (hs3.new hal) [r2, r3, 0, 120] hbl 4 rfl (by omega) (by omega) (by omega)).mono ?_
  rintro e w4 ⟨x, rfl, hx, hs4, ht4⟩
  have hxb : 0 ≤ x ∧ x ≤ 120 := by
    simp only [List.mem_cons, List.not_mem_nil, or_false] at hx
    rcases hx with rfl | rfl | rfl | rfl <;> omega
  obtain ⟨kk, rfl⟩ := Int.eq_ofNat_of_zero_le hxb.1
  have tA : Turn (fun k => k = B) w w4 := TK.out (TK.out (TK.out (TK.out hA0.turn ht1) (TK.out ht2 ht3)) hal.turn) ht4
  have b4 := b2.turn (TK.out (TK.out (TK.out ht1 (TK.out ht2 ht3)) hal.turn) ht4) (by omega)
  have z4 : w.heap.size ≤ w4.heap.size := tA.size
  clear hbl hal ht1 ht2 ht3 ht4 hs1 hs2 hs3 hx b2
  go_wp2_with fail
  refine (some_sc hs4 kk (by omega) (by omega) (fun y hz' hy => by have := ha y hz' hy; omega)).mono ?_
  rintro e w5 ⟨g, cap, t5, ys, rfl, hg, ht5, ho, hys, hs5, htn5⟩
  have hlen5 : ys.length = kk := by simpa using ho.1
  have tB := TK.out tA htn5
  have b5 := (b4.turn htn5 (by omega)).alloc (.cells #[.int .i64 (1 + r1), .slice (some ⟨g, 0, none⟩) kk cap] 26)
  have b3 := Blk.mk w5 w5.heap.size 26 #[.int .i64 (1 + r1), .slice (some ⟨g, 0, none⟩) kk cap] rfl
  have hA5 := (New.refl w5).alloc (.cells #[.int .i64 (1 + r1), .slice (some ⟨g, 0, none⟩) kk cap] 26)
  have z5 := htn5.size
  have z45 := b4.lt
  have hBw5 : B < w5.heap.size := hs5.blk.lt
  clear b4 htn5 hs4 hlen5
  go_wp2_with fail
  refine (next_sc (hs5.new hA5) 16 (by omega) (by omega)).mono ?_
  rintro e w6 ⟨r6, rfl, hd6, hs6, ht6⟩
  have b36 := b3.turn ht6 (by omega)
  have b26 := b5.turn ht6 (by omega)
  have hgB : g ≠ B := by omega
  have ho6 := own_turn (own_new ho hA5) ht6 hgB
  have tC := TK.out (TK.out tB hA5.turn) ht6
  have hlt6 := (ho6.lt g rfl).2
  clear b3 b5 ho hA5 ht6 hd6 hs5
  by_cases e0 : r6 = 0
  · subst e0
    have n0 : ((0 : Int) == 0) = true := rfl
    have hbl := Blk.mk w6 w6.heap.size 2 #[.int .i64 0, .int .i64 5] rfl
    have hal := (New.refl w6).alloc (.cells #[.int .i64 0, .int .i64 5] 2)
    go_wp2_with fail
    refine (pick_sc (hs6.new hal) [0, 5] hbl 2 rfl (by omega) (by omega) (by omega)).mono ?_
    rintro e w7 ⟨x, rfl, hx, hs7, ht7⟩
    have hxb : 0 ≤ x ∧ x ≤ 5 := by
      simp only [List.mem_cons, List.not_mem_nil, or_false] at hx
      rcases hx with rfl | rfl <;> omega
    have b37 := (b36.new hal).turn ht7 (by omega)
    have b27 := (b26.new hal).turn ht7 (by omega)
    have ho7 := own_turn (own_new ho6 hal) ht7 hgB
    have tD := TK.out (TK.out tC hal.turn) ht7
    have c3 := b37.cells
    have f3 := b37.frees
    have c2 := b27.cells
    have f2 := b27.frees
    clear hbl hal ht7 hs6 b36 b26 ho6 hx
    have hlt7 := (ho7.lt g rfl).2
    have h25 : ¬ w.heap.size = w5.heap.size := by omega
    go_wp2
    refine bodyPost_ret (v := .agg #[.int .i64 x, .slice (some ⟨g, 0, none⟩) kk cap]) (by simp [results, Try.results17, go_sem, c2]) rfl ?_
    have tz : Turn (fun k => k = w.heap.size ∨ k = w5.heap.size) w7 (((w7.setCell ⟨w5.heap.size, 0, none⟩ (.int .i64 x)).setCell ⟨w.heap.size, 0, none⟩ (.int .i64 x)).setCell ⟨w.heap.size, 1, none⟩ (.slice (some ⟨g, 0, none⟩) kk cap)) :=
      Turn.set (S := fun k => k = w.heap.size ∨ k = w5.heap.size) (Turn.set (S := fun k => k = w.heap.size ∨ k = w5.heap.size) (Turn.set (S := fun k => k = w.heap.size ∨ k = w5.heap.size) (Turn.refl _ _) (Or.inr rfl) _) (Or.inl rfl) _) (Or.inl rfl) _
    have hgw : g ≠ w.heap.size := fun e => b27.ne_own ho7 (by decide) e.symm
    have hg5 : g ≠ w5.heap.size := fun e => b37.ne_own ho7 (by decide) e.symm
    exact ⟨_, g, kk, cap, _, ys, rfl, by omega, by omega, by omega, by omega, by omega, own_turn ho7 tz (by omega), hys, hs7.turn tz (by omega) (fun y hz' hy => by have := ha y hz' hy; omega), Turn.trans tD tz (fun i hi e => by omega)⟩
  · by_cases e1 : r6 = 1
    · subst e1
      have n0 : ((1 : Int) == 0) = false := rfl
      have n1 : ((1 : Int) == 1) = true := rfl
      go_wp2_with (at_make; refine wpList_make_full _ rfl _ _ 22 rfl 0 5 i0 (.int .u8 0) 1 Try.underlying22 hi hz0 hz1 _ _ _ _ 121 rfl rfl rfl rfl ?b2 ?b3 (Nat.zero_le _) ?_)
      case b2 => rw [hz2]; omega
      case b3 => unfold maxLen; omega
      intro w7 ho7 hgr7
      have hnw := New.of_grown hgr7
      have hs7 := hs6.new hnw
      have b37 := b36.new hnw
      have b27 := b26.new hnw
      have tD := TK.out tC hnw.turn
      have hoo : w7.ownsRow 0 5 1 (.slice (some ⟨w6.heap.size, 0, none⟩) 121 121) 121 ((List.replicate 121 (0 : Int)).map (Value.int .u8)) := by
        rw [List.map_replicate, ← toList_madeCells_one]
        exact ho7
      have c3 := b37.cells
      have f3 := b37.frees
      have c2 := b27.cells
      have f2 := b27.frees
      have z6 := tC.size
      have z56 : w5.heap.size < w6.heap.size := b36.lt
      clear hgr7 ho7 b36 b26 hs6
      have h25 : ¬ w.heap.size = w5.heap.size := by omega
      go_wp2
      refine bodyPost_ret (v := .agg #[.int .i64 (1 + r1), .slice (some ⟨w6.heap.size, 0, none⟩) 121 121]) (by simp [results, Try.results17, go_sem, c2]) rfl ?_
      have tz : Turn (fun k => k = w.heap.size ∨ k = w5.heap.size) w7 (((w7.setCell ⟨w5.heap.size, 1, none⟩ (.slice (some ⟨w6.heap.size, 0, none⟩) 121 121)).setCell ⟨w.heap.size, 0, none⟩ (.int .i64 (1 + r1))).setCell ⟨w.heap.size, 1, none⟩ (.slice (some ⟨w6.heap.size, 0, none⟩) 121 121)) :=
        Turn.set (S := fun k => k = w.heap.size ∨ k = w5.heap.size) (Turn.set (S := fun k => k = w.heap.size ∨ k = w5.heap.size) (Turn.set (S := fun k => k = w.heap.size ∨ k = w5.heap.size) (Turn.refl _ _) (Or.inr rfl) _) (Or.inl rfl) _) (Or.inl rfl) _
      exact ⟨_, w6.heap.size, 121, 121, _, List.replicate 121 0, rfl, by omega, by omega, by omega, by omega, by omega, own_turn hoo tz (by omega), (by intro y hy; have := List.eq_of_mem_replicate hy; omega), hs7.turn tz (by omega) (fun y hz' hy => by have := ha y hz' hy; omega), Turn.trans tD tz (fun i hi e => by omega)⟩
    · have n0 : (r6 == 0) = false := by simp [e0]
      have n1 : (r6 == 1) = false := by simp [e1]
      clear e0 e1
      have c3 := b36.cells
      have c2 := b26.cells
      have f2 := b26.frees
      go_wp2
      refine bodyPost_ret (v := .agg #[.int .i64 (1 + r1), .slice (some ⟨g, 0, none⟩) kk cap]) (by simp [results, Try.results17, go_sem, c2]) rfl ?_
      have tz : Turn (fun k => k = w.heap.size) w6 ((w6.setCell ⟨w.heap.size, 0, none⟩ (.int .i64 (1 + r1))).setCell ⟨w.heap.size, 1, none⟩ (.slice (some ⟨g, 0, none⟩) kk cap)) := Turn.set (S := fun k => k = w.heap.size) (Turn.set (S := fun k => k = w.heap.size) (Turn.refl _ _) rfl _) rfl _
      have hgw : g ≠ w.heap.size := fun e => b26.ne_own ho6 (by decide) e.symm
      exact ⟨_, g, kk, cap, _, ys, rfl, by omega, by omega, by omega, by omega, by omega, own_turn ho6 tz hgw, hys, hs6.turn tz (by omega) (fun y hz' hy => by have := ha y hz' hy; omega), Turn.trans tC tz (fun i hi e => by omega)⟩

set_option maxHeartbeats 800000 in
theorem drawPack_any (b off n c : Nat) (zs : List Int) (w : World) (h : BsAt w (some ⟨b, off, none⟩) zs) (hn : zs.length = n) (hm : n ≤ 2097152) (hb : b < w.heap.size) :
    Calls Try.prog 6 #[.slice (some ⟨b, off, none⟩) n c] w fun e w' => ∃ (k : Int) (g m cap : Nat) (ys : List Int), e = .returned (.agg #[.int .i64 k, .slice (some ⟨g, 0, none⟩) m cap]) ∧ 0 ≤ k ∧ k ≤ 5 ∧ m ≤ 121 ∧ w.heap.size ≤ g ∧
      w'.ownsRow 0 5 1 (.slice (some ⟨g, 0, none⟩) m cap) m (ys.map (Value.int .u8)) ∧ (∀ y ∈ ys, 0 ≤ y ∧ y ≤ 255) ∧ New w w' := by
  have hA := (New.refl w).alloc (.cells #[.int .i64 0, .slice none 0 0] 26)
  have b2 := Blk.mk w w.heap.size 26 #[.int .i64 0, .slice none 0 0] rfl
  have HN : Hid (zs.length = n) := hn
  clear hn
  go_enter Try.func6, Try.ntmps6
  go_wp2_with fail
  refine (source_any _ n c zs _ (h.new hA) HN.out hm (by intro x _ hx; obtain rfl := Option.some.inj hx; simp; omega)).mono ?_
  rintro e w1 ⟨B, rfl, hB, hs1, hn1⟩
  have z1 := hn1.size
  simp at z1 hB
  have b21 := b2.new hn1
  go_wp2_with fail
  refine (frame_sc hs1 (by omega) (by intro x _ hx; obtain rfl := Option.some.inj hx; simp; omega)).mono ?_
  rintro e w2 ⟨k, g, m, cap, t', ys, rfl, k0, k5, hm121, hg, -, ho, hys, hs2, ht2⟩
  have b22 := b21.turn ht2 (by omega)
  have hgw : g ≠ w.heap.size := fun e => b22.ne_own ho (by decide) e.symm
  have c2 := b22.cells
  have f2 := b22.frees
  have hnw : New w w2 := (hA.trans hn1).before ht2 (fun i hi e => by omega)
  clear b2 b21 hs1 hs2
  go_wp2
  refine bodyPost_ret (v := .agg #[.int .i64 k, .slice (some ⟨g, 0, none⟩) m cap]) (by simp [results, Try.results6, go_sem, c2]) rfl ?_
  have tz : Turn (fun k => k = w.heap.size) w2 ((w2.setCell ⟨w.heap.size, 0, none⟩ (.int .i64 k)).setCell ⟨w.heap.size, 1, none⟩ (.slice (some ⟨g, 0, none⟩) m cap)) := Turn.set (S := fun k => k = w.heap.size) (Turn.set (S := fun k => k = w.heap.size) (Turn.refl _ _) rfl _) rfl _
  exact ⟨k, g, m, cap, ys, rfl, k0, k5, hm121, by omega, own_turn ho tz hgw, hys, (hnw.setCell (Nat.le_refl _) _).setCell (Nat.le_refl _) _⟩

end Go.Proofs.Ytopkihgdemcneaa
