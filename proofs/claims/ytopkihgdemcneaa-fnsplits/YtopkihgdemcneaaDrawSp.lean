/- What is proved here: what the bending of bytes and the drawing of a stream of frames answer. -/
import Derived.Test.YtopkihgdemcneaaDrawFr
namespace Go.Proofs.Ytopkihgdemcneaa
open Go.RowKit

/-- Bytes that were bent: of at most one more. -/
def TurnAns (B : Nat) (a : Option Addr) (n c : Nat) (zs : List Int) (t m : Nat) (e : Ending) (w' : World) : Prop :=
  ∃ (g m' cap t' : Nat) (ys : List Int), e = .returned (.slice (some ⟨g, 0, none⟩) m' cap) ∧ m' ≤ m + 1 ∧ m' ≤ cap ∧ ys.length = m' ∧ t' ≤ t + 10 ∧ BsAt w' (some ⟨g, 0, none⟩) ys ∧ Sc w' B a n c zs t'

set_option maxHeartbeats 3200000 in
theorem turn_sc {B n c t g m cap : Nat} {a : Option Addr} {zs ys : List Int} {w : World} (h : Sc w B a n c zs t) (ht : t ≤ 100000) (ha : ∀ x, zs ≠ [] → a = some x → x.block < g) (ho : w.ownsRow 0 5 1 (.slice (some ⟨g, 0, none⟩) m cap) m (ys.map (Value.int .u8))) (hys : ∀ y ∈ ys, 0 ≤ y ∧ y ≤ 255) (hm : m ≤ 2000) :
    Calls Try.prog 26 #[.pointer (some ⟨B, 0, none⟩), .slice (some ⟨g, 0, none⟩) m cap] w fun e w' => TurnAns B a n c zs t m e w' ∧ Turn (fun k => k = B ∨ k = g) w w' := by
  obtain ⟨i0, hi, hz0, hz1, hz2⟩ := info_parts Try.infoU8
  have hl : ys.length = m := by simpa using ho.1
  have HL : Hid (ys.length = m) := hl
  have hmc : m ≤ cap := by
    rcases ho.2 with ⟨h', _⟩ | ⟨_, _, _, h', _, _, hle, _⟩
    · simp at h'
    · simp only [Value.slice.injEq, Option.some.injEq, Addr.mk.injEq, and_true, true_and] at h'
      omega
  have hgB : g ≠ B := fun e => h.blk.ne_own ho (by decide) e.symm
  have tw : ∀ {x y : World}, Turn (fun k => k = B) x y → Turn (fun k => k = B ∨ k = g) x y := fun p => p.mono (fun _ _ h => .inl h)
  have TW : Hid (∀ {x y : World}, Turn (fun k => k = B) x y → Turn (fun k => k = B ∨ k = g) x y) := tw
  clear hl tw
  by_cases h0 : m = 0
  · subst h0
    go_enter Try.func26, Try.ntmps26
    go_wp2
    go_ret
    exact ⟨⟨g, 0, cap, t, ys, rfl, by omega, by omega, HL.out, by omega, BsAt.of_own ho hys, h⟩, Turn.refl _ _⟩
  have hm0 : ((m : Int) == 0) = false := by simp; omega
  go_enter Try.func26, Try.ntmps26
  go_wp2_with fail
  refine (chance_sc h 3 (by omega) (by omega)).mono ?_
  rintro e w1 ⟨r1, rfl, hs1, ht1⟩
  have ho1 := own_turn ho ht1 hgB
  cases r1 with
  | false =>
    go_wp2
    go_ret
    exact ⟨⟨g, m, cap, _, ys, rfl, by omega, hmc, HL.out, by omega, BsAt.of_own ho1 hys, hs1⟩, TW.out ht1⟩
  | true =>
    go_wp2_with fail
    refine (next_sc hs1 (m : Int) (by omega) (by omega)).mono ?_
    rintro e w2 ⟨r2, rfl, hd2, hs2, ht2⟩
    obtain ⟨hr0, hr1, -⟩ := hd2
    have hr1 := hr1 (by omega)
    obtain ⟨i, rfl⟩ := Int.eq_ofNat_of_zero_le hr0
    have ho2 := own_turn ho1 ht2 hgB
    have t12 := Turn.trans ht1 ht2 (fun _ _ h => h)
    clear ht1 ht2 hs1 ho1
    go_wp2_with fail
    refine (next_sc hs2 3 (by omega) (by omega)).mono ?_
    rintro e w3 ⟨r3, rfl, hd3, hs3, ht3⟩
    have ho3 := own_turn ho2 ht3 hgB
    have t13 := Turn.trans t12 ht3 (fun _ _ h => h)
    clear t12 ht3 hs2 ho2
    by_cases e0 : r3 = 0
    · subst e0
      have n0 : ((0 : Int) == 0) = true := rfl
      go_wp2_with fail
      refine (next_sc hs3 256 (by omega) (by omega)).mono ?_
      rintro e w4 ⟨x, rfl, hdx, hs4, ht4⟩
      obtain ⟨p1, p2, -⟩ := hdx
      have p2 := p2 (by omega)
      have ho4 := own_turn ho3 ht4 hgB
      have t14 := Turn.trans t13 ht4 (fun _ _ h => h)
      have hfz := ho4.frozenAt i
      have hst := ho4.stored i (.int .u8 x)
      rw [← List.map_set] at hst
      have hcw : ∃ v, w4.cell? ⟨g, i, none⟩ = some v := by
        rw [ho4.cellAt i (by omega)]
        exact ⟨_, List.getElem?_eq_getElem (by have := ho4.1; omega)⟩
      obtain ⟨v, hv⟩ := hcw
      have tg : Turn (fun k => k = g) w4 (w4.setCell ⟨g, i, none⟩ (.int .u8 x)) := Turn.of_grown hst.2
      have hs5 := hs4.turn tg (fun e => hgB e.symm) (fun y hz' hy e => by have := ha y hz' hy; omega)
      have hys5 : ∀ y ∈ ys.set i x, 0 ≤ y ∧ y ≤ 255 := by intro y hy; rcases List.mem_or_eq_of_mem_set hy with h' | h'; exact hys y h'; subst h'; omega
      have hb5 := BsAt.of_own hst.1 hys5
      have t15 : Turn (fun k => k = B ∨ k = g) w (w4.setCell ⟨g, i, none⟩ (.int .u8 x)) := Turn.trans (TW.out t14) tg (fun i _ e => .inr e)
      clear hst ht4 hs3 t13 ho3 ho4
      go_wp2
      go_ret
      exact ⟨⟨g, m, cap, _, ys.set i x, rfl, by omega, hmc, by have := HL.out; rw [List.length_set]; exact this, by omega, hb5, hs5⟩, t15⟩
    · by_cases e1 : r3 = 1
      · subst e1
        have n0 : ((1 : Int) == 0) = false := rfl
        have n1 : ((1 : Int) == 1) = true := rfl
        have hic : i ≤ cap := by omega
        go_wp2
        go_ret
        exact ⟨⟨g, i, cap, _, ys.take i, rfl, by omega, by omega, by have := HL.out; rw [List.length_take]; omega, by omega, (BsAt.of_own ho3 hys).take i, hs3⟩, TW.out t13⟩
      · obtain rfl : r3 = 2 := by obtain ⟨p1, p2, -⟩ := hd3; have p2 := p2 (by omega); omega
        have n0 : ((2 : Int) == 0) = false := rfl
        have n1 : ((2 : Int) == 1) = false := rfl
        have n2 : ((2 : Int) == 2) = true := rfl
        have hbl := Blk.mk w3 w3.heap.size 2 #[.int .i64 0, .int .i64 255] rfl
        have hal := (New.refl w3).alloc (.cells #[.int .i64 0, .int .i64 255] 2)
        go_wp2_with fail
        refine (pick_sc (hs3.new hal) [0, 255] hbl 2 rfl (by omega) (by omega) (by omega)).mono ?_
        rintro e w4 ⟨x, rfl, hx, hs4, ht4⟩
        have hxb : 0 ≤ x ∧ x ≤ 255 := by
          simp only [List.mem_cons, List.not_mem_nil, or_false] at hx
          rcases hx with rfl | rfl <;> omega
        have ho4 := own_turn (own_new ho3 hal) ht4 hgB
        have t14 := Turn.trans (Turn.trans t13 hal.turn (fun _ _ h => h)) ht4 (fun _ _ h => h)
        have hbs4 : BsAt (w4.alloc (.cells #[.int .u8 x] 5)) (some ⟨w4.heap.size, 0, none⟩) [x] := BsAt.of_block (heap_alloc_new _ _) _ rfl (by simp; omega)
        have hA4 := (New.refl w4).alloc (.cells #[.int .u8 x] 5)
        clear hbl hal ht4 hs3 t13 ho3 hx e0 e1
        go_wp2_with (at_builtin; refine wpList_ap _ rfl (.tmp 36) (.tmp 41) rfl 0 Try.underlying22 hi hz0 hz1 hz2 (.slice (some ⟨g, 0, none⟩) m cap) m ys rfl (ho4.alloc _) (some ⟨w4.heap.size, 0, none⟩) 1 1 [x] rfl hbs4 rfl (by intro h; cases h) (by omega) (by omega) (Nat.zero_le _) (w4.heap.size + 1) (by simp) ?_)
        intro g5 cap5 w5 ho5 hgr5 hat5
        have tg : Turn (fun k => k = g) (w4.alloc (.cells #[.int .u8 x] 5)) w5 := Turn.of_grown hgr5
        have hs5 := (hs4.new hA4).turn tg (fun e => hgB e.symm) (fun y hz' hy e => by have := ha y hz' hy; omega)
        have hys5 : ∀ y ∈ ys ++ [x], 0 ≤ y ∧ y ≤ 255 := by intro y hy; rcases List.mem_append.1 hy with h' | h'; exact hys y h'; simp at h'; subst h'; exact hxb
        have hb5 : BsAt w5 (some ⟨g5, 0, none⟩) (ys ++ [x]) := BsAt.of_own (n := m + 1) (cap := cap5) (base := 0) (e := 5) (by simpa using ho5) hys5
        have hc5 : m + 1 ≤ cap5 := by
          rcases ho5.2 with ⟨h', _⟩ | ⟨_, _, _, h', _, _, hle, _⟩
          · simp at h'
          · simp only [Value.slice.injEq, Option.some.injEq, Addr.mk.injEq, and_true, true_and] at h'
            omega
        have t15 : Turn (fun k => k = B ∨ k = g) w w5 := Turn.trans (Turn.trans (TW.out t14) hA4.turn (fun _ _ h => h)) tg (fun i _ e => .inr e)
        clear ho5 hgr5 hat5 ho4 hbs4
        go_wp2
        go_ret
        exact ⟨⟨g5, m + 1, cap5, _, ys ++ [x], rfl, by omega, hc5, by have := HL.out; simp; omega, by omega, hb5, hs5⟩, t15⟩

set_option maxHeartbeats 3200000 in
theorem drawSplit_any (a : Option Addr) (n c : Nat) (zs : List Int) (w : World) (h : BsAt w a zs) (hn : zs.length = n) (hm : n ≤ 2097152) (ha : ∀ x, zs ≠ [] → a = some x → x.block < w.heap.size) :
    Calls Try.prog 12 #[.slice a n c] w fun e w' => ∃ (g m cap : Nat) (ys : List Int), e = .returned (.slice (some ⟨g, 0, none⟩) m cap) ∧ m ≤ 1000 ∧ m ≤ cap ∧ ys.length = m ∧ BsAt w' (some ⟨g, 0, none⟩) ys ∧ New w w' := by
  obtain ⟨i0, hi, hz0, hz1, hz2⟩ := info_parts Try.infoU8
  have HN : Hid (zs.length = n) := hn
  clear hn
  go_enter Try.func12, Try.ntmps12
  go_wp2_with fail
  refine (source_any a n c zs _ h HN.out hm ha).mono ?_
  rintro e w1 ⟨B, rfl, hB, hs1, hn1⟩
  have z1 := hn1.size
  have hA1 := (New.refl w1).alloc (.cells #[] 5)
  have ho1 := New.lit (w := w1) 0 [] w1.heap.size rfl rfl (by omega) #[] rfl
  go_wp2_with fail
  refine (next_sc (hs1.new hA1) 4 (by omega) (by omega)).mono ?_
  rintro e w2 ⟨r2, rfl, hd2, hs2, ht2⟩
  obtain ⟨q1, q2, -⟩ := hd2
  have q2 := q2 (by omega)
  obtain ⟨k0, rfl⟩ := Int.eq_ofNat_of_zero_le q1
  have hB1 : B < w1.heap.size := hs1.blk.lt
  have ho2 := own_turn ho1 ht2 (by omega)
  have hw2 : New w w2 := (hn1.trans hA1).before ht2 (fun i hi e => by omega)
  clear ho1 ht2
  go_wp2_with fail
  go_loopw [4, 5] (fun s4 s5 wr => ∃ (k g m cap t' : Nat) (ys : List Int), k ≤ 3 ∧ s5 = .int .i64 k ∧ s4 = .slice (some ⟨g, 0, none⟩) m cap ∧ w.heap.size ≤ g ∧ m + 125 * k ≤ 375 ∧ t' + 400 * k ≤ 2000 ∧ wr.ownsRow 0 5 1 (.slice (some ⟨g, 0, none⟩) m cap) m (ys.map (Value.int .u8)) ∧ (∀ y ∈ ys, 0 ≤ y ∧ y ≤ 255) ∧ Sc wr B a n c zs t' ∧ New w wr) (fun _ s5 _ => (intOf s5).toNat)
  case atStart => exact ⟨k0, w1.heap.size, 0, 0, _, [], by omega, rfl, rfl, by omega, by omega, by omega, ho2, by simp, hs2, hw2⟩
  case round =>
    obtain ⟨k, g, m, cap, t', ys, hk, rfl, rfl, hg, hmk, htk, ho, hys, hsc, hnw⟩ := hrel
    have zr := hnw.size
    have hgB : g ≠ B := fun e => hsc.blk.ne_own ho (by decide) e.symm
    by_cases hlt : 0 < k
    · go_wp2_with fail
      refine (frame_sc hsc (by omega) (fun x hz' hx => by have := ha x hz' hx; omega)).mono ?_
      rintro e w3 ⟨k3, g3, m3, cap3, t3, ys3, rfl, j0, j5, hm3, hg3, ht3, ho3, hys3, hs3, htn3⟩
      have hl3 : ys3.length = m3 := by simpa using ho3.1
      have HL3 : Hid (ys3.length = m3) := hl3
      have hA3 := (New.refl w3).alloc (.cells #[.int .i64 k3, .slice (some ⟨g3, 0, none⟩) m3 cap3] 26)
      have b3 := Blk.mk w3 w3.heap.size 26 #[.int .i64 k3, .slice (some ⟨g3, 0, none⟩) m3 cap3] rfl
      have hog := own_new (own_turn ho htn3 hgB) hA3
      have hs3' := hs3.new hA3
      have hw3 : New w w3 := hnw.before htn3 (fun i hi e => by omega)
      have hb3 := (BsAt.of_own ho3 hys3).new hA3
      have c3 := b3.cells
      clear ho hsc htn3 hl3 ho3 hs3
      go_wp2_with fail
      refine (specFF k3 _ m3 cap3 _ (by omega)).mono ?_
      rintro e w4 ⟨rfl, hn4⟩
      have b4 := b3.new hn4
      have hog4 := own_new hog hn4
      have hs4 := hs3'.new hn4
      have hw4 := (hw3.trans hA3).trans hn4
      have hb4 := hb3.new hn4
      have c4 := b4.cells
      clear c3 b3 hog hs3' hb3
      by_cases hff : ff k3 m3 = 0
      · obtain ⟨j1, j4, jl⟩ := ff_zero hff
        have hf0 : (ff k3 m3 == 0) = true := by simp [hff]
        clear hff
        go_wp2_with fail
        refine (specPack_any k3 _ m3 cap3 ys3 _ hb4 HL3.out jl j1 j4 (by intro h; cases h)).mono ?_
        rintro e w5 ⟨g5, cap5, rfl, hg5, ho5, hn5⟩
        have hog5 := own_new hog4 hn5
        have hs5 := hs4.new hn5
        have hw5 := hw4.trans hn5
        have hb5 : BsAt w5 (some ⟨g5, 0, none⟩) (packOf k3 ys3) := BsAt.of_own ho5 (packOf_bd k3 ys3 hys3 (by have := HL3.out; omega) ⟨j1, j4⟩)
        have HLp : Hid ((packOf k3 ys3).length = m3 + 5) := by unfold Hid; rw [packOf_length, HL3.out]
        clear c4 b4 hog4 hs4 hb4 ho5
        go_wp2_with (at_builtin; refine wpList_ap _ rfl (.tmp 21) (.tmp 23) rfl 0 Try.underlying22 hi hz0 hz1 hz2 (.slice (some ⟨g, 0, none⟩) m cap) m ys rfl hog5 (some ⟨g5, 0, none⟩) (m3 + 5) cap5 (packOf k3 ys3) rfl hb5 HLp.out (by intro h; cases h) (by omega) (by omega) (Nat.zero_le _) w5.heap.size rfl ?_)
        intro g6 cap6 w6 ho6 hgr6 hat6
        have tg : Turn (fun k => k = g) w5 w6 := Turn.of_grown hgr6
        have hs6 := hs5.turn tg (fun e => hgB e.symm) (fun y hz' hy e => by have := ha y hz' hy; omega)
        have hw6 : New w w6 := hw5.before tg (fun i hi e => by omega)
        have hg6 : w.heap.size ≤ g6 := by
          rcases hat6 with h' | h'
          · simp [Value.ownBlock] at h'; omega
          · have := hw5.size; omega
        have hys6 : ∀ y ∈ ys ++ packOf k3 ys3, 0 ≤ y ∧ y ≤ 255 := by intro y hy; rcases List.mem_append.1 hy with h' | h'; exact hys y h'; exact packOf_bd k3 ys3 hys3 (by have := HL3.out; omega) ⟨j1, j4⟩ y h'
        have ho6' : w6.ownsRow 0 5 1 (.slice (some ⟨g6, 0, none⟩) (m + (m3 + 5)) cap6) (m + (m3 + 5)) ((ys ++ packOf k3 ys3).map (Value.int .u8)) := by simpa using ho6
        clear hgr6 hat6 hog5 hb5 ho6 tg
        go_wp2
        go_roundw
        case rel => exact ⟨k - 1, g6, m + (m3 + 5), cap6, _, ys ++ packOf k3 ys3, by omega, by go_num, rfl, hg6, by omega, by omega, ho6', hys6, hs6, hw6⟩
        case measure => simp [intOf]; omega
      · have hf0 : (ff k3 m3 == 0) = false := by simp [hff]
        clear hff
        go_wp2
        go_roundw
        case rel => exact ⟨k - 1, g, m, cap, _, ys, by omega, by go_num, rfl, hg, by omega, by omega, hog4, hys, hs4, hw4⟩
        case measure => simp [intOf]; omega
    · obtain rfl : k = 0 := by omega
      go_wp2_with fail
      refine (chance_sc hsc 30 (by omega) (by omega)).mono ?_
      rintro e w3 ⟨r3, rfl, hs3, ht3⟩
      have ho3 := own_turn ho ht3 hgB
      have hw3 : New w w3 := hnw.before ht3 (fun i hi e => by omega)
      clear hsc ho ht3
      cases r3 with
      | false =>
        go_wp2_with fail
        refine (turn_sc hs3 (by omega) (fun x hz' hx => by have := ha x hz' hx; omega) ho3 hys (by omega)).mono ?_
        rintro e w4 ⟨⟨g4, m4, cap4, t4, ys4, rfl, hm4, hc4, hl4, -, hb4, -⟩, ht4⟩
        have hw4 : New w w4 := hw3.before ht4 (fun i hi e => by omega)
        go_wp2
        go_ret
        exact ⟨g4, m4, cap4, ys4, rfl, by omega, hc4, hl4, hb4, hw4⟩
      | true =>
        go_wp2_with (at_make; refine wpList_make_full _ rfl _ _ 22 rfl 0 5 i0 (.int .u8 0) 1 Try.underlying22 hi hz0 hz1 _ _ _ _ 401 rfl rfl rfl rfl ?b2 ?b3 (Nat.zero_le _) ?_)
        case b2 => rw [hz2]; omega
        case b3 => unfold maxLen; omega
        intro w4 ho4 hgr4
        have hnn := New.of_grown hgr4
        have hoo : w4.ownsRow 0 5 1 (.slice (some ⟨w3.heap.size, 0, none⟩) 401 401) 401 ((List.replicate 401 (0 : Int)).map (Value.int .u8)) := by
          rw [List.map_replicate, ← toList_madeCells_one]
          exact ho4
        have z3 := hw3.size
        have hs4 := hs3.new hnn
        have hw4 := hw3.trans hnn
        clear hgr4 ho4
        go_wp2_with fail
        refine (turn_sc hs4 (by omega) (fun x hz' hx => by have := ha x hz' hx; omega) hoo (by intro y hy; have := List.eq_of_mem_replicate hy; omega) (by omega)).mono ?_
        rintro e w5 ⟨⟨g5, m5, cap5, t5, ys5, rfl, hm5, hc5, hl5, -, hb5, -⟩, ht5⟩
        have hw5 : New w w5 := hw4.before ht5 (fun i hi e => by omega)
        go_wp2
        go_ret
        exact ⟨g5, m5, cap5, ys5, rfl, by omega, hc5, hl5, hb5, hw5⟩

end Go.Proofs.Ytopkihgdemcneaa
