/- What is proved here: what the drawing of a prefix out of a list of bytes answers. -/
import Derived.Test.YtjampcfikfafkaaGreatDraw
import Derived.Test.YtjampcfikfafkaaGreatPxFn
import Derived.Test.YtjampcfikfafkaaGreatQB
namespace Go.Proofs.YtjampcfikfafkaaGreat
open Go.RowKit Go.Sort

/-- What a drawing may turn: the source's block alone. -/
theorem Turn.both {B : Nat} {x y z : World} (h : Turn (fun k => k = B) x y) (k : Turn (fun k => k = B) y z) : Turn (fun k => k = B) x z := Turn.trans h k (fun _ _ e => e)
theorem Turn.andNew {S : Nat → Prop} {x y z : World} (h : Turn S x y) (k : New y z) : Turn S x z := Turn.trans h k (fun _ _ e => e.elim)
theorem Turn.andSet {S : Nat → Prop} {x y : World} (h : Turn S x y) (p : Addr) (v : Value) (hp : x.heap.size ≤ p.block) : Turn S x (y.setCell p v) :=
  Turn.trans (T := fun k => k = p.block) h (Turn.set (S := fun k => k = p.block) (Turn.refl _ _) rfl _) (fun i hi e => by omega)

theorem Sc.lt_of {B n c t : Nat} {a : Option Addr} {zs : List Int} {w : World} (h : Sc w B a n c zs t) : ∀ x, zs ≠ [] → a = some x → x.block < w.heap.size := by
  intro x hz hx
  obtain ⟨b, off, e, hlt⟩ := h.bs.block_lt hz
  rw [e] at hx
  obtain rfl := Option.some.inj hx
  exact hlt

theorem Sc.setN {B n c t N : Nat} {a : Option Addr} {zs : List Int} {w : World} (h : Sc w B a n c zs t) (hA : ∀ x, zs ≠ [] → a = some x → x.block < N) (hB : B < N) (p : Addr) (v : Value) (hp : N ≤ p.block) : Sc (w.setCell p v) B a n c zs t :=
  h.turn (S := fun k => k = p.block) (Turn.set (S := fun k => k = p.block) (Turn.refl _ _) rfl _) (by omega) (fun x hz hx e => by have := hA x hz hx; omega)

set_option maxHeartbeats 1600000 in
theorem l2Prefix_sc {B n c t : Nat} {a : Option Addr} {zs : List Int} {w : World} (h : Sc w B a n c zs t) (ht : t ≤ 100000) :
    Calls Tryz.prog 93 #[.pointer (some ⟨B, 0, none⟩)] w fun e w' => ∃ (x l : Int) (t' : Nat), e = .returned (.agg #[.int .i64 x, .int .i64 l]) ∧ pf x l = 0 ∧ t' ≤ t + 10 ∧ Sc w' B a n c zs t' ∧ Turn (fun k => k = B) w w' := by
  have hlt := h.blk.lt
  have hw0 := (New.refl w).alloc (.cells #[.int .i64 0, .int .i64 0] 33)
  have hR : Blk (w.alloc (.cells #[.int .i64 0, .int .i64 0] 33)) w.heap.size 33 #[.int .i64 0, .int .i64 0] := Blk.mk _ _ _ _ rfl
  have hRB : ¬ w.heap.size = B := by omega
  have hge := Nat.le_refl w.heap.size
  have hA := h.lt_of
  go_enter Tryz.func93, Tryz.ntmps93
  go_wp2_with fail
  refine (next_sc (h.new hw0) 17 (by omega) (by omega)).mono ?_
  rintro e w1 ⟨r1, rfl, hd1, hs1, ht1⟩
  have t1 : Turn (fun k => k = B) w w1 := Turn.trans hw0.turn ht1 (fun _ _ e => e)
  have hR1 := hR.turn ht1 hRB
  go_wp2_with fail
  have hbl := Blk.mk w1 w1.heap.size 2 #[.int .i64 8, .int .i64 4, .int .i64 12, .int .i64 16, .int .i64 0, .int .i64 r1] rfl
  have hal := (New.refl w1).alloc (.cells #[.int .i64 8, .int .i64 4, .int .i64 12, .int .i64 16, .int .i64 0, .int .i64 r1] 2)
  refine (pick_sc (hs1.new hal) [8, 4, 12, 16, 0, r1] hbl 6 rfl (by omega) (by omega) (by omega)).mono ?_
  rintro e w2 ⟨l, rfl, hx, hs2, ht2⟩
  have hl : 0 ≤ l ∧ l ≤ 16 := by
    obtain ⟨p1, p2, -⟩ := hd1
    have p2 := p2 (by omega)
    simp only [List.mem_cons, List.not_mem_nil, or_false] at hx
    rcases hx with rfl | rfl | rfl | rfl | rfl | rfl <;> omega
  have t2 : Turn (fun k => k = B) w w2 := (t1.andNew hal).both ht2
  have hR2 := (hR1.new hal).turn ht2 hRB
  clear hbl hal hx ht1 ht2 hd1 hs1 hR1 t1
  go_wp2_with fail
  refine (next_sc hs2 6 (by omega) (by omega)).mono ?_
  rintro e w3 ⟨r3, rfl, hd3, hs3, ht3⟩
  obtain ⟨p3, q3, -⟩ := hd3
  have q3 := q3 (by omega)
  go_wp2_with fail
  refine (next_sc hs3 3 (by omega) (by omega)).mono ?_
  rintro e w4 ⟨r4, rfl, hd4, hs4, ht4⟩
  obtain ⟨p4, q4, -⟩ := hd4
  have q4 := q4 (by omega)
  have t4 : Turn (fun k => k = B) w w4 := (t2.both ht3).both ht4
  have hR4 := (hR2.turn ht3 hRB).turn ht4 hRB
  clear ht3 ht4 hs3 t2 hR2
  have hv0 : 0 ≤ r3 * 2560 + r4 * 16 := by omega
  have hv1 : r3 * 2560 + r4 * 16 ≤ 65535 := by omega
  have hlow := bits_high64 hv0 hv1 hl.1 hl.2
  go_wp2_with fail
  refine (l2Rest_any l _ hl.1 hl.2).mono ?_
  rintro e w5 ⟨rfl, rfl⟩
  have hb := szp_bd hl.1 hl.2
  have hpf : Hid (pf (r3 * 2560 + r4 * 16 - (r3 * 2560 + r4 * 16) % szp l) l = 0) := by
    generalize r3 * 2560 + r4 * 16 = v at *
    have hm0 := Int.emod_nonneg v (show szp l ≠ 0 by omega)
    have h3 := Int.mul_ediv_add_emod v (szp l)
    have h4 : 0 ≤ szp l * (v / szp l) := Int.mul_nonneg (by omega) (Int.ediv_nonneg hv0 (by omega))
    have e : (v - v % szp l) % szp l = 0 := by
      rw [show v - v % szp l = szp l * (v / szp l) by omega]
      exact Int.mul_emod_right _ _
    unfold Hid pf
    rw [if_neg (by omega), if_neg (by omega)]
  have hcs := hR4.cells
  have hfs := hR4.frees
  go_wp2
  refine bodyPost_ret (v := .agg #[.int .i64 (r3 * 2560 + r4 * 16 - (r3 * 2560 + r4 * 16) % szp l), .int .i64 l]) (by simp [results, Tryz.results93, go_sem, hcs]) rfl ⟨_, _, t + 1 + 1 + 1 + 1, rfl, hpf.out, ?_, ?_, ?_⟩
  · omega
  · exact (hs4.setN hA hlt _ _ hge).setN hA hlt _ _ hge
  · exact Turn.andSet (Turn.andSet t4 _ _ hge) _ _ hge

set_option maxHeartbeats 1600000 in
theorem l2Bent_sc {B n c t : Nat} {a : Option Addr} {zs : List Int} {w : World} (h : Sc w B a n c zs t) (ht : t ≤ 100000) :
    Calls Tryz.prog 95 #[.pointer (some ⟨B, 0, none⟩)] w fun e w' => ∃ (x l : Int) (t' : Nat), e = .returned (.agg #[.int .i64 x, .int .i64 l]) ∧ (-1 ≤ x ∧ x ≤ 65536) ∧ (-1 ≤ l ∧ l ≤ 17) ∧ t' ≤ t + 20 ∧ Sc w' B a n c zs t' ∧ Turn (fun k => k = B) w w' := by
  have hlt := h.blk.lt
  have hw0 := (New.refl w).alloc (.cells #[.int .i64 0, .int .i64 0] 33)
  have hR : Blk (w.alloc (.cells #[.int .i64 0, .int .i64 0] 33)) w.heap.size 33 #[.int .i64 0, .int .i64 0] := Blk.mk _ _ _ _ rfl
  have hRB : ¬ w.heap.size = B := by omega
  have hge := Nat.le_refl w.heap.size
  have hA := h.lt_of
  go_enter Tryz.func95, Tryz.ntmps95
  go_wp2_with fail
  refine (l2Prefix_sc (h.new hw0) ht).mono ?_
  rintro e w1 ⟨x, l, t', rfl, hp, htt, hs1, ht1⟩
  obtain ⟨hx0, hx1, hl0, hl1, -⟩ := pf_ok hp
  have t1 : Turn (fun k => k = B) w w1 := Turn.trans hw0.turn ht1 (fun _ _ e => e)
  have hR1 := hR.turn ht1 hRB
  have hal := (New.refl w1).alloc (.cells #[.int .i64 x, .int .i64 l] 33)
  have hP : Blk (w1.alloc (.cells #[.int .i64 x, .int .i64 l] 33)) w1.heap.size 33 #[.int .i64 x, .int .i64 l] := Blk.mk _ _ _ _ rfl
  have hsz := t1.size
  have hPB : ¬ w1.heap.size = B := by omega
  have hRlt := hR1.lt
  have hPR : ¬ w1.heap.size = w.heap.size := by omega
  go_wp2_with fail
  refine (next_sc (hs1.new hal) 14 (by omega) (by omega)).mono ?_
  rintro e w2 ⟨r2, rfl, hd2, hs2, ht2⟩
  have t2 : Turn (fun k => k = B) w w2 := (t1.andNew hal).both ht2
  have hR2 := (hR1.new hal).turn ht2 hRB
  have hP2 := hP.turn ht2 hPB
  clear hd2 hP hR1 ht1 ht2 hs1 hal t1
  by_cases e0 : r2 = 0
  · subst e0
    have n0 : ((0 : Int) == 0) = true := rfl
    go_wp2_with fail
    have hbl := Blk.mk w2 w2.heap.size 2 #[.int .i64 (-1), .int .i64 65536, .int .i64 65535, .int .i64 1] rfl
    have hal := (New.refl w2).alloc (.cells #[.int .i64 (-1), .int .i64 65536, .int .i64 65535, .int .i64 1] 2)
    refine (pick_sc (hs2.new hal) [-1, 65536, 65535, 1] hbl 4 rfl (by omega) (by omega) (by omega)).mono ?_
    rintro e w3 ⟨y, rfl, hy, hs3, ht3⟩
    have hyb : -1 ≤ y ∧ y ≤ 65536 := by
      simp only [List.mem_cons, List.not_mem_nil, or_false] at hy
      rcases hy with rfl | rfl | rfl | rfl <;> omega
    have t3 : Turn (fun k => k = B) w w3 := (t2.andNew hal).both ht3
    have hR3 := (hR2.new hal).turn ht3 hRB
    have hP3 := (hP2.new hal).turn ht3 hPB
    have hcs := hR3.cells
    have hfs := hR3.frees
    have hcp := hP3.cells
    have hfp := hP3.frees
    have hg1 : w.heap.size ≤ w1.heap.size := hsz
    clear hbl hal hy ht3 hs2 t2 hR2 hP2
    go_wp2
    refine bodyPost_ret (v := .agg #[.int .i64 y, .int .i64 l]) (by simp [results, Tryz.results95, go_sem, hcs]) rfl ⟨y, l, t' + 1 + 1, rfl, hyb, ⟨by omega, by omega⟩, by omega, ?_, ?_⟩
    · exact ((hs3.setN hA hlt _ _ hg1).setN hA hlt _ _ hge).setN hA hlt _ _ hge
    · exact Turn.andSet (Turn.andSet (Turn.andSet t3 _ _ hg1) _ _ hge) _ _ hge
  · have n0 : (r2 == 0) = false := by simpa using e0
    by_cases e1 : r2 = 1
    · subst e1
      have n1 : ((1 : Int) == 1) = true := rfl
      have n10 : ((1 : Int) == 0) = false := rfl
      go_wp2_with fail
      have hbl := Blk.mk w2 w2.heap.size 2 #[.int .i64 (-1), .int .i64 17, .int .i64 3] rfl
      have hal := (New.refl w2).alloc (.cells #[.int .i64 (-1), .int .i64 17, .int .i64 3] 2)
      refine (pick_sc (hs2.new hal) [-1, 17, 3] hbl 3 rfl (by omega) (by omega) (by omega)).mono ?_
      rintro e w3 ⟨y, rfl, hy, hs3, ht3⟩
      have hyb : -1 ≤ y ∧ y ≤ 17 := by
        simp only [List.mem_cons, List.not_mem_nil, or_false] at hy
        rcases hy with rfl | rfl | rfl <;> omega
      have t3 : Turn (fun k => k = B) w w3 := (t2.andNew hal).both ht3
      have hR3 := (hR2.new hal).turn ht3 hRB
      have hP3 := (hP2.new hal).turn ht3 hPB
      have hcs := hR3.cells
      have hfs := hR3.frees
      have hcp := hP3.cells
      have hfp := hP3.frees
      have hg1 : w.heap.size ≤ w1.heap.size := hsz
      clear hbl hal hy ht3 hs2 t2 hR2 hP2
      go_wp2
      refine bodyPost_ret (v := .agg #[.int .i64 x, .int .i64 y]) (by simp [results, Tryz.results95, go_sem, hcs]) rfl ⟨x, y, t' + 1 + 1, rfl, ⟨by omega, by omega⟩, hyb, by omega, ?_, ?_⟩
      · exact ((hs3.setN hA hlt _ _ hg1).setN hA hlt _ _ hge).setN hA hlt _ _ hge
      · exact Turn.andSet (Turn.andSet (Turn.andSet t3 _ _ hg1) _ _ hge) _ _ hge
    · have n1 : (r2 == 1) = false := by simpa using e1
      have hcs := hR2.cells
      have hfs := hR2.frees
      have hcp := hP2.cells
      clear hR2 hP2
      go_wp2
      refine bodyPost_ret (v := .agg #[.int .i64 x, .int .i64 l]) (by simp [results, Tryz.results95, go_sem, hcs]) rfl ⟨x, l, t' + 1, rfl, ⟨by omega, by omega⟩, ⟨by omega, by omega⟩, by omega, ?_, ?_⟩
      · exact (hs2.setN hA hlt _ _ hge).setN hA hlt _ _ hge
      · exact Turn.andSet (Turn.andSet t2 _ _ hge) _ _ hge

end Go.Proofs.YtjampcfikfafkaaGreat
