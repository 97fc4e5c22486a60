/- What is proved here: what the model's making of a journal out of bytes answers, for at most 1048576 bytes each. -/
import Derived.Test.YtdkjgjjkjfeodaaE10Jr
import Derived.Test.YtdkjgjjkjfeodaaE10Rd
namespace Go.Proofs.Ytdkjgjjkjfeodaa
open Go.RowKit
set_option linter.unusedVariables false
set_option linter.unusedSimpArgs false
set_option maxRecDepth 100000

set_option maxHeartbeats 800000 in
theorem specOne_nil (w : World) : Calls Try.prog 60 #[.slice none 0 0] w fun e w' => e = .returned (.tuple #[.agg #[.int .i64 0, .int .i64 0, .int .i64 0, .slice none 0 0], .int .i64 0]) ∧ New w w' := by
  go_enter Try.func60, Try.ntmps60
  go_wp2
  refine bodyPost_ret (v := .tuple #[.agg #[.int .i64 0, .int .i64 0, .int .i64 0, .slice none 0 0], .int .i64 0]) (by simp [results, Try.results60, go_sem]) rfl ?_
  exact ⟨rfl, (New.refl _).alloc _⟩

set_option maxHeartbeats 1600000 in
theorem specRead_nil (w : World) : Calls Try.prog 38 #[.slice none 0 0] w fun e w' => e = .returned (.tuple #[.slice (some ⟨w.heap.size, 0, none⟩) 0 0, .int .i64 0]) ∧ New w w' := by
  go_enter Try.func38, Try.ntmps38
  go_wp2
  go_loopw [4, 5] (fun v p wr => v = .slice (some ⟨w.heap.size, 0, none⟩) 0 0 ∧ p = .int .i64 0 ∧ New w wr) (fun _ _ _ => 0)
  case atStart => exact ⟨rfl, rfl, (New.refl _).alloc _⟩
  case round =>
    obtain ⟨rfl, rfl, nr⟩ := hrel
    go_wp2_with fail
    refine (specOne_nil wr).mono ?_
    rintro e w2 ⟨rfl, hn2⟩
    go_wp2
    refine bodyPost_ret (v := .tuple #[.slice (some ⟨w.heap.size, 0, none⟩) 0 0, .int .i64 0]) (by simp [results, Try.results38, go_sem]) rfl ?_
    exact ⟨rfl, nr.trans (hn2.alloc _)⟩

/-- The model's reading, of bytes or of nil. -/
theorem specCount (a : Option Addr) (n c : Nat) (zs : List Int) (w : World) (h : BsAt w a zs) (hs : (a = none ∧ n = 0 ∧ c = 0) ∨ ∃ b off, a = some ⟨b, off, none⟩) (hn : zs.length = n) (hc : n ≤ c) (hm : n ≤ 1048576) :
    Calls Try.prog 38 #[.slice a n c] w fun e w' => ∃ (y : Option Addr) (k d : Nat), e = .returned (.tuple #[.slice y k d, .int .i64 (eUse zs 0 : Int)]) ∧ (k : Int) = eCnt zs ∧ New w w' := by
  rcases hs with ⟨rfl, rfl, rfl⟩ | ⟨b, off, rfl⟩
  · obtain rfl := List.eq_nil_of_length_eq_zero hn
    refine (specRead_nil w).mono ?_
    rintro e w' ⟨rfl, hn'⟩
    refine ⟨some ⟨w.heap.size, 0, none⟩, 0, 0, ?_, by rw [eCnt_nil]; rfl, hn'⟩
    rw [eUse_zero (by rw [List.drop_nil, eSz_nil]; omega)]
    rfl
  · refine (specRead b off n c zs w h hn hc hm).mono ?_
    rintro e w' ⟨v, V, rfl, hR, hV⟩
    obtain ⟨y, d, rfl, _, _⟩ := row9_form hR.row
    refine ⟨y, V.length, d, rfl, ?_, hR.new⟩
    unfold eCnt
    rw [← hV, List.length_map]

theorem lit_ov (w : World) : OvB (w.alloc (.cells #[] 5)) w.heap.size (.slice (some ⟨w.heap.size, 0, none⟩) 0 0) [] := by
  have h := World.ownsRow_lit (base := w.heap.size) (size := 1) (e := 5) w #[] 0 (Nat.le_refl _) (Nat.zero_le _) rfl
  simpa [OvB] using h

set_option maxHeartbeats 3200000 in
theorem l10Of_any (x y : Option Addr) (n c m d : Nat) (zs ys : List Int) (w : World) (hx : BsAt w x zs) (hy : BsAt w y ys) (hn : zs.length = n) (hm : ys.length = m) (hsx : (x = none ∧ n = 0 ∧ c = 0) ∨ ∃ b off, x = some ⟨b, off, none⟩) (hsy : (y = none ∧ m = 0 ∧ d = 0) ∨ ∃ b off, y = some ⟨b, off, none⟩) (hc : n ≤ c) (hd : m ≤ d) (hn1 : n ≤ 1048576) (hm1 : m ≤ 1048576) :
    Calls Try.prog 39 #[.slice x n c, .slice y m d] w fun e w' => JrAns w 0 (eCnt zs + eCnt ys) zs ys e w' := by
  obtain ⟨i0, hi, hz0, hz1, hz2⟩ := info_parts Try.infoU8
  have hz := hx.lt
  have hzy := hy.lt
  have hnx : x = none → n = 0 ∧ c = 0 := by rintro rfl; rcases hsx with h | ⟨b, o, h⟩; exact h.2; cases h
  have hny : y = none → m = 0 ∧ d = 0 := by rintro rfl; rcases hsy with h | ⟨b, o, h⟩; exact h.2; cases h
  have hw := (New.refl w).alloc (.cells #[.int .i64 0, .int .i64 0, .slice none 0 0, .slice none 0 0] 29)
  have bR := Blk.mk w w.heap.size 29 #[.int .i64 0, .int .i64 0, .slice none 0 0, .slice none 0 0] rfl
  have hC1 := eCnt_le zs
  have hC2 := eCnt_le ys
  have HSX : Hid ((x = none ∧ n = 0 ∧ c = 0) ∨ ∃ b off, x = some ⟨b, off, none⟩) := hsx
  have HSY : Hid ((y = none ∧ m = 0 ∧ d = 0) ∨ ∃ b off, y = some ⟨b, off, none⟩) := hsy
  have HNX : Hid (x = none → n = 0 ∧ c = 0) := hnx
  have HNY : Hid (y = none → m = 0 ∧ d = 0) := hny
  clear hsx hsy hnx hny
  go_enter Try.func39, Try.ntmps39
  go_upto_region 1 with fail
  have SZ0 : Hid ((w.alloc (.cells #[.int .i64 0, .int .i64 0, .slice none 0 0, .slice none 0 0] 29)).heap.size = w.heap.size + 1) := by unfold Hid; simp
  generalize w.alloc (.cells #[.int .i64 0, .int .i64 0, .slice none 0 0, .slice none 0 0] 29) = w0 at *
  have n1 := (New.refl w0).alloc (.cells #[] 5)
  go_wp2_with (at_builtin; refine wpList_apB _ rfl (.tmp 10) (.tmp 11) rfl w0.heap.size Try.underlying22 hi hz0 hz1 hz2 _ [] rfl (lit_ov w0) x n c zs rfl (hx.new (hw.trans n1)) hn HNX.out (by simp; omega) n1.size ?_)
  intro v1 w1 ho1 hg1
  replace ho1 : OvB w1 w0.heap.size v1 zs := by unfold OvB; rw [hn]; simpa using ho1
  have n01 : New w0 w1 := n1.grow hg1 (fun k hk => (lit_ov w0).blk k hk)
  obtain ⟨a1, c1, rfl, ha1, hc1, hs1, -⟩ := ho1.bs hz
  have n2 := (New.refl w1).alloc (.cells #[] 5)
  clear hg1 n1
  go_wp2_with (at_builtin; refine wpList_apB _ rfl (.tmp 13) (.tmp 14) rfl w1.heap.size Try.underlying22 hi hz0 hz1 hz2 _ [] rfl (lit_ov w1) y m d ys rfl (hy.new ((hw.trans n01).trans n2)) hm HNY.out (by simp; omega) n2.size ?_)
  intro v2 w2 ho2 hg2
  replace ho2 : OvB w2 w1.heap.size v2 ys := by unfold OvB; rw [hm]; simpa using ho2
  have n12 : New w1 w2 := n2.grow hg2 (fun k hk => (lit_ov w1).blk k hk)
  obtain ⟨a2, c2, rfl, ha2, hc2, hs2, -⟩ := ho2.bs hzy
  have ho1 := ho1.new n12
  have s01 := n01.size
  have s12 := n12.size
  have n02 := n01.trans n12
  have HA : Hid (∀ p q, a1 = some p → a2 = some q → p.block ≠ q.block) := by
    unfold Hid
    rintro p q rfl rfl
    rcases hs1 with ⟨h, _⟩ | ⟨g, h, hg1, hg2⟩
    · cases h
    · rcases hs2 with ⟨h', _⟩ | ⟨g', h', hg1', hg2'⟩
      · cases h'
      · obtain rfl := Option.some.inj h
        obtain rfl := Option.some.inj h'
        simp
        omega
  clear hg2 n2 ha1 ha2 hs1 hs2
  rw [hn] at ho1 hc1
  rw [hm] at ho2 hc2
  have al3 := (New.refl w2).alloc (.cells #[.slice a1 n c1, .slice a2 m c2] 25)
  have b3 := Blk.mk w2 w2.heap.size 25 #[.slice a1 n c1, .slice a2 m c2] rfl
  go_upto_region 2 with fail
  have bR3 := (bR.new n02).new al3
  have o1 := ho1.new al3
  have o2 := ho2.new al3
  have nw3 := (hw.trans n02).trans al3
  generalize w2.alloc (.cells #[.slice a1 n c1, .slice a2 m c2] 25) = w3 at *
  go_wp2_with fail
  refine (specCount x n c zs _ (hx.new nw3) HSX.out hn hc hn1).mono ?_
  rintro e w4 ⟨y4, k4, d4, rfl, hk4, hn4⟩
  have HK4 : Hid ((k4 : Int) = eCnt zs) := hk4
  go_wp2_with fail
  refine (specCount y m d ys _ (hy.new (nw3.trans hn4)) HSY.out hm hd hm1).mono ?_
  rintro e w5 ⟨y5, k5, d5, rfl, hk5, hn5⟩
  have HK5 : Hid ((k5 : Int) = eCnt ys) := hk5
  have n5 := hn4.trans hn5
  have c5 := (b3.new n5).cells
  have bR5 := bR3.new n5
  have cR := bR5.cells
  have fR := bR5.frees
  have hwr : (k4 : Int) + (k5 : Int) ≤ 4194304 := by omega
  have h44 : (k4 : Int) ≤ 1048576 := by omega
  have h55 : (k5 : Int) ≤ 1048576 := by omega
  clear hk4 hk5 hC1 hC2
  go_wp2
  refine bodyPost_ret (v := .agg #[.int .i64 0, .int .i64 ((k4 : Int) + (k5 : Int)), .slice a1 n c1, .slice a2 m c2]) (by simp [results, Try.results39, go_sem, cR]) rfl ?_
  have t5 : Turn (fun i => i = w.heap.size) w5 ((((w5.setCell ⟨w.heap.size, 0, none⟩ (.int .i64 0)).setCell ⟨w.heap.size, 1, none⟩ (.int .i64 ((k4 : Int) + (k5 : Int)))).setCell ⟨w.heap.size, 2, none⟩ (.slice a1 n c1)).setCell ⟨w.heap.size, 3, none⟩ (.slice a2 m c2)) := Turn.set (S := fun i => i = w.heap.size) (Turn.set (S := fun i => i = w.heap.size) (Turn.set (S := fun i => i = w.heap.size) (Turn.set (S := fun i => i = w.heap.size) (Turn.refl _ _) rfl _) rfl _) rfl _) rfl _
  have s0 := SZ0.out
  refine ⟨a1, a2, c1, c2, by rw [hn, hm, ← HK4.out, ← HK5.out], ?_, ?_, HA.out, ?_⟩
  · rw [hn]; exact (ov_turn (o1.new n5) t5 (by intro k hk h; omega)).low (by omega)
  · rw [hm]; exact (ov_turn (o2.new n5) t5 (by intro k hk h; omega)).low (by omega)
  · exact (((((nw3.trans n5).setCell (by simp) _).setCell (by simp) _).setCell (by simp) _).setCell (by simp) _)

end Go.Proofs.Ytdkjgjjkjfeodaa
