/- What is proved here: what the making of a journal out of bytes answers in the program, for at most 1048576 bytes each. -/
import Derived.Test.YtdkjgjjkjfeodaaE10Cc
import Derived.Test.YtdkjgjjkjfeodaaE10Cn
import Derived.Deep.RegionHeld3
import Derived.Deep.CutRange
namespace Go.Proofs.Ytdkjgjjkjfeodaa
open Go.RowKit
set_option linter.unusedVariables false
set_option linter.unusedSimpArgs false
set_option maxRecDepth 100000

/-- How many entries stand in bytes. -/
def eCnt (zs : List Int) : Int := ((eAts zs 0).length : Int)
theorem eAts_len (zs : List Int) : ∀ (m t : Nat), zs.length - t ≤ m → (eAts zs t).length ≤ m
  | 0, t, h => by
    have h1 := eSz_le (zs.drop t)
    simp only [List.length_drop] at h1
    rw [eAts_zero (by omega)]
    simp
  | m + 1, t, h => by
    by_cases h1 : 0 < eSz (zs.drop t)
    · rw [eAts_pos h1]
      have h2 := eAts_len zs m (t + eSz (zs.drop t)) (by omega)
      simp only [List.length_cons]
      omega
    · rw [eAts_zero h1]
      simp
theorem eCnt_le (zs : List Int) : 0 ≤ eCnt zs ∧ eCnt zs ≤ zs.length := by
  have := eAts_len zs zs.length 0 (by omega)
  unfold eCnt
  omega
theorem eCnt_nil : eCnt [] = 0 := by
  unfold eCnt
  rw [eAts_zero (by rw [List.drop_nil, eSz_nil]; omega)]
  rfl

/-- What is answered of journals: a code, how many entries, and bytes of the call's own. -/
def JrAns (w : World) (code count : Int) (zs ys : List Int) (e : Ending) (w' : World) : Prop :=
  ∃ (a b : Option Addr) (c d : Nat), e = .returned (.agg #[.int .i64 code, .int .i64 count, .slice a zs.length c, .slice b ys.length d]) ∧ OvB w' w.heap.size (.slice a zs.length c) zs ∧ OvB w' w.heap.size (.slice b ys.length d) ys ∧
    (∀ x y, a = some x → b = some y → x.block ≠ y.block) ∧ New w w'
theorem JrAns.code {w w' : World} {z : Int} (h : New w w') : JrAns w z 0 [] [] (.returned (.agg #[.int .i64 z, .int .i64 0, .slice none 0 0, .slice none 0 0])) w' :=
  ⟨none, none, 0, 0, rfl, ⟨rfl, .inl ⟨rfl, rfl⟩⟩, ⟨rfl, .inl ⟨rfl, rfl⟩⟩, (by intro x y h; cases h), h⟩

theorem ov_turn {w w' : World} {lo : Nat} {v : Value} {xs : List Int} {S : Nat → Prop} (h : OvB w lo v xs) (t : Turn S w w') (hS : ∀ k, lo ≤ k → ¬ S k) : OvB w' lo v xs := h.turn t (fun k hk _ => hS k hk)

theorem sl_of {w w' : World} {a : Option Addr} {n c : Nat} (h : (a = none ∧ n = 0 ∧ c = 0) ∨ ∃ g, a = some ⟨g, 0, none⟩ ∧ g < w.heap.size) (hs : w.heap.size ≤ w'.heap.size) : Sl10 w' a n c := by
  rcases h with h | ⟨g, h, hl⟩
  · exact .inl h
  · exact .inr ⟨g, 0, h, Nat.lt_of_lt_of_le hl hs⟩

set_option maxHeartbeats 3200000 in
theorem jOf (x y : Option Addr) (n c m d : Nat) (zs ys : List Int) (w : World) (hx : BsAt w x zs) (hy : BsAt w y ys) (hn : zs.length = n) (hm : ys.length = m) (hnx : x = none → n = 0 ∧ c = 0) (hny : y = none → m = 0 ∧ d = 0) (hn1 : n ≤ 1048576) (hm1 : m ≤ 1048576) :
    Calls Try.prog 34 #[.slice x n c, .slice y m d] w fun e w' => JrAns w 0 (eCnt zs + eCnt ys) zs ys e w' := by
  have hz := hx.lt
  have hzy := hy.lt
  have hw := (New.refl w).alloc (.cells #[.int .i64 0, .int .i64 0, .slice none 0 0, .slice none 0 0] 29)
  have bR := Blk.mk w w.heap.size 29 #[.int .i64 0, .int .i64 0, .slice none 0 0, .slice none 0 0] rfl
  have hC1 := eCnt_le zs
  have hC2 := eCnt_le ys
  go_enter Try.func34, Try.ntmps34
  go_upto_region 1 with fail
  have sz0 : (w.alloc (.cells #[.int .i64 0, .int .i64 0, .slice none 0 0, .slice none 0 0] 29)).heap.size = w.heap.size + 1 := by simp
  have SZ0 : Hid ((w.alloc (.cells #[.int .i64 0, .int .i64 0, .slice none 0 0, .slice none 0 0] 29)).heap.size = w.heap.size + 1) := sz0
  clear sz0
  generalize w.alloc (.cells #[.int .i64 0, .int .i64 0, .slice none 0 0, .slice none 0 0] 29) = w0 at *
  have b1 := Blk.mk w0 w0.heap.size 22 #[.slice x n c] rfl
  have n1 := (New.refl w0).alloc (.cells #[.slice x n c] 22)
  go_wp2_with fail
  refine (concat1 w0.heap.size x n c zs _ (b1.cells 0) ((hx.new hw).new n1) hn hnx hn1).mono ?_
  rintro e w1 ⟨v1, rfl, ho1, hn1'⟩
  have n01 := n1.trans hn1'
  have lo1 := n1.size
  replace ho1 : OvB w1 w0.heap.size v1 zs := ho1.low lo1
  obtain ⟨a1, c1, rfl, ha1, hc1, hs1, -⟩ := ho1.bs hz
  have al2 := (New.refl w1).alloc (.cells #[.slice y m d] 22)
  have b2 := Blk.mk w1 w1.heap.size 22 #[.slice y m d] rfl
  clear b1 n1 hn1' lo1 ha1
  go_wp2_with fail
  refine (concat1 w1.heap.size y m d ys _ (b2.cells 0) ((hy.new (hw.trans n01)).new al2) hm hny hm1).mono ?_
  rintro e w2 ⟨v2, rfl, ho2, hn2'⟩
  have n12 := al2.trans hn2'
  have lo2 := al2.size
  replace ho2 : OvB w2 w1.heap.size v2 ys := ho2.low lo2
  obtain ⟨a2, c2, rfl, ha2, hc2, hs2, -⟩ := ho2.bs hzy
  have ho1 := ho1.new n12
  have s01 := n01.size
  have s12 := n12.size
  have n02 := n01.trans n12
  have HA : Hid (∀ p q, a1 = some p → a2 = some q → p.block ≠ q.block) := by
    unfold Hid
    rintro p q rfl rfl
    rcases hs1 with ⟨h, _⟩ | ⟨g, h, hg1, hg2⟩
    · cases h
    · rcases hs2 with ⟨h', _⟩ | ⟨g', h', hg1', hg2'⟩
      · cases h'
      · obtain rfl := Option.some.inj h
        obtain rfl := Option.some.inj h'
        simp
        omega
  have HS1 : Hid ((a1 = none ∧ zs.length = 0 ∧ c1 = 0) ∨ ∃ g, a1 = some ⟨g, 0, none⟩ ∧ g < w2.heap.size) := by
    unfold Hid
    rcases hs1 with h | ⟨g, h, _, h2⟩
    · exact .inl h
    · exact .inr ⟨g, h, by omega⟩
  have HS2 : Hid ((a2 = none ∧ ys.length = 0 ∧ c2 = 0) ∨ ∃ g, a2 = some ⟨g, 0, none⟩ ∧ g < w2.heap.size) := by
    unfold Hid
    rcases hs2 with h | ⟨g, h, _, h2⟩
    · exact .inl h
    · exact .inr ⟨g, h, by omega⟩
  clear b2 al2 hn2' lo2 ha2 hs1 hs2 hx hy
  rw [hn] at ho1 hc1 HS1
  rw [hm] at ho2 hc2 HS2
  have al3 := (New.refl w2).alloc (.cells #[.slice a1 n c1, .slice a2 m c2] 25)
  have b3 := Blk.mk w2 w2.heap.size 25 #[.slice a1 n c1, .slice a2 m c2] rfl
  go_upto_region 2 with fail
  have bR3 := (bR.new n02).new al3
  have o1 := ho1.new al3
  have o2 := ho2.new al3
  have nw3 := (hw.trans n02).trans al3
  have sz3 := al3.size
  generalize w2.alloc (.cells #[.slice a1 n c1, .slice a2 m c2] 25) = w3 at *
  have B1 : BsAt w3 a1 zs := by
    rw [← hn] at o1
    obtain ⟨a', c', e, hb, _⟩ := o1.bs hz
    obtain ⟨rfl, _⟩ : a1 = a' ∧ c1 = c' := by simpa using e
    exact hb
  have B2 : BsAt w3 a2 ys := by
    rw [← hm] at o2
    obtain ⟨a', c', e, hb, _⟩ := o2.bs hzy
    obtain ⟨rfl, _⟩ : a2 = a' ∧ c2 = c' := by simpa using e
    exact hb
  have K1 : ∀ X, New w3 X → Calls Try.prog 42 #[.slice a1 n c1] X fun e w' => e = .returned (.int .i64 (eCnt zs)) ∧ New X w' := fun X hX => countE a1 n c1 zs X (B1.new hX) (sl_of HS1.out (Nat.le_trans sz3 hX.size)) hn hc1 hn1
  have K2 : ∀ X, New w3 X → Calls Try.prog 42 #[.slice a2 m c2] X fun e w' => e = .returned (.int .i64 (eCnt ys)) ∧ New X w' := fun X hX => countE a2 m c2 ys X (B2.new hX) (sl_of HS2.out (Nat.le_trans sz3 hX.size)) hm hc2 hm1
  have hwr : IntKind.i64.wrap (eCnt zs + eCnt ys) = eCnt zs + eCnt ys := by simp [IntKind.wrap, IntKind.signed, IntKind.bits]; omega
  have c3 := b3.cells
  have c3d := (b3.new ((New.refl _).drew)).cells
  have hne : ¬ w.heap.size = w2.heap.size := by have := SZ0.out; omega
  go_region_held3 (fun X => ∀ j, X.cell? ⟨w2.heap.size, j, none⟩ = (#[.slice a1 n c1, .slice a2 m c2] : Array Value)[j]?) (first | (with_reducible exact c3) | (with_reducible exact c3d) | (with_reducible exact c4) | (with_reducible exact c5) | (intro j; rw [cell_set10 hne, cell_set10 hne, cell_set10 hne, cell_set10 hne]; with_reducible exact c5 j))
    (first
      | (go_at_call_of 42 a1; refine (K1 _ ((New.refl _).drew)).mono ?_; rintro e w4 ⟨rfl, hn4⟩; have n4 : New w3 w4 := ((New.refl _).drew).trans hn4; have c4 := (b3.new n4).cells)
      | (go_at_call_of 42 a2; refine (K2 _ n4).mono ?_; rintro e w5 ⟨rfl, hn5⟩; have n5 := n4.trans hn5; have c5 := (b3.new n5).cells; have bR5 := bR3.new n5; have cR := bR5.cells; have fR := bR5.frees))
  all_goals
    clear c3 c3d c4 c5
    go_wp2
    refine bodyPost_ret (v := .agg #[.int .i64 0, .int .i64 (eCnt zs + eCnt ys), .slice a1 n c1, .slice a2 m c2]) (by simp [results, Try.results34, go_sem, cR]) rfl ?_
    have t5 : Turn (fun i => i = w.heap.size) w5 ((((w5.setCell ⟨w.heap.size, 0, none⟩ (.int .i64 0)).setCell ⟨w.heap.size, 1, none⟩ (.int .i64 (eCnt zs + eCnt ys))).setCell ⟨w.heap.size, 2, none⟩ (.slice a1 n c1)).setCell ⟨w.heap.size, 3, none⟩ (.slice a2 m c2)) := Turn.set (S := fun i => i = w.heap.size) (Turn.set (S := fun i => i = w.heap.size) (Turn.set (S := fun i => i = w.heap.size) (Turn.set (S := fun i => i = w.heap.size) (Turn.refl _ _) rfl _) rfl _) rfl _) rfl _
    have s0 := SZ0.out
    refine ⟨a1, a2, c1, c2, by rw [hn, hm], ?_, ?_, HA.out, ?_⟩
    · rw [hn]; exact (ov_turn (o1.new n5) t5 (by intro k hk h; omega)).low (by omega)
    · rw [hm]; exact (ov_turn (o2.new n5) t5 (by intro k hk h; omega)).low (by omega)
    · exact (((((nw3.trans n5).setCell (by simp) _).setCell (by simp) _).setCell (by simp) _).setCell (by simp) _)

end Go.Proofs.Ytdkjgjjkjfeodaa
