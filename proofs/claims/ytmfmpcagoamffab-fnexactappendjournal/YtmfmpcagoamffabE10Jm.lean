/- What is proved here: what the comparing and marking of journals and of answers on them leave, for lists of at most 1048576 bytes. -/
import Derived.Test.YtmfmpcagoamffabE10Jl
import Derived.Test.YtmfmpcagoamffabE10Sy
namespace Go.Proofs.Ytmfmpcagoamffab
open Go.RowKit
set_option linter.unusedVariables false

theorem OvB.ow {w : World} {lo n c : Nat} {a : Option Addr} {xs : List Int} (h : OvB w lo (.slice a n c) xs) (hb : ∀ z ∈ xs, 0 ≤ z ∧ z ≤ 255) : OwAt w a n c xs ∧ BsAt w a xs ∧ ∀ x, a = some x → lo ≤ x.block ∧ x.block < w.heap.size := by
  obtain ⟨a', c', e, hbs, hc, hs, ho⟩ := h.bs hb
  obtain ⟨rfl, rfl, rfl⟩ : a = a' ∧ n = xs.length ∧ c = c' := by simpa using e
  refine ⟨ho, hbs, ?_⟩
  rintro x rfl
  rcases hs with ⟨h, _⟩ | ⟨g, h, h1, h2⟩
  · cases h
  · obtain rfl := Option.some.inj h
    exact ⟨h1, h2⟩

theorem bA_lt {w : World} {B C : Nat} {t t' : TypeId} {cs cs' : Array Value} (h : Blk w B t cs) (h' : Blk w C t' cs') (hne : t ≠ t') (hle : B ≤ C) : B < C := by
  rcases Nat.lt_or_ge B C with h1 | h1
  · exact h1
  · obtain rfl : B = C := Nat.le_antisymm hle h1
    have e := h.symm.trans h'
    simp at e
    exact (hne e.2).elim

set_option maxHeartbeats 800000 in
theorem eqJR_any (z ct : Int) (a b a' b' : Option Addr) (n c m d c' d' : Nat) (zs ys : List Int) (w : World) (ha : BsAt w a zs) (hb : BsAt w b ys) (ha' : BsAt w a' zs) (hb' : BsAt w b' ys) (hn : zs.length = n) (hm : ys.length = m) (hn1 : n ≤ 1048576) (hm1 : m ≤ 1048576) :
    Calls Try.prog 17 #[.agg #[.int .i64 z, .int .i64 ct, .slice a n c, .slice b m d], .agg #[.int .i64 z, .int .i64 ct, .slice a' n c', .slice b' m d']] w fun e w' => e = .returned (.bool true) ∧ New w w' := by
  have hz : (z != z) = false := by simp
  have hct : (ct != ct) = false := by simp
  have hw := ((New.refl w).alloc (.cells #[.int .i64 z, .int .i64 ct, .slice a n c, .slice b m d] 37)).alloc (.cells #[.int .i64 z, .int .i64 ct, .slice a' n c', .slice b' m d'] 37)
  go_enter Try.func17, Try.ntmps17
  go_wp2_with fail
  refine (eqJ_any a b a' b' n c m d c' d' zs ys _ (ha.new hw) (hb.new hw) (ha'.new hw) (hb'.new hw) hn hm hn1 hm1).mono ?_
  rintro e w1 ⟨rfl, hn1'⟩
  go_wp2
  go_ret
  exact ⟨rfl, hw.trans hn1'⟩

set_option maxHeartbeats 800000 in
theorem markJ_any (a b : Option Addr) (n c m d : Nat) (k : Int) (zs ys : List Int) (w : World) (h : OwAt w a n c zs) (h2 : OwAt w b m d ys) (hab : ∀ x y, a = some x → b = some y → x.block ≠ y.block) (hla : ∀ x, a = some x → x.block < w.heap.size) (hn : n ≤ 4194304) (hm : m ≤ 4194304) (hk0 : 0 ≤ k) (hk : k ≤ 1000) :
    Calls Try.prog 19 #[.agg #[.slice a n c, .slice b m d], .int .i64 k] w fun e w' => e = .returned (.int .i64 (k + n + m)) ∧ OwAt w' a n c (marks k n) ∧ OwAt w' b m d (marks (k + n) m) ∧ Turn (fun i => inA a i ∨ inA b i) w w' := by
  have hw := (New.refl w).alloc (.cells #[.slice a n c, .slice b m d] 27)
  have b0 := Blk.mk w w.heap.size 27 #[.slice a n c, .slice b m d] rfl
  have nA : ¬ inA a w.heap.size := by rintro ⟨x, hx, e⟩; have := hla x hx; omega
  go_enter Try.func19, Try.ntmps19
  go_wp2_with fail
  refine (mark_any a n c k zs _ (h.new hw) hn hk0 (by omega)).mono ?_
  rintro e w1 ⟨rfl, ho1, ht1⟩
  have b1 := b0.turn ht1 nA
  have h2' : OwAt w1 b m d ys := (h2.new hw).turn ht1 (by rintro x hx ⟨y, hy, e⟩; exact hab y x hy hx e.symm)
  have c1 := b1.cells
  go_wp2_with fail
  refine (mark_any b m d (k + n) ys _ h2' hm (by omega) (by omega)).mono ?_
  rintro e w2 ⟨rfl, ho2, ht2⟩
  have ho12 : OwAt w2 a n c (marks k n) := ho1.turn ht2 (by rintro x hx ⟨y, hy, e⟩; exact hab x y hx hy e)
  go_wp2
  go_ret
  refine ⟨rfl, ho12, ho2, ?_⟩
  exact Turn.trans (S := fun i => inA a i ∨ inA b i) (Turn.trans (S := fun i => inA a i ∨ inA b i) hw.turn ht1 (fun _ _ h => .inl h)) ht2 (fun _ _ h => .inr h)

set_option maxHeartbeats 800000 in
theorem markJR_any (z ct : Int) (a b : Option Addr) (n c m d : Nat) (k : Int) (zs ys : List Int) (w : World) (h : OwAt w a n c zs) (h2 : OwAt w b m d ys) (hab : ∀ x y, a = some x → b = some y → x.block ≠ y.block) (hla : ∀ x, a = some x → x.block < w.heap.size) (hn : n ≤ 4194304) (hm : m ≤ 4194304) (hk0 : 0 ≤ k) (hk : k ≤ 1000) :
    Calls Try.prog 21 #[.agg #[.int .i64 z, .int .i64 ct, .slice a n c, .slice b m d], .int .i64 k] w fun e w' => e = .returned (.int .i64 (k + n + m)) ∧ OwAt w' a n c (marks k n) ∧ OwAt w' b m d (marks (k + n) m) ∧ Turn (fun i => inA a i ∨ inA b i) w w' := by
  have hw := (New.refl w).alloc (.cells #[.int .i64 z, .int .i64 ct, .slice a n c, .slice b m d] 37)
  go_enter Try.func21, Try.ntmps21
  go_wp2_with fail
  refine (markJ_any a b n c m d k zs ys _ (h.new hw) (h2.new hw) hab (fun x hx => Nat.lt_of_lt_of_le (hla x hx) hw.size) hn hm hk0 hk).mono ?_
  rintro e w1 ⟨rfl, ho1, ho2, ht⟩
  go_wp2
  go_ret
  exact ⟨rfl, ho1, ho2, Turn.trans (S := fun i => inA a i ∨ inA b i) hw.turn ht (fun _ _ h => h)⟩

set_option maxHeartbeats 800000 in
theorem heldJ_any (a b : Option Addr) (n c m d : Nat) (k : Int) (w : World) (h : BsAt w a (marks k n)) (h2 : BsAt w b (marks (k + n) m)) (hn : n ≤ 4194304) (hm : m ≤ 4194304) (hk0 : 0 ≤ k) (hk : k ≤ 1000) :
    Calls Try.prog 45 #[.agg #[.slice a n c, .slice b m d], .int .i64 k] w fun e w' => e = .returned (.int .i64 (k + n + m)) ∧ New w w' := by
  have hw := (New.refl w).alloc (.cells #[.slice a n c, .slice b m d] 27)
  have b0 := Blk.mk w w.heap.size 27 #[.slice a n c, .slice b m d] rfl
  go_enter Try.func45, Try.ntmps45
  go_wp2_with fail
  refine (held_any a n c k _ (h.new hw) hn hk0 (by omega)).mono ?_
  rintro e w1 ⟨rfl, hw1⟩
  obtain rfl := hw1.symm
  go_wp2_with fail
  refine (held_any b m d (k + n) _ (h2.new hw) hm (by omega) (by omega)).mono ?_
  rintro e w2 ⟨rfl, hw2⟩
  obtain rfl := hw2.symm
  go_wp2
  go_ret
  exact ⟨rfl, hw⟩

set_option maxHeartbeats 800000 in
theorem heldJR_any (z ct : Int) (a b : Option Addr) (n c m d : Nat) (k : Int) (w : World) (h : BsAt w a (marks k n)) (h2 : BsAt w b (marks (k + n) m)) (hn : n ≤ 4194304) (hm : m ≤ 4194304) (hk0 : 0 ≤ k) (hk : k ≤ 1000) :
    Calls Try.prog 22 #[.agg #[.int .i64 z, .int .i64 ct, .slice a n c, .slice b m d], .int .i64 k] w fun e w' => e = .returned (.int .i64 (k + n + m)) ∧ New w w' := by
  have hw := (New.refl w).alloc (.cells #[.int .i64 z, .int .i64 ct, .slice a n c, .slice b m d] 37)
  go_enter Try.func22, Try.ntmps22
  go_wp2_with fail
  refine (heldJ_any a b n c m d k _ (h.new hw) (h2.new hw) hn hm hk0 hk).mono ?_
  rintro e w1 ⟨rfl, hn1⟩
  go_wp2
  go_ret
  exact ⟨rfl, hw.trans hn1⟩

end Go.Proofs.Ytmfmpcagoamffab
