/- What is proved here: what the comparing and marking of wires and of answers on them leave, for lists of at most 1048576 bytes. -/
import Derived.Test.YtonmdodbhdmmbaaDoorW11Lib
import Derived.Test.YtonmdodbhdmmbaaDoorE10Cc
namespace Go.Proofs.YtonmdodbhdmmbaaDoor
open Go.RowKit
set_option linter.unusedVariables false

theorem OvB.ow {w : World} {lo n c : Nat} {a : Option Addr} {xs : List Int} (h : OvB w lo (.slice a n c) xs) (hb : ∀ z ∈ xs, 0 ≤ z ∧ z ≤ 255) : OwAt w a n c xs ∧ BsAt w a xs ∧ ∀ x, a = some x → lo ≤ x.block ∧ x.block < w.heap.size := by
  obtain ⟨a', c', e, hbs, hc, hs, ho⟩ := h.bs hb
  obtain ⟨rfl, rfl, rfl⟩ : a = a' ∧ n = xs.length ∧ c = c' := by simpa using e
  refine ⟨ho, hbs, ?_⟩
  rintro x rfl
  rcases hs with ⟨h, _⟩ | ⟨g, h, h1, h2⟩
  · cases h
  · obtain rfl := Option.some.inj h
    exact ⟨h1, h2⟩

theorem bA_lt {w : World} {B C : Nat} {t t' : TypeId} {cs cs' : Array Value} (h : Blk w B t cs) (h' : Blk w C t' cs') (hne : t ≠ t') (hle : B ≤ C) : B < C := by
  rcases Nat.lt_or_ge B C with h1 | h1
  · exact h1
  · obtain rfl : B = C := Nat.le_antisymm hle h1
    have e := h.symm.trans h'
    simp at e
    exact (hne e.2).elim

theorem ov_turn {w w' : World} {lo : Nat} {v : Value} {xs : List Int} {S : Nat → Prop} (h : OvB w lo v xs) (t : Turn S w w') (hS : ∀ k, lo ≤ k → ¬ S k) : OvB w' lo v xs := h.turn t (fun k hk _ => hS k hk)

/-- An answer on a wire: a code, bytes, a wire; all lists of the call's own, in blocks apart. -/
def WrAns (w : World) (z E T : Int) (X Z Y : List Int) (e : Ending) (w' : World) : Prop :=
  ∃ (p a b : Option Addr) (f c d : Nat), e = .returned (.agg #[.int .i64 z, .slice p X.length f, .int .i64 E, .slice a Z.length c, .int .i64 T, .slice b Y.length d]) ∧ OvB w' w.heap.size (.slice p X.length f) X ∧ OvB w' w.heap.size (.slice a Z.length c) Z ∧ OvB w' w.heap.size (.slice b Y.length d) Y ∧
    (∀ x y, p = some x → a = some y → x.block ≠ y.block) ∧ (∀ x y, p = some x → b = some y → x.block ≠ y.block) ∧ (∀ x y, a = some x → b = some y → x.block ≠ y.block) ∧ New w w'
theorem WrAns.code {w w' : World} {z : Int} (h : New w w') : WrAns w z 0 0 [] [] [] (.returned (.agg #[.int .i64 z, .slice none 0 0, .int .i64 0, .slice none 0 0, .int .i64 0, .slice none 0 0])) w' :=
  ⟨none, none, none, 0, 0, 0, rfl, ⟨rfl, .inl ⟨rfl, rfl⟩⟩, ⟨rfl, .inl ⟨rfl, rfl⟩⟩, ⟨rfl, .inl ⟨rfl, rfl⟩⟩, (by intro x y h; cases h), (by intro x y h; cases h), (by intro x y h; cases h), h⟩

set_option maxHeartbeats 800000 in
theorem eqWR_any (z E T : Int) (p a b p' a' b' : Option Addr) (l f n c m d f' c' d' : Nat) (xs zs ys : List Int) (w : World) (hp : BsAt w p xs) (ha : BsAt w a zs) (hb : BsAt w b ys) (hp' : BsAt w p' xs) (ha' : BsAt w a' zs) (hb' : BsAt w b' ys) (hl : xs.length = l) (hn : zs.length = n) (hm : ys.length = m) (hl1 : l ≤ 1048576) (hn1 : n ≤ 1048576) (hm1 : m ≤ 1048576) :
    Calls Tryd.prog 11 #[.agg #[.int .i64 z, .slice p l f, .int .i64 E, .slice a n c, .int .i64 T, .slice b m d], .agg #[.int .i64 z, .slice p' l f', .int .i64 E, .slice a' n c', .int .i64 T, .slice b' m d']] w fun e w' => e = .returned (.bool true) ∧ New w w' := by
  have hz : (z != z) = false := by simp
  have hw := ((New.refl w).alloc (.cells #[.int .i64 z, .slice p l f, .int .i64 E, .slice a n c, .int .i64 T, .slice b m d] 28)).alloc (.cells #[.int .i64 z, .slice p' l f', .int .i64 E, .slice a' n c', .int .i64 T, .slice b' m d'] 28)
  have b0 := (Blk.mk w w.heap.size 28 #[.int .i64 z, .slice p l f, .int .i64 E, .slice a n c, .int .i64 T, .slice b m d] rfl).alloc (.cells #[.int .i64 z, .slice p' l f', .int .i64 E, .slice a' n c', .int .i64 T, .slice b' m d'] 28)
  have b1 := Blk.mk (w.alloc (.cells #[.int .i64 z, .slice p l f, .int .i64 E, .slice a n c, .int .i64 T, .slice b m d] 28)) (w.heap.size + 1) 28 #[.int .i64 z, .slice p' l f', .int .i64 E, .slice a' n c', .int .i64 T, .slice b' m d'] (by simp)
  go_enter Tryd.func11, Tryd.ntmps11
  go_wp2_with fail
  refine (eqBytes_any p p' l f f' xs _ (hp.new hw) (hp'.new hw) hl hl1).mono ?_
  rintro e w1 ⟨rfl, hn1'⟩
  have c0 := (b0.new hn1').cells
  have c1 := (b1.new hn1').cells
  have hw1 := hw.trans hn1'
  go_wp2_with fail
  refine (eqW_any E T a b a' b' n c m d c' d' zs ys _ (ha.new hw1) (hb.new hw1) (ha'.new hw1) (hb'.new hw1) hn hm hn1 hm1).mono ?_
  rintro e w2 ⟨rfl, hn2⟩
  go_wp2
  go_ret
  exact ⟨rfl, hw1.trans hn2⟩

set_option maxHeartbeats 800000 in
theorem markW_any (E T : Int) (a b : Option Addr) (n c m d : Nat) (k : Int) (zs ys : List Int) (w : World) (h : OwAt w a n c zs) (h2 : OwAt w b m d ys) (hab : ∀ x y, a = some x → b = some y → x.block ≠ y.block) (hla : ∀ x, a = some x → x.block < w.heap.size) (hn : n ≤ 4194304) (hm : m ≤ 4194304) (hk0 : 0 ≤ k) (hk : k ≤ 2000000) :
    Calls Tryd.prog 13 #[.agg #[.int .i64 E, .slice a n c, .int .i64 T, .slice b m d], .int .i64 k] w fun e w' => e = .returned (.int .i64 (k + n + m)) ∧ OwAt w' a n c (marks k n) ∧ OwAt w' b m d (marks (k + n) m) ∧ Turn (fun i => inA a i ∨ inA b i) w w' := by
  have hw := (New.refl w).alloc (.cells #[.int .i64 E, .slice a n c, .int .i64 T, .slice b m d] 26)
  have b0 := Blk.mk w w.heap.size 26 #[.int .i64 E, .slice a n c, .int .i64 T, .slice b m d] rfl
  have nA : ¬ inA a w.heap.size := by rintro ⟨x, hx, e⟩; have := hla x hx; omega
  go_enter Tryd.func13, Tryd.ntmps13
  go_wp2_with fail
  refine (mark_any a n c k zs _ (h.new hw) hn hk0 (by omega)).mono ?_
  rintro e w1 ⟨rfl, ho1, ht1⟩
  have b1 := b0.turn ht1 nA
  have h2' : OwAt w1 b m d ys := (h2.new hw).turn ht1 (by rintro x hx ⟨y, hy, e⟩; exact hab y x hy hx e.symm)
  have c1 := b1.cells
  go_wp2_with fail
  refine (mark_any b m d (k + n) ys _ h2' hm (by omega) (by omega)).mono ?_
  rintro e w2 ⟨rfl, ho2, ht2⟩
  have ho12 : OwAt w2 a n c (marks k n) := ho1.turn ht2 (by rintro x hx ⟨y, hy, e⟩; exact hab x y hx hy e)
  go_wp2
  go_ret
  refine ⟨rfl, ho12, ho2, ?_⟩
  exact Turn.trans (S := fun i => inA a i ∨ inA b i) (Turn.trans (S := fun i => inA a i ∨ inA b i) hw.turn ht1 (fun _ _ h => .inl h)) ht2 (fun _ _ h => .inr h)

set_option maxHeartbeats 800000 in
theorem markWR_any (z E T : Int) (p a b : Option Addr) (l f n c m d : Nat) (k : Int) (xs zs ys : List Int) (w : World) (hx : OwAt w p l f xs) (h : OwAt w a n c zs) (h2 : OwAt w b m d ys) (hpa : ∀ x y, p = some x → a = some y → x.block ≠ y.block) (hpb : ∀ x y, p = some x → b = some y → x.block ≠ y.block) (hab : ∀ x y, a = some x → b = some y → x.block ≠ y.block) (hlp : ∀ x, p = some x → x.block < w.heap.size) (hla : ∀ x, a = some x → x.block < w.heap.size) (hl : l ≤ 1048576) (hn : n ≤ 4194304) (hm : m ≤ 4194304) (hk0 : 0 ≤ k) (hk : k ≤ 1000) :
    Calls Tryd.prog 14 #[.agg #[.int .i64 z, .slice p l f, .int .i64 E, .slice a n c, .int .i64 T, .slice b m d], .int .i64 k] w fun e w' => e = .returned (.int .i64 (k + l + n + m)) ∧ OwAt w' p l f (marks k l) ∧ OwAt w' a n c (marks (k + l) n) ∧ OwAt w' b m d (marks (k + l + n) m) ∧ Turn (fun i => inA p i ∨ inA a i ∨ inA b i) w w' := by
  have hw := (New.refl w).alloc (.cells #[.int .i64 z, .slice p l f, .int .i64 E, .slice a n c, .int .i64 T, .slice b m d] 28)
  have b0 := Blk.mk w w.heap.size 28 #[.int .i64 z, .slice p l f, .int .i64 E, .slice a n c, .int .i64 T, .slice b m d] rfl
  have nP : ¬ inA p w.heap.size := by rintro ⟨x, hx, e⟩; have := hlp x hx; omega
  go_enter Tryd.func14, Tryd.ntmps14
  go_wp2_with fail
  refine (mark_any p l f k xs _ (hx.new hw) (by omega) hk0 (by omega)).mono ?_
  rintro e w1 ⟨rfl, ho1, ht1⟩
  have c1 := (b0.turn ht1 nP).cells
  have h' : OwAt w1 a n c zs := (h.new hw).turn ht1 (by rintro x hx ⟨y, hy, e⟩; exact hpa y x hy hx e.symm)
  have h2' : OwAt w1 b m d ys := (h2.new hw).turn ht1 (by rintro x hx ⟨y, hy, e⟩; exact hpb y x hy hx e.symm)
  have s1 := (hw.turn.trans ht1 (S := inA p) (fun _ _ h => h)).size
  go_wp2_with fail
  refine (markW_any E T a b n c m d (k + l) zs ys _ h' h2' hab (fun x hx => Nat.lt_of_lt_of_le (hla x hx) s1) hn hm (by omega) (by omega)).mono ?_
  rintro e w2 ⟨rfl, ho2, ho3, ht2⟩
  have ho12 : OwAt w2 p l f (marks k l) := ho1.turn ht2 (by rintro x hx (⟨y, hy, e⟩ | ⟨y, hy, e⟩); exact hpa x y hx hy e; exact hpb x y hx hy e)
  go_wp2
  go_ret
  refine ⟨rfl, ho12, ho2, ho3, ?_⟩
  exact Turn.trans (S := fun i => inA p i ∨ inA a i ∨ inA b i) (Turn.trans (S := fun i => inA p i ∨ inA a i ∨ inA b i) hw.turn ht1 (fun _ _ h => .inl h)) ht2 (fun _ _ h => .inr h)

set_option maxHeartbeats 800000 in
theorem heldW_any (E T : Int) (a b : Option Addr) (n c m d : Nat) (k : Int) (w : World) (h : BsAt w a (marks k n)) (h2 : BsAt w b (marks (k + n) m)) (hn : n ≤ 4194304) (hm : m ≤ 4194304) (hk0 : 0 ≤ k) (hk : k ≤ 2000000) :
    Calls Tryd.prog 32 #[.agg #[.int .i64 E, .slice a n c, .int .i64 T, .slice b m d], .int .i64 k] w fun e w' => e = .returned (.int .i64 (k + n + m)) ∧ New w w' := by
  have hw := (New.refl w).alloc (.cells #[.int .i64 E, .slice a n c, .int .i64 T, .slice b m d] 26)
  have b0 := Blk.mk w w.heap.size 26 #[.int .i64 E, .slice a n c, .int .i64 T, .slice b m d] rfl
  go_enter Tryd.func32, Tryd.ntmps32
  go_wp2_with fail
  refine (held_any a n c k _ (h.new hw) hn hk0 (by omega)).mono ?_
  rintro e w1 ⟨rfl, hw1⟩
  obtain rfl := hw1.symm
  go_wp2_with fail
  refine (held_any b m d (k + n) _ (h2.new hw) hm (by omega) (by omega)).mono ?_
  rintro e w2 ⟨rfl, hw2⟩
  obtain rfl := hw2.symm
  go_wp2
  go_ret
  exact ⟨rfl, hw⟩

set_option maxHeartbeats 800000 in
theorem heldWR_any (z E T : Int) (p a b : Option Addr) (l f n c m d : Nat) (k : Int) (w : World) (hp : BsAt w p (marks k l)) (h : BsAt w a (marks (k + l) n)) (h2 : BsAt w b (marks (k + l + n) m)) (hl : l ≤ 1048576) (hn : n ≤ 4194304) (hm : m ≤ 4194304) (hk0 : 0 ≤ k) (hk : k ≤ 1000) :
    Calls Tryd.prog 15 #[.agg #[.int .i64 z, .slice p l f, .int .i64 E, .slice a n c, .int .i64 T, .slice b m d], .int .i64 k] w fun e w' => e = .returned (.int .i64 (k + l + n + m)) ∧ New w w' := by
  have hw := (New.refl w).alloc (.cells #[.int .i64 z, .slice p l f, .int .i64 E, .slice a n c, .int .i64 T, .slice b m d] 28)
  go_enter Tryd.func15, Tryd.ntmps15
  go_wp2_with fail
  refine (held_any p l f k _ (hp.new hw) (by omega) hk0 (by omega)).mono ?_
  rintro e w1 ⟨rfl, hw1⟩
  obtain rfl := hw1.symm
  go_wp2_with fail
  refine (heldW_any E T a b n c m d (k + l) _ (h.new hw) (h2.new hw) hn hm (by omega) (by omega)).mono ?_
  rintro e w2 ⟨rfl, hn1⟩
  go_wp2
  go_ret
  exact ⟨rfl, hw.trans hn1⟩

end Go.Proofs.YtonmdodbhdmmbaaDoor
