/- What is proved here: what the drawing of numbers and of bytes out of a list of bytes answers. What is proved here: what the drawing of a prefix out of a list of bytes answers. What is proved here: what the drawing of attributes answers: attributes without a fault. What is proved here: what the drawing of an update answers: an update without a fault. What is proved here: what the bending of bytes, and the drawing of the bytes of an update, answer. What is proved here: what the bending of attributes answers: attributes within bounds. -/
import Derived.Test.YtohngojiomgoeaaDoorPackFn
import Derived.Test.YtohngojiomgoeaaDoorPxFn
import Derived.Test.YtohngojiomgoeaaDoorQB
import Derived.Test.YtohngojiomgoeaaDoorSdAttrs
import Derived.Test.YtohngojiomgoeaaDoorUpPack2
import Derived.Test.YtohngojiomgoeaaDoorSdSoft
import Derived.Test.YtohngojiomgoeaaDoorPuAll
import Derived.Test.YtohngojiomgoeaaDoorUpSpk2
namespace Go.Proofs.YtohngojiomgoeaaDoor
open Go.RowKit

/-- A number that was drawn below m. -/
def Dr (m r : Int) : Prop := 0 ≤ r ∧ (1 ≤ m → r < m) ∧ (m < 1 → r = 0)
theorem Dr.of_mod {x m : Int} (h : ¬ m < 1) : Dr m (x % m) := ⟨Int.emod_nonneg _ (by omega), fun _ => Int.emod_lt_of_pos _ (by omega), fun h' => absurd h' h⟩
theorem wrap_in {x : Int} (h : -1000000000000 ≤ x ∧ x ≤ 1000000000000) : IntKind.i64.wrap x = x := by simp [IntKind.wrap, IntKind.signed, IntKind.bits]; omega
theorem mod_nat (t n : Nat) : (t : Int) % (n : Int) = ((t % n : Nat) : Int) := by omega

set_option maxHeartbeats 1600000 in
theorem next_any (B : Nat) (a : Option Addr) (n c t : Nat) (m : Int) (zs : List Int) (w : World) (hb : Blk w B 67 #[.slice a n c, .int .i64 t]) (h : BsAt w a zs) (hn : zs.length = n) (hm : n ≤ 2097152) (ht : t ≤ 1000000) (hmm : m ≤ 1000000) (hne : ∀ x, zs ≠ [] → a = some x → x.block ≠ B) :
    Calls Tryd.prog 35 #[.pointer (some ⟨B, 0, none⟩), .int .i64 m] w fun e w' => ∃ r : Int, e = .returned (.int .i64 r) ∧ Dr m r ∧
      Blk w' B 67 #[.slice a n c, .int .i64 ((t : Int) + 1)] ∧ Turn (fun k => k = B) w w' := by
  have hb' := hb.set 1 (.int .i64 ((t : Int) + 1))
  have htn : Turn (fun k => k = B) w (w.setCell ⟨B, 1, none⟩ (.int .i64 ((t : Int) + 1))) := Turn.set (S := fun k => k = B) (Turn.refl _ _) rfl _
  have cB := hb.cells
  have fB := hb.frees
  by_cases h1 : m < 1
  · go_enter Tryd.func35, Tryd.ntmps35
    go_wp2
    go_ret
    exact ⟨0, rfl, ⟨by omega, by omega, fun _ => rfl⟩, hb', htn⟩
  by_cases h0 : n = 0
  · subst h0
    have HD : Hid (Dr m ((t : Int) * 7 % m)) := Dr.of_mod h1
    go_enter Tryd.func35, Tryd.ntmps35
    go_wp2
    go_ret
    exact ⟨_, rfl, HD.out, hb', htn⟩
  · obtain ⟨i, hi⟩ : ∃ i : Nat, i = t % n := ⟨_, rfl⟩
    obtain ⟨q, hq⟩ : ∃ q : Nat, q = t / n := ⟨_, rfl⟩
    have hmod : (t : Int) % (n : Int) = (i : Int) := by rw [mod_nat, hi]
    have hdiv : (t : Int) / (n : Int) = (q : Int) := by rw [hq]; omega
    have hlt : i < n := by rw [hi]; exact Nat.mod_lt t (show n > 0 by omega)
    have hdl : q ≤ t := by rw [hq]; exact Nat.div_le_self t n
    have hdv : (t : Int).tdiv (n : Int) = (q : Int) := by rw [Int.tdiv_eq_ediv_of_nonneg (by omega)]; exact hdiv
    obtain ⟨b, off, z, rfl, hz, hc, hz0, hz1⟩ := h.at i (by omega)
    have hne0 : ((n : Int) == 0) = false := by simp; omega
    have hbs := BsAt.turnZ (S := fun k => k = B) h htn hne
    have hbB : ¬ b = B := hne _ (by rintro rfl; simp at hz) rfl
    have hcw : (w.setCell ⟨B, 1, none⟩ (.int .i64 ((t : Int) + 1))).cell? ⟨b, off + i, none⟩ = some (.int .u8 z) := by
      obtain ⟨b', off', e', h1', _⟩ := hbs i z hz
      simp only [Option.some.injEq, Addr.mk.injEq, and_true] at e'
      obtain ⟨rfl, rfl⟩ := e'
      exact h1'
    have hmv : (t : Int).tmod (n : Int) = (i : Int) := by rw [Int.tmod_eq_emod_of_nonneg (by omega)]; exact hmod
    have hw0 : IntKind.i64.wrap z = z := wrap_in (by omega)
    have hw1 : IntKind.i64.wrap ((q : Int) * 37) = (q : Int) * 37 := wrap_in (by omega)
    have hw2 : IntKind.i64.wrap (z + (q : Int) * 37) = z + (q : Int) * 37 := wrap_in (by omega)
    have hw3 : IntKind.i64.wrap (i : Int) = (i : Int) := wrap_in (by omega)
    have hw4 : IntKind.i64.wrap (q : Int) = (q : Int) := wrap_in (by omega)
    clear hi hq
    by_cases hm2 : 200 < m
    · obtain ⟨i2, hi2⟩ : ∃ i2 : Nat, i2 = (t + 1) % n := ⟨_, rfl⟩
      have hmod2 : ((t : Int) + 1) % (n : Int) = (i2 : Int) := by rw [hi2, ← mod_nat]; simp
      have hmv2 : ((t : Int) + 1).tmod (n : Int) = (i2 : Int) := by rw [Int.tmod_eq_emod_of_nonneg (by omega)]; exact hmod2
      have hlt2 : i2 < n := by rw [hi2]; exact Nat.mod_lt _ (show n > 0 by omega)
      obtain ⟨b2, off2, z2, e2, hz2, hc2, hz20, hz21⟩ := hbs.at i2 (by omega)
      simp only [Option.some.injEq, Addr.mk.injEq, and_true] at e2
      obtain ⟨rfl, rfl⟩ := e2
      have HD : Hid (Dr m (((z + (q : Int) * 37) * 251 + z2 * 13 + t) % m)) := Dr.of_mod h1
      have hv0 : 0 ≤ z + (q : Int) * 37 := by omega
      have hv1 : z + (q : Int) * 37 ≤ 100000000 := by omega
      have hu0 : IntKind.i64.wrap z2 = z2 := wrap_in (by omega)
      have hu1 : IntKind.i64.wrap ((t : Int) + 1) = (t : Int) + 1 := wrap_in (by omega)
      have hu2 : IntKind.i64.wrap (i2 : Int) = (i2 : Int) := wrap_in (by omega)
      have hu3 : IntKind.i64.wrap ((z + (q : Int) * 37) * 251) = (z + (q : Int) * 37) * 251 := wrap_in (by omega)
      have hu4 : IntKind.i64.wrap (z2 * 13) = z2 * 13 := wrap_in (by omega)
      have hu5 : IntKind.i64.wrap ((z + (q : Int) * 37) * 251 + z2 * 13) = (z + (q : Int) * 37) * 251 + z2 * 13 := wrap_in (by omega)
      have hu6 : IntKind.i64.wrap ((z + (q : Int) * 37) * 251 + z2 * 13 + t) = (z + (q : Int) * 37) * 251 + z2 * 13 + t := wrap_in (by omega)
      clear hi2
      go_enter Tryd.func35, Tryd.ntmps35
      go_wp2
      go_quiet (fail)
      go_wp2
      go_quiet (fail)
      go_wp2
      go_ret
      exact ⟨_, rfl, HD.out, hb', htn.os, htn.tape, htn.output, htn.size, htn.block⟩
    · have HD : Hid (Dr m ((z + (q : Int) * 37) % m)) := Dr.of_mod h1
      go_enter Tryd.func35, Tryd.ntmps35
      go_wp2
      go_quiet (fail)
      go_wp2
      go_ret
      exact ⟨_, rfl, HD.out, hb', htn.os, htn.tape, htn.output, htn.size, htn.block⟩

/-- A source of numbers: its bytes, how many have been drawn. -/
structure Sc (w : World) (B : Nat) (a : Option Addr) (n c : Nat) (zs : List Int) (t : Nat) : Prop where
  blk : Blk w B 67 #[.slice a n c, .int .i64 t]
  bs : BsAt w a zs
  len : zs.length = n
  le : n ≤ 2097152
  ne : ∀ x, zs ≠ [] → a = some x → x.block ≠ B

theorem Sc.turn {w w' : World} {B n c t : Nat} {a : Option Addr} {zs : List Int} {S : Nat → Prop} (h : Sc w B a n c zs t) (k : Turn S w w') (hB : ¬ S B) (hS : ∀ x, zs ≠ [] → a = some x → ¬ S x.block) : Sc w' B a n c zs t :=
  ⟨h.blk.turn k hB, h.bs.turnZ k hS, h.len, h.le, h.ne⟩
theorem Sc.new {w w' : World} {B n c t : Nat} {a : Option Addr} {zs : List Int} (h : Sc w B a n c zs t) (k : New w w') : Sc w' B a n c zs t := h.turn k (fun f => f) (fun _ _ _ f => f)

theorem next_sc {B n c t : Nat} {a : Option Addr} {zs : List Int} {w : World} (h : Sc w B a n c zs t) (m : Int) (ht : t ≤ 1000000) (hm : m ≤ 1000000) :
    Calls Tryd.prog 35 #[.pointer (some ⟨B, 0, none⟩), .int .i64 m] w fun e w' => ∃ r : Int, e = .returned (.int .i64 r) ∧ Dr m r ∧ Sc w' B a n c zs (t + 1) ∧ Turn (fun k => k = B) w w' := by
  refine (next_any B a n c t m zs w h.blk h.bs h.len h.le ht hm h.ne).mono ?_
  rintro e w' ⟨r, rfl, hd, hb, htn⟩
  exact ⟨r, rfl, hd, ⟨hb, h.bs.turnZ htn h.ne, h.len, h.le, h.ne⟩, htn⟩

theorem chance_sc {B n c t : Nat} {a : Option Addr} {zs : List Int} {w : World} (h : Sc w B a n c zs t) (m : Int) (ht : t ≤ 1000000) (hm : m ≤ 1000000) :
    Calls Tryd.prog 37 #[.pointer (some ⟨B, 0, none⟩), .int .i64 m] w fun e w' => ∃ r : Bool, e = .returned (.bool r) ∧ Sc w' B a n c zs (t + 1) ∧ Turn (fun k => k = B) w w' := by
  go_enter Tryd.func37, Tryd.ntmps37
  go_wp2_with fail
  refine (next_sc h m ht hm).mono ?_
  rintro e w1 ⟨r, rfl, hd, hs, htn⟩
  go_wp2
  go_ret
  exact ⟨_, rfl, hs, htn⟩

theorem Blk.other {w : World} {B L : Nat} {t u : TypeId} {cs ds : Array Value} (h : Blk w B t cs) (k : Blk w L u ds) (hne : t ≠ u) : L ≠ B := by
  rintro rfl
  unfold Blk at h k
  rw [h] at k
  simp only [Option.some.injEq, Obj.cells.injEq] at k
  exact hne k.2.1

set_option maxHeartbeats 800000 in
theorem pick_sc {B n c t L : Nat} {a : Option Addr} {zs : List Int} {w : World} (h : Sc w B a n c zs t) (xs : List Int) (hL : Blk w L 2 (xs.map (Value.int .i64)).toArray) (k : Nat) (hk : xs.length = k) (hk0 : 0 < k) (hk1 : k ≤ 1000) (ht : t ≤ 1000000) :
    Calls Tryd.prog 39 #[.pointer (some ⟨B, 0, none⟩), .slice (some ⟨L, 0, none⟩) k k] w fun e w' => ∃ r : Int, e = .returned (.int .i64 r) ∧ r ∈ xs ∧ Sc w' B a n c zs (t + 1) ∧ Turn (fun k => k = B) w w' := by
  have HK : Hid (xs.length = k) := hk
  clear hk
  go_enter Tryd.func39, Tryd.ntmps39
  go_wp2_with fail
  refine (next_sc h (k : Int) ht (by omega)).mono ?_
  rintro e w1 ⟨r, rfl, hd, hs, htn⟩
  obtain ⟨hr0, hr1, -⟩ := hd
  have hr1 := hr1 (by omega)
  obtain ⟨i, rfl⟩ := Int.eq_ofNat_of_zero_le hr0
  have hi : i < k := by omega
  have hL1 := hL.turn htn (h.blk.other hL (by decide))
  have hc : w1.cell? ⟨L, i, none⟩ = some (.int .i64 (xs[i]'(by have := HK.out; omega))) := by
    rw [hL1.cells i]
    simp [show i < xs.length by have := HK.out; omega]
  have hmem : xs[i]'(by have := HK.out; omega) ∈ xs := List.getElem_mem _
  generalize xs[i]'(by have := HK.out; omega) = x at *
  have HM : Hid (x ∈ xs) := hmem
  clear hmem
  go_wp2
  go_ret
  exact ⟨x, rfl, HM.out, hs, htn⟩

theorem source_any (a : Option Addr) (n c : Nat) (zs : List Int) (w : World) (h : BsAt w a zs) (hn : zs.length = n) (hm : n ≤ 2097152) (ha : ∀ x, zs ≠ [] → a = some x → x.block < w.heap.size) :
    Calls Tryd.prog 12 #[.slice a n c] w fun e w' => ∃ B, e = .returned (.pointer (some ⟨B, 0, none⟩)) ∧ w.heap.size ≤ B ∧ Sc w' B a n c zs 0 ∧ New w w' := by
  have hw := (New.refl w).alloc (.cells #[.slice a n c, .int .i64 0] 67)
  go_enter Tryd.func12, Tryd.ntmps12
  go_wp2
  go_ret
  exact ⟨w.heap.size, rfl, Nat.le_refl _, ⟨Blk.mk w w.heap.size _ _ rfl, h.new hw, hn, hm, fun x hz' hx => by have := ha x hz' hx; omega⟩, hw⟩

end Go.Proofs.YtohngojiomgoeaaDoor

namespace Go.Proofs.YtohngojiomgoeaaDoor
open Go.RowKit Go.Sort

/-- What a drawing may turn: the source's block alone. -/
theorem Turn.both {B : Nat} {x y z : World} (h : Turn (fun k => k = B) x y) (k : Turn (fun k => k = B) y z) : Turn (fun k => k = B) x z := Turn.trans h k (fun _ _ e => e)
theorem Turn.andNew {S : Nat → Prop} {x y z : World} (h : Turn S x y) (k : New y z) : Turn S x z := Turn.trans h k (fun _ _ e => e.elim)
theorem Turn.andSet {S : Nat → Prop} {x y : World} (h : Turn S x y) (p : Addr) (v : Value) (hp : x.heap.size ≤ p.block) : Turn S x (y.setCell p v) :=
  Turn.trans (T := fun k => k = p.block) h (Turn.set (S := fun k => k = p.block) (Turn.refl _ _) rfl _) (fun i hi e => by omega)

theorem Sc.lt_of {B n c t : Nat} {a : Option Addr} {zs : List Int} {w : World} (h : Sc w B a n c zs t) : ∀ x, zs ≠ [] → a = some x → x.block < w.heap.size := by
  intro x hz hx
  obtain ⟨b, off, e, hlt⟩ := h.bs.block_lt hz
  rw [e] at hx
  obtain rfl := Option.some.inj hx
  exact hlt

theorem Sc.setN {B n c t N : Nat} {a : Option Addr} {zs : List Int} {w : World} (h : Sc w B a n c zs t) (hA : ∀ x, zs ≠ [] → a = some x → x.block < N) (hB : B < N) (p : Addr) (v : Value) (hp : N ≤ p.block) : Sc (w.setCell p v) B a n c zs t :=
  h.turn (S := fun k => k = p.block) (Turn.set (S := fun k => k = p.block) (Turn.refl _ _) rfl _) (by omega) (fun x hz hx e => by have := hA x hz hx; omega)

set_option maxHeartbeats 1600000 in
theorem l2Prefix_sc {B n c t : Nat} {a : Option Addr} {zs : List Int} {w : World} (h : Sc w B a n c zs t) (ht : t ≤ 100000) :
    Calls Tryd.prog 36 #[.pointer (some ⟨B, 0, none⟩)] w fun e w' => ∃ (x l : Int) (t' : Nat), e = .returned (.agg #[.int .i64 x, .int .i64 l]) ∧ pf x l = 0 ∧ t' ≤ t + 10 ∧ Sc w' B a n c zs t' ∧ Turn (fun k => k = B) w w' := by
  have hlt := h.blk.lt
  have hw0 := (New.refl w).alloc (.cells #[.int .i64 0, .int .i64 0] 53)
  have hR : Blk (w.alloc (.cells #[.int .i64 0, .int .i64 0] 53)) w.heap.size 53 #[.int .i64 0, .int .i64 0] := Blk.mk _ _ _ _ rfl
  have hRB : ¬ w.heap.size = B := by omega
  have hge := Nat.le_refl w.heap.size
  have hA := h.lt_of
  go_enter Tryd.func36, Tryd.ntmps36
  go_wp2_with fail
  refine (next_sc (h.new hw0) 17 (by omega) (by omega)).mono ?_
  rintro e w1 ⟨r1, rfl, hd1, hs1, ht1⟩
  have t1 : Turn (fun k => k = B) w w1 := Turn.trans hw0.turn ht1 (fun _ _ e => e)
  have hR1 := hR.turn ht1 hRB
  go_wp2_with fail
  have hbl := Blk.mk w1 w1.heap.size 2 #[.int .i64 8, .int .i64 4, .int .i64 12, .int .i64 16, .int .i64 0, .int .i64 r1] rfl
  have hal := (New.refl w1).alloc (.cells #[.int .i64 8, .int .i64 4, .int .i64 12, .int .i64 16, .int .i64 0, .int .i64 r1] 2)
  refine (pick_sc (hs1.new hal) [8, 4, 12, 16, 0, r1] hbl 6 rfl (by omega) (by omega) (by omega)).mono ?_
  rintro e w2 ⟨l, rfl, hx, hs2, ht2⟩
  have hl : 0 ≤ l ∧ l ≤ 16 := by
    obtain ⟨p1, p2, -⟩ := hd1
    have p2 := p2 (by omega)
    simp only [List.mem_cons, List.not_mem_nil, or_false] at hx
    rcases hx with rfl | rfl | rfl | rfl | rfl | rfl <;> omega
  have t2 : Turn (fun k => k = B) w w2 := (t1.andNew hal).both ht2
  have hR2 := (hR1.new hal).turn ht2 hRB
  clear hbl hal hx ht1 ht2 hd1 hs1 hR1 t1
  go_wp2_with fail
  refine (next_sc hs2 6 (by omega) (by omega)).mono ?_
  rintro e w3 ⟨r3, rfl, hd3, hs3, ht3⟩
  obtain ⟨p3, q3, -⟩ := hd3
  have q3 := q3 (by omega)
  go_wp2_with fail
  refine (next_sc hs3 3 (by omega) (by omega)).mono ?_
  rintro e w4 ⟨r4, rfl, hd4, hs4, ht4⟩
  obtain ⟨p4, q4, -⟩ := hd4
  have q4 := q4 (by omega)
  have t4 : Turn (fun k => k = B) w w4 := (t2.both ht3).both ht4
  have hR4 := (hR2.turn ht3 hRB).turn ht4 hRB
  clear ht3 ht4 hs3 t2 hR2
  have hv0 : 0 ≤ r3 * 2560 + r4 * 16 := by omega
  have hv1 : r3 * 2560 + r4 * 16 ≤ 65535 := by omega
  have hlow := bits_high64 hv0 hv1 hl.1 hl.2
  go_wp2_with fail
  refine (l2Rest_any l _ hl.1 hl.2).mono ?_
  rintro e w5 ⟨rfl, rfl⟩
  have hb := szp_bd hl.1 hl.2
  have hpf : Hid (pf (r3 * 2560 + r4 * 16 - (r3 * 2560 + r4 * 16) % szp l) l = 0) := by
    generalize r3 * 2560 + r4 * 16 = v at *
    have hm0 := Int.emod_nonneg v (show szp l ≠ 0 by omega)
    have h3 := Int.mul_ediv_add_emod v (szp l)
    have h4 : 0 ≤ szp l * (v / szp l) := Int.mul_nonneg (by omega) (Int.ediv_nonneg hv0 (by omega))
    have e : (v - v % szp l) % szp l = 0 := by
      rw [show v - v % szp l = szp l * (v / szp l) by omega]
      exact Int.mul_emod_right _ _
    unfold Hid pf
    rw [if_neg (by omega), if_neg (by omega)]
  have hcs := hR4.cells
  have hfs := hR4.frees
  go_wp2
  refine bodyPost_ret (v := .agg #[.int .i64 (r3 * 2560 + r4 * 16 - (r3 * 2560 + r4 * 16) % szp l), .int .i64 l]) (by simp [results, Tryd.results36, go_sem, hcs]) rfl ⟨_, _, t + 1 + 1 + 1 + 1, rfl, hpf.out, ?_, ?_, ?_⟩
  · omega
  · exact (hs4.setN hA hlt _ _ hge).setN hA hlt _ _ hge
  · exact Turn.andSet (Turn.andSet t4 _ _ hge) _ _ hge

end Go.Proofs.YtohngojiomgoeaaDoor

namespace Go.Proofs.YtohngojiomgoeaaDoor
open Go.RowKit Go.Sort
set_option linter.unusedVariables false

theorem afc_of : ∀ {xs : List Int}, (∀ x ∈ xs, 1 ≤ x ∧ x ≤ 65535) → afc xs = 0
  | [], _ => rfl
  | x :: r, h => by
    unfold afc
    rw [if_pos (h x (by simp))]
    exact afc_of (fun y hy => h y (by simp [hy]))
theorem af_of {o nx md lc : Int} {xs : List Int} (ho : Ao o nx md lc) (hl : xs.length ≤ 6) (hx : ∀ x ∈ xs, 1 ≤ x ∧ x ≤ 65535) : af o xs nx md lc = 0 := by
  unfold af
  rw [if_pos ho, if_neg (by omega)]
  exact afc_of hx
theorem own_turnN {w w' : World} {base n : Nat} {v : Value} {xs : List Value} {S : Nat → Prop} (h : w.ownsRow base 2 1 v n xs) (t : Turn S w w') (hS : ∀ g, v.ownBlock = some g → ¬ S g) : w'.ownsRow base 2 1 v n xs := by
  refine ⟨h.1, ?_⟩
  rcases h.2 with h' | ⟨g', cap', cur, h', hb, hh, r⟩
  · exact .inl h'
  · have hlt : g' < w.heap.size := (Array.getElem?_eq_some_iff.1 hh).1
    exact .inr ⟨g', cap', cur, h', hb, (t.block g' hlt (hS g' (by rw [h']; rfl))).trans hh, r⟩

set_option maxRecDepth 100000 in
set_option maxHeartbeats 3200000 in
theorem l3DrawAttrs_sc {B n c t : Nat} {a : Option Addr} {zs : List Int} {w : World} (h : Sc w B a n c zs t) (ht : t ≤ 100000) :
    Calls Tryd.prog 38 #[.pointer (some ⟨B, 0, none⟩)] w fun e w' => ∃ (o nx md lc : Int) (xs : List Int) (xa : Option Addr) (xc t' : Nat), e = .returned (.agg #[.int .i64 o, .slice xa xs.length xc, .int .i64 nx, .int .i64 md, .int .i64 lc]) ∧ af o xs nx md lc = 0 ∧ xs.length ≤ 3 ∧ t' ≤ t + 30 ∧ OwM w' w.heap.size (.slice xa xs.length xc) xs ∧ Sc w' B a n c zs t' ∧ Turn (fun k => k = B) w w' := by
  obtain ⟨iN, hi, hz0, hz1, hz2⟩ := info_parts Tryd.infoI64
  have hlt := h.blk.lt
  have hA := h.lt_of
  have hw0 := (New.refl w).alloc (.cells #[.int .i64 0, .slice none 0 0, .int .i64 0, .int .i64 0, .int .i64 0] 28)
  have bR0 := Blk.mk w w.heap.size 28 #[.int .i64 0, .slice none 0 0, .int .i64 0, .int .i64 0, .int .i64 0] rfl
  have hRB : ¬ w.heap.size = B := by omega
  go_enter Tryd.func38, Tryd.ntmps38
  go_wp2_with fail
  refine (next_sc (h.new hw0) 3 (by omega) (by omega)).mono ?_
  rintro e w1 ⟨r1, rfl, ⟨p1, q1, -⟩, hs1, ht1⟩
  have q1 := q1 (by omega)
  go_wp2_with fail
  refine (next_sc hs1 9 (by omega) (by omega)).mono ?_
  rintro e w2 ⟨r2, rfl, ⟨p2, q2, -⟩, hs2, ht2⟩
  have q2 := q2 (by omega)
  go_wp2_with fail
  refine (next_sc hs2 5 (by omega) (by omega)).mono ?_
  rintro e w3 ⟨r3, rfl, ⟨p3, q3, -⟩, hs3, ht3⟩
  have q3 := q3 (by omega)
  have hal3 := (New.refl w3).alloc (.cells #[.int .i64 0, .int .i64 r3] 2)
  have hbl3 := Blk.mk w3 w3.heap.size 2 #[.int .i64 0, .int .i64 r3] rfl
  go_wp2_with fail
  refine (pick_sc (hs3.new hal3) [0, r3] hbl3 2 rfl (by omega) (by omega) (by omega)).mono ?_
  rintro e w4 ⟨x4, rfl, hx4, hs4, ht4⟩
  have hx4' : 0 ≤ x4 ∧ x4 ≤ 4 := by
    simp only [List.mem_cons, List.not_mem_nil, or_false] at hx4
    rcases hx4 with rfl | rfl <;> omega
  have t14 := Turn.both (Turn.both (Turn.both (hw0.turn (S := fun k => k = B)) ht1) (Turn.both ht2 ht3)) (Turn.both (hal3.turn (S := fun k => k = B)) ht4)
  clear hx4 hal3 hbl3 hs1 hs2 hs3
  go_wp2_with fail
  refine (next_sc hs4 20 (by omega) (by omega)).mono ?_
  rintro e w5 ⟨r5, rfl, ⟨p5, q5, -⟩, hs5, ht5⟩
  have q5 := q5 (by omega)
  have hal5 := (New.refl w5).alloc (.cells #[.int .i64 100, .int .i64 100, .int .i64 (90 + r5)] 2)
  have hbl5 := Blk.mk w5 w5.heap.size 2 #[.int .i64 100, .int .i64 100, .int .i64 (90 + r5)] rfl
  go_wp2_with fail
  refine (pick_sc (hs5.new hal5) [100, 100, 90 + r5] hbl5 3 rfl (by omega) (by omega) (by omega)).mono ?_
  rintro e w6 ⟨x6, rfl, hx6, hs6, ht6⟩
  have hx6' : 0 ≤ x6 ∧ x6 ≤ 200 := by
    simp only [List.mem_cons, List.not_mem_nil, or_false] at hx6
    rcases hx6 with rfl | rfl | rfl <;> omega
  have t16 := Turn.both t14 (Turn.both ht5 (Turn.both (hal5.turn (S := fun k => k = B)) ht6))
  have tR := Turn.both (Turn.both ht1 (Turn.both ht2 ht3)) (Turn.both (((New.refl w3).alloc (.cells #[.int .i64 0, .int .i64 r3] 2)).turn (S := fun k => k = B)) ht4)
  have bR6 := ((((bR0.turn tR hRB).turn ht5 hRB).new hal5).turn ht6 hRB)
  clear hx6 hal5 hbl5 hs4 hs5 ht1 ht2 ht3 ht4 ht5 ht6 t14 bR0 tR hw0
  have s6 := t16.size
  have hal6 := (New.refl w6).alloc (.cells #[.int .i64 r1, .slice none 0 0, .int .i64 r2, .int .i64 x4, .int .i64 x6] 28)
  have bA6 := Blk.mk w6 w6.heap.size 28 #[.int .i64 r1, .slice none 0 0, .int .i64 r2, .int .i64 x4, .int .i64 x6] rfl
  have lR6 := bR6.lt
  have lB6 := hs6.blk.lt
  go_wp2_with fail
  refine (next_sc (hs6.new hal6) 4 (by omega) (by omega)).mono ?_
  rintro e w7 ⟨r7, rfl, ⟨p7, q7, -⟩, hs7, ht7⟩
  have q7 := q7 (by omega)
  obtain ⟨k0, rfl⟩ := Int.eq_ofNat_of_zero_le p7
  have bA7 := bA6.turn ht7 (by omega)
  have bR7 := (bR6.new hal6).turn ht7 hRB
  have t17 := Turn.both t16 (Turn.both (hal6.turn (S := fun k => k = B)) ht7)
  clear bA6 bR6 hs6 t16 hal6 ht7
  go_wp2_with fail
  go_loopw [4] (fun s wr => ∃ (k t' m : Nat) (v : Value) (xs : List Int), s = .int .i64 (k : Int) ∧ k ≤ 3 ∧ m + k ≤ 3 ∧ (∀ x ∈ xs, 1 ≤ x ∧ x ≤ 65535) ∧ t' + 3 * k ≤ t + 30 ∧ wr.ownsRow (w6.heap.size + 1) 2 1 v m (xs.map (Value.int .i64)) ∧ Blk wr w.heap.size 28 #[.int .i64 0, .slice none 0 0, .int .i64 0, .int .i64 0, .int .i64 0] ∧ Blk wr w6.heap.size 28 #[.int .i64 r1, v, .int .i64 r2, .int .i64 x4, .int .i64 x6] ∧ Sc wr B a n c zs t' ∧ Turn (fun k => k = B) w wr) (fun s _ => (intOf s).toNat)
  case atStart => exact ⟨k0, _, 0, .slice none 0 0, [], rfl, by omega, by omega, by simp, by omega, ⟨rfl, .inl ⟨rfl, rfl⟩⟩, bR7, bA7, hs7, t17⟩
  case round =>
    clear bR7 bA7 hs7 t17
    obtain ⟨k, t', m, v, xs, rfl, hk, hmk, hxs, ht', hown, bR, bA, hsc, htn⟩ := hrel
    have hblk := own_blkN hown
    obtain ⟨va, vc, rfl⟩ := own_sliceN hown
    have cA := bA.cells
    have fA := bA.frees
    have hal := bA.lt
    have hml : xs.length = m := by simpa using hown.1
    have HML : Hid (xs.length = m) := hml
    clear hml
    by_cases hlt0 : 0 < k
    · have hd0 := hsc.new ((New.refl _).drew)
      go_wp2_with fail
      go_region_law (first
        | (refine step_apV _ rfl (.tmp 28) (.tmp 38) rfl (w6.heap.size + 1) (.int .i64 0) Tryd.underlying26 hi hz0 hz1 hz2 rfl (.slice va m vc) m _ rfl (own3.alloc _) ⟨_, 0, none⟩ (.int .i64 x3) rfl (by simp [Addr.add]) rfl (by omega) (by first | omega | (simp; omega)) ?_; intro v' w4' ho4 hgr4; obtain ⟨g4, c4, rfl⟩ := Joins.ownsRow_form ho4 (by omega); have bA4 := (bA3.alloc (.cells #[.int .i64 x3] 2)).grow hgr4 (fun e => by have := hblk _ e; omega); have cA4 := bA4.cells; have fA4 := bA4.frees)
        | (go_simp; go_at_call 39; refine (pick_sc (hsB.new ((New.refl _).alloc (.cells #[.int .i64 (1 + y1), .int .i64 (1 + y2), .int .i64 65535] 2))) [1 + y1, 1 + y2, 65535] (Blk.mk v2 v2.heap.size 2 #[.int .i64 (1 + y1), .int .i64 (1 + y2), .int .i64 65535] rfl) 3 rfl (by omega) (by omega) (by omega)).mono ?_; rintro e v3 ⟨x3, rfl, hx3, hsC, htC⟩; have bA3 := (bA2.alloc (.cells #[.int .i64 (1 + y1), .int .i64 (1 + y2), .int .i64 65535] 2)).turn htC (by omega); have cA3 := bA3.cells; have cA3a := (bA3.alloc (.cells #[.int .i64 x3] 2)).cells; have own3 := own_turnN (own2.alloc (.cells #[.int .i64 (1 + y1), .int .i64 (1 + y2), .int .i64 65535] 2)) htC (fun g hg e => by have := hblk g hg; omega); have s3 : v2.heap.size ≤ v3.heap.size := (by have := htC.size; simp at this; omega))
        | (go_simp; go_at_call 35; refine (next_sc hsA 5 (by omega) (by omega)).mono ?_; rintro e v2 ⟨y2, rfl, ⟨py2, qy2, -⟩, hsB, htB⟩; have qy2 := qy2 (by omega); have hwy2 : IntKind.i64.wrap (1 + y2) = 1 + y2 := wrap_in (by omega); have bA2 := bA1.turn htB (by omega); have cA2 := bA2.cells; have cA2a := (bA2.alloc (.cells #[.int .i64 (1 + y1), .int .i64 (1 + y2), .int .i64 65535] 2)).cells; have own2 := own_turnN own1 htB (fun g hg e => by have := hblk g hg; omega); have s2 := htB.size)
        | (go_simp; go_at_call 35; refine (next_sc hd0 5 (by omega) (by omega)).mono ?_; rintro e v1 ⟨y1, rfl, ⟨py1, qy1, -⟩, hsA, htA⟩; have qy1 := qy1 (by omega); have hwy1 : IntKind.i64.wrap (1 + y1) = 1 + y1 := wrap_in (by omega); have bA1 := (bA.new ((New.refl _).drew)).turn htA (by omega); have cA1 := bA1.cells; have own1 := own_turnN (own_newN hown ((New.refl _).drew)) htA (fun g hg e => by have := hblk g hg; omega); have s1 : wr.heap.size ≤ v1.heap.size := htA.size))
      all_goals
        have hx3' : 1 ≤ x3 ∧ x3 ≤ 65535 := by
          simp only [List.mem_cons, List.not_mem_nil, or_false] at hx3
          rcases hx3 with rfl | rfl | rfl <;> omega
        have tABC : Turn (fun k => k = B) wr v3 := Turn.both (Turn.both (Turn.both (((New.refl wr).drew).turn (S := fun k => k = B)) htA) htB) (Turn.both (((New.refl v2).alloc (.cells #[.int .i64 (1 + y1), .int .i64 (1 + y2), .int .i64 65535] 2)).turn (S := fun k => k = B)) htC)
        have hal3 := (New.refl v3).alloc (.cells #[.int .i64 x3] 2)
        have bR3 := ((bR.turn tABC hRB).new hal3).grow hgr4 (fun e => by have := hblk _ e; omega)
        have tg : Turn (fun k => (Value.slice va m vc).ownBlock = some k) (v3.alloc (.cells #[.int .i64 x3] 2)) w4' := ⟨hgr4.os, hgr4.tape, hgr4.output, hgr4.size, fun k hk hs => hgr4.block k hk (fun e => hs e.symm)⟩
        have sc4 := (hsC.new hal3).turn tg (fun e => by have := hblk _ e; omega) (fun x hz hx e => by have := hA x hz hx; have := hblk _ e; omega)
        have T5 := Turn.here (B := w6.heap.size) (j := 1) (Turn.refl _ w4') (.slice (some ⟨g4, 0, none⟩) (m + 1) c4)
        have sc5 := sc4.turn T5 (by omega) (fun x hz hx e => by have := hA x hz hx; omega)
        have bR5 := bR3.turn T5 (by omega)
        have bA5 := bA4.set 1 (.slice (some ⟨g4, 0, none⟩) (m + 1) c4)
        simp only [List.setIfInBounds_toArray, List.set_cons_zero, List.set_cons_succ] at bA5
        have ho5 : (w4'.setCell ⟨w6.heap.size, 1, none⟩ (.slice (some ⟨g4, 0, none⟩) (m + 1) c4)).ownsRow (w6.heap.size + 1) 2 1 (.slice (some ⟨g4, 0, none⟩) (m + 1) c4) (m + 1) ((xs ++ [x3]).map (Value.int .i64)) := own_setN (by simpa using ho4) (by simp)
        have t5 : Turn (fun k => k = B) w (w4'.setCell ⟨w6.heap.size, 1, none⟩ (.slice (some ⟨g4, 0, none⟩) (m + 1) c4)) := Turn.trans (Turn.trans (Turn.both (Turn.both htn tABC) (hal3.turn (S := fun k => k = B))) tg (fun i hi e => by have := hblk _ e; omega)) T5 (fun i hi e => by omega)
        have hxs5 : ∀ x ∈ xs ++ [x3], 1 ≤ x ∧ x ≤ 65535 := by
          intro x hx
          rcases List.mem_append.1 hx with h | h
          · exact hxs x h
          · simp at h; subst h; exact hx3'
        clear ho4 hgr4 hown bA bR bA1 bA2 bA3 bA4 bR3 cA fA cA1 cA2 cA2a cA3 cA3a cA4 fA4 own1 own2 own3 hsA hsB hsC htA htB htC tABC tg sc4 T5 hal3 hx3 hd0 hsc htn
        go_wp2
        go_roundw
        case rel => exact ⟨k - 1, _, m + 1, _, xs ++ [x3], by go_num, by omega, by omega, hxs5, by omega, ho5, bR5, bA5, sc5, t5⟩
        case measure => simp [intOf]; omega
    · obtain rfl : k = 0 := by omega
      have hM : OwM wr (w6.heap.size + 1) (.slice va m vc) xs := OwM.of_own hown HML.out
      have cR := bR.cells
      have fR := bR.frees
      have lR := bR.lt
      have haf : Hid (af r1 xs r2 x4 x6 = 0) := af_of ⟨by omega, ⟨by omega, by omega⟩, ⟨by omega, by omega⟩, ⟨by omega, by omega⟩⟩ (by rw [HML.out]; omega) hxs
      clear hown
      go_wp2
      refine bodyPost_ret (v := .agg #[.int .i64 r1, .slice va m vc, .int .i64 r2, .int .i64 x4, .int .i64 x6]) (by simp [results, Tryd.results38, go_sem, cR]) rfl ?_
      refine (fun (hT : Turn (fun k => k = w.heap.size) wr _) => ⟨r1, r2, x4, x6, xs, va, vc, t', by rw [HML.out], haf.out, by rw [HML.out]; omega, by omega, by rw [HML.out]; exact (hM.turn hT (fun g hg e => by omega)).low (by omega), hsc.turn hT (by omega) (fun x hz hx e => by have := hA x hz hx; omega), Turn.trans htn hT (fun i hi e => by omega)⟩) ?_
      exact Turn.here (Turn.here (Turn.here (Turn.here (Turn.here (Turn.refl _ _) _) _) _) _) _

end Go.Proofs.YtohngojiomgoeaaDoor

namespace Go.Proofs.YtohngojiomgoeaaDoor
open Go.RowKit Go.Sort
set_option linter.unusedVariables false

theorem own_turnQB {w w' : World} {base n : Nat} {v : Value} {xs : List Value} {S : Nat → Prop} (h : w.ownsRow base 53 2 v n xs) (t : Turn S w w') (hS : ∀ g, v.ownBlock = some g → ¬ S g) : w'.ownsRow base 53 2 v n xs := by
  refine ⟨h.1, ?_⟩
  rcases h.2 with h' | ⟨g', cap', cur, h', hb, hh, r⟩
  · exact .inl h'
  · have hlt : g' < w.heap.size := (Array.getElem?_eq_some_iff.1 hh).1
    exact .inr ⟨g', cap', cur, h', hb, (t.block g' hlt (hS g' (by rw [h']; rfl))).trans hh, r⟩
theorem OwQ.turnB' {w w' : World} {lo : Nat} {v : Value} {L : List (Int × Int)} {S : Nat → Prop} (h : OwQ w lo v L) (t : Turn S w w') (hS : ∀ g, v.ownBlock = some g → ¬ S g) : OwQ w' lo v L := by
  rcases h with h | ⟨g, c, h1, h2, h3⟩
  · exact .inl h
  · exact .inr ⟨g, c, h1, h2, h3.turn t (hS g (by rw [h1]; rfl))⟩
theorem OwM.turnB' {w w' : World} {lo : Nat} {v : Value} {L : List Int} {S : Nat → Prop} (h : OwM w lo v L) (t : Turn S w w') (hS : ∀ g, v.ownBlock = some g → ¬ S g) : OwM w' lo v L := by
  rcases h with h | ⟨g, c, h1, h2, h3⟩
  · exact .inl h
  · exact .inr ⟨g, c, h1, h2, h3.turn t (hS g (by rw [h1]; rfl))⟩
theorem uf_true {gs rs : List (Int × Int)} {o nx md lc : Int} {xs : List Int} (hg : ∀ p ∈ gs, pf p.1 p.2 = 0) (hr : ∀ p ∈ rs, pf p.1 p.2 = 0) (h8 : gs.length ≤ 8) (r8 : rs.length ≤ 8) (r0 : 0 < rs.length) (ha : af o xs nx md lc = 0) : uf gs true o xs nx md lc rs = 0 := by
  have h0 : lf gs = 0 := by unfold lf; rw [if_neg (by omega), lfc_nought hg]
  have h1 : lf rs = 0 := by unfold lf; rw [if_neg (by omega), lfc_nought hr]
  unfold uf
  rw [if_neg (by omega), h0, h1]
  simp [r0, ha]

/-- What the drawing of an update leaves. -/
structure Drawn (w : World) (lo : Nat) (gs : List (Int × Int)) (xs : List Int) (rs : List (Int × Int)) (x y z : Value) : Prop where
  g : OwQ w lo x gs
  n : OwM w lo y xs
  r : OwQ w lo z rs
  lg : gs.length ≤ 3
  ln : xs.length ≤ 7
  lr : rs.length ≤ 4

set_option maxRecDepth 100000 in
set_option maxHeartbeats 6400000 in
theorem l3DrawUpdate_sc {B n c t : Nat} {a : Option Addr} {zs : List Int} {w : World} (h : Sc w B a n c zs t) (ht : t ≤ 10000) :
    Calls Tryd.prog 14 #[.pointer (some ⟨B, 0, none⟩)] w fun e w' => ∃ (gs rs : List (Int × Int)) (xs : List Int) (has : Bool) (o nx md lc : Int) (x y z : Value) (t' : Nat), e = .returned (.agg #[x, .bool has, .int .i64 o, y, .int .i64 nx, .int .i64 md, .int .i64 lc, z]) ∧ uf gs has o xs nx md lc rs = 0 ∧ gs.length ≤ 2 ∧ xs.length ≤ 3 ∧ rs.length ≤ 3 ∧ t' ≤ t + 200 ∧ OwQ w' w.heap.size x gs ∧ OwM w' w.heap.size y xs ∧ OwQ w' w.heap.size z rs ∧ Sc w' B a n c zs t' ∧ Turn (fun k => k = B) w w' ∧ (∀ b, x.ownBlock = some b → y.ownBlock ≠ some b) ∧ (∀ b, x.ownBlock = some b → z.ownBlock ≠ some b) ∧ (∀ b, y.ownBlock = some b → z.ownBlock ≠ some b) := by
  obtain ⟨iP, hi, hz0, hz1, hz2⟩ := info_parts Tryd.infoPx
  have hlt := h.blk.lt
  have hA := h.lt_of
  have hw0 := ((New.refl w).alloc (.cells #[.slice none 0 0, .bool false, .int .i64 0, .slice none 0 0, .int .i64 0, .int .i64 0, .int .i64 0, .slice none 0 0] 30)).alloc (.cells #[.slice none 0 0, .bool false, .int .i64 0, .slice none 0 0, .int .i64 0, .int .i64 0, .int .i64 0, .slice none 0 0] 30)
  have bR0 := (Blk.mk w w.heap.size 30 #[.slice none 0 0, .bool false, .int .i64 0, .slice none 0 0, .int .i64 0, .int .i64 0, .int .i64 0, .slice none 0 0] rfl).alloc (.cells #[.slice none 0 0, .bool false, .int .i64 0, .slice none 0 0, .int .i64 0, .int .i64 0, .int .i64 0, .slice none 0 0] 30)
  have bU0 := Blk.mk (w.alloc (.cells #[.slice none 0 0, .bool false, .int .i64 0, .slice none 0 0, .int .i64 0, .int .i64 0, .int .i64 0, .slice none 0 0] 30)) (w.heap.size + 1) 30 #[.slice none 0 0, .bool false, .int .i64 0, .slice none 0 0, .int .i64 0, .int .i64 0, .int .i64 0, .slice none 0 0] (by simp)
  have hRB : ¬ w.heap.size = B := by omega
  have hUB : ¬ w.heap.size + 1 = B := by omega
  go_enter Tryd.func14, Tryd.ntmps14
  go_wp2_with fail
  refine (next_sc (h.new hw0) 3 (by omega) (by omega)).mono ?_
  rintro e w1 ⟨r1, rfl, ⟨p1, q1, -⟩, hs1, ht1⟩
  have q1 := q1 (by omega)
  obtain ⟨k0, rfl⟩ := Int.eq_ofNat_of_zero_le p1
  have bR1 := bR0.turn ht1 hRB
  have bU1 := bU0.turn ht1 hUB
  have t01 := Turn.both (hw0.turn (S := fun k => k = B)) ht1
  clear bR0 bU0 hw0 ht1
  go_wp2_with fail
  go_loopw [4] (fun s wr => ∃ (k t' m : Nat) (v : Value) (gs : List (Int × Int)), s = .int .i64 (k : Int) ∧ k ≤ 2 ∧ m + k ≤ 2 ∧ (∀ p ∈ gs, pf p.1 p.2 = 0) ∧ t' + 10 * k ≤ t + 30 ∧ wr.ownsRow (w.heap.size + 2) 53 2 v m (cellsP gs) ∧ Blk wr w.heap.size 30 #[.slice none 0 0, .bool false, .int .i64 0, .slice none 0 0, .int .i64 0, .int .i64 0, .int .i64 0, .slice none 0 0] ∧ Blk wr (w.heap.size + 1) 30 #[v, .bool false, .int .i64 0, .slice none 0 0, .int .i64 0, .int .i64 0, .int .i64 0, .slice none 0 0] ∧ Sc wr B a n c zs t' ∧ Turn (fun k => k = B) w wr) (fun s _ => (intOf s).toNat)
  case atStart => exact ⟨k0, _, 0, .slice none 0 0, [], rfl, by omega, by omega, by simp, by omega, ⟨rfl, .inl ⟨rfl, rfl⟩⟩, bR1, bU1, hs1, t01⟩
  case round =>
    clear bR1 bU1 hs1 t01
    obtain ⟨k, t', m, v, gs, rfl, hk, hmk, hok, ht', hown, bR, bU, hsc, htn⟩ := hrel
    have hblk := own_blk hown
    obtain ⟨va, vc, rfl, hvb⟩ := own_slice hown
    have cU := bU.cells
    have fU := bU.frees
    have hal := bU.lt
    have HML : Hid (gs.length = m) := by have := hown.1; rw [cellsP_len] at this; unfold Hid; omega
    by_cases hlt0 : 0 < k
    · have hd0 := hsc.new ((New.refl _).drew)
      go_wp2_with fail
      go_region_law (first
        | (refine step_apR _ rfl (.tmp 14) (.tmp 17) rfl (w.heap.size + 2) Tryd.underlying25 hi hz0 hz1 hz2 (.slice va m vc) m _ rfl (own1.alloc _) ⟨_, 0, none⟩ x l rfl (by simp [Addr.add]) (by simp [Addr.add]) (by omega) (by first | omega | (simp; omega)) ?_; intro v' w4' ho4 hgr4; obtain ⟨g4, c4, rfl⟩ := Joins.ownsRow_form ho4 (by omega); have bU4 := (bU1.alloc (.cells #[.int .i64 x, .int .i64 l] 53)).grow hgr4 (fun e => by have := hblk _ e; omega); have cU4 := bU4.cells; have fU4 := bU4.frees)
        | (go_simp; go_at_call 36; refine (l2Prefix_sc hd0 (by omega)).mono ?_; rintro e v1 ⟨x, l, tc, rfl, hpx, htc, hsA, htA⟩; have bU1 := (bU.new ((New.refl _).drew)).turn htA (by omega); have cU1 := bU1.cells; have cU1a := (bU1.alloc (.cells #[.int .i64 x, .int .i64 l] 53)).cells; have own1 := own_turnQB (own_turnQ hown ((New.refl _).drew)) htA (fun g hg e => by have := hblk g hg; omega); have s1 : wr.heap.size ≤ v1.heap.size := htA.size))
      all_goals
        have tA : Turn (fun k => k = B) wr v1 := Turn.both (((New.refl wr).drew).turn (S := fun k => k = B)) htA
        have hal1 := (New.refl v1).alloc (.cells #[.int .i64 x, .int .i64 l] 53)
        have bR3 := ((bR.turn tA hRB).new hal1).grow hgr4 (fun e => by have := hblk _ e; omega)
        have tg : Turn (fun k => (Value.slice va m vc).ownBlock = some k) (v1.alloc (.cells #[.int .i64 x, .int .i64 l] 53)) w4' := ⟨hgr4.os, hgr4.tape, hgr4.output, hgr4.size, fun k hk hs => hgr4.block k hk (fun e => hs e.symm)⟩
        have sc4 := (hsA.new hal1).turn tg (fun e => by have := hblk _ e; omega) (fun x hz hx e => by have := hA x hz hx; have := hblk _ e; omega)
        have T5 := Turn.here (B := w.heap.size + 1) (j := 0) (Turn.refl _ w4') (.slice (some ⟨g4, 0, none⟩) (m + 1) c4)
        have sc5 := sc4.turn T5 (by omega) (fun x hz hx e => by have := hA x hz hx; omega)
        have bR5 := bR3.turn T5 (by omega)
        have bU5 := bU4.set 0 (.slice (some ⟨g4, 0, none⟩) (m + 1) c4)
        simp only [List.setIfInBounds_toArray, List.set_cons_zero] at bU5
        have ho5 : (w4'.setCell ⟨w.heap.size + 1, 0, none⟩ (.slice (some ⟨g4, 0, none⟩) (m + 1) c4)).ownsRow (w.heap.size + 2) 53 2 (.slice (some ⟨g4, 0, none⟩) (m + 1) c4) (m + 1) (cellsP (gs ++ [(x, l)])) := own_setQ (by rw [cellsP_append]; exact ho4) (by simp; try omega)
        have t5 : Turn (fun k => k = B) w (w4'.setCell ⟨w.heap.size + 1, 0, none⟩ (.slice (some ⟨g4, 0, none⟩) (m + 1) c4)) := Turn.trans (Turn.trans (Turn.both (Turn.both htn tA) (hal1.turn (S := fun k => k = B))) tg (fun i hi e => by have := hblk _ e; omega)) T5 (fun i hi e => by omega)
        have hok5 : ∀ p ∈ gs ++ [(x, l)], pf p.1 p.2 = 0 := by
          intro p hp
          rcases List.mem_append.1 hp with h | h
          · exact hok p h
          · simp at h; subst h; exact hpx
        clear ho4 hgr4 hown bU bR bU1 bU4 bR3 cU fU cU1 cU1a cU4 fU4 own1 hsA htA tA tg sc4 T5 hal1 hd0 hsc htn
        go_wp2
        go_roundw
        case rel => exact ⟨k - 1, _, m + 1, _, gs ++ [(x, l)], by go_num, by omega, by omega, hok5, by omega, ho5, bR5, bU5, sc5, t5⟩
        case measure => simp [intOf]; omega
    · obtain rfl : k = 0 := by omega
      have hQ : OwQ wr (w.heap.size + 2) (.slice va m vc) gs := OwQ.of_own hown HML.out
      clear hown hblk
      go_wp2_with fail
      refine (chance_sc hsc 4 (by omega) (by omega)).mono ?_
      rintro e w2 ⟨r2, rfl, hs2, ht2⟩
      have hQ2 := hQ.turnB' ht2 (fun g hg e => by have := hQ.blk g hg; omega)
      have bR2 := bR.turn ht2 hRB
      have bU2 := bU.turn ht2 hUB
      have t02 := Turn.both htn ht2
      have hgb := hQ2.blk
      clear cU fU hQ bR bU hsc htn ht2 hal
      have cU := bU2.cells
      have fU := bU2.frees
      have hal := bU2.lt
      cases r2 with
      | true =>
        have cR := bR2.cells
        have fR := bR2.frees
        have lR := bR2.lt
        have huf : Hid (uf gs false 0 [] 0 0 0 [] = 0) := uf_gs hok (by rw [HML.out]; omega)
        go_wp2
        refine bodyPost_ret (v := .agg #[.slice va m vc, .bool false, .int .i64 0, .slice none 0 0, .int .i64 0, .int .i64 0, .int .i64 0, .slice none 0 0]) (by simp [results, Tryd.results14, go_sem, cR]) rfl ?_
        refine (fun (hT : Turn (fun k => k = w.heap.size) w2 _) => ⟨gs, [], [], false, 0, 0, 0, 0, _, _, _, _, rfl, huf.out, by rw [HML.out]; omega, by simp, by simp, by omega, (hQ2.turn hT (fun g hg e => by omega)).low (by omega), OwM.nil _ _, OwQ.nil _ _, hs2.turn hT (by omega) (fun x hz hx e => by have := hA x hz hx; omega), Turn.trans t02 hT (fun i hi e => by omega), (by intro b _ e; cases e), (by intro b _ e; cases e), (by intro b e; cases e)⟩) ?_
        exact Turn.here (Turn.here (Turn.here (Turn.here (Turn.here (Turn.here (Turn.here (Turn.here (Turn.refl _ _) _) _) _) _) _) _) _) _
      | false =>
        have b3 := bU2.set 1 (.bool true)
        simp only [List.setIfInBounds_toArray, List.set_cons_zero, List.set_cons_succ] at b3
        have T3 := Turn.here (B := w.heap.size + 1) (j := 1) (Turn.refl _ w2) (.bool true)
        have bR3 := bR2.turn T3 (by omega)
        have hQ3 := hQ2.turn T3 (fun g hg e => by omega)
        have hs3 := hs2.turn T3 (by omega) (fun x hz hx e => by have := hA x hz hx; omega)
        have t03 := Turn.trans t02 T3 (fun i hi e => by omega)
        have sz3 := T3.size
        clear bU2 bR2 hQ2 hs2 t02
        go_wp2_with fail
        refine (l3DrawAttrs_sc hs3 (by omega)).mono ?_
        rintro e w4 ⟨o, nx, md, lc, xs, xa, xc, t4, rfl, haf, hxl, ht4, hM4, hs4, htA4⟩
        have HAF : Hid (af o xs nx md lc = 0) := haf
        have b4 := b3.turn htA4 hUB
        have bR4 := bR3.turn htA4 hRB
        have hQ4 := hQ3.turnB' htA4 (fun g hg e => by have := hQ3.blk g hg; omega)
        have t04 := Turn.both t03 htA4
        have hMb := hM4.blk
        have hM4' := hM4.low (Nat.le_trans hal sz3)
        clear cU fU b3 bR3 hQ3 hs3 t03 T3 haf hM4
        generalize hX : xs.length = xn at *
        have HX : Hid (xs.length = xn) := hX
        clear hX
        have cU := b4.cells
        have fU := b4.frees
        have lU := b4.lt
        have b5 := ((((b4.set 2 (.int .i64 o)).set 3 (.slice xa xn xc)).set 4 (.int .i64 nx)).set 5 (.int .i64 md)).set 6 (.int .i64 lc)
        simp only [List.setIfInBounds_toArray, List.set_cons_zero, List.set_cons_succ] at b5
        have T5 := Turn.here (B := w.heap.size + 1) (j := 6) (Turn.here (j := 5) (Turn.here (j := 4) (Turn.here (j := 3) (Turn.here (j := 2) (Turn.refl _ w4) (.int .i64 o)) (.slice xa xn xc)) (.int .i64 nx)) (.int .i64 md)) (.int .i64 lc)
        have bR5 := bR4.turn T5 (by omega)
        have hQ5 := hQ4.turn T5 (fun g hg e => by omega)
        have hM5 := hM4'.turn T5 (fun g hg e => by omega)
        have hs5 := hs4.turn T5 (by omega) (fun x hz hx e => by have := hA x hz hx; omega)
        have t05 := Turn.trans t04 T5 (fun i hi e => by omega)
        have sz5 := T5.size
        clear b4 bR4 hQ4 hs4 t04 hM4'
        go_wp2_with fail
        refine (next_sc hs5 3 (by omega) (by omega)).mono ?_
        rintro e w6 ⟨r6, rfl, ⟨p6, q6, -⟩, hs6, ht6⟩
        have q6 := q6 (by omega)
        obtain ⟨k6, rfl⟩ := Int.eq_ofNat_of_zero_le p6
        have b6 := b5.turn ht6 hUB
        have bR6 := bR5.turn ht6 hRB
        have hQ6 := hQ5.turnB' ht6 (fun g hg e => by have := hQ5.blk g hg; omega)
        have hM6 := hM5.turnB' ht6 (fun g hg e => by have := hM5.blk g hg; omega)
        have t06 := Turn.both t05 ht6
        have kQ := hQ6.blk
        have kM := hM6.blk
        have l6 := b6.lt
        have lB6 := hs6.blk.lt
        clear cU fU b5 bR5 hQ5 hM5 hs5 t05 T5 ht6 lU
        go_wp2_with fail
        go_loopw [5] (fun s wr => ∃ (k t' rm : Nat) (v : Value) (rs : List (Int × Int)), s = .int .i64 (k : Int) ∧ k ≤ 3 ∧ rm + k ≤ 3 ∧ 1 ≤ rm + k ∧ (∀ p ∈ rs, pf p.1 p.2 = 0) ∧ t' + 10 * k ≤ t + 100 ∧ wr.ownsRow (w6.heap.size) 53 2 v rm (cellsP rs) ∧ Blk wr w.heap.size 30 #[.slice none 0 0, .bool false, .int .i64 0, .slice none 0 0, .int .i64 0, .int .i64 0, .int .i64 0, .slice none 0 0] ∧ Blk wr (w.heap.size + 1) 30 #[.slice va m vc, .bool true, .int .i64 o, .slice xa xn xc, .int .i64 nx, .int .i64 md, .int .i64 lc, v] ∧ Sc wr B a n c zs t' ∧ Turn (fun k => k = B) w wr ∧ OwQ wr (w.heap.size + 2) (.slice va m vc) gs ∧ OwM wr (w.heap.size + 2) (.slice xa xn xc) xs ∧ w6.heap.size ≤ wr.heap.size) (fun s _ => (intOf s).toNat)
        case atStart => exact ⟨1 + k6, _, 0, .slice none 0 0, [], by first | rfl | go_num | simp, by omega, by omega, by omega, by simp, by omega, ⟨rfl, .inl ⟨rfl, rfl⟩⟩, bR6, b6, hs6, t06, hQ6, hM6, Nat.le_refl _⟩
        case round =>
          clear bR6 b6 hs6 t06 hQ6 hM6
          have HG : Hid (∀ p ∈ gs, pf p.1 p.2 = 0) := hok
          clear hok
          obtain ⟨k, t', rm, v, rs, rfl, hk, hmk, hmk1, hok, ht', hown, bR, bU, hsc, htn, hQ, hM, hs66⟩ := hrel
          have hblk := own_blk hown
          obtain ⟨va', vc', rfl, hvb⟩ := own_slice hown
          have cU := bU.cells
          have fU := bU.frees
          have hal := bU.lt
          have HRL : Hid (rs.length = rm) := by have := hown.1; rw [cellsP_len] at this; unfold Hid; omega
          by_cases hlt0 : 0 < k
          · have hd0 := hsc.new ((New.refl _).drew)
            go_wp2_with fail
            go_region_law (first
              | (refine step_apR _ rfl (.tmp 35) (.tmp 38) rfl (w6.heap.size) Tryd.underlying25 hi hz0 hz1 hz2 (.slice va' rm vc') rm _ rfl (own1.alloc _) ⟨_, 0, none⟩ x l rfl (by simp [Addr.add]) (by simp [Addr.add]) (by omega) (by first | omega | (simp; omega)) ?_; intro v' w4' ho4 hgr4; obtain ⟨g4, c4, rfl⟩ := Joins.ownsRow_form ho4 (by omega); have bU4 := (bU1.alloc (.cells #[.int .i64 x, .int .i64 l] 53)).grow hgr4 (fun e => by have := hblk _ e; omega); have cU4 := bU4.cells; have fU4 := bU4.frees)
              | (go_simp; go_at_call 36; refine (l2Prefix_sc hd0 (by omega)).mono ?_; rintro e v1 ⟨x, l, tc, rfl, hpx, htc, hsA, htA⟩; have bU1 := (bU.new ((New.refl _).drew)).turn htA (by omega); have cU1 := bU1.cells; have cU1a := (bU1.alloc (.cells #[.int .i64 x, .int .i64 l] 53)).cells; have own1 := own_turnQB (own_turnQ hown ((New.refl _).drew)) htA (fun g hg e => by have := hblk g hg; omega); have s1 : wr.heap.size ≤ v1.heap.size := htA.size))
            all_goals
              have tA : Turn (fun k => k = B) wr v1 := Turn.both (((New.refl wr).drew).turn (S := fun k => k = B)) htA
              have hal1 := (New.refl v1).alloc (.cells #[.int .i64 x, .int .i64 l] 53)
              have bR3 := ((bR.turn tA hRB).new hal1).grow hgr4 (fun e => by have := hblk _ e; omega)
              have tg : Turn (fun k => (Value.slice va' rm vc').ownBlock = some k) (v1.alloc (.cells #[.int .i64 x, .int .i64 l] 53)) w4' := ⟨hgr4.os, hgr4.tape, hgr4.output, hgr4.size, fun k hk hs => hgr4.block k hk (fun e => hs e.symm)⟩
              have sc4 := (hsA.new hal1).turn tg (fun e => by have := hblk _ e; omega) (fun x hz hx e => by have := hA x hz hx; have := hblk _ e; omega)
              have T5 := Turn.here (B := w.heap.size + 1) (j := 7) (Turn.refl _ w4') (.slice (some ⟨g4, 0, none⟩) (rm + 1) c4)
              have sc5 := sc4.turn T5 (by omega) (fun x hz hx e => by have := hA x hz hx; omega)
              have bR5 := bR3.turn T5 (by omega)
              have bU5 := bU4.set 7 (.slice (some ⟨g4, 0, none⟩) (rm + 1) c4)
              simp only [List.setIfInBounds_toArray, List.set_cons_zero, List.set_cons_succ] at bU5
              have ho5 : (w4'.setCell ⟨w.heap.size + 1, 7, none⟩ (.slice (some ⟨g4, 0, none⟩) (rm + 1) c4)).ownsRow (w6.heap.size) 53 2 (.slice (some ⟨g4, 0, none⟩) (rm + 1) c4) (rm + 1) (cellsP (rs ++ [(x, l)])) := own_setQ (by rw [cellsP_append]; exact ho4) (by simp; try omega)
              have t5 : Turn (fun k => k = B) w (w4'.setCell ⟨w.heap.size + 1, 7, none⟩ (.slice (some ⟨g4, 0, none⟩) (rm + 1) c4)) := Turn.trans (Turn.trans (Turn.both (Turn.both htn tA) (hal1.turn (S := fun k => k = B))) tg (fun i hi e => by have := hblk _ e; omega)) T5 (fun i hi e => by omega)
              have hok5 : ∀ p ∈ rs ++ [(x, l)], pf p.1 p.2 = 0 := by
                intro p hp
                rcases List.mem_append.1 hp with h | h
                · exact hok p h
                · simp at h; subst h; exact hpx
              have hQ5 := ((((hQ.turnB' tA (fun g hg e => by have := kQ g hg; omega)).new hal1).turnB' tg (fun g hg e => by have := kQ g hg; have := hblk _ e; omega))).turn T5 (fun g hg e => by omega)
              have hM5 := ((((hM.turnB' tA (fun g hg e => by have := kM g hg; omega)).new hal1).turnB' tg (fun g hg e => by have := kM g hg; have := hblk _ e; omega))).turn T5 (fun g hg e => by omega)
              have s5 : w6.heap.size ≤ (w4'.setCell ⟨w.heap.size + 1, 7, none⟩ (.slice (some ⟨g4, 0, none⟩) (rm + 1) c4)).heap.size := by have := T5.size; have := tg.size; simp at this; omega
              clear ho4 hgr4 hown bU bR bU1 bU4 bR3 cU fU cU1 cU1a cU4 fU4 own1 hsA htA tA tg sc4 T5 hal1 hd0 hsc htn hQ hM
              go_wp2
              go_roundw
              case rel => exact ⟨k - 1, _, rm + 1, _, rs ++ [(x, l)], by go_num, by omega, by omega, by omega, hok5, by omega, ho5, bR5, bU5, sc5, t5, hQ5, hM5, s5⟩
              case measure => simp [intOf]; omega
          · obtain rfl : k = 0 := by omega
            have hR : OwQ wr w6.heap.size (.slice va' rm vc') rs := OwQ.of_own hown HRL.out
            clear hown
            have cR := bR.cells
            have fR := bR.frees
            have lR := bR.lt
            have huf : Hid (uf gs true o xs nx md lc rs = 0) := uf_true HG.out hok (by rw [HML.out]; omega) (by rw [HRL.out]; omega) (by rw [HRL.out]; omega) HAF.out
            go_wp2
            refine bodyPost_ret (v := .agg #[.slice va m vc, .bool true, .int .i64 o, .slice xa xn xc, .int .i64 nx, .int .i64 md, .int .i64 lc, .slice va' rm vc']) (by simp [results, Tryd.results14, go_sem, cR]) rfl ?_
            refine (fun (hT : Turn (fun k => k = w.heap.size) wr _) => ⟨gs, rs, xs, true, o, nx, md, lc, _, _, _, _, rfl, huf.out, by rw [HML.out]; omega, by rw [HX.out]; omega, by rw [HRL.out]; omega, by omega, (hQ.turn hT (fun g hg e => by omega)).low (by omega), (hM.turn hT (fun g hg e => by omega)).low (by omega), (hR.turn hT (fun g hg e => by omega)).low (by omega), hsc.turn hT (by omega) (fun x hz hx e => by have := hA x hz hx; omega), Turn.trans htn hT (fun i hi e => by omega), (fun b e1 e2 => by have := hgb b e1; have := hMb b e2; omega), (fun b e1 e2 => by have := kQ b e1; have := hR.blk b e2; omega), (fun b e1 e2 => by have := kM b e1; have := hR.blk b e2; omega)⟩) ?_
            exact Turn.here (Turn.here (Turn.here (Turn.here (Turn.here (Turn.here (Turn.here (Turn.here (Turn.refl _ _) _) _) _) _) _) _) _) _

end Go.Proofs.YtohngojiomgoeaaDoor

namespace Go.Proofs.YtohngojiomgoeaaDoor
open Go.RowKit Go.Sort
set_option linter.unusedVariables false

/-- Bytes that were bent: of at most one more, the call's own. -/
def TurnAn2 (B : Nat) (a : Option Addr) (n c : Nat) (zs : List Int) (t m g lo : Nat) (e : Ending) (w' : World) : Prop :=
  ∃ (g' m' cap t' : Nat) (ys : List Int), e = .returned (.slice (some ⟨g', 0, none⟩) m' cap) ∧ m' ≤ m + 1 ∧ t' ≤ t + 10 ∧ w'.ownsRow 0 5 1 (.slice (some ⟨g', 0, none⟩) m' cap) m' (ys.map (Value.int .u8)) ∧ (∀ y ∈ ys, 0 ≤ y ∧ y ≤ 255) ∧ (g' = g ∨ lo ≤ g') ∧ Sc w' B a n c zs t'

theorem OwM.slice' {w : World} {lo : Nat} {v : Value} {L : List Int} (h : OwM w lo v L) : ∃ a c, v = .slice a L.length c := by
  rcases h with ⟨rfl, rfl⟩ | ⟨g, c, rfl, _⟩
  · exact ⟨none, 0, rfl⟩
  · exact ⟨_, c, rfl⟩
theorem OwQ.slice' {w : World} {lo : Nat} {v : Value} {L : List (Int × Int)} (h : OwQ w lo v L) : ∃ a c, v = .slice a L.length c := by
  rcases h with ⟨rfl, rfl⟩ | ⟨g, c, rfl, _⟩
  · exact ⟨none, 0, rfl⟩
  · exact ⟨_, c, rfl⟩
theorem OwQ.psB {w : World} {lo n c : Nat} {a : Option Addr} {L : List (Int × Int)} (h : OwQ w lo (.slice a n c) L) (hb : ∀ p ∈ L, In6 p.1 ∧ In6 p.2) : PsAt w a L := by
  obtain ⟨a', c', e, hp, -⟩ := h.ps hb
  simp only [Value.slice.injEq] at e
  obtain ⟨rfl, -, rfl⟩ := e
  exact hp
theorem OwM.nsB' {w : World} {lo n c : Nat} {a : Option Addr} {L : List Int} (h : OwM w lo (.slice a n c) L) (hb : ∀ z ∈ L, In6 z) : NsAt w a L := by
  obtain ⟨a', c', e, hp, -⟩ := h.ns hb
  simp only [Value.slice.injEq] at e
  obtain ⟨rfl, -, rfl⟩ := e
  exact hp
theorem pf_in {p : Int × Int} (h : pf p.1 p.2 = 0) : In6 p.1 ∧ In6 p.2 := by
  unfold pf at h
  split at h
  · omega
  · rename_i hh
    unfold In6
    omega

theorem own_cut8 {w : World} {g n c : Nat} {ys : List Int} (h : w.ownsRow 0 5 1 (.slice (some ⟨g, 0, none⟩) n c) n (ys.map (Value.int .u8))) (i : Nat) (hi : i ≤ n) : w.ownsRow 0 5 1 (.slice (some ⟨g, 0, none⟩) i c) i ((ys.take i).map (Value.int .u8)) := by
  have hl : ys.length = n := by simpa using h.1
  refine ⟨by simp; omega, ?_⟩
  rcases h.2 with ⟨h', _⟩ | ⟨g', cap', cur, h', r1, r2, r3, r4, r5, r6⟩
  · simp at h'
  · simp only [Value.slice.injEq, Option.some.injEq, Addr.mk.injEq, and_true, true_and] at h'
    obtain ⟨rfl, rfl⟩ := h'
    refine .inr ⟨g, c, cur, rfl, r1, r2, by omega, r4, r5, ?_⟩
    rw [List.map_take, ← r6, List.take_take]
    congr 1
    omega

set_option maxHeartbeats 3200000 in
theorem turn2_sc {B n c t g m cap : Nat} {a : Option Addr} {zs ys : List Int} {w : World} (h : Sc w B a n c zs t) (ht : t ≤ 100000) (ha : ∀ x, zs ≠ [] → a = some x → x.block < g) (ho : w.ownsRow 0 5 1 (.slice (some ⟨g, 0, none⟩) m cap) m (ys.map (Value.int .u8))) (hys : ∀ y ∈ ys, 0 ≤ y ∧ y ≤ 255) (hm : m ≤ 2000) :
    Calls Tryd.prog 15 #[.pointer (some ⟨B, 0, none⟩), .slice (some ⟨g, 0, none⟩) m cap] w fun e w' => TurnAn2 B a n c zs t m g w.heap.size e w' ∧ Turn (fun k => k = B ∨ k = g) w w' := by
  obtain ⟨i0, hi, hz0, hz1, hz2⟩ := info_parts Tryd.infoU8
  have hl : ys.length = m := by simpa using ho.1
  have HL : Hid (ys.length = m) := hl
  have hmc : m ≤ cap := by
    rcases ho.2 with ⟨h', _⟩ | ⟨_, _, _, h', _, _, hle, _⟩
    · simp at h'
    · simp only [Value.slice.injEq, Option.some.injEq, Addr.mk.injEq, and_true, true_and] at h'
      omega
  have hgB : g ≠ B := fun e => h.blk.ne_own ho (by decide) e.symm
  have tw : ∀ {x y : World}, Turn (fun k => k = B) x y → Turn (fun k => k = B ∨ k = g) x y := fun p => p.mono (fun _ _ h => .inl h)
  have TW : Hid (∀ {x y : World}, Turn (fun k => k = B) x y → Turn (fun k => k = B ∨ k = g) x y) := tw
  clear hl tw
  by_cases h0 : m = 0
  · subst h0
    go_enter Tryd.func15, Tryd.ntmps15
    go_wp2
    go_ret
    exact ⟨⟨g, 0, cap, t, ys, rfl, by omega, by omega, ho, hys, .inl rfl, h⟩, Turn.refl _ _⟩
  have hm0 : ((m : Int) == 0) = false := by simp; omega
  go_enter Tryd.func15, Tryd.ntmps15
  go_wp2_with fail
  refine (chance_sc h 3 (by omega) (by omega)).mono ?_
  rintro e w1 ⟨r1, rfl, hs1, ht1⟩
  have ho1 := own_turn ho ht1 hgB
  cases r1 with
  | false =>
    go_wp2
    go_ret
    exact ⟨⟨g, m, cap, _, ys, rfl, by omega, by omega, ho1, hys, .inl rfl, hs1⟩, TW.out ht1⟩
  | true =>
    go_wp2_with fail
    refine (next_sc hs1 (m : Int) (by omega) (by omega)).mono ?_
    rintro e w2 ⟨r2, rfl, hd2, hs2, ht2⟩
    obtain ⟨hr0, hr1, -⟩ := hd2
    have hr1 := hr1 (by omega)
    obtain ⟨i, rfl⟩ := Int.eq_ofNat_of_zero_le hr0
    have ho2 := own_turn ho1 ht2 hgB
    have t12 := Turn.trans ht1 ht2 (fun _ _ h => h)
    clear ht1 ht2 hs1 ho1
    go_wp2_with fail
    refine (next_sc hs2 3 (by omega) (by omega)).mono ?_
    rintro e w3 ⟨r3, rfl, hd3, hs3, ht3⟩
    have ho3 := own_turn ho2 ht3 hgB
    have t13 := Turn.trans t12 ht3 (fun _ _ h => h)
    clear t12 ht3 hs2 ho2
    by_cases e0 : r3 = 0
    · subst e0
      have n0 : ((0 : Int) == 0) = true := rfl
      go_wp2_with fail
      refine (next_sc hs3 256 (by omega) (by omega)).mono ?_
      rintro e w4 ⟨x, rfl, hdx, hs4, ht4⟩
      obtain ⟨p1, p2, -⟩ := hdx
      have p2 := p2 (by omega)
      have ho4 := own_turn ho3 ht4 hgB
      have t14 := Turn.trans t13 ht4 (fun _ _ h => h)
      have hfz := ho4.frozenAt i
      have hst := ho4.stored i (.int .u8 x)
      rw [← List.map_set] at hst
      have hcw : ∃ v, w4.cell? ⟨g, i, none⟩ = some v := by
        rw [ho4.cellAt i (by omega)]
        exact ⟨_, List.getElem?_eq_getElem (by have := ho4.1; omega)⟩
      obtain ⟨v, hv⟩ := hcw
      have tg : Turn (fun k => k = g) w4 (w4.setCell ⟨g, i, none⟩ (.int .u8 x)) := Turn.of_grown hst.2
      have hs5 := hs4.turn tg (fun e => hgB e.symm) (fun y hz' hy e => by have := ha y hz' hy; omega)
      have hys5 : ∀ y ∈ ys.set i x, 0 ≤ y ∧ y ≤ 255 := by intro y hy; rcases List.mem_or_eq_of_mem_set hy with h' | h'; exact hys y h'; subst h'; omega
      have hr5 := hst.1
      have t15 : Turn (fun k => k = B ∨ k = g) w (w4.setCell ⟨g, i, none⟩ (.int .u8 x)) := Turn.trans (TW.out t14) tg (fun i _ e => .inr e)
      clear hst ht4 hs3 t13 ho3 ho4
      go_wp2
      go_ret
      exact ⟨⟨g, m, cap, _, ys.set i x, rfl, by omega, by omega, hr5, hys5, .inl rfl, hs5⟩, t15⟩
    · by_cases e1 : r3 = 1
      · subst e1
        have n0 : ((1 : Int) == 0) = false := rfl
        have n1 : ((1 : Int) == 1) = true := rfl
        have hic : i ≤ cap := by omega
        go_wp2
        go_ret
        exact ⟨⟨g, i, cap, _, ys.take i, rfl, by omega, by omega, own_cut8 ho3 i (by omega), (fun y hy => hys y (List.mem_of_mem_take hy)), .inl rfl, hs3⟩, TW.out t13⟩
      · obtain rfl : r3 = 2 := by obtain ⟨p1, p2, -⟩ := hd3; have p2 := p2 (by omega); omega
        have n0 : ((2 : Int) == 0) = false := rfl
        have n1 : ((2 : Int) == 1) = false := rfl
        have n2 : ((2 : Int) == 2) = true := rfl
        have hbl := Blk.mk w3 w3.heap.size 2 #[.int .i64 0, .int .i64 255] rfl
        have hal := (New.refl w3).alloc (.cells #[.int .i64 0, .int .i64 255] 2)
        go_wp2_with fail
        refine (pick_sc (hs3.new hal) [0, 255] hbl 2 rfl (by omega) (by omega) (by omega)).mono ?_
        rintro e w4 ⟨x, rfl, hx, hs4, ht4⟩
        have hxb : 0 ≤ x ∧ x ≤ 255 := by
          simp only [List.mem_cons, List.not_mem_nil, or_false] at hx
          rcases hx with rfl | rfl <;> omega
        have ho4 := own_turn (own_new ho3 hal) ht4 hgB
        have t14 := Turn.trans (Turn.trans t13 hal.turn (fun _ _ h => h)) ht4 (fun _ _ h => h)
        have hbs4 : BsAt (w4.alloc (.cells #[.int .u8 x] 5)) (some ⟨w4.heap.size, 0, none⟩) [x] := BsAt.of_block (heap_alloc_new _ _) _ rfl (by simp; omega)
        have hA4 := (New.refl w4).alloc (.cells #[.int .u8 x] 5)
        clear hbl hal ht4 hs3 t13 ho3 hx e0 e1
        go_wp2_with (at_builtin; refine wpList_ap _ rfl (.tmp 36) (.tmp 41) rfl 0 Tryd.underlying22 hi hz0 hz1 hz2 (.slice (some ⟨g, 0, none⟩) m cap) m ys rfl (ho4.alloc _) (some ⟨w4.heap.size, 0, none⟩) 1 1 [x] rfl hbs4 rfl (by intro h; cases h) (by omega) (by omega) (Nat.zero_le _) (w4.heap.size + 1) (by simp) ?_)
        intro g5 cap5 w5 ho5 hgr5 hat5
        have tg : Turn (fun k => k = g) (w4.alloc (.cells #[.int .u8 x] 5)) w5 := Turn.of_grown hgr5
        have hs5 := (hs4.new hA4).turn tg (fun e => hgB e.symm) (fun y hz' hy e => by have := ha y hz' hy; omega)
        have hys5 : ∀ y ∈ ys ++ [x], 0 ≤ y ∧ y ≤ 255 := by intro y hy; rcases List.mem_append.1 hy with h' | h'; exact hys y h'; simp at h'; subst h'; exact hxb
        have hr5 : w5.ownsRow 0 5 1 (.slice (some ⟨g5, 0, none⟩) (m + 1) cap5) (m + 1) ((ys ++ [x]).map (Value.int .u8)) := by simpa using ho5
        have sz4 : w.heap.size ≤ w4.heap.size := t14.size
        have hg5 : g5 = g ∨ w.heap.size ≤ g5 := by
          rcases hat5 with h' | h'
          · left; simp [Value.ownBlock] at h'; omega
          · right; omega
        have t15 : Turn (fun k => k = B ∨ k = g) w w5 := Turn.trans (Turn.trans (TW.out t14) hA4.turn (fun _ _ h => h)) tg (fun i _ e => .inr e)
        clear ho5 hgr5 hat5 ho4 hbs4
        go_wp2
        go_ret
        exact ⟨⟨g5, m + 1, cap5, _, ys ++ [x], rfl, by omega, by omega, hr5, hys5, hg5, hs5⟩, t15⟩

set_option maxHeartbeats 1600000 in
theorem drawParse_any (a : Option Addr) (n c : Nat) (zs : List Int) (w : World) (h : BsAt w a zs) (hn : zs.length = n) (hm : n ≤ 2097152) (ha : ∀ x, zs ≠ [] → a = some x → x.block < w.heap.size) :
    Calls Tryd.prog 5 #[.slice a n c] w fun e w' => ∃ (g m cap : Nat) (ys : List Int), e = .returned (.slice (some ⟨g, 0, none⟩) m cap) ∧ m ≤ 1000 ∧ m ≤ cap ∧ ys.length = m ∧ w.heap.size ≤ g ∧ g < w'.heap.size ∧ BsAt w' (some ⟨g, 0, none⟩) ys ∧ New w w' := by
  have HN : Hid (zs.length = n) := hn
  clear hn
  go_enter Tryd.func5, Tryd.ntmps5
  go_wp2_with fail
  refine (source_any a n c zs _ h HN.out hm ha).mono ?_
  rintro e w1 ⟨B, rfl, hB, hs1, hn1⟩
  have z1 := hn1.size
  have hlB := hs1.blk.lt
  go_wp2_with fail
  refine (l3DrawUpdate_sc hs1 (by omega)).mono ?_
  rintro e w2 ⟨gs, rs, xs, has, o, nx, md, lc, x, y, z, t2, rfl, huf, hg2, hx2, hr2, ht2, hG, hM, hR, hs2, htn2, -, -, -⟩
  have HU : Hid (uf gs has o xs nx md lc rs = 0) := huf
  obtain ⟨ga, gc, ex⟩ := hG.slice'
  obtain ⟨xa, xc, ey⟩ := hM.slice'
  obtain ⟨ra, rc, ez⟩ := hR.slice'
  subst ex
  subst ey
  subst ez
  obtain ⟨h8, h8r, hlg, hlr, hyes, hno⟩ := uf_ok huf
  have bg : ∀ p ∈ gs, In6 p.1 ∧ In6 p.2 := fun p hp => pf_in ((lf_ok hlg).2 p hp)
  have br : ∀ p ∈ rs, In6 p.1 ∧ In6 p.2 := fun p hp => pf_in ((lf_ok hlr).2 p hp)
  have bx : ∀ z ∈ xs, In6 z := by
    intro z hz
    cases has with
    | false =>
      obtain ⟨_, _, hx0, _⟩ := hno rfl
      rw [List.eq_nil_of_length_eq_zero hx0] at hz
      cases hz
    | true =>
      have := (af_ok (hyes rfl).2).2.2 z hz
      unfold In6; omega
  have pg := hG.psB bg
  have pn := hM.nsB' bx
  have pr := hR.psB br
  have w02 : New w w2 := hn1.before htn2 (fun i hi e => by omega)
  generalize hGL : gs.length = gl at *
  generalize hXL : xs.length = xl at *
  generalize hRL : rs.length = rl at *
  have HG : Hid (gs.length = gl) := hGL
  have HX : Hid (xs.length = xl) := hXL
  have HR : Hid (rs.length = rl) := hRL
  clear hGL hXL hRL hlg hlr hyes hno bg br bx huf hG hM hR
  go_wp2_with fail
  refine (l3Pack_any ga xa ra gl gc xl xc rl rc has o nx md lc gs rs xs _ pg pn pr HG.out HX.out HR.out HU.out).mono ?_
  rintro e w3 ⟨g3, cap3, m3, rfl, hm3, ho3, hn3⟩
  have hb3 := upB_bd HU.out
  have hge := RowB.ge ho3
  have hlt3 := RowB.lt ho3
  have s2 := w02.size
  have s12 := htn2.size
  have own3 : w3.ownsRow 0 5 1 (.slice (some ⟨g3, 0, none⟩) m3 cap3) m3 ((upB gs has o xs nx md lc rs).map (Value.int .u8)) := own_base ho3
  have hs3 := hs2.new hn3
  have w03 := w02.trans hn3
  have s3 := w03.size
  clear pg pn pr ho3 hs2 hn3 htn2
  go_wp2_with fail
  refine (turn2_sc hs3 (by omega) (fun x hz hx => by have := ha x hz hx; omega) own3 hb3 (by omega)).mono ?_
  rintro e w4 ⟨⟨g4, m4, cap4, t4, ys4, rfl, hm4, ht4, ho4, hy4, hg4, hs4⟩, htn4⟩
  have w04 : New w w4 := w03.before htn4 (fun i hi e => by omega)
  have s4 := htn4.size
  have hlt4 := (ho4.lt g4 rfl).2
  have hg4' : w.heap.size ≤ g4 := by omega
  go_wp2_with fail
  refine (turn2_sc hs4 (by omega) (fun x hz hx => by have := ha x hz hx; omega) ho4 hy4 (by omega)).mono ?_
  rintro e w5 ⟨⟨g5, m5, cap5, t5, ys5, rfl, hm5, ht5, ho5, hy5, hg5, hs5⟩, htn5⟩
  have w05 : New w w5 := w04.before htn5 (fun i hi e => by omega)
  have hlt5 := (ho5.lt g5 rfl).2
  have hl5 : ys5.length = m5 := by simpa using ho5.1
  have HL5 : Hid (ys5.length = m5) := hl5
  have hc5 : m5 ≤ cap5 := by
    rcases ho5.2 with ⟨h', _⟩ | ⟨_, _, _, h', _, _, hle, _⟩
    · simp at h'
    · simp only [Value.slice.injEq, Option.some.injEq, Addr.mk.injEq, and_true, true_and] at h'
      omega
  have s04 := w04.size
  have hg5' : w.heap.size ≤ g5 := by omega
  clear hl5
  go_wp2
  go_ret
  exact ⟨g5, m5, cap5, ys5, rfl, by omega, hc5, HL5.out, hg5', hlt5, BsAt.of_own ho5 hy5, w05⟩

end Go.Proofs.YtohngojiomgoeaaDoor

namespace Go.Proofs.YtohngojiomgoeaaDoor
open Go.RowKit Go.Sort
set_option linter.unusedVariables false

theorem OwM.own {w : World} {lo n : Nat} {v : Value} {L : List Int} (h : OwM w lo v L) (hn : L.length = n) : w.ownsRow lo 2 1 v n (L.map (Value.int .i64)) := by
  subst hn
  rcases h with ⟨rfl, rfl⟩ | ⟨g, c, rfl, hg, ho⟩
  · exact ⟨rfl, .inl ⟨rfl, rfl⟩⟩
  · refine ⟨ho.1, ?_⟩
    rcases ho.2 with ⟨h', _⟩ | ⟨g', cap', cur, h', r⟩
    · simp at h'
    · simp only [Value.slice.injEq, Option.some.injEq, Addr.mk.injEq, and_true, true_and] at h'
      obtain ⟨rfl, rfl⟩ := h'
      exact .inr ⟨g, c, cur, rfl, hg, r.2⟩

section
variable {P : Program} {t e : TypeId} {i : TypeInfo}
/-- Appending, at a drawn step, onto a list that the call owns. -/
theorem step_apW (w : World) {ops : Array Oper} {o : Oper} {a : Act} {K : Act → World → Prop} {Q : Exit → Act → World → Prop} {E : Prop} (hgd : o.guard = none) (s x : Operand)
    (ho : o.op = .call { callee := .builtin .append, args := #[s, x], argTypes := #[t, t] }) (base : Nat) (zero : Value) (ht : P.underlying t = some (.slice e)) (hi : P.info? e = some i) (hz : i.zero = some zero) (hs : i.size = 1) (hb : i.bytes = 8) (hz1 : zero.cells.size = 1)
    (v : Value) (n : Nat) (xs : List Value) (hsv : a.eval s = v) (hown : w.ownsRow base e 1 v n xs)
    (ad : Addr) (u : Value) (hxv : a.eval x = .slice (some ad) 1 1) (hsrc : w.cell? (ad.add 0) = some u) (hu : u.oneCell' = true)
    (hle : n + 1 ≤ 4194304) (hbase : base ≤ w.heap.size)
    (h : ∀ v' w', w'.ownsRow base e 1 v' (n + 1) (xs ++ [u]) → w.grownBy w' v.ownBlock → (v'.ownBlock = v.ownBlock ∨ v'.ownBlock = some w.heap.size) → K (a.put o.dst v') w') :
    if Region.wanted o (yielded ops a.tmps) = true then Oper.wp P o a w K Q else E := by
  have hw : Region.wanted o (yielded ops a.tmps) = true := by simp [Region.wanted, hgd]
  rw [if_pos hw]
  have hnews : ∀ j y, [u][j]? = some y → w.cell? (ad.add j) = some y := by
    intro j y hy
    match j, hy with
    | 0, hy => simp at hy; subst hy; exact hsrc
  obtain ⟨v', w', hr, h2, h3, _, h5⟩ := run_append_own_at (P := P) w base t o.type e i zero 1 8 ht hi hz hs hb hz1 (by decide) v n xs hown ad 1 1 [u] rfl hnews (by simpa using hu) (by unfold maxLen; omega) (by omega) hbase
  unfold Oper.wp execOp
  simp only [ho, resolve, invoke, builtin, Sem.run_bind, Sem.run_pure, Result.andThen_ok, List.map_toArray, List.map_cons, List.map_nil, hsv, hxv, hr]
  exact h v' w' h2 h3 h5
end

set_option maxRecDepth 100000 in
set_option maxHeartbeats 3200000 in
theorem l3BentAttrs_sc {B n c t : Nat} {a : Option Addr} {zs : List Int} {w : World} (h : Sc w B a n c zs t) (ht : t ≤ 10000) :
    Calls Tryd.prog 24 #[.pointer (some ⟨B, 0, none⟩)] w fun e w' => ∃ (o nx md lc : Int) (xs : List Int) (xa : Option Addr) (xc m t' : Nat), e = .returned (.agg #[.int .i64 o, .slice xa m xc, .int .i64 nx, .int .i64 md, .int .i64 lc]) ∧ xs.length = m ∧ m ≤ 7 ∧ (-1 ≤ o ∧ -1 ≤ nx ∧ -1 ≤ md ∧ -1 ≤ lc) ∧ (o ≤ 65536 ∧ nx ≤ 65536 ∧ md ≤ 65536 ∧ lc ≤ 65536) ∧ (∀ x ∈ xs, -1 ≤ x ∧ x ≤ 65536) ∧ t' ≤ t + 60 ∧ OwM w' w.heap.size (.slice xa m xc) xs ∧ Sc w' B a n c zs t' ∧ Turn (fun k => k = B) w w' := by
  obtain ⟨iN, hi, hz0, hz1, hz2⟩ := info_parts Tryd.infoI64
  have hlt := h.blk.lt
  have hA := h.lt_of
  have hw0 := (New.refl w).alloc (.cells #[.int .i64 0, .slice none 0 0, .int .i64 0, .int .i64 0, .int .i64 0] 28)
  have bR0 := Blk.mk w w.heap.size 28 #[.int .i64 0, .slice none 0 0, .int .i64 0, .int .i64 0, .int .i64 0] rfl
  have hRB : ¬ w.heap.size = B := by omega
  go_enter Tryd.func24, Tryd.ntmps24
  go_wp2_with fail
  refine (l3DrawAttrs_sc (h.new hw0) (by omega)).mono ?_
  rintro e w2 ⟨o, nx, md, lc, xs, xa, xc, t2, rfl, haf, hxl, ht2, hM2, hs2, htn2⟩
  obtain ⟨⟨⟨ho0, ho1⟩, ⟨hx0, hx1⟩, ⟨hm0, hm1⟩, ⟨hl0, hl1⟩⟩, -, hall⟩ := af_ok haf
  have HXS : Hid (∀ x ∈ xs, -1 ≤ x ∧ x ≤ 65536) := fun x hx => by have := hall x hx; omega
  generalize hXe : xs.length = xn at *
  have HX : Hid (xs.length = xn) := hXe
  have hM2' : OwM w2 (w.heap.size + 1) (.slice xa xn xc) xs := hM2.low (by simp)
  have hMb := hM2'.blk
  have bR2 := bR0.turn htn2 hRB
  have t02 := Turn.both (hw0.turn (S := fun k => k = B)) htn2
  have s2 := bR2.lt
  have lB2 := hs2.blk.lt
  clear hXe hall haf hM2 bR0 hw0 htn2
  have hal2 := (New.refl w2).alloc (.cells #[.int .i64 o, .slice xa xn xc, .int .i64 nx, .int .i64 md, .int .i64 lc] 28)
  have bA2 := Blk.mk w2 w2.heap.size 28 #[.int .i64 o, .slice xa xn xc, .int .i64 nx, .int .i64 md, .int .i64 lc] rfl
  go_wp2_with fail
  refine (next_sc (hs2.new hal2) 14 (by omega) (by omega)).mono ?_
  rintro e w4 ⟨r4, rfl, ⟨p4, q4, -⟩, hs4, ht4⟩
  have q4 := q4 (by omega)
  have bA4 := bA2.turn ht4 (by omega)
  have bR4 := (bR2.new hal2).turn ht4 hRB
  have hM4 := (hM2'.new hal2).turnB' ht4 (fun g hg e => by have := hMb g hg; omega)
  have t04 := Turn.both t02 (Turn.both (hal2.turn (S := fun k => k = B)) ht4)
  have s4 : w2.heap.size < w4.heap.size := bA4.lt
  clear bA2 bR2 hM2' t02 hs2 hal2 ht4
  by_cases e0 : r4 = 0
  · subst e0
    have n0 : ((0 : Int) == 0) = true := rfl
    have hal5 := (New.refl w4).alloc (.cells #[.int .i64 (-1), .int .i64 3] 2)
    have hbl5 := Blk.mk w4 w4.heap.size 2 #[.int .i64 (-1), .int .i64 3] rfl
    go_wp2_with fail
    refine (pick_sc (hs4.new hal5) [-1, 3] hbl5 2 rfl (by omega) (by omega) (by omega)).mono ?_
    rintro e w5 ⟨x5, rfl, hx5, hs5, ht5⟩
    have hx5' : -1 ≤ x5 ∧ x5 ≤ 65536 := by
      simp only [List.mem_cons, List.not_mem_nil, or_false] at hx5
      rcases hx5 with rfl | rfl <;> omega
    have bA5 := (bA4.new hal5).turn ht5 (by omega)
    have bR5 := (bR4.new hal5).turn ht5 hRB
    have hM5 := (hM4.new hal5).turnB' ht5 (fun g hg e => by have := hMb g hg; omega)
    have t05 := Turn.both t04 (Turn.both (hal5.turn (S := fun k => k = B)) ht5)
    clear hx5 hbl5 hal5 hs4 ht5 bA4 bR4 hM4 t04
    have cA5 := bA5.cells
    have fA5 := bA5.frees
    have lA5 := bA5.lt
    have T9 := Turn.here (B := w2.heap.size) (j := 0) (Turn.refl _ w5) (.int .i64 x5)
    have bA9 := bA5.set 0 (.int .i64 x5)
    simp only [List.setIfInBounds_toArray, List.set_cons_zero] at bA9
    have bR9 := bR5.turn T9 (by omega)
    have hM9 := hM5.turnB' T9 (fun g hg e => by have := hMb g hg; omega)
    have hs9 := hs5.turn T9 (by omega) (fun x hz hx e => by have := hA x hz hx; omega)
    have t09 := Turn.trans t05 T9 (fun i hi e => by omega)
    clear bA5 bR5 hM5 hs5 t05
    have cA9 := bA9.cells
    have cR9 := bR9.cells
    have fR9 := bR9.frees
    have lR9 := bR9.lt
    go_wp2
    refine bodyPost_ret (v := .agg #[.int .i64 x5, .slice xa xn xc, .int .i64 nx, .int .i64 md, .int .i64 lc]) (by simp [results, Tryd.results24, go_sem, cR9]) rfl ?_
    refine (fun (hT : Turn (fun k => k = w.heap.size) (w5.setCell ⟨w2.heap.size, 0, none⟩ (.int .i64 x5)) _) => ⟨x5, nx, md, lc, xs, _, _, xn, _, rfl, HX.out, by omega, ⟨by omega, by omega, by omega, by omega⟩, ⟨by omega, by omega, by omega, by omega⟩, HXS.out, by omega, (hM9.turn hT (fun g hg e => by omega)).low (by omega), hs9.turn hT (by omega) (fun x hz hx e => by have := hA x hz hx; omega), Turn.trans t09 hT (fun i hi e => by omega)⟩) ?_
    exact Turn.here (Turn.here (Turn.here (Turn.here (Turn.here (Turn.refl _ _) _) _) _) _) _
  by_cases e1 : r4 = 1
  · subst e1
    have n0 : ((1 : Int) == 0) = false := rfl
    have n1 : ((1 : Int) == 1) = true := rfl
    have hal5 := (New.refl w4).alloc (.cells #[.int .i64 (-1), .int .i64 65536] 2)
    have hbl5 := Blk.mk w4 w4.heap.size 2 #[.int .i64 (-1), .int .i64 65536] rfl
    go_wp2_with fail
    refine (pick_sc (hs4.new hal5) [-1, 65536] hbl5 2 rfl (by omega) (by omega) (by omega)).mono ?_
    rintro e w5 ⟨x5, rfl, hx5, hs5, ht5⟩
    have hx5' : -1 ≤ x5 ∧ x5 ≤ 65536 := by
      simp only [List.mem_cons, List.not_mem_nil, or_false] at hx5
      rcases hx5 with rfl | rfl <;> omega
    have bA5 := (bA4.new hal5).turn ht5 (by omega)
    have bR5 := (bR4.new hal5).turn ht5 hRB
    have hM5 := (hM4.new hal5).turnB' ht5 (fun g hg e => by have := hMb g hg; omega)
    have t05 := Turn.both t04 (Turn.both (hal5.turn (S := fun k => k = B)) ht5)
    clear hx5 hbl5 hal5 hs4 ht5 bA4 bR4 hM4 t04
    have cA5 := bA5.cells
    have fA5 := bA5.frees
    have lA5 := bA5.lt
    have T9 := Turn.here (B := w2.heap.size) (j := 2) (Turn.refl _ w5) (.int .i64 x5)
    have bA9 := bA5.set 2 (.int .i64 x5)
    simp only [List.setIfInBounds_toArray, List.set_cons_zero, List.set_cons_succ] at bA9
    have bR9 := bR5.turn T9 (by omega)
    have hM9 := hM5.turnB' T9 (fun g hg e => by have := hMb g hg; omega)
    have hs9 := hs5.turn T9 (by omega) (fun x hz hx e => by have := hA x hz hx; omega)
    have t09 := Turn.trans t05 T9 (fun i hi e => by omega)
    clear bA5 bR5 hM5 hs5 t05
    have cA9 := bA9.cells
    have cR9 := bR9.cells
    have fR9 := bR9.frees
    have lR9 := bR9.lt
    go_wp2
    refine bodyPost_ret (v := .agg #[.int .i64 o, .slice xa xn xc, .int .i64 x5, .int .i64 md, .int .i64 lc]) (by simp [results, Tryd.results24, go_sem, cR9]) rfl ?_
    refine (fun (hT : Turn (fun k => k = w.heap.size) (w5.setCell ⟨w2.heap.size, 2, none⟩ (.int .i64 x5)) _) => ⟨o, x5, md, lc, xs, _, _, xn, _, rfl, HX.out, by omega, ⟨by omega, by omega, by omega, by omega⟩, ⟨by omega, by omega, by omega, by omega⟩, HXS.out, by omega, (hM9.turn hT (fun g hg e => by omega)).low (by omega), hs9.turn hT (by omega) (fun x hz hx e => by have := hA x hz hx; omega), Turn.trans t09 hT (fun i hi e => by omega)⟩) ?_
    exact Turn.here (Turn.here (Turn.here (Turn.here (Turn.here (Turn.refl _ _) _) _) _) _) _
  by_cases e2 : r4 = 2
  · subst e2
    have n0 : ((2 : Int) == 0) = false := rfl
    have n1 : ((2 : Int) == 1) = false := rfl
    have n2 : ((2 : Int) == 2) = true := rfl
    have cA4 := bA4.cells
    have fA4 := bA4.frees
    have lA4 := bA4.lt
    have cA4a := (bA4.alloc (.cells #[.int .i64 0, .int .i64 65536] 2)).cells
    have hsd := hs4.new ((New.refl _).drew)
    have hown := hM4.own HX.out
    have hblk := own_blkN hown
    go_wp2_with fail
    go_region_law (first
      | (refine step_apW _ rfl (.tmp 23) (.tmp 27) rfl (w.heap.size + 1) (.int .i64 0) Tryd.underlying26 hi hz0 hz1 hz2 rfl (.slice xa xn xc) xn _ rfl (own5.alloc _) ⟨_, 0, none⟩ (.int .i64 x5) rfl (by simp [Addr.add]) rfl (by omega) (by first | omega | (simp; omega)) ?_; intro v' w6 ho6 hgr6 hat6; obtain ⟨g6, c6, rfl⟩ := Joins.ownsRow_form ho6 (by omega); have bA6 := (bA5.alloc (.cells #[.int .i64 x5] 2)).grow hgr6 (fun e => by have := hMb _ e; omega); have cA6 := bA6.cells; have fA6 := bA6.frees)
      | (go_simp; go_at_call 39; refine (pick_sc (hs4.new (by first | exact ((New.refl _).drew).alloc (.cells #[.int .i64 0, .int .i64 65536] 2) | exact ((New.refl _).alloc (.cells #[.int .i64 0, .int .i64 65536] 2)).drew)) [0, 65536] (Blk.mk w4.drew w4.heap.size 2 #[.int .i64 0, .int .i64 65536] rfl) 2 rfl (by omega) (by omega) (by omega)).mono ?_; rintro e w5 ⟨x5, rfl, hx5, hs5, ht5⟩; have bA5 := ((bA4.new ((New.refl _).drew)).alloc (.cells #[.int .i64 0, .int .i64 65536] 2)).turn ht5 (by omega); have cA5 := bA5.cells; have cA5a := (bA5.alloc (.cells #[.int .i64 x5] 2)).cells; have own5 := own_turnN ((own_newN hown ((New.refl _).drew)).alloc (.cells #[.int .i64 0, .int .i64 65536] 2)) ht5 (fun g hg e => by have := hMb g hg; omega); have s5 : w4.heap.size ≤ w5.heap.size := (by have := ht5.size; simp at this; omega)))
    all_goals
      have hx5' : -1 ≤ x5 ∧ x5 ≤ 65536 := by
        simp only [List.mem_cons, List.not_mem_nil, or_false] at hx5
        rcases hx5 with rfl | rfl <;> omega
      have hn45 : New w4 (w4.drew.alloc (.cells #[.int .i64 0, .int .i64 65536] 2)) := ((New.refl _).drew).alloc _
      have hal5 := (New.refl w5).alloc (.cells #[.int .i64 x5] 2)
      have bR6 := (((bR4.new hn45).turn ht5 hRB).new hal5).grow hgr6 (fun e => by have := hMb _ e; omega)
      have tg : Turn (fun k => (Value.slice xa xn xc).ownBlock = some k) (w5.alloc (.cells #[.int .i64 x5] 2)) w6 := ⟨hgr6.os, hgr6.tape, hgr6.output, hgr6.size, fun k hk hs => hgr6.block k hk (fun e => hs e.symm)⟩
      have sc6 := (hs5.new hal5).turn tg (fun e => by have := hMb _ e; omega) (fun x hz hx e => by have := hA x hz hx; have := hMb _ e; omega)
      have t06 := Turn.trans (Turn.both t04 (Turn.both (hn45.turn (S := fun k => k = B)) (Turn.both ht5 (hal5.turn (S := fun k => k = B))))) tg (fun i hi e => by have := hMb _ e; omega)
      have T9 := Turn.here (B := w2.heap.size) (j := 1) (Turn.refl _ w6) (.slice (some ⟨g6, 0, none⟩) (xn + 1) c6)
      have bA9 := bA6.set 1 (.slice (some ⟨g6, 0, none⟩) (xn + 1) c6)
      simp only [List.setIfInBounds_toArray, List.set_cons_zero, List.set_cons_succ] at bA9
      have bR9 := bR6.turn T9 (by omega)
      have hbk6 : g6 ≠ w2.heap.size := fun e => by
        have k6 := ho6.lt g6 rfl
        rcases hat6 with h' | h'
        · have := hMb g6 (by rw [← h']; rfl); omega
        · simp [Value.ownBlock] at h'; omega
      have hM9 : OwM (w6.setCell ⟨w2.heap.size, 1, none⟩ (.slice (some ⟨g6, 0, none⟩) (xn + 1) c6)) (w.heap.size + 1) (.slice (some ⟨g6, 0, none⟩) (xn + 1) c6) (xs ++ [x5]) := (OwM.of_own (L := xs ++ [x5]) (by simpa using ho6) (by rw [List.length_append, HX.out]; rfl)).turnB' T9 (fun g hg e => by obtain rfl := Option.some.inj hg; exact hbk6 e)
      have hs9 := sc6.turn T9 (by omega) (fun x hz hx e => by have := hA x hz hx; omega)
      have t09 := Turn.trans t06 T9 (fun i hi e => by omega)
      have hxs9 : ∀ x ∈ xs ++ [x5], -1 ≤ x ∧ x ≤ 65536 := by
        intro x hx
        rcases List.mem_append.1 hx with h | h
        · exact HXS.out x h
        · simp at h; subst h; exact hx5'
      clear ho6 hgr6 hat6 bA6 bR6 cA6 fA6 own5 bA5 cA5 cA5a hs5 ht5 sc6 t06 tg hown hblk hsd
      have cA9 := bA9.cells
      have cR9 := bR9.cells
      have fR9 := bR9.frees
      have lR9 := bR9.lt
      go_wp2
      refine bodyPost_ret (v := .agg #[.int .i64 o, .slice (some ⟨g6, 0, none⟩) (xn + 1) c6, .int .i64 nx, .int .i64 md, .int .i64 lc]) (by simp [results, Tryd.results24, go_sem, cR9]) rfl ?_
      refine (fun (hT : Turn (fun k => k = w.heap.size) (w6.setCell ⟨w2.heap.size, 1, none⟩ (.slice (some ⟨g6, 0, none⟩) (xn + 1) c6)) _) => ⟨o, nx, md, lc, (xs ++ [x5]), _, _, xn + 1, _, rfl, by rw [List.length_append, HX.out]; rfl, by omega, ⟨by omega, by omega, by omega, by omega⟩, ⟨by omega, by omega, by omega, by omega⟩, hxs9, by omega, (hM9.turn hT (fun g hg e => by omega)).low (by omega), hs9.turn hT (by omega) (fun x hz hx e => by have := hA x hz hx; omega), Turn.trans t09 hT (fun i hi e => by omega)⟩) ?_
      exact Turn.here (Turn.here (Turn.here (Turn.here (Turn.here (Turn.refl _ _) _) _) _) _) _
  by_cases e3 : r4 = 3
  · subst e3
    have n0 : ((3 : Int) == 0) = false := rfl
    have n1 : ((3 : Int) == 1) = false := rfl
    have n2 : ((3 : Int) == 2) = false := rfl
    have n3 : ((3 : Int) == 3) = true := rfl
    have cA4 := bA4.cells
    have fA4 := bA4.frees
    have lA4 := bA4.lt
    have cR4 := bR4.cells
    have fR4 := bR4.frees
    have lR4 := bR4.lt
    have T1 := Turn.here (B := w2.heap.size) (j := 1) (Turn.refl _ w4) (.slice (some ⟨w4.heap.size, 0, none⟩) 7 7)
    have TR := Turn.here (B := w.heap.size) (j := 4) (Turn.here (j := 3) (Turn.here (j := 2) (Turn.here (j := 1) (Turn.here (j := 0) (Turn.refl _ (w4.setCell ⟨w2.heap.size, 1, none⟩ (.slice (some ⟨w4.heap.size, 0, none⟩) 7 7))) (.int .i64 o)) (.slice (some ⟨w4.heap.size, 0, none⟩) 7 7)) (.int .i64 nx)) (.int .i64 md)) (.int .i64 lc)
    have bRf := ((((((bR4.turn T1 (by omega)).set 0 (.int .i64 o)).set 1 (.slice (some ⟨w4.heap.size, 0, none⟩) 7 7)).set 2 (.int .i64 nx)).set 3 (.int .i64 md)).set 4 (.int .i64 lc)).alloc (.cells #[.int .i64 1, .int .i64 1, .int .i64 1, .int .i64 1, .int .i64 1, .int .i64 1, .int .i64 1] 2)
    simp only [List.setIfInBounds_toArray, List.set_cons_zero, List.set_cons_succ] at bRf
    have hszW : ((((((w4.setCell ⟨w2.heap.size, 1, none⟩ (.slice (some ⟨w4.heap.size, 0, none⟩) 7 7)).setCell ⟨w.heap.size, 0, none⟩ (.int .i64 o)).setCell ⟨w.heap.size, 1, none⟩ (.slice (some ⟨w4.heap.size, 0, none⟩) 7 7)).setCell ⟨w.heap.size, 2, none⟩ (.int .i64 nx)).setCell ⟨w.heap.size, 3, none⟩ (.int .i64 md)).setCell ⟨w.heap.size, 4, none⟩ (.int .i64 lc)).heap.size = w4.heap.size := by simp [World.setCell]
    have hlit := World.ownsRow_lit (base := w4.heap.size) (size := 1) (e := 2) ((((((w4.setCell ⟨w2.heap.size, 1, none⟩ (.slice (some ⟨w4.heap.size, 0, none⟩) 7 7)).setCell ⟨w.heap.size, 0, none⟩ (.int .i64 o)).setCell ⟨w.heap.size, 1, none⟩ (.slice (some ⟨w4.heap.size, 0, none⟩) 7 7)).setCell ⟨w.heap.size, 2, none⟩ (.int .i64 nx)).setCell ⟨w.heap.size, 3, none⟩ (.int .i64 md)).setCell ⟨w.heap.size, 4, none⟩ (.int .i64 lc)) #[.int .i64 1, .int .i64 1, .int .i64 1, .int .i64 1, .int .i64 1, .int .i64 1, .int .i64 1] 7 (by rw [hszW]; exact Nat.le_refl _) (by decide) rfl
    rw [hszW] at hlit
    have halF := (New.refl ((((((w4.setCell ⟨w2.heap.size, 1, none⟩ (.slice (some ⟨w4.heap.size, 0, none⟩) 7 7)).setCell ⟨w.heap.size, 0, none⟩ (.int .i64 o)).setCell ⟨w.heap.size, 1, none⟩ (.slice (some ⟨w4.heap.size, 0, none⟩) 7 7)).setCell ⟨w.heap.size, 2, none⟩ (.int .i64 nx)).setCell ⟨w.heap.size, 3, none⟩ (.int .i64 md)).setCell ⟨w.heap.size, 4, none⟩ (.int .i64 lc))).alloc (.cells #[.int .i64 1, .int .i64 1, .int .i64 1, .int .i64 1, .int .i64 1, .int .i64 1, .int .i64 1] 2)
    have hs9 := ((hs4.turn T1 (by omega) (fun x hz hx e => by have := hA x hz hx; omega)).turn TR (by omega) (fun x hz hx e => by have := hA x hz hx; omega)).new halF
    have t09 := Turn.both (Turn.trans (Turn.trans t04 T1 (fun i hi e => by omega)) TR (fun i hi e => by omega)) (halF.turn (S := fun k => k = B))
    have hM9 := (OwM.of_own (L := [1, 1, 1, 1, 1, 1, 1]) hlit rfl).low (lo' := w.heap.size) (by omega)
    clear bA4 bR4 hM4 t04 hs4 hlit T1 TR halF hszW
    go_wp2
    have cRf := bRf.cells
    refine bodyPost_ret (v := .agg #[.int .i64 o, .slice (some ⟨w4.heap.size, 0, none⟩) 7 7, .int .i64 nx, .int .i64 md, .int .i64 lc]) (by simp [results, Tryd.results24, go_sem, cRf]) rfl ?_
    exact ⟨o, nx, md, lc, [1, 1, 1, 1, 1, 1, 1], _, _, 7, _, rfl, rfl, by omega, ⟨by omega, by omega, by omega, by omega⟩, ⟨by omega, by omega, by omega, by omega⟩, (by intro x hx; simp at hx; omega), by omega, hM9, hs9, t09⟩
  by_cases e4 : r4 = 4
  · subst e4
    have n0 : ((4 : Int) == 0) = false := rfl
    have n1 : ((4 : Int) == 1) = false := rfl
    have n2 : ((4 : Int) == 2) = false := rfl
    have n3 : ((4 : Int) == 3) = false := rfl
    have n4 : ((4 : Int) == 4) = true := rfl
    have hal5 := (New.refl w4).alloc (.cells #[.int .i64 (-1), .int .i64 65536] 2)
    have hbl5 := Blk.mk w4 w4.heap.size 2 #[.int .i64 (-1), .int .i64 65536] rfl
    go_wp2_with fail
    refine (pick_sc (hs4.new hal5) [-1, 65536] hbl5 2 rfl (by omega) (by omega) (by omega)).mono ?_
    rintro e w5 ⟨x5, rfl, hx5, hs5, ht5⟩
    have hx5' : -1 ≤ x5 ∧ x5 ≤ 65536 := by
      simp only [List.mem_cons, List.not_mem_nil, or_false] at hx5
      rcases hx5 with rfl | rfl <;> omega
    have bA5 := (bA4.new hal5).turn ht5 (by omega)
    have bR5 := (bR4.new hal5).turn ht5 hRB
    have hM5 := (hM4.new hal5).turnB' ht5 (fun g hg e => by have := hMb g hg; omega)
    have t05 := Turn.both t04 (Turn.both (hal5.turn (S := fun k => k = B)) ht5)
    clear hx5 hbl5 hal5 hs4 ht5 bA4 bR4 hM4 t04
    have cA5 := bA5.cells
    have fA5 := bA5.frees
    have lA5 := bA5.lt
    have T9 := Turn.here (B := w2.heap.size) (j := 4) (Turn.refl _ w5) (.int .i64 x5)
    have bA9 := bA5.set 4 (.int .i64 x5)
    simp only [List.setIfInBounds_toArray, List.set_cons_zero, List.set_cons_succ] at bA9
    have bR9 := bR5.turn T9 (by omega)
    have hM9 := hM5.turnB' T9 (fun g hg e => by have := hMb g hg; omega)
    have hs9 := hs5.turn T9 (by omega) (fun x hz hx e => by have := hA x hz hx; omega)
    have t09 := Turn.trans t05 T9 (fun i hi e => by omega)
    clear bA5 bR5 hM5 hs5 t05
    have cA9 := bA9.cells
    have cR9 := bR9.cells
    have fR9 := bR9.frees
    have lR9 := bR9.lt
    go_wp2
    refine bodyPost_ret (v := .agg #[.int .i64 o, .slice xa xn xc, .int .i64 nx, .int .i64 md, .int .i64 x5]) (by simp [results, Tryd.results24, go_sem, cR9]) rfl ?_
    refine (fun (hT : Turn (fun k => k = w.heap.size) (w5.setCell ⟨w2.heap.size, 4, none⟩ (.int .i64 x5)) _) => ⟨o, nx, md, x5, xs, _, _, xn, _, rfl, HX.out, by omega, ⟨by omega, by omega, by omega, by omega⟩, ⟨by omega, by omega, by omega, by omega⟩, HXS.out, by omega, (hM9.turn hT (fun g hg e => by omega)).low (by omega), hs9.turn hT (by omega) (fun x hz hx e => by have := hA x hz hx; omega), Turn.trans t09 hT (fun i hi e => by omega)⟩) ?_
    exact Turn.here (Turn.here (Turn.here (Turn.here (Turn.here (Turn.refl _ _) _) _) _) _) _
  · have n0 : (r4 == 0) = false := by simpa using e0
    have n1 : (r4 == 1) = false := by simpa using e1
    have n2 : (r4 == 2) = false := by simpa using e2
    have n3 : (r4 == 3) = false := by simpa using e3
    have n4 : (r4 == 4) = false := by simpa using e4
    have cA4 := bA4.cells
    have bA9 := bA4
    have bR9 := bR4
    have cA9 := bA9.cells
    have cR9 := bR9.cells
    have fR9 := bR9.frees
    have lR9 := bR9.lt
    go_wp2
    refine bodyPost_ret (v := .agg #[.int .i64 o, .slice xa xn xc, .int .i64 nx, .int .i64 md, .int .i64 lc]) (by simp [results, Tryd.results24, go_sem, cR9]) rfl ?_
    refine (fun (hT : Turn (fun k => k = w.heap.size) w4 _) => ⟨o, nx, md, lc, xs, _, _, xn, _, rfl, HX.out, by omega, ⟨by omega, by omega, by omega, by omega⟩, ⟨by omega, by omega, by omega, by omega⟩, HXS.out, by omega, (hM4.turn hT (fun g hg e => by omega)).low (by omega), hs4.turn hT (by omega) (fun x hz hx e => by have := hA x hz hx; omega), Turn.trans t04 hT (fun i hi e => by omega)⟩) ?_
    exact Turn.here (Turn.here (Turn.here (Turn.here (Turn.here (Turn.refl _ _) _) _) _) _) _

end Go.Proofs.YtohngojiomgoeaaDoor
