/- What is proved here: what the drawing of numbers and of bytes out of a list of bytes answers. -/
import Derived.Test.YtjampcfikfafkaaGreatPackFn
namespace Go.Proofs.YtjampcfikfafkaaGreat
open Go.RowKit

/-- A number that was drawn below m. -/
def Dr (m r : Int) : Prop := 0 ≤ r ∧ (1 ≤ m → r < m) ∧ (m < 1 → r = 0)
theorem Dr.of_mod {x m : Int} (h : ¬ m < 1) : Dr m (x % m) := ⟨Int.emod_nonneg _ (by omega), fun _ => Int.emod_lt_of_pos _ (by omega), fun h' => absurd h' h⟩
theorem wrap_in {x : Int} (h : -1000000000000 ≤ x ∧ x ≤ 1000000000000) : IntKind.i64.wrap x = x := by simp [IntKind.wrap, IntKind.signed, IntKind.bits]; omega
theorem mod_nat (t n : Nat) : (t : Int) % (n : Int) = ((t % n : Nat) : Int) := by omega

set_option maxHeartbeats 1600000 in
theorem next_any (B : Nat) (a : Option Addr) (n c t : Nat) (m : Int) (zs : List Int) (w : World) (hb : Blk w B 103 #[.slice a n c, .int .i64 t]) (h : BsAt w a zs) (hn : zs.length = n) (hm : n ≤ 2097152) (ht : t ≤ 1000000) (hmm : m ≤ 1000000) (hne : ∀ x, zs ≠ [] → a = some x → x.block ≠ B) :
    Calls Tryz.prog 27 #[.pointer (some ⟨B, 0, none⟩), .int .i64 m] w fun e w' => ∃ r : Int, e = .returned (.int .i64 r) ∧ Dr m r ∧
      Blk w' B 103 #[.slice a n c, .int .i64 ((t : Int) + 1)] ∧ Turn (fun k => k = B) w w' := by
  have hb' := hb.set 1 (.int .i64 ((t : Int) + 1))
  have htn : Turn (fun k => k = B) w (w.setCell ⟨B, 1, none⟩ (.int .i64 ((t : Int) + 1))) := Turn.set (S := fun k => k = B) (Turn.refl _ _) rfl _
  have cB := hb.cells
  have fB := hb.frees
  by_cases h1 : m < 1
  · go_enter Tryz.func27, Tryz.ntmps27
    go_wp2
    go_ret
    exact ⟨0, rfl, ⟨by omega, by omega, fun _ => rfl⟩, hb', htn⟩
  by_cases h0 : n = 0
  · subst h0
    have HD : Hid (Dr m ((t : Int) * 7 % m)) := Dr.of_mod h1
    go_enter Tryz.func27, Tryz.ntmps27
    go_wp2
    go_ret
    exact ⟨_, rfl, HD.out, hb', htn⟩
  · obtain ⟨i, hi⟩ : ∃ i : Nat, i = t % n := ⟨_, rfl⟩
    obtain ⟨q, hq⟩ : ∃ q : Nat, q = t / n := ⟨_, rfl⟩
    have hmod : (t : Int) % (n : Int) = (i : Int) := by rw [mod_nat, hi]
    have hdiv : (t : Int) / (n : Int) = (q : Int) := by rw [hq]; omega
    have hlt : i < n := by rw [hi]; exact Nat.mod_lt t (show n > 0 by omega)
    have hdl : q ≤ t := by rw [hq]; exact Nat.div_le_self t n
    have hdv : (t : Int).tdiv (n : Int) = (q : Int) := by rw [Int.tdiv_eq_ediv_of_nonneg (by omega)]; exact hdiv
    obtain ⟨b, off, z, rfl, hz, hc, hz0, hz1⟩ := h.at i (by omega)
    have hne0 : ((n : Int) == 0) = false := by simp; omega
    have hbs := BsAt.turnZ (S := fun k => k = B) h htn hne
    have hbB : ¬ b = B := hne _ (by rintro rfl; simp at hz) rfl
    have hcw : (w.setCell ⟨B, 1, none⟩ (.int .i64 ((t : Int) + 1))).cell? ⟨b, off + i, none⟩ = some (.int .u8 z) := by
      obtain ⟨b', off', e', h1', _⟩ := hbs i z hz
      simp only [Option.some.injEq, Addr.mk.injEq, and_true] at e'
      obtain ⟨rfl, rfl⟩ := e'
      exact h1'
    have hmv : (t : Int).tmod (n : Int) = (i : Int) := by rw [Int.tmod_eq_emod_of_nonneg (by omega)]; exact hmod
    have hw0 : IntKind.i64.wrap z = z := wrap_in (by omega)
    have hw1 : IntKind.i64.wrap ((q : Int) * 37) = (q : Int) * 37 := wrap_in (by omega)
    have hw2 : IntKind.i64.wrap (z + (q : Int) * 37) = z + (q : Int) * 37 := wrap_in (by omega)
    have hw3 : IntKind.i64.wrap (i : Int) = (i : Int) := wrap_in (by omega)
    have hw4 : IntKind.i64.wrap (q : Int) = (q : Int) := wrap_in (by omega)
    clear hi hq
    by_cases hm2 : 200 < m
    · obtain ⟨i2, hi2⟩ : ∃ i2 : Nat, i2 = (t + 1) % n := ⟨_, rfl⟩
      have hmod2 : ((t : Int) + 1) % (n : Int) = (i2 : Int) := by rw [hi2, ← mod_nat]; simp
      have hmv2 : ((t : Int) + 1).tmod (n : Int) = (i2 : Int) := by rw [Int.tmod_eq_emod_of_nonneg (by omega)]; exact hmod2
      have hlt2 : i2 < n := by rw [hi2]; exact Nat.mod_lt _ (show n > 0 by omega)
      obtain ⟨b2, off2, z2, e2, hz2, hc2, hz20, hz21⟩ := hbs.at i2 (by omega)
      simp only [Option.some.injEq, Addr.mk.injEq, and_true] at e2
      obtain ⟨rfl, rfl⟩ := e2
      have HD : Hid (Dr m (((z + (q : Int) * 37) * 251 + z2 * 13 + t) % m)) := Dr.of_mod h1
      have hv0 : 0 ≤ z + (q : Int) * 37 := by omega
      have hv1 : z + (q : Int) * 37 ≤ 100000000 := by omega
      have hu0 : IntKind.i64.wrap z2 = z2 := wrap_in (by omega)
      have hu1 : IntKind.i64.wrap ((t : Int) + 1) = (t : Int) + 1 := wrap_in (by omega)
      have hu2 : IntKind.i64.wrap (i2 : Int) = (i2 : Int) := wrap_in (by omega)
      have hu3 : IntKind.i64.wrap ((z + (q : Int) * 37) * 251) = (z + (q : Int) * 37) * 251 := wrap_in (by omega)
      have hu4 : IntKind.i64.wrap (z2 * 13) = z2 * 13 := wrap_in (by omega)
      have hu5 : IntKind.i64.wrap ((z + (q : Int) * 37) * 251 + z2 * 13) = (z + (q : Int) * 37) * 251 + z2 * 13 := wrap_in (by omega)
      have hu6 : IntKind.i64.wrap ((z + (q : Int) * 37) * 251 + z2 * 13 + t) = (z + (q : Int) * 37) * 251 + z2 * 13 + t := wrap_in (by omega)
      clear hi2
      go_enter Tryz.func27, Tryz.ntmps27
      go_wp2
      go_quiet (fail)
      go_wp2
      go_quiet (fail)
      go_wp2
      go_ret
      exact ⟨_, rfl, HD.out, hb', htn.os, htn.tape, htn.output, htn.size, htn.block⟩
    · have HD : Hid (Dr m ((z + (q : Int) * 37) % m)) := Dr.of_mod h1
      go_enter Tryz.func27, Tryz.ntmps27
      go_wp2
      go_quiet (fail)
      go_wp2
      go_ret
      exact ⟨_, rfl, HD.out, hb', htn.os, htn.tape, htn.output, htn.size, htn.block⟩

/-- A source of numbers: its bytes, how many have been drawn. -/
structure Sc (w : World) (B : Nat) (a : Option Addr) (n c : Nat) (zs : List Int) (t : Nat) : Prop where
  blk : Blk w B 103 #[.slice a n c, .int .i64 t]
  bs : BsAt w a zs
  len : zs.length = n
  le : n ≤ 2097152
  ne : ∀ x, zs ≠ [] → a = some x → x.block ≠ B

theorem Sc.turn {w w' : World} {B n c t : Nat} {a : Option Addr} {zs : List Int} {S : Nat → Prop} (h : Sc w B a n c zs t) (k : Turn S w w') (hB : ¬ S B) (hS : ∀ x, zs ≠ [] → a = some x → ¬ S x.block) : Sc w' B a n c zs t :=
  ⟨h.blk.turn k hB, h.bs.turnZ k hS, h.len, h.le, h.ne⟩
theorem Sc.new {w w' : World} {B n c t : Nat} {a : Option Addr} {zs : List Int} (h : Sc w B a n c zs t) (k : New w w') : Sc w' B a n c zs t := h.turn k (fun f => f) (fun _ _ _ f => f)

theorem next_sc {B n c t : Nat} {a : Option Addr} {zs : List Int} {w : World} (h : Sc w B a n c zs t) (m : Int) (ht : t ≤ 1000000) (hm : m ≤ 1000000) :
    Calls Tryz.prog 27 #[.pointer (some ⟨B, 0, none⟩), .int .i64 m] w fun e w' => ∃ r : Int, e = .returned (.int .i64 r) ∧ Dr m r ∧ Sc w' B a n c zs (t + 1) ∧ Turn (fun k => k = B) w w' := by
  refine (next_any B a n c t m zs w h.blk h.bs h.len h.le ht hm h.ne).mono ?_
  rintro e w' ⟨r, rfl, hd, hb, htn⟩
  exact ⟨r, rfl, hd, ⟨hb, h.bs.turnZ htn h.ne, h.len, h.le, h.ne⟩, htn⟩

theorem chance_sc {B n c t : Nat} {a : Option Addr} {zs : List Int} {w : World} (h : Sc w B a n c zs t) (m : Int) (ht : t ≤ 1000000) (hm : m ≤ 1000000) :
    Calls Tryz.prog 59 #[.pointer (some ⟨B, 0, none⟩), .int .i64 m] w fun e w' => ∃ r : Bool, e = .returned (.bool r) ∧ Sc w' B a n c zs (t + 1) ∧ Turn (fun k => k = B) w w' := by
  go_enter Tryz.func59, Tryz.ntmps59
  go_wp2_with fail
  refine (next_sc h m ht hm).mono ?_
  rintro e w1 ⟨r, rfl, hd, hs, htn⟩
  go_wp2
  go_ret
  exact ⟨_, rfl, hs, htn⟩

theorem Blk.other {w : World} {B L : Nat} {t u : TypeId} {cs ds : Array Value} (h : Blk w B t cs) (k : Blk w L u ds) (hne : t ≠ u) : L ≠ B := by
  rintro rfl
  unfold Blk at h k
  rw [h] at k
  simp only [Option.some.injEq, Obj.cells.injEq] at k
  exact hne k.2.1

set_option maxHeartbeats 800000 in
theorem pick_sc {B n c t L : Nat} {a : Option Addr} {zs : List Int} {w : World} (h : Sc w B a n c zs t) (xs : List Int) (hL : Blk w L 2 (xs.map (Value.int .i64)).toArray) (k : Nat) (hk : xs.length = k) (hk0 : 0 < k) (hk1 : k ≤ 1000) (ht : t ≤ 1000000) :
    Calls Tryz.prog 26 #[.pointer (some ⟨B, 0, none⟩), .slice (some ⟨L, 0, none⟩) k k] w fun e w' => ∃ r : Int, e = .returned (.int .i64 r) ∧ r ∈ xs ∧ Sc w' B a n c zs (t + 1) ∧ Turn (fun k => k = B) w w' := by
  have HK : Hid (xs.length = k) := hk
  clear hk
  go_enter Tryz.func26, Tryz.ntmps26
  go_wp2_with fail
  refine (next_sc h (k : Int) ht (by omega)).mono ?_
  rintro e w1 ⟨r, rfl, hd, hs, htn⟩
  obtain ⟨hr0, hr1, -⟩ := hd
  have hr1 := hr1 (by omega)
  obtain ⟨i, rfl⟩ := Int.eq_ofNat_of_zero_le hr0
  have hi : i < k := by omega
  have hL1 := hL.turn htn (h.blk.other hL (by decide))
  have hc : w1.cell? ⟨L, i, none⟩ = some (.int .i64 (xs[i]'(by have := HK.out; omega))) := by
    rw [hL1.cells i]
    simp [show i < xs.length by have := HK.out; omega]
  have hmem : xs[i]'(by have := HK.out; omega) ∈ xs := List.getElem_mem _
  generalize xs[i]'(by have := HK.out; omega) = x at *
  have HM : Hid (x ∈ xs) := hmem
  clear hmem
  go_wp2
  go_ret
  exact ⟨x, rfl, HM.out, hs, htn⟩

theorem source_any (a : Option Addr) (n c : Nat) (zs : List Int) (w : World) (h : BsAt w a zs) (hn : zs.length = n) (hm : n ≤ 2097152) (ha : ∀ x, zs ≠ [] → a = some x → x.block < w.heap.size) :
    Calls Tryz.prog 23 #[.slice a n c] w fun e w' => ∃ B, e = .returned (.pointer (some ⟨B, 0, none⟩)) ∧ w.heap.size ≤ B ∧ Sc w' B a n c zs 0 ∧ New w w' := by
  have hw := (New.refl w).alloc (.cells #[.slice a n c, .int .i64 0] 103)
  go_enter Tryz.func23, Tryz.ntmps23
  go_wp2
  go_ret
  exact ⟨w.heap.size, rfl, Nat.le_refl _, ⟨Blk.mk w w.heap.size _ _ rfl, h.new hw, hn, hm, fun x hz' hx => by have := ha x hz' hx; omega⟩, hw⟩

end Go.Proofs.YtjampcfikfafkaaGreat
