/- What is proved here: what the drawing of numbers and of bytes out of a list of bytes answers. -/
import Derived.Test.YtkjhjfdgkinpjaaDoorPackFn
namespace Go.Proofs.YtkjhjfdgkinpjaaDoor
open Go.RowKit

/-- A number that was drawn below m. -/
def Dr (m r : Int) : Prop := 0 ≤ r ∧ (1 ≤ m → r < m) ∧ (m < 1 → r = 0)
theorem Dr.of_mod {x m : Int} (h : ¬ m < 1) : Dr m (x % m) := ⟨Int.emod_nonneg _ (by omega), fun _ => Int.emod_lt_of_pos _ (by omega), fun h' => absurd h' h⟩
theorem wrap_in {x : Int} (h : -1000000000000 ≤ x ∧ x ≤ 1000000000000) : IntKind.i64.wrap x = x := by simp [IntKind.wrap, IntKind.signed, IntKind.bits]; omega
theorem mod_nat (t n : Nat) : (t : Int) % (n : Int) = ((t % n : Nat) : Int) := by omega

set_option maxHeartbeats 1600000 in
theorem next_any (B : Nat) (a : Option Addr) (n c t : Nat) (m : Int) (zs : List Int) (w : World) (hb : Blk w B 55 #[.slice a n c, .int .i64 t]) (h : BsAt w a zs) (hn : zs.length = n) (hm : n ≤ 2097152) (ht : t ≤ 1000000) (hmm : m ≤ 1000000) (hne : ∀ x, zs ≠ [] → a = some x → x.block ≠ B) :
    Calls Tryd.prog 19 #[.pointer (some ⟨B, 0, none⟩), .int .i64 m] w fun e w' => ∃ r : Int, e = .returned (.int .i64 r) ∧ Dr m r ∧
      Blk w' B 55 #[.slice a n c, .int .i64 ((t : Int) + 1)] ∧ Turn (fun k => k = B) w w' := by
  have hb' := hb.set 1 (.int .i64 ((t : Int) + 1))
  have htn : Turn (fun k => k = B) w (w.setCell ⟨B, 1, none⟩ (.int .i64 ((t : Int) + 1))) := Turn.set (S := fun k => k = B) (Turn.refl _ _) rfl _
  have cB := hb.cells
  have fB := hb.frees
  by_cases h1 : m < 1
  · go_enter Tryd.func19, Tryd.ntmps19
    go_wp2
    go_ret
    exact ⟨0, rfl, ⟨by omega, by omega, fun _ => rfl⟩, hb', htn⟩
  by_cases h0 : n = 0
  · subst h0
    have HD : Hid (Dr m ((t : Int) * 7 % m)) := Dr.of_mod h1
    go_enter Tryd.func19, Tryd.ntmps19
    go_wp2
    go_ret
    exact ⟨_, rfl, HD.out, hb', htn⟩
  · obtain ⟨i, hi⟩ : ∃ i : Nat, i = t % n := ⟨_, rfl⟩
    obtain ⟨q, hq⟩ : ∃ q : Nat, q = t / n := ⟨_, rfl⟩
    have hmod : (t : Int) % (n : Int) = (i : Int) := by rw [mod_nat, hi]
    have hdiv : (t : Int) / (n : Int) = (q : Int) := by rw [hq]; omega
    have hlt : i < n := by rw [hi]; exact Nat.mod_lt t (show n > 0 by omega)
    have hdl : q ≤ t := by rw [hq]; exact Nat.div_le_self t n
    have hdv : (t : Int).tdiv (n : Int) = (q : Int) := by rw [Int.tdiv_eq_ediv_of_nonneg (by omega)]; exact hdiv
    obtain ⟨b, off, z, rfl, hz, hc, hz0, hz1⟩ := h.at i (by omega)
    have hne0 : ((n : Int) == 0) = false := by simp; omega
    have hbs := BsAt.turnZ (S := fun k => k = B) h htn hne
    have hbB : ¬ b = B := hne _ (by rintro rfl; simp at hz) rfl
    have hcw : (w.setCell ⟨B, 1, none⟩ (.int .i64 ((t : Int) + 1))).cell? ⟨b, off + i, none⟩ = some (.int .u8 z) := by
      obtain ⟨b', off', e', h1', _⟩ := hbs i z hz
      simp only [Option.some.injEq, Addr.mk.injEq, and_true] at e'
      obtain ⟨rfl, rfl⟩ := e'
      exact h1'
    have hmv : (t : Int).tmod (n : Int) = (i : Int) := by rw [Int.tmod_eq_emod_of_nonneg (by omega)]; exact hmod
    have hw0 : IntKind.i64.wrap z = z := wrap_in (by omega)
    have hw1 : IntKind.i64.wrap ((q : Int) * 37) = (q : Int) * 37 := wrap_in (by omega)
    have hw2 : IntKind.i64.wrap (z + (q : Int) * 37) = z + (q : Int) * 37 := wrap_in (by omega)
    have hw3 : IntKind.i64.wrap (i : Int) = (i : Int) := wrap_in (by omega)
    have hw4 : IntKind.i64.wrap (q : Int) = (q : Int) := wrap_in (by omega)
    clear hi hq
    by_cases hm2 : 200 < m
    · obtain ⟨i2, hi2⟩ : ∃ i2 : Nat, i2 = (t + 1) % n := ⟨_, rfl⟩
      have hmod2 : ((t : Int) + 1) % (n : Int) = (i2 : Int) := by rw [hi2, ← mod_nat]; simp
      have hmv2 : ((t : Int) + 1).tmod (n : Int) = (i2 : Int) := by rw [Int.tmod_eq_emod_of_nonneg (by omega)]; exact hmod2
      have hlt2 : i2 < n := by rw [hi2]; exact Nat.mod_lt _ (show n > 0 by omega)
      obtain ⟨b2, off2, z2, e2, hz2, hc2, hz20, hz21⟩ := hbs.at i2 (by omega)
      simp only [Option.some.injEq, Addr.mk.injEq, and_true] at e2
      obtain ⟨rfl, rfl⟩ := e2
      have HD : Hid (Dr m (((z + (q : Int) * 37) * 251 + z2 * 13 + t) % m)) := Dr.of_mod h1
      have hv0 : 0 ≤ z + (q : Int) * 37 := by omega
      have hv1 : z + (q : Int) * 37 ≤ 100000000 := by omega
      have hu0 : IntKind.i64.wrap z2 = z2 := wrap_in (by omega)
      have hu1 : IntKind.i64.wrap ((t : Int) + 1) = (t : Int) + 1 := wrap_in (by omega)
      have hu2 : IntKind.i64.wrap (i2 : Int) = (i2 : Int) := wrap_in (by omega)
      have hu3 : IntKind.i64.wrap ((z + (q : Int) * 37) * 251) = (z + (q : Int) * 37) * 251 := wrap_in (by omega)
      have hu4 : IntKind.i64.wrap (z2 * 13) = z2 * 13 := wrap_in (by omega)
      have hu5 : IntKind.i64.wrap ((z + (q : Int) * 37) * 251 + z2 * 13) = (z + (q : Int) * 37) * 251 + z2 * 13 := wrap_in (by omega)
      have hu6 : IntKind.i64.wrap ((z + (q : Int) * 37) * 251 + z2 * 13 + t) = (z + (q : Int) * 37) * 251 + z2 * 13 + t := wrap_in (by omega)
      clear hi2
      go_enter Tryd.func19, Tryd.ntmps19
      go_wp2
      go_quiet (fail)
      go_wp2
      go_quiet (fail)
      go_wp2
      go_ret
      exact ⟨_, rfl, HD.out, hb', htn.os, htn.tape, htn.output, htn.size, htn.block⟩
    · have HD : Hid (Dr m ((z + (q : Int) * 37) % m)) := Dr.of_mod h1
      go_enter Tryd.func19, Tryd.ntmps19
      go_wp2
      go_quiet (fail)
      go_wp2
      go_ret
      exact ⟨_, rfl, HD.out, hb', htn.os, htn.tape, htn.output, htn.size, htn.block⟩

/-- A source of numbers: its bytes, how many have been drawn. -/
structure Sc (w : World) (B : Nat) (a : Option Addr) (n c : Nat) (zs : List Int) (t : Nat) : Prop where
  blk : Blk w B 55 #[.slice a n c, .int .i64 t]
  bs : BsAt w a zs
  len : zs.length = n
  le : n ≤ 2097152
  ne : ∀ x, zs ≠ [] → a = some x → x.block ≠ B

theorem Sc.turn {w w' : World} {B n c t : Nat} {a : Option Addr} {zs : List Int} {S : Nat → Prop} (h : Sc w B a n c zs t) (k : Turn S w w') (hB : ¬ S B) (hS : ∀ x, zs ≠ [] → a = some x → ¬ S x.block) : Sc w' B a n c zs t :=
  ⟨h.blk.turn k hB, h.bs.turnZ k hS, h.len, h.le, h.ne⟩
theorem Sc.new {w w' : World} {B n c t : Nat} {a : Option Addr} {zs : List Int} (h : Sc w B a n c zs t) (k : New w w') : Sc w' B a n c zs t := h.turn k (fun f => f) (fun _ _ _ f => f)

theorem next_sc {B n c t : Nat} {a : Option Addr} {zs : List Int} {w : World} (h : Sc w B a n c zs t) (m : Int) (ht : t ≤ 1000000) (hm : m ≤ 1000000) :
    Calls Tryd.prog 19 #[.pointer (some ⟨B, 0, none⟩), .int .i64 m] w fun e w' => ∃ r : Int, e = .returned (.int .i64 r) ∧ Dr m r ∧ Sc w' B a n c zs (t + 1) ∧ Turn (fun k => k = B) w w' := by
  refine (next_any B a n c t m zs w h.blk h.bs h.len h.le ht hm h.ne).mono ?_
  rintro e w' ⟨r, rfl, hd, hb, htn⟩
  exact ⟨r, rfl, hd, ⟨hb, h.bs.turnZ htn h.ne, h.len, h.le, h.ne⟩, htn⟩

theorem chance_sc {B n c t : Nat} {a : Option Addr} {zs : List Int} {w : World} (h : Sc w B a n c zs t) (m : Int) (ht : t ≤ 1000000) (hm : m ≤ 1000000) :
    Calls Tryd.prog 22 #[.pointer (some ⟨B, 0, none⟩), .int .i64 m] w fun e w' => ∃ r : Bool, e = .returned (.bool r) ∧ Sc w' B a n c zs (t + 1) ∧ Turn (fun k => k = B) w w' := by
  go_enter Tryd.func22, Tryd.ntmps22
  go_wp2_with fail
  refine (next_sc h m ht hm).mono ?_
  rintro e w1 ⟨r, rfl, hd, hs, htn⟩
  go_wp2
  go_ret
  exact ⟨_, rfl, hs, htn⟩

theorem Blk.other {w : World} {B L : Nat} {t u : TypeId} {cs ds : Array Value} (h : Blk w B t cs) (k : Blk w L u ds) (hne : t ≠ u) : L ≠ B := by
  rintro rfl
  unfold Blk at h k
  rw [h] at k
  simp only [Option.some.injEq, Obj.cells.injEq] at k
  exact hne k.2.1

set_option maxHeartbeats 800000 in
theorem pick_sc {B n c t L : Nat} {a : Option Addr} {zs : List Int} {w : World} (h : Sc w B a n c zs t) (xs : List Int) (hL : Blk w L 2 (xs.map (Value.int .i64)).toArray) (k : Nat) (hk : xs.length = k) (hk0 : 0 < k) (hk1 : k ≤ 1000) (ht : t ≤ 1000000) :
    Calls Tryd.prog 18 #[.pointer (some ⟨B, 0, none⟩), .slice (some ⟨L, 0, none⟩) k k] w fun e w' => ∃ r : Int, e = .returned (.int .i64 r) ∧ r ∈ xs ∧ Sc w' B a n c zs (t + 1) ∧ Turn (fun k => k = B) w w' := by
  have HK : Hid (xs.length = k) := hk
  clear hk
  go_enter Tryd.func18, Tryd.ntmps18
  go_wp2_with fail
  refine (next_sc h (k : Int) ht (by omega)).mono ?_
  rintro e w1 ⟨r, rfl, hd, hs, htn⟩
  obtain ⟨hr0, hr1, -⟩ := hd
  have hr1 := hr1 (by omega)
  obtain ⟨i, rfl⟩ := Int.eq_ofNat_of_zero_le hr0
  have hi : i < k := by omega
  have hL1 := hL.turn htn (h.blk.other hL (by decide))
  have hc : w1.cell? ⟨L, i, none⟩ = some (.int .i64 (xs[i]'(by have := HK.out; omega))) := by
    rw [hL1.cells i]
    simp [show i < xs.length by have := HK.out; omega]
  have hmem : xs[i]'(by have := HK.out; omega) ∈ xs := List.getElem_mem _
  generalize xs[i]'(by have := HK.out; omega) = x at *
  have HM : Hid (x ∈ xs) := hmem
  clear hmem
  go_wp2
  go_ret
  exact ⟨x, rfl, HM.out, hs, htn⟩

theorem source_any (a : Option Addr) (n c : Nat) (zs : List Int) (w : World) (h : BsAt w a zs) (hn : zs.length = n) (hm : n ≤ 2097152) (ha : ∀ x, zs ≠ [] → a = some x → x.block < w.heap.size) :
    Calls Tryd.prog 16 #[.slice a n c] w fun e w' => ∃ B, e = .returned (.pointer (some ⟨B, 0, none⟩)) ∧ w.heap.size ≤ B ∧ Sc w' B a n c zs 0 ∧ New w w' := by
  have hw := (New.refl w).alloc (.cells #[.slice a n c, .int .i64 0] 55)
  go_enter Tryd.func16, Tryd.ntmps16
  go_wp2
  go_ret
  exact ⟨w.heap.size, rfl, Nat.le_refl _, ⟨Blk.mk w w.heap.size _ _ rfl, h.new hw, hn, hm, fun x hz' hx => by have := ha x hz' hx; omega⟩, hw⟩

set_option maxHeartbeats 1600000 in
theorem some_sc {B n c t : Nat} {a : Option Addr} {zs : List Int} {w : World} (h : Sc w B a n c zs t) (k : Nat) (hk : k ≤ 1000) (ht : t ≤ 100000) (ha : ∀ x, zs ≠ [] → a = some x → x.block < w.heap.size) :
    Calls Tryd.prog 20 #[.pointer (some ⟨B, 0, none⟩), .int .i64 k] w fun e w' => ∃ (g cap t' : Nat) (ys : List Int), e = .returned (.slice (some ⟨g, 0, none⟩) k cap) ∧ w.heap.size ≤ g ∧ t' ≤ t + 3 * k ∧
      w'.ownsRow 0 5 1 (.slice (some ⟨g, 0, none⟩) k cap) k (ys.map (Value.int .u8)) ∧ (∀ y ∈ ys, 0 ≤ y ∧ y ≤ 255) ∧ Sc w' B a n c zs t' ∧ Turn (fun k => k = B) w w' := by
  obtain ⟨i0, hi, hz0, hz1, hz2⟩ := info_parts Tryd.infoU8
  have hblt := h.blk.lt
  go_enter Tryd.func20, Tryd.ntmps20
  go_wp2
  go_loopw [1, 5] (fun s o wr => ∃ (j g cap t' : Nat) (ys : List Int), j ≤ k ∧ s = .int .i64 ((k : Int) - j) ∧ o = .slice (some ⟨g, 0, none⟩) j cap ∧ w.heap.size ≤ g ∧ t' ≤ t + 3 * j ∧
      wr.ownsRow 0 5 1 (.slice (some ⟨g, 0, none⟩) j cap) j (ys.map (Value.int .u8)) ∧ (∀ y ∈ ys, 0 ≤ y ∧ y ≤ 255) ∧ Sc wr B a n c zs t' ∧ Turn (fun k => k = B) w wr) (fun s _ _ => (intOf s).toNat)
  case atStart => exact ⟨0, w.heap.size, 0, t, [], Nat.zero_le _, by simp, rfl, Nat.le_refl _, by omega, New.lit (w := w) 0 [] w.heap.size rfl rfl (by omega) #[] rfl, by simp, h.new ((New.refl w).alloc _), New.turn ((New.refl w).alloc _)⟩
  case round =>
    obtain ⟨j, g, cap, t', ys, hj, rfl, rfl, hg, ht', ho, hys, hsc, htn⟩ := hrel
    by_cases hlt : j < k
    · go_wp2_with fail
      refine (next_sc hsc 256 (by omega) (by omega)).mono ?_
      rintro e w1 ⟨r1, rfl, hd1, hs1, ht1⟩
      go_wp2_with fail
      refine (next_sc hs1 8 (by omega) (by omega)).mono ?_
      rintro e w2 ⟨r2, rfl, hd2, hs2, ht2⟩
      go_wp2_with fail
      have hbl := Blk.mk w2 w2.heap.size 2 #[.int .i64 r1, .int .i64 r2, .int .i64 255] rfl
      have hal := (New.refl w2).alloc (.cells #[.int .i64 r1, .int .i64 r2, .int .i64 255] 2)
      refine (pick_sc (hs2.new hal) [r1, r2, 255] hbl 3 rfl (by omega) (by omega) (by omega)).mono ?_
      rintro e w3 ⟨x, rfl, hx, hs3, ht3⟩
      have hxb : 0 ≤ x ∧ x ≤ 255 := by
        obtain ⟨p1, p2, -⟩ := hd1
        obtain ⟨q1, q2, -⟩ := hd2
        have p2 := p2 (by omega)
        have q2 := q2 (by omega)
        simp only [List.mem_cons, List.not_mem_nil, or_false] at hx
        rcases hx with rfl | rfl | rfl <;> omega
      have hB2 : g ≠ B := fun e => hsc.blk.ne_own ho (by decide) e.symm
      have ht13 : Turn (fun k => k = B) wr w3 := Turn.trans (Turn.trans (Turn.trans ht1 ht2 (fun _ _ h => h)) hal.turn (fun _ _ h => h)) ht3 (fun _ _ h => h)
      have ho3 := own_turn ho ht13 hB2
      have hbs3 : BsAt (w3.alloc (.cells #[.int .u8 x] 5)) (some ⟨w3.heap.size, 0, none⟩) [x] := BsAt.of_block (heap_alloc_new _ _) _ rfl (by simp; omega)
      clear hd1 hd2 hs1 hs2 ht1 ht2 hbl hal hx
      go_wp2_with (at_builtin; refine wpList_ap _ rfl (.tmp 11) (.tmp 20) rfl 0 Tryd.underlying22 hi hz0 hz1 hz2 (.slice (some ⟨g, 0, none⟩) j cap) j ys rfl (ho3.alloc _) (some ⟨w3.heap.size, 0, none⟩) 1 1 [x] rfl hbs3 rfl (by intro h; cases h) (by omega) (by omega) (Nat.zero_le _) (w3.heap.size + 1) (by simp) ?_)
      intro g4 cap4 w4 ho4 hgr4 hat4
      have tg : Turn (fun k => k = g) (w3.alloc (.cells #[.int .u8 x] 5)) w4 := Turn.of_grown hgr4
      have hs4 : Sc w4 B a n c zs (t' + 1 + 1 + 1) := (hs3.new ((New.refl _).alloc _)).turn tg (fun e => hB2 e.symm) (fun y hz' hy e => by have := ha y hz' hy; omega)
      have ht4 : Turn (fun k => k = B) w w4 := Turn.trans (Turn.trans (Turn.trans htn ht13 (fun _ _ h => h)) (New.turn ((New.refl _).alloc _)) (fun _ _ h => h)) tg (fun i hi e => by omega)
      have hsz : w.heap.size ≤ w3.heap.size := Nat.le_trans htn.size ht13.size
      have hg4 : w.heap.size ≤ g4 := by
        rcases hat4 with h' | h'
        · simp [Value.ownBlock] at h'; omega
        · omega
      clear hat4 hgr4 ho ho3 hs3 hsc htn ht13 tg ht3 hbs3
      go_wp2
      go_roundw
      case rel => exact ⟨j + 1, g4, cap4, t' + 1 + 1 + 1, ys ++ [x], by omega, by go_num, rfl, hg4, by omega, by simpa using ho4, (by intro y hy; rcases List.mem_append.1 hy with h' | h'; exact hys y h'; simp at h'; subst h'; exact hxb), hs4, ht4⟩
      case measure => simp [intOf]; omega
    · go_wp2
      go_ret
      have hjk : j = k := by omega
      subst hjk
      exact ⟨g, cap, t', ys, rfl, hg, ht', ho, hys, hsc, htn⟩

end Go.Proofs.YtkjhjfdgkinpjaaDoor
