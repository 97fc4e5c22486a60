/- What is proved here: lists of numbers: how they come in, what copying, comparing, counting, marking them and looking for marks answer, for lists of at most 1048576 numbers. -/
import Derived.Test.YtpbmbnckdmjdhaaOpen
namespace Go.Proofs.Ytpbmbnckdmjdhaa
open Go.ChangeShapes Go.WideShapes Go.ChangeAt Go.RowKit Go.Deep
set_option linter.unusedVariables false

/-- A whole number that an int64 holds. -/
def In6 (x : Int) : Prop := -9223372036854775808 ≤ x ∧ x ≤ 9223372036854775807

theorem in6_of_wf {x : Int} (h : (Lit.int .i64 x).wf = true) : In6 x := by simpa [In6, Lit.wf, IntKind.min, IntKind.max, IntKind.signed, IntKind.bits] using h

/-- The address leads to the numbers xs. -/
def NsAt (w : World) (a : Option Addr) (xs : List Int) : Prop :=
  ∀ i z, xs[i]? = some z → ∃ b off, a = some ⟨b, off, none⟩ ∧ w.cell? ⟨b, off + i, none⟩ = some (.int .i64 z) ∧ In6 z

theorem NsAt.nil (w : World) (a : Option Addr) : NsAt w a [] := by intro i z h; simp at h

theorem NsAt.at {w : World} {a : Option Addr} {xs : List Int} (h : NsAt w a xs) (i : Nat) (hi : i < xs.length) :
    ∃ b off z, a = some ⟨b, off, none⟩ ∧ xs[i]? = some z ∧ w.cell? ⟨b, off + i, none⟩ = some (.int .i64 z) ∧ In6 z := by
  obtain ⟨b, off, h1, h2, h3⟩ := h i _ (List.getElem?_eq_getElem hi)
  exact ⟨b, off, _, h1, List.getElem?_eq_getElem hi, h2, h3⟩

theorem NsAt.bd {w : World} {a : Option Addr} {xs : List Int} (h : NsAt w a xs) : ∀ z ∈ xs, In6 z := by
  intro z hz
  obtain ⟨i, hi, rfl⟩ := List.mem_iff_getElem.1 hz
  obtain ⟨_, _, _, _, h4⟩ := h i _ (List.getElem?_eq_getElem hi)
  exact h4

theorem NsAt.turn {w w' : World} {a : Option Addr} {xs : List Int} {S : Nat → Prop} (h : NsAt w a xs) (t : Turn S w w') (hS : ∀ x, xs ≠ [] → a = some x → ¬ S x.block) : NsAt w' a xs := by
  intro i z hz
  obtain ⟨b, off, ha, hc, hb⟩ := h i z hz
  exact ⟨b, off, ha, (World.cell?_of_block (t.block b (World.block_lt_of_cell? w _ hc) (hS _ (by rintro rfl; simp at hz) ha))).trans hc, hb⟩

theorem NsAt.new {w w' : World} {a : Option Addr} {xs : List Int} (h : NsAt w a xs) (t : New w w') : NsAt w' a xs := h.turn t (fun _ _ _ f => f)

/-- The block g is a row of numbers that a call has made. -/
def OwN (w : World) (g n c : Nat) (xs : List Int) : Prop := w.ownsRow 0 2 1 (.slice (some ⟨g, 0, none⟩) n c) n (xs.map (Value.int .i64))

theorem OwN.len {w : World} {g n c : Nat} {xs : List Int} (h : OwN w g n c xs) : xs.length = n := by simpa using h.1
theorem OwN.lt {w : World} {g n c : Nat} {xs : List Int} (h : OwN w g n c xs) : g < w.heap.size := (World.ownsRow.lt h g rfl).2
theorem OwN.turn {w w' : World} {g n c : Nat} {xs : List Int} {S : Nat → Prop} (h : OwN w g n c xs) (t : Turn S w w') (hS : ¬ S g) : OwN w' g n c xs := own_turn h t hS
theorem OwN.new {w w' : World} {g n c : Nat} {xs : List Int} (h : OwN w g n c xs) (t : New w w') : OwN w' g n c xs := own_new h t
theorem OwN.ns {w : World} {g n c : Nat} {xs : List Int} (h : OwN w g n c xs) (hb : ∀ z ∈ xs, In6 z) : NsAt w (some ⟨g, 0, none⟩) xs := by
  intro i z hz
  have hl := h.len
  have hi : i < xs.length := (List.getElem?_eq_some_iff.1 hz).1
  have hc := World.ownsRow.cellAt h i (by omega)
  refine ⟨g, 0, rfl, ?_, hb z (List.mem_of_getElem? hz)⟩
  rw [Nat.zero_add, hc]
  simp [hz]

theorem New.set_iff {a w : World} {p : Addr} {u : Value} (hp : a.heap.size ≤ p.block) : New a (w.setCell p u) ↔ New a w :=
  ⟨fun h => ⟨h.os, h.tape, h.output, by simpa [World.setCell] using h.size, fun k hk hs => (Below.heap_setCell w p u k (by omega)).symm.trans (h.block k hk hs)⟩, fun h => h.setCell hp u⟩
theorem New.drew_iff {a w : World} : New a w.drew ↔ New a w := ⟨fun h => ⟨h.os, h.tape, h.output, h.size, h.block⟩, fun h => h.drew⟩
theorem OwN.set_iff {w : World} {g n c : Nat} {xs : List Int} {p : Addr} {u : Value} (hp : ¬ p.block = g) : OwN (w.setCell p u) g n c xs ↔ OwN w g n c xs := by
  have hb : (w.setCell p u).heap[g]? = w.heap[g]? := Below.heap_setCell w p u g (fun e => hp e.symm)
  unfold OwN World.ownsRow
  constructor
  · rintro ⟨h1, h2⟩
    refine ⟨h1, ?_⟩
    rcases h2 with h' | ⟨g', cap', cur, h', r⟩
    · exact .inl h'
    · simp only [Value.slice.injEq, Option.some.injEq, Addr.mk.injEq, and_true, true_and] at h'
      obtain ⟨rfl, rfl⟩ := h'
      exact .inr ⟨g, c, cur, rfl, r.1, hb.symm.trans r.2.1, r.2.2⟩
  · rintro ⟨h1, h2⟩
    refine ⟨h1, ?_⟩
    rcases h2 with h' | ⟨g', cap', cur, h', r⟩
    · exact .inl h'
    · simp only [Value.slice.injEq, Option.some.injEq, Addr.mk.injEq, and_true, true_and] at h'
      obtain ⟨rfl, rfl⟩ := h'
      exact .inr ⟨g, c, cur, rfl, r.1, hb.trans r.2.1, r.2.2⟩

theorem Try.infoI64 : (Try.prog.info? 2).map (fun i => (i.zero, i.size, i.bytes)) = some (some (.int .i64 0), 1, 8) := by kernel_rfl

theorem obN (xs : List Int) (k n : Nat) (hn : xs.length = n) (z : Int) (hz : xs[k]? = some z) :
    (((xs.take k).map (Value.int .i64)) ++ List.replicate (n - k) (Value.int .i64 0)).set k (.int .i64 z) = ((xs.take (k + 1)).map (Value.int .i64)) ++ List.replicate (n - (k + 1)) (Value.int .i64 0) := by
  obtain ⟨hk, rfl⟩ := List.getElem?_eq_some_iff.1 hz
  have hl : ((xs.take k).map (Value.int .i64)).length = k := by simp; omega
  rw [List.set_append_right _ _ (by omega), hl, Nat.sub_self, show n - k = (n - (k + 1)) + 1 by omega, List.replicate_succ, List.set_cons_zero, List.take_succ_eq_append_getElem hk]
  simp only [List.map_append, List.map_cons, List.map_nil, List.append_assoc, List.singleton_append]

set_option maxHeartbeats 800000 in
theorem toNs_any (a : Option Addr) (n c : Nat) (xs : List Int) (w : World) (h : NsAt w a xs) (hn : xs.length = n) (hm : n ≤ 1048576) :
    Calls Try.prog 35 #[.slice a n c] w fun e w' => ∃ g, e = .returned (.slice (some ⟨g, 0, none⟩) n n) ∧ w.heap.size ≤ g ∧ OwN w' g n n xs ∧ New w w' := by
  obtain ⟨i0, hi, hz0, hz1, hz2⟩ := info_parts Try.infoI64
  go_enter Try.func35, Try.ntmps35
  go_wp2_with (at_make; refine wpList_make_full _ rfl _ _ 24 rfl w.heap.size 2 i0 (.int .i64 0) 1 Try.underlying24 hi hz0 hz1 _ _ _ _ n rfl rfl rfl rfl ?b2 ?b3 (Nat.le_refl _) ?_)
  case b2 => rw [hz2]; omega
  case b3 => unfold maxLen; omega
  intro w0 hown0 hgrow0
  have hown : w0.ownsRow w.heap.size 2 1 (.slice (some ⟨w.heap.size, 0, none⟩) n n) n (((xs.take 0).map (Value.int .i64)) ++ List.replicate (n - 0) (Value.int .i64 0)) := by
    simpa [Value.cells, toList_madeCells_one] using hown0
  have hnew := New.of_grown hgrow0
  clear hown0 hgrow0
  go_wp2
  go_loopw [4] (fun i wr => ∃ k : Nat, k ≤ n ∧ i = .int .i64 k ∧ New w wr ∧
      wr.ownsRow w.heap.size 2 1 (.slice (some ⟨w.heap.size, 0, none⟩) n n) n (((xs.take k).map (Value.int .i64)) ++ List.replicate (n - k) (Value.int .i64 0))) (fun i _ => n - (intOf i).toNat)
  case atStart => exact ⟨0, Nat.zero_le _, rfl, hnew, hown⟩
  case round =>
    obtain ⟨k, hk, rfl, hnw, how⟩ := hrel
    by_cases hlt : k < n
    · obtain ⟨b, off, z, rfl, hz, hc, -⟩ := (h.new hnw).at k (by omega)
      have hfz := how.frozenAt k
      have hst := how.stored k (.int .i64 z)
      rw [obN xs k n hn z hz] at hst
      have HS := hst.1
      have hw2 : New w (wr.setCell ⟨w.heap.size, k, none⟩ (.int .i64 z)) := hnw.setCell (Nat.le_refl _) _
      have hcw : ∃ v, wr.cell? ⟨w.heap.size, k, none⟩ = some v := by
        rw [how.cellAt k (by omega)]
        exact ⟨_, List.getElem?_eq_getElem (by have := how.1; omega)⟩
      obtain ⟨v, hv⟩ := hcw
      clear hz h hst how
      go_wp2
      go_roundw
      case rel => exact ⟨k + 1, by omega, by go_num, hw2, HS⟩
      case measure => simp [intOf]; omega
    · go_wp2
      go_ret
      refine ⟨_, rfl, Nat.le_refl _, ?_, hnw⟩
      have hkn : k = n := by omega
      subst hkn
      rw [List.take_of_length_le (by omega)] at how
      simpa [OwN] using own_base how

set_option maxHeartbeats 800000 in
theorem eqNs_any (a b : Option Addr) (n c d : Nat) (xs : List Int) (w : World) (ha : NsAt w a xs) (hb : NsAt w b xs) (hn : xs.length = n) (hm : n ≤ 1048576) :
    Calls Try.prog 37 #[.slice a n c, .slice b n d] w fun e w' => e = .returned (.bool true) ∧ New w w' := by
  have hnn : ((n : Int) != (n : Int)) = false := by simp
  go_enter Try.func37, Try.ntmps37
  go_wp2
  go_loopw [5] (fun i wr => ∃ k : Nat, k ≤ n ∧ i = .int .i64 k ∧ New w wr) (fun i _ => n - (intOf i).toNat)
  case atStart => exact ⟨0, Nat.zero_le _, rfl, New.refl _⟩
  case round =>
    obtain ⟨k, hk, rfl, hnw⟩ := hrel
    by_cases hlt : k < n
    · obtain ⟨b1, off1, z, rfl, hz, hc, -⟩ := (ha.new hnw).at k (by omega)
      obtain ⟨b2, off2, z', rfl, hz', hc', -⟩ := (hb.new hnw).at k (by omega)
      obtain rfl : z = z' := Option.some.inj (hz.symm.trans hz')
      clear hz hz' ha hb
      go_wp2
      go_quiet (fail)
      go_wp2
      go_roundw
      case rel => exact ⟨k + 1, by omega, by go_num, hnw.drewN _⟩
      case measure => simp [intOf]; omega
    · go_wp2
      go_ret
      exact ⟨rfl, hnw⟩

theorem szNs_ok (a : Option Addr) (n c l : Nat) (w : World) (hl : l ≤ 1048576) (h : n ≤ l) : Calls Try.prog 60 #[.slice a n c, .int .i64 l] w fun e w' => e = .returned (.int .i64 ((l : Int) - n)) ∧ w' = w := by
  go_enter Try.func60, Try.ntmps60
  go_wp2
  go_ret
  exact ⟨rfl, rfl⟩

theorem szNs_big (a : Option Addr) (n c l : Nat) (w : World) (hl : l ≤ 1048576) (hn : n ≤ maxLen) (h : l < n) : Calls Try.prog 60 #[.slice a n c, .int .i64 l] w fun e w' => e = .returned (.int .i64 (-1)) ∧ w' = w := by
  unfold maxLen at hn
  go_enter Try.func60, Try.ntmps60
  go_wp2
  go_ret
  exact ⟨rfl, rfl⟩

/-- n numbers, marked from s on. -/
def mkN7 (s : Int) (n : Nat) : List Int := (List.range n).map (fun i : Nat => s + i)
theorem mkN7_len (s : Int) (n : Nat) : (mkN7 s n).length = n := by simp [mkN7]
theorem mkN7_succ (s : Int) (n : Nat) : mkN7 s (n + 1) = mkN7 s n ++ [s + n] := by simp [mkN7, List.range_succ]
theorem mkN7_get (s : Int) (n j : Nat) (hj : j < n) : (mkN7 s n)[j]? = some (s + j) := by simp [mkN7, hj]
theorem mkN7_in (s : Int) (n : Nat) (h0 : 0 ≤ s) (h1 : s ≤ 1125899906842624) (h2 : n ≤ 1048576) : ∀ z ∈ mkN7 s n, In6 z := by
  intro z hz
  simp only [mkN7, List.mem_map, List.mem_range] at hz
  obtain ⟨i, hi, rfl⟩ := hz
  unfold In6
  omega
theorem mkN7_ob (xs : List Int) (k : Int) (j n : Nat) (hn : xs.length = n) (hj : j < n) :
    ((mkN7 k j ++ xs.drop j).map (Value.int .i64)).set j (.int .i64 (k + j)) = (mkN7 k (j + 1) ++ xs.drop (j + 1)).map (Value.int .i64) := by
  rw [← List.map_set, List.set_append_right _ _ (by rw [mkN7_len]; omega), mkN7_len, Nat.sub_self, mkN7_succ, List.drop_eq_getElem_cons (by omega), List.set_cons_zero]
  simp

set_option maxHeartbeats 800000 in
theorem markNs7 (g m c : Nat) (xs : List Int) (s : Int) (w : World) (h : OwN w g m c xs) (hm : m ≤ 1048576) (hs0 : 0 ≤ s) (hs1 : s ≤ 1125899906842624) :
    Calls Try.prog 39 #[.slice (some ⟨g, 0, none⟩) m c, .int .i64 s] w fun e w' => e = .returned (.int .i64 (s + (m : Int))) ∧ OwN w' g m c (mkN7 s m) ∧ Turn (fun k => k = g) w w' := by
  have HL : Hid (xs.length = m) := h.len
  go_enter Try.func39, Try.ntmps39
  go_wp2_with fail
  go_loopw [1, 5] (fun t i wr => ∃ k : Nat, k ≤ m ∧ i = .int .i64 k ∧ t = .int .i64 (s + (k : Int)) ∧ OwN wr g m c (mkN7 s k ++ xs.drop k) ∧ Turn (fun q => q = g) w wr) (fun _ i _ => m - (intOf i).toNat)
  case atStart => exact ⟨0, Nat.zero_le _, rfl, by simp, by simpa [mkN7] using h, Turn.refl _ _⟩
  case round =>
    obtain ⟨k, hk, rfl, rfl, ho, ht⟩ := hrel
    by_cases hlt : k < m
    · have hfz := World.ownsRow.frozenAt ho k
      have hst := World.ownsRow.stored ho k (.int .i64 (s + k))
      rw [mkN7_ob xs s k m HL.out hlt] at hst
      obtain ⟨HS, hgr⟩ := hst
      have hcw : ∃ v, wr.cell? ⟨g, k, none⟩ = some v := by
        rw [World.ownsRow.cellAt ho k (by omega)]
        exact ⟨_, List.getElem?_eq_getElem (by have := ho.1; omega)⟩
      obtain ⟨v, hv⟩ := hcw
      clear ho
      go_wp2
      go_roundw
      case rel => exact ⟨k + 1, by omega, by go_num, by go_num, HS, Turn.trans ht (Turn.of_grown (g := g) hgr) (fun i _ e => e)⟩
      case measure => simp [intOf]; omega
    · obtain rfl : k = m := by omega
      go_wp2
      go_ret
      rw [List.drop_of_length_le (by rw [HL.out]; omega), List.append_nil] at ho
      exact ⟨rfl, ho, ht⟩

theorem markNs70 (s : Int) (w : World) : Calls Try.prog 39 #[.slice none 0 0, .int .i64 s] w fun e w' => e = .returned (.int .i64 s) ∧ w' = w := by
  go_enter Try.func39, Try.ntmps39
  go_wp2
  refine wp_loop_rounds 1 ?_
  rw [rounds_succ]
  go_wp2
  go_ret
  exact ⟨rfl, rfl⟩

theorem heldNs7 (a : Option Addr) (n c : Nat) (s : Int) (w : World) (h : NsAt w a (mkN7 s n)) (hm : n ≤ 1048576) (hs0 : 0 ≤ s) (hs1 : s ≤ 1125899906842624) :
    Calls Try.prog 63 #[.slice a n c, .int .i64 s] w fun e w' => e = .returned (.int .i64 (s + (n : Int))) ∧ w' = w := by
  go_enter Try.func63, Try.ntmps63
  go_wp2
  go_loop [1, 5] (fun t i => ∃ k : Nat, k ≤ n ∧ i = .int .i64 k ∧ t = .int .i64 (s + (k : Int))) (fun _ i => n - (intOf i).toNat)
  case atStart => exact ⟨0, Nat.zero_le _, rfl, by simp⟩
  case round =>
    obtain ⟨k, hk, rfl, rfl⟩ := hrel
    by_cases hlt : k < n
    · obtain ⟨b, off, rfl, x0, _⟩ := h k _ (mkN7_get s n k hlt)
      go_wp2
      go_round
      case rel => exact ⟨k + 1, by omega, by go_num, by go_num⟩
      case measure => simp [intOf]; omega
    · obtain rfl : k = n := by omega
      go_wp2
      go_ret
      exact ⟨rfl, rfl⟩

theorem NsAt.of_cells {w : World} {x : Addr} {xs : List Int} (len : Nat) (hcell : ∀ i, i < xs.length → w.cell? (x.add i) = some (.int .i64 (xs.getD i 0))) (hw : ∀ n ∈ xs, (Lit.int .i64 n).wf = true) :
    NsAt w (some x) (xs.take len) := by
  intro i z hz
  rw [List.getElem?_take] at hz
  split at hz
  · obtain ⟨hi, rfl⟩ := List.getElem?_eq_some_iff.1 hz
    have hc := hcell i hi
    obtain ⟨b, off, spot⟩ := x
    have hspot : spot = none := by simpa [Addr.add] using World.cell?_spot (hcell 0 (by omega))
    subst hspot
    rw [Addr.add_lit] at hc
    exact ⟨b, off, rfl, by simpa [List.getD, hi] using hc, in6_of_wf (hw _ (List.getElem_mem hi))⟩
  · cases hz

set_option maxRecDepth 100000 in
theorem open_nums {H : Type} {enc : TypeId × Value → H} {W : World} {base fuel : Nat} {t1 : Nat → Bool} {t2 : Bool} {cs : List Value} {y : DataW H × List MemPlace}
    (hf : DataW.trod enc Try.prog W base t1 t2 fuel 24 cs = some y) : ∃ a n c xs, cs = [.slice a n c] ∧ NsAt W a xs ∧ xs.length = n ∧ n ≤ maxLen := by
  rcases open_ints Try.underlying24 Try.underlying2 (by kernel_rfl) hf with ⟨hcs, _⟩ | ⟨x, l, c, zs, hcs, _, hl, hm, hz, _, hcell, hwz⟩
  · exact ⟨none, 0, 0, [], hcs, NsAt.nil _ _, rfl, Nat.zero_le _⟩
  · have hz' : l ≤ zs.length := by rw [hz]; split <;> omega
    exact ⟨some x, l, c, zs.take l, hcs, NsAt.of_cells l hcell hwz, by rw [List.length_take]; omega, Nat.le_trans hl hm⟩

end Go.Proofs.Ytpbmbnckdmjdhaa
