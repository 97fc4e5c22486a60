/- What is proved here: what the copying, the comparing and the counting of attributes answer, for every list of at most 1048576 numbers. -/
import Derived.Test.YtjampcfikfafkaaGreatAtFn
namespace Go.Proofs.YtjampcfikfafkaaGreat
open Go.RowKit Go.Sort
set_option linter.unusedVariables false

/-- The block g is a row of numbers that a call has made. -/
def OwN (w : World) (g n c : Nat) (xs : List Int) : Prop := w.ownsRow 0 2 1 (.slice (some ⟨g, 0, none⟩) n c) n (xs.map (Value.int .i64))

theorem OwN.len {w : World} {g n c : Nat} {xs : List Int} (h : OwN w g n c xs) : xs.length = n := by simpa using h.1
theorem OwN.lt {w : World} {g n c : Nat} {xs : List Int} (h : OwN w g n c xs) : g < w.heap.size := (World.ownsRow.lt h g rfl).2
theorem OwN.turn {w w' : World} {g n c : Nat} {xs : List Int} {S : Nat → Prop} (h : OwN w g n c xs) (t : Turn S w w') (hS : ¬ S g) : OwN w' g n c xs := own_turn h t hS
theorem OwN.new {w w' : World} {g n c : Nat} {xs : List Int} (h : OwN w g n c xs) (t : New w w') : OwN w' g n c xs := own_new h t
theorem OwN.ns {w : World} {g n c : Nat} {xs : List Int} (h : OwN w g n c xs) (hb : ∀ z ∈ xs, In6 z) : NsAt w (some ⟨g, 0, none⟩) xs := by
  intro i z hz
  have hl := h.len
  have hi : i < xs.length := (List.getElem?_eq_some_iff.1 hz).1
  have hc := World.ownsRow.cellAt h i (by omega)
  refine ⟨g, 0, rfl, ?_, hb z (List.mem_of_getElem? hz)⟩
  rw [Nat.zero_add, hc]
  simp [hz]

theorem New.set_iff {a w : World} {p : Addr} {u : Value} (hp : a.heap.size ≤ p.block) : New a (w.setCell p u) ↔ New a w :=
  ⟨fun h => ⟨h.os, h.tape, h.output, by simpa [World.setCell] using h.size, fun k hk hs => (Below.heap_setCell w p u k (by omega)).symm.trans (h.block k hk hs)⟩, fun h => h.setCell hp u⟩
theorem New.drew_iff {a w : World} : New a w.drew ↔ New a w := ⟨fun h => ⟨h.os, h.tape, h.output, h.size, h.block⟩, fun h => h.drew⟩
theorem OwN.set_iff {w : World} {g n c : Nat} {xs : List Int} {p : Addr} {u : Value} (hp : ¬ p.block = g) : OwN (w.setCell p u) g n c xs ↔ OwN w g n c xs := by
  have hb : (w.setCell p u).heap[g]? = w.heap[g]? := Below.heap_setCell w p u g (fun e => hp e.symm)
  unfold OwN World.ownsRow
  constructor
  · rintro ⟨h1, h2⟩
    refine ⟨h1, ?_⟩
    rcases h2 with h' | ⟨g', cap', cur, h', r⟩
    · exact .inl h'
    · simp only [Value.slice.injEq, Option.some.injEq, Addr.mk.injEq, and_true, true_and] at h'
      obtain ⟨rfl, rfl⟩ := h'
      exact .inr ⟨g, c, cur, rfl, r.1, hb.symm.trans r.2.1, r.2.2⟩
  · rintro ⟨h1, h2⟩
    refine ⟨h1, ?_⟩
    rcases h2 with h' | ⟨g', cap', cur, h', r⟩
    · exact .inl h'
    · simp only [Value.slice.injEq, Option.some.injEq, Addr.mk.injEq, and_true, true_and] at h'
      obtain ⟨rfl, rfl⟩ := h'
      exact .inr ⟨g, c, cur, rfl, r.1, hb.trans r.2.1, r.2.2⟩

theorem Tryz.infoI64 : (Tryz.prog.info? 2).map (fun i => (i.zero, i.size, i.bytes)) = some (some (.int .i64 0), 1, 8) := by kernel_rfl

theorem obN (xs : List Int) (k n : Nat) (hn : xs.length = n) (z : Int) (hz : xs[k]? = some z) :
    (((xs.take k).map (Value.int .i64)) ++ List.replicate (n - k) (Value.int .i64 0)).set k (.int .i64 z) = ((xs.take (k + 1)).map (Value.int .i64)) ++ List.replicate (n - (k + 1)) (Value.int .i64 0) := by
  obtain ⟨hk, rfl⟩ := List.getElem?_eq_some_iff.1 hz
  have hl : ((xs.take k).map (Value.int .i64)).length = k := by simp; omega
  rw [List.set_append_right _ _ (by omega), hl, Nat.sub_self, show n - k = (n - (k + 1)) + 1 by omega, List.replicate_succ, List.set_cons_zero, List.take_succ_eq_append_getElem hk]
  simp only [List.map_append, List.map_cons, List.map_nil, List.append_assoc, List.singleton_append]

set_option maxHeartbeats 800000 in
theorem toNs_any (a : Option Addr) (n c : Nat) (xs : List Int) (w : World) (h : NsAt w a xs) (hn : xs.length = n) (hm : n ≤ 1048576) :
    Calls Tryz.prog 112 #[.slice a n c] w fun e w' => ∃ g, e = .returned (.slice (some ⟨g, 0, none⟩) n n) ∧ w.heap.size ≤ g ∧ OwN w' g n n xs ∧ New w w' := by
  obtain ⟨i0, hi, hz0, hz1, hz2⟩ := info_parts Tryz.infoI64
  go_enter Tryz.func112, Tryz.ntmps112
  go_wp2_with (at_make; refine wpList_make_full _ rfl _ _ 34 rfl w.heap.size 2 i0 (.int .i64 0) 1 Tryz.underlying34 hi hz0 hz1 _ _ _ _ n rfl rfl rfl rfl ?b2 ?b3 (Nat.le_refl _) ?_)
  case b2 => rw [hz2]; omega
  case b3 => unfold maxLen; omega
  intro w0 hown0 hgrow0
  have hown : w0.ownsRow w.heap.size 2 1 (.slice (some ⟨w.heap.size, 0, none⟩) n n) n (((xs.take 0).map (Value.int .i64)) ++ List.replicate (n - 0) (Value.int .i64 0)) := by
    simpa [Value.cells, toList_madeCells_one] using hown0
  have hnew := New.of_grown hgrow0
  clear hown0 hgrow0
  go_wp2
  go_loopw [4] (fun i wr => ∃ k : Nat, k ≤ n ∧ i = .int .i64 k ∧ New w wr ∧
      wr.ownsRow w.heap.size 2 1 (.slice (some ⟨w.heap.size, 0, none⟩) n n) n (((xs.take k).map (Value.int .i64)) ++ List.replicate (n - k) (Value.int .i64 0))) (fun i _ => n - (intOf i).toNat)
  case atStart => exact ⟨0, Nat.zero_le _, rfl, hnew, hown⟩
  case round =>
    obtain ⟨k, hk, rfl, hnw, how⟩ := hrel
    by_cases hlt : k < n
    · obtain ⟨b, off, z, rfl, hz, hc, -⟩ := (h.new hnw).at k (by omega)
      have hfz := how.frozenAt k
      have hst := how.stored k (.int .i64 z)
      rw [obN xs k n hn z hz] at hst
      have HS := hst.1
      have hw2 : New w (wr.setCell ⟨w.heap.size, k, none⟩ (.int .i64 z)) := hnw.setCell (Nat.le_refl _) _
      have hcw : ∃ v, wr.cell? ⟨w.heap.size, k, none⟩ = some v := by
        rw [how.cellAt k (by omega)]
        exact ⟨_, List.getElem?_eq_getElem (by have := how.1; omega)⟩
      obtain ⟨v, hv⟩ := hcw
      clear hz h hst how
      go_wp2
      go_roundw
      case rel => exact ⟨k + 1, by omega, by go_num, hw2, HS⟩
      case measure => simp [intOf]; omega
    · go_wp2
      go_ret
      refine ⟨_, rfl, Nat.le_refl _, ?_, hnw⟩
      have hkn : k = n := by omega
      subst hkn
      rw [List.take_of_length_le (by omega)] at how
      simpa [OwN] using own_base how

set_option maxHeartbeats 800000 in
theorem eqNs_any (a b : Option Addr) (n c d : Nat) (xs : List Int) (w : World) (ha : NsAt w a xs) (hb : NsAt w b xs) (hn : xs.length = n) (hm : n ≤ 1048576) :
    Calls Tryz.prog 113 #[.slice a n c, .slice b n d] w fun e w' => e = .returned (.bool true) ∧ New w w' := by
  have hnn : ((n : Int) != (n : Int)) = false := by simp
  go_enter Tryz.func113, Tryz.ntmps113
  go_wp2
  go_loopw [5] (fun i wr => ∃ k : Nat, k ≤ n ∧ i = .int .i64 k ∧ New w wr) (fun i _ => n - (intOf i).toNat)
  case atStart => exact ⟨0, Nat.zero_le _, rfl, New.refl _⟩
  case round =>
    obtain ⟨k, hk, rfl, hnw⟩ := hrel
    by_cases hlt : k < n
    · obtain ⟨b1, off1, z, rfl, hz, hc, -⟩ := (ha.new hnw).at k (by omega)
      obtain ⟨b2, off2, z', rfl, hz', hc', -⟩ := (hb.new hnw).at k (by omega)
      obtain rfl : z = z' := Option.some.inj (hz.symm.trans hz')
      clear hz hz' ha hb
      go_wp2
      go_quiet (fail)
      go_wp2
      go_roundw
      case rel => exact ⟨k + 1, by omega, by go_num, hnw.drewN _⟩
      case measure => simp [intOf]; omega
    · go_wp2
      go_ret
      exact ⟨rfl, hnw⟩

theorem szNs_ok (a : Option Addr) (n c l : Nat) (w : World) (hl : l ≤ 1048576) (h : n ≤ l) : Calls Tryz.prog 111 #[.slice a n c, .int .i64 l] w fun e w' => e = .returned (.int .i64 ((l : Int) - n)) ∧ w' = w := by
  go_enter Tryz.func111, Tryz.ntmps111
  go_wp2
  go_ret
  exact ⟨rfl, rfl⟩

theorem szNs_big (a : Option Addr) (n c l : Nat) (w : World) (hl : l ≤ 1048576) (hn : n ≤ maxLen) (h : l < n) : Calls Tryz.prog 111 #[.slice a n c, .int .i64 l] w fun e w' => e = .returned (.int .i64 (-1)) ∧ w' = w := by
  unfold maxLen at hn
  go_enter Tryz.func111, Tryz.ntmps111
  go_wp2
  go_ret
  exact ⟨rfl, rfl⟩

theorem szAt_ok (o nx md lc : Int) (a : Option Addr) (n c l : Nat) (w : World) (hl : l ≤ 1048576) (h : n ≤ l) : Calls Tryz.prog 85 #[.agg #[.int .i64 o, .slice a n c, .int .i64 nx, .int .i64 md, .int .i64 lc], .int .i64 l] w fun e w' => e = .returned (.int .i64 ((l : Int) - n)) ∧ New w w' := by
  have hw := (New.refl w).alloc (.cells #[.int .i64 o, .slice a n c, .int .i64 nx, .int .i64 md, .int .i64 lc] 88)
  go_enter Tryz.func85, Tryz.ntmps85
  go_wp2_with fail
  refine (szNs_ok a n c l _ hl h).mono ?_
  rintro e w1 ⟨rfl, rfl⟩
  go_wp2
  go_ret
  exact ⟨rfl, hw⟩

theorem szAt_big (o nx md lc : Int) (a : Option Addr) (n c l : Nat) (w : World) (hl : l ≤ 1048576) (hn : n ≤ maxLen) (h : l < n) : Calls Tryz.prog 85 #[.agg #[.int .i64 o, .slice a n c, .int .i64 nx, .int .i64 md, .int .i64 lc], .int .i64 l] w fun e w' => e = .returned (.int .i64 (-1)) ∧ New w w' := by
  have hw := (New.refl w).alloc (.cells #[.int .i64 o, .slice a n c, .int .i64 nx, .int .i64 md, .int .i64 lc] 88)
  go_enter Tryz.func85, Tryz.ntmps85
  go_wp2_with fail
  refine (szNs_big a n c l _ hl hn h).mono ?_
  rintro e w1 ⟨rfl, rfl⟩
  go_wp2
  go_ret
  exact ⟨rfl, hw⟩

set_option maxHeartbeats 1600000 in
theorem toAt_any (o nx md lc : Int) (a : Option Addr) (n c : Nat) (xs : List Int) (w : World) (h : NsAt w a xs) (hn : xs.length = n) (hm : n ≤ 1048576) :
    Calls Tryz.prog 87 #[.agg #[.int .i64 o, .slice a n c, .int .i64 nx, .int .i64 md, .int .i64 lc]] w fun e w' => ∃ g, e = .returned (.agg #[.int .i64 o, .slice (some ⟨g, 0, none⟩) n n, .int .i64 nx, .int .i64 md, .int .i64 lc]) ∧ w.heap.size ≤ g ∧ OwN w' g n n xs ∧ New w w' := by
  have hw0 := (((New.refl w).alloc (.cells #[.int .i64 o, .slice a n c, .int .i64 nx, .int .i64 md, .int .i64 lc] 88)).alloc (.cells #[.int .i64 0, .slice none 0 0, .int .i64 0, .int .i64 0, .int .i64 0] 36)).alloc (.cells #[.int .i64 o, .slice none 0 0, .int .i64 0, .int .i64 0, .int .i64 0] 36)
  have b0 : Blk (((w.alloc (.cells #[.int .i64 o, .slice a n c, .int .i64 nx, .int .i64 md, .int .i64 lc] 88)).alloc (.cells #[.int .i64 0, .slice none 0 0, .int .i64 0, .int .i64 0, .int .i64 0] 36)).alloc (.cells #[.int .i64 o, .slice none 0 0, .int .i64 0, .int .i64 0, .int .i64 0] 36)) w.heap.size 88 #[.int .i64 o, .slice a n c, .int .i64 nx, .int .i64 md, .int .i64 lc] := ((Blk.mk _ _ _ _ rfl).alloc _).alloc _
  have b1 : Blk (((w.alloc (.cells #[.int .i64 o, .slice a n c, .int .i64 nx, .int .i64 md, .int .i64 lc] 88)).alloc (.cells #[.int .i64 0, .slice none 0 0, .int .i64 0, .int .i64 0, .int .i64 0] 36)).alloc (.cells #[.int .i64 o, .slice none 0 0, .int .i64 0, .int .i64 0, .int .i64 0] 36)) (w.heap.size + 1) 36 #[.int .i64 0, .slice none 0 0, .int .i64 0, .int .i64 0, .int .i64 0] := (Blk.mk _ _ _ _ (by simp)).alloc _
  have b2 : Blk (((w.alloc (.cells #[.int .i64 o, .slice a n c, .int .i64 nx, .int .i64 md, .int .i64 lc] 88)).alloc (.cells #[.int .i64 0, .slice none 0 0, .int .i64 0, .int .i64 0, .int .i64 0] 36)).alloc (.cells #[.int .i64 o, .slice none 0 0, .int .i64 0, .int .i64 0, .int .i64 0] 36)) (w.heap.size + 1 + 1) 36 #[.int .i64 o, .slice none 0 0, .int .i64 0, .int .i64 0, .int .i64 0] := Blk.mk _ _ _ _ (by simp)
  go_enter Tryz.func87, Tryz.ntmps87
  go_wp2_with fail
  refine (toNs_any a n c xs _ (h.new hw0) hn hm).mono ?_
  rintro e w1 ⟨g, rfl, hg, ho, hn1⟩
  have n1 := hw0.trans hn1
  have c0 := (b0.new hn1).cells
  have c1 := (b1.new hn1).cells
  have c2 := (b2.new hn1).cells
  have f1 := (b1.new hn1).frees
  have f2 := (b2.new hn1).frees
  have hg' : w.heap.size + 3 ≤ g := by simpa using hg
  have e1 : ¬ w.heap.size + 1 = g := by omega
  have e2 : ¬ w.heap.size + 1 + 1 = g := by omega
  have ge1 : w.heap.size ≤ w.heap.size + 1 := by omega
  have ge2 : w.heap.size ≤ w.heap.size + 1 + 1 := by omega
  go_wp2
  refine bodyPost_ret (v := .agg #[.int .i64 o, .slice (some ⟨g, 0, none⟩) n n, .int .i64 nx, .int .i64 md, .int .i64 lc]) (by simp [results, Tryz.results87, go_sem, c1]) rfl ⟨g, rfl, by omega, ?_, ?_⟩
  · simp (disch := (first | exact e1 | exact e2)) only [OwN.set_iff, ho]
  · simp (disch := (first | exact ge1 | exact ge2)) only [New.set_iff, n1]

theorem eqAt_any (o nx md lc : Int) (a b : Option Addr) (n c d : Nat) (xs : List Int) (w : World) (ha : NsAt w a xs) (hb : NsAt w b xs) (hn : xs.length = n) (hm : n ≤ 1048576) :
    Calls Tryz.prog 90 #[.agg #[.int .i64 o, .slice a n c, .int .i64 nx, .int .i64 md, .int .i64 lc], .agg #[.int .i64 o, .slice b n d, .int .i64 nx, .int .i64 md, .int .i64 lc]] w fun e w' => e = .returned (.bool true) ∧ New w w' := by
  have hw := ((New.refl w).alloc (.cells #[.int .i64 o, .slice a n c, .int .i64 nx, .int .i64 md, .int .i64 lc] 36)).alloc (.cells #[.int .i64 o, .slice b n d, .int .i64 nx, .int .i64 md, .int .i64 lc] 36)
  have hB : Blk ((w.alloc (.cells #[.int .i64 o, .slice a n c, .int .i64 nx, .int .i64 md, .int .i64 lc] 36)).alloc (.cells #[.int .i64 o, .slice b n d, .int .i64 nx, .int .i64 md, .int .i64 lc] 36)) w.heap.size 36 #[.int .i64 o, .slice a n c, .int .i64 nx, .int .i64 md, .int .i64 lc] := (Blk.mk _ _ _ _ rfl).alloc _
  have hD : Blk ((w.alloc (.cells #[.int .i64 o, .slice a n c, .int .i64 nx, .int .i64 md, .int .i64 lc] 36)).alloc (.cells #[.int .i64 o, .slice b n d, .int .i64 nx, .int .i64 md, .int .i64 lc] 36)) (w.heap.size + 1) 36 #[.int .i64 o, .slice b n d, .int .i64 nx, .int .i64 md, .int .i64 lc] := Blk.mk _ _ _ _ (by simp)
  have z1 : (o != o) = false := by simp
  have z2 : (nx != nx) = false := by simp
  have z3 : (md != md) = false := by simp
  have z4 : (lc != lc) = false := by simp
  go_enter Tryz.func90, Tryz.ntmps90
  go_wp2_with fail
  refine (eqNs_any a b n c d xs _ (ha.new hw) (hb.new hw) hn hm).mono ?_
  rintro e w1 ⟨rfl, hn1⟩
  have cB := (hB.new hn1).cells
  have cD := (hD.new hn1).cells
  go_wp2
  go_ret
  exact ⟨rfl, hw.trans hn1⟩

end Go.Proofs.YtjampcfikfafkaaGreat
