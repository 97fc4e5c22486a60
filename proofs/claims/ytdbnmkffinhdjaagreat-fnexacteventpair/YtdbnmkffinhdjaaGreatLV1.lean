/- Lemmas and contracts of one law. -/
import Derived.WalkKit
import Derived.Deep.QuietTactic
import Derived.BigQuiet
import Derived.Test.YtdbnmkffinhdjaaGreatRows
namespace Go.Proofs.YtdbnmkffinhdjaaGreat
open Go.RowKit
set_option maxHeartbeats 25600000

/-- The address leads to the bytes zs. -/
def BsAt (w : World) (a : Option Addr) (zs : List Int) : Prop :=
  ∀ i z, zs[i]? = some z → ∃ b off, a = some ⟨b, off, none⟩ ∧ w.cell? ⟨b, off + i, none⟩ = some (.int .u8 z) ∧ 0 ≤ z ∧ z ≤ 255

/-- From w to w' nothing old has turned but the blocks of S. -/
structure Turn (S : Nat → Prop) (w w' : World) : Prop where
  os : w'.os = w.os
  tape : w'.tape = w.tape
  output : w'.output = w.output
  size : w.heap.size ≤ w'.heap.size
  block : ∀ k, k < w.heap.size → ¬ S k → w'.heap[k]? = w.heap[k]?

/-- Nothing old has turned. -/
def New (w w' : World) : Prop := Turn (fun _ => False) w w'

theorem Turn.refl (S : Nat → Prop) (w : World) : Turn S w w := ⟨rfl, rfl, rfl, Nat.le_refl _, fun _ _ _ => rfl⟩
theorem New.refl (w : World) : New w w := Turn.refl _ w

theorem Turn.trans {S T : Nat → Prop} {a b c : World} (h : Turn S a b) (k : Turn T b c) (hT : ∀ i, i < a.heap.size → T i → S i) : Turn S a c :=
  ⟨k.os.trans h.os, k.tape.trans h.tape, k.output.trans h.output, Nat.le_trans h.size k.size,
    fun i hi hs => (k.block i (Nat.lt_of_lt_of_le hi h.size) (fun ht => hs (hT i hi ht))).trans (h.block i hi hs)⟩

theorem Turn.mono {S T : Nat → Prop} {a b : World} (h : Turn S a b) (hT : ∀ i, i < a.heap.size → S i → T i) : Turn T a b :=
  ⟨h.os, h.tape, h.output, h.size, fun i hi hs => h.block i hi (fun ht => hs (hT i hi ht))⟩

theorem New.trans {a b c : World} (h : New a b) (k : New b c) : New a c := Turn.trans h k (fun _ _ f => f)
theorem New.turn {S : Nat → Prop} {a b : World} (h : New a b) : Turn S a b := Turn.mono h (fun _ _ f => f.elim)
theorem New.before {S : Nat → Prop} {a b c : World} (h : New a b) (k : Turn S b c) (hT : ∀ i, i < a.heap.size → ¬ S i) : New a c := Turn.trans h k hT

theorem New.below {w w' : World} (h : New w w') : Below w.heap.size w w' := ⟨h.os, h.tape, h.output, h.size, fun k hk => h.block k hk (fun f => f)⟩
theorem New.of_below {w w' : World} {B : Nat} (h : Below B w w') (hB : w.heap.size ≤ B) : New w w' := ⟨h.os, h.tape, h.output, h.size, fun k hk _ => h.block k (Nat.lt_of_lt_of_le hk hB)⟩
theorem New.of_grown {w w' : World} (h : w.grownBy w' none) : New w w' := ⟨h.os, h.tape, h.output, h.size, fun k hk _ => h.block k hk (by simp)⟩
theorem Turn.of_grown {w w' : World} {g : Nat} (h : w.grownBy w' (some g)) : Turn (fun k => k = g) w w' := ⟨h.os, h.tape, h.output, h.size, fun k hk hs => h.block k hk (by intro e; exact hs (Option.some.inj e))⟩
theorem New.drew {a w : World} (h : New a w) : New a w.drew := ⟨h.os, h.tape, h.output, h.size, h.block⟩
theorem New.drewN {a w : World} (h : New a w) (n : Nat) : New a (w.drewN n) := ⟨h.os, h.tape, h.output, h.size, h.block⟩
theorem New.alloc {a w : World} (h : New a w) (o : Obj) : New a (w.alloc o) := h.trans (New.of_below ((Below.refl w.heap.size w).alloc (Nat.le_refl _) o) (Nat.le_refl _))

theorem New.setCell {a w : World} (h : New a w) {p : Addr} (hp : a.heap.size ≤ p.block) (u : Value) : New a (w.setCell p u) :=
  ⟨h.os, h.tape, h.output, by simpa [World.setCell] using h.size, fun k hk hs => (Below.heap_setCell w p u k (by omega)).trans (h.block k hk hs)⟩

theorem Turn.set {S : Nat → Prop} {a w : World} (h : Turn S a w) {p : Addr} (hp : S p.block) (u : Value) : Turn S a (w.setCell p u) :=
  ⟨h.os, h.tape, h.output, by simpa [World.setCell] using h.size, fun k hk hs => (Below.heap_setCell w p u k (fun e => hs (e ▸ hp))).trans (h.block k hk hs)⟩

theorem BsAt.nil (w : World) (a : Option Addr) : BsAt w a [] := by intro i z h; simp at h

theorem BsAt.lt {w : World} {a : Option Addr} {zs : List Int} (h : BsAt w a zs) : ∀ z ∈ zs, 0 ≤ z ∧ z ≤ 255 := by
  intro z hz
  obtain ⟨i, hi, rfl⟩ := List.mem_iff_getElem.1 hz
  obtain ⟨_, _, _, _, h1, h2⟩ := h i _ (List.getElem?_eq_getElem hi)
  exact ⟨h1, h2⟩

theorem BsAt.at {w : World} {a : Option Addr} {zs : List Int} (h : BsAt w a zs) (i : Nat) (hi : i < zs.length) :
    ∃ b off z, a = some ⟨b, off, none⟩ ∧ zs[i]? = some z ∧ w.cell? ⟨b, off + i, none⟩ = some (.int .u8 z) ∧ 0 ≤ z ∧ z ≤ 255 := by
  obtain ⟨b, off, h1, h2, h3⟩ := h i _ (List.getElem?_eq_getElem hi)
  exact ⟨b, off, _, h1, List.getElem?_eq_getElem hi, h2, h3⟩

theorem BsAt.turn {w w' : World} {a : Option Addr} {zs : List Int} {S : Nat → Prop} (h : BsAt w a zs) (t : Turn S w w') (hS : ∀ x, a = some x → ¬ S x.block) : BsAt w' a zs := by
  intro i z hz
  obtain ⟨b, off, ha, hc, hb⟩ := h i z hz
  exact ⟨b, off, ha, (World.cell?_of_block (t.block b (World.block_lt_of_cell? w _ hc) (hS _ ha))).trans hc, hb⟩

theorem BsAt.turnZ {w w' : World} {a : Option Addr} {zs : List Int} {S : Nat → Prop} (h : BsAt w a zs) (t : Turn S w w') (hS : ∀ x, zs ≠ [] → a = some x → ¬ S x.block) : BsAt w' a zs := by
  intro i z hz
  obtain ⟨b, off, ha, hc, hb⟩ := h i z hz
  exact ⟨b, off, ha, (World.cell?_of_block (t.block b (World.block_lt_of_cell? w _ hc) (hS _ (by rintro rfl; simp at hz) ha))).trans hc, hb⟩

theorem BsAt.new {w w' : World} {a : Option Addr} {zs : List Int} (h : BsAt w a zs) (t : New w w') : BsAt w' a zs := h.turn t (fun _ _ f => f)

theorem BsAt.take {w : World} {a : Option Addr} {zs : List Int} (h : BsAt w a zs) (n : Nat) : BsAt w a (zs.take n) := by
  intro i z hz
  rw [List.getElem?_take] at hz
  split at hz
  · exact h i z hz
  · cases hz

/-- Bytes that the call owns are bytes. -/
theorem BsAt.of_own {w : World} {base g n cap : Nat} {e : TypeId} {zs : List Int} (h : w.ownsRow base e 1 (.slice (some ⟨g, 0, none⟩) n cap) n (zs.map (Value.int .u8))) (hb : ∀ z ∈ zs, 0 ≤ z ∧ z ≤ 255) :
    BsAt w (some ⟨g, 0, none⟩) zs := by
  intro i z hz
  have hl : zs.length = n := by simpa using h.1
  have hi : i < zs.length := (List.getElem?_eq_some_iff.1 hz).1
  have hc := h.cellAt i (by omega)
  refine ⟨g, 0, rfl, ?_, hb z (List.mem_of_getElem? hz)⟩
  rw [Nat.zero_add, hc]
  simp [hz]

theorem own_base {w : World} {base : Nat} {e : TypeId} {size : Nat} {v : Value} {n : Nat} {xs : List Value} (h : w.ownsRow base e size v n xs) : w.ownsRow 0 e size v n xs := by
  refine ⟨h.1, ?_⟩
  rcases h.2 with h' | ⟨g, cap, cur, hv, hb, r⟩
  · exact .inl h'
  · exact .inr ⟨g, cap, cur, hv, Nat.zero_le _, r⟩

theorem own_turn {w w' : World} {base g n cap : Nat} {e : TypeId} {xs : List Value} {S : Nat → Prop} (h : w.ownsRow base e 1 (.slice (some ⟨g, 0, none⟩) n cap) n xs) (t : Turn S w w') (hS : ¬ S g) :
    w'.ownsRow base e 1 (.slice (some ⟨g, 0, none⟩) n cap) n xs := by
  have hg : g < w.heap.size := (h.lt g rfl).2
  refine ⟨h.1, ?_⟩
  rcases h.2 with ⟨h', _⟩ | ⟨g', cap', cur, h', r⟩
  · simp at h'
  · simp only [Value.slice.injEq, Option.some.injEq, Addr.mk.injEq, and_true, true_and] at h'
    obtain ⟨rfl, rfl⟩ := h'
    exact .inr ⟨g, cap, cur, rfl, r.1, (t.block g hg hS).trans r.2.1, r.2.2⟩

theorem own_new {w w' : World} {base g n cap : Nat} {e : TypeId} {xs : List Value} (h : w.ownsRow base e 1 (.slice (some ⟨g, 0, none⟩) n cap) n xs) (t : New w w') :
    w'.ownsRow base e 1 (.slice (some ⟨g, 0, none⟩) n cap) n xs := own_turn h t (fun f => f)

/-- The block B holds just these cells, and may be written. -/
def Blk (w : World) (B : Nat) (t : TypeId) (cs : Array Value) : Prop := w.heap[B]? = some (.cells cs t (0, 0))
theorem Blk.lt {w : World} {B : Nat} {t : TypeId} {cs : Array Value} (h : Blk w B t cs) : B < w.heap.size := by
  rcases Nat.lt_or_ge B w.heap.size with hlt | hge
  · exact hlt
  · unfold Blk at h; rw [Array.getElem?_eq_none hge] at h; cases h
theorem Blk.cells {w : World} {B : Nat} {t : TypeId} {cs : Array Value} (h : Blk w B t cs) : ∀ j, w.cell? ⟨B, j, none⟩ = cs[j]? := fun j => cell_of_row w B j cs t (0, 0) h
theorem Blk.frees {w : World} {B : Nat} {t : TypeId} {cs : Array Value} (h : Blk w B t cs) : ∀ j, w.frozen? ⟨B, j, none⟩ = false := fun j => frozen_of_row w B j cs t h
theorem Blk.turn {w w' : World} {B : Nat} {t : TypeId} {cs : Array Value} {S : Nat → Prop} (h : Blk w B t cs) (k : Turn S w w') (hS : ¬ S B) : Blk w' B t cs := (k.block B h.lt hS).trans h
theorem Blk.new {w w' : World} {B : Nat} {t : TypeId} {cs : Array Value} (h : Blk w B t cs) (k : New w w') : Blk w' B t cs := h.turn k (fun f => f)
theorem Blk.alloc {w : World} {B : Nat} {t : TypeId} {cs : Array Value} (h : Blk w B t cs) (o : Obj) : Blk (w.alloc o) B t cs := h.new ((New.refl w).alloc o)
theorem Blk.mk (w : World) (B : Nat) (t : TypeId) (cs : Array Value) (hB : w.heap.size = B) : Blk (w.alloc (.cells cs t)) B t cs := by subst hB; exact heap_alloc_new w _
theorem Blk.grow {w w' : World} {B : Nat} {t : TypeId} {cs : Array Value} {row : Option Nat} (h : Blk w B t cs) (k : w.grownBy w' row) (hr : row ≠ some B) : Blk w' B t cs := (k.block B h.lt (fun e => hr e.symm)).trans h

theorem Blk.set {w : World} {B : Nat} {t : TypeId} {cs : Array Value} (h : Blk w B t cs) (j : Nat) (v : Value) : Blk (w.setCell ⟨B, j, none⟩ v) B t (cs.setIfInBounds j v) := heap_setCell_same w B j cs t v h
theorem ret_i64 {a b : Int} (h : a = b) : Ending.returned (.int .i64 a) = .returned (.int .i64 b) := by rw [h]

theorem pA9 {α : Type} (l : List α) (i : Nat) (a : α) : l.toArray.setIfInBounds i a = (l.set i a).toArray := List.setIfInBounds_toArray ..
theorem pB9 {α : Type} (x a : α) (l : List α) : (x :: l).set 0 a = a :: l := rfl
theorem pC9 {α : Type} (x a : α) (l : List α) (n : Nat) : (x :: l).set (n + 1) a = x :: l.set n a := rfl


theorem Tryz.infoU8 : (Tryz.prog.info? 5).map (fun i => (i.zero, i.size, i.bytes)) = some (some (.int .u8 0), 1, 1) := by kernel_rfl

theorem ob (zs : List Int) (k n : Nat) (hn : zs.length = n) (z : Int) (hz : zs[k]? = some z) :
    (((zs.take k).map (Value.int .u8)) ++ List.replicate (n - k) (Value.int .u8 0)).set k (.int .u8 z) = ((zs.take (k + 1)).map (Value.int .u8)) ++ List.replicate (n - (k + 1)) (Value.int .u8 0) := by
  obtain ⟨hk, rfl⟩ := List.getElem?_eq_some_iff.1 hz
  have hl : ((zs.take k).map (Value.int .u8)).length = k := by simp; omega
  rw [List.set_append_right _ _ (by omega), hl, Nat.sub_self, show n - k = (n - (k + 1)) + 1 by omega, List.replicate_succ, List.set_cons_zero, List.take_succ_eq_append_getElem hk]
  simp only [List.map_append, List.map_cons, List.map_nil, List.append_assoc, List.singleton_append]

theorem toBytes_any (a : Option Addr) (n c : Nat) (zs : List Int) (w : World) (h : BsAt w a zs) (hn : zs.length = n) (hm : n ≤ 1048576) :
    Calls Tryz.prog 35 #[.slice a n c] w fun e w' => ∃ g, e = .returned (.slice (some ⟨g, 0, none⟩) n n) ∧ w.heap.size ≤ g ∧
      w'.ownsRow 0 5 1 (.slice (some ⟨g, 0, none⟩) n n) n (zs.map (Value.int .u8)) ∧ New w w' := by
  obtain ⟨i0, hi, hz0, hz1, hz2⟩ := info_parts Tryz.infoU8
  go_enter Tryz.func35, Tryz.ntmps35
  go_wp2_with (at_make; refine wpList_make_full _ rfl _ _ 33 rfl w.heap.size 5 i0 (.int .u8 0) 1 Tryz.underlying33 hi hz0 hz1 _ _ _ _ n rfl rfl rfl rfl ?b2 ?b3 (Nat.le_refl _) ?_)
  case b2 => rw [hz2]; omega
  case b3 => unfold maxLen; omega
  intro w0 hown0 hgrow0
  have hown : w0.ownsRow w.heap.size 5 1 (.slice (some ⟨w.heap.size, 0, none⟩) n n) n (((zs.take 0).map (Value.int .u8)) ++ List.replicate (n - 0) (Value.int .u8 0)) := by
    simpa [Value.cells, toList_madeCells_one] using hown0
  have hnew := New.of_grown hgrow0
  clear hown0 hgrow0
  go_wp2
  go_loopw [4] (fun i wr => ∃ k : Nat, k ≤ n ∧ i = .int .i64 k ∧ New w wr ∧
      wr.ownsRow w.heap.size 5 1 (.slice (some ⟨w.heap.size, 0, none⟩) n n) n (((zs.take k).map (Value.int .u8)) ++ List.replicate (n - k) (Value.int .u8 0))) (fun i _ => n - (intOf i).toNat)
  case atStart => exact ⟨0, Nat.zero_le _, rfl, hnew, hown⟩
  case round =>
    obtain ⟨k, hk, rfl, hnw, how⟩ := hrel
    by_cases hlt : k < n
    · obtain ⟨b, off, z, rfl, hz, hc, hz0, hz1⟩ := (h.new hnw).at k (by omega)
      have hfz := how.frozenAt k
      have hst := how.stored k (.int .u8 z)
      rw [ob zs k n hn z hz] at hst
      have HS := hst.1
      have hw2 : New w (wr.setCell ⟨w.heap.size, k, none⟩ (.int .u8 z)) := hnw.setCell (Nat.le_refl _) _
      have hcw : ∃ v, wr.cell? ⟨w.heap.size, k, none⟩ = some v := by
        rw [how.cellAt k (by omega)]
        exact ⟨_, List.getElem?_eq_getElem (by have := how.1; omega)⟩
      obtain ⟨v, hv⟩ := hcw
      clear hz h hst how
      go_wp2
      go_roundw
      case rel => exact ⟨k + 1, by omega, by go_num, hw2, HS⟩
      case measure => simp [intOf]; omega
    · go_wp2
      go_ret
      refine ⟨_, rfl, Nat.le_refl _, ?_, hnw⟩
      have hkn : k = n := by omega
      subst hkn
      rw [List.take_of_length_le (by omega)] at how
      simpa using own_base how

/-- Like bytes are told to be alike. -/
theorem eqBytes_any (a b : Option Addr) (n c d : Nat) (zs : List Int) (w : World) (ha : BsAt w a zs) (hb : BsAt w b zs) (hn : zs.length = n) (hm : n ≤ 1048576) :
    Calls Tryz.prog 38 #[.slice a n c, .slice b n d] w fun e w' => e = .returned (.bool true) ∧ New w w' := by
  have hnn : ((n : Int) != (n : Int)) = false := by simp
  go_enter Tryz.func38, Tryz.ntmps38
  go_wp2
  go_loopw [5] (fun i wr => ∃ k : Nat, k ≤ n ∧ i = .int .i64 k ∧ New w wr) (fun i _ => n - (intOf i).toNat)
  case atStart => exact ⟨0, Nat.zero_le _, rfl, New.refl _⟩
  case round =>
    obtain ⟨k, hk, rfl, hnw⟩ := hrel
    by_cases hlt : k < n
    · obtain ⟨b1, off1, z, rfl, hz, hc, hz0, hz1⟩ := (ha.new hnw).at k (by omega)
      obtain ⟨b2, off2, z', rfl, hz', hc', _, _⟩ := (hb.new hnw).at k (by omega)
      obtain rfl : z = z' := Option.some.inj (hz.symm.trans hz')
      clear hz hz' ha hb
      go_wp2
      go_quiet (fail)
      go_wp2
      go_roundw
      case rel => exact ⟨k + 1, by omega, by go_num, hnw.drewN _⟩
      case measure => simp [intOf]; omega
    · go_wp2
      go_ret
      exact ⟨rfl, hnw⟩

/-- A slice of bytes that came in, as the readers of rows give it. -/
theorem BsAt.of_cells {w : World} {x : Addr} {zs : List Int} (len : Nat) (hcell : ∀ i, i < zs.length → w.cell? (x.add i) = some (.int .u8 (zs.getD i 0))) (hw : ∀ n ∈ zs, (Lit.int .u8 n).wf = true) :
    BsAt w (some x) (zs.take len) := by
  refine BsAt.take ?_ len
  intro i z hz
  obtain ⟨hi, rfl⟩ := List.getElem?_eq_some_iff.1 hz
  have hc := hcell i hi
  obtain ⟨b, off, spot⟩ := x
  have hspot : spot = none := by simpa [Addr.add] using World.cell?_spot (hcell 0 (by omega))
  subst hspot
  rw [Addr.add_lit] at hc
  have hb : 0 ≤ zs[i] ∧ zs[i] ≤ 255 := by simpa [Lit.wf, IntKind.min, IntKind.max, IntKind.signed, IntKind.bits] using hw _ (List.getElem_mem hi)
  exact ⟨b, off, rfl, by simpa [List.getD, hi] using hc, hb⟩


theorem New.cells {W w1 : World} (hb : New W w1) : ∀ b o, b < W.heap.size → w1.cell? ⟨b, o, none⟩ = W.cell? ⟨b, o, none⟩ :=
  fun b o h => hb.below.cell (p := ⟨b, o, none⟩) h

theorem New.frozens {W w1 : World} (hb : New W w1) : ∀ b o, b < W.heap.size → w1.frozen? ⟨b, o, none⟩ = W.frozen? ⟨b, o, none⟩ :=
  fun b o h => hb.below.frozen (p := ⟨b, o, none⟩) h

theorem in_yes (v lo hi : Int) (w : World) (h : lo ≤ v ∧ v ≤ hi) : Calls Tryz.prog 61 #[.int .i64 v, .int .i64 lo, .int .i64 hi] w fun e w' => e = .returned (.bool true) ∧ w' = w := by
  obtain ⟨h1, h2⟩ := h
  go_enter Tryz.func61, Tryz.ntmps61
  go_wp2
  go_ret
  exact ⟨by simp, rfl⟩

theorem in_no (v lo hi : Int) (w : World) (h : v < lo ∨ hi < v) : Calls Tryz.prog 61 #[.int .i64 v, .int .i64 lo, .int .i64 hi] w fun e w' => e = .returned (.bool false) ∧ w' = w := by
  by_cases h1 : lo ≤ v
  · have h2 : hi < v := by omega
    go_enter Tryz.func61, Tryz.ntmps61
    go_wp2
    go_ret
    exact ⟨by simp; omega, rfl⟩
  · go_enter Tryz.func61, Tryz.ntmps61
    go_wp2
    go_ret
    exact ⟨rfl, rfl⟩


theorem szBytes_ok (a : Option Addr) (n c l : Nat) (w : World) (hl : l ≤ 1048576) (h : n ≤ l) : Calls Tryz.prog 25 #[.slice a n c, .int .i64 l] w fun e w' => e = .returned (.int .i64 ((l : Int) - n)) ∧ New w w' := by
  go_enter Tryz.func25, Tryz.ntmps25
  go_wp2
  go_ret
  exact ⟨rfl, New.refl _⟩

theorem szBytes_big (a : Option Addr) (n c l : Nat) (w : World) (hl : l ≤ 1048576) (hn : n ≤ maxLen) (h : l < n) : Calls Tryz.prog 25 #[.slice a n c, .int .i64 l] w fun e w' => e = .returned (.int .i64 (-1)) ∧ New w w' := by
  unfold maxLen at hn
  go_enter Tryz.func25, Tryz.ntmps25
  go_wp2
  go_ret
  exact ⟨rfl, New.refl _⟩

end Go.Proofs.YtdbnmkffinhdjaaGreat

namespace Go.Proofs.YtdbnmkffinhdjaaGreat
open Go.RowKit
set_option linter.unusedVariables false
set_option maxHeartbeats 25600000

theorem szEvent_ok (k p : Int) (a : Option Addr) (n c l : Nat) (w : World) (hl : l ≤ 1048576) (h : n ≤ l) : Calls Tryz.prog 6 #[.agg #[.int .i64 k, .int .i64 p, .slice a n c], .int .i64 l] w fun e w' => e = .returned (.int .i64 ((l : Int) - n)) ∧ New w w' := by
  go_enter Tryz.func6, Tryz.ntmps6
  go_wp2_with fail
  refine (szBytes_ok a n c l _ hl h).mono ?_
  rintro e w1 ⟨rfl, hn1⟩
  go_wp2
  go_ret
  exact ⟨rfl, ((New.refl _).alloc _).trans hn1⟩

theorem szEvent_big (k p : Int) (a : Option Addr) (n c l : Nat) (w : World) (hl : l ≤ 1048576) (hn : n ≤ maxLen) (h : l < n) : Calls Tryz.prog 6 #[.agg #[.int .i64 k, .int .i64 p, .slice a n c], .int .i64 l] w fun e w' => e = .returned (.int .i64 (-1)) ∧ New w w' := by
  go_enter Tryz.func6, Tryz.ntmps6
  go_wp2_with fail
  refine (szBytes_big a n c l _ hl hn h).mono ?_
  rintro e w1 ⟨rfl, hn1⟩
  go_wp2
  go_ret
  exact ⟨rfl, ((New.refl _).alloc _).trans hn1⟩

/-- A peer's number, and a kind of event. -/
abbrev P9 (p : Int) : Prop := 0 ≤ p ∧ p ≤ 2
/-- The fault of an event. -/
def evF (k p : Int) (n : Nat) : Int :=
  if k < 1 ∨ 4 < k then 1 else if ¬ P9 p then 3 else if k = 3 ∧ p ≠ 0 then 3 else if k = 2 then (if n = 0 then 1 else if 60 < n then 2 else 0) else if n = 0 then 0 else 1

theorem peer9_yes (p : Int) (w : World) (h : P9 p) : Calls Tryz.prog 78 #[.int .i64 p] w fun e w' => e = .returned (.bool true) ∧ w' = w := by
  obtain ⟨h0, h1⟩ := h
  have h2 : p < 3 := by omega
  clear h1
  go_enter Tryz.func78, Tryz.ntmps78
  go_wp2
  go_ret
  exact ⟨rfl, rfl⟩

theorem peer9_no (p : Int) (w : World) (h : ¬ P9 p) : Calls Tryz.prog 78 #[.int .i64 p] w fun e w' => e = .returned (.bool false) ∧ w' = w := by
  by_cases h0 : 0 ≤ p
  · have h1 : ¬ p < 3 := by unfold P9 at h; omega
    clear h
    go_enter Tryz.func78, Tryz.ntmps78
    go_wp2
    go_ret
    exact ⟨rfl, rfl⟩
  · clear h
    go_enter Tryz.func78, Tryz.ntmps78
    go_wp2
    go_ret
    exact ⟨rfl, rfl⟩

theorem sp9_yes (p : Int) (w : World) (h : P9 p) : Calls Tryz.prog 109 #[.int .i64 p] w fun e w' => e = .returned (.bool true) ∧ w' = w := by
  go_enter Tryz.func109, Tryz.ntmps109
  go_wp2_with fail
  refine (in_yes _ _ _ _ h).mono ?_
  rintro e w1 ⟨rfl, rfl⟩
  go_wp2
  go_ret
  exact ⟨rfl, rfl⟩

theorem sp9_no (p : Int) (w : World) (h : ¬ P9 p) : Calls Tryz.prog 109 #[.int .i64 p] w fun e w' => e = .returned (.bool false) ∧ w' = w := by
  have h' : p < 0 ∨ 2 < p := by unfold P9 at h; omega
  go_enter Tryz.func109, Tryz.ntmps109
  go_wp2_with fail
  refine (in_no _ _ _ _ h').mono ?_
  rintro e w1 ⟨rfl, rfl⟩
  go_wp2
  go_ret
  exact ⟨rfl, rfl⟩

theorem specEV (k p : Int) (a : Option Addr) (n c : Nat) (w : World) (hm : n ≤ 1048576) : Calls Tryz.prog 67 #[.agg #[.int .i64 k, .int .i64 p, .slice a n c]] w fun e w' => e = .returned (.int .i64 (evF k p n)) ∧ New w w' := by
  by_cases hk : k < 1 ∨ 4 < k
  · have hf : Hid (evF k p n = 1) := by unfold evF Hid; rw [if_pos hk]
    go_enter Tryz.func67, Tryz.ntmps67
    go_wp2_with fail
    refine (in_no _ _ _ _ hk).mono ?_
    rintro e w1 ⟨rfl, rfl⟩
    go_wp2
    go_ret
    exact ⟨ret_i64 hf.out.symm, (New.refl _).alloc _⟩
  · have hk4 : k = 1 ∨ k = 2 ∨ k = 3 ∨ k = 4 := by omega
    by_cases hp : P9 p
    · rcases hk4 with rfl | rfl | rfl | rfl
      · by_cases hn : n = 0
        · subst hn
          have hf : Hid (evF 1 p 0 = 0) := by unfold evF Hid; rw [if_neg (by omega), if_neg (not_not_intro hp)]; simp
          go_enter Tryz.func67, Tryz.ntmps67
          go_wp2_with fail
          refine (in_yes _ _ _ _ (by omega)).mono ?_
          rintro e w1 ⟨rfl, rfl⟩
          go_wp2_with fail
          refine (sp9_yes _ _ hp).mono ?_
          rintro e w2 ⟨rfl, rfl⟩
          go_wp2
          go_ret
          exact ⟨ret_i64 hf.out.symm, (New.refl _).alloc _⟩
        · have hf : Hid (evF 1 p n = 1) := by unfold evF Hid; rw [if_neg (by omega), if_neg (not_not_intro hp)]; simp [hn]
          have hn1 : 0 < n := by omega
          go_enter Tryz.func67, Tryz.ntmps67
          go_wp2_with fail
          refine (in_yes _ _ _ _ (by omega)).mono ?_
          rintro e w1 ⟨rfl, rfl⟩
          go_wp2_with fail
          refine (sp9_yes _ _ hp).mono ?_
          rintro e w2 ⟨rfl, rfl⟩
          go_wp2
          go_ret
          exact ⟨ret_i64 hf.out.symm, (New.refl _).alloc _⟩
      · by_cases hn : n = 0
        · subst hn
          have hf : Hid (evF 2 p 0 = 1) := by unfold evF Hid; rw [if_neg (by omega), if_neg (not_not_intro hp)]; simp
          go_enter Tryz.func67, Tryz.ntmps67
          go_wp2_with fail
          refine (in_yes _ _ _ _ (by omega)).mono ?_
          rintro e w1 ⟨rfl, rfl⟩
          go_wp2_with fail
          refine (sp9_yes _ _ hp).mono ?_
          rintro e w2 ⟨rfl, rfl⟩
          go_wp2
          go_ret
          exact ⟨ret_i64 hf.out.symm, (New.refl _).alloc _⟩
        · have hn1 : 0 < n := by omega
          by_cases hg : 60 < n
          · have hf : Hid (evF 2 p n = 2) := by unfold evF Hid; rw [if_neg (by omega), if_neg (not_not_intro hp)]; simp [hn, hg]
            go_enter Tryz.func67, Tryz.ntmps67
            go_wp2_with fail
            refine (in_yes _ _ _ _ (by omega)).mono ?_
            rintro e w1 ⟨rfl, rfl⟩
            go_wp2_with fail
            refine (sp9_yes _ _ hp).mono ?_
            rintro e w2 ⟨rfl, rfl⟩
            go_wp2
            go_ret
            exact ⟨ret_i64 hf.out.symm, (New.refl _).alloc _⟩
          · have hf : Hid (evF 2 p n = 0) := by unfold evF Hid; rw [if_neg (by omega), if_neg (not_not_intro hp)]; simp [hn]; omega
            go_enter Tryz.func67, Tryz.ntmps67
            go_wp2_with fail
            refine (in_yes _ _ _ _ (by omega)).mono ?_
            rintro e w1 ⟨rfl, rfl⟩
            go_wp2_with fail
            refine (sp9_yes _ _ hp).mono ?_
            rintro e w2 ⟨rfl, rfl⟩
            go_wp2
            go_ret
            exact ⟨ret_i64 hf.out.symm, (New.refl _).alloc _⟩
      · by_cases hp0 : p = 0
        · by_cases hn : n = 0
          · subst hn hp0
            have hf : Hid (evF 3 0 0 = 0) := by unfold evF Hid; rw [if_neg (by omega), if_neg (not_not_intro hp)]; simp
            go_enter Tryz.func67, Tryz.ntmps67
            go_wp2_with fail
            refine (in_yes _ _ _ _ (by omega)).mono ?_
            rintro e w1 ⟨rfl, rfl⟩
            go_wp2_with fail
            refine (sp9_yes _ _ hp).mono ?_
            rintro e w2 ⟨rfl, rfl⟩
            go_wp2
            go_ret
            exact ⟨ret_i64 hf.out.symm, (New.refl _).alloc _⟩
          · subst hp0
            have hf : Hid (evF 3 0 n = 1) := by unfold evF Hid; rw [if_neg (by omega), if_neg (not_not_intro hp)]; simp [hn]
            have hn1 : 0 < n := by omega
            go_enter Tryz.func67, Tryz.ntmps67
            go_wp2_with fail
            refine (in_yes _ _ _ _ (by omega)).mono ?_
            rintro e w1 ⟨rfl, rfl⟩
            go_wp2_with fail
            refine (sp9_yes _ _ hp).mono ?_
            rintro e w2 ⟨rfl, rfl⟩
            go_wp2
            go_ret
            exact ⟨ret_i64 hf.out.symm, (New.refl _).alloc _⟩
        · have hf : Hid (evF 3 p n = 3) := by unfold evF Hid; rw [if_neg (by omega), if_neg (not_not_intro hp), if_pos ⟨rfl, hp0⟩]
          go_enter Tryz.func67, Tryz.ntmps67
          go_wp2_with fail
          refine (in_yes _ _ _ _ (by omega)).mono ?_
          rintro e w1 ⟨rfl, rfl⟩
          go_wp2_with fail
          refine (sp9_yes _ _ hp).mono ?_
          rintro e w2 ⟨rfl, rfl⟩
          go_wp2
          go_ret
          exact ⟨ret_i64 hf.out.symm, (New.refl _).alloc _⟩
      · by_cases hn : n = 0
        · subst hn
          have hf : Hid (evF 4 p 0 = 0) := by unfold evF Hid; rw [if_neg (by omega), if_neg (not_not_intro hp)]; simp
          go_enter Tryz.func67, Tryz.ntmps67
          go_wp2_with fail
          refine (in_yes _ _ _ _ (by omega)).mono ?_
          rintro e w1 ⟨rfl, rfl⟩
          go_wp2_with fail
          refine (sp9_yes _ _ hp).mono ?_
          rintro e w2 ⟨rfl, rfl⟩
          go_wp2
          go_ret
          exact ⟨ret_i64 hf.out.symm, (New.refl _).alloc _⟩
        · have hf : Hid (evF 4 p n = 1) := by unfold evF Hid; rw [if_neg (by omega), if_neg (not_not_intro hp)]; simp [hn]
          have hn1 : 0 < n := by omega
          go_enter Tryz.func67, Tryz.ntmps67
          go_wp2_with fail
          refine (in_yes _ _ _ _ (by omega)).mono ?_
          rintro e w1 ⟨rfl, rfl⟩
          go_wp2_with fail
          refine (sp9_yes _ _ hp).mono ?_
          rintro e w2 ⟨rfl, rfl⟩
          go_wp2
          go_ret
          exact ⟨ret_i64 hf.out.symm, (New.refl _).alloc _⟩
    · have hf : Hid (evF k p n = 3) := by unfold evF Hid; rw [if_neg hk, if_pos hp]
      go_enter Tryz.func67, Tryz.ntmps67
      go_wp2_with fail
      refine (in_yes _ _ _ _ (by omega)).mono ?_
      rintro e w1 ⟨rfl, rfl⟩
      go_wp2_with fail
      refine (sp9_no _ _ hp).mono ?_
      rintro e w2 ⟨rfl, rfl⟩
      go_wp2
      go_ret
      exact ⟨ret_i64 hf.out.symm, (New.refl _).alloc _⟩

theorem implEV (k p : Int) (a : Option Addr) (n c : Nat) (w : World) (hm : n ≤ 1048576) : Calls Tryz.prog 123 #[.agg #[.int .i64 k, .int .i64 p, .slice a n c]] w fun e w' => e = .returned (.int .i64 (evF k p n)) ∧ New w w' := by
  by_cases hk : k < 1 ∨ 4 < k
  · have hf : Hid (evF k p n = 1) := by unfold evF Hid; rw [if_pos hk]
    by_cases hk1 : k < 1
    · clear hk
      go_enter Tryz.func123, Tryz.ntmps123
      go_wp2
      go_ret
      exact ⟨ret_i64 hf.out.symm, (New.refl _).alloc _⟩
    · have hk2 : 4 < k := by omega
      clear hk
      go_enter Tryz.func123, Tryz.ntmps123
      go_wp2
      go_ret
      exact ⟨ret_i64 hf.out.symm, (New.refl _).alloc _⟩
  · have hk4 : k = 1 ∨ k = 2 ∨ k = 3 ∨ k = 4 := by omega
    by_cases hp : P9 p
    · rcases hk4 with rfl | rfl | rfl | rfl
      · by_cases hn : n = 0
        · subst hn
          have hf : Hid (evF 1 p 0 = 0) := by unfold evF Hid; rw [if_neg (by omega), if_neg (not_not_intro hp)]; simp
          go_enter Tryz.func123, Tryz.ntmps123
          go_wp2_with fail
          refine (peer9_yes _ _ hp).mono ?_
          rintro e w2 ⟨rfl, rfl⟩
          go_wp2
          go_ret
          exact ⟨ret_i64 hf.out.symm, (New.refl _).alloc _⟩
        · have hf : Hid (evF 1 p n = 1) := by unfold evF Hid; rw [if_neg (by omega), if_neg (not_not_intro hp)]; simp [hn]
          have hn1 : 0 < n := by omega
          go_enter Tryz.func123, Tryz.ntmps123
          go_wp2_with fail
          refine (peer9_yes _ _ hp).mono ?_
          rintro e w2 ⟨rfl, rfl⟩
          go_wp2
          go_ret
          exact ⟨ret_i64 hf.out.symm, (New.refl _).alloc _⟩
      · by_cases hn : n = 0
        · subst hn
          have hf : Hid (evF 2 p 0 = 1) := by unfold evF Hid; rw [if_neg (by omega), if_neg (not_not_intro hp)]; simp
          go_enter Tryz.func123, Tryz.ntmps123
          go_wp2_with fail
          refine (peer9_yes _ _ hp).mono ?_
          rintro e w2 ⟨rfl, rfl⟩
          go_wp2
          go_ret
          exact ⟨ret_i64 hf.out.symm, (New.refl _).alloc _⟩
        · have hn1 : 0 < n := by omega
          by_cases hg : 60 < n
          · have hf : Hid (evF 2 p n = 2) := by unfold evF Hid; rw [if_neg (by omega), if_neg (not_not_intro hp)]; simp [hn, hg]
            go_enter Tryz.func123, Tryz.ntmps123
            go_wp2_with fail
            refine (peer9_yes _ _ hp).mono ?_
            rintro e w2 ⟨rfl, rfl⟩
            go_wp2
            go_ret
            exact ⟨ret_i64 hf.out.symm, (New.refl _).alloc _⟩
          · have hf : Hid (evF 2 p n = 0) := by unfold evF Hid; rw [if_neg (by omega), if_neg (not_not_intro hp)]; simp [hn]; omega
            go_enter Tryz.func123, Tryz.ntmps123
            go_wp2_with fail
            refine (peer9_yes _ _ hp).mono ?_
            rintro e w2 ⟨rfl, rfl⟩
            go_wp2
            go_ret
            exact ⟨ret_i64 hf.out.symm, (New.refl _).alloc _⟩
      · by_cases hp0 : p = 0
        · by_cases hn : n = 0
          · subst hn hp0
            have hf : Hid (evF 3 0 0 = 0) := by unfold evF Hid; rw [if_neg (by omega), if_neg (not_not_intro hp)]; simp
            go_enter Tryz.func123, Tryz.ntmps123
            go_wp2_with fail
            refine (peer9_yes _ _ hp).mono ?_
            rintro e w2 ⟨rfl, rfl⟩
            go_wp2
            go_ret
            exact ⟨ret_i64 hf.out.symm, (New.refl _).alloc _⟩
          · subst hp0
            have hf : Hid (evF 3 0 n = 1) := by unfold evF Hid; rw [if_neg (by omega), if_neg (not_not_intro hp)]; simp [hn]
            have hn1 : 0 < n := by omega
            go_enter Tryz.func123, Tryz.ntmps123
            go_wp2_with fail
            refine (peer9_yes _ _ hp).mono ?_
            rintro e w2 ⟨rfl, rfl⟩
            go_wp2
            go_ret
            exact ⟨ret_i64 hf.out.symm, (New.refl _).alloc _⟩
        · have hf : Hid (evF 3 p n = 3) := by unfold evF Hid; rw [if_neg (by omega), if_neg (not_not_intro hp), if_pos ⟨rfl, hp0⟩]
          go_enter Tryz.func123, Tryz.ntmps123
          go_wp2_with fail
          refine (peer9_yes _ _ hp).mono ?_
          rintro e w2 ⟨rfl, rfl⟩
          go_wp2
          go_ret
          exact ⟨ret_i64 hf.out.symm, (New.refl _).alloc _⟩
      · by_cases hn : n = 0
        · subst hn
          have hf : Hid (evF 4 p 0 = 0) := by unfold evF Hid; rw [if_neg (by omega), if_neg (not_not_intro hp)]; simp
          go_enter Tryz.func123, Tryz.ntmps123
          go_wp2_with fail
          refine (peer9_yes _ _ hp).mono ?_
          rintro e w2 ⟨rfl, rfl⟩
          go_wp2
          go_ret
          exact ⟨ret_i64 hf.out.symm, (New.refl _).alloc _⟩
        · have hf : Hid (evF 4 p n = 1) := by unfold evF Hid; rw [if_neg (by omega), if_neg (not_not_intro hp)]; simp [hn]
          have hn1 : 0 < n := by omega
          go_enter Tryz.func123, Tryz.ntmps123
          go_wp2_with fail
          refine (peer9_yes _ _ hp).mono ?_
          rintro e w2 ⟨rfl, rfl⟩
          go_wp2
          go_ret
          exact ⟨ret_i64 hf.out.symm, (New.refl _).alloc _⟩
    · have hf : Hid (evF k p n = 3) := by unfold evF Hid; rw [if_neg hk, if_pos hp]
      have hk1 : ¬ k < 1 := by omega
      have hk2 : ¬ 4 < k := by omega
      clear hk4 hk
      go_enter Tryz.func123, Tryz.ntmps123
      go_wp2_with fail
      refine (peer9_no _ _ hp).mono ?_
      rintro e w2 ⟨rfl, rfl⟩
      go_wp2
      go_ret
      exact ⟨ret_i64 hf.out.symm, (New.refl _).alloc _⟩

theorem toEvent_any (k p : Int) (a : Option Addr) (n c : Nat) (zs : List Int) (w : World) (h : BsAt w a zs) (hn : zs.length = n) (hm : n ≤ 1048576) :
    Calls Tryz.prog 9 #[.agg #[.int .i64 k, .int .i64 p, .slice a n c]] w fun e w' => ∃ g, e = .returned (.agg #[.int .i64 k, .int .i64 p, .slice (some ⟨g, 0, none⟩) n n]) ∧ w.heap.size ≤ g ∧
      w'.ownsRow 0 5 1 (.slice (some ⟨g, 0, none⟩) n n) n (zs.map (Value.int .u8)) ∧ New w w' := by
  go_enter Tryz.func9, Tryz.ntmps9
  go_wp2_with fail
  have hn0 := (((New.refl w).alloc (.cells #[.int .i64 k, .int .i64 p, .slice a n c] 35)).alloc (.cells #[.int .i64 0, .int .i64 0, .slice none 0 0] 52)).alloc (.cells #[.int .i64 k, .int .i64 p, .slice none 0 0] 52)
  refine (toBytes_any a n c zs _ (h.new hn0) hn hm).mono ?_
  rintro e w1 ⟨g, rfl, hg, ho, hn1⟩
  simp at hg
  have s1 := hn1.size
  simp at s1
  have c0 : w1.cell? ⟨w.heap.size + 1 + 1, 0, none⟩ = some (.int .i64 k) := by rw [hn1.cells _ _ (by simp)]; go_simp
  have c1 : w1.cell? ⟨w.heap.size + 1 + 1, 1, none⟩ = some (.int .i64 p) := by rw [hn1.cells _ _ (by simp)]; go_simp
  have c2 : w1.cell? ⟨w.heap.size + 1 + 1, 2, none⟩ = some (.slice none 0 0) := by rw [hn1.cells _ _ (by simp)]; go_simp
  have d0 : w1.cell? ⟨w.heap.size + 1, 0, none⟩ = some (.int .i64 0) := by rw [hn1.cells _ _ (by simp)]; go_simp
  have d1 : w1.cell? ⟨w.heap.size + 1, 1, none⟩ = some (.int .i64 0) := by rw [hn1.cells _ _ (by simp)]; go_simp
  have d2 : w1.cell? ⟨w.heap.size + 1, 2, none⟩ = some (.slice none 0 0) := by rw [hn1.cells _ _ (by simp)]; go_simp
  have f1 : w1.frozen? ⟨w.heap.size + 1 + 1, 2, none⟩ = false := by rw [hn1.frozens _ _ (by simp)]; go_simp
  have e0 : w1.frozen? ⟨w.heap.size + 1, 0, none⟩ = false := by rw [hn1.frozens _ _ (by simp)]; go_simp
  have e1 : w1.frozen? ⟨w.heap.size + 1, 1, none⟩ = false := by rw [hn1.frozens _ _ (by simp)]; go_simp
  have e2 : w1.frozen? ⟨w.heap.size + 1, 2, none⟩ = false := by rw [hn1.frozens _ _ (by simp)]; go_simp
  have hn2 : New w w1 := hn0.trans hn1
  go_wp2
  refine bodyPost_ret (v := .agg #[.int .i64 k, .int .i64 p, .slice (some ⟨g, 0, none⟩) n n]) (by simp [results, Tryz.results9, go_sem, d0, d1, d2]) rfl ⟨g, rfl, by omega, ?_, ?_⟩
  · refine own_turn (S := fun i => i = w.heap.size + 1 ∨ i = w.heap.size + 1 + 1) ho ?_ (by omega)
    exact Turn.set (Turn.set (Turn.set (Turn.set (Turn.refl _ _) (Or.inr rfl) _) (Or.inl rfl) _) (Or.inl rfl) _) (Or.inl rfl) _
  · exact (((hn2.setCell (by simp; omega) _).setCell (by simp) _).setCell (by simp) _).setCell (by simp) _

theorem eqEvent_any (k p : Int) (a b : Option Addr) (n c d : Nat) (zs : List Int) (w : World) (ha : BsAt w a zs) (hb : BsAt w b zs) (hn : zs.length = n) (hm : n ≤ 1048576) :
    Calls Tryz.prog 13 #[.agg #[.int .i64 k, .int .i64 p, .slice a n c], .agg #[.int .i64 k, .int .i64 p, .slice b n d]] w fun e w' => e = .returned (.bool true) ∧ New w w' := by
  have hk : (k != k) = false := by simp
  have hp : (p != p) = false := by simp
  have hw := ((New.refl w).alloc (.cells #[.int .i64 k, .int .i64 p, .slice a n c] 52)).alloc (.cells #[.int .i64 k, .int .i64 p, .slice b n d] 52)
  go_enter Tryz.func13, Tryz.ntmps13
  go_wp2_with fail
  refine (eqBytes_any a b n c d zs _ (ha.new hw) (hb.new hw) hn hm).mono ?_
  rintro e w1 ⟨rfl, hn1⟩
  go_wp2
  go_ret
  exact ⟨rfl, hw.trans hn1⟩

end Go.Proofs.YtdbnmkffinhdjaaGreat
