/- What is proved here: what the iterator over entries tells, for every list of at most 1048576 bytes: each entry and where it ends, in order. -/
import Derived.RangeFuncNested
import Derived.RangeFuncBound
import Derived.RangeFuncCalls
import Derived.RangeFuncLeaves
import Derived.Shelf.Abstract
import Derived.Shelf.RegionOpen
import Derived.WalkKit
import Derived.OwnWalkIn
import Derived.TacticsInMore
import Derived.LoopNIn
import Derived.LoopIn
import Derived.Test.YtdkjgjjkjfeodaaE10Ea
namespace Go.Proofs.Ytdkjgjjkjfeodaa
open Go.RowKit Go.Shelf
set_option linter.unusedVariables false
set_option linter.unusedSimpArgs false
set_option maxRecDepth 100000
attribute [local go_sem] Oper.semAt_some

/-- An entry as it is told: its place, where its bytes lie. -/
structure EI (a : Option Addr) (zs : List Int) where
  t : Nat
  q : Addr
  cap : Nat
  pos : 0 < eSz (zs.drop t)
  rd : ∀ W, BsAt W a zs → BsAt W (some q) (((zs.drop t).drop 8).take (eSz (zs.drop t) - 8))
def EI.cs {a : Option Addr} {zs : List Int} (x : EI a zs) : Array Value := #[.int .i64 (numAt (zs.drop x.t) 3 2), .int .i64 (zs[x.t + 5]?.getD 0), .int .i64 (zs[x.t + 6]?.getD 0), .slice (some x.q) (eSz (zs.drop x.t) - 8) x.cap]
def EI.enc {a : Option Addr} {zs : List Int} (x : EI a zs) : Array Value := #[.int .i64 ((x.t : Int) + (eSz (zs.drop x.t) : Int)), .agg x.cs]

/-- What a round keeps: all below n0, and the block Bs. -/
def Kp10 (n0 Bs : Nat) (W W' : World) : Prop := Below n0 W W' ∧ W'.heap[Bs]? = W.heap[Bs]?
theorem Kp10.refl (n0 Bs : Nat) (W : World) : Kp10 n0 Bs W W := ⟨Below.refl _ _, rfl⟩
theorem Kp10.trans {n0 Bs : Nat} {A B C : World} (h : Kp10 n0 Bs A B) (k : Kp10 n0 Bs B C) : Kp10 n0 Bs A C := ⟨h.1.trans k.1, k.2.trans h.2⟩
theorem Kp10.new {n0 Bs : Nat} {A B : World} (h : New A B) (h0 : n0 ≤ A.heap.size) (hB : Bs < A.heap.size) : Kp10 n0 Bs A B := ⟨h.below.mono h0, h.block Bs hB (fun f => f)⟩

theorem grown_of_new {w w' : World} (h : New w w') : w.grownBy w' none := ⟨h.os, h.tape, h.output, h.size, fun k hk _ => h.block k hk (fun f => f)⟩
theorem BsAt.belowB {w w' : World} {a : Option Addr} {zs : List Int} {n0 : Nat} (h : BsAt w a zs) (k : Below n0 w w') (hb : ∀ x, zs ≠ [] → a = some x → x.block < n0) : BsAt w' a zs := by
  refine h.turnZ (S := fun i => n0 ≤ i) ⟨k.os, k.tape, k.output, k.size, fun i _ hs => k.block i (by omega)⟩ ?_
  intro x hz hx
  have := hb x hz hx
  omega

theorem cutT {W : World} {b off c n t : Nat} {zs : List Int} (h : BsAt W (some ⟨b, off, none⟩) zs) (hn : zs.length = n) (hc : n ≤ c) (ht : t ≤ n) : BsAt W (if c = t then some ⟨b, off, none⟩ else some ⟨b, off + t, none⟩) (zs.drop t) := by
  intro i z hz
  have hi : i < (zs.drop t).length := by
    rcases Nat.lt_or_ge i (zs.drop t).length with h | h
    · exact h
    · rw [List.getElem?_eq_none h] at hz; cases hz
  simp only [List.length_drop] at hi
  rw [if_neg (by omega)]
  rw [List.getElem?_drop] at hz
  obtain ⟨b', o', e, hcell, hb⟩ := h (t + i) z hz
  simp only [Option.some.injEq, Addr.mk.injEq, and_true] at e
  obtain ⟨rfl, rfl⟩ := e
  exact ⟨b, off + t, rfl, by rw [Nat.add_assoc]; exact hcell, hb⟩

theorem arr4v {cs : Array Value} (h : cs.size = 4) : ∃ c0 c1 c2 c3, cs = #[c0, c1, c2, c3] := by
  obtain ⟨l⟩ := cs
  match l, h with
  | [c0, c1, c2, c3], _ => exact ⟨c0, c1, c2, c3, rfl⟩

set_option maxHeartbeats 2000000 in
theorem entries1_in (l Bs n0 b off n c : Nat) (zs : List Int) (hn : zs.length = n) (hc : n ≤ c) (hm : n ≤ 1048576) (hb : b < n0) (J Jx : List (EI (some ⟨b, off, none⟩) zs) → World → Prop) (W : World) (hJn : ∀ pre A B, J pre A → New A B → J pre B)
    (hY : ∀ pre x W1, J pre W1 → pre.length < zs.length → YieldAt Fence.wide (3 - 1) Try.prog l (EI.enc x) W1 fun e W' =>
      (e = .returned (.bool true) ∧ J (pre ++ [x]) W' ∧ Kp10 n0 Bs W1 W') ∨ (e = .returned (.bool false) ∧ Jx (pre ++ [x]) W'))
    (hn0 : n0 ≤ W.heap.size) (hBs : Blk W Bs 22 #[.slice (some ⟨b, off, none⟩) n c]) (hz : BsAt W (some ⟨b, off, none⟩) zs) (h0 : J [] W) :
    CallsIn Fence.wide 3 Try.prog 61 #[.func (.yield l) #[] #[], .pointer (some ⟨Bs, 0, none⟩)] W fun e W' => (∃ v, e = .returned v) ∧
      ((∃ ys, (∃ t, Come zs (ys.map EI.t) t ∧ ¬ 0 < eSz (zs.drop t)) ∧ J ys W') ∨ (∃ pre, (∃ t, Come zs (pre.map EI.t) t) ∧ Jx pre W')) := by
  have hro : Fence.wide.round = none := rfl
  refine callsIn_of_wp Try.func61 rfl trivial ?_ hro
  simp only [Try.ntmps61, List.size_toArray, List.length_cons, List.length_nil, Nat.reduceAdd, Nat.reduceSub, Array.replicate_succ, Array.replicate_zero, List.push_toArray, List.append_toArray, List.nil_append, List.cons_append]
  gi_wp2
  gi_loopw [3] (fun p wr => ∃ (pre : List (EI (some ⟨b, off, none⟩) zs)) (t : Nat), p = .int .i64 t ∧ Come zs (pre.map EI.t) t ∧ J pre wr ∧ Kp10 n0 Bs W wr) (fun p _ => n - (intOf p).toNat)
  case atStart => exact ⟨[], 0, rfl, Come.nil, h0, Kp10.refl _ _ _⟩
  case round =>
    obtain ⟨pre, t, rfl, hcm, hJs, hk⟩ := hrel
    have ht := hcm.le
    rw [hn] at ht
    have bS : Blk wr Bs 22 #[.slice (some ⟨b, off, none⟩) n c] := hk.2.trans hBs
    have cS := bS.cells
    have hzr := hz.belowB hk.1 (by intro x _ hx; obtain rfl := Option.some.inj hx; exact hb)
    have ht0 : (0 : Int) ≤ (t : Int) := by omega
    have ht1 : (t : Int) ≤ (n : Int) := by omega
    have hcut := cutT hzr hn hc ht
    have hdl : (zs.drop t).length = n - t := by simp [hn]
    have hlr : n0 ≤ wr.heap.size := Nat.le_trans hn0 hk.1.size
    by_cases hp : 0 < eSz (zs.drop t)
    · have h8 := eSz_ge hp
      have hle := eSz_le (zs.drop t)
      rw [hdl] at hle
      have hlen := hcm.len
      rw [if_neg (by omega : ¬ c = t)] at hcut
      have hEA := implEA _ (n - t) (c - t) (zs.drop t) _ hcut hdl (by omega) (by omega)
      gi_wp2_with fail
      refine ⟨trivial, ?_⟩
      refine (callsIn_wide.2 hEA).mono ?_
      clear hEA
      rintro e w2 ⟨v, rfl, hn2, -, hv⟩
      obtain ⟨q, rfl, hrd⟩ := hv hp
      have hJ2 := hJn _ _ _ hJs (hn2.alloc (.cells #[.int .i64 (numAt (zs.drop t) 3 2), .int .i64 (zs[t + 5]?.getD 0), .int .i64 (zs[t + 6]?.getD 0), .slice (some q) (eSz (zs.drop t) - 8) (c - t - 8)] 40))
      have hk2 : Kp10 n0 Bs wr (w2.alloc (.cells #[.int .i64 (numAt (zs.drop t) 3 2), .int .i64 (zs[t + 5]?.getD 0), .int .i64 (zs[t + 6]?.getD 0), .slice (some q) (eSz (zs.drop t) - 8) (c - t - 8)] 40)) := Kp10.new (hn2.alloc _) hlr bS.lt
      obtain ⟨x, hx⟩ : ∃ x : EI (some ⟨b, off, none⟩) zs, x = ⟨t, q, c - t - 8, hp, fun X hX => hrd X (by have h' := cutT hX hn hc ht; rwa [if_neg (by omega : ¬ c = t)] at h')⟩ := ⟨_, rfl⟩
      have hxt : x.t = t := by rw [hx]
      obtain ⟨fn, tmps, assign, body, hy, hR⟩ := hY pre x _ hJ2 (by simp at hlen; omega)
      rw [hx] at hy
      dsimp only [EI.enc, EI.cs] at hy
      clear hv hx hrd
      gi_wp2
      refine hR.mono ?_
      rintro e W3 (⟨rfl, hJ3, hk3⟩ | ⟨rfl, hJx3⟩)
      · gi_wp2
        go_roundw
        case rel => exact ⟨pre ++ [x], t + eSz (zs.drop t), by push_cast; rfl, by have := hcm.snoc hp; rw [List.map_append, List.map_cons, List.map_nil, hxt]; exact this, hJ3, hk.trans (hk2.trans hk3)⟩
        case measure => simp [intOf]; omega
      · gi_wp2
        refine bodyPost_ret (results_none rfl _ _ _) rfl ?_
        exact ⟨⟨_, rfl⟩, .inr ⟨pre ++ [x], ⟨t + eSz (zs.drop t), by have := hcm.snoc hp; rw [List.map_append, List.map_cons, List.map_nil, hxt]; exact this⟩, hJx3⟩⟩
    · have hE : eSz (zs.drop t) = 0 := by omega
      have hE' : ((eSz (zs.drop t) : Nat) : Int) = 0 := by omega
      gi_wp2_with fail
      · have hEA := implEA (some ⟨b, off, none⟩) (n - t) 0 (zs.drop t) wr (by rw [List.drop_eq_nil_of_le (by omega)]; exact BsAt.nil _ _) hdl (by omega) (by omega)
        refine ⟨trivial, ?_⟩
        refine (callsIn_wide.2 hEA).mono ?_
        clear hEA
        rintro e w2 ⟨v, rfl, hn2, hv, -⟩
        obtain rfl := hv hE
        rw [hE']
        gi_wp2
        refine bodyPost_ret (results_none rfl _ _ _) rfl ?_
        exact ⟨⟨_, rfl⟩, .inl ⟨pre, ⟨t, hcm, hp⟩, hJn _ _ _ hJs (hn2.alloc _)⟩⟩
      · rw [if_neg ‹¬ c = t›] at hcut
        have hEA := implEA _ (n - t) (c - t) (zs.drop t) _ hcut hdl (by omega) (by omega)
        refine ⟨trivial, ?_⟩
        refine (callsIn_wide.2 hEA).mono ?_
        clear hEA
        rintro e w2 ⟨v, rfl, hn2, hv, -⟩
        obtain rfl := hv hE
        rw [hE']
        gi_wp2
        refine bodyPost_ret (results_none rfl _ _ _) rfl ?_
        exact ⟨⟨_, rfl⟩, .inl ⟨pre, ⟨t, hcm, hp⟩, hJn _ _ _ hJs (hn2.alloc _)⟩⟩

/-- A slice that may be cut: nil, or bytes that lie in memory. -/
def Sl10 (w : World) (a : Option Addr) (n c : Nat) : Prop := (a = none ∧ n = 0 ∧ c = 0) ∨ ∃ b off, a = some ⟨b, off, none⟩ ∧ b < w.heap.size

set_option maxHeartbeats 1000000 in
theorem entries1_nil (l Bs : Nat) (J : List (EI none []) → World → Prop) (W : World) (hJn : ∀ pre A B, J pre A → New A B → J pre B) (hBs : Blk W Bs 22 #[.slice none 0 0]) (h0 : J [] W) :
    CallsIn Fence.wide 3 Try.prog 61 #[.func (.yield l) #[] #[], .pointer (some ⟨Bs, 0, none⟩)] W fun e W' => (∃ v, e = .returned v) ∧ J [] W' := by
  have hro : Fence.wide.round = none := rfl
  refine callsIn_of_wp Try.func61 rfl trivial ?_ hro
  simp only [Try.ntmps61, List.size_toArray, List.length_cons, List.length_nil, Nat.reduceAdd, Nat.reduceSub, Array.replicate_succ, Array.replicate_zero, List.push_toArray, List.append_toArray, List.nil_append, List.cons_append]
  gi_wp2
  gi_loopw [3] (fun p wr => p = .int .i64 0 ∧ J [] wr ∧ Blk wr Bs 22 #[.slice none 0 0]) (fun _ _ => 0)
  case atStart => exact ⟨rfl, h0, hBs⟩
  case round =>
    obtain ⟨rfl, hJs, bS⟩ := hrel
    have cS := bS.cells
    gi_wp2_with fail
    have hEA := implEA none 0 0 [] wr (BsAt.nil _ _) rfl (by omega) (by omega)
    refine ⟨trivial, ?_⟩
    refine (callsIn_wide.2 hEA).mono ?_
    clear hEA
    rintro e w2 ⟨v, rfl, hn2, hv, -⟩
    obtain rfl := hv eSz_nil
    have hE' : ((eSz [] : Nat) : Int) = 0 := by rw [eSz_nil]; rfl
    rw [hE']
    gi_wp2
    refine bodyPost_ret (results_none rfl _ _ _) rfl ?_
    exact ⟨⟨_, rfl⟩, hJn _ _ _ hJs (hn2.alloc _)⟩

theorem entries_stops (Bs n0 : Nat) (a : Option Addr) (n c : Nat) (zs : List Int) (w : World) (hn : zs.length = n) (hc : n ≤ c) (hm : n ≤ 1048576) (hs : (a = none ∧ n = 0 ∧ c = 0) ∨ ∃ b off, a = some ⟨b, off, none⟩ ∧ b < n0) (hn0 : n0 ≤ w.heap.size) (hBs : Blk w Bs 22 #[.slice a n c]) (hz : BsAt w a zs) :
    SeqStopsK Fence.wide 3 Try.prog 61 #[.pointer (some ⟨Bs, 0, none⟩)] (EI.enc (a := a) (zs := zs)) (Kp10 n0 Bs) (fun ys => ∃ t, Come zs (ys.map EI.t) t ∧ ¬ 0 < eSz (zs.drop t)) (fun pre => ∃ t, Come zs (pre.map EI.t) t) zs.length w := fun l J Jx W hW hJ hJx hY h0 => by
  have hJn : ∀ pre A B, J pre A → New A B → J pre B := fun pre A B h hn => hJ pre A B none h (grown_of_new hn) (fun r e => by cases e)
  have nW : New w W := New.of_below hW (Nat.le_refl _)
  rcases hs with ⟨rfl, rfl, rfl⟩ | ⟨b, off, rfl, hb⟩
  · obtain rfl := List.eq_nil_of_length_eq_zero hn
    exact (entries1_nil l Bs J W hJn (hBs.new nW) h0).mono fun e W' ⟨he, hj⟩ => ⟨he, .inl ⟨[], ⟨0, Come.nil, by rw [List.drop_nil, eSz_nil]; omega⟩, hj⟩⟩
  · exact entries1_in l Bs n0 b off n c zs hn hc hm hb J Jx W hJn hY (Nat.le_trans hn0 nW.size) (hBs.new nW) (hz.new nW) h0

theorem entries_in (a : Option Addr) (n c : Nat) (w : World) : Calls Try.prog 40 #[.slice a n c] w fun e w' => e = .returned (.func (.func 61) #[] #[.pointer (some ⟨w.heap.size, 0, none⟩)]) ∧ w' = w.alloc (.cells #[.slice a n c] 22) := by
  go_enter Try.func40, Try.ntmps40
  go_wp2
  go_ret
  exact ⟨rfl, rfl⟩

/-- Where what has come ends. -/
def eEnd {a : Option Addr} {zs : List Int} (pre : List (EI a zs)) : Int := match pre.getLast? with | none => 0 | some x => (x.t : Int) + (eSz (zs.drop x.t) : Int)
theorem eEnd_snoc {a : Option Addr} {zs : List Int} (pre : List (EI a zs)) (x : EI a zs) : eEnd (pre ++ [x]) = (x.t : Int) + (eSz (zs.drop x.t) : Int) := by simp [eEnd]
theorem Come.last {zs : List Int} {ts : List Nat} {t : Nat} (h : Come zs ts t) : (ts = [] ∧ t = 0) ∨ ∃ ini u, ts = ini ++ [u] ∧ t = u + eSz (zs.drop u) := by
  cases h with
  | nil => exact .inl ⟨rfl, rfl⟩
  | snoc h hp => exact .inr ⟨_, _, rfl, rfl⟩
theorem come_end {a : Option Addr} {zs : List Int} {pre : List (EI a zs)} {t : Nat} (h : Come zs (pre.map EI.t) t) : eEnd pre = (t : Int) := by
  rcases List.eq_nil_or_concat pre with rfl | ⟨ini, x, rfl⟩
  · rcases h.last with ⟨_, rfl⟩ | ⟨ini, u, e, _⟩
    · rfl
    · simp at e
  · rw [List.concat_eq_append] at h ⊢
    rcases h.last with ⟨e, _⟩ | ⟨ini', u, e, rfl⟩
    · simp at e
    · rw [List.map_append, List.map_cons, List.map_nil] at e
      obtain ⟨_, e2⟩ := List.append_inj' e rfl
      simp only [List.cons.injEq, and_true] at e2
      rw [eEnd_snoc, e2]
      push_cast
      rfl

theorem kp10_b {n0 Bs : Nat} {w : World} (h0 : n0 ≤ w.heap.size) (hB : Bs < w.heap.size) : ∀ (W : World) (l : Nat) (o o' : Obj), w.heap.size ≤ l → W.heap[l]? = some o → o.isCells = false → o.isWalk = false → Kp10 n0 Bs W (W.putObj l o') :=
  fun W l o o' hl ho hc hw => ⟨belowK_b h0 W l o o' hl ho hc hw, World.putObj_heap_other (by omega)⟩

set_option maxHeartbeats 2000000 in
theorem wholeE (a : Option Addr) (n c : Nat) (zs : List Int) (w : World) (h : BsAt w a zs) (hs : Sl10 w a n c) (hn : zs.length = n) (hc : n ≤ c) (hm : n ≤ 1048576) :
    Calls Try.prog 35 #[.slice a n c] w fun e w' => e = .returned (.slice a (eUse zs 0) c) ∧ New w w' := by
  refine (callsIn_wide (n := 4)).1 ?_
  refine callsIn_of_wp_marks Try.func35 rfl trivial ?_ rfl
  simp only [Try.ntmps35, List.size_toArray, List.length_cons, List.length_nil, Nat.reduceAdd, Nat.reduceSub, Array.replicate_succ, Array.replicate_zero, List.push_toArray, List.append_toArray, List.nil_append, List.cons_append]
  gi_wp2_with (refine ⟨trivial, ?_⟩; gi_at_call 40; refine (callsIn_wide.2 (entries_in a n c _)).mono ?_; rintro e w' ⟨rfl, rfl⟩)
  have hB0 : Below w.heap.size w ((w.alloc (.cells #[.int .i64 0] 3)).alloc (.cells #[.slice a n c] 22)) := ((Below.refl _ w).alloc (Nat.le_refl _) _).alloc (by simp) _
  have bU := (Blk.mk w w.heap.size 3 #[.int .i64 0] rfl).alloc (.cells #[.slice a n c] 22)
  have bN := Blk.mk (w.alloc (.cells #[.int .i64 0] 3)) (w.heap.size + 1) 22 #[.slice a n c] (by simp)
  have hL : ((w.alloc (.cells #[.int .i64 0] 3)).alloc (.cells #[.slice a n c] 22)).heap.size = w.heap.size + 2 := by simp
  have hz := h.new (New.of_below hB0 (Nat.le_refl _))
  generalize ((w.alloc (.cells #[.int .i64 0] 3)).alloc (.cells #[.slice a n c] 22)) = w1 at *
  have hu := eUse_le zs zs.length 0 (by omega) (by omega)
  rw [hn] at hu
  refine wpIn_rangeFunc_ownG rfl (by omega) (gf := 61) (lb := #[.pointer (some ⟨w.heap.size + 1, 0, none⟩)]) rfl trivial (enters_of Try.func61 (by kernel_rfl) rfl)
    (entries_stops (w.heap.size + 1) w.heap.size a n c zs w1 hn hc hm hs (by omega) bN hz) Kp10.trans (kp10_b (by omega) (by omega)) (Below.refl _ _) (fun _ => rfl)
    (fun pre W => (W.cell? ⟨w.heap.size, 0, none⟩ = some (.int .i64 (eEnd pre)) ∧ W.frozen? ⟨w.heap.size, 0, none⟩ = false) ∧ Below w.heap.size w W)
    (fun _ _ _ => False)
    (OwnFrom.and (Own.from (fun s A B row hs hg hr => ⟨cell_kept hs.1 hg hr, (frozen_kept hs.1 hg hr).trans hs.2⟩) _) (ownFrom_below (Nat.le_refl _) (by omega)))
    (fun _ _ _ _ _ hs _ _ => hs)
    ⟨⟨bU.cells 0, bU.frees 0⟩, hB0⟩
    (fun x => { tmps := #[.slice a n c, undef, .slice none 0 0, .pointer (some ⟨w.heap.size, 0, none⟩), .int .i64 ((x.t : Int) + (eSz (zs.drop x.t) : Int)), .slice a n c, .func (.func 61) #[] #[.pointer (some ⟨w.heap.size + 1, 0, none⟩)], .int .i64 ((x.t : Int) + (eSz (zs.drop x.t) : Int)), .agg x.cs, undef, undef, undef, undef], defers := [] }) ?assign ?body ?done ?stop
  case assign =>
    intro l x W K hK
    dsimp only [EI.enc]
    gi_wp2
    exact hK
  case body =>
    rintro l pre x W ⟨⟨hc1, hf1⟩, hB⟩ _
    gi_wp2
    exact ⟨(KeepsOthers.setCell _ _ _).from _, ⟨(Below.refl w.heap.size W).setCell (p := ⟨w.heap.size, 0, none⟩) (Nat.le_refl _) _, Below.heap_setCell _ _ _ _ (by simp)⟩, ⟨by rw [eEnd_snoc]; exact World.cell?_setCell_same' _ _ _ (by rw [hc1]; rfl), by rw [World.frozen?_setCell]; exact hf1⟩, hB.setCell (p := ⟨w.heap.size, 0, none⟩) (Nat.le_refl _) _⟩
  case done =>
    rintro D ys W hD ⟨t, hcm, h0⟩ ⟨⟨hc1, _⟩, hB⟩ hK
    rw [come_end hcm, ← (hcm.all h0).2] at hc1
    have hu0 : (0 : Int) ≤ (eUse zs 0 : Int) := by omega
    have hu1 : ((eUse zs 0 : Nat) : Int) ≤ (c : Int) := by omega
    rcases hs with ⟨rfl, rfl, rfl⟩ | ⟨b, off, rfl, hb⟩
    · have hu2 : eUse zs 0 = 0 := by omega
      have HU : Hid (eUse zs 0 = 0) := hu2
      rw [hu2] at hc1
      have hc2 : W.cell? ⟨w.heap.size, 0, none⟩ = some (.int .i64 0) := hc1
      clear hc1 hu0 hu1 hu2 hu
      gi_wp2
      refine ⟨by simp, .inl ⟨_, _, rfl, run_takeDeferred hK, ?_⟩⟩
      exact ⟨_, results_tmp rfl _ _ _, (by rw [HU.out]; rfl), New.of_below (hB.trans (belowK_b (w := w) (Nat.le_refl _) W D _ _ (by omega) hK rfl rfl)) (Nat.le_refl _)⟩
    · gi_wp2
      refine ⟨by simp, .inl ⟨_, _, rfl, run_takeDeferred hK, ?_⟩⟩
      exact ⟨_, results_tmp rfl _ _ _, rfl, New.of_below (hB.trans (belowK_b (w := w) (Nat.le_refl _) W D _ _ (by omega) hK rfl rfl)) (Nat.le_refl _)⟩
  case stop =>
    rintro D c pre W _ _ h _
    exact h.elim

end Go.Proofs.Ytdkjgjjkjfeodaa
