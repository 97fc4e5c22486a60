/- What is proved here: what Len and Less of a heap of routes answer, for a heap that can be read. -/
import Derived.Test.YtjampcfikfafkaaR7Own
import Derived.Test.YtjampcfikfafkaaR7Ord
import Derived.Test.YtjampcfikfafkaaRwLib
import Derived.Deep.CutRange
namespace Go.Proofs.Ytjampcfikfafkaa
open Go.RowKit Go.Sort
set_option linter.unusedVariables false

/-- The block H points at the row b of routes; each route's path can be read. -/
structure HpAt (w : World) (H b c : Nat) (V : List Rv) : Prop where
  hd : Blk w H 59 #[.slice (some ⟨b, 0, none⟩) V.length c]
  row : OwRow w b V.length c V
  here : ∀ v ∈ V, v.here w
  ne : ¬ H = b
  far : ∀ v ∈ V, ∀ x, v.r.xs ≠ [] → v.x = some x → ¬ x.block = b ∧ ¬ x.block = H

/-- The order of the heap: the prefix, then the worth. -/
def hcmp (r s : Rt) : Int := orL [orL [cmp3 r.a s.a, cmp3 r.l s.l], cmpW r.p r.o r.md r.lc r.xs.length s.p s.o s.md s.lc s.xs.length]

theorem HpAt.new {w w' : World} {H b c : Nat} {V : List Rv} (h : HpAt w H b c V) (t : New w w') : HpAt w' H b c V := ⟨h.hd.new t, h.row.new t, fun v hv => (h.here v hv).new t, h.ne, h.far⟩

theorem len_heap (H b c : Nat) (V : List Rv) (n : Nat) (w : World) (hp : HpAt w H b c V) (hn : V.length = n) : Calls Try.prog 32 #[.pointer (some ⟨H, 0, none⟩)] w fun e w' => e = .returned (.int .i64 n) ∧ w' = w := by
  have hc := hp.hd
  rw [hn] at hc
  have cH := hc.cells
  clear hc hp hn
  go_enter Try.func32, Try.ntmps32
  go_wp2
  go_ret
  exact ⟨rfl, rfl⟩

set_option maxRecDepth 100000 in
set_option maxHeartbeats 6400000 in
theorem less_heap (H b c : Nat) (V : List Rv) (n i j : Nat) (u v : Rv) (z : Bool) (w : World) (hp : HpAt w H b c V) (hn : V.length = n) (hm : n ≤ 1048576) (hi : V[i]? = some u) (hj : V[j]? = some v) (hz : decide (hcmp u.r v.r < 0) = z) : Calls Try.prog 86 #[.pointer (some ⟨H, 0, none⟩), .int .i64 i, .int .i64 j] w fun e w' => e = .returned (.bool z) ∧ New w w' := by
  have hil : i < n := by have := (List.getElem?_eq_some_iff.1 hi).1; omega
  have hjl : j < n := by have := (List.getElem?_eq_some_iff.1 hj).1; omega
  have rt := hp.row.rt hp.here
  obtain ⟨b1, off1, p, a, l, o, nx, md, lc, x, m, d, xs, hA1, hv1, hlen, hns, hnl, hmx, q0, q1, q2, q3, q4, q5, q6, q7⟩ := rt.at i (by omega)
  obtain ⟨b2, off2, p', a', l', o', nx', md', lc', x', m', d', xs', hA2, hv2, hlen', hns', hnl', hmx', y0, y1, y2, y3, y4, y5, y6, y7⟩ := rt.at j (by omega)
  simp only [Option.some.injEq, Addr.mk.injEq, and_true] at hA1 hA2
  obtain ⟨rfl, rfl⟩ := hA1
  obtain ⟨rfl, rfl⟩ := hA2
  rw [hi] at hv1
  rw [hj] at hv2
  obtain rfl := Option.some.inj hv1
  obtain rfl := Option.some.inj hv2
  simp only [Nat.zero_add] at q0 q1 q2 q3 q4 q5 q6 q7 y0 y1 y2 y3 y4 y5 y6 y7
  have HV : Hid (decide (orL [orL [cmp3 a a', cmp3 l l'], cmpW p o md lc m p' o' md' lc' m'] < 0) = z) := by
    have e := hz
    unfold hcmp at e
    simp only [hlen, hlen'] at e
    exact e
  have hd := hp.hd
  rw [hn] at hd
  have hi0 : (0 : Int) ≤ (i : Int) := by omega
  have hj0 : (0 : Int) ≤ (j : Int) := by omega
  have hi1 : (i : Int) < (n : Int) := by omega
  have hj1 : (j : Int) < (n : Int) := by omega
  clear hv1 hv2 hi hj hz hns hns' hnl hnl' hlen hlen' rt hn hp
  go_enter Try.func86, Try.ntmps86
  go_upto_region 1 with fail
  refine hw_start (n := 16) (S := fun X => New w X) rfl (by kernel_rfl) ((New.refl _).drew) (fun hH => ?_)
  refine' hw_take 0 (some 9) _ rfl rfl (by kernel_rfl) (by kernel_rfl) (by kernel_rfl) (fun _ _ _ h => h) (by rfl) hH ?hy1 ?rest1
  case hy1 =>
    intro X hX
    go_simp
    try rfl
  simp only [Act.put, List.setIfInBounds_toArray, List.set_cons_zero, List.set_cons_succ]
  refine' hw_take 1 (some 10) _ rfl rfl (by kernel_rfl) (by kernel_rfl) (by kernel_rfl) (fun _ _ _ h => h) (by rfl) hH ?hy2 ?rest2
  case hy2 =>
    intro X hX
    go_simp
    try rfl
  simp only [Act.put, List.setIfInBounds_toArray, List.set_cons_zero, List.set_cons_succ]
  refine' hw_take 2 (some 11) _ rfl rfl (by kernel_rfl) (by kernel_rfl) (by kernel_rfl) (fun _ _ _ h => h) (by rfl) hH ?hy3 ?rest3
  case hy3 =>
    intro X hX
    have cHX := (hd.new hX).cells
    go_simp
    try rfl
  simp only [Act.put, List.setIfInBounds_toArray, List.set_cons_zero, List.set_cons_succ]
  refine' hw_take 3 (some 12) _ rfl rfl (by kernel_rfl) (by kernel_rfl) (by kernel_rfl) (fun _ _ _ h => h) (by rfl) hH ?hy4 ?rest4
  case hy4 =>
    intro X hX
    go_simp
    try rfl
  simp only [Act.put, List.setIfInBounds_toArray, List.set_cons_zero, List.set_cons_succ]
  refine' hw_take 4 (some 13) _ rfl rfl (by kernel_rfl) (by kernel_rfl) (by kernel_rfl) (fun _ _ _ h => h) (by rfl) hH ?hy5 ?rest5
  case hy5 =>
    intro X hX
    go_simp
    try rfl
  simp only [Act.put, List.setIfInBounds_toArray, List.set_cons_zero, List.set_cons_succ]
  refine' hw_take 5 (some 14) _ rfl rfl (by kernel_rfl) (by kernel_rfl) (by kernel_rfl) (fun _ _ _ h => h) (by rfl) hH ?hy6 ?rest6
  case hy6 =>
    intro X hX
    have q0X := (hX.below.cell (World.block_lt_of_cell? _ _ q0)).trans q0
    have q1X := (hX.below.cell (World.block_lt_of_cell? _ _ q1)).trans q1
    have q2X := (hX.below.cell (World.block_lt_of_cell? _ _ q2)).trans q2
    have q3X := (hX.below.cell (World.block_lt_of_cell? _ _ q3)).trans q3
    have q4X := (hX.below.cell (World.block_lt_of_cell? _ _ q4)).trans q4
    have q5X := (hX.below.cell (World.block_lt_of_cell? _ _ q5)).trans q5
    have q6X := (hX.below.cell (World.block_lt_of_cell? _ _ q6)).trans q6
    have q7X := (hX.below.cell (World.block_lt_of_cell? _ _ q7)).trans q7
    go_simp
    try rfl
  simp only [Act.put, List.setIfInBounds_toArray, List.set_cons_zero, List.set_cons_succ]
  refine' hw_take 6 (some 15) _ rfl rfl (by kernel_rfl) (by kernel_rfl) (by kernel_rfl) (fun _ _ _ h => h) (by rfl) hH ?hy7 ?rest7
  case hy7 =>
    intro X hX
    go_simp
    try rfl
  simp only [Act.put, List.setIfInBounds_toArray, List.set_cons_zero, List.set_cons_succ]
  refine' hw_take 7 (some 16) _ rfl rfl (by kernel_rfl) (by kernel_rfl) (by kernel_rfl) (fun _ _ _ h => h) (by rfl) hH ?hy8 ?rest8
  case hy8 =>
    intro X hX
    go_simp
    try rfl
  simp only [Act.put, List.setIfInBounds_toArray, List.set_cons_zero, List.set_cons_succ]
  refine' hw_take 8 (some 17) _ rfl rfl (by kernel_rfl) (by kernel_rfl) (by kernel_rfl) (fun _ _ _ h => h) (by rfl) hH ?hy9 ?rest9
  case hy9 =>
    intro X hX
    have cHX := (hd.new hX).cells
    go_simp
    try rfl
  simp only [Act.put, List.setIfInBounds_toArray, List.set_cons_zero, List.set_cons_succ]
  refine' hw_take 9 (some 18) _ rfl rfl (by kernel_rfl) (by kernel_rfl) (by kernel_rfl) (fun _ _ _ h => h) (by rfl) hH ?hy10 ?rest10
  case hy10 =>
    intro X hX
    go_simp
    try rfl
  simp only [Act.put, List.setIfInBounds_toArray, List.set_cons_zero, List.set_cons_succ]
  refine' hw_take 10 (some 19) _ rfl rfl (by kernel_rfl) (by kernel_rfl) (by kernel_rfl) (fun _ _ _ h => h) (by rfl) hH ?hy11 ?rest11
  case hy11 =>
    intro X hX
    go_simp
    try rfl
  simp only [Act.put, List.setIfInBounds_toArray, List.set_cons_zero, List.set_cons_succ]
  refine' hw_take 11 (some 20) _ rfl rfl (by kernel_rfl) (by kernel_rfl) (by kernel_rfl) (fun _ _ _ h => h) (by rfl) hH ?hy12 ?rest12
  case hy12 =>
    intro X hX
    have y0X := (hX.below.cell (World.block_lt_of_cell? _ _ y0)).trans y0
    have y1X := (hX.below.cell (World.block_lt_of_cell? _ _ y1)).trans y1
    have y2X := (hX.below.cell (World.block_lt_of_cell? _ _ y2)).trans y2
    have y3X := (hX.below.cell (World.block_lt_of_cell? _ _ y3)).trans y3
    have y4X := (hX.below.cell (World.block_lt_of_cell? _ _ y4)).trans y4
    have y5X := (hX.below.cell (World.block_lt_of_cell? _ _ y5)).trans y5
    have y6X := (hX.below.cell (World.block_lt_of_cell? _ _ y6)).trans y6
    have y7X := (hX.below.cell (World.block_lt_of_cell? _ _ y7)).trans y7
    go_simp
    try rfl
  simp only [Act.put, List.setIfInBounds_toArray, List.set_cons_zero, List.set_cons_succ]
  refine wpAnyH_ready (rs := [12, 13]) (by kernel_rfl) (by simp) ?_
  refine hw_step 12 (some 7) rfl rfl (by rfl) (fun K hK => ?_) (hw_step 13 (some 8) rfl rfl (by rfl) (fun K hK => ?_) AllReadyH.nil)
  · go_simp
    refine hK.out _ _ (hH.alloc _) (fun hH => ?_)
    simp only [Act.put, List.setIfInBounds_toArray, List.set_cons_zero, List.set_cons_succ]
    refine hw_call 13 (some 8) rfl rfl (by kernel_rfl) (by rfl) (fun K hK => ?_)
    go_simp
    refine hK.out _ _ (hH.alloc _) (fun hH => ?_)
    simp only [Act.put, List.setIfInBounds_toArray, List.set_cons_zero, List.set_cons_succ]
    have e01 : ¬ w.heap.size = w.heap.size + 1 := by omega
    have e10 : ¬ w.heap.size + 1 = w.heap.size := by omega
    have bA : Blk ((w.drew.alloc (.cells #[.int .i64 0, .int .i64 0, .int .i64 0, .int .i64 0, .slice none 0 0, .int .i64 0, .int .i64 0, .int .i64 0] 35)).alloc (.cells #[.int .i64 0, .int .i64 0, .int .i64 0, .int .i64 0, .slice none 0 0, .int .i64 0, .int .i64 0, .int .i64 0] 35)) w.heap.size 35 #[.int .i64 0, .int .i64 0, .int .i64 0, .int .i64 0, .slice none 0 0, .int .i64 0, .int .i64 0, .int .i64 0] := (Blk.mk w.drew w.heap.size 35 #[.int .i64 0, .int .i64 0, .int .i64 0, .int .i64 0, .slice none 0 0, .int .i64 0, .int .i64 0, .int .i64 0] rfl).alloc _
    have bB : Blk ((w.drew.alloc (.cells #[.int .i64 0, .int .i64 0, .int .i64 0, .int .i64 0, .slice none 0 0, .int .i64 0, .int .i64 0, .int .i64 0] 35)).alloc (.cells #[.int .i64 0, .int .i64 0, .int .i64 0, .int .i64 0, .slice none 0 0, .int .i64 0, .int .i64 0, .int .i64 0] 35)) (w.heap.size + 1) 35 #[.int .i64 0, .int .i64 0, .int .i64 0, .int .i64 0, .slice none 0 0, .int .i64 0, .int .i64 0, .int .i64 0] := Blk.mk _ _ _ _ (by simp)
    have hNA : New w ((w.drew.alloc (.cells #[.int .i64 0, .int .i64 0, .int .i64 0, .int .i64 0, .slice none 0 0, .int .i64 0, .int .i64 0, .int .i64 0] 35)).alloc (.cells #[.int .i64 0, .int .i64 0, .int .i64 0, .int .i64 0, .slice none 0 0, .int .i64 0, .int .i64 0, .int .i64 0] 35)) := ((((New.refl w).drew).alloc _).alloc _)
    refine hw_call 14 none rfl rfl (by kernel_rfl) (by rfl) (fun K hK => ?_)
    refine hw_store 35 (.tmp 7) (.tmp 14) rfl rfl w.heap.size #[.int .i64 p, .int .i64 a, .int .i64 l, .int .i64 o, .slice x m d, .int .i64 nx, .int .i64 md, .int .i64 lc] #[.int .i64 0, .int .i64 0, .int .i64 0, .int .i64 0, .slice none 0 0, .int .i64 0, .int .i64 0, .int .i64 0] rfl rfl bA (by kernel_rfl) rfl (by kernel_rfl) ?_
    have b7 := bA.rowW #[.int .i64 p, .int .i64 a, .int .i64 l, .int .i64 o, .slice x m d, .int .i64 nx, .int .i64 md, .int .i64 lc]
    have b8 := bB.rowO (B := w.heap.size) e10 #[.int .i64 p, .int .i64 a, .int .i64 l, .int .i64 o, .slice x m d, .int .i64 nx, .int .i64 md, .int .i64 lc]
    have hNB : New w (((w.drew.alloc (.cells #[.int .i64 0, .int .i64 0, .int .i64 0, .int .i64 0, .slice none 0 0, .int .i64 0, .int .i64 0, .int .i64 0] 35)).alloc (.cells #[.int .i64 0, .int .i64 0, .int .i64 0, .int .i64 0, .slice none 0 0, .int .i64 0, .int .i64 0, .int .i64 0] 35)).setRow w.heap.size #[.int .i64 p, .int .i64 a, .int .i64 l, .int .i64 o, .slice x m d, .int .i64 nx, .int .i64 md, .int .i64 lc]) := hNA.before (Turn.rowW (S := fun k => k = w.heap.size) (Turn.refl _ _) (show w.heap.size = w.heap.size from rfl) #[.int .i64 p, .int .i64 a, .int .i64 l, .int .i64 o, .slice x m d, .int .i64 nx, .int .i64 md, .int .i64 lc]) (fun i hi e => by omega)
    refine hK.out _ _ hNB (fun hH => ?_)
    simp only [Act.put]
    refine hw_call 15 none rfl rfl (by kernel_rfl) (by rfl) (fun K hK => ?_)
    refine hw_store 35 (.tmp 8) (.tmp 20) rfl rfl (w.heap.size + 1) #[.int .i64 p', .int .i64 a', .int .i64 l', .int .i64 o', .slice x' m' d', .int .i64 nx', .int .i64 md', .int .i64 lc'] #[.int .i64 0, .int .i64 0, .int .i64 0, .int .i64 0, .slice none 0 0, .int .i64 0, .int .i64 0, .int .i64 0] rfl rfl b8 (by kernel_rfl) rfl (by kernel_rfl) ?_
    have b7 := b7.rowO (B := (w.heap.size + 1)) e01 #[.int .i64 p', .int .i64 a', .int .i64 l', .int .i64 o', .slice x' m' d', .int .i64 nx', .int .i64 md', .int .i64 lc']
    have b8 := b8.rowW #[.int .i64 p', .int .i64 a', .int .i64 l', .int .i64 o', .slice x' m' d', .int .i64 nx', .int .i64 md', .int .i64 lc']
    have hNC : New w ((((w.drew.alloc (.cells #[.int .i64 0, .int .i64 0, .int .i64 0, .int .i64 0, .slice none 0 0, .int .i64 0, .int .i64 0, .int .i64 0] 35)).alloc (.cells #[.int .i64 0, .int .i64 0, .int .i64 0, .int .i64 0, .slice none 0 0, .int .i64 0, .int .i64 0, .int .i64 0] 35)).setRow w.heap.size #[.int .i64 p, .int .i64 a, .int .i64 l, .int .i64 o, .slice x m d, .int .i64 nx, .int .i64 md, .int .i64 lc]).setRow (w.heap.size + 1) #[.int .i64 p', .int .i64 a', .int .i64 l', .int .i64 o', .slice x' m' d', .int .i64 nx', .int .i64 md', .int .i64 lc']) := hNB.before (Turn.rowW (S := fun k => k = (w.heap.size + 1)) (Turn.refl _ _) (show (w.heap.size + 1) = (w.heap.size + 1) from rfl) #[.int .i64 p', .int .i64 a', .int .i64 l', .int .i64 o', .slice x' m' d', .int .i64 nx', .int .i64 md', .int .i64 lc']) (fun i hi e => by omega)
    refine hK.out _ _ hNC (fun hH => ?_)
    simp only [Act.put]
    clear bA bB hNA hNB hNC
    refine wpAnyH_done (by kernel_rfl) ?_ _
    have N1 : New w ((((w.drew.alloc (.cells #[.int .i64 0, .int .i64 0, .int .i64 0, .int .i64 0, .slice none 0 0, .int .i64 0, .int .i64 0, .int .i64 0] 35)).alloc (.cells #[.int .i64 0, .int .i64 0, .int .i64 0, .int .i64 0, .slice none 0 0, .int .i64 0, .int .i64 0, .int .i64 0] 35)).setRow w.heap.size #[.int .i64 p, .int .i64 a, .int .i64 l, .int .i64 o, .slice x m d, .int .i64 nx, .int .i64 md, .int .i64 lc]).setRow (w.heap.size + 1) #[.int .i64 p', .int .i64 a', .int .i64 l', .int .i64 o', .slice x' m' d', .int .i64 nx', .int .i64 md', .int .i64 lc']) := hH
    clear hH
    try rw [show ((((w.alloc (.cells #[.int .i64 0, .int .i64 0, .int .i64 0, .int .i64 0, .slice none 0 0, .int .i64 0, .int .i64 0, .int .i64 0] 35)).alloc (.cells #[.int .i64 0, .int .i64 0, .int .i64 0, .int .i64 0, .slice none 0 0, .int .i64 0, .int .i64 0, .int .i64 0] 35)).drew.setRow w.heap.size #[.int .i64 p, .int .i64 a, .int .i64 l, .int .i64 o, .slice x m d, .int .i64 nx, .int .i64 md, .int .i64 lc]).setRow (w.heap.size + 1) #[.int .i64 p', .int .i64 a', .int .i64 l', .int .i64 o', .slice x' m' d', .int .i64 nx', .int .i64 md', .int .i64 lc']) = ((((w.drew.alloc (.cells #[.int .i64 0, .int .i64 0, .int .i64 0, .int .i64 0, .slice none 0 0, .int .i64 0, .int .i64 0, .int .i64 0] 35)).alloc (.cells #[.int .i64 0, .int .i64 0, .int .i64 0, .int .i64 0, .slice none 0 0, .int .i64 0, .int .i64 0, .int .i64 0] 35)).setRow w.heap.size #[.int .i64 p, .int .i64 a, .int .i64 l, .int .i64 o, .slice x m d, .int .i64 nx, .int .i64 md, .int .i64 lc]).setRow (w.heap.size + 1) #[.int .i64 p', .int .i64 a', .int .i64 l', .int .i64 o', .slice x' m' d', .int .i64 nx', .int .i64 md', .int .i64 lc']) from rfl]
    generalize ((((w.drew.alloc (.cells #[.int .i64 0, .int .i64 0, .int .i64 0, .int .i64 0, .slice none 0 0, .int .i64 0, .int .i64 0, .int .i64 0] 35)).alloc (.cells #[.int .i64 0, .int .i64 0, .int .i64 0, .int .i64 0, .slice none 0 0, .int .i64 0, .int .i64 0, .int .i64 0] 35)).setRow w.heap.size #[.int .i64 p, .int .i64 a, .int .i64 l, .int .i64 o, .slice x m d, .int .i64 nx, .int .i64 md, .int .i64 lc]).setRow (w.heap.size + 1) #[.int .i64 p', .int .i64 a', .int .i64 l', .int .i64 o', .slice x' m' d', .int .i64 nx', .int .i64 md', .int .i64 lc']) = w1 at *
    go_upto_region 2 with fail
    refine hw_start (n := 12) (S := fun X => New w1 X) rfl (by kernel_rfl) ((New.refl _).drew) (fun hH => ?_)
    refine' hw_take 0 (some 21) _ rfl rfl (by kernel_rfl) (by kernel_rfl) (by kernel_rfl) (fun _ _ _ h => h) (by rfl) hH ?hy13 ?rest13
    case hy13 =>
      intro X hX
      have c7X := (b7.new hX).cells
      have c8X := (b8.new hX).cells
      go_simp
      try rfl
    simp only [Act.put, List.setIfInBounds_toArray, List.set_cons_zero, List.set_cons_succ]
    refine' hw_take 1 (some 22) _ rfl rfl (by kernel_rfl) (by kernel_rfl) (by kernel_rfl) (fun _ _ _ h => h) (by rfl) hH ?hy14 ?rest14
    case hy14 =>
      intro X hX
      have c7X := (b7.new hX).cells
      have c8X := (b8.new hX).cells
      go_simp
      try rfl
    simp only [Act.put, List.setIfInBounds_toArray, List.set_cons_zero, List.set_cons_succ]
    refine' hw_take 2 (some 23) _ rfl rfl (by kernel_rfl) (by kernel_rfl) (by kernel_rfl) (fun _ _ _ h => h) (by rfl) hH ?hy15 ?rest15
    case hy15 =>
      intro X hX
      have c7X := (b7.new hX).cells
      have c8X := (b8.new hX).cells
      go_simp
      try rfl
    simp only [Act.put, List.setIfInBounds_toArray, List.set_cons_zero, List.set_cons_succ]
    refine' hw_take 3 (some 24) _ rfl rfl (by kernel_rfl) (by kernel_rfl) (by kernel_rfl) (fun _ _ _ h => h) (by rfl) hH ?hy16 ?rest16
    case hy16 =>
      intro X hX
      have c7X := (b7.new hX).cells
      have c8X := (b8.new hX).cells
      go_simp
      try rfl
    simp only [Act.put, List.setIfInBounds_toArray, List.set_cons_zero, List.set_cons_succ]
    refine' hw_take 5 (some 26) _ rfl rfl (by kernel_rfl) (by kernel_rfl) (by kernel_rfl) (fun _ _ _ h => h) (by rfl) hH ?hy17 ?rest17
    case hy17 =>
      intro X hX
      have c7X := (b7.new hX).cells
      have c8X := (b8.new hX).cells
      go_simp
      try rfl
    simp only [Act.put, List.setIfInBounds_toArray, List.set_cons_zero, List.set_cons_succ]
    refine' hw_take 6 (some 27) _ rfl rfl (by kernel_rfl) (by kernel_rfl) (by kernel_rfl) (fun _ _ _ h => h) (by rfl) hH ?hy18 ?rest18
    case hy18 =>
      intro X hX
      have c7X := (b7.new hX).cells
      have c8X := (b8.new hX).cells
      go_simp
      try rfl
    simp only [Act.put, List.setIfInBounds_toArray, List.set_cons_zero, List.set_cons_succ]
    refine hw_call 4 (some 25) rfl rfl (by kernel_rfl) (by rfl) (fun K hK => ?_)
    go_simp
    go_at_call 49
    refine (prefs_any a l a' l' _).mono ?_
    rintro e w2 ⟨rfl, hn2⟩
    refine hK.out _ _ (hH.trans hn2) (fun hH => ?_)
    simp only [Act.put, List.setIfInBounds_toArray, List.set_cons_zero, List.set_cons_succ]
    refine hw_call 7 (some 28) rfl rfl (by kernel_rfl) (by rfl) (fun K hK => ?_)
    go_simp
    go_at_call 22
    refine (worth_any p a l o nx md lc x m d p' a' l' o' nx' md' lc' x' m' d' _ hmx hmx').mono ?_
    rintro e w3 ⟨rfl, hn3⟩
    refine hK.out _ _ (hH.trans hn3) (fun hH => ?_)
    simp only [Act.put, List.setIfInBounds_toArray, List.set_cons_zero, List.set_cons_succ]
    generalize hz1 : orL [cmp3 a a', cmp3 l l'] = z1 at *
    generalize hz2 : cmpW p o md lc m p' o' md' lc' m' = z2 at *
    have HZ1 : Hid (orL [cmp3 a a', cmp3 l l'] = z1) := hz1
    have HZ2 : Hid (cmpW p o md lc m p' o' md' lc' m' = z2) := hz2
    clear hz1 hz2
    refine hw_call 8 (some 29) rfl rfl (by kernel_rfl) (by rfl) (fun K hK => ?_)
    go_simp
    have bI := Blk.mk w3 w3.heap.size 3 #[.int .i64 z1, .int .i64 z2] rfl
    refine hK.out _ _ (hH.alloc _) (fun hH => ?_)
    simp only [Act.put, List.setIfInBounds_toArray, List.set_cons_zero, List.set_cons_succ]
    refine hw_call 9 (some 30) rfl rfl (by kernel_rfl) (by rfl) (fun K hK => ?_)
    go_simp
    go_at_call 40
    refine (or_at [z1, z2] (orL [z1, z2]) 2 _ _ rfl rfl (by omega) bI).mono ?_
    rintro e w4 ⟨rfl, hw4⟩
    subst hw4
    refine hK.out _ _ hH (fun hH => ?_)
    simp only [Act.put, List.setIfInBounds_toArray, List.set_cons_zero, List.set_cons_succ]
    refine' hw_take 10 (some 31) _ rfl rfl (by kernel_rfl) (by kernel_rfl) (by kernel_rfl) (fun _ _ _ h => h) (by rfl) hH ?hy19 ?rest19
    case hy19 =>
      intro X hX
      go_simp
      try rfl
    simp only [Act.put, List.setIfInBounds_toArray, List.set_cons_zero, List.set_cons_succ]
    refine' hw_take 11 (some 6) _ rfl rfl (by kernel_rfl) (by kernel_rfl) (by kernel_rfl) (fun _ _ _ h => h) (by rfl) hH ?hy20 ?rest20
    case hy20 =>
      intro X hX
      go_simp
      try rfl
    simp only [Act.put, List.setIfInBounds_toArray, List.set_cons_zero, List.set_cons_succ]
    refine wpAnyH_done (by kernel_rfl) ?_ _
    go_wp2
    go_ret
    refine ⟨?_, (N1.trans hH)⟩
    rw [← HV.out, ← HZ1.out, ← HZ2.out]
    rfl
  · go_simp
    refine hK.out _ _ (hH.alloc _) (fun hH => ?_)
    simp only [Act.put, List.setIfInBounds_toArray, List.set_cons_zero, List.set_cons_succ]
    refine hw_call 12 (some 7) rfl rfl (by kernel_rfl) (by rfl) (fun K hK => ?_)
    go_simp
    refine hK.out _ _ (hH.alloc _) (fun hH => ?_)
    simp only [Act.put, List.setIfInBounds_toArray, List.set_cons_zero, List.set_cons_succ]
    have e01 : ¬ w.heap.size = w.heap.size + 1 := by omega
    have e10 : ¬ w.heap.size + 1 = w.heap.size := by omega
    have bA : Blk ((w.drew.alloc (.cells #[.int .i64 0, .int .i64 0, .int .i64 0, .int .i64 0, .slice none 0 0, .int .i64 0, .int .i64 0, .int .i64 0] 35)).alloc (.cells #[.int .i64 0, .int .i64 0, .int .i64 0, .int .i64 0, .slice none 0 0, .int .i64 0, .int .i64 0, .int .i64 0] 35)) w.heap.size 35 #[.int .i64 0, .int .i64 0, .int .i64 0, .int .i64 0, .slice none 0 0, .int .i64 0, .int .i64 0, .int .i64 0] := (Blk.mk w.drew w.heap.size 35 #[.int .i64 0, .int .i64 0, .int .i64 0, .int .i64 0, .slice none 0 0, .int .i64 0, .int .i64 0, .int .i64 0] rfl).alloc _
    have bB : Blk ((w.drew.alloc (.cells #[.int .i64 0, .int .i64 0, .int .i64 0, .int .i64 0, .slice none 0 0, .int .i64 0, .int .i64 0, .int .i64 0] 35)).alloc (.cells #[.int .i64 0, .int .i64 0, .int .i64 0, .int .i64 0, .slice none 0 0, .int .i64 0, .int .i64 0, .int .i64 0] 35)) (w.heap.size + 1) 35 #[.int .i64 0, .int .i64 0, .int .i64 0, .int .i64 0, .slice none 0 0, .int .i64 0, .int .i64 0, .int .i64 0] := Blk.mk _ _ _ _ (by simp)
    have hNA : New w ((w.drew.alloc (.cells #[.int .i64 0, .int .i64 0, .int .i64 0, .int .i64 0, .slice none 0 0, .int .i64 0, .int .i64 0, .int .i64 0] 35)).alloc (.cells #[.int .i64 0, .int .i64 0, .int .i64 0, .int .i64 0, .slice none 0 0, .int .i64 0, .int .i64 0, .int .i64 0] 35)) := ((((New.refl w).drew).alloc _).alloc _)
    refine hw_call 14 none rfl rfl (by kernel_rfl) (by rfl) (fun K hK => ?_)
    refine hw_store 35 (.tmp 7) (.tmp 14) rfl rfl (w.heap.size + 1) #[.int .i64 p, .int .i64 a, .int .i64 l, .int .i64 o, .slice x m d, .int .i64 nx, .int .i64 md, .int .i64 lc] #[.int .i64 0, .int .i64 0, .int .i64 0, .int .i64 0, .slice none 0 0, .int .i64 0, .int .i64 0, .int .i64 0] rfl rfl bB (by kernel_rfl) rfl (by kernel_rfl) ?_
    have b7 := bB.rowW #[.int .i64 p, .int .i64 a, .int .i64 l, .int .i64 o, .slice x m d, .int .i64 nx, .int .i64 md, .int .i64 lc]
    have b8 := bA.rowO (B := (w.heap.size + 1)) e01 #[.int .i64 p, .int .i64 a, .int .i64 l, .int .i64 o, .slice x m d, .int .i64 nx, .int .i64 md, .int .i64 lc]
    have hNB : New w (((w.drew.alloc (.cells #[.int .i64 0, .int .i64 0, .int .i64 0, .int .i64 0, .slice none 0 0, .int .i64 0, .int .i64 0, .int .i64 0] 35)).alloc (.cells #[.int .i64 0, .int .i64 0, .int .i64 0, .int .i64 0, .slice none 0 0, .int .i64 0, .int .i64 0, .int .i64 0] 35)).setRow (w.heap.size + 1) #[.int .i64 p, .int .i64 a, .int .i64 l, .int .i64 o, .slice x m d, .int .i64 nx, .int .i64 md, .int .i64 lc]) := hNA.before (Turn.rowW (S := fun k => k = (w.heap.size + 1)) (Turn.refl _ _) (show (w.heap.size + 1) = (w.heap.size + 1) from rfl) #[.int .i64 p, .int .i64 a, .int .i64 l, .int .i64 o, .slice x m d, .int .i64 nx, .int .i64 md, .int .i64 lc]) (fun i hi e => by omega)
    refine hK.out _ _ hNB (fun hH => ?_)
    simp only [Act.put]
    refine hw_call 15 none rfl rfl (by kernel_rfl) (by rfl) (fun K hK => ?_)
    refine hw_store 35 (.tmp 8) (.tmp 20) rfl rfl w.heap.size #[.int .i64 p', .int .i64 a', .int .i64 l', .int .i64 o', .slice x' m' d', .int .i64 nx', .int .i64 md', .int .i64 lc'] #[.int .i64 0, .int .i64 0, .int .i64 0, .int .i64 0, .slice none 0 0, .int .i64 0, .int .i64 0, .int .i64 0] rfl rfl b8 (by kernel_rfl) rfl (by kernel_rfl) ?_
    have b7 := b7.rowO (B := w.heap.size) e10 #[.int .i64 p', .int .i64 a', .int .i64 l', .int .i64 o', .slice x' m' d', .int .i64 nx', .int .i64 md', .int .i64 lc']
    have b8 := b8.rowW #[.int .i64 p', .int .i64 a', .int .i64 l', .int .i64 o', .slice x' m' d', .int .i64 nx', .int .i64 md', .int .i64 lc']
    have hNC : New w ((((w.drew.alloc (.cells #[.int .i64 0, .int .i64 0, .int .i64 0, .int .i64 0, .slice none 0 0, .int .i64 0, .int .i64 0, .int .i64 0] 35)).alloc (.cells #[.int .i64 0, .int .i64 0, .int .i64 0, .int .i64 0, .slice none 0 0, .int .i64 0, .int .i64 0, .int .i64 0] 35)).setRow (w.heap.size + 1) #[.int .i64 p, .int .i64 a, .int .i64 l, .int .i64 o, .slice x m d, .int .i64 nx, .int .i64 md, .int .i64 lc]).setRow w.heap.size #[.int .i64 p', .int .i64 a', .int .i64 l', .int .i64 o', .slice x' m' d', .int .i64 nx', .int .i64 md', .int .i64 lc']) := hNB.before (Turn.rowW (S := fun k => k = w.heap.size) (Turn.refl _ _) (show w.heap.size = w.heap.size from rfl) #[.int .i64 p', .int .i64 a', .int .i64 l', .int .i64 o', .slice x' m' d', .int .i64 nx', .int .i64 md', .int .i64 lc']) (fun i hi e => by omega)
    refine hK.out _ _ hNC (fun hH => ?_)
    simp only [Act.put]
    clear bA bB hNA hNB hNC
    refine wpAnyH_done (by kernel_rfl) ?_ _
    have N1 : New w ((((w.drew.alloc (.cells #[.int .i64 0, .int .i64 0, .int .i64 0, .int .i64 0, .slice none 0 0, .int .i64 0, .int .i64 0, .int .i64 0] 35)).alloc (.cells #[.int .i64 0, .int .i64 0, .int .i64 0, .int .i64 0, .slice none 0 0, .int .i64 0, .int .i64 0, .int .i64 0] 35)).setRow (w.heap.size + 1) #[.int .i64 p, .int .i64 a, .int .i64 l, .int .i64 o, .slice x m d, .int .i64 nx, .int .i64 md, .int .i64 lc]).setRow w.heap.size #[.int .i64 p', .int .i64 a', .int .i64 l', .int .i64 o', .slice x' m' d', .int .i64 nx', .int .i64 md', .int .i64 lc']) := hH
    clear hH
    try rw [show ((((w.alloc (.cells #[.int .i64 0, .int .i64 0, .int .i64 0, .int .i64 0, .slice none 0 0, .int .i64 0, .int .i64 0, .int .i64 0] 35)).alloc (.cells #[.int .i64 0, .int .i64 0, .int .i64 0, .int .i64 0, .slice none 0 0, .int .i64 0, .int .i64 0, .int .i64 0] 35)).drew.setRow (w.heap.size + 1) #[.int .i64 p, .int .i64 a, .int .i64 l, .int .i64 o, .slice x m d, .int .i64 nx, .int .i64 md, .int .i64 lc]).setRow w.heap.size #[.int .i64 p', .int .i64 a', .int .i64 l', .int .i64 o', .slice x' m' d', .int .i64 nx', .int .i64 md', .int .i64 lc']) = ((((w.drew.alloc (.cells #[.int .i64 0, .int .i64 0, .int .i64 0, .int .i64 0, .slice none 0 0, .int .i64 0, .int .i64 0, .int .i64 0] 35)).alloc (.cells #[.int .i64 0, .int .i64 0, .int .i64 0, .int .i64 0, .slice none 0 0, .int .i64 0, .int .i64 0, .int .i64 0] 35)).setRow (w.heap.size + 1) #[.int .i64 p, .int .i64 a, .int .i64 l, .int .i64 o, .slice x m d, .int .i64 nx, .int .i64 md, .int .i64 lc]).setRow w.heap.size #[.int .i64 p', .int .i64 a', .int .i64 l', .int .i64 o', .slice x' m' d', .int .i64 nx', .int .i64 md', .int .i64 lc']) from rfl]
    generalize ((((w.drew.alloc (.cells #[.int .i64 0, .int .i64 0, .int .i64 0, .int .i64 0, .slice none 0 0, .int .i64 0, .int .i64 0, .int .i64 0] 35)).alloc (.cells #[.int .i64 0, .int .i64 0, .int .i64 0, .int .i64 0, .slice none 0 0, .int .i64 0, .int .i64 0, .int .i64 0] 35)).setRow (w.heap.size + 1) #[.int .i64 p, .int .i64 a, .int .i64 l, .int .i64 o, .slice x m d, .int .i64 nx, .int .i64 md, .int .i64 lc]).setRow w.heap.size #[.int .i64 p', .int .i64 a', .int .i64 l', .int .i64 o', .slice x' m' d', .int .i64 nx', .int .i64 md', .int .i64 lc']) = w1 at *
    go_upto_region 2 with fail
    refine hw_start (n := 12) (S := fun X => New w1 X) rfl (by kernel_rfl) ((New.refl _).drew) (fun hH => ?_)
    refine' hw_take 0 (some 21) _ rfl rfl (by kernel_rfl) (by kernel_rfl) (by kernel_rfl) (fun _ _ _ h => h) (by rfl) hH ?hy21 ?rest21
    case hy21 =>
      intro X hX
      have c7X := (b7.new hX).cells
      have c8X := (b8.new hX).cells
      go_simp
      try rfl
    simp only [Act.put, List.setIfInBounds_toArray, List.set_cons_zero, List.set_cons_succ]
    refine' hw_take 1 (some 22) _ rfl rfl (by kernel_rfl) (by kernel_rfl) (by kernel_rfl) (fun _ _ _ h => h) (by rfl) hH ?hy22 ?rest22
    case hy22 =>
      intro X hX
      have c7X := (b7.new hX).cells
      have c8X := (b8.new hX).cells
      go_simp
      try rfl
    simp only [Act.put, List.setIfInBounds_toArray, List.set_cons_zero, List.set_cons_succ]
    refine' hw_take 2 (some 23) _ rfl rfl (by kernel_rfl) (by kernel_rfl) (by kernel_rfl) (fun _ _ _ h => h) (by rfl) hH ?hy23 ?rest23
    case hy23 =>
      intro X hX
      have c7X := (b7.new hX).cells
      have c8X := (b8.new hX).cells
      go_simp
      try rfl
    simp only [Act.put, List.setIfInBounds_toArray, List.set_cons_zero, List.set_cons_succ]
    refine' hw_take 3 (some 24) _ rfl rfl (by kernel_rfl) (by kernel_rfl) (by kernel_rfl) (fun _ _ _ h => h) (by rfl) hH ?hy24 ?rest24
    case hy24 =>
      intro X hX
      have c7X := (b7.new hX).cells
      have c8X := (b8.new hX).cells
      go_simp
      try rfl
    simp only [Act.put, List.setIfInBounds_toArray, List.set_cons_zero, List.set_cons_succ]
    refine' hw_take 5 (some 26) _ rfl rfl (by kernel_rfl) (by kernel_rfl) (by kernel_rfl) (fun _ _ _ h => h) (by rfl) hH ?hy25 ?rest25
    case hy25 =>
      intro X hX
      have c7X := (b7.new hX).cells
      have c8X := (b8.new hX).cells
      go_simp
      try rfl
    simp only [Act.put, List.setIfInBounds_toArray, List.set_cons_zero, List.set_cons_succ]
    refine' hw_take 6 (some 27) _ rfl rfl (by kernel_rfl) (by kernel_rfl) (by kernel_rfl) (fun _ _ _ h => h) (by rfl) hH ?hy26 ?rest26
    case hy26 =>
      intro X hX
      have c7X := (b7.new hX).cells
      have c8X := (b8.new hX).cells
      go_simp
      try rfl
    simp only [Act.put, List.setIfInBounds_toArray, List.set_cons_zero, List.set_cons_succ]
    refine hw_call 4 (some 25) rfl rfl (by kernel_rfl) (by rfl) (fun K hK => ?_)
    go_simp
    go_at_call 49
    refine (prefs_any a l a' l' _).mono ?_
    rintro e w2 ⟨rfl, hn2⟩
    refine hK.out _ _ (hH.trans hn2) (fun hH => ?_)
    simp only [Act.put, List.setIfInBounds_toArray, List.set_cons_zero, List.set_cons_succ]
    refine hw_call 7 (some 28) rfl rfl (by kernel_rfl) (by rfl) (fun K hK => ?_)
    go_simp
    go_at_call 22
    refine (worth_any p a l o nx md lc x m d p' a' l' o' nx' md' lc' x' m' d' _ hmx hmx').mono ?_
    rintro e w3 ⟨rfl, hn3⟩
    refine hK.out _ _ (hH.trans hn3) (fun hH => ?_)
    simp only [Act.put, List.setIfInBounds_toArray, List.set_cons_zero, List.set_cons_succ]
    generalize hz1 : orL [cmp3 a a', cmp3 l l'] = z1 at *
    generalize hz2 : cmpW p o md lc m p' o' md' lc' m' = z2 at *
    have HZ1 : Hid (orL [cmp3 a a', cmp3 l l'] = z1) := hz1
    have HZ2 : Hid (cmpW p o md lc m p' o' md' lc' m' = z2) := hz2
    clear hz1 hz2
    refine hw_call 8 (some 29) rfl rfl (by kernel_rfl) (by rfl) (fun K hK => ?_)
    go_simp
    have bI := Blk.mk w3 w3.heap.size 3 #[.int .i64 z1, .int .i64 z2] rfl
    refine hK.out _ _ (hH.alloc _) (fun hH => ?_)
    simp only [Act.put, List.setIfInBounds_toArray, List.set_cons_zero, List.set_cons_succ]
    refine hw_call 9 (some 30) rfl rfl (by kernel_rfl) (by rfl) (fun K hK => ?_)
    go_simp
    go_at_call 40
    refine (or_at [z1, z2] (orL [z1, z2]) 2 _ _ rfl rfl (by omega) bI).mono ?_
    rintro e w4 ⟨rfl, hw4⟩
    subst hw4
    refine hK.out _ _ hH (fun hH => ?_)
    simp only [Act.put, List.setIfInBounds_toArray, List.set_cons_zero, List.set_cons_succ]
    refine' hw_take 10 (some 31) _ rfl rfl (by kernel_rfl) (by kernel_rfl) (by kernel_rfl) (fun _ _ _ h => h) (by rfl) hH ?hy27 ?rest27
    case hy27 =>
      intro X hX
      go_simp
      try rfl
    simp only [Act.put, List.setIfInBounds_toArray, List.set_cons_zero, List.set_cons_succ]
    refine' hw_take 11 (some 6) _ rfl rfl (by kernel_rfl) (by kernel_rfl) (by kernel_rfl) (fun _ _ _ h => h) (by rfl) hH ?hy28 ?rest28
    case hy28 =>
      intro X hX
      go_simp
      try rfl
    simp only [Act.put, List.setIfInBounds_toArray, List.set_cons_zero, List.set_cons_succ]
    refine wpAnyH_done (by kernel_rfl) ?_ _
    go_wp2
    go_ret
    refine ⟨?_, (N1.trans hH)⟩
    rw [← HV.out, ← HZ1.out, ← HZ2.out]
    rfl

end Go.Proofs.Ytjampcfikfafkaa
