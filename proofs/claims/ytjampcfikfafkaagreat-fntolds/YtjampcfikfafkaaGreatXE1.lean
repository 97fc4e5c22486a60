/- What is proved here: how structs that lie in blocks are loaded and stored, whole, in a region that draws its order. No condition. What is proved here: what Len and Less of a heap of routes answer, for a heap that can be read. What is proved here: what Swap of a heap of routes does, for a heap that can be read. What is proved here: plain facts on heaps; no run of the program. No condition but those of an order. What is proved here: the order of the heap of routes, and swaps, as facts on lists; no run of the program. No condition. What is proved here: what container/heap's up does at a heap of routes, for a heap that can be read. What is proved here: what container/heap's down does at a heap of routes, for a heap that can be read. What is proved here: what Pop of a heap of routes, and container/heap's Pop, answer, for a heap that can be read. What is proved here: what Push of a heap of routes, and container/heap's Push, do, for a heap that can be read. What is proved here: what container/heap's Push does, and what the program's heap of a list of routes is, for a list that can be read. What is proved here: what the program's heap of a list of routes is, for a list that can be read. What is proved here: a range over a method value whose iterator turns memory that lay ahead of the loop; and what the heap's iterator hands over first. -/
import Derived.Test.YtjampcfikfafkaaGreatBytes
import Derived.Deep.RegionHeld3
import Derived.Laws.Tables
import Derived.Laws.Rows
import Derived.Test.YtjampcfikfafkaaGreatR7Own
import Derived.Test.YtjampcfikfafkaaGreatR7Ord
import Derived.Deep.CutRange
import Derived.Deep.MidRow
import Derived.Handy
import Derived.RangeFuncNested
import Derived.RangeFuncBound
import Derived.RangeFuncCalls
import Derived.RangeFuncLeaves
import Derived.Shelf.Abstract
import Derived.Shelf.RegionOpen
import Derived.WalkKit
import Derived.OwnWalkIn
import Derived.TacticsInMore
import Derived.LoopNIn
import Derived.LoopIn
namespace Go.Proofs.YtjampcfikfafkaaGreat
open Go.RowKit

theorem Turn.rowW {a w : World} {B : Nat} {S : Nat → Prop} (h : Turn S a w) (hS : S B) (cs : Array Value) : Turn S a (w.setRow B cs) :=
  ⟨h.os, h.tape, h.output, by simpa [World.setRow] using h.size, fun k hk hs => (setRow_other w B k cs (fun e => hs (e ▸ hS))).trans (h.block k hk hs)⟩
theorem Blk.rowW {w : World} {B : Nat} {t : TypeId} {old : Array Value} (h : Blk w B t old) (cs : Array Value) : Blk (w.setRow B cs) B t cs := setRow_heap w B old cs t (0, 0) h
theorem Blk.rowO {w : World} {B C : Nat} {t : TypeId} {cs : Array Value} (h : Blk w C t cs) (hne : ¬ C = B) (ds : Array Value) : Blk (w.setRow B ds) C t cs := (setRow_other w B C ds hne).trans h
theorem Turn.drewW {S : Nat → Prop} {a w : World} (h : Turn S a w) : Turn S a w.drew := ⟨h.os, h.tape, h.output, h.size, h.block⟩

/-- A struct that lies in a block is loaded, whole, wherever the block is known. -/
theorem yields_load_blk {P : Program} {ops : Array Oper} {S : World → Prop} {op : Oper} {a : Act} (hw : Region.wanted op (yielded ops a.tmps) = true) (ty : TypeId) (x : Operand) (ho : op.op = .load ty x)
    (B : Nat) (hx : a.eval x = .pointer (some ⟨B, 0, none⟩)) (cs : Array Value) (d : TypeDesc) (hS : ∀ w, S w → Blk w B ty cs)
    (hu : P.underlying ty = some d) (hd : (match d with | .struct _ | .array _ _ => true | _ => false) = true) (hi : (P.info? ty).map (·.size) = some cs.size) : YieldsIf P ops S op (.agg cs) a :=
  .inl ⟨hw, fun w hw' => by
    unfold execOp
    simp only [ho, hx, Instr.loadAt, Instr.sureAddr, Sem.run_bind, Sem.run_pure, Result.andThen_ok, run_loadVar_row w B ty ty cs (0, 0) d (hS w hw') hu hd hi]⟩

/-- What is walked under more is walked under less. -/
theorem wpAnyH_more {P : Program} {md : Region.Mode} {ops : Array Oper} {Q : Exit → Act → World → Prop} {S S' : World → Prop} (hs : ∀ w, S' w → S w) : ∀ (fuel : Nat) (listed : Array Bool) (a : Act) (w : World), wpAnyH P md ops Q S' fuel listed a w → wpAnyH P md ops Q S fuel listed a w
  | 0, _, _, _, h => h
  | fuel + 1, _, _, _, h => ⟨h.1, fun i hi => wpOp_mono (fun a' w' h3 => ⟨hs _ h3.1, wpAnyH_more hs fuel _ a' w' h3.2⟩) (h.2 i hi)⟩

/-- A struct that lies in a block is loaded, whole. -/
theorem run_load_blk {P : Program} {op : Oper} {a : Act} {w : World} (ty : TypeId) (x : Operand) (ho : op.op = .load ty x) (B : Nat) (hx : a.eval x = .pointer (some ⟨B, 0, none⟩)) (cs : Array Value) (d : TypeDesc) (hb : Blk w B ty cs)
    (hu : P.underlying ty = some d) (hd : (match d with | .struct _ | .array _ _ => true | _ => false) = true) (hi : (P.info? ty).map (·.size) = some cs.size) : (execOp a.eval op).run P w = .ok (.value (.agg cs)) w := by
  unfold execOp
  simp only [ho, hx, Instr.loadAt, Instr.sureAddr, Sem.run_bind, Sem.run_pure, Result.andThen_ok, run_loadVar_row w B ty ty cs (0, 0) d hb hu hd hi]

section
variable {P : Program} {ops : Array Oper} {Q : Exit → Act → World → Prop} {md : Region.Mode} {S : World → Prop}
/-- The beginning of a walk by hand through a region that draws its order. -/
theorem hw_start {id n : Nat} {a : Act} {w : World} (hn : ops.size = n) (hm : P.follows .mixedOrders = true) (hS : S w.drew) (h : S w.drew → wpAnyH P .any ops Q S n (Array.replicate n false) a w.drew) : (Code.region id ops true).wp P Q a w := by
  subst hn
  exact wp_region_held_drew hm hS h
/-- An operation that only yields is taken first. -/
theorem hw_take {fuel : Nat} {listed : Array Bool} {a : Act} {w : World} (i : Nat) (d : Option Tmp) (v : Value) {oi : Oper} (hi : ops[i]? = some oi) (hd : oi.dst = d)
    (hs : Region.noSelect ops = true) (hf : Region.free md ops listed i = true) (hr : (Region.ready md ops listed).contains i = true)
    (hQ : ∀ c a w, Q (.panic c) (a.put d v) w → Q (.panic c) a w) (hw : Region.wanted oi (yielded ops a.tmps) = true) (hS : S w) (hy : ∀ w, S w → (execOp a.eval oi).run P w = .ok (.value v) w)
    (h : wpAnyH P md ops Q S fuel (listed.setIfInBounds i true) (a.put d v) w) : wpAnyH P md ops Q S (fuel + 1) listed a w := by
  subst hd
  exact wpAnyH_take hi hs hf hr hQ (.inl ⟨hw, hy⟩) hS h
/-- The one operation that may come up is run. -/
theorem hw_call {fuel : Nat} {listed : Array Bool} {a : Act} {w : World} (i : Nat) (d : Option Tmp) {oi : Oper} (hi : ops[i]? = some oi) (hd : oi.dst = d) (hr : Region.ready md ops listed = [i]) (hw : Region.wanted oi (yielded ops a.tmps) = true)
    (h : ∀ K' : Act → World → Prop, Shut (∀ u w', S w' → (S w' → wpAnyH P md ops Q S fuel (listed.setIfInBounds i true) (a.put d u) w') → K' (a.put d u) w') → Oper.wp P oi a w K' Q) : wpAnyH P md ops Q S (fuel + 1) listed a w := by
  subst hd
  refine wpAnyH_ready hr (by simp) ?_
  intro j hj
  obtain rfl := List.mem_singleton.1 hj
  refine wpOp_step hi (fun K' hK => ?_)
  rw [if_pos hw]
  exact h K' (fun u w' hS' hW => hK _ _ ⟨hS', hW hS'⟩)
/-- One of those that may come up is run. -/
theorem hw_step {fuel : Nat} {listed : Array Bool} {a : Act} {w : World} {rs : List Nat} (i : Nat) (d : Option Tmp) {oi : Oper} (hi : ops[i]? = some oi) (hd : oi.dst = d) (hw : Region.wanted oi (yielded ops a.tmps) = true)
    (h : ∀ K' : Act → World → Prop, Shut (∀ u w', S w' → (S w' → wpAnyH P md ops Q S fuel (listed.setIfInBounds i true) (a.put d u) w') → K' (a.put d u) w') → Oper.wp P oi a w K' Q) (hs : AllReadyH P md ops Q S fuel listed a w rs) : AllReadyH P md ops Q S fuel listed a w (i :: rs) := by
  subst hd
  intro j hj
  rcases List.mem_cons.1 hj with rfl | hj
  · refine wpOp_step hi (fun K' hK => ?_)
    rw [if_pos hw]
    exact h K' (fun u w' hS' hW => hK _ _ ⟨hS', hW hS'⟩)
  · exact hs j hj
/-- A struct is stored, whole, into a block that is known. -/
theorem hw_store {a : Act} {w : World} {K : Act → World → Prop} (ty : TypeId) (x y : Operand) {oi : Oper} (ho : oi.op = .store ty x y) (hd : oi.dst = none) (B : Nat) (cs old : Array Value) (hx : a.eval x = .pointer (some ⟨B, 0, none⟩)) (hy : a.eval y = .agg cs)
    (hb : Blk w B ty old) (hi : (P.info? ty).map (·.size) = some cs.size) (hold : old.size = cs.size) (h1 : cs.all (·.oneCell') = true) (h : K (a.put none undef) (w.setRow B cs)) : Oper.wp P oi a w K Q := by
  refine wp_store_row ty x y ho B cs hx hy ty old hb hi hold h1 ?_
  rw [hd]
  exact h
end

theorem results_row3 {fn : Func} {t0 t1 t2 : Tmp} {ty0 ty1 ty2 : TypeId} {P : Program} {w : World} {tmps : Array Value} {B0 B1 B2 : Nat} {cs0 cs1 cs2 : Array Value} (h : fn.results = #[.cell t0 ty0, .cell t1 ty1, .cell t2 ty2])
    (ht0 : tmps[t0]? = some (.pointer (some ⟨B0, 0, none⟩))) (ht1 : tmps[t1]? = some (.pointer (some ⟨B1, 0, none⟩))) (ht2 : tmps[t2]? = some (.pointer (some ⟨B2, 0, none⟩)))
    (hb0 : Blk w B0 ty0 cs0) (hb1 : Blk w B1 ty1 cs1) (hb2 : Blk w B2 ty2 cs2)
    (hu0 : ∃ fs, P.underlying ty0 = some (.struct fs)) (hu1 : ∃ fs, P.underlying ty1 = some (.struct fs)) (hu2 : ∃ fs, P.underlying ty2 = some (.struct fs))
    (hi0 : (P.info? ty0).map (·.size) = some cs0.size) (hi1 : (P.info? ty1).map (·.size) = some cs1.size) (hi2 : (P.info? ty2).map (·.size) = some cs2.size) :
    (results fn tmps).run P w = .ok (.tuple #[.agg cs0, .agg cs1, .agg cs2]) w := by
  obtain ⟨f0, hu0⟩ := hu0
  obtain ⟨f1, hu1⟩ := hu1
  obtain ⟨f2, hu2⟩ := hu2
  have hl0 := run_loadVar_row (P := P) w B0 ty0 ty0 cs0 (0, 0) (.struct f0) hb0 hu0 rfl hi0
  have hl1 := run_loadVar_row (P := P) w B1 ty1 ty1 cs1 (0, 0) (.struct f1) hb1 hu1 rfl hi1
  have hl2 := run_loadVar_row (P := P) w B2 ty2 ty2 cs2 (0, 0) (.struct f2) hb2 hu2 rfl hi2
  simp [results, h, ht0, ht1, ht2, asAddr, hl0, hl1, hl2]

end Go.Proofs.YtjampcfikfafkaaGreat

namespace Go.Proofs.YtjampcfikfafkaaGreat
open Go.RowKit Go.Sort
set_option linter.unusedVariables false

/-- The block H points at the row b of routes; each route's path can be read. -/
structure HpAt (w : World) (H b c : Nat) (V : List Rv) : Prop where
  hd : Blk w H 118 #[.slice (some ⟨b, 0, none⟩) V.length c]
  row : OwRow w b V.length c V
  here : ∀ v ∈ V, v.here w
  ne : ¬ H = b
  far : ∀ v ∈ V, ∀ x, v.r.xs ≠ [] → v.x = some x → ¬ x.block = b ∧ ¬ x.block = H

/-- The order of the heap: the prefix, then the worth. -/
def hcmp (r s : Rt) : Int := orL [orL [cmp3 r.a s.a, cmp3 r.l s.l], cmpW r.p r.o r.md r.lc r.xs.length s.p s.o s.md s.lc s.xs.length]

theorem HpAt.new {w w' : World} {H b c : Nat} {V : List Rv} (h : HpAt w H b c V) (t : New w w') : HpAt w' H b c V := ⟨h.hd.new t, h.row.new t, fun v hv => (h.here v hv).new t, h.ne, h.far⟩

theorem len_heap (H b c : Nat) (V : List Rv) (n : Nat) (w : World) (hp : HpAt w H b c V) (hn : V.length = n) : Calls Tryz.prog 79 #[.pointer (some ⟨H, 0, none⟩)] w fun e w' => e = .returned (.int .i64 n) ∧ w' = w := by
  have hc := hp.hd
  rw [hn] at hc
  have cH := hc.cells
  clear hc hp hn
  go_enter Tryz.func79, Tryz.ntmps79
  go_wp2
  go_ret
  exact ⟨rfl, rfl⟩

set_option maxRecDepth 100000 in
set_option maxHeartbeats 6400000 in
theorem less_heap (H b c : Nat) (V : List Rv) (n i j : Nat) (u v : Rv) (z : Bool) (w : World) (hp : HpAt w H b c V) (hn : V.length = n) (hm : n ≤ 1048576) (hi : V[i]? = some u) (hj : V[j]? = some v) (hz : decide (hcmp u.r v.r < 0) = z) : Calls Tryz.prog 151 #[.pointer (some ⟨H, 0, none⟩), .int .i64 i, .int .i64 j] w fun e w' => e = .returned (.bool z) ∧ New w w' := by
  have hil : i < n := by have := (List.getElem?_eq_some_iff.1 hi).1; omega
  have hjl : j < n := by have := (List.getElem?_eq_some_iff.1 hj).1; omega
  have rt := hp.row.rt hp.here
  obtain ⟨b1, off1, p, a, l, o, nx, md, lc, x, m, d, xs, hA1, hv1, hlen, hns, hnl, hmx, q0, q1, q2, q3, q4, q5, q6, q7⟩ := rt.at i (by omega)
  obtain ⟨b2, off2, p', a', l', o', nx', md', lc', x', m', d', xs', hA2, hv2, hlen', hns', hnl', hmx', y0, y1, y2, y3, y4, y5, y6, y7⟩ := rt.at j (by omega)
  simp only [Option.some.injEq, Addr.mk.injEq, and_true] at hA1 hA2
  obtain ⟨rfl, rfl⟩ := hA1
  obtain ⟨rfl, rfl⟩ := hA2
  rw [hi] at hv1
  rw [hj] at hv2
  obtain rfl := Option.some.inj hv1
  obtain rfl := Option.some.inj hv2
  simp only [Nat.zero_add] at q0 q1 q2 q3 q4 q5 q6 q7 y0 y1 y2 y3 y4 y5 y6 y7
  have HV : Hid (decide (orL [orL [cmp3 a a', cmp3 l l'], cmpW p o md lc m p' o' md' lc' m'] < 0) = z) := by
    have e := hz
    unfold hcmp at e
    simp only [hlen, hlen'] at e
    exact e
  have hd := hp.hd
  rw [hn] at hd
  have hi0 : (0 : Int) ≤ (i : Int) := by omega
  have hj0 : (0 : Int) ≤ (j : Int) := by omega
  have hi1 : (i : Int) < (n : Int) := by omega
  have hj1 : (j : Int) < (n : Int) := by omega
  clear hv1 hv2 hi hj hz hns hns' hnl hnl' hlen hlen' rt hn hp
  go_enter Tryz.func151, Tryz.ntmps151
  go_upto_region 1 with fail
  refine hw_start (n := 16) (S := fun X => New w X) rfl (by kernel_rfl) ((New.refl _).drew) (fun hH => ?_)
  refine' hw_take 0 (some 9) _ rfl rfl (by kernel_rfl) (by kernel_rfl) (by kernel_rfl) (fun _ _ _ h => h) (by rfl) hH ?hy1 ?rest1
  case hy1 =>
    intro X hX
    go_simp
    try rfl
  simp only [Act.put, List.setIfInBounds_toArray, List.set_cons_zero, List.set_cons_succ]
  refine' hw_take 1 (some 10) _ rfl rfl (by kernel_rfl) (by kernel_rfl) (by kernel_rfl) (fun _ _ _ h => h) (by rfl) hH ?hy2 ?rest2
  case hy2 =>
    intro X hX
    go_simp
    try rfl
  simp only [Act.put, List.setIfInBounds_toArray, List.set_cons_zero, List.set_cons_succ]
  refine' hw_take 2 (some 11) _ rfl rfl (by kernel_rfl) (by kernel_rfl) (by kernel_rfl) (fun _ _ _ h => h) (by rfl) hH ?hy3 ?rest3
  case hy3 =>
    intro X hX
    have cHX := (hd.new hX).cells
    go_simp
    try rfl
  simp only [Act.put, List.setIfInBounds_toArray, List.set_cons_zero, List.set_cons_succ]
  refine' hw_take 3 (some 12) _ rfl rfl (by kernel_rfl) (by kernel_rfl) (by kernel_rfl) (fun _ _ _ h => h) (by rfl) hH ?hy4 ?rest4
  case hy4 =>
    intro X hX
    go_simp
    try rfl
  simp only [Act.put, List.setIfInBounds_toArray, List.set_cons_zero, List.set_cons_succ]
  refine' hw_take 4 (some 13) _ rfl rfl (by kernel_rfl) (by kernel_rfl) (by kernel_rfl) (fun _ _ _ h => h) (by rfl) hH ?hy5 ?rest5
  case hy5 =>
    intro X hX
    go_simp
    try rfl
  simp only [Act.put, List.setIfInBounds_toArray, List.set_cons_zero, List.set_cons_succ]
  refine' hw_take 5 (some 14) _ rfl rfl (by kernel_rfl) (by kernel_rfl) (by kernel_rfl) (fun _ _ _ h => h) (by rfl) hH ?hy6 ?rest6
  case hy6 =>
    intro X hX
    have q0X := (hX.below.cell (World.block_lt_of_cell? _ _ q0)).trans q0
    have q1X := (hX.below.cell (World.block_lt_of_cell? _ _ q1)).trans q1
    have q2X := (hX.below.cell (World.block_lt_of_cell? _ _ q2)).trans q2
    have q3X := (hX.below.cell (World.block_lt_of_cell? _ _ q3)).trans q3
    have q4X := (hX.below.cell (World.block_lt_of_cell? _ _ q4)).trans q4
    have q5X := (hX.below.cell (World.block_lt_of_cell? _ _ q5)).trans q5
    have q6X := (hX.below.cell (World.block_lt_of_cell? _ _ q6)).trans q6
    have q7X := (hX.below.cell (World.block_lt_of_cell? _ _ q7)).trans q7
    go_simp
    try rfl
  simp only [Act.put, List.setIfInBounds_toArray, List.set_cons_zero, List.set_cons_succ]
  refine' hw_take 6 (some 15) _ rfl rfl (by kernel_rfl) (by kernel_rfl) (by kernel_rfl) (fun _ _ _ h => h) (by rfl) hH ?hy7 ?rest7
  case hy7 =>
    intro X hX
    go_simp
    try rfl
  simp only [Act.put, List.setIfInBounds_toArray, List.set_cons_zero, List.set_cons_succ]
  refine' hw_take 7 (some 16) _ rfl rfl (by kernel_rfl) (by kernel_rfl) (by kernel_rfl) (fun _ _ _ h => h) (by rfl) hH ?hy8 ?rest8
  case hy8 =>
    intro X hX
    go_simp
    try rfl
  simp only [Act.put, List.setIfInBounds_toArray, List.set_cons_zero, List.set_cons_succ]
  refine' hw_take 8 (some 17) _ rfl rfl (by kernel_rfl) (by kernel_rfl) (by kernel_rfl) (fun _ _ _ h => h) (by rfl) hH ?hy9 ?rest9
  case hy9 =>
    intro X hX
    have cHX := (hd.new hX).cells
    go_simp
    try rfl
  simp only [Act.put, List.setIfInBounds_toArray, List.set_cons_zero, List.set_cons_succ]
  refine' hw_take 9 (some 18) _ rfl rfl (by kernel_rfl) (by kernel_rfl) (by kernel_rfl) (fun _ _ _ h => h) (by rfl) hH ?hy10 ?rest10
  case hy10 =>
    intro X hX
    go_simp
    try rfl
  simp only [Act.put, List.setIfInBounds_toArray, List.set_cons_zero, List.set_cons_succ]
  refine' hw_take 10 (some 19) _ rfl rfl (by kernel_rfl) (by kernel_rfl) (by kernel_rfl) (fun _ _ _ h => h) (by rfl) hH ?hy11 ?rest11
  case hy11 =>
    intro X hX
    go_simp
    try rfl
  simp only [Act.put, List.setIfInBounds_toArray, List.set_cons_zero, List.set_cons_succ]
  refine' hw_take 11 (some 20) _ rfl rfl (by kernel_rfl) (by kernel_rfl) (by kernel_rfl) (fun _ _ _ h => h) (by rfl) hH ?hy12 ?rest12
  case hy12 =>
    intro X hX
    have y0X := (hX.below.cell (World.block_lt_of_cell? _ _ y0)).trans y0
    have y1X := (hX.below.cell (World.block_lt_of_cell? _ _ y1)).trans y1
    have y2X := (hX.below.cell (World.block_lt_of_cell? _ _ y2)).trans y2
    have y3X := (hX.below.cell (World.block_lt_of_cell? _ _ y3)).trans y3
    have y4X := (hX.below.cell (World.block_lt_of_cell? _ _ y4)).trans y4
    have y5X := (hX.below.cell (World.block_lt_of_cell? _ _ y5)).trans y5
    have y6X := (hX.below.cell (World.block_lt_of_cell? _ _ y6)).trans y6
    have y7X := (hX.below.cell (World.block_lt_of_cell? _ _ y7)).trans y7
    go_simp
    try rfl
  simp only [Act.put, List.setIfInBounds_toArray, List.set_cons_zero, List.set_cons_succ]
  refine wpAnyH_ready (rs := [12, 13]) (by kernel_rfl) (by simp) ?_
  refine hw_step 12 (some 7) rfl rfl (by rfl) (fun K hK => ?_) (hw_step 13 (some 8) rfl rfl (by rfl) (fun K hK => ?_) AllReadyH.nil)
  · go_simp
    refine hK.out _ _ (hH.alloc _) (fun hH => ?_)
    simp only [Act.put, List.setIfInBounds_toArray, List.set_cons_zero, List.set_cons_succ]
    refine hw_call 13 (some 8) rfl rfl (by kernel_rfl) (by rfl) (fun K hK => ?_)
    go_simp
    refine hK.out _ _ (hH.alloc _) (fun hH => ?_)
    simp only [Act.put, List.setIfInBounds_toArray, List.set_cons_zero, List.set_cons_succ]
    have e01 : ¬ w.heap.size = w.heap.size + 1 := by omega
    have e10 : ¬ w.heap.size + 1 = w.heap.size := by omega
    have bA : Blk ((w.drew.alloc (.cells #[.int .i64 0, .int .i64 0, .int .i64 0, .int .i64 0, .slice none 0 0, .int .i64 0, .int .i64 0, .int .i64 0] 38)).alloc (.cells #[.int .i64 0, .int .i64 0, .int .i64 0, .int .i64 0, .slice none 0 0, .int .i64 0, .int .i64 0, .int .i64 0] 38)) w.heap.size 38 #[.int .i64 0, .int .i64 0, .int .i64 0, .int .i64 0, .slice none 0 0, .int .i64 0, .int .i64 0, .int .i64 0] := (Blk.mk w.drew w.heap.size 38 #[.int .i64 0, .int .i64 0, .int .i64 0, .int .i64 0, .slice none 0 0, .int .i64 0, .int .i64 0, .int .i64 0] rfl).alloc _
    have bB : Blk ((w.drew.alloc (.cells #[.int .i64 0, .int .i64 0, .int .i64 0, .int .i64 0, .slice none 0 0, .int .i64 0, .int .i64 0, .int .i64 0] 38)).alloc (.cells #[.int .i64 0, .int .i64 0, .int .i64 0, .int .i64 0, .slice none 0 0, .int .i64 0, .int .i64 0, .int .i64 0] 38)) (w.heap.size + 1) 38 #[.int .i64 0, .int .i64 0, .int .i64 0, .int .i64 0, .slice none 0 0, .int .i64 0, .int .i64 0, .int .i64 0] := Blk.mk _ _ _ _ (by simp)
    have hNA : New w ((w.drew.alloc (.cells #[.int .i64 0, .int .i64 0, .int .i64 0, .int .i64 0, .slice none 0 0, .int .i64 0, .int .i64 0, .int .i64 0] 38)).alloc (.cells #[.int .i64 0, .int .i64 0, .int .i64 0, .int .i64 0, .slice none 0 0, .int .i64 0, .int .i64 0, .int .i64 0] 38)) := ((((New.refl w).drew).alloc _).alloc _)
    refine hw_call 14 none rfl rfl (by kernel_rfl) (by rfl) (fun K hK => ?_)
    refine hw_store 38 (.tmp 7) (.tmp 14) rfl rfl w.heap.size #[.int .i64 p, .int .i64 a, .int .i64 l, .int .i64 o, .slice x m d, .int .i64 nx, .int .i64 md, .int .i64 lc] #[.int .i64 0, .int .i64 0, .int .i64 0, .int .i64 0, .slice none 0 0, .int .i64 0, .int .i64 0, .int .i64 0] rfl rfl bA (by kernel_rfl) rfl (by kernel_rfl) ?_
    have b7 := bA.rowW #[.int .i64 p, .int .i64 a, .int .i64 l, .int .i64 o, .slice x m d, .int .i64 nx, .int .i64 md, .int .i64 lc]
    have b8 := bB.rowO (B := w.heap.size) e10 #[.int .i64 p, .int .i64 a, .int .i64 l, .int .i64 o, .slice x m d, .int .i64 nx, .int .i64 md, .int .i64 lc]
    have hNB : New w (((w.drew.alloc (.cells #[.int .i64 0, .int .i64 0, .int .i64 0, .int .i64 0, .slice none 0 0, .int .i64 0, .int .i64 0, .int .i64 0] 38)).alloc (.cells #[.int .i64 0, .int .i64 0, .int .i64 0, .int .i64 0, .slice none 0 0, .int .i64 0, .int .i64 0, .int .i64 0] 38)).setRow w.heap.size #[.int .i64 p, .int .i64 a, .int .i64 l, .int .i64 o, .slice x m d, .int .i64 nx, .int .i64 md, .int .i64 lc]) := hNA.before (Turn.rowW (S := fun k => k = w.heap.size) (Turn.refl _ _) (show w.heap.size = w.heap.size from rfl) #[.int .i64 p, .int .i64 a, .int .i64 l, .int .i64 o, .slice x m d, .int .i64 nx, .int .i64 md, .int .i64 lc]) (fun i hi e => by omega)
    refine hK.out _ _ hNB (fun hH => ?_)
    simp only [Act.put]
    refine hw_call 15 none rfl rfl (by kernel_rfl) (by rfl) (fun K hK => ?_)
    refine hw_store 38 (.tmp 8) (.tmp 20) rfl rfl (w.heap.size + 1) #[.int .i64 p', .int .i64 a', .int .i64 l', .int .i64 o', .slice x' m' d', .int .i64 nx', .int .i64 md', .int .i64 lc'] #[.int .i64 0, .int .i64 0, .int .i64 0, .int .i64 0, .slice none 0 0, .int .i64 0, .int .i64 0, .int .i64 0] rfl rfl b8 (by kernel_rfl) rfl (by kernel_rfl) ?_
    have b7 := b7.rowO (B := (w.heap.size + 1)) e01 #[.int .i64 p', .int .i64 a', .int .i64 l', .int .i64 o', .slice x' m' d', .int .i64 nx', .int .i64 md', .int .i64 lc']
    have b8 := b8.rowW #[.int .i64 p', .int .i64 a', .int .i64 l', .int .i64 o', .slice x' m' d', .int .i64 nx', .int .i64 md', .int .i64 lc']
    have hNC : New w ((((w.drew.alloc (.cells #[.int .i64 0, .int .i64 0, .int .i64 0, .int .i64 0, .slice none 0 0, .int .i64 0, .int .i64 0, .int .i64 0] 38)).alloc (.cells #[.int .i64 0, .int .i64 0, .int .i64 0, .int .i64 0, .slice none 0 0, .int .i64 0, .int .i64 0, .int .i64 0] 38)).setRow w.heap.size #[.int .i64 p, .int .i64 a, .int .i64 l, .int .i64 o, .slice x m d, .int .i64 nx, .int .i64 md, .int .i64 lc]).setRow (w.heap.size + 1) #[.int .i64 p', .int .i64 a', .int .i64 l', .int .i64 o', .slice x' m' d', .int .i64 nx', .int .i64 md', .int .i64 lc']) := hNB.before (Turn.rowW (S := fun k => k = (w.heap.size + 1)) (Turn.refl _ _) (show (w.heap.size + 1) = (w.heap.size + 1) from rfl) #[.int .i64 p', .int .i64 a', .int .i64 l', .int .i64 o', .slice x' m' d', .int .i64 nx', .int .i64 md', .int .i64 lc']) (fun i hi e => by omega)
    refine hK.out _ _ hNC (fun hH => ?_)
    simp only [Act.put]
    clear bA bB hNA hNB hNC
    refine wpAnyH_done (by kernel_rfl) ?_ _
    have N1 : New w ((((w.drew.alloc (.cells #[.int .i64 0, .int .i64 0, .int .i64 0, .int .i64 0, .slice none 0 0, .int .i64 0, .int .i64 0, .int .i64 0] 38)).alloc (.cells #[.int .i64 0, .int .i64 0, .int .i64 0, .int .i64 0, .slice none 0 0, .int .i64 0, .int .i64 0, .int .i64 0] 38)).setRow w.heap.size #[.int .i64 p, .int .i64 a, .int .i64 l, .int .i64 o, .slice x m d, .int .i64 nx, .int .i64 md, .int .i64 lc]).setRow (w.heap.size + 1) #[.int .i64 p', .int .i64 a', .int .i64 l', .int .i64 o', .slice x' m' d', .int .i64 nx', .int .i64 md', .int .i64 lc']) := hH
    clear hH
    try rw [show ((((w.alloc (.cells #[.int .i64 0, .int .i64 0, .int .i64 0, .int .i64 0, .slice none 0 0, .int .i64 0, .int .i64 0, .int .i64 0] 38)).alloc (.cells #[.int .i64 0, .int .i64 0, .int .i64 0, .int .i64 0, .slice none 0 0, .int .i64 0, .int .i64 0, .int .i64 0] 38)).drew.setRow w.heap.size #[.int .i64 p, .int .i64 a, .int .i64 l, .int .i64 o, .slice x m d, .int .i64 nx, .int .i64 md, .int .i64 lc]).setRow (w.heap.size + 1) #[.int .i64 p', .int .i64 a', .int .i64 l', .int .i64 o', .slice x' m' d', .int .i64 nx', .int .i64 md', .int .i64 lc']) = ((((w.drew.alloc (.cells #[.int .i64 0, .int .i64 0, .int .i64 0, .int .i64 0, .slice none 0 0, .int .i64 0, .int .i64 0, .int .i64 0] 38)).alloc (.cells #[.int .i64 0, .int .i64 0, .int .i64 0, .int .i64 0, .slice none 0 0, .int .i64 0, .int .i64 0, .int .i64 0] 38)).setRow w.heap.size #[.int .i64 p, .int .i64 a, .int .i64 l, .int .i64 o, .slice x m d, .int .i64 nx, .int .i64 md, .int .i64 lc]).setRow (w.heap.size + 1) #[.int .i64 p', .int .i64 a', .int .i64 l', .int .i64 o', .slice x' m' d', .int .i64 nx', .int .i64 md', .int .i64 lc']) from rfl]
    generalize ((((w.drew.alloc (.cells #[.int .i64 0, .int .i64 0, .int .i64 0, .int .i64 0, .slice none 0 0, .int .i64 0, .int .i64 0, .int .i64 0] 38)).alloc (.cells #[.int .i64 0, .int .i64 0, .int .i64 0, .int .i64 0, .slice none 0 0, .int .i64 0, .int .i64 0, .int .i64 0] 38)).setRow w.heap.size #[.int .i64 p, .int .i64 a, .int .i64 l, .int .i64 o, .slice x m d, .int .i64 nx, .int .i64 md, .int .i64 lc]).setRow (w.heap.size + 1) #[.int .i64 p', .int .i64 a', .int .i64 l', .int .i64 o', .slice x' m' d', .int .i64 nx', .int .i64 md', .int .i64 lc']) = w1 at *
    go_upto_region 2 with fail
    refine hw_start (n := 12) (S := fun X => New w1 X) rfl (by kernel_rfl) ((New.refl _).drew) (fun hH => ?_)
    refine' hw_take 0 (some 21) _ rfl rfl (by kernel_rfl) (by kernel_rfl) (by kernel_rfl) (fun _ _ _ h => h) (by rfl) hH ?hy13 ?rest13
    case hy13 =>
      intro X hX
      have c7X := (b7.new hX).cells
      have c8X := (b8.new hX).cells
      go_simp
      try rfl
    simp only [Act.put, List.setIfInBounds_toArray, List.set_cons_zero, List.set_cons_succ]
    refine' hw_take 1 (some 22) _ rfl rfl (by kernel_rfl) (by kernel_rfl) (by kernel_rfl) (fun _ _ _ h => h) (by rfl) hH ?hy14 ?rest14
    case hy14 =>
      intro X hX
      have c7X := (b7.new hX).cells
      have c8X := (b8.new hX).cells
      go_simp
      try rfl
    simp only [Act.put, List.setIfInBounds_toArray, List.set_cons_zero, List.set_cons_succ]
    refine' hw_take 2 (some 23) _ rfl rfl (by kernel_rfl) (by kernel_rfl) (by kernel_rfl) (fun _ _ _ h => h) (by rfl) hH ?hy15 ?rest15
    case hy15 =>
      intro X hX
      have c7X := (b7.new hX).cells
      have c8X := (b8.new hX).cells
      go_simp
      try rfl
    simp only [Act.put, List.setIfInBounds_toArray, List.set_cons_zero, List.set_cons_succ]
    refine' hw_take 3 (some 24) _ rfl rfl (by kernel_rfl) (by kernel_rfl) (by kernel_rfl) (fun _ _ _ h => h) (by rfl) hH ?hy16 ?rest16
    case hy16 =>
      intro X hX
      have c7X := (b7.new hX).cells
      have c8X := (b8.new hX).cells
      go_simp
      try rfl
    simp only [Act.put, List.setIfInBounds_toArray, List.set_cons_zero, List.set_cons_succ]
    refine' hw_take 5 (some 26) _ rfl rfl (by kernel_rfl) (by kernel_rfl) (by kernel_rfl) (fun _ _ _ h => h) (by rfl) hH ?hy17 ?rest17
    case hy17 =>
      intro X hX
      have c7X := (b7.new hX).cells
      have c8X := (b8.new hX).cells
      go_simp
      try rfl
    simp only [Act.put, List.setIfInBounds_toArray, List.set_cons_zero, List.set_cons_succ]
    refine' hw_take 6 (some 27) _ rfl rfl (by kernel_rfl) (by kernel_rfl) (by kernel_rfl) (fun _ _ _ h => h) (by rfl) hH ?hy18 ?rest18
    case hy18 =>
      intro X hX
      have c7X := (b7.new hX).cells
      have c8X := (b8.new hX).cells
      go_simp
      try rfl
    simp only [Act.put, List.setIfInBounds_toArray, List.set_cons_zero, List.set_cons_succ]
    refine hw_call 4 (some 25) rfl rfl (by kernel_rfl) (by rfl) (fun K hK => ?_)
    go_simp
    go_at_call 45
    refine (prefs_any a l a' l' _).mono ?_
    rintro e w2 ⟨rfl, hn2⟩
    refine hK.out _ _ (hH.trans hn2) (fun hH => ?_)
    simp only [Act.put, List.setIfInBounds_toArray, List.set_cons_zero, List.set_cons_succ]
    refine hw_call 7 (some 28) rfl rfl (by kernel_rfl) (by rfl) (fun K hK => ?_)
    go_simp
    go_at_call 155
    refine (worth_any p a l o nx md lc x m d p' a' l' o' nx' md' lc' x' m' d' _ hmx hmx').mono ?_
    rintro e w3 ⟨rfl, hn3⟩
    refine hK.out _ _ (hH.trans hn3) (fun hH => ?_)
    simp only [Act.put, List.setIfInBounds_toArray, List.set_cons_zero, List.set_cons_succ]
    generalize hz1 : orL [cmp3 a a', cmp3 l l'] = z1 at *
    generalize hz2 : cmpW p o md lc m p' o' md' lc' m' = z2 at *
    have HZ1 : Hid (orL [cmp3 a a', cmp3 l l'] = z1) := hz1
    have HZ2 : Hid (cmpW p o md lc m p' o' md' lc' m' = z2) := hz2
    clear hz1 hz2
    refine hw_call 8 (some 29) rfl rfl (by kernel_rfl) (by rfl) (fun K hK => ?_)
    go_simp
    have bI := Blk.mk w3 w3.heap.size 3 #[.int .i64 z1, .int .i64 z2] rfl
    refine hK.out _ _ (hH.alloc _) (fun hH => ?_)
    simp only [Act.put, List.setIfInBounds_toArray, List.set_cons_zero, List.set_cons_succ]
    refine hw_call 9 (some 30) rfl rfl (by kernel_rfl) (by rfl) (fun K hK => ?_)
    go_simp
    go_at_call 83
    refine (or_at [z1, z2] (orL [z1, z2]) 2 _ _ rfl rfl (by omega) bI).mono ?_
    rintro e w4 ⟨rfl, hw4⟩
    subst hw4
    refine hK.out _ _ hH (fun hH => ?_)
    simp only [Act.put, List.setIfInBounds_toArray, List.set_cons_zero, List.set_cons_succ]
    refine' hw_take 10 (some 31) _ rfl rfl (by kernel_rfl) (by kernel_rfl) (by kernel_rfl) (fun _ _ _ h => h) (by rfl) hH ?hy19 ?rest19
    case hy19 =>
      intro X hX
      go_simp
      try rfl
    simp only [Act.put, List.setIfInBounds_toArray, List.set_cons_zero, List.set_cons_succ]
    refine' hw_take 11 (some 6) _ rfl rfl (by kernel_rfl) (by kernel_rfl) (by kernel_rfl) (fun _ _ _ h => h) (by rfl) hH ?hy20 ?rest20
    case hy20 =>
      intro X hX
      go_simp
      try rfl
    simp only [Act.put, List.setIfInBounds_toArray, List.set_cons_zero, List.set_cons_succ]
    refine wpAnyH_done (by kernel_rfl) ?_ _
    go_wp2
    go_ret
    refine ⟨?_, (N1.trans hH)⟩
    rw [← HV.out, ← HZ1.out, ← HZ2.out]
    rfl
  · go_simp
    refine hK.out _ _ (hH.alloc _) (fun hH => ?_)
    simp only [Act.put, List.setIfInBounds_toArray, List.set_cons_zero, List.set_cons_succ]
    refine hw_call 12 (some 7) rfl rfl (by kernel_rfl) (by rfl) (fun K hK => ?_)
    go_simp
    refine hK.out _ _ (hH.alloc _) (fun hH => ?_)
    simp only [Act.put, List.setIfInBounds_toArray, List.set_cons_zero, List.set_cons_succ]
    have e01 : ¬ w.heap.size = w.heap.size + 1 := by omega
    have e10 : ¬ w.heap.size + 1 = w.heap.size := by omega
    have bA : Blk ((w.drew.alloc (.cells #[.int .i64 0, .int .i64 0, .int .i64 0, .int .i64 0, .slice none 0 0, .int .i64 0, .int .i64 0, .int .i64 0] 38)).alloc (.cells #[.int .i64 0, .int .i64 0, .int .i64 0, .int .i64 0, .slice none 0 0, .int .i64 0, .int .i64 0, .int .i64 0] 38)) w.heap.size 38 #[.int .i64 0, .int .i64 0, .int .i64 0, .int .i64 0, .slice none 0 0, .int .i64 0, .int .i64 0, .int .i64 0] := (Blk.mk w.drew w.heap.size 38 #[.int .i64 0, .int .i64 0, .int .i64 0, .int .i64 0, .slice none 0 0, .int .i64 0, .int .i64 0, .int .i64 0] rfl).alloc _
    have bB : Blk ((w.drew.alloc (.cells #[.int .i64 0, .int .i64 0, .int .i64 0, .int .i64 0, .slice none 0 0, .int .i64 0, .int .i64 0, .int .i64 0] 38)).alloc (.cells #[.int .i64 0, .int .i64 0, .int .i64 0, .int .i64 0, .slice none 0 0, .int .i64 0, .int .i64 0, .int .i64 0] 38)) (w.heap.size + 1) 38 #[.int .i64 0, .int .i64 0, .int .i64 0, .int .i64 0, .slice none 0 0, .int .i64 0, .int .i64 0, .int .i64 0] := Blk.mk _ _ _ _ (by simp)
    have hNA : New w ((w.drew.alloc (.cells #[.int .i64 0, .int .i64 0, .int .i64 0, .int .i64 0, .slice none 0 0, .int .i64 0, .int .i64 0, .int .i64 0] 38)).alloc (.cells #[.int .i64 0, .int .i64 0, .int .i64 0, .int .i64 0, .slice none 0 0, .int .i64 0, .int .i64 0, .int .i64 0] 38)) := ((((New.refl w).drew).alloc _).alloc _)
    refine hw_call 14 none rfl rfl (by kernel_rfl) (by rfl) (fun K hK => ?_)
    refine hw_store 38 (.tmp 7) (.tmp 14) rfl rfl (w.heap.size + 1) #[.int .i64 p, .int .i64 a, .int .i64 l, .int .i64 o, .slice x m d, .int .i64 nx, .int .i64 md, .int .i64 lc] #[.int .i64 0, .int .i64 0, .int .i64 0, .int .i64 0, .slice none 0 0, .int .i64 0, .int .i64 0, .int .i64 0] rfl rfl bB (by kernel_rfl) rfl (by kernel_rfl) ?_
    have b7 := bB.rowW #[.int .i64 p, .int .i64 a, .int .i64 l, .int .i64 o, .slice x m d, .int .i64 nx, .int .i64 md, .int .i64 lc]
    have b8 := bA.rowO (B := (w.heap.size + 1)) e01 #[.int .i64 p, .int .i64 a, .int .i64 l, .int .i64 o, .slice x m d, .int .i64 nx, .int .i64 md, .int .i64 lc]
    have hNB : New w (((w.drew.alloc (.cells #[.int .i64 0, .int .i64 0, .int .i64 0, .int .i64 0, .slice none 0 0, .int .i64 0, .int .i64 0, .int .i64 0] 38)).alloc (.cells #[.int .i64 0, .int .i64 0, .int .i64 0, .int .i64 0, .slice none 0 0, .int .i64 0, .int .i64 0, .int .i64 0] 38)).setRow (w.heap.size + 1) #[.int .i64 p, .int .i64 a, .int .i64 l, .int .i64 o, .slice x m d, .int .i64 nx, .int .i64 md, .int .i64 lc]) := hNA.before (Turn.rowW (S := fun k => k = (w.heap.size + 1)) (Turn.refl _ _) (show (w.heap.size + 1) = (w.heap.size + 1) from rfl) #[.int .i64 p, .int .i64 a, .int .i64 l, .int .i64 o, .slice x m d, .int .i64 nx, .int .i64 md, .int .i64 lc]) (fun i hi e => by omega)
    refine hK.out _ _ hNB (fun hH => ?_)
    simp only [Act.put]
    refine hw_call 15 none rfl rfl (by kernel_rfl) (by rfl) (fun K hK => ?_)
    refine hw_store 38 (.tmp 8) (.tmp 20) rfl rfl w.heap.size #[.int .i64 p', .int .i64 a', .int .i64 l', .int .i64 o', .slice x' m' d', .int .i64 nx', .int .i64 md', .int .i64 lc'] #[.int .i64 0, .int .i64 0, .int .i64 0, .int .i64 0, .slice none 0 0, .int .i64 0, .int .i64 0, .int .i64 0] rfl rfl b8 (by kernel_rfl) rfl (by kernel_rfl) ?_
    have b7 := b7.rowO (B := w.heap.size) e10 #[.int .i64 p', .int .i64 a', .int .i64 l', .int .i64 o', .slice x' m' d', .int .i64 nx', .int .i64 md', .int .i64 lc']
    have b8 := b8.rowW #[.int .i64 p', .int .i64 a', .int .i64 l', .int .i64 o', .slice x' m' d', .int .i64 nx', .int .i64 md', .int .i64 lc']
    have hNC : New w ((((w.drew.alloc (.cells #[.int .i64 0, .int .i64 0, .int .i64 0, .int .i64 0, .slice none 0 0, .int .i64 0, .int .i64 0, .int .i64 0] 38)).alloc (.cells #[.int .i64 0, .int .i64 0, .int .i64 0, .int .i64 0, .slice none 0 0, .int .i64 0, .int .i64 0, .int .i64 0] 38)).setRow (w.heap.size + 1) #[.int .i64 p, .int .i64 a, .int .i64 l, .int .i64 o, .slice x m d, .int .i64 nx, .int .i64 md, .int .i64 lc]).setRow w.heap.size #[.int .i64 p', .int .i64 a', .int .i64 l', .int .i64 o', .slice x' m' d', .int .i64 nx', .int .i64 md', .int .i64 lc']) := hNB.before (Turn.rowW (S := fun k => k = w.heap.size) (Turn.refl _ _) (show w.heap.size = w.heap.size from rfl) #[.int .i64 p', .int .i64 a', .int .i64 l', .int .i64 o', .slice x' m' d', .int .i64 nx', .int .i64 md', .int .i64 lc']) (fun i hi e => by omega)
    refine hK.out _ _ hNC (fun hH => ?_)
    simp only [Act.put]
    clear bA bB hNA hNB hNC
    refine wpAnyH_done (by kernel_rfl) ?_ _
    have N1 : New w ((((w.drew.alloc (.cells #[.int .i64 0, .int .i64 0, .int .i64 0, .int .i64 0, .slice none 0 0, .int .i64 0, .int .i64 0, .int .i64 0] 38)).alloc (.cells #[.int .i64 0, .int .i64 0, .int .i64 0, .int .i64 0, .slice none 0 0, .int .i64 0, .int .i64 0, .int .i64 0] 38)).setRow (w.heap.size + 1) #[.int .i64 p, .int .i64 a, .int .i64 l, .int .i64 o, .slice x m d, .int .i64 nx, .int .i64 md, .int .i64 lc]).setRow w.heap.size #[.int .i64 p', .int .i64 a', .int .i64 l', .int .i64 o', .slice x' m' d', .int .i64 nx', .int .i64 md', .int .i64 lc']) := hH
    clear hH
    try rw [show ((((w.alloc (.cells #[.int .i64 0, .int .i64 0, .int .i64 0, .int .i64 0, .slice none 0 0, .int .i64 0, .int .i64 0, .int .i64 0] 38)).alloc (.cells #[.int .i64 0, .int .i64 0, .int .i64 0, .int .i64 0, .slice none 0 0, .int .i64 0, .int .i64 0, .int .i64 0] 38)).drew.setRow (w.heap.size + 1) #[.int .i64 p, .int .i64 a, .int .i64 l, .int .i64 o, .slice x m d, .int .i64 nx, .int .i64 md, .int .i64 lc]).setRow w.heap.size #[.int .i64 p', .int .i64 a', .int .i64 l', .int .i64 o', .slice x' m' d', .int .i64 nx', .int .i64 md', .int .i64 lc']) = ((((w.drew.alloc (.cells #[.int .i64 0, .int .i64 0, .int .i64 0, .int .i64 0, .slice none 0 0, .int .i64 0, .int .i64 0, .int .i64 0] 38)).alloc (.cells #[.int .i64 0, .int .i64 0, .int .i64 0, .int .i64 0, .slice none 0 0, .int .i64 0, .int .i64 0, .int .i64 0] 38)).setRow (w.heap.size + 1) #[.int .i64 p, .int .i64 a, .int .i64 l, .int .i64 o, .slice x m d, .int .i64 nx, .int .i64 md, .int .i64 lc]).setRow w.heap.size #[.int .i64 p', .int .i64 a', .int .i64 l', .int .i64 o', .slice x' m' d', .int .i64 nx', .int .i64 md', .int .i64 lc']) from rfl]
    generalize ((((w.drew.alloc (.cells #[.int .i64 0, .int .i64 0, .int .i64 0, .int .i64 0, .slice none 0 0, .int .i64 0, .int .i64 0, .int .i64 0] 38)).alloc (.cells #[.int .i64 0, .int .i64 0, .int .i64 0, .int .i64 0, .slice none 0 0, .int .i64 0, .int .i64 0, .int .i64 0] 38)).setRow (w.heap.size + 1) #[.int .i64 p, .int .i64 a, .int .i64 l, .int .i64 o, .slice x m d, .int .i64 nx, .int .i64 md, .int .i64 lc]).setRow w.heap.size #[.int .i64 p', .int .i64 a', .int .i64 l', .int .i64 o', .slice x' m' d', .int .i64 nx', .int .i64 md', .int .i64 lc']) = w1 at *
    go_upto_region 2 with fail
    refine hw_start (n := 12) (S := fun X => New w1 X) rfl (by kernel_rfl) ((New.refl _).drew) (fun hH => ?_)
    refine' hw_take 0 (some 21) _ rfl rfl (by kernel_rfl) (by kernel_rfl) (by kernel_rfl) (fun _ _ _ h => h) (by rfl) hH ?hy21 ?rest21
    case hy21 =>
      intro X hX
      have c7X := (b7.new hX).cells
      have c8X := (b8.new hX).cells
      go_simp
      try rfl
    simp only [Act.put, List.setIfInBounds_toArray, List.set_cons_zero, List.set_cons_succ]
    refine' hw_take 1 (some 22) _ rfl rfl (by kernel_rfl) (by kernel_rfl) (by kernel_rfl) (fun _ _ _ h => h) (by rfl) hH ?hy22 ?rest22
    case hy22 =>
      intro X hX
      have c7X := (b7.new hX).cells
      have c8X := (b8.new hX).cells
      go_simp
      try rfl
    simp only [Act.put, List.setIfInBounds_toArray, List.set_cons_zero, List.set_cons_succ]
    refine' hw_take 2 (some 23) _ rfl rfl (by kernel_rfl) (by kernel_rfl) (by kernel_rfl) (fun _ _ _ h => h) (by rfl) hH ?hy23 ?rest23
    case hy23 =>
      intro X hX
      have c7X := (b7.new hX).cells
      have c8X := (b8.new hX).cells
      go_simp
      try rfl
    simp only [Act.put, List.setIfInBounds_toArray, List.set_cons_zero, List.set_cons_succ]
    refine' hw_take 3 (some 24) _ rfl rfl (by kernel_rfl) (by kernel_rfl) (by kernel_rfl) (fun _ _ _ h => h) (by rfl) hH ?hy24 ?rest24
    case hy24 =>
      intro X hX
      have c7X := (b7.new hX).cells
      have c8X := (b8.new hX).cells
      go_simp
      try rfl
    simp only [Act.put, List.setIfInBounds_toArray, List.set_cons_zero, List.set_cons_succ]
    refine' hw_take 5 (some 26) _ rfl rfl (by kernel_rfl) (by kernel_rfl) (by kernel_rfl) (fun _ _ _ h => h) (by rfl) hH ?hy25 ?rest25
    case hy25 =>
      intro X hX
      have c7X := (b7.new hX).cells
      have c8X := (b8.new hX).cells
      go_simp
      try rfl
    simp only [Act.put, List.setIfInBounds_toArray, List.set_cons_zero, List.set_cons_succ]
    refine' hw_take 6 (some 27) _ rfl rfl (by kernel_rfl) (by kernel_rfl) (by kernel_rfl) (fun _ _ _ h => h) (by rfl) hH ?hy26 ?rest26
    case hy26 =>
      intro X hX
      have c7X := (b7.new hX).cells
      have c8X := (b8.new hX).cells
      go_simp
      try rfl
    simp only [Act.put, List.setIfInBounds_toArray, List.set_cons_zero, List.set_cons_succ]
    refine hw_call 4 (some 25) rfl rfl (by kernel_rfl) (by rfl) (fun K hK => ?_)
    go_simp
    go_at_call 45
    refine (prefs_any a l a' l' _).mono ?_
    rintro e w2 ⟨rfl, hn2⟩
    refine hK.out _ _ (hH.trans hn2) (fun hH => ?_)
    simp only [Act.put, List.setIfInBounds_toArray, List.set_cons_zero, List.set_cons_succ]
    refine hw_call 7 (some 28) rfl rfl (by kernel_rfl) (by rfl) (fun K hK => ?_)
    go_simp
    go_at_call 155
    refine (worth_any p a l o nx md lc x m d p' a' l' o' nx' md' lc' x' m' d' _ hmx hmx').mono ?_
    rintro e w3 ⟨rfl, hn3⟩
    refine hK.out _ _ (hH.trans hn3) (fun hH => ?_)
    simp only [Act.put, List.setIfInBounds_toArray, List.set_cons_zero, List.set_cons_succ]
    generalize hz1 : orL [cmp3 a a', cmp3 l l'] = z1 at *
    generalize hz2 : cmpW p o md lc m p' o' md' lc' m' = z2 at *
    have HZ1 : Hid (orL [cmp3 a a', cmp3 l l'] = z1) := hz1
    have HZ2 : Hid (cmpW p o md lc m p' o' md' lc' m' = z2) := hz2
    clear hz1 hz2
    refine hw_call 8 (some 29) rfl rfl (by kernel_rfl) (by rfl) (fun K hK => ?_)
    go_simp
    have bI := Blk.mk w3 w3.heap.size 3 #[.int .i64 z1, .int .i64 z2] rfl
    refine hK.out _ _ (hH.alloc _) (fun hH => ?_)
    simp only [Act.put, List.setIfInBounds_toArray, List.set_cons_zero, List.set_cons_succ]
    refine hw_call 9 (some 30) rfl rfl (by kernel_rfl) (by rfl) (fun K hK => ?_)
    go_simp
    go_at_call 83
    refine (or_at [z1, z2] (orL [z1, z2]) 2 _ _ rfl rfl (by omega) bI).mono ?_
    rintro e w4 ⟨rfl, hw4⟩
    subst hw4
    refine hK.out _ _ hH (fun hH => ?_)
    simp only [Act.put, List.setIfInBounds_toArray, List.set_cons_zero, List.set_cons_succ]
    refine' hw_take 10 (some 31) _ rfl rfl (by kernel_rfl) (by kernel_rfl) (by kernel_rfl) (fun _ _ _ h => h) (by rfl) hH ?hy27 ?rest27
    case hy27 =>
      intro X hX
      go_simp
      try rfl
    simp only [Act.put, List.setIfInBounds_toArray, List.set_cons_zero, List.set_cons_succ]
    refine' hw_take 11 (some 6) _ rfl rfl (by kernel_rfl) (by kernel_rfl) (by kernel_rfl) (fun _ _ _ h => h) (by rfl) hH ?hy28 ?rest28
    case hy28 =>
      intro X hX
      go_simp
      try rfl
    simp only [Act.put, List.setIfInBounds_toArray, List.set_cons_zero, List.set_cons_succ]
    refine wpAnyH_done (by kernel_rfl) ?_ _
    go_wp2
    go_ret
    refine ⟨?_, (N1.trans hH)⟩
    rw [← HV.out, ← HZ1.out, ← HZ2.out]
    rfl

end Go.Proofs.YtjampcfikfafkaaGreat

namespace Go.Proofs.YtjampcfikfafkaaGreat
open Go.RowKit Go.Sort
set_option linter.unusedVariables false

/-- A struct is stored, whole, into the middle of a block. -/
theorem hw_store_mid {P : Program} {Q : Exit → Act → World → Prop} {a : Act} {w : World} {K : Act → World → Prop} (ty : TypeId) (x y : Operand) {oi : Oper} (ho : oi.op = .store ty x y) (hd : oi.dst = none) (b o : Nat) (cells : Array Value) (hx : a.eval x = .pointer (some ⟨b, o, none⟩)) (hy : a.eval y = .agg cells)
    (ht : w.there b o cells.size) (hi : (P.info? ty).map (·.size) = some cells.size) (h1 : cells.all (·.oneCell') = true) (h : K (a.put none undef) (w.setCells b o cells.toList)) : Oper.wp P oi a w K Q := by
  refine wp_store_mid ty x y ho b o cells hx hy ht hi h1 ?_
  rw [hd]
  exact h

theorem Turn.setCells (w : World) (g : Nat) : ∀ (o : Nat) (vs : List Value), Turn (fun k => k = g) w (w.setCells g o vs) := by
  intro o vs
  induction vs generalizing o w with
  | nil => exact Turn.refl _ _
  | cons v r ih =>
    rw [World.setCells]
    exact Turn.trans ((Turn.refl (fun k => k = g) w).set (p := ⟨g, o, none⟩) rfl v) (ih _ (o + 1)) (fun _ _ e => e)

theorem OwRow.there {w : World} {g n c : Nat} {V : List Rv} (h : OwRow w g n c V) (i : Nat) (hi : i < n) : w.there g (i * 8) 8 := by
  intro j hj
  obtain ⟨v, hv⟩ := h.cell (i * 8 + j) (by omega)
  exact ⟨by rw [hv]; rfl, World.ownsRow.frozenAt h (i * 8 + j)⟩

theorem OwRow.putW {w : World} {g n c : Nat} {V : List Rv} (h : OwRow w g n c V) (i : Nat) (v : Rv) : OwRow (w.setCells g (i * 8) v.cs) g n c (V.set i v) := h.put i v

set_option maxRecDepth 100000 in
set_option maxHeartbeats 6400000 in
theorem swap_heap (H b c : Nat) (V : List Rv) (n i j : Nat) (u v : Rv) (w : World) (hp : HpAt w H b c V) (hn : V.length = n) (hm : n ≤ 1048576) (hi : V[i]? = some u) (hj : V[j]? = some v) : Calls Tryz.prog 154 #[.pointer (some ⟨H, 0, none⟩), .int .i64 i, .int .i64 j] w fun e w' => e = .returned (.tuple #[]) ∧ HpAt w' H b c ((V.set i v).set j u) ∧ Turn (fun k => k = b) w w' := by
  have hil : i < n := by have := (List.getElem?_eq_some_iff.1 hi).1; omega
  have hjl : j < n := by have := (List.getElem?_eq_some_iff.1 hj).1; omega
  have rt := hp.row.rt hp.here
  obtain ⟨b1, off1, p, a, l, o, nx, md, lc, x, m, d, xs, hA1, hv1, hlen, -, -, -, q0, q1, q2, q3, q4, q5, q6, q7⟩ := rt.at i (by omega)
  obtain ⟨b2, off2, p', a', l', o', nx', md', lc', x', m', d', xs', hA2, hv2, hlen', -, -, -, y0, y1, y2, y3, y4, y5, y6, y7⟩ := rt.at j (by omega)
  simp only [Option.some.injEq, Addr.mk.injEq, and_true] at hA1 hA2
  obtain ⟨rfl, rfl⟩ := hA1
  obtain ⟨rfl, rfl⟩ := hA2
  have mu := List.mem_of_getElem? hi
  have mv := List.mem_of_getElem? hj
  rw [hi] at hv1
  rw [hj] at hv2
  obtain rfl := Option.some.inj hv1
  obtain rfl := Option.some.inj hv2
  simp only [Nat.zero_add] at q0 q1 q2 q3 q4 q5 q6 q7 y0 y1 y2 y3 y4 y5 y6 y7
  have HL : Hid (xs.length = m) := hlen
  have HL' : Hid (xs'.length = m') := hlen'
  have hd := hp.hd
  have how := hp.row
  rw [hn] at hd how
  have hne : ¬ H = b := hp.ne
  have fin : ∀ X, Blk X H 118 #[.slice (some ⟨b, 0, none⟩) n c] → OwRow X b n c ((V.set i ⟨⟨p', a', l', o', xs', nx', md', lc'⟩, x', d'⟩).set j ⟨⟨p, a, l, o, xs, nx, md, lc⟩, x, d⟩) → Turn (fun k => k = b) w X → Ending.returned (.tuple #[]) = .returned (.tuple #[]) ∧ HpAt X H b c ((V.set i ⟨⟨p', a', l', o', xs', nx', md', lc'⟩, x', d'⟩).set j ⟨⟨p, a, l, o, xs, nx, md, lc⟩, x, d⟩) ∧ Turn (fun k => k = b) w X := by
    intro X h1 h2 t
    have hl : ((V.set i ⟨⟨p', a', l', o', xs', nx', md', lc'⟩, x', d'⟩).set j ⟨⟨p, a, l, o, xs, nx, md, lc⟩, x, d⟩).length = n := by simp [hn]
    have hmem : ∀ s ∈ (V.set i ⟨⟨p', a', l', o', xs', nx', md', lc'⟩, x', d'⟩).set j ⟨⟨p, a, l, o, xs, nx, md, lc⟩, x, d⟩, s ∈ V := by
      intro s hs
      rcases List.mem_or_eq_of_mem_set hs with hs | rfl
      · rcases List.mem_or_eq_of_mem_set hs with hs | rfl
        · exact hs
        · exact mv
      · exact mu
    refine ⟨rfl, ⟨by rw [hl]; exact h1, by rw [hl]; exact h2, fun s hs => (hp.here s (hmem s hs)).turn t (fun y e1 e2 => (hp.far s (hmem s hs) y e1 e2).1), hne, fun s hs => hp.far s (hmem s hs)⟩, t⟩
  have HF : Hid _ := fin
  have hi0 : (0 : Int) ≤ (i : Int) := by omega
  have hj0 : (0 : Int) ≤ (j : Int) := by omega
  have hi1 : (i : Int) < (n : Int) := by omega
  have hj1 : (j : Int) < (n : Int) := by omega
  clear hv1 hv2 hi hj hlen hlen' rt hn hp fin mu mv
  go_enter Tryz.func154, Tryz.ntmps154
  refine hw_start (n := 24) (S := fun X => Blk X H 118 #[.slice (some ⟨b, 0, none⟩) n c]) rfl (by kernel_rfl) (hd) (fun hH => ?_)
  refine' hw_take 0 (some 6) _ rfl rfl (by kernel_rfl) (by kernel_rfl) (by kernel_rfl) (fun _ _ _ h => h) (by rfl) hH ?hy1 ?rest1
  case hy1 =>
    intro X hX
    go_simp
    try rfl
  simp only [Act.put, List.setIfInBounds_toArray, List.set_cons_zero, List.set_cons_succ]
  refine' hw_take 1 (some 7) _ rfl rfl (by kernel_rfl) (by kernel_rfl) (by kernel_rfl) (fun _ _ _ h => h) (by rfl) hH ?hy2 ?rest2
  case hy2 =>
    intro X hX
    go_simp
    try rfl
  simp only [Act.put, List.setIfInBounds_toArray, List.set_cons_zero, List.set_cons_succ]
  refine' hw_take 2 (some 8) _ rfl rfl (by kernel_rfl) (by kernel_rfl) (by kernel_rfl) (fun _ _ _ h => h) (by rfl) hH ?hy3 ?rest3
  case hy3 =>
    intro X hX
    have cHX := hX.cells
    go_simp
    try rfl
  simp only [Act.put, List.setIfInBounds_toArray, List.set_cons_zero, List.set_cons_succ]
  refine' hw_take 3 (some 9) _ rfl rfl (by kernel_rfl) (by kernel_rfl) (by kernel_rfl) (fun _ _ _ h => h) (by rfl) hH ?hy4 ?rest4
  case hy4 =>
    intro X hX
    go_simp
    try rfl
  simp only [Act.put, List.setIfInBounds_toArray, List.set_cons_zero, List.set_cons_succ]
  refine' hw_take 4 (some 10) _ rfl rfl (by kernel_rfl) (by kernel_rfl) (by kernel_rfl) (fun _ _ _ h => h) (by rfl) hH ?hy5 ?rest5
  case hy5 =>
    intro X hX
    go_simp
    try rfl
  simp only [Act.put, List.setIfInBounds_toArray, List.set_cons_zero, List.set_cons_succ]
  refine' hw_take 5 (some 11) _ rfl rfl (by kernel_rfl) (by kernel_rfl) (by kernel_rfl) (fun _ _ _ h => h) (by rfl) hH ?hy6 ?rest6
  case hy6 =>
    intro X hX
    go_simp
    try rfl
  simp only [Act.put, List.setIfInBounds_toArray, List.set_cons_zero, List.set_cons_succ]
  refine' hw_take 6 (some 12) _ rfl rfl (by kernel_rfl) (by kernel_rfl) (by kernel_rfl) (fun _ _ _ h => h) (by rfl) hH ?hy7 ?rest7
  case hy7 =>
    intro X hX
    have cHX := hX.cells
    go_simp
    try rfl
  simp only [Act.put, List.setIfInBounds_toArray, List.set_cons_zero, List.set_cons_succ]
  refine' hw_take 7 (some 13) _ rfl rfl (by kernel_rfl) (by kernel_rfl) (by kernel_rfl) (fun _ _ _ h => h) (by rfl) hH ?hy8 ?rest8
  case hy8 =>
    intro X hX
    go_simp
    try rfl
  simp only [Act.put, List.setIfInBounds_toArray, List.set_cons_zero, List.set_cons_succ]
  refine' hw_take 8 (some 14) _ rfl rfl (by kernel_rfl) (by kernel_rfl) (by kernel_rfl) (fun _ _ _ h => h) (by rfl) hH ?hy9 ?rest9
  case hy9 =>
    intro X hX
    go_simp
    try rfl
  simp only [Act.put, List.setIfInBounds_toArray, List.set_cons_zero, List.set_cons_succ]
  refine' hw_take 9 (some 15) _ rfl rfl (by kernel_rfl) (by kernel_rfl) (by kernel_rfl) (fun _ _ _ h => h) (by rfl) hH ?hy10 ?rest10
  case hy10 =>
    intro X hX
    go_simp
    try rfl
  simp only [Act.put, List.setIfInBounds_toArray, List.set_cons_zero, List.set_cons_succ]
  refine' hw_take 10 (some 16) _ rfl rfl (by kernel_rfl) (by kernel_rfl) (by kernel_rfl) (fun _ _ _ h => h) (by rfl) hH ?hy11 ?rest11
  case hy11 =>
    intro X hX
    have cHX := hX.cells
    go_simp
    try rfl
  simp only [Act.put, List.setIfInBounds_toArray, List.set_cons_zero, List.set_cons_succ]
  refine' hw_take 11 (some 17) _ rfl rfl (by kernel_rfl) (by kernel_rfl) (by kernel_rfl) (fun _ _ _ h => h) (by rfl) hH ?hy12 ?rest12
  case hy12 =>
    intro X hX
    go_simp
    try rfl
  simp only [Act.put, List.setIfInBounds_toArray, List.set_cons_zero, List.set_cons_succ]
  refine' hw_take 12 (some 18) _ rfl rfl (by kernel_rfl) (by kernel_rfl) (by kernel_rfl) (fun _ _ _ h => h) (by rfl) hH ?hy13 ?rest13
  case hy13 =>
    intro X hX
    go_simp
    try rfl
  simp only [Act.put, List.setIfInBounds_toArray, List.set_cons_zero, List.set_cons_succ]
  refine' hw_take 14 (some 20) _ rfl rfl (by kernel_rfl) (by kernel_rfl) (by kernel_rfl) (fun _ _ _ h => h) (by rfl) hH ?hy14 ?rest14
  case hy14 =>
    intro X hX
    go_simp
    try rfl
  simp only [Act.put, List.setIfInBounds_toArray, List.set_cons_zero, List.set_cons_succ]
  refine' hw_take 15 (some 21) _ rfl rfl (by kernel_rfl) (by kernel_rfl) (by kernel_rfl) (fun _ _ _ h => h) (by rfl) hH ?hy15 ?rest15
  case hy15 =>
    intro X hX
    go_simp
    try rfl
  simp only [Act.put, List.setIfInBounds_toArray, List.set_cons_zero, List.set_cons_succ]
  refine' hw_take 16 (some 22) _ rfl rfl (by kernel_rfl) (by kernel_rfl) (by kernel_rfl) (fun _ _ _ h => h) (by rfl) hH ?hy16 ?rest16
  case hy16 =>
    intro X hX
    have cHX := hX.cells
    go_simp
    try rfl
  simp only [Act.put, List.setIfInBounds_toArray, List.set_cons_zero, List.set_cons_succ]
  refine' hw_take 17 (some 23) _ rfl rfl (by kernel_rfl) (by kernel_rfl) (by kernel_rfl) (fun _ _ _ h => h) (by rfl) hH ?hy17 ?rest17
  case hy17 =>
    intro X hX
    go_simp
    try rfl
  simp only [Act.put, List.setIfInBounds_toArray, List.set_cons_zero, List.set_cons_succ]
  refine' hw_take 18 (some 24) _ rfl rfl (by kernel_rfl) (by kernel_rfl) (by kernel_rfl) (fun _ _ _ h => h) (by rfl) hH ?hy18 ?rest18
  case hy18 =>
    intro X hX
    go_simp
    try rfl
  simp only [Act.put, List.setIfInBounds_toArray, List.set_cons_zero, List.set_cons_succ]
  refine wpAnyH_ready (rs := [13, 19]) (by kernel_rfl) (by simp) ?_
  refine hw_step 13 (some 19) rfl rfl (by rfl) (fun K hK => ?_) (hw_step 19 (some 25) rfl rfl (by rfl) (fun K hK => ?_) AllReadyH.nil)
  · go_simp
    refine hK.out _ _ hH (fun hH => ?_)
    simp only [Act.put, List.setIfInBounds_toArray, List.set_cons_zero, List.set_cons_succ]
    refine hw_call 19 (some 25) rfl rfl (by kernel_rfl) (by rfl) (fun K hK => ?_)
    go_simp
    refine hK.out _ _ hH (fun hH => ?_)
    simp only [Act.put, List.setIfInBounds_toArray, List.set_cons_zero, List.set_cons_succ]
    refine' hw_take 20 (some 26) _ rfl rfl (by kernel_rfl) (by kernel_rfl) (by kernel_rfl) (fun _ _ _ h => h) (by rfl) hH ?hy19 ?rest19
    case hy19 =>
      intro X hX
      go_simp
      try rfl
    simp only [Act.put, List.setIfInBounds_toArray, List.set_cons_zero, List.set_cons_succ]
    refine hw_call 21 none rfl rfl (by kernel_rfl) (by rfl) (fun K hK => ?_)
    refine hw_store_mid 38 (.tmp 26) (.tmp 19) rfl rfl b (i * 8) #[.int .i64 p', .int .i64 a', .int .i64 l', .int .i64 o', .slice x' m' d', .int .i64 nx', .int .i64 md', .int .i64 lc'] rfl rfl (how.there i hil) (by kernel_rfl) (by kernel_rfl) ?_
    have how1 : OwRow (w.drew.setCells b (i * 8) #[.int .i64 p', .int .i64 a', .int .i64 l', .int .i64 o', .slice x' m' d', .int .i64 nx', .int .i64 md', .int .i64 lc'].toList) b n c (V.set i ⟨⟨p', a', l', o', xs', nx', md', lc'⟩, x', d'⟩) := by
      have e := (show OwRow w.drew b n c V from how).putW i ⟨⟨p', a', l', o', xs', nx', md', lc'⟩, x', d'⟩
      unfold Rv.cs at e
      simp only [HL'.out] at e
      exact e
    have T1 : Turn (fun k => k = b) w.drew (w.drew.setCells b (i * 8) #[.int .i64 p', .int .i64 a', .int .i64 l', .int .i64 o', .slice x' m' d', .int .i64 nx', .int .i64 md', .int .i64 lc'].toList) := Turn.setCells w.drew b (i * 8) _
    have hd1 : Blk (w.drew.setCells b (i * 8) #[.int .i64 p', .int .i64 a', .int .i64 l', .int .i64 o', .slice x' m' d', .int .i64 nx', .int .i64 md', .int .i64 lc'].toList) H 118 #[.slice (some ⟨b, 0, none⟩) n c] := (show Blk w.drew H 118 #[.slice (some ⟨b, 0, none⟩) n c] from hd).turn T1 hne
    generalize w.drew.setCells b (i * 8) #[.int .i64 p', .int .i64 a', .int .i64 l', .int .i64 o', .slice x' m' d', .int .i64 nx', .int .i64 md', .int .i64 lc'].toList = w5 at how1 T1 hd1 ⊢
    have T10 := Turn.trans (((New.refl w).drew).turn (S := fun k => k = b)) T1 (fun _ _ e => e)
    clear T1
    refine hK.out _ _ hd1 (fun hH => ?_)
    simp only [Act.put]
    refine' hw_take 22 (some 27) _ rfl rfl (by kernel_rfl) (by kernel_rfl) (by kernel_rfl) (fun _ _ _ h => h) (by rfl) hH ?hy20 ?rest20
    case hy20 =>
      intro X hX
      go_simp
      try rfl
    simp only [Act.put, List.setIfInBounds_toArray, List.set_cons_zero, List.set_cons_succ]
    refine hw_call 23 none rfl rfl (by kernel_rfl) (by rfl) (fun K hK => ?_)
    refine hw_store_mid 38 (.tmp 27) (.tmp 25) rfl rfl b (j * 8) #[.int .i64 p, .int .i64 a, .int .i64 l, .int .i64 o, .slice x m d, .int .i64 nx, .int .i64 md, .int .i64 lc] rfl rfl (how1.there j hjl) (by kernel_rfl) (by kernel_rfl) ?_
    have how2 : OwRow (w5.setCells b (j * 8) #[.int .i64 p, .int .i64 a, .int .i64 l, .int .i64 o, .slice x m d, .int .i64 nx, .int .i64 md, .int .i64 lc].toList) b n c ((V.set i ⟨⟨p', a', l', o', xs', nx', md', lc'⟩, x', d'⟩).set j ⟨⟨p, a, l, o, xs, nx, md, lc⟩, x, d⟩) := by
      have e := how1.putW j ⟨⟨p, a, l, o, xs, nx, md, lc⟩, x, d⟩
      unfold Rv.cs at e
      simp only [HL.out] at e
      exact e
    have T2 : Turn (fun k => k = b) w5 (w5.setCells b (j * 8) #[.int .i64 p, .int .i64 a, .int .i64 l, .int .i64 o, .slice x m d, .int .i64 nx, .int .i64 md, .int .i64 lc].toList) := Turn.setCells _ b (j * 8) _
    have hd2 : Blk (w5.setCells b (j * 8) #[.int .i64 p, .int .i64 a, .int .i64 l, .int .i64 o, .slice x m d, .int .i64 nx, .int .i64 md, .int .i64 lc].toList) H 118 #[.slice (some ⟨b, 0, none⟩) n c] := hd1.turn T2 hne
    generalize w5.setCells b (j * 8) #[.int .i64 p, .int .i64 a, .int .i64 l, .int .i64 o, .slice x m d, .int .i64 nx, .int .i64 md, .int .i64 lc].toList = w6 at how2 T2 hd2 ⊢
    refine hK.out _ _ hd2 (fun hH => ?_)
    simp only [Act.put]
    refine wpAnyH_done (by kernel_rfl) ?_ _
    go_wp2
    first | (refine bodyPost_end (results_none rfl _ _ _) rfl ?_) | (refine bodyPost_ret (results_none rfl _ _ _) rfl ?_)
    exact ⟨rfl, (HF.out _ hd2 how2 (Turn.trans T10 T2 (fun _ _ e => e))).2⟩
  · go_simp
    refine hK.out _ _ hH (fun hH => ?_)
    simp only [Act.put, List.setIfInBounds_toArray, List.set_cons_zero, List.set_cons_succ]
    refine hw_call 13 (some 19) rfl rfl (by kernel_rfl) (by rfl) (fun K hK => ?_)
    go_simp
    refine hK.out _ _ hH (fun hH => ?_)
    simp only [Act.put, List.setIfInBounds_toArray, List.set_cons_zero, List.set_cons_succ]
    refine' hw_take 20 (some 26) _ rfl rfl (by kernel_rfl) (by kernel_rfl) (by kernel_rfl) (fun _ _ _ h => h) (by rfl) hH ?hy21 ?rest21
    case hy21 =>
      intro X hX
      go_simp
      try rfl
    simp only [Act.put, List.setIfInBounds_toArray, List.set_cons_zero, List.set_cons_succ]
    refine hw_call 21 none rfl rfl (by kernel_rfl) (by rfl) (fun K hK => ?_)
    refine hw_store_mid 38 (.tmp 26) (.tmp 19) rfl rfl b (i * 8) #[.int .i64 p', .int .i64 a', .int .i64 l', .int .i64 o', .slice x' m' d', .int .i64 nx', .int .i64 md', .int .i64 lc'] rfl rfl (how.there i hil) (by kernel_rfl) (by kernel_rfl) ?_
    have how1 : OwRow (w.drew.setCells b (i * 8) #[.int .i64 p', .int .i64 a', .int .i64 l', .int .i64 o', .slice x' m' d', .int .i64 nx', .int .i64 md', .int .i64 lc'].toList) b n c (V.set i ⟨⟨p', a', l', o', xs', nx', md', lc'⟩, x', d'⟩) := by
      have e := (show OwRow w.drew b n c V from how).putW i ⟨⟨p', a', l', o', xs', nx', md', lc'⟩, x', d'⟩
      unfold Rv.cs at e
      simp only [HL'.out] at e
      exact e
    have T1 : Turn (fun k => k = b) w.drew (w.drew.setCells b (i * 8) #[.int .i64 p', .int .i64 a', .int .i64 l', .int .i64 o', .slice x' m' d', .int .i64 nx', .int .i64 md', .int .i64 lc'].toList) := Turn.setCells w.drew b (i * 8) _
    have hd1 : Blk (w.drew.setCells b (i * 8) #[.int .i64 p', .int .i64 a', .int .i64 l', .int .i64 o', .slice x' m' d', .int .i64 nx', .int .i64 md', .int .i64 lc'].toList) H 118 #[.slice (some ⟨b, 0, none⟩) n c] := (show Blk w.drew H 118 #[.slice (some ⟨b, 0, none⟩) n c] from hd).turn T1 hne
    generalize w.drew.setCells b (i * 8) #[.int .i64 p', .int .i64 a', .int .i64 l', .int .i64 o', .slice x' m' d', .int .i64 nx', .int .i64 md', .int .i64 lc'].toList = w5 at how1 T1 hd1 ⊢
    have T10 := Turn.trans (((New.refl w).drew).turn (S := fun k => k = b)) T1 (fun _ _ e => e)
    clear T1
    refine hK.out _ _ hd1 (fun hH => ?_)
    simp only [Act.put]
    refine' hw_take 22 (some 27) _ rfl rfl (by kernel_rfl) (by kernel_rfl) (by kernel_rfl) (fun _ _ _ h => h) (by rfl) hH ?hy22 ?rest22
    case hy22 =>
      intro X hX
      go_simp
      try rfl
    simp only [Act.put, List.setIfInBounds_toArray, List.set_cons_zero, List.set_cons_succ]
    refine hw_call 23 none rfl rfl (by kernel_rfl) (by rfl) (fun K hK => ?_)
    refine hw_store_mid 38 (.tmp 27) (.tmp 25) rfl rfl b (j * 8) #[.int .i64 p, .int .i64 a, .int .i64 l, .int .i64 o, .slice x m d, .int .i64 nx, .int .i64 md, .int .i64 lc] rfl rfl (how1.there j hjl) (by kernel_rfl) (by kernel_rfl) ?_
    have how2 : OwRow (w5.setCells b (j * 8) #[.int .i64 p, .int .i64 a, .int .i64 l, .int .i64 o, .slice x m d, .int .i64 nx, .int .i64 md, .int .i64 lc].toList) b n c ((V.set i ⟨⟨p', a', l', o', xs', nx', md', lc'⟩, x', d'⟩).set j ⟨⟨p, a, l, o, xs, nx, md, lc⟩, x, d⟩) := by
      have e := how1.putW j ⟨⟨p, a, l, o, xs, nx, md, lc⟩, x, d⟩
      unfold Rv.cs at e
      simp only [HL.out] at e
      exact e
    have T2 : Turn (fun k => k = b) w5 (w5.setCells b (j * 8) #[.int .i64 p, .int .i64 a, .int .i64 l, .int .i64 o, .slice x m d, .int .i64 nx, .int .i64 md, .int .i64 lc].toList) := Turn.setCells _ b (j * 8) _
    have hd2 : Blk (w5.setCells b (j * 8) #[.int .i64 p, .int .i64 a, .int .i64 l, .int .i64 o, .slice x m d, .int .i64 nx, .int .i64 md, .int .i64 lc].toList) H 118 #[.slice (some ⟨b, 0, none⟩) n c] := hd1.turn T2 hne
    generalize w5.setCells b (j * 8) #[.int .i64 p, .int .i64 a, .int .i64 l, .int .i64 o, .slice x m d, .int .i64 nx, .int .i64 md, .int .i64 lc].toList = w6 at how2 T2 hd2 ⊢
    refine hK.out _ _ hd2 (fun hH => ?_)
    simp only [Act.put]
    refine wpAnyH_done (by kernel_rfl) ?_ _
    go_wp2
    first | (refine bodyPost_end (results_none rfl _ _ _) rfl ?_) | (refine bodyPost_ret (results_none rfl _ _ _) rfl ?_)
    exact ⟨rfl, (HF.out _ hd2 how2 (Turn.trans T10 T2 (fun _ _ e => e))).2⟩

end Go.Proofs.YtjampcfikfafkaaGreat

namespace Go.Proofs.YtjampcfikfafkaaGreat

section
variable {α : Type} {lt : α → α → Prop}

/-- Two places are swapped. -/
def sw (f : Nat → α) (i j : Nat) : Nat → α := fun k => if k = i then f j else if k = j then f i else f k
theorem sw_i (f : Nat → α) (i j : Nat) : sw f i j i = f j := by simp [sw]
theorem sw_j (f : Nat → α) (i j : Nat) : sw f i j j = f i := by
  unfold sw
  by_cases h : j = i
  · rw [if_pos h, h]
  · rw [if_neg h, if_pos rfl]
theorem sw_o (f : Nat → α) {i j k : Nat} (h1 : k ≠ i) (h2 : k ≠ j) : sw f i j k = f k := by simp [sw, h1, h2]

/-- A heap: nobody is less than who stands above. -/
def hpOK (lt : α → α → Prop) (f : Nat → α) (n : Nat) : Prop := ∀ k, 0 < k → k < n → ¬ lt (f k) (f ((k - 1) / 2))
/-- A heap but at the place j, on the way up. -/
def upOK (lt : α → α → Prop) (f : Nat → α) (n j : Nat) : Prop := (∀ k, 0 < k → k < n → k ≠ j → ¬ lt (f k) (f ((k - 1) / 2))) ∧ (∀ k, 0 < k → k < n → (k - 1) / 2 = j → 0 < j → ¬ lt (f k) (f ((j - 1) / 2)))
/-- A heap but below the place i, on the way down. -/
def dnOK (lt : α → α → Prop) (f : Nat → α) (n i : Nat) : Prop := (∀ k, 0 < k → k < n → (k - 1) / 2 ≠ i → ¬ lt (f k) (f ((k - 1) / 2))) ∧ (∀ k, 0 < k → k < n → (k - 1) / 2 = i → 0 < i → ¬ lt (f k) (f ((i - 1) / 2)))

theorem up_push {f : Nat → α} {n : Nat} (h : hpOK lt f n) : upOK lt f (n + 1) n :=
  ⟨fun k h0 h1 h2 => h k h0 (by omega), fun k h0 h1 h2 h3 => by omega⟩
theorem up_done {f : Nat → α} {n j : Nat} (h : upOK lt f n j) (hj : j = 0 ∨ ¬ lt (f j) (f ((j - 1) / 2))) : hpOK lt f n := by
  intro k h0 h1
  by_cases e : k = j
  · subst e
    rcases hj with rfl | hj
    · omega
    · exact hj
  · exact h.1 k h0 h1 e

theorem up_step (tr : ∀ a b c, ¬ lt b a → ¬ lt c b → ¬ lt c a) (asy : ∀ a b, lt a b → ¬ lt b a) {f : Nat → α} {n j : Nat} (h : upOK lt f n j) (h0 : 0 < j) (hn : j < n) (hl : lt (f j) (f ((j - 1) / 2))) : upOK lt (sw f ((j - 1) / 2) j) n ((j - 1) / 2) := by
  obtain ⟨h1, h2⟩ := h
  have hij : (j - 1) / 2 < j := by omega
  have hs := asy _ _ hl
  generalize hi : (j - 1) / 2 = i at *
  refine ⟨fun k k0 kn ki => ?_, fun k k0 kn ki i0 => ?_⟩
  · by_cases kj : k = j
    · subst kj
      rw [sw_j, hi, sw_i]
      exact hs
    · rw [sw_o f ki kj]
      by_cases e1 : (k - 1) / 2 = i
      · rw [e1, sw_i]
        have := h1 k k0 kn kj
        rw [e1] at this
        exact tr _ _ _ hs this
      · by_cases e2 : (k - 1) / 2 = j
        · rw [e2, sw_j]
          have := h2 k k0 kn e2 h0
          exact this
        · rw [sw_o f e1 e2]
          exact h1 k k0 kn kj
  · rw [sw_o f (show (i - 1) / 2 ≠ i by omega) (show (i - 1) / 2 ≠ j by omega)]
    have hii := h1 i i0 (by omega) (by omega)
    by_cases kj : k = j
    · subst kj
      rw [sw_j]
      exact hii
    · rw [sw_o f (show k ≠ i by omega) kj]
      have := h1 k k0 kn kj
      rw [ki] at this
      exact tr _ _ _ hii this

theorem dn_pop {f : Nat → α} {n : Nat} (h : hpOK lt f (n + 1)) : dnOK lt (sw f 0 n) n 0 := by
  refine ⟨fun k h0 h1 h2 => ?_, fun k h0 h1 h2 h3 => by omega⟩
  rw [sw_o f (by omega) (by omega), sw_o f h2 (by omega)]
  exact h k h0 (by omega)
theorem dn_done {f : Nat → α} {n i : Nat} (h : dnOK lt f n i) (hc : ∀ k, 0 < k → k < n → (k - 1) / 2 = i → ¬ lt (f k) (f i)) : hpOK lt f n := by
  intro k h0 h1
  by_cases e : (k - 1) / 2 = i
  · rw [e]
    exact hc k h0 h1 e
  · exact h.1 k h0 h1 e
theorem dn_step (asy : ∀ a b, lt a b → ¬ lt b a) {f : Nat → α} {n i j : Nat} (h : dnOK lt f n i) (hj0 : 0 < j) (hj : j < n) (hp : (j - 1) / 2 = i) (hl : lt (f j) (f i)) (hc : ∀ k, 0 < k → k < n → (k - 1) / 2 = i → ¬ lt (f k) (f j)) : dnOK lt (sw f i j) n j := by
  obtain ⟨h1, h2⟩ := h
  have hij : i < j := by omega
  refine ⟨fun k k0 kn kp => ?_, fun k k0 kn kp j0 => ?_⟩
  · by_cases e1 : (k - 1) / 2 = i
    · rw [e1, sw_i]
      by_cases kj : k = j
      · subst kj
        rw [sw_j]
        exact asy _ _ hl
      · rw [sw_o f (show k ≠ i by omega) kj]
        exact hc k k0 kn e1
    · rw [sw_o f e1 kp]
      by_cases ki : k = i
      · subst ki
        rw [sw_i]
        exact h2 j hj0 hj hp k0
      · by_cases kj : k = j
        · subst kj
          exact absurd hp e1
        · rw [sw_o f ki kj]
          exact h1 k k0 kn e1
  · rw [hp, sw_i, sw_o f (show k ≠ i by omega) (show k ≠ j by omega)]
    have := h1 k k0 kn (by omega)
    rw [kp] at this
    exact this

/-- Who stands on top is the least. -/
theorem hp_top (tr : ∀ a b c, ¬ lt b a → ¬ lt c b → ¬ lt c a) (irr : ∀ a, ¬ lt a a) {f : Nat → α} {n : Nat} (h : hpOK lt f n) : ∀ k, k < n → ¬ lt (f k) (f 0) := by
  intro k
  induction k using Nat.strongRecOn with
  | _ k ih =>
    intro hk
    rcases Nat.eq_zero_or_pos k with rfl | h0
    · exact irr _
    · exact tr _ _ _ (ih ((k - 1) / 2) (by omega) (by omega)) (h k h0 hk)
end

end Go.Proofs.YtjampcfikfafkaaGreat

namespace Go.Proofs.YtjampcfikfafkaaGreat
open Go.RowKit
set_option linter.unusedVariables false

theorem orL_two (x y : Int) : orL [x, y] < 0 ↔ (x < 0 ∨ (x = 0 ∧ y < 0)) := by
  unfold orL
  by_cases h : x = 0
  · by_cases k : y = 0 <;> simp [h, k, orL]
  · simp [h]
theorem orL_zero2 (a a' l l' : Int) : orL [cmp3 a a', cmp3 l l'] = 0 ↔ (a = a' ∧ l = l') := by
  rcases Int.lt_trichotomy a a' with h | h | h
  · rw [cmp3_lt h]; simp [orL]; omega
  · rw [cmp3_eq h]
    rcases Int.lt_trichotomy l l' with k | k | k
    · rw [cmp3_lt k]; simp [orL]; omega
    · rw [cmp3_eq k]; simp [orL, h, k]
    · rw [cmp3_gt k]; simp [orL]; omega
  · rw [cmp3_gt h]; simp [orL]; omega
theorem hcmp_lt (r s : Rt) : hcmp r s < 0 ↔ (r.a < s.a ∨ (r.a = s.a ∧ (r.l < s.l ∨ (r.l = s.l ∧ cmpW r.p r.o r.md r.lc r.xs.length s.p s.o s.md s.lc s.xs.length < 0)))) := by
  unfold hcmp
  rw [orL_two, orL_zero2, orL_lt, orL_lt]
  simp only [orL, Int.lt_irrefl, and_false, or_false]
  omega

/-- The order of the heap. -/
def hlt (u v : Rv) : Prop := hcmp u.r v.r < 0
instance (u v : Rv) : Decidable (hlt u v) := by unfold hlt; infer_instance
theorem hlt_irr (a : Rv) : ¬ hlt a a := by unfold hlt; rw [hcmp_lt, cmpW_lt]; omega
theorem hlt_asy (a b : Rv) (h : hlt a b) : ¬ hlt b a := by
  unfold hlt at h ⊢
  rw [hcmp_lt, cmpW_lt] at h ⊢
  omega
theorem hlt_tr (a b c : Rv) (h : ¬ hlt b a) (k : ¬ hlt c b) : ¬ hlt c a := by
  unfold hlt at h k ⊢
  rw [hcmp_lt] at h k ⊢
  by_cases e1 : a.r.a = b.r.a ∧ b.r.a = c.r.a ∧ a.r.l = b.r.l ∧ b.r.l = c.r.l
  · obtain ⟨e1, e2, e3, e4⟩ := e1
    simp only [e1, e2, e3, e4, Int.lt_irrefl, true_and, false_or] at h k ⊢
    rw [cmpW_lt] at h k ⊢
    omega
  · intro x
    rcases x with x | ⟨x, x | ⟨x', -⟩⟩ <;> omega
/-- Who are not one prefix's one peer's are one before the other. -/
theorem hlt_tot (a b : Rv) (h : ¬ (a.r.p = b.r.p ∧ a.r.a = b.r.a ∧ a.r.l = b.r.l)) (k : ¬ hlt a b) : hlt b a := by
  unfold hlt at k ⊢
  rw [hcmp_lt, cmpW_lt] at k ⊢
  omega

/-- The list as a function. -/
def hf (V : List Rv) : Nat → Rv := fun k => (V[k]?).getD rv0
theorem hf_get {V : List Rv} {i : Nat} {u : Rv} (h : V[i]? = some u) : hf V i = u := by simp [hf, h]
theorem hf_sw {V : List Rv} {i j : Nat} {u v : Rv} (hi : V[i]? = some u) (hj : V[j]? = some v) : hf ((V.set i v).set j u) = sw (hf V) i j := by
  have h1 := (List.getElem?_eq_some_iff.1 hi).1
  have h2 := (List.getElem?_eq_some_iff.1 hj).1
  funext k
  unfold sw
  rw [hf_get hi, hf_get hj]
  by_cases e1 : k = j
  · subst e1
    rw [hf_get (u := u) (by rw [List.getElem?_set]; simp [h2])]
    by_cases e2 : k = i
    · subst e2
      rw [hi] at hj
      rw [if_pos rfl, Option.some.inj hj]
    · rw [if_neg e2, if_pos rfl]
  · by_cases e2 : k = i
    · subst e2
      rw [if_pos rfl, hf_get (u := v)]
      rw [List.getElem?_set_ne (fun e => e1 e.symm), List.getElem?_set]
      simp [h1]
    · rw [if_neg e2, if_neg e1]
      unfold hf
      rw [List.getElem?_set_ne (fun e => e1 e.symm), List.getElem?_set_ne (fun e => e2 e.symm)]
theorem perm_sw {V : List Rv} {i j : Nat} {u v : Rv} (hi : V[i]? = some u) (hj : V[j]? = some v) : ((V.set i v).set j u).Perm V := by
  obtain ⟨h1, e1⟩ := List.getElem?_eq_some_iff.1 hi
  obtain ⟨h2, e2⟩ := List.getElem?_eq_some_iff.1 hj
  have h := List.set_set_perm h1 h2
  rw [e1, e2] at h
  exact h
theorem hf_at {V : List Rv} {i : Nat} (h : i < V.length) : V[i]? = some (hf V i) := by
  unfold hf
  rw [List.getElem?_eq_getElem h]
  rfl

end Go.Proofs.YtjampcfikfafkaaGreat

namespace Go.Proofs.YtjampcfikfafkaaGreat
open Go.RowKit Go.Sort
set_option linter.unusedVariables false
set_option linter.unusedSimpArgs false

/-- The heap as heap's functions are handed it. -/
abbrev hpI (H : Nat) : Value := .iface 79 (.pointer (some ⟨H, 0, none⟩))

set_option maxRecDepth 100000 in
set_option maxHeartbeats 6400000 in
theorem up_heap (H b c : Nat) (V : List Rv) (n j : Nat) (w : World) (hp : HpAt w H b c V) (hn : V.length = n) (hm : n ≤ 1048576) (hj : j < n) (hu : upOK hlt (hf V) n j) : Calls Tryz.prog 108 #[.iface 79 (.pointer (some ⟨H, 0, none⟩)), .int .i64 j] w fun e w' => e = .returned (.tuple #[]) ∧ ∃ V', HpAt w' H b c V' ∧ V'.Perm V ∧ hpOK hlt (hf V') n ∧ Turn (fun k => k = b) w w' := by
  have HN : Hid (V.length = n) := hn
  go_enter Tryz.func108, Tryz.ntmps108
  go_wp2_with fail
  go_loopw [1] (fun jv wr => ∃ (j' : Nat) (V' : List Rv), jv = .int .i64 j' ∧ j' < n ∧ HpAt wr H b c V' ∧ V'.Perm V ∧ upOK hlt (hf V') n j' ∧ Turn (fun k => k = b) w wr) (fun jv _ => (intOf jv).toNat)
  case atStart => exact ⟨j, V, rfl, hj, hp, List.Perm.refl _, hu, Turn.refl _ _⟩
  case round =>
    obtain ⟨j', V', rfl, hj', hp', hpm, hup, ht⟩ := hrel
    have HN' : Hid (V'.length = n) := hpm.length_eq.trans HN.out
    have HP : Hid (HpAt wr H b c V') := hp'
    have HM : Hid (V'.Perm V) := hpm
    have HU : Hid (upOK hlt (hf V') n j') := hup
    clear hp' hpm hup hp hu hn
    by_cases h0 : j' = 0
    · subst h0
      go_wp2
      go_returns
      exact ⟨rfl, V', HP.out, HM.out, up_done HU.out (.inl rfl), ht⟩
    · have hi1 : (j' : Int) - 1 = ((j' - 1 : Nat) : Int) := by omega
      have hw1 : IntKind.i64.wrap ((j' : Int) - 1) = ((j' - 1 : Nat) : Int) := by rw [IntKind.wrap_i64]; omega
      have hu' : V'[j']? = some (hf V' j') := hf_at (by rw [HN'.out]; omega)
      have hv' : V'[(j' - 1) / 2]? = some (hf V' ((j' - 1) / 2)) := hf_at (by rw [HN'.out]; omega)
      have HU' : Hid (V'[j']? = some (hf V' j')) := hu'
      have HV' : Hid (V'[(j' - 1) / 2]? = some (hf V' ((j' - 1) / 2))) := hv'
      clear hu' hv'
      by_cases hl : hlt (hf V' j') (hf V' ((j' - 1) / 2))
      case neg =>
        have HD : Hid (hpOK hlt (hf V') n) := up_done HU.out (.inr hl)
        have HZ : Hid (decide (hcmp (hf V' j').r (hf V' ((j' - 1) / 2)).r < 0) = false) := decide_eq_false hl
        clear hl
        go_wp2_with fail
        rw [show ((j' - 1 : Nat) : Int) / 2 = (((j' - 1) / 2 : Nat) : Int) by omega]
        have hne : ((((j' - 1) / 2 : Nat) : Int) == (j' : Int)) = false := by simp; omega
        refine (less_heap H b c V' n j' ((j' - 1) / 2) _ _ false wr HP.out HN'.out hm HU'.out HV'.out HZ.out).mono ?_
        rintro e w1 ⟨rfl, hn1⟩
        rw [hne]
        go_wp2
        go_returns
        exact ⟨rfl, V', HP.out.new hn1, HM.out, HD.out, Turn.trans ht hn1.turn (fun _ _ e => e)⟩
      case pos =>
        have HZ : Hid (decide (hcmp (hf V' j').r (hf V' ((j' - 1) / 2)).r < 0) = true) := decide_eq_true hl
        have HS : Hid (upOK hlt (hf ((V'.set ((j' - 1) / 2) (hf V' j')).set j' (hf V' ((j' - 1) / 2)))) n ((j' - 1) / 2)) := by
          have h := up_step (fun a b c => hlt_tr a b c) hlt_asy HU.out (by omega) hj' hl
          rw [← hf_sw HV'.out HU'.out] at h
          exact h
        clear hl
        go_wp2_with fail
        rw [show ((j' - 1 : Nat) : Int) / 2 = (((j' - 1) / 2 : Nat) : Int) by omega]
        have hne : ((((j' - 1) / 2 : Nat) : Int) == (j' : Int)) = false := by simp; omega
        refine (less_heap H b c V' n j' ((j' - 1) / 2) _ _ true wr HP.out HN'.out hm HU'.out HV'.out HZ.out).mono ?_
        rintro e w1 ⟨rfl, hn1⟩
        rw [hne]
        go_wp2_with fail
        refine (swap_heap H b c V' n ((j' - 1) / 2) j' _ _ w1 (HP.out.new hn1) HN'.out hm HV'.out HU'.out).mono ?_
        rintro e w2 ⟨rfl, hp2, t2⟩
        have HP2 : Hid (HpAt w2 H b c ((V'.set ((j' - 1) / 2) (hf V' j')).set j' (hf V' ((j' - 1) / 2)))) := hp2
        clear hp2
        go_wp2
        go_roundw
        case rel => exact ⟨(j' - 1) / 2, _, rfl, by omega, HP2.out, (perm_sw HV'.out HU'.out).trans HM.out, HS.out, Turn.trans (Turn.trans ht hn1.turn (fun _ _ e => e)) t2 (fun _ _ e => e)⟩
        case measure => simp [intOf]; omega

end Go.Proofs.YtjampcfikfafkaaGreat

namespace Go.Proofs.YtjampcfikfafkaaGreat
open Go.RowKit Go.Sort
set_option linter.unusedVariables false
set_option linter.unusedSimpArgs false

/-- A heap down to a place: what lies behind the place is left as it is. -/
theorem dn_both {f : Nat → Rv} {n i j : Nat} (tr : ∀ a b c : Rv, ¬ hlt b a → ¬ hlt c b → ¬ hlt c a) (h1 : 2 * i + 1 < n) (hj : (j = 2 * i + 1 ∧ (2 * i + 2 < n → ¬ hlt (f (2 * i + 2)) (f (2 * i + 1)))) ∨ (j = 2 * i + 2 ∧ 2 * i + 2 < n ∧ hlt (f (2 * i + 2)) (f (2 * i + 1)))) : ∀ k, 0 < k → k < n → (k - 1) / 2 = i → ¬ hlt (f k) (f j) := by
  intro k k0 kn ki
  have hk : k = 2 * i + 1 ∨ k = 2 * i + 2 := by omega
  rcases hj with ⟨rfl, h⟩ | ⟨rfl, h2, h⟩
  · rcases hk with rfl | rfl
    · exact hlt_irr _
    · exact h kn
  · rcases hk with rfl | rfl
    · exact hlt_asy _ _ h
    · exact hlt_irr _

set_option maxRecDepth 100000 in
set_option maxHeartbeats 6400000 in
theorem down_heap (H b c : Nat) (V : List Rv) (n N : Nat) (w : World) (hp : HpAt w H b c V) (hn : V.length = N) (hm : N ≤ 1048576) (hnN : n ≤ N) (hu : dnOK hlt (hf V) n 0) : Calls Tryz.prog 109 #[.iface 79 (.pointer (some ⟨H, 0, none⟩)), .int .i64 0, .int .i64 n] w fun e w' => (∃ z, e = .returned (.bool z)) ∧ ∃ V', HpAt w' H b c V' ∧ V'.Perm V ∧ hpOK hlt (hf V') n ∧ (∀ k, n ≤ k → hf V' k = hf V k) ∧ Turn (fun k => k = b) w w' := by
  have HN : Hid (V.length = N) := hn
  go_enter Tryz.func109, Tryz.ntmps109
  go_wp2_with fail
  go_loopw [7] (fun iv wr => ∃ (i : Nat) (V' : List Rv), iv = .int .i64 i ∧ (i < n ∨ i = 0) ∧ HpAt wr H b c V' ∧ V'.Perm V ∧ dnOK hlt (hf V') n i ∧ (∀ k, n ≤ k → hf V' k = hf V k) ∧ Turn (fun k => k = b) w wr) (fun iv _ => n - (intOf iv).toNat)
  case atStart => exact ⟨0, V, rfl, .inr rfl, hp, List.Perm.refl _, hu, fun _ _ => rfl, Turn.refl _ _⟩
  case round =>
    obtain ⟨i, V', rfl, hi, hp', hpm, hup, hfar, ht⟩ := hrel
    have HN' : Hid (V'.length = N) := hpm.length_eq.trans HN.out
    have HP : Hid (HpAt wr H b c V') := hp'
    have HM : Hid (V'.Perm V) := hpm
    have HU : Hid (dnOK hlt (hf V') n i) := hup
    have HFA : Hid (∀ k, n ≤ k → hf V' k = hf V k) := hfar
    have HT : Hid (Turn (fun k => k = b) w wr) := ht
    clear hp' hpm hup hp hu hn hfar ht
    have hw1 : IntKind.i64.wrap (2 * (i : Int)) = 2 * (i : Int) := by rw [IntKind.wrap_i64]; omega
    have hw2 : IntKind.i64.wrap (2 * (i : Int) + 1) = 2 * (i : Int) + 1 := by rw [IntKind.wrap_i64]; omega
    have hg0 : ¬ 2 * (i : Int) + 1 < 0 := by omega
    by_cases h1 : 2 * i + 1 < n
    case neg =>
      have hge : (n : Int) ≤ 2 * (i : Int) + 1 := by omega
      have HD : Hid (hpOK hlt (hf V') n) := dn_done HU.out (fun k k0 kn ki => by omega)
      go_wp2
      go_returns
      exact ⟨by first | exact trivial | exact ⟨_, rfl⟩ | (simp; omega), V', HP.out, HM.out, HD.out, HFA.out, HT.out⟩
    case pos =>
      have hge : ¬ (n : Int) ≤ 2 * (i : Int) + 1 := by omega
      have hw3 : IntKind.i64.wrap (2 * (i : Int) + 1 + 1) = 2 * (i : Int) + 1 + 1 := by rw [IntKind.wrap_i64]; omega
      by_cases h2 : 2 * i + 2 < n
      case neg =>
        have hl2 : ¬ 2 * (i : Int) + 1 + 1 < (n : Int) := by omega
        have HJ : Hid (V'[2 * i + 1]? = some (hf V' (2 * i + 1))) := hf_at (by rw [HN'.out]; omega)
        have HI : Hid (V'[i]? = some (hf V' i)) := hf_at (by rw [HN'.out]; omega)
        have HB : Hid (∀ k, 0 < k → k < n → (k - 1) / 2 = i → ¬ hlt (hf V' k) (hf V' (2 * i + 1))) := dn_both hlt_tr h1 (.inl ⟨rfl, fun h => absurd h h2⟩)
        by_cases hl : hlt (hf V' (2 * i + 1)) (hf V' i)
        case neg =>
          have HD : Hid (hpOK hlt (hf V') n) := dn_done HU.out (fun k k0 kn ki => hlt_tr _ _ _ hl (HB.out k k0 kn ki))
          have HZ : Hid (decide (hcmp (hf V' (2 * i + 1)).r (hf V' i).r < 0) = false) := decide_eq_false hl
          clear hl
          go_wp2_with fail
          rw [show 2 * (i : Int) + 1 = ((2 * i + 1 : Nat) : Int) by omega]
          refine (less_heap H b c V' N (2 * i + 1) i _ _ false wr HP.out HN'.out hm HJ.out HI.out HZ.out).mono ?_
          rintro e w2 ⟨rfl, hn2⟩
          go_wp2
          go_returns
          exact ⟨by first | exact trivial | exact ⟨_, rfl⟩ | (simp; omega), V', (HP.out).new hn2, HM.out, HD.out, HFA.out, Turn.trans (HT.out) hn2.turn (fun _ _ e => e)⟩
        case pos =>
          have HZ : Hid (decide (hcmp (hf V' (2 * i + 1)).r (hf V' i).r < 0) = true) := decide_eq_true hl
          have HS : Hid (dnOK hlt (hf ((V'.set i (hf V' (2 * i + 1))).set (2 * i + 1) (hf V' i))) n (2 * i + 1)) := by
            have h := dn_step hlt_asy HU.out (by omega) (by omega) (by omega) hl HB.out
            rw [← hf_sw HI.out HJ.out] at h
            exact h
          have HG : Hid (∀ k, n ≤ k → hf ((V'.set i (hf V' (2 * i + 1))).set (2 * i + 1) (hf V' i)) k = hf V k) := fun k hk => by
            rw [hf_sw HI.out HJ.out, sw_o _ (by omega) (by omega)]
            exact HFA.out k hk
          clear hl
          go_wp2_with fail
          rw [show 2 * (i : Int) + 1 = ((2 * i + 1 : Nat) : Int) by omega]
          refine (less_heap H b c V' N (2 * i + 1) i _ _ true wr HP.out HN'.out hm HJ.out HI.out HZ.out).mono ?_
          rintro e w2 ⟨rfl, hn2⟩
          go_wp2_with fail
          refine (swap_heap H b c V' N i (2 * i + 1) _ _ w2 ((HP.out).new hn2) HN'.out hm HI.out HJ.out).mono ?_
          rintro e w3 ⟨rfl, hp3, t3⟩
          have HP3 : Hid (HpAt w3 H b c ((V'.set i (hf V' (2 * i + 1))).set (2 * i + 1) (hf V' i))) := hp3
          clear hp3
          go_wp2
          go_roundw
          case rel => exact ⟨2 * i + 1, _, rfl, .inl (by omega), HP3.out, (perm_sw HI.out HJ.out).trans HM.out, HS.out, HG.out, Turn.trans (Turn.trans (HT.out) hn2.turn (fun _ _ e => e)) t3 (fun _ _ e => e)⟩
          case measure => simp [intOf]; omega
      case pos =>
        have hl2 : 2 * (i : Int) + 1 + 1 < (n : Int) := by omega
        have HR : Hid (V'[2 * i + 2]? = some (hf V' (2 * i + 2))) := hf_at (by rw [HN'.out]; omega)
        have HL : Hid (V'[2 * i + 1]? = some (hf V' (2 * i + 1))) := hf_at (by rw [HN'.out]; omega)
        by_cases hc : hlt (hf V' (2 * i + 2)) (hf V' (2 * i + 1))
        case pos =>
          have HC : Hid (hlt (hf V' (2 * i + 2)) (hf V' (2 * i + 1))) := hc
          have HZC : Hid (decide (hcmp (hf V' (2 * i + 2)).r (hf V' (2 * i + 1)).r < 0) = true) := decide_eq_true hc
          clear hc
          go_wp2_with fail
          rw [show 2 * (i : Int) + 1 + 1 = ((2 * i + 2 : Nat) : Int) by omega, show 2 * (i : Int) + 1 = ((2 * i + 1 : Nat) : Int) by omega]
          refine (less_heap H b c V' N (2 * i + 2) (2 * i + 1) _ _ true wr HP.out HN'.out hm HR.out HL.out HZC.out).mono ?_
          rintro e w1 ⟨rfl, hn1⟩
          have HJ : Hid (V'[2 * i + 2]? = some (hf V' (2 * i + 2))) := hf_at (by rw [HN'.out]; omega)
          have HI : Hid (V'[i]? = some (hf V' i)) := hf_at (by rw [HN'.out]; omega)
          have HB : Hid (∀ k, 0 < k → k < n → (k - 1) / 2 = i → ¬ hlt (hf V' k) (hf V' (2 * i + 2))) := dn_both hlt_tr h1 (.inr ⟨rfl, h2, HC.out⟩)
          by_cases hl : hlt (hf V' (2 * i + 2)) (hf V' i)
          case neg =>
            have HD : Hid (hpOK hlt (hf V') n) := dn_done HU.out (fun k k0 kn ki => hlt_tr _ _ _ hl (HB.out k k0 kn ki))
            have HZ : Hid (decide (hcmp (hf V' (2 * i + 2)).r (hf V' i).r < 0) = false) := decide_eq_false hl
            clear hl
            go_wp2_with fail
            refine (less_heap H b c V' N (2 * i + 2) i _ _ false w1 (HP.out.new hn1) HN'.out hm HJ.out HI.out HZ.out).mono ?_
            rintro e w2 ⟨rfl, hn2⟩
            go_wp2
            go_returns
            exact ⟨by first | exact trivial | exact ⟨_, rfl⟩ | (simp; omega), V', ((HP.out.new hn1)).new hn2, HM.out, HD.out, HFA.out, Turn.trans (Turn.trans HT.out hn1.turn (fun _ _ e => e)) hn2.turn (fun _ _ e => e)⟩
          case pos =>
            have HZ : Hid (decide (hcmp (hf V' (2 * i + 2)).r (hf V' i).r < 0) = true) := decide_eq_true hl
            have HS : Hid (dnOK hlt (hf ((V'.set i (hf V' (2 * i + 2))).set (2 * i + 2) (hf V' i))) n (2 * i + 2)) := by
              have h := dn_step hlt_asy HU.out (by omega) (by omega) (by omega) hl HB.out
              rw [← hf_sw HI.out HJ.out] at h
              exact h
            have HG : Hid (∀ k, n ≤ k → hf ((V'.set i (hf V' (2 * i + 2))).set (2 * i + 2) (hf V' i)) k = hf V k) := fun k hk => by
              rw [hf_sw HI.out HJ.out, sw_o _ (by omega) (by omega)]
              exact HFA.out k hk
            clear hl
            go_wp2_with fail
            refine (less_heap H b c V' N (2 * i + 2) i _ _ true w1 (HP.out.new hn1) HN'.out hm HJ.out HI.out HZ.out).mono ?_
            rintro e w2 ⟨rfl, hn2⟩
            go_wp2_with fail
            refine (swap_heap H b c V' N i (2 * i + 2) _ _ w2 (((HP.out.new hn1)).new hn2) HN'.out hm HI.out HJ.out).mono ?_
            rintro e w3 ⟨rfl, hp3, t3⟩
            have HP3 : Hid (HpAt w3 H b c ((V'.set i (hf V' (2 * i + 2))).set (2 * i + 2) (hf V' i))) := hp3
            clear hp3
            go_wp2
            go_roundw
            case rel => exact ⟨2 * i + 2, _, rfl, .inl (by omega), HP3.out, (perm_sw HI.out HJ.out).trans HM.out, HS.out, HG.out, Turn.trans (Turn.trans (Turn.trans HT.out hn1.turn (fun _ _ e => e)) hn2.turn (fun _ _ e => e)) t3 (fun _ _ e => e)⟩
            case measure => simp [intOf]; omega
        case neg =>
          have HC : Hid (¬ hlt (hf V' (2 * i + 2)) (hf V' (2 * i + 1))) := hc
          have HZC : Hid (decide (hcmp (hf V' (2 * i + 2)).r (hf V' (2 * i + 1)).r < 0) = false) := decide_eq_false hc
          clear hc
          go_wp2_with fail
          rw [show 2 * (i : Int) + 1 + 1 = ((2 * i + 2 : Nat) : Int) by omega, show 2 * (i : Int) + 1 = ((2 * i + 1 : Nat) : Int) by omega]
          refine (less_heap H b c V' N (2 * i + 2) (2 * i + 1) _ _ false wr HP.out HN'.out hm HR.out HL.out HZC.out).mono ?_
          rintro e w1 ⟨rfl, hn1⟩
          have HJ : Hid (V'[2 * i + 1]? = some (hf V' (2 * i + 1))) := hf_at (by rw [HN'.out]; omega)
          have HI : Hid (V'[i]? = some (hf V' i)) := hf_at (by rw [HN'.out]; omega)
          have HB : Hid (∀ k, 0 < k → k < n → (k - 1) / 2 = i → ¬ hlt (hf V' k) (hf V' (2 * i + 1))) := dn_both hlt_tr h1 (.inl ⟨rfl, fun _ => HC.out⟩)
          by_cases hl : hlt (hf V' (2 * i + 1)) (hf V' i)
          case neg =>
            have HD : Hid (hpOK hlt (hf V') n) := dn_done HU.out (fun k k0 kn ki => hlt_tr _ _ _ hl (HB.out k k0 kn ki))
            have HZ : Hid (decide (hcmp (hf V' (2 * i + 1)).r (hf V' i).r < 0) = false) := decide_eq_false hl
            clear hl
            go_wp2_with fail
            refine (less_heap H b c V' N (2 * i + 1) i _ _ false w1 (HP.out.new hn1) HN'.out hm HJ.out HI.out HZ.out).mono ?_
            rintro e w2 ⟨rfl, hn2⟩
            go_wp2
            go_returns
            exact ⟨by first | exact trivial | exact ⟨_, rfl⟩ | (simp; omega), V', ((HP.out.new hn1)).new hn2, HM.out, HD.out, HFA.out, Turn.trans (Turn.trans HT.out hn1.turn (fun _ _ e => e)) hn2.turn (fun _ _ e => e)⟩
          case pos =>
            have HZ : Hid (decide (hcmp (hf V' (2 * i + 1)).r (hf V' i).r < 0) = true) := decide_eq_true hl
            have HS : Hid (dnOK hlt (hf ((V'.set i (hf V' (2 * i + 1))).set (2 * i + 1) (hf V' i))) n (2 * i + 1)) := by
              have h := dn_step hlt_asy HU.out (by omega) (by omega) (by omega) hl HB.out
              rw [← hf_sw HI.out HJ.out] at h
              exact h
            have HG : Hid (∀ k, n ≤ k → hf ((V'.set i (hf V' (2 * i + 1))).set (2 * i + 1) (hf V' i)) k = hf V k) := fun k hk => by
              rw [hf_sw HI.out HJ.out, sw_o _ (by omega) (by omega)]
              exact HFA.out k hk
            clear hl
            go_wp2_with fail
            refine (less_heap H b c V' N (2 * i + 1) i _ _ true w1 (HP.out.new hn1) HN'.out hm HJ.out HI.out HZ.out).mono ?_
            rintro e w2 ⟨rfl, hn2⟩
            go_wp2_with fail
            refine (swap_heap H b c V' N i (2 * i + 1) _ _ w2 (((HP.out.new hn1)).new hn2) HN'.out hm HI.out HJ.out).mono ?_
            rintro e w3 ⟨rfl, hp3, t3⟩
            have HP3 : Hid (HpAt w3 H b c ((V'.set i (hf V' (2 * i + 1))).set (2 * i + 1) (hf V' i))) := hp3
            clear hp3
            go_wp2
            go_roundw
            case rel => exact ⟨2 * i + 1, _, rfl, .inl (by omega), HP3.out, (perm_sw HI.out HJ.out).trans HM.out, HS.out, HG.out, Turn.trans (Turn.trans (Turn.trans HT.out hn1.turn (fun _ _ e => e)) hn2.turn (fun _ _ e => e)) t3 (fun _ _ e => e)⟩
            case measure => simp [intOf]; omega

end Go.Proofs.YtjampcfikfafkaaGreat

namespace Go.Proofs.YtjampcfikfafkaaGreat
open Go.RowKit Go.Sort
set_option linter.unusedVariables false
set_option linter.unusedSimpArgs false

theorem cellsT_take : ∀ (V : List Rv) (k : Nat), cellsT (V.take k) = (cellsT V).take (k * 8)
  | [], k => by simp [cellsT]
  | v :: V, 0 => by simp [cellsT]
  | v :: V, k + 1 => by
    have h8 : v.cs.length = 8 := rfl
    have e : v.cs.take ((k + 1) * 8) = v.cs := List.take_of_length_le (by rw [h8]; omega)
    rw [List.take_succ_cons, cellsT_app, cellsT_app, cellsT_take V k, List.take_append, e, h8, show (k + 1) * 8 - 8 = k * 8 by omega]
theorem OwRow.cut {w : World} {g n c : Nat} {V : List Rv} (h : OwRow w g n c V) (k : Nat) (hk : k ≤ n) : OwRow w g k c (V.take k) := by
  have hl := h.len
  refine ⟨by rw [cellsT_len, List.length_take]; omega, ?_⟩
  rcases h.2 with ⟨h', _⟩ | ⟨g', cap', cur, h', r1, r2, r3, r4, r5, r6⟩
  · simp at h'
  · simp only [Value.slice.injEq, Option.some.injEq, Addr.mk.injEq, and_true, true_and] at h'
    obtain ⟨rfl, rfl⟩ := h'
    refine .inr ⟨g, c, cur, rfl, r1, r2, by omega, r4, r5, ?_⟩
    rw [cellsT_take, ← r6, List.take_take, Nat.min_eq_left (by omega)]

theorem Tryz.htHp : Tryz.prog.underlying 118 = some (.slice (Tryz.prog.elem 118)) := by kernel_rfl
theorem Tryz.szHp (w : World) : (sizeOf (Tryz.prog.elem 118)).run Tryz.prog w = .ok 8 w := by kernel_rfl
theorem headH (b n c t : Nat) (ht : t ≤ c) : ∀ X, (Instr.slice 118 (.slice (some ⟨b, 0, none⟩) n c) none (some (.int .i64 (t : Int))) none).run Tryz.prog X = .ok (.slice (some ⟨b, 0, none⟩) t c) X := by
  intro X
  rw [run_slice_h X 118 (some ⟨b, 0, none⟩) n c Tryz.htHp .i64 t (by omega) (by omega), Tryz.szHp]
  by_cases hc : c = 0
  · simp [Result.andThen, sliced, hc]
  · simp [Result.andThen, sliced, hc, Addr.add]

/-- A route as a value. -/
def Rv.val (v : Rv) : Value := .agg #[.int .i64 v.r.p, .int .i64 v.r.a, .int .i64 v.r.l, .int .i64 v.r.o, .slice v.x v.r.xs.length v.c, .int .i64 v.r.nx, .int .i64 v.r.md, .int .i64 v.r.lc]

set_option maxRecDepth 100000 in
set_option maxHeartbeats 6400000 in
theorem popm_heap (H b c : Nat) (V : List Rv) (n : Nat) (w : World) (hp : HpAt w H b c V) (hn : V.length = n + 1) (hm : n + 1 ≤ 1048576) : Calls Tryz.prog 152 #[.pointer (some ⟨H, 0, none⟩)] w fun e w' => e = .returned (.iface 38 (hf V n).val) ∧ HpAt w' H b c (V.take n) ∧ Turn (fun k => k = H) w w' := by
  have hcap : n + 1 ≤ c := by
    rcases hp.row.2 with ⟨h', _⟩ | ⟨g', cap', cur, h', r1, r2, r3, r4, r5, r6⟩
    · simp at h'
    · simp only [Value.slice.injEq, Option.some.injEq, Addr.mk.injEq, and_true, true_and] at h'
      obtain ⟨rfl, rfl⟩ := h'
      omega
  have rt := hp.row.rt hp.here
  have hv0 := hf_at (V := V) (i := n) (by omega)
  obtain ⟨b1, off1, p, a, l, o, nx, md, lc, x, m, d, xs, hA1, hv1, hlen, -, -, -, q0, q1, q2, q3, q4, q5, q6, q7⟩ := rt.at n (by omega)
  simp only [Option.some.injEq, Addr.mk.injEq, and_true] at hA1
  obtain ⟨rfl, rfl⟩ := hA1
  rw [hv0] at hv1
  have HV : Hid (hf V n = ⟨⟨p, a, l, o, xs, nx, md, lc⟩, x, d⟩) := Option.some.inj hv1
  have HL : Hid (xs.length = m) := hlen
  simp only [Nat.zero_add] at q0 q1 q2 q3 q4 q5 q6 q7
  have hd := hp.hd
  rw [hn] at hd
  have HP : Hid (HpAt w H b c V) := hp
  have HN : Hid (V.length = n + 1) := hn
  have hS := headH b (n + 1) c n (by omega)
  have hw1 : IntKind.i64.wrap (((n + 1 : Nat) : Int) - 1) = (n : Int) := by rw [IntKind.wrap_i64]; omega
  have cH := hd.cells
  have hsz : H < w.heap.size := hd.lt
  have h0 : (0 : Int) ≤ (n : Int) := by omega
  have h1 : (n : Int) < ((n + 1 : Nat) : Int) := by omega
  have bR := Blk.mk w w.heap.size 38 #[.int .i64 p, .int .i64 a, .int .i64 l, .int .i64 o, .slice x m d, .int .i64 nx, .int .i64 md, .int .i64 lc] rfl
  have N1 : New w (w.alloc (.cells #[.int .i64 p, .int .i64 a, .int .i64 l, .int .i64 o, .slice x m d, .int .i64 nx, .int .i64 md, .int .i64 lc] 38)) := (New.refl w).alloc _
  have hd1 := hd.new N1
  have HB : Hid (¬ H = b) := hp.ne
  clear hv0 hv1 hlen rt hp hn hcap
  go_enter Tryz.func152, Tryz.ntmps152
  go_upto_region 3 with fail
  generalize w.alloc (.cells #[.int .i64 p, .int .i64 a, .int .i64 l, .int .i64 o, .slice x m d, .int .i64 nx, .int .i64 md, .int .i64 lc] 38) = w1 at *
  have cH1 := hd1.cells
  have fH1 := hd1.frees
  go_upto_region 4 with fail
  have T1 : Turn (fun k => k = H) w1 (w1.setCell ⟨H, 0, none⟩ (.slice (some ⟨b, 0, none⟩) n c)) := (Turn.refl (fun k => k = H) w1).set (p := ⟨H, 0, none⟩) rfl _
  have hd2 : Blk (w1.setCell ⟨H, 0, none⟩ (.slice (some ⟨b, 0, none⟩) n c)) H 118 #[.slice (some ⟨b, 0, none⟩) n c] := hd1.set 0 _
  generalize w1.setCell ⟨H, 0, none⟩ (.slice (some ⟨b, 0, none⟩) n c) = w2 at *
  have hb2 : Blk w2 w.heap.size 38 #[.int .i64 p, .int .i64 a, .int .i64 l, .int .i64 o, .slice x m d, .int .i64 nx, .int .i64 md, .int .i64 lc] := bR.turn T1 (by omega)
  have cR := hb2.cells
  clear cH1 fH1 cH q0 q1 q2 q3 q4 q5 q6 q7 hS
  go_wp2
  go_ret
  have TT : Turn (fun k => k = H) w w2 := Turn.trans N1.turn T1 (fun _ _ e => e)
  have hl : (V.take n).length = n := by rw [List.length_take, HN.out]; omega
  have hrow : OwRow w2 b n c (V.take n) := by
    have h := (HP.out.row.turn TT (fun e => HB.out e.symm)).cut n (by rw [HN.out]; omega)
    exact h
  refine ⟨?_, ⟨by rw [hl]; exact hd2, by rw [hl]; exact hrow, fun v hv => (HP.out.here v (List.mem_of_mem_take hv)).turn TT (fun y e1 e2 => (HP.out.far v (List.mem_of_mem_take hv) y e1 e2).2), HB.out, fun v hv => HP.out.far v (List.mem_of_mem_take hv)⟩, TT⟩
  rw [HV.out]
  unfold Rv.val
  simp only [HL.out]
  rfl

theorem hf_take {V : List Rv} {n k : Nat} (h : k < n) : hf (V.take n) k = hf V k := by unfold hf; rw [List.getElem?_take, if_pos h]
theorem take_snocH {V : List Rv} {n : Nat} (h : V.length = n + 1) : V = V.take n ++ [hf V n] := by
  have e := hf_at (V := V) (i := n) (by omega)
  obtain ⟨hk, e'⟩ := List.getElem?_eq_some_iff.1 e
  have h2 := List.take_succ_eq_append_getElem hk
  rw [e', List.take_of_length_le (by omega)] at h2
  exact h2

set_option maxRecDepth 100000 in
set_option maxHeartbeats 6400000 in
theorem pop_heap (H b c : Nat) (V : List Rv) (n : Nat) (w : World) (hp : HpAt w H b c V) (hn : V.length = n + 1) (hm : n + 1 ≤ 1048576) (hu : hpOK hlt (hf V) (n + 1)) : Calls Tryz.prog 80 #[.iface 79 (.pointer (some ⟨H, 0, none⟩))] w fun e w' => e = .returned (.iface 38 (hf V 0).val) ∧ ∃ V', HpAt w' H b c V' ∧ V'.length = n ∧ (hf V 0 :: V').Perm V ∧ hpOK hlt (hf V') n ∧ Turn (fun k => k = b ∨ k = H) w w' := by
  have HP : Hid (HpAt w H b c V) := hp
  have HN : Hid (V.length = n + 1) := hn
  have H0 : Hid (V[0]? = some (hf V 0)) := hf_at (by omega)
  have H1 : Hid (V[n]? = some (hf V n)) := hf_at (by omega)
  have HD : Hid (dnOK hlt (hf ((V.set 0 (hf V n)).set n (hf V 0))) n 0) := by
    have h := dn_pop hu
    rw [← hf_sw H0.out H1.out] at h
    exact h
  have HE : Hid (hf ((V.set 0 (hf V n)).set n (hf V 0)) n = hf V 0) := by
    unfold Hid
    rw [hf_sw H0.out H1.out, sw_j]
  have HM : Hid (((V.set 0 (hf V n)).set n (hf V 0)).Perm V) := perm_sw H0.out H1.out
  have HL1 : Hid (((V.set 0 (hf V n)).set n (hf V 0)).length = n + 1) := by unfold Hid; rw [List.length_set, List.length_set]; exact hn
  have hw1 : IntKind.i64.wrap (((n + 1 : Nat) : Int) - 1) = (n : Int) := by rw [IntKind.wrap_i64]; omega
  clear hp hn hu
  go_enter Tryz.func80, Tryz.ntmps80
  go_wp2_with fail
  refine (len_heap H b c V (n + 1) w HP.out HN.out).mono ?_
  rintro e w0 ⟨rfl, rfl⟩
  go_wp2_with fail
  refine (swap_heap H b c V (n + 1) 0 n _ _ _ HP.out HN.out hm H0.out H1.out).mono ?_
  rintro e w1 ⟨rfl, hp1, t1⟩
  generalize hV1 : (V.set 0 (hf V n)).set n (hf V 0) = V1 at hp1 HD HE HM HL1
  have HP1 : Hid (HpAt w1 H b c V1) := hp1
  clear hp1 hV1
  go_wp2_with fail
  refine (down_heap H b c V1 n (n + 1) w1 HP1.out HL1.out hm (by omega) HD.out).mono ?_
  rintro e w2 ⟨⟨z, rfl⟩, V2, hp2, m2, k2, f2, t2⟩
  have HP2 : Hid (HpAt w2 H b c V2) := hp2
  have HM2 : Hid (V2.Perm V1) := m2
  have HK2 : Hid (hpOK hlt (hf V2) n) := k2
  have HF2 : Hid (hf V2 n = hf V 0) := (f2 n (Nat.le_refl _)).trans HE.out
  have HL2 : Hid (V2.length = n + 1) := m2.length_eq.trans HL1.out
  clear hp2 m2 k2 f2
  go_wp2_with fail
  refine (popm_heap H b c V2 n w2 HP2.out HL2.out hm).mono ?_
  rintro e w3 ⟨rfl, hp3, t3⟩
  have HP3 : Hid (HpAt w3 H b c (V2.take n)) := hp3
  clear hp3
  rw [HF2.out]
  go_wp2
  go_ret
  refine ⟨rfl, V2.take n, HP3.out, by rw [List.length_take, HL2.out]; omega, ?_, fun k k0 kn => ?_, Turn.trans (Turn.trans (t1.mono (fun _ _ e => .inl e)) t2 (fun _ _ e => .inl e)) t3 (fun _ _ e => .inr e)⟩
  · refine List.Perm.trans ?_ (HM2.out.trans HM.out)
    have e := take_snocH HL2.out
    rw [HF2.out] at e
    refine List.Perm.trans ?_ (List.Perm.of_eq e.symm)
    exact (List.perm_append_singleton _ _).symm
  · rw [hf_take kn, hf_take (by omega)]
    exact HK2.out k k0 kn

end Go.Proofs.YtjampcfikfafkaaGreat

namespace Go.Proofs.YtjampcfikfafkaaGreat
open Go.RowKit Go.Sort
set_option linter.unusedVariables false
set_option linter.unusedSimpArgs false

section
variable {P : Program} {t e : TypeId} {i : TypeInfo}
/-- A route is put behind a row of the call's own, in a drawn region. -/
theorem hw_apT (w : World) {oi : Oper} {a : Act} {K : Act → World → Prop} {Q : Exit → Act → World → Prop} {dt : Option Tmp} (s x : Operand) (hdt : oi.dst = dt)
    (ho : oi.op = .call { callee := .builtin .append, args := #[s, x], argTypes := #[t, t] }) (base : Nat) (zero : Value) (ht : P.underlying t = some (.slice e)) (hi : P.info? e = some i) (hz : i.zero = some zero) (hs : i.size = 8) (hb : i.bytes = 80) (hz1 : zero.cells.size = 8)
    (v : Value) (rs : List Rv) (hsv : a.eval s = v) (hown : w.ownsRow base e 8 v rs.length (cellsT rs))
    (L : Nat) (r : Rv) (hxv : a.eval x = .slice (some ⟨L, 0, none⟩) 1 1) (hsrc : ∀ j, w.cell? ⟨L, j, none⟩ = r.cs[j]?) (hle : rs.length + 1 ≤ 4194304) (hbase : base ≤ w.heap.size)
    (h : ∀ v' w', w'.ownsRow base e 8 v' (rs ++ [r]).length (cellsT (rs ++ [r])) → w.grownBy w' v.ownBlock → (v'.ownBlock = v.ownBlock ∨ v'.ownBlock = some w.heap.size) → K (a.put dt v') w') : Oper.wp P oi a w K Q := by
  have hnews : ∀ j u, r.cs[j]? = some u → w.cell? ((⟨L, 0, none⟩ : Addr).add j) = some u := by
    intro j u hu
    rw [Addr.add_lit, Nat.zero_add, hsrc j, hu]
  obtain ⟨v', w', hr, h2, h3, _, h5⟩ := run_append_own_at (P := P) w base t oi.type e i zero 8 80 ht hi hz hs hb hz1 (by decide) v rs.length (cellsT rs) hown ⟨L, 0, none⟩ 1 1 r.cs rfl hnews (by simp [Rv.cs, Value.oneCell']) (by unfold maxLen; omega) (by omega) hbase
  subst hdt
  unfold Oper.wp execOp
  simp only [ho, resolve, invoke, builtin, Sem.run_bind, Sem.run_pure, Result.andThen_ok, List.map_toArray, List.map_cons, List.map_nil, hsv, hxv, hr]
  exact h v' w' (by rw [cellsT_snoc]; simpa using h2) h3 h5
end

theorem Tryz.htHpE : Tryz.prog.underlying 118 = some (.slice 38) := by kernel_rfl

set_option maxRecDepth 100000 in
set_option maxHeartbeats 6400000 in
theorem pushm_heap (H b c lo : Nat) (V : List Rv) (r : Rv) (n : Nat) (w : World) (hd0 : Blk w H 118 #[.slice (some ⟨b, 0, none⟩) V.length c]) (hrow0 : w.ownsRow lo 38 8 (.slice (some ⟨b, 0, none⟩) V.length c) V.length (cellsT V)) (hlo : lo ≤ H) (hne : ¬ H = b) (hm : V.length + 1 ≤ 4194304) (hb : lo ≤ w.heap.size) (hn : V.length = n) : Calls Tryz.prog 153 #[.pointer (some ⟨H, 0, none⟩), .iface 38 r.val] w fun e w' => e = .returned (.tuple #[]) ∧ ∃ g c', Blk w' H 118 #[.slice (some ⟨g, 0, none⟩) (V ++ [r]).length c'] ∧ w'.ownsRow lo 38 8 (.slice (some ⟨g, 0, none⟩) (V ++ [r]).length c') (V ++ [r]).length (cellsT (V ++ [r])) ∧ lo ≤ g ∧ ¬ H = g ∧ Turn (fun k => lo ≤ k) w w' := by
  obtain ⟨⟨p, a, l, o, xs, nx, md, lc⟩, x, d⟩ := r
  obtain ⟨i0, hi, hz0, hz1, hz2⟩ := info_parts Tryz.infoRt
  have hd : Blk w H 118 #[.slice (some ⟨b, 0, none⟩) n c] := by rw [← hn]; exact hd0
  have hrow : w.ownsRow lo 38 8 (.slice (some ⟨b, 0, none⟩) n c) V.length (cellsT V) := by rw [← hn]; exact hrow0
  have cH := (hd.new ((New.refl w).drew)).cells
  have hlb : lo ≤ b := (row_rng7 hrow0 b rfl).1
  unfold Rv.val
  clear hd0 hrow0
  go_enter Tryz.func153, Tryz.ntmps153
  refine hw_start (n := 10) (S := fun X => True) rfl (by kernel_rfl) (trivial) (fun hH => ?_)
  refine' hw_take 0 (some 4) _ rfl rfl (by kernel_rfl) (by kernel_rfl) (by kernel_rfl) (fun _ _ _ h => h) (by rfl) hH ?hy1 ?rest1
  case hy1 =>
    intro X hX
    go_simp
    try rfl
  simp only [Act.put, List.setIfInBounds_toArray, List.set_cons_zero, List.set_cons_succ]
  refine' hw_take 1 (some 5) _ rfl rfl (by kernel_rfl) (by kernel_rfl) (by kernel_rfl) (fun _ _ _ h => h) (by rfl) hH ?hy2 ?rest2
  case hy2 =>
    intro X hX
    go_simp
    try rfl
  simp only [Act.put, List.setIfInBounds_toArray, List.set_cons_zero, List.set_cons_succ]
  refine' hw_take 2 (some 6) _ rfl rfl (by kernel_rfl) (by kernel_rfl) (by kernel_rfl) (fun _ _ _ h => h) (by rfl) hH ?hy3 ?rest3
  case hy3 =>
    intro X hX
    go_simp
    try rfl
  simp only [Act.put, List.setIfInBounds_toArray, List.set_cons_zero, List.set_cons_succ]
  refine' hw_take 4 (some 8) _ rfl rfl (by kernel_rfl) (by kernel_rfl) (by kernel_rfl) (fun _ _ _ h => h) (by rfl) hH ?hy4 ?rest4
  case hy4 =>
    intro X hX
    go_simp
    try rfl
  simp only [Act.put, List.setIfInBounds_toArray, List.set_cons_zero, List.set_cons_succ]
  refine' hw_take 5 (some 9) (.agg #[.int .i64 p, .int .i64 a, .int .i64 l, .int .i64 o, .slice x xs.length d, .int .i64 nx, .int .i64 md, .int .i64 lc]) rfl rfl (by kernel_rfl) (by kernel_rfl) (by kernel_rfl) (fun _ _ _ h => h) (by rfl) hH ?hyTA ?restTA
  case hyTA =>
    intro X hX
    go_simp
    try rfl
  simp only [Act.put, List.setIfInBounds_toArray, List.set_cons_zero, List.set_cons_succ]
  refine wpAnyH_ready (rs := [3, 6]) (by kernel_rfl) (by simp) ?_
  refine hw_step 3 (some 7) rfl rfl (by rfl) (fun K hK => ?_) (hw_step 6 (some 10) rfl rfl (by rfl) (fun K hK => ?_) AllReadyH.nil)
  · go_simp
    refine hK.out _ _ trivial (fun _ => ?_)
    simp only [Act.put, List.setIfInBounds_toArray, List.set_cons_zero, List.set_cons_succ]
    refine hw_call 6 (some 10) rfl rfl (by decide +kernel) (by rfl) (fun K hK => ?_)
    go_simp
    have bL := (Blk.mk w w.heap.size 38 #[.int .i64 p, .int .i64 a, .int .i64 l, .int .i64 o, .slice x xs.length d, .int .i64 nx, .int .i64 md, .int .i64 lc] rfl).new ((New.refl _).drew)
    have T1 : New w (w.alloc (.cells #[.int .i64 p, .int .i64 a, .int .i64 l, .int .i64 o, .slice x xs.length d, .int .i64 nx, .int .i64 md, .int .i64 lc] 38)).drew := ((New.refl w).alloc _).drew
    have hd1 := hd.new T1
    have row1 := row_turn7 hrow T1 (fun _ _ f => f)
    have hsz : lo ≤ (w.alloc (.cells #[.int .i64 p, .int .i64 a, .int .i64 l, .int .i64 o, .slice x xs.length d, .int .i64 nx, .int .i64 md, .int .i64 lc] 38)).drew.heap.size := by have := T1.size; omega
    generalize (w.alloc (.cells #[.int .i64 p, .int .i64 a, .int .i64 l, .int .i64 o, .slice x xs.length d, .int .i64 nx, .int .i64 md, .int .i64 lc] 38)).drew = w1 at *
    refine hK.out _ _ trivial (fun _ => ?_)
    simp only [Act.put, List.setIfInBounds_toArray, List.set_cons_zero, List.set_cons_succ]
    refine hw_call 7 (some 11) rfl rfl (by decide +kernel) (by rfl) (fun K hK => ?_)
    refine hw_apT _ (.tmp 7) (.tmp 10) rfl rfl lo _ Tryz.htHpE hi hz0 hz1 hz2 rfl (.slice (some ⟨b, 0, none⟩) n c) V rfl row1 w.heap.size ⟨⟨p, a, l, o, xs, nx, md, lc⟩, x, d⟩ rfl (fun j => (bL.cells j).trans (by simp [Rv.cs])) hm hsz ?_
    intro v' w5 hv' hg hob
    rcases row_form7 hv' with ⟨-, h0⟩ | ⟨g, c', rfl, hlog, hgs, -⟩
    · exact absurd h0 (by simp)
    have hgn : ¬ H = g := by
      have h1 := hd1.lt
      rcases hob with e | e <;> (simp only [Value.ownBlock, Option.some.injEq] at e; omega)
    have HV' : Hid (w5.ownsRow lo 38 8 (.slice (some ⟨g, 0, none⟩) (V ++ [(⟨⟨p, a, l, o, xs, nx, md, lc⟩, x, d⟩ : Rv)]).length c') (V ++ [(⟨⟨p, a, l, o, xs, nx, md, lc⟩, x, d⟩ : Rv)]).length (cellsT (V ++ [(⟨⟨p, a, l, o, xs, nx, md, lc⟩, x, d⟩ : Rv)]))) := hv'
    have hd5 : Blk w5 H 118 #[.slice (some ⟨b, 0, none⟩) n c] := hd1.grow hg (by intro e; simp only [Value.ownBlock, Option.some.injEq] at e; omega)
    have T5 : Turn (fun k => lo ≤ k) w w5 := Turn.trans (T1.turn (S := fun k => lo ≤ k)) ((Turn.of_grown (g := b) hg).mono (fun i _ e => by subst e; omega)) (fun _ _ e => e)
    clear hv' hg hob
    obtain ⟨n', hn'⟩ : ∃ n', (V ++ [(⟨⟨p, a, l, o, xs, nx, md, lc⟩, x, d⟩ : Rv)]).length = n' := ⟨_, rfl⟩
    rw [hn'] at HV' ⊢
    refine hK.out _ _ trivial (fun _ => ?_)
    simp only [Act.put, List.setIfInBounds_toArray, List.set_cons_zero, List.set_cons_succ]
    have cH5 := hd5.cells
    have fH5 := hd5.frees
    refine' hw_take 8 (some 12) _ rfl rfl (by kernel_rfl) (by kernel_rfl) (by kernel_rfl) (fun _ _ _ h => h) (by rfl) hH ?hy5 ?rest5
    case hy5 =>
      intro X hX
      go_simp
      try rfl
    simp only [Act.put, List.setIfInBounds_toArray, List.set_cons_zero, List.set_cons_succ]
    refine hw_call 9 none rfl rfl (by decide +kernel) (by rfl) (fun K hK => ?_)
    go_simp
    have T6 : Turn (fun k => lo ≤ k) w5 (w5.setCell ⟨H, 0, none⟩ (.slice (some ⟨g, 0, none⟩) n' c')) := (Turn.refl (fun k => lo ≤ k) w5).set (p := ⟨H, 0, none⟩) hlo _
    have hd6 : Blk (w5.setCell ⟨H, 0, none⟩ (.slice (some ⟨g, 0, none⟩) n' c')) H 118 #[.slice (some ⟨g, 0, none⟩) n' c'] := hd5.set 0 _
    have row6 : (w5.setCell ⟨H, 0, none⟩ (.slice (some ⟨g, 0, none⟩) n' c')).ownsRow lo 38 8 (.slice (some ⟨g, 0, none⟩) n' c') n' (cellsT (V ++ [(⟨⟨p, a, l, o, xs, nx, md, lc⟩, x, d⟩ : Rv)])) := by
      have h := HV'.out
      rw [← hn'] at h ⊢
      exact row_turn7 h ((Turn.refl (fun k => k = H) w5).set (p := ⟨H, 0, none⟩) rfl _) (by intro k hk e; have e' := Option.some.inj hk; simp only at e'; omega)
    generalize w5.setCell ⟨H, 0, none⟩ (.slice (some ⟨g, 0, none⟩) n' c') = w6 at *
    refine hK.out undef _ trivial (fun _ => ?_)
    try simp only [Act.put, List.setIfInBounds_toArray, List.set_cons_zero, List.set_cons_succ]
    refine wpAnyH_done (by kernel_rfl) ?_ _
    go_wp2
    go_returns
    exact ⟨rfl, g, c', by rw [hn']; exact hd6, by rw [hn']; exact row6, hlog, hgn, Turn.trans T5 T6 (fun _ _ e => e)⟩
  · go_simp
    have bL := (Blk.mk w w.heap.size 38 #[.int .i64 p, .int .i64 a, .int .i64 l, .int .i64 o, .slice x xs.length d, .int .i64 nx, .int .i64 md, .int .i64 lc] rfl).new ((New.refl _).drew)
    have T1 : New w (w.alloc (.cells #[.int .i64 p, .int .i64 a, .int .i64 l, .int .i64 o, .slice x xs.length d, .int .i64 nx, .int .i64 md, .int .i64 lc] 38)).drew := ((New.refl w).alloc _).drew
    have hd1 := hd.new T1
    have row1 := row_turn7 hrow T1 (fun _ _ f => f)
    have hsz : lo ≤ (w.alloc (.cells #[.int .i64 p, .int .i64 a, .int .i64 l, .int .i64 o, .slice x xs.length d, .int .i64 nx, .int .i64 md, .int .i64 lc] 38)).drew.heap.size := by have := T1.size; omega
    generalize (w.alloc (.cells #[.int .i64 p, .int .i64 a, .int .i64 l, .int .i64 o, .slice x xs.length d, .int .i64 nx, .int .i64 md, .int .i64 lc] 38)).drew = w1 at *
    refine hK.out _ _ trivial (fun _ => ?_)
    simp only [Act.put, List.setIfInBounds_toArray, List.set_cons_zero, List.set_cons_succ]
    have cH := hd1.cells
    refine hw_call 3 (some 7) rfl rfl (by decide +kernel) (by rfl) (fun K hK => ?_)
    go_simp
    refine hK.out _ _ trivial (fun _ => ?_)
    simp only [Act.put, List.setIfInBounds_toArray, List.set_cons_zero, List.set_cons_succ]
    refine hw_call 7 (some 11) rfl rfl (by decide +kernel) (by rfl) (fun K hK => ?_)
    refine hw_apT _ (.tmp 7) (.tmp 10) rfl rfl lo _ Tryz.htHpE hi hz0 hz1 hz2 rfl (.slice (some ⟨b, 0, none⟩) n c) V rfl row1 w.heap.size ⟨⟨p, a, l, o, xs, nx, md, lc⟩, x, d⟩ rfl (fun j => (bL.cells j).trans (by simp [Rv.cs])) hm hsz ?_
    intro v' w5 hv' hg hob
    rcases row_form7 hv' with ⟨-, h0⟩ | ⟨g, c', rfl, hlog, hgs, -⟩
    · exact absurd h0 (by simp)
    have hgn : ¬ H = g := by
      have h1 := hd1.lt
      rcases hob with e | e <;> (simp only [Value.ownBlock, Option.some.injEq] at e; omega)
    have HV' : Hid (w5.ownsRow lo 38 8 (.slice (some ⟨g, 0, none⟩) (V ++ [(⟨⟨p, a, l, o, xs, nx, md, lc⟩, x, d⟩ : Rv)]).length c') (V ++ [(⟨⟨p, a, l, o, xs, nx, md, lc⟩, x, d⟩ : Rv)]).length (cellsT (V ++ [(⟨⟨p, a, l, o, xs, nx, md, lc⟩, x, d⟩ : Rv)]))) := hv'
    have hd5 : Blk w5 H 118 #[.slice (some ⟨b, 0, none⟩) n c] := hd1.grow hg (by intro e; simp only [Value.ownBlock, Option.some.injEq] at e; omega)
    have T5 : Turn (fun k => lo ≤ k) w w5 := Turn.trans (T1.turn (S := fun k => lo ≤ k)) ((Turn.of_grown (g := b) hg).mono (fun i _ e => by subst e; omega)) (fun _ _ e => e)
    clear hv' hg hob
    obtain ⟨n', hn'⟩ : ∃ n', (V ++ [(⟨⟨p, a, l, o, xs, nx, md, lc⟩, x, d⟩ : Rv)]).length = n' := ⟨_, rfl⟩
    rw [hn'] at HV' ⊢
    refine hK.out _ _ trivial (fun _ => ?_)
    simp only [Act.put, List.setIfInBounds_toArray, List.set_cons_zero, List.set_cons_succ]
    have cH5 := hd5.cells
    have fH5 := hd5.frees
    refine' hw_take 8 (some 12) _ rfl rfl (by kernel_rfl) (by kernel_rfl) (by kernel_rfl) (fun _ _ _ h => h) (by rfl) hH ?hy6 ?rest6
    case hy6 =>
      intro X hX
      go_simp
      try rfl
    simp only [Act.put, List.setIfInBounds_toArray, List.set_cons_zero, List.set_cons_succ]
    refine hw_call 9 none rfl rfl (by decide +kernel) (by rfl) (fun K hK => ?_)
    go_simp
    have T6 : Turn (fun k => lo ≤ k) w5 (w5.setCell ⟨H, 0, none⟩ (.slice (some ⟨g, 0, none⟩) n' c')) := (Turn.refl (fun k => lo ≤ k) w5).set (p := ⟨H, 0, none⟩) hlo _
    have hd6 : Blk (w5.setCell ⟨H, 0, none⟩ (.slice (some ⟨g, 0, none⟩) n' c')) H 118 #[.slice (some ⟨g, 0, none⟩) n' c'] := hd5.set 0 _
    have row6 : (w5.setCell ⟨H, 0, none⟩ (.slice (some ⟨g, 0, none⟩) n' c')).ownsRow lo 38 8 (.slice (some ⟨g, 0, none⟩) n' c') n' (cellsT (V ++ [(⟨⟨p, a, l, o, xs, nx, md, lc⟩, x, d⟩ : Rv)])) := by
      have h := HV'.out
      rw [← hn'] at h ⊢
      exact row_turn7 h ((Turn.refl (fun k => k = H) w5).set (p := ⟨H, 0, none⟩) rfl _) (by intro k hk e; have e' := Option.some.inj hk; simp only at e'; omega)
    generalize w5.setCell ⟨H, 0, none⟩ (.slice (some ⟨g, 0, none⟩) n' c') = w6 at *
    refine hK.out undef _ trivial (fun _ => ?_)
    try simp only [Act.put, List.setIfInBounds_toArray, List.set_cons_zero, List.set_cons_succ]
    refine wpAnyH_done (by kernel_rfl) ?_ _
    go_wp2
    go_returns
    exact ⟨rfl, g, c', by rw [hn']; exact hd6, by rw [hn']; exact row6, hlog, hgn, Turn.trans T5 T6 (fun _ _ e => e)⟩

end Go.Proofs.YtjampcfikfafkaaGreat

namespace Go.Proofs.YtjampcfikfafkaaGreat
open Go.RowKit Go.Sort
set_option linter.unusedVariables false
set_option linter.unusedSimpArgs false

/-- The block H holds the routes as a row of the call's own, from lo on; their paths lie before lo. -/
def HpS (w : World) (H lo : Nat) (V : List Rv) : Prop := ∃ b c, HpAt w H b c V ∧ lo ≤ b ∧ lo ≤ H ∧ ∀ v ∈ V, ∀ x, v.r.xs ≠ [] → v.x = some x → x.block < lo

theorem HpS.new {w w' : World} {H lo : Nat} {V : List Rv} (h : HpS w H lo V) (t : New w w') : HpS w' H lo V := by
  obtain ⟨b, c, h1, h2⟩ := h
  exact ⟨b, c, h1.new t, h2⟩

set_option maxRecDepth 100000 in
set_option maxHeartbeats 6400000 in
theorem push_heap (H lo : Nat) (V : List Rv) (r : Rv) (n : Nat) (w : World) (hs : HpS w H lo V) (hr : r.here w) (hrf : ∀ x, r.r.xs ≠ [] → r.x = some x → x.block < lo) (hn : V.length = n) (hm : n + 1 ≤ 1048576) (hu : hpOK hlt (hf V) n) : Calls Tryz.prog 77 #[.iface 79 (.pointer (some ⟨H, 0, none⟩)), .iface 38 r.val] w fun e w' => e = .returned (.tuple #[]) ∧ ∃ V', HpS w' H lo V' ∧ V'.Perm (V ++ [r]) ∧ hpOK hlt (hf V') (n + 1) ∧ Turn (fun k => lo ≤ k) w w' := by
  obtain ⟨b, c, hp, hlb, hlH, hfar⟩ := hs
  have HP : Hid (HpAt w H b c V) := hp
  have HN : Hid (V.length = n) := hn
  have HF : Hid (∀ v ∈ V, ∀ x, v.r.xs ≠ [] → v.x = some x → x.block < lo) := hfar
  have HR : Hid (r.here w) := hr
  have HRF : Hid (∀ x, r.r.xs ≠ [] → r.x = some x → x.block < lo) := hrf
  have hl1 : (V ++ [r]).length = n + 1 := by rw [List.length_append, hn]; rfl
  have HL1 : Hid ((V ++ [r]).length = n + 1) := hl1
  have HU : Hid (upOK hlt (hf (V ++ [r])) (n + 1) n) := by
    refine up_push (fun k k0 kn => ?_)
    have e : ∀ j, j < n → hf (V ++ [r]) j = hf V j := fun j hj => by unfold hf; rw [List.getElem?_append_left (by omega)]
    rw [e k kn, e _ (by omega)]
    exact hu k k0 kn
  have hw1 : IntKind.i64.wrap (((n + 1 : Nat) : Int) - 1) = (n : Int) := by rw [IntKind.wrap_i64]; omega
  have HPM : Hid (Calls Tryz.prog 153 #[.pointer (some ⟨H, 0, none⟩), .iface 38 r.val] w fun e w' => e = .returned (.tuple #[]) ∧ ∃ g c', Blk w' H 118 #[.slice (some ⟨g, 0, none⟩) (V ++ [r]).length c'] ∧ w'.ownsRow lo 38 8 (.slice (some ⟨g, 0, none⟩) (V ++ [r]).length c') (V ++ [r]).length (cellsT (V ++ [r])) ∧ lo ≤ g ∧ ¬ H = g ∧ Turn (fun k => lo ≤ k) w w') :=
    pushm_heap H b c lo V r n w hp.hd (row_of7 hp.row hlb) hlH hp.ne (by omega) (by have := hp.hd.lt; omega) hn
  have HB : Hid (¬ H = b) := hp.ne
  clear hp hr hrf hfar hu hl1 hn
  generalize hrv : r.val = rv at *
  go_enter Tryz.func77, Tryz.ntmps77
  go_wp2_with fail
  refine HPM.out.mono ?_
  rintro e w1 ⟨rfl, g, c', hd1, row1, hlg, hng, t1⟩
  have hp1 : HpAt w1 H g c' (V ++ [r]) := by
    refine ⟨hd1, ?_, fun v hv => ?_, hng, fun v hv x h1 h2 => ?_⟩
    · rcases row_form7 row1 with ⟨h0, -⟩ | ⟨g', c2, h0, -, -, ho⟩
      · cases h0
      · simp only [Value.slice.injEq, Option.some.injEq, Addr.mk.injEq, and_true, true_and] at h0
        obtain ⟨rfl, rfl⟩ := h0
        exact ho
    · rcases List.mem_append.1 hv with hv | hv
      · exact (HP.out.here v hv).turn t1 (fun x h1 h2 => by have := HF.out v hv x h1 h2; omega)
      · obtain rfl := List.mem_singleton.1 hv
        exact HR.out.turn t1 (fun x h1 h2 => by have := HRF.out x h1 h2; omega)
    · have : x.block < lo := by
        rcases List.mem_append.1 hv with hv | hv
        · exact HF.out v hv x h1 h2
        · obtain rfl := List.mem_singleton.1 hv
          exact HRF.out x h1 h2
      omega
  have HP1 : Hid (HpAt w1 H g c' (V ++ [r])) := hp1
  clear hp1 hd1 row1
  go_wp2_with fail
  refine (len_heap H g c' (V ++ [r]) (n + 1) w1 HP1.out HL1.out).mono ?_
  rintro e w0 ⟨rfl, rfl⟩
  go_wp2_with fail
  refine (up_heap H g c' (V ++ [r]) (n + 1) n _ HP1.out HL1.out hm (by omega) HU.out).mono ?_
  rintro e w2 ⟨rfl, V', hp2, m2, k2, t2⟩
  have HP2 : Hid (HpAt w2 H g c' V') := hp2
  have HK2 : Hid (hpOK hlt (hf V') (n + 1)) := k2
  have HM2 : Hid (V'.Perm (V ++ [r])) := m2
  clear hp2 k2 m2
  go_wp2
  go_returns
  refine ⟨rfl, V', ⟨g, c', HP2.out, hlg, hlH, fun v hv x h1 h2 => ?_⟩, HM2.out, HK2.out, Turn.trans t1 t2 (fun k _ e => by subst e; exact hlg)⟩
  rcases List.mem_append.1 (HM2.out.mem_iff.1 hv) with hv | hv
  · exact HF.out v hv x h1 h2
  · obtain rfl := List.mem_singleton.1 hv
    exact HRF.out x h1 h2

end Go.Proofs.YtjampcfikfafkaaGreat

namespace Go.Proofs.YtjampcfikfafkaaGreat
open Go.RowKit Go.Sort
set_option linter.unusedVariables false
set_option linter.unusedSimpArgs false

theorem here_lt {w : World} {v : Rv} (h : v.here w) : ∀ x, v.r.xs ≠ [] → v.x = some x → x.block < w.heap.size := by
  intro x hx he
  have h1 := h.1
  obtain ⟨z, zs, hz⟩ : ∃ z zs, v.r.xs = z :: zs := by cases hv : v.r.xs with
    | nil => exact absurd hv hx
    | cons z zs => exact ⟨z, zs, rfl⟩
  obtain ⟨b, o, e, hc, -⟩ := h1 0 z (by rw [hz]; rfl)
  rw [he] at e
  obtain rfl := Option.some.inj e
  exact World.block_lt_of_cell? _ _ hc

set_option maxRecDepth 100000 in
set_option maxHeartbeats 6400000 in
theorem heapOf_any (A : Option Addr) (N c : Nat) (V : List Rv) (w : World) (h : RtAt w A V) (hn : V.length = N) (hm : N ≤ 1048576) : Calls Tryz.prog 39 #[.slice A N c] w fun e w' => ∃ H V', e = .returned (.pointer (some ⟨H, 0, none⟩)) ∧ HpS w' H w.heap.size V' ∧ V'.Perm V ∧ hpOK hlt (hf V') N ∧ New w w' := by
  have HN : Hid (V.length = N) := hn
  have HA : Hid (∀ W, New w W → RtAt W A V) := fun W hW => h.new hW
  clear h hn
  go_enter Tryz.func39, Tryz.ntmps39
  go_upto_region 2 with fail
  have N0 : New w ((w.alloc (.cells #[] 38)).alloc (.cells #[.slice (some ⟨w.heap.size, 0, none⟩) 0 0] 118)) := ((New.refl w).alloc _).alloc _
  have b0 : Blk ((w.alloc (.cells #[] 38)).alloc (.cells #[.slice (some ⟨w.heap.size, 0, none⟩) 0 0] 118)) w.heap.size 38 #[] := (Blk.mk w w.heap.size 38 #[] rfl).alloc _
  have bH : Blk ((w.alloc (.cells #[] 38)).alloc (.cells #[.slice (some ⟨w.heap.size, 0, none⟩) 0 0] 118)) (w.heap.size + 1) 118 #[.slice (some ⟨w.heap.size, 0, none⟩) 0 0] := Blk.mk _ _ _ _ (by simp)
  have hS0 : HpS ((w.alloc (.cells #[] 38)).alloc (.cells #[.slice (some ⟨w.heap.size, 0, none⟩) 0 0] 118)) (w.heap.size + 1) w.heap.size [] := by
    refine ⟨w.heap.size, 0, ⟨bH, ⟨rfl, .inr ⟨w.heap.size, 0, #[], rfl, Nat.zero_le _, b0, Nat.le_refl _, Nat.zero_le _, rfl, rfl⟩⟩, fun v hv => ?_, by omega, fun v hv => ?_⟩, Nat.le_refl _, Nat.le_succ _, fun v hv => ?_⟩ <;> cases hv
  have HS0 : Hid (HpS _ (w.heap.size + 1) w.heap.size []) := hS0
  clear b0 bH hS0
  generalize (w.alloc (.cells #[] 38)).alloc (.cells #[.slice (some ⟨w.heap.size, 0, none⟩) 0 0] 118) = w1 at *
  go_wp2_with fail
  go_loopw [10] (fun i wr => ∃ (k : Nat) (V' : List Rv), k ≤ N ∧ i = .int .i64 k ∧ V'.length = k ∧ HpS wr (w.heap.size + 1) w.heap.size V' ∧ V'.Perm (V.take k) ∧ hpOK hlt (hf V') k ∧ New w wr) (fun i _ => N - (intOf i).toNat)
  case atStart => exact ⟨0, [], Nat.zero_le _, rfl, rfl, HS0.out, List.Perm.refl _, fun k k0 kn => by omega, N0⟩
  case round =>
    obtain ⟨k, V', hk, rfl, hl, hs, hpm, hu, hnw⟩ := hrel
    have HL : Hid (V'.length = k) := hl
    have HSS : Hid (HpS wr (w.heap.size + 1) w.heap.size V') := hs
    have HM : Hid (V'.Perm (V.take k)) := hpm
    have HU : Hid (hpOK hlt (hf V') k) := hu
    have HN1 : Hid (New w wr) := hnw
    clear hl hs hpm hu hnw
    by_cases hlt : k < N
    · obtain ⟨b, off, p, a, l, o, nx, md, lc, x, m, d, xs, rfl, hv, hlen, hns, hnl, hmx, q0, q1, q2, q3, q4, q5, q6, q7⟩ := (HA.out _ HN1.out).at k (by have := HN.out; omega)
      subst hlen
      have HV : Hid (V[k]? = some ⟨⟨p, a, l, o, xs, nx, md, lc⟩, x, d⟩) := hv
      have HH : Hid (∀ W, New w W → Rv.here W ⟨⟨p, a, l, o, xs, nx, md, lc⟩, x, d⟩) := fun W hW => (HA.out W hW k _ hv).2
      have HTK : Hid (V.take (k + 1) = V.take k ++ [⟨⟨p, a, l, o, xs, nx, md, lc⟩, x, d⟩]) := by
        obtain ⟨hk', e⟩ := List.getElem?_eq_some_iff.1 hv
        unfold Hid
        rw [List.take_succ_eq_append_getElem hk', e]
      have al := (New.refl wr).alloc (.cells #[.int .i64 p, .int .i64 a, .int .i64 l, .int .i64 o, .slice x xs.length d, .int .i64 nx, .int .i64 md, .int .i64 lc] 38)
      have bR := Blk.mk wr wr.heap.size 38 #[.int .i64 p, .int .i64 a, .int .i64 l, .int .i64 o, .slice x xs.length d, .int .i64 nx, .int .i64 md, .int .i64 lc] rfl
      have cR := bR.cells
      have n1 := HN1.out.trans al
      clear hv hns hnl hmx
      go_wp2_with fail
      refine (push_heap (w.heap.size + 1) w.heap.size V' ⟨⟨p, a, l, o, xs, nx, md, lc⟩, x, d⟩ k _ (HSS.out.new al) (HH.out _ n1) (here_lt (HH.out w (New.refl w))) HL.out (by omega) HU.out).mono ?_
      rintro e w2 ⟨rfl, V2, hs2, m2, u2, t2⟩
      have HS2 : Hid (HpS w2 (w.heap.size + 1) w.heap.size V2) := hs2
      have HU2 : Hid (hpOK Go.Proofs.YtjampcfikfafkaaGreat.hlt (hf V2) (k + 1)) := u2
      have HM2 : Hid (V2.Perm (V.take (k + 1))) := by
        unfold Hid
        rw [HTK.out]
        exact m2.trans (HM.out.append_right _)
      have HL2 : Hid (V2.length = k + 1) := by
        unfold Hid
        rw [m2.length_eq, List.length_append, HL.out]
        rfl
      have N2 : Hid (New w w2) := Turn.mono (Turn.trans n1.turn t2 (fun i _ e => e)) (fun i h1 h2 => by omega)
      clear hs2 u2 m2 t2 n1 al cR bR
      go_wp2
      go_roundw
      case rel => exact ⟨k + 1, V2, by omega, by go_num, HL2.out, HS2.out, HM2.out, HU2.out, N2.out⟩
      case measure => simp [intOf]; omega
    · obtain rfl : k = N := by omega
      go_wp2
      go_ret
      refine ⟨w.heap.size + 1, V', rfl, HSS.out, ?_, HU.out, HN1.out⟩
      have h := HM.out
      rw [List.take_of_length_le (by rw [HN.out]; omega)] at h
      exact h

end Go.Proofs.YtjampcfikfafkaaGreat

namespace Go.Proofs.YtjampcfikfafkaaGreat
open Go.RowKit Go.Sort Go.Shelf
set_option linter.unusedVariables false
set_option linter.unusedSimpArgs false
set_option maxRecDepth 100000
attribute [local go_sem] Oper.semAt_some

section
variable {F : Fence} {n : Nat} {P : Program}
/-- The statement, told by the loop's record and the block of the rounds' deferred calls. -/
theorem wpIn_range8 {g : Operand} {ps : Array Tmp} {assign body : Code} {Q : Exit → Act → World → Prop} {a : Act} {w : World} (hro : F.round = none) (h1 : 1 ≤ n) {gf : Nat} {v0 : Value} (hg : a.eval g = .func (.func gf) #[v0] #[]) (hFg : F.fn gf) (eg : ∀ args w, (callFunc gf args).run P w = .ok (.enter gf args) w)
    (h : ∀ (fn : FuncId) (W1 : World) (rec : Loop), F.fn fn → New w W1 → W1.heap.size = w.heap.size + 2 → rec = { state := .ready, pending := none, fn, tmps := a.tmps, params := ps, assign, body, defers := w.heap.size } → W1.heap[w.heap.size + 1]? = some (.loop rec) → W1.heap[w.heap.size]? = some (.deferred (some [])) →
      CallsIn F (n - 1) P gf #[v0, .func (.yield (w.heap.size + 1)) #[] #[]] W1 fun e W2 => (∃ v, e = .returned v) ∧ ∃ st pe, st ≠ .busy ∧ W2.heap[w.heap.size + 1]? = some (.loop { rec with state := st, pending := pe }) ∧ W2.heap[w.heap.size]? = some (.deferred (some [])) ∧
        ∀ W3, W3 = W2.putObj (w.heap.size + 1) (.loop { rec with state := .exhausted, pending := pe }) →
          (match pe with
          | none => Q .normal { a with defers := { target := .collected w.heap.size, args := #[] } :: a.defers } W3
          | some c => c.wpIn F n P Q { a with defers := { target := .collected w.heap.size, args := #[] } :: a.defers } W3)) :
    (Code.rangeFunc g ps assign body).wpIn F n P Q a w := by
  refine wpIn_rangeFunc fun fn hfn => ?_
  rw [hro]
  have N1 : New w ((w.alloc (.deferred (some []))).alloc (.loop { state := .ready, pending := none, fn, tmps := a.tmps, params := ps, assign, body, defers := w.heap.size })) := ((New.refl w).alloc _).alloc _
  have hL : ((w.alloc (.deferred (some []))).alloc (.loop { state := .ready, pending := none, fn, tmps := a.tmps, params := ps, assign, body, defers := w.heap.size })).heap[w.heap.size + 1]? = some (.loop { state := .ready, pending := none, fn, tmps := a.tmps, params := ps, assign, body, defers := w.heap.size }) := by
    have e := World.alloc_heap_new (w.alloc (.deferred (some []))) (.loop { state := .ready, pending := none, fn, tmps := a.tmps, params := ps, assign, body, defers := w.heap.size })
    rw [World.size_alloc] at e
    exact e
  have hD : ((w.alloc (.deferred (some []))).alloc (.loop { state := .ready, pending := none, fn, tmps := a.tmps, params := ps, assign, body, defers := w.heap.size })).heap[w.heap.size]? = some (.deferred (some [])) :=
    (((New.refl (w.alloc (.deferred (some [])))).alloc _).block w.heap.size (by simp) (fun f => f)).trans (World.alloc_heap_new w _)
  have hsz : ((w.alloc (.deferred (some []))).alloc (.loop { state := .ready, pending := none, fn, tmps := a.tmps, params := ps, assign, body, defers := w.heap.size })).heap.size = w.heap.size + 2 := by simp
  have hE := run_enterLoop_outer (P := P) (w := w) fn a.tmps ps assign body
  generalize hrec : ({ state := .ready, pending := none, fn, tmps := a.tmps, params := ps, assign, body, defers := w.heap.size } : Loop) = rec at N1 hL hD hsz hE
  generalize (w.alloc (.deferred (some []))).alloc (.loop rec) = W1 at N1 hL hD hsz hE
  have hc := h fn W1 rec hfn N1 hsz hrec.symm hL hD
  refine ⟨w.heap.size + 1, [{ target := .collected w.heap.size, args := #[] }], W1, { target := .fn (.func gf) #[], args := #[v0, .func (.yield (w.heap.size + 1)) #[] #[]] }, W1, gf, #[v0, .func (.yield (w.heap.size + 1)) #[] #[]], W1, hE, ?_, ?_, ?_, fun _ => h1, ?_⟩
  · simp only [resolve, hg]
    simp [go_sem]
  · intro f' hf'
    simp [Target.leads] at hf'
    subst hf'
    exact hFg
  · simp [invoke, go_sem, eg]
  · refine hc.mono ?_
    rintro e W2 ⟨⟨v, rfl⟩, st, pe, hst, hl, hd, hQ⟩
    exact ⟨pe, _, run_endLoop (P := P) hl hst, hQ _ rfl⟩

/-- A round, told by its record. -/
theorem yield8 {m l : Nat} {rec : Loop} {W : World} {args : Array Value} {R : Ending → World → Prop} (hf : F.fn rec.fn) (hl : W.heap[l]? = some (.loop rec)) (hs : args.size = rec.params.size)
    (h : rec.assign.wpIn (F.inRound l) m P (Exit.then (fun a₁ w₁ => ∃ w₂, (Instr.beginRound l).run P w₁ = .ok () w₂ ∧ rec.body.wpIn (F.inRound l) m P (roundPost P l R) a₁ w₂) (fun _ _ _ => False)) { tmps := (rec.params.zip args).foldl (fun tmps (t, a) => tmps.setIfInBounds t a) rec.tmps, defers := [] } W) :
    YieldAt F m P l args W R := ⟨rec.fn, _, rec.assign, rec.body, run_yield hl hs, roundIn_of_wpIn hf h⟩
end

theorem Tryz.as_route (v : Value) (w : World) : (Instr.typeAssert (.iface 38 v) 20 38 false).run Tryz.prog w = .ok v w := by kernel_rfl

set_option maxHeartbeats 3200000 in
/-- What the heap's iterator hands over first; the round leaves. -/
theorem top8_first (l H b c : Nat) (V : List Rv) (n : Nat) (W : World) (R : World → Prop) (hp : HpAt W H b c V) (hn : V.length = n + 1) (hm : n + 1 ≤ 1048576) (hu : hpOK hlt (hf V) (n + 1))
    (hY : ∀ W2, Turn (fun k => k = b ∨ k = H) W W2 → YieldAt Fence.wide (3 - 1) Tryz.prog l #[(hf V 0).val] W2 fun e W3 => e = .returned (.bool false) ∧ R W3) :
    CallsIn Fence.wide 3 Tryz.prog 42 #[.pointer (some ⟨H, 0, none⟩), .func (.yield l) #[] #[]] W fun e W' => (∃ v, e = .returned v) ∧ R W' := by
  have hro : Fence.wide.round = none := rfl
  refine callsIn_of_wp Tryz.func42 rfl trivial ?_ hro
  simp only [Tryz.ntmps42, List.size_toArray, List.length_cons, List.length_nil, Nat.reduceAdd, Nat.reduceSub, Array.replicate_succ, Array.replicate_zero, List.push_toArray, List.append_toArray, List.nil_append, List.cons_append]
  gi_wp2
  gi_loopw [4] (fun p wr => wr = W) (fun _ _ => 0)
  case atStart => rfl
  case round =>
    subst hrel
    gi_wp2_with fail
    refine ⟨trivial, ?_⟩
    refine (callsIn_wide.2 (len_heap H b c V (n + 1) _ hp hn)).mono ?_
    rintro e w2 ⟨rfl, rfl⟩
    gi_wp2_with fail
    refine ⟨trivial, ?_⟩
    refine (callsIn_wide.2 (pop_heap H b c V n _ hp hn hm hu)).mono ?_
    rintro e w3 ⟨rfl, V', hp3, hl3, hpm, hk, ht⟩
    obtain ⟨fn, tmps, assign, body, hy, hR⟩ := hY w3 ht
    unfold Rv.val at hy
    unfold Rv.val
    have hta := Tryz.as_route
    gi_wp2
    refine hR.mono ?_
    rintro e w4 ⟨rfl, hR4⟩
    gi_wp2
    refine bodyPost_end (results_none rfl _ _ _) rfl ?_
    exact ⟨⟨_, rfl⟩, hR4⟩

/-- What the heap's iterator does of an empty heap: nothing. -/
theorem top8_none (l H b c : Nat) (W : World) (hp : HpAt W H b c []) :
    CallsIn Fence.wide 3 Tryz.prog 42 #[.pointer (some ⟨H, 0, none⟩), .func (.yield l) #[] #[]] W fun e W' => (∃ v, e = .returned v) ∧ W' = W := by
  have hro : Fence.wide.round = none := rfl
  refine callsIn_of_wp Tryz.func42 rfl trivial ?_ hro
  simp only [Tryz.ntmps42, List.size_toArray, List.length_cons, List.length_nil, Nat.reduceAdd, Nat.reduceSub, Array.replicate_succ, Array.replicate_zero, List.push_toArray, List.append_toArray, List.nil_append, List.cons_append]
  gi_wp2
  gi_loopw [4] (fun p wr => wr = W) (fun _ _ => 0)
  case atStart => rfl
  case round =>
    subst hrel
    gi_wp2_with fail
    refine ⟨trivial, ?_⟩
    refine (callsIn_wide.2 (len_heap H b c [] 0 _ hp rfl)).mono ?_
    rintro e w2 ⟨rfl, rfl⟩
    gi_wp2
    refine ⟨trivial, ?_⟩
    gi_wp2
    refine ⟨fun _ h => (by cases h), ?_⟩
    gi_wp2
    refine bodyPost_end (results_none rfl _ _ _) rfl ?_
    exact ⟨⟨_, rfl⟩, rfl⟩

end Go.Proofs.YtjampcfikfafkaaGreat
