/- What is proved here: what the copying of routes answers, in the program and in the model, for paths of at most 1048576 numbers. What is proved here: facts on lists of routes that grow. No condition. What is proved here: what the program's comparing of the places of two routes answers, at all numbers. No condition. What is proved here: what the fault of a route and of a list of routes is, in the program and in the model, for paths of at most 1048576 numbers. What is proved here: what the program's going through a list of routes for one prefix answers, for lists of at most 1048576 routes with paths of at most 1048576 numbers. What is proved here: what RibFault answers, in the program and in the model, for lists of at most 1048576 routes with paths of at most 1048576 numbers. What is proved here: what the program's BestFor answers of a list without a fault. What is proved here: which route of a list the model takes for a prefix, for lists of at most 1048576 routes with paths of at most 1048576 numbers. What is proved here: what the program's BestFor answers, for every list of at most 1048576 routes with paths of at most 1048576 numbers and every prefix. What is proved here: what the model's copying of lists of routes answers, for lists of at most 1048576 routes with paths of at most 1048576 numbers. -/
import Derived.Test.YtjampcfikfafkaaGreatXE1
import Derived.Test.YtjampcfikfafkaaGreatR7Own
import Derived.Deep.CutRange
import Derived.Test.YtjampcfikfafkaaGreatR7Cmp
import Derived.Test.YtjampcfikfafkaaGreatR7Bt
import Derived.Test.YtjampcfikfafkaaGreatR7Lib
import Derived.Deep.RegionHeld3
namespace Go.Proofs.YtjampcfikfafkaaGreat
open Go.RowKit Go.Sort
set_option linter.unusedVariables false

theorem Turn.hereL7 {w wr : World} {A B j : Nat} (h : Turn (fun k => k = A ∨ k = B) w wr) (v : Value) : Turn (fun k => k = A ∨ k = B) w (wr.setCell ⟨A, j, none⟩ v) := h.set (Or.inl rfl) v
theorem Turn.hereR7 {w wr : World} {A B j : Nat} (h : Turn (fun k => k = A ∨ k = B) w wr) (v : Value) : Turn (fun k => k = A ∨ k = B) w (wr.setCell ⟨B, j, none⟩ v) := h.set (Or.inr rfl) v
theorem OvN.lit7 {w : World} {B lo : Nat} (h : Blk w B 2 #[]) (hl : lo ≤ B) : OvN w lo (.slice (some ⟨B, 0, none⟩) 0 0) [] :=
  ⟨rfl, .inr ⟨B, 0, #[], rfl, hl, h, Nat.le_refl _, by unfold maxLen; omega, rfl, rfl⟩⟩
theorem OvN.sl7 {w : World} {lo : Nat} {v : Value} {xs : List Int} {m : Nat} (h : OvN w lo v xs) (hm : xs.length = m) : ∃ a k, v = .slice a m k ∧ (a = none → m = 0 ∧ k = 0) := by
  subst hm
  rcases h.form with ⟨rfl, rfl⟩ | ⟨g, c', rfl, _, _⟩
  · exact ⟨none, 0, rfl, fun _ => ⟨rfl, rfl⟩⟩
  · exact ⟨some ⟨g, 0, none⟩, c', rfl, fun e => by cases e⟩

set_option maxHeartbeats 1600000 in
theorem l6C7_any (o nx md lo : Int) (x : Option Addr) (n c : Nat) (xs : List Int) (w : World) (h : NsAt w x xs) (hn : xs.length = n) (hm : n ≤ 1048576) (hnx : x = none → n = 0 ∧ c = 0) :
    Calls Tryz.prog 107 #[.agg #[.int .i64 o, .slice x n c, .int .i64 nx, .int .i64 md, .int .i64 lo]] w fun e w' => ∃ av kv, e = .returned (.agg #[.int .i64 o, .slice av n kv, .int .i64 nx, .int .i64 md, .int .i64 lo]) ∧ OvN w' w.heap.size (.slice av n kv) xs ∧ (av = none → n = 0 ∧ kv = 0) ∧ New w w' := by
  obtain ⟨i0, hi, hz0, hz1, hz2⟩ := info_parts Tryz.infoI64
  have N0 : New w (((w.alloc (.cells #[.int .i64 o, .slice x n c, .int .i64 nx, .int .i64 md, .int .i64 lo] 36)).alloc (.cells #[.int .i64 0, .slice none 0 0, .int .i64 0, .int .i64 0, .int .i64 0] 36)).alloc (.cells #[] 2)) := (((New.refl w).alloc _).alloc _).alloc _
  have b0 : Blk (((w.alloc (.cells #[.int .i64 o, .slice x n c, .int .i64 nx, .int .i64 md, .int .i64 lo] 36)).alloc (.cells #[.int .i64 0, .slice none 0 0, .int .i64 0, .int .i64 0, .int .i64 0] 36)).alloc (.cells #[] 2)) w.heap.size 36 #[.int .i64 o, .slice x n c, .int .i64 nx, .int .i64 md, .int .i64 lo] := ((Blk.mk _ _ _ _ rfl).alloc _).alloc _
  have b1 : Blk (((w.alloc (.cells #[.int .i64 o, .slice x n c, .int .i64 nx, .int .i64 md, .int .i64 lo] 36)).alloc (.cells #[.int .i64 0, .slice none 0 0, .int .i64 0, .int .i64 0, .int .i64 0] 36)).alloc (.cells #[] 2)) (w.heap.size + 1) 36 #[.int .i64 0, .slice none 0 0, .int .i64 0, .int .i64 0, .int .i64 0] := (Blk.mk _ _ _ _ (by simp)).alloc _
  have bL : Blk (((w.alloc (.cells #[.int .i64 o, .slice x n c, .int .i64 nx, .int .i64 md, .int .i64 lo] 36)).alloc (.cells #[.int .i64 0, .slice none 0 0, .int .i64 0, .int .i64 0, .int .i64 0] 36)).alloc (.cells #[] 2)) (w.heap.size + 1 + 1) 2 #[] := Blk.mk _ _ _ _ (by simp)
  have HN : Hid (xs.length = n) := hn
  have HX : Hid (x = none → n = 0 ∧ c = 0) := hnx
  clear hn hnx
  go_enter Tryz.func107, Tryz.ntmps107
  go_wp2_with (at_builtin; refine wpList_apN _ rfl (.tmp 3) (.tmp 5) rfl (w.heap.size + 1 + 1) Tryz.underlying34 hi hz0 hz1 hz2 (.slice (some ⟨w.heap.size + 1 + 1, 0, none⟩) 0 0) [] rfl (OvN.lit7 bL (Nat.le_refl _)) x n c xs rfl (h.new N0) HN.out HX.out (by simp; omega) (by simp) ?_)
  intro v2 w2 ho2 hg2
  replace ho2 : OvN w2 (w.heap.size + 1 + 1) v2 xs := by simpa [OvN] using ho2
  obtain ⟨av, kv, rfl, hnil⟩ := ho2.sl7 HN.out
  have HV : Hid (av = none → n = 0 ∧ kv = 0) := hnil
  clear hnil
  have N2 : New w w2 := N0.grow hg2 (fun k hk => by have e' : w.heap.size + 1 + 1 = k := Option.some.inj hk; omega)
  have d0 := b0.grow hg2 (fun e => by have e' : w.heap.size + 1 + 1 = w.heap.size := Option.some.inj e; omega)
  have d1 := b1.grow hg2 (fun e => by have e' : w.heap.size + 1 + 1 = w.heap.size + 1 := Option.some.inj e; omega)
  clear b0 b1 bL hg2 N0
  have c0 := d0.cells
  have f0 := d0.frees
  have c1 := d1.cells
  have f1 := d1.frees
  have ne2 : ¬ w.heap.size = w.heap.size + 1 := by omega
  have ne2' : ¬ w.heap.size + 1 = w.heap.size := by omega
  go_wp2
  refine bodyPost_ret (v := .agg #[.int .i64 o, .slice av n kv, .int .i64 nx, .int .i64 md, .int .i64 lo]) (by simp [results, Tryz.results107, go_sem, c1]) rfl ?_
  refine (fun (hT : Turn (fun k => k = w.heap.size ∨ k = w.heap.size + 1) w2 _) => ⟨av, kv, rfl, (ho2.turn hT (fun k hk _ e => by omega)).low (by omega), HV.out, N2.before hT (fun i hi e => by omega)⟩) ?_
  exact Turn.hereR7 (Turn.hereR7 (Turn.hereR7 (Turn.hereR7 (Turn.hereR7 (Turn.hereL7 (Turn.refl _ _) _) _) _) _) _) _

set_option maxHeartbeats 3200000 in
theorem copyRt_any (p a l o nx md lc : Int) (x : Option Addr) (n c : Nat) (xs : List Int) (w : World) (h : NsAt w x xs) (hn : xs.length = n) (hm : n ≤ 1048576) (hnx : x = none → n = 0 ∧ c = 0) :
    Calls Tryz.prog 78 #[.agg #[.int .i64 p, .int .i64 a, .int .i64 l, .int .i64 o, .slice x n c, .int .i64 nx, .int .i64 md, .int .i64 lc]] w fun e w' => ∃ x2 c2, e = .returned (.agg #[.int .i64 p, .int .i64 a, .int .i64 l, .int .i64 o, .slice x2 n c2, .int .i64 nx, .int .i64 md, .int .i64 lc]) ∧ OvN w' w.heap.size (.slice x2 n c2) xs ∧ New w w' := by
  have HN : Hid (xs.length = n) := hn
  have N0 : New w ((w.alloc (.cells #[.int .i64 p, .int .i64 a, .int .i64 l, .int .i64 o, .slice x n c, .int .i64 nx, .int .i64 md, .int .i64 lc] 38)).alloc (.cells #[.int .i64 0, .int .i64 0, .int .i64 0, .int .i64 0, .slice none 0 0, .int .i64 0, .int .i64 0, .int .i64 0] 38)) := ((New.refl w).alloc _).alloc _
  have b0 : Blk ((w.alloc (.cells #[.int .i64 p, .int .i64 a, .int .i64 l, .int .i64 o, .slice x n c, .int .i64 nx, .int .i64 md, .int .i64 lc] 38)).alloc (.cells #[.int .i64 0, .int .i64 0, .int .i64 0, .int .i64 0, .slice none 0 0, .int .i64 0, .int .i64 0, .int .i64 0] 38)) w.heap.size 38 #[.int .i64 p, .int .i64 a, .int .i64 l, .int .i64 o, .slice x n c, .int .i64 nx, .int .i64 md, .int .i64 lc] := (Blk.mk _ _ _ _ rfl).alloc _
  have b1 : Blk ((w.alloc (.cells #[.int .i64 p, .int .i64 a, .int .i64 l, .int .i64 o, .slice x n c, .int .i64 nx, .int .i64 md, .int .i64 lc] 38)).alloc (.cells #[.int .i64 0, .int .i64 0, .int .i64 0, .int .i64 0, .slice none 0 0, .int .i64 0, .int .i64 0, .int .i64 0] 38)) (w.heap.size + 1) 38 #[.int .i64 0, .int .i64 0, .int .i64 0, .int .i64 0, .slice none 0 0, .int .i64 0, .int .i64 0, .int .i64 0] := Blk.mk _ _ _ _ (by simp)
  have HX : Hid (x = none → n = 0 ∧ c = 0) := hnx
  clear hn hnx
  go_enter Tryz.func78, Tryz.ntmps78
  go_upto_region 1 with fail
  generalize ((w.alloc (.cells #[.int .i64 p, .int .i64 a, .int .i64 l, .int .i64 o, .slice x n c, .int .i64 nx, .int .i64 md, .int .i64 lc] 38)).alloc (.cells #[.int .i64 0, .int .i64 0, .int .i64 0, .int .i64 0, .slice none 0 0, .int .i64 0, .int .i64 0, .int .i64 0] 38)) = w0 at *
  have c0 := b0.cells
  go_wp2_with fail
  refine (pathB x none n c 0 0 xs [] _ (h.new N0) (NsAt.nil _ _) HN.out rfl HX.out (fun _ => ⟨rfl, rfl⟩) hm (by omega)).mono ?_
  rintro e w1 ⟨v, rfl, ho, h1⟩
  replace ho : OvN w1 w0.heap.size v xs := ho
  obtain ⟨x2, c2, rfl, -⟩ := ho.sl7 HN.out
  have d0 := b0.new h1
  have d1 := b1.new h1
  have N1 := N0.trans h1
  have lt0 := b0.lt
  have lt1 := b1.lt
  have c0 := d0.cells
  have f0 := d0.frees
  have c1 := d1.cells
  have f1 := d1.frees
  have ne2 : ¬ w.heap.size = w.heap.size + 1 := by omega
  have ne2' : ¬ w.heap.size + 1 = w.heap.size := by omega
  clear b0 b1 h1 N0 d0 d1
  go_wp2
  refine bodyPost_ret (v := .agg #[.int .i64 p, .int .i64 a, .int .i64 l, .int .i64 o, .slice x2 n c2, .int .i64 nx, .int .i64 md, .int .i64 lc]) (by simp [results, Tryz.results78, go_sem, c1]) rfl ?_
  refine (fun (hT : Turn (fun k => k = w.heap.size ∨ k = w.heap.size + 1) w1 _) => ⟨x2, c2, rfl, (ho.turn hT (fun k hk _ e => by omega)).low (by omega), N1.before hT (fun i hi e => by omega)⟩) ?_
  exact Turn.hereR7 (Turn.hereR7 (Turn.hereR7 (Turn.hereR7 (Turn.hereR7 (Turn.hereR7 (Turn.hereR7 (Turn.hereR7 (Turn.hereL7 (Turn.refl _ _) _) _) _) _) _) _) _) _) _

end Go.Proofs.YtjampcfikfafkaaGreat

namespace Go.Proofs.YtjampcfikfafkaaGreat
open Go.RowKit Go.Sort
set_option linter.unusedVariables false

theorem PathsT.turn7 {w w' : World} {lo hi : Nat} {V : List Rv} {S : Nat → Prop} (h : PathsT w lo hi V) (t : Turn S w w') (hS : ∀ v ∈ V, ∀ k, v.pv.ownBlock = some k → ¬ S k) : PathsT w' lo hi V :=
  ⟨fun v hv => (h.own v hv).turn7 t (hS v hv), h.bd, h.lies, h.apart⟩
theorem rowv_ne7 {w : World} {lo lo' n k : Nat} {u v : Value} {cs : List Value} {xs : List Int} (h : w.ownsRow lo 38 8 u n cs) (ho : OvN w lo' v xs) (hu : u.ownBlock = some k) : v.ownBlock ≠ some k := by
  intro e
  rcases ho.2 with ⟨h', _⟩ | ⟨g1, c1, cur1, h1, _, hb1, _⟩
  · rw [h'] at e; simp [Value.ownBlock] at e
  · rw [h1] at e
    simp [Value.ownBlock] at e
    subst e
    rcases h.2 with ⟨h', _⟩ | ⟨g2, _, cur2, h2, _, hb2, _⟩
    · rw [h'] at hu; simp [Value.ownBlock] at hu
    · rw [h2] at hu
      simp [Value.ownBlock] at hu
      subst hu
      rw [hb1] at hb2
      simp at hb2
theorem Turn.grown7 {w w' : World} {row : Option Nat} (h : w.grownBy w' row) : Turn (fun k => row = some k) w w' := ⟨h.os, h.tape, h.output, h.size, fun k hk hs => h.block k hk (fun e => hs e.symm)⟩

theorem OwT.appended {w2 w3 w4 w5 : World} {lo : Nat} {u v' : Value} {V : List Rv} {v : Rv} (h : OwT w2 lo w2.heap.size u V) (hlo : lo ≤ w2.heap.size) (n3 : New w2 w3) (ho : OvN w3 w2.heap.size v.pv v.r.xs) (hb : ∀ z ∈ v.r.xs, In6 z) (hm : v.r.xs.length ≤ 1048576) (n4 : New w3 w4)
    (hr : w5.ownsRow lo 38 8 v' (V ++ [v]).length (cellsT (V ++ [v]))) (hg : w4.grownBy w5 u.ownBlock) : OwT w5 lo w5.heap.size v' (V ++ [v]) := by
  have P4 := ((h.path.new n3).snoc v ho hb hm hlo n3.size (Nat.le_refl _)).new n4
  have r4 := row_turn7 h.row (n3.trans n4) (fun _ _ f => f)
  refine ⟨hr, fun k hk => (row_rng7 hr k hk).2, (P4.turn7 (Turn.grown7 hg) ?_).up (Nat.le_trans n4.size hg.size)⟩
  intro q hq k hk e
  exact rowv_ne7 r4 (P4.own q hq) e hk

/-- A row of no routes. -/
theorem row_lit7 {w : World} {B lo : Nat} (h : Blk w B 38 #[]) (hl : lo ≤ B) : w.ownsRow lo 38 8 (.slice (some ⟨B, 0, none⟩) 0 0) ([] : List Rv).length (cellsT []) :=
  ⟨rfl, .inr ⟨B, 0, #[], rfl, hl, h, Nat.le_refl _, by unfold maxLen; omega, rfl, rfl⟩⟩

theorem filter_next {K : Rt → Bool} {V : List Rv} {k : Nat} {v : Rv} (h : V[k]? = some v) : (V.take (k + 1)).filter (fun u => K u.r) = (V.take k).filter (fun u => K u.r) ++ (if K v.r then [v] else []) := by
  obtain ⟨hk, rfl⟩ := List.getElem?_eq_some_iff.1 h
  rw [List.take_succ_eq_append_getElem hk, List.filter_append]
  simp [List.filter_cons]
theorem filterR_next {K : Rt → Bool} {V : List Rv} {k : Nat} {v : Rv} (h : V[k]? = some v) : ((V.take (k + 1)).map Rv.r).filter K = ((V.take k).map Rv.r).filter K ++ (if K v.r then [v.r] else []) := by
  obtain ⟨hk, rfl⟩ := List.getElem?_eq_some_iff.1 h
  rw [List.take_succ_eq_append_getElem hk, List.map_append, List.filter_append]
  simp [List.filter_cons]
theorem filter_map7 (K : Rt → Bool) (V : List Rv) : (V.filter (fun u => K u.r)).map Rv.r = (V.map Rv.r).filter K := by
  rw [List.filter_map]
  rfl

end Go.Proofs.YtjampcfikfafkaaGreat

namespace Go.Proofs.YtjampcfikfafkaaGreat
open Go.RowKit Go.Sort
set_option linter.unusedVariables false

theorem orCR (p a l p' a' l' : Int) (L : Nat) (w : World) (h : Blk w L 3 #[.int .i64 (orL [cmp3 a a', cmp3 l l']), .int .i64 (cmp3 p p')]) : Calls Tryz.prog 83 #[.slice (some ⟨L, 0, none⟩) 2 2] w fun e w' => e = .returned (.int .i64 (cmpR p a l p' a' l')) ∧ w' = w :=
  or_at [orL [cmp3 a a', cmp3 l l'], cmp3 p p'] _ 2 L w rfl rfl (by omega) h

set_option maxHeartbeats 6400000 in
theorem routes_any (p a l o nx md lc : Int) (x : Option Addr) (n c : Nat) (p' a' l' o' nx' md' lc' : Int) (x' : Option Addr) (n' c' : Nat) (w : World) : Calls Tryz.prog 75 #[.agg #[.int .i64 p, .int .i64 a, .int .i64 l, .int .i64 o, .slice x n c, .int .i64 nx, .int .i64 md, .int .i64 lc], .agg #[.int .i64 p', .int .i64 a', .int .i64 l', .int .i64 o', .slice x' n' c', .int .i64 nx', .int .i64 md', .int .i64 lc']] w fun e w' => e = .returned (.int .i64 (cmpR p a l p' a' l')) ∧ New w w' := by
  have N0 := ((New.refl w).alloc (.cells #[.int .i64 p, .int .i64 a, .int .i64 l, .int .i64 o, .slice x n c, .int .i64 nx, .int .i64 md, .int .i64 lc] 38)).alloc (.cells #[.int .i64 p', .int .i64 a', .int .i64 l', .int .i64 o', .slice x' n' c', .int .i64 nx', .int .i64 md', .int .i64 lc'] 38)
  have bA : Blk ((w.alloc (.cells #[.int .i64 p, .int .i64 a, .int .i64 l, .int .i64 o, .slice x n c, .int .i64 nx, .int .i64 md, .int .i64 lc] 38)).alloc (.cells #[.int .i64 p', .int .i64 a', .int .i64 l', .int .i64 o', .slice x' n' c', .int .i64 nx', .int .i64 md', .int .i64 lc'] 38)) w.heap.size 38 #[.int .i64 p, .int .i64 a, .int .i64 l, .int .i64 o, .slice x n c, .int .i64 nx, .int .i64 md, .int .i64 lc] := ((Blk.mk w _ 38 #[.int .i64 p, .int .i64 a, .int .i64 l, .int .i64 o, .slice x n c, .int .i64 nx, .int .i64 md, .int .i64 lc] rfl).alloc _)
  have bB : Blk ((w.alloc (.cells #[.int .i64 p, .int .i64 a, .int .i64 l, .int .i64 o, .slice x n c, .int .i64 nx, .int .i64 md, .int .i64 lc] 38)).alloc (.cells #[.int .i64 p', .int .i64 a', .int .i64 l', .int .i64 o', .slice x' n' c', .int .i64 nx', .int .i64 md', .int .i64 lc'] 38)) (w.heap.size + 1) 38 #[.int .i64 p', .int .i64 a', .int .i64 l', .int .i64 o', .slice x' n' c', .int .i64 nx', .int .i64 md', .int .i64 lc'] := (Blk.mk _ (w.heap.size + 1) 38 #[.int .i64 p', .int .i64 a', .int .i64 l', .int .i64 o', .slice x' n' c', .int .i64 nx', .int .i64 md', .int .i64 lc'] (by simp))
  go_enter Tryz.func75, Tryz.ntmps75
  go_upto_region 1 with fail
  generalize ((w.alloc (.cells #[.int .i64 p, .int .i64 a, .int .i64 l, .int .i64 o, .slice x n c, .int .i64 nx, .int .i64 md, .int .i64 lc] 38)).alloc (.cells #[.int .i64 p', .int .i64 a', .int .i64 l', .int .i64 o', .slice x' n' c', .int .i64 nx', .int .i64 md', .int .i64 lc'] 38)) = w1 at *
  have d0 := bA
  have d1 := bB
  have dN : New w1 w1 := New.refl _
  go_region_held3 (fun W' => (∀ j, W'.cell? ⟨w.heap.size, j, none⟩ = #[Value.int .i64 p, .int .i64 a, .int .i64 l, .int .i64 o, .slice x n c, .int .i64 nx, .int .i64 md, .int .i64 lc][j]?) ∧ (∀ j, W'.cell? ⟨w.heap.size + 1, j, none⟩ = #[Value.int .i64 p', .int .i64 a', .int .i64 l', .int .i64 o', .slice x' n' c', .int .i64 nx', .int .i64 md', .int .i64 lc'][j]?)) (first | exact ⟨d0.cells, d1.cells⟩ | exact ⟨(d0.alloc _).cells, (d1.alloc _).cells⟩)
    (first
      | (go_at_call 84; refine (compare_any _ _ _).mono ?_; rintro e w' ⟨rfl, rfl⟩)
      | (go_at_call 45; refine (prefs_any a l a' l' _).mono ?_; rintro e wx ⟨rfl, h1⟩; (try simp only [New.drew_mark7] at h1); have d0 := d0.new h1; have d1 := d1.new h1; have dN := dN.trans h1)
      | (go_at_call 83; refine (orCR p a l p' a' l' _ _ (by first | exact Blk.mk _ _ _ _ rfl | exact (Blk.mk _ _ _ _ rfl).new (New.refl _).drew)).mono ?_; rintro e w' ⟨rfl, rfl⟩))
  all_goals
    go_wp2
    go_ret
    exact ⟨rfl, by first | exact N0.trans (dN.alloc _) | exact N0.trans (dN.alloc _).drew⟩

end Go.Proofs.YtjampcfikfafkaaGreat

namespace Go.Proofs.YtjampcfikfafkaaGreat
open Go.RowKit Go.Sort
set_option linter.unusedVariables false

/-- A peer's number. -/
abbrev Pe (p : Int) : Prop := 0 ≤ p ∧ p ≤ 2
/-- The fault of a route. -/
def rtf (p a l o : Int) (xs : List Int) (nx md lc : Int) : Int := if Pe p then (if pf a l = 0 then af o xs nx md lc else pf a l) else 3
def Rt.f (r : Rt) : Int := rtf r.p r.a r.l r.o r.xs r.nx r.md r.lc
/-- The route stands behind the other one. -/
def Rt.lt (s r : Rt) : Bool := decide (cmpR s.p s.a s.l r.p r.a r.l < 0)
/-- The fault of the routes behind one. -/
def ribC : Option Rt → List Rt → Int
  | _, [] => 0
  | none, r :: R => if r.f = 0 then ribC (some r) R else r.f
  | some s, r :: R => if r.f = 0 then (if s.lt r = true then ribC (some r) R else 1) else r.f
/-- The fault of a list of routes. -/
def ribF (R : List Rt) : Int := if 60 < R.length then 2 else ribC none R

theorem peer_yes (p : Int) (w : World) (h : Pe p) : Calls Tryz.prog 61 #[.int .i64 p] w fun e w' => e = .returned (.bool true) ∧ w' = w := by
  obtain ⟨h0, h1⟩ := h
  have h2 : p < 3 := by omega
  clear h1
  go_enter Tryz.func61, Tryz.ntmps61
  go_wp2
  go_ret
  exact ⟨rfl, rfl⟩
theorem peer_no (p : Int) (w : World) (h : ¬ Pe p) : Calls Tryz.prog 61 #[.int .i64 p] w fun e w' => e = .returned (.bool false) ∧ w' = w := by
  by_cases h0 : 0 ≤ p
  · have h1 : ¬ p < 3 := by unfold Pe at h; omega
    clear h
    go_enter Tryz.func61, Tryz.ntmps61
    go_wp2
    go_ret
    exact ⟨rfl, rfl⟩
  · clear h
    go_enter Tryz.func61, Tryz.ntmps61
    go_wp2
    go_ret
    exact ⟨rfl, rfl⟩
theorem speer_yes (p : Int) (w : World) (h : Pe p) : Calls Tryz.prog 32 #[.int .i64 p] w fun e w' => e = .returned (.bool true) ∧ w' = w := by
  go_enter Tryz.func32, Tryz.ntmps32
  go_wp2_with fail
  refine (in_yes _ _ _ _ h).mono ?_
  rintro e w1 ⟨rfl, rfl⟩
  go_wp2
  go_ret
  exact ⟨rfl, rfl⟩
theorem speer_no (p : Int) (w : World) (h : ¬ Pe p) : Calls Tryz.prog 32 #[.int .i64 p] w fun e w' => e = .returned (.bool false) ∧ w' = w := by
  have h' : p < 0 ∨ 2 < p := by unfold Pe at h; omega
  go_enter Tryz.func32, Tryz.ntmps32
  go_wp2_with fail
  refine (in_no _ _ _ _ h').mono ?_
  rintro e w1 ⟨rfl, rfl⟩
  go_wp2
  go_ret
  exact ⟨rfl, rfl⟩

set_option maxHeartbeats 3200000 in
theorem implRTF (p a l o nx md lc : Int) (x : Option Addr) (n c : Nat) (xs : List Int) (z : Int) (w : World) (h : NsAt w x xs) (hn : xs.length = n) (hm : n ≤ 1048576) (hz : rtf p a l o xs nx md lc = z) : Calls Tryz.prog 74 #[.agg #[.int .i64 p, .int .i64 a, .int .i64 l, .int .i64 o, .slice x n c, .int .i64 nx, .int .i64 md, .int .i64 lc]] w fun e w' => e = .returned (.int .i64 z) ∧ New w w' := by
  have N0 := (New.refl w).alloc (.cells #[.int .i64 p, .int .i64 a, .int .i64 l, .int .i64 o, .slice x n c, .int .i64 nx, .int .i64 md, .int .i64 lc] 38)
  have bA := (Blk.mk w _ 38 #[.int .i64 p, .int .i64 a, .int .i64 l, .int .i64 o, .slice x n c, .int .i64 nx, .int .i64 md, .int .i64 lc] rfl)
  have cA := bA.cells
  have HN : Hid (xs.length = n) := hn
  clear hn
  by_cases hp : Pe p
  · by_cases hf : pf a l = 0
    · have HZ : Hid (af o xs nx md lc = z) := by
        have := hz
        unfold rtf at this
        rw [if_pos hp, if_pos hf] at this
        exact this
      clear hz
      have HF : Hid (pf a l = 0) := hf
      have HP : Hid (Pe p) := hp
      clear hf hp
      go_enter Tryz.func74, Tryz.ntmps74
      go_wp2_with fail
      refine (peer_yes p _ HP.out).mono ?_
      rintro e w1 ⟨rfl, rfl⟩
      go_wp2_with fail
      refine (implPF_is a l 0 _ HF.out).mono ?_
      rintro e w2 ⟨rfl, h2⟩
      have cA := (bA.new h2).cells
      go_wp2_with fail
      refine (implAF o nx md lc x n c xs _ ((h.new N0).new h2) HN.out hm).mono ?_
      rintro e w3 ⟨rfl, h3⟩
      go_wp2
      go_ret
      exact ⟨ret_i64 HZ.out, (N0.trans h2).trans h3⟩
    · have HZ : Hid (pf a l = z) := by
        have := hz
        unfold rtf at this
        rw [if_pos hp, if_neg hf] at this
        exact this
      have hne : (z != 0) = true := by
        have := HZ.out
        rw [← this]
        simpa using hf
      clear hz
      have HP : Hid (Pe p) := hp
      clear hf hp
      go_enter Tryz.func74, Tryz.ntmps74
      go_wp2_with fail
      refine (peer_yes p _ HP.out).mono ?_
      rintro e w1 ⟨rfl, rfl⟩
      go_wp2_with fail
      refine (implPF_is a l z _ HZ.out).mono ?_
      rintro e w2 ⟨rfl, h2⟩
      go_wp2
      go_ret
      exact ⟨rfl, N0.trans h2⟩
  · have HZ : Hid (z = 3) := by
      have := hz
      unfold rtf at this
      rw [if_neg hp] at this
      exact this.symm
    clear hz
    have HP : Hid (¬ Pe p) := hp
    clear hp
    obtain rfl := HZ.out
    go_enter Tryz.func74, Tryz.ntmps74
    go_wp2_with fail
    refine (peer_no p _ HP.out).mono ?_
    rintro e w1 ⟨rfl, rfl⟩
    go_wp2
    go_ret
    exact ⟨rfl, N0⟩

set_option maxHeartbeats 3200000 in
theorem specRTF (p a l o nx md lc : Int) (x : Option Addr) (n c : Nat) (xs : List Int) (z : Int) (w : World) (h : NsAt w x xs) (hn : xs.length = n) (hm : n ≤ 1048576) (hz : rtf p a l o xs nx md lc = z) : Calls Tryz.prog 68 #[.agg #[.int .i64 p, .int .i64 a, .int .i64 l, .int .i64 o, .slice x n c, .int .i64 nx, .int .i64 md, .int .i64 lc]] w fun e w' => e = .returned (.int .i64 z) ∧ New w w' := by
  have N0 := (New.refl w).alloc (.cells #[.int .i64 p, .int .i64 a, .int .i64 l, .int .i64 o, .slice x n c, .int .i64 nx, .int .i64 md, .int .i64 lc] 38)
  have bA := (Blk.mk w _ 38 #[.int .i64 p, .int .i64 a, .int .i64 l, .int .i64 o, .slice x n c, .int .i64 nx, .int .i64 md, .int .i64 lc] rfl)
  have cA := bA.cells
  have HN : Hid (xs.length = n) := hn
  clear hn
  by_cases hp : Pe p
  · by_cases hf : pf a l = 0
    · have HZ : Hid (af o xs nx md lc = z) := by
        have := hz
        unfold rtf at this
        rw [if_pos hp, if_pos hf] at this
        exact this
      clear hz
      have HF : Hid (pf a l = 0) := hf
      have HP : Hid (Pe p) := hp
      clear hf hp
      go_enter Tryz.func68, Tryz.ntmps68
      go_wp2_with fail
      refine (speer_yes p _ HP.out).mono ?_
      rintro e w1 ⟨rfl, rfl⟩
      go_wp2_with fail
      refine (specPF_is a l 0 _ HF.out).mono ?_
      rintro e w2 ⟨rfl, h2⟩
      have cA := (bA.new h2).cells
      go_wp2_with fail
      refine (specAF o nx md lc x n c xs _ ((h.new N0).new h2) HN.out hm).mono ?_
      rintro e w3 ⟨rfl, h3⟩
      go_wp2
      go_ret
      exact ⟨ret_i64 HZ.out, (N0.trans h2).trans h3⟩
    · have HZ : Hid (pf a l = z) := by
        have := hz
        unfold rtf at this
        rw [if_pos hp, if_neg hf] at this
        exact this
      have hne : (z != 0) = true := by
        have := HZ.out
        rw [← this]
        simpa using hf
      clear hz
      have HP : Hid (Pe p) := hp
      clear hf hp
      go_enter Tryz.func68, Tryz.ntmps68
      go_wp2_with fail
      refine (speer_yes p _ HP.out).mono ?_
      rintro e w1 ⟨rfl, rfl⟩
      go_wp2_with fail
      refine (specPF_is a l z _ HZ.out).mono ?_
      rintro e w2 ⟨rfl, h2⟩
      go_wp2
      go_ret
      exact ⟨rfl, N0.trans h2⟩
  · have HZ : Hid (z = 3) := by
      have := hz
      unfold rtf at this
      rw [if_neg hp] at this
      exact this.symm
    clear hz
    have HP : Hid (¬ Pe p) := hp
    clear hp
    obtain rfl := HZ.out
    go_enter Tryz.func68, Tryz.ntmps68
    go_wp2_with fail
    refine (speer_no p _ HP.out).mono ?_
    rintro e w1 ⟨rfl, rfl⟩
    go_wp2
    go_ret
    exact ⟨rfl, N0⟩

set_option maxHeartbeats 1600000 in
theorem ahead7 (a l a' l' : Int) (v : Bool) (w : World) (hv : decide (orL [cmp3 a a', cmp3 l l'] < 0) = v) : Calls Tryz.prog 103 #[.agg #[.int .i64 a, .int .i64 l], .agg #[.int .i64 a', .int .i64 l']] w fun e w' => e = .returned (.bool v) ∧ New w w' := by
  have N0 := ((New.refl w).alloc (.cells #[.int .i64 a, .int .i64 l] 33)).alloc (.cells #[.int .i64 a', .int .i64 l'] 33)
  by_cases h : a = a'
  · have hx : (a != a') = false := by simp [h]
    by_cases hl : l < l'
    · have HV : v = true := by rw [← hv]; simp [orL, cmp3_eq h, cmp3_lt hl]
      clear hv h
      subst HV
      go_enter Tryz.func103, Tryz.ntmps103
      go_wp2
      go_ret
      exact ⟨rfl, N0⟩
    · have HV : v = false := by
        rw [← hv]
        by_cases e : l = l'
        · simp [orL, cmp3_eq h, cmp3_eq e]
        · simp [orL, cmp3_eq h, cmp3_gt (show l' < l by omega)]
      clear hv h
      subst HV
      go_enter Tryz.func103, Tryz.ntmps103
      go_wp2
      go_ret
      exact ⟨by first | rfl | exact ret_bool (decide_eq_false (by omega)), N0⟩
  · have hx : (a != a') = true := by simp [h]
    by_cases hl : a < a'
    · have HV : v = true := by rw [← hv]; simp [orL, cmp3_lt hl]
      clear hv h
      subst HV
      go_enter Tryz.func103, Tryz.ntmps103
      go_wp2
      go_ret
      exact ⟨rfl, N0⟩
    · have HV : v = false := by rw [← hv]; simp [orL, cmp3_gt (show a' < a by omega)]
      clear hv h
      subst HV
      go_enter Tryz.func103, Tryz.ntmps103
      go_wp2
      go_ret
      exact ⟨by first | rfl | exact ret_bool (decide_eq_false (by omega)), N0⟩

set_option maxHeartbeats 1600000 in
theorem behind7 (p a l o nx md lc : Int) (x : Option Addr) (n c : Nat) (p' a' l' o' nx' md' lc' : Int) (x' : Option Addr) (n' c' : Nat) (v : Bool) (w : World) (hv : decide (cmpR p a l p' a' l' < 0) = v) : Calls Tryz.prog 69 #[.agg #[.int .i64 p, .int .i64 a, .int .i64 l, .int .i64 o, .slice x n c, .int .i64 nx, .int .i64 md, .int .i64 lc], .agg #[.int .i64 p', .int .i64 a', .int .i64 l', .int .i64 o', .slice x' n' c', .int .i64 nx', .int .i64 md', .int .i64 lc']] w fun e w' => e = .returned (.bool v) ∧ New w w' := by
  have N0 : New w ((w.alloc (.cells #[.int .i64 p, .int .i64 a, .int .i64 l, .int .i64 o, .slice x n c, .int .i64 nx, .int .i64 md, .int .i64 lc] 38)).alloc (.cells #[.int .i64 p', .int .i64 a', .int .i64 l', .int .i64 o', .slice x' n' c', .int .i64 nx', .int .i64 md', .int .i64 lc'] 38)) := ((New.refl w).alloc _).alloc _
  have bA : Blk ((w.alloc (.cells #[.int .i64 p, .int .i64 a, .int .i64 l, .int .i64 o, .slice x n c, .int .i64 nx, .int .i64 md, .int .i64 lc] 38)).alloc (.cells #[.int .i64 p', .int .i64 a', .int .i64 l', .int .i64 o', .slice x' n' c', .int .i64 nx', .int .i64 md', .int .i64 lc'] 38)) w.heap.size 38 #[.int .i64 p, .int .i64 a, .int .i64 l, .int .i64 o, .slice x n c, .int .i64 nx, .int .i64 md, .int .i64 lc] := ((Blk.mk w _ 38 #[.int .i64 p, .int .i64 a, .int .i64 l, .int .i64 o, .slice x n c, .int .i64 nx, .int .i64 md, .int .i64 lc] rfl).alloc _)
  have bB : Blk ((w.alloc (.cells #[.int .i64 p, .int .i64 a, .int .i64 l, .int .i64 o, .slice x n c, .int .i64 nx, .int .i64 md, .int .i64 lc] 38)).alloc (.cells #[.int .i64 p', .int .i64 a', .int .i64 l', .int .i64 o', .slice x' n' c', .int .i64 nx', .int .i64 md', .int .i64 lc'] 38)) (w.heap.size + 1) 38 #[.int .i64 p', .int .i64 a', .int .i64 l', .int .i64 o', .slice x' n' c', .int .i64 nx', .int .i64 md', .int .i64 lc'] := (Blk.mk _ (w.heap.size + 1) 38 #[.int .i64 p', .int .i64 a', .int .i64 l', .int .i64 o', .slice x' n' c', .int .i64 nx', .int .i64 md', .int .i64 lc'] (by simp))
  have cA := bA.cells
  have cB := bB.cells
  by_cases ha : a = a'
  · by_cases hl : l = l'
    · subst ha
      subst hl
      have e1 : orL [cmp3 a a, cmp3 l l] = 0 := by simp [orL, cmp3]
      by_cases hp : p < p'
      · have HV : v = true := by rw [← hv]; simp [cmpR, orL, cmp3_lt hp]; simp [cmp3]
        clear hv e1
        subst HV
        go_enter Tryz.func69, Tryz.ntmps69
        go_wp2
        go_ret
        exact ⟨rfl, N0⟩
      · have HV : v = false := by
          rw [← hv]
          by_cases e : p = p'
          · simp [cmpR, orL, cmp3_eq e]; simp [cmp3]
          · simp [cmpR, orL, cmp3_gt (show p' < p by omega)]; simp [cmp3]
        clear hv e1
        subst HV
        go_enter Tryz.func69, Tryz.ntmps69
        go_wp2
        go_ret
        exact ⟨by first | rfl | exact ret_bool (decide_eq_false (by omega)), N0⟩
    · subst ha
      have HV : Hid (decide (orL [cmp3 a a, cmp3 l l'] < 0) = v) := by
        show _ = _
        rw [← hv]
        have hne : orL [cmp3 a a, cmp3 l l'] ≠ 0 := by
          rcases Int.lt_or_gt_of_ne hl with h | h
          · simp [orL, cmp3_eq (rfl : a = a), cmp3_lt h]
          · simp [orL, cmp3_eq (rfl : a = a), cmp3_gt h]
        unfold cmpR
        rw [orL_one hne]
      clear hv
      go_enter Tryz.func69, Tryz.ntmps69
      go_wp2_with fail
      refine (ahead7 a l a l' v _ HV.out).mono ?_
      rintro e w2 ⟨rfl, h2⟩
      go_wp2
      go_ret
      exact ⟨rfl, N0.trans h2⟩
  · have HV : Hid (decide (orL [cmp3 a a', cmp3 l l'] < 0) = v) := by
      show _ = _
      rw [← hv]
      have hne : orL [cmp3 a a', cmp3 l l'] ≠ 0 := by
        rcases Int.lt_or_gt_of_ne ha with h | h
        · simp [orL, cmp3_lt h]
        · simp [orL, cmp3_gt h]
      unfold cmpR
      rw [orL_one hne]
    clear hv
    go_enter Tryz.func69, Tryz.ntmps69
    go_wp2_with fail
    refine (ahead7 a l a' l' v _ HV.out).mono ?_
    rintro e w2 ⟨rfl, h2⟩
    go_wp2
    go_ret
    exact ⟨rfl, N0.trans h2⟩

theorem ribC_next {q : Option Rt} {R : List Rt} {k : Nat} {r : Rt} (h : R[k]? = some r) : ribC q (R.drop k) = if r.f = 0 then (if (match q with | none => true | some s => s.lt r) = true then ribC (some r) (R.drop (k + 1)) else 1) else r.f := by
  obtain ⟨hk, e⟩ := List.getElem?_eq_some_iff.1 h
  rw [List.drop_eq_getElem_cons hk, e]
  cases q <;> simp [ribC]

end Go.Proofs.YtjampcfikfafkaaGreat

namespace Go.Proofs.YtjampcfikfafkaaGreat
open Go.RowKit Go.Sort
set_option linter.unusedVariables false

/-- The route is of the prefix. -/
def keepS (qa ql : Int) (r : Rt) : Bool := decide (qa = r.a ∧ ql = r.l)

set_option maxHeartbeats 1600000 in
theorem same_any (p a l o nx md lc : Int) (x : Option Addr) (n c : Nat) (p' a' l' o' nx' md' lc' : Int) (x' : Option Addr) (n' c' : Nat) (v : Bool) (w : World) (hv : decide (a = a' ∧ l = l') = v) : Calls Tryz.prog 41 #[.agg #[.int .i64 p, .int .i64 a, .int .i64 l, .int .i64 o, .slice x n c, .int .i64 nx, .int .i64 md, .int .i64 lc], .agg #[.int .i64 p', .int .i64 a', .int .i64 l', .int .i64 o', .slice x' n' c', .int .i64 nx', .int .i64 md', .int .i64 lc']] w fun e w' => e = .returned (.bool v) ∧ New w w' := by
  have N0 : New w ((w.alloc (.cells #[.int .i64 p, .int .i64 a, .int .i64 l, .int .i64 o, .slice x n c, .int .i64 nx, .int .i64 md, .int .i64 lc] 38)).alloc (.cells #[.int .i64 p', .int .i64 a', .int .i64 l', .int .i64 o', .slice x' n' c', .int .i64 nx', .int .i64 md', .int .i64 lc'] 38)) := ((New.refl w).alloc _).alloc _
  have hz : (a == a' && l == l') = v := by rw [← hv]; by_cases e : a = a' <;> by_cases f : l = l' <;> simp [e, f]
  clear hv
  go_enter Tryz.func41, Tryz.ntmps41
  go_wp2
  all_goals go_ret
  all_goals exact ⟨ret_bool (by subst hz; first | rfl | simp [*]), ((New.refl w).alloc _).alloc _⟩

set_option maxHeartbeats 6400000 in
theorem thatS_any (p' a' l' o' nx' md' lc' : Int) (x' : Option Addr) (n' c' : Nat) (A : Option Addr) (N cc : Nat) (V : List Rv) (w : World) (h : RtAt w A V) (hn : V.length = N) (hm : N ≤ 1048576) :
    Calls Tryz.prog 40 #[.slice A N cc, .func (.func 41) #[.agg #[.int .i64 p', .int .i64 a', .int .i64 l', .int .i64 o', .slice x' n' c', .int .i64 nx', .int .i64 md', .int .i64 lc']] #[]] w fun e w' => ∃ u V', e = .returned u ∧ V'.map Rv.r = (V.map Rv.r).filter (keepS a' l') ∧ OwT w' w.heap.size w'.heap.size u V' ∧ New w w' := by
  have HN : Hid (V.length = N) := hn
  clear hn
  obtain ⟨i0, hi, hz0, hz1, hz2⟩ := info_parts Tryz.infoRt
  go_enter Tryz.func40, Tryz.ntmps40
  go_wp2
  go_loopw [5, 10] (fun s i wr => ∃ (k : Nat) (V' : List Rv), k ≤ N ∧ i = .int .i64 k ∧ V'.length ≤ k ∧ V'.map Rv.r = ((V.take k).map Rv.r).filter (keepS a' l') ∧ New w wr ∧ OwT wr w.heap.size wr.heap.size s V') (fun _ i _ => N - (intOf i).toNat)
  case atStart => exact ⟨0, [], Nat.zero_le _, rfl, Nat.le_refl _, rfl, New.refl _, OwT.nil _ _ _⟩
  case round =>
    obtain ⟨k, V', hk, rfl, hlk, hmap, hnw, how⟩ := hrel
    by_cases hlt : k < N
    · obtain ⟨b, off, p, a, l, o, nx, md, lc, x, m, d, xs, rfl, hv, hlen, hns, hnl, hmx, q0, q1, q2, q3, q4, q5, q6, q7⟩ := (h.new hnw).at k (by have := HN.out; omega)
      have HL : Hid (xs.length = m) := hlen
      have hbd : Hid (∀ z ∈ xs, In6 z) := hns.bd
      have HX : Hid (x = none → m = 0 ∧ d = 0) := hnl
      have HF := filterR_next (K := keepS a' l') hv
      rw [← hmap] at HF
      have HFR : Hid _ := HF
      have N0 := (New.refl wr).alloc (.cells #[.int .i64 p, .int .i64 a, .int .i64 l, .int .i64 o, .slice x m d, .int .i64 nx, .int .i64 md, .int .i64 lc] 38)
      have bA := Blk.mk wr wr.heap.size 38 #[.int .i64 p, .int .i64 a, .int .i64 l, .int .i64 o, .slice x m d, .int .i64 nx, .int .i64 md, .int .i64 lc] rfl
      clear hv hlen hmap HF hnl
      obtain ⟨f, hf⟩ : ∃ f, Hid (keepS a' l' ⟨p, a, l, o, xs, nx, md, lc⟩ = f) := ⟨_, rfl⟩
      go_upto_region 5 with fail
      generalize wr.alloc (.cells #[.int .i64 p, .int .i64 a, .int .i64 l, .int .i64 o, .slice x m d, .int .i64 nx, .int .i64 md, .int .i64 lc] 38) = wa at *
      have cA := bA.cells
      go_wp2_with fail
      refine (same_any p' a' l' o' nx' md' lc' x' n' c' p a l o nx md lc x m d f _ hf.out).mono ?_
      rintro e w1 ⟨rfl, h1⟩
      have bA1 := bA.new h1
      have N1 := N0.trans h1
      have hns1 := hns.new N1
      have how1 := how.new N1
      have hle := hnw.size
      clear bA cA N0 h1 q0 q1 q2 q3 q4 q5 q6 q7 hns how
      cases f with
      | false =>
        go_wp2
        go_roundw
        case rel =>
          have e := HFR.out
          rw [if_neg (by rw [hf.out]; simp), List.append_nil] at e
          exact ⟨k + 1, V', by omega, by go_num, by omega, e.symm, hnw.trans N1, how1.up N1.size⟩
        case measure => simp [intOf]; omega
      | true =>
        have cA := bA1.cells
        go_wp2_with fail
        refine (copyRt_any p a l o nx md lc x m d xs _ hns1 HL.out hmx HX.out).mono ?_
        rintro e w2 ⟨x2, c2, rfl, ho2, h2⟩
        have how2 := how1.up N1.size
        have hB2 := bA1.new h2
        clear cA
        have hrow3 : (w2.alloc (.cells #[.int .i64 p, .int .i64 a, .int .i64 l, .int .i64 o, .slice x2 m c2, .int .i64 nx, .int .i64 md, .int .i64 lc] 38)).ownsRow w.heap.size 38 8 _ V'.length (cellsT V') := row_turn7 (row_turn7 how1.row h2 (fun _ _ f => f)) ((New.refl w2).alloc _) (fun _ _ f => f)
        have bL := Blk.mk w2 w2.heap.size 38 #[.int .i64 p, .int .i64 a, .int .i64 l, .int .i64 o, .slice x2 m c2, .int .i64 nx, .int .i64 md, .int .i64 lc] rfl
        have hov : OvN w2 w1.heap.size (Rv.pv ⟨⟨p, a, l, o, xs, nx, md, lc⟩, x2, c2⟩) xs := by
          unfold Rv.pv
          simp only [HL.out]
          exact ho2
        have hsz : w.heap.size ≤ (w2.alloc (.cells #[.int .i64 p, .int .i64 a, .int .i64 l, .int .i64 o, .slice x2 m c2, .int .i64 nx, .int .i64 md, .int .i64 lc] 38)).heap.size := by have e1 := N1.size; have e2 := h2.size; simp; omega
        have hsrc : ∀ j, (w2.alloc (.cells #[.int .i64 p, .int .i64 a, .int .i64 l, .int .i64 o, .slice x2 m c2, .int .i64 nx, .int .i64 md, .int .i64 lc] 38)).cell? ⟨w2.heap.size, j, none⟩ = (Rv.mk (Rt.mk p a l o xs nx md lc) x2 c2).cs[j]? := by
          intro j
          rw [bL.cells j]
          unfold Rv.cs
          simp only [HL.out]
          simp
        go_wp2_with (at_builtin; refine wpList_apT _ rfl (.tmp 17) (.tmp 20) rfl w.heap.size _ Tryz.underlying24 hi hz0 hz1 hz2 rfl _ V' rfl hrow3 w2.heap.size (Rv.mk (Rt.mk p a l o xs nx md lc) x2 c2) rfl hsrc (by omega) hsz ?_)
        intro v5 w5 hr5 hg5 _
        replace hr5 : w5.ownsRow w.heap.size 38 8 v5 (V' ++ [Rv.mk (Rt.mk p a l o xs nx md lc) x2 c2]).length (cellsT (V' ++ [Rv.mk (Rt.mk p a l o xs nx md lc) x2 c2])) := by rw [List.length_append]; exact hr5
        have hO5 := OwT.appended how2 (by have e1 := N1.size; omega) h2 hov hbd.out (by simp only [HL.out]; exact hmx) ((New.refl w2).alloc _) hr5 hg5
        have N5 : New w w5 := ((((hnw.trans N1).trans h2).alloc _).grow hg5 (fun j hj => (row_rng7 how1.row j hj).1))
        clear hr5 hg5 hrow3 hsrc hov how2 how1 ho2
        go_wp2
        go_roundw
        case rel =>
          have e := HFR.out
          rw [if_pos hf.out] at e
          exact ⟨k + 1, V' ++ [Rv.mk (Rt.mk p a l o xs nx md lc) x2 c2], by omega, by go_num, by simp; omega, by rw [e]; simp, N5, hO5⟩
        case measure => simp [intOf]; omega
    · go_wp2
      go_ret
      rw [List.take_of_length_le (by have := HN.out; omega)] at hmap
      exact ⟨_, V', rfl, hmap, how, hnw⟩

end Go.Proofs.YtjampcfikfafkaaGreat

namespace Go.Proofs.YtjampcfikfafkaaGreat
open Go.RowKit Go.Sort
set_option linter.unusedVariables false

/-- The route ahead of a place. -/
def prevR (R : List Rt) (k : Nat) : Option Rt := if k = 0 then none else R[k - 1]?

theorem rib_step {R : List Rt} {k : Nat} {r : Rt} (h : R[k]? = some r) (hc : ribC none R = ribC (prevR R k) (R.drop k)) (hf : r.f = 0) (hl : ∀ s, prevR R k = some s → s.lt r = true) : ribC none R = ribC (prevR R (k + 1)) (R.drop (k + 1)) := by
  rw [hc, ribC_next h, if_pos hf]
  have e : prevR R (k + 1) = some r := by unfold prevR; rw [if_neg (by omega)]; simpa using h
  rw [e]
  cases hq : prevR R k with
  | none => simp
  | some s => simp [hl s hq]
theorem rib_bad {R : List Rt} {k : Nat} {r : Rt} (h : R[k]? = some r) (hc : ribC none R = ribC (prevR R k) (R.drop k)) (hf : r.f ≠ 0) : ribC none R = r.f := by
  rw [hc, ribC_next h, if_neg hf]
theorem rib_one {R : List Rt} {k : Nat} {r s : Rt} (h : R[k]? = some r) (hc : ribC none R = ribC (prevR R k) (R.drop k)) (hf : r.f = 0) (hq : prevR R k = some s) (hl : s.lt r = false) : ribC none R = 1 := by
  rw [hc, ribC_next h, if_pos hf, hq]
  simp [hl]
theorem rib_end {R : List Rt} {k : Nat} (hc : ribC none R = ribC (prevR R k) (R.drop k)) (hk : R.length ≤ k) : ribC none R = 0 := by
  rw [hc, List.drop_eq_nil_of_le hk]
  cases prevR R k <;> rfl

theorem routes_is (p a l o nx md lc : Int) (x : Option Addr) (n c : Nat) (p' a' l' o' nx' md' lc' : Int) (x' : Option Addr) (n' c' : Nat) (z : Int) (w : World) (hz : cmpR p a l p' a' l' = z) : Calls Tryz.prog 75 #[.agg #[.int .i64 p, .int .i64 a, .int .i64 l, .int .i64 o, .slice x n c, .int .i64 nx, .int .i64 md, .int .i64 lc], .agg #[.int .i64 p', .int .i64 a', .int .i64 l', .int .i64 o', .slice x' n' c', .int .i64 nx', .int .i64 md', .int .i64 lc']] w fun e w' => e = .returned (.int .i64 z) ∧ New w w' := hz ▸ routes_any p a l o nx md lc x n c p' a' l' o' nx' md' lc' x' n' c' w

set_option maxHeartbeats 6400000 in
theorem implRib (A : Option Addr) (n c : Nat) (V : List Rv) (z : Int) (w : World) (h : RtAt w A V) (hn : V.length = n) (hm : n ≤ 1048576) (hz : ribF (V.map Rv.r) = z) :
    Calls Tryz.prog 37 #[.slice A n c] w fun e w' => e = .returned (.int .i64 z) ∧ New w w' := by
  have HN : Hid (V.length = n) := hn
  by_cases hbig : 60 < n
  case pos =>
    have HZ : z = 2 := by rw [← hz]; unfold ribF; rw [if_pos (by simp; omega)]
    clear hn hz
    subst HZ
    go_enter Tryz.func37, Tryz.ntmps37
    go_wp2
    go_ret
    exact ⟨rfl, New.refl _⟩
  have HZ : Hid (ribC none (V.map Rv.r) = z) := by
    have := hz
    unfold ribF at this
    rw [if_neg (by simp; omega)] at this
    exact this
  clear hn hz
  go_enter Tryz.func37, Tryz.ntmps37
  go_wp2
  go_loopw [11] (fun i wr => ∃ k : Nat, k ≤ n ∧ i = .int .i64 k ∧ New w wr ∧ ribC none (V.map Rv.r) = ribC (prevR (V.map Rv.r) k) ((V.map Rv.r).drop k)) (fun i _ => n - (intOf i).toNat)
  case atStart => exact ⟨0, Nat.zero_le _, rfl, New.refl _, rfl⟩
  case round =>
    obtain ⟨k, hk, rfl, hnw, hc⟩ := hrel
    have HC : Hid _ := hc
    clear hc
    by_cases hlt : k < n
    · obtain ⟨b, off, p, a, l, o, nx, md, lc, x, m, d, xs, rfl, hv, hlen, hns, hnl, hmx, q0, q1, q2, q3, q4, q5, q6, q7⟩ := (h.new hnw).at k (by have := HN.out; omega)
      have HL : Hid (xs.length = m) := hlen
      have HR : Hid ((V.map Rv.r)[k]? = some ⟨p, a, l, o, xs, nx, md, lc⟩) := by show _ = _; rw [List.getElem?_map, hv]; rfl
      have N0 := (New.refl wr).alloc (.cells #[.int .i64 p, .int .i64 a, .int .i64 l, .int .i64 o, .slice x m d, .int .i64 nx, .int .i64 md, .int .i64 lc] 38)
      have bA := Blk.mk wr wr.heap.size 38 #[.int .i64 p, .int .i64 a, .int .i64 l, .int .i64 o, .slice x m d, .int .i64 nx, .int .i64 md, .int .i64 lc] rfl
      clear hv hlen
      obtain ⟨f, hf⟩ : ∃ f, Hid (rtf p a l o xs nx md lc = f) := ⟨_, rfl⟩
      go_upto_region 6 with fail
      generalize wr.alloc (.cells #[.int .i64 p, .int .i64 a, .int .i64 l, .int .i64 o, .slice x m d, .int .i64 nx, .int .i64 md, .int .i64 lc] 38) = wa at *
      have cA := bA.cells
      go_wp2_with fail
      refine (implRTF p a l o nx md lc x m d xs f _ (hns.new N0) HL.out hmx hf.out).mono ?_
      rintro e w1 ⟨rfl, h1⟩
      have bA1 := bA.new h1
      have N1 := hnw.trans (N0.trans h1)
      clear bA cA N0 h1 q0 q1 q2 q3 q4 q5 q6 q7
      by_cases h0 : f = 0
      · subst h0
        go_upto_region 9 with fail
        cases k with
        | zero =>
          go_wp2_with fail
          refine wp_region_quiet_below (by kernel_rfl) (by kernel_rfl) ?_
          repeat (go_big_quiet_step (fail))
          refine wpQuiet_nil ?_
          rintro w2 hn2
          replace hn2 := new_of_regrown hn2
          go_wp2
          go_roundw
          case rel => exact ⟨0 + 1, by omega, by go_num, N1.trans hn2, rib_step HR.out HC.out hf.out (by intro s hs; simp [prevR] at hs)⟩
          case measure => simp [intOf]; omega
        | succ j =>
          obtain ⟨b2, off2, p', a', l', o', nx', md', lc', x', m', d', xs', hA, hv', hlen', hns', hnl', hmx', y0, y1, y2, y3, y4, y5, y6, y7⟩ := (h.new N1).at j (by have := HN.out; omega)
          simp only [Option.some.injEq, Addr.mk.injEq, and_true] at hA
          obtain ⟨rfl, rfl⟩ := hA
          have HP : Hid (prevR (V.map Rv.r) (j + 1) = some ⟨p', a', l', o', xs', nx', md', lc'⟩) := by
            show _ = _
            unfold prevR
            rw [if_neg (by omega), Nat.add_sub_cancel, List.getElem?_map, hv']; rfl
          clear hv' hlen' hns' hnl' h hns hnl
          have B0 := blk_regrown bA1
          have Y0 := cell_regrown y0
          have Y1 := cell_regrown y1
          have Y2 := cell_regrown y2
          have Y3 := cell_regrown y3
          have Y4 := cell_regrown y4
          have Y5 := cell_regrown y5
          have Y6 := cell_regrown y6
          have Y7 := cell_regrown y7
          obtain ⟨zz, hzz⟩ : ∃ zz, Hid (cmpR p' a' l' p a l = zz) := ⟨_, rfl⟩
          have hj1 : ((j + 1 : Nat) : Int) - 1 = (j : Int) := by omega
          by_cases hneg : zz < 0
          · go_wp2_with fail
            refine wp_region_quiet_below (by kernel_rfl) (by kernel_rfl) ?_
            repeat (go_big_quiet_step ((go_at_call 75; exact calls_regrown (routes_is p' a' l' o' nx' md' lc' x' m' d' p a l o nx md lc x m d zz _ hzz.out))))
            refine wpQuiet_nil ?_
            rintro w2 hn2
            replace hn2 := new_of_regrown hn2
            go_wp2
            go_roundw
            case rel => exact ⟨j + 1 + 1, by omega, by go_num, N1.trans hn2, rib_step HR.out HC.out hf.out (by intro s hs; rw [HP.out] at hs; obtain rfl := Option.some.inj hs; show decide (cmpR p' a' l' p a l < 0) = true; rw [hzz.out]; exact decide_eq_true hneg)⟩
            case measure => simp [intOf]; omega
          · go_wp2_with fail
            refine wp_region_quiet_below (by kernel_rfl) (by kernel_rfl) ?_
            repeat (go_big_quiet_step ((go_at_call 75; exact calls_regrown (routes_is p' a' l' o' nx' md' lc' x' m' d' p a l o nx md lc x m d zz _ hzz.out))))
            refine wpQuiet_nil ?_
            rintro w2 hn2
            replace hn2 := new_of_regrown hn2
            go_wp2
            go_ret
            exact ⟨ret_i64 (by rw [← HZ.out, rib_one HR.out HC.out hf.out HP.out (by show decide (cmpR p' a' l' p a l < 0) = false; rw [hzz.out]; exact decide_eq_false (by omega))]), N1.trans hn2⟩
      · have hne : (f != 0) = true := by simpa using h0
        go_wp2
        go_ret
        exact ⟨ret_i64 (by rw [← HZ.out, rib_bad HR.out HC.out (by show rtf p a l o xs nx md lc ≠ 0; rw [hf.out]; exact h0)]; exact hf.out.symm), N1⟩
    · go_wp2
      go_ret
      exact ⟨ret_i64 (by rw [← HZ.out, rib_end HC.out (by simp [HN.out]; omega)]), hnw⟩

set_option maxHeartbeats 6400000 in
theorem specRib (A : Option Addr) (n c : Nat) (V : List Rv) (z : Int) (w : World) (h : RtAt w A V) (hn : V.length = n) (hm : n ≤ 1048576) (hz : ribF (V.map Rv.r) = z) :
    Calls Tryz.prog 31 #[.slice A n c] w fun e w' => e = .returned (.int .i64 z) ∧ New w w' := by
  have HN : Hid (V.length = n) := hn
  by_cases hbig : 60 < n
  case pos =>
    have HZ : z = 2 := by rw [← hz]; unfold ribF; rw [if_pos (by simp; omega)]
    clear hn hz
    subst HZ
    go_enter Tryz.func31, Tryz.ntmps31
    go_wp2
    go_ret
    exact ⟨rfl, New.refl _⟩
  have HZ : Hid (ribC none (V.map Rv.r) = z) := by
    have := hz
    unfold ribF at this
    rw [if_neg (by simp; omega)] at this
    exact this
  clear hn hz
  go_enter Tryz.func31, Tryz.ntmps31
  go_wp2
  go_loopw [3] (fun i wr => ∃ k : Nat, k ≤ n ∧ i = .int .i64 k ∧ New w wr ∧ ribC none (V.map Rv.r) = ribC (prevR (V.map Rv.r) k) ((V.map Rv.r).drop k)) (fun i _ => n - (intOf i).toNat)
  case atStart => exact ⟨0, Nat.zero_le _, rfl, New.refl _, rfl⟩
  case round =>
    obtain ⟨k, hk, rfl, hnw, hc⟩ := hrel
    have HC : Hid _ := hc
    clear hc
    by_cases hlt : k < n
    · obtain ⟨b, off, p, a, l, o, nx, md, lc, x, m, d, xs, rfl, hv, hlen, hns, hnl, hmx, q0, q1, q2, q3, q4, q5, q6, q7⟩ := (h.new hnw).at k (by have := HN.out; omega)
      have HL : Hid (xs.length = m) := hlen
      have HR : Hid ((V.map Rv.r)[k]? = some ⟨p, a, l, o, xs, nx, md, lc⟩) := by show _ = _; rw [List.getElem?_map, hv]; rfl
      clear hv hlen
      obtain ⟨f, hf⟩ : ∃ f, Hid (rtf p a l o xs nx md lc = f) := ⟨_, rfl⟩
      go_wp2_with fail
      refine (specRTF p a l o nx md lc x m d xs f _ hns HL.out hmx hf.out).mono ?_
      rintro e w1 ⟨rfl, h1⟩
      have N1 := hnw.trans h1
      have q0 := h1.below.cell (World.block_lt_of_cell? _ _ q0) |>.trans q0
      have q1 := h1.below.cell (World.block_lt_of_cell? _ _ q1) |>.trans q1
      have q2 := h1.below.cell (World.block_lt_of_cell? _ _ q2) |>.trans q2
      have q3 := h1.below.cell (World.block_lt_of_cell? _ _ q3) |>.trans q3
      have q4 := h1.below.cell (World.block_lt_of_cell? _ _ q4) |>.trans q4
      have q5 := h1.below.cell (World.block_lt_of_cell? _ _ q5) |>.trans q5
      have q6 := h1.below.cell (World.block_lt_of_cell? _ _ q6) |>.trans q6
      have q7 := h1.below.cell (World.block_lt_of_cell? _ _ q7) |>.trans q7
      clear h1
      by_cases h0 : f = 0
      · subst h0
        go_upto_region 9 with fail
        cases k with
        | zero =>
          go_wp2_with fail
          refine wp_region_quiet_below (by kernel_rfl) (by kernel_rfl) ?_
          repeat (go_big_quiet_step (fail))
          refine wpQuiet_nil ?_
          rintro w2 hn2
          replace hn2 := new_of_regrown hn2
          go_wp2
          go_roundw
          case rel => exact ⟨0 + 1, by omega, by go_num, N1.trans hn2, rib_step HR.out HC.out hf.out (by intro s hs; simp [prevR] at hs)⟩
          case measure => simp [intOf]; omega
        | succ j =>
          obtain ⟨b2, off2, p', a', l', o', nx', md', lc', x', m', d', xs', hA, hv', hlen', hns', hnl', hmx', y0, y1, y2, y3, y4, y5, y6, y7⟩ := (h.new N1).at j (by have := HN.out; omega)
          simp only [Option.some.injEq, Addr.mk.injEq, and_true] at hA
          obtain ⟨rfl, rfl⟩ := hA
          have HP : Hid (prevR (V.map Rv.r) (j + 1) = some ⟨p', a', l', o', xs', nx', md', lc'⟩) := by
            show _ = _
            unfold prevR
            rw [if_neg (by omega), Nat.add_sub_cancel, List.getElem?_map, hv']; rfl
          clear hv' hlen' hns' hnl' h hns hnl
          have Q0 := cell_regrown q0
          have Q1 := cell_regrown q1
          have Q2 := cell_regrown q2
          have Q3 := cell_regrown q3
          have Q4 := cell_regrown q4
          have Q5 := cell_regrown q5
          have Q6 := cell_regrown q6
          have Q7 := cell_regrown q7
          have Y0 := cell_regrown y0
          have Y1 := cell_regrown y1
          have Y2 := cell_regrown y2
          have Y3 := cell_regrown y3
          have Y4 := cell_regrown y4
          have Y5 := cell_regrown y5
          have Y6 := cell_regrown y6
          have Y7 := cell_regrown y7
          obtain ⟨zz, hzz⟩ : ∃ zz, Hid (decide (cmpR p' a' l' p a l < 0) = zz) := ⟨_, rfl⟩
          have hj1 : ((j + 1 : Nat) : Int) - 1 = (j : Int) := by omega
          cases zz with
          | true =>
            go_wp2_with fail
            refine wp_region_quiet_below (by kernel_rfl) (by kernel_rfl) ?_
            repeat (go_big_quiet_step ((go_at_call 69; exact calls_regrown (behind7 p' a' l' o' nx' md' lc' x' m' d' p a l o nx md lc x m d _ _ hzz.out))))
            refine wpQuiet_nil ?_
            rintro w2 hn2
            replace hn2 := new_of_regrown hn2
            go_wp2
            go_roundw
            case rel => exact ⟨j + 1 + 1, by omega, by go_num, N1.trans hn2, rib_step HR.out HC.out hf.out (by intro s hs; rw [HP.out] at hs; obtain rfl := Option.some.inj hs; exact hzz.out)⟩
            case measure => simp [intOf]; omega
          | false =>
            go_wp2_with fail
            refine wp_region_quiet_below (by kernel_rfl) (by kernel_rfl) ?_
            repeat (go_big_quiet_step ((go_at_call 69; exact calls_regrown (behind7 p' a' l' o' nx' md' lc' x' m' d' p a l o nx md lc x m d _ _ hzz.out))))
            refine wpQuiet_nil ?_
            rintro w2 hn2
            replace hn2 := new_of_regrown hn2
            go_wp2
            go_ret
            exact ⟨ret_i64 (by rw [← HZ.out, rib_one HR.out HC.out hf.out HP.out (by exact hzz.out)]), N1.trans hn2⟩
      · have hne : (f != 0) = true := by simpa using h0
        go_wp2
        go_ret
        exact ⟨ret_i64 (by rw [← HZ.out, rib_bad HR.out HC.out (by show rtf p a l o xs nx md lc ≠ 0; rw [hf.out]; exact h0)]; exact hf.out.symm), N1⟩
    · go_wp2
      go_ret
      exact ⟨ret_i64 (by rw [← HZ.out, rib_end HC.out (by simp [HN.out]; omega)]), hnw⟩

end Go.Proofs.YtjampcfikfafkaaGreat

namespace Go.Proofs.YtjampcfikfafkaaGreat
open Go.RowKit Go.Sort Go.Shelf
set_option linter.unusedVariables false
set_option linter.unusedSimpArgs false
set_option maxRecDepth 100000
attribute [local go_sem] Oper.semAt_some

/-- The best of a prefix, or that there is none. -/
def BfOk (R : List Rt) (a0 l0 z : Int) (r : Rt) : Prop := (z = 4 ∧ r = ⟨0, 0, 0, 0, [], 0, 0, 0⟩ ∧ ∀ s ∈ R, keepS a0 l0 s = false) ∨ (z = 0 ∧ r ∈ R ∧ keepS a0 l0 r = true ∧ ∀ s ∈ R, keepS a0 l0 s = true → ¬ hcmp s r < 0)

theorem turn_of_grown8 {A B : World} {row : Option Nat} (h : A.grownBy B row) : Turn (fun k => row = some k) A B := ⟨h.os, h.tape, h.output, h.size, fun k hk hs => h.block k hk (fun e => hs e.symm)⟩

/-- Nine stores into one block. -/
theorem nine8 (W : World) (B : Nat) (t : TypeId) (o0 o1 o2 o3 o4 o5 o6 o7 o8 v0 v1 v2 v3 v4 v5 v6 v7 v8 : Value) (h : Blk W B t #[o0, o1, o2, o3, o4, o5, o6, o7, o8]) : Blk (((((((((W.setCell ⟨B, 0, none⟩ v0).setCell ⟨B, 1, none⟩ v1).setCell ⟨B, 2, none⟩ v2).setCell ⟨B, 3, none⟩ v3).setCell ⟨B, 4, none⟩ v4).setCell ⟨B, 5, none⟩ v5).setCell ⟨B, 6, none⟩ v6).setCell ⟨B, 7, none⟩ v7).setCell ⟨B, 8, none⟩ v8) B t #[v0, v1, v2, v3, v4, v5, v6, v7, v8] ∧ Turn (fun k => k = B) W (((((((((W.setCell ⟨B, 0, none⟩ v0).setCell ⟨B, 1, none⟩ v1).setCell ⟨B, 2, none⟩ v2).setCell ⟨B, 3, none⟩ v3).setCell ⟨B, 4, none⟩ v4).setCell ⟨B, 5, none⟩ v5).setCell ⟨B, 6, none⟩ v6).setCell ⟨B, 7, none⟩ v7).setCell ⟨B, 8, none⟩ v8) := by
  have b0 : Blk (W.setCell ⟨B, 0, none⟩ v0) B t #[v0, o1, o2, o3, o4, o5, o6, o7, o8] := h.set 0 v0
  have b1 : Blk ((W.setCell ⟨B, 0, none⟩ v0).setCell ⟨B, 1, none⟩ v1) B t #[v0, v1, o2, o3, o4, o5, o6, o7, o8] := b0.set 1 v1
  have b2 : Blk (((W.setCell ⟨B, 0, none⟩ v0).setCell ⟨B, 1, none⟩ v1).setCell ⟨B, 2, none⟩ v2) B t #[v0, v1, v2, o3, o4, o5, o6, o7, o8] := b1.set 2 v2
  have b3 : Blk ((((W.setCell ⟨B, 0, none⟩ v0).setCell ⟨B, 1, none⟩ v1).setCell ⟨B, 2, none⟩ v2).setCell ⟨B, 3, none⟩ v3) B t #[v0, v1, v2, v3, o4, o5, o6, o7, o8] := b2.set 3 v3
  have b4 : Blk (((((W.setCell ⟨B, 0, none⟩ v0).setCell ⟨B, 1, none⟩ v1).setCell ⟨B, 2, none⟩ v2).setCell ⟨B, 3, none⟩ v3).setCell ⟨B, 4, none⟩ v4) B t #[v0, v1, v2, v3, v4, o5, o6, o7, o8] := b3.set 4 v4
  have b5 : Blk ((((((W.setCell ⟨B, 0, none⟩ v0).setCell ⟨B, 1, none⟩ v1).setCell ⟨B, 2, none⟩ v2).setCell ⟨B, 3, none⟩ v3).setCell ⟨B, 4, none⟩ v4).setCell ⟨B, 5, none⟩ v5) B t #[v0, v1, v2, v3, v4, v5, o6, o7, o8] := b4.set 5 v5
  have b6 : Blk (((((((W.setCell ⟨B, 0, none⟩ v0).setCell ⟨B, 1, none⟩ v1).setCell ⟨B, 2, none⟩ v2).setCell ⟨B, 3, none⟩ v3).setCell ⟨B, 4, none⟩ v4).setCell ⟨B, 5, none⟩ v5).setCell ⟨B, 6, none⟩ v6) B t #[v0, v1, v2, v3, v4, v5, v6, o7, o8] := b5.set 6 v6
  have b7 : Blk ((((((((W.setCell ⟨B, 0, none⟩ v0).setCell ⟨B, 1, none⟩ v1).setCell ⟨B, 2, none⟩ v2).setCell ⟨B, 3, none⟩ v3).setCell ⟨B, 4, none⟩ v4).setCell ⟨B, 5, none⟩ v5).setCell ⟨B, 6, none⟩ v6).setCell ⟨B, 7, none⟩ v7) B t #[v0, v1, v2, v3, v4, v5, v6, v7, o8] := b6.set 7 v7
  have b8 : Blk (((((((((W.setCell ⟨B, 0, none⟩ v0).setCell ⟨B, 1, none⟩ v1).setCell ⟨B, 2, none⟩ v2).setCell ⟨B, 3, none⟩ v3).setCell ⟨B, 4, none⟩ v4).setCell ⟨B, 5, none⟩ v5).setCell ⟨B, 6, none⟩ v6).setCell ⟨B, 7, none⟩ v7).setCell ⟨B, 8, none⟩ v8) B t #[v0, v1, v2, v3, v4, v5, v6, v7, v8] := b7.set 8 v8
  exact ⟨b8, Turn.set (S := fun k => k = B) (Turn.set (S := fun k => k = B) (Turn.set (S := fun k => k = B) (Turn.set (S := fun k => k = B) (Turn.set (S := fun k => k = B) (Turn.set (S := fun k => k = B) (Turn.set (S := fun k => k = B) (Turn.set (S := fun k => k = B) (Turn.set (S := fun k => k = B) (Turn.refl (fun k => k = B) W) rfl v0) rfl v1) rfl v2) rfl v3) rfl v4) rfl v5) rfl v6) rfl v7) rfl v8⟩

set_option maxHeartbeats 6400000 in
theorem implBF_ok (a0 l0 : Int) (A : Option Addr) (N cc : Nat) (V : List Rv) (w : World) (h : RtAt w A V) (hn : V.length = N) (hm : N ≤ 1048576) (hf : ribF (V.map Rv.r) = 0) (hg : pf a0 l0 = 0) :
    Calls Tryz.prog 9 #[.slice A N cc, .agg #[.int .i64 a0, .int .i64 l0]] w fun e w' => ∃ z r x d, BfOk (V.map Rv.r) a0 l0 z r ∧ e = .returned (.agg #[.int .i64 z, .int .i64 r.p, .int .i64 r.a, .int .i64 r.l, .int .i64 r.o, .slice x r.xs.length d, .int .i64 r.nx, .int .i64 r.md, .int .i64 r.lc]) ∧ OvN w' w.heap.size (.slice x r.xs.length d) r.xs ∧ ((∀ q ∈ r.xs, In6 q) ∧ r.xs.length ≤ 1048576) ∧ New w w' := by
  have HN : Hid (V.length = N) := hn
  have HFA : Hid (ribF (V.map Rv.r) = 0) := hf
  have HG : Hid (pf a0 l0 = 0) := hg
  have HA : Hid (∀ X, New w X → RtAt X A V) := fun X hX => h.new hX
  have N0 : New w ((w.alloc (.cells #[.int .i64 a0, .int .i64 l0] 33)).alloc (.cells #[.int .i64 0, .int .i64 0, .int .i64 0, .int .i64 0, .int .i64 0, .slice none 0 0, .int .i64 0, .int .i64 0, .int .i64 0] 40)) := ((New.refl w).alloc _).alloc _
  have bB : Blk ((w.alloc (.cells #[.int .i64 a0, .int .i64 l0] 33)).alloc (.cells #[.int .i64 0, .int .i64 0, .int .i64 0, .int .i64 0, .int .i64 0, .slice none 0 0, .int .i64 0, .int .i64 0, .int .i64 0] 40)) (w.heap.size + 1) 40 #[.int .i64 0, .int .i64 0, .int .i64 0, .int .i64 0, .int .i64 0, .slice none 0 0, .int .i64 0, .int .i64 0, .int .i64 0] := Blk.mk _ _ _ _ (by simp)
  have bP : Blk ((w.alloc (.cells #[.int .i64 a0, .int .i64 l0] 33)).alloc (.cells #[.int .i64 0, .int .i64 0, .int .i64 0, .int .i64 0, .int .i64 0, .slice none 0 0, .int .i64 0, .int .i64 0, .int .i64 0] 40)) w.heap.size 33 #[.int .i64 a0, .int .i64 l0] := (Blk.mk _ _ _ _ rfl).alloc _
  have hmf : ∀ (fn : Fn) (first cap : Array Value) (w : World), (Instr.makeFunc fn first cap).run Tryz.prog w = .ok (.func fn first cap) w := fun _ _ _ _ => rfl
  have ltB := bB.lt
  clear h hn hf hg
  refine (callsIn_wide (n := 4)).1 ?_
  refine callsIn_of_wp_marks Tryz.func9 rfl trivial ?_ rfl
  simp only [Tryz.ntmps9, List.size_toArray, List.length_cons, List.length_nil, Nat.reduceAdd, Nat.reduceSub, Array.replicate_succ, Array.replicate_zero, List.push_toArray, List.append_toArray, List.nil_append, List.cons_append]
  gi_wp2_with fail
  refine ⟨trivial, ?_⟩
  refine (callsIn_wide.2 (implRib A N cc V 0 _ (HA.out _ N0) HN.out hm HFA.out)).mono ?_
  generalize ((w.alloc (.cells #[.int .i64 a0, .int .i64 l0] 33)).alloc (.cells #[.int .i64 0, .int .i64 0, .int .i64 0, .int .i64 0, .int .i64 0, .slice none 0 0, .int .i64 0, .int .i64 0, .int .i64 0] 40)) = w0 at *
  rintro e w1 ⟨rfl, h1⟩
  have b1 := bB.new h1
  have p1 := bP.new h1
  have n1 := N0.trans h1
  have lt1 := b1.lt
  have pc := p1.cells
  clear bB bP h1 N0
  gi_wp2_with fail
  refine ⟨trivial, ?_⟩
  refine (callsIn_wide.2 (implPF_is a0 l0 0 _ HG.out)).mono ?_
  rintro e w2 ⟨rfl, h2⟩
  have b2 := b1.new h2
  have p2 := p1.new h2
  have n2 := n1.trans h2
  have lt2 := b2.lt
  clear pc b1 p1 h2 n1
  have pc := p2.cells
  have bD := Blk.mk w2 w2.heap.size 38 #[.int .i64 0, .int .i64 a0, .int .i64 l0, .int .i64 0, .slice none 0 0, .int .i64 0, .int .i64 0, .int .i64 0] rfl
  have cD := bD.cells
  have a2 := (New.refl w2).alloc (.cells #[.int .i64 0, .int .i64 a0, .int .i64 l0, .int .i64 0, .slice none 0 0, .int .i64 0, .int .i64 0, .int .i64 0] 38)
  gi_wp2_with fail
  refine ⟨trivial, ?_⟩
  refine (callsIn_wide.2 (thatS_any 0 a0 l0 0 0 0 0 none 0 0 A N cc V _ (HA.out _ (n2.trans a2)) HN.out hm)).mono ?_
  rintro e w3 ⟨u, V', rfl, hv3, ho3, h3⟩
  obtain ⟨A3, c3, rfl, hr3, -⟩ := ho3.form
  have b3 := (b2.new a2).new h3
  have n3 := (n2.trans a2).trans h3
  have z3 := h3.size
  have z2 := a2.size
  clear b2 n2 bD cD pc p2 h3 a2
  have hl3 : V'.length ≤ N := by
    have e := congrArg List.length hv3
    rw [List.length_map] at e
    have e2 := List.length_filter_le (keepS a0 l0) (V.map Rv.r)
    rw [List.length_map, HN.out] at e2
    omega
  have HV3 : Hid (V'.map Rv.r = (V.map Rv.r).filter (keepS a0 l0)) := hv3
  clear hv3
  gi_wp2_with fail
  refine ⟨trivial, ?_⟩
  refine (callsIn_wide.2 (heapOf_any A3 V'.length c3 V' _ hr3 rfl (by omega))).mono ?_
  rintro e w4 ⟨H, V4, rfl, hs4, hp4, hk4, h4⟩
  gi_wp2_with fail
  have b4 := b3.new h4
  have n4 := n3.trans h4
  have z4 := h4.size
  have lt4 := b4.lt
  have lt3 := b3.lt
  have H4 : Hid (New w3 w4) := h4
  clear b3 h4
  obtain ⟨b, c, hp, hlb, hlH, hfar⟩ := hs4
  have ltb := hp.row.lt
  have ltH := hp.hd.lt
  have HB4 : Hid (Blk w4 (w.heap.size + 1) 40 #[.int .i64 0, .int .i64 0, .int .i64 0, .int .i64 0, .int .i64 0, .slice none 0 0, .int .i64 0, .int .i64 0, .int .i64 0]) := b4
  clear b4
  rcases Nat.eq_zero_or_pos V'.length with h0 | h0
  · have hV4 : V4 = [] := List.eq_nil_of_length_eq_zero (hp4.length_eq.trans h0)
    subst hV4
    refine wpIn_range8 (v0 := .pointer (some ⟨H, 0, none⟩)) rfl (by omega) (gf := 42) rfl trivial (enters_of Tryz.func42 (by kernel_rfl) rfl) ?_
    intro fn W1 rec hfn hN1 hsz hrec hl hd
    refine (top8_none (w4.heap.size + 1) H b c W1 (hp.new hN1)).mono ?_
    rintro e W2 ⟨he, rfl⟩
    refine ⟨he, .ready, none, by simp, by subst hrec; exact hl, hd, ?_⟩
    rintro W3 rfl
    have b5 : Blk (W2.putObj (w4.heap.size + 1) (.loop { rec with state := .exhausted, pending := none })) (w.heap.size + 1) 40 #[.int .i64 0, .int .i64 0, .int .i64 0, .int .i64 0, .int .i64 0, .slice none 0 0, .int .i64 0, .int .i64 0, .int .i64 0] := (World.putObj_heap_other (by omega)).trans (HB4.out.new hN1)
    have d5 : (W2.putObj (w4.heap.size + 1) (.loop { rec with state := .exhausted, pending := none })).heap[w4.heap.size]? = some (.deferred (some [])) := (World.putObj_heap_other (by omega)).trans hd
    have tl := turn_of_grown8 (grownBy_putObj' W2 (w4.heap.size + 1) (.loop { rec with state := .exhausted, pending := none }))
    generalize W2.putObj (w4.heap.size + 1) (.loop { rec with state := .exhausted, pending := none }) = W5 at *
    have c5 := b5.cells
    have f5 := b5.frees
    gi_wp2
    obtain ⟨b6, t6⟩ := nine8 W5 (w.heap.size + 1) 40 (.int .i64 0) (.int .i64 0) (.int .i64 0) (.int .i64 0) (.int .i64 0) (.slice none 0 0) (.int .i64 0) (.int .i64 0) (.int .i64 0) (.int .i64 4) (.int .i64 0) (.int .i64 0) (.int .i64 0) (.int .i64 0) (.slice none 0 0) (.int .i64 0) (.int .i64 0) (.int .i64 0) b5
    have lt5 : w4.heap.size < W5.heap.size := (Array.getElem?_eq_some_iff.1 d5).1
    have hK6 := (t6.block w4.heap.size lt5 (by omega)).trans d5
    generalize (((((((((W5.setCell ⟨w.heap.size + 1, 0, none⟩ (.int .i64 4)).setCell ⟨w.heap.size + 1, 1, none⟩ (.int .i64 0)).setCell ⟨w.heap.size + 1, 2, none⟩ (.int .i64 0)).setCell ⟨w.heap.size + 1, 3, none⟩ (.int .i64 0)).setCell ⟨w.heap.size + 1, 4, none⟩ (.int .i64 0)).setCell ⟨w.heap.size + 1, 5, none⟩ (.slice none 0 0)).setCell ⟨w.heap.size + 1, 6, none⟩ (.int .i64 0)).setCell ⟨w.heap.size + 1, 7, none⟩ (.int .i64 0)).setCell ⟨w.heap.size + 1, 8, none⟩ (.int .i64 0)) = W6 at *
    have tp := turn_of_grown8 (grownBy_putObj' W6 w4.heap.size (.deferred none))
    have b7 := b6.turn tp (by intro e; have := Option.some.inj e; omega)
    have cF := b7.cells
    refine ⟨by simp, .inl ⟨_, _, rfl, run_takeDeferred hK6, ?_⟩⟩
    refine ⟨.agg #[.int .i64 4, .int .i64 0, .int .i64 0, .int .i64 0, .int .i64 0, .slice none 0 0, .int .i64 0, .int .i64 0, .int .i64 0], by simp [results, Tryz.results9, go_sem, cF], ?_⟩
    refine ⟨4, ⟨0, 0, 0, 0, [], 0, 0, 0⟩, none, 0, .inl ⟨rfl, rfl, ?_⟩, rfl, ⟨rfl, .inl ⟨rfl, rfl⟩⟩, ⟨by simp, by simp⟩, ?_⟩
    · have e := HV3.out
      rw [List.eq_nil_of_length_eq_zero h0, List.map_nil] at e
      intro s hs
      have := List.filter_eq_nil_iff.1 e.symm s hs
      simpa using this
    · refine Turn.mono (Turn.trans (Turn.trans (Turn.trans (Turn.trans n4.turn hN1.turn (fun _ _ e => e)) tl (fun k _ e => ?_)) t6 (fun k _ e => ?_)) tp (fun k _ e => ?_)) (S := fun k => w.heap.size ≤ k) (fun k h1 h2 => by omega)
      · have := Option.some.inj e; omega
      · omega
      · have := Option.some.inj e; omega
  · obtain ⟨m, hm4⟩ : ∃ m, V4.length = m + 1 := ⟨V4.length - 1, by have := hp4.length_eq; omega⟩
    have hk5 : hpOK hlt (hf V4) (m + 1) := by rw [← hm4, hp4.length_eq]; exact hk4
    have hle : m + 1 ≤ 1048576 := by have := hp4.length_eq; omega
    have hv0 : V4[0]? = some (hf V4 0) := hf_at (by omega)
    have hvm : hf V4 0 ∈ V' := hp4.mem_iff.1 (List.mem_of_getElem? hv0)
    have hown := ho3.path.own _ hvm
    have hbd := ho3.path.bd _ hvm
    have hbest : BfOk (V.map Rv.r) a0 l0 0 (hf V4 0).r := by
      refine .inr ⟨rfl, ?_⟩
      have hin : (hf V4 0).r ∈ (V.map Rv.r).filter (keepS a0 l0) := by rw [← HV3.out]; exact List.mem_map_of_mem hvm
      obtain ⟨h1, h2⟩ := List.mem_filter.1 hin
      refine ⟨h1, h2, fun s hs hk => ?_⟩
      have h3 : s ∈ V'.map Rv.r := by rw [HV3.out]; exact List.mem_filter.2 ⟨hs, hk⟩
      obtain ⟨u, hu, rfl⟩ := List.mem_map.1 h3
      obtain ⟨i, hi⟩ := List.getElem?_of_mem (hp4.mem_iff.2 hu)
      have hil := (List.getElem?_eq_some_iff.1 hi).1
      have := hp_top hlt_tr hlt_irr hk5 i (by omega)
      rw [hf_get hi] at this
      exact this
    have HBEST : Hid (BfOk (V.map Rv.r) a0 l0 0 (hf V4 0).r) := hbest
    have HOWN : Hid (OvN w3 _ (hf V4 0).pv (hf V4 0).r.xs) := hown
    have HBD : Hid ((∀ z ∈ (hf V4 0).r.xs, In6 z) ∧ (hf V4 0).r.xs.length ≤ 1048576) := hbd
    have HRNG : Hid (∀ k, (hf V4 0).pv.ownBlock = some k → w.heap.size + 1 < k ∧ k < w3.heap.size) := fun k hk => by have := hown.rng7 k hk; omega
    clear hown hbd hbest hvm hv0 hr3 ho3
    obtain ⟨v, hv⟩ : ∃ v, hf V4 0 = v := ⟨_, rfl⟩
    rw [hv] at HBEST HOWN HBD HRNG
    refine wpIn_range8 (v0 := .pointer (some ⟨H, 0, none⟩)) rfl (by omega) (gf := 42) rfl trivial (enters_of Tryz.func42 (by kernel_rfl) rfl) ?_
    intro fn W1 rec hfn hN1 hsz hrec hl hd
    obtain ⟨rb, hrb⟩ : ∃ rb : Loop, rb = { rec with state := .busy } := ⟨_, rfl⟩
    obtain ⟨rd, hrd⟩ : ∃ rd : Loop, rd = { rec with state := .done, pending := some .ret } := ⟨_, rfl⟩
    refine (top8_first (w4.heap.size + 1) H b c V4 m W1 (fun W => W.heap[w4.heap.size + 1]? = some (.loop rd) ∧ W.heap[w4.heap.size]? = some (.deferred (some [])) ∧ Blk W (w.heap.size + 1) 40 #[.int .i64 0, .int .i64 v.r.p, .int .i64 v.r.a, .int .i64 v.r.l, .int .i64 v.r.o, .slice v.x v.r.xs.length v.c, .int .i64 v.r.nx, .int .i64 v.r.md, .int .i64 v.r.lc] ∧ Turn (fun k => k = b ∨ k = H ∨ k = w.heap.size + 1 ∨ k = w4.heap.size + 1) W1 W) (hp.new hN1) hm4 hle hk5 ?_).mono ?_
    · intro W2 t2
      rw [hv]
      obtain ⟨⟨p, a, l, o, xs, nx, md, lc⟩, x, d⟩ := v
      have hl2 := (t2.block (w4.heap.size + 1) (by omega) (by omega)).trans hl
      have hd2 := (t2.block w4.heap.size (by omega) (by omega)).trans hd
      have b2 := (HB4.out.new hN1).turn t2 (by omega)
      have sz2 := t2.size
      refine yield8 (rec := rec) (by subst hrec; exact hfn) hl2 (by subst hrec; rfl) ?_
      subst hrec
      dsimp only
      unfold Rv.val
      dsimp only
      gi_wp2
      have bR := Blk.mk W2 W2.heap.size 38 #[.int .i64 p, .int .i64 a, .int .i64 l, .int .i64 o, .slice x xs.length d, .int .i64 nx, .int .i64 md, .int .i64 lc] rfl
      have aR := (New.refl W2).alloc (.cells #[.int .i64 p, .int .i64 a, .int .i64 l, .int .i64 o, .slice x xs.length d, .int .i64 nx, .int .i64 md, .int .i64 lc] 38)
      have hl3 := (aR.block _ (by omega) (fun f => f)).trans hl2
      have hd3 := (aR.block _ (by omega) (fun f => f)).trans hd2
      have b3 := b2.new aR
      have hb : (Instr.beginRound (w4.heap.size + 1)).run Tryz.prog (W2.alloc (.cells #[.int .i64 p, .int .i64 a, .int .i64 l, .int .i64 o, .slice x xs.length d, .int .i64 nx, .int .i64 md, .int .i64 lc] 38)) = .ok () ((W2.alloc (.cells #[.int .i64 p, .int .i64 a, .int .i64 l, .int .i64 o, .slice x xs.length d, .int .i64 nx, .int .i64 md, .int .i64 lc] 38)).putObj (w4.heap.size + 1) (.loop rb)) := by rw [hrb]; exact run_beginRound hl3 rfl
      refine ⟨_, hb, ?_⟩
      clear hb
      have szR := aR.size
      have lt2 : w4.heap.size + 1 < W2.heap.size := (Array.getElem?_eq_some_iff.1 hl2).1
      have hl4 : ((W2.alloc (.cells #[.int .i64 p, .int .i64 a, .int .i64 l, .int .i64 o, .slice x xs.length d, .int .i64 nx, .int .i64 md, .int .i64 lc] 38)).putObj (w4.heap.size + 1) (.loop rb)).heap[w4.heap.size + 1]? = some (.loop rb) := World.putObj_heap_same (by omega)
      have hd4 : ((W2.alloc (.cells #[.int .i64 p, .int .i64 a, .int .i64 l, .int .i64 o, .slice x xs.length d, .int .i64 nx, .int .i64 md, .int .i64 lc] 38)).putObj (w4.heap.size + 1) (.loop rb)).heap[w4.heap.size]? = some (.deferred (some [])) := (World.putObj_heap_other (by omega)).trans hd3
      have b4 : Blk ((W2.alloc (.cells #[.int .i64 p, .int .i64 a, .int .i64 l, .int .i64 o, .slice x xs.length d, .int .i64 nx, .int .i64 md, .int .i64 lc] 38)).putObj (w4.heap.size + 1) (.loop rb)) (w.heap.size + 1) 40 #[.int .i64 0, .int .i64 0, .int .i64 0, .int .i64 0, .int .i64 0, .slice none 0 0, .int .i64 0, .int .i64 0, .int .i64 0] := (World.putObj_heap_other (by omega)).trans b3
      have bR4 : Blk ((W2.alloc (.cells #[.int .i64 p, .int .i64 a, .int .i64 l, .int .i64 o, .slice x xs.length d, .int .i64 nx, .int .i64 md, .int .i64 lc] 38)).putObj (w4.heap.size + 1) (.loop rb)) W2.heap.size 38 #[.int .i64 p, .int .i64 a, .int .i64 l, .int .i64 o, .slice x xs.length d, .int .i64 nx, .int .i64 md, .int .i64 lc] := (World.putObj_heap_other (by omega)).trans bR
      have tl := Turn.trans (aR.turn (S := fun k => k = b ∨ k = H ∨ k = w.heap.size + 1 ∨ k = w4.heap.size + 1)) ((turn_of_grown8 (grownBy_putObj' (W2.alloc (.cells #[.int .i64 p, .int .i64 a, .int .i64 l, .int .i64 o, .slice x xs.length d, .int .i64 nx, .int .i64 md, .int .i64 lc] 38)) (w4.heap.size + 1) (.loop rb))).mono (fun k _ e => by have := Option.some.inj e; omega)) (fun _ _ e => e)
      generalize (W2.alloc (.cells #[.int .i64 p, .int .i64 a, .int .i64 l, .int .i64 o, .slice x xs.length d, .int .i64 nx, .int .i64 md, .int .i64 lc] 38)).putObj (w4.heap.size + 1) (.loop rb) = W4 at *
      clear bR aR hl3 hd3 b3
      have cR := bR4.cells
      have c4 := b4.cells
      have f4 := b4.frees
      gi_wp2
      obtain ⟨b6, t6⟩ := nine8 W4 (w.heap.size + 1) 40 (.int .i64 0) (.int .i64 0) (.int .i64 0) (.int .i64 0) (.int .i64 0) (.slice none 0 0) (.int .i64 0) (.int .i64 0) (.int .i64 0) (.int .i64 0) (.int .i64 p) (.int .i64 a) (.int .i64 l) (.int .i64 o) (.slice x xs.length d) (.int .i64 nx) (.int .i64 md) (.int .i64 lc) b4
      have hl6 := (t6.block (w4.heap.size + 1) (Array.getElem?_eq_some_iff.1 hl4).1 (by omega)).trans hl4
      have hd6 := (t6.block w4.heap.size (Array.getElem?_eq_some_iff.1 hd4).1 (by omega)).trans hd4
      generalize (((((((((W4.setCell ⟨w.heap.size + 1, 0, none⟩ (.int .i64 0)).setCell ⟨w.heap.size + 1, 1, none⟩ (.int .i64 p)).setCell ⟨w.heap.size + 1, 2, none⟩ (.int .i64 a)).setCell ⟨w.heap.size + 1, 3, none⟩ (.int .i64 l)).setCell ⟨w.heap.size + 1, 4, none⟩ (.int .i64 o)).setCell ⟨w.heap.size + 1, 5, none⟩ (.slice x xs.length d)).setCell ⟨w.heap.size + 1, 6, none⟩ (.int .i64 nx)).setCell ⟨w.heap.size + 1, 7, none⟩ (.int .i64 md)).setCell ⟨w.heap.size + 1, 8, none⟩ (.int .i64 lc)) = W6 at *
      have he := run_endRound (P := Tryz.prog) (some .ret) hl6
      have hrd2 : ({ rb with state := .done, pending := some .ret } : Loop) = rd := by rw [hrb, hrd]
      have lt6 : w4.heap.size + 1 < W6.heap.size := (Array.getElem?_eq_some_iff.1 hl6).1
      refine ⟨_, _, he, rfl, ?_⟩
      have hrd3 : ({ rb with state := (if (some Code.ret).isNone then .ready else .done), pending := some .ret } : Loop) = rd := hrd2
      rw [hrd3]
      refine ⟨(World.putObj_heap_same lt6).trans (by rw [hrd]), (World.putObj_heap_other (by omega)).trans hd6, (World.putObj_heap_other (by omega)).trans b6, ?_⟩
      exact Turn.trans (Turn.trans (Turn.trans (t2.mono (fun k _ e => by omega)) tl (fun _ _ e => e)) t6 (fun k _ e => by omega)) (turn_of_grown8 (grownBy_putObj' W6 (w4.heap.size + 1) (.loop rd))) (fun k _ e => by have := Option.some.inj e; omega)
    · rintro e W2 ⟨he, hl2, hd2, b2, t2⟩
      refine ⟨he, .done, some .ret, by simp, by rw [← hrd]; exact hl2, hd2, ?_⟩
      rintro W3 rfl
      have b5 : Blk (W2.putObj (w4.heap.size + 1) (.loop { rec with state := .exhausted, pending := some .ret })) (w.heap.size + 1) 40 #[.int .i64 0, .int .i64 v.r.p, .int .i64 v.r.a, .int .i64 v.r.l, .int .i64 v.r.o, .slice v.x v.r.xs.length v.c, .int .i64 v.r.nx, .int .i64 v.r.md, .int .i64 v.r.lc] := (World.putObj_heap_other (by omega)).trans b2
      have d5 : (W2.putObj (w4.heap.size + 1) (.loop { rec with state := .exhausted, pending := some .ret })).heap[w4.heap.size]? = some (.deferred (some [])) := (World.putObj_heap_other (by omega)).trans hd2
      have t5 := turn_of_grown8 (grownBy_putObj' W2 (w4.heap.size + 1) (.loop { rec with state := .exhausted, pending := some .ret }))
      generalize W2.putObj (w4.heap.size + 1) (.loop { rec with state := .exhausted, pending := some .ret }) = W5 at *
      dsimp only
      gi_wp2
      have tp := turn_of_grown8 (grownBy_putObj' W5 w4.heap.size (.deferred none))
      have b7 := b5.turn tp (by intro e; have := Option.some.inj e; omega)
      have cF := b7.cells
      refine ⟨by simp, .inl ⟨_, _, rfl, run_takeDeferred d5, ?_⟩⟩
      refine ⟨.agg #[.int .i64 0, .int .i64 v.r.p, .int .i64 v.r.a, .int .i64 v.r.l, .int .i64 v.r.o, .slice v.x v.r.xs.length v.c, .int .i64 v.r.nx, .int .i64 v.r.md, .int .i64 v.r.lc], by simp [results, Tryz.results9, go_sem, cF], ?_⟩
      have TT : Turn (fun k => k = w.heap.size + 1 ∨ w3.heap.size ≤ k) w3 (W5.putObj w4.heap.size (.deferred none)) := by
        refine Turn.trans (Turn.trans (Turn.trans (Turn.trans H4.out.turn hN1.turn (fun _ _ e => e)) t2 (fun k _ e => ?_)) t5 (fun k _ e => ?_)) tp (fun k _ e => ?_)
        · omega
        · have := Option.some.inj e; omega
        · have := Option.some.inj e; omega
      refine ⟨0, v.r, HBEST.out, v.x, v.c, rfl, (HOWN.out.turn7 TT (fun k hk => by have := HRNG.out k hk; omega)).low (by omega), HBD.out, ?_⟩
      exact Turn.mono (Turn.trans n3.turn TT (fun _ _ e => e)) (fun k h1 h2 => by omega)

end Go.Proofs.YtjampcfikfafkaaGreat

namespace Go.Proofs.YtjampcfikfafkaaGreat
open Go.RowKit Go.Sort
set_option linter.unusedVariables false
set_option linter.unusedSimpArgs false

/-- An operation whose guard says no is left out. -/
theorem hw_skip {P : Program} {ops : Array Oper} {Q : Exit → Act → World → Prop} {md : Region.Mode} {S : World → Prop} {fuel : Nat} {listed : Array Bool} {a : Act} {w : World} (i : Nat) (d : Option Tmp) {oi : Oper} (hi : ops[i]? = some oi) (hd : oi.dst = d)
    (hs : Region.noSelect ops = true) (hf : Region.free md ops listed i = true) (hr : (Region.ready md ops listed).contains i = true)
    (hQ : ∀ c a w, Q (.panic c) (a.put d undef) w → Q (.panic c) a w) (hw : Region.wanted oi (yielded ops a.tmps) = false) (hS : S w)
    (h : wpAnyH P md ops Q S fuel (listed.setIfInBounds i true) (a.put d undef) w) : wpAnyH P md ops Q S (fuel + 1) listed a w := by
  subst hd
  exact wpAnyH_take hi hs hf hr hQ (.inr ⟨hw, rfl⟩) hS h

/-- Worth. -/
def cW (r s : Rt) : Int := cmpW r.p r.o r.md r.lc r.xs.length s.p s.o s.md s.lc s.xs.length

/-- The best among the first ones. -/
def LbK (V : List Rv) (a0 l0 : Int) (k : Nat) (t : Int) : Prop := (t = -1 ∧ ∀ j v, j < k → V[j]? = some v → keepS a0 l0 v.r = false) ∨ ∃ (i : Nat) (v : Rv), t = (i : Int) ∧ V[i]? = some v ∧ keepS a0 l0 v.r = true ∧ ∀ j u, j < k → V[j]? = some u → keepS a0 l0 u.r = true → ¬ cW u.r v.r < 0

theorem LbK.skip {V : List Rv} {a0 l0 : Int} {k : Nat} {t : Int} (h : LbK V a0 l0 k t) {v : Rv} (hv : V[k]? = some v) (hk : keepS a0 l0 v.r = false) : LbK V a0 l0 (k + 1) t := by
  have key : ∀ j u, j < k + 1 → V[j]? = some u → j < k ∨ u = v := fun j u hj hu => by
    rcases Nat.lt_or_ge j k with e | e
    · exact .inl e
    · obtain rfl : j = k := by omega
      rw [hv] at hu
      exact .inr (Option.some.inj hu).symm
  rcases h with ⟨h1, h2⟩ | ⟨i, u, h1, h2, h3, h4⟩
  · exact .inl ⟨h1, fun j u hj hu => by
      rcases key j u hj hu with e | rfl
      · exact h2 j u e hu
      · exact hk⟩
  · exact .inr ⟨i, u, h1, h2, h3, fun j x hj hx hx2 => by
      rcases key j x hj hx with e | rfl
      · exact h4 j x e hx hx2
      · rw [hk] at hx2; cases hx2⟩
theorem LbK.stay {V : List Rv} {a0 l0 : Int} {k i : Nat} {v u : Rv} (h : LbK V a0 l0 k (i : Int)) (hv : V[k]? = some v) (hu : V[i]? = some u) (hc : ¬ cW v.r u.r < 0) : LbK V a0 l0 (k + 1) (i : Int) := by
  rcases h with ⟨h1, -⟩ | ⟨i', u', h1, h2, h3, h4⟩
  · omega
  · obtain rfl : i = i' := by omega
    rw [hu] at h2
    obtain rfl := Option.some.inj h2
    refine .inr ⟨i, u, rfl, hu, h3, fun j x hj hx hx2 => ?_⟩
    rcases Nat.lt_or_ge j k with e | e
    · exact h4 j x e hx hx2
    · obtain rfl : j = k := by omega
      rw [hv] at hx
      obtain rfl := Option.some.inj hx
      exact hc
theorem LbK.first {V : List Rv} {a0 l0 : Int} {k : Nat} {v : Rv} (h : LbK V a0 l0 k (-1)) (hv : V[k]? = some v) (hk : keepS a0 l0 v.r = true) : LbK V a0 l0 (k + 1) (k : Int) := by
  rcases h with ⟨-, h2⟩ | ⟨i', u', h1, -⟩
  · refine .inr ⟨k, v, rfl, hv, hk, fun j x hj hx hx2 => ?_⟩
    rcases Nat.lt_or_ge j k with e | e
    · rw [h2 j x e hx] at hx2; cases hx2
    · obtain rfl : j = k := by omega
      rw [hv] at hx
      obtain rfl := Option.some.inj hx
      exact cmpW_irr _ _ _ _ _
  · omega
theorem cW_tr {r s t : Rt} (h : ¬ cW r s < 0) (k : cW t s < 0) : ¬ cW r t < 0 := by
  unfold cW at h k ⊢
  rw [cmpW_lt] at h k ⊢
  omega
theorem LbK.take {V : List Rv} {a0 l0 : Int} {k i : Nat} {v u : Rv} (h : LbK V a0 l0 k (i : Int)) (hv : V[k]? = some v) (hk : keepS a0 l0 v.r = true) (hu : V[i]? = some u) (hc : cW v.r u.r < 0) : LbK V a0 l0 (k + 1) (k : Int) := by
  rcases h with ⟨h1, -⟩ | ⟨i', u', h1, h2, h3, h4⟩
  · omega
  · obtain rfl : i = i' := by omega
    rw [hu] at h2
    obtain rfl := Option.some.inj h2
    refine .inr ⟨k, v, rfl, hv, hk, fun j x hj hx hx2 => ?_⟩
    rcases Nat.lt_or_ge j k with e | e
    · exact cW_tr (h4 j x e hx hx2) hc
    · obtain rfl : j = k := by omega
      rw [hv] at hx
      obtain rfl := Option.some.inj hx
      exact cmpW_irr _ _ _ _ _

set_option maxRecDepth 100000 in
set_option maxHeartbeats 12800000 in
theorem l7Best_any (a0 l0 : Int) (A : Option Addr) (N cc : Nat) (V : List Rv) (w : World) (h : RtAt w A V) (hn : V.length = N) (hm : N ≤ 1048576) :
    Calls Tryz.prog 105 #[.slice A N cc, .agg #[.int .i64 a0, .int .i64 l0]] w fun e w' => ∃ t, e = .returned (.int .i64 t) ∧ LbK V a0 l0 N t ∧ New w w' := by
  have HN : Hid (V.length = N) := hn
  have HA : Hid (∀ X, New w X → RtAt X A V) := fun X hX => h.new hX
  have N0 : New w (w.alloc (.cells #[.int .i64 a0, .int .i64 l0] 33)) := (New.refl w).alloc _
  have bP := Blk.mk w w.heap.size 33 #[.int .i64 a0, .int .i64 l0] rfl
  have HP : Hid (∀ X, New (w.alloc (.cells #[.int .i64 a0, .int .i64 l0] 33)) X → Blk X w.heap.size 33 #[.int .i64 a0, .int .i64 l0]) := fun X hX => bP.new hX
  clear h hn bP
  go_enter Tryz.func105, Tryz.ntmps105
  go_upto_region 2 with fail
  generalize w.alloc (.cells #[.int .i64 a0, .int .i64 l0] 33) = w0 at *
  go_wp2_with fail
  go_loopw [5, 6] (fun t i wr => ∃ (k : Nat) (tt : Int), k ≤ N ∧ i = .int .i64 k ∧ t = .int .i64 tt ∧ LbK V a0 l0 k tt ∧ New w0 wr) (fun _ i _ => N - (intOf i).toNat)
  case atStart => exact ⟨0, -1, Nat.zero_le _, rfl, rfl, .inl ⟨rfl, fun j v hj => by omega⟩, New.refl _⟩
  case round =>
    obtain ⟨k, tt, hk, rfl, rfl, hL, hnw⟩ := hrel
    have HL : Hid (LbK V a0 l0 k tt) := hL
    have N1 := N0.trans hnw
    have bP := HP.out _ hnw
    have cP0 : wr.cell? ⟨w.heap.size, 0, none⟩ = some (.int .i64 a0) := bP.cells 0
    have cP1 : wr.cell? ⟨w.heap.size, 1, none⟩ = some (.int .i64 l0) := bP.cells 1
    clear hL
    by_cases hlt : k < N
    case neg =>
      obtain rfl : k = N := by omega
      clear cP0 cP1 bP
      go_wp2
      go_ret
      exact ⟨tt, rfl, HL.out, N1⟩
    case pos =>
      obtain ⟨b, off, p, a, l, o, nx, md, lc, x, m, d, xs, rfl, hv, hlen, hns, hnl, hmx, q0, q1, q2, q3, q4, q5, q6, q7⟩ := (HA.out _ N1).at k (by have := HN.out; omega)
      have HV : Hid (V[k]? = some ⟨⟨p, a, l, o, xs, nx, md, lc⟩, x, d⟩) := hv
      have HLN : Hid (xs.length = m) := hlen
      clear hv hlen hns hnl
      have d1 := (New.refl wr).drew
      have e0 : ∀ j v, wr.cell? ⟨b, j, none⟩ = some v → wr.drew.cell? ⟨b, j, none⟩ = some v := fun j v hc => (d1.below.cell (World.block_lt_of_cell? _ _ hc)).trans hc
      have f0 : ∀ j v, wr.cell? ⟨w.heap.size, j, none⟩ = some v → wr.drew.cell? ⟨w.heap.size, j, none⟩ = some v := fun j v hc => (d1.below.cell (World.block_lt_of_cell? _ _ hc)).trans hc
      have hk0 : (0 : Int) ≤ (k : Int) := by omega
      have hk1 : (k : Int) < (N : Int) := by omega
      by_cases hka : a = a0
      case neg =>
        have HK : Hid (keepS a0 l0 ⟨p, a, l, o, xs, nx, md, lc⟩ = false) := by unfold Hid keepS; simp; omega
        go_upto_region 5 with fail
        refine hw_start (n := 22) (S := fun X => New wr X) rfl (by kernel_rfl) ((New.refl wr).drew) (fun hH => ?_)
        refine' hw_take 0 (some 13) _ rfl rfl (by kernel_rfl) (by kernel_rfl) (by kernel_rfl) (fun _ _ _ h => h) (by rfl) hH ?hy1 ?rest1
        case hy1 =>
          intro X hX
          go_simp
          try rfl
        simp only [Act.put, List.setIfInBounds_toArray, List.set_cons_zero, List.set_cons_succ]
        refine' hw_take 1 (some 14) _ rfl rfl (by kernel_rfl) (by kernel_rfl) (by kernel_rfl) (fun _ _ _ h => h) (by rfl) hH ?hy2 ?rest2
        case hy2 =>
          intro X hX
          go_simp
          try rfl
        simp only [Act.put, List.setIfInBounds_toArray, List.set_cons_zero, List.set_cons_succ]
        refine' hw_take 2 (some 15) _ rfl rfl (by kernel_rfl) (by kernel_rfl) (by kernel_rfl) (fun _ _ _ h => h) (by rfl) hH ?hy3 ?rest3
        case hy3 =>
          intro X hX
          go_simp
          try rfl
        simp only [Act.put, List.setIfInBounds_toArray, List.set_cons_zero, List.set_cons_succ]
        refine' hw_take 3 (some 16) _ rfl rfl (by kernel_rfl) (by kernel_rfl) (by kernel_rfl) (fun _ _ _ h => h) (by rfl) hH ?hy4 ?rest4
        case hy4 =>
          intro X hX
          go_simp
          try rfl
        simp only [Act.put, List.setIfInBounds_toArray, List.set_cons_zero, List.set_cons_succ]
        refine' hw_take 4 (some 17) _ rfl rfl (by kernel_rfl) (by kernel_rfl) (by kernel_rfl) (fun _ _ _ h => h) (by rfl) hH ?hy5 ?rest5
        case hy5 =>
          intro X hX
          have q1X := (hX.below.cell (World.block_lt_of_cell? _ _ q1)).trans q1
          have q2X := (hX.below.cell (World.block_lt_of_cell? _ _ q2)).trans q2
          go_simp
          try rfl
        simp only [Act.put, List.setIfInBounds_toArray, List.set_cons_zero, List.set_cons_succ]
        refine' hw_take 5 (some 18) _ rfl rfl (by kernel_rfl) (by kernel_rfl) (by kernel_rfl) (fun _ _ _ h => h) (by rfl) hH ?hy6 ?rest6
        case hy6 =>
          intro X hX
          have cP0X := (hX.below.cell (World.block_lt_of_cell? _ _ cP0)).trans cP0
          have cP1X := (hX.below.cell (World.block_lt_of_cell? _ _ cP1)).trans cP1
          go_simp
          try rfl
        simp only [Act.put, List.setIfInBounds_toArray, List.set_cons_zero, List.set_cons_succ]
        refine' hw_take 6 (some 19) _ rfl rfl (by kernel_rfl) (by kernel_rfl) (by kernel_rfl) (fun _ _ _ h => h) (by rfl) hH ?hy7 ?rest7
        case hy7 =>
          intro X hX
          go_simp
          try rfl
        simp only [Act.put, List.setIfInBounds_toArray, List.set_cons_zero, List.set_cons_succ]
        refine' hw_take 7 (some 20) _ rfl rfl (by kernel_rfl) (by kernel_rfl) (by kernel_rfl) (fun _ _ _ h => h) (by rfl) hH ?hy8 ?rest8
        case hy8 =>
          intro X hX
          go_simp
          try rfl
        simp only [Act.put, List.setIfInBounds_toArray, List.set_cons_zero, List.set_cons_succ]
        refine hw_skip 8 (some 21) rfl rfl (by kernel_rfl) (by kernel_rfl) (by kernel_rfl) (fun _ _ _ h => h) (by rfl) hH ?_
        simp only [Act.put, List.setIfInBounds_toArray, List.set_cons_zero, List.set_cons_succ]
        refine hw_skip 9 (some 22) rfl rfl (by kernel_rfl) (by kernel_rfl) (by kernel_rfl) (fun _ _ _ h => h) (by rfl) hH ?_
        simp only [Act.put, List.setIfInBounds_toArray, List.set_cons_zero, List.set_cons_succ]
        refine hw_skip 10 (some 23) rfl rfl (by kernel_rfl) (by kernel_rfl) (by kernel_rfl) (fun _ _ _ h => h) (by rfl) hH ?_
        simp only [Act.put, List.setIfInBounds_toArray, List.set_cons_zero, List.set_cons_succ]
        refine hw_skip 11 (some 24) rfl rfl (by kernel_rfl) (by kernel_rfl) (by kernel_rfl) (fun _ _ _ h => h) (by rfl) hH ?_
        simp only [Act.put, List.setIfInBounds_toArray, List.set_cons_zero, List.set_cons_succ]
        refine hw_skip 12 (some 25) rfl rfl (by kernel_rfl) (by kernel_rfl) (by kernel_rfl) (fun _ _ _ h => h) (by rfl) hH ?_
        simp only [Act.put, List.setIfInBounds_toArray, List.set_cons_zero, List.set_cons_succ]
        refine hw_skip 13 (some 26) rfl rfl (by kernel_rfl) (by kernel_rfl) (by kernel_rfl) (fun _ _ _ h => h) (by rfl) hH ?_
        simp only [Act.put, List.setIfInBounds_toArray, List.set_cons_zero, List.set_cons_succ]
        refine hw_skip 14 (some 27) rfl rfl (by kernel_rfl) (by kernel_rfl) (by kernel_rfl) (fun _ _ _ h => h) (by rfl) hH ?_
        simp only [Act.put, List.setIfInBounds_toArray, List.set_cons_zero, List.set_cons_succ]
        refine hw_skip 15 (some 28) rfl rfl (by kernel_rfl) (by kernel_rfl) (by kernel_rfl) (fun _ _ _ h => h) (by rfl) hH ?_
        simp only [Act.put, List.setIfInBounds_toArray, List.set_cons_zero, List.set_cons_succ]
        refine hw_skip 16 (some 29) rfl rfl (by kernel_rfl) (by kernel_rfl) (by kernel_rfl) (fun _ _ _ h => h) (by rfl) hH ?_
        simp only [Act.put, List.setIfInBounds_toArray, List.set_cons_zero, List.set_cons_succ]
        refine hw_skip 17 (some 30) rfl rfl (by kernel_rfl) (by kernel_rfl) (by kernel_rfl) (fun _ _ _ h => h) (by rfl) hH ?_
        simp only [Act.put, List.setIfInBounds_toArray, List.set_cons_zero, List.set_cons_succ]
        refine hw_skip 18 (some 31) rfl rfl (by kernel_rfl) (by kernel_rfl) (by kernel_rfl) (fun _ _ _ h => h) (by rfl) hH ?_
        simp only [Act.put, List.setIfInBounds_toArray, List.set_cons_zero, List.set_cons_succ]
        refine hw_skip 19 (some 32) rfl rfl (by kernel_rfl) (by kernel_rfl) (by kernel_rfl) (fun _ _ _ h => h) (by rfl) hH ?_
        simp only [Act.put, List.setIfInBounds_toArray, List.set_cons_zero, List.set_cons_succ]
        refine hw_skip 20 (some 33) rfl rfl (by kernel_rfl) (by kernel_rfl) (by kernel_rfl) (fun _ _ _ h => h) (by rfl) hH ?_
        simp only [Act.put, List.setIfInBounds_toArray, List.set_cons_zero, List.set_cons_succ]
        refine' hw_take 21 (some 34) _ rfl rfl (by kernel_rfl) (by kernel_rfl) (by kernel_rfl) (fun _ _ _ h => h) (by rfl) hH ?hy9 ?rest9
        case hy9 =>
          intro X hX
          go_simp
          try rfl
        simp only [Act.put, List.setIfInBounds_toArray, List.set_cons_zero, List.set_cons_succ]
        refine wpAnyH_done (by kernel_rfl) ?_ _
        go_wp2
        go_roundw
        case rel => exact ⟨k + 1, tt, by omega, by go_num, rfl, HL.out.skip HV.out HK.out, hnw.trans d1⟩
        case measure => simp [intOf]; omega
      case pos =>
        by_cases hkl : l = l0
        case neg =>
          have HK : Hid (keepS a0 l0 ⟨p, a, l, o, xs, nx, md, lc⟩ = false) := by unfold Hid keepS; simp; omega
          subst hka
          go_upto_region 5 with fail
          refine hw_start (n := 22) (S := fun X => New wr X) rfl (by kernel_rfl) ((New.refl wr).drew) (fun hH => ?_)
          refine' hw_take 0 (some 13) _ rfl rfl (by kernel_rfl) (by kernel_rfl) (by kernel_rfl) (fun _ _ _ h => h) (by rfl) hH ?hy10 ?rest10
          case hy10 =>
            intro X hX
            go_simp
            try rfl
          simp only [Act.put, List.setIfInBounds_toArray, List.set_cons_zero, List.set_cons_succ]
          refine' hw_take 1 (some 14) _ rfl rfl (by kernel_rfl) (by kernel_rfl) (by kernel_rfl) (fun _ _ _ h => h) (by rfl) hH ?hy11 ?rest11
          case hy11 =>
            intro X hX
            go_simp
            try rfl
          simp only [Act.put, List.setIfInBounds_toArray, List.set_cons_zero, List.set_cons_succ]
          refine' hw_take 2 (some 15) _ rfl rfl (by kernel_rfl) (by kernel_rfl) (by kernel_rfl) (fun _ _ _ h => h) (by rfl) hH ?hy12 ?rest12
          case hy12 =>
            intro X hX
            go_simp
            try rfl
          simp only [Act.put, List.setIfInBounds_toArray, List.set_cons_zero, List.set_cons_succ]
          refine' hw_take 3 (some 16) _ rfl rfl (by kernel_rfl) (by kernel_rfl) (by kernel_rfl) (fun _ _ _ h => h) (by rfl) hH ?hy13 ?rest13
          case hy13 =>
            intro X hX
            go_simp
            try rfl
          simp only [Act.put, List.setIfInBounds_toArray, List.set_cons_zero, List.set_cons_succ]
          refine' hw_take 4 (some 17) _ rfl rfl (by kernel_rfl) (by kernel_rfl) (by kernel_rfl) (fun _ _ _ h => h) (by rfl) hH ?hy14 ?rest14
          case hy14 =>
            intro X hX
            have q1X := (hX.below.cell (World.block_lt_of_cell? _ _ q1)).trans q1
            have q2X := (hX.below.cell (World.block_lt_of_cell? _ _ q2)).trans q2
            go_simp
            try rfl
          simp only [Act.put, List.setIfInBounds_toArray, List.set_cons_zero, List.set_cons_succ]
          refine' hw_take 5 (some 18) _ rfl rfl (by kernel_rfl) (by kernel_rfl) (by kernel_rfl) (fun _ _ _ h => h) (by rfl) hH ?hy15 ?rest15
          case hy15 =>
            intro X hX
            have cP0X := (hX.below.cell (World.block_lt_of_cell? _ _ cP0)).trans cP0
            have cP1X := (hX.below.cell (World.block_lt_of_cell? _ _ cP1)).trans cP1
            go_simp
            try rfl
          simp only [Act.put, List.setIfInBounds_toArray, List.set_cons_zero, List.set_cons_succ]
          refine' hw_take 6 (some 19) _ rfl rfl (by kernel_rfl) (by kernel_rfl) (by kernel_rfl) (fun _ _ _ h => h) (by rfl) hH ?hy16 ?rest16
          case hy16 =>
            intro X hX
            go_simp
            try rfl
          simp only [Act.put, List.setIfInBounds_toArray, List.set_cons_zero, List.set_cons_succ]
          refine' hw_take 7 (some 20) _ rfl rfl (by kernel_rfl) (by kernel_rfl) (by kernel_rfl) (fun _ _ _ h => h) (by rfl) hH ?hy17 ?rest17
          case hy17 =>
            intro X hX
            go_simp
            try rfl
          simp only [Act.put, List.setIfInBounds_toArray, List.set_cons_zero, List.set_cons_succ]
          refine hw_skip 8 (some 21) rfl rfl (by kernel_rfl) (by kernel_rfl) (by kernel_rfl) (fun _ _ _ h => h) (by rfl) hH ?_
          simp only [Act.put, List.setIfInBounds_toArray, List.set_cons_zero, List.set_cons_succ]
          refine hw_skip 9 (some 22) rfl rfl (by kernel_rfl) (by kernel_rfl) (by kernel_rfl) (fun _ _ _ h => h) (by rfl) hH ?_
          simp only [Act.put, List.setIfInBounds_toArray, List.set_cons_zero, List.set_cons_succ]
          refine hw_skip 10 (some 23) rfl rfl (by kernel_rfl) (by kernel_rfl) (by kernel_rfl) (fun _ _ _ h => h) (by rfl) hH ?_
          simp only [Act.put, List.setIfInBounds_toArray, List.set_cons_zero, List.set_cons_succ]
          refine hw_skip 11 (some 24) rfl rfl (by kernel_rfl) (by kernel_rfl) (by kernel_rfl) (fun _ _ _ h => h) (by rfl) hH ?_
          simp only [Act.put, List.setIfInBounds_toArray, List.set_cons_zero, List.set_cons_succ]
          refine hw_skip 12 (some 25) rfl rfl (by kernel_rfl) (by kernel_rfl) (by kernel_rfl) (fun _ _ _ h => h) (by rfl) hH ?_
          simp only [Act.put, List.setIfInBounds_toArray, List.set_cons_zero, List.set_cons_succ]
          refine hw_skip 13 (some 26) rfl rfl (by kernel_rfl) (by kernel_rfl) (by kernel_rfl) (fun _ _ _ h => h) (by rfl) hH ?_
          simp only [Act.put, List.setIfInBounds_toArray, List.set_cons_zero, List.set_cons_succ]
          refine hw_skip 14 (some 27) rfl rfl (by kernel_rfl) (by kernel_rfl) (by kernel_rfl) (fun _ _ _ h => h) (by rfl) hH ?_
          simp only [Act.put, List.setIfInBounds_toArray, List.set_cons_zero, List.set_cons_succ]
          refine hw_skip 15 (some 28) rfl rfl (by kernel_rfl) (by kernel_rfl) (by kernel_rfl) (fun _ _ _ h => h) (by rfl) hH ?_
          simp only [Act.put, List.setIfInBounds_toArray, List.set_cons_zero, List.set_cons_succ]
          refine hw_skip 16 (some 29) rfl rfl (by kernel_rfl) (by kernel_rfl) (by kernel_rfl) (fun _ _ _ h => h) (by rfl) hH ?_
          simp only [Act.put, List.setIfInBounds_toArray, List.set_cons_zero, List.set_cons_succ]
          refine hw_skip 17 (some 30) rfl rfl (by kernel_rfl) (by kernel_rfl) (by kernel_rfl) (fun _ _ _ h => h) (by rfl) hH ?_
          simp only [Act.put, List.setIfInBounds_toArray, List.set_cons_zero, List.set_cons_succ]
          refine hw_skip 18 (some 31) rfl rfl (by kernel_rfl) (by kernel_rfl) (by kernel_rfl) (fun _ _ _ h => h) (by rfl) hH ?_
          simp only [Act.put, List.setIfInBounds_toArray, List.set_cons_zero, List.set_cons_succ]
          refine hw_skip 19 (some 32) rfl rfl (by kernel_rfl) (by kernel_rfl) (by kernel_rfl) (fun _ _ _ h => h) (by rfl) hH ?_
          simp only [Act.put, List.setIfInBounds_toArray, List.set_cons_zero, List.set_cons_succ]
          refine hw_skip 20 (some 33) rfl rfl (by kernel_rfl) (by kernel_rfl) (by kernel_rfl) (fun _ _ _ h => h) (by rfl) hH ?_
          simp only [Act.put, List.setIfInBounds_toArray, List.set_cons_zero, List.set_cons_succ]
          refine' hw_take 21 (some 34) _ rfl rfl (by kernel_rfl) (by kernel_rfl) (by kernel_rfl) (fun _ _ _ h => h) (by rfl) hH ?hy18 ?rest18
          case hy18 =>
            intro X hX
            go_simp
            try rfl
          simp only [Act.put, List.setIfInBounds_toArray, List.set_cons_zero, List.set_cons_succ]
          refine wpAnyH_done (by kernel_rfl) ?_ _
          go_wp2
          go_roundw
          case rel => exact ⟨k + 1, tt, by omega, by go_num, rfl, HL.out.skip HV.out HK.out, hnw.trans d1⟩
          case measure => simp [intOf]; omega
        case pos =>
          have HK : Hid (keepS a0 l0 ⟨p, a, l, o, xs, nx, md, lc⟩ = true) := by unfold Hid keepS; simp [hka, hkl]
          subst hka
          subst hkl
          by_cases ht : tt < 0
          case pos =>
            have HT : Hid (tt = -1) := by
              rcases HL.out with ⟨e, -⟩ | ⟨i, v, e, -⟩
              · exact e
              · omega
            go_upto_region 5 with fail
            refine hw_start (n := 22) (S := fun X => New wr X) rfl (by kernel_rfl) ((New.refl wr).drew) (fun hH => ?_)
            refine' hw_take 0 (some 13) _ rfl rfl (by kernel_rfl) (by kernel_rfl) (by kernel_rfl) (fun _ _ _ h => h) (by rfl) hH ?hy19 ?rest19
            case hy19 =>
              intro X hX
              go_simp
              try rfl
            simp only [Act.put, List.setIfInBounds_toArray, List.set_cons_zero, List.set_cons_succ]
            refine' hw_take 1 (some 14) _ rfl rfl (by kernel_rfl) (by kernel_rfl) (by kernel_rfl) (fun _ _ _ h => h) (by rfl) hH ?hy20 ?rest20
            case hy20 =>
              intro X hX
              go_simp
              try rfl
            simp only [Act.put, List.setIfInBounds_toArray, List.set_cons_zero, List.set_cons_succ]
            refine' hw_take 2 (some 15) _ rfl rfl (by kernel_rfl) (by kernel_rfl) (by kernel_rfl) (fun _ _ _ h => h) (by rfl) hH ?hy21 ?rest21
            case hy21 =>
              intro X hX
              go_simp
              try rfl
            simp only [Act.put, List.setIfInBounds_toArray, List.set_cons_zero, List.set_cons_succ]
            refine' hw_take 3 (some 16) _ rfl rfl (by kernel_rfl) (by kernel_rfl) (by kernel_rfl) (fun _ _ _ h => h) (by rfl) hH ?hy22 ?rest22
            case hy22 =>
              intro X hX
              go_simp
              try rfl
            simp only [Act.put, List.setIfInBounds_toArray, List.set_cons_zero, List.set_cons_succ]
            refine' hw_take 4 (some 17) _ rfl rfl (by kernel_rfl) (by kernel_rfl) (by kernel_rfl) (fun _ _ _ h => h) (by rfl) hH ?hy23 ?rest23
            case hy23 =>
              intro X hX
              have q1X := (hX.below.cell (World.block_lt_of_cell? _ _ q1)).trans q1
              have q2X := (hX.below.cell (World.block_lt_of_cell? _ _ q2)).trans q2
              go_simp
              try rfl
            simp only [Act.put, List.setIfInBounds_toArray, List.set_cons_zero, List.set_cons_succ]
            refine' hw_take 5 (some 18) _ rfl rfl (by kernel_rfl) (by kernel_rfl) (by kernel_rfl) (fun _ _ _ h => h) (by rfl) hH ?hy24 ?rest24
            case hy24 =>
              intro X hX
              have cP0X := (hX.below.cell (World.block_lt_of_cell? _ _ cP0)).trans cP0
              have cP1X := (hX.below.cell (World.block_lt_of_cell? _ _ cP1)).trans cP1
              go_simp
              try rfl
            simp only [Act.put, List.setIfInBounds_toArray, List.set_cons_zero, List.set_cons_succ]
            refine' hw_take 6 (some 19) _ rfl rfl (by kernel_rfl) (by kernel_rfl) (by kernel_rfl) (fun _ _ _ h => h) (by rfl) hH ?hy25 ?rest25
            case hy25 =>
              intro X hX
              go_simp
              try rfl
            simp only [Act.put, List.setIfInBounds_toArray, List.set_cons_zero, List.set_cons_succ]
            refine' hw_take 7 (some 20) _ rfl rfl (by kernel_rfl) (by kernel_rfl) (by kernel_rfl) (fun _ _ _ h => h) (by rfl) hH ?hy26 ?rest26
            case hy26 =>
              intro X hX
              go_simp
              try rfl
            simp only [Act.put, List.setIfInBounds_toArray, List.set_cons_zero, List.set_cons_succ]
            refine' hw_take 8 (some 21) _ rfl rfl (by kernel_rfl) (by kernel_rfl) (by kernel_rfl) (fun _ _ _ h => h) (by rfl) hH ?hy27 ?rest27
            case hy27 =>
              intro X hX
              go_simp
              try rfl
            simp only [Act.put, List.setIfInBounds_toArray, List.set_cons_zero, List.set_cons_succ]
            refine' hw_take 9 (some 22) _ rfl rfl (by kernel_rfl) (by kernel_rfl) (by kernel_rfl) (fun _ _ _ h => h) (by rfl) hH ?hy28 ?rest28
            case hy28 =>
              intro X hX
              go_simp
              try rfl
            simp only [Act.put, List.setIfInBounds_toArray, List.set_cons_zero, List.set_cons_succ]
            refine' hw_take 10 (some 23) _ rfl rfl (by kernel_rfl) (by kernel_rfl) (by kernel_rfl) (fun _ _ _ h => h) (by rfl) hH ?hy29 ?rest29
            case hy29 =>
              intro X hX
              go_simp
              try rfl
            simp only [Act.put, List.setIfInBounds_toArray, List.set_cons_zero, List.set_cons_succ]
            refine hw_skip 11 (some 24) rfl rfl (by kernel_rfl) (by kernel_rfl) (by kernel_rfl) (fun _ _ _ h => h) (by rfl) hH ?_
            simp only [Act.put, List.setIfInBounds_toArray, List.set_cons_zero, List.set_cons_succ]
            refine hw_skip 12 (some 25) rfl rfl (by kernel_rfl) (by kernel_rfl) (by kernel_rfl) (fun _ _ _ h => h) (by rfl) hH ?_
            simp only [Act.put, List.setIfInBounds_toArray, List.set_cons_zero, List.set_cons_succ]
            refine hw_skip 13 (some 26) rfl rfl (by kernel_rfl) (by kernel_rfl) (by kernel_rfl) (fun _ _ _ h => h) (by rfl) hH ?_
            simp only [Act.put, List.setIfInBounds_toArray, List.set_cons_zero, List.set_cons_succ]
            refine hw_skip 14 (some 27) rfl rfl (by kernel_rfl) (by kernel_rfl) (by kernel_rfl) (fun _ _ _ h => h) (by rfl) hH ?_
            simp only [Act.put, List.setIfInBounds_toArray, List.set_cons_zero, List.set_cons_succ]
            refine hw_skip 15 (some 28) rfl rfl (by kernel_rfl) (by kernel_rfl) (by kernel_rfl) (fun _ _ _ h => h) (by rfl) hH ?_
            simp only [Act.put, List.setIfInBounds_toArray, List.set_cons_zero, List.set_cons_succ]
            refine hw_skip 16 (some 29) rfl rfl (by kernel_rfl) (by kernel_rfl) (by kernel_rfl) (fun _ _ _ h => h) (by rfl) hH ?_
            simp only [Act.put, List.setIfInBounds_toArray, List.set_cons_zero, List.set_cons_succ]
            refine hw_skip 17 (some 30) rfl rfl (by kernel_rfl) (by kernel_rfl) (by kernel_rfl) (fun _ _ _ h => h) (by rfl) hH ?_
            simp only [Act.put, List.setIfInBounds_toArray, List.set_cons_zero, List.set_cons_succ]
            refine hw_skip 18 (some 31) rfl rfl (by kernel_rfl) (by kernel_rfl) (by kernel_rfl) (fun _ _ _ h => h) (by rfl) hH ?_
            simp only [Act.put, List.setIfInBounds_toArray, List.set_cons_zero, List.set_cons_succ]
            refine hw_skip 19 (some 32) rfl rfl (by kernel_rfl) (by kernel_rfl) (by kernel_rfl) (fun _ _ _ h => h) (by rfl) hH ?_
            simp only [Act.put, List.setIfInBounds_toArray, List.set_cons_zero, List.set_cons_succ]
            refine' hw_take 20 (some 33) _ rfl rfl (by kernel_rfl) (by kernel_rfl) (by kernel_rfl) (fun _ _ _ h => h) (by rfl) hH ?hy30 ?rest30
            case hy30 =>
              intro X hX
              go_simp
              try rfl
            simp only [Act.put, List.setIfInBounds_toArray, List.set_cons_zero, List.set_cons_succ]
            refine' hw_take 21 (some 34) _ rfl rfl (by kernel_rfl) (by kernel_rfl) (by kernel_rfl) (fun _ _ _ h => h) (by rfl) hH ?hy31 ?rest31
            case hy31 =>
              intro X hX
              go_simp
              try rfl
            simp only [Act.put, List.setIfInBounds_toArray, List.set_cons_zero, List.set_cons_succ]
            refine wpAnyH_done (by kernel_rfl) ?_ _
            have HL2 : Hid (LbK V a l k (-1)) := by have h := HL.out; rw [HT.out] at h; exact h
            go_wp2
            go_roundw
            case rel => exact ⟨k + 1, (k : Int), by omega, by go_num, rfl, HL2.out.first HV.out HK.out, hnw.trans d1⟩
            case measure => simp [intOf]; omega
          case neg =>
            obtain ⟨j, u, rfl, hu⟩ : ∃ (j : Nat) (u : Rv), tt = (j : Int) ∧ V[j]? = some u := by
              rcases HL.out with ⟨e, -⟩ | ⟨i, v, e, e2, -⟩
              · omega
              · exact ⟨i, v, e, e2⟩
            have hjl := (List.getElem?_eq_some_iff.1 hu).1
            have hjN : j < N := by have := HN.out; omega
            obtain ⟨b', off', p', a', l', o', nx', md', lc', x', m', d', xs', hA', hv', hlen', -, -, hmx', y0, y1, y2, y3, y4, y5, y6, y7⟩ := (HA.out _ N1).at j hjl
            simp only [Option.some.injEq, Addr.mk.injEq, and_true] at hA'
            obtain ⟨rfl, rfl⟩ := hA'
            rw [hu] at hv'
            obtain rfl := Option.some.inj hv'
            have HU : Hid (V[j]? = some ⟨⟨p', a', l', o', xs', nx', md', lc'⟩, x', d'⟩) := hu
            have HLN' : Hid (xs'.length = m') := hlen'
            have hj0 : (0 : Int) ≤ (j : Int) := by omega
            have hj1 : (j : Int) < (N : Int) := by omega
            clear hu hv' hlen'
            obtain ⟨z, hz⟩ : ∃ z, Hid (decide (cmpW p o md lc m p' o' md' lc' m' < 0) = z) := ⟨_, rfl⟩
            go_upto_region 5 with fail
            refine hw_start (n := 22) (S := fun X => New wr X) rfl (by kernel_rfl) ((New.refl wr).drew) (fun hH => ?_)
            refine' hw_take 0 (some 13) _ rfl rfl (by kernel_rfl) (by kernel_rfl) (by kernel_rfl) (fun _ _ _ h => h) (by rfl) hH ?hy32 ?rest32
            case hy32 =>
              intro X hX
              go_simp
              try rfl
            simp only [Act.put, List.setIfInBounds_toArray, List.set_cons_zero, List.set_cons_succ]
            refine' hw_take 1 (some 14) _ rfl rfl (by kernel_rfl) (by kernel_rfl) (by kernel_rfl) (fun _ _ _ h => h) (by rfl) hH ?hy33 ?rest33
            case hy33 =>
              intro X hX
              go_simp
              try rfl
            simp only [Act.put, List.setIfInBounds_toArray, List.set_cons_zero, List.set_cons_succ]
            refine' hw_take 2 (some 15) _ rfl rfl (by kernel_rfl) (by kernel_rfl) (by kernel_rfl) (fun _ _ _ h => h) (by rfl) hH ?hy34 ?rest34
            case hy34 =>
              intro X hX
              go_simp
              try rfl
            simp only [Act.put, List.setIfInBounds_toArray, List.set_cons_zero, List.set_cons_succ]
            refine' hw_take 3 (some 16) _ rfl rfl (by kernel_rfl) (by kernel_rfl) (by kernel_rfl) (fun _ _ _ h => h) (by rfl) hH ?hy35 ?rest35
            case hy35 =>
              intro X hX
              go_simp
              try rfl
            simp only [Act.put, List.setIfInBounds_toArray, List.set_cons_zero, List.set_cons_succ]
            refine' hw_take 4 (some 17) _ rfl rfl (by kernel_rfl) (by kernel_rfl) (by kernel_rfl) (fun _ _ _ h => h) (by rfl) hH ?hy36 ?rest36
            case hy36 =>
              intro X hX
              have q1X := (hX.below.cell (World.block_lt_of_cell? _ _ q1)).trans q1
              have q2X := (hX.below.cell (World.block_lt_of_cell? _ _ q2)).trans q2
              go_simp
              try rfl
            simp only [Act.put, List.setIfInBounds_toArray, List.set_cons_zero, List.set_cons_succ]
            refine' hw_take 5 (some 18) _ rfl rfl (by kernel_rfl) (by kernel_rfl) (by kernel_rfl) (fun _ _ _ h => h) (by rfl) hH ?hy37 ?rest37
            case hy37 =>
              intro X hX
              have cP0X := (hX.below.cell (World.block_lt_of_cell? _ _ cP0)).trans cP0
              have cP1X := (hX.below.cell (World.block_lt_of_cell? _ _ cP1)).trans cP1
              go_simp
              try rfl
            simp only [Act.put, List.setIfInBounds_toArray, List.set_cons_zero, List.set_cons_succ]
            refine' hw_take 6 (some 19) _ rfl rfl (by kernel_rfl) (by kernel_rfl) (by kernel_rfl) (fun _ _ _ h => h) (by rfl) hH ?hy38 ?rest38
            case hy38 =>
              intro X hX
              go_simp
              try rfl
            simp only [Act.put, List.setIfInBounds_toArray, List.set_cons_zero, List.set_cons_succ]
            refine' hw_take 7 (some 20) _ rfl rfl (by kernel_rfl) (by kernel_rfl) (by kernel_rfl) (fun _ _ _ h => h) (by rfl) hH ?hy39 ?rest39
            case hy39 =>
              intro X hX
              go_simp
              try rfl
            simp only [Act.put, List.setIfInBounds_toArray, List.set_cons_zero, List.set_cons_succ]
            refine' hw_take 8 (some 21) _ rfl rfl (by kernel_rfl) (by kernel_rfl) (by kernel_rfl) (fun _ _ _ h => h) (by rfl) hH ?hy40 ?rest40
            case hy40 =>
              intro X hX
              go_simp
              try rfl
            simp only [Act.put, List.setIfInBounds_toArray, List.set_cons_zero, List.set_cons_succ]
            refine' hw_take 9 (some 22) _ rfl rfl (by kernel_rfl) (by kernel_rfl) (by kernel_rfl) (fun _ _ _ h => h) (by rfl) hH ?hy41 ?rest41
            case hy41 =>
              intro X hX
              go_simp
              try rfl
            simp only [Act.put, List.setIfInBounds_toArray, List.set_cons_zero, List.set_cons_succ]
            refine' hw_take 10 (some 23) _ rfl rfl (by kernel_rfl) (by kernel_rfl) (by kernel_rfl) (fun _ _ _ h => h) (by rfl) hH ?hy42 ?rest42
            case hy42 =>
              intro X hX
              go_simp
              try rfl
            simp only [Act.put, List.setIfInBounds_toArray, List.set_cons_zero, List.set_cons_succ]
            refine' hw_take 11 (some 24) _ rfl rfl (by kernel_rfl) (by kernel_rfl) (by kernel_rfl) (fun _ _ _ h => h) (by rfl) hH ?hy43 ?rest43
            case hy43 =>
              intro X hX
              go_simp
              try rfl
            simp only [Act.put, List.setIfInBounds_toArray, List.set_cons_zero, List.set_cons_succ]
            refine' hw_take 12 (some 25) _ rfl rfl (by kernel_rfl) (by kernel_rfl) (by kernel_rfl) (fun _ _ _ h => h) (by rfl) hH ?hy44 ?rest44
            case hy44 =>
              intro X hX
              go_simp
              try rfl
            simp only [Act.put, List.setIfInBounds_toArray, List.set_cons_zero, List.set_cons_succ]
            refine' hw_take 13 (some 26) _ rfl rfl (by kernel_rfl) (by kernel_rfl) (by kernel_rfl) (fun _ _ _ h => h) (by rfl) hH ?hy45 ?rest45
            case hy45 =>
              intro X hX
              go_simp
              try rfl
            simp only [Act.put, List.setIfInBounds_toArray, List.set_cons_zero, List.set_cons_succ]
            refine' hw_take 14 (some 27) _ rfl rfl (by kernel_rfl) (by kernel_rfl) (by kernel_rfl) (fun _ _ _ h => h) (by rfl) hH ?hy46 ?rest46
            case hy46 =>
              intro X hX
              have q0X := (hX.below.cell (World.block_lt_of_cell? _ _ q0)).trans q0
              have q1X := (hX.below.cell (World.block_lt_of_cell? _ _ q1)).trans q1
              have q2X := (hX.below.cell (World.block_lt_of_cell? _ _ q2)).trans q2
              have q3X := (hX.below.cell (World.block_lt_of_cell? _ _ q3)).trans q3
              have q4X := (hX.below.cell (World.block_lt_of_cell? _ _ q4)).trans q4
              have q5X := (hX.below.cell (World.block_lt_of_cell? _ _ q5)).trans q5
              have q6X := (hX.below.cell (World.block_lt_of_cell? _ _ q6)).trans q6
              have q7X := (hX.below.cell (World.block_lt_of_cell? _ _ q7)).trans q7
              go_simp
              try rfl
            simp only [Act.put, List.setIfInBounds_toArray, List.set_cons_zero, List.set_cons_succ]
            refine' hw_take 15 (some 28) _ rfl rfl (by kernel_rfl) (by kernel_rfl) (by kernel_rfl) (fun _ _ _ h => h) (by rfl) hH ?hy47 ?rest47
            case hy47 =>
              intro X hX
              go_simp
              try rfl
            simp only [Act.put, List.setIfInBounds_toArray, List.set_cons_zero, List.set_cons_succ]
            refine' hw_take 16 (some 29) _ rfl rfl (by kernel_rfl) (by kernel_rfl) (by kernel_rfl) (fun _ _ _ h => h) (by rfl) hH ?hy48 ?rest48
            case hy48 =>
              intro X hX
              go_simp
              try rfl
            simp only [Act.put, List.setIfInBounds_toArray, List.set_cons_zero, List.set_cons_succ]
            refine' hw_take 17 (some 30) _ rfl rfl (by kernel_rfl) (by kernel_rfl) (by kernel_rfl) (fun _ _ _ h => h) (by rfl) hH ?hy49 ?rest49
            case hy49 =>
              intro X hX
              go_simp
              try rfl
            simp only [Act.put, List.setIfInBounds_toArray, List.set_cons_zero, List.set_cons_succ]
            refine' hw_take 18 (some 31) _ rfl rfl (by kernel_rfl) (by kernel_rfl) (by kernel_rfl) (fun _ _ _ h => h) (by rfl) hH ?hy50 ?rest50
            case hy50 =>
              intro X hX
              have y0X := (hX.below.cell (World.block_lt_of_cell? _ _ y0)).trans y0
              have y1X := (hX.below.cell (World.block_lt_of_cell? _ _ y1)).trans y1
              have y2X := (hX.below.cell (World.block_lt_of_cell? _ _ y2)).trans y2
              have y3X := (hX.below.cell (World.block_lt_of_cell? _ _ y3)).trans y3
              have y4X := (hX.below.cell (World.block_lt_of_cell? _ _ y4)).trans y4
              have y5X := (hX.below.cell (World.block_lt_of_cell? _ _ y5)).trans y5
              have y6X := (hX.below.cell (World.block_lt_of_cell? _ _ y6)).trans y6
              have y7X := (hX.below.cell (World.block_lt_of_cell? _ _ y7)).trans y7
              go_simp
              try rfl
            simp only [Act.put, List.setIfInBounds_toArray, List.set_cons_zero, List.set_cons_succ]
            refine hw_call 19 (some 32) rfl rfl (by decide +kernel) (by rfl) (fun K hK => ?_)
            go_simp
            refine (specBT p a l o nx md lc x m d p' a' l' o' nx' md' lc' x' m' d' z _ hmx hmx' hz.out).mono ?_
            rintro e w1 ⟨rfl, h1⟩
            have n1 : New wr w1 := d1.trans h1
            refine hK.out _ _ n1 (fun hH => ?_)
            simp only [Act.put, List.setIfInBounds_toArray, List.set_cons_zero, List.set_cons_succ]
            refine' hw_take 20 (some 33) _ rfl rfl (by kernel_rfl) (by kernel_rfl) (by kernel_rfl) (fun _ _ _ h => h) (by rfl) hH ?hy51 ?rest51
            case hy51 =>
              intro X hX
              go_simp
              try rfl
            simp only [Act.put, List.setIfInBounds_toArray, List.set_cons_zero, List.set_cons_succ]
            refine' hw_take 21 (some 34) _ rfl rfl (by kernel_rfl) (by kernel_rfl) (by kernel_rfl) (fun _ _ _ h => h) (by rfl) hH ?hy52 ?rest52
            case hy52 =>
              intro X hX
              go_simp
              try rfl
            simp only [Act.put, List.setIfInBounds_toArray, List.set_cons_zero, List.set_cons_succ]
            refine wpAnyH_done (by kernel_rfl) ?_ _
            cases z with
            | true =>
              have HC : Hid (cW (Rv.r ⟨⟨p, a, l, o, xs, nx, md, lc⟩, x, d⟩) (Rv.r ⟨⟨p', a', l', o', xs', nx', md', lc'⟩, x', d'⟩) < 0) := by
                have e := of_decide_eq_true hz.out
                rw [← HLN.out, ← HLN'.out] at e
                exact e
              go_wp2
              go_roundw
              case rel => exact ⟨k + 1, (k : Int), by omega, by go_num, rfl, HL.out.take HV.out HK.out HU.out HC.out, hnw.trans n1⟩
              case measure => simp [intOf]; omega
            | false =>
              have HC : Hid (¬ cW (Rv.r ⟨⟨p, a, l, o, xs, nx, md, lc⟩, x, d⟩) (Rv.r ⟨⟨p', a', l', o', xs', nx', md', lc'⟩, x', d'⟩) < 0) := by
                have e := of_decide_eq_false hz.out
                rw [← HLN.out, ← HLN'.out] at e
                exact e
              go_wp2
              go_roundw
              case rel => exact ⟨k + 1, (j : Int), by omega, by go_num, rfl, HL.out.stay HV.out HU.out HC.out, hnw.trans n1⟩
              case measure => simp [intOf]; omega

end Go.Proofs.YtjampcfikfafkaaGreat

namespace Go.Proofs.YtjampcfikfafkaaGreat
open Go.RowKit Go.Sort
set_option linter.unusedVariables false
set_option linter.unusedSimpArgs false
set_option maxRecDepth 100000

/-- The answer: the faults of list and prefix, or the best. -/
def BfA (R : List Rt) (a0 l0 z : Int) (r : Rt) : Prop := (¬ ribF R = 0 ∧ z = ribF R ∧ r = ⟨0, 0, 0, 0, [], 0, 0, 0⟩) ∨ (ribF R = 0 ∧ ¬ pf a0 l0 = 0 ∧ z = pf a0 l0 ∧ r = ⟨0, 0, 0, 0, [], 0, 0, 0⟩) ∨ (ribF R = 0 ∧ pf a0 l0 = 0 ∧ BfOk R a0 l0 z r)

/-- The answer as a value of the call's own. -/
def BAns (w : World) (R : List Rt) (a0 l0 : Int) (e : Ending) (w' : World) : Prop := ∃ z r x d, BfA R a0 l0 z r ∧ e = .returned (.agg #[.int .i64 z, .int .i64 r.p, .int .i64 r.a, .int .i64 r.l, .int .i64 r.o, .slice x r.xs.length d, .int .i64 r.nx, .int .i64 r.md, .int .i64 r.lc]) ∧ OvN w' w.heap.size (.slice x r.xs.length d) r.xs ∧ ((∀ q ∈ r.xs, In6 q) ∧ r.xs.length ≤ 1048576) ∧ New w w'

theorem BAns.bad {w w' : World} {R : List Rt} {a0 l0 z : Int} (h : BfA R a0 l0 z ⟨0, 0, 0, 0, [], 0, 0, 0⟩) (n : New w w') : BAns w R a0 l0 (.returned (.agg #[.int .i64 z, .int .i64 0, .int .i64 0, .int .i64 0, .int .i64 0, .slice none 0 0, .int .i64 0, .int .i64 0, .int .i64 0])) w' :=
  ⟨z, _, none, 0, h, rfl, ⟨rfl, .inl ⟨rfl, rfl⟩⟩, ⟨by simp, by simp⟩, n⟩

theorem nine_new {w W : World} {B : Nat} {W' : World} (hn : New w W) (t : Turn (fun k => k = B) W W') (hB : w.heap.size ≤ B) : New w W' :=
  Turn.mono (S := fun k => w.heap.size ≤ k) (Turn.trans hn.turn t (fun k _ e => by omega)) (fun k h1 h2 => by omega)

set_option maxHeartbeats 6400000 in
theorem implBF (a0 l0 : Int) (A : Option Addr) (N cc : Nat) (V : List Rv) (w : World) (h : RtAt w A V) (hn : V.length = N) (hm : N ≤ 1048576) :
    Calls Tryz.prog 9 #[.slice A N cc, .agg #[.int .i64 a0, .int .i64 l0]] w (BAns w (V.map Rv.r) a0 l0) := by
  by_cases hok : ribF (V.map Rv.r) = 0 ∧ pf a0 l0 = 0
  · refine (implBF_ok a0 l0 A N cc V w h hn hm hok.1 hok.2).mono fun e w' hh => ?_
    obtain ⟨z, r, x, d, h1, h2⟩ := hh
    exact ⟨z, r, x, d, .inr (.inr ⟨hok.1, hok.2, h1⟩), h2⟩
  have HN : Hid (V.length = N) := hn
  have N0 : New w ((w.alloc (.cells #[.int .i64 a0, .int .i64 l0] 33)).alloc (.cells #[.int .i64 0, .int .i64 0, .int .i64 0, .int .i64 0, .int .i64 0, .slice none 0 0, .int .i64 0, .int .i64 0, .int .i64 0] 40)) := ((New.refl w).alloc _).alloc _
  have bB : Blk ((w.alloc (.cells #[.int .i64 a0, .int .i64 l0] 33)).alloc (.cells #[.int .i64 0, .int .i64 0, .int .i64 0, .int .i64 0, .int .i64 0, .slice none 0 0, .int .i64 0, .int .i64 0, .int .i64 0] 40)) (w.heap.size + 1) 40 #[.int .i64 0, .int .i64 0, .int .i64 0, .int .i64 0, .int .i64 0, .slice none 0 0, .int .i64 0, .int .i64 0, .int .i64 0] := Blk.mk _ _ _ _ (by simp)
  have bP : Blk ((w.alloc (.cells #[.int .i64 a0, .int .i64 l0] 33)).alloc (.cells #[.int .i64 0, .int .i64 0, .int .i64 0, .int .i64 0, .int .i64 0, .slice none 0 0, .int .i64 0, .int .i64 0, .int .i64 0] 40)) w.heap.size 33 #[.int .i64 a0, .int .i64 l0] := (Blk.mk _ _ _ _ rfl).alloc _
  obtain ⟨f, hf⟩ : ∃ f, Hid (ribF (V.map Rv.r) = f) := ⟨_, rfl⟩
  obtain ⟨g, hg⟩ : ∃ g, Hid (pf a0 l0 = g) := ⟨_, rfl⟩
  have HOK : Hid (¬ (f = 0 ∧ g = 0)) := by unfold Hid; rw [← hf.out, ← hg.out]; exact hok
  clear hok hn
  go_enter Tryz.func9, Tryz.ntmps9
  go_upto_region 1 with fail
  generalize ((w.alloc (.cells #[.int .i64 a0, .int .i64 l0] 33)).alloc (.cells #[.int .i64 0, .int .i64 0, .int .i64 0, .int .i64 0, .int .i64 0, .slice none 0 0, .int .i64 0, .int .i64 0, .int .i64 0] 40)) = w0 at *
  go_wp2_with fail
  refine (implRib A N cc V f _ (h.new N0) HN.out hm hf.out).mono ?_
  rintro e w1 ⟨rfl, h1⟩
  have b1 := bB.new h1
  have p1 := bP.new h1
  have n1 := N0.trans h1
  have lt1 := b1.lt
  clear bB h1 N0 bP
  by_cases h0 : f = 0
  case neg =>
    have hne : (f != 0) = true := by simpa using h0
    have HB : Hid (BfA (V.map Rv.r) a0 l0 f ⟨0, 0, 0, 0, [], 0, 0, 0⟩) := .inl ⟨by rw [hf.out]; exact h0, hf.out.symm, rfl⟩
    have c1 := b1.cells
    have f1 := b1.frees
    clear hf hg
    go_wp2
    exact bodyPost_ret (v := .agg #[.int .i64 f, .int .i64 0, .int .i64 0, .int .i64 0, .int .i64 0, .slice none 0 0, .int .i64 0, .int .i64 0, .int .i64 0]) (by simp [results, Tryz.results9, go_sem, c1]) rfl (BAns.bad HB.out (nine_new n1 (nine8 w1 (w.heap.size + 1) 40 (.int .i64 0) (.int .i64 0) (.int .i64 0) (.int .i64 0) (.int .i64 0) (.slice none 0 0) (.int .i64 0) (.int .i64 0) (.int .i64 0) (.int .i64 f) (.int .i64 0) (.int .i64 0) (.int .i64 0) (.int .i64 0) (.slice none 0 0) (.int .i64 0) (.int .i64 0) (.int .i64 0) b1).2 (by omega)))
  subst h0
  have hg0 : ¬ g = 0 := fun e => HOK.out ⟨rfl, e⟩
  have hne : (g != 0) = true := by simpa using hg0
  have HB : Hid (BfA (V.map Rv.r) a0 l0 g ⟨0, 0, 0, 0, [], 0, 0, 0⟩) := .inr (.inl ⟨hf.out, by rw [hg.out]; exact hg0, hg.out.symm, rfl⟩)
  have pc := p1.cells
  go_wp2_with fail
  refine (implPF_is a0 l0 g _ hg.out).mono ?_
  rintro e w2 ⟨rfl, h2⟩
  have b2 := b1.new h2
  have n2 := n1.trans h2
  have lt2 := b2.lt
  have c2 := b2.cells
  have f2 := b2.frees
  clear hf hg b1 p1 pc n1 h2
  go_wp2
  exact bodyPost_ret (v := .agg #[.int .i64 g, .int .i64 0, .int .i64 0, .int .i64 0, .int .i64 0, .slice none 0 0, .int .i64 0, .int .i64 0, .int .i64 0]) (by simp [results, Tryz.results9, go_sem, c2]) rfl (BAns.bad HB.out (nine_new n2 (nine8 w2 (w.heap.size + 1) 40 (.int .i64 0) (.int .i64 0) (.int .i64 0) (.int .i64 0) (.int .i64 0) (.slice none 0 0) (.int .i64 0) (.int .i64 0) (.int .i64 0) (.int .i64 g) (.int .i64 0) (.int .i64 0) (.int .i64 0) (.int .i64 0) (.slice none 0 0) (.int .i64 0) (.int .i64 0) (.int .i64 0) b2).2 (by omega)))

end Go.Proofs.YtjampcfikfafkaaGreat

namespace Go.Proofs.YtjampcfikfafkaaGreat
open Go.RowKit Go.Sort
set_option linter.unusedVariables false

theorem set5t (w : World) (B j : Nat) (v0 v1 v2 v3 v4 : Value) : Turn (fun k => k = B) w (((((w.setCell ⟨B, j, none⟩ v0).setCell ⟨B, j + 1, none⟩ v1).setCell ⟨B, j + 2, none⟩ v2).setCell ⟨B, j + 3, none⟩ v3).setCell ⟨B, j + 4, none⟩ v4) :=
  (((((Turn.refl (fun k => k = B) w).set (p := ⟨B, j, none⟩) rfl v0).set (p := ⟨B, j + 1, none⟩) rfl v1).set (p := ⟨B, j + 2, none⟩) rfl v2).set (p := ⟨B, j + 3, none⟩) rfl v3).set (p := ⟨B, j + 4, none⟩) rfl v4

end Go.Proofs.YtjampcfikfafkaaGreat
