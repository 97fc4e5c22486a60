/- What is proved here: what ExportAttrs answers, in the program and in the model, for every path of at most 1048576 numbers. -/
import Derived.Test.YtjampcfikfafkaaGreatR6RM
import Derived.Test.YtjampcfikfafkaaGreatR6Pa
import Derived.Deep.RegionLaw
import Derived.Deep.CutRange
namespace Go.Proofs.YtjampcfikfafkaaGreat
open Go.RowKit Go.Sort
set_option linter.unusedVariables false
set_option maxRecDepth 100000

/-- What is told of attributes: a code, a rule, attributes. -/
structure Ar where
  c : Int
  r : Int
  o : Int
  ns : List Int
  nx : Int
  md : Int
  lo : Int

/-- A code alone. -/
def arC (c r : Int) : Ar := ⟨c, r, 0, [], 0, 0, 0⟩

/-- An answer whose path is the call's own. -/
def AAns (w : World) (r : Ar) (e : Ending) (w' : World) : Prop := ∃ v, e = .returned (.agg #[.int .i64 r.c, .int .i64 r.r, .int .i64 r.o, v, .int .i64 r.nx, .int .i64 r.md, .int .i64 r.lo]) ∧ OvN w' w.heap.size v r.ns ∧ New w w'

theorem OvN.nil (w : World) (lo : Nat) : OvN w lo (.slice none 0 0) [] := ⟨rfl, .inl ⟨rfl, rfl⟩⟩
theorem NsAt.lit {w : World} {B : Nat} {t : TypeId} {z : Int} (h : Blk w B t #[.int .i64 z]) (hz : In6 z) : NsAt w (some ⟨B, 0, none⟩) [z] := by
  intro i u hu
  have hi : i < 1 := by simpa using (List.getElem?_eq_some_iff.1 hu).1
  obtain rfl : i = 0 := by omega
  simp at hu
  subst hu
  exact ⟨B, 0, rfl, h.cells 0, hz⟩
theorem OvN.lit {w : World} {B lo : Nat} {z : Int} (h : Blk w B 2 #[.int .i64 z]) (hl : lo ≤ B) : OvN w lo (.slice (some ⟨B, 0, none⟩) 1 1) [z] :=
  ⟨rfl, .inr ⟨B, 1, #[.int .i64 z], rfl, hl, h, Nat.le_refl _, by unfold maxLen; omega, rfl, rfl⟩⟩

theorem Turn.here6 {w wr : World} {B j : Nat} (h : Turn (fun k => k = B) w wr) (v : Value) : Turn (fun k => k = B) w (wr.setCell ⟨B, j, none⟩ v) := h.set rfl v

/-- What others are told. -/
def exA (o : Int) (xs : List Int) (nx md lo z t : Int) : Ar :=
  if af o xs nx md lo = 0 then (if (1 ≤ z ∧ z ≤ 65535) ∧ (0 ≤ t ∧ t ≤ 65535) then (if xs.length = 6 then arC 2 0 else ⟨0, -1, o, z :: xs, t, 0, 0⟩) else arC 3 0) else arC (af o xs nx md lo) 0

theorem af_len {o nx md lo : Int} {xs : List Int} (h : af o xs nx md lo = 0) : xs.length ≤ 6 := by
  unfold af at h
  split at h
  · split at h
    · omega
    · omega
  · omega

theorem l6E_full (o nx md lo : Int) (x : Option Addr) (n c : Nat) (xs : List Int) (z t : Int) (w : World) (hbig : 6 ≤ n) (hm : n ≤ 1048576) :
    Calls Tryz.prog 73 #[.agg #[.int .i64 o, .slice x n c, .int .i64 nx, .int .i64 md, .int .i64 lo], .int .i64 z, .int .i64 t] w fun e w' => e = .returned (.tuple #[.agg #[.int .i64 0, .slice none 0 0, .int .i64 0, .int .i64 0, .int .i64 0], .bool false]) ∧ New w w' := by
  have N0 : New w ((w.alloc (.cells #[.int .i64 o, .slice x n c, .int .i64 nx, .int .i64 md, .int .i64 lo] 36)).alloc (.cells #[.int .i64 0, .slice none 0 0, .int .i64 0, .int .i64 0, .int .i64 0] 36)) := ((New.refl w).alloc _).alloc _
  go_enter Tryz.func73, Tryz.ntmps73
  go_wp2
  refine bodyPost_ret (v := .tuple #[.agg #[.int .i64 0, .slice none 0 0, .int .i64 0, .int .i64 0, .int .i64 0], .bool false]) (by simp [results, Tryz.results73, go_sem]) rfl ⟨rfl, ?_⟩
  first | exact N0 | (simp (disch := (first | omega | (simp; omega))) only [New.set_iff]; exact N0)

set_option maxHeartbeats 3200000 in
theorem l6E_room (o nx md lo : Int) (x : Option Addr) (n c : Nat) (xs : List Int) (z t : Int) (w : World) (h : NsAt w x xs) (hn : xs.length = n) (hm : n ≤ 1048576) (hnx : x = none → n = 0 ∧ c = 0) (hz : In6 z) (hbig : n < 6) :
    Calls Tryz.prog 73 #[.agg #[.int .i64 o, .slice x n c, .int .i64 nx, .int .i64 md, .int .i64 lo], .int .i64 z, .int .i64 t] w fun e w' => ∃ g k, e = .returned (.tuple #[.agg #[.int .i64 o, .slice (some ⟨g, 0, none⟩) (n + 1) k, .int .i64 t, .int .i64 0, .int .i64 0], .bool true]) ∧ OvN w' w.heap.size (.slice (some ⟨g, 0, none⟩) (n + 1) k) (z :: xs) ∧ New w w' := by
  obtain ⟨i0, hi, hz0, hz1, hz2⟩ := info_parts Tryz.infoI64
  have N0 : New w ((w.alloc (.cells #[.int .i64 o, .slice x n c, .int .i64 nx, .int .i64 md, .int .i64 lo] 36)).alloc (.cells #[.int .i64 0, .slice none 0 0, .int .i64 0, .int .i64 0, .int .i64 0] 36)) := ((New.refl w).alloc _).alloc _
  have b0 : Blk ((w.alloc (.cells #[.int .i64 o, .slice x n c, .int .i64 nx, .int .i64 md, .int .i64 lo] 36)).alloc (.cells #[.int .i64 0, .slice none 0 0, .int .i64 0, .int .i64 0, .int .i64 0] 36)) w.heap.size 36 #[.int .i64 o, .slice x n c, .int .i64 nx, .int .i64 md, .int .i64 lo] := (Blk.mk _ _ _ _ rfl).alloc _
  have b1 : Blk ((w.alloc (.cells #[.int .i64 o, .slice x n c, .int .i64 nx, .int .i64 md, .int .i64 lo] 36)).alloc (.cells #[.int .i64 0, .slice none 0 0, .int .i64 0, .int .i64 0, .int .i64 0] 36)) (w.heap.size + 1) 36 #[.int .i64 0, .slice none 0 0, .int .i64 0, .int .i64 0, .int .i64 0] := Blk.mk _ _ _ _ (by simp)
  have HN : Hid (xs.length = n) := hn
  have HX : Hid (x = none → n = 0 ∧ c = 0) := hnx
  have HZ : Hid (In6 z) := hz
  clear hn hnx hz
  go_enter Tryz.func73, Tryz.ntmps73
  go_wp2_with fail
  have hL : New ((w.alloc (.cells #[.int .i64 o, .slice x n c, .int .i64 nx, .int .i64 md, .int .i64 lo] 36)).alloc (.cells #[.int .i64 0, .slice none 0 0, .int .i64 0, .int .i64 0, .int .i64 0] 36)) ((((w.alloc (.cells #[.int .i64 o, .slice x n c, .int .i64 nx, .int .i64 md, .int .i64 lo] 36)).alloc (.cells #[.int .i64 0, .slice none 0 0, .int .i64 0, .int .i64 0, .int .i64 0] 36)).drew).alloc (.cells #[.int .i64 z] 2)) := ((New.refl _).drew).alloc _
  have bL : Blk ((((w.alloc (.cells #[.int .i64 o, .slice x n c, .int .i64 nx, .int .i64 md, .int .i64 lo] 36)).alloc (.cells #[.int .i64 0, .slice none 0 0, .int .i64 0, .int .i64 0, .int .i64 0] 36)).drew).alloc (.cells #[.int .i64 z] 2)) (w.heap.size + 1 + 1) 2 #[.int .i64 z] := Blk.mk _ _ _ _ (by simp [World.drew])
  have el : ([z] ++ xs).length = n + 1 := by simp [HN.out]
  have EL : Hid (([z] ++ xs).length = n + 1) := el
  clear el
  go_region_law (refine step_apN _ rfl (.tmp 16) (.tmp 18) rfl (w.heap.size + 1 + 1) Tryz.underlying34 hi hz0 hz1 hz2 (.slice (some ⟨w.heap.size + 1 + 1, 0, none⟩) 1 1) [z] rfl (OvN.lit bL (Nat.le_refl _)) x n c xs rfl (h.new (N0.trans hL)) HN.out HX.out (by simp; omega) (by simp [World.drew]) ?_; intro v4' w4 ho4 hg4; rw [EL.out] at ho4; obtain ⟨g4, k4, rfl⟩ := Joins.ownsRow_form ho4 (by simp); have b4 := (b0.new hL).grow hg4 (fun e => by have e' : w.heap.size + 1 + 1 = w.heap.size := Option.some.inj e; omega); have b5 := (b1.new hL).grow hg4 (fun e => by have e' : w.heap.size + 1 + 1 = w.heap.size + 1 := Option.some.inj e; omega); have c4 := b4.cells; have c5 := b5.cells; have f5 := b5.frees)
  all_goals
    have N4 : New w w4 := (N0.trans hL).grow hg4 (fun k hk => by have e' : w.heap.size + 1 + 1 = k := Option.some.inj hk; omega)
    have ho5 : OvN w4 (w.heap.size + 1 + 1) (.slice (some ⟨g4, 0, none⟩) (n + 1) k4) (z :: xs) := by simpa [OvN, HN.out] using ho4
    clear ho4 hg4 hL bL b0 b1 N0
    go_wp2
    refine bodyPost_ret (v := .tuple #[.agg #[.int .i64 o, .slice (some ⟨g4, 0, none⟩) (n + 1) k4, .int .i64 t, .int .i64 0, .int .i64 0], .bool true]) (by simp [results, Tryz.results73, go_sem, c5]) rfl ?_
    refine (fun (hT : Turn (fun k => k = w.heap.size + 1) w4 _) => ⟨g4, k4, rfl, (ho5.turn hT (fun k hk _ e => by omega)).low (by omega), N4.before hT (fun i hi e => by omega)⟩) ?_
    exact Turn.here6 (Turn.here6 (Turn.here6 (Turn.here6 (Turn.here6 (Turn.refl _ _) _) _) _) _) _

end Go.Proofs.YtjampcfikfafkaaGreat
