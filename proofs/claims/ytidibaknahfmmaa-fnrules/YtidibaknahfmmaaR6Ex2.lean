/- What is proved here: what ExportAttrs answers, in the program and in the model, for every path of at most 1048576 numbers. -/
import Derived.Test.YtidibaknahfmmaaR6Ex
namespace Go.Proofs.Ytidibaknahfmmaa
open Go.RowKit Go.Sort
set_option linter.unusedVariables false

theorem OvN.cons {w : World} {lo n : Nat} {v : Value} {z : Int} {xs : List Int} (h : OvN w lo v (z :: xs)) (hn : xs.length = n) : ∃ g k, v = .slice (some ⟨g, 0, none⟩) (n + 1) k := by
  subst hn
  rcases h.form with ⟨_, h0⟩ | ⟨g, c, rfl, _, _⟩
  · cases h0
  · exact ⟨g, c, rfl⟩
theorem blk5 {w : World} {B : Nat} {t : TypeId} {u0 u1 u2 u3 u4 : Value} (v0 v1 v2 v3 v4 : Value) (h : Blk w B t #[u0, u1, u2, u3, u4]) : Blk (((((w.setCell ⟨B, 0, none⟩ v0).setCell ⟨B, 1, none⟩ v1).setCell ⟨B, 2, none⟩ v2).setCell ⟨B, 3, none⟩ v3).setCell ⟨B, 4, none⟩ v4) B t #[v0, v1, v2, v3, v4] :=
  ((((h.set 0 v0).set 1 v1).set 2 v2).set 3 v3).set 4 v4
/-- A literal of one number, then the callee's memory. -/
theorem New.tagA {w wx : World} {o : Obj} (h : New (w.alloc o) wx) : New w wx := ((New.refl w).alloc o).trans h
/-- A variable, a literal, then the callee's memory. -/
theorem New.tagB {w wx : World} {o : Obj} (h : New ((w.alloc (.cells #[.int .i64 0, .slice none 0 0, .int .i64 0, .int .i64 0, .int .i64 0] 29)).alloc o) wx) : New w wx ∧ Blk wx w.heap.size 29 #[.int .i64 0, .slice none 0 0, .int .i64 0, .int .i64 0, .int .i64 0] :=
  ⟨(((New.refl w).alloc _).alloc o).trans h, ((Blk.mk w w.heap.size _ _ rfl).alloc o).new h⟩
/-- A literal, a variable, then the callee's memory. -/
theorem New.tagC {w wx : World} {o : Obj} (h : New ((w.alloc o).alloc (.cells #[.int .i64 0, .slice none 0 0, .int .i64 0, .int .i64 0, .int .i64 0] 29)) wx) : New w wx ∧ Blk wx (w.heap.size + 1) 29 #[.int .i64 0, .slice none 0 0, .int .i64 0, .int .i64 0, .int .i64 0] :=
  ⟨(((New.refl w).alloc _).alloc _).trans h, (Blk.mk (w.alloc o) (w.heap.size + 1) _ _ (by simp)).new h⟩
theorem World.heap_drew6 (w : World) : w.drew.heap = w.heap := rfl
theorem NsAt.drew_iff {w : World} {a : Option Addr} {xs : List Int} : NsAt w.drew a xs ↔ NsAt w a xs := Iff.rfl
theorem OvN.drew_iff {w : World} {lo : Nat} {v : Value} {xs : List Int} : OvN w.drew lo v xs ↔ OvN w lo v xs := Iff.rfl

theorem l2A_yes (x : Int) (w : World) (h : 0 ≤ x ∧ x ≤ 65535) : Calls Try.prog 40 #[.int .i64 x] w fun e w' => e = .returned (.bool true) ∧ w' = w := by
  go_enter Try.func40, Try.ntmps40
  go_wp2_with fail
  refine (in_yes _ _ _ _ h).mono ?_
  rintro e w1 ⟨rfl, rfl⟩
  go_wp2
  go_ret
  exact ⟨rfl, rfl⟩

theorem l2A_no (x : Int) (w : World) (h : x < 0 ∨ 65535 < x) : Calls Try.prog 40 #[.int .i64 x] w fun e w' => e = .returned (.bool false) ∧ w' = w := by
  go_enter Try.func40, Try.ntmps40
  go_wp2_with fail
  refine (in_no _ _ _ _ h).mono ?_
  rintro e w1 ⟨rfl, rfl⟩
  go_wp2
  go_ret
  exact ⟨rfl, rfl⟩

set_option maxHeartbeats 3200000 in
theorem specEA (o nx md lo : Int) (x : Option Addr) (n c : Nat) (xs : List Int) (z t : Int) (w : World) (h : NsAt w x xs) (hn : xs.length = n) (hm : n ≤ 1048576) (hnx : x = none → n = 0 ∧ c = 0) :
    Calls Try.prog 16 #[.agg #[.int .i64 o, .slice x n c, .int .i64 nx, .int .i64 md, .int .i64 lo], .int .i64 z, .int .i64 t] w (AAns w (exA o xs nx md lo z t)) := by
  have N0 : New w ((w.alloc (.cells #[.int .i64 o, .slice x n c, .int .i64 nx, .int .i64 md, .int .i64 lo] 29)).alloc (.cells #[.int .i64 0, .int .i64 0, .int .i64 0, .slice none 0 0, .int .i64 0, .int .i64 0, .int .i64 0] 33)) := ((New.refl w).alloc _).alloc _
  have b0 : Blk ((w.alloc (.cells #[.int .i64 o, .slice x n c, .int .i64 nx, .int .i64 md, .int .i64 lo] 29)).alloc (.cells #[.int .i64 0, .int .i64 0, .int .i64 0, .slice none 0 0, .int .i64 0, .int .i64 0, .int .i64 0] 33)) w.heap.size 29 #[.int .i64 o, .slice x n c, .int .i64 nx, .int .i64 md, .int .i64 lo] := (Blk.mk _ _ _ _ rfl).alloc _
  have b1 : Blk ((w.alloc (.cells #[.int .i64 o, .slice x n c, .int .i64 nx, .int .i64 md, .int .i64 lo] 29)).alloc (.cells #[.int .i64 0, .int .i64 0, .int .i64 0, .slice none 0 0, .int .i64 0, .int .i64 0, .int .i64 0] 33)) (w.heap.size + 1) 33 #[.int .i64 0, .int .i64 0, .int .i64 0, .slice none 0 0, .int .i64 0, .int .i64 0, .int .i64 0] := Blk.mk _ _ _ _ (by simp)
  have HN : Hid (xs.length = n) := hn
  have HX : Hid (x = none → n = 0 ∧ c = 0) := hnx
  have ge1 : w.heap.size ≤ w.heap.size + 1 := by omega
  clear hn hnx
  go_enter Try.func16, Try.ntmps16
  go_wp2_with fail
  by_cases g0 : af o xs nx md lo = 0
  case neg =>
    have hx : exA o xs nx md lo z t = arC (af o xs nx md lo) 0 := if_neg g0
    have hz : (af o xs nx md lo != 0) = true := by simpa using g0
    refine (specAF o nx md lo x n c xs _ (h.new N0) HN.out hm).mono ?_
    rintro e w1 ⟨rfl, hn1⟩
    have b11 := b1.new hn1
    have c1 := b11.cells
    have f1 := b11.frees
    have N1 := N0.trans hn1
    clear b11 b1 b0 hn1 N0
    go_wp2
    refine bodyPost_ret (v := .agg #[.int .i64 (af o xs nx md lo), .int .i64 0, .int .i64 0, .slice none 0 0, .int .i64 0, .int .i64 0, .int .i64 0]) (by simp [results, Try.results16, go_sem, c1]) rfl ?_
    rw [hx]
    refine ⟨_, rfl, OvN.nil _ _, ?_⟩
    simp (disch := exact ge1) only [New.set_iff]
    exact N1
  refine (specAF_is o nx md lo x n c xs 0 _ (h.new N0) HN.out hm g0).mono ?_
  rintro e w1 ⟨rfl, hn1⟩
  have hlen : n ≤ 6 := by have := af_len g0; rw [HN.out] at this; exact this
  have b01 := b0.new hn1
  have b11 := b1.new hn1
  have c0 := b01.cells
  have c1 := b11.cells
  have f1 := b11.frees
  have N1 := N0.trans hn1
  clear b0 b1 hn1 N0
  go_wp2_with fail
  by_cases g1 : 1 ≤ z ∧ z ≤ 65535
  case neg =>
    have hx : exA o xs nx md lo z t = arC 3 0 := by unfold exA; rw [if_pos g0, if_neg (fun k => g1 k.1)]
    refine (in_no z 1 65535 _ (by omega)).mono ?_
    rintro e w2 ⟨rfl, rfl⟩
    go_wp2
    refine bodyPost_ret (v := .agg #[.int .i64 (3), .int .i64 0, .int .i64 0, .slice none 0 0, .int .i64 0, .int .i64 0, .int .i64 0]) (by simp [results, Try.results16, go_sem, c1]) rfl ?_
    rw [hx]
    refine ⟨_, rfl, OvN.nil _ _, ?_⟩
    simp (disch := exact ge1) only [New.set_iff]
    exact N1
  refine (in_yes z 1 65535 _ g1).mono ?_
  rintro e w2 ⟨rfl, rfl⟩
  go_wp2_with fail
  by_cases g2 : 0 ≤ t ∧ t ≤ 65535
  case neg =>
    have hx : exA o xs nx md lo z t = arC 3 0 := by unfold exA; rw [if_pos g0, if_neg (fun k => g2 k.2)]
    refine (l2A_no t _ (by omega)).mono ?_
    rintro e w2 ⟨rfl, rfl⟩
    go_wp2
    refine bodyPost_ret (v := .agg #[.int .i64 (3), .int .i64 0, .int .i64 0, .slice none 0 0, .int .i64 0, .int .i64 0, .int .i64 0]) (by simp [results, Try.results16, go_sem, c1]) rfl ?_
    rw [hx]
    refine ⟨_, rfl, OvN.nil _ _, ?_⟩
    simp (disch := exact ge1) only [New.set_iff]
    exact N1
  refine (l2A_yes t _ g2).mono ?_
  rintro e w2 ⟨rfl, rfl⟩
  have HZ : In6 z := by unfold In6; omega
  go_wp2_with fail
  by_cases g3 : n = 6
  · subst g3
    have hx : exA o xs nx md lo z t = arC 2 0 := by unfold exA; rw [if_pos g0, if_pos ⟨g1, g2⟩, if_pos HN.out]
    refine (l6E_full o nx md lo x 6 c xs z t _ (Nat.le_refl _) hm).mono ?_
    rintro e w3 ⟨rfl, hn3⟩
    go_upto_region 7 with fail
    have hal : New w3 (w3.alloc (.cells #[.int .i64 0, .slice none 0 0, .int .i64 0, .int .i64 0, .int .i64 0] 29)) := (New.refl _).alloc _
    have b15 := (b11.new hn3).new hal
    have N5 := (N1.trans hn3).trans hal
    clear c0 c1 f1 b01 b11 N1 hn3 hal
    generalize w3.alloc (.cells #[.int .i64 0, .slice none 0 0, .int .i64 0, .int .i64 0, .int .i64 0] 29) = w5 at *
    have c1 := b15.cells
    have f1 := b15.frees
    go_wp2
    refine bodyPost_ret (v := .agg #[.int .i64 (2), .int .i64 0, .int .i64 0, .slice none 0 0, .int .i64 0, .int .i64 0, .int .i64 0]) (by simp [results, Try.results16, go_sem, c1]) rfl ?_
    rw [hx]
    refine ⟨_, rfl, OvN.nil _ _, ?_⟩
    simp (disch := exact ge1) only [New.set_iff]
    exact N5
  have hlt : n < 6 := by omega
  have hx : exA o xs nx md lo z t = ⟨0, -1, o, z :: xs, t, 0, 0⟩ := by unfold exA; rw [if_pos g0, if_pos ⟨g1, g2⟩, if_neg (by rw [HN.out]; exact g3)]
  refine (l6E_room o nx md lo x n c xs z t _ (h.new N1) HN.out hm HX.out HZ hlt).mono ?_
  rintro e w3 ⟨g, k, rfl, ho3, hn3⟩
  go_upto_region 7 with fail
  have hal : New w3 (w3.alloc (.cells #[.int .i64 o, .slice (some ⟨g, 0, none⟩) (n + 1) k, .int .i64 t, .int .i64 0, .int .i64 0] 29)) := (New.refl _).alloc _
  have bY : Blk (w3.alloc (.cells #[.int .i64 o, .slice (some ⟨g, 0, none⟩) (n + 1) k, .int .i64 t, .int .i64 0, .int .i64 0] 29)) w3.heap.size 29 #[.int .i64 o, .slice (some ⟨g, 0, none⟩) (n + 1) k, .int .i64 t, .int .i64 0, .int .i64 0] := Blk.mk _ _ _ _ rfl
  have b15 := (b11.new hn3).new hal
  have N5 := (N1.trans hn3).trans hal
  have ho5 := ho3.new hal
  have s1 := N1.size
  have l1 := b11.lt
  clear c0 c1 f1 b01 b11 hn3 hal ho3
  generalize w3.alloc (.cells #[.int .i64 o, .slice (some ⟨g, 0, none⟩) (n + 1) k, .int .i64 t, .int .i64 0, .int .i64 0] 29) = w5 at *
  have c1 := b15.cells
  have f1 := b15.frees
  have cY := bY.cells
  go_wp2
  refine bodyPost_ret (v := .agg #[.int .i64 0, .int .i64 (-1), .int .i64 o, .slice (some ⟨g, 0, none⟩) (n + 1) k, .int .i64 t, .int .i64 0, .int .i64 0]) (by simp [results, Try.results16, go_sem, c1]) rfl ?_
  rw [hx]
  refine (fun (hT : Turn (fun k => k = w.heap.size + 1) w5 _) => ⟨_, rfl, (ho5.turn hT (fun k hk _ e => by omega)).low s1, N5.before hT (fun i hi e => by omega)⟩) ?_
  exact Turn.here6 (Turn.here6 (Turn.here6 (Turn.here6 (Turn.here6 (Turn.here6 (Turn.here6 (Turn.refl _ _) _) _) _) _) _) _) _

end Go.Proofs.Ytidibaknahfmmaa
