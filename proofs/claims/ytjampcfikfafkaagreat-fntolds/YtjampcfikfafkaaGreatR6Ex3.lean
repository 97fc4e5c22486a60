/- What is proved here: what ExportAttrs answers in the program, for every path of at most 1048576 numbers. -/
import Derived.Test.YtjampcfikfafkaaGreatR6Ex2
import Derived.Deep.RegionHeld3
namespace Go.Proofs.YtjampcfikfafkaaGreat
open Go.RowKit Go.Sort
set_option linter.unusedVariables false

theorem cell_set6 {w : World} {B C j k : Nat} {v : Value} (h : ¬ B = C) : (w.setCell ⟨B, j, none⟩ v).cell? ⟨C, k, none⟩ = w.cell? ⟨C, k, none⟩ := World.cell?_of_block (Below.heap_setCell w ⟨B, j, none⟩ v C (fun e => h e.symm))

set_option maxHeartbeats 3200000 in
theorem implEA (o nx md lo : Int) (x : Option Addr) (n c : Nat) (xs : List Int) (z t : Int) (w : World) (h : NsAt w x xs) (hn : xs.length = n) (hm : n ≤ 1048576) (hnx : x = none → n = 0 ∧ c = 0) :
    Calls Tryz.prog 67 #[.agg #[.int .i64 o, .slice x n c, .int .i64 nx, .int .i64 md, .int .i64 lo], .int .i64 z, .int .i64 t] w (AAns w (exA o xs nx md lo z t)) := by
  have N0 : New w ((w.alloc (.cells #[.int .i64 o, .slice x n c, .int .i64 nx, .int .i64 md, .int .i64 lo] 36)).alloc (.cells #[.int .i64 0, .int .i64 0, .int .i64 0, .slice none 0 0, .int .i64 0, .int .i64 0, .int .i64 0] 70)) := ((New.refl w).alloc _).alloc _
  have b0 : Blk ((w.alloc (.cells #[.int .i64 o, .slice x n c, .int .i64 nx, .int .i64 md, .int .i64 lo] 36)).alloc (.cells #[.int .i64 0, .int .i64 0, .int .i64 0, .slice none 0 0, .int .i64 0, .int .i64 0, .int .i64 0] 70)) w.heap.size 36 #[.int .i64 o, .slice x n c, .int .i64 nx, .int .i64 md, .int .i64 lo] := (Blk.mk _ _ _ _ rfl).alloc _
  have b1 : Blk ((w.alloc (.cells #[.int .i64 o, .slice x n c, .int .i64 nx, .int .i64 md, .int .i64 lo] 36)).alloc (.cells #[.int .i64 0, .int .i64 0, .int .i64 0, .slice none 0 0, .int .i64 0, .int .i64 0, .int .i64 0] 70)) (w.heap.size + 1) 70 #[.int .i64 0, .int .i64 0, .int .i64 0, .slice none 0 0, .int .i64 0, .int .i64 0, .int .i64 0] := Blk.mk _ _ _ _ (by simp)
  have HN : Hid (xs.length = n) := hn
  have HX : Hid (x = none → n = 0 ∧ c = 0) := hnx
  have ge1 : w.heap.size ≤ w.heap.size + 1 := by omega
  clear hn hnx
  go_enter Tryz.func67, Tryz.ntmps67
  go_wp2_with fail
  by_cases g0 : af o xs nx md lo = 0
  case neg =>
    have hx : exA o xs nx md lo z t = arC (af o xs nx md lo) 0 := if_neg g0
    have hz : (af o xs nx md lo != 0) = true := by simpa using g0
    refine (implAF o nx md lo x n c xs _ (h.new N0) HN.out hm).mono ?_
    rintro e w1 ⟨rfl, hn1⟩
    have b11 := b1.new hn1
    have c1 := b11.cells
    have f1 := b11.frees
    have N1 := N0.trans hn1
    clear b11 b1 b0 hn1 N0
    go_wp2
    refine bodyPost_ret (v := .agg #[.int .i64 (af o xs nx md lo), .int .i64 0, .int .i64 0, .slice none 0 0, .int .i64 0, .int .i64 0, .int .i64 0]) (by simp [results, Tryz.results67, go_sem, c1]) rfl ?_
    rw [hx]
    refine ⟨_, rfl, OvN.nil _ _, ?_⟩
    simp (disch := exact ge1) only [New.set_iff]
    exact N1
  refine (implAF_is o nx md lo x n c xs 0 _ (h.new N0) HN.out hm g0).mono ?_
  rintro e w1 ⟨rfl, hn1⟩
  have hlen : n ≤ 6 := by have := af_len g0; rw [HN.out] at this; exact this
  have b01 := b0.new hn1
  have b11 := b1.new hn1
  have c0 := b01.cells
  have c1 := b11.cells
  have f1 := b11.frees
  have N1 := N0.trans hn1
  clear b0 b1 hn1 N0
  go_wp2_with fail
  by_cases g1 : 1 ≤ z ∧ z ≤ 65535
  case neg =>
    have hx : exA o xs nx md lo z t = arC 3 0 := by unfold exA; rw [if_pos g0, if_neg (fun k => g1 k.1)]
    refine (isSys_no z _ (by omega)).mono ?_
    rintro e w2 ⟨rfl, rfl⟩
    go_wp2
    refine bodyPost_ret (v := .agg #[.int .i64 (3), .int .i64 0, .int .i64 0, .slice none 0 0, .int .i64 0, .int .i64 0, .int .i64 0]) (by simp [results, Tryz.results67, go_sem, c1]) rfl ?_
    rw [hx]
    refine ⟨_, rfl, OvN.nil _ _, ?_⟩
    simp (disch := exact ge1) only [New.set_iff]
    exact N1
  refine (isSys_yes z _ g1).mono ?_
  rintro e w2 ⟨rfl, rfl⟩
  go_wp2_with fail
  by_cases g2 : 0 ≤ t ∧ t ≤ 65535
  case neg =>
    have hx : exA o xs nx md lo z t = arC 3 0 := by unfold exA; rw [if_pos g0, if_neg (fun k => g2 k.2)]
    refine (isAddr_no t _ (by omega)).mono ?_
    rintro e w2 ⟨rfl, rfl⟩
    go_wp2
    refine bodyPost_ret (v := .agg #[.int .i64 (3), .int .i64 0, .int .i64 0, .slice none 0 0, .int .i64 0, .int .i64 0, .int .i64 0]) (by simp [results, Tryz.results67, go_sem, c1]) rfl ?_
    rw [hx]
    refine ⟨_, rfl, OvN.nil _ _, ?_⟩
    simp (disch := exact ge1) only [New.set_iff]
    exact N1
  refine (isAddr_yes t _ g2).mono ?_
  rintro e w2 ⟨rfl, rfl⟩
  have HZ : In6 z := by unfold In6; omega
  by_cases g3 : n = 6
  · subst g3
    have hx : exA o xs nx md lo z t = arC 2 0 := by unfold exA; rw [if_pos g0, if_pos ⟨g1, g2⟩, if_pos HN.out]
    go_wp2
    refine bodyPost_ret (v := .agg #[.int .i64 (2), .int .i64 0, .int .i64 0, .slice none 0 0, .int .i64 0, .int .i64 0, .int .i64 0]) (by simp [results, Tryz.results67, go_sem, c1]) rfl ?_
    rw [hx]
    refine ⟨_, rfl, OvN.nil _ _, ?_⟩
    simp (disch := exact ge1) only [New.set_iff]
    exact N1
  have hlt : n < 6 := by omega
  have e3 : ((n : Int) == 6) = false := by simp; omega
  have hx : exA o xs nx md lo z t = ⟨0, -1, o, z :: xs, t, 0, 0⟩ := by unfold exA; rw [if_pos g0, if_pos ⟨g1, g2⟩, if_neg (by rw [HN.out]; exact g3)]
  have l1 := b11.lt
  go_upto_region 8 with fail
  go_cut [8] from 29 to 37 (fun u wx => ∃ B g k, u = .pointer (some ⟨B, 0, none⟩) ∧ Blk wx B 36 #[.int .i64 o, .slice (some ⟨g, 0, none⟩) (n + 1) k, .int .i64 t, .int .i64 0, .int .i64 0] ∧ OvN wx w2.heap.size (.slice (some ⟨g, 0, none⟩) (n + 1) k) (z :: xs) ∧ New w2 wx)
  case first =>
    have dh := h.new N1
    have cAl : ∀ (o5 : Obj) (j : Nat), (w2.alloc o5).cell? ⟨w.heap.size, j, none⟩ = #[Value.int .i64 o, .slice x n c, .int .i64 nx, .int .i64 md, .int .i64 lo][j]? := fun o5 j => (b01.alloc o5).cells j
    have cAl2 : ∀ (o5 o6 : Obj) (j : Nat), ((w2.alloc o5).alloc o6).cell? ⟨w.heap.size, j, none⟩ = #[Value.int .i64 o, .slice x n c, .int .i64 nx, .int .i64 md, .int .i64 lo][j]? := fun o5 o6 j => ((b01.alloc o5).alloc o6).cells j
    have ne0 : ¬ w2.heap.size = w.heap.size := by omega
    have ne1 : ¬ w2.heap.size + 1 = w.heap.size := by omega
    go_region_held3 (fun W => ∀ j, W.cell? ⟨w.heap.size, j, none⟩ = #[Value.int .i64 o, .slice x n c, .int .i64 nx, .int .i64 md, .int .i64 lo][j]?) (exact (fun j => by (try simp (disch := (first | exact ne0 | exact ne1 | exact ne2)) only [cell_set6]); first | exact c0x j | exact c0y _ j | exact c0 j | exact cAl _ j | exact cAl2 _ _ j))
      (first | (go_at_call 100; refine (pathB x (some ⟨_, 0, none⟩) n c 1 1 xs [z] _ (by (try simp only [NsAt.drew_iff]); first | exact dh.new ((New.refl _).alloc _) | exact dh.new (((New.refl _).alloc _).alloc _)) (by (try simp only [NsAt.drew_iff]); first | exact NsAt.lit (Blk.mk _ _ _ _ (by simp)) HZ | exact NsAt.lit ((Blk.mk _ _ _ _ (by simp)).alloc _) HZ) HN.out rfl HX.out (by intro e; cases e) hm (by omega)).mono ?_; rintro e wx ⟨v, rfl, ho, hn⟩; (try simp only [New.drew_mark6] at hn); obtain ⟨g, k, rfl⟩ := OvN.cons ho HN.out; first | (have tB := hn.tagB; have hA := tB.1; have dV := tB.2; have lV := dV.lt; have cV := dV.cells; have fV := dV.frees; have c0x := (b01.new hA).cells) | (have tC := hn.tagC; have hA := tC.1; have dV := tC.2; have lV := dV.lt; have cV := dV.cells; have fV := dV.frees; have c0x := (b01.new hA).cells) | (have hA := hn.tagA; have sA := hA.size; have ne2 : ¬ wx.heap.size = w.heap.size := (by omega); have c0x := (b01.new hA).cells; have c0y : ∀ (o5 : Obj) (j : Nat), (wx.alloc o5).cell? ⟨w.heap.size, j, none⟩ = #[Value.int .i64 o, .slice x n c, .int .i64 nx, .int .i64 md, .int .i64 lo][j]? := fun o5 j => ((b01.new hA).alloc o5).cells j)))
    · go_wp2_with fail
      go_meet
      case rel =>
        refine ⟨_, g, k, rfl, Blk.mk _ _ _ _ rfl, OvN.low (OvN.new ho ((New.refl _).alloc _)) ?_, New.alloc hA _⟩
        simp [World.heap_drew6]
    · go_wp2_with fail
      go_meet
      case rel =>
        have hsz : w2.heap.size + 2 ≤ ((w2.alloc (.cells #[.int .i64 z] 2)).alloc (.cells #[.int .i64 0, .slice none 0 0, .int .i64 0, .int .i64 0, .int .i64 0] 36)).drew.heap.size := by simp [World.heap_drew6]
        refine ⟨_, g, k, rfl, blk5 _ _ _ _ _ tC.2, OvN.low (OvN.turn ho (S := fun k => k = w2.heap.size + 1) ?_ ?_) ?_, New.before hA (S := fun k => k = w2.heap.size + 1) ?_ ?_⟩
        · exact Turn.here6 (Turn.here6 (Turn.here6 (Turn.here6 (Turn.here6 (Turn.refl _ _) _) _) _) _) _
        · intro k hk _ e
          have := Nat.le_trans hsz hk
          omega
        · omega
        · exact Turn.here6 (Turn.here6 (Turn.here6 (Turn.here6 (Turn.here6 (Turn.refl _ _) _) _) _) _) _
        · intro i hi e
          omega
    · go_wp2_with fail
      go_meet
      case rel =>
        have hsz : w2.heap.size + 2 ≤ ((w2.alloc (.cells #[.int .i64 0, .slice none 0 0, .int .i64 0, .int .i64 0, .int .i64 0] 36)).alloc (.cells #[.int .i64 z] 2)).drew.heap.size := by simp [World.heap_drew6]
        refine ⟨_, g, k, rfl, blk5 _ _ _ _ _ tB.2, OvN.low (OvN.turn ho (S := fun k => k = w2.heap.size) ?_ ?_) ?_, New.before hA (S := fun k => k = w2.heap.size) ?_ ?_⟩
        · exact Turn.here6 (Turn.here6 (Turn.here6 (Turn.here6 (Turn.here6 (Turn.refl _ _) _) _) _) _) _
        · intro k hk _ e
          have := Nat.le_trans hsz hk
          omega
        · omega
        · exact Turn.here6 (Turn.here6 (Turn.here6 (Turn.here6 (Turn.here6 (Turn.refl _ _) _) _) _) _) _
        · intro i hi e
          omega
  case rest =>
  obtain ⟨B, g, k, rfl, bB, ho, hc⟩ := hcut
  have b1c := b11.new hc
  have Nc := N1.trans hc
  have s1 := N1.size
  clear c0 c1 f1 b01 b11
  generalize wc = w4 at *
  have cB := bB.cells
  have c1 := b1c.cells
  have f1 := b1c.frees
  go_wp2
  refine bodyPost_ret (v := .agg #[.int .i64 0, .int .i64 (-1), .int .i64 o, .slice (some ⟨g, 0, none⟩) (n + 1) k, .int .i64 t, .int .i64 0, .int .i64 0]) (by simp [results, Tryz.results67, go_sem, c1]) rfl ?_
  rw [hx]
  refine (fun (hT : Turn (fun k => k = w.heap.size + 1) w4 _) => ⟨_, rfl, (ho.turn hT (fun k hk _ e => by omega)).low s1, Nc.before hT (fun i hi e => by omega)⟩) ?_
  exact Turn.here6 (Turn.here6 (Turn.here6 (Turn.here6 (Turn.here6 (Turn.here6 (Turn.here6 (Turn.refl _ _) _) _) _) _) _) _) _

end Go.Proofs.YtjampcfikfafkaaGreat
