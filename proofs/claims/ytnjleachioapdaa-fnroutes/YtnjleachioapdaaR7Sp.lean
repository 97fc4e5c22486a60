/- What is proved here: what the model's going through lists of routes and its copying of them answer, for lists of at most 1048576 routes with paths of at most 1048576 numbers. -/
import Derived.Test.YtnjleachioapdaaR7Th
import Derived.Deep.CutRange
namespace Go.Proofs.Ytnjleachioapdaa
open Go.RowKit Go.Sort
set_option linter.unusedVariables false

/-- A row of n routes with room for c. -/
abbrev Row7 (A : Option Addr) (n c : Nat) : Prop := (A = none → n = 0 ∧ c = 0) ∧ (∀ x, A = some x → x.off = 0 ∧ x.spot = none ∧ n ≤ c ∧ c ≤ maxLen)

theorem RtAt.here {w : World} {A : Option Addr} {V : List Rv} (h : RtAt w A V) : ∀ v ∈ V, v.here w := by
  intro v hv
  obtain ⟨i, hi⟩ := List.getElem?_of_mem hv
  exact (h i v hi).2
theorem row_rt7 {w : World} {lo : Nat} {u : Value} {W : List Rv} (h : w.ownsRow lo 31 8 u W.length (cellsT W)) (hp : ∀ v ∈ W, v.here w) : ∃ A c, u = .slice A W.length c ∧ RtAt w A W ∧ (A = none → W.length = 0 ∧ c = 0) ∧ (∀ x, A = some x → x.off = 0 ∧ x.spot = none ∧ W.length ≤ c ∧ c ≤ maxLen) := by
  rcases h.2 with ⟨h1, h2⟩ | ⟨g, c, cur, h1, h2, h3, h4, h5, r⟩
  · obtain rfl := List.eq_nil_of_length_eq_zero h2
    exact ⟨none, 0, h1, RtAt.nil _ _, fun _ => ⟨rfl, rfl⟩, by intro x e; cases e⟩
  · have ho : OwRow w g W.length c W := ⟨h.1, .inr ⟨g, c, cur, rfl, Nat.zero_le _, h3, h4, h5, r⟩⟩
    refine ⟨_, c, h1, ho.rt hp, (by intro e; cases e), ?_⟩
    intro x e
    obtain rfl := Option.some.inj e
    exact ⟨rfl, rfl, h4, h5⟩
theorem cmpR_zero (p a l p' a' l' : Int) : cmpR p a l p' a' l' = 0 ↔ (p = p' ∧ a = a' ∧ l = l') := by
  have key : ∀ x y : Int, cmp3 x y = 0 ↔ x = y := by
    intro x y
    unfold cmp3
    split
    · constructor <;> intro h <;> omega
    · split
      · constructor <;> intro h <;> omega
      · constructor <;> intro h <;> omega
  have or2 : ∀ c d : Int, orL [c, d] = 0 ↔ (c = 0 ∧ d = 0) := by
    intro c d
    by_cases h1 : c = 0
    · by_cases h2 : d = 0 <;> simp [orL, h1, h2]
    · simp [orL, h1]
  unfold cmpR
  rw [or2, or2, key, key, key]
  constructor
  · rintro ⟨⟨h1, h2⟩, h3⟩; exact ⟨h3, h1, h2⟩
  · rintro ⟨h1, h2, h3⟩; exact ⟨⟨h2, h3⟩, h1⟩

theorem keepE_iff (q a0 l0 : Int) (r : Rt) : keepE q a0 l0 r = decide (¬ (q = r.p ∧ a0 = r.a ∧ l0 = r.l)) := by
  unfold keepE
  rw [decide_eq_decide, cmpR_zero]

set_option maxHeartbeats 6400000 in
theorem l7Wo_any (q a0 l0 : Int) (A : Option Addr) (N cc : Nat) (V : List Rv) (w : World) (h : RtAt w A V) (hn : V.length = N) (hm : N ≤ 1048576) :
    Calls Try.prog 47 #[.slice A N cc, .int .i64 q, .agg #[.int .i64 a0, .int .i64 l0]] w fun e w' => ∃ B d, e = .returned (.slice B (V.filter (fun u => keepE q a0 l0 u.r)).length d) ∧ RtAt w' B (V.filter (fun u => keepE q a0 l0 u.r)) ∧ New w w' ∧ Row7 B (V.filter (fun u => keepE q a0 l0 u.r)).length d := by
  have HN : Hid (V.length = N) := hn
  clear hn
  obtain ⟨i0, hi, hz0, hz1, hz2⟩ := info_parts Try.infoRt
  have NL : New w ((w.alloc (.cells #[.int .i64 a0, .int .i64 l0] 26)).alloc (.cells #[] 31)) := ((New.refl w).alloc _).alloc _
  have bP : Blk ((w.alloc (.cells #[.int .i64 a0, .int .i64 l0] 26)).alloc (.cells #[] 31)) w.heap.size 26 #[.int .i64 a0, .int .i64 l0] := (Blk.mk _ _ _ _ rfl).alloc _
  have hL := row_lit7 (lo := w.heap.size + 1) (Blk.mk (w.alloc (.cells #[.int .i64 a0, .int .i64 l0] 26)) (w.heap.size + 1) 31 #[] (by simp)) (Nat.le_refl _)
  go_enter Try.func47, Try.ntmps47
  go_wp2
  go_loopw [7, 8] (fun s i wr => ∃ k : Nat, k ≤ N ∧ i = .int .i64 k ∧ New w wr ∧ Blk wr w.heap.size 26 #[.int .i64 a0, .int .i64 l0] ∧ wr.ownsRow (w.heap.size + 1) 31 8 s ((V.take k).filter (fun u => keepE q a0 l0 u.r)).length (cellsT ((V.take k).filter (fun u => keepE q a0 l0 u.r)))) (fun _ i _ => N - (intOf i).toNat)
  case atStart => exact ⟨0, Nat.zero_le _, rfl, NL, bP, hL⟩
  case round =>
    clear NL hL bP
    obtain ⟨k, hk, rfl, hnw, bPr, hrow⟩ := hrel
    by_cases hlt : k < N
    · obtain ⟨b, off, p, a, l, o, nx, md, lc, x, m, d, xs, rfl, hv, hlen, hns, hnl, hmx, q0, q1, q2, q3, q4, q5, q6, q7⟩ := (h.new hnw).at k (by have := HN.out; omega)
      have HL : Hid (xs.length = m) := hlen
      have HFR : Hid _ := filter_next (K := keepE q a0 l0) hv
      have hle : ((V.take k).filter (fun u => keepE q a0 l0 u.r)).length ≤ k := by
        have h1 := List.length_filter_le (fun u : Rv => keepE q a0 l0 u.r) (V.take k)
        have h2 : (V.take k).length ≤ k := by rw [List.length_take]; omega
        omega
      generalize hW : (V.take k).filter (fun u => keepE q a0 l0 u.r) = W at *
      clear hv hlen hW
      have X0 := cell_regrown q0
      have X1 := cell_regrown q1
      have X2 := cell_regrown q2
      have BP := blk_regrown bPr
      by_cases hf : q = p ∧ a0 = a ∧ l0 = l
      · obtain ⟨rfl, rfl, rfl⟩ := hf
        have hz : (q != q) = false := by simp
        have HK : Hid (keepE q a0 l0 ⟨q, a0, l0, o, xs, nx, md, lc⟩ = false) := by unfold Hid; rw [keepE_iff]; simp
        go_wp2_with fail
        refine wp_region_quiet_below (by kernel_rfl) (by kernel_rfl) ?_
        repeat (go_big_quiet_step (fail))
        refine wpQuiet_nil ?_
        rintro w2 hn2
        replace hn2 := new_of_regrown hn2
        go_wp2
        go_roundw
        case rel =>
          have e := HFR.out
          rw [if_neg (by rw [HK.out]; simp), List.append_nil] at e
          exact ⟨k + 1, by omega, by go_num, hnw.trans hn2, bPr.new hn2, by rw [e]; exact row_turn7 hrow hn2 (fun _ _ f => f)⟩
        case measure => simp [intOf]; omega
      · have HK : Hid (keepE q a0 l0 ⟨p, a, l, o, xs, nx, md, lc⟩ = true) := by unfold Hid; rw [keepE_iff]; exact decide_eq_true hf
        have HKV : Hid (¬ (q = p ∧ a0 = a ∧ l0 = l)) := hf
        clear hf
        go_upto_region 5 with fail
        go_cut [31] from 16 to 30 (fun u wx => u = .bool true ∧ New wr wx)
        case first =>
          by_cases e1 : q = p
          · subst e1
            have hz : (q != q) = false := by simp
            by_cases e2 : a0 = a
            · subst e2
              have e3 : ¬ l0 = l := fun e => HKV.out ⟨rfl, rfl, e⟩
              have e3' : ¬ l = l0 := fun e => e3 e.symm
              go_wp2_with fail
              refine wp_region_quiet_below (by kernel_rfl) (by kernel_rfl) ?_
              repeat (go_big_quiet_step (fail))
              refine wpQuiet_nil ?_
              rintro w2 hn2
              replace hn2 := new_of_regrown hn2
              go_wp2_with fail
              go_meet
              case rel => exact ⟨rfl, hn2⟩
            · have e2' : ¬ a = a0 := fun e => e2 e.symm
              go_wp2_with fail
              refine wp_region_quiet_below (by kernel_rfl) (by kernel_rfl) ?_
              repeat (go_big_quiet_step (fail))
              refine wpQuiet_nil ?_
              rintro w2 hn2
              replace hn2 := new_of_regrown hn2
              go_wp2_with fail
              go_meet
              case rel => exact ⟨rfl, hn2⟩
          · have hz : (p != q) = true := by simp; omega
            go_wp2_with fail
            refine wp_region_quiet_below (by kernel_rfl) (by kernel_rfl) ?_
            repeat (go_big_quiet_step (fail))
            refine wpQuiet_nil ?_
            rintro w2 hn2
            replace hn2 := new_of_regrown hn2
            go_wp2_with fail
            go_meet
            case rel => exact ⟨rfl, hn2⟩
        case rest =>
        obtain ⟨rfl, hn2⟩ := hcut
        have q0 := hn2.below.cell (World.block_lt_of_cell? _ _ q0) |>.trans q0
        have q1 := hn2.below.cell (World.block_lt_of_cell? _ _ q1) |>.trans q1
        have q2 := hn2.below.cell (World.block_lt_of_cell? _ _ q2) |>.trans q2
        have q3 := hn2.below.cell (World.block_lt_of_cell? _ _ q3) |>.trans q3
        have q4 := hn2.below.cell (World.block_lt_of_cell? _ _ q4) |>.trans q4
        have q5 := hn2.below.cell (World.block_lt_of_cell? _ _ q5) |>.trans q5
        have q6 := hn2.below.cell (World.block_lt_of_cell? _ _ q6) |>.trans q6
        have q7 := hn2.below.cell (World.block_lt_of_cell? _ _ q7) |>.trans q7
        have hrow2 := row_turn7 hrow hn2 (fun _ _ f => f)
        have bP2 := bPr.new hn2
        have hnw2 := hnw.trans hn2
        clear X0 X1 X2 BP hrow bPr hnw hn2
        generalize wc = w2 at *
        have bL := Blk.mk w2 w2.heap.size 31 #[.int .i64 p, .int .i64 a, .int .i64 l, .int .i64 o, .slice x m d, .int .i64 nx, .int .i64 md, .int .i64 lc] rfl
        have hrow3 : (w2.alloc (.cells #[.int .i64 p, .int .i64 a, .int .i64 l, .int .i64 o, .slice x m d, .int .i64 nx, .int .i64 md, .int .i64 lc] 31)).ownsRow (w.heap.size + 1) 31 8 _ W.length (cellsT W) := row_turn7 hrow2 ((New.refl w2).alloc _) (fun _ _ f => f)
        have hsz : w.heap.size + 1 ≤ (w2.alloc (.cells #[.int .i64 p, .int .i64 a, .int .i64 l, .int .i64 o, .slice x m d, .int .i64 nx, .int .i64 md, .int .i64 lc] 31)).heap.size := by have e1 := bP2.lt; simp; omega
        have hsrc : ∀ j, (w2.alloc (.cells #[.int .i64 p, .int .i64 a, .int .i64 l, .int .i64 o, .slice x m d, .int .i64 nx, .int .i64 md, .int .i64 lc] 31)).cell? ⟨w2.heap.size, j, none⟩ = (Rv.mk (Rt.mk p a l o xs nx md lc) x d).cs[j]? := by
          intro j
          rw [bL.cells j]
          unfold Rv.cs
          simp only [HL.out]
          simp
        go_wp2_with (at_builtin; refine wpList_apT _ rfl (.tmp 32) (.tmp 37) rfl (w.heap.size + 1) _ Try.underlying24 hi hz0 hz1 hz2 rfl _ W rfl hrow3 w2.heap.size (Rv.mk (Rt.mk p a l o xs nx md lc) x d) rfl hsrc (by omega) hsz ?_)
        intro v5 w5 hr5 hg5 _
        have N5 : New w w5 := ((hnw2.alloc _).grow hg5 (fun j hj => by have := (row_rng7 hrow2 j hj).1; omega))
        have bP5 := (bP2.alloc (.cells #[.int .i64 p, .int .i64 a, .int .i64 l, .int .i64 o, .slice x m d, .int .i64 nx, .int .i64 md, .int .i64 lc] 31)).grow hg5 (fun e => by have := (row_rng7 hrow2 _ e).1; omega)
        clear hg5 hrow3 hsrc bL hsz
        go_wp2
        go_roundw
        case rel =>
          have e := HFR.out
          rw [if_pos HK.out] at e
          exact ⟨k + 1, by omega, by go_num, N5, bP5, by rw [e, List.length_append]; exact hr5⟩
        case measure => simp [intOf]; omega
    · go_wp2
      go_ret
      rw [List.take_of_length_le (by have := HN.out; omega)] at hrow
      obtain ⟨B, d, rfl, hB, hB1, hB2⟩ := row_rt7 hrow (fun v hv => (h.new hnw).here v ((List.mem_filter.1 hv).1))
      exact ⟨B, d, rfl, hB, hnw, hB1, hB2⟩

end Go.Proofs.Ytnjleachioapdaa
