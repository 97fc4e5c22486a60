/- What is proved here: what the drawing of a route answers. What is proved here: how the model's putting of a route goes, for the draws of lists of routes. What is proved here: what the drawing of a right list of routes answers. What is proved here: what the bending of a list of routes answers. -/
import Derived.Test.YtjampcfikfafkaaGreatXL1
import Derived.Test.YtjampcfikfafkaaGreatR7Cmp
import Derived.Deep.CutRange
import Derived.Test.YtjampcfikfafkaaGreatXE2
import Derived.Test.YtjampcfikfafkaaGreatXE3
import Derived.Maps.AppendAt
import Derived.Deep.RegionLaw
import Derived.Laws.OwnMore
namespace Go.Proofs.YtjampcfikfafkaaGreat
open Go.RowKit Go.Sort
set_option linter.unusedVariables false

theorem set8d (w : World) (B j : Nat) (v0 v1 v2 v3 v4 v5 v6 v7 : Value) : Turn (fun k => k = B) w ((((((((w.setCell ⟨B, j, none⟩ v0).setCell ⟨B, j + 1, none⟩ v1).setCell ⟨B, j + 2, none⟩ v2).setCell ⟨B, j + 3, none⟩ v3).setCell ⟨B, j + 4, none⟩ v4).setCell ⟨B, j + 5, none⟩ v5).setCell ⟨B, j + 6, none⟩ v6).setCell ⟨B, j + 7, none⟩ v7) :=
  ((((((((Turn.refl (fun k => k = B) w).set (p := ⟨B, j, none⟩) rfl v0).set (p := ⟨B, j + 1, none⟩) rfl v1).set (p := ⟨B, j + 2, none⟩) rfl v2).set (p := ⟨B, j + 3, none⟩) rfl v3).set (p := ⟨B, j + 4, none⟩) rfl v4).set (p := ⟨B, j + 5, none⟩) rfl v5).set (p := ⟨B, j + 6, none⟩) rfl v6).set (p := ⟨B, j + 7, none⟩) rfl v7

set_option maxHeartbeats 3200000 in
theorem l7DrawRoute_sc {B n c t : Nat} {a : Option Addr} {zs : List Int} {w : World} (h : Sc w B a n c zs t) (ht : t ≤ 50000) :
    Calls Tryz.prog 56 #[.pointer (some ⟨B, 0, none⟩)] w fun e w' => ∃ (p1 a1 l1 o1 nx1 md1 lc1 : Int) (xs : List Int) (x1 : Option Addr) (c1 t' : Nat), e = .returned (.agg #[.int .i64 p1, .int .i64 a1, .int .i64 l1, .int .i64 o1, .slice x1 xs.length c1, .int .i64 nx1, .int .i64 md1, .int .i64 lc1]) ∧ (0 ≤ p1 ∧ p1 ≤ 2) ∧ pf a1 l1 = 0 ∧ af o1 xs nx1 md1 lc1 = 0 ∧ xs.length ≤ 3 ∧ t' ≤ t + 50 ∧ OwM w' w.heap.size (.slice x1 xs.length c1) xs ∧ Sc w' B a n c zs t' ∧ Turn (fun k => k = B) w w' := by
  have hlt := h.blk.lt
  have hla := h.lt_of
  have N0 : New w (w.alloc (.cells #[.int .i64 0, .int .i64 0, .int .i64 0, .int .i64 0, .slice none 0 0, .int .i64 0, .int .i64 0, .int .i64 0] 38)) := (New.refl w).alloc _
  have bR := Blk.mk w w.heap.size 38 #[.int .i64 0, .int .i64 0, .int .i64 0, .int .i64 0, .slice none 0 0, .int .i64 0, .int .i64 0, .int .i64 0] rfl
  have z0 : w.heap.size < (w.alloc (.cells #[.int .i64 0, .int .i64 0, .int .i64 0, .int .i64 0, .slice none 0 0, .int .i64 0, .int .i64 0, .int .i64 0] 38)).heap.size := by simp
  have hs0 := h.new N0
  have hne : ¬ w.heap.size = B := by omega
  go_enter Tryz.func56, Tryz.ntmps56
  go_upto_region 1 with fail
  generalize w.alloc (.cells #[.int .i64 0, .int .i64 0, .int .i64 0, .int .i64 0, .slice none 0 0, .int .i64 0, .int .i64 0, .int .i64 0] 38) = w0 at *
  go_wp2_with fail
  refine (next_sc hs0 3 (by omega) (by omega)).mono ?_
  rintro e w1 ⟨p1, rfl, ⟨hp0, hp1, -⟩, hs1, ht1⟩
  have hp1 := hp1 (by omega)
  go_wp2_with fail
  refine (l2Prefix_sc hs1 (by omega)).mono ?_
  rintro e w2 ⟨a1, l1, t2, rfl, hpf, ht2, hs2, htr2⟩
  go_wp2_with fail
  refine (l3DrawAttrs_sc hs2 (by omega)).mono ?_
  rintro e w3 ⟨o1, nx1, md1, lc1, xs, x1, c1, t3, rfl, haf, hx3, ht3, hM3, hs3, htr3⟩
  have t03 : Turn (fun k => k = B) w0 w3 := (ht1.both htr2).both htr3
  have bR3 := bR.turn t03 hne
  have s12 := (ht1.both htr2).size
  have tw : Turn (fun k => k = B) w w3 := Turn.trans N0.turn t03 (fun _ _ e => e)
  have cR := bR3.cells
  have fR := bR3.frees
  clear bR hs0 hs1 hs2 ht1 htr2 htr3
  go_wp2
  refine bodyPost_ret (v := .agg #[.int .i64 p1, .int .i64 a1, .int .i64 l1, .int .i64 o1, .slice x1 xs.length c1, .int .i64 nx1, .int .i64 md1, .int .i64 lc1]) (by simp [results, Tryz.results56, go_sem, cR]) rfl ?_
  refine (fun (hT : Turn (fun k => k = w.heap.size) w3 _) => ⟨p1, a1, l1, o1, nx1, md1, lc1, xs, x1, c1, t3, rfl, ⟨hp0, by omega⟩, hpf, haf, hx3, by omega, (hM3.turn hT (fun g hg e => by omega)).low (by omega), hs3.turn hT (fun e => hne e.symm) (fun x h1 h2 e => by have := hla x h1 h2; omega), Turn.trans tw hT (fun i hi e => by omega)⟩) ?_
  exact set8d w3 w.heap.size 0 _ _ _ _ _ _ _ _

end Go.Proofs.YtjampcfikfafkaaGreat

namespace Go.Proofs.YtjampcfikfafkaaGreat
open Go.RowKit Go.Sort
set_option linter.unusedVariables false

theorem cellsT_appd (V U : List Rv) : cellsT (V ++ U) = cellsT V ++ cellsT U := by simp [cellsT]
theorem cellsT_take7 (V : List Rv) (i : Nat) (hi : i ≤ V.length) : (cellsT V).take (i * 8) = cellsT (V.take i) := by
  have h : cellsT V = cellsT (V.take i) ++ cellsT (V.drop i) := by rw [← cellsT_appd, List.take_append_drop]
  rw [h, List.take_left' (by rw [cellsT_len, List.length_take]; congr 1; omega)]
theorem cellsT_drop7 (V : List Rv) (i : Nat) (hi : i ≤ V.length) : (cellsT V).drop (i * 8) = cellsT (V.drop i) := by
  have h : cellsT V = cellsT (V.take i) ++ cellsT (V.drop i) := by rw [← cellsT_appd, List.take_append_drop]
  rw [h, List.drop_left' (by rw [cellsT_len, List.length_take]; congr 1; omega)]
theorem cellsT_one (V : List Rv) : ∀ u ∈ cellsT V, u.oneCell' = true := by
  intro u hu
  unfold cellsT at hu
  obtain ⟨v, -, hv⟩ := List.mem_flatMap.1 hu
  unfold Rv.cs at hv
  simp only [List.mem_cons, List.not_mem_nil, or_false] at hv
  rcases hv with rfl | rfl | rfl | rfl | rfl | rfl | rfl | rfl <;> rfl
def keepP (q : Int) (r : Rt) : Bool := decide (¬ q = r.p)
def keepE (p a l : Int) (r : Rt) : Bool := decide (¬ cmpR p a l r.p r.a r.l = 0)

set_option linter.unusedVariables false

/-- A row of n routes with room for c. -/
abbrev Row7 (A : Option Addr) (n c : Nat) : Prop := (A = none → n = 0 ∧ c = 0) ∧ (∀ x, A = some x → x.off = 0 ∧ x.spot = none ∧ n ≤ c ∧ c ≤ maxLen)

theorem RtAt.here {w : World} {A : Option Addr} {V : List Rv} (h : RtAt w A V) : ∀ v ∈ V, v.here w := by
  intro v hv
  obtain ⟨i, hi⟩ := List.getElem?_of_mem hv
  exact (h i v hi).2
theorem row_rt7 {w : World} {lo : Nat} {u : Value} {W : List Rv} (h : w.ownsRow lo 38 8 u W.length (cellsT W)) (hp : ∀ v ∈ W, v.here w) : ∃ A c, u = .slice A W.length c ∧ RtAt w A W ∧ (A = none → W.length = 0 ∧ c = 0) ∧ (∀ x, A = some x → x.off = 0 ∧ x.spot = none ∧ W.length ≤ c ∧ c ≤ maxLen) := by
  rcases h.2 with ⟨h1, h2⟩ | ⟨g, c, cur, h1, h2, h3, h4, h5, r⟩
  · obtain rfl := List.eq_nil_of_length_eq_zero h2
    exact ⟨none, 0, h1, RtAt.nil _ _, fun _ => ⟨rfl, rfl⟩, by intro x e; cases e⟩
  · have ho : OwRow w g W.length c W := ⟨h.1, .inr ⟨g, c, cur, rfl, Nat.zero_le _, h3, h4, h5, r⟩⟩
    refine ⟨_, c, h1, ho.rt hp, (by intro e; cases e), ?_⟩
    intro x e
    obtain rfl := Option.some.inj e
    exact ⟨rfl, rfl, h4, h5⟩
theorem cmpR_zero (p a l p' a' l' : Int) : cmpR p a l p' a' l' = 0 ↔ (p = p' ∧ a = a' ∧ l = l') := by
  have key : ∀ x y : Int, cmp3 x y = 0 ↔ x = y := by
    intro x y
    unfold cmp3
    split
    · constructor <;> intro h <;> omega
    · split
      · constructor <;> intro h <;> omega
      · constructor <;> intro h <;> omega
  have or2 : ∀ c d : Int, orL [c, d] = 0 ↔ (c = 0 ∧ d = 0) := by
    intro c d
    by_cases h1 : c = 0
    · by_cases h2 : d = 0 <;> simp [orL, h1, h2]
    · simp [orL, h1]
  unfold cmpR
  rw [or2, or2, key, key, key]
  constructor
  · rintro ⟨⟨h1, h2⟩, h3⟩; exact ⟨h3, h1, h2⟩
  · rintro ⟨h1, h2, h3⟩; exact ⟨⟨h2, h3⟩, h1⟩

theorem keepE_iff (q a0 l0 : Int) (r : Rt) : keepE q a0 l0 r = decide (¬ (q = r.p ∧ a0 = r.a ∧ l0 = r.l)) := by
  unfold keepE
  rw [decide_eq_decide, cmpR_zero]

set_option maxHeartbeats 6400000 in
theorem l7Wo_any (q a0 l0 : Int) (A : Option Addr) (N cc : Nat) (V : List Rv) (w : World) (h : RtAt w A V) (hn : V.length = N) (hm : N ≤ 1048576) :
    Calls Tryz.prog 114 #[.slice A N cc, .int .i64 q, .agg #[.int .i64 a0, .int .i64 l0]] w fun e w' => ∃ B d, e = .returned (.slice B (V.filter (fun u => keepE q a0 l0 u.r)).length d) ∧ RtAt w' B (V.filter (fun u => keepE q a0 l0 u.r)) ∧ New w w' ∧ Row7 B (V.filter (fun u => keepE q a0 l0 u.r)).length d := by
  have HN : Hid (V.length = N) := hn
  clear hn
  obtain ⟨i0, hi, hz0, hz1, hz2⟩ := info_parts Tryz.infoRt
  have NL : New w ((w.alloc (.cells #[.int .i64 a0, .int .i64 l0] 33)).alloc (.cells #[] 38)) := ((New.refl w).alloc _).alloc _
  have bP : Blk ((w.alloc (.cells #[.int .i64 a0, .int .i64 l0] 33)).alloc (.cells #[] 38)) w.heap.size 33 #[.int .i64 a0, .int .i64 l0] := (Blk.mk _ _ _ _ rfl).alloc _
  have hL := row_lit7 (lo := w.heap.size + 1) (Blk.mk (w.alloc (.cells #[.int .i64 a0, .int .i64 l0] 33)) (w.heap.size + 1) 38 #[] (by simp)) (Nat.le_refl _)
  go_enter Tryz.func114, Tryz.ntmps114
  go_wp2
  go_loopw [7, 8] (fun s i wr => ∃ k : Nat, k ≤ N ∧ i = .int .i64 k ∧ New w wr ∧ Blk wr w.heap.size 33 #[.int .i64 a0, .int .i64 l0] ∧ wr.ownsRow (w.heap.size + 1) 38 8 s ((V.take k).filter (fun u => keepE q a0 l0 u.r)).length (cellsT ((V.take k).filter (fun u => keepE q a0 l0 u.r)))) (fun _ i _ => N - (intOf i).toNat)
  case atStart => exact ⟨0, Nat.zero_le _, rfl, NL, bP, hL⟩
  case round =>
    clear NL hL bP
    obtain ⟨k, hk, rfl, hnw, bPr, hrow⟩ := hrel
    by_cases hlt : k < N
    · obtain ⟨b, off, p, a, l, o, nx, md, lc, x, m, d, xs, rfl, hv, hlen, hns, hnl, hmx, q0, q1, q2, q3, q4, q5, q6, q7⟩ := (h.new hnw).at k (by have := HN.out; omega)
      have HL : Hid (xs.length = m) := hlen
      have HFR : Hid _ := filter_next (K := keepE q a0 l0) hv
      have hle : ((V.take k).filter (fun u => keepE q a0 l0 u.r)).length ≤ k := by
        have h1 := List.length_filter_le (fun u : Rv => keepE q a0 l0 u.r) (V.take k)
        have h2 : (V.take k).length ≤ k := by rw [List.length_take]; omega
        omega
      generalize hW : (V.take k).filter (fun u => keepE q a0 l0 u.r) = W at *
      clear hv hlen hW
      have X0 := cell_regrown q0
      have X1 := cell_regrown q1
      have X2 := cell_regrown q2
      have BP := blk_regrown bPr
      by_cases hf : q = p ∧ a0 = a ∧ l0 = l
      · obtain ⟨rfl, rfl, rfl⟩ := hf
        have hz : (q != q) = false := by simp
        have HK : Hid (keepE q a0 l0 ⟨q, a0, l0, o, xs, nx, md, lc⟩ = false) := by unfold Hid; rw [keepE_iff]; simp
        go_wp2_with fail
        refine wp_region_quiet_below (by kernel_rfl) (by kernel_rfl) ?_
        repeat (go_big_quiet_step (fail))
        refine wpQuiet_nil ?_
        rintro w2 hn2
        replace hn2 := new_of_regrown hn2
        go_wp2
        go_roundw
        case rel =>
          have e := HFR.out
          rw [if_neg (by rw [HK.out]; simp), List.append_nil] at e
          exact ⟨k + 1, by omega, by go_num, hnw.trans hn2, bPr.new hn2, by rw [e]; exact row_turn7 hrow hn2 (fun _ _ f => f)⟩
        case measure => simp [intOf]; omega
      · have HK : Hid (keepE q a0 l0 ⟨p, a, l, o, xs, nx, md, lc⟩ = true) := by unfold Hid; rw [keepE_iff]; exact decide_eq_true hf
        have HKV : Hid (¬ (q = p ∧ a0 = a ∧ l0 = l)) := hf
        clear hf
        go_upto_region 5 with fail
        go_cut [31] from 16 to 30 (fun u wx => u = .bool true ∧ New wr wx)
        case first =>
          by_cases e1 : q = p
          · subst e1
            have hz : (q != q) = false := by simp
            by_cases e2 : a0 = a
            · subst e2
              have e3 : ¬ l0 = l := fun e => HKV.out ⟨rfl, rfl, e⟩
              have e3' : ¬ l = l0 := fun e => e3 e.symm
              go_wp2_with fail
              refine wp_region_quiet_below (by kernel_rfl) (by kernel_rfl) ?_
              repeat (go_big_quiet_step (fail))
              refine wpQuiet_nil ?_
              rintro w2 hn2
              replace hn2 := new_of_regrown hn2
              go_wp2_with fail
              go_meet
              case rel => exact ⟨rfl, hn2⟩
            · have e2' : ¬ a = a0 := fun e => e2 e.symm
              go_wp2_with fail
              refine wp_region_quiet_below (by kernel_rfl) (by kernel_rfl) ?_
              repeat (go_big_quiet_step (fail))
              refine wpQuiet_nil ?_
              rintro w2 hn2
              replace hn2 := new_of_regrown hn2
              go_wp2_with fail
              go_meet
              case rel => exact ⟨rfl, hn2⟩
          · have hz : (p != q) = true := by simp; omega
            go_wp2_with fail
            refine wp_region_quiet_below (by kernel_rfl) (by kernel_rfl) ?_
            repeat (go_big_quiet_step (fail))
            refine wpQuiet_nil ?_
            rintro w2 hn2
            replace hn2 := new_of_regrown hn2
            go_wp2_with fail
            go_meet
            case rel => exact ⟨rfl, hn2⟩
        case rest =>
        obtain ⟨rfl, hn2⟩ := hcut
        have q0 := hn2.below.cell (World.block_lt_of_cell? _ _ q0) |>.trans q0
        have q1 := hn2.below.cell (World.block_lt_of_cell? _ _ q1) |>.trans q1
        have q2 := hn2.below.cell (World.block_lt_of_cell? _ _ q2) |>.trans q2
        have q3 := hn2.below.cell (World.block_lt_of_cell? _ _ q3) |>.trans q3
        have q4 := hn2.below.cell (World.block_lt_of_cell? _ _ q4) |>.trans q4
        have q5 := hn2.below.cell (World.block_lt_of_cell? _ _ q5) |>.trans q5
        have q6 := hn2.below.cell (World.block_lt_of_cell? _ _ q6) |>.trans q6
        have q7 := hn2.below.cell (World.block_lt_of_cell? _ _ q7) |>.trans q7
        have hrow2 := row_turn7 hrow hn2 (fun _ _ f => f)
        have bP2 := bPr.new hn2
        have hnw2 := hnw.trans hn2
        clear X0 X1 X2 BP hrow bPr hnw hn2
        generalize wc = w2 at *
        have bL := Blk.mk w2 w2.heap.size 38 #[.int .i64 p, .int .i64 a, .int .i64 l, .int .i64 o, .slice x m d, .int .i64 nx, .int .i64 md, .int .i64 lc] rfl
        have hrow3 : (w2.alloc (.cells #[.int .i64 p, .int .i64 a, .int .i64 l, .int .i64 o, .slice x m d, .int .i64 nx, .int .i64 md, .int .i64 lc] 38)).ownsRow (w.heap.size + 1) 38 8 _ W.length (cellsT W) := row_turn7 hrow2 ((New.refl w2).alloc _) (fun _ _ f => f)
        have hsz : w.heap.size + 1 ≤ (w2.alloc (.cells #[.int .i64 p, .int .i64 a, .int .i64 l, .int .i64 o, .slice x m d, .int .i64 nx, .int .i64 md, .int .i64 lc] 38)).heap.size := by have e1 := bP2.lt; simp; omega
        have hsrc : ∀ j, (w2.alloc (.cells #[.int .i64 p, .int .i64 a, .int .i64 l, .int .i64 o, .slice x m d, .int .i64 nx, .int .i64 md, .int .i64 lc] 38)).cell? ⟨w2.heap.size, j, none⟩ = (Rv.mk (Rt.mk p a l o xs nx md lc) x d).cs[j]? := by
          intro j
          rw [bL.cells j]
          unfold Rv.cs
          simp only [HL.out]
          simp
        go_wp2_with (at_builtin; refine wpList_apT _ rfl (.tmp 32) (.tmp 37) rfl (w.heap.size + 1) _ Tryz.underlying24 hi hz0 hz1 hz2 rfl _ W rfl hrow3 w2.heap.size (Rv.mk (Rt.mk p a l o xs nx md lc) x d) rfl hsrc (by omega) hsz ?_)
        intro v5 w5 hr5 hg5 _
        have N5 : New w w5 := ((hnw2.alloc _).grow hg5 (fun j hj => by have := (row_rng7 hrow2 j hj).1; omega))
        have bP5 := (bP2.alloc (.cells #[.int .i64 p, .int .i64 a, .int .i64 l, .int .i64 o, .slice x m d, .int .i64 nx, .int .i64 md, .int .i64 lc] 38)).grow hg5 (fun e => by have := (row_rng7 hrow2 _ e).1; omega)
        clear hg5 hrow3 hsrc bL hsz
        go_wp2
        go_roundw
        case rel =>
          have e := HFR.out
          rw [if_pos HK.out] at e
          exact ⟨k + 1, by omega, by go_num, N5, bP5, by rw [e, List.length_append]; exact hr5⟩
        case measure => simp [intOf]; omega
    · go_wp2
      go_ret
      rw [List.take_of_length_le (by have := HN.out; omega)] at hrow
      obtain ⟨B, d, rfl, hB, hB1, hB2⟩ := row_rt7 hrow (fun v hv => (h.new hnw).here v ((List.mem_filter.1 hv).1))
      exact ⟨B, d, rfl, hB, hnw, hB1, hB2⟩

def insR (R : List Rt) (r : Rt) : List Rt := R.take (tw (fun s => s.lt r) R) ++ [r] ++ R.drop (tw (fun s => s.lt r) R)
theorem tw_le (K : Rt → Bool) (R : List Rt) : tw K R ≤ R.length := by unfold tw; exact (List.takeWhile_sublist K).length_le
theorem OwT.low {w : World} {lo lo' hi : Nat} {u : Value} {V : List Rv} (h : OwT w lo hi u V) (hl : lo' ≤ lo) : OwT w lo' hi u V := by
  refine ⟨⟨h.row.1, ?_⟩, h.rhi, h.path.low hl⟩
  rcases h.row.2 with h' | ⟨g', cap', cur, h', hb, r⟩
  · exact .inl h'
  · exact .inr ⟨g', cap', cur, h', by omega, r⟩

set_option linter.unusedVariables false

/-- The cells of the routes lie at the address. -/
def TsAt (w : World) (A : Option Addr) (U : List Rv) : Prop := ∀ j u, (cellsT U)[j]? = some u → ∃ b off, A = some ⟨b, off, none⟩ ∧ w.cell? ⟨b, off + j, none⟩ = some u
theorem TsAt.new {w w' : World} {A : Option Addr} {U : List Rv} (h : TsAt w A U) (t : New w w') : TsAt w' A U := by
  intro j u hu
  obtain ⟨b, off, ha, hc⟩ := h j u hu
  exact ⟨b, off, ha, (t.below.cell (World.block_lt_of_cell? _ _ hc)).trans hc⟩
theorem TsAt.turn {w w' : World} {A : Option Addr} {U : List Rv} {S : Nat → Prop} (h : TsAt w A U) (t : Turn S w w') (hS : ∀ x, A = some x → ¬ S x.block) : TsAt w' A U := by
  intro j u hu
  obtain ⟨b, off, ha, hc⟩ := h j u hu
  exact ⟨b, off, ha, (World.cell?_of_block (t.block b (World.block_lt_of_cell? _ _ hc) (hS _ ha))).trans hc⟩
theorem RtAt.ts {w : World} {A : Option Addr} {V : List Rv} (h : RtAt w A V) : TsAt w A V := by
  intro q u hu
  have hq : q < V.length * 8 := by rw [← cellsT_len]; exact (List.getElem?_eq_some_iff.1 hu).1
  have hi : q / 8 < V.length := by omega
  obtain ⟨⟨b, off, ha, hc⟩, -⟩ := h (q / 8) _ (List.getElem?_eq_getElem hi)
  have h1 := cellsT_get V (q / 8) _ (List.getElem?_eq_getElem hi) (q % 8) (by omega)
  rw [show q / 8 * 8 + q % 8 = q by omega, hu] at h1
  refine ⟨b, off, ha, ?_⟩
  have h2 := hc (q % 8) (by omega)
  rw [← h1] at h2
  rw [← h2]
  congr 2
  omega
theorem TsAt.take {w : World} {A : Option Addr} {V : List Rv} (h : TsAt w A V) (k : Nat) (hk : k ≤ V.length) : TsAt w A (V.take k) := by
  intro j u hu
  rw [← cellsT_take7 V k hk, List.getElem?_take] at hu
  split at hu
  · exact h j u hu
  · cases hu
theorem TsAt.drop {w : World} {g k : Nat} {V : List Rv} (h : TsAt w (some ⟨g, 0, none⟩) V) (hk : k ≤ V.length) : TsAt w (some ⟨g, k * 8, none⟩) (V.drop k) := by
  intro j u hu
  rw [← cellsT_drop7 V k hk, List.getElem?_drop] at hu
  obtain ⟨b, off, ha, hc⟩ := h (k * 8 + j) u hu
  simp only [Option.some.injEq, Addr.mk.injEq, and_true] at ha
  obtain ⟨rfl, rfl⟩ := ha
  exact ⟨g, k * 8, rfl, by simpa using hc⟩
theorem TsAt.empty {w : World} {A : Option Addr} {V : List Rv} (h : V = []) : TsAt w A V := by
  subst h
  intro j u hu
  simp [cellsT] at hu
theorem TsAt.blk {w : World} {L : Nat} {v : Rv} {cs : Array Value} (h : Blk w L 38 cs) (e : cs = v.cs.toArray) : TsAt w (some ⟨L, 0, none⟩) [v] := by
  subst e
  intro j u hu
  refine ⟨L, 0, rfl, ?_⟩
  rw [Nat.zero_add, h.cells j]
  simpa [cellsT] using hu

section
variable {P : Program} {t e : TypeId} {i : TypeInfo}
/-- Appending routes to a list that the call owns, as one step of a region that draws. -/
theorem step_apT (w : World) {ops : Array Oper} {o : Oper} {a : Act} {K : Act → World → Prop} {Q : Exit → Act → World → Prop} {E : Prop} (hgd : o.guard = none) (s x : Operand)
    (ho : o.op = .call { callee := .builtin .append, args := #[s, x], argTypes := #[t, t] }) (base : Nat) (zero : Value) (ht : P.underlying t = some (.slice e)) (hi : P.info? e = some i) (hz : i.zero = some zero) (hs : i.size = 8) (hb : i.bytes = 80) (hz1 : zero.cells.size = 8)
    (v : Value) (rs : List Rv) (hsv : a.eval s = v) (hown : w.ownsRow base e 8 v rs.length (cellsT rs))
    (ao : Option Addr) (m c : Nat) (zs : List Rv) (hxv : a.eval x = .slice ao m c) (hsrc : TsAt w ao zs) (hm : zs.length = m) (hnone : ao = none → m = 0 ∧ c = 0) (hle : rs.length + m ≤ 4194304) (hbase : base ≤ w.heap.size)
    (h : ∀ v' w', w'.ownsRow base e 8 v' (rs ++ zs).length (cellsT (rs ++ zs)) → w.grownBy w' v.ownBlock → K (a.put o.dst v') w') :
    if Region.wanted o (yielded ops a.tmps) = true then Oper.wp P o a w K Q else E := by
  have hw : Region.wanted o (yielded ops a.tmps) = true := by simp [Region.wanted, hgd]
  rw [if_pos hw]
  have key : ∃ v' w', (Builtin.append_ #[t, t] o.type #[v, .slice ao m c]).run P w = .ok v' w' ∧ w'.ownsRow base e 8 v' (rs ++ zs).length (cellsT (rs ++ zs)) ∧ w.grownBy w' v.ownBlock := by
    cases ao with
    | none =>
      obtain ⟨rfl, rfl⟩ := hnone rfl
      obtain rfl : zs = [] := List.eq_nil_of_length_eq_zero hm
      have hrun := run_append_owned_none (P := P) w base t o.type e i 8 ht hi v rs.length _ hown
      exact ⟨v, w, by simpa using hrun, by simpa using hown, World.grownBy.refl _ _⟩
    | some ad =>
      have hnews : ∀ j u, (cellsT zs)[j]? = some u → w.cell? (ad.add j) = some u := by
        intro j u hu
        obtain ⟨b, off, ha, hc⟩ := hsrc j u hu
        obtain rfl := Option.some.inj ha
        rw [Addr.add_lit]
        exact hc
      obtain ⟨v', w', hr, h2, h3, _, h5⟩ := run_append_own_at (P := P) w base t o.type e i zero 8 80 ht hi hz hs hb hz1 (by decide) v rs.length _ hown ad m c (cellsT zs) (by rw [cellsT_len, hm]) hnews (cellsT_one zs) (by unfold maxLen; omega) (by omega) hbase
      exact ⟨v', w', hr, by rw [List.length_append, hm, cellsT_appd]; exact h2, h3⟩
  obtain ⟨v', w', hr, h2, h3⟩ := key
  unfold Oper.wp execOp
  simp only [ho, resolve, invoke, builtin, Sem.run_bind, Sem.run_pure, Result.andThen_ok, List.map_toArray, List.map_cons, List.map_nil, hsv, hxv, hr]
  exact h v' w' h2 h3
end

theorem row_low7 {w : World} {lo lo' n : Nat} {u : Value} {cs : List Value} (h : w.ownsRow lo 38 8 u n cs) (hl : lo' ≤ lo) : w.ownsRow lo' 38 8 u n cs := by
  refine ⟨h.1, ?_⟩
  rcases h.2 with h' | ⟨g', cap', cur, h', hb, r⟩
  · exact .inl h'
  · exact .inr ⟨g', cap', cur, h', by omega, r⟩

/-- The next route is ahead. -/
def nextLt (U : List Rt) (k : Nat) (r : Rt) : Bool := match U[k]? with | some s => s.lt r | none => false

set_option maxRecDepth 100000 in
set_option maxHeartbeats 12800000 in
theorem l7Put_any (p a l o nx md lc : Int) (x : Option Addr) (n c : Nat) (xs : List Int) (A : Option Addr) (N cc : Nat) (V : List Rv) (w : World) (h : RtAt w A V) (hn : V.length = N) (hm : N ≤ 60) (hx : Rv.here w (Rv.mk (Rt.mk p a l o xs nx md lc) x c)) (hxn : xs.length = n) :
    Calls Tryz.prog 92 #[.slice A N cc, .agg #[.int .i64 p, .int .i64 a, .int .i64 l, .int .i64 o, .slice x n c, .int .i64 nx, .int .i64 md, .int .i64 lc]] w fun e w' => ∃ B d U, e = .returned (.slice B U.length d) ∧ U.map Rv.r = insR ((V.map Rv.r).filter (keepE p a l)) (Rt.mk p a l o xs nx md lc) ∧ RtAt w' B U ∧ New w w' ∧ w'.ownsRow w.heap.size 38 8 (.slice B U.length d) U.length (cellsT U) ∧ (∀ v ∈ U, v ∈ V ∨ v = Rv.mk (Rt.mk p a l o xs nx md lc) x c) := by
  have HN : Hid (V.length = N) := hn
  have HX : Hid (xs.length = n) := hxn
  obtain ⟨i0, hi, hz0, hz1, hz2⟩ := info_parts Tryz.infoRt
  have N0 := (New.refl w).alloc (.cells #[.int .i64 p, .int .i64 a, .int .i64 l, .int .i64 o, .slice x n c, .int .i64 nx, .int .i64 md, .int .i64 lc] 38)
  have bA := Blk.mk w w.heap.size 38 #[.int .i64 p, .int .i64 a, .int .i64 l, .int .i64 o, .slice x n c, .int .i64 nx, .int .i64 md, .int .i64 lc] rfl
  clear hn hxn
  go_enter Tryz.func92, Tryz.ntmps92
  go_upto_region 1 with fail
  generalize w.alloc (.cells #[.int .i64 p, .int .i64 a, .int .i64 l, .int .i64 o, .slice x n c, .int .i64 nx, .int .i64 md, .int .i64 lc] 38) = w0 at *
  have cA := bA.cells
  go_wp2_with fail
  refine (l7Wo_any p a l A N cc V _ (h.new N0) HN.out (by omega)).mono ?_
  rintro e w1 ⟨B, d, rfl, hr1, h1, hrow⟩
  have hle1 : (V.filter (fun u => keepE p a l u.r)).length ≤ N := by
    have h1 := List.length_filter_le (fun u : Rv => keepE p a l u.r) V
    have h2 := HN.out
    omega
  have HM1 : Hid _ := filter_map7 (keepE p a l) V
  have hmem : Hid (∀ v ∈ V.filter (fun u => keepE p a l u.r), v.here w1) := hr1.here
  have hsub : Hid (∀ v ∈ V.filter (fun u => keepE p a l u.r), v ∈ V) := fun v hv => (List.mem_filter.1 hv).1
  generalize V.filter (fun u => keepE p a l u.r) = U at *
  have bA := bA.new h1
  have n1 := N0.trans h1
  clear N0 h1 cA h
  go_wp2
  go_loopw [6] (fun i wr => ∃ k : Nat, k ≤ U.length ∧ i = .int .i64 k ∧ New w1 wr ∧ ∀ (j : Nat) (s : Rt), j < k → (U.map Rv.r)[j]? = some s → s.lt (Rt.mk p a l o xs nx md lc) = true) (fun i _ => U.length - (intOf i).toNat)
  case atStart => exact ⟨0, Nat.zero_le _, rfl, New.refl _, by intro j s hj; omega⟩
  case round =>
    obtain ⟨k, hk, rfl, hnw, hall⟩ := hrel
    have HALL : Hid _ := hall
    clear hall
    obtain ⟨t, ht⟩ : ∃ t, Hid (nextLt (U.map Rv.r) k (Rt.mk p a l o xs nx md lc) = t) := ⟨_, rfl⟩
    have bAr := bA.new hnw
    go_upto_region 3 with fail
    go_cut [24] from 13 to 23 (fun u wx => u = .bool t ∧ New wr wx)
    case first =>
      by_cases hlt : k < U.length
      · obtain ⟨b, off, p', a', l', o', nx', md', lc', x', m', d', ys, hA2, hv, hlen, hns, hnl, hmx, q0, q1, q2, q3, q4, q5, q6, q7⟩ := (hr1.new hnw).at k hlt
        subst hA2
        have ht' : t = Rt.lt ⟨p', a', l', o', ys, nx', md', lc'⟩ (Rt.mk p a l o xs nx md lc) := by
          have := ht.out
          unfold nextLt at this
          rw [List.getElem?_map, hv] at this
          exact this.symm
        have HT : Hid (decide (cmpR p' a' l' p a l < 0) = t) := ht'.symm
        clear hv hlen hns hnl ht'
        have X0 := cell_regrown q0
        have X1 := cell_regrown q1
        have X2 := cell_regrown q2
        have X3 := cell_regrown q3
        have X4 := cell_regrown q4
        have X5 := cell_regrown q5
        have X6 := cell_regrown q6
        have X7 := cell_regrown q7
        have BT := blk_regrown bAr
        refine wp_region_quiet_below (by kernel_rfl) (by kernel_rfl) ?_
        repeat (go_big_quiet_step ((go_at_call 69; exact calls_regrown (behind7 p' a' l' o' nx' md' lc' x' m' d' p a l o nx md lc x n c t _ HT.out))))
        refine wpQuiet_nil ?_
        rintro w2 hn2
        replace hn2 := new_of_regrown hn2
        go_wp2_with fail
        go_meet
        case rel => exact ⟨rfl, hn2⟩
      · have ht' : t = false := by
          have := ht.out
          unfold nextLt at this
          have hno : (U.map Rv.r)[k]? = none := List.getElem?_eq_none (by rw [List.length_map]; omega)
          simp only [hno] at this
          exact this.symm
        subst ht'
        refine wp_region_quiet_below (by kernel_rfl) (by kernel_rfl) ?_
        repeat (go_big_quiet_step (fail))
        refine wpQuiet_nil ?_
        rintro w2 hn2
        replace hn2 := new_of_regrown hn2
        go_wp2_with fail
        go_meet
        case rel => exact ⟨rfl, hn2⟩
    case rest =>
    obtain ⟨rfl, hn2⟩ := hcut
    generalize wc = w2 at *
    have hnw2 := hnw.trans hn2
    have bA2 := bAr.new hn2
    cases t with
    | true =>
      have hkl : k < U.length := by
        rcases Nat.lt_or_ge k U.length with e | e
        · exact e
        · have := ht.out
          unfold nextLt at this
          have hno : (U.map Rv.r)[k]? = none := List.getElem?_eq_none (by rw [List.length_map]; omega)
          simp only [hno] at this
          cases this
      go_wp2
      go_roundw
      case rel =>
        refine ⟨k + 1, by omega, by go_num, hnw2, ?_⟩
        intro j s hj hs
        rcases Nat.lt_or_eq_of_le (show j ≤ k by omega) with e | e
        · exact HALL.out j s e hs
        · subst e
          have := ht.out
          unfold nextLt at this
          rw [hs] at this
          exact this
      case measure => simp [intOf]; omega
    | false =>
      have HT : Hid (tw (fun s => s.lt (Rt.mk p a l o xs nx md lc)) (U.map Rv.r) = k) := tw_of _ _ k (by simpa using hk) (fun j s hj hs => HALL.out j s hj hs) (fun s hs => by have := ht.out; unfold nextLt at this; rw [hs] at this; exact this)
      have hts := (hr1.new hnw2).ts
      have hL1 : (U.take k).length = k := by rw [List.length_take]; omega
      have hL2 : (U.drop k).length = U.length - k := List.length_drop
      have eC : Hid (#[.int .i64 p, .int .i64 a, .int .i64 l, .int .i64 o, .slice x n c, .int .i64 nx, .int .i64 md, .int .i64 lc] = (Rv.cs (Rv.mk (Rt.mk p a l o xs nx md lc) x c)).toArray) := by show _ = _; unfold Rv.cs; simp only [HX.out]
      have cA2 := bA2.cells
      have cA3 : ∀ ob j, (w2.alloc ob).cell? ⟨w.heap.size, j, none⟩ = #[Value.int .i64 p, .int .i64 a, .int .i64 l, .int .i64 o, .slice x n c, .int .i64 nx, .int .i64 md, .int .i64 lc][j]? := fun ob => (bA2.alloc ob).cells
      cases B with
      | none =>
        obtain ⟨h0, rfl⟩ := hrow.1 rfl
        obtain rfl := List.eq_nil_of_length_eq_zero h0
        obtain rfl : k = 0 := by simpa using hk
        have hT1 : TsAt w2 none (([] : List Rv).take 0) := TsAt.empty rfl
        have hT2 : TsAt w2 none (([] : List Rv).drop 0) := TsAt.empty rfl
        go_upto_region 5 with fail
        go_region_law (first
          | (refine step_apT _ rfl (.tmp 31) (.tmp 33) rfl w2.heap.size _ Tryz.underlying24 hi hz0 hz1 hz2 rfl _ [] rfl (by first | exact row_lit7 (Blk.mk _ _ _ _ (by first | rfl | simp)) (by first | exact Nat.le_refl _ | (simp; done)) | exact row_turn7 (row_lit7 (Blk.mk _ _ _ _ (by first | rfl | simp)) (by first | exact Nat.le_refl _ | (simp; done))) ((New.refl _).alloc _) (fun _ _ f => f) | exact row_turn7 (row_lit7 (Blk.mk _ _ _ _ (by first | rfl | simp)) (by first | exact Nat.le_refl _ | (simp; done))) ((New.refl _).drew) (fun _ _ f => f) | exact row_turn7 (row_lit7 (Blk.mk _ _ _ _ (by first | rfl | simp)) (by first | exact Nat.le_refl _ | (simp; done))) (((New.refl _).alloc _).drew) (fun _ _ f => f)) _ 1 1 [Rv.mk (Rt.mk p a l o xs nx md lc) x c] rfl (by first | exact TsAt.blk (Blk.mk _ _ _ _ (by first | rfl | simp)) eC.out | exact TsAt.blk ((Blk.mk _ _ _ _ (by first | rfl | simp)).alloc _) eC.out | exact TsAt.blk ((Blk.mk _ _ _ _ (by first | rfl | simp)).new ((New.refl _).drew)) eC.out | exact TsAt.blk (((Blk.mk _ _ _ _ (by first | rfl | simp)).alloc _).new ((New.refl _).drew)) eC.out | exact TsAt.blk bL3 eC.out | exact TsAt.blk bL4 eC.out) rfl (by intro e; cases e) (by simp) (by first | (simp; done) | (simp; omega)) ?_; intro v4 w4 ho4 hg4; have N4 : New w2 w4 := New.grow (by first | exact (New.refl _).alloc _ | exact ((New.refl _).alloc _).alloc _ | exact ((New.refl _).drew).alloc _ | exact (((New.refl _).drew).alloc _).alloc _ | exact ((New.refl _).alloc _).drew | exact (((New.refl _).alloc _).alloc _).drew) hg4 (by intro j hj; have e' := Option.some.inj hj; rw [← e']; first | exact Nat.le_refl _ | (simp; done)))
          | (refine step_apT _ rfl (.tmp 34) (.tmp 37) rfl w2.heap.size _ Tryz.underlying24 hi hz0 hz1 hz2 rfl _ ([] ++ [Rv.mk (Rt.mk p a l o xs nx md lc) x c]) rfl ho4 none 0 0 [] rfl (TsAt.empty rfl) rfl (fun _ => ⟨rfl, rfl⟩) (by simp) (by have := N4.size; omega) ?_; intro v5 w5 ho5 hg5; have N5 : New w2 w5 := New.grow N4 hg5 (fun j hj => (row_rng7 ho4 j hj).1)))
        all_goals
          go_wp2
          go_ret
          obtain ⟨B5, d5, rfl, hB5, -⟩ := row_rt7 ho5 (fun v hv => by
            simp only [List.nil_append, List.append_nil, List.mem_singleton] at hv
            rw [hv]
            exact hx.new ((n1.trans hnw2).trans N5))
          exact ⟨B5, d5, _, rfl, by rw [← HM1.out]; unfold insR; rw [HT.out]; simp, hB5, (n1.trans hnw2).trans N5, row_low7 ho5 (n1.trans hnw2).size, fun v hv => by simp only [List.nil_append, List.append_nil, List.mem_singleton] at hv; exact .inr hv⟩
      | some y =>
        obtain ⟨g, off, spot⟩ := y
        obtain ⟨e1, e2, hUd, hdm⟩ := hrow.2 _ rfl
        simp only at e1 e2
        subst e1
        subst e2
        have hT1 := hts.take k hk
        have hd63 : d ≤ 9223372036854775807 := by unfold maxLen at hdm; omega
        have hkd : k ≤ d := by omega
        by_cases hdk : d = k
        · have hUk : U.length ≤ k := by omega
          go_upto_region 5 with fail
          go_region_law (first
            | (refine step_apT _ rfl (.tmp 27) (.tmp 30) rfl w2.heap.size _ Tryz.underlying24 hi hz0 hz1 hz2 rfl _ [] rfl (by first | exact row_lit7 (Blk.mk _ _ _ _ (by first | rfl | simp)) (by first | exact Nat.le_refl _ | (simp; done)) | exact row_turn7 (row_lit7 (Blk.mk _ _ _ _ (by first | rfl | simp)) (by first | exact Nat.le_refl _ | (simp; done))) ((New.refl _).alloc _) (fun _ _ f => f) | exact row_turn7 (row_lit7 (Blk.mk _ _ _ _ (by first | rfl | simp)) (by first | exact Nat.le_refl _ | (simp; done))) ((New.refl _).drew) (fun _ _ f => f) | exact row_turn7 (row_lit7 (Blk.mk _ _ _ _ (by first | rfl | simp)) (by first | exact Nat.le_refl _ | (simp; done))) (((New.refl _).alloc _).drew) (fun _ _ f => f)) (some ⟨g, 0, none⟩) k _ (U.take k) rfl (hT1.new (by first | exact (New.refl _).alloc _ | exact ((New.refl _).alloc _).alloc _ | exact ((New.refl _).drew).alloc _ | exact (((New.refl _).drew).alloc _).alloc _ | exact ((New.refl _).alloc _).drew | exact (((New.refl _).alloc _).alloc _).drew)) hL1 (by intro e; cases e) (by simp; omega) (by first | (simp; done) | (simp; omega)) ?_; intro v3 w3 ho3 hg3; have N3 : New w2 w3 := New.grow (by first | exact (New.refl _).alloc _ | exact ((New.refl _).alloc _).alloc _ | exact ((New.refl _).drew).alloc _ | exact (((New.refl _).drew).alloc _).alloc _ | exact ((New.refl _).alloc _).drew | exact (((New.refl _).alloc _).alloc _).drew) hg3 (by intro j hj; have e' := Option.some.inj hj; rw [← e']; first | exact Nat.le_refl _ | (simp; done)); (try have bL3 : Blk w3 (w2.heap.size + 1) 38 #[.int .i64 p, .int .i64 a, .int .i64 l, .int .i64 o, .slice x n c, .int .i64 nx, .int .i64 md, .int .i64 lc] := (by first | exact ((Blk.mk _ (w2.heap.size + 1) _ _ (by simp)).new ((New.refl _).drew)).grow hg3 (by intro e; have e' := Option.some.inj e; simp at e') | exact (Blk.mk _ (w2.heap.size + 1) _ _ (by simp)).grow hg3 (by intro e; have e' := Option.some.inj e; simp at e'))); (try have bL4 : Blk w3 w2.heap.size 38 #[.int .i64 p, .int .i64 a, .int .i64 l, .int .i64 o, .slice x n c, .int .i64 nx, .int .i64 md, .int .i64 lc] := (by first | exact (((Blk.mk _ w2.heap.size _ _ rfl).alloc _).new ((New.refl _).drew)).grow hg3 (by intro e; have e' := Option.some.inj e; simp at e') | exact ((Blk.mk _ w2.heap.size _ _ rfl).alloc _).grow hg3 (by intro e; have e' := Option.some.inj e; simp at e'))); have cA4 := (bA2.new N3).cells; have cA5 := fun ob => ((bA2.new N3).alloc ob).cells)
            | (refine step_apT _ rfl (.tmp 31) (.tmp 33) rfl w2.heap.size _ Tryz.underlying24 hi hz0 hz1 hz2 rfl _ ([] ++ U.take k) rfl (by first | exact ho3 | exact row_turn7 ho3 ((New.refl _).alloc _) (fun _ _ f => f)) _ 1 1 [Rv.mk (Rt.mk p a l o xs nx md lc) x c] rfl (by first | exact TsAt.blk (Blk.mk _ _ _ _ (by first | rfl | simp)) eC.out | exact TsAt.blk ((Blk.mk _ _ _ _ (by first | rfl | simp)).alloc _) eC.out | exact TsAt.blk ((Blk.mk _ _ _ _ (by first | rfl | simp)).new ((New.refl _).drew)) eC.out | exact TsAt.blk (((Blk.mk _ _ _ _ (by first | rfl | simp)).alloc _).new ((New.refl _).drew)) eC.out | exact TsAt.blk bL3 eC.out | exact TsAt.blk bL4 eC.out) rfl (by intro e; cases e) (by simp; omega) (by have := N3.size; first | omega | (simp; omega)) ?_; intro v4 w4 ho4 hg4; have N4 : New w2 w4 := New.grow (by first | exact N3 | exact N3.alloc _) hg4 (fun j hj => (row_rng7 ho3 j hj).1))
            | (refine step_apT _ rfl (.tmp 34) (.tmp 37) rfl w2.heap.size _ Tryz.underlying24 hi hz0 hz1 hz2 rfl _ ([] ++ U.take k ++ [Rv.mk (Rt.mk p a l o xs nx md lc) x c]) rfl ho4 _ _ _ (U.drop k) rfl (TsAt.empty (List.drop_eq_nil_of_le (by omega))) (by rw [List.length_drop]; omega) (by intro e; first | cases e | exact ⟨rfl, rfl⟩ | exact ⟨by omega, by omega⟩) (by simp; omega) (by have := N4.size; omega) ?_; intro v5 w5 ho5 hg5; have N5 : New w2 w5 := New.grow N4 hg5 (fun j hj => (row_rng7 ho4 j hj).1)))
          all_goals
            go_wp2
            go_ret
            obtain ⟨B5, d5, rfl, hB5, -⟩ := row_rt7 ho5 (fun v hv => by
              simp only [List.nil_append, List.mem_append, List.mem_singleton] at hv
              rcases hv with (hv | hv) | hv
              · exact (hmem.out v (List.mem_of_mem_take hv)).new (hnw2.trans N5)
              · rw [hv]; exact hx.new ((n1.trans hnw2).trans N5)
              · exact (hmem.out v (List.mem_of_mem_drop hv)).new (hnw2.trans N5))
            exact ⟨B5, d5, _, rfl, by rw [← HM1.out]; unfold insR; rw [HT.out]; simp [List.map_take, List.map_drop], hB5, (n1.trans hnw2).trans N5, row_low7 ho5 (n1.trans hnw2).size, fun v hv => by simp only [List.nil_append, List.mem_append, List.mem_singleton] at hv; rcases hv with (hv | hv) | hv; exact .inl (hsub.out v (List.mem_of_mem_take hv)); exact .inr hv; exact .inl (hsub.out v (List.mem_of_mem_drop hv))⟩
        · have hT2 := hts.drop hk
          go_upto_region 5 with fail
          go_region_law (first
            | (refine step_apT _ rfl (.tmp 27) (.tmp 30) rfl w2.heap.size _ Tryz.underlying24 hi hz0 hz1 hz2 rfl _ [] rfl (by first | exact row_lit7 (Blk.mk _ _ _ _ (by first | rfl | simp)) (by first | exact Nat.le_refl _ | (simp; done)) | exact row_turn7 (row_lit7 (Blk.mk _ _ _ _ (by first | rfl | simp)) (by first | exact Nat.le_refl _ | (simp; done))) ((New.refl _).alloc _) (fun _ _ f => f) | exact row_turn7 (row_lit7 (Blk.mk _ _ _ _ (by first | rfl | simp)) (by first | exact Nat.le_refl _ | (simp; done))) ((New.refl _).drew) (fun _ _ f => f) | exact row_turn7 (row_lit7 (Blk.mk _ _ _ _ (by first | rfl | simp)) (by first | exact Nat.le_refl _ | (simp; done))) (((New.refl _).alloc _).drew) (fun _ _ f => f)) (some ⟨g, 0, none⟩) k d (U.take k) rfl (hT1.new (by first | exact (New.refl _).alloc _ | exact ((New.refl _).alloc _).alloc _ | exact ((New.refl _).drew).alloc _ | exact (((New.refl _).drew).alloc _).alloc _ | exact ((New.refl _).alloc _).drew | exact (((New.refl _).alloc _).alloc _).drew)) hL1 (by intro e; cases e) (by simp; omega) (by first | (simp; done) | (simp; omega)) ?_; intro v3 w3 ho3 hg3; have N3 : New w2 w3 := New.grow (by first | exact (New.refl _).alloc _ | exact ((New.refl _).alloc _).alloc _ | exact ((New.refl _).drew).alloc _ | exact (((New.refl _).drew).alloc _).alloc _ | exact ((New.refl _).alloc _).drew | exact (((New.refl _).alloc _).alloc _).drew) hg3 (by intro j hj; have e' := Option.some.inj hj; rw [← e']; first | exact Nat.le_refl _ | (simp; done)); (try have bL3 : Blk w3 (w2.heap.size + 1) 38 #[.int .i64 p, .int .i64 a, .int .i64 l, .int .i64 o, .slice x n c, .int .i64 nx, .int .i64 md, .int .i64 lc] := (by first | exact ((Blk.mk _ (w2.heap.size + 1) _ _ (by simp)).new ((New.refl _).drew)).grow hg3 (by intro e; have e' := Option.some.inj e; simp at e') | exact (Blk.mk _ (w2.heap.size + 1) _ _ (by simp)).grow hg3 (by intro e; have e' := Option.some.inj e; simp at e'))); (try have bL4 : Blk w3 w2.heap.size 38 #[.int .i64 p, .int .i64 a, .int .i64 l, .int .i64 o, .slice x n c, .int .i64 nx, .int .i64 md, .int .i64 lc] := (by first | exact (((Blk.mk _ w2.heap.size _ _ rfl).alloc _).new ((New.refl _).drew)).grow hg3 (by intro e; have e' := Option.some.inj e; simp at e') | exact ((Blk.mk _ w2.heap.size _ _ rfl).alloc _).grow hg3 (by intro e; have e' := Option.some.inj e; simp at e'))); have cA4 := (bA2.new N3).cells; have cA5 := fun ob => ((bA2.new N3).alloc ob).cells)
            | (refine step_apT _ rfl (.tmp 31) (.tmp 33) rfl w2.heap.size _ Tryz.underlying24 hi hz0 hz1 hz2 rfl _ ([] ++ U.take k) rfl (by first | exact ho3 | exact row_turn7 ho3 ((New.refl _).alloc _) (fun _ _ f => f)) _ 1 1 [Rv.mk (Rt.mk p a l o xs nx md lc) x c] rfl (by first | exact TsAt.blk (Blk.mk _ _ _ _ (by first | rfl | simp)) eC.out | exact TsAt.blk ((Blk.mk _ _ _ _ (by first | rfl | simp)).alloc _) eC.out | exact TsAt.blk ((Blk.mk _ _ _ _ (by first | rfl | simp)).new ((New.refl _).drew)) eC.out | exact TsAt.blk (((Blk.mk _ _ _ _ (by first | rfl | simp)).alloc _).new ((New.refl _).drew)) eC.out | exact TsAt.blk bL3 eC.out | exact TsAt.blk bL4 eC.out) rfl (by intro e; cases e) (by simp; omega) (by have := N3.size; first | omega | (simp; omega)) ?_; intro v4 w4 ho4 hg4; have N4 : New w2 w4 := New.grow (by first | exact N3 | exact N3.alloc _) hg4 (fun j hj => (row_rng7 ho3 j hj).1))
            | (refine step_apT _ rfl (.tmp 34) (.tmp 37) rfl w2.heap.size _ Tryz.underlying24 hi hz0 hz1 hz2 rfl _ ([] ++ U.take k ++ [Rv.mk (Rt.mk p a l o xs nx md lc) x c]) rfl ho4 (some ⟨g, k * 8, none⟩) (U.length - k) (d - k) (U.drop k) rfl (hT2.new N4) hL2 (by intro e; cases e) (by simp; omega) (by have := N4.size; omega) ?_; intro v5 w5 ho5 hg5; have N5 : New w2 w5 := New.grow N4 hg5 (fun j hj => (row_rng7 ho4 j hj).1)))
          all_goals
            go_wp2
            go_ret
            obtain ⟨B5, d5, rfl, hB5, -⟩ := row_rt7 ho5 (fun v hv => by
              simp only [List.nil_append, List.mem_append, List.mem_singleton] at hv
              rcases hv with (hv | hv) | hv
              · exact (hmem.out v (List.mem_of_mem_take hv)).new (hnw2.trans N5)
              · rw [hv]; exact hx.new ((n1.trans hnw2).trans N5)
              · exact (hmem.out v (List.mem_of_mem_drop hv)).new (hnw2.trans N5))
            exact ⟨B5, d5, _, rfl, by rw [← HM1.out]; unfold insR; rw [HT.out]; simp [List.map_take, List.map_drop], hB5, (n1.trans hnw2).trans N5, row_low7 ho5 (n1.trans hnw2).size, fun v hv => by simp only [List.nil_append, List.mem_append, List.mem_singleton] at hv; rcases hv with (hv | hv) | hv; exact .inl (hsub.out v (List.mem_of_mem_take hv)); exact .inr hv; exact .inl (hsub.out v (List.mem_of_mem_drop hv))⟩

end Go.Proofs.YtjampcfikfafkaaGreat

namespace Go.Proofs.YtjampcfikfafkaaGreat
open Go.RowKit Go.Sort
set_option linter.unusedVariables false

/-- The paths lie from lo on. -/
def LoP (U : List Rv) (lo : Nat) : Prop := ∀ v ∈ U, ∀ y, v.x = some y → lo ≤ y.block

/-- No path lies in the row's own block. -/
def Apart (A : Option Addr) (U : List Rv) : Prop := ∀ x, A = some x → ∀ v ∈ U, ∀ y, v.r.xs ≠ [] → v.x = some y → ¬ y.block = x.block

theorem RtAt.turnB {w w' : World} {A : Option Addr} {U : List Rv} {lo B d : Nat} (h : RtAt w A U) (hr : w.ownsRow lo 38 8 (.slice A U.length d) U.length (cellsT U)) (hl : LoP U lo) (t : Turn (fun k => k = B) w w') (hB : B < lo) : RtAt w' A U := by
  refine h.turn t ?_ ?_
  · intro x hne hx e
    rcases hr.2 with ⟨h1, h2⟩ | ⟨g, c, cur, h1, h2, r⟩
    · exact hne (List.eq_nil_of_length_eq_zero h2)
    · simp only [Value.slice.injEq] at h1
      rw [h1.1] at hx
      obtain rfl := Option.some.inj hx
      simp at e
      omega
  · intro v hv x _ hx e
    have := hl v hv x hx
    omega

theorem RtAt.lts {w : World} {A : Option Addr} {U : List Rv} (h : RtAt w A U) : (∀ x, U ≠ [] → A = some x → x.block < w.heap.size) ∧ (∀ v ∈ U, ∀ x, v.r.xs ≠ [] → v.x = some x → x.block < w.heap.size) := by
  constructor
  · intro x hne hx
    obtain ⟨b, off, p, a, l, o, nx, md, lc, x', m, d, ys, hA, -, -, -, -, -, q0, -⟩ := h.at 0 (List.length_pos_iff.2 hne)
    rw [hA] at hx
    obtain rfl := Option.some.inj hx
    exact World.block_lt_of_cell? w _ q0
  · intro v hv x hne hx
    obtain ⟨b, off, z, h1, -, h3, -⟩ := (h.here v hv).1.at 0 (List.length_pos_iff.2 hne)
    rw [h1] at hx
    obtain rfl := Option.some.inj hx
    exact World.block_lt_of_cell? w _ h3

theorem set2d (w : World) (B j : Nat) (v0 v1 : Value) : Turn (fun k => k = B) w ((w.setCell ⟨B, j, none⟩ v0).setCell ⟨B, j + 1, none⟩ v1) :=
  ((Turn.refl (fun k => k = B) w).set (p := ⟨B, j, none⟩) rfl v0).set (p := ⟨B, j + 1, none⟩) rfl v1

set_option maxRecDepth 100000 in
set_option maxHeartbeats 6400000 in
theorem l7Right_sc {B n c t : Nat} {a : Option Addr} {zs : List Int} {w : World} (h : Sc w B a n c zs t) (ht : t ≤ 1000) :
    Calls Tryz.prog 55 #[.pointer (some ⟨B, 0, none⟩)] w fun e w' => ∃ (A : Option Addr) (d : Nat) (U : List Rv) (t' : Nat), e = .returned (.slice A U.length d) ∧ U.length ≤ 8 ∧ RtAt w' A U ∧ w'.ownsRow w.heap.size 38 8 (.slice A U.length d) U.length (cellsT U) ∧ LoP U w.heap.size ∧ Apart A U ∧ t' ≤ t + 600 ∧ Sc w' B a n c zs t' ∧ Turn (fun k => k = B) w w' := by
  have hlt := h.blk.lt
  have hla := h.lt_of
  have NL : New w (w.alloc (.cells #[] 38)) := (New.refl w).alloc _
  have hL := row_lit7 (lo := w.heap.size) (Blk.mk w w.heap.size 38 #[] rfl) (Nat.le_refl _)
  have hs0 := h.new NL
  go_enter Tryz.func55, Tryz.ntmps55
  go_wp2_with fail
  refine (next_sc hs0 9 (by omega) (by omega)).mono ?_
  rintro e w1 ⟨k0, rfl, ⟨hk0, hk1, -⟩, hs1, t1⟩
  have hk1 := hk1 (by omega)
  obtain ⟨K, rfl⟩ : ∃ K : Nat, k0 = K := ⟨k0.toNat, by omega⟩
  have hL1 := row_turn7 hL t1 (fun k hk e => by have e' : w.heap.size = k := Option.some.inj hk; omega)
  have tW1 : Turn (fun k => k = B) w w1 := Turn.trans NL.turn t1 (fun _ _ e => e)
  clear hL hs0 NL
  go_wp2
  go_loopw [3, 4] (fun s i wr => ∃ (kk : Nat) (A : Option Addr) (d : Nat) (U : List Rv) (t' : Nat), kk ≤ 8 ∧ i = .int .i64 kk ∧ s = .slice A U.length d ∧ U.length + kk ≤ 8 ∧ RtAt wr A U ∧ wr.ownsRow w.heap.size 38 8 (.slice A U.length d) U.length (cellsT U) ∧ LoP U w.heap.size ∧ Apart A U ∧ t' + 60 * kk ≤ t + 500 ∧ Sc wr B a n c zs t' ∧ Turn (fun k => k = B) w wr) (fun _ i _ => (intOf i).toNat)
  case atStart => exact ⟨K, some ⟨w.heap.size, 0, none⟩, 0, [], t + 1, by omega, rfl, rfl, by simp; omega, RtAt.nil _ _, hL1, by intro v hv; simp at hv, by intro x hx v hv; simp at hv, by omega, hs1, tW1⟩
  case round =>
    clear hL1 tW1 hs1 t1
    obtain ⟨k2, A, d, U, t2, hk2, rfl, rfl, hUl, hU, hrow, hLo, hAp, ht2, hs2, tW⟩ := hrel
    cases k2 with
    | zero =>
      go_wp2
      go_ret
      exact ⟨A, d, U, t2, rfl, by omega, hU, hrow, hLo, hAp, by omega, hs2, tW⟩
    | succ kk =>
      go_wp2_with fail
      refine (l7DrawRoute_sc hs2 (by omega)).mono ?_
      rintro e w4 ⟨p1, a1, l1, o1, nx1, md1, lc1, xs, x1, c1, t4, rfl, hpe, hpf, haf, hx3, ht4, hM4, hs4, tr4⟩
      have s0 := tW.size
      have hU := hU.turnB hrow hLo tr4 (by omega)
      have hrow := row_turn7 hrow tr4 (fun k hk e => by have := (row_rng7 hrow k hk).1; omega)
      have tW := tW.both tr4
      obtain ⟨xq, cq, eq, hns, hpl⟩ := hM4.ns (fun z hz => by have := (af_ok haf).2.2 z hz; unfold In6; omega)
      simp only [Value.slice.injEq, true_and] at eq
      obtain ⟨rfl, rfl⟩ := eq
      have hnl : x1 = none → xs.length = 0 ∧ c1 = 0 := by
        intro e0
        rcases hM4 with ⟨e1, e2⟩ | ⟨g, cc, e1, _, _⟩
        · simp only [Value.slice.injEq] at e1
          exact e1.2
        · subst e0
          simp at e1
      have hlts := hU.lts
      have hrk := fun k hk => (row_rng7 hrow k hk).2
      go_upto_region 6 with fail
      have hal : New w4 (w4.alloc (.cells #[.int .i64 p1, .int .i64 a1, .int .i64 l1, .int .i64 o1, .slice x1 xs.length c1, .int .i64 nx1, .int .i64 md1, .int .i64 lc1] 38)) := (New.refl w4).alloc _
      have bV := Blk.mk w4 w4.heap.size 38 #[.int .i64 p1, .int .i64 a1, .int .i64 l1, .int .i64 o1, .slice x1 xs.length c1, .int .i64 nx1, .int .i64 md1, .int .i64 lc1] rfl
      have hU := hU.new hal
      have hrow := row_turn7 hrow hal (fun _ _ f => f)
      have tW := Turn.andNew tW hal
      have hns := hns.new hal
      have hs4 := hs4.new hal
      have l4 := tr4.size
      have l5 : w4.heap.size < (w4.alloc (.cells #[.int .i64 p1, .int .i64 a1, .int .i64 l1, .int .i64 o1, .slice x1 xs.length c1, .int .i64 nx1, .int .i64 md1, .int .i64 lc1] 38)).heap.size := by simp
      have hVB : ¬ w4.heap.size = B := by omega
      clear tr4 hal hs2 hM4
      generalize (w4.alloc (.cells #[.int .i64 p1, .int .i64 a1, .int .i64 l1, .int .i64 o1, .slice x1 xs.length c1, .int .i64 nx1, .int .i64 md1, .int .i64 lc1] 38)) = w5 at *
      have hxl : xs.length ≤ 1048576 := by omega
      rcases Nat.eq_zero_or_pos U.length with hU0 | hU0
      · obtain rfl : U = [] := List.eq_nil_of_length_eq_zero hU0
        have hx : Rv.here w5 (Rv.mk (Rt.mk p1 a1 l1 o1 xs nx1 md1 lc1) x1 c1) := ⟨hns, hnl, hxl⟩
        have cV := bV.cells
        go_upto_region 8 with fail
        have cV := bV.cells
        go_wp2_with fail
        refine (l7Put_any p1 a1 l1 o1 nx1 md1 lc1 x1 xs.length c1 xs A 0 d [] _ hU rfl (by omega) hx rfl).mono ?_
        rintro e wp ⟨A2, d2, U2, rfl, hm2, hr2, hn2, hw2, hsb2⟩
        have hlen2 : U2.length ≤ 0 + 1 := by
          have e1 := congrArg List.length hm2
          have e2 := tw_le (fun s => s.lt (Rt.mk p1 a1 l1 o1 xs nx1 md1 lc1)) ((([] : List Rv).map Rv.r).filter (keepE p1 a1 l1))
          have e3 := List.length_filter_le (keepE p1 a1 l1) (([] : List Rv).map Rv.r)
          unfold insR at e1
          simp at e1 e3
          omega
        have hLo2 : LoP U2 w.heap.size := by
          intro v hv y hy
          rcases hsb2 v hv with h5 | h5
          · exact hLo v h5 y hy
          · rw [h5] at hy
            have := (hpl y hy).1
            omega
        have hAp2 : Apart A2 U2 := by
          intro x hx0 v hv y hne hy
          subst hx0
          have g1 := (row_rng7 hw2 x.block (by rfl)).1
          rcases hsb2 v hv with h5 | h5
          · have := hU.lts.2 v h5 y hne hy
            omega
          · rw [h5] at hy
            have := (hpl y hy).2
            omega
        have tW2 := Turn.andNew tW hn2
        have hsN := hs4.new hn2
        have hrow2 := row_low7 hw2 (show w.heap.size ≤ w5.heap.size from tW.size)
        clear hm2 hsb2 hn2 hw2
        go_wp2
        go_roundw
        case rel => exact ⟨kk, A2, d2, U2, t4, by omega, by go_num, rfl, by omega, hr2, hrow2, hLo2, hAp2, by omega, hsN, tW2⟩
        case measure => simp [intOf]

      · have hg : (decide ((0:Int) < U.length)) = true := by simp; omega
        go_wp2_with fail
        refine (chance_sc hs4 2 (by omega) (by omega)).mono ?_
        rintro e w6 ⟨bb, rfl, hs6, t6⟩
        have l6 := t6.size
        have hU := hU.turnB hrow hLo t6 (by omega)
        have hrow := row_turn7 hrow t6 (fun k hk e => by have := (row_rng7 hrow k hk).1; omega)
        have tW := tW.both t6
        have hns := hns.turn t6 (fun x _ hx e => by have := (hpl x hx).1; omega)
        have bV := bV.turn t6 (fun e => hVB e)
        clear t6 hs4
        cases bb
        · have hx : Rv.here w6 (Rv.mk (Rt.mk p1 a1 l1 o1 xs nx1 md1 lc1) x1 c1) := ⟨hns, hnl, hxl⟩
          go_upto_region 8 with fail
          have cV := bV.cells
          go_wp2_with fail
          refine (l7Put_any p1 a1 l1 o1 nx1 md1 lc1 x1 xs.length c1 xs A U.length d U _ hU rfl (by omega) hx rfl).mono ?_
          rintro e wp ⟨A2, d2, U2, rfl, hm2, hr2, hn2, hw2, hsb2⟩
          have hlen2 : U2.length ≤ U.length + 1 := by
            have e1 := congrArg List.length hm2
            have e2 := tw_le (fun s => s.lt (Rt.mk p1 a1 l1 o1 xs nx1 md1 lc1)) ((U.map Rv.r).filter (keepE p1 a1 l1))
            have e3 := List.length_filter_le (keepE p1 a1 l1) (U.map Rv.r)
            unfold insR at e1
            simp at e1 e3
            omega
          have hLo2 : LoP U2 w.heap.size := by
            intro v hv y hy
            rcases hsb2 v hv with h5 | h5
            · exact hLo v h5 y hy
            · rw [h5] at hy
              have := (hpl y hy).1
              omega
          have hAp2 : Apart A2 U2 := by
            intro x hx0 v hv y hne hy
            subst hx0
            have g1 := (row_rng7 hw2 x.block (by rfl)).1
            rcases hsb2 v hv with h5 | h5
            · have := hU.lts.2 v h5 y hne hy
              omega
            · rw [h5] at hy
              have := (hpl y hy).2
              omega
          have tW2 := Turn.andNew tW hn2
          have hsN := hs6.new hn2
          have hrow2 := row_low7 hw2 (show w.heap.size ≤ w6.heap.size from tW.size)
          clear hm2 hsb2 hn2 hw2
          go_wp2
          go_roundw
          case rel => exact ⟨kk, A2, d2, U2, t4 + 1, by omega, by go_num, rfl, by omega, hr2, hrow2, hLo2, hAp2, by omega, hsN, tW2⟩
          case measure => simp [intOf]

        · go_wp2_with fail
          refine (next_sc hs6 U.length (by omega) (by omega)).mono ?_
          rintro e w7 ⟨r, rfl, ⟨hr0, hr1, -⟩, hs7, t7⟩
          have hr1 := hr1 (by omega)
          obtain ⟨rr, rfl⟩ : ∃ rr : Nat, r = rr := ⟨r.toNat, by omega⟩
          have l7 := t7.size
          have hU := hU.turnB hrow hLo t7 (by omega)
          have hrow := row_turn7 hrow t7 (fun k hk e => by have := (row_rng7 hrow k hk).1; omega)
          have tW := tW.both t7
          have hns := hns.turn t7 (fun x _ hx e => by have := (hpl x hx).1; omega)
          have bV := bV.turn t7 (fun e => hVB e)
          clear t7 hs6
          obtain ⟨b, off, p', a', l', o', nx', md', lc', x', m', d', ys, hA2, hv, hlen, hns', hnl', hmx, q0, q1, q2, q3, q4, q5, q6, q7⟩ := hU.at rr (by omega)
          subst hA2
          clear hv hlen hns' hnl' hmx q0 q3 q4 q5 q6 q7
          have X1 := cell_regrown q1
          have X2 := cell_regrown q2
          have cV := bV.cells
          have fV := bV.frees
          go_upto_region 8 with fail
          have T8 := set2d w7 w4.heap.size 1 (.int .i64 a') (.int .i64 l')
          have bV8 : Blk ((w7.setCell ⟨w4.heap.size, 1, none⟩ (.int .i64 a')).setCell ⟨w4.heap.size, 2, none⟩ (.int .i64 l')) w4.heap.size 38 #[.int .i64 p1, .int .i64 a', .int .i64 l', .int .i64 o1, .slice x1 xs.length c1, .int .i64 nx1, .int .i64 md1, .int .i64 lc1] := (bV.set 1 (.int .i64 a')).set 2 (.int .i64 l')
          clear X1 X2 q1 q2 cV fV bV
          simp only [Nat.reduceAdd] at T8
          generalize ((w7.setCell ⟨w4.heap.size, 1, none⟩ (.int .i64 a')).setCell ⟨w4.heap.size, 2, none⟩ (.int .i64 l')) = w8 at *
          have hU := hU.turn T8 (fun x h1 h2 e => by have := hlts.1 x h1 h2; omega) (fun v hv x h1 h2 e => by have := hlts.2 v hv x h1 h2; omega)
          have hrow := row_turn7 hrow T8 (fun k hk e => by have := hrk k hk; omega)
          have tW : Turn (fun k => k = B) w w8 := Turn.trans tW T8 (fun i hi e => by omega)
          have hns := hns.turn T8 (fun x _ hx e => by have := (hpl x hx).2; omega)
          have hs8 := hs7.turn T8 (fun e => hVB e.symm) (fun x h1 h2 e => by have := hla x h1 h2; omega)
          have hx : Rv.here w8 (Rv.mk (Rt.mk p1 a' l' o1 xs nx1 md1 lc1) x1 c1) := ⟨hns, hnl, hxl⟩
          have l8 := T8.size
          clear T8 hs7
          have cV := bV8.cells
          go_wp2_with fail
          refine (l7Put_any p1 a' l' o1 nx1 md1 lc1 x1 xs.length c1 xs _ U.length d U _ hU rfl (by omega) hx rfl).mono ?_
          rintro e wp ⟨A2, d2, U2, rfl, hm2, hr2, hn2, hw2, hsb2⟩
          have hlen2 : U2.length ≤ U.length + 1 := by
            have e1 := congrArg List.length hm2
            have e2 := tw_le (fun s => s.lt (Rt.mk p1 a' l' o1 xs nx1 md1 lc1)) ((U.map Rv.r).filter (keepE p1 a' l'))
            have e3 := List.length_filter_le (keepE p1 a' l') (U.map Rv.r)
            unfold insR at e1
            simp at e1 e3
            omega
          have hLo2 : LoP U2 w.heap.size := by
            intro v hv y hy
            rcases hsb2 v hv with h5 | h5
            · exact hLo v h5 y hy
            · rw [h5] at hy
              have := (hpl y hy).1
              omega
          have hAp2 : Apart A2 U2 := by
            intro x hx0 v hv y hne hy
            subst hx0
            have g1 := (row_rng7 hw2 x.block (by rfl)).1
            rcases hsb2 v hv with h5 | h5
            · have := hU.lts.2 v h5 y hne hy
              omega
            · rw [h5] at hy
              have := (hpl y hy).2
              omega
          have tW2 := Turn.andNew tW hn2
          have hsN := hs8.new hn2
          have hrow2 := row_low7 hw2 (show w.heap.size ≤ w8.heap.size from tW.size)
          clear hm2 hsb2 hn2 hw2
          go_wp2
          go_roundw
          case rel => exact ⟨kk, A2, d2, U2, t4 + 1 + 1, by omega, by go_num, rfl, by omega, hr2, hrow2, hLo2, hAp2, by omega, hsN, tW2⟩
          case measure => simp [intOf]

end Go.Proofs.YtjampcfikfafkaaGreat

namespace Go.Proofs.YtjampcfikfafkaaGreat
open Go.RowKit Go.Sort
set_option linter.unusedVariables false
set_option linter.unusedSimpArgs false

theorem cso {w : World} {p a : Addr} {v : Value} (h : p ≠ a) : (w.setCell p v).cell? a = w.cell? a := by apply World.cell?_setCell_other; exact h
theorem css {w : World} {a : Addr} {u v : Value} (h : w.cell? a = some u) : (w.setCell a v).cell? a = some v := by apply World.cell?_setCell_same; exact h
theorem Turn.grew {w w' : World} {row : Option Nat} (hg : w.grownBy w' row) : Turn (fun k => row = some k) w w' := ⟨hg.os, hg.tape, hg.output, hg.size, fun k hk hs => hg.block k hk (fun e => hs e.symm)⟩

/-- The route of zeros. -/
def zRv : Rv := Rv.mk (Rt.mk 0 0 0 0 [] 0 0 0) none 0
theorem zRv_cells : cellsT (List.replicate 61 zRv) = (madeCells (Value.agg #[.int .i64 0, .int .i64 0, .int .i64 0, .int .i64 0, .slice none 0 0, .int .i64 0, .int .i64 0, .int .i64 0]).cells (61 * 8)).toList := by kernel_rfl

theorem setA5 (w : World) (B j : Nat) (v0 v1 v2 v3 v4 : Value) : Turn (fun k => k = B) w (((((w.setCell ⟨B, j, none⟩ v0).setCell ⟨B, j + 1, none⟩ v1).setCell ⟨B, j + 2, none⟩ v2).setCell ⟨B, j + 3, none⟩ v3).setCell ⟨B, j + 4, none⟩ v4) :=
  (((((Turn.refl (fun k => k = B) w).set (p := ⟨B, j, none⟩) rfl v0).set (p := ⟨B, j + 1, none⟩) rfl v1).set (p := ⟨B, j + 2, none⟩) rfl v2).set (p := ⟨B, j + 3, none⟩) rfl v3).set (p := ⟨B, j + 4, none⟩) rfl v4

theorem RtAt.head {w w' : World} {b off : Nat} {u u' : Rv} {us : List Rv} (h : RtAt w (some ⟨b, off, none⟩) (u :: us)) (hA : Apart (some ⟨b, off, none⟩) (u :: us)) (t : Turn (fun k => k = b) w w') (h0 : ∀ j, j < 8 → w'.cell? ⟨b, off + j, none⟩ = u'.cs[j]?) (h1 : ∀ j, 8 ≤ j → w'.cell? ⟨b, off + j, none⟩ = w.cell? ⟨b, off + j, none⟩) (hu : u'.here w') : RtAt w' (some ⟨b, off, none⟩) (u' :: us) := by
  intro i v hv
  cases i with
  | zero =>
    simp at hv
    subst hv
    exact ⟨⟨b, off, rfl, fun j hj => by simpa using h0 j hj⟩, hu⟩
  | succ i =>
    have hv' : (u :: us)[i + 1]? = some v := by simpa using hv
    obtain ⟨⟨b', off', e, hc⟩, hh⟩ := h (i + 1) v hv'
    simp at e
    obtain ⟨rfl, rfl⟩ := e
    refine ⟨⟨b, off, rfl, fun j hj => ?_⟩, hh.turn t (fun x hne hx => hA _ rfl v (List.mem_of_getElem? hv') x hne hx)⟩
    rw [← hc j hj, show off + (i + 1) * 8 + j = off + ((i + 1) * 8 + j) by omega]
    exact h1 _ (by omega)

/-- A peer is stored into the first route. -/
theorem RtAt.peer {w : World} {b off : Nat} {u : Rv} {us : List Rv} (h : RtAt w (some ⟨b, off, none⟩) (u :: us)) (hA : Apart (some ⟨b, off, none⟩) (u :: us)) (q : Int) :
    RtAt (w.setCell ⟨b, off, none⟩ (.int .i64 q)) (some ⟨b, off, none⟩) (Rv.mk (Rt.mk q u.r.a u.r.l u.r.o u.r.xs u.r.nx u.r.md u.r.lc) u.x u.c :: us) := by
  have t : Turn (fun k => k = b) w (w.setCell ⟨b, off, none⟩ (.int .i64 q)) := (Turn.refl (fun k => k = b) w).set (p := ⟨b, off, none⟩) rfl _
  obtain ⟨⟨b', off', e, hc⟩, hh⟩ := h 0 u rfl
  simp at e
  obtain ⟨rfl, rfl⟩ := e
  refine h.head hA t ?_ ?_ (hh.turn t (fun x hne hx => hA _ rfl u List.mem_cons_self x hne hx))
  · intro j hj
    have hj' := hc j hj
    simp only [Nat.zero_mul, Nat.add_zero] at hj'
    by_cases h0 : j = 0
    · subst h0
      exact css (u := .int .i64 u.r.p) hj'
    · rw [cso (show (⟨b, off, none⟩ : Addr) ≠ ⟨b, off + j, none⟩ by simp <;> omega), hj']
      match j, hj, h0 with
      | 1, _, _ => rfl
      | 2, _, _ => rfl
      | 3, _, _ => rfl
      | 4, _, _ => rfl
      | 5, _, _ => rfl
      | 6, _, _ => rfl
      | 7, _, _ => rfl
  · intro j hj
    exact cso (show (⟨b, off, none⟩ : Addr) ≠ ⟨b, off + j, none⟩ by simp <;> omega)

/-- Attributes are stored into the first route. -/
theorem RtAt.attrs {w : World} {b off : Nat} {u : Rv} {us : List Rv} (h : RtAt w (some ⟨b, off, none⟩) (u :: us)) (hA : Apart (some ⟨b, off, none⟩) (u :: us)) (o nx md lc : Int) (xs : List Int) (x : Option Addr) (c : Nat) (hx : Rv.here w (Rv.mk (Rt.mk u.r.p u.r.a u.r.l o xs nx md lc) x c)) (hxb : ∀ y, x = some y → ¬ y.block = b) :
    RtAt (((((w.setCell ⟨b, off + 3, none⟩ (.int .i64 o)).setCell ⟨b, off + 3 + 1, none⟩ (.slice x xs.length c)).setCell ⟨b, off + 3 + 2, none⟩ (.int .i64 nx)).setCell ⟨b, off + 3 + 3, none⟩ (.int .i64 md)).setCell ⟨b, off + 3 + 4, none⟩ (.int .i64 lc)) (some ⟨b, off, none⟩) (Rv.mk (Rt.mk u.r.p u.r.a u.r.l o xs nx md lc) x c :: us) := by
  have t := setA5 w b (off + 3) (.int .i64 o) (.slice x xs.length c) (.int .i64 nx) (.int .i64 md) (.int .i64 lc)
  obtain ⟨⟨b', off', e, hc⟩, hh⟩ := h 0 u rfl
  simp at e
  obtain ⟨rfl, rfl⟩ := e
  simp only [Nat.zero_mul, Nat.add_zero] at hc
  have q0 : w.cell? ⟨b, off, none⟩ = some (.int .i64 u.r.p) := hc 0 (by omega)
  have q1 : w.cell? ⟨b, off + 1, none⟩ = some (.int .i64 u.r.a) := hc 1 (by omega)
  have q2 : w.cell? ⟨b, off + 2, none⟩ = some (.int .i64 u.r.l) := hc 2 (by omega)
  have q3 : w.cell? ⟨b, off + 3, none⟩ = some (.int .i64 u.r.o) := hc 3 (by omega)
  have q4 : w.cell? ⟨b, off + 4, none⟩ = some (.slice u.x u.r.xs.length u.c) := hc 4 (by omega)
  have q5 : w.cell? ⟨b, off + 5, none⟩ = some (.int .i64 u.r.nx) := hc 5 (by omega)
  have q6 : w.cell? ⟨b, off + 6, none⟩ = some (.int .i64 u.r.md) := hc 6 (by omega)
  have q7 : w.cell? ⟨b, off + 7, none⟩ = some (.int .i64 u.r.lc) := hc 7 (by omega)
  refine h.head hA t ?_ ?_ (hx.turn t (fun y _ hy => hxb y hy))
  · intro j hj
    match j, hj with
    | 0, _ => simp [go_sem, q0, q1, q2, q3, q4, q5, q6, q7, Rv.cs]
    | 1, _ => simp [go_sem, q0, q1, q2, q3, q4, q5, q6, q7, Rv.cs]
    | 2, _ => simp [go_sem, q0, q1, q2, q3, q4, q5, q6, q7, Rv.cs]
    | 3, _ => simp [go_sem, q0, q1, q2, q3, q4, q5, q6, q7, Rv.cs]
    | 4, _ => simp [go_sem, q0, q1, q2, q3, q4, q5, q6, q7, Rv.cs]
    | 5, _ => simp [go_sem, q0, q1, q2, q3, q4, q5, q6, q7, Rv.cs]
    | 6, _ => simp [go_sem, q0, q1, q2, q3, q4, q5, q6, q7, Rv.cs]
    | 7, _ => simp [go_sem, q0, q1, q2, q3, q4, q5, q6, q7, Rv.cs]
  · intro j hj
    rw [cso (show (⟨b, off + 3 + 4, none⟩ : Addr) ≠ ⟨b, off + j, none⟩ by simp <;> omega), cso (show (⟨b, off + 3 + 3, none⟩ : Addr) ≠ ⟨b, off + j, none⟩ by simp <;> omega), cso (show (⟨b, off + 3 + 2, none⟩ : Addr) ≠ ⟨b, off + j, none⟩ by simp <;> omega), cso (show (⟨b, off + 3 + 1, none⟩ : Addr) ≠ ⟨b, off + j, none⟩ by simp <;> omega), cso (show (⟨b, off + 3, none⟩ : Addr) ≠ ⟨b, off + j, none⟩ by simp <;> omega)]

theorem row_free7 {w : World} {lo n d b off : Nat} {cs : List Value} (h : w.ownsRow lo 38 8 (.slice (some ⟨b, off, none⟩) n d) n cs) : ∀ j, w.frozen? ⟨b, j, none⟩ = false := by
  rcases h.2 with ⟨h1, h2⟩ | ⟨g, c, cur, h1, h2, hh, r⟩
  · simp at h1
  · simp only [Value.slice.injEq, Option.some.injEq, Addr.mk.injEq] at h1
    obtain ⟨⟨rfl, -, -⟩, -⟩ := h1
    exact Blk.frees hh

/-- The row and the paths lie from lo on. -/
def FarT (A : Option Addr) (U : List Rv) (lo : Nat) : Prop := (∀ x, U ≠ [] → A = some x → lo ≤ x.block) ∧ LoP U lo
theorem FarT.nil (A : Option Addr) (lo : Nat) : FarT A [] lo := ⟨by intro x h; exact absurd rfl h, by intro v hv; simp at hv⟩
theorem RtAt.turnF {w w' : World} {A : Option Addr} {U : List Rv} {lo B : Nat} (h : RtAt w A U) (hf : FarT A U lo) (t : Turn (fun k => k = B) w w') (hB : B < lo) : RtAt w' A U :=
  h.turn t (fun x h1 h2 e => by have := hf.1 x h1 h2; omega) (fun v hv x _ hx e => by have := hf.2 v hv x hx; omega)

set_option maxRecDepth 100000 in
set_option maxHeartbeats 6400000 in
theorem l7Bent_sc {B n c t : Nat} {a : Option Addr} {zs : List Int} {w : World} (h : Sc w B a n c zs t) (ht : t ≤ 1000) :
    Calls Tryz.prog 24 #[.pointer (some ⟨B, 0, none⟩)] w fun e w' => ∃ (A : Option Addr) (d : Nat) (U : List Rv) (t' : Nat), e = .returned (.slice A U.length d) ∧ U.length ≤ 61 ∧ RtAt w' A U ∧ FarT A U w.heap.size ∧ t' ≤ t + 700 ∧ Sc w' B a n c zs t' ∧ Turn (fun k => k = B) w w' := by
  obtain ⟨i0, hi, hz0, hz1, hz2⟩ := info_parts Tryz.infoRt
  have hlt := h.blk.lt
  have hla := h.lt_of
  go_enter Tryz.func24, Tryz.ntmps24
  go_wp2_with fail
  refine (l7Right_sc h ht).mono ?_
  rintro e w1 ⟨A, d, U, t1, rfl, hUl, hU, hrow, hLo, hAp, ht1, hs1, T1⟩
  go_wp2_with fail
  refine (next_sc hs1 14 (by omega) (by omega)).mono ?_
  rintro e w2 ⟨r, rfl, ⟨hr0, hr1, -⟩, hs2, t2⟩
  have hr1 := hr1 (by omega)
  have hU := hU.turnB hrow hLo t2 (by omega)
  have hrow := row_turn7 hrow t2 (fun k hk e => by have := (row_rng7 hrow k hk).1; omega)
  have tW := T1.both t2
  have s1 := T1.size
  have s2 := t2.size
  clear hs1 t2 T1 h
  have hs2 := hs2
  by_cases r0 : r = 0
  · subst r0
    go_wp2_with fail
    refine (l7DrawRoute_sc hs2 (by omega)).mono ?_
    rintro e w4 ⟨p1, a1, l1, o1, nx1, md1, lc1, xs, x1, c1, t4, rfl, hpe, hpf, haf, hx3, ht4, hM4, hs4, tr4⟩
    have hrk := fun k hk => (row_rng7 hrow k hk).2
    have hU := hU.turnB hrow hLo tr4 (by omega)
    have hrow := row_turn7 hrow tr4 (fun k hk e => by have := (row_rng7 hrow k hk).1; omega)
    have tW := tW.both tr4
    obtain ⟨xq, cq, eq, hns, hpl⟩ := hM4.ns (fun z hz => by have := (af_ok haf).2.2 z hz; unfold In6; omega)
    simp only [Value.slice.injEq, true_and] at eq
    obtain ⟨rfl, rfl⟩ := eq
    have hnl : x1 = none → xs.length = 0 ∧ c1 = 0 := by
      intro e0
      rcases hM4 with ⟨e1, e2⟩ | ⟨g, cc, e1, _, _⟩
      · simp only [Value.slice.injEq] at e1
        exact e1.2
      · subst e0
        simp at e1
    have hx : Rv.here w4 (Rv.mk (Rt.mk p1 a1 l1 o1 xs nx1 md1 lc1) x1 c1) := ⟨hns, hnl, by show xs.length ≤ _; omega⟩
    have hal : New w4 (w4.alloc (.cells #[.int .i64 p1, .int .i64 a1, .int .i64 l1, .int .i64 o1, .slice x1 xs.length c1, .int .i64 nx1, .int .i64 md1, .int .i64 lc1] 38)) := (New.refl w4).alloc _
    have bL := Blk.mk w4 w4.heap.size 38 #[.int .i64 p1, .int .i64 a1, .int .i64 l1, .int .i64 o1, .slice x1 xs.length c1, .int .i64 nx1, .int .i64 md1, .int .i64 lc1] rfl
    have hrow3 : (w4.alloc (.cells #[.int .i64 p1, .int .i64 a1, .int .i64 l1, .int .i64 o1, .slice x1 xs.length c1, .int .i64 nx1, .int .i64 md1, .int .i64 lc1] 38)).ownsRow w.heap.size 38 8 _ U.length (cellsT U) := row_turn7 hrow hal (fun _ _ f => f)
    have hsrc : ∀ j, (w4.alloc (.cells #[.int .i64 p1, .int .i64 a1, .int .i64 l1, .int .i64 o1, .slice x1 xs.length c1, .int .i64 nx1, .int .i64 md1, .int .i64 lc1] 38)).cell? ⟨w4.heap.size, j, none⟩ = (Rv.mk (Rt.mk p1 a1 l1 o1 xs nx1 md1 lc1) x1 c1).cs[j]? := by
      intro j
      rw [bL.cells j]
      simp [Rv.cs]
    have s4 := tr4.size
    have hsz : w.heap.size ≤ (w4.alloc (.cells #[.int .i64 p1, .int .i64 a1, .int .i64 l1, .int .i64 o1, .slice x1 xs.length c1, .int .i64 nx1, .int .i64 md1, .int .i64 lc1] 38)).heap.size := by simp; omega
    clear bL tr4 hM4 hs2
    go_wp2_with (at_builtin; refine wpList_apT _ rfl (.tmp 10) (.tmp 13) rfl w.heap.size _ Tryz.underlying24 hi hz0 hz1 hz2 rfl _ U rfl hrow3 w4.heap.size (Rv.mk (Rt.mk p1 a1 l1 o1 xs nx1 md1 lc1) x1 c1) rfl hsrc (by omega) hsz ?_)
    intro v5 w5 hr5 hg5 _
    have T5 := Turn.grew hg5
    have hr5' : w5.ownsRow w.heap.size 38 8 v5 (U ++ [Rv.mk (Rt.mk p1 a1 l1 o1 xs nx1 md1 lc1) x1 c1]).length (cellsT (U ++ [Rv.mk (Rt.mk p1 a1 l1 o1 xs nx1 md1 lc1) x1 c1])) := by rw [List.length_append]; exact hr5
    obtain ⟨A5, d5, rfl, hU5, -, -⟩ := row_rt7 hr5' (fun v hv => by
      rcases List.mem_append.1 hv with h5 | h5
      · refine ((hU.here v h5).new hal).turn T5 (fun x hne hx e => ?_)
        cases A with
        | none => simp [Value.ownBlock] at e
        | some y => exact hAp y rfl v h5 x hne hx (by simpa [Value.ownBlock] using e.symm)
      · obtain rfl := List.mem_singleton.1 h5
        refine (hx.new hal).turn T5 (fun x hne hx e => ?_)
        have g1 := (hpl x hx).1
        have g2 := hrk x.block e
        omega)
    have tW5 : Turn (fun k => k = B) w w5 := Turn.trans (Turn.andNew tW hal) T5 (fun i hi e => by have := (row_rng7 hrow i e).1; omega)
    have hs5 := (hs4.new hal).turn T5 (fun e => by have := (row_rng7 hrow B e).1; omega) (fun x h1 h2 e => by have g1 := hla x h1 h2; have g2 := (row_rng7 hrow x.block e).1; omega)
    have hF5 : FarT A5 (U ++ [Rv.mk (Rt.mk p1 a1 l1 o1 xs nx1 md1 lc1) x1 c1]) w.heap.size := ⟨fun x _ hx => (row_rng7 hr5' x.block (by rw [hx]; rfl)).1, fun v hv y hy => by
      rcases List.mem_append.1 hv with h5 | h5
      · exact hLo v h5 y hy
      · obtain rfl := List.mem_singleton.1 h5
        have := (hpl y hy).1
        omega⟩
    clear hr5 hr5' hg5 hrow3 hsrc T5
    go_wp2
    go_ret
    exact ⟨A5, d5, _, t4, rfl, by simp; omega, hU5, hF5, by omega, hs5, tW5⟩
  · by_cases r1 : r = 1
    · subst r1
      rcases Nat.eq_zero_or_pos U.length with hU0 | hU0
      · obtain rfl : U = [] := List.eq_nil_of_length_eq_zero hU0
        go_wp2
        go_ret
        exact ⟨A, d, [], _, rfl, by simp, hU, FarT.nil _ _, by omega, hs2, tW⟩
      · have hg : (decide ((0:Int) < U.length)) = true := by simp; omega
        have hal := (New.refl w2).alloc (.cells #[.int .i64 (-1), .int .i64 3] 2)
        go_wp2_with fail
        refine (pick_sc (hs2.new hal) [-1, 3] (Blk.mk w2 w2.heap.size 2 #[.int .i64 (-1), .int .i64 3] rfl) 2 rfl (by omega) (by omega) (by omega)).mono ?_
        rintro e w5 ⟨q, rfl, hq, hs5, t5⟩
        have hU := (hU.new hal).turnB (row_turn7 hrow hal (fun _ _ f => f)) hLo t5 (by omega)
        have hrow := row_turn7 (row_turn7 hrow hal (fun _ _ f => f)) t5 (fun k hk e => by have := (row_rng7 hrow k hk).1; omega)
        have tW := (Turn.andNew tW hal).both t5
        clear t5 hal hs2
        obtain ⟨b, off, p', a', l', o', nx', md', lc', x', m', d', ys, rfl, hv, hlen, hns', hnl', hmx, q0, -⟩ := hU.at 0 hU0
        have fV := row_free7 hrow
        have hb := (row_rng7 hrow b rfl).1
        obtain ⟨u, us, rfl⟩ : ∃ u us, U = u :: us := by cases U with | nil => simp at hU0 | cons u us => exact ⟨u, us, rfl⟩
        clear hv hlen hns' hnl' hmx
        simp only [Nat.zero_mul, Nat.add_zero] at q0
        go_wp2
        go_ret
        have T6 : Turn (fun k => k = b) w5 (w5.setCell ⟨b, off, none⟩ (.int .i64 q)) := (Turn.refl (fun k => k = b) w5).set (p := ⟨b, off, none⟩) rfl _
        exact ⟨_, d, _, _, rfl, by simp at hUl ⊢; omega, hU.peer hAp q, ⟨fun x _ hx => by obtain rfl := Option.some.inj hx; exact hb, fun v hv y hy => by rcases List.mem_cons.1 hv with rfl | hv; exact hLo u List.mem_cons_self y hy; exact hLo v (List.mem_cons_of_mem _ hv) y hy⟩, by omega, hs5.turn T6 (fun e => by omega) (fun x h1 h2 e => by have := hla x h1 h2; omega), Turn.trans tW T6 (fun i hi e => by omega)⟩
    · by_cases r2 : r = 2
      · subst r2
        rcases Nat.eq_zero_or_pos U.length with hU0 | hU0
        · obtain rfl : U = [] := List.eq_nil_of_length_eq_zero hU0
          go_wp2
          go_ret
          exact ⟨A, d, [], _, rfl, by simp, hU, FarT.nil _ _, by omega, hs2, tW⟩
        · have hg : (decide ((0:Int) < U.length)) = true := by simp; omega
          go_wp2_with fail
          refine (l3BentAttrs_sc hs2 (by omega)).mono ?_
          rintro e w5 ⟨o5, nx5, md5, lc5, xs, xa, xc, m, t5, rfl, rfl, hm7, hbl, hbh, hall, ht5, hM5, hs5, tr5⟩
          have hrk := fun k hk => (row_rng7 hrow k hk).2
          have hU := hU.turnB hrow hLo tr5 (by omega)
          have hrow := row_turn7 hrow tr5 (fun k hk e => by have := (row_rng7 hrow k hk).1; omega)
          have tW := tW.both tr5
          obtain ⟨xq, cq, eq, hns, hpl⟩ := hM5.ns (fun z hz => by have := hall z hz; unfold In6; omega)
          simp only [Value.slice.injEq, true_and] at eq
          obtain ⟨rfl, rfl⟩ := eq
          have hnl : xa = none → xs.length = 0 ∧ xc = 0 := by
            intro e0
            rcases hM5 with ⟨e1, e2⟩ | ⟨g, cc, e1, _, _⟩
            · simp only [Value.slice.injEq] at e1
              exact e1.2
            · subst e0
              simp at e1
          clear tr5 hs2 hM5
          obtain ⟨b, off, p', a', l', o', nx', md', lc', x', m', d', ys, rfl, hv, hlen, hns', hnl', hmx, q0, q1, q2, q3, q4, q5, q6, q7⟩ := hU.at 0 hU0
          have fV := row_free7 hrow
          have hb := (row_rng7 hrow b rfl).1
          have hb2 := hrk b rfl
          obtain ⟨u, us, rfl⟩ : ∃ u us, U = u :: us := by cases U with | nil => simp at hU0 | cons u us => exact ⟨u, us, rfl⟩
          clear hv hlen hns' hnl' hmx
          simp only [Nat.zero_mul, Nat.add_zero] at q0 q1 q2 q3 q4 q5 q6 q7
          go_wp2
          go_ret
          have T6 := setA5 w5 b (off + 3) (.int .i64 o5) (.slice xa xs.length xc) (.int .i64 nx5) (.int .i64 md5) (.int .i64 lc5)
          exact ⟨_, d, _, _, rfl, by simp at hUl ⊢; omega, hU.attrs hAp o5 nx5 md5 lc5 xs xa xc ⟨hns, hnl, by show xs.length ≤ _; omega⟩ (fun y hy e => by have := (hpl y hy).1; omega), ⟨fun x _ hx => by obtain rfl := Option.some.inj hx; exact hb, fun v hv y hy => by rcases List.mem_cons.1 hv with rfl | hv; (have := (hpl y hy).1; omega); exact hLo v (List.mem_cons_of_mem _ hv) y hy⟩, by omega, hs5.turn T6 (fun e => by omega) (fun x h1 h2 e => by have := hla x h1 h2; omega), Turn.trans tW T6 (fun i hi e => by omega)⟩
      · by_cases r3 : r = 3
        · subst r3
          obtain ⟨w9, hmk, hr9, hg9⟩ := run_makeSlice_full (P := Tryz.prog) (w := w2) w.heap.size 24 38 i0 _ 8 Tryz.underlying24 hi hz0 hz1 .i64 .i64 61 (by omega) (by rw [hz2]; omega) (by unfold maxLen; omega) (by omega)
          replace hmk : (Instr.makeSlice 24 (.int .i64 61) (.int .i64 61)).run Tryz.prog w2 = .ok (.slice (some ⟨w2.heap.size, 0, none⟩) 61 61) w9 := hmk
          have hr9' : w9.ownsRow w.heap.size 38 8 (.slice (some ⟨w2.heap.size, 0, none⟩) 61 61) (List.replicate 61 zRv).length (cellsT (List.replicate 61 zRv)) := by rw [zRv_cells]; exact hr9
          obtain ⟨A9, d9, e9, hU9, -, -⟩ := row_rt7 hr9' (fun v hv => by obtain rfl := List.eq_of_mem_replicate hv; exact ⟨NsAt.nil _ _, fun _ => ⟨rfl, rfl⟩, by show 0 ≤ _; omega⟩)
          have N9 : New w2 w9 := (New.refl w2).grow hg9 (fun k e => by cases e)
          clear hr9 hr9' hg9
          have lo9 : LoP (List.replicate 61 zRv) w.heap.size := by intro v hv y hy; obtain rfl := List.eq_of_mem_replicate hv; cases hy
          generalize List.replicate 61 zRv = W9 at *
          simp only [Value.slice.injEq] at e9
          obtain ⟨rfl, h61, rfl⟩ := e9
          have H61 : Hid (61 = W9.length) := h61
          clear h61
          go_wp2
          go_ret
          exact ⟨_, 61, W9, _, by rw [← H61.out]; rfl, by have := H61.out; omega, hU9, ⟨fun x _ hx => by obtain rfl := Option.some.inj hx; show w.heap.size ≤ w2.heap.size; omega, lo9⟩, by omega, hs2.new N9, Turn.andNew tW N9⟩
        · go_wp2
          go_ret
          exact ⟨A, d, U, _, rfl, by omega, hU, ⟨fun x _ hx => (row_rng7 hrow x.block (by rw [hx]; rfl)).1, hLo⟩, by omega, hs2, tW⟩

end Go.Proofs.YtjampcfikfafkaaGreat
