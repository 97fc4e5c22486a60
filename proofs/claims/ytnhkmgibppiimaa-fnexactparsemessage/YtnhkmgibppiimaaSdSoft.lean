/- What is proved here: what the model's taking back answers, for lists of at most 1048576 prefixes. -/
import Derived.Test.YtnhkmgibppiimaaSdRead
namespace Go.Proofs.Ytnhkmgibppiimaa
open Go.RowKit Go.Sort
set_option linter.unusedVariables false

theorem own_slice {w : World} {base n : Nat} {v : Value} {xs : List Value} (h : w.ownsRow base 86 2 v n xs) : ∃ a c, v = .slice a n c ∧ (∀ x, a = some x → base ≤ x.block ∧ x.block < w.heap.size) := by
  rcases h.2 with ⟨rfl, rfl⟩ | ⟨g, cap, cur, rfl, hb, hh, _⟩
  · exact ⟨none, 0, rfl, (by intro x hx; cases hx)⟩
  · refine ⟨_, cap, rfl, ?_⟩
    intro x hx
    obtain rfl := Option.some.inj hx
    exact ⟨hb, (Array.getElem?_eq_some_iff.1 hh).1⟩

theorem PsAt.grown {w w' : World} {a : Option Addr} {ps : List (Int × Int)} {row : Option Nat} (h : PsAt w a ps) (hg : w.grownBy w' row) (hne : ∀ x, a = some x → row ≠ some x.block) : PsAt w' a ps := by
  intro i p hp
  obtain ⟨b, off, ha, hc, hd, hb⟩ := h i p hp
  have hb' := hg.block b (World.block_lt_of_cell? w _ hc) (fun e => hne _ ha e.symm)
  exact ⟨b, off, ha, (World.cell?_of_block hb').trans hc, (World.cell?_of_block hb').trans hd, hb⟩
theorem own_setQ {w : World} {base n : Nat} {v : Value} {xs : List Value} {p : Addr} {u : Value} (h : w.ownsRow base 86 2 v n xs) (hp : p.block < base) : (w.setCell p u).ownsRow base 86 2 v n xs := by
  refine ⟨h.1, ?_⟩
  rcases h.2 with h' | ⟨g', cap', cur, h', hb, hh, r⟩
  · exact .inl h'
  · exact .inr ⟨g', cap', cur, h', hb, (Below.heap_setCell w p u g' (by omega)).trans hh, r⟩

theorem okL_split (L : List (Int × Int)) (j : Nat) : okL L = okL (L.take j) ++ okL (L.drop j) := by
  unfold okL
  rw [← List.filter_append, List.take_append_drop]

set_option maxRecDepth 100000 in
set_option maxHeartbeats 3200000 in
theorem l3Soft_any (a1 a2 : Option Addr) (n1 c1 n2 c2 : Nat) (p1 p2 : List (Int × Int)) (w : World) (h1 : PsAt w a1 p1) (h2 : PsAt w a2 p2) (hn1 : p1.length = n1) (hn2 : p2.length = n2) (e1 : a1 = none → n1 = 0 ∧ c1 = 0) (e2 : a2 = none → n2 = 0 ∧ c2 = 0) (m1 : n1 ≤ 1048576) (m2 : n2 ≤ 1048576) :
    Calls Try.prog 68 #[.slice a1 n1 c1, .slice a2 n2 c2] w fun e w' => ∃ a m c, e = .returned (.agg #[.int .i64 1, .bool true, .slice a m c, .bool false, .int .i64 0, .slice none 0 0, .int .i64 0, .int .i64 0, .int .i64 0, .slice none 0 0]) ∧ OwQ w' w.heap.size (.slice a m c) ((okL (p1 ++ p2)).take 8) ∧ New w w' := by
  obtain ⟨iP, hi, hz0, hz1, hz2⟩ := info_parts Try.infoPx
  have H1 : Hid (p1.length = n1) := hn1
  have H2 : Hid (p2.length = n2) := hn2
  have bR := ((Blk.mk w w.heap.size 71 #[.int .i64 0, .bool false, .slice none 0 0, .bool false, .int .i64 0, .slice none 0 0, .int .i64 0, .int .i64 0, .int .i64 0, .slice none 0 0] rfl).alloc (.cells #[.int .i64 1, .bool true, .slice none 0 0, .bool false, .int .i64 0, .slice none 0 0, .int .i64 0, .int .i64 0, .int .i64 0, .slice none 0 0] 71)).alloc (.cells #[] 86)
  have bO := (Blk.mk (w.alloc (.cells #[.int .i64 0, .bool false, .slice none 0 0, .bool false, .int .i64 0, .slice none 0 0, .int .i64 0, .int .i64 0, .int .i64 0, .slice none 0 0] 71)) (w.heap.size + 1) 71 #[.int .i64 1, .bool true, .slice none 0 0, .bool false, .int .i64 0, .slice none 0 0, .int .i64 0, .int .i64 0, .int .i64 0, .slice none 0 0] (by simp)).alloc (.cells #[] 86)
  have hw0 := (((New.refl w).alloc (.cells #[.int .i64 0, .bool false, .slice none 0 0, .bool false, .int .i64 0, .slice none 0 0, .int .i64 0, .int .i64 0, .int .i64 0, .slice none 0 0] 71)).alloc (.cells #[.int .i64 1, .bool true, .slice none 0 0, .bool false, .int .i64 0, .slice none 0 0, .int .i64 0, .int .i64 0, .int .i64 0, .slice none 0 0] 71)).alloc (.cells #[] 86)
  have hlit : (((w.alloc (.cells #[.int .i64 0, .bool false, .slice none 0 0, .bool false, .int .i64 0, .slice none 0 0, .int .i64 0, .int .i64 0, .int .i64 0, .slice none 0 0] 71)).alloc (.cells #[.int .i64 1, .bool true, .slice none 0 0, .bool false, .int .i64 0, .slice none 0 0, .int .i64 0, .int .i64 0, .int .i64 0, .slice none 0 0] 71)).alloc (.cells #[] 86)).ownsRow (w.heap.size + 2) 86 2 (.slice (some ⟨w.heap.size + 1 + 1, 0, none⟩) 0 0) 0 (cellsP []) := by
    refine ⟨rfl, .inr ⟨w.heap.size + 1 + 1, 0, #[], rfl, Nat.le_refl _, ?_, Nat.le_refl _, by decide, rfl, rfl⟩⟩
    have := heap_alloc_new ((w.alloc (.cells #[.int .i64 0, .bool false, .slice none 0 0, .bool false, .int .i64 0, .slice none 0 0, .int .i64 0, .int .i64 0, .int .i64 0, .slice none 0 0] 71)).alloc (.cells #[.int .i64 1, .bool true, .slice none 0 0, .bool false, .int .i64 0, .slice none 0 0, .int .i64 0, .int .i64 0, .int .i64 0, .slice none 0 0] 71)) (.cells #[] 86)
    simpa using this
  have hbs : w.heap.size + 2 ≤ (((w.alloc (.cells #[.int .i64 0, .bool false, .slice none 0 0, .bool false, .int .i64 0, .slice none 0 0, .int .i64 0, .int .i64 0, .int .i64 0, .slice none 0 0] 71)).alloc (.cells #[.int .i64 1, .bool true, .slice none 0 0, .bool false, .int .i64 0, .slice none 0 0, .int .i64 0, .int .i64 0, .int .i64 0, .slice none 0 0] 71)).alloc (.cells #[] 86)).heap.size := by simp
  clear hn1 hn2
  go_enter Try.func68, Try.ntmps68
  go_wp2_with (at_builtin; first
    | (refine wpList_apQ _ rfl (.tmp 9) (.tmp 10) rfl (w.heap.size + 2) Try.underlying26 hi hz0 hz1 hz2 (.slice (some ⟨w.heap.size + 1 + 1, 0, none⟩) 0 0) 0 [] rfl hlit a1 n1 c1 p1 rfl (h1.new hw0) H1.out e1 (by omega) hbs ?_; intro v3 w3 ho3' hgr3; have bR3 := bR.grow hgr3 (by simp [Value.ownBlock]; omega); have bO3 := bO.grow hgr3 (by simp [Value.ownBlock]); have N3 : New w w3 := hw0.grow hgr3 (fun k e => by obtain rfl := Option.some.inj e; show w.heap.size ≤ w.heap.size + 1 + 1; omega); have s3 := Nat.le_trans hbs hgr3.size; have ho3 : w3.ownsRow (w.heap.size + 2) 86 2 v3 n1 (cellsP p1) := (by simpa using ho3'); have blk3 := own_blk ho3; clear ho3' bR bO hw0 hlit hbs hgr3)
    | (refine wpList_apQ _ rfl (.tmp 11) (.tmp 12) rfl (w.heap.size + 2) Try.underlying26 hi hz0 hz1 hz2 v3 n1 p1 rfl ho3 a2 n2 c2 p2 rfl (h2.new N3) H2.out e2 (by omega) s3 ?_; intro v4 w4 ho4 hgr4))
  have bR4 := bR3.grow hgr4 (fun e => by have := blk3 _ e; omega)
  have bO4 := bO3.grow hgr4 (fun e => by have := blk3 _ e; omega)
  have N4 : New w w4 := N3.grow hgr4 (fun k e => by have := blk3 _ e; omega)
  have HB1 : Hid (∀ p ∈ p1 ++ p2, In6 p.1 ∧ In6 p.2) := fun p hp => by
    rcases List.mem_append.1 hp with h | h
    · exact h1.bd p h
    · exact h2.bd p h
  have HL : Hid ((p1 ++ p2).length = n1 + n2) := by unfold Hid; rw [List.length_append, H1.out, H2.out]
  have hq4 : OwQ w4 (w.heap.size + 2) v4 (p1 ++ p2) := OwQ.of_own ho4 HL.out
  obtain ⟨a4, c4, rfl, hp4, hb4⟩ := hq4.ps HB1.out
  have s4 := N4.size
  have lO4 := bO4.lt
  rw [HL.out]
  clear ho4 hgr4 ho3 N3 bR3 bO3 s3 blk3 hq4 h1 h2
  generalize hLe : p1 ++ p2 = L at *
  have HLE : Hid (p1 ++ p2 = L) := hLe
  have hN : n1 + n2 ≤ 2097152 := by omega
  clear hLe H1 H2 e1 e2 m1 m2
  generalize n1 + n2 = N at *
  go_wp2_with fail
  go_loopw [7] (fun i wr => ∃ (j m : Nat) (v : Value), j ≤ N ∧ i = .int .i64 j ∧ m ≤ 8 ∧ wr.ownsRow w4.heap.size 86 2 v m (cellsP (okL (L.take j))) ∧ Blk wr w.heap.size 71 #[.int .i64 0, .bool false, .slice none 0 0, .bool false, .int .i64 0, .slice none 0 0, .int .i64 0, .int .i64 0, .int .i64 0, .slice none 0 0] ∧ Blk wr (w.heap.size + 1) 71 #[.int .i64 1, .bool true, v, .bool false, .int .i64 0, .slice none 0 0, .int .i64 0, .int .i64 0, .int .i64 0, .slice none 0 0] ∧ PsAt wr a4 L ∧ New w wr ∧ w4.heap.size ≤ wr.heap.size) (fun i _ => N - (intOf i).toNat)
  case atStart => exact ⟨0, 0, .slice none 0 0, Nat.zero_le _, rfl, by omega, ⟨rfl, .inl ⟨rfl, rfl⟩⟩, bR4, bO4, hp4, N4, Nat.le_refl _⟩
  case round =>
    clear bR4 bO4 hp4 N4
    obtain ⟨j, m, v, hj, rfl, hm8, ho, bR, bO, hp, hnw, hs⟩ := hrel
    have hml : Hid ((okL (L.take j)).length = m) := by have := ho.1; rw [cellsP_len] at this; unfold Hid; omega
    obtain ⟨va, vc, rfl, hva⟩ := own_slice ho
    have cO := bO.cells
    have fO := bO.frees
    have lO := bO.lt
    by_cases hend : j < N ∧ m < 8
    · obtain ⟨hlt, hm7⟩ := hend
      obtain ⟨b, off, x, y, ha4, hpx, x0, x1⟩ := hp.at j (by rw [HL.out]; exact hlt)
      subst ha4
      have hlti : (j : Int) < (N : Int) := by omega
      have hm7i : (m : Int) < 8 := by omega
      have HP : Hid (L[j]? = some (x, y)) := hpx
      clear hpx
      by_cases hz : pf x y = 0
      · have hT : Hid (okL (L.take (j + 1)) = okL (L.take j) ++ [(x, y)]) := okL_snoc_yes HP.out hz
        have HZ : Hid (pf x y = 0) := hz
        clear hz
        go_wp2_with fail
        refine (specPF x y _).mono ?_
        rintro e w5 ⟨rfl, hn5⟩
        rw [HZ.out]
        have ho5 := own_turnQ ho hn5
        have bO5 := bO.new hn5
        have bR5 := bR.new hn5
        have hp5 := hp.new hn5
        have N5 := hnw.trans hn5
        have s5 := hn5.size
        have x05 : w5.cell? ⟨b, off + j * 2, none⟩ = some (.int .i64 x) := (World.cell?_of_block (hn5.block b (World.block_lt_of_cell? _ _ x0) (fun f => f))).trans x0
        have x15 : w5.cell? ⟨b, off + j * 2 + 1, none⟩ = some (.int .i64 y) := (World.cell?_of_block (hn5.block b (World.block_lt_of_cell? _ _ x1) (fun f => f))).trans x1
        have hbl := hb4 ⟨b, off, none⟩ rfl
        have hblk := own_blk ho5
        clear cO fO lO x0 x1 ho bO bR hp hn5 hnw
        have cO := bO5.cells
        have fO := bO5.frees
        have lO := bO5.lt
        have cOa := (bO5.alloc (.cells #[.int .i64 x, .int .i64 y] 86)).cells
        go_wp2_with fail
        go_region_law (refine step_apR _ rfl (.tmp 35) (.tmp 40) rfl w4.heap.size Try.underlying26 hi hz0 hz1 hz2 (.slice va m vc) m _ rfl ((own_turnQ ho5 ((New.refl _).drew)).alloc _) ⟨_, 0, none⟩ x y rfl (by simp [Addr.add]) (by simp [Addr.add]) (by omega) (by first | omega | (simp; omega)) ?_; intro v6 w6 ho6 hgr6; obtain ⟨g6, c6, rfl⟩ := Joins.ownsRow_form ho6 (by omega); have bO6 := ((bO5.new ((New.refl _).drew)).alloc (.cells #[.int .i64 x, .int .i64 y] 86)).grow hgr6 (fun e => by have := hblk _ e; omega); have cO6 := bO6.cells; have fO6 := bO6.frees; have lO6 := bO6.lt)
        all_goals
          have N6 : New w w6 := ((N5.drew).alloc (.cells #[.int .i64 x, .int .i64 y] 86)).grow hgr6 (fun k e => by have := hblk k e; omega)
          have bR6 := ((bR5.new ((New.refl _).drew)).alloc (.cells #[.int .i64 x, .int .i64 y] 86)).grow hgr6 (fun e => by have := hblk _ e; omega)
          have hp6 : PsAt w6 (some ⟨b, off, none⟩) L := ((hp5.new ((New.refl _).drew)).new ((New.refl _).alloc (.cells #[.int .i64 x, .int .i64 y] 86))).grown hgr6 (fun z hz e => by obtain rfl := Option.some.inj hz; have := hblk _ e; simp only at this; omega)
          have s6 := hgr6.size
          have s56 : w5.heap.size ≤ (w5.drew.alloc (.cells #[.int .i64 x, .int .i64 y] 86)).heap.size := by simp
          have T7 := Turn.here (B := w.heap.size + 1) (j := 2) (Turn.refl _ w6) (.slice (some ⟨g6, 0, none⟩) (m + 1) c6)
          have ho7 : (w6.setCell ⟨w.heap.size + 1, 2, none⟩ (.slice (some ⟨g6, 0, none⟩) (m + 1) c6)).ownsRow w4.heap.size 86 2 (.slice (some ⟨g6, 0, none⟩) (m + 1) c6) (m + 1) (cellsP (okL (L.take (j + 1)))) := by rw [hT.out, cellsP_append]; exact own_setQ ho6 (by simp; omega)
          have bO7 := bO6.set 2 (.slice (some ⟨g6, 0, none⟩) (m + 1) c6)
          simp only [List.setIfInBounds_toArray, List.set_cons_zero, List.set_cons_succ] at bO7
          have bR7 := bR6.turn T7 (by omega)
          have hp7 : PsAt _ (some ⟨b, off, none⟩) L := hp6.turn T7 (fun z _ hz e => by obtain rfl := Option.some.inj hz; simp only at e; omega)
          have N7 := N6.before T7 (fun i hi e => by omega)
          have s7 : w4.heap.size ≤ (w6.setCell ⟨w.heap.size + 1, 2, none⟩ (.slice (some ⟨g6, 0, none⟩) (m + 1) c6)).heap.size := by have := T7.size; have := hgr6.size; simp at s56; simp at this; omega
          clear ho6 hgr6 bO6 cO6 fO6 lO6 bR6 hp6 N6 bO5 bR5 hp5 N5 ho5 cO fO lO cOa
          go_wp2
          go_roundw
          case rel => exact ⟨j + 1, m + 1, _, by omega, by go_num, by omega, ho7, bR7, bO7, hp7, N7, s7⟩
          case measure => simp [intOf]; omega
      · have hT : Hid (okL (L.take (j + 1)) = okL (L.take j)) := okL_snoc_no HP.out hz
        obtain ⟨q, hq⟩ : ∃ q, pf x y = q := ⟨_, rfl⟩
        rw [hq] at hz
        go_wp2_with fail
        refine (specPF_is x y q _ hq).mono ?_
        rintro e w5 ⟨rfl, hn5⟩
        have ho5 := own_turnQ ho hn5
        rw [← hT.out] at ho5
        have bO5 := bO.new hn5
        have bR5 := bR.new hn5
        have hp5 := hp.new hn5
        have N5 := hnw.trans hn5
        have s5 := Nat.le_trans hs hn5.size
        clear cO fO lO ho bO bR hp hn5 hnw
        go_wp2
        go_roundw
        case rel => exact ⟨j + 1, m, _, by omega, by go_num, by omega, ho5, bR5, bO5, hp5, N5, s5⟩
        case measure => simp [intOf]; omega
    · have HT : Hid ((okL L).take 8 = okL (L.take j)) := by
        unfold Hid
        by_cases hjN : j < N
        · have h8 : m = 8 := by omega
          rw [okL_split L j, List.take_append_of_le_length (by rw [hml.out]; omega), List.take_of_length_le (by rw [hml.out]; omega)]
        · rw [List.take_of_length_le (i := j) (by rw [HL.out]; omega)] at hml ⊢
          rw [List.take_of_length_le (by rw [hml.out]; exact hm8)]
      have hq : OwQ wr w4.heap.size (.slice va m vc) (okL (L.take j)) := OwQ.of_own ho hml.out
      have cR := bR.cells
      have fR := bR.frees
      have lR := bR.lt
      clear ho hml
      by_cases hjN : j < N
      · obtain rfl : m = 8 := by omega
        have hlti : (j : Int) < (N : Int) := by omega
        go_wp2
        refine bodyPost_ret (v := .agg #[.int .i64 1, .bool true, .slice va 8 vc, .bool false, .int .i64 0, .slice none 0 0, .int .i64 0, .int .i64 0, .int .i64 0, .slice none 0 0]) (by simp [results, Try.results68, go_sem, cR]) rfl ?_
        refine (fun (hT : Turn (fun k => k = w.heap.size) wr _) => ⟨_, _, _, rfl, by rw [HLE.out, HT.out]; exact (hq.turn hT (fun g hg e => by omega)).low (by omega), hnw.before hT (fun i hi e => by omega)⟩) ?_
        exact Turn.here (Turn.here (Turn.here (Turn.here (Turn.here (Turn.here (Turn.here (Turn.here (Turn.here (Turn.here (Turn.refl _ _) _) _) _) _) _) _) _) _) _) _
      · have hlti : ¬ (j : Int) < (N : Int) := by omega
        go_wp2
        refine bodyPost_ret (v := .agg #[.int .i64 1, .bool true, .slice va m vc, .bool false, .int .i64 0, .slice none 0 0, .int .i64 0, .int .i64 0, .int .i64 0, .slice none 0 0]) (by simp [results, Try.results68, go_sem, cR]) rfl ?_
        refine (fun (hT : Turn (fun k => k = w.heap.size) wr _) => ⟨_, _, _, rfl, by rw [HLE.out, HT.out]; exact (hq.turn hT (fun g hg e => by omega)).low (by omega), hnw.before hT (fun i hi e => by omega)⟩) ?_
        exact Turn.here (Turn.here (Turn.here (Turn.here (Turn.here (Turn.here (Turn.here (Turn.here (Turn.here (Turn.here (Turn.refl _ _) _) _) _) _) _) _) _) _) _) _

end Go.Proofs.Ytnhkmgibppiimaa
