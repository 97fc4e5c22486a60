/- What is proved here: what the model's reading of attributes answers. -/
import Derived.Test.YtnhkmgibppiimaaSdSoft
namespace Go.Proofs.Ytnhkmgibppiimaa
open Go.RowKit Go.Sort
set_option linter.unusedVariables false

theorem own_sliceN {w : World} {base n : Nat} {v : Value} {xs : List Value} (h : w.ownsRow base 2 1 v n xs) : ∃ a c, v = .slice a n c := by
  rcases h.2 with ⟨rfl, rfl⟩ | ⟨g, cap, cur, rfl, _⟩
  · exact ⟨none, 0, rfl⟩
  · exact ⟨_, cap, rfl⟩

theorem l3Attrs_short (b off n c k : Nat) (w : World) (hc : w.cell? ⟨b, off, none⟩ = some (.int .u8 (k : Int))) (hk : k ≤ 255) (hn : 0 < n) (hm : n ≤ 1048576) (hs : n < 8 + 2 * k) :
    Calls Try.prog 69 #[.slice (some ⟨b, off, none⟩) n c] w fun e w' => e = .returned (.tuple #[.agg #[.int .i64 0, .slice none 0 0, .int .i64 0, .int .i64 0, .int .i64 0], .int .i64 (-1)]) ∧ New w w' := by
  have hw := (New.refl w).alloc (.cells #[.int .i64 0, .slice none 0 0, .int .i64 0, .int .i64 0, .int .i64 0] 29)
  have bR := Blk.mk w w.heap.size 29 #[.int .i64 0, .slice none 0 0, .int .i64 0, .int .i64 0, .int .i64 0] rfl
  have cR := bR.cells
  have hwk : IntKind.i64.wrap (k : Int) = (k : Int) := by simp [IntKind.wrap, IntKind.signed, IntKind.bits]; omega
  have hn' : (0 : Int) < (n : Int) := by omega
  have hs' : (n : Int) < 8 + 2 * (k : Int) := by omega
  have hc' := (World.cell?_of_block (hw.block b (World.block_lt_of_cell? w _ hc) (fun f => f))).trans hc
  go_enter Try.func69, Try.ntmps69
  go_wp2
  refine bodyPost_ret (v := .tuple #[.agg #[.int .i64 0, .slice none 0 0, .int .i64 0, .int .i64 0, .int .i64 0], .int .i64 (-1)]) (by simp [results, Try.results69, go_sem, cR]) rfl ⟨rfl, ?_⟩
  exact hw

set_option maxRecDepth 100000 in
set_option maxHeartbeats 3200000 in
theorem l3Attrs_ok (b off n c k : Nat) (zs : List Int) (o : Int) (w : World) (h : BsAt w (some ⟨b, off, none⟩) zs) (hn : zs.length = n) (h0 : zs[0]? = some (k : Int)) (hm : n ≤ 1048576) (hk : 8 + 2 * k ≤ n) (hk5 : k ≤ 255) (ho : zs[1 + 2 * k]? = some o) :
    Calls Try.prog 69 #[.slice (some ⟨b, off, none⟩) n c] w fun e w' => ∃ a xc, e = .returned (.tuple #[.agg #[.int .i64 o, .slice a k xc, .int .i64 (numAt zs (2 + 2 * k) 2), .int .i64 (numAt zs (4 + 2 * k) 2), .int .i64 (numAt zs (6 + 2 * k) 2)], .int .i64 (8 + 2 * (k : Int))]) ∧ OwM w' w.heap.size (.slice a k xc) (nsR zs k) ∧ New w w' := by
  obtain ⟨iN, hi, hz0, hz1, hz2⟩ := info_parts Try.infoI64
  have HN : Hid (zs.length = n) := hn
  have hob := h.lt o (List.mem_of_getElem? ho)
  have hn' : (0 : Int) < (n : Int) := by omega
  have hs' : ¬ (n : Int) < 8 + 2 * (k : Int) := by omega
  have hwk : IntKind.i64.wrap (k : Int) = (k : Int) := by simp [IntKind.wrap, IntKind.signed, IntKind.bits]; omega
  have hw0 := ((New.refl w).alloc (.cells #[.int .i64 0, .slice none 0 0, .int .i64 0, .int .i64 0, .int .i64 0] 29)).alloc (.cells #[.int .i64 0, .slice none 0 0, .int .i64 0, .int .i64 0, .int .i64 0] 29)
  have bR : Blk ((w.alloc (.cells #[.int .i64 0, .slice none 0 0, .int .i64 0, .int .i64 0, .int .i64 0] 29)).alloc (.cells #[.int .i64 0, .slice none 0 0, .int .i64 0, .int .i64 0, .int .i64 0] 29)) w.heap.size 29 #[.int .i64 0, .slice none 0 0, .int .i64 0, .int .i64 0, .int .i64 0] := (Blk.mk _ _ _ _ rfl).alloc _
  have bA : Blk ((w.alloc (.cells #[.int .i64 0, .slice none 0 0, .int .i64 0, .int .i64 0, .int .i64 0] 29)).alloc (.cells #[.int .i64 0, .slice none 0 0, .int .i64 0, .int .i64 0, .int .i64 0] 29)) (w.heap.size + 1) 29 #[.int .i64 0, .slice none 0 0, .int .i64 0, .int .i64 0, .int .i64 0] := Blk.mk _ _ _ _ (by simp)
  have hc0 : w.cell? ⟨b, off, none⟩ = some (.int .u8 (k : Int)) := by
    obtain ⟨b', off', e', h1', _⟩ := h 0 _ h0
    simp only [Option.some.injEq, Addr.mk.injEq, and_true] at e'
    obtain ⟨rfl, rfl⟩ := e'
    simpa using h1'
  have hc1 := (World.cell?_of_block (((New.refl w).alloc (.cells #[.int .i64 0, .slice none 0 0, .int .i64 0, .int .i64 0, .int .i64 0] 29)).block b (World.block_lt_of_cell? w _ hc0) (fun f => f))).trans hc0
  clear hn
  go_enter Try.func69, Try.ntmps69
  go_wp2_with fail
  go_loopw [7] (fun i wr => ∃ (j : Nat) (v : Value), j ≤ k ∧ i = .int .i64 (j : Int) ∧ New w wr ∧ wr.ownsRow (w.heap.size + 2) 2 1 v j ((nsR zs j).map (Value.int .i64)) ∧ Blk wr w.heap.size 29 #[.int .i64 0, .slice none 0 0, .int .i64 0, .int .i64 0, .int .i64 0] ∧ Blk wr (w.heap.size + 1) 29 #[.int .i64 0, v, .int .i64 0, .int .i64 0, .int .i64 0]) (fun i _ => k - (intOf i).toNat)
  case atStart => exact ⟨0, .slice none 0 0, Nat.zero_le _, rfl, hw0, ⟨rfl, .inl ⟨rfl, rfl⟩⟩, bR, bA⟩
  case round =>
    clear hc0 hc1 bR bA hw0
    obtain ⟨j, v, hj, rfl, hnw, hown, bR, bA⟩ := hrel
    have hblk := own_blkN hown
    obtain ⟨va, vc, rfl⟩ := own_sliceN hown
    have cA := bA.cells
    have fA := bA.frees
    have hal := bA.lt
    by_cases hlt : j < k
    · have hS : Hid ((nsR zs (j + 1)).map (Value.int .i64) = (nsR zs j).map (Value.int .i64) ++ [.int .i64 (numAt zs (1 + 2 * j) 2)]) := by unfold Hid; rw [nsR_succ]; simp
      generalize hA : numAt zs (1 + 2 * j) 2 = A at *
      have HA : Hid (numAt zs (1 + 2 * j) 2 = A) := hA
      clear hA
      have cAa := (bA.alloc (.cells #[.int .i64 A] 2)).cells
      have hlt8 : (j : Int) < (k : Int) := by omega
      have hw1 : IntKind.i64.wrap (2 * (j : Int)) = 2 * (j : Int) := by simp [IntKind.wrap, IntKind.signed, IntKind.bits]; omega
      have hw2 : IntKind.i64.wrap (1 + 2 * (j : Int)) = 1 + 2 * (j : Int) := by simp [IntKind.wrap, IntKind.signed, IntKind.bits]; omega
      have hbn := h.new hnw
      have hsz := hnw.size
      go_wp2_with fail
      go_region_law (first
        | (refine step_apV _ rfl (.tmp 28) (.tmp 34) rfl (w.heap.size + 2) (.int .i64 0) Try.underlying27 hi hz0 hz1 hz2 rfl (.slice va j vc) j _ rfl ((own_newN hown N1).alloc _) ⟨_, 0, none⟩ (.int .i64 A) rfl (by simp [Addr.add]) rfl (by omega) (by first | omega | (simp; omega)) ?_; intro v' w3 ho3 hgr3; obtain ⟨g3, c3, rfl⟩ := Joins.ownsRow_form ho3 (by omega); have bA3 := ((bA.new N1).alloc (.cells #[.int .i64 A] 2)).grow hgr3 (fun e => by have := hblk _ e; omega); have cA3 := bA3.cells; have fA3 := bA3.frees)
        | (go_simp; go_at_call 43; (rw [show (1 + 2 * (j : Int)) = ((1 + 2 * j : Nat) : Int) by omega]); refine (take_any _ n c (1 + 2 * j) 2 zs _ (hbn.new ((New.refl _).drew)) HN.out hm (by omega) (by omega)).mono ?_; rintro e w1 ⟨rfl, hw1⟩; (rw [HA.out]); have N1 : New wr w1 := (by rw [hw1]; exact (New.refl _).drew); have cA1 := (bA.new N1).cells; have cA1a := ((bA.new N1).alloc (.cells #[.int .i64 A] 2)).cells; have s1 := N1.size; clear hw1))
      all_goals
        have N3 : New w w3 := ((hnw.trans N1).alloc (.cells #[.int .i64 A] 2)).grow hgr3 (fun k e => by have := hblk k e; omega)
        have bR3 := ((bR.new N1).alloc (.cells #[.int .i64 A] 2)).grow hgr3 (fun e => by have := hblk _ e; omega)
        have N4 : New w (w3.setCell ⟨w.heap.size + 1, 1, none⟩ (.slice (some ⟨g3, 0, none⟩) (j + 1) c3)) := N3.setCell (by simp) _
        have bR4 : Blk (w3.setCell ⟨w.heap.size + 1, 1, none⟩ (.slice (some ⟨g3, 0, none⟩) (j + 1) c3)) w.heap.size 29 #[.int .i64 0, .slice none 0 0, .int .i64 0, .int .i64 0, .int .i64 0] := bR3.turn (Turn.here (Turn.refl _ _) _) (by omega)
        have bA4 : Blk (w3.setCell ⟨w.heap.size + 1, 1, none⟩ (.slice (some ⟨g3, 0, none⟩) (j + 1) c3)) (w.heap.size + 1) 29 #[.int .i64 0, .slice (some ⟨g3, 0, none⟩) (j + 1) c3, .int .i64 0, .int .i64 0, .int .i64 0] := bA3.set 1 _
        have ho4 : (w3.setCell ⟨w.heap.size + 1, 1, none⟩ (.slice (some ⟨g3, 0, none⟩) (j + 1) c3)).ownsRow (w.heap.size + 2) 2 1 (.slice (some ⟨g3, 0, none⟩) (j + 1) c3) (j + 1) ((nsR zs (j + 1)).map (Value.int .i64)) := by rw [hS.out]; exact own_setN ho3 (by simp)
        clear ho3 hgr3 hown bA bR bA3 bR3 cA cAa cA1 cA1a cA3 fA3 fA N1 N3
        go_wp2
        go_roundw
        case rel => exact ⟨j + 1, _, by omega, by go_num, N4, ho4, bR4, bA4⟩
        case measure => simp [intOf]; omega
    · obtain rfl : j = k := by omega
      have hco : wr.cell? ⟨b, off + (1 + 2 * j), none⟩ = some (.int .u8 o) := by
        obtain ⟨b', off', e', h1', _⟩ := (h.new hnw) (1 + 2 * j) o ho
        simp only [Option.some.injEq, Addr.mk.injEq, and_true] at e'
        obtain ⟨rfl, rfl⟩ := e'
        exact h1'
      have hwo : IntKind.i64.wrap o = o := by simp [IntKind.wrap, IntKind.signed, IntKind.bits]; omega
      have hM : OwM wr (w.heap.size + 2) (.slice va j vc) (nsR zs j) := OwM.of_own hown (nsR_len _ _)
      obtain ⟨X, hX⟩ : ∃ X, numAt zs (2 + 2 * j) 2 = X := ⟨_, rfl⟩
      obtain ⟨Y, hY⟩ : ∃ Y, numAt zs (4 + 2 * j) 2 = Y := ⟨_, rfl⟩
      obtain ⟨Z, hZ⟩ : ∃ Z, numAt zs (6 + 2 * j) 2 = Z := ⟨_, rfl⟩
      have HX : Hid (numAt zs (2 + 2 * j) 2 = X) := hX
      have HY : Hid (numAt zs (4 + 2 * j) 2 = Y) := hY
      have HZ : Hid (numAt zs (6 + 2 * j) 2 = Z) := hZ
      have e1 : 1 + 2 * (j : Int) + 1 = ((2 + 2 * j : Nat) : Int) := by omega
      have e3 : 1 + 2 * (j : Int) + 3 = ((4 + 2 * j : Nat) : Int) := by omega
      have e5 : 1 + 2 * (j : Int) + 5 = ((6 + 2 * j : Nat) : Int) := by omega
      have hi0 : 0 ≤ 1 + 2 * (j : Int) := by omega
      have hi1 : 1 + 2 * (j : Int) < (n : Int) := by omega
      have hit : (1 + 2 * (j : Int)).toNat = 1 + 2 * j := by omega
      clear hX hY hZ hown
      have T1 := Turn.here (B := w.heap.size + 1) (j := 0) (Turn.refl _ wr) (.int .i64 o)
      have N1 := hnw.before T1 (fun i hi e => by omega)
      have T2 := Turn.here (B := w.heap.size + 1) (j := 2) T1 (.int .i64 X)
      have N2 := hnw.before T2 (fun i hi e => by omega)
      have T3 := Turn.here (B := w.heap.size + 1) (j := 3) T2 (.int .i64 Y)
      have N3 := hnw.before T3 (fun i hi e => by omega)
      have T4 := Turn.here (B := w.heap.size + 1) (j := 4) T3 (.int .i64 Z)
      have N4 := hnw.before T4 (fun i hi e => by omega)
      have M4 := hM.turn T4 (fun g hg e => by omega)
      have b4 := (((bA.set 0 (.int .i64 o)).set 2 (.int .i64 X)).set 3 (.int .i64 Y)).set 4 (.int .i64 Z)
      simp only [List.setIfInBounds_toArray, List.set_cons_zero, List.set_cons_succ] at b4
      have bR4 := bR.turn T4 (by omega)
      go_wp2_with fail
      rw [show (2 + 2 * (j : Int)) = ((2 + 2 * j : Nat) : Int) by omega]
      refine (take_any _ n c (2 + 2 * j) 2 zs _ (h.new N1) HN.out hm (by omega) (by omega)).mono ?_
      rintro e w2 ⟨rfl, rfl⟩
      rw [HX.out]
      go_wp2_with fail
      rw [show (4 + 2 * (j : Int)) = ((4 + 2 * j : Nat) : Int) by omega]
      refine (take_any _ n c (4 + 2 * j) 2 zs _ (h.new N2) HN.out hm (by omega) (by omega)).mono ?_
      rintro e w2 ⟨rfl, rfl⟩
      rw [HY.out]
      go_wp2_with fail
      rw [show (6 + 2 * (j : Int)) = ((6 + 2 * j : Nat) : Int) by omega]
      refine (take_any _ n c (6 + 2 * j) 2 zs _ (h.new N3) HN.out hm (by omega) (by omega)).mono ?_
      rintro e w2 ⟨rfl, rfl⟩
      rw [HZ.out]
      have cR := bR.cells
      have fR := bR.frees
      have lR := bR.lt
      have hne : ¬ w.heap.size + 1 = w.heap.size := by omega
      have hne' : ¬ w.heap.size = w.heap.size + 1 := by omega
      clear b4 bR4
      go_wp2
      refine bodyPost_ret (v := .tuple #[.agg #[.int .i64 o, .slice va j vc, .int .i64 X, .int .i64 Y, .int .i64 Z], .int .i64 (8 + 2 * (j : Int))]) (by simp [results, Try.results69, go_sem, cR]) rfl ?_
      refine (fun (hT : Turn (fun k => k = w.heap.size) ((((wr.setCell ⟨w.heap.size + 1, 0, none⟩ (.int .i64 o)).setCell ⟨w.heap.size + 1, 2, none⟩ (.int .i64 X)).setCell ⟨w.heap.size + 1, 3, none⟩ (.int .i64 Y)).setCell ⟨w.heap.size + 1, 4, none⟩ (.int .i64 Z)) _) => ⟨va, vc, by rw [HX.out, HY.out, HZ.out], (M4.turn hT (fun g hg e => by omega)).low (by omega), N4.before hT (fun i hi e => by omega)⟩) ?_
      exact Turn.here (Turn.here (Turn.here (Turn.here (Turn.here (Turn.refl _ _) _) _) _) _) _

end Go.Proofs.Ytnhkmgibppiimaa
