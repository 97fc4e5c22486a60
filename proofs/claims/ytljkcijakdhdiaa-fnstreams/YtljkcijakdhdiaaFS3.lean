/- What is proved here: what the drawing of an update answers: an update without a fault. What is proved here: what the drawing of a message answers. What is proved here: what the packing of a message answers, in the program, for every lists of at most 1048576 elements. What is proved here: what the packing of a message answers, in the program, for every lists of at most 1048576 elements. -/
import Derived.Test.YtljkcijakdhdiaaFS2
import Derived.Test.YtljkcijakdhdiaaMsMf
namespace Go.Proofs.Ytljkcijakdhdiaa
open Go.RowKit Go.Sort
set_option linter.unusedVariables false

theorem own_turnQB {w w' : World} {base n : Nat} {v : Value} {xs : List Value} {S : Nat → Prop} (h : w.ownsRow base 88 2 v n xs) (t : Turn S w w') (hS : ∀ g, v.ownBlock = some g → ¬ S g) : w'.ownsRow base 88 2 v n xs := by
  refine ⟨h.1, ?_⟩
  rcases h.2 with h' | ⟨g', cap', cur, h', hb, hh, r⟩
  · exact .inl h'
  · have hlt : g' < w.heap.size := (Array.getElem?_eq_some_iff.1 hh).1
    exact .inr ⟨g', cap', cur, h', hb, (t.block g' hlt (hS g' (by rw [h']; rfl))).trans hh, r⟩
theorem OwQ.turnB' {w w' : World} {lo : Nat} {v : Value} {L : List (Int × Int)} {S : Nat → Prop} (h : OwQ w lo v L) (t : Turn S w w') (hS : ∀ g, v.ownBlock = some g → ¬ S g) : OwQ w' lo v L := by
  rcases h with h | ⟨g, c, h1, h2, h3⟩
  · exact .inl h
  · exact .inr ⟨g, c, h1, h2, h3.turn t (hS g (by rw [h1]; rfl))⟩
theorem uf_true {gs rs : List (Int × Int)} {o nx md lc : Int} {xs : List Int} (hg : ∀ p ∈ gs, pf p.1 p.2 = 0) (hr : ∀ p ∈ rs, pf p.1 p.2 = 0) (h8 : gs.length ≤ 8) (r8 : rs.length ≤ 8) (r0 : 0 < rs.length) (ha : af o xs nx md lc = 0) : uf gs true o xs nx md lc rs = 0 := by
  have h0 : lf gs = 0 := by unfold lf; rw [if_neg (by omega), lfc_nought hg]
  have h1 : lf rs = 0 := by unfold lf; rw [if_neg (by omega), lfc_nought hr]
  unfold uf
  rw [if_neg (by omega), h0, h1]
  simp [r0, ha]

/-- What the drawing of an update leaves. -/
structure Drawn (w : World) (lo : Nat) (gs : List (Int × Int)) (xs : List Int) (rs : List (Int × Int)) (x y z : Value) : Prop where
  g : OwQ w lo x gs
  n : OwM w lo y xs
  r : OwQ w lo z rs
  lg : gs.length ≤ 3
  ln : xs.length ≤ 7
  lr : rs.length ≤ 4

set_option maxRecDepth 100000 in
set_option maxHeartbeats 6400000 in
theorem l3DrawUpdate_sc {B n c t : Nat} {a : Option Addr} {zs : List Int} {w : World} (h : Sc w B a n c zs t) (ht : t ≤ 10000) :
    Calls Try.prog 53 #[.pointer (some ⟨B, 0, none⟩)] w fun e w' => ∃ (gs rs : List (Int × Int)) (xs : List Int) (has : Bool) (o nx md lc : Int) (x y z : Value) (t' : Nat), e = .returned (.agg #[x, .bool has, .int .i64 o, y, .int .i64 nx, .int .i64 md, .int .i64 lc, z]) ∧ uf gs has o xs nx md lc rs = 0 ∧ gs.length ≤ 2 ∧ xs.length ≤ 3 ∧ rs.length ≤ 3 ∧ t' ≤ t + 200 ∧ OwQ w' w.heap.size x gs ∧ OwM w' w.heap.size y xs ∧ OwQ w' w.heap.size z rs ∧ Sc w' B a n c zs t' ∧ Turn (fun k => k = B) w w' ∧ (∀ b, x.ownBlock = some b → y.ownBlock ≠ some b) ∧ (∀ b, x.ownBlock = some b → z.ownBlock ≠ some b) ∧ (∀ b, y.ownBlock = some b → z.ownBlock ≠ some b) := by
  obtain ⟨iP, hi, hz0, hz1, hz2⟩ := info_parts Try.infoPx
  have hlt := h.blk.lt
  have hA := h.lt_of
  have hw0 := ((New.refl w).alloc (.cells #[.slice none 0 0, .bool false, .int .i64 0, .slice none 0 0, .int .i64 0, .int .i64 0, .int .i64 0, .slice none 0 0] 49)).alloc (.cells #[.slice none 0 0, .bool false, .int .i64 0, .slice none 0 0, .int .i64 0, .int .i64 0, .int .i64 0, .slice none 0 0] 49)
  have bR0 := (Blk.mk w w.heap.size 49 #[.slice none 0 0, .bool false, .int .i64 0, .slice none 0 0, .int .i64 0, .int .i64 0, .int .i64 0, .slice none 0 0] rfl).alloc (.cells #[.slice none 0 0, .bool false, .int .i64 0, .slice none 0 0, .int .i64 0, .int .i64 0, .int .i64 0, .slice none 0 0] 49)
  have bU0 := Blk.mk (w.alloc (.cells #[.slice none 0 0, .bool false, .int .i64 0, .slice none 0 0, .int .i64 0, .int .i64 0, .int .i64 0, .slice none 0 0] 49)) (w.heap.size + 1) 49 #[.slice none 0 0, .bool false, .int .i64 0, .slice none 0 0, .int .i64 0, .int .i64 0, .int .i64 0, .slice none 0 0] (by simp)
  have hRB : ¬ w.heap.size = B := by omega
  have hUB : ¬ w.heap.size + 1 = B := by omega
  go_enter Try.func53, Try.ntmps53
  go_wp2_with fail
  refine (next_sc (h.new hw0) 3 (by omega) (by omega)).mono ?_
  rintro e w1 ⟨r1, rfl, ⟨p1, q1, -⟩, hs1, ht1⟩
  have q1 := q1 (by omega)
  obtain ⟨k0, rfl⟩ := Int.eq_ofNat_of_zero_le p1
  have bR1 := bR0.turn ht1 hRB
  have bU1 := bU0.turn ht1 hUB
  have t01 := Turn.both (hw0.turn (S := fun k => k = B)) ht1
  clear bR0 bU0 hw0 ht1
  go_wp2_with fail
  go_loopw [4] (fun s wr => ∃ (k t' m : Nat) (v : Value) (gs : List (Int × Int)), s = .int .i64 (k : Int) ∧ k ≤ 2 ∧ m + k ≤ 2 ∧ (∀ p ∈ gs, pf p.1 p.2 = 0) ∧ t' + 10 * k ≤ t + 30 ∧ wr.ownsRow (w.heap.size + 2) 88 2 v m (cellsP gs) ∧ Blk wr w.heap.size 49 #[.slice none 0 0, .bool false, .int .i64 0, .slice none 0 0, .int .i64 0, .int .i64 0, .int .i64 0, .slice none 0 0] ∧ Blk wr (w.heap.size + 1) 49 #[v, .bool false, .int .i64 0, .slice none 0 0, .int .i64 0, .int .i64 0, .int .i64 0, .slice none 0 0] ∧ Sc wr B a n c zs t' ∧ Turn (fun k => k = B) w wr) (fun s _ => (intOf s).toNat)
  case atStart => exact ⟨k0, _, 0, .slice none 0 0, [], rfl, by omega, by omega, by simp, by omega, ⟨rfl, .inl ⟨rfl, rfl⟩⟩, bR1, bU1, hs1, t01⟩
  case round =>
    clear bR1 bU1 hs1 t01
    obtain ⟨k, t', m, v, gs, rfl, hk, hmk, hok, ht', hown, bR, bU, hsc, htn⟩ := hrel
    have hblk := own_blk hown
    obtain ⟨va, vc, rfl, hvb⟩ := own_slice hown
    have cU := bU.cells
    have fU := bU.frees
    have hal := bU.lt
    have HML : Hid (gs.length = m) := by have := hown.1; rw [cellsP_len] at this; unfold Hid; omega
    by_cases hlt0 : 0 < k
    · have hd0 := hsc.new ((New.refl _).drew)
      go_wp2_with fail
      go_region_law (first
        | (refine step_apR _ rfl (.tmp 14) (.tmp 17) rfl (w.heap.size + 2) Try.underlying44 hi hz0 hz1 hz2 (.slice va m vc) m _ rfl (own1.alloc _) ⟨_, 0, none⟩ x l rfl (by simp [Addr.add]) (by simp [Addr.add]) (by omega) (by first | omega | (simp; omega)) ?_; intro v' w4' ho4 hgr4; obtain ⟨g4, c4, rfl⟩ := Joins.ownsRow_form ho4 (by omega); have bU4 := (bU1.alloc (.cells #[.int .i64 x, .int .i64 l] 88)).grow hgr4 (fun e => by have := hblk _ e; omega); have cU4 := bU4.cells; have fU4 := bU4.frees)
        | (go_simp; go_at_call 70; refine (l2Prefix_sc hd0 (by omega)).mono ?_; rintro e v1 ⟨x, l, tc, rfl, hpx, htc, hsA, htA⟩; have bU1 := (bU.new ((New.refl _).drew)).turn htA (by omega); have cU1 := bU1.cells; have cU1a := (bU1.alloc (.cells #[.int .i64 x, .int .i64 l] 88)).cells; have own1 := own_turnQB (own_turnQ hown ((New.refl _).drew)) htA (fun g hg e => by have := hblk g hg; omega); have s1 : wr.heap.size ≤ v1.heap.size := htA.size))
      all_goals
        have tA : Turn (fun k => k = B) wr v1 := Turn.both (((New.refl wr).drew).turn (S := fun k => k = B)) htA
        have hal1 := (New.refl v1).alloc (.cells #[.int .i64 x, .int .i64 l] 88)
        have bR3 := ((bR.turn tA hRB).new hal1).grow hgr4 (fun e => by have := hblk _ e; omega)
        have tg : Turn (fun k => (Value.slice va m vc).ownBlock = some k) (v1.alloc (.cells #[.int .i64 x, .int .i64 l] 88)) w4' := ⟨hgr4.os, hgr4.tape, hgr4.output, hgr4.size, fun k hk hs => hgr4.block k hk (fun e => hs e.symm)⟩
        have sc4 := (hsA.new hal1).turn tg (fun e => by have := hblk _ e; omega) (fun x hz hx e => by have := hA x hz hx; have := hblk _ e; omega)
        have T5 := Turn.here (B := w.heap.size + 1) (j := 0) (Turn.refl _ w4') (.slice (some ⟨g4, 0, none⟩) (m + 1) c4)
        have sc5 := sc4.turn T5 (by omega) (fun x hz hx e => by have := hA x hz hx; omega)
        have bR5 := bR3.turn T5 (by omega)
        have bU5 := bU4.set 0 (.slice (some ⟨g4, 0, none⟩) (m + 1) c4)
        simp only [List.setIfInBounds_toArray, List.set_cons_zero] at bU5
        have ho5 : (w4'.setCell ⟨w.heap.size + 1, 0, none⟩ (.slice (some ⟨g4, 0, none⟩) (m + 1) c4)).ownsRow (w.heap.size + 2) 88 2 (.slice (some ⟨g4, 0, none⟩) (m + 1) c4) (m + 1) (cellsP (gs ++ [(x, l)])) := own_setQ (by rw [cellsP_append]; exact ho4) (by simp; try omega)
        have t5 : Turn (fun k => k = B) w (w4'.setCell ⟨w.heap.size + 1, 0, none⟩ (.slice (some ⟨g4, 0, none⟩) (m + 1) c4)) := Turn.trans (Turn.trans (Turn.both (Turn.both htn tA) (hal1.turn (S := fun k => k = B))) tg (fun i hi e => by have := hblk _ e; omega)) T5 (fun i hi e => by omega)
        have hok5 : ∀ p ∈ gs ++ [(x, l)], pf p.1 p.2 = 0 := by
          intro p hp
          rcases List.mem_append.1 hp with h | h
          · exact hok p h
          · simp at h; subst h; exact hpx
        clear ho4 hgr4 hown bU bR bU1 bU4 bR3 cU fU cU1 cU1a cU4 fU4 own1 hsA htA tA tg sc4 T5 hal1 hd0 hsc htn
        go_wp2
        go_roundw
        case rel => exact ⟨k - 1, _, m + 1, _, gs ++ [(x, l)], by go_num, by omega, by omega, hok5, by omega, ho5, bR5, bU5, sc5, t5⟩
        case measure => simp [intOf]; omega
    · obtain rfl : k = 0 := by omega
      have hQ : OwQ wr (w.heap.size + 2) (.slice va m vc) gs := OwQ.of_own hown HML.out
      clear hown hblk
      go_wp2_with fail
      refine (chance_sc hsc 4 (by omega) (by omega)).mono ?_
      rintro e w2 ⟨r2, rfl, hs2, ht2⟩
      have hQ2 := hQ.turnB' ht2 (fun g hg e => by have := hQ.blk g hg; omega)
      have bR2 := bR.turn ht2 hRB
      have bU2 := bU.turn ht2 hUB
      have t02 := Turn.both htn ht2
      have hgb := hQ2.blk
      clear cU fU hQ bR bU hsc htn ht2 hal
      have cU := bU2.cells
      have fU := bU2.frees
      have hal := bU2.lt
      cases r2 with
      | true =>
        have cR := bR2.cells
        have fR := bR2.frees
        have lR := bR2.lt
        have huf : Hid (uf gs false 0 [] 0 0 0 [] = 0) := uf_gs hok (by rw [HML.out]; omega)
        go_wp2
        refine bodyPost_ret (v := .agg #[.slice va m vc, .bool false, .int .i64 0, .slice none 0 0, .int .i64 0, .int .i64 0, .int .i64 0, .slice none 0 0]) (by simp [results, Try.results53, go_sem, cR]) rfl ?_
        refine (fun (hT : Turn (fun k => k = w.heap.size) w2 _) => ⟨gs, [], [], false, 0, 0, 0, 0, _, _, _, _, rfl, huf.out, by rw [HML.out]; omega, by simp, by simp, by omega, (hQ2.turn hT (fun g hg e => by omega)).low (by omega), OwM.nil _ _, OwQ.nil _ _, hs2.turn hT (by omega) (fun x hz hx e => by have := hA x hz hx; omega), Turn.trans t02 hT (fun i hi e => by omega), (by intro b _ e; cases e), (by intro b _ e; cases e), (by intro b e; cases e)⟩) ?_
        exact Turn.here (Turn.here (Turn.here (Turn.here (Turn.here (Turn.here (Turn.here (Turn.here (Turn.refl _ _) _) _) _) _) _) _) _) _
      | false =>
        have b3 := bU2.set 1 (.bool true)
        simp only [List.setIfInBounds_toArray, List.set_cons_zero, List.set_cons_succ] at b3
        have T3 := Turn.here (B := w.heap.size + 1) (j := 1) (Turn.refl _ w2) (.bool true)
        have bR3 := bR2.turn T3 (by omega)
        have hQ3 := hQ2.turn T3 (fun g hg e => by omega)
        have hs3 := hs2.turn T3 (by omega) (fun x hz hx e => by have := hA x hz hx; omega)
        have t03 := Turn.trans t02 T3 (fun i hi e => by omega)
        have sz3 := T3.size
        clear bU2 bR2 hQ2 hs2 t02
        go_wp2_with fail
        refine (l3DrawAttrs_sc hs3 (by omega)).mono ?_
        rintro e w4 ⟨o, nx, md, lc, xs, xa, xc, t4, rfl, haf, hxl, ht4, hM4, hs4, htA4⟩
        have HAF : Hid (af o xs nx md lc = 0) := haf
        have b4 := b3.turn htA4 hUB
        have bR4 := bR3.turn htA4 hRB
        have hQ4 := hQ3.turnB' htA4 (fun g hg e => by have := hQ3.blk g hg; omega)
        have t04 := Turn.both t03 htA4
        have hMb := hM4.blk
        have hM4' := hM4.low (Nat.le_trans hal sz3)
        clear cU fU b3 bR3 hQ3 hs3 t03 T3 haf hM4
        generalize hX : xs.length = xn at *
        have HX : Hid (xs.length = xn) := hX
        clear hX
        have cU := b4.cells
        have fU := b4.frees
        have lU := b4.lt
        have b5 := ((((b4.set 2 (.int .i64 o)).set 3 (.slice xa xn xc)).set 4 (.int .i64 nx)).set 5 (.int .i64 md)).set 6 (.int .i64 lc)
        simp only [List.setIfInBounds_toArray, List.set_cons_zero, List.set_cons_succ] at b5
        have T5 := Turn.here (B := w.heap.size + 1) (j := 6) (Turn.here (j := 5) (Turn.here (j := 4) (Turn.here (j := 3) (Turn.here (j := 2) (Turn.refl _ w4) (.int .i64 o)) (.slice xa xn xc)) (.int .i64 nx)) (.int .i64 md)) (.int .i64 lc)
        have bR5 := bR4.turn T5 (by omega)
        have hQ5 := hQ4.turn T5 (fun g hg e => by omega)
        have hM5 := hM4'.turn T5 (fun g hg e => by omega)
        have hs5 := hs4.turn T5 (by omega) (fun x hz hx e => by have := hA x hz hx; omega)
        have t05 := Turn.trans t04 T5 (fun i hi e => by omega)
        have sz5 := T5.size
        clear b4 bR4 hQ4 hs4 t04 hM4'
        go_wp2_with fail
        refine (next_sc hs5 3 (by omega) (by omega)).mono ?_
        rintro e w6 ⟨r6, rfl, ⟨p6, q6, -⟩, hs6, ht6⟩
        have q6 := q6 (by omega)
        obtain ⟨k6, rfl⟩ := Int.eq_ofNat_of_zero_le p6
        have b6 := b5.turn ht6 hUB
        have bR6 := bR5.turn ht6 hRB
        have hQ6 := hQ5.turnB' ht6 (fun g hg e => by have := hQ5.blk g hg; omega)
        have hM6 := hM5.turnB' ht6 (fun g hg e => by have := hM5.blk g hg; omega)
        have t06 := Turn.both t05 ht6
        have kQ := hQ6.blk
        have kM := hM6.blk
        have l6 := b6.lt
        have lB6 := hs6.blk.lt
        clear cU fU b5 bR5 hQ5 hM5 hs5 t05 T5 ht6 lU
        go_wp2_with fail
        go_loopw [5] (fun s wr => ∃ (k t' rm : Nat) (v : Value) (rs : List (Int × Int)), s = .int .i64 (k : Int) ∧ k ≤ 3 ∧ rm + k ≤ 3 ∧ 1 ≤ rm + k ∧ (∀ p ∈ rs, pf p.1 p.2 = 0) ∧ t' + 10 * k ≤ t + 100 ∧ wr.ownsRow (w6.heap.size) 88 2 v rm (cellsP rs) ∧ Blk wr w.heap.size 49 #[.slice none 0 0, .bool false, .int .i64 0, .slice none 0 0, .int .i64 0, .int .i64 0, .int .i64 0, .slice none 0 0] ∧ Blk wr (w.heap.size + 1) 49 #[.slice va m vc, .bool true, .int .i64 o, .slice xa xn xc, .int .i64 nx, .int .i64 md, .int .i64 lc, v] ∧ Sc wr B a n c zs t' ∧ Turn (fun k => k = B) w wr ∧ OwQ wr (w.heap.size + 2) (.slice va m vc) gs ∧ OwM wr (w.heap.size + 2) (.slice xa xn xc) xs ∧ w6.heap.size ≤ wr.heap.size) (fun s _ => (intOf s).toNat)
        case atStart => exact ⟨1 + k6, _, 0, .slice none 0 0, [], by first | rfl | go_num | simp, by omega, by omega, by omega, by simp, by omega, ⟨rfl, .inl ⟨rfl, rfl⟩⟩, bR6, b6, hs6, t06, hQ6, hM6, Nat.le_refl _⟩
        case round =>
          clear bR6 b6 hs6 t06 hQ6 hM6
          have HG : Hid (∀ p ∈ gs, pf p.1 p.2 = 0) := hok
          clear hok
          obtain ⟨k, t', rm, v, rs, rfl, hk, hmk, hmk1, hok, ht', hown, bR, bU, hsc, htn, hQ, hM, hs66⟩ := hrel
          have hblk := own_blk hown
          obtain ⟨va', vc', rfl, hvb⟩ := own_slice hown
          have cU := bU.cells
          have fU := bU.frees
          have hal := bU.lt
          have HRL : Hid (rs.length = rm) := by have := hown.1; rw [cellsP_len] at this; unfold Hid; omega
          by_cases hlt0 : 0 < k
          · have hd0 := hsc.new ((New.refl _).drew)
            go_wp2_with fail
            go_region_law (first
              | (refine step_apR _ rfl (.tmp 35) (.tmp 38) rfl (w6.heap.size) Try.underlying44 hi hz0 hz1 hz2 (.slice va' rm vc') rm _ rfl (own1.alloc _) ⟨_, 0, none⟩ x l rfl (by simp [Addr.add]) (by simp [Addr.add]) (by omega) (by first | omega | (simp; omega)) ?_; intro v' w4' ho4 hgr4; obtain ⟨g4, c4, rfl⟩ := Joins.ownsRow_form ho4 (by omega); have bU4 := (bU1.alloc (.cells #[.int .i64 x, .int .i64 l] 88)).grow hgr4 (fun e => by have := hblk _ e; omega); have cU4 := bU4.cells; have fU4 := bU4.frees)
              | (go_simp; go_at_call 70; refine (l2Prefix_sc hd0 (by omega)).mono ?_; rintro e v1 ⟨x, l, tc, rfl, hpx, htc, hsA, htA⟩; have bU1 := (bU.new ((New.refl _).drew)).turn htA (by omega); have cU1 := bU1.cells; have cU1a := (bU1.alloc (.cells #[.int .i64 x, .int .i64 l] 88)).cells; have own1 := own_turnQB (own_turnQ hown ((New.refl _).drew)) htA (fun g hg e => by have := hblk g hg; omega); have s1 : wr.heap.size ≤ v1.heap.size := htA.size))
            all_goals
              have tA : Turn (fun k => k = B) wr v1 := Turn.both (((New.refl wr).drew).turn (S := fun k => k = B)) htA
              have hal1 := (New.refl v1).alloc (.cells #[.int .i64 x, .int .i64 l] 88)
              have bR3 := ((bR.turn tA hRB).new hal1).grow hgr4 (fun e => by have := hblk _ e; omega)
              have tg : Turn (fun k => (Value.slice va' rm vc').ownBlock = some k) (v1.alloc (.cells #[.int .i64 x, .int .i64 l] 88)) w4' := ⟨hgr4.os, hgr4.tape, hgr4.output, hgr4.size, fun k hk hs => hgr4.block k hk (fun e => hs e.symm)⟩
              have sc4 := (hsA.new hal1).turn tg (fun e => by have := hblk _ e; omega) (fun x hz hx e => by have := hA x hz hx; have := hblk _ e; omega)
              have T5 := Turn.here (B := w.heap.size + 1) (j := 7) (Turn.refl _ w4') (.slice (some ⟨g4, 0, none⟩) (rm + 1) c4)
              have sc5 := sc4.turn T5 (by omega) (fun x hz hx e => by have := hA x hz hx; omega)
              have bR5 := bR3.turn T5 (by omega)
              have bU5 := bU4.set 7 (.slice (some ⟨g4, 0, none⟩) (rm + 1) c4)
              simp only [List.setIfInBounds_toArray, List.set_cons_zero, List.set_cons_succ] at bU5
              have ho5 : (w4'.setCell ⟨w.heap.size + 1, 7, none⟩ (.slice (some ⟨g4, 0, none⟩) (rm + 1) c4)).ownsRow (w6.heap.size) 88 2 (.slice (some ⟨g4, 0, none⟩) (rm + 1) c4) (rm + 1) (cellsP (rs ++ [(x, l)])) := own_setQ (by rw [cellsP_append]; exact ho4) (by simp; try omega)
              have t5 : Turn (fun k => k = B) w (w4'.setCell ⟨w.heap.size + 1, 7, none⟩ (.slice (some ⟨g4, 0, none⟩) (rm + 1) c4)) := Turn.trans (Turn.trans (Turn.both (Turn.both htn tA) (hal1.turn (S := fun k => k = B))) tg (fun i hi e => by have := hblk _ e; omega)) T5 (fun i hi e => by omega)
              have hok5 : ∀ p ∈ rs ++ [(x, l)], pf p.1 p.2 = 0 := by
                intro p hp
                rcases List.mem_append.1 hp with h | h
                · exact hok p h
                · simp at h; subst h; exact hpx
              have hQ5 := ((((hQ.turnB' tA (fun g hg e => by have := kQ g hg; omega)).new hal1).turnB' tg (fun g hg e => by have := kQ g hg; have := hblk _ e; omega))).turn T5 (fun g hg e => by omega)
              have hM5 := ((((hM.turnB' tA (fun g hg e => by have := kM g hg; omega)).new hal1).turnB' tg (fun g hg e => by have := kM g hg; have := hblk _ e; omega))).turn T5 (fun g hg e => by omega)
              have s5 : w6.heap.size ≤ (w4'.setCell ⟨w.heap.size + 1, 7, none⟩ (.slice (some ⟨g4, 0, none⟩) (rm + 1) c4)).heap.size := by have := T5.size; have := tg.size; simp at this; omega
              clear ho4 hgr4 hown bU bR bU1 bU4 bR3 cU fU cU1 cU1a cU4 fU4 own1 hsA htA tA tg sc4 T5 hal1 hd0 hsc htn hQ hM
              go_wp2
              go_roundw
              case rel => exact ⟨k - 1, _, rm + 1, _, rs ++ [(x, l)], by go_num, by omega, by omega, by omega, hok5, by omega, ho5, bR5, bU5, sc5, t5, hQ5, hM5, s5⟩
              case measure => simp [intOf]; omega
          · obtain rfl : k = 0 := by omega
            have hR : OwQ wr w6.heap.size (.slice va' rm vc') rs := OwQ.of_own hown HRL.out
            clear hown
            have cR := bR.cells
            have fR := bR.frees
            have lR := bR.lt
            have huf : Hid (uf gs true o xs nx md lc rs = 0) := uf_true HG.out hok (by rw [HML.out]; omega) (by rw [HRL.out]; omega) (by rw [HRL.out]; omega) HAF.out
            go_wp2
            refine bodyPost_ret (v := .agg #[.slice va m vc, .bool true, .int .i64 o, .slice xa xn xc, .int .i64 nx, .int .i64 md, .int .i64 lc, .slice va' rm vc']) (by simp [results, Try.results53, go_sem, cR]) rfl ?_
            refine (fun (hT : Turn (fun k => k = w.heap.size) wr _) => ⟨gs, rs, xs, true, o, nx, md, lc, _, _, _, _, rfl, huf.out, by rw [HML.out]; omega, by rw [HX.out]; omega, by rw [HRL.out]; omega, by omega, (hQ.turn hT (fun g hg e => by omega)).low (by omega), (hM.turn hT (fun g hg e => by omega)).low (by omega), (hR.turn hT (fun g hg e => by omega)).low (by omega), hsc.turn hT (by omega) (fun x hz hx e => by have := hA x hz hx; omega), Turn.trans htn hT (fun i hi e => by omega), (fun b e1 e2 => by have := hgb b e1; have := hMb b e2; omega), (fun b e1 e2 => by have := kQ b e1; have := hR.blk b e2; omega), (fun b e1 e2 => by have := kM b e1; have := hR.blk b e2; omega)⟩) ?_
            exact Turn.here (Turn.here (Turn.here (Turn.here (Turn.here (Turn.here (Turn.here (Turn.here (Turn.refl _ _) _) _) _) _) _) _) _) _

end Go.Proofs.Ytljkcijakdhdiaa

namespace Go.Proofs.Ytljkcijakdhdiaa
open Go.RowKit Go.Sort
set_option linter.unusedVariables false

theorem Turn.hereD {w wr : World} {B j : Nat} (h : Turn (fun k => k = B) w wr) (v : Value) : Turn (fun k => k = B) w (wr.setCell ⟨B, j, none⟩ v) := h.set rfl v

theorem uf_in {gs rs : List (Int × Int)} {has : Bool} {o nx md lc : Int} {xs : List Int} (h : uf gs has o xs nx md lc rs = 0) : (∀ p ∈ gs, In6 p.1 ∧ In6 p.2) ∧ (∀ z ∈ xs, In6 z) ∧ (∀ p ∈ rs, In6 p.1 ∧ In6 p.2) := by
  obtain ⟨_, _, hg, hr, h1, h0⟩ := uf_ok h
  refine ⟨fun p hp => pf_in ((lf_ok hg).2 p hp), ?_, fun p hp => pf_in ((lf_ok hr).2 p hp)⟩
  cases has with
  | true =>
    obtain ⟨_, haf⟩ := h1 rfl
    obtain ⟨-, -, hx⟩ := af_ok haf
    intro z hz
    have := hx z hz
    unfold In6
    omega
  | false =>
    obtain ⟨_, hz⟩ := h0 rfl
    intro u hu
    simp [ZaP] at hz
    simp_all

set_option maxHeartbeats 6400000 in
theorem l4Message_sc {B n c t : Nat} {a : Option Addr} {zs : List Int} {w : World} (h : Sc w B a n c zs t) (ht : t ≤ 5000) :
    Calls Try.prog 29 #[.pointer (some ⟨B, 0, none⟩)] w fun e w' => ∃ (kd sa mh mi wh su : Int) (gs rs : List (Int × Int)) (xs : List Int) (has : Bool) (o nx md lc : Int) (x y z : Value) (t' : Nat), e = .returned (.agg #[.int .i64 kd, .int .i64 sa, .int .i64 mh, .int .i64 mi, .int .i64 wh, .int .i64 su, x, .bool has, .int .i64 o, y, .int .i64 nx, .int .i64 md, .int .i64 lc, z]) ∧ gs.length ≤ 9 ∧ xs.length ≤ 7 ∧ rs.length ≤ 4 ∧ (∀ p ∈ gs, In6 p.1 ∧ In6 p.2) ∧ (∀ z ∈ xs, In6 z) ∧ (∀ p ∈ rs, In6 p.1 ∧ In6 p.2) ∧ OwQ w' w.heap.size x gs ∧ OwM w' w.heap.size y xs ∧ OwQ w' w.heap.size z rs ∧ t' ≤ t + 250 ∧ Sc w' B a n c zs t' ∧ Turn (fun k => k = B) w w' := by
  have hlt := h.blk.lt
  have hA := h.lt_of
  have N0 : New w (w.alloc (.cells #[.int .i64 0, .int .i64 0, .int .i64 0, .int .i64 0, .int .i64 0, .int .i64 0, .slice none 0 0, .bool false, .int .i64 0, .slice none 0 0, .int .i64 0, .int .i64 0, .int .i64 0, .slice none 0 0] 51)) := (New.refl w).alloc _
  have bR0 := Blk.mk w w.heap.size 51 #[.int .i64 0, .int .i64 0, .int .i64 0, .int .i64 0, .int .i64 0, .int .i64 0, .slice none 0 0, .bool false, .int .i64 0, .slice none 0 0, .int .i64 0, .int .i64 0, .int .i64 0, .slice none 0 0] rfl
  have hs0 := h.new N0
  have tT0 : Turn (fun k => k = B) w (w.alloc (.cells #[.int .i64 0, .int .i64 0, .int .i64 0, .int .i64 0, .int .i64 0, .int .i64 0, .slice none 0 0, .bool false, .int .i64 0, .slice none 0 0, .int .i64 0, .int .i64 0, .int .i64 0, .slice none 0 0] 51)) := N0.turn
  have hRB : ¬ w.heap.size = B := by omega
  have hSR : ∀ x, zs ≠ [] → a = some x → ¬ x.block = w.heap.size := fun x h1 h2 e => by have := hA x h1 h2; omega
  go_enter Try.func29, Try.ntmps29
  go_wp2_with fail
  refine (next_sc hs0 6 (by omega) (by omega)).mono ?_
  rintro e w1 ⟨y0, rfl, -, hs1, tn1⟩
  have bR1 := bR0.turn tn1 hRB
  have tT1 := Turn.both tT0 tn1
  clear bR0 tT0
  by_cases g0 : y0 = 0
  · subst g0
    go_wp2_with fail
    refine (next_sc hs1 5 (by omega) (by omega)).mono ?_
    rintro e w2 ⟨y1, rfl, ⟨py1, qy1, -⟩, hs2, tn2⟩
    have bR2 := bR1.turn tn2 hRB
    have tT2 := Turn.both tT1 tn2
    clear bR1 tT1
    have qy1 := qy1 (by omega)
    have hwy1 : IntKind.i64.wrap (1 + y1) = 1 + y1 := wrap_in (by omega)
    go_wp2_with fail
    refine (pick_sc (hs2.new ((New.refl _).alloc (.cells #[.int .i64 (9), .int .i64 (9), .int .i64 (0), .int .i64 (3), .int .i64 (200)] 2))) [9, 9, 0, 3, 200] (Blk.mk w2 w2.heap.size 2 #[.int .i64 (9), .int .i64 (9), .int .i64 (0), .int .i64 (3), .int .i64 (200)] rfl) 5 rfl (by omega) (by omega) (by omega)).mono ?_
    rintro e w3 ⟨q1, rfl, -, hs3, tn3⟩
    have bR3 := (bR2.alloc (.cells #[.int .i64 (9), .int .i64 (9), .int .i64 (0), .int .i64 (3), .int .i64 (200)] 2)).turn tn3 hRB
    have tT3 := Turn.both (Turn.andNew tT2 ((New.refl _).alloc (.cells #[.int .i64 (9), .int .i64 (9), .int .i64 (0), .int .i64 (3), .int .i64 (200)] 2))) tn3
    clear bR2 tT2
    go_wp2_with fail
    refine (next_sc hs3 9 (by omega) (by omega)).mono ?_
    rintro e w4 ⟨y2, rfl, ⟨py2, qy2, -⟩, hs4, tn4⟩
    have bR4 := bR3.turn tn4 hRB
    have tT4 := Turn.both tT3 tn4
    clear bR3 tT3
    have qy2 := qy2 (by omega)
    have hwy2 : IntKind.i64.wrap (1 + y2) = 1 + y2 := wrap_in (by omega)
    have cR := bR4.cells
    have fR := bR4.frees
    go_wp2
    refine bodyPost_ret (v := .agg #[.int .i64 1, .int .i64 (1 + y1), .int .i64 q1, .int .i64 (1 + y2), .int .i64 0, .int .i64 0, .slice none 0 0, .bool false, .int .i64 0, .slice none 0 0, .int .i64 0, .int .i64 0, .int .i64 0, .slice none 0 0]) (by simp [results, Try.results29, go_sem, cR]) rfl ?_
    refine (fun (hT : Turn (fun k => k = w.heap.size) w4 _) => ⟨1, 1 + y1, q1, 1 + y2, 0, 0, [], [], [], false, 0, 0, 0, 0, _, _, _, _, rfl, by simp, by simp, by simp, by simp, by simp, by simp, OwQ.nil _ _, OwM.nil _ _, OwQ.nil _ _, by omega, hs4.turn hT (fun e => hRB e.symm) hSR, Turn.trans tT4 hT (fun i hi e => by omega)⟩) ?_
    exact Turn.hereD (Turn.hereD (Turn.hereD (Turn.hereD (Turn.hereD (Turn.hereD (Turn.hereD (Turn.hereD (Turn.hereD (Turn.hereD (Turn.hereD (Turn.hereD (Turn.hereD (Turn.hereD (Turn.refl _ _) _) _) _) _) _) _) _) _) _) _) _) _) _) _
  have e0 : (y0 == 0) = false := by simpa using g0
  by_cases g1 : y0 = 1
  · subst g1
    go_wp2_with fail
    refine (next_sc hs1 6 (by omega) (by omega)).mono ?_
    rintro e w2 ⟨y1, rfl, ⟨py1, qy1, -⟩, hs2, tn2⟩
    have bR2 := bR1.turn tn2 hRB
    have tT2 := Turn.both tT1 tn2
    clear bR1 tT1
    have qy1 := qy1 (by omega)
    have hwy1 : IntKind.i64.wrap (1 + y1) = 1 + y1 := wrap_in (by omega)
    go_wp2_with fail
    refine (next_sc hs2 21 (by omega) (by omega)).mono ?_
    rintro e w3 ⟨y2, rfl, -, hs3, tn3⟩
    have bR3 := bR2.turn tn3 hRB
    have tT3 := Turn.both tT2 tn3
    clear bR2 tT2
    have cR := bR3.cells
    have fR := bR3.frees
    go_wp2
    refine bodyPost_ret (v := .agg #[.int .i64 3, .int .i64 0, .int .i64 0, .int .i64 0, .int .i64 (1 + y1), .int .i64 y2, .slice none 0 0, .bool false, .int .i64 0, .slice none 0 0, .int .i64 0, .int .i64 0, .int .i64 0, .slice none 0 0]) (by simp [results, Try.results29, go_sem, cR]) rfl ?_
    refine (fun (hT : Turn (fun k => k = w.heap.size) w3 _) => ⟨3, 0, 0, 0, 1 + y1, y2, [], [], [], false, 0, 0, 0, 0, _, _, _, _, rfl, by simp, by simp, by simp, by simp, by simp, by simp, OwQ.nil _ _, OwM.nil _ _, OwQ.nil _ _, by omega, hs3.turn hT (fun e => hRB e.symm) hSR, Turn.trans tT3 hT (fun i hi e => by omega)⟩) ?_
    exact Turn.hereD (Turn.hereD (Turn.hereD (Turn.hereD (Turn.hereD (Turn.hereD (Turn.hereD (Turn.hereD (Turn.hereD (Turn.hereD (Turn.hereD (Turn.hereD (Turn.hereD (Turn.hereD (Turn.refl _ _) _) _) _) _) _) _) _) _) _) _) _) _) _) _
  have e1 : (y0 == 1) = false := by simpa using g1
  by_cases g2 : y0 = 2
  · subst g2
    have cR := bR1.cells
    have fR := bR1.frees
    go_wp2
    refine bodyPost_ret (v := .agg #[.int .i64 4, .int .i64 0, .int .i64 0, .int .i64 0, .int .i64 0, .int .i64 0, .slice none 0 0, .bool false, .int .i64 0, .slice none 0 0, .int .i64 0, .int .i64 0, .int .i64 0, .slice none 0 0]) (by simp [results, Try.results29, go_sem, cR]) rfl ?_
    refine (fun (hT : Turn (fun k => k = w.heap.size) w1 _) => ⟨4, 0, 0, 0, 0, 0, [], [], [], false, 0, 0, 0, 0, _, _, _, _, rfl, by simp, by simp, by simp, by simp, by simp, by simp, OwQ.nil _ _, OwM.nil _ _, OwQ.nil _ _, by omega, hs1.turn hT (fun e => hRB e.symm) hSR, Turn.trans tT1 hT (fun i hi e => by omega)⟩) ?_
    exact Turn.hereD (Turn.hereD (Turn.hereD (Turn.hereD (Turn.hereD (Turn.hereD (Turn.hereD (Turn.hereD (Turn.hereD (Turn.hereD (Turn.hereD (Turn.hereD (Turn.hereD (Turn.hereD (Turn.refl _ _) _) _) _) _) _) _) _) _) _) _) _) _) _) _
  have e2 : (y0 == 2) = false := by simpa using g2
  have tT1s := tT1.size
  have z1 : w.heap.size < w1.heap.size := bR1.lt
  go_wp2_with fail
  refine (l3DrawUpdate_sc hs1 (by omega)).mono ?_
  rintro e w2 ⟨gs, rs, xs, has, o, nx, md, lc, x, y, z, t2, rfl, huf, hg2, hx3, hr3, ht2, oQ, oM, oR, hs2, tn2, -, -, -⟩
  have bR2 := bR1.turn tn2 hRB
  have tT2 := Turn.both tT1 tn2
  clear bR1 tT1
  obtain ⟨xa, xc, rfl⟩ := oQ.slice
  obtain ⟨ya, yc, rfl⟩ := oM.slice
  obtain ⟨za, zc, rfl⟩ := oR.slice
  have s1 : w.heap.size + 1 ≤ w1.heap.size := by have := tT1s; omega
  obtain ⟨ig, ix, ir⟩ := uf_in huf
  have cR := bR2.cells
  have fR := bR2.frees
  go_wp2
  refine bodyPost_ret (v := .agg #[.int .i64 2, .int .i64 0, .int .i64 0, .int .i64 0, .int .i64 0, .int .i64 0, .slice xa gs.length xc, .bool has, .int .i64 o, .slice ya xs.length yc, .int .i64 nx, .int .i64 md, .int .i64 lc, .slice za rs.length zc]) (by simp [results, Try.results29, go_sem, cR]) rfl ?_
  refine (fun (hT : Turn (fun k => k = w.heap.size) w2 _) => ⟨2, 0, 0, 0, 0, 0, gs, rs, xs, has, o, nx, md, lc, _, _, _, _, rfl, by omega, by omega, by omega, ig, ix, ir, (oQ.turn hT (fun g hg e => by omega)).low (by omega), (oM.turn hT (fun g hg e => by omega)).low (by omega), (oR.turn hT (fun g hg e => by omega)).low (by omega), by omega, hs2.turn hT (fun e => hRB e.symm) hSR, Turn.trans tT2 hT (fun i hi e => by omega)⟩) ?_
  exact Turn.hereD (Turn.hereD (Turn.hereD (Turn.hereD (Turn.hereD (Turn.hereD (Turn.hereD (Turn.hereD (Turn.hereD (Turn.hereD (Turn.hereD (Turn.hereD (Turn.hereD (Turn.hereD (Turn.refl _ _) _) _) _) _) _) _) _) _) _) _) _) _) _) _

end Go.Proofs.Ytljkcijakdhdiaa

namespace Go.Proofs.Ytljkcijakdhdiaa
open Go.RowKit Go.Sort
set_option linter.unusedVariables false

/-- What the packing of a body answers: its bytes. -/
def BdAns (w : World) (zs : List Int) (e : Ending) (w' : World) : Prop :=
  ∃ (a : Option Addr) (m cap : Nat), e = .returned (.slice a m cap) ∧ BsAt w' a zs ∧ zs.length = m ∧ (a = none → m = 0 ∧ cap = 0) ∧ New w w'

/-- The bytes of an open. -/
def opB (sa ho si : Int) : List Int := [sa / 256, sa % 256, ho, si / 256, si % 256]

theorem own_nil (w : World) (base : Nat) (e : TypeId) : w.ownsRow base e 1 (.slice none 0 0) 0 (([] : List Int).map (Value.int .u8)) := ⟨rfl, .inl ⟨rfl, rfl⟩⟩

/-- The body of a message. -/
def msB (kd sa ho si wh su : Int) (gs : List (Int × Int)) (has : Bool) (o : Int) (xs : List Int) (nx md lc : Int) (rs : List (Int × Int)) : List Int :=
  if kd = 1 then opB sa ho si else if kd = 2 then upB gs has o xs nx md lc rs else if kd = 3 then [wh, su] else []
/-- What PackMessage answers: the fault, or the message's bytes in new memory. -/
def MsAns (w : World) (kd sa ho si wh su : Int) (gs : List (Int × Int)) (has : Bool) (o : Int) (xs : List Int) (nx md lc : Int) (rs : List (Int × Int)) (e : Ending) (w' : World) : Prop :=
  ∃ (a : Option Addr) (m cap : Nat) (ys : List Int), e = .returned (.agg #[.int .i64 (mf kd sa ho si wh su gs has o xs nx md lc rs), .slice a m cap]) ∧ OwAt w' a m cap ys ∧ (∀ z ∈ ys, 0 ≤ z ∧ z ≤ 255) ∧ (∀ x, a = some x → w.heap.size ≤ x.block ∧ x.block < w'.heap.size) ∧ New w w' ∧
    ys = (if mf kd sa ho si wh su gs has o xs nx md lc rs = 0 then packOf kd (msB kd sa ho si wh su gs has o xs nx md lc rs) else []) ∧ (a = none → m = 0 ∧ cap = 0) ∧ m ≤ 125

end Go.Proofs.Ytljkcijakdhdiaa

namespace Go.Proofs.Ytljkcijakdhdiaa
open Go.RowKit Go.Sort
set_option linter.unusedVariables false

theorem mf_zero {gs rs : List (Int × Int)} {has : Bool} {o nx md lc : Int} {xs : List Int} {kd sa ho si wh su : Int} (h : mf kd sa ho si wh su gs has o xs nx md lc rs = 0) :
    (kd = 1 ∧ Opn sa ho si ∧ wh = 0 ∧ su = 0 ∧ ZuP gs has o xs nx md lc rs) ∨ (kd = 2 ∧ sa = 0 ∧ ho = 0 ∧ si = 0 ∧ wh = 0 ∧ su = 0 ∧ uf gs has o xs nx md lc rs = 0) ∨ (kd = 3 ∧ Nty wh su ∧ sa = 0 ∧ ho = 0 ∧ si = 0 ∧ ZuP gs has o xs nx md lc rs) ∨ (kd = 4 ∧ sa = 0 ∧ ho = 0 ∧ si = 0 ∧ wh = 0 ∧ su = 0 ∧ ZuP gs has o xs nx md lc rs) := by
  by_cases h0 : kd < 1 ∨ 4 < kd
  · rw [mf_none h0] at h; cases h
  rcases (show kd = 1 ∨ kd = 2 ∨ kd = 3 ∨ kd = 4 by omega) with rfl | rfl | rfl | rfl
  · by_cases h1 : Opn sa ho si
    · by_cases h2 : wh = 0 ∧ su = 0 ∧ ZuP gs has o xs nx md lc rs
      · exact .inl ⟨rfl, h1, h2⟩
      · rw [mf1_form h1 h2] at h; cases h
    · rw [mf1_bad h1] at h; cases h
  · by_cases h2 : sa = 0 ∧ ho = 0 ∧ si = 0 ∧ wh = 0 ∧ su = 0
    · rw [mf2_ok h2] at h
      exact .inr (.inl ⟨rfl, h2.1, h2.2.1, h2.2.2.1, h2.2.2.2.1, h2.2.2.2.2, h⟩)
    · rw [mf2_form h2] at h; cases h
  · by_cases h1 : Nty wh su
    · by_cases h2 : sa = 0 ∧ ho = 0 ∧ si = 0 ∧ ZuP gs has o xs nx md lc rs
      · exact .inr (.inr (.inl ⟨rfl, h1, h2⟩))
      · rw [mf3_form h1 h2] at h; cases h
    · rw [mf3_bad h1] at h; cases h
  · by_cases h2 : sa = 0 ∧ ho = 0 ∧ si = 0 ∧ wh = 0 ∧ su = 0 ∧ ZuP gs has o xs nx md lc rs
    · exact .inr (.inr (.inr ⟨rfl, h2⟩))
    · rw [mf4_form h2] at h; cases h

theorem upB_short {gs rs : List (Int × Int)} {has : Bool} {o nx md lc : Int} {xs : List Int} (h : uf gs has o xs nx md lc rs = 0) : (upB gs has o xs nx md lc rs).length ≤ 120 := by
  obtain ⟨h1, h2, -, -, hy, -⟩ := uf_ok h
  rw [upB_len]
  split
  · rename_i ht
    have := (af_ok (hy ht).2).2.1
    omega
  · omega

end Go.Proofs.Ytljkcijakdhdiaa
