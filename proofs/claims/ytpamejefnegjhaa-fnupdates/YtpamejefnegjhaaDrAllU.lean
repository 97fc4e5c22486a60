/- What is proved here: what the drawing of an update answers: an update without a fault. What is proved here: what the bending of bytes, and the drawing of the bytes of an update, answer. What is proved here: what the bending of attributes answers: attributes within bounds. What is proved here: what the bending of an update, and the drawing of one to be packed, answer. -/
import Derived.Test.YtpamejefnegjhaaDrawAt
import Derived.Test.YtpamejefnegjhaaSdSoft
import Derived.Test.YtpamejefnegjhaaPuAllU
import Derived.Test.YtpamejefnegjhaaUpSpk2
namespace Go.Proofs.Ytpamejefnegjhaa
open Go.RowKit Go.Sort
set_option linter.unusedVariables false

theorem own_turnQB {w w' : World} {base n : Nat} {v : Value} {xs : List Value} {S : Nat → Prop} (h : w.ownsRow base 53 2 v n xs) (t : Turn S w w') (hS : ∀ g, v.ownBlock = some g → ¬ S g) : w'.ownsRow base 53 2 v n xs := by
  refine ⟨h.1, ?_⟩
  rcases h.2 with h' | ⟨g', cap', cur, h', hb, hh, r⟩
  · exact .inl h'
  · have hlt : g' < w.heap.size := (Array.getElem?_eq_some_iff.1 hh).1
    exact .inr ⟨g', cap', cur, h', hb, (t.block g' hlt (hS g' (by rw [h']; rfl))).trans hh, r⟩
theorem OwQ.turnB' {w w' : World} {lo : Nat} {v : Value} {L : List (Int × Int)} {S : Nat → Prop} (h : OwQ w lo v L) (t : Turn S w w') (hS : ∀ g, v.ownBlock = some g → ¬ S g) : OwQ w' lo v L := by
  rcases h with h | ⟨g, c, h1, h2, h3⟩
  · exact .inl h
  · exact .inr ⟨g, c, h1, h2, h3.turn t (hS g (by rw [h1]; rfl))⟩
theorem OwM.turnB' {w w' : World} {lo : Nat} {v : Value} {L : List Int} {S : Nat → Prop} (h : OwM w lo v L) (t : Turn S w w') (hS : ∀ g, v.ownBlock = some g → ¬ S g) : OwM w' lo v L := by
  rcases h with h | ⟨g, c, h1, h2, h3⟩
  · exact .inl h
  · exact .inr ⟨g, c, h1, h2, h3.turn t (hS g (by rw [h1]; rfl))⟩
theorem uf_true {gs rs : List (Int × Int)} {o nx md lc : Int} {xs : List Int} (hg : ∀ p ∈ gs, pf p.1 p.2 = 0) (hr : ∀ p ∈ rs, pf p.1 p.2 = 0) (h8 : gs.length ≤ 8) (r8 : rs.length ≤ 8) (r0 : 0 < rs.length) (ha : af o xs nx md lc = 0) : uf gs true o xs nx md lc rs = 0 := by
  have h0 : lf gs = 0 := by unfold lf; rw [if_neg (by omega), lfc_nought hg]
  have h1 : lf rs = 0 := by unfold lf; rw [if_neg (by omega), lfc_nought hr]
  unfold uf
  rw [if_neg (by omega), h0, h1]
  simp [r0, ha]

/-- What the drawing of an update leaves. -/
structure Drawn (w : World) (lo : Nat) (gs : List (Int × Int)) (xs : List Int) (rs : List (Int × Int)) (x y z : Value) : Prop where
  g : OwQ w lo x gs
  n : OwM w lo y xs
  r : OwQ w lo z rs
  lg : gs.length ≤ 3
  ln : xs.length ≤ 7
  lr : rs.length ≤ 4

set_option maxRecDepth 100000 in
set_option maxHeartbeats 6400000 in
theorem l3DrawUpdate_sc {B n c t : Nat} {a : Option Addr} {zs : List Int} {w : World} (h : Sc w B a n c zs t) (ht : t ≤ 10000) :
    Calls Try.prog 15 #[.pointer (some ⟨B, 0, none⟩)] w fun e w' => ∃ (gs rs : List (Int × Int)) (xs : List Int) (has : Bool) (o nx md lc : Int) (x y z : Value) (t' : Nat), e = .returned (.agg #[x, .bool has, .int .i64 o, y, .int .i64 nx, .int .i64 md, .int .i64 lc, z]) ∧ uf gs has o xs nx md lc rs = 0 ∧ gs.length ≤ 2 ∧ xs.length ≤ 3 ∧ rs.length ≤ 3 ∧ t' ≤ t + 200 ∧ OwQ w' w.heap.size x gs ∧ OwM w' w.heap.size y xs ∧ OwQ w' w.heap.size z rs ∧ Sc w' B a n c zs t' ∧ Turn (fun k => k = B) w w' ∧ (∀ b, x.ownBlock = some b → y.ownBlock ≠ some b) ∧ (∀ b, x.ownBlock = some b → z.ownBlock ≠ some b) ∧ (∀ b, y.ownBlock = some b → z.ownBlock ≠ some b) := by
  obtain ⟨iP, hi, hz0, hz1, hz2⟩ := info_parts Try.infoPx
  have hlt := h.blk.lt
  have hA := h.lt_of
  have hw0 := ((New.refl w).alloc (.cells #[.slice none 0 0, .bool false, .int .i64 0, .slice none 0 0, .int .i64 0, .int .i64 0, .int .i64 0, .slice none 0 0] 30)).alloc (.cells #[.slice none 0 0, .bool false, .int .i64 0, .slice none 0 0, .int .i64 0, .int .i64 0, .int .i64 0, .slice none 0 0] 30)
  have bR0 := (Blk.mk w w.heap.size 30 #[.slice none 0 0, .bool false, .int .i64 0, .slice none 0 0, .int .i64 0, .int .i64 0, .int .i64 0, .slice none 0 0] rfl).alloc (.cells #[.slice none 0 0, .bool false, .int .i64 0, .slice none 0 0, .int .i64 0, .int .i64 0, .int .i64 0, .slice none 0 0] 30)
  have bU0 := Blk.mk (w.alloc (.cells #[.slice none 0 0, .bool false, .int .i64 0, .slice none 0 0, .int .i64 0, .int .i64 0, .int .i64 0, .slice none 0 0] 30)) (w.heap.size + 1) 30 #[.slice none 0 0, .bool false, .int .i64 0, .slice none 0 0, .int .i64 0, .int .i64 0, .int .i64 0, .slice none 0 0] (by simp)
  have hRB : ¬ w.heap.size = B := by omega
  have hUB : ¬ w.heap.size + 1 = B := by omega
  go_enter Try.func15, Try.ntmps15
  go_wp2_with fail
  refine (next_sc (h.new hw0) 3 (by omega) (by omega)).mono ?_
  rintro e w1 ⟨r1, rfl, ⟨p1, q1, -⟩, hs1, ht1⟩
  have q1 := q1 (by omega)
  obtain ⟨k0, rfl⟩ := Int.eq_ofNat_of_zero_le p1
  have bR1 := bR0.turn ht1 hRB
  have bU1 := bU0.turn ht1 hUB
  have t01 := Turn.both (hw0.turn (S := fun k => k = B)) ht1
  clear bR0 bU0 hw0 ht1
  go_wp2_with fail
  go_loopw [4] (fun s wr => ∃ (k t' m : Nat) (v : Value) (gs : List (Int × Int)), s = .int .i64 (k : Int) ∧ k ≤ 2 ∧ m + k ≤ 2 ∧ (∀ p ∈ gs, pf p.1 p.2 = 0) ∧ t' + 10 * k ≤ t + 30 ∧ wr.ownsRow (w.heap.size + 2) 53 2 v m (cellsP gs) ∧ Blk wr w.heap.size 30 #[.slice none 0 0, .bool false, .int .i64 0, .slice none 0 0, .int .i64 0, .int .i64 0, .int .i64 0, .slice none 0 0] ∧ Blk wr (w.heap.size + 1) 30 #[v, .bool false, .int .i64 0, .slice none 0 0, .int .i64 0, .int .i64 0, .int .i64 0, .slice none 0 0] ∧ Sc wr B a n c zs t' ∧ Turn (fun k => k = B) w wr) (fun s _ => (intOf s).toNat)
  case atStart => exact ⟨k0, _, 0, .slice none 0 0, [], rfl, by omega, by omega, by simp, by omega, ⟨rfl, .inl ⟨rfl, rfl⟩⟩, bR1, bU1, hs1, t01⟩
  case round =>
    clear bR1 bU1 hs1 t01
    obtain ⟨k, t', m, v, gs, rfl, hk, hmk, hok, ht', hown, bR, bU, hsc, htn⟩ := hrel
    have hblk := own_blk hown
    obtain ⟨va, vc, rfl, hvb⟩ := own_slice hown
    have cU := bU.cells
    have fU := bU.frees
    have hal := bU.lt
    have HML : Hid (gs.length = m) := by have := hown.1; rw [cellsP_len] at this; unfold Hid; omega
    by_cases hlt0 : 0 < k
    · have hd0 := hsc.new ((New.refl _).drew)
      go_wp2_with fail
      go_region_law (first
        | (refine step_apR _ rfl (.tmp 14) (.tmp 17) rfl (w.heap.size + 2) Try.underlying25 hi hz0 hz1 hz2 (.slice va m vc) m _ rfl (own1.alloc _) ⟨_, 0, none⟩ x l rfl (by simp [Addr.add]) (by simp [Addr.add]) (by omega) (by first | omega | (simp; omega)) ?_; intro v' w4' ho4 hgr4; obtain ⟨g4, c4, rfl⟩ := Joins.ownsRow_form ho4 (by omega); have bU4 := (bU1.alloc (.cells #[.int .i64 x, .int .i64 l] 53)).grow hgr4 (fun e => by have := hblk _ e; omega); have cU4 := bU4.cells; have fU4 := bU4.frees)
        | (go_simp; go_at_call 36; refine (l2Prefix_sc hd0 (by omega)).mono ?_; rintro e v1 ⟨x, l, tc, rfl, hpx, htc, hsA, htA⟩; have bU1 := (bU.new ((New.refl _).drew)).turn htA (by omega); have cU1 := bU1.cells; have cU1a := (bU1.alloc (.cells #[.int .i64 x, .int .i64 l] 53)).cells; have own1 := own_turnQB (own_turnQ hown ((New.refl _).drew)) htA (fun g hg e => by have := hblk g hg; omega); have s1 : wr.heap.size ≤ v1.heap.size := htA.size))
      all_goals
        have tA : Turn (fun k => k = B) wr v1 := Turn.both (((New.refl wr).drew).turn (S := fun k => k = B)) htA
        have hal1 := (New.refl v1).alloc (.cells #[.int .i64 x, .int .i64 l] 53)
        have bR3 := ((bR.turn tA hRB).new hal1).grow hgr4 (fun e => by have := hblk _ e; omega)
        have tg : Turn (fun k => (Value.slice va m vc).ownBlock = some k) (v1.alloc (.cells #[.int .i64 x, .int .i64 l] 53)) w4' := ⟨hgr4.os, hgr4.tape, hgr4.output, hgr4.size, fun k hk hs => hgr4.block k hk (fun e => hs e.symm)⟩
        have sc4 := (hsA.new hal1).turn tg (fun e => by have := hblk _ e; omega) (fun x hz hx e => by have := hA x hz hx; have := hblk _ e; omega)
        have T5 := Turn.here (B := w.heap.size + 1) (j := 0) (Turn.refl _ w4') (.slice (some ⟨g4, 0, none⟩) (m + 1) c4)
        have sc5 := sc4.turn T5 (by omega) (fun x hz hx e => by have := hA x hz hx; omega)
        have bR5 := bR3.turn T5 (by omega)
        have bU5 := bU4.set 0 (.slice (some ⟨g4, 0, none⟩) (m + 1) c4)
        simp only [List.setIfInBounds_toArray, List.set_cons_zero] at bU5
        have ho5 : (w4'.setCell ⟨w.heap.size + 1, 0, none⟩ (.slice (some ⟨g4, 0, none⟩) (m + 1) c4)).ownsRow (w.heap.size + 2) 53 2 (.slice (some ⟨g4, 0, none⟩) (m + 1) c4) (m + 1) (cellsP (gs ++ [(x, l)])) := own_setQ (by rw [cellsP_append]; exact ho4) (by simp; try omega)
        have t5 : Turn (fun k => k = B) w (w4'.setCell ⟨w.heap.size + 1, 0, none⟩ (.slice (some ⟨g4, 0, none⟩) (m + 1) c4)) := Turn.trans (Turn.trans (Turn.both (Turn.both htn tA) (hal1.turn (S := fun k => k = B))) tg (fun i hi e => by have := hblk _ e; omega)) T5 (fun i hi e => by omega)
        have hok5 : ∀ p ∈ gs ++ [(x, l)], pf p.1 p.2 = 0 := by
          intro p hp
          rcases List.mem_append.1 hp with h | h
          · exact hok p h
          · simp at h; subst h; exact hpx
        clear ho4 hgr4 hown bU bR bU1 bU4 bR3 cU fU cU1 cU1a cU4 fU4 own1 hsA htA tA tg sc4 T5 hal1 hd0 hsc htn
        go_wp2
        go_roundw
        case rel => exact ⟨k - 1, _, m + 1, _, gs ++ [(x, l)], by go_num, by omega, by omega, hok5, by omega, ho5, bR5, bU5, sc5, t5⟩
        case measure => simp [intOf]; omega
    · obtain rfl : k = 0 := by omega
      have hQ : OwQ wr (w.heap.size + 2) (.slice va m vc) gs := OwQ.of_own hown HML.out
      clear hown hblk
      go_wp2_with fail
      refine (chance_sc hsc 4 (by omega) (by omega)).mono ?_
      rintro e w2 ⟨r2, rfl, hs2, ht2⟩
      have hQ2 := hQ.turnB' ht2 (fun g hg e => by have := hQ.blk g hg; omega)
      have bR2 := bR.turn ht2 hRB
      have bU2 := bU.turn ht2 hUB
      have t02 := Turn.both htn ht2
      have hgb := hQ2.blk
      clear cU fU hQ bR bU hsc htn ht2 hal
      have cU := bU2.cells
      have fU := bU2.frees
      have hal := bU2.lt
      cases r2 with
      | true =>
        have cR := bR2.cells
        have fR := bR2.frees
        have lR := bR2.lt
        have huf : Hid (uf gs false 0 [] 0 0 0 [] = 0) := uf_gs hok (by rw [HML.out]; omega)
        go_wp2
        refine bodyPost_ret (v := .agg #[.slice va m vc, .bool false, .int .i64 0, .slice none 0 0, .int .i64 0, .int .i64 0, .int .i64 0, .slice none 0 0]) (by simp [results, Try.results15, go_sem, cR]) rfl ?_
        refine (fun (hT : Turn (fun k => k = w.heap.size) w2 _) => ⟨gs, [], [], false, 0, 0, 0, 0, _, _, _, _, rfl, huf.out, by rw [HML.out]; omega, by simp, by simp, by omega, (hQ2.turn hT (fun g hg e => by omega)).low (by omega), OwM.nil _ _, OwQ.nil _ _, hs2.turn hT (by omega) (fun x hz hx e => by have := hA x hz hx; omega), Turn.trans t02 hT (fun i hi e => by omega), (by intro b _ e; cases e), (by intro b _ e; cases e), (by intro b e; cases e)⟩) ?_
        exact Turn.here (Turn.here (Turn.here (Turn.here (Turn.here (Turn.here (Turn.here (Turn.here (Turn.refl _ _) _) _) _) _) _) _) _) _
      | false =>
        have b3 := bU2.set 1 (.bool true)
        simp only [List.setIfInBounds_toArray, List.set_cons_zero, List.set_cons_succ] at b3
        have T3 := Turn.here (B := w.heap.size + 1) (j := 1) (Turn.refl _ w2) (.bool true)
        have bR3 := bR2.turn T3 (by omega)
        have hQ3 := hQ2.turn T3 (fun g hg e => by omega)
        have hs3 := hs2.turn T3 (by omega) (fun x hz hx e => by have := hA x hz hx; omega)
        have t03 := Turn.trans t02 T3 (fun i hi e => by omega)
        have sz3 := T3.size
        clear bU2 bR2 hQ2 hs2 t02
        go_wp2_with fail
        refine (l3DrawAttrs_sc hs3 (by omega)).mono ?_
        rintro e w4 ⟨o, nx, md, lc, xs, xa, xc, t4, rfl, haf, hxl, ht4, hM4, hs4, htA4⟩
        have HAF : Hid (af o xs nx md lc = 0) := haf
        have b4 := b3.turn htA4 hUB
        have bR4 := bR3.turn htA4 hRB
        have hQ4 := hQ3.turnB' htA4 (fun g hg e => by have := hQ3.blk g hg; omega)
        have t04 := Turn.both t03 htA4
        have hMb := hM4.blk
        have hM4' := hM4.low (Nat.le_trans hal sz3)
        clear cU fU b3 bR3 hQ3 hs3 t03 T3 haf hM4
        generalize hX : xs.length = xn at *
        have HX : Hid (xs.length = xn) := hX
        clear hX
        have cU := b4.cells
        have fU := b4.frees
        have lU := b4.lt
        have b5 := ((((b4.set 2 (.int .i64 o)).set 3 (.slice xa xn xc)).set 4 (.int .i64 nx)).set 5 (.int .i64 md)).set 6 (.int .i64 lc)
        simp only [List.setIfInBounds_toArray, List.set_cons_zero, List.set_cons_succ] at b5
        have T5 := Turn.here (B := w.heap.size + 1) (j := 6) (Turn.here (j := 5) (Turn.here (j := 4) (Turn.here (j := 3) (Turn.here (j := 2) (Turn.refl _ w4) (.int .i64 o)) (.slice xa xn xc)) (.int .i64 nx)) (.int .i64 md)) (.int .i64 lc)
        have bR5 := bR4.turn T5 (by omega)
        have hQ5 := hQ4.turn T5 (fun g hg e => by omega)
        have hM5 := hM4'.turn T5 (fun g hg e => by omega)
        have hs5 := hs4.turn T5 (by omega) (fun x hz hx e => by have := hA x hz hx; omega)
        have t05 := Turn.trans t04 T5 (fun i hi e => by omega)
        have sz5 := T5.size
        clear b4 bR4 hQ4 hs4 t04 hM4'
        go_wp2_with fail
        refine (next_sc hs5 3 (by omega) (by omega)).mono ?_
        rintro e w6 ⟨r6, rfl, ⟨p6, q6, -⟩, hs6, ht6⟩
        have q6 := q6 (by omega)
        obtain ⟨k6, rfl⟩ := Int.eq_ofNat_of_zero_le p6
        have b6 := b5.turn ht6 hUB
        have bR6 := bR5.turn ht6 hRB
        have hQ6 := hQ5.turnB' ht6 (fun g hg e => by have := hQ5.blk g hg; omega)
        have hM6 := hM5.turnB' ht6 (fun g hg e => by have := hM5.blk g hg; omega)
        have t06 := Turn.both t05 ht6
        have kQ := hQ6.blk
        have kM := hM6.blk
        have l6 := b6.lt
        have lB6 := hs6.blk.lt
        clear cU fU b5 bR5 hQ5 hM5 hs5 t05 T5 ht6 lU
        go_wp2_with fail
        go_loopw [5] (fun s wr => ∃ (k t' rm : Nat) (v : Value) (rs : List (Int × Int)), s = .int .i64 (k : Int) ∧ k ≤ 3 ∧ rm + k ≤ 3 ∧ 1 ≤ rm + k ∧ (∀ p ∈ rs, pf p.1 p.2 = 0) ∧ t' + 10 * k ≤ t + 100 ∧ wr.ownsRow (w6.heap.size) 53 2 v rm (cellsP rs) ∧ Blk wr w.heap.size 30 #[.slice none 0 0, .bool false, .int .i64 0, .slice none 0 0, .int .i64 0, .int .i64 0, .int .i64 0, .slice none 0 0] ∧ Blk wr (w.heap.size + 1) 30 #[.slice va m vc, .bool true, .int .i64 o, .slice xa xn xc, .int .i64 nx, .int .i64 md, .int .i64 lc, v] ∧ Sc wr B a n c zs t' ∧ Turn (fun k => k = B) w wr ∧ OwQ wr (w.heap.size + 2) (.slice va m vc) gs ∧ OwM wr (w.heap.size + 2) (.slice xa xn xc) xs ∧ w6.heap.size ≤ wr.heap.size) (fun s _ => (intOf s).toNat)
        case atStart => exact ⟨1 + k6, _, 0, .slice none 0 0, [], by first | rfl | go_num | simp, by omega, by omega, by omega, by simp, by omega, ⟨rfl, .inl ⟨rfl, rfl⟩⟩, bR6, b6, hs6, t06, hQ6, hM6, Nat.le_refl _⟩
        case round =>
          clear bR6 b6 hs6 t06 hQ6 hM6
          have HG : Hid (∀ p ∈ gs, pf p.1 p.2 = 0) := hok
          clear hok
          obtain ⟨k, t', rm, v, rs, rfl, hk, hmk, hmk1, hok, ht', hown, bR, bU, hsc, htn, hQ, hM, hs66⟩ := hrel
          have hblk := own_blk hown
          obtain ⟨va', vc', rfl, hvb⟩ := own_slice hown
          have cU := bU.cells
          have fU := bU.frees
          have hal := bU.lt
          have HRL : Hid (rs.length = rm) := by have := hown.1; rw [cellsP_len] at this; unfold Hid; omega
          by_cases hlt0 : 0 < k
          · have hd0 := hsc.new ((New.refl _).drew)
            go_wp2_with fail
            go_region_law (first
              | (refine step_apR _ rfl (.tmp 35) (.tmp 38) rfl (w6.heap.size) Try.underlying25 hi hz0 hz1 hz2 (.slice va' rm vc') rm _ rfl (own1.alloc _) ⟨_, 0, none⟩ x l rfl (by simp [Addr.add]) (by simp [Addr.add]) (by omega) (by first | omega | (simp; omega)) ?_; intro v' w4' ho4 hgr4; obtain ⟨g4, c4, rfl⟩ := Joins.ownsRow_form ho4 (by omega); have bU4 := (bU1.alloc (.cells #[.int .i64 x, .int .i64 l] 53)).grow hgr4 (fun e => by have := hblk _ e; omega); have cU4 := bU4.cells; have fU4 := bU4.frees)
              | (go_simp; go_at_call 36; refine (l2Prefix_sc hd0 (by omega)).mono ?_; rintro e v1 ⟨x, l, tc, rfl, hpx, htc, hsA, htA⟩; have bU1 := (bU.new ((New.refl _).drew)).turn htA (by omega); have cU1 := bU1.cells; have cU1a := (bU1.alloc (.cells #[.int .i64 x, .int .i64 l] 53)).cells; have own1 := own_turnQB (own_turnQ hown ((New.refl _).drew)) htA (fun g hg e => by have := hblk g hg; omega); have s1 : wr.heap.size ≤ v1.heap.size := htA.size))
            all_goals
              have tA : Turn (fun k => k = B) wr v1 := Turn.both (((New.refl wr).drew).turn (S := fun k => k = B)) htA
              have hal1 := (New.refl v1).alloc (.cells #[.int .i64 x, .int .i64 l] 53)
              have bR3 := ((bR.turn tA hRB).new hal1).grow hgr4 (fun e => by have := hblk _ e; omega)
              have tg : Turn (fun k => (Value.slice va' rm vc').ownBlock = some k) (v1.alloc (.cells #[.int .i64 x, .int .i64 l] 53)) w4' := ⟨hgr4.os, hgr4.tape, hgr4.output, hgr4.size, fun k hk hs => hgr4.block k hk (fun e => hs e.symm)⟩
              have sc4 := (hsA.new hal1).turn tg (fun e => by have := hblk _ e; omega) (fun x hz hx e => by have := hA x hz hx; have := hblk _ e; omega)
              have T5 := Turn.here (B := w.heap.size + 1) (j := 7) (Turn.refl _ w4') (.slice (some ⟨g4, 0, none⟩) (rm + 1) c4)
              have sc5 := sc4.turn T5 (by omega) (fun x hz hx e => by have := hA x hz hx; omega)
              have bR5 := bR3.turn T5 (by omega)
              have bU5 := bU4.set 7 (.slice (some ⟨g4, 0, none⟩) (rm + 1) c4)
              simp only [List.setIfInBounds_toArray, List.set_cons_zero, List.set_cons_succ] at bU5
              have ho5 : (w4'.setCell ⟨w.heap.size + 1, 7, none⟩ (.slice (some ⟨g4, 0, none⟩) (rm + 1) c4)).ownsRow (w6.heap.size) 53 2 (.slice (some ⟨g4, 0, none⟩) (rm + 1) c4) (rm + 1) (cellsP (rs ++ [(x, l)])) := own_setQ (by rw [cellsP_append]; exact ho4) (by simp; try omega)
              have t5 : Turn (fun k => k = B) w (w4'.setCell ⟨w.heap.size + 1, 7, none⟩ (.slice (some ⟨g4, 0, none⟩) (rm + 1) c4)) := Turn.trans (Turn.trans (Turn.both (Turn.both htn tA) (hal1.turn (S := fun k => k = B))) tg (fun i hi e => by have := hblk _ e; omega)) T5 (fun i hi e => by omega)
              have hok5 : ∀ p ∈ rs ++ [(x, l)], pf p.1 p.2 = 0 := by
                intro p hp
                rcases List.mem_append.1 hp with h | h
                · exact hok p h
                · simp at h; subst h; exact hpx
              have hQ5 := ((((hQ.turnB' tA (fun g hg e => by have := kQ g hg; omega)).new hal1).turnB' tg (fun g hg e => by have := kQ g hg; have := hblk _ e; omega))).turn T5 (fun g hg e => by omega)
              have hM5 := ((((hM.turnB' tA (fun g hg e => by have := kM g hg; omega)).new hal1).turnB' tg (fun g hg e => by have := kM g hg; have := hblk _ e; omega))).turn T5 (fun g hg e => by omega)
              have s5 : w6.heap.size ≤ (w4'.setCell ⟨w.heap.size + 1, 7, none⟩ (.slice (some ⟨g4, 0, none⟩) (rm + 1) c4)).heap.size := by have := T5.size; have := tg.size; simp at this; omega
              clear ho4 hgr4 hown bU bR bU1 bU4 bR3 cU fU cU1 cU1a cU4 fU4 own1 hsA htA tA tg sc4 T5 hal1 hd0 hsc htn hQ hM
              go_wp2
              go_roundw
              case rel => exact ⟨k - 1, _, rm + 1, _, rs ++ [(x, l)], by go_num, by omega, by omega, by omega, hok5, by omega, ho5, bR5, bU5, sc5, t5, hQ5, hM5, s5⟩
              case measure => simp [intOf]; omega
          · obtain rfl : k = 0 := by omega
            have hR : OwQ wr w6.heap.size (.slice va' rm vc') rs := OwQ.of_own hown HRL.out
            clear hown
            have cR := bR.cells
            have fR := bR.frees
            have lR := bR.lt
            have huf : Hid (uf gs true o xs nx md lc rs = 0) := uf_true HG.out hok (by rw [HML.out]; omega) (by rw [HRL.out]; omega) (by rw [HRL.out]; omega) HAF.out
            go_wp2
            refine bodyPost_ret (v := .agg #[.slice va m vc, .bool true, .int .i64 o, .slice xa xn xc, .int .i64 nx, .int .i64 md, .int .i64 lc, .slice va' rm vc']) (by simp [results, Try.results15, go_sem, cR]) rfl ?_
            refine (fun (hT : Turn (fun k => k = w.heap.size) wr _) => ⟨gs, rs, xs, true, o, nx, md, lc, _, _, _, _, rfl, huf.out, by rw [HML.out]; omega, by rw [HX.out]; omega, by rw [HRL.out]; omega, by omega, (hQ.turn hT (fun g hg e => by omega)).low (by omega), (hM.turn hT (fun g hg e => by omega)).low (by omega), (hR.turn hT (fun g hg e => by omega)).low (by omega), hsc.turn hT (by omega) (fun x hz hx e => by have := hA x hz hx; omega), Turn.trans htn hT (fun i hi e => by omega), (fun b e1 e2 => by have := hgb b e1; have := hMb b e2; omega), (fun b e1 e2 => by have := kQ b e1; have := hR.blk b e2; omega), (fun b e1 e2 => by have := kM b e1; have := hR.blk b e2; omega)⟩) ?_
            exact Turn.here (Turn.here (Turn.here (Turn.here (Turn.here (Turn.here (Turn.here (Turn.here (Turn.refl _ _) _) _) _) _) _) _) _) _

end Go.Proofs.Ytpamejefnegjhaa

namespace Go.Proofs.Ytpamejefnegjhaa
open Go.RowKit Go.Sort
set_option linter.unusedVariables false

/-- Bytes that were bent: of at most one more, the call's own. -/
def TurnAn2 (B : Nat) (a : Option Addr) (n c : Nat) (zs : List Int) (t m g lo : Nat) (e : Ending) (w' : World) : Prop :=
  ∃ (g' m' cap t' : Nat) (ys : List Int), e = .returned (.slice (some ⟨g', 0, none⟩) m' cap) ∧ m' ≤ m + 1 ∧ t' ≤ t + 10 ∧ w'.ownsRow 0 5 1 (.slice (some ⟨g', 0, none⟩) m' cap) m' (ys.map (Value.int .u8)) ∧ (∀ y ∈ ys, 0 ≤ y ∧ y ≤ 255) ∧ (g' = g ∨ lo ≤ g') ∧ Sc w' B a n c zs t'

theorem OwM.slice' {w : World} {lo : Nat} {v : Value} {L : List Int} (h : OwM w lo v L) : ∃ a c, v = .slice a L.length c := by
  rcases h with ⟨rfl, rfl⟩ | ⟨g, c, rfl, _⟩
  · exact ⟨none, 0, rfl⟩
  · exact ⟨_, c, rfl⟩
theorem OwQ.slice' {w : World} {lo : Nat} {v : Value} {L : List (Int × Int)} (h : OwQ w lo v L) : ∃ a c, v = .slice a L.length c := by
  rcases h with ⟨rfl, rfl⟩ | ⟨g, c, rfl, _⟩
  · exact ⟨none, 0, rfl⟩
  · exact ⟨_, c, rfl⟩
theorem OwQ.psB {w : World} {lo n c : Nat} {a : Option Addr} {L : List (Int × Int)} (h : OwQ w lo (.slice a n c) L) (hb : ∀ p ∈ L, In6 p.1 ∧ In6 p.2) : PsAt w a L := by
  obtain ⟨a', c', e, hp, -⟩ := h.ps hb
  simp only [Value.slice.injEq] at e
  obtain ⟨rfl, -, rfl⟩ := e
  exact hp
theorem OwM.nsB' {w : World} {lo n c : Nat} {a : Option Addr} {L : List Int} (h : OwM w lo (.slice a n c) L) (hb : ∀ z ∈ L, In6 z) : NsAt w a L := by
  obtain ⟨a', c', e, hp, -⟩ := h.ns hb
  simp only [Value.slice.injEq] at e
  obtain ⟨rfl, -, rfl⟩ := e
  exact hp
theorem pf_in {p : Int × Int} (h : pf p.1 p.2 = 0) : In6 p.1 ∧ In6 p.2 := by
  unfold pf at h
  split at h
  · omega
  · rename_i hh
    unfold In6
    omega

theorem own_cut8 {w : World} {g n c : Nat} {ys : List Int} (h : w.ownsRow 0 5 1 (.slice (some ⟨g, 0, none⟩) n c) n (ys.map (Value.int .u8))) (i : Nat) (hi : i ≤ n) : w.ownsRow 0 5 1 (.slice (some ⟨g, 0, none⟩) i c) i ((ys.take i).map (Value.int .u8)) := by
  have hl : ys.length = n := by simpa using h.1
  refine ⟨by simp; omega, ?_⟩
  rcases h.2 with ⟨h', _⟩ | ⟨g', cap', cur, h', r1, r2, r3, r4, r5, r6⟩
  · simp at h'
  · simp only [Value.slice.injEq, Option.some.injEq, Addr.mk.injEq, and_true, true_and] at h'
    obtain ⟨rfl, rfl⟩ := h'
    refine .inr ⟨g, c, cur, rfl, r1, r2, by omega, r4, r5, ?_⟩
    rw [List.map_take, ← r6, List.take_take]
    congr 1
    omega

set_option maxHeartbeats 3200000 in
theorem turn2_sc {B n c t g m cap : Nat} {a : Option Addr} {zs ys : List Int} {w : World} (h : Sc w B a n c zs t) (ht : t ≤ 100000) (ha : ∀ x, zs ≠ [] → a = some x → x.block < g) (ho : w.ownsRow 0 5 1 (.slice (some ⟨g, 0, none⟩) m cap) m (ys.map (Value.int .u8))) (hys : ∀ y ∈ ys, 0 ≤ y ∧ y ≤ 255) (hm : m ≤ 2000) :
    Calls Try.prog 16 #[.pointer (some ⟨B, 0, none⟩), .slice (some ⟨g, 0, none⟩) m cap] w fun e w' => TurnAn2 B a n c zs t m g w.heap.size e w' ∧ Turn (fun k => k = B ∨ k = g) w w' := by
  obtain ⟨i0, hi, hz0, hz1, hz2⟩ := info_parts Try.infoU8
  have hl : ys.length = m := by simpa using ho.1
  have HL : Hid (ys.length = m) := hl
  have hmc : m ≤ cap := by
    rcases ho.2 with ⟨h', _⟩ | ⟨_, _, _, h', _, _, hle, _⟩
    · simp at h'
    · simp only [Value.slice.injEq, Option.some.injEq, Addr.mk.injEq, and_true, true_and] at h'
      omega
  have hgB : g ≠ B := fun e => h.blk.ne_own ho (by decide) e.symm
  have tw : ∀ {x y : World}, Turn (fun k => k = B) x y → Turn (fun k => k = B ∨ k = g) x y := fun p => p.mono (fun _ _ h => .inl h)
  have TW : Hid (∀ {x y : World}, Turn (fun k => k = B) x y → Turn (fun k => k = B ∨ k = g) x y) := tw
  clear hl tw
  by_cases h0 : m = 0
  · subst h0
    go_enter Try.func16, Try.ntmps16
    go_wp2
    go_ret
    exact ⟨⟨g, 0, cap, t, ys, rfl, by omega, by omega, ho, hys, .inl rfl, h⟩, Turn.refl _ _⟩
  have hm0 : ((m : Int) == 0) = false := by simp; omega
  go_enter Try.func16, Try.ntmps16
  go_wp2_with fail
  refine (chance_sc h 3 (by omega) (by omega)).mono ?_
  rintro e w1 ⟨r1, rfl, hs1, ht1⟩
  have ho1 := own_turn ho ht1 hgB
  cases r1 with
  | false =>
    go_wp2
    go_ret
    exact ⟨⟨g, m, cap, _, ys, rfl, by omega, by omega, ho1, hys, .inl rfl, hs1⟩, TW.out ht1⟩
  | true =>
    go_wp2_with fail
    refine (next_sc hs1 (m : Int) (by omega) (by omega)).mono ?_
    rintro e w2 ⟨r2, rfl, hd2, hs2, ht2⟩
    obtain ⟨hr0, hr1, -⟩ := hd2
    have hr1 := hr1 (by omega)
    obtain ⟨i, rfl⟩ := Int.eq_ofNat_of_zero_le hr0
    have ho2 := own_turn ho1 ht2 hgB
    have t12 := Turn.trans ht1 ht2 (fun _ _ h => h)
    clear ht1 ht2 hs1 ho1
    go_wp2_with fail
    refine (next_sc hs2 3 (by omega) (by omega)).mono ?_
    rintro e w3 ⟨r3, rfl, hd3, hs3, ht3⟩
    have ho3 := own_turn ho2 ht3 hgB
    have t13 := Turn.trans t12 ht3 (fun _ _ h => h)
    clear t12 ht3 hs2 ho2
    by_cases e0 : r3 = 0
    · subst e0
      have n0 : ((0 : Int) == 0) = true := rfl
      go_wp2_with fail
      refine (next_sc hs3 256 (by omega) (by omega)).mono ?_
      rintro e w4 ⟨x, rfl, hdx, hs4, ht4⟩
      obtain ⟨p1, p2, -⟩ := hdx
      have p2 := p2 (by omega)
      have ho4 := own_turn ho3 ht4 hgB
      have t14 := Turn.trans t13 ht4 (fun _ _ h => h)
      have hfz := ho4.frozenAt i
      have hst := ho4.stored i (.int .u8 x)
      rw [← List.map_set] at hst
      have hcw : ∃ v, w4.cell? ⟨g, i, none⟩ = some v := by
        rw [ho4.cellAt i (by omega)]
        exact ⟨_, List.getElem?_eq_getElem (by have := ho4.1; omega)⟩
      obtain ⟨v, hv⟩ := hcw
      have tg : Turn (fun k => k = g) w4 (w4.setCell ⟨g, i, none⟩ (.int .u8 x)) := Turn.of_grown hst.2
      have hs5 := hs4.turn tg (fun e => hgB e.symm) (fun y hz' hy e => by have := ha y hz' hy; omega)
      have hys5 : ∀ y ∈ ys.set i x, 0 ≤ y ∧ y ≤ 255 := by intro y hy; rcases List.mem_or_eq_of_mem_set hy with h' | h'; exact hys y h'; subst h'; omega
      have hr5 := hst.1
      have t15 : Turn (fun k => k = B ∨ k = g) w (w4.setCell ⟨g, i, none⟩ (.int .u8 x)) := Turn.trans (TW.out t14) tg (fun i _ e => .inr e)
      clear hst ht4 hs3 t13 ho3 ho4
      go_wp2
      go_ret
      exact ⟨⟨g, m, cap, _, ys.set i x, rfl, by omega, by omega, hr5, hys5, .inl rfl, hs5⟩, t15⟩
    · by_cases e1 : r3 = 1
      · subst e1
        have n0 : ((1 : Int) == 0) = false := rfl
        have n1 : ((1 : Int) == 1) = true := rfl
        have hic : i ≤ cap := by omega
        go_wp2
        go_ret
        exact ⟨⟨g, i, cap, _, ys.take i, rfl, by omega, by omega, own_cut8 ho3 i (by omega), (fun y hy => hys y (List.mem_of_mem_take hy)), .inl rfl, hs3⟩, TW.out t13⟩
      · obtain rfl : r3 = 2 := by obtain ⟨p1, p2, -⟩ := hd3; have p2 := p2 (by omega); omega
        have n0 : ((2 : Int) == 0) = false := rfl
        have n1 : ((2 : Int) == 1) = false := rfl
        have n2 : ((2 : Int) == 2) = true := rfl
        have hbl := Blk.mk w3 w3.heap.size 2 #[.int .i64 0, .int .i64 255] rfl
        have hal := (New.refl w3).alloc (.cells #[.int .i64 0, .int .i64 255] 2)
        go_wp2_with fail
        refine (pick_sc (hs3.new hal) [0, 255] hbl 2 rfl (by omega) (by omega) (by omega)).mono ?_
        rintro e w4 ⟨x, rfl, hx, hs4, ht4⟩
        have hxb : 0 ≤ x ∧ x ≤ 255 := by
          simp only [List.mem_cons, List.not_mem_nil, or_false] at hx
          rcases hx with rfl | rfl <;> omega
        have ho4 := own_turn (own_new ho3 hal) ht4 hgB
        have t14 := Turn.trans (Turn.trans t13 hal.turn (fun _ _ h => h)) ht4 (fun _ _ h => h)
        have hbs4 : BsAt (w4.alloc (.cells #[.int .u8 x] 5)) (some ⟨w4.heap.size, 0, none⟩) [x] := BsAt.of_block (heap_alloc_new _ _) _ rfl (by simp; omega)
        have hA4 := (New.refl w4).alloc (.cells #[.int .u8 x] 5)
        clear hbl hal ht4 hs3 t13 ho3 hx e0 e1
        go_wp2_with (at_builtin; refine wpList_ap _ rfl (.tmp 36) (.tmp 41) rfl 0 Try.underlying22 hi hz0 hz1 hz2 (.slice (some ⟨g, 0, none⟩) m cap) m ys rfl (ho4.alloc _) (some ⟨w4.heap.size, 0, none⟩) 1 1 [x] rfl hbs4 rfl (by intro h; cases h) (by omega) (by omega) (Nat.zero_le _) (w4.heap.size + 1) (by simp) ?_)
        intro g5 cap5 w5 ho5 hgr5 hat5
        have tg : Turn (fun k => k = g) (w4.alloc (.cells #[.int .u8 x] 5)) w5 := Turn.of_grown hgr5
        have hs5 := (hs4.new hA4).turn tg (fun e => hgB e.symm) (fun y hz' hy e => by have := ha y hz' hy; omega)
        have hys5 : ∀ y ∈ ys ++ [x], 0 ≤ y ∧ y ≤ 255 := by intro y hy; rcases List.mem_append.1 hy with h' | h'; exact hys y h'; simp at h'; subst h'; exact hxb
        have hr5 : w5.ownsRow 0 5 1 (.slice (some ⟨g5, 0, none⟩) (m + 1) cap5) (m + 1) ((ys ++ [x]).map (Value.int .u8)) := by simpa using ho5
        have sz4 : w.heap.size ≤ w4.heap.size := t14.size
        have hg5 : g5 = g ∨ w.heap.size ≤ g5 := by
          rcases hat5 with h' | h'
          · left; simp [Value.ownBlock] at h'; omega
          · right; omega
        have t15 : Turn (fun k => k = B ∨ k = g) w w5 := Turn.trans (Turn.trans (TW.out t14) hA4.turn (fun _ _ h => h)) tg (fun i _ e => .inr e)
        clear ho5 hgr5 hat5 ho4 hbs4
        go_wp2
        go_ret
        exact ⟨⟨g5, m + 1, cap5, _, ys ++ [x], rfl, by omega, by omega, hr5, hys5, hg5, hs5⟩, t15⟩

set_option maxHeartbeats 1600000 in
theorem drawParse_any (a : Option Addr) (n c : Nat) (zs : List Int) (w : World) (h : BsAt w a zs) (hn : zs.length = n) (hm : n ≤ 2097152) (ha : ∀ x, zs ≠ [] → a = some x → x.block < w.heap.size) :
    Calls Try.prog 5 #[.slice a n c] w fun e w' => ∃ (g m cap : Nat) (ys : List Int), e = .returned (.slice (some ⟨g, 0, none⟩) m cap) ∧ m ≤ 1000 ∧ m ≤ cap ∧ ys.length = m ∧ w.heap.size ≤ g ∧ g < w'.heap.size ∧ BsAt w' (some ⟨g, 0, none⟩) ys ∧ New w w' := by
  have HN : Hid (zs.length = n) := hn
  clear hn
  go_enter Try.func5, Try.ntmps5
  go_wp2_with fail
  refine (source_any a n c zs _ h HN.out hm ha).mono ?_
  rintro e w1 ⟨B, rfl, hB, hs1, hn1⟩
  have z1 := hn1.size
  have hlB := hs1.blk.lt
  go_wp2_with fail
  refine (l3DrawUpdate_sc hs1 (by omega)).mono ?_
  rintro e w2 ⟨gs, rs, xs, has, o, nx, md, lc, x, y, z, t2, rfl, huf, hg2, hx2, hr2, ht2, hG, hM, hR, hs2, htn2, -, -, -⟩
  have HU : Hid (uf gs has o xs nx md lc rs = 0) := huf
  obtain ⟨ga, gc, ex⟩ := hG.slice'
  obtain ⟨xa, xc, ey⟩ := hM.slice'
  obtain ⟨ra, rc, ez⟩ := hR.slice'
  subst ex
  subst ey
  subst ez
  obtain ⟨h8, h8r, hlg, hlr, hyes, hno⟩ := uf_ok huf
  have bg : ∀ p ∈ gs, In6 p.1 ∧ In6 p.2 := fun p hp => pf_in ((lf_ok hlg).2 p hp)
  have br : ∀ p ∈ rs, In6 p.1 ∧ In6 p.2 := fun p hp => pf_in ((lf_ok hlr).2 p hp)
  have bx : ∀ z ∈ xs, In6 z := by
    intro z hz
    cases has with
    | false =>
      obtain ⟨_, _, hx0, _⟩ := hno rfl
      rw [List.eq_nil_of_length_eq_zero hx0] at hz
      cases hz
    | true =>
      have := (af_ok (hyes rfl).2).2.2 z hz
      unfold In6; omega
  have pg := hG.psB bg
  have pn := hM.nsB' bx
  have pr := hR.psB br
  have w02 : New w w2 := hn1.before htn2 (fun i hi e => by omega)
  generalize hGL : gs.length = gl at *
  generalize hXL : xs.length = xl at *
  generalize hRL : rs.length = rl at *
  have HG : Hid (gs.length = gl) := hGL
  have HX : Hid (xs.length = xl) := hXL
  have HR : Hid (rs.length = rl) := hRL
  clear hGL hXL hRL hlg hlr hyes hno bg br bx huf hG hM hR
  go_wp2_with fail
  refine (l3Pack_any ga xa ra gl gc xl xc rl rc has o nx md lc gs rs xs _ pg pn pr HG.out HX.out HR.out HU.out).mono ?_
  rintro e w3 ⟨g3, cap3, m3, rfl, hm3, ho3, hn3⟩
  have hb3 := upB_bd HU.out
  have hge := RowB.ge ho3
  have hlt3 := RowB.lt ho3
  have s2 := w02.size
  have s12 := htn2.size
  have own3 : w3.ownsRow 0 5 1 (.slice (some ⟨g3, 0, none⟩) m3 cap3) m3 ((upB gs has o xs nx md lc rs).map (Value.int .u8)) := own_base ho3
  have hs3 := hs2.new hn3
  have w03 := w02.trans hn3
  have s3 := w03.size
  clear pg pn pr ho3 hs2 hn3 htn2
  go_wp2_with fail
  refine (turn2_sc hs3 (by omega) (fun x hz hx => by have := ha x hz hx; omega) own3 hb3 (by omega)).mono ?_
  rintro e w4 ⟨⟨g4, m4, cap4, t4, ys4, rfl, hm4, ht4, ho4, hy4, hg4, hs4⟩, htn4⟩
  have w04 : New w w4 := w03.before htn4 (fun i hi e => by omega)
  have s4 := htn4.size
  have hlt4 := (ho4.lt g4 rfl).2
  have hg4' : w.heap.size ≤ g4 := by omega
  go_wp2_with fail
  refine (turn2_sc hs4 (by omega) (fun x hz hx => by have := ha x hz hx; omega) ho4 hy4 (by omega)).mono ?_
  rintro e w5 ⟨⟨g5, m5, cap5, t5, ys5, rfl, hm5, ht5, ho5, hy5, hg5, hs5⟩, htn5⟩
  have w05 : New w w5 := w04.before htn5 (fun i hi e => by omega)
  have hlt5 := (ho5.lt g5 rfl).2
  have hl5 : ys5.length = m5 := by simpa using ho5.1
  have HL5 : Hid (ys5.length = m5) := hl5
  have hc5 : m5 ≤ cap5 := by
    rcases ho5.2 with ⟨h', _⟩ | ⟨_, _, _, h', _, _, hle, _⟩
    · simp at h'
    · simp only [Value.slice.injEq, Option.some.injEq, Addr.mk.injEq, and_true, true_and] at h'
      omega
  have s04 := w04.size
  have hg5' : w.heap.size ≤ g5 := by omega
  clear hl5
  go_wp2
  go_ret
  exact ⟨g5, m5, cap5, ys5, rfl, by omega, hc5, HL5.out, hg5', hlt5, BsAt.of_own ho5 hy5, w05⟩

end Go.Proofs.Ytpamejefnegjhaa

namespace Go.Proofs.Ytpamejefnegjhaa
open Go.RowKit Go.Sort
set_option linter.unusedVariables false

theorem OwM.own {w : World} {lo n : Nat} {v : Value} {L : List Int} (h : OwM w lo v L) (hn : L.length = n) : w.ownsRow lo 2 1 v n (L.map (Value.int .i64)) := by
  subst hn
  rcases h with ⟨rfl, rfl⟩ | ⟨g, c, rfl, hg, ho⟩
  · exact ⟨rfl, .inl ⟨rfl, rfl⟩⟩
  · refine ⟨ho.1, ?_⟩
    rcases ho.2 with ⟨h', _⟩ | ⟨g', cap', cur, h', r⟩
    · simp at h'
    · simp only [Value.slice.injEq, Option.some.injEq, Addr.mk.injEq, and_true, true_and] at h'
      obtain ⟨rfl, rfl⟩ := h'
      exact .inr ⟨g, c, cur, rfl, hg, r.2⟩

section
variable {P : Program} {t e : TypeId} {i : TypeInfo}
/-- Appending, at a drawn step, onto a list that the call owns. -/
theorem step_apW (w : World) {ops : Array Oper} {o : Oper} {a : Act} {K : Act → World → Prop} {Q : Exit → Act → World → Prop} {E : Prop} (hgd : o.guard = none) (s x : Operand)
    (ho : o.op = .call { callee := .builtin .append, args := #[s, x], argTypes := #[t, t] }) (base : Nat) (zero : Value) (ht : P.underlying t = some (.slice e)) (hi : P.info? e = some i) (hz : i.zero = some zero) (hs : i.size = 1) (hb : i.bytes = 8) (hz1 : zero.cells.size = 1)
    (v : Value) (n : Nat) (xs : List Value) (hsv : a.eval s = v) (hown : w.ownsRow base e 1 v n xs)
    (ad : Addr) (u : Value) (hxv : a.eval x = .slice (some ad) 1 1) (hsrc : w.cell? (ad.add 0) = some u) (hu : u.oneCell' = true)
    (hle : n + 1 ≤ 4194304) (hbase : base ≤ w.heap.size)
    (h : ∀ v' w', w'.ownsRow base e 1 v' (n + 1) (xs ++ [u]) → w.grownBy w' v.ownBlock → (v'.ownBlock = v.ownBlock ∨ v'.ownBlock = some w.heap.size) → K (a.put o.dst v') w') :
    if Region.wanted o (yielded ops a.tmps) = true then Oper.wp P o a w K Q else E := by
  have hw : Region.wanted o (yielded ops a.tmps) = true := by simp [Region.wanted, hgd]
  rw [if_pos hw]
  have hnews : ∀ j y, [u][j]? = some y → w.cell? (ad.add j) = some y := by
    intro j y hy
    match j, hy with
    | 0, hy => simp at hy; subst hy; exact hsrc
  obtain ⟨v', w', hr, h2, h3, _, h5⟩ := run_append_own_at (P := P) w base t o.type e i zero 1 8 ht hi hz hs hb hz1 (by decide) v n xs hown ad 1 1 [u] rfl hnews (by simpa using hu) (by unfold maxLen; omega) (by omega) hbase
  unfold Oper.wp execOp
  simp only [ho, resolve, invoke, builtin, Sem.run_bind, Sem.run_pure, Result.andThen_ok, List.map_toArray, List.map_cons, List.map_nil, hsv, hxv, hr]
  exact h v' w' h2 h3 h5
end

set_option maxRecDepth 100000 in
set_option maxHeartbeats 3200000 in
theorem l3BentAttrs_sc {B n c t : Nat} {a : Option Addr} {zs : List Int} {w : World} (h : Sc w B a n c zs t) (ht : t ≤ 10000) :
    Calls Try.prog 56 #[.pointer (some ⟨B, 0, none⟩)] w fun e w' => ∃ (o nx md lc : Int) (xs : List Int) (xa : Option Addr) (xc m t' : Nat), e = .returned (.agg #[.int .i64 o, .slice xa m xc, .int .i64 nx, .int .i64 md, .int .i64 lc]) ∧ xs.length = m ∧ m ≤ 7 ∧ (-1 ≤ o ∧ -1 ≤ nx ∧ -1 ≤ md ∧ -1 ≤ lc) ∧ (o ≤ 65536 ∧ nx ≤ 65536 ∧ md ≤ 65536 ∧ lc ≤ 65536) ∧ (∀ x ∈ xs, -1 ≤ x ∧ x ≤ 65536) ∧ t' ≤ t + 60 ∧ OwM w' w.heap.size (.slice xa m xc) xs ∧ Sc w' B a n c zs t' ∧ Turn (fun k => k = B) w w' := by
  obtain ⟨iN, hi, hz0, hz1, hz2⟩ := info_parts Try.infoI64
  have hlt := h.blk.lt
  have hA := h.lt_of
  have hw0 := (New.refl w).alloc (.cells #[.int .i64 0, .slice none 0 0, .int .i64 0, .int .i64 0, .int .i64 0] 28)
  have bR0 := Blk.mk w w.heap.size 28 #[.int .i64 0, .slice none 0 0, .int .i64 0, .int .i64 0, .int .i64 0] rfl
  have hRB : ¬ w.heap.size = B := by omega
  go_enter Try.func56, Try.ntmps56
  go_wp2_with fail
  refine (l3DrawAttrs_sc (h.new hw0) (by omega)).mono ?_
  rintro e w2 ⟨o, nx, md, lc, xs, xa, xc, t2, rfl, haf, hxl, ht2, hM2, hs2, htn2⟩
  obtain ⟨⟨⟨ho0, ho1⟩, ⟨hx0, hx1⟩, ⟨hm0, hm1⟩, ⟨hl0, hl1⟩⟩, -, hall⟩ := af_ok haf
  have HXS : Hid (∀ x ∈ xs, -1 ≤ x ∧ x ≤ 65536) := fun x hx => by have := hall x hx; omega
  generalize hXe : xs.length = xn at *
  have HX : Hid (xs.length = xn) := hXe
  have hM2' : OwM w2 (w.heap.size + 1) (.slice xa xn xc) xs := hM2.low (by simp)
  have hMb := hM2'.blk
  have bR2 := bR0.turn htn2 hRB
  have t02 := Turn.both (hw0.turn (S := fun k => k = B)) htn2
  have s2 := bR2.lt
  have lB2 := hs2.blk.lt
  clear hXe hall haf hM2 bR0 hw0 htn2
  have hal2 := (New.refl w2).alloc (.cells #[.int .i64 o, .slice xa xn xc, .int .i64 nx, .int .i64 md, .int .i64 lc] 28)
  have bA2 := Blk.mk w2 w2.heap.size 28 #[.int .i64 o, .slice xa xn xc, .int .i64 nx, .int .i64 md, .int .i64 lc] rfl
  go_wp2_with fail
  refine (next_sc (hs2.new hal2) 14 (by omega) (by omega)).mono ?_
  rintro e w4 ⟨r4, rfl, ⟨p4, q4, -⟩, hs4, ht4⟩
  have q4 := q4 (by omega)
  have bA4 := bA2.turn ht4 (by omega)
  have bR4 := (bR2.new hal2).turn ht4 hRB
  have hM4 := (hM2'.new hal2).turnB' ht4 (fun g hg e => by have := hMb g hg; omega)
  have t04 := Turn.both t02 (Turn.both (hal2.turn (S := fun k => k = B)) ht4)
  have s4 : w2.heap.size < w4.heap.size := bA4.lt
  clear bA2 bR2 hM2' t02 hs2 hal2 ht4
  by_cases e0 : r4 = 0
  · subst e0
    have n0 : ((0 : Int) == 0) = true := rfl
    have hal5 := (New.refl w4).alloc (.cells #[.int .i64 (-1), .int .i64 3] 2)
    have hbl5 := Blk.mk w4 w4.heap.size 2 #[.int .i64 (-1), .int .i64 3] rfl
    go_wp2_with fail
    refine (pick_sc (hs4.new hal5) [-1, 3] hbl5 2 rfl (by omega) (by omega) (by omega)).mono ?_
    rintro e w5 ⟨x5, rfl, hx5, hs5, ht5⟩
    have hx5' : -1 ≤ x5 ∧ x5 ≤ 65536 := by
      simp only [List.mem_cons, List.not_mem_nil, or_false] at hx5
      rcases hx5 with rfl | rfl <;> omega
    have bA5 := (bA4.new hal5).turn ht5 (by omega)
    have bR5 := (bR4.new hal5).turn ht5 hRB
    have hM5 := (hM4.new hal5).turnB' ht5 (fun g hg e => by have := hMb g hg; omega)
    have t05 := Turn.both t04 (Turn.both (hal5.turn (S := fun k => k = B)) ht5)
    clear hx5 hbl5 hal5 hs4 ht5 bA4 bR4 hM4 t04
    have cA5 := bA5.cells
    have fA5 := bA5.frees
    have lA5 := bA5.lt
    have T9 := Turn.here (B := w2.heap.size) (j := 0) (Turn.refl _ w5) (.int .i64 x5)
    have bA9 := bA5.set 0 (.int .i64 x5)
    simp only [List.setIfInBounds_toArray, List.set_cons_zero] at bA9
    have bR9 := bR5.turn T9 (by omega)
    have hM9 := hM5.turnB' T9 (fun g hg e => by have := hMb g hg; omega)
    have hs9 := hs5.turn T9 (by omega) (fun x hz hx e => by have := hA x hz hx; omega)
    have t09 := Turn.trans t05 T9 (fun i hi e => by omega)
    clear bA5 bR5 hM5 hs5 t05
    have cA9 := bA9.cells
    have cR9 := bR9.cells
    have fR9 := bR9.frees
    have lR9 := bR9.lt
    go_wp2
    refine bodyPost_ret (v := .agg #[.int .i64 x5, .slice xa xn xc, .int .i64 nx, .int .i64 md, .int .i64 lc]) (by simp [results, Try.results56, go_sem, cR9]) rfl ?_
    refine (fun (hT : Turn (fun k => k = w.heap.size) (w5.setCell ⟨w2.heap.size, 0, none⟩ (.int .i64 x5)) _) => ⟨x5, nx, md, lc, xs, _, _, xn, _, rfl, HX.out, by omega, ⟨by omega, by omega, by omega, by omega⟩, ⟨by omega, by omega, by omega, by omega⟩, HXS.out, by omega, (hM9.turn hT (fun g hg e => by omega)).low (by omega), hs9.turn hT (by omega) (fun x hz hx e => by have := hA x hz hx; omega), Turn.trans t09 hT (fun i hi e => by omega)⟩) ?_
    exact Turn.here (Turn.here (Turn.here (Turn.here (Turn.here (Turn.refl _ _) _) _) _) _) _
  by_cases e1 : r4 = 1
  · subst e1
    have n0 : ((1 : Int) == 0) = false := rfl
    have n1 : ((1 : Int) == 1) = true := rfl
    have hal5 := (New.refl w4).alloc (.cells #[.int .i64 (-1), .int .i64 65536] 2)
    have hbl5 := Blk.mk w4 w4.heap.size 2 #[.int .i64 (-1), .int .i64 65536] rfl
    go_wp2_with fail
    refine (pick_sc (hs4.new hal5) [-1, 65536] hbl5 2 rfl (by omega) (by omega) (by omega)).mono ?_
    rintro e w5 ⟨x5, rfl, hx5, hs5, ht5⟩
    have hx5' : -1 ≤ x5 ∧ x5 ≤ 65536 := by
      simp only [List.mem_cons, List.not_mem_nil, or_false] at hx5
      rcases hx5 with rfl | rfl <;> omega
    have bA5 := (bA4.new hal5).turn ht5 (by omega)
    have bR5 := (bR4.new hal5).turn ht5 hRB
    have hM5 := (hM4.new hal5).turnB' ht5 (fun g hg e => by have := hMb g hg; omega)
    have t05 := Turn.both t04 (Turn.both (hal5.turn (S := fun k => k = B)) ht5)
    clear hx5 hbl5 hal5 hs4 ht5 bA4 bR4 hM4 t04
    have cA5 := bA5.cells
    have fA5 := bA5.frees
    have lA5 := bA5.lt
    have T9 := Turn.here (B := w2.heap.size) (j := 2) (Turn.refl _ w5) (.int .i64 x5)
    have bA9 := bA5.set 2 (.int .i64 x5)
    simp only [List.setIfInBounds_toArray, List.set_cons_zero, List.set_cons_succ] at bA9
    have bR9 := bR5.turn T9 (by omega)
    have hM9 := hM5.turnB' T9 (fun g hg e => by have := hMb g hg; omega)
    have hs9 := hs5.turn T9 (by omega) (fun x hz hx e => by have := hA x hz hx; omega)
    have t09 := Turn.trans t05 T9 (fun i hi e => by omega)
    clear bA5 bR5 hM5 hs5 t05
    have cA9 := bA9.cells
    have cR9 := bR9.cells
    have fR9 := bR9.frees
    have lR9 := bR9.lt
    go_wp2
    refine bodyPost_ret (v := .agg #[.int .i64 o, .slice xa xn xc, .int .i64 x5, .int .i64 md, .int .i64 lc]) (by simp [results, Try.results56, go_sem, cR9]) rfl ?_
    refine (fun (hT : Turn (fun k => k = w.heap.size) (w5.setCell ⟨w2.heap.size, 2, none⟩ (.int .i64 x5)) _) => ⟨o, x5, md, lc, xs, _, _, xn, _, rfl, HX.out, by omega, ⟨by omega, by omega, by omega, by omega⟩, ⟨by omega, by omega, by omega, by omega⟩, HXS.out, by omega, (hM9.turn hT (fun g hg e => by omega)).low (by omega), hs9.turn hT (by omega) (fun x hz hx e => by have := hA x hz hx; omega), Turn.trans t09 hT (fun i hi e => by omega)⟩) ?_
    exact Turn.here (Turn.here (Turn.here (Turn.here (Turn.here (Turn.refl _ _) _) _) _) _) _
  by_cases e2 : r4 = 2
  · subst e2
    have n0 : ((2 : Int) == 0) = false := rfl
    have n1 : ((2 : Int) == 1) = false := rfl
    have n2 : ((2 : Int) == 2) = true := rfl
    have cA4 := bA4.cells
    have fA4 := bA4.frees
    have lA4 := bA4.lt
    have cA4a := (bA4.alloc (.cells #[.int .i64 0, .int .i64 65536] 2)).cells
    have hsd := hs4.new ((New.refl _).drew)
    have hown := hM4.own HX.out
    have hblk := own_blkN hown
    go_wp2_with fail
    go_region_law (first
      | (refine step_apW _ rfl (.tmp 23) (.tmp 27) rfl (w.heap.size + 1) (.int .i64 0) Try.underlying26 hi hz0 hz1 hz2 rfl (.slice xa xn xc) xn _ rfl (own5.alloc _) ⟨_, 0, none⟩ (.int .i64 x5) rfl (by simp [Addr.add]) rfl (by omega) (by first | omega | (simp; omega)) ?_; intro v' w6 ho6 hgr6 hat6; obtain ⟨g6, c6, rfl⟩ := Joins.ownsRow_form ho6 (by omega); have bA6 := (bA5.alloc (.cells #[.int .i64 x5] 2)).grow hgr6 (fun e => by have := hMb _ e; omega); have cA6 := bA6.cells; have fA6 := bA6.frees)
      | (go_simp; go_at_call 39; refine (pick_sc (hs4.new (by first | exact ((New.refl _).drew).alloc (.cells #[.int .i64 0, .int .i64 65536] 2) | exact ((New.refl _).alloc (.cells #[.int .i64 0, .int .i64 65536] 2)).drew)) [0, 65536] (Blk.mk w4.drew w4.heap.size 2 #[.int .i64 0, .int .i64 65536] rfl) 2 rfl (by omega) (by omega) (by omega)).mono ?_; rintro e w5 ⟨x5, rfl, hx5, hs5, ht5⟩; have bA5 := ((bA4.new ((New.refl _).drew)).alloc (.cells #[.int .i64 0, .int .i64 65536] 2)).turn ht5 (by omega); have cA5 := bA5.cells; have cA5a := (bA5.alloc (.cells #[.int .i64 x5] 2)).cells; have own5 := own_turnN ((own_newN hown ((New.refl _).drew)).alloc (.cells #[.int .i64 0, .int .i64 65536] 2)) ht5 (fun g hg e => by have := hMb g hg; omega); have s5 : w4.heap.size ≤ w5.heap.size := (by have := ht5.size; simp at this; omega)))
    all_goals
      have hx5' : -1 ≤ x5 ∧ x5 ≤ 65536 := by
        simp only [List.mem_cons, List.not_mem_nil, or_false] at hx5
        rcases hx5 with rfl | rfl <;> omega
      have hn45 : New w4 (w4.drew.alloc (.cells #[.int .i64 0, .int .i64 65536] 2)) := ((New.refl _).drew).alloc _
      have hal5 := (New.refl w5).alloc (.cells #[.int .i64 x5] 2)
      have bR6 := (((bR4.new hn45).turn ht5 hRB).new hal5).grow hgr6 (fun e => by have := hMb _ e; omega)
      have tg : Turn (fun k => (Value.slice xa xn xc).ownBlock = some k) (w5.alloc (.cells #[.int .i64 x5] 2)) w6 := ⟨hgr6.os, hgr6.tape, hgr6.output, hgr6.size, fun k hk hs => hgr6.block k hk (fun e => hs e.symm)⟩
      have sc6 := (hs5.new hal5).turn tg (fun e => by have := hMb _ e; omega) (fun x hz hx e => by have := hA x hz hx; have := hMb _ e; omega)
      have t06 := Turn.trans (Turn.both t04 (Turn.both (hn45.turn (S := fun k => k = B)) (Turn.both ht5 (hal5.turn (S := fun k => k = B))))) tg (fun i hi e => by have := hMb _ e; omega)
      have T9 := Turn.here (B := w2.heap.size) (j := 1) (Turn.refl _ w6) (.slice (some ⟨g6, 0, none⟩) (xn + 1) c6)
      have bA9 := bA6.set 1 (.slice (some ⟨g6, 0, none⟩) (xn + 1) c6)
      simp only [List.setIfInBounds_toArray, List.set_cons_zero, List.set_cons_succ] at bA9
      have bR9 := bR6.turn T9 (by omega)
      have hbk6 : g6 ≠ w2.heap.size := fun e => by
        have k6 := ho6.lt g6 rfl
        rcases hat6 with h' | h'
        · have := hMb g6 (by rw [← h']; rfl); omega
        · simp [Value.ownBlock] at h'; omega
      have hM9 : OwM (w6.setCell ⟨w2.heap.size, 1, none⟩ (.slice (some ⟨g6, 0, none⟩) (xn + 1) c6)) (w.heap.size + 1) (.slice (some ⟨g6, 0, none⟩) (xn + 1) c6) (xs ++ [x5]) := (OwM.of_own (L := xs ++ [x5]) (by simpa using ho6) (by rw [List.length_append, HX.out]; rfl)).turnB' T9 (fun g hg e => by obtain rfl := Option.some.inj hg; exact hbk6 e)
      have hs9 := sc6.turn T9 (by omega) (fun x hz hx e => by have := hA x hz hx; omega)
      have t09 := Turn.trans t06 T9 (fun i hi e => by omega)
      have hxs9 : ∀ x ∈ xs ++ [x5], -1 ≤ x ∧ x ≤ 65536 := by
        intro x hx
        rcases List.mem_append.1 hx with h | h
        · exact HXS.out x h
        · simp at h; subst h; exact hx5'
      clear ho6 hgr6 hat6 bA6 bR6 cA6 fA6 own5 bA5 cA5 cA5a hs5 ht5 sc6 t06 tg hown hblk hsd
      have cA9 := bA9.cells
      have cR9 := bR9.cells
      have fR9 := bR9.frees
      have lR9 := bR9.lt
      go_wp2
      refine bodyPost_ret (v := .agg #[.int .i64 o, .slice (some ⟨g6, 0, none⟩) (xn + 1) c6, .int .i64 nx, .int .i64 md, .int .i64 lc]) (by simp [results, Try.results56, go_sem, cR9]) rfl ?_
      refine (fun (hT : Turn (fun k => k = w.heap.size) (w6.setCell ⟨w2.heap.size, 1, none⟩ (.slice (some ⟨g6, 0, none⟩) (xn + 1) c6)) _) => ⟨o, nx, md, lc, (xs ++ [x5]), _, _, xn + 1, _, rfl, by rw [List.length_append, HX.out]; rfl, by omega, ⟨by omega, by omega, by omega, by omega⟩, ⟨by omega, by omega, by omega, by omega⟩, hxs9, by omega, (hM9.turn hT (fun g hg e => by omega)).low (by omega), hs9.turn hT (by omega) (fun x hz hx e => by have := hA x hz hx; omega), Turn.trans t09 hT (fun i hi e => by omega)⟩) ?_
      exact Turn.here (Turn.here (Turn.here (Turn.here (Turn.here (Turn.refl _ _) _) _) _) _) _
  by_cases e3 : r4 = 3
  · subst e3
    have n0 : ((3 : Int) == 0) = false := rfl
    have n1 : ((3 : Int) == 1) = false := rfl
    have n2 : ((3 : Int) == 2) = false := rfl
    have n3 : ((3 : Int) == 3) = true := rfl
    have cA4 := bA4.cells
    have fA4 := bA4.frees
    have lA4 := bA4.lt
    have cR4 := bR4.cells
    have fR4 := bR4.frees
    have lR4 := bR4.lt
    have T1 := Turn.here (B := w2.heap.size) (j := 1) (Turn.refl _ w4) (.slice (some ⟨w4.heap.size, 0, none⟩) 7 7)
    have TR := Turn.here (B := w.heap.size) (j := 4) (Turn.here (j := 3) (Turn.here (j := 2) (Turn.here (j := 1) (Turn.here (j := 0) (Turn.refl _ (w4.setCell ⟨w2.heap.size, 1, none⟩ (.slice (some ⟨w4.heap.size, 0, none⟩) 7 7))) (.int .i64 o)) (.slice (some ⟨w4.heap.size, 0, none⟩) 7 7)) (.int .i64 nx)) (.int .i64 md)) (.int .i64 lc)
    have bRf := ((((((bR4.turn T1 (by omega)).set 0 (.int .i64 o)).set 1 (.slice (some ⟨w4.heap.size, 0, none⟩) 7 7)).set 2 (.int .i64 nx)).set 3 (.int .i64 md)).set 4 (.int .i64 lc)).alloc (.cells #[.int .i64 1, .int .i64 1, .int .i64 1, .int .i64 1, .int .i64 1, .int .i64 1, .int .i64 1] 2)
    simp only [List.setIfInBounds_toArray, List.set_cons_zero, List.set_cons_succ] at bRf
    have hszW : ((((((w4.setCell ⟨w2.heap.size, 1, none⟩ (.slice (some ⟨w4.heap.size, 0, none⟩) 7 7)).setCell ⟨w.heap.size, 0, none⟩ (.int .i64 o)).setCell ⟨w.heap.size, 1, none⟩ (.slice (some ⟨w4.heap.size, 0, none⟩) 7 7)).setCell ⟨w.heap.size, 2, none⟩ (.int .i64 nx)).setCell ⟨w.heap.size, 3, none⟩ (.int .i64 md)).setCell ⟨w.heap.size, 4, none⟩ (.int .i64 lc)).heap.size = w4.heap.size := by simp [World.setCell]
    have hlit := World.ownsRow_lit (base := w4.heap.size) (size := 1) (e := 2) ((((((w4.setCell ⟨w2.heap.size, 1, none⟩ (.slice (some ⟨w4.heap.size, 0, none⟩) 7 7)).setCell ⟨w.heap.size, 0, none⟩ (.int .i64 o)).setCell ⟨w.heap.size, 1, none⟩ (.slice (some ⟨w4.heap.size, 0, none⟩) 7 7)).setCell ⟨w.heap.size, 2, none⟩ (.int .i64 nx)).setCell ⟨w.heap.size, 3, none⟩ (.int .i64 md)).setCell ⟨w.heap.size, 4, none⟩ (.int .i64 lc)) #[.int .i64 1, .int .i64 1, .int .i64 1, .int .i64 1, .int .i64 1, .int .i64 1, .int .i64 1] 7 (by rw [hszW]; exact Nat.le_refl _) (by decide) rfl
    rw [hszW] at hlit
    have halF := (New.refl ((((((w4.setCell ⟨w2.heap.size, 1, none⟩ (.slice (some ⟨w4.heap.size, 0, none⟩) 7 7)).setCell ⟨w.heap.size, 0, none⟩ (.int .i64 o)).setCell ⟨w.heap.size, 1, none⟩ (.slice (some ⟨w4.heap.size, 0, none⟩) 7 7)).setCell ⟨w.heap.size, 2, none⟩ (.int .i64 nx)).setCell ⟨w.heap.size, 3, none⟩ (.int .i64 md)).setCell ⟨w.heap.size, 4, none⟩ (.int .i64 lc))).alloc (.cells #[.int .i64 1, .int .i64 1, .int .i64 1, .int .i64 1, .int .i64 1, .int .i64 1, .int .i64 1] 2)
    have hs9 := ((hs4.turn T1 (by omega) (fun x hz hx e => by have := hA x hz hx; omega)).turn TR (by omega) (fun x hz hx e => by have := hA x hz hx; omega)).new halF
    have t09 := Turn.both (Turn.trans (Turn.trans t04 T1 (fun i hi e => by omega)) TR (fun i hi e => by omega)) (halF.turn (S := fun k => k = B))
    have hM9 := (OwM.of_own (L := [1, 1, 1, 1, 1, 1, 1]) hlit rfl).low (lo' := w.heap.size) (by omega)
    clear bA4 bR4 hM4 t04 hs4 hlit T1 TR halF hszW
    go_wp2
    have cRf := bRf.cells
    refine bodyPost_ret (v := .agg #[.int .i64 o, .slice (some ⟨w4.heap.size, 0, none⟩) 7 7, .int .i64 nx, .int .i64 md, .int .i64 lc]) (by simp [results, Try.results56, go_sem, cRf]) rfl ?_
    exact ⟨o, nx, md, lc, [1, 1, 1, 1, 1, 1, 1], _, _, 7, _, rfl, rfl, by omega, ⟨by omega, by omega, by omega, by omega⟩, ⟨by omega, by omega, by omega, by omega⟩, (by intro x hx; simp at hx; omega), by omega, hM9, hs9, t09⟩
  by_cases e4 : r4 = 4
  · subst e4
    have n0 : ((4 : Int) == 0) = false := rfl
    have n1 : ((4 : Int) == 1) = false := rfl
    have n2 : ((4 : Int) == 2) = false := rfl
    have n3 : ((4 : Int) == 3) = false := rfl
    have n4 : ((4 : Int) == 4) = true := rfl
    have hal5 := (New.refl w4).alloc (.cells #[.int .i64 (-1), .int .i64 65536] 2)
    have hbl5 := Blk.mk w4 w4.heap.size 2 #[.int .i64 (-1), .int .i64 65536] rfl
    go_wp2_with fail
    refine (pick_sc (hs4.new hal5) [-1, 65536] hbl5 2 rfl (by omega) (by omega) (by omega)).mono ?_
    rintro e w5 ⟨x5, rfl, hx5, hs5, ht5⟩
    have hx5' : -1 ≤ x5 ∧ x5 ≤ 65536 := by
      simp only [List.mem_cons, List.not_mem_nil, or_false] at hx5
      rcases hx5 with rfl | rfl <;> omega
    have bA5 := (bA4.new hal5).turn ht5 (by omega)
    have bR5 := (bR4.new hal5).turn ht5 hRB
    have hM5 := (hM4.new hal5).turnB' ht5 (fun g hg e => by have := hMb g hg; omega)
    have t05 := Turn.both t04 (Turn.both (hal5.turn (S := fun k => k = B)) ht5)
    clear hx5 hbl5 hal5 hs4 ht5 bA4 bR4 hM4 t04
    have cA5 := bA5.cells
    have fA5 := bA5.frees
    have lA5 := bA5.lt
    have T9 := Turn.here (B := w2.heap.size) (j := 4) (Turn.refl _ w5) (.int .i64 x5)
    have bA9 := bA5.set 4 (.int .i64 x5)
    simp only [List.setIfInBounds_toArray, List.set_cons_zero, List.set_cons_succ] at bA9
    have bR9 := bR5.turn T9 (by omega)
    have hM9 := hM5.turnB' T9 (fun g hg e => by have := hMb g hg; omega)
    have hs9 := hs5.turn T9 (by omega) (fun x hz hx e => by have := hA x hz hx; omega)
    have t09 := Turn.trans t05 T9 (fun i hi e => by omega)
    clear bA5 bR5 hM5 hs5 t05
    have cA9 := bA9.cells
    have cR9 := bR9.cells
    have fR9 := bR9.frees
    have lR9 := bR9.lt
    go_wp2
    refine bodyPost_ret (v := .agg #[.int .i64 o, .slice xa xn xc, .int .i64 nx, .int .i64 md, .int .i64 x5]) (by simp [results, Try.results56, go_sem, cR9]) rfl ?_
    refine (fun (hT : Turn (fun k => k = w.heap.size) (w5.setCell ⟨w2.heap.size, 4, none⟩ (.int .i64 x5)) _) => ⟨o, nx, md, x5, xs, _, _, xn, _, rfl, HX.out, by omega, ⟨by omega, by omega, by omega, by omega⟩, ⟨by omega, by omega, by omega, by omega⟩, HXS.out, by omega, (hM9.turn hT (fun g hg e => by omega)).low (by omega), hs9.turn hT (by omega) (fun x hz hx e => by have := hA x hz hx; omega), Turn.trans t09 hT (fun i hi e => by omega)⟩) ?_
    exact Turn.here (Turn.here (Turn.here (Turn.here (Turn.here (Turn.refl _ _) _) _) _) _) _
  · have n0 : (r4 == 0) = false := by simpa using e0
    have n1 : (r4 == 1) = false := by simpa using e1
    have n2 : (r4 == 2) = false := by simpa using e2
    have n3 : (r4 == 3) = false := by simpa using e3
    have n4 : (r4 == 4) = false := by simpa using e4
    have cA4 := bA4.cells
    have bA9 := bA4
    have bR9 := bR4
    have cA9 := bA9.cells
    have cR9 := bR9.cells
    have fR9 := bR9.frees
    have lR9 := bR9.lt
    go_wp2
    refine bodyPost_ret (v := .agg #[.int .i64 o, .slice xa xn xc, .int .i64 nx, .int .i64 md, .int .i64 lc]) (by simp [results, Try.results56, go_sem, cR9]) rfl ?_
    refine (fun (hT : Turn (fun k => k = w.heap.size) w4 _) => ⟨o, nx, md, lc, xs, _, _, xn, _, rfl, HX.out, by omega, ⟨by omega, by omega, by omega, by omega⟩, ⟨by omega, by omega, by omega, by omega⟩, HXS.out, by omega, (hM4.turn hT (fun g hg e => by omega)).low (by omega), hs4.turn hT (by omega) (fun x hz hx e => by have := hA x hz hx; omega), Turn.trans t04 hT (fun i hi e => by omega)⟩) ?_
    exact Turn.here (Turn.here (Turn.here (Turn.here (Turn.here (Turn.refl _ _) _) _) _) _) _

end Go.Proofs.Ytpamejefnegjhaa

namespace Go.Proofs.Ytpamejefnegjhaa
open Go.RowKit Go.Sort
set_option linter.unusedVariables false

theorem OwQ.own2 {w : World} {lo n : Nat} {v : Value} {L : List (Int × Int)} (h : OwQ w lo v L) (hn : L.length = n) : w.ownsRow lo 53 2 v n (cellsP L) := by
  subst hn
  rcases h with ⟨rfl, rfl⟩ | ⟨g, c, rfl, hg, ho⟩
  · exact ⟨rfl, .inl ⟨rfl, rfl⟩⟩
  · refine ⟨ho.1, ?_⟩
    rcases ho.2 with ⟨h', _⟩ | ⟨g', cap', cur, h', r⟩
    · simp at h'
    · simp only [Value.slice.injEq, Option.some.injEq, Addr.mk.injEq, and_true, true_and] at h'
      obtain ⟨rfl, rfl⟩ := h'
      exact .inr ⟨g, c, cur, rfl, hg, r.2⟩

section
variable {P : Program} {t e : TypeId} {i : TypeInfo}
/-- Appending one prefix, at a drawn step, onto a list that the call owns. -/
theorem step_apS (w : World) {ops : Array Oper} {o : Oper} {a : Act} {K : Act → World → Prop} {Q : Exit → Act → World → Prop} {E : Prop} (hgd : o.guard = none) (s x : Operand)
    (ho : o.op = .call { callee := .builtin .append, args := #[s, x], argTypes := #[t, t] }) (base : Nat) (ht : P.underlying t = some (.slice e)) (hi : P.info? e = some i) (hz : i.zero = some (.agg #[.int .i64 0, .int .i64 0])) (hs : i.size = 2) (hb : i.bytes = 16)
    (v : Value) (n : Nat) (xs : List Value) (hsv : a.eval s = v) (hown : w.ownsRow base e 2 v n xs)
    (ad : Addr) (p q : Int) (hxv : a.eval x = .slice (some ad) 1 1) (h0 : w.cell? (ad.add 0) = some (.int .i64 p)) (h1 : w.cell? (ad.add 1) = some (.int .i64 q))
    (hle : n + 1 ≤ 4194304) (hbase : base ≤ w.heap.size)
    (h : ∀ v' w', w'.ownsRow base e 2 v' (n + 1) (xs ++ [.int .i64 p, .int .i64 q]) → w.grownBy w' v.ownBlock → (v'.ownBlock = v.ownBlock ∨ v'.ownBlock = some w.heap.size) → K (a.put o.dst v') w') :
    if Region.wanted o (yielded ops a.tmps) = true then Oper.wp P o a w K Q else E := by
  have hw : Region.wanted o (yielded ops a.tmps) = true := by simp [Region.wanted, hgd]
  rw [if_pos hw]
  have hnews : ∀ j y, [Value.int .i64 p, Value.int .i64 q][j]? = some y → w.cell? (ad.add j) = some y := by
    intro j y hy
    match j, hy with
    | 0, hy => simp at hy; subst hy; exact h0
    | 1, hy => simp at hy; subst hy; exact h1
  obtain ⟨v', w', hr, h2, h3, _, h5⟩ := run_append_own_at (P := P) w base t o.type e i (.agg #[.int .i64 0, .int .i64 0]) 2 16 ht hi hz hs hb rfl (by decide) v n xs hown ad 1 1 [.int .i64 p, .int .i64 q] rfl hnews (by simp [Value.oneCell']) (by unfold maxLen; omega) (by omega) hbase
  unfold Oper.wp execOp
  simp only [ho, resolve, invoke, builtin, Sem.run_bind, Sem.run_pure, Result.andThen_ok, List.map_toArray, List.map_cons, List.map_nil, hsv, hxv, hr]
  exact h v' w' h2 h3 h5
end

set_option maxRecDepth 100000 in
set_option maxHeartbeats 3200000 in
theorem l3Bent_sc {B n c t : Nat} {a : Option Addr} {zs : List Int} {w : World} (h : Sc w B a n c zs t) (ht : t ≤ 1000) :
    Calls Try.prog 28 #[.pointer (some ⟨B, 0, none⟩)] w fun e w' => ∃ (gs rs : List (Int × Int)) (xs : List Int) (has : Bool) (o nx md lc : Int) (x y z : Value), e = .returned (.agg #[x, .bool has, .int .i64 o, y, .int .i64 nx, .int .i64 md, .int .i64 lc, z]) ∧ gs.length ≤ 9 ∧ xs.length ≤ 7 ∧ rs.length ≤ 4 ∧ (∀ p ∈ gs, In6 p.1 ∧ In6 p.2) ∧ (∀ z ∈ xs, In6 z) ∧ (∀ p ∈ rs, In6 p.1 ∧ In6 p.2) ∧ OwQ w' w.heap.size x gs ∧ OwM w' w.heap.size y xs ∧ OwQ w' w.heap.size z rs ∧ Turn (fun k => k = B) w w' := by
  obtain ⟨iP, hi, hz0, hz1, hz2⟩ := info_parts Try.infoPx
  have hlt := h.blk.lt
  have hA := h.lt_of
  have hw0 := (New.refl w).alloc (.cells #[.slice none 0 0, .bool false, .int .i64 0, .slice none 0 0, .int .i64 0, .int .i64 0, .int .i64 0, .slice none 0 0] 30)
  have bR0 := Blk.mk w w.heap.size 30 #[.slice none 0 0, .bool false, .int .i64 0, .slice none 0 0, .int .i64 0, .int .i64 0, .int .i64 0, .slice none 0 0] rfl
  have hRB : ¬ w.heap.size = B := by omega
  go_enter Try.func28, Try.ntmps28
  go_wp2_with fail
  refine (l3DrawUpdate_sc (h.new hw0) (by omega)).mono ?_
  rintro e w2 ⟨gs, rs, xs, has, o, nx, md, lc, x, y, z, t2, rfl, huf, hg2, hx2, hr2, ht2, hG, hM, hR, hs2, htn2, d1, d2, d3⟩
  obtain ⟨ga, gc, ex⟩ := hG.slice'
  obtain ⟨xa, xc, ey⟩ := hM.slice'
  obtain ⟨ra, rc, ez⟩ := hR.slice'
  subst ex
  subst ey
  subst ez
  obtain ⟨h8, h8r, hlg, hlr, hyes, hno⟩ := uf_ok huf
  have BG : Hid (∀ p ∈ gs, In6 p.1 ∧ In6 p.2) := fun p hp => pf_in ((lf_ok hlg).2 p hp)
  have BR : Hid (∀ p ∈ rs, In6 p.1 ∧ In6 p.2) := fun p hp => pf_in ((lf_ok hlr).2 p hp)
  have BX : Hid (∀ z ∈ xs, In6 z) := by
    intro z hz
    cases has with
    | false =>
      obtain ⟨_, _, hx0, _⟩ := hno rfl
      rw [List.eq_nil_of_length_eq_zero hx0] at hz
      cases hz
    | true =>
      have := (af_ok (hyes rfl).2).2.2 z hz
      unfold In6; omega
  clear hlg hlr hyes hno huf h8 h8r
  generalize hGL : gs.length = gm at *
  generalize hXL : xs.length = xm at *
  generalize hRL : rs.length = rm at *
  have HG : Hid (gs.length = gm) := hGL
  have HX : Hid (xs.length = xm) := hXL
  have HR : Hid (rs.length = rm) := hRL
  clear hGL hXL hRL
  have hG' := hG.low (lo' := w.heap.size + 1) (by simp)
  have hM' := hM.low (lo' := w.heap.size + 1) (by simp)
  have hR' := hR.low (lo' := w.heap.size + 1) (by simp)
  have kQ := hG'.blk
  have kM := hM'.blk
  have kR := hR'.blk
  have bR2 := bR0.turn htn2 hRB
  have t02 := Turn.both (hw0.turn (S := fun k => k = B)) htn2
  have s2 := bR2.lt
  have lB2 := hs2.blk.lt
  clear hG hM hR bR0 hw0 htn2
  have hal2 := (New.refl w2).alloc (.cells #[.slice ga gm gc, .bool has, .int .i64 o, .slice xa xm xc, .int .i64 nx, .int .i64 md, .int .i64 lc, .slice ra rm rc] 30)
  have bU2 := Blk.mk w2 w2.heap.size 30 #[.slice ga gm gc, .bool has, .int .i64 o, .slice xa xm xc, .int .i64 nx, .int .i64 md, .int .i64 lc, .slice ra rm rc] rfl
  go_wp2_with fail
  refine (next_sc (hs2.new hal2) 14 (by omega) (by omega)).mono ?_
  rintro e w4 ⟨r4, rfl, ⟨p4, q4, -⟩, hs4, ht4⟩
  have q4 := q4 (by omega)
  have bU4 := bU2.turn ht4 (by omega)
  have bR4 := (bR2.new hal2).turn ht4 hRB
  have hQ4 := (hG'.new hal2).turnB' ht4 (fun g hg e => by have := kQ g hg; omega)
  have hM4 := (hM'.new hal2).turnB' ht4 (fun g hg e => by have := kM g hg; omega)
  have hR4 := (hR'.new hal2).turnB' ht4 (fun g hg e => by have := kR g hg; omega)
  have t04 := Turn.both t02 (Turn.both (hal2.turn (S := fun k => k = B)) ht4)
  have s4 : w2.heap.size < w4.heap.size := bU4.lt
  clear bU2 bR2 hG' hM' hR' t02 hs2 hal2 ht4
  by_cases e0 : r4 = 0
  · subst e0
    have n0 : ((0 : Int) == 0) = true := rfl
    have cU := bU4.cells
    have fU := bU4.frees
    have lU := bU4.lt
    have hown := hQ4.own2 HG.out
    have hd0 := hs4.new ((New.refl _).drew)
    go_wp2_with fail
    go_region_law (first
      | (refine step_apS _ rfl (.tmp 11) (.tmp 14) rfl (w.heap.size + 1) Try.underlying25 hi hz0 hz1 hz2 (.slice ga gm gc) gm _ rfl (own1.alloc _) ⟨_, 0, none⟩ x l rfl (by simp [Addr.add]) (by simp [Addr.add]) (by omega) (by first | omega | (simp; omega)) ?_; intro v' w6 ho6 hgr6 hat6; obtain ⟨g6, c6, rfl⟩ := Joins.ownsRow_form ho6 (by omega); have bU6 := (bU1.alloc (.cells #[.int .i64 x, .int .i64 l] 53)).grow hgr6 (fun e => by have := kQ _ e; omega); have cU6 := bU6.cells; have fU6 := bU6.frees)
      | (go_simp; go_at_call 55; refine (l2Bent_sc hd0 (by omega)).mono ?_; rintro e v1 ⟨x, l, tc, rfl, hxb, hlb, htc, hsA, htA⟩; have bU1 := (bU4.new ((New.refl _).drew)).turn htA (by omega); have cU1 := bU1.cells; have cU1a := (bU1.alloc (.cells #[.int .i64 x, .int .i64 l] 53)).cells; have own1 := own_turnQB (own_turnQ hown ((New.refl _).drew)) htA (fun g hg e => by have := kQ g hg; omega); have s1 : w4.heap.size ≤ v1.heap.size := htA.size))
    all_goals
      have tA : Turn (fun k => k = B) w4 v1 := Turn.both (((New.refl w4).drew).turn (S := fun k => k = B)) htA
      have hal1 := (New.refl v1).alloc (.cells #[.int .i64 x, .int .i64 l] 53)
      have bR6 := ((bR4.turn tA hRB).new hal1).grow hgr6 (fun e => by have := kQ _ e; omega)
      have tg : Turn (fun k => (Value.slice ga gm gc).ownBlock = some k) (v1.alloc (.cells #[.int .i64 x, .int .i64 l] 53)) w6 := ⟨hgr6.os, hgr6.tape, hgr6.output, hgr6.size, fun k hk hs => hgr6.block k hk (fun e => hs e.symm)⟩
      have T9 := Turn.here (B := w2.heap.size) (j := 0) (Turn.refl _ w6) (.slice (some ⟨g6, 0, none⟩) (gm + 1) c6)
      have bU9 := bU6.set 0 (.slice (some ⟨g6, 0, none⟩) (gm + 1) c6)
      simp only [List.setIfInBounds_toArray, List.set_cons_zero] at bU9
      have bR9 := bR6.turn T9 (by omega)
      have hbk6 : g6 ≠ w2.heap.size := fun e => by
        have k6 := ho6.lt g6 rfl
        rcases hat6 with h' | h'
        · have := kQ g6 (by rw [← h']; rfl); omega
        · simp [Value.ownBlock] at h'; omega
      have hQ9 := (OwQ.of_own (L := gs ++ [(x, l)]) (by rw [cellsP_append]; exact ho6) (by rw [List.length_append, HG.out]; rfl)).turnB' T9 (fun g hg e => by obtain rfl := Option.some.inj hg; exact hbk6 e)
      have hR9 := ((((hR4.turnB' tA (fun g hg e => by have := kR g hg; omega)).new hal1).turnB' tg (fun g hg e => d2 _ e hg))).turnB' T9 (fun g hg e => by have := kR g hg; omega)
      have hM9 := ((((hM4.turnB' tA (fun g hg e => by have := kM g hg; omega)).new hal1).turnB' tg (fun g hg e => d1 _ e hg))).turnB' T9 (fun g hg e => by have := kM g hg; omega)
      have t09 : Turn (fun k => k = B) w (w6.setCell ⟨w2.heap.size, 0, none⟩ (.slice (some ⟨g6, 0, none⟩) (gm + 1) c6)) := Turn.trans (Turn.trans (Turn.both t04 (Turn.both tA (hal1.turn (S := fun k => k = B)))) tg (fun i hi e => by have := kQ _ e; omega)) T9 (fun i hi e => by omega)
      have hb9 : ∀ p ∈ gs ++ [(x, l)], In6 p.1 ∧ In6 p.2 := by
        intro p hp
        rcases List.mem_append.1 hp with h | h
        · exact BG.out p h
        · simp at h; subst h; unfold In6; simp only; omega
      clear ho6 hgr6 hat6 bU6 bR6 cU6 fU6 own1 bU1 cU1 cU1a hsA htA tg tA hown hd0 cU fU lU
      have cU9 := bU9.cells
      have cR9 := bR9.cells
      have fR9 := bR9.frees
      have lR9 := bR9.lt
      go_wp2
      refine bodyPost_ret (v := .agg #[.slice (some ⟨g6, 0, none⟩) (gm + 1) c6, .bool has, .int .i64 o, .slice xa xm xc, .int .i64 nx, .int .i64 md, .int .i64 lc, .slice ra rm rc]) (by simp [results, Try.results28, go_sem, cR9]) rfl ?_
      refine (fun (hT : Turn (fun k => k = w.heap.size) (w6.setCell ⟨w2.heap.size, 0, none⟩ (.slice (some ⟨g6, 0, none⟩) (gm + 1) c6)) _) => ⟨(gs ++ [(x, l)]), rs, xs, has, o, nx, md, lc, _, _, _, rfl, by rw [List.length_append, HG.out]; simp; omega, by rw [HX.out]; omega, by rw [HR.out]; omega, hb9, BX.out, BR.out, (hQ9.turn hT (fun g hg e => by omega)).low (by omega), (hM9.turn hT (fun g hg e => by omega)).low (by omega), (hR9.turn hT (fun g hg e => by omega)).low (by omega), Turn.trans t09 hT (fun i hi e => by omega)⟩) ?_
      exact Turn.here (Turn.here (Turn.here (Turn.here (Turn.here (Turn.here (Turn.here (Turn.here (Turn.refl _ _) _) _) _) _) _) _) _) _
  by_cases e1 : r4 = 1
  · subst e1
    have n0 : ((1 : Int) == 0) = false := rfl
    have n1 : ((1 : Int) == 1) = true := rfl
    have cU := bU4.cells
    have fU := bU4.frees
    have lU := bU4.lt
    have T9 := Turn.here (B := w2.heap.size) (j := 1) (Turn.refl _ w4) (.bool (!has))
    have bU9 := bU4.set 1 (.bool (!has))
    simp only [List.setIfInBounds_toArray, List.set_cons_zero, List.set_cons_succ] at bU9
    have bR9 := bR4.turn T9 (by omega)
    have hQ9 := hQ4.turnB' T9 (fun g hg e => by have := kQ g hg; omega)
    have hM9 := hM4.turnB' T9 (fun g hg e => by have := kM g hg; omega)
    have hR9 := hR4.turnB' T9 (fun g hg e => by have := kR g hg; omega)
    have t09 := Turn.trans t04 T9 (fun i hi e => by omega)
    have cU9 := bU9.cells
    have cR9 := bR9.cells
    have fR9 := bR9.frees
    have lR9 := bR9.lt
    go_wp2
    refine bodyPost_ret (v := .agg #[.slice ga gm gc, .bool (!has), .int .i64 o, .slice xa xm xc, .int .i64 nx, .int .i64 md, .int .i64 lc, .slice ra rm rc]) (by simp [results, Try.results28, go_sem, cR9]) rfl ?_
    refine (fun (hT : Turn (fun k => k = w.heap.size) (w4.setCell ⟨w2.heap.size, 1, none⟩ (.bool (!has))) _) => ⟨gs, rs, xs, (!has), o, nx, md, lc, _, _, _, rfl, by rw [HG.out]; omega, by rw [HX.out]; omega, by rw [HR.out]; omega, BG.out, BX.out, BR.out, (hQ9.turn hT (fun g hg e => by omega)).low (by omega), (hM9.turn hT (fun g hg e => by omega)).low (by omega), (hR9.turn hT (fun g hg e => by omega)).low (by omega), Turn.trans t09 hT (fun i hi e => by omega)⟩) ?_
    exact Turn.here (Turn.here (Turn.here (Turn.here (Turn.here (Turn.here (Turn.here (Turn.here (Turn.refl _ _) _) _) _) _) _) _) _) _
  by_cases e2 : r4 = 2
  · subst e2
    have n0 : ((2 : Int) == 0) = false := rfl
    have n1 : ((2 : Int) == 1) = false := rfl
    have n2 : ((2 : Int) == 2) = true := rfl
    go_wp2_with fail
    refine (l3BentAttrs_sc hs4 (by omega)).mono ?_
    rintro e w5 ⟨o5, nx5, md5, lc5, xs5, xa5, xc5, xm5, t5, rfl, hl5, hm5, ⟨o1, o2, o3, o4⟩, ⟨u1, u2, u3, u4⟩, hxs5, ht5, hM5, hs5, htn5⟩
    have HX5 : Hid (xs5.length = xm5) := hl5
    have bU5 := bU4.turn htn5 (by omega)
    have bR5 := bR4.turn htn5 hRB
    have hQ5 := hQ4.turnB' htn5 (fun g hg e => by have := kQ g hg; omega)
    have hR5 := hR4.turnB' htn5 (fun g hg e => by have := kR g hg; omega)
    have t05 := Turn.both t04 htn5
    have cU := bU5.cells
    have fU := bU5.frees
    have lU := bU5.lt
    have hM5b := hM5.blk
    have T9 := Turn.here (B := w2.heap.size) (j := 6) (Turn.here (j := 5) (Turn.here (j := 4) (Turn.here (j := 3) (Turn.here (j := 2) (Turn.refl _ w5) (.int .i64 o5)) (.slice xa5 xm5 xc5)) (.int .i64 nx5)) (.int .i64 md5)) (.int .i64 lc5)
    have bU9 := ((((bU5.set 2 (.int .i64 o5)).set 3 (.slice xa5 xm5 xc5)).set 4 (.int .i64 nx5)).set 5 (.int .i64 md5)).set 6 (.int .i64 lc5)
    simp only [List.setIfInBounds_toArray, List.set_cons_zero, List.set_cons_succ] at bU9
    have bR9 := bR5.turn T9 (by omega)
    have hQ9 := hQ5.turnB' T9 (fun g hg e => by have := kQ g hg; omega)
    have hR9 := hR5.turnB' T9 (fun g hg e => by have := kR g hg; omega)
    have hM9 := (hM5.turnB' T9 (fun g hg e => by have := hM5b g hg; omega)).low (lo' := w.heap.size + 1) (by omega)
    have t09 := Turn.trans t05 T9 (fun i hi e => by omega)
    have bx5 : ∀ z ∈ xs5, In6 z := fun z hz => by have := hxs5 z hz; unfold In6; omega
    clear hl5
    have cU9 := bU9.cells
    have cR9 := bR9.cells
    have fR9 := bR9.frees
    have lR9 := bR9.lt
    go_wp2
    refine bodyPost_ret (v := .agg #[.slice ga gm gc, .bool has, .int .i64 o5, .slice xa5 xm5 xc5, .int .i64 nx5, .int .i64 md5, .int .i64 lc5, .slice ra rm rc]) (by simp [results, Try.results28, go_sem, cR9]) rfl ?_
    refine (fun (hT : Turn (fun k => k = w.heap.size) (((((w5.setCell ⟨w2.heap.size, 2, none⟩ (.int .i64 o5)).setCell ⟨w2.heap.size, 3, none⟩ (.slice xa5 xm5 xc5)).setCell ⟨w2.heap.size, 4, none⟩ (.int .i64 nx5)).setCell ⟨w2.heap.size, 5, none⟩ (.int .i64 md5)).setCell ⟨w2.heap.size, 6, none⟩ (.int .i64 lc5)) _) => ⟨gs, rs, xs5, has, o5, nx5, md5, lc5, _, _, _, rfl, by rw [HG.out]; omega, by rw [HX5.out]; omega, by rw [HR.out]; omega, BG.out, bx5, BR.out, (hQ9.turn hT (fun g hg e => by omega)).low (by omega), (hM9.turn hT (fun g hg e => by omega)).low (by omega), (hR9.turn hT (fun g hg e => by omega)).low (by omega), Turn.trans t09 hT (fun i hi e => by omega)⟩) ?_
    exact Turn.here (Turn.here (Turn.here (Turn.here (Turn.here (Turn.here (Turn.here (Turn.here (Turn.refl _ _) _) _) _) _) _) _) _) _
  by_cases e3 : r4 = 3
  · subst e3
    have n0 : ((3 : Int) == 0) = false := rfl
    have n1 : ((3 : Int) == 1) = false := rfl
    have n2 : ((3 : Int) == 2) = false := rfl
    have n3 : ((3 : Int) == 3) = true := rfl
    have cU := bU4.cells
    have fU := bU4.frees
    have lU := bU4.lt
    have hown := hR4.own2 HR.out
    have hd0 := hs4.new ((New.refl _).drew)
    go_wp2_with fail
    go_region_law (first
      | (refine step_apS _ rfl (.tmp 31) (.tmp 34) rfl (w.heap.size + 1) Try.underlying25 hi hz0 hz1 hz2 (.slice ra rm rc) rm _ rfl (own1.alloc _) ⟨_, 0, none⟩ x l rfl (by simp [Addr.add]) (by simp [Addr.add]) (by omega) (by first | omega | (simp; omega)) ?_; intro v' w6 ho6 hgr6 hat6; obtain ⟨g6, c6, rfl⟩ := Joins.ownsRow_form ho6 (by omega); have bU6 := (bU1.alloc (.cells #[.int .i64 x, .int .i64 l] 53)).grow hgr6 (fun e => by have := kR _ e; omega); have cU6 := bU6.cells; have fU6 := bU6.frees)
      | (go_simp; go_at_call 55; refine (l2Bent_sc hd0 (by omega)).mono ?_; rintro e v1 ⟨x, l, tc, rfl, hxb, hlb, htc, hsA, htA⟩; have bU1 := (bU4.new ((New.refl _).drew)).turn htA (by omega); have cU1 := bU1.cells; have cU1a := (bU1.alloc (.cells #[.int .i64 x, .int .i64 l] 53)).cells; have own1 := own_turnQB (own_turnQ hown ((New.refl _).drew)) htA (fun g hg e => by have := kR g hg; omega); have s1 : w4.heap.size ≤ v1.heap.size := htA.size))
    all_goals
      have tA : Turn (fun k => k = B) w4 v1 := Turn.both (((New.refl w4).drew).turn (S := fun k => k = B)) htA
      have hal1 := (New.refl v1).alloc (.cells #[.int .i64 x, .int .i64 l] 53)
      have bR6 := ((bR4.turn tA hRB).new hal1).grow hgr6 (fun e => by have := kR _ e; omega)
      have tg : Turn (fun k => (Value.slice ra rm rc).ownBlock = some k) (v1.alloc (.cells #[.int .i64 x, .int .i64 l] 53)) w6 := ⟨hgr6.os, hgr6.tape, hgr6.output, hgr6.size, fun k hk hs => hgr6.block k hk (fun e => hs e.symm)⟩
      have T9 := Turn.here (B := w2.heap.size) (j := 7) (Turn.refl _ w6) (.slice (some ⟨g6, 0, none⟩) (rm + 1) c6)
      have bU9 := bU6.set 7 (.slice (some ⟨g6, 0, none⟩) (rm + 1) c6)
      simp only [List.setIfInBounds_toArray, List.set_cons_zero, List.set_cons_succ] at bU9
      have bR9 := bR6.turn T9 (by omega)
      have hbk6 : g6 ≠ w2.heap.size := fun e => by
        have k6 := ho6.lt g6 rfl
        rcases hat6 with h' | h'
        · have := kR g6 (by rw [← h']; rfl); omega
        · simp [Value.ownBlock] at h'; omega
      have hR9 := (OwQ.of_own (L := rs ++ [(x, l)]) (by rw [cellsP_append]; exact ho6) (by rw [List.length_append, HR.out]; rfl)).turnB' T9 (fun g hg e => by obtain rfl := Option.some.inj hg; exact hbk6 e)
      have hQ9 := ((((hQ4.turnB' tA (fun g hg e => by have := kQ g hg; omega)).new hal1).turnB' tg (fun g hg e => d2 _ hg e))).turnB' T9 (fun g hg e => by have := kQ g hg; omega)
      have hM9 := ((((hM4.turnB' tA (fun g hg e => by have := kM g hg; omega)).new hal1).turnB' tg (fun g hg e => d3 _ hg e))).turnB' T9 (fun g hg e => by have := kM g hg; omega)
      have t09 : Turn (fun k => k = B) w (w6.setCell ⟨w2.heap.size, 7, none⟩ (.slice (some ⟨g6, 0, none⟩) (rm + 1) c6)) := Turn.trans (Turn.trans (Turn.both t04 (Turn.both tA (hal1.turn (S := fun k => k = B)))) tg (fun i hi e => by have := kR _ e; omega)) T9 (fun i hi e => by omega)
      have hb9 : ∀ p ∈ rs ++ [(x, l)], In6 p.1 ∧ In6 p.2 := by
        intro p hp
        rcases List.mem_append.1 hp with h | h
        · exact BR.out p h
        · simp at h; subst h; unfold In6; simp only; omega
      clear ho6 hgr6 hat6 bU6 bR6 cU6 fU6 own1 bU1 cU1 cU1a hsA htA tg tA hown hd0 cU fU lU
      have cU9 := bU9.cells
      have cR9 := bR9.cells
      have fR9 := bR9.frees
      have lR9 := bR9.lt
      go_wp2
      refine bodyPost_ret (v := .agg #[.slice ga gm gc, .bool has, .int .i64 o, .slice xa xm xc, .int .i64 nx, .int .i64 md, .int .i64 lc, .slice (some ⟨g6, 0, none⟩) (rm + 1) c6]) (by simp [results, Try.results28, go_sem, cR9]) rfl ?_
      refine (fun (hT : Turn (fun k => k = w.heap.size) (w6.setCell ⟨w2.heap.size, 7, none⟩ (.slice (some ⟨g6, 0, none⟩) (rm + 1) c6)) _) => ⟨gs, (rs ++ [(x, l)]), xs, has, o, nx, md, lc, _, _, _, rfl, by rw [HG.out]; omega, by rw [HX.out]; omega, by rw [List.length_append, HR.out]; simp; omega, BG.out, BX.out, hb9, (hQ9.turn hT (fun g hg e => by omega)).low (by omega), (hM9.turn hT (fun g hg e => by omega)).low (by omega), (hR9.turn hT (fun g hg e => by omega)).low (by omega), Turn.trans t09 hT (fun i hi e => by omega)⟩) ?_
      exact Turn.here (Turn.here (Turn.here (Turn.here (Turn.here (Turn.here (Turn.here (Turn.here (Turn.refl _ _) _) _) _) _) _) _) _) _
  by_cases e4 : r4 = 4
  · subst e4
    have n0 : ((4 : Int) == 0) = false := rfl
    have n1 : ((4 : Int) == 1) = false := rfl
    have n2 : ((4 : Int) == 2) = false := rfl
    have n3 : ((4 : Int) == 3) = false := rfl
    have n4 : ((4 : Int) == 4) = true := rfl
    have cU := bU4.cells
    have fU := bU4.frees
    have lU := bU4.lt
    have hz1' := hz1
    go_wp2_with (at_make; refine wpList_make_full _ rfl _ _ 25 rfl 0 53 iP (.agg #[.int .i64 0, .int .i64 0]) 2 Try.underlying25 hi hz0 hz1 _ _ _ _ 9 rfl rfl rfl rfl ?b2 ?b3 (Nat.zero_le _) ?_)
    case b2 => rw [hz2]; omega
    case b3 => unfold maxLen; omega
    intro w5 ho5 hgr5
    have hnn := New.of_grown hgr5
    have hr5 : w5.ownsRow 0 53 2 (.slice (some ⟨w4.heap.size, 0, none⟩) 9 9) 9 (cellsP (List.replicate 9 (0, 0))) := by
      rw [cellsP_zero]
      have := ho5
      rw [show (madeCells _ _).toList = List.replicate 18 (Value.int .i64 0) from made_two (.int .i64 0) 18] at this
      exact this
    have hQ5 : OwQ w5 0 (.slice (some ⟨w4.heap.size, 0, none⟩) 9 9) (List.replicate 9 (0, 0)) := OwQ.of_own hr5 (by simp)
    have bU5 := bU4.new hnn
    have bR5 := bR4.new hnn
    have hM5 := hM4.new hnn
    have hR5 := hR4.new hnn
    have t05 := Turn.both t04 (hnn.turn (S := fun k => k = B))
    have hlt5 := (hr5.lt w4.heap.size rfl).2
    clear cU fU
    have cU := bU5.cells
    have fU := bU5.frees
    have lU5 := bU5.lt
    have T9 := Turn.here (B := w2.heap.size) (j := 0) (Turn.refl _ w5) (.slice (some ⟨w4.heap.size, 0, none⟩) 9 9)
    have bU9 := bU5.set 0 (.slice (some ⟨w4.heap.size, 0, none⟩) 9 9)
    simp only [List.setIfInBounds_toArray, List.set_cons_zero] at bU9
    have bR9 := bR5.turn T9 (by omega)
    have hQ9 : OwQ (w5.setCell ⟨w2.heap.size, 0, none⟩ (.slice (some ⟨w4.heap.size, 0, none⟩) 9 9)) (w.heap.size + 1) (.slice (some ⟨w4.heap.size, 0, none⟩) 9 9) (List.replicate 9 (0, 0)) := by
      have hh := hQ5.turnB' T9 (fun g hg e => by obtain rfl := Option.some.inj hg; simp only at e; omega)
      rcases hh with ⟨h', _⟩ | ⟨g, c', h', h2, h3⟩
      · simp at h'
      · simp only [Value.slice.injEq, Option.some.injEq, Addr.mk.injEq, and_true] at h'
        obtain ⟨rfl, h'', rfl⟩ := h'
        exact .inr ⟨_, _, rfl, by omega, h3⟩
    have hM9 := hM5.turnB' T9 (fun g hg e => by have := kM g hg; omega)
    have hR9 := hR5.turnB' T9 (fun g hg e => by have := kR g hg; omega)
    have t09 := Turn.trans t05 T9 (fun i hi e => by omega)
    clear ho5 hgr5 hr5 hQ5
    have cU9 := bU9.cells
    have cR9 := bR9.cells
    have fR9 := bR9.frees
    have lR9 := bR9.lt
    go_wp2
    refine bodyPost_ret (v := .agg #[.slice (some ⟨w4.heap.size, 0, none⟩) 9 9, .bool has, .int .i64 o, .slice xa xm xc, .int .i64 nx, .int .i64 md, .int .i64 lc, .slice ra rm rc]) (by simp [results, Try.results28, go_sem, cR9]) rfl ?_
    refine (fun (hT : Turn (fun k => k = w.heap.size) (w5.setCell ⟨w2.heap.size, 0, none⟩ (.slice (some ⟨w4.heap.size, 0, none⟩) 9 9)) _) => ⟨(List.replicate 9 (0, 0)), rs, xs, has, o, nx, md, lc, _, _, _, rfl, by simp, by rw [HX.out]; omega, by rw [HR.out]; omega, (by intro p hp; obtain rfl := List.eq_of_mem_replicate hp; unfold In6; simp), BX.out, BR.out, (hQ9.turn hT (fun g hg e => by omega)).low (by omega), (hM9.turn hT (fun g hg e => by omega)).low (by omega), (hR9.turn hT (fun g hg e => by omega)).low (by omega), Turn.trans t09 hT (fun i hi e => by omega)⟩) ?_
    exact Turn.here (Turn.here (Turn.here (Turn.here (Turn.here (Turn.here (Turn.here (Turn.here (Turn.refl _ _) _) _) _) _) _) _) _) _
  · have n0 : (r4 == 0) = false := by simpa using e0
    have n1 : (r4 == 1) = false := by simpa using e1
    have n2 : (r4 == 2) = false := by simpa using e2
    have n3 : (r4 == 3) = false := by simpa using e3
    have n4 : (r4 == 4) = false := by simpa using e4
    have cU4 := bU4.cells
    have bU9 := bU4
    have bR9 := bR4
    have hQ9 := hQ4
    have hM9 := hM4
    have hR9 := hR4
    have t09 := t04
    have cU9 := bU9.cells
    have cR9 := bR9.cells
    have fR9 := bR9.frees
    have lR9 := bR9.lt
    go_wp2
    refine bodyPost_ret (v := .agg #[.slice ga gm gc, .bool has, .int .i64 o, .slice xa xm xc, .int .i64 nx, .int .i64 md, .int .i64 lc, .slice ra rm rc]) (by simp [results, Try.results28, go_sem, cR9]) rfl ?_
    refine (fun (hT : Turn (fun k => k = w.heap.size) w4 _) => ⟨gs, rs, xs, has, o, nx, md, lc, _, _, _, rfl, by rw [HG.out]; omega, by rw [HX.out]; omega, by rw [HR.out]; omega, BG.out, BX.out, BR.out, (hQ9.turn hT (fun g hg e => by omega)).low (by omega), (hM9.turn hT (fun g hg e => by omega)).low (by omega), (hR9.turn hT (fun g hg e => by omega)).low (by omega), Turn.trans t09 hT (fun i hi e => by omega)⟩) ?_
    exact Turn.here (Turn.here (Turn.here (Turn.here (Turn.here (Turn.here (Turn.here (Turn.here (Turn.refl _ _) _) _) _) _) _) _) _) _

set_option maxHeartbeats 1600000 in
theorem drawPackU_any (a : Option Addr) (n c : Nat) (zs : List Int) (w : World) (h : BsAt w a zs) (hn : zs.length = n) (hm : n ≤ 2097152) (ha : ∀ x, zs ≠ [] → a = some x → x.block < w.heap.size) :
    Calls Try.prog 10 #[.slice a n c] w fun e w' => ∃ (gs rs : List (Int × Int)) (xs : List Int) (has : Bool) (o nx md lc : Int) (ga xa ra : Option Addr) (gm gc xm xc rm rc : Nat), e = .returned (.agg #[.slice ga gm gc, .bool has, .int .i64 o, .slice xa xm xc, .int .i64 nx, .int .i64 md, .int .i64 lc, .slice ra rm rc]) ∧ gs.length = gm ∧ xs.length = xm ∧ rs.length = rm ∧ gm ≤ 9 ∧ xm ≤ 7 ∧ rm ≤ 4 ∧ PsAt w' ga gs ∧ NsAt w' xa xs ∧ PsAt w' ra rs ∧ New w w' := by
  have HN : Hid (zs.length = n) := hn
  have hw0 := (New.refl w).alloc (.cells #[.slice none 0 0, .bool false, .int .i64 0, .slice none 0 0, .int .i64 0, .int .i64 0, .int .i64 0, .slice none 0 0] 30)
  have bR0 := Blk.mk w w.heap.size 30 #[.slice none 0 0, .bool false, .int .i64 0, .slice none 0 0, .int .i64 0, .int .i64 0, .int .i64 0, .slice none 0 0] rfl
  clear hn
  go_enter Try.func10, Try.ntmps10
  go_wp2_with fail
  refine (source_any a n c zs _ (h.new hw0) HN.out hm (fun x hz hx => by have := ha x hz hx; simp; omega)).mono ?_
  rintro e w1 ⟨B, rfl, hB, hs1, hn1⟩
  have hB' : w.heap.size + 1 ≤ B := by simpa using hB
  have lB := hs1.blk.lt
  go_wp2_with fail
  refine (l3Bent_sc hs1 (by omega)).mono ?_
  rintro e w2 ⟨gs, rs, xs, has, o, nx, md, lc, x, y, z, rfl, lg, lx, lr, bg, bx, br, hQ, hM, hR, htn⟩
  obtain ⟨ga, gc, ex⟩ := hQ.slice'
  obtain ⟨xa, xc, ey⟩ := hM.slice'
  obtain ⟨ra, rc, ez⟩ := hR.slice'
  subst ex
  subst ey
  subst ez
  have bR2 := (bR0.new hn1).turn htn (by omega)
  have N2 : New w w2 := (hw0.trans hn1).before htn (fun i hi e => by omega)
  have s1 := hn1.size
  have hs1' : w.heap.size + 1 ≤ w1.heap.size := by simpa using s1
  have pg := hQ.psB bg
  have pn := hM.nsB' bx
  have pr := hR.psB br
  have kQ := hQ.blk
  have kM := hM.blk
  have kR := hR.blk
  generalize hGL : gs.length = gm at *
  generalize hXL : xs.length = xm at *
  generalize hRL : rs.length = rm at *
  have HG : Hid (gs.length = gm) := hGL
  have HX : Hid (xs.length = xm) := hXL
  have HR : Hid (rs.length = rm) := hRL
  clear hGL hXL hRL hQ hM hR htn bR0 hw0
  have cR := bR2.cells
  have fR := bR2.frees
  have lR := bR2.lt
  go_wp2
  refine bodyPost_ret (v := .agg #[.slice ga gm gc, .bool has, .int .i64 o, .slice xa xm xc, .int .i64 nx, .int .i64 md, .int .i64 lc, .slice ra rm rc]) (by simp [results, Try.results10, go_sem, cR]) rfl ?_
  refine (fun (hT : Turn (fun k => k = w.heap.size) w2 _) => ⟨gs, rs, xs, has, o, nx, md, lc, ga, xa, ra, gm, gc, xm, xc, rm, rc, rfl, HG.out, HX.out, HR.out, lg, lx, lr, pg.turn hT (fun x _ hx e => by have := kQ x.block (by rw [hx]; rfl); omega), pn.turn hT (fun x _ hx e => by have := kM x.block (by rw [hx]; rfl); omega), pr.turn hT (fun x _ hx e => by have := kR x.block (by rw [hx]; rfl); omega), N2.before hT (fun i hi e => by omega)⟩) ?_
  exact Turn.here (Turn.here (Turn.here (Turn.here (Turn.here (Turn.here (Turn.here (Turn.here (Turn.refl _ _) _) _) _) _) _) _) _) _

end Go.Proofs.Ytpamejefnegjhaa
