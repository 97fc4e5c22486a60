/- What is proved here: what the drawing of attributes answers: attributes without a fault. -/
import Derived.Test.YtjampcfikfafkaaPxDraw
import Derived.Test.YtjampcfikfafkaaDrB6
import Derived.Test.YtjampcfikfafkaaAtFn
import Derived.Deep.RegionLaw
namespace Go.Proofs.Ytjampcfikfafkaa
open Go.RowKit Go.Sort
set_option linter.unusedVariables false

theorem afc_of : ∀ {xs : List Int}, (∀ x ∈ xs, 1 ≤ x ∧ x ≤ 65535) → afc xs = 0
  | [], _ => rfl
  | x :: r, h => by
    unfold afc
    rw [if_pos (h x (by simp))]
    exact afc_of (fun y hy => h y (by simp [hy]))
theorem af_of {o nx md lc : Int} {xs : List Int} (ho : Ao o nx md lc) (hl : xs.length ≤ 6) (hx : ∀ x ∈ xs, 1 ≤ x ∧ x ≤ 65535) : af o xs nx md lc = 0 := by
  unfold af
  rw [if_pos ho, if_neg (by omega)]
  exact afc_of hx
theorem own_turnN {w w' : World} {base n : Nat} {v : Value} {xs : List Value} {S : Nat → Prop} (h : w.ownsRow base 2 1 v n xs) (t : Turn S w w') (hS : ∀ g, v.ownBlock = some g → ¬ S g) : w'.ownsRow base 2 1 v n xs := by
  refine ⟨h.1, ?_⟩
  rcases h.2 with h' | ⟨g', cap', cur, h', hb, hh, r⟩
  · exact .inl h'
  · have hlt : g' < w.heap.size := (Array.getElem?_eq_some_iff.1 hh).1
    exact .inr ⟨g', cap', cur, h', hb, (t.block g' hlt (hS g' (by rw [h']; rfl))).trans hh, r⟩

set_option maxRecDepth 100000 in
set_option maxHeartbeats 3200000 in
theorem l3DrawAttrs_sc {B n c t : Nat} {a : Option Addr} {zs : List Int} {w : World} (h : Sc w B a n c zs t) (ht : t ≤ 100000) :
    Calls Try.prog 46 #[.pointer (some ⟨B, 0, none⟩)] w fun e w' => ∃ (o nx md lc : Int) (xs : List Int) (xa : Option Addr) (xc t' : Nat), e = .returned (.agg #[.int .i64 o, .slice xa xs.length xc, .int .i64 nx, .int .i64 md, .int .i64 lc]) ∧ af o xs nx md lc = 0 ∧ xs.length ≤ 3 ∧ t' ≤ t + 30 ∧ OwM w' w.heap.size (.slice xa xs.length xc) xs ∧ Sc w' B a n c zs t' ∧ Turn (fun k => k = B) w w' := by
  obtain ⟨iN, hi, hz0, hz1, hz2⟩ := info_parts Try.infoI64
  have hlt := h.blk.lt
  have hA := h.lt_of
  have hw0 := (New.refl w).alloc (.cells #[.int .i64 0, .slice none 0 0, .int .i64 0, .int .i64 0, .int .i64 0] 33)
  have bR0 := Blk.mk w w.heap.size 33 #[.int .i64 0, .slice none 0 0, .int .i64 0, .int .i64 0, .int .i64 0] rfl
  have hRB : ¬ w.heap.size = B := by omega
  go_enter Try.func46, Try.ntmps46
  go_wp2_with fail
  refine (next_sc (h.new hw0) 3 (by omega) (by omega)).mono ?_
  rintro e w1 ⟨r1, rfl, ⟨p1, q1, -⟩, hs1, ht1⟩
  have q1 := q1 (by omega)
  go_wp2_with fail
  refine (next_sc hs1 9 (by omega) (by omega)).mono ?_
  rintro e w2 ⟨r2, rfl, ⟨p2, q2, -⟩, hs2, ht2⟩
  have q2 := q2 (by omega)
  go_wp2_with fail
  refine (next_sc hs2 5 (by omega) (by omega)).mono ?_
  rintro e w3 ⟨r3, rfl, ⟨p3, q3, -⟩, hs3, ht3⟩
  have q3 := q3 (by omega)
  have hal3 := (New.refl w3).alloc (.cells #[.int .i64 0, .int .i64 r3] 2)
  have hbl3 := Blk.mk w3 w3.heap.size 2 #[.int .i64 0, .int .i64 r3] rfl
  go_wp2_with fail
  refine (pick_sc (hs3.new hal3) [0, r3] hbl3 2 rfl (by omega) (by omega) (by omega)).mono ?_
  rintro e w4 ⟨x4, rfl, hx4, hs4, ht4⟩
  have hx4' : 0 ≤ x4 ∧ x4 ≤ 4 := by
    simp only [List.mem_cons, List.not_mem_nil, or_false] at hx4
    rcases hx4 with rfl | rfl <;> omega
  have t14 := Turn.both (Turn.both (Turn.both (hw0.turn (S := fun k => k = B)) ht1) (Turn.both ht2 ht3)) (Turn.both (hal3.turn (S := fun k => k = B)) ht4)
  clear hx4 hal3 hbl3 hs1 hs2 hs3
  go_wp2_with fail
  refine (next_sc hs4 20 (by omega) (by omega)).mono ?_
  rintro e w5 ⟨r5, rfl, ⟨p5, q5, -⟩, hs5, ht5⟩
  have q5 := q5 (by omega)
  have hal5 := (New.refl w5).alloc (.cells #[.int .i64 100, .int .i64 100, .int .i64 (90 + r5)] 2)
  have hbl5 := Blk.mk w5 w5.heap.size 2 #[.int .i64 100, .int .i64 100, .int .i64 (90 + r5)] rfl
  go_wp2_with fail
  refine (pick_sc (hs5.new hal5) [100, 100, 90 + r5] hbl5 3 rfl (by omega) (by omega) (by omega)).mono ?_
  rintro e w6 ⟨x6, rfl, hx6, hs6, ht6⟩
  have hx6' : 0 ≤ x6 ∧ x6 ≤ 200 := by
    simp only [List.mem_cons, List.not_mem_nil, or_false] at hx6
    rcases hx6 with rfl | rfl | rfl <;> omega
  have t16 := Turn.both t14 (Turn.both ht5 (Turn.both (hal5.turn (S := fun k => k = B)) ht6))
  have tR := Turn.both (Turn.both ht1 (Turn.both ht2 ht3)) (Turn.both (((New.refl w3).alloc (.cells #[.int .i64 0, .int .i64 r3] 2)).turn (S := fun k => k = B)) ht4)
  have bR6 := ((((bR0.turn tR hRB).turn ht5 hRB).new hal5).turn ht6 hRB)
  clear hx6 hal5 hbl5 hs4 hs5 ht1 ht2 ht3 ht4 ht5 ht6 t14 bR0 tR hw0
  have s6 := t16.size
  have hal6 := (New.refl w6).alloc (.cells #[.int .i64 r1, .slice none 0 0, .int .i64 r2, .int .i64 x4, .int .i64 x6] 33)
  have bA6 := Blk.mk w6 w6.heap.size 33 #[.int .i64 r1, .slice none 0 0, .int .i64 r2, .int .i64 x4, .int .i64 x6] rfl
  have lR6 := bR6.lt
  have lB6 := hs6.blk.lt
  go_wp2_with fail
  refine (next_sc (hs6.new hal6) 4 (by omega) (by omega)).mono ?_
  rintro e w7 ⟨r7, rfl, ⟨p7, q7, -⟩, hs7, ht7⟩
  have q7 := q7 (by omega)
  obtain ⟨k0, rfl⟩ := Int.eq_ofNat_of_zero_le p7
  have bA7 := bA6.turn ht7 (by omega)
  have bR7 := (bR6.new hal6).turn ht7 hRB
  have t17 := Turn.both t16 (Turn.both (hal6.turn (S := fun k => k = B)) ht7)
  clear bA6 bR6 hs6 t16 hal6 ht7
  go_wp2_with fail
  go_loopw [4] (fun s wr => ∃ (k t' m : Nat) (v : Value) (xs : List Int), s = .int .i64 (k : Int) ∧ k ≤ 3 ∧ m + k ≤ 3 ∧ (∀ x ∈ xs, 1 ≤ x ∧ x ≤ 65535) ∧ t' + 3 * k ≤ t + 30 ∧ wr.ownsRow (w6.heap.size + 1) 2 1 v m (xs.map (Value.int .i64)) ∧ Blk wr w.heap.size 33 #[.int .i64 0, .slice none 0 0, .int .i64 0, .int .i64 0, .int .i64 0] ∧ Blk wr w6.heap.size 33 #[.int .i64 r1, v, .int .i64 r2, .int .i64 x4, .int .i64 x6] ∧ Sc wr B a n c zs t' ∧ Turn (fun k => k = B) w wr) (fun s _ => (intOf s).toNat)
  case atStart => exact ⟨k0, _, 0, .slice none 0 0, [], rfl, by omega, by omega, by simp, by omega, ⟨rfl, .inl ⟨rfl, rfl⟩⟩, bR7, bA7, hs7, t17⟩
  case round =>
    clear bR7 bA7 hs7 t17
    obtain ⟨k, t', m, v, xs, rfl, hk, hmk, hxs, ht', hown, bR, bA, hsc, htn⟩ := hrel
    have hblk := own_blkN hown
    obtain ⟨va, vc, rfl⟩ := own_sliceN hown
    have cA := bA.cells
    have fA := bA.frees
    have hal := bA.lt
    have hml : xs.length = m := by simpa using hown.1
    have HML : Hid (xs.length = m) := hml
    clear hml
    by_cases hlt0 : 0 < k
    · have hd0 := hsc.new ((New.refl _).drew)
      go_wp2_with fail
      go_region_law (first
        | (refine step_apV _ rfl (.tmp 28) (.tmp 38) rfl (w6.heap.size + 1) (.int .i64 0) Try.underlying31 hi hz0 hz1 hz2 rfl (.slice va m vc) m _ rfl (own3.alloc _) ⟨_, 0, none⟩ (.int .i64 x3) rfl (by simp [Addr.add]) rfl (by omega) (by first | omega | (simp; omega)) ?_; intro v' w4' ho4 hgr4; obtain ⟨g4, c4, rfl⟩ := Joins.ownsRow_form ho4 (by omega); have bA4 := (bA3.alloc (.cells #[.int .i64 x3] 2)).grow hgr4 (fun e => by have := hblk _ e; omega); have cA4 := bA4.cells; have fA4 := bA4.frees)
        | (go_simp; go_at_call 26; refine (pick_sc (hsB.new ((New.refl _).alloc (.cells #[.int .i64 (1 + y1), .int .i64 (1 + y2), .int .i64 65535] 2))) [1 + y1, 1 + y2, 65535] (Blk.mk v2 v2.heap.size 2 #[.int .i64 (1 + y1), .int .i64 (1 + y2), .int .i64 65535] rfl) 3 rfl (by omega) (by omega) (by omega)).mono ?_; rintro e v3 ⟨x3, rfl, hx3, hsC, htC⟩; have bA3 := (bA2.alloc (.cells #[.int .i64 (1 + y1), .int .i64 (1 + y2), .int .i64 65535] 2)).turn htC (by omega); have cA3 := bA3.cells; have cA3a := (bA3.alloc (.cells #[.int .i64 x3] 2)).cells; have own3 := own_turnN (own2.alloc (.cells #[.int .i64 (1 + y1), .int .i64 (1 + y2), .int .i64 65535] 2)) htC (fun g hg e => by have := hblk g hg; omega); have s3 : v2.heap.size ≤ v3.heap.size := (by have := htC.size; simp at this; omega))
        | (go_simp; go_at_call 24; refine (next_sc hsA 5 (by omega) (by omega)).mono ?_; rintro e v2 ⟨y2, rfl, ⟨py2, qy2, -⟩, hsB, htB⟩; have qy2 := qy2 (by omega); have hwy2 : IntKind.i64.wrap (1 + y2) = 1 + y2 := wrap_in (by omega); have bA2 := bA1.turn htB (by omega); have cA2 := bA2.cells; have cA2a := (bA2.alloc (.cells #[.int .i64 (1 + y1), .int .i64 (1 + y2), .int .i64 65535] 2)).cells; have own2 := own_turnN own1 htB (fun g hg e => by have := hblk g hg; omega); have s2 := htB.size)
        | (go_simp; go_at_call 24; refine (next_sc hd0 5 (by omega) (by omega)).mono ?_; rintro e v1 ⟨y1, rfl, ⟨py1, qy1, -⟩, hsA, htA⟩; have qy1 := qy1 (by omega); have hwy1 : IntKind.i64.wrap (1 + y1) = 1 + y1 := wrap_in (by omega); have bA1 := (bA.new ((New.refl _).drew)).turn htA (by omega); have cA1 := bA1.cells; have own1 := own_turnN (own_newN hown ((New.refl _).drew)) htA (fun g hg e => by have := hblk g hg; omega); have s1 : wr.heap.size ≤ v1.heap.size := htA.size))
      all_goals
        have hx3' : 1 ≤ x3 ∧ x3 ≤ 65535 := by
          simp only [List.mem_cons, List.not_mem_nil, or_false] at hx3
          rcases hx3 with rfl | rfl | rfl <;> omega
        have tABC : Turn (fun k => k = B) wr v3 := Turn.both (Turn.both (Turn.both (((New.refl wr).drew).turn (S := fun k => k = B)) htA) htB) (Turn.both (((New.refl v2).alloc (.cells #[.int .i64 (1 + y1), .int .i64 (1 + y2), .int .i64 65535] 2)).turn (S := fun k => k = B)) htC)
        have hal3 := (New.refl v3).alloc (.cells #[.int .i64 x3] 2)
        have bR3 := ((bR.turn tABC hRB).new hal3).grow hgr4 (fun e => by have := hblk _ e; omega)
        have tg : Turn (fun k => (Value.slice va m vc).ownBlock = some k) (v3.alloc (.cells #[.int .i64 x3] 2)) w4' := ⟨hgr4.os, hgr4.tape, hgr4.output, hgr4.size, fun k hk hs => hgr4.block k hk (fun e => hs e.symm)⟩
        have sc4 := (hsC.new hal3).turn tg (fun e => by have := hblk _ e; omega) (fun x hz hx e => by have := hA x hz hx; have := hblk _ e; omega)
        have T5 := Turn.here (B := w6.heap.size) (j := 1) (Turn.refl _ w4') (.slice (some ⟨g4, 0, none⟩) (m + 1) c4)
        have sc5 := sc4.turn T5 (by omega) (fun x hz hx e => by have := hA x hz hx; omega)
        have bR5 := bR3.turn T5 (by omega)
        have bA5 := bA4.set 1 (.slice (some ⟨g4, 0, none⟩) (m + 1) c4)
        simp only [List.setIfInBounds_toArray, List.set_cons_zero, List.set_cons_succ] at bA5
        have ho5 : (w4'.setCell ⟨w6.heap.size, 1, none⟩ (.slice (some ⟨g4, 0, none⟩) (m + 1) c4)).ownsRow (w6.heap.size + 1) 2 1 (.slice (some ⟨g4, 0, none⟩) (m + 1) c4) (m + 1) ((xs ++ [x3]).map (Value.int .i64)) := own_setN (by simpa using ho4) (by simp)
        have t5 : Turn (fun k => k = B) w (w4'.setCell ⟨w6.heap.size, 1, none⟩ (.slice (some ⟨g4, 0, none⟩) (m + 1) c4)) := Turn.trans (Turn.trans (Turn.both (Turn.both htn tABC) (hal3.turn (S := fun k => k = B))) tg (fun i hi e => by have := hblk _ e; omega)) T5 (fun i hi e => by omega)
        have hxs5 : ∀ x ∈ xs ++ [x3], 1 ≤ x ∧ x ≤ 65535 := by
          intro x hx
          rcases List.mem_append.1 hx with h | h
          · exact hxs x h
          · simp at h; subst h; exact hx3'
        clear ho4 hgr4 hown bA bR bA1 bA2 bA3 bA4 bR3 cA fA cA1 cA2 cA2a cA3 cA3a cA4 fA4 own1 own2 own3 hsA hsB hsC htA htB htC tABC tg sc4 T5 hal3 hx3 hd0 hsc htn
        go_wp2
        go_roundw
        case rel => exact ⟨k - 1, _, m + 1, _, xs ++ [x3], by go_num, by omega, by omega, hxs5, by omega, ho5, bR5, bA5, sc5, t5⟩
        case measure => simp [intOf]; omega
    · obtain rfl : k = 0 := by omega
      have hM : OwM wr (w6.heap.size + 1) (.slice va m vc) xs := OwM.of_own hown HML.out
      have cR := bR.cells
      have fR := bR.frees
      have lR := bR.lt
      have haf : Hid (af r1 xs r2 x4 x6 = 0) := af_of ⟨by omega, ⟨by omega, by omega⟩, ⟨by omega, by omega⟩, ⟨by omega, by omega⟩⟩ (by rw [HML.out]; omega) hxs
      clear hown
      go_wp2
      refine bodyPost_ret (v := .agg #[.int .i64 r1, .slice va m vc, .int .i64 r2, .int .i64 x4, .int .i64 x6]) (by simp [results, Try.results46, go_sem, cR]) rfl ?_
      refine (fun (hT : Turn (fun k => k = w.heap.size) wr _) => ⟨r1, r2, x4, x6, xs, va, vc, t', by rw [HML.out], haf.out, by rw [HML.out]; omega, by omega, by rw [HML.out]; exact (hM.turn hT (fun g hg e => by omega)).low (by omega), hsc.turn hT (by omega) (fun x hz hx e => by have := hA x hz hx; omega), Turn.trans htn hT (fun i hi e => by omega)⟩) ?_
      exact Turn.here (Turn.here (Turn.here (Turn.here (Turn.here (Turn.refl _ _) _) _) _) _) _

end Go.Proofs.Ytjampcfikfafkaa
