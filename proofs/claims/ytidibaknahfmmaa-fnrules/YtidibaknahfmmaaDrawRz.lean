/- What is proved here: what the drawing of a list of rules answers. -/
import Derived.Test.YtidibaknahfmmaaDrawRl
namespace Go.Proofs.Ytidibaknahfmmaa
open Go.RowKit Go.Sort
set_option linter.unusedVariables false

theorem Turn.grow6 {S : Nat → Prop} {a w w' : World} {row : Option Nat} (h : Turn S a w) (hg : w.grownBy w' row) (hr : ∀ k, row = some k → a.heap.size ≤ k) : Turn S a w' :=
  ⟨hg.os.trans h.os, hg.tape.trans h.tape, hg.output.trans h.output, Nat.le_trans h.size hg.size,
    fun k hk hs => (hg.block k (Nat.lt_of_lt_of_le hk h.size) (fun e => by have := hr k e.symm; omega)).trans (h.block k hk hs)⟩
theorem Turn.of_grow6 {w w' : World} {row : Option Nat} (hg : w.grownBy w' row) : Turn (fun k => row = some k) w w' := ⟨hg.os, hg.tape, hg.output, hg.size, fun k hk hs => hg.block k hk (fun e => hs e.symm)⟩
theorem OvR.blk {w : World} {lo : Nat} {v : Value} {rs : List Ru} (h : OvR w lo v rs) : ∀ k, v.ownBlock = some k → lo ≤ k := by
  intro k hk
  rcases h.form with ⟨rfl, _⟩ | ⟨g, c, rfl, hg, _⟩
  · simp [Value.ownBlock] at hk
  · simp [Value.ownBlock] at hk
    omega
theorem Try.infoRuD : (Try.prog.info? 40).map (fun i => (i.zero, i.size, i.bytes)) = some (some (.agg #[.int .i64 0, .int .i64 0, .int .i64 0, .int .i64 0, .int .i64 0, .bool false, .int .i64 0, .int .i64 0]), 8, 64) := by kernel_rfl

set_option maxHeartbeats 6400000 in
theorem l6Rules_sc {B n c t : Nat} {a : Option Addr} {zs : List Int} {w : World} (h : Sc w B a n c zs t) (ht : t ≤ 30000) : Calls Try.prog 19 #[.pointer (some ⟨B, 0, none⟩)] w fun e w' => ∃ (y : Option Addr) (rn rk : Nat) (rs : List Ru) (t' : Nat), e = .returned (.slice y rn rk) ∧ OvR w' w.heap.size (.slice y rn rk) rs ∧ rs.length = rn ∧ rn ≤ 9 ∧ t' ≤ t + 400 ∧ Sc w' B a n c zs t' ∧ Turn (fun k => k = B) w w' := by
  obtain ⟨i0, hi, hz0, hz1, hz2⟩ := info_parts Try.infoRuD
  have hlt := h.blk.lt
  have hA := h.lt_of
  have N0 : New w (w.alloc (.cells #[] 40)) := (New.refl w).alloc _
  have b0 := Blk.mk w w.heap.size 40 #[] rfl
  have ov0 : OvR (w.alloc (.cells #[] 40)) w.heap.size (.slice (some ⟨w.heap.size, 0, none⟩) 0 0) [] := ⟨rfl, .inr ⟨w.heap.size, 0, #[], rfl, Nat.le_refl _, b0, Nat.le_refl _, by unfold maxLen; omega, rfl, rfl⟩⟩
  have hs0 := h.new N0
  have tT0 : Turn (fun k => k = B) w (w.alloc (.cells #[] 40)) := N0.turn
  have hOB : ∀ k W, w.heap.size ≤ k → k < W → ¬ k = B := fun k W h1 _ e => by omega
  replace hOB : ∀ {W : Nat} (k : Nat), w.heap.size ≤ k → k < W → ¬ k = B := fun k h1 _ e => by omega
  go_enter Try.func19, Try.ntmps19
  go_wp2_with fail
  refine (next_sc hs0 4 (by omega) (by omega)).mono ?_
  rintro e w1 ⟨y, rfl, ⟨py, qy, -⟩, hs1, tn1⟩
  have qy := qy (by omega)
  have ov1 := ov0.turn tn1 hOB
  have tT1 := Turn.both tT0 tn1
  clear ov0 tT0 tn1 hs0 b0 N0
  obtain ⟨k0, rfl⟩ : ∃ k0 : Nat, y = k0 := ⟨y.toNat, by omega⟩
  go_wp2
  go_loopw [3, 4] (fun u i wr => ∃ (k t' : Nat) (rs : List Ru) (g cc : Nat), u = .slice (some ⟨g, 0, none⟩) rs.length cc ∧ i = .int .i64 (k : Int) ∧ k ≤ 3 ∧ rs.length + k ≤ 3 ∧ t' + 40 * k ≤ t + 125 ∧ OvR wr w.heap.size (.slice (some ⟨g, 0, none⟩) rs.length cc) rs ∧ Sc wr B a n c zs t' ∧ Turn (fun k => k = B) w wr) (fun _ i _ => (intOf i).toNat)
  case atStart => exact ⟨k0, _, [], w.heap.size, 0, rfl, rfl, by omega, by simp; omega, by omega, ov1, hs1, tT1⟩
  case round =>
    clear ov1 hs1 tT1
    obtain ⟨k, t1, rs, g, cc, rfl, rfl, hk, hmk, ht1, ov, hsc, tT⟩ := hrel
    generalize hml : rs.length = m at *
    have HM : Hid (rs.length = m) := hml
    have hm3 : m + k ≤ 3 := hmk
    clear hml
    by_cases hk0 : 0 < k
    · go_wp2_with fail
      refine (l6Rule_sc hsc (by omega)).mono ?_
      rintro e w2 ⟨x, l, ls, ms, s, d, lc, pp, t2, rfl, ht2, hs2, tn2⟩
      have ov2 := ov.turn tn2 hOB
      have tT2 := Turn.both tT tn2
      have hal : New w2 (w2.alloc (.cells #[.int .i64 x, .int .i64 l, .int .i64 ls, .int .i64 ms, .int .i64 s, .bool d, .int .i64 lc, .int .i64 pp] 40)) := (New.refl _).alloc _
      have bL : Blk (w2.alloc (.cells #[.int .i64 x, .int .i64 l, .int .i64 ls, .int .i64 ms, .int .i64 s, .bool d, .int .i64 lc, .int .i64 pp] 40)) w2.heap.size 40 #[.int .i64 x, .int .i64 l, .int .i64 ls, .int .i64 ms, .int .i64 s, .bool d, .int .i64 lc, .int .i64 pp] := Blk.mk _ _ _ _ rfl
      have cL : ∀ j, (w2.alloc (.cells #[.int .i64 x, .int .i64 l, .int .i64 ls, .int .i64 ms, .int .i64 s, .bool d, .int .i64 lc, .int .i64 pp] 40)).cell? ⟨w2.heap.size, j, none⟩ = (Ru.mk x l ls ms s d lc pp).cs[j]? := fun j => (bL.cells j).trans (by simp [Ru.cs])
      have ov3 := ov2.turn hal (fun _ _ _ f => f)
      have s2 := (Turn.andNew tT2 hal).size
      go_wp2_with (at_builtin; refine wpList_apR _ rfl (.tmp 12) (.tmp 15) rfl w.heap.size (.agg #[.int .i64 0, .int .i64 0, .int .i64 0, .int .i64 0, .int .i64 0, .bool false, .int .i64 0, .int .i64 0]) Try.underlying24 hi hz0 hz1 hz2 rfl (.slice (some ⟨g, 0, none⟩) m cc) rs rfl ov3 w2.heap.size ⟨x, l, ls, ms, s, d, lc, pp⟩ rfl cL (by rw [HM.out]; omega) s2 ?_)
      intro v3 w3 ho3 hg3 _
      have ov4 : OvR w3 w.heap.size v3 (rs ++ [⟨x, l, ls, ms, s, d, lc, pp⟩]) := by simpa [OvR] using ho3
      obtain ⟨g4, c4, rfl⟩ : ∃ g4 c4, v3 = .slice (some ⟨g4, 0, none⟩) (rs ++ [(⟨x, l, ls, ms, s, d, lc, pp⟩ : Ru)]).length c4 := by
        rcases ov4.form with ⟨_, e0⟩ | ⟨g4, c4, e1, _⟩
        · simp at e0
        · exact ⟨g4, c4, e1⟩
      have tT4 := Turn.grow6 (Turn.andNew tT2 hal) hg3 (fun k hk => ov3.blk k hk)
      have hs4 := (hs2.new hal).turn (Turn.of_grow6 hg3) (fun e => by have := ov3.blk _ e; omega) (fun x h1 h2 e => by have := hA x h1 h2; have := ov3.blk _ e; omega)
      have hlen : (rs ++ [(⟨x, l, ls, ms, s, d, lc, pp⟩ : Ru)]).length = m + 1 := by simp [HM.out]
      have hlen2 : (rs ++ [(⟨x, l, ls, ms, s, d, lc, pp⟩ : Ru)]).length + (k - 1) ≤ 3 := by rw [hlen]; omega
      clear ov ov2 ov3 ho3 hg3 tT tT2 hal bL cL hs2 tn2 hsc
      go_wp2
      go_roundw
      case rel => exact ⟨k - 1, _, rs ++ [⟨x, l, ls, ms, s, d, lc, pp⟩], g4, c4, by first | rfl | simp, by go_num, by omega, hlen2, by omega, ov4, hs4, tT4⟩
      case measure => simp [intOf]; omega
    · obtain rfl : k = 0 := by omega
      have hm3' : m ≤ 3 := by omega
      have ov0 := ov
      by_cases hm0 : m = 0
      · subst hm0
        generalize wr = w4 at *
        have hs4 := hsc
        have ov4 := ov0
        have tT4 := tT
        go_wp2_with fail
        refine (chance_sc hs4 40 (by omega) (by omega)).mono ?_
        rintro e w5 ⟨r2, rfl, hs5, tn5⟩
        have ov5 := ov4.turn tn5 hOB
        have tT5 := Turn.both tT4 tn5
        cases r2
        · go_wp2
          go_ret
          exact ⟨_, _, _, rs, _, rfl, ov5, HM.out, by omega, by omega, hs5, tT5⟩
        · go_wp2_with (at_make; refine wpList_make_full _ rfl _ _ 24 rfl w5.heap.size 40 i0 (.agg #[.int .i64 0, .int .i64 0, .int .i64 0, .int .i64 0, .int .i64 0, .bool false, .int .i64 0, .int .i64 0]) 8 Try.underlying24 hi hz0 hz1 _ _ _ _ 9 rfl rfl rfl rfl ?b2 ?b3 (Nat.le_refl _) ?_)
          case b2 => rw [hz2]; omega
          case b3 => unfold maxLen; omega
          intro w20 hown hgrow
          have tg : New w5 w20 := New.of_grown hgrow
          have ow : OwR w20 w5.heap.size 9 9 (List.replicate 9 ru0) := by
            have := own_base hown
            have e8 := made_ru 9
            simp only [OwR]
            rw [← e8]
            exact this
          have ov20 : OvR w20 w.heap.size (.slice (some ⟨w5.heap.size, 0, none⟩) 9 9) (List.replicate 9 ru0) := OvR.of (rs := List.replicate 9 ru0) ow tT5.size
          have hs20 := hs5.new tg
          have tT20 := Turn.andNew tT5 tg
          go_wp2
          go_ret
          exact ⟨_, _, _, List.replicate 9 ru0, _, rfl, ov20, rfl, by omega, by omega, hs20, tT20⟩
      · have hpos : 0 < m := by omega
        go_wp2_with fail
        refine (chance_sc hsc 12 (by omega) (by omega)).mono ?_
        rintro e w5 ⟨r1, rfl, hs5, tn5⟩
        have ov5 := ov.turn tn5 hOB
        have tT5 := Turn.both tT tn5
        cases r1
        · go_wp2_with fail
          refine (chance_sc hs5 40 (by omega) (by omega)).mono ?_
          rintro e w6 ⟨r2, rfl, hs6, tn6⟩
          have ov6 := ov5.turn tn6 hOB
          have tT6 := Turn.both tT5 tn6
          cases r2
          · go_wp2
            go_ret
            exact ⟨_, _, _, rs, _, rfl, ov6, HM.out, by omega, by omega, hs6, tT6⟩
          · go_wp2_with (at_make; refine wpList_make_full _ rfl _ _ 24 rfl w6.heap.size 40 i0 (.agg #[.int .i64 0, .int .i64 0, .int .i64 0, .int .i64 0, .int .i64 0, .bool false, .int .i64 0, .int .i64 0]) 8 Try.underlying24 hi hz0 hz1 _ _ _ _ 9 rfl rfl rfl rfl ?b2 ?b3 (Nat.le_refl _) ?_)
            case b2 => rw [hz2]; omega
            case b3 => unfold maxLen; omega
            intro w20 hown hgrow
            have tg : New w6 w20 := New.of_grown hgrow
            have ow : OwR w20 w6.heap.size 9 9 (List.replicate 9 ru0) := by
              have := own_base hown
              have e8 := made_ru 9
              simp only [OwR]
              rw [← e8]
              exact this
            have ov20 : OvR w20 w.heap.size (.slice (some ⟨w6.heap.size, 0, none⟩) 9 9) (List.replicate 9 ru0) := OvR.of (rs := List.replicate 9 ru0) ow tT6.size
            have hs20 := hs6.new tg
            have tT20 := Turn.andNew tT6 tg
            go_wp2
            go_ret
            exact ⟨_, _, _, List.replicate 9 ru0, _, rfl, ov20, rfl, by omega, by omega, hs20, tT20⟩
        · go_wp2_with fail
          refine (l6Bent_sc hs5 (by omega)).mono ?_
          rintro e w6 ⟨x, l, ls, ms, s, d, lc, pp, t6, rfl, ht6, hs6, tn6⟩
          have ov6 := ov5.turn tn6 hOB
          have tT6 := Turn.both tT5 tn6
          have ow6 : OwR w6 g m cc rs := by
            rcases ov6.form with ⟨e0, _⟩ | ⟨g', c', e1, _, _, hh⟩
            · cases e0
            · have e2 : g = g' ∧ cc = c' := by simpa [HM.out] using e1
              obtain ⟨rfl, rfl⟩ := e2
              rw [HM.out] at hh
              exact hh
          have hg0 : w.heap.size ≤ g := ov6.blk g rfl
          have hput := ow6.put 0 x l ls ms s d lc pp
          have f0 := fun j => World.ownsRow.frozenAt ow6 j
          obtain ⟨v0, c0⟩ := ow6.cell 0 (by omega)
          obtain ⟨v1, c1⟩ := ow6.cell 1 (by omega)
          obtain ⟨v2, c2⟩ := ow6.cell 2 (by omega)
          obtain ⟨v3, c3⟩ := ow6.cell 3 (by omega)
          obtain ⟨v4, c4⟩ := ow6.cell 4 (by omega)
          obtain ⟨v5, c5⟩ := ow6.cell 5 (by omega)
          obtain ⟨v6, c6⟩ := ow6.cell 6 (by omega)
          obtain ⟨v7, c7⟩ := ow6.cell 7 (by omega)
          simp only [Nat.zero_mul, Nat.zero_add] at hput
          go_upto_region 8 with fail
          have hT7 : Turn (fun k => k = g) w6 ((((((((w6.setCell ⟨g, 0, none⟩ (.int .i64 x)).setCell ⟨g, 1, none⟩ (.int .i64 l)).setCell ⟨g, 2, none⟩ (.int .i64 ls)).setCell ⟨g, 3, none⟩ (.int .i64 ms)).setCell ⟨g, 4, none⟩ (.int .i64 s)).setCell ⟨g, 5, none⟩ (.bool d)).setCell ⟨g, 6, none⟩ (.int .i64 lc)).setCell ⟨g, 7, none⟩ (.int .i64 pp)) := Turn.hereD (Turn.hereD (Turn.hereD (Turn.hereD (Turn.hereD (Turn.hereD (Turn.hereD (Turn.hereD (Turn.refl _ _) _) _) _) _) _) _) _) _
          have ov7 : OvR ((((((((w6.setCell ⟨g, 0, none⟩ (.int .i64 x)).setCell ⟨g, 1, none⟩ (.int .i64 l)).setCell ⟨g, 2, none⟩ (.int .i64 ls)).setCell ⟨g, 3, none⟩ (.int .i64 ms)).setCell ⟨g, 4, none⟩ (.int .i64 s)).setCell ⟨g, 5, none⟩ (.bool d)).setCell ⟨g, 6, none⟩ (.int .i64 lc)).setCell ⟨g, 7, none⟩ (.int .i64 pp)) w.heap.size (.slice (some ⟨g, 0, none⟩) m cc) (rs.set 0 ⟨x, l, ls, ms, s, d, lc, pp⟩) := by
            have h9 : (rs.set 0 (⟨x, l, ls, ms, s, d, lc, pp⟩ : Ru)).length = m := by simp [HM.out]
            rw [← h9] at hput ⊢
            exact OvR.of hput hg0
          have hs7 := hs6.turn hT7 (by omega) (fun x h1 h2 e => by have := hA x h1 h2; omega)
          have tT7 := Turn.trans tT6 hT7 (fun i hi e => by omega)
          have HM7 : Hid ((rs.set 0 (⟨x, l, ls, ms, s, d, lc, pp⟩ : Ru)).length = m) := by unfold Hid; simp [HM.out]
          clear ov5 ov6 tT5 tT6 tn6 hs6 hs5 ow6 hput f0 c0 c1 c2 c3 c4 c5 c6 c7 hT7 ov ov0 tT hsc tn5
          generalize ((((((((w6.setCell ⟨g, 0, none⟩ (.int .i64 x)).setCell ⟨g, 1, none⟩ (.int .i64 l)).setCell ⟨g, 2, none⟩ (.int .i64 ls)).setCell ⟨g, 3, none⟩ (.int .i64 ms)).setCell ⟨g, 4, none⟩ (.int .i64 s)).setCell ⟨g, 5, none⟩ (.bool d)).setCell ⟨g, 6, none⟩ (.int .i64 lc)).setCell ⟨g, 7, none⟩ (.int .i64 pp)) = w7 at *
          generalize rs.set 0 (⟨x, l, ls, ms, s, d, lc, pp⟩ : Ru) = qs at *
          go_wp2_with fail
          refine (chance_sc hs7 40 (by omega) (by omega)).mono ?_
          rintro e w8 ⟨r2, rfl, hs8, tn8⟩
          have ov8 := ov7.turn tn8 hOB
          have tT8 := Turn.both tT7 tn8
          cases r2
          · go_wp2
            go_ret
            exact ⟨_, _, _, qs, _, rfl, ov8, HM7.out, by omega, by omega, hs8, tT8⟩
          · go_wp2_with (at_make; refine wpList_make_full _ rfl _ _ 24 rfl w8.heap.size 40 i0 (.agg #[.int .i64 0, .int .i64 0, .int .i64 0, .int .i64 0, .int .i64 0, .bool false, .int .i64 0, .int .i64 0]) 8 Try.underlying24 hi hz0 hz1 _ _ _ _ 9 rfl rfl rfl rfl ?b2 ?b3 (Nat.le_refl _) ?_)
            case b2 => rw [hz2]; omega
            case b3 => unfold maxLen; omega
            intro w20 hown hgrow
            have tg : New w8 w20 := New.of_grown hgrow
            have ow : OwR w20 w8.heap.size 9 9 (List.replicate 9 ru0) := by
              have := own_base hown
              have e8 := made_ru 9
              simp only [OwR]
              rw [← e8]
              exact this
            have ov20 : OvR w20 w.heap.size (.slice (some ⟨w8.heap.size, 0, none⟩) 9 9) (List.replicate 9 ru0) := OvR.of (rs := List.replicate 9 ru0) ow tT8.size
            have hs20 := hs8.new tg
            have tT20 := Turn.andNew tT8 tg
            go_wp2
            go_ret
            exact ⟨_, _, _, List.replicate 9 ru0, _, rfl, ov20, rfl, by omega, by omega, hs20, tT20⟩

end Go.Proofs.Ytidibaknahfmmaa
