/- What is proved here: what the program's reading of no bytes at all (nil) answers. No condition. What is proved here: what is asked of a crash, as lists. No condition. -/
import Derived.Test.YtfaenhhmbdmdhaaJG3
namespace Go.Proofs.Ytfaenhhmbdmdhaa
open Go.RowKit Go.Shelf
set_option linter.unusedVariables false
set_option linter.unusedSimpArgs false
set_option maxRecDepth 100000
attribute [local go_sem] Oper.semAt_some

set_option maxHeartbeats 3200000 in
theorem implRE_nil (w : World) : Calls Try.prog 11 #[.slice none 0 0] w fun e w' => ReAns w [] e w' := by
    refine (callsIn_wide (n := 4)).1 ?_
    refine callsIn_of_wp_marks Try.func11 rfl trivial ?_ rfl
    simp only [Try.ntmps11, List.size_toArray, List.length_cons, List.length_nil, Nat.reduceAdd, Nat.reduceSub, Array.replicate_succ, Array.replicate_zero, List.push_toArray, List.append_toArray, List.nil_append, List.cons_append]
    gi_wp2_with (refine ⟨trivial, ?_⟩; gi_at_call 40; refine (callsIn_wide.2 (entries_in none 0 0 _)).mono ?_; rintro e w' ⟨rfl, rfl⟩)
    have hB0 : Below w.heap.size w (((w.alloc (.cells #[.int .i64 0, .int .i64 0, .slice none 0 0] 33)).alloc (.cells #[.int .i64 0, .int .i64 0, .slice none 0 0] 33)).alloc (.cells #[.slice none 0 0] 22)) := (((Below.refl _ w).alloc (Nat.le_refl _) _).alloc (by simp) _).alloc (by simp; omega) _
    have bR := ((Blk.mk w w.heap.size 33 #[.int .i64 0, .int .i64 0, .slice none 0 0] rfl).alloc (.cells #[.int .i64 0, .int .i64 0, .slice none 0 0] 33)).alloc (.cells #[.slice none 0 0] 22)
    have bG := (Blk.mk (w.alloc (.cells #[.int .i64 0, .int .i64 0, .slice none 0 0] 33)) (w.heap.size + 1) 33 #[.int .i64 0, .int .i64 0, .slice none 0 0] (by simp)).alloc (.cells #[.slice none 0 0] 22)
    have bN := Blk.mk ((w.alloc (.cells #[.int .i64 0, .int .i64 0, .slice none 0 0] 33)).alloc (.cells #[.int .i64 0, .int .i64 0, .slice none 0 0] 33)) (w.heap.size + 2) 22 #[.slice none 0 0] (by simp)
    have hL : (((w.alloc (.cells #[.int .i64 0, .int .i64 0, .slice none 0 0] 33)).alloc (.cells #[.int .i64 0, .int .i64 0, .slice none 0 0] 33)).alloc (.cells #[.slice none 0 0] 22)).heap.size = w.heap.size + 3 := by simp
    generalize (((w.alloc (.cells #[.int .i64 0, .int .i64 0, .slice none 0 0] 33)).alloc (.cells #[.int .i64 0, .int .i64 0, .slice none 0 0] 33)).alloc (.cells #[.slice none 0 0] 22)) = w1 at *
    refine wpIn_rangeFunc_ownH rfl (by omega) (gf := 61) (lb := #[.pointer (some ⟨w.heap.size + 1 + 1, 0, none⟩)]) rfl trivial (enters_of Try.func61 (by kernel_rfl) rfl)
      (entries_stops (w.heap.size + 2) w.heap.size none 0 0 [] w1 rfl (Nat.le_refl _) (by omega) (.inl ⟨rfl, rfl, rfl⟩) (by omega) bN (BsAt.nil _ _)) Kp10.trans (kp10_b (by omega) (by omega)) (Below.refl _ _) (fun _ => rfl)
      (fun pre W => RiIn w W (.slice none 0 0) [] (pre.map EI.t) (eEnd pre))
      (fun _ _ _ => False)
      (fun s A B row hs hg hr => hs.turn hg hr (by omega))
      (fun _ _ _ _ _ hs _ _ => hs)
      ⟨bN, ⟨.slice none 0 0, [], bG, rfl, ⟨rfl, .inl ⟨rfl, rfl⟩⟩, EvOwn.nil _ _ _⟩, bR, hB0⟩
      (fun x a' W => ∃ Bx, w.heap.size + 2 < Bx ∧ Blk W Bx 40 x.cs ∧ (∃ vv, W.cell? ⟨w.heap.size + 1, 2, none⟩ = some vv ∧ ∀ k, vv.ownBlock = some k → k < Bx) ∧ a' = { tmps := #[.slice none 0 0, undef, .pointer (some ⟨w.heap.size, 0, none⟩), .pointer (some ⟨w.heap.size + 1, 0, none⟩), .int .i64 ((x.t : Int) + (eSz ([].drop x.t) : Int)), .pointer (some ⟨Bx, 0, none⟩), .slice none 0 0, .int .i64 0, .bool false, undef, .slice none 0 0, .func (.func 61) #[] #[.pointer (some ⟨w.heap.size + 1 + 1, 0, none⟩)], .int .i64 ((x.t : Int) + (eSz ([].drop x.t) : Int)), .agg x.cs, undef, undef, undef, undef, undef, undef, undef, undef, undef, undef], defers := [] })
      (fun x a' _ X Y row hs hg hr => by obtain ⟨Bx, h1, h2, ⟨vv, hv1, hv2⟩, h3⟩ := hs; exact ⟨Bx, h1, h2.turn (turn_of_grown hg) (cells_ne (fun r e => (hr r e).2) h2), ⟨vv, cell_kept hv1 hg (fun r e => (hr r e).2), hv2⟩, h3⟩)
      ?assign ?body ?done ?stop
    case assign =>
      rintro l pre x W K hI hK
      exact absurd x.pos (by rw [List.drop_nil, eSz_nil]; omega)
    case body =>
      rintro l pre x a' W hl hr hI hx hlen
      exact absurd x.pos (by rw [List.drop_nil, eSz_nil]; omega)
    case done =>
      rintro D ts W hD ⟨t, hcm, h0⟩ hI hK
      obtain ⟨hbox, ⟨v, V, hG, hV, hrow, hown⟩, hres, hbel⟩ := hI
      obtain ⟨y, dd, rfl, hny, hby⟩ := row9_form hrow
      rw [come_end hcm] at hG
      have hall := hcm.all h0
      have cG := hG.cells
      have cR := hres.cells
      have fR := hres.frees
      have lD : D < W.heap.size := (Array.getElem?_eq_some_iff.1 hK).1
      have lb := hbox.lt
      gi_wp2
      have t3 : Turn (fun i => i = w.heap.size) W (((W.setCell ⟨w.heap.size, 0, none⟩ (.int .i64 0)).setCell ⟨w.heap.size, 1, none⟩ (.int .i64 (t : Int))).setCell ⟨w.heap.size, 2, none⟩ (.slice y V.length dd)) := Turn.set (S := fun i => i = w.heap.size) (Turn.set (S := fun i => i = w.heap.size) (Turn.set (S := fun i => i = w.heap.size) (Turn.refl _ _) rfl _) rfl _) rfl _
      have hK3 := (t3.block D lD (by omega)).trans hK
      have b1 : Blk (W.setCell ⟨w.heap.size, 0, none⟩ (.int .i64 0)) w.heap.size 33 #[.int .i64 0, .int .i64 0, .slice none 0 0] := hres.set 0 _
      have b2 : Blk _ w.heap.size 33 #[.int .i64 0, .int .i64 (t : Int), .slice none 0 0] := b1.set 1 (.int .i64 (t : Int))
      have b3 : Blk _ w.heap.size 33 #[.int .i64 0, .int .i64 (t : Int), .slice y V.length dd] := b2.set 2 (.slice y V.length dd)
      generalize ((W.setCell ⟨w.heap.size, 0, none⟩ (.int .i64 0)).setCell ⟨w.heap.size, 1, none⟩ (.int .i64 (t : Int))).setCell ⟨w.heap.size, 2, none⟩ (.slice y V.length dd) = W3 at *
      have tp := turn_of_grown (grownBy_putObj' W3 D (.deferred none))
      have b4 := b3.turn tp (by intro e; have := Option.some.inj e; omega)
      have cF := b4.cells
      have tF : Turn (fun i => i = w.heap.size ∨ i = D) W (W3.putObj D (.deferred none)) := Turn.trans (t3.mono (fun _ _ h => .inl h)) tp (fun _ _ h => .inr (Option.some.inj h).symm)
      refine ⟨by simp, .inl ⟨_, _, rfl, run_takeDeferred hK3, ?_⟩⟩
      refine ⟨.agg #[.int .i64 0, .int .i64 (t : Int), .slice y V.length dd], by simp [results, Try.results11, go_sem, cF], ?_⟩
      show ReAns w [] _ _
      unfold ReAns
      rw [if_neg (by simp), hall.2]
      have hnD : ∀ k cs e f, W.heap[k]? = some (.cells cs e f) → ¬ k = D := by
        rintro k cs e f hk rfl
        rw [hK] at hk
        cases hk
      refine ⟨y, V.length, dd, V, rfl, rfl, ⟨?_, ?_, ?_, ?_⟩, hV.trans hall.1⟩
      · rw [hV]; exact hcm
      · exact row9_low (row9_turn hrow tF (by rintro k hk (e | e); (have := (hby k hk).1; omega); (obtain ⟨cs, hc'⟩ := row_cells hrow hk; exact hnD _ _ _ _ hc' e))) (by omega)
      · exact (hown.turn tF (by rintro z hz k hk (e | e); (obtain ⟨_, _, _, _, hb'⟩ := row9_form (hown.own z hz); have := (hb' k hk).1; omega); (obtain ⟨cs, hc'⟩ := row_cells (hown.own z hz) hk; exact hnD _ _ _ _ hc' e))).low (by omega)
      · exact New.of_below (hbel.trans ⟨tF.os, tF.tape, tF.output, tF.size, fun k hk => tF.block k (by have := hbel.size; omega) (by rintro (e | e) <;> omega)⟩) (Nat.le_refl _)
    case stop =>
      rintro D c pre W _ _ h _
      exact h.elim

end Go.Proofs.Ytfaenhhmbdmdhaa

namespace Go.Proofs.Ytfaenhhmbdmdhaa
open Go.RowKit Go.Sort
set_option linter.unusedVariables false

theorem cr_bd {us vs us' vs' : List Int} {kp z ct : Int} (h : (z, ct, us', vs') = crA us vs kp) (h1 : ∀ z ∈ us, 0 ≤ z ∧ z ≤ 255) (h2 : ∀ z ∈ vs, 0 ≤ z ∧ z ≤ 255) : (∀ z ∈ us', 0 ≤ z ∧ z ≤ 255) ∧ (∀ z ∈ vs', 0 ≤ z ∧ z ≤ 255) := by
  unfold crA at h
  split at h
  · split at h
    · simp only [Prod.mk.injEq] at h
      obtain ⟨-, -, rfl, rfl⟩ := h
      exact ⟨(by intro z hz; cases hz), (by intro z hz; cases hz)⟩
    · simp only [Prod.mk.injEq] at h
      obtain ⟨-, -, rfl, rfl⟩ := h
      refine ⟨fun z hz => ?_, (by intro z hz; cases hz)⟩
      rcases List.mem_append.1 (List.mem_of_mem_take hz) with hz | hz
      · exact h1 z hz
      · exact h2 z (List.mem_of_mem_take hz)
  · simp only [Prod.mk.injEq] at h
    obtain ⟨-, -, rfl, rfl⟩ := h
    exact ⟨(by intro z hz; cases hz), (by intro z hz; cases hz)⟩

/-- A crash without a code. -/
theorem cr_zero {us vs us' vs' : List Int} {kp ct : Int} (h : ((0 : Int), ct, us', vs') = crA us vs kp) :
    vs' = [] ∧ jF us' [] = 0 ∧ us.length ≤ us'.length ∧ us'.length ≤ us.length + vs.length ∧ us.length + vs.length ≤ 6000 ∧ us' = (us ++ vs).take us'.length ∧ ((eAts us' 0).length : Int) = ct ∧ (∃ c2, ((0 : Int), c2, us ++ vs, ([] : List Int)) = syA us vs) ∧ ∃ Q, ((0 : Int), ct, us, Q) = cuA us vs ct ∧ us ++ Q = us' := by
  unfold crA at h
  split at h
  · rename_i hf
    obtain ⟨hl, e1, e2⟩ := jF_zero hf
    split at h
    · simp at h
    · rename_i hk
      simp only [Prod.mk.injEq, true_and] at h
      obtain ⟨hct, hus, rfl⟩ := h
      have w1 := wh_whole e1
      have w2 := wh_whole e2
      obtain ⟨n, d, hn, hd, hw, hdl, hna, et1, et2⟩ := crash_facts w1 w2 (t := kp.toNat) (by omega)
      have hh : eHd (us ++ vs.take kp.toNat) = us ++ vs.take d := hd
      rw [hh] at hus hct
      subst hus
      have hc := hw.cnt.1
      have hct' : ct = (n : Int) := by
        rw [hct]
        show ((eAts (us ++ vs.take d) 0).length : Int) + ((eAts [] 0).length : Int) = n
        rw [hc, (Wh.nil).cnt.1]
        simp
      have hlen : (us ++ vs.take d).length = us.length + d := by simp; omega
      have hcu : ((0 : Int), (n : Int), us, vs.take d) = cuA us vs n := by
        have hx : cuA us vs (n : Int) = (0, eCnt (eFi us n) + eCnt (eFi vs ((n : Int) - eCnt us)), eFi us n, eFi vs ((n : Int) - eCnt us)) := by
          unfold cuA
          rw [if_pos hf, if_neg (by unfold eCnt; omega)]
        have f1 : eFi us (n : Int) = us := by unfold eFi; rw [show ((n : Int)).toNat = n by omega, et1, List.take_length]
        have f2 : eFi vs ((n : Int) - eCnt us) = vs.take d := by unfold eFi eCnt; rw [show ((n : Int) - ((eAts us 0).length : Int)).toNat = n - (eAts us 0).length by omega, et2]
        rw [f1, f2] at hx
        have hz := cu_zero (us := us) (vs := vs) (kp := (n : Int)) hx.symm
        rw [hx, hz.1]
      refine ⟨rfl, jF_wh hw .nil (by rw [hlen]; simp; omega), by rw [hlen]; omega, by rw [hlen]; omega, hl, ?_, by rw [hc, hct'], ?_, ⟨vs.take d, by rw [hct']; exact hcu, rfl⟩⟩
      · rw [hlen, List.take_append, List.take_of_length_le (l := us) (by omega), show us.length + d - us.length = d by omega]
      · exact ⟨_, by unfold syA; rw [if_pos hf]⟩
  · rename_i hf
    simp only [Prod.mk.injEq] at h
    exact absurd h.1.symm hf

/-- What is read of a list that may be nil. -/
theorem implREs (A : Option Addr) (n c : Nat) (zs : List Int) (w : World) (h : BsAt w A zs) (hs : Sl10 w A n c) (hn : zs.length = n) (hc : n ≤ c) (hm : n ≤ 1048576) :
    Calls Try.prog 11 #[.slice A n c] w fun e w' => ReAns w zs e w' := by
  rcases hs with ⟨rfl, rfl, rfl⟩ | ⟨b, off, rfl, hb⟩
  · obtain rfl := List.eq_nil_of_length_eq_zero hn
    exact implRE_nil w
  · exact implRE b off n c zs w h hb hn hc hm

end Go.Proofs.Ytfaenhhmbdmdhaa
