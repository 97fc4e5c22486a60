/- What is proved here: what the model answers of journals whose lists may be nil. -/
import Derived.Test.YtdkjgjjkjfeodaaE10Ax
namespace Go.Proofs.Ytdkjgjjkjfeodaa
open Go.RowKit
set_option linter.unusedVariables false
set_option linter.unusedSimpArgs false
set_option maxRecDepth 100000

/-- A list of bytes: nil, or one that lies somewhere. -/
def Nl (a : Option Addr) (n c : Nat) : Prop := (a = none ∧ n = 0 ∧ c = 0) ∨ ∃ b off, a = some ⟨b, off, none⟩
theorem Nl.no {a : Option Addr} {n c : Nat} (h : Nl a n c) : a = none → n = 0 ∧ c = 0 := by
  intro e
  rcases h with ⟨-, h⟩ | ⟨b, off, h⟩
  · exact h
  · rw [e] at h; cases h

set_option maxHeartbeats 1600000 in
theorem specJFn (A1 A2 : Option Addr) (n c m d : Nat) (zs ys : List Int) (w : World) (h : BsAt w A1 zs) (k : BsAt w A2 ys) (hb : Nl A1 n c) (hb2 : Nl A2 m d) (hn : zs.length = n) (hm : ys.length = m) (hc : n ≤ c) (hd : m ≤ d) (hn1 : n ≤ 1048576) (hm1 : m ≤ 1048576) :
    Calls Try.prog 36 #[.agg #[.slice A1 n c, .slice A2 m d]] w fun e w' => e = .returned (.int .i64 (jF zs ys)) ∧ New w w' := by
  have hw := (New.refl w).alloc (.cells #[.slice A1 n c, .slice A2 m d] 25)
  have b0 := Blk.mk w w.heap.size 25 #[.slice A1 n c, .slice A2 m d] rfl
  by_cases hbig : 6000 < n + m
  · have hf : Hid (jF zs ys = 2) := by unfold jF Hid; rw [hn, hm, if_pos hbig]
    have hbi : (6000 : Int) < (n : Int) + (m : Int) := by omega
    go_enter Try.func36, Try.ntmps36
    go_wp2
    go_ret
    exact ⟨ret_i64 hf.out.symm, hw⟩
  · have hbi : ¬ (6000 : Int) < (n : Int) + (m : Int) := by omega
    have hu := eUse_le zs zs.length 0 (by omega) (by omega)
    have hu2 := eUse_le ys ys.length 0 (by omega) (by omega)
    rw [hn] at hu
    rw [hm] at hu2
    go_enter Try.func36, Try.ntmps36
    go_wp2_with fail
    refine (specCount A1 n c zs _ (h.new hw) hb hn hc hn1).mono ?_
    rintro e w1 ⟨yy, kk, dd, rfl, -, hR⟩
    have n1 := hw.trans hR
    have b1 := b0.new hR
    have c1 := b1.cells
    clear hR
    by_cases h1 : eUse zs 0 < n
    · have hf : Hid (jF zs ys = 5) := by unfold jF Hid; rw [hn, hm, if_neg hbig, if_pos h1]
      have h1' : (((eUse zs 0 : Nat) : Int) != (n : Int)) = true := by simp; omega
      go_wp2
      go_ret
      exact ⟨ret_i64 hf.out.symm, n1⟩
    · have h1' : (((eUse zs 0 : Nat) : Int) != (n : Int)) = false := by simp; omega
      go_wp2_with fail
      refine (specCount A2 m d ys _ (k.new n1) hb2 hm hd hm1).mono ?_
      rintro e w2 ⟨yy2, kk2, dd2, rfl, -, hR2⟩
      have n2 := n1.trans hR2
      have b2' := b1.new hR2
      have c2 := b2'.cells
      clear hR2
      by_cases h2 : eUse ys 0 < m
      · have hf : Hid (jF zs ys = 5) := by unfold jF Hid; rw [hn, hm, if_neg hbig, if_neg h1, if_pos h2]
        have h2' : (((eUse ys 0 : Nat) : Int) != (m : Int)) = true := by simp; omega
        go_wp2
        go_ret
        exact ⟨ret_i64 hf.out.symm, n2⟩
      · have hf : Hid (jF zs ys = 0) := by unfold jF Hid; rw [hn, hm, if_neg hbig, if_neg h1, if_neg h2]
        have h2' : (((eUse ys 0 : Nat) : Int) != (m : Int)) = false := by simp; omega
        go_wp2
        go_ret
        exact ⟨ret_i64 hf.out.symm, n2⟩

set_option maxHeartbeats 3200000 in
theorem specSyn (A1 A2 : Option Addr) (n c m d : Nat) (zs ys : List Int) (w : World) (h : BsAt w A1 zs) (k : BsAt w A2 ys) (hb : Nl A1 n c) (hb2 : Nl A2 m d) (hn : zs.length = n) (hm : ys.length = m) (hc : n ≤ c) (hd : m ≤ d) (hn1 : n ≤ 1048576) (hm1 : m ≤ 1048576) :
    Calls Try.prog 57 #[.agg #[.slice A1 n c, .slice A2 m d]] w fun e w' => JrA w (syA zs ys) e w' := by
  obtain ⟨i0, hi, hz0, hz1, hz2⟩ := info_parts Try.infoU8
  have hw := ((New.refl w).alloc (.cells #[.slice A1 n c, .slice A2 m d] 25)).alloc (.cells #[.int .i64 0, .int .i64 0, .slice none 0 0, .slice none 0 0] 29)
  have bJ := (Blk.mk w w.heap.size 25 #[.slice A1 n c, .slice A2 m d] rfl).alloc (.cells #[.int .i64 0, .int .i64 0, .slice none 0 0, .slice none 0 0] 29)
  have bR := Blk.mk (w.alloc (.cells #[.slice A1 n c, .slice A2 m d] 25)) (w.heap.size + 1) 29 #[.int .i64 0, .int .i64 0, .slice none 0 0, .slice none 0 0] (by simp)
  by_cases hf : jF zs ys = 0
  · have hf' : (jF zs ys != 0) = false := by simp [hf]
    have HF : Hid (jF zs ys = 0) := hf
    obtain ⟨hs6, -, -⟩ := jF_zero hf
    clear hf
    go_enter Try.func57, Try.ntmps57
    go_wp2_with fail
    refine (specJFn A1 A2 n c m d zs ys _ (h.new hw) (k.new hw) hb hb2 hn hm hc hd hn1 hm1).mono ?_
    rintro e w1 ⟨rfl, hn1'⟩
    have n1 := hw.trans hn1'
    have bJ1 := bJ.new hn1'
    have bR1 := bR.new hn1'
    have cJ := bJ1.cells
    have lR := bR1.lt
    have lJ := bJ1.lt
    have hzz : ∀ z ∈ zs ++ ys, 0 ≤ z ∧ z ≤ 255 := fun z hz => (List.mem_append.1 hz).elim (h.lt z) (k.lt z)
    obtain ⟨us, hU⟩ : ∃ us, zs ++ ys = us := ⟨_, rfl⟩
    have HZ : Hid (∀ z ∈ us, 0 ≤ z ∧ z ≤ 255) := by rw [← hU]; exact hzz
    have hl3 : us.length ≤ 1048576 := by rw [← hU, List.length_append]; omega
    have h1 := h.new n1
    have k1 := k.new n1
    have cJd := (bJ1.new ((New.refl _).drew)).cells
    have cJa := (bJ1.new (((New.refl _).alloc (.cells #[] 5)).drew)).cells
    have N0 : New w1 (w1.alloc (.cells #[] 5)).drew := ((New.refl _).alloc _).drew
    have L0 : OvB (w1.alloc (.cells #[] 5)).drew w1.heap.size (.slice (some ⟨w1.heap.size, 0, none⟩) 0 0) [] := (lit_ov w1).new ((New.refl _).drew)
    have L0b := L0.blk
    have hne : ¬ w.heap.size + 1 = w.heap.size := by omega
    clear hn1' hw hzz
    go_upto_region 4 with fail
    go_region_held3 (fun X => ∀ j, X.cell? ⟨w.heap.size, j, none⟩ = (#[.slice A1 n c, .slice A2 m d] : Array Value)[j]?) (first | (with_reducible exact cJ) | (with_reducible exact cJd) | (with_reducible exact cJa) | (with_reducible exact cJ2) | (with_reducible exact cJ3) | (with_reducible exact cJ4) | (intro j; rw [cell_set10 hne, cell_set10 hne, cell_set10 hne, cell_set10 hne]; with_reducible exact cJ4 j))
      (first
        | (refine step_apB _ rfl (.tmp 10) (.tmp 12) rfl w1.heap.size Try.underlying22 hi hz0 hz1 hz2 _ [] rfl L0 A1 n c zs rfl (h1.new N0) hn hb.no (by simp; omega) N0.size ?_; intro v2 w2 ho2 hg2; have N2 : New w1 w2 := N0.grow hg2 (fun k hk => L0b k hk); have cJ2 := (bJ1.new N2).cells; have o2 : OvB w2 w1.heap.size v2 zs := (by first | exact ho2 | (unfold OvB; simpa using ho2) | (unfold OvB; rw [hn]; simpa using ho2)); have o2b := o2.blk)
        | (refine step_apB _ rfl (.tmp 13) (.tmp 15) rfl w1.heap.size Try.underlying22 hi hz0 hz1 hz2 v2 zs rfl o2 A2 m d ys rfl (k1.new N2) hm hb2.no (by omega) N2.size ?_; intro v3 w3 ho3 hg3; have N3 : New w1 w3 := N2.grow hg3 (fun k hk => o2b k hk); have cJ3 := (bJ1.new N3).cells; have o3 : OvB w3 w1.heap.size v3 us := (by rw [← hU]; first | exact ho3 | (unfold OvB; simpa using ho3) | (unfold OvB; simpa [hn, hm] using ho3)); obtain ⟨a3, c3, rfl, ha3, hc3, hs3, -⟩ := o3.bs HZ.out; have hs3' : (a3 = none ∧ us.length = 0 ∧ c3 = 0) ∨ ∃ b off, a3 = some ⟨b, off, none⟩ := (by rcases hs3 with h | ⟨g, h, _⟩; exact .inl h; exact .inr ⟨g, 0, h⟩))
        | (go_at_call 39; refine (l10Of_any a3 none us.length c3 0 0 us [] _ ha3 (BsAt.nil _ _) rfl rfl hs3' (.inl ⟨rfl, rfl, rfl⟩) hc3 (Nat.le_refl _) hl3 (by omega)).mono ?_; rintro e w4 ⟨p1, p2, d1, d2, rfl, q1, q2, qa, qn⟩; have N4 := N3.trans qn; have cJ4 := (bJ1.new N4).cells; have bR4 := bR1.new N4; have cR := bR4.cells; have fR := bR4.frees))
    all_goals
      have s3 := N3.size
      clear cJ cJd cJa cJ2 cJ3 cJ4
      go_wp2
      refine bodyPost_ret (v := .agg #[.int .i64 0, .int .i64 (eCnt us + eCnt []), .slice p1 us.length d1, .slice p2 0 d2]) (by simp [results, Try.results57, go_sem, cR]) rfl ?_
      unfold JrA syA
      rw [if_pos HF.out, hU]
      exact JrAns.stored (ys := []) (B := w.heap.size + 1) (by omega) (by omega) (n1.trans N3) q1 q2 qa qn (Turn.set (S := fun i => i = w.heap.size + 1) (Turn.set (S := fun i => i = w.heap.size + 1) (Turn.set (S := fun i => i = w.heap.size + 1) (Turn.set (S := fun i => i = w.heap.size + 1) (Turn.refl _ _) rfl _) rfl _) rfl _) rfl _)
  · skip
    have hf' : (jF zs ys != 0) = true := by simp [hf]
    have HF : Hid (¬ jF zs ys = 0) := hf
    clear hf
    go_enter Try.func57, Try.ntmps57
    go_wp2_with fail
    refine (specJFn A1 A2 n c m d zs ys _ (h.new hw) (k.new hw) hb hb2 hn hm hc hd hn1 hm1).mono ?_
    rintro e w1 ⟨rfl, hn1'⟩
    have bR1 := bR.new hn1'
    have cR := bR1.cells
    have fR := bR1.frees
    go_wp2
    refine bodyPost_ret (v := .agg #[.int .i64 (jF zs ys), .int .i64 0, .slice none 0 0, .slice none 0 0]) (by simp [results, Try.results57, go_sem, cR]) rfl ?_
    unfold JrA syA
    rw [if_neg HF.out]
    exact JrAns.code (((((hw.trans hn1').setCell (by simp) _).setCell (by simp) _).setCell (by simp) _).setCell (by simp) _)

set_option maxHeartbeats 6400000 in
theorem specAxn (A1 A2 : Option Addr) (n c m d : Nat) (zs ys : List Int) (w : World) (h : BsAt w A1 zs) (k : BsAt w A2 ys) (hb : Nl A1 n c) (hb2 : Nl A2 m d) (hn : zs.length = n) (hm : ys.length = m) (hc : n ≤ c) (hd : m ≤ d) (hn1 : n ≤ 1048576) (hm1 : m ≤ 1048576) (ep ki pe : Int) (A3 : Option Addr) (l cl : Nat) (es : List Int) (q : BsAt w A3 es) (hb3 : Nl A3 l cl) (hl : es.length = l) (hl1 : l ≤ 1048576) :
    Calls Try.prog 17 #[.agg #[.slice A1 n c, .slice A2 m d], .agg #[.int .i64 ep, .int .i64 ki, .int .i64 pe, .slice A3 l cl]] w fun e w' => JrA w (axA zs ys ep ki pe es) e w' := by
  obtain ⟨i0, hi, hz0, hz1, hz2⟩ := info_parts Try.infoU8
  have hw := (((New.refl w).alloc (.cells #[.slice A1 n c, .slice A2 m d] 25)).alloc (.cells #[.int .i64 ep, .int .i64 ki, .int .i64 pe, .slice A3 l cl] 40)).alloc (.cells #[.int .i64 0, .int .i64 0, .slice none 0 0, .slice none 0 0] 29)
  have bJ := ((Blk.mk w w.heap.size 25 #[.slice A1 n c, .slice A2 m d] rfl).alloc (.cells #[.int .i64 ep, .int .i64 ki, .int .i64 pe, .slice A3 l cl] 40)).alloc (.cells #[.int .i64 0, .int .i64 0, .slice none 0 0, .slice none 0 0] 29)
  have bE := (Blk.mk (w.alloc (.cells #[.slice A1 n c, .slice A2 m d] 25)) (w.heap.size + 1) 40 #[.int .i64 ep, .int .i64 ki, .int .i64 pe, .slice A3 l cl] (by simp)).alloc (.cells #[.int .i64 0, .int .i64 0, .slice none 0 0, .slice none 0 0] 29)
  have bR := Blk.mk ((w.alloc (.cells #[.slice A1 n c, .slice A2 m d] 25)).alloc (.cells #[.int .i64 ep, .int .i64 ki, .int .i64 pe, .slice A3 l cl] 40)) (w.heap.size + 1 + 1) 29 #[.int .i64 0, .int .i64 0, .slice none 0 0, .slice none 0 0] (by simp)
  by_cases hf : jF zs ys = 0
  · have hf' : (jF zs ys != 0) = false := by simp [hf]
    have HF : Hid (jF zs ys = 0) := hf
    obtain ⟨hs6, -, -⟩ := jF_zero hf
    clear hf
    go_enter Try.func17, Try.ntmps17
    go_wp2_with fail
    refine (specJFn A1 A2 n c m d zs ys _ (h.new hw) (k.new hw) hb hb2 hn hm hc hd hn1 hm1).mono ?_
    rintro e w1 ⟨rfl, hn1'⟩
    have n1 := hw.trans hn1'
    have bJ1 := bJ.new hn1'
    have bE1 := bE.new hn1'
    have bR1 := bR.new hn1'
    have cE := bE1.cells
    clear hn1' hw
    go_wp2_with fail
    refine (specEN ep ki pe A3 l cl _ hl1).mono ?_
    rintro e w2 ⟨rfl, hn2⟩
    have n2 := n1.trans hn2
    have bJ2 := bJ1.new hn2
    have bE2 := bE1.new hn2
    have bR2 := bR1.new hn2
    have lR := bR2.lt
    clear cE
    by_cases hg : enF ep ki pe l = 0
    · have hg' : (enF ep ki pe l != 0) = false := by simp [hg]
      have HG : Hid (enF ep ki pe l = 0) := hg
      obtain ⟨he1, he2, hk1, hk4, hp0, hp2, l60⟩ := enF_zero hg
      have hus := enP_bd (ep := ep) (k := ki) (p := pe) q.lt ⟨he1, he2⟩ ⟨hk1, hk4⟩ ⟨hp0, hp2⟩ (by rw [hl]; exact l60)
      have HLE : Hid ((enP ep ki pe es).length = 8 + l) := by unfold Hid; rw [enP_len, hl]
      have hLP := fun (X : World) (hX : New w2 X) => l10Pack_any ep ki pe A3 l cl es X ((q.new n2).new hX) hl hb3.no hg
      clear hg he1 he2 hk1 hk4 hp0 hp2
      generalize hUU : enP ep ki pe es = us at *
      go_upto_region 7 with fail
      have cJ := bJ2.cells
      have cE := bE2.cells
      have cJd := (bJ2.new ((New.refl _).drew)).cells
      have cEd := (bE2.new ((New.refl _).drew)).cells
      have N0 : New w2 (w2.alloc (.cells #[] 5)).drew := ((New.refl _).alloc _).drew
      have cJa := (bJ2.new N0).cells
      have cEa := (bE2.new N0).cells
      have L0 : OvB (w2.alloc (.cells #[] 5)).drew w2.heap.size (.slice (some ⟨w2.heap.size, 0, none⟩) 0 0) [] := (lit_ov w2).new ((New.refl _).drew)
      have L0b := L0.blk
      have k2 := k.new n2
      obtain ⟨vs, hV⟩ : ∃ vs, ys ++ us = vs := ⟨_, rfl⟩
      have HZ : Hid (∀ z ∈ vs, 0 ≤ z ∧ z ≤ 255) := by rw [← hV]; exact fun z hz => (List.mem_append.1 hz).elim (k.lt z) (hus z)
      have HVL : Hid (vs.length = m + (8 + l)) := by unfold Hid; rw [← hV, List.length_append, hm, HLE.out]
      go_region_held3 (fun X => (∀ j, X.cell? ⟨w.heap.size, j, none⟩ = (#[.slice A1 n c, .slice A2 m d] : Array Value)[j]?) ∧ (∀ j, X.cell? ⟨w.heap.size + 1, j, none⟩ = (#[.int .i64 ep, .int .i64 ki, .int .i64 pe, .slice A3 l cl] : Array Value)[j]?)) (first | (with_reducible exact ⟨cJ, cE⟩) | (with_reducible exact ⟨cJd, cEd⟩) | (with_reducible exact ⟨cJa, cEa⟩) | (with_reducible exact ⟨cJ3, cE3⟩) | (with_reducible exact ⟨cJ4, cE4⟩) | (with_reducible exact ⟨cJ5, cE5⟩))
        (first
          | (refine step_apB _ rfl (.tmp 20) (.tmp 22) rfl w2.heap.size Try.underlying22 hi hz0 hz1 hz2 _ [] rfl L0 A2 m d ys rfl (k2.new N0) hm hb2.no (by simp; omega) N0.size ?_; intro v3 w3 ho3 hg3; have N3 : New w2 w3 := N0.grow hg3 (fun k hk => L0b k hk); have cJ3 := (bJ2.new N3).cells; have cE3 := (bE2.new N3).cells; have o3 : OvB w3 w2.heap.size v3 ys := (by first | exact ho3 | (unfold OvB; simpa using ho3) | (unfold OvB; rw [hm]; simpa using ho3)))
          | (go_at_call 46; refine (hLP _ N3).mono ?_; rintro e w4 ⟨g4, cap4, rfl, hg4, ho4, hn4⟩; have N4 := N3.trans hn4; have cJ4 := (bJ2.new N4).cells; have cE4 := (bE2.new N4).cells; have o4 := o3.new hn4; have o4b := o4.blk; have u4 : BsAt w4 (some ⟨g4, 0, none⟩) us := BsAt.of_own ho4 hus)
          | (refine step_apB _ rfl (.tmp 23) (.tmp 25) rfl w2.heap.size Try.underlying22 hi hz0 hz1 hz2 v3 ys rfl o4 (some ⟨g4, 0, none⟩) (8 + l) cap4 us rfl u4 HLE.out (by intro h; cases h) (by omega) N4.size ?_; intro v5 w5 ho5 hg5; have N5 : New w2 w5 := N4.grow hg5 (fun k hk => o4b k hk); have cJ5 := (bJ2.new N5).cells; have cE5 := (bE2.new N5).cells; have o5 : OvB w5 w2.heap.size v5 vs := (by rw [← hV]; first | exact ho5 | (unfold OvB; simpa using ho5) | (unfold OvB; simpa [hm, HLE.out] using ho5))))
      all_goals
        obtain ⟨a5, c5, rfl, ha5, hc5, hs5, -⟩ := o5.bs HZ.out
        rw [HVL.out] at hc5 hs5
        have hsy : (a5 = none ∧ m + (8 + l) = 0 ∧ c5 = 0) ∨ ∃ b off, a5 = some ⟨b, off, none⟩ := by
          rcases hs5 with h | ⟨g, h, _⟩
          · exact .inl h
          · exact .inr ⟨g, 0, h⟩
        have HSY : Hid ((a5 = none ∧ m + (8 + l) = 0 ∧ c5 = 0) ∨ ∃ b off, a5 = some ⟨b, off, none⟩) := hsy
        have n25 := n2.trans N5
        have bR5 := bR2.new N5
        have bJ5 := bJ2.new N5
        have z5 := N5.size
        rw [HVL.out]
        clear cJ cE cJd cEd cJa cEa cJ3 cE3 cJ4 cE4 cJ5 cE5 hsy hs5
        have cJ := bJ5.cells
        by_cases hbig : 6000 < n + m + (8 + l)
        · have hbi : (6000 : Int) < (n : Int) + ((m : Int) + (8 + (l : Int))) := by omega
          have HB : Hid (6000 < n + m + (8 + l)) := hbig
          have cR := bR5.cells
          have fR := bR5.frees
          clear hbig
          go_wp2
          refine bodyPost_ret (v := .agg #[.int .i64 2, .int .i64 0, .slice none 0 0, .slice none 0 0]) (by simp [results, Try.results17, go_sem, cR]) rfl ?_
          unfold JrA axA
          rw [if_pos HF.out, hl, if_pos HG.out, hn, hm, if_pos HB.out]
          exact JrAns.code (((((n25).setCell (by simp; omega) _).setCell (by simp; omega) _).setCell (by simp; omega) _).setCell (by simp; omega) _)
        · have hbi : ¬ (6000 : Int) < (n : Int) + ((m : Int) + (8 + (l : Int))) := by omega
          have HB : Hid (¬ 6000 < n + m + (8 + l)) := hbig
          clear hbig
          go_wp2_with fail
          refine (l10Of_any A1 a5 n c (m + (8 + l)) c5 zs vs _ (h.new n25) ha5 hn HVL.out hb HSY.out hc hc5 hn1 (by omega)).mono ?_
          rintro e w6 ⟨p1, p2, d1, d2, rfl, q1, q2, qa, qn⟩
          have bR6 := bR5.new qn
          have cR := bR6.cells
          have fR := bR6.frees
          go_wp2
          refine bodyPost_ret (v := .agg #[.int .i64 0, .int .i64 (eCnt zs + eCnt vs), .slice p1 n d1, .slice p2 vs.length d2]) (by simp [results, Try.results17, go_sem, cR, hn]) rfl ?_
          unfold JrA axA
          rw [if_pos HF.out, hl, if_pos HG.out, hn, hm, if_neg HB.out, hUU, hV]
          exact JrAns.stored3 hn (B := w.heap.size + 1 + 1) (by omega) (by omega) n25 q1 q2 qa qn (Turn.set (S := fun i => i = w.heap.size + 1 + 1) (Turn.set (S := fun i => i = w.heap.size + 1 + 1) (Turn.set (S := fun i => i = w.heap.size + 1 + 1) (Turn.set (S := fun i => i = w.heap.size + 1 + 1) (Turn.refl _ _) rfl _) rfl _) rfl _) rfl _)
    · have hg' : (enF ep ki pe l != 0) = true := by simp [hg]
      have HG : Hid (¬ enF ep ki pe l = 0) := hg
      have cR := bR2.cells
      have fR := bR2.frees
      clear hg
      go_wp2
      refine bodyPost_ret (v := .agg #[.int .i64 (enF ep ki pe l), .int .i64 0, .slice none 0 0, .slice none 0 0]) (by simp [results, Try.results17, go_sem, cR]) rfl ?_
      unfold JrA axA
      rw [if_pos HF.out, hl, if_neg HG.out]
      exact JrAns.code (((((n2).setCell (by simp; omega) _).setCell (by simp; omega) _).setCell (by simp; omega) _).setCell (by simp; omega) _)
  · skip
    have hf' : (jF zs ys != 0) = true := by simp [hf]
    have HF : Hid (¬ jF zs ys = 0) := hf
    clear hf
    go_enter Try.func17, Try.ntmps17
    go_wp2_with fail
    refine (specJFn A1 A2 n c m d zs ys _ (h.new hw) (k.new hw) hb hb2 hn hm hc hd hn1 hm1).mono ?_
    rintro e w1 ⟨rfl, hn1'⟩
    have bR1 := bR.new hn1'
    have cR := bR1.cells
    have fR := bR1.frees
    go_wp2
    refine bodyPost_ret (v := .agg #[.int .i64 (jF zs ys), .int .i64 0, .slice none 0 0, .slice none 0 0]) (by simp [results, Try.results17, go_sem, cR]) rfl ?_
    unfold JrA axA
    rw [if_neg HF.out]
    exact JrAns.code (((((hw.trans hn1').setCell (by simp; omega) _).setCell (by simp; omega) _).setCell (by simp; omega) _).setCell (by simp; omega) _)

end Go.Proofs.Ytdkjgjjkjfeodaa
