/- What is proved here: what a crash leaves of a journal whose lists may be nil. -/
import Derived.Test.YtdkjgjjkjfeodaaE10Jh
import Derived.Test.YtdkjgjjkjfeodaaE10Cr
namespace Go.Proofs.Ytdkjgjjkjfeodaa
open Go.RowKit
set_option linter.unusedVariables false
set_option linter.unusedSimpArgs false
set_option maxRecDepth 100000

set_option maxHeartbeats 3200000 in
theorem implCrn (A1 A2 : Option Addr) (n c m d : Nat) (zs ys : List Int) (w : World) (h : BsAt w A1 zs) (k : BsAt w A2 ys) (hb : Sl10 w A1 n c) (hb2 : Sl10 w A2 m d) (hn : zs.length = n) (hm : ys.length = m) (hc : n ≤ c) (hd : m ≤ d) (hn1 : n ≤ 1048576) (hm1 : m ≤ 1048576) (kp : Int) :
    Calls Try.prog 9 #[.agg #[.slice A1 n c, .slice A2 m d], .int .i64 kp] w fun e w' => JrA w (crA zs ys kp) e w' := by
  have hw := ((New.refl w).alloc (.cells #[.slice A1 n c, .slice A2 m d] 25)).alloc (.cells #[.int .i64 0, .int .i64 0, .slice none 0 0, .slice none 0 0] 29)
  have bJ := (Blk.mk w w.heap.size 25 #[.slice A1 n c, .slice A2 m d] rfl).alloc (.cells #[.int .i64 0, .int .i64 0, .slice none 0 0, .slice none 0 0] 29)
  have bR := Blk.mk (w.alloc (.cells #[.slice A1 n c, .slice A2 m d] 25)) (w.heap.size + 1) 29 #[.int .i64 0, .int .i64 0, .slice none 0 0, .slice none 0 0] (by simp)
  by_cases hf : jF zs ys = 0
  · have hf' : (jF zs ys != 0) = false := by simp [hf]
    have HF : Hid (jF zs ys = 0) := hf
    obtain ⟨hs6, -, -⟩ := jF_zero hf
    clear hf
    by_cases hkp : kp < 0 ∨ (m : Int) < kp
    · have HK : Hid (kp < 0 ∨ (m : Int) < kp) := hkp
      by_cases hk0 : kp < 0
      · clear hkp
        go_enter Try.func9, Try.ntmps9
        go_wp2_with fail
        refine (implJFn A1 A2 n c m d zs ys _ (h.new hw) (k.new hw) (hb.up hw.size) (hb2.up hw.size) hn hm hc hd hn1 hm1).mono ?_
        rintro e w1 ⟨rfl, hn1'⟩
        have bJ1 := bJ.new hn1'
        have bR1 := bR.new hn1'
        have cJ := bJ1.cells
        have cR := bR1.cells
        have fR := bR1.frees
        go_wp2
        refine bodyPost_ret (v := .agg #[.int .i64 3, .int .i64 0, .slice none 0 0, .slice none 0 0]) (by simp [results, Try.results9, go_sem, cR]) rfl ?_
        unfold JrA crA
        rw [if_pos HF.out, hm, if_pos HK.out]
        exact JrAns.code (((((hw.trans hn1').setCell (by simp) _).setCell (by simp) _).setCell (by simp) _).setCell (by simp) _)
      · have hk1 : (m : Int) < kp := by omega
        clear hkp
        go_enter Try.func9, Try.ntmps9
        go_wp2_with fail
        refine (implJFn A1 A2 n c m d zs ys _ (h.new hw) (k.new hw) (hb.up hw.size) (hb2.up hw.size) hn hm hc hd hn1 hm1).mono ?_
        rintro e w1 ⟨rfl, hn1'⟩
        have bJ1 := bJ.new hn1'
        have bR1 := bR.new hn1'
        have cJ := bJ1.cells
        have cR := bR1.cells
        have fR := bR1.frees
        go_wp2
        refine bodyPost_ret (v := .agg #[.int .i64 3, .int .i64 0, .slice none 0 0, .slice none 0 0]) (by simp [results, Try.results9, go_sem, cR]) rfl ?_
        unfold JrA crA
        rw [if_pos HF.out, hm, if_pos HK.out]
        exact JrAns.code (((((hw.trans hn1').setCell (by simp) _).setCell (by simp) _).setCell (by simp) _).setCell (by simp) _)
    · obtain ⟨kk, rfl⟩ : ∃ kk : Nat, kp = kk := ⟨kp.toNat, by omega⟩
      have hkm : (kk : Int) ≤ (m : Int) := by omega
      have hkd : (kk : Int) ≤ (d : Int) := by omega
      have HK : Hid (¬ ((kk : Int) < 0 ∨ (m : Int) < (kk : Int))) := hkp
      have hk0 : ¬ (kk : Int) < 0 := by omega
      have hk1 : ¬ (m : Int) < (kk : Int) := by omega
      have hk00 : (0 : Int) ≤ (kk : Int) := by omega
      clear hkp
      go_enter Try.func9, Try.ntmps9
      go_wp2_with fail
      refine (implJFn A1 A2 n c m d zs ys _ (h.new hw) (k.new hw) (hb.up hw.size) (hb2.up hw.size) hn hm hc hd hn1 hm1).mono ?_
      rintro e w1 ⟨rfl, hn1'⟩
      have n1 := hw.trans hn1'
      have bJ1 := bJ.new hn1'
      have bR1 := bR.new hn1'
      have cJ := bJ1.cells
      have lR := bR1.lt
      clear hn1' hw
      go_upto_region 6 with fail
      have cJd := (bJ1.new ((New.refl _).drew)).cells
      have al : New w1 (w1.alloc (.cells #[.slice A1 n c, .slice A2 kk d] 22)).drew := ((New.refl w1).alloc _).drew
      have cJa := (bJ1.new al).cells
      have bL := (Blk.mk w1 w1.heap.size 22 #[.slice A1 n c, .slice A2 kk d] rfl).new ((New.refl _).drew)
      have hkl : (ys.take kk).length = kk := by simp only [List.length_take]; omega
      have hzz : ∀ z ∈ zs ++ ys.take kk, 0 ≤ z ∧ z ≤ 255 := fun z hz => (List.mem_append.1 hz).elim (h.lt z) (fun hz => k.lt z (List.mem_of_mem_take hz))
      have HKL : Hid ((ys.take kk).length = kk) := hkl
      have hCC := concat2 w1.heap.size A1 A2 n c kk d zs (ys.take kk) _ (bL.cells 0) (bL.cells 1) ((h.new n1).new al) (((k.take kk).new n1).new al) hn hkl (by first | exact hb.no | exact hb2.no | (intro h; have := hb2.no h; exact ⟨by omega, by omega⟩) | (intro h; cases h)) (by first | exact hb.no | exact hb2.no | (intro h; have := hb2.no h; exact ⟨by omega, by omega⟩) | (intro h; cases h)) hn1 (by omega)
      have HZ : Hid (∀ z ∈ zs ++ ys.take kk, 0 ≤ z ∧ z ≤ 255) := hzz
      have hul : (zs ++ ys.take kk).length ≤ 6000 := by rw [List.length_append, hkl]; omega
      clear hzz
      generalize hU : zs ++ ys.take kk = us at *
      go_region_held3 (fun X => ∀ j, X.cell? ⟨w.heap.size, j, none⟩ = (#[.slice A1 n c, .slice A2 m d] : Array Value)[j]?) (first | (with_reducible exact cJ) | (with_reducible exact cJd) | (with_reducible exact cJa) | (with_reducible exact cJ2))
        (first
          | (go_at_call 33; refine hCC.mono ?_; rintro e w2 ⟨v, rfl, ho, hn2⟩; have n12 := al.trans hn2; have cJ2 := (bJ1.new n12).cells))
      all_goals
        obtain ⟨a3, c3, rfl, ha3, hc3, hs3, -⟩ := ho.bs HZ.out
        have hs4 : Sl10 w2 a3 us.length c3 := by
          rcases hs3 with h | ⟨g, h, _, h2⟩
          · exact .inl h
          · exact .inr ⟨g, 0, h, h2⟩
        have hnn : a3 = none → eUse us 0 = 0 ∧ c3 = 0 := by
          rintro rfl
          rcases hs3 with h | ⟨g, h, _⟩
          · have := eUse_len us; exact ⟨by omega, h.2.2⟩
          · cases h
        have HN : Hid (a3 = none → eUse us 0 = 0 ∧ c3 = 0) := hnn
        have bR2 := bR1.new n12
        have hun := eUse_len us
        clear hnn hs3 cJ cJd cJa cJ2 hCC
        go_wp2_with fail
        refine (wholeE a3 us.length c3 us _ ha3 hs4 rfl hc3 (by omega)).mono ?_
        rintro e w3 ⟨rfl, hn3⟩
        have bR3 := bR2.new hn3
        have n13 := n12.trans hn3
        have z13 := n13.size
        have hl := eHd_len us
        have ht3 : BsAt w3 a3 (eHd us) := (ha3.new hn3).take _
        generalize hH : eHd us = hs at *
        generalize hE : eUse us 0 = uu at *
        go_wp2_with fail
        refine (jOf a3 none uu c3 0 0 hs [] _ ht3 (BsAt.nil _ _) hl rfl HN.out (fun _ => ⟨rfl, rfl⟩) (by omega) (by omega)).mono ?_
        rintro e w4 ⟨p1, p2, d1, d2, rfl, q1, q2, qa, qn⟩
        have bR4 := bR3.new qn
        have cR := bR4.cells
        have fR := bR4.frees
        have HL : Hid (hs.length = uu) := hl
        clear hl
        go_wp2
        refine bodyPost_ret (v := .agg #[.int .i64 0, .int .i64 (eCnt hs + eCnt []), .slice p1 hs.length d1, .slice p2 0 d2]) (by simp [results, Try.results9, go_sem, cR]) rfl ?_
        unfold JrA crA
        rw [if_pos HF.out, hm, if_neg HK.out, Int.toNat_natCast, hU, hH]
        exact JrAns.stored (ys := []) (B := w.heap.size + 1) (by omega) (by omega) (n1.trans n13) q1 q2 qa qn (Turn.set (S := fun i => i = w.heap.size + 1) (Turn.set (S := fun i => i = w.heap.size + 1) (Turn.set (S := fun i => i = w.heap.size + 1) (Turn.set (S := fun i => i = w.heap.size + 1) (Turn.refl _ _) rfl _) rfl _) rfl _) rfl _)
  · skip
    have hf' : (jF zs ys != 0) = true := by simp [hf]
    have HF : Hid (¬ jF zs ys = 0) := hf
    clear hf
    go_enter Try.func9, Try.ntmps9
    go_wp2_with fail
    refine (implJFn A1 A2 n c m d zs ys _ (h.new hw) (k.new hw) (hb.up hw.size) (hb2.up hw.size) hn hm hc hd hn1 hm1).mono ?_
    rintro e w1 ⟨rfl, hn1'⟩
    have bR1 := bR.new hn1'
    have cR := bR1.cells
    have fR := bR1.frees
    go_wp2
    refine bodyPost_ret (v := .agg #[.int .i64 (jF zs ys), .int .i64 0, .slice none 0 0, .slice none 0 0]) (by simp [results, Try.results9, go_sem, cR]) rfl ?_
    unfold JrA crA
    rw [if_neg HF.out]
    exact JrAns.code (((((hw.trans hn1').setCell (by simp) _).setCell (by simp) _).setCell (by simp) _).setCell (by simp) _)

set_option maxHeartbeats 3200000 in
theorem specCrn (A1 A2 : Option Addr) (n c m d : Nat) (zs ys : List Int) (w : World) (h : BsAt w A1 zs) (k : BsAt w A2 ys) (hb : Nl A1 n c) (hb2 : Nl A2 m d) (hn : zs.length = n) (hm : ys.length = m) (hc : n ≤ c) (hd : m ≤ d) (hn1 : n ≤ 1048576) (hm1 : m ≤ 1048576) (kp : Int) :
    Calls Try.prog 10 #[.agg #[.slice A1 n c, .slice A2 m d], .int .i64 kp] w fun e w' => JrA w (crA zs ys kp) e w' := by
  obtain ⟨i0, hi, hz0, hz1, hz2⟩ := info_parts Try.infoU8
  have hw := ((New.refl w).alloc (.cells #[.slice A1 n c, .slice A2 m d] 25)).alloc (.cells #[.int .i64 0, .int .i64 0, .slice none 0 0, .slice none 0 0] 29)
  have bJ := (Blk.mk w w.heap.size 25 #[.slice A1 n c, .slice A2 m d] rfl).alloc (.cells #[.int .i64 0, .int .i64 0, .slice none 0 0, .slice none 0 0] 29)
  have bR := Blk.mk (w.alloc (.cells #[.slice A1 n c, .slice A2 m d] 25)) (w.heap.size + 1) 29 #[.int .i64 0, .int .i64 0, .slice none 0 0, .slice none 0 0] (by simp)
  by_cases hf : jF zs ys = 0
  · have hf' : (jF zs ys != 0) = false := by simp [hf]
    have HF : Hid (jF zs ys = 0) := hf
    obtain ⟨hs6, -, -⟩ := jF_zero hf
    clear hf
    by_cases hkp : kp < 0 ∨ (m : Int) < kp
    · have HK : Hid (kp < 0 ∨ (m : Int) < kp) := hkp
      clear hkp
      go_enter Try.func10, Try.ntmps10
      go_wp2_with fail
      refine (specJFn A1 A2 n c m d zs ys _ (h.new hw) (k.new hw) hb hb2 hn hm hc hd hn1 hm1).mono ?_
      rintro e w1 ⟨rfl, hn1'⟩
      have bJ1 := bJ.new hn1'
      have bR1 := bR.new hn1'
      have cJ := bJ1.cells
      have cR := bR1.cells
      have fR := bR1.frees
      go_wp2_with fail
      refine (in_no _ _ _ _ HK.out).mono ?_
      rintro e w1' ⟨rfl, hw1'⟩
      obtain rfl := hw1'.symm
      go_wp2
      refine bodyPost_ret (v := .agg #[.int .i64 3, .int .i64 0, .slice none 0 0, .slice none 0 0]) (by simp [results, Try.results10, go_sem, cR]) rfl ?_
      unfold JrA crA
      rw [if_pos HF.out, hm, if_pos HK.out]
      exact JrAns.code (((((hw.trans hn1').setCell (by simp) _).setCell (by simp) _).setCell (by simp) _).setCell (by simp) _)
    · obtain ⟨kk, rfl⟩ : ∃ kk : Nat, kp = kk := ⟨kp.toNat, by omega⟩
      have hkm : (kk : Int) ≤ (m : Int) := by omega
      have hkd : (kk : Int) ≤ (d : Int) := by omega
      have HK : Hid (¬ ((kk : Int) < 0 ∨ (m : Int) < (kk : Int))) := hkp
      have hk00 : (0 : Int) ≤ (kk : Int) := by omega
      clear hkp
      go_enter Try.func10, Try.ntmps10
      go_wp2_with fail
      refine (specJFn A1 A2 n c m d zs ys _ (h.new hw) (k.new hw) hb hb2 hn hm hc hd hn1 hm1).mono ?_
      rintro e w1 ⟨rfl, hn1'⟩
      have n1 := hw.trans hn1'
      have bJ1 := bJ.new hn1'
      have bR1 := bR.new hn1'
      have cJ := bJ1.cells
      have lR := bR1.lt
      clear hn1' hw
      go_wp2_with fail
      refine (in_yes _ _ _ _ ⟨hk00, hkm⟩).mono ?_
      rintro e w1' ⟨rfl, hw1'⟩
      obtain rfl := hw1'.symm
      go_upto_region 6 with fail
      have cJd := (bJ1.new ((New.refl _).drew)).cells
      have cJa := (bJ1.new (((New.refl _).alloc (.cells #[] 5)).drew)).cells
      have N0 : New w1 (w1.alloc (.cells #[] 5)).drew := ((New.refl _).alloc _).drew
      have L0 : OvB (w1.alloc (.cells #[] 5)).drew w1.heap.size (.slice (some ⟨w1.heap.size, 0, none⟩) 0 0) [] := (lit_ov w1).new ((New.refl _).drew)
      have L0b := L0.blk
      have hkl : (ys.take kk).length = kk := by simp only [List.length_take]; omega
      have hzz : ∀ z ∈ zs ++ ys.take kk, 0 ≤ z ∧ z ≤ 255 := fun z hz => (List.mem_append.1 hz).elim (h.lt z) (fun hz => k.lt z (List.mem_of_mem_take hz))
      have h1 := h.new n1
      have k1 := (k.take kk).new n1
      have hul : (zs ++ ys.take kk).length ≤ 6000 := by rw [List.length_append, hkl]; omega
      obtain ⟨us, hU⟩ : ∃ us, zs ++ ys.take kk = us := ⟨_, rfl⟩
      rw [hU] at hul
      have HZ : Hid (∀ z ∈ us, 0 ≤ z ∧ z ≤ 255) := by rw [← hU]; exact hzz
      clear hzz
      go_region_held3 (fun X => ∀ j, X.cell? ⟨w.heap.size, j, none⟩ = (#[.slice A1 n c, .slice A2 m d] : Array Value)[j]?) (first | (with_reducible exact cJ) | (with_reducible exact cJd) | (with_reducible exact cJa) | (with_reducible exact cJ2) | (with_reducible exact cJ3))
        (first
          | (refine step_apB _ rfl (.tmp 22) (.tmp 24) rfl w1.heap.size Try.underlying22 hi hz0 hz1 hz2 _ [] rfl L0 A1 n c zs rfl (h1.new N0) hn hb.no (by simp; omega) N0.size ?_; intro v2 w2 ho2 hg2; have N2 : New w1 w2 := N0.grow hg2 (fun k hk => L0b k hk); have cJ2 := (bJ1.new N2).cells; have o2 : OvB w2 w1.heap.size v2 zs := (by first | exact ho2 | (unfold OvB; simpa using ho2) | (unfold OvB; rw [hn]; simpa using ho2)); have o2b := o2.blk)
          | (refine step_apB _ rfl (.tmp 25) (.tmp 29) rfl w1.heap.size Try.underlying22 hi hz0 hz1 hz2 v2 zs rfl o2 A2 kk d (ys.take kk) rfl (k1.new N2) hkl (by first | exact hb.no | exact hb2.no | (intro h; have := hb2.no h; exact ⟨by omega, by omega⟩) | (intro h; cases h)) (by omega) N2.size ?_; intro v3 w3 ho3 hg3; have N3 : New w1 w3 := N2.grow hg3 (fun k hk => o2b k hk); have cJ3 := (bJ1.new N3).cells; have o3 : OvB w3 w1.heap.size v3 us := (by rw [← hU]; first | exact ho3 | (unfold OvB; simpa using ho3) | (unfold OvB; simpa [hn, hkl] using ho3))))
      all_goals
        obtain ⟨a3, c3, rfl, ha3, hc3, hs3, -⟩ := o3.bs HZ.out
        have hs4 : (a3 = none ∧ us.length = 0 ∧ c3 = 0) ∨ ∃ b off, a3 = some ⟨b, off, none⟩ := by
          rcases hs3 with h | ⟨g, h, _⟩
          · exact .inl h
          · exact .inr ⟨g, 0, h⟩
        have hun := eUse_len us
        have hs5 : (a3 = none ∧ eUse us 0 = 0 ∧ c3 = 0) ∨ ∃ b off, a3 = some ⟨b, off, none⟩ := by
          rcases hs3 with ⟨h1, h2, h3⟩ | ⟨g, h, _⟩
          · exact .inl ⟨h1, by omega, h3⟩
          · exact .inr ⟨g, 0, h⟩
        have HS4 : Hid ((a3 = none ∧ us.length = 0 ∧ c3 = 0) ∨ ∃ b off, a3 = some ⟨b, off, none⟩) := hs4
        have HS5 : Hid ((a3 = none ∧ eUse us 0 = 0 ∧ c3 = 0) ∨ ∃ b off, a3 = some ⟨b, off, none⟩) := hs5
        have bR2 := bR1.new N3
        have huc : ((eUse us 0 : Nat) : Int) ≤ (c3 : Int) := by omega
        have hu0 : (0 : Int) ≤ ((eUse us 0 : Nat) : Int) := by omega
        clear hs3 hs4 hs5 cJ cJd cJa cJ2 cJ3
        go_wp2_with fail
        refine (specCount a3 us.length c3 us _ ha3 HS4.out rfl hc3 (by omega)).mono ?_
        rintro e w4 ⟨y4, k4, d4, rfl, -, hn4⟩
        have bR3 := bR2.new hn4
        have n13 := N3.trans hn4
        have z13 := n13.size
        have hl := eHd_len us
        have ht3 : BsAt w4 a3 (eHd us) := (ha3.new hn4).take _
        generalize hH : eHd us = hs at *
        generalize hE : eUse us 0 = uu at *
        have HA3 : Hid (∀ x, (Value.slice a3 us.length c3 = .slice none 0 0 ∧ x = (0 : Int)) ∨ True) := fun _ => .inr trivial
        rcases HS5.out with ⟨rfl, rfl, rfl⟩ | ⟨bb, oo, rfl⟩
        · obtain rfl : hs = [] := List.eq_nil_of_length_eq_zero hl
          have hul0 : us.length = 0 := by omega
          rw [hul0]
          go_wp2_with fail
          refine (l10Of_any none none 0 0 0 0 [] [] _ (BsAt.nil _ _) (BsAt.nil _ _) rfl rfl (.inl ⟨rfl, rfl, rfl⟩) (.inl ⟨rfl, rfl, rfl⟩) (Nat.le_refl _) (Nat.le_refl _) (by omega) (by omega)).mono ?_
          rintro e w5 ⟨p1, p2, d1, d2, rfl, q1, q2, qa, qn⟩
          have bR4 := bR3.new qn
          have cR := bR4.cells
          have fR := bR4.frees
          go_wp2
          refine bodyPost_ret (v := .agg #[.int .i64 0, .int .i64 (eCnt [] + eCnt []), .slice p1 0 d1, .slice p2 0 d2]) (by simp [results, Try.results10, go_sem, cR]) rfl ?_
          unfold JrA crA
          rw [if_pos HF.out, hm, if_neg HK.out, Int.toNat_natCast, hU, hH]
          exact JrAns.stored (zs := []) (ys := []) (B := w.heap.size + 1) (by omega) (by omega) (n1.trans n13) q1 q2 qa qn (Turn.set (S := fun i => i = w.heap.size + 1) (Turn.set (S := fun i => i = w.heap.size + 1) (Turn.set (S := fun i => i = w.heap.size + 1) (Turn.set (S := fun i => i = w.heap.size + 1) (Turn.refl _ _) rfl _) rfl _) rfl _) rfl _)
        · go_wp2_with fail
          refine (l10Of_any (some ⟨bb, oo, none⟩) none uu c3 0 0 hs [] _ ht3 (BsAt.nil _ _) hl rfl (.inr ⟨bb, oo, rfl⟩) (.inl ⟨rfl, rfl, rfl⟩) (by omega) (Nat.le_refl _) (by omega) (by omega)).mono ?_
          rintro e w5 ⟨p1, p2, d1, d2, rfl, q1, q2, qa, qn⟩
          have bR4 := bR3.new qn
          have cR := bR4.cells
          have fR := bR4.frees
          have HL : Hid (hs.length = uu) := hl
          clear hl
          go_wp2
          refine bodyPost_ret (v := .agg #[.int .i64 0, .int .i64 (eCnt hs + eCnt []), .slice p1 hs.length d1, .slice p2 0 d2]) (by simp [results, Try.results10, go_sem, cR]) rfl ?_
          unfold JrA crA
          rw [if_pos HF.out, hm, if_neg HK.out, Int.toNat_natCast, hU, hH]
          exact JrAns.stored (ys := []) (B := w.heap.size + 1) (by omega) (by omega) (n1.trans n13) q1 q2 qa qn (Turn.set (S := fun i => i = w.heap.size + 1) (Turn.set (S := fun i => i = w.heap.size + 1) (Turn.set (S := fun i => i = w.heap.size + 1) (Turn.set (S := fun i => i = w.heap.size + 1) (Turn.refl _ _) rfl _) rfl _) rfl _) rfl _)
  · skip
    have hf' : (jF zs ys != 0) = true := by simp [hf]
    have HF : Hid (¬ jF zs ys = 0) := hf
    clear hf
    go_enter Try.func10, Try.ntmps10
    go_wp2_with fail
    refine (specJFn A1 A2 n c m d zs ys _ (h.new hw) (k.new hw) hb hb2 hn hm hc hd hn1 hm1).mono ?_
    rintro e w1 ⟨rfl, hn1'⟩
    have bR1 := bR.new hn1'
    have cR := bR1.cells
    have fR := bR1.frees
    go_wp2
    refine bodyPost_ret (v := .agg #[.int .i64 (jF zs ys), .int .i64 0, .slice none 0 0, .slice none 0 0]) (by simp [results, Try.results10, go_sem, cR]) rfl ?_
    unfold JrA crA
    rw [if_neg HF.out]
    exact JrAns.code (((((hw.trans hn1').setCell (by simp) _).setCell (by simp) _).setCell (by simp) _).setCell (by simp) _)

end Go.Proofs.Ytdkjgjjkjfeodaa
