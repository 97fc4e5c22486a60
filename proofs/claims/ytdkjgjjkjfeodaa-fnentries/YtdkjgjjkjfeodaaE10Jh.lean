/- What is proved here: what the program answers of journals whose lists may be nil. -/
import Derived.Test.YtdkjgjjkjfeodaaE10Jg
namespace Go.Proofs.Ytdkjgjjkjfeodaa
open Go.RowKit
set_option linter.unusedVariables false
set_option linter.unusedSimpArgs false
set_option maxRecDepth 100000

theorem Sl10.up {w w' : World} {a : Option Addr} {n c : Nat} (h : Sl10 w a n c) (hs : w.heap.size ≤ w'.heap.size) : Sl10 w' a n c :=
  h.elim .inl (fun ⟨b, off, e, hb⟩ => .inr ⟨b, off, e, Nat.lt_of_lt_of_le hb hs⟩)
theorem Sl10.no {w : World} {a : Option Addr} {n c : Nat} (h : Sl10 w a n c) : a = none → n = 0 ∧ c = 0 := by
  intro e
  rcases h with ⟨-, h⟩ | ⟨b, off, h, -⟩
  · exact h
  · rw [e] at h; cases h

set_option maxHeartbeats 1600000 in
theorem implJFn (A1 A2 : Option Addr) (n c m d : Nat) (zs ys : List Int) (w : World) (h : BsAt w A1 zs) (k : BsAt w A2 ys) (hb : Sl10 w A1 n c) (hb2 : Sl10 w A2 m d) (hn : zs.length = n) (hm : ys.length = m) (hc : n ≤ c) (hd : m ≤ d) (hn1 : n ≤ 1048576) (hm1 : m ≤ 1048576) :
    Calls Try.prog 13 #[.agg #[.slice A1 n c, .slice A2 m d]] w fun e w' => e = .returned (.int .i64 (jF zs ys)) ∧ New w w' := by
  have hw := (New.refl w).alloc (.cells #[.slice A1 n c, .slice A2 m d] 25)
  have b0 := Blk.mk w w.heap.size 25 #[.slice A1 n c, .slice A2 m d] rfl
  have hlt := hw.size
  by_cases hbig : 6000 < n + m
  · have hf : Hid (jF zs ys = 2) := by unfold jF Hid; rw [hn, hm, if_pos hbig]
    have hbi : (6000 : Int) < (n : Int) + (m : Int) := by omega
    go_enter Try.func13, Try.ntmps13
    go_wp2
    go_ret
    exact ⟨ret_i64 hf.out.symm, hw⟩
  · have hbi : ¬ (6000 : Int) < (n : Int) + (m : Int) := by omega
    have hu := eUse_le zs zs.length 0 (by omega) (by omega)
    have hu2 := eUse_le ys ys.length 0 (by omega) (by omega)
    rw [hn] at hu
    rw [hm] at hu2
    by_cases h1 : eUse zs 0 < n
    · have hf : Hid (jF zs ys = 5) := by unfold jF Hid; rw [hn, hm, if_neg hbig, if_pos h1]
      have h1' : ((eUse zs 0 : Nat) : Int) < (n : Int) := by omega
      go_enter Try.func13, Try.ntmps13
      go_upto_region 3 with fail
      generalize w.alloc (.cells #[.slice A1 n c, .slice A2 m d] 25) = w0 at *
      have h' := h.new hw
      have k' := k.new hw
      have c0 := blk_regrown b0
      refine wp_region_quiet_below (by kernel_rfl) (by kernel_rfl) ?_
      repeat (go_big_quiet_step ((go_at_call 35; exact calls_regrown (wholeE A1 n c zs _ (h'.new (new_regrown _ _ _)) (hb.up (Nat.le_trans hlt (new_regrown _ _ _).size)) hn hc hn1))))
      refine wpQuiet_nil ?_
      rintro w1 k1
      replace k1 := new_of_regrown k1
      go_wp2
      go_ret
      exact ⟨ret_i64 hf.out.symm, hw.trans k1⟩
    · have h1e : eUse zs 0 = n := by omega
      have HU : Hid (eUse zs 0 = n) := h1e
      by_cases h2 : eUse ys 0 < m
      · have hf : Hid (jF zs ys = 5) := by unfold jF Hid; rw [hn, hm, if_neg hbig, if_neg h1, if_pos h2]
        have h2' : ((eUse ys 0 : Nat) : Int) < (m : Int) := by omega
        have HV : Hid (((eUse ys 0 : Nat) : Int) < (m : Int)) := h2'
        clear h1 h1e hu hu2
        go_enter Try.func13, Try.ntmps13
        go_upto_region 3 with fail
        generalize w.alloc (.cells #[.slice A1 n c, .slice A2 m d] 25) = w0 at *
        have h' := h.new hw
        have k' := k.new hw
        have c0 := blk_regrown b0
        refine wp_region_quiet_below (by kernel_rfl) (by kernel_rfl) ?_
        have W1 : ∀ X, New w0 X → Calls Try.prog 35 #[.slice A1 n c] X fun e w' => e = .returned (.slice A1 n c) ∧ New X w' := fun X hX => by have hh := wholeE A1 n c zs X (h'.new hX) (hb.up (Nat.le_trans hlt hX.size)) hn hc hn1; rw [HU.out] at hh; exact hh
        have W2 : ∀ X, New w0 X → Calls Try.prog 35 #[.slice A2 m d] X fun e w' => e = .returned (.slice A2 (eUse ys 0) d) ∧ New X w' := fun X hX => wholeE A2 m d ys X (k'.new hX) (hb2.up (Nat.le_trans hlt hX.size)) hm hd hm1
        repeat (go_big_quiet_step (first | (go_at_call_of 35 A1; exact calls_regrown (W1 _ (new_regrown _ _ _))) | (go_at_call_of 35 A2; exact calls_regrown (W2 _ (new_regrown _ _ _)))))
        refine wpQuiet_nil ?_
        rintro w1 k1
        replace k1 := new_of_regrown k1
        go_wp2
        go_ret
        exact ⟨ret_i64 hf.out.symm, hw.trans k1⟩
      · have hf : Hid (jF zs ys = 0) := by unfold jF Hid; rw [hn, hm, if_neg hbig, if_neg h1, if_neg h2]
        have h2e : eUse ys 0 = m := by omega
        have HV : Hid (eUse ys 0 = m) := h2e
        clear h1 h1e hu hu2 h2 h2e
        go_enter Try.func13, Try.ntmps13
        go_upto_region 3 with fail
        generalize w.alloc (.cells #[.slice A1 n c, .slice A2 m d] 25) = w0 at *
        have h' := h.new hw
        have k' := k.new hw
        have c0 := blk_regrown b0
        refine wp_region_quiet_below (by kernel_rfl) (by kernel_rfl) ?_
        have W1 : ∀ X, New w0 X → Calls Try.prog 35 #[.slice A1 n c] X fun e w' => e = .returned (.slice A1 n c) ∧ New X w' := fun X hX => by have hh := wholeE A1 n c zs X (h'.new hX) (hb.up (Nat.le_trans hlt hX.size)) hn hc hn1; rw [HU.out] at hh; exact hh
        have W2 : ∀ X, New w0 X → Calls Try.prog 35 #[.slice A2 m d] X fun e w' => e = .returned (.slice A2 m d) ∧ New X w' := fun X hX => by have hh := wholeE A2 m d ys X (k'.new hX) (hb2.up (Nat.le_trans hlt hX.size)) hm hd hm1; rw [HV.out] at hh; exact hh
        repeat (go_big_quiet_step (first | (go_at_call_of 35 A1; exact calls_regrown (W1 _ (new_regrown _ _ _))) | (go_at_call_of 35 A2; exact calls_regrown (W2 _ (new_regrown _ _ _)))))
        refine wpQuiet_nil ?_
        rintro w1 k1
        replace k1 := new_of_regrown k1
        go_wp2
        go_ret
        exact ⟨ret_i64 hf.out.symm, hw.trans k1⟩

set_option maxHeartbeats 3200000 in
theorem implSyn (A1 A2 : Option Addr) (n c m d : Nat) (zs ys : List Int) (w : World) (h : BsAt w A1 zs) (k : BsAt w A2 ys) (hb : Sl10 w A1 n c) (hb2 : Sl10 w A2 m d) (hn : zs.length = n) (hm : ys.length = m) (hc : n ≤ c) (hd : m ≤ d) (hn1 : n ≤ 1048576) (hm1 : m ≤ 1048576) :
    Calls Try.prog 12 #[.agg #[.slice A1 n c, .slice A2 m d]] w fun e w' => JrA w (syA zs ys) e w' := by
  have hw := ((New.refl w).alloc (.cells #[.slice A1 n c, .slice A2 m d] 25)).alloc (.cells #[.int .i64 0, .int .i64 0, .slice none 0 0, .slice none 0 0] 29)
  have bJ := (Blk.mk w w.heap.size 25 #[.slice A1 n c, .slice A2 m d] rfl).alloc (.cells #[.int .i64 0, .int .i64 0, .slice none 0 0, .slice none 0 0] 29)
  have bR := Blk.mk (w.alloc (.cells #[.slice A1 n c, .slice A2 m d] 25)) (w.heap.size + 1) 29 #[.int .i64 0, .int .i64 0, .slice none 0 0, .slice none 0 0] (by simp)
  by_cases hf : jF zs ys = 0
  · have hf' : (jF zs ys != 0) = false := by simp [hf]
    have HF : Hid (jF zs ys = 0) := hf
    obtain ⟨hs6, -, -⟩ := jF_zero hf
    clear hf
    go_enter Try.func12, Try.ntmps12
    go_wp2_with fail
    refine (implJFn A1 A2 n c m d zs ys _ (h.new hw) (k.new hw) (hb.up hw.size) (hb2.up hw.size) hn hm hc hd hn1 hm1).mono ?_
    rintro e w1 ⟨rfl, hn1'⟩
    have n1 := hw.trans hn1'
    have bJ1 := bJ.new hn1'
    have bR1 := bR.new hn1'
    have cJ := bJ1.cells
    have al := (New.refl w1).alloc (.cells #[.slice A1 n c, .slice A2 m d] 22)
    have bL := Blk.mk w1 w1.heap.size 22 #[.slice A1 n c, .slice A2 m d] rfl
    have lR := bR1.lt
    clear hn1' hw
    go_wp2_with fail
    refine (concat2 w1.heap.size A1 A2 n c m d zs ys _ (bL.cells 0) (bL.cells 1) ((h.new n1).new al) ((k.new n1).new al) hn hm (by first | exact hb.no | exact hb2.no | exact hb3.no | (intro h; cases h)) (by first | exact hb.no | exact hb2.no | exact hb3.no | (intro h; cases h)) hn1 hm1).mono ?_
    rintro e w2 ⟨v, rfl, ho, hn2⟩
    have hzz : ∀ z ∈ zs ++ ys, 0 ≤ z ∧ z ≤ 255 := fun z hz => (List.mem_append.1 hz).elim (h.lt z) (k.lt z)
    obtain ⟨a3, c3, rfl, ha3, hc3, hs3, -⟩ := ho.bs hzz
    have n12 := al.trans hn2
    have hl3 : (zs ++ ys).length ≤ 1048576 := by rw [List.length_append]; omega
    have hnn : a3 = none → (zs ++ ys).length = 0 ∧ c3 = 0 := by rintro rfl; rcases hs3 with h | ⟨g, h, _⟩; exact h.2; cases h
    have HN : Hid (a3 = none → (zs ++ ys).length = 0 ∧ c3 = 0) := hnn
    generalize hU : zs ++ ys = us at *
    generalize hL : us.length = l at *
    clear hnn hs3 cJ
    go_wp2_with fail
    refine (jOf a3 none l c3 0 0 us [] _ ha3 (BsAt.nil _ _) hL rfl HN.out (fun _ => ⟨rfl, rfl⟩) hl3 (by omega)).mono ?_
    rintro e w3 ⟨p1, p2, d1, d2, rfl, q1, q2, qa, qn⟩
    have bR3 := (bR1.new n12).new qn
    have cR := bR3.cells
    have fR := bR3.frees
    have s12 := n12.size
    have HL : Hid (us.length = l) := hL
    clear hL
    go_wp2
    refine bodyPost_ret (v := .agg #[.int .i64 0, .int .i64 (eCnt us + eCnt []), .slice p1 us.length d1, .slice p2 0 d2]) (by simp [results, Try.results12, go_sem, cR]) rfl ?_
    unfold JrA syA
    rw [if_pos HF.out, hU]
    exact JrAns.stored (ys := []) (B := w.heap.size + 1) (by omega) (by omega) (n1.trans n12) q1 q2 qa qn (Turn.set (S := fun i => i = w.heap.size + 1) (Turn.set (S := fun i => i = w.heap.size + 1) (Turn.set (S := fun i => i = w.heap.size + 1) (Turn.set (S := fun i => i = w.heap.size + 1) (Turn.refl _ _) rfl _) rfl _) rfl _) rfl _)
  · skip
    have hf' : (jF zs ys != 0) = true := by simp [hf]
    have HF : Hid (¬ jF zs ys = 0) := hf
    clear hf
    go_enter Try.func12, Try.ntmps12
    go_wp2_with fail
    refine (implJFn A1 A2 n c m d zs ys _ (h.new hw) (k.new hw) (hb.up hw.size) (hb2.up hw.size) hn hm hc hd hn1 hm1).mono ?_
    rintro e w1 ⟨rfl, hn1'⟩
    have bR1 := bR.new hn1'
    have cR := bR1.cells
    have fR := bR1.frees
    go_wp2
    refine bodyPost_ret (v := .agg #[.int .i64 (jF zs ys), .int .i64 0, .slice none 0 0, .slice none 0 0]) (by simp [results, Try.results12, go_sem, cR]) rfl ?_
    unfold JrA syA
    rw [if_neg HF.out]
    exact JrAns.code (((((hw.trans hn1').setCell (by simp) _).setCell (by simp) _).setCell (by simp) _).setCell (by simp) _)

set_option maxHeartbeats 6400000 in
theorem implAxn (A1 A2 : Option Addr) (n c m d : Nat) (zs ys : List Int) (w : World) (h : BsAt w A1 zs) (k : BsAt w A2 ys) (hb : Sl10 w A1 n c) (hb2 : Sl10 w A2 m d) (hn : zs.length = n) (hm : ys.length = m) (hc : n ≤ c) (hd : m ≤ d) (hn1 : n ≤ 1048576) (hm1 : m ≤ 1048576) (ep ki pe : Int) (A3 : Option Addr) (l cl : Nat) (es : List Int) (q : BsAt w A3 es) (hb3 : Nl A3 l cl) (hl : es.length = l) (hl1 : l ≤ 1048576) :
    Calls Try.prog 16 #[.agg #[.slice A1 n c, .slice A2 m d], .agg #[.int .i64 ep, .int .i64 ki, .int .i64 pe, .slice A3 l cl]] w fun e w' => JrA w (axA zs ys ep ki pe es) e w' := by
  have hw := (((New.refl w).alloc (.cells #[.slice A1 n c, .slice A2 m d] 25)).alloc (.cells #[.int .i64 ep, .int .i64 ki, .int .i64 pe, .slice A3 l cl] 40)).alloc (.cells #[.int .i64 0, .int .i64 0, .slice none 0 0, .slice none 0 0] 29)
  have bJ := ((Blk.mk w w.heap.size 25 #[.slice A1 n c, .slice A2 m d] rfl).alloc (.cells #[.int .i64 ep, .int .i64 ki, .int .i64 pe, .slice A3 l cl] 40)).alloc (.cells #[.int .i64 0, .int .i64 0, .slice none 0 0, .slice none 0 0] 29)
  have bE := (Blk.mk (w.alloc (.cells #[.slice A1 n c, .slice A2 m d] 25)) (w.heap.size + 1) 40 #[.int .i64 ep, .int .i64 ki, .int .i64 pe, .slice A3 l cl] (by simp)).alloc (.cells #[.int .i64 0, .int .i64 0, .slice none 0 0, .slice none 0 0] 29)
  have bR := Blk.mk ((w.alloc (.cells #[.slice A1 n c, .slice A2 m d] 25)).alloc (.cells #[.int .i64 ep, .int .i64 ki, .int .i64 pe, .slice A3 l cl] 40)) (w.heap.size + 1 + 1) 29 #[.int .i64 0, .int .i64 0, .slice none 0 0, .slice none 0 0] (by simp)
  by_cases hf : jF zs ys = 0
  · have hf' : (jF zs ys != 0) = false := by simp [hf]
    have HF : Hid (jF zs ys = 0) := hf
    obtain ⟨hs6, -, -⟩ := jF_zero hf
    clear hf
    go_enter Try.func16, Try.ntmps16
    go_wp2_with fail
    refine (implJFn A1 A2 n c m d zs ys _ (h.new hw) (k.new hw) (hb.up hw.size) (hb2.up hw.size) hn hm hc hd hn1 hm1).mono ?_
    rintro e w1 ⟨rfl, hn1'⟩
    have n1 := hw.trans hn1'
    have bJ1 := bJ.new hn1'
    have bE1 := bE.new hn1'
    have bR1 := bR.new hn1'
    have cE := bE1.cells
    clear hn1' hw
    go_wp2_with fail
    refine (implPE ep ki pe A3 l cl es _ (q.new n1) hl hl1 (by first | exact hb.no | exact hb2.no | exact hb3.no | (intro h; cases h))).mono ?_
    rintro e w2 ⟨a2, m2, cap2, us, rfl, ho2, hus, hp2, hn2, HY, hnil2⟩
    rw [hl]
    have al2 := (New.refl w2).alloc (.cells #[.int .i64 (enF ep ki pe l), .slice a2 m2 cap2] 46)
    have n2 := hn2.trans al2
    have bJ2 := bJ1.new n2
    have bR2 := bR1.new n2
    have b2' := Blk.mk w2 w2.heap.size 46 #[.int .i64 (enF ep ki pe l), .slice a2 m2 cap2] rfl
    have c2 := b2'.cells
    have lR := bR2.lt
    have u2 : BsAt w2 a2 us := ho2.bs hus
    have hm2 := ho2.1
    rw [hl] at HY
    clear cE bE1
    by_cases hg : enF ep ki pe l = 0
    · have hg' : (enF ep ki pe l != 0) = false := by simp [hg]
      have HG : Hid (enF ep ki pe l = 0) := hg
      rw [if_pos hg] at HY
      have hlu : m2 = 8 + l := by rw [← hm2, HY, enP_len, hl]
      have HM : Hid (us.length = 8 + l) := by rw [← hlu]; exact hm2
      have HYY : Hid (us = enP ep ki pe es) := HY
      have l60 := (enF_zero hg).2.2.2.2.2.2
      clear hg HY
      subst hlu
      go_upto_region 7 with fail
      generalize hw3 : w2.alloc (.cells #[.int .i64 (enF ep ki pe l), .slice a2 (8 + l) cap2] 46) = w3 at *
      have cJ := bJ2.cells
      by_cases hbig : 6000 < n + m + (8 + l)
      · have hbi : (6000 : Int) < (n : Int) + (m : Int) + (8 + (l : Int)) := by omega
        have HB : Hid (6000 < n + m + (8 + l)) := hbig
        have cR := bR2.cells
        have fR := bR2.frees
        clear hbig
        go_wp2
        refine bodyPost_ret (v := .agg #[.int .i64 2, .int .i64 0, .slice none 0 0, .slice none 0 0]) (by simp [results, Try.results16, go_sem, cR]) rfl ?_
        unfold JrA axA
        rw [if_pos HF.out, hl, if_pos HG.out, hn, hm, if_pos HB.out]
        exact JrAns.code (((((n1.trans n2).setCell (by simp; omega) _).setCell (by simp; omega) _).setCell (by simp; omega) _).setCell (by simp; omega) _)
      · have hbi : ¬ (6000 : Int) < (n : Int) + (m : Int) + (8 + (l : Int)) := by omega
        have HB : Hid (¬ 6000 < n + m + (8 + l)) := hbig
        have hnil3 : a2 = none → 8 + l = 0 ∧ cap2 = 0 := hnil2
        have HNI : Hid (a2 = none → 8 + l = 0 ∧ cap2 = 0) := hnil3
        have n13 := n1.trans n2
        have h3 := h.new n13
        have k3 := k.new n13
        have u3 := u2.new al2
        clear hbig hnil2 hnil3
        go_upto_region 9 with fail
        have cJd := (bJ2.new ((New.refl _).drew)).cells
        have c2d := (b2'.new ((New.refl _).drew)).cells
        have al : New w3 (w3.alloc (.cells #[.slice A2 m d, .slice a2 (8 + l) cap2] 22)).drew := ((New.refl w3).alloc _).drew
        have cJa := (bJ2.new al).cells
        have c2a := (b2'.new al).cells
        have bL := (Blk.mk w3 w3.heap.size 22 #[.slice A2 m d, .slice a2 (8 + l) cap2] rfl).new ((New.refl _).drew)
        have hCC := concat2 w3.heap.size A2 a2 m d (8 + l) cap2 ys us _ (bL.cells 0) (bL.cells 1) (k3.new al) (u3.new al) hm HM.out (by first | exact hb.no | exact hb2.no | exact hb3.no | (intro h; cases h)) HNI.out hm1 (by omega)
        have HZ : Hid (∀ z ∈ ys ++ us, 0 ≤ z ∧ z ≤ 255) := fun z hz => (List.mem_append.1 hz).elim (k.lt z) (hus z)
        have hul : (ys ++ us).length ≤ 12000 := by rw [List.length_append, HM.out]; omega
        generalize hV : ys ++ us = vs at *
        have hne : ¬ w.heap.size + 1 + 1 = w.heap.size := by omega
        have hne2 : ¬ w.heap.size + 1 + 1 = w2.heap.size := by have := bR1.lt; have := hn2.size; omega
        go_region_held3 (fun X => (∀ j, X.cell? ⟨w.heap.size, j, none⟩ = (#[.slice A1 n c, .slice A2 m d] : Array Value)[j]?) ∧ (∀ j, X.cell? ⟨w2.heap.size, j, none⟩ = (#[.int .i64 (enF ep ki pe l), .slice a2 (8 + l) cap2] : Array Value)[j]?)) (first | (with_reducible exact ⟨cJ, c2⟩) | (with_reducible exact ⟨cJd, c2d⟩) | (with_reducible exact ⟨cJa, c2a⟩) | (with_reducible exact ⟨cJ4, c24⟩) | (with_reducible exact ⟨cJ5, c25⟩) | (refine ⟨?_, ?_⟩; (intro j; rw [cell_set10 hne, cell_set10 hne, cell_set10 hne, cell_set10 hne]; with_reducible exact cJ5 j); (intro j; rw [cell_set10 hne2, cell_set10 hne2, cell_set10 hne2, cell_set10 hne2]; with_reducible exact c25 j)))
          (first
            | (go_at_call 33; refine hCC.mono ?_; rintro e w4 ⟨v, rfl, ho, hn4⟩; have n4 := al.trans hn4; have cJ4 := (bJ2.new n4).cells; have c24 := (b2'.new n4).cells; obtain ⟨a4, c4, rfl, ha4, hc4, hs4, -⟩ := ho.bs HZ.out; have hnn : a4 = none → vs.length = 0 ∧ c4 = 0 := (by rintro rfl; rcases hs4 with h | ⟨g, h, _⟩; exact h.2; cases h))
            | (go_at_call 34; refine (jOf A1 a4 n c vs.length c4 zs vs _ (h3.new n4) ha4 hn rfl (by first | exact hb.no | exact hb2.no | exact hb3.no | (intro h; cases h)) hnn hn1 (by omega)).mono ?_; rintro e w5 ⟨p1, p2, d1, d2, rfl, q1, q2, qa, qn⟩; have n5 := n4.trans qn; have cJ5 := (bJ2.new n5).cells; have c25 := (b2'.new n5).cells; have bR5 := bR2.new n5; have cR := bR5.cells; have fR := bR5.frees; have z4 := n4.size))
        all_goals
          clear cJ c2 cJd c2d cJa c2a cJ4 c24 cJ5 c25 hnn hs4
          go_wp2
          refine bodyPost_ret (v := .agg #[.int .i64 0, .int .i64 (eCnt zs + eCnt vs), .slice p1 n d1, .slice p2 vs.length d2]) (by simp [results, Try.results16, go_sem, cR, hn]) rfl ?_
          unfold JrA axA
          rw [if_pos HF.out, hl, if_pos HG.out, hn, hm, if_neg HB.out, ← HYY.out, hV]
          exact JrAns.stored3 hn (B := w.heap.size + 1 + 1) (by omega) (by omega) (n13.trans n4) q1 q2 qa qn (Turn.set (S := fun i => i = w.heap.size + 1 + 1) (Turn.set (S := fun i => i = w.heap.size + 1 + 1) (Turn.set (S := fun i => i = w.heap.size + 1 + 1) (Turn.set (S := fun i => i = w.heap.size + 1 + 1) (Turn.refl _ _) rfl _) rfl _) rfl _) rfl _)
    · have hg' : (enF ep ki pe l != 0) = true := by simp [hg]
      have HG : Hid (¬ enF ep ki pe l = 0) := hg
      have cR := bR2.cells
      have fR := bR2.frees
      clear hg
      go_wp2
      refine bodyPost_ret (v := .agg #[.int .i64 (enF ep ki pe l), .int .i64 0, .slice none 0 0, .slice none 0 0]) (by simp [results, Try.results16, go_sem, cR]) rfl ?_
      unfold JrA axA
      rw [if_pos HF.out, hl, if_neg HG.out]
      exact JrAns.code (((((n1.trans n2).setCell (by simp; omega) _).setCell (by simp; omega) _).setCell (by simp; omega) _).setCell (by simp; omega) _)
  · skip
    have hf' : (jF zs ys != 0) = true := by simp [hf]
    have HF : Hid (¬ jF zs ys = 0) := hf
    clear hf
    go_enter Try.func16, Try.ntmps16
    go_wp2_with fail
    refine (implJFn A1 A2 n c m d zs ys _ (h.new hw) (k.new hw) (hb.up hw.size) (hb2.up hw.size) hn hm hc hd hn1 hm1).mono ?_
    rintro e w1 ⟨rfl, hn1'⟩
    have bR1 := bR.new hn1'
    have cR := bR1.cells
    have fR := bR1.frees
    go_wp2
    refine bodyPost_ret (v := .agg #[.int .i64 (jF zs ys), .int .i64 0, .slice none 0 0, .slice none 0 0]) (by simp [results, Try.results16, go_sem, cR]) rfl ?_
    unfold JrA axA
    rw [if_neg HF.out]
    exact JrAns.code (((((hw.trans hn1').setCell (by simp; omega) _).setCell (by simp; omega) _).setCell (by simp; omega) _).setCell (by simp; omega) _)

end Go.Proofs.Ytdkjgjjkjfeodaa
