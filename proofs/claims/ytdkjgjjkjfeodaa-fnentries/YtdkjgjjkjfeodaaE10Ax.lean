/- What is proved here: what appending an entry to a journal answers, in the program and in the model, for every journal of at most 1048576 bytes each and every entry of at most as many. -/
import Derived.Test.YtdkjgjjkjfeodaaE10Sy
import Derived.Test.YtdkjgjjkjfeodaaE10Ps
namespace Go.Proofs.Ytdkjgjjkjfeodaa
open Go.RowKit
set_option linter.unusedVariables false
set_option linter.unusedSimpArgs false
set_option maxRecDepth 100000

/-- What AppendJournal answers. -/
def axA (zs ys : List Int) (ep ki pe : Int) (es : List Int) : Int × Int × List Int × List Int :=
  if jF zs ys = 0 then (if enF ep ki pe es.length = 0 then (if 6000 < zs.length + ys.length + (8 + es.length) then (2, 0, [], []) else (0, eCnt zs + eCnt (ys ++ enP ep ki pe es), zs, ys ++ enP ep ki pe es)) else (enF ep ki pe es.length, 0, [], [])) else (jF zs ys, 0, [], [])

theorem JrAns.stored3 {w w5 w9 w' : World} {B : Nat} {z ct : Int} {zs ys : List Int} {p1 p2 : Option Addr} {d1 d2 n : Nat} (hn : zs.length = n) (hB : w.heap.size ≤ B) (hB5 : B < w5.heap.size) (h5 : New w w5) (q1 : OvB w9 w5.heap.size (.slice p1 zs.length d1) zs) (q2 : OvB w9 w5.heap.size (.slice p2 ys.length d2) ys)
    (qa : ∀ x y, p1 = some x → p2 = some y → x.block ≠ y.block) (qn : New w5 w9) (t : Turn (fun i => i = B) w9 w') : JrAns w z ct zs ys (.returned (.agg #[.int .i64 z, .int .i64 ct, .slice p1 n d1, .slice p2 ys.length d2])) w' := by
  subst hn
  exact JrAns.stored hB hB5 h5 q1 q2 qa qn t

set_option maxHeartbeats 6400000 in
theorem implAx (b o n c b2 f2 m d : Nat) (zs ys : List Int) (w : World) (h : BsAt w (some ⟨b, o, none⟩) zs) (k : BsAt w (some ⟨b2, f2, none⟩) ys) (hb : b < w.heap.size) (hb2 : b2 < w.heap.size) (hn : zs.length = n) (hm : ys.length = m) (hc : n ≤ c) (hd : m ≤ d) (hn1 : n ≤ 1048576) (hm1 : m ≤ 1048576) (ep ki pe : Int) (b3 f3 l cl : Nat) (es : List Int) (q : BsAt w (some ⟨b3, f3, none⟩) es) (hl : es.length = l) (hl1 : l ≤ 1048576) :
    Calls Try.prog 16 #[.agg #[.slice (some ⟨b, o, none⟩) n c, .slice (some ⟨b2, f2, none⟩) m d], .agg #[.int .i64 ep, .int .i64 ki, .int .i64 pe, .slice (some ⟨b3, f3, none⟩) l cl]] w fun e w' => JrA w (axA zs ys ep ki pe es) e w' := by
  have hw := (((New.refl w).alloc (.cells #[.slice (some ⟨b, o, none⟩) n c, .slice (some ⟨b2, f2, none⟩) m d] 25)).alloc (.cells #[.int .i64 ep, .int .i64 ki, .int .i64 pe, .slice (some ⟨b3, f3, none⟩) l cl] 40)).alloc (.cells #[.int .i64 0, .int .i64 0, .slice none 0 0, .slice none 0 0] 29)
  have bJ := ((Blk.mk w w.heap.size 25 #[.slice (some ⟨b, o, none⟩) n c, .slice (some ⟨b2, f2, none⟩) m d] rfl).alloc (.cells #[.int .i64 ep, .int .i64 ki, .int .i64 pe, .slice (some ⟨b3, f3, none⟩) l cl] 40)).alloc (.cells #[.int .i64 0, .int .i64 0, .slice none 0 0, .slice none 0 0] 29)
  have bE := (Blk.mk (w.alloc (.cells #[.slice (some ⟨b, o, none⟩) n c, .slice (some ⟨b2, f2, none⟩) m d] 25)) (w.heap.size + 1) 40 #[.int .i64 ep, .int .i64 ki, .int .i64 pe, .slice (some ⟨b3, f3, none⟩) l cl] (by simp)).alloc (.cells #[.int .i64 0, .int .i64 0, .slice none 0 0, .slice none 0 0] 29)
  have bR := Blk.mk ((w.alloc (.cells #[.slice (some ⟨b, o, none⟩) n c, .slice (some ⟨b2, f2, none⟩) m d] 25)).alloc (.cells #[.int .i64 ep, .int .i64 ki, .int .i64 pe, .slice (some ⟨b3, f3, none⟩) l cl] 40)) (w.heap.size + 1 + 1) 29 #[.int .i64 0, .int .i64 0, .slice none 0 0, .slice none 0 0] (by simp)
  by_cases hf : jF zs ys = 0
  · have hf' : (jF zs ys != 0) = false := by simp [hf]
    have HF : Hid (jF zs ys = 0) := hf
    obtain ⟨hs6, -, -⟩ := jF_zero hf
    clear hf
    go_enter Try.func16, Try.ntmps16
    go_wp2_with fail
    refine (implJF b o n c b2 f2 m d zs ys _ (h.new hw) (k.new hw) (by simp; omega) (by simp; omega) hn hm hc hd hn1 hm1).mono ?_
    rintro e w1 ⟨rfl, hn1'⟩
    have n1 := hw.trans hn1'
    have bJ1 := bJ.new hn1'
    have bE1 := bE.new hn1'
    have bR1 := bR.new hn1'
    have cE := bE1.cells
    clear hn1' hw
    go_wp2_with fail
    refine (implPE ep ki pe (some ⟨b3, f3, none⟩) l cl es _ (q.new n1) hl hl1 (by intro h; cases h)).mono ?_
    rintro e w2 ⟨a2, m2, cap2, us, rfl, ho2, hus, hp2, hn2, HY, hnil2⟩
    rw [hl]
    have al2 := (New.refl w2).alloc (.cells #[.int .i64 (enF ep ki pe l), .slice a2 m2 cap2] 46)
    have n2 := hn2.trans al2
    have bJ2 := bJ1.new n2
    have bR2 := bR1.new n2
    have b2' := Blk.mk w2 w2.heap.size 46 #[.int .i64 (enF ep ki pe l), .slice a2 m2 cap2] rfl
    have c2 := b2'.cells
    have lR := bR2.lt
    have u2 : BsAt w2 a2 us := ho2.bs hus
    have hm2 := ho2.1
    rw [hl] at HY
    clear cE bE1
    by_cases hg : enF ep ki pe l = 0
    · have hg' : (enF ep ki pe l != 0) = false := by simp [hg]
      have HG : Hid (enF ep ki pe l = 0) := hg
      rw [if_pos hg] at HY
      have hlu : m2 = 8 + l := by rw [← hm2, HY, enP_len, hl]
      have HM : Hid (us.length = 8 + l) := by rw [← hlu]; exact hm2
      have HYY : Hid (us = enP ep ki pe es) := HY
      have l60 := (enF_zero hg).2.2.2.2.2.2
      clear hg HY
      subst hlu
      go_upto_region 7 with fail
      generalize hw3 : w2.alloc (.cells #[.int .i64 (enF ep ki pe l), .slice a2 (8 + l) cap2] 46) = w3 at *
      have cJ := bJ2.cells
      by_cases hbig : 6000 < n + m + (8 + l)
      · have hbi : (6000 : Int) < (n : Int) + (m : Int) + (8 + (l : Int)) := by omega
        have HB : Hid (6000 < n + m + (8 + l)) := hbig
        have cR := bR2.cells
        have fR := bR2.frees
        clear hbig
        go_wp2
        refine bodyPost_ret (v := .agg #[.int .i64 2, .int .i64 0, .slice none 0 0, .slice none 0 0]) (by simp [results, Try.results16, go_sem, cR]) rfl ?_
        unfold JrA axA
        rw [if_pos HF.out, hl, if_pos HG.out, hn, hm, if_pos HB.out]
        exact JrAns.code (((((n1.trans n2).setCell (by simp; omega) _).setCell (by simp; omega) _).setCell (by simp; omega) _).setCell (by simp; omega) _)
      · have hbi : ¬ (6000 : Int) < (n : Int) + (m : Int) + (8 + (l : Int)) := by omega
        have HB : Hid (¬ 6000 < n + m + (8 + l)) := hbig
        have hnil3 : a2 = none → 8 + l = 0 ∧ cap2 = 0 := hnil2
        have HNI : Hid (a2 = none → 8 + l = 0 ∧ cap2 = 0) := hnil3
        have n13 := n1.trans n2
        have h3 := h.new n13
        have k3 := k.new n13
        have u3 := u2.new al2
        clear hbig hnil2 hnil3
        go_upto_region 9 with fail
        have cJd := (bJ2.new ((New.refl _).drew)).cells
        have c2d := (b2'.new ((New.refl _).drew)).cells
        have al : New w3 (w3.alloc (.cells #[.slice (some ⟨b2, f2, none⟩) m d, .slice a2 (8 + l) cap2] 22)).drew := ((New.refl w3).alloc _).drew
        have cJa := (bJ2.new al).cells
        have c2a := (b2'.new al).cells
        have bL := (Blk.mk w3 w3.heap.size 22 #[.slice (some ⟨b2, f2, none⟩) m d, .slice a2 (8 + l) cap2] rfl).new ((New.refl _).drew)
        have hCC := concat2 w3.heap.size (some ⟨b2, f2, none⟩) a2 m d (8 + l) cap2 ys us _ (bL.cells 0) (bL.cells 1) (k3.new al) (u3.new al) hm HM.out (by intro h; cases h) HNI.out hm1 (by omega)
        have HZ : Hid (∀ z ∈ ys ++ us, 0 ≤ z ∧ z ≤ 255) := fun z hz => (List.mem_append.1 hz).elim (k.lt z) (hus z)
        have hul : (ys ++ us).length ≤ 12000 := by rw [List.length_append, HM.out]; omega
        generalize hV : ys ++ us = vs at *
        have hne : ¬ w.heap.size + 1 + 1 = w.heap.size := by omega
        have hne2 : ¬ w.heap.size + 1 + 1 = w2.heap.size := by have := bR1.lt; have := hn2.size; omega
        go_region_held3 (fun X => (∀ j, X.cell? ⟨w.heap.size, j, none⟩ = (#[.slice (some ⟨b, o, none⟩) n c, .slice (some ⟨b2, f2, none⟩) m d] : Array Value)[j]?) ∧ (∀ j, X.cell? ⟨w2.heap.size, j, none⟩ = (#[.int .i64 (enF ep ki pe l), .slice a2 (8 + l) cap2] : Array Value)[j]?)) (first | (with_reducible exact ⟨cJ, c2⟩) | (with_reducible exact ⟨cJd, c2d⟩) | (with_reducible exact ⟨cJa, c2a⟩) | (with_reducible exact ⟨cJ4, c24⟩) | (with_reducible exact ⟨cJ5, c25⟩) | (refine ⟨?_, ?_⟩; (intro j; rw [cell_set10 hne, cell_set10 hne, cell_set10 hne, cell_set10 hne]; with_reducible exact cJ5 j); (intro j; rw [cell_set10 hne2, cell_set10 hne2, cell_set10 hne2, cell_set10 hne2]; with_reducible exact c25 j)))
          (first
            | (go_at_call 33; refine hCC.mono ?_; rintro e w4 ⟨v, rfl, ho, hn4⟩; have n4 := al.trans hn4; have cJ4 := (bJ2.new n4).cells; have c24 := (b2'.new n4).cells; obtain ⟨a4, c4, rfl, ha4, hc4, hs4, -⟩ := ho.bs HZ.out; have hnn : a4 = none → vs.length = 0 ∧ c4 = 0 := (by rintro rfl; rcases hs4 with h | ⟨g, h, _⟩; exact h.2; cases h))
            | (go_at_call 34; refine (jOf (some ⟨b, o, none⟩) a4 n c vs.length c4 zs vs _ (h3.new n4) ha4 hn rfl (by intro h; cases h) hnn hn1 (by omega)).mono ?_; rintro e w5 ⟨p1, p2, d1, d2, rfl, q1, q2, qa, qn⟩; have n5 := n4.trans qn; have cJ5 := (bJ2.new n5).cells; have c25 := (b2'.new n5).cells; have bR5 := bR2.new n5; have cR := bR5.cells; have fR := bR5.frees; have z4 := n4.size))
        all_goals
          clear cJ c2 cJd c2d cJa c2a cJ4 c24 cJ5 c25 hnn hs4
          go_wp2
          refine bodyPost_ret (v := .agg #[.int .i64 0, .int .i64 (eCnt zs + eCnt vs), .slice p1 n d1, .slice p2 vs.length d2]) (by simp [results, Try.results16, go_sem, cR, hn]) rfl ?_
          unfold JrA axA
          rw [if_pos HF.out, hl, if_pos HG.out, hn, hm, if_neg HB.out, ← HYY.out, hV]
          exact JrAns.stored3 hn (B := w.heap.size + 1 + 1) (by omega) (by omega) (n13.trans n4) q1 q2 qa qn (Turn.set (S := fun i => i = w.heap.size + 1 + 1) (Turn.set (S := fun i => i = w.heap.size + 1 + 1) (Turn.set (S := fun i => i = w.heap.size + 1 + 1) (Turn.set (S := fun i => i = w.heap.size + 1 + 1) (Turn.refl _ _) rfl _) rfl _) rfl _) rfl _)
    · have hg' : (enF ep ki pe l != 0) = true := by simp [hg]
      have HG : Hid (¬ enF ep ki pe l = 0) := hg
      have cR := bR2.cells
      have fR := bR2.frees
      clear hg
      go_wp2
      refine bodyPost_ret (v := .agg #[.int .i64 (enF ep ki pe l), .int .i64 0, .slice none 0 0, .slice none 0 0]) (by simp [results, Try.results16, go_sem, cR]) rfl ?_
      unfold JrA axA
      rw [if_pos HF.out, hl, if_neg HG.out]
      exact JrAns.code (((((n1.trans n2).setCell (by simp; omega) _).setCell (by simp; omega) _).setCell (by simp; omega) _).setCell (by simp; omega) _)
  · skip
    have hf' : (jF zs ys != 0) = true := by simp [hf]
    have HF : Hid (¬ jF zs ys = 0) := hf
    clear hf
    go_enter Try.func16, Try.ntmps16
    go_wp2_with fail
    refine (implJF b o n c b2 f2 m d zs ys _ (h.new hw) (k.new hw) (by simp; omega) (by simp; omega) hn hm hc hd hn1 hm1).mono ?_
    rintro e w1 ⟨rfl, hn1'⟩
    have bR1 := bR.new hn1'
    have cR := bR1.cells
    have fR := bR1.frees
    go_wp2
    refine bodyPost_ret (v := .agg #[.int .i64 (jF zs ys), .int .i64 0, .slice none 0 0, .slice none 0 0]) (by simp [results, Try.results16, go_sem, cR]) rfl ?_
    unfold JrA axA
    rw [if_neg HF.out]
    exact JrAns.code (((((hw.trans hn1').setCell (by simp; omega) _).setCell (by simp; omega) _).setCell (by simp; omega) _).setCell (by simp; omega) _)

set_option maxHeartbeats 6400000 in
theorem specAx (b o n c b2 f2 m d : Nat) (zs ys : List Int) (w : World) (h : BsAt w (some ⟨b, o, none⟩) zs) (k : BsAt w (some ⟨b2, f2, none⟩) ys) (hb : b < w.heap.size) (hb2 : b2 < w.heap.size) (hn : zs.length = n) (hm : ys.length = m) (hc : n ≤ c) (hd : m ≤ d) (hn1 : n ≤ 1048576) (hm1 : m ≤ 1048576) (ep ki pe : Int) (b3 f3 l cl : Nat) (es : List Int) (q : BsAt w (some ⟨b3, f3, none⟩) es) (hl : es.length = l) (hl1 : l ≤ 1048576) :
    Calls Try.prog 17 #[.agg #[.slice (some ⟨b, o, none⟩) n c, .slice (some ⟨b2, f2, none⟩) m d], .agg #[.int .i64 ep, .int .i64 ki, .int .i64 pe, .slice (some ⟨b3, f3, none⟩) l cl]] w fun e w' => JrA w (axA zs ys ep ki pe es) e w' := by
  obtain ⟨i0, hi, hz0, hz1, hz2⟩ := info_parts Try.infoU8
  have hw := (((New.refl w).alloc (.cells #[.slice (some ⟨b, o, none⟩) n c, .slice (some ⟨b2, f2, none⟩) m d] 25)).alloc (.cells #[.int .i64 ep, .int .i64 ki, .int .i64 pe, .slice (some ⟨b3, f3, none⟩) l cl] 40)).alloc (.cells #[.int .i64 0, .int .i64 0, .slice none 0 0, .slice none 0 0] 29)
  have bJ := ((Blk.mk w w.heap.size 25 #[.slice (some ⟨b, o, none⟩) n c, .slice (some ⟨b2, f2, none⟩) m d] rfl).alloc (.cells #[.int .i64 ep, .int .i64 ki, .int .i64 pe, .slice (some ⟨b3, f3, none⟩) l cl] 40)).alloc (.cells #[.int .i64 0, .int .i64 0, .slice none 0 0, .slice none 0 0] 29)
  have bE := (Blk.mk (w.alloc (.cells #[.slice (some ⟨b, o, none⟩) n c, .slice (some ⟨b2, f2, none⟩) m d] 25)) (w.heap.size + 1) 40 #[.int .i64 ep, .int .i64 ki, .int .i64 pe, .slice (some ⟨b3, f3, none⟩) l cl] (by simp)).alloc (.cells #[.int .i64 0, .int .i64 0, .slice none 0 0, .slice none 0 0] 29)
  have bR := Blk.mk ((w.alloc (.cells #[.slice (some ⟨b, o, none⟩) n c, .slice (some ⟨b2, f2, none⟩) m d] 25)).alloc (.cells #[.int .i64 ep, .int .i64 ki, .int .i64 pe, .slice (some ⟨b3, f3, none⟩) l cl] 40)) (w.heap.size + 1 + 1) 29 #[.int .i64 0, .int .i64 0, .slice none 0 0, .slice none 0 0] (by simp)
  by_cases hf : jF zs ys = 0
  · have hf' : (jF zs ys != 0) = false := by simp [hf]
    have HF : Hid (jF zs ys = 0) := hf
    obtain ⟨hs6, -, -⟩ := jF_zero hf
    clear hf
    go_enter Try.func17, Try.ntmps17
    go_wp2_with fail
    refine (specJF b o n c b2 f2 m d zs ys _ (h.new hw) (k.new hw) (by simp; omega) (by simp; omega) hn hm hc hd hn1 hm1).mono ?_
    rintro e w1 ⟨rfl, hn1'⟩
    have n1 := hw.trans hn1'
    have bJ1 := bJ.new hn1'
    have bE1 := bE.new hn1'
    have bR1 := bR.new hn1'
    have cE := bE1.cells
    clear hn1' hw
    go_wp2_with fail
    refine (specEN ep ki pe (some ⟨b3, f3, none⟩) l cl _ hl1).mono ?_
    rintro e w2 ⟨rfl, hn2⟩
    have n2 := n1.trans hn2
    have bJ2 := bJ1.new hn2
    have bE2 := bE1.new hn2
    have bR2 := bR1.new hn2
    have lR := bR2.lt
    clear cE
    by_cases hg : enF ep ki pe l = 0
    · have hg' : (enF ep ki pe l != 0) = false := by simp [hg]
      have HG : Hid (enF ep ki pe l = 0) := hg
      obtain ⟨he1, he2, hk1, hk4, hp0, hp2, l60⟩ := enF_zero hg
      have hus := enP_bd (ep := ep) (k := ki) (p := pe) q.lt ⟨he1, he2⟩ ⟨hk1, hk4⟩ ⟨hp0, hp2⟩ (by rw [hl]; exact l60)
      have HLE : Hid ((enP ep ki pe es).length = 8 + l) := by unfold Hid; rw [enP_len, hl]
      have hLP := fun (X : World) (hX : New w2 X) => l10Pack_any ep ki pe (some ⟨b3, f3, none⟩) l cl es X ((q.new n2).new hX) hl (by intro h; cases h) hg
      clear hg he1 he2 hk1 hk4 hp0 hp2
      generalize hUU : enP ep ki pe es = us at *
      go_upto_region 7 with fail
      have cJ := bJ2.cells
      have cE := bE2.cells
      have cJd := (bJ2.new ((New.refl _).drew)).cells
      have cEd := (bE2.new ((New.refl _).drew)).cells
      have N0 : New w2 (w2.alloc (.cells #[] 5)).drew := ((New.refl _).alloc _).drew
      have cJa := (bJ2.new N0).cells
      have cEa := (bE2.new N0).cells
      have L0 : OvB (w2.alloc (.cells #[] 5)).drew w2.heap.size (.slice (some ⟨w2.heap.size, 0, none⟩) 0 0) [] := (lit_ov w2).new ((New.refl _).drew)
      have L0b := L0.blk
      have k2 := k.new n2
      obtain ⟨vs, hV⟩ : ∃ vs, ys ++ us = vs := ⟨_, rfl⟩
      have HZ : Hid (∀ z ∈ vs, 0 ≤ z ∧ z ≤ 255) := by rw [← hV]; exact fun z hz => (List.mem_append.1 hz).elim (k.lt z) (hus z)
      have HVL : Hid (vs.length = m + (8 + l)) := by unfold Hid; rw [← hV, List.length_append, hm, HLE.out]
      go_region_held3 (fun X => (∀ j, X.cell? ⟨w.heap.size, j, none⟩ = (#[.slice (some ⟨b, o, none⟩) n c, .slice (some ⟨b2, f2, none⟩) m d] : Array Value)[j]?) ∧ (∀ j, X.cell? ⟨w.heap.size + 1, j, none⟩ = (#[.int .i64 ep, .int .i64 ki, .int .i64 pe, .slice (some ⟨b3, f3, none⟩) l cl] : Array Value)[j]?)) (first | (with_reducible exact ⟨cJ, cE⟩) | (with_reducible exact ⟨cJd, cEd⟩) | (with_reducible exact ⟨cJa, cEa⟩) | (with_reducible exact ⟨cJ3, cE3⟩) | (with_reducible exact ⟨cJ4, cE4⟩) | (with_reducible exact ⟨cJ5, cE5⟩))
        (first
          | (refine step_apB _ rfl (.tmp 20) (.tmp 22) rfl w2.heap.size Try.underlying22 hi hz0 hz1 hz2 _ [] rfl L0 (some ⟨b2, f2, none⟩) m d ys rfl (k2.new N0) hm (by intro h; cases h) (by simp; omega) N0.size ?_; intro v3 w3 ho3 hg3; have N3 : New w2 w3 := N0.grow hg3 (fun k hk => L0b k hk); have cJ3 := (bJ2.new N3).cells; have cE3 := (bE2.new N3).cells; have o3 : OvB w3 w2.heap.size v3 ys := (by first | exact ho3 | (unfold OvB; simpa using ho3) | (unfold OvB; rw [hm]; simpa using ho3)))
          | (go_at_call 46; refine (hLP _ N3).mono ?_; rintro e w4 ⟨g4, cap4, rfl, hg4, ho4, hn4⟩; have N4 := N3.trans hn4; have cJ4 := (bJ2.new N4).cells; have cE4 := (bE2.new N4).cells; have o4 := o3.new hn4; have o4b := o4.blk; have u4 : BsAt w4 (some ⟨g4, 0, none⟩) us := BsAt.of_own ho4 hus)
          | (refine step_apB _ rfl (.tmp 23) (.tmp 25) rfl w2.heap.size Try.underlying22 hi hz0 hz1 hz2 v3 ys rfl o4 (some ⟨g4, 0, none⟩) (8 + l) cap4 us rfl u4 HLE.out (by intro h; cases h) (by omega) N4.size ?_; intro v5 w5 ho5 hg5; have N5 : New w2 w5 := N4.grow hg5 (fun k hk => o4b k hk); have cJ5 := (bJ2.new N5).cells; have cE5 := (bE2.new N5).cells; have o5 : OvB w5 w2.heap.size v5 vs := (by rw [← hV]; first | exact ho5 | (unfold OvB; simpa using ho5) | (unfold OvB; simpa [hm, HLE.out] using ho5))))
      all_goals
        obtain ⟨a5, c5, rfl, ha5, hc5, hs5, -⟩ := o5.bs HZ.out
        rw [HVL.out] at hc5 hs5
        have hsy : (a5 = none ∧ m + (8 + l) = 0 ∧ c5 = 0) ∨ ∃ b off, a5 = some ⟨b, off, none⟩ := by
          rcases hs5 with h | ⟨g, h, _⟩
          · exact .inl h
          · exact .inr ⟨g, 0, h⟩
        have HSY : Hid ((a5 = none ∧ m + (8 + l) = 0 ∧ c5 = 0) ∨ ∃ b off, a5 = some ⟨b, off, none⟩) := hsy
        have n25 := n2.trans N5
        have bR5 := bR2.new N5
        have bJ5 := bJ2.new N5
        have z5 := N5.size
        rw [HVL.out]
        clear cJ cE cJd cEd cJa cEa cJ3 cE3 cJ4 cE4 cJ5 cE5 hsy hs5
        have cJ := bJ5.cells
        by_cases hbig : 6000 < n + m + (8 + l)
        · have hbi : (6000 : Int) < (n : Int) + ((m : Int) + (8 + (l : Int))) := by omega
          have HB : Hid (6000 < n + m + (8 + l)) := hbig
          have cR := bR5.cells
          have fR := bR5.frees
          clear hbig
          go_wp2
          refine bodyPost_ret (v := .agg #[.int .i64 2, .int .i64 0, .slice none 0 0, .slice none 0 0]) (by simp [results, Try.results17, go_sem, cR]) rfl ?_
          unfold JrA axA
          rw [if_pos HF.out, hl, if_pos HG.out, hn, hm, if_pos HB.out]
          exact JrAns.code (((((n25).setCell (by simp; omega) _).setCell (by simp; omega) _).setCell (by simp; omega) _).setCell (by simp; omega) _)
        · have hbi : ¬ (6000 : Int) < (n : Int) + ((m : Int) + (8 + (l : Int))) := by omega
          have HB : Hid (¬ 6000 < n + m + (8 + l)) := hbig
          clear hbig
          go_wp2_with fail
          refine (l10Of_any (some ⟨b, o, none⟩) a5 n c (m + (8 + l)) c5 zs vs _ (h.new n25) ha5 hn HVL.out (.inr ⟨b, o, rfl⟩) HSY.out hc hc5 hn1 (by omega)).mono ?_
          rintro e w6 ⟨p1, p2, d1, d2, rfl, q1, q2, qa, qn⟩
          have bR6 := bR5.new qn
          have cR := bR6.cells
          have fR := bR6.frees
          go_wp2
          refine bodyPost_ret (v := .agg #[.int .i64 0, .int .i64 (eCnt zs + eCnt vs), .slice p1 n d1, .slice p2 vs.length d2]) (by simp [results, Try.results17, go_sem, cR, hn]) rfl ?_
          unfold JrA axA
          rw [if_pos HF.out, hl, if_pos HG.out, hn, hm, if_neg HB.out, hUU, hV]
          exact JrAns.stored3 hn (B := w.heap.size + 1 + 1) (by omega) (by omega) n25 q1 q2 qa qn (Turn.set (S := fun i => i = w.heap.size + 1 + 1) (Turn.set (S := fun i => i = w.heap.size + 1 + 1) (Turn.set (S := fun i => i = w.heap.size + 1 + 1) (Turn.set (S := fun i => i = w.heap.size + 1 + 1) (Turn.refl _ _) rfl _) rfl _) rfl _) rfl _)
    · have hg' : (enF ep ki pe l != 0) = true := by simp [hg]
      have HG : Hid (¬ enF ep ki pe l = 0) := hg
      have cR := bR2.cells
      have fR := bR2.frees
      clear hg
      go_wp2
      refine bodyPost_ret (v := .agg #[.int .i64 (enF ep ki pe l), .int .i64 0, .slice none 0 0, .slice none 0 0]) (by simp [results, Try.results17, go_sem, cR]) rfl ?_
      unfold JrA axA
      rw [if_pos HF.out, hl, if_neg HG.out]
      exact JrAns.code (((((n2).setCell (by simp; omega) _).setCell (by simp; omega) _).setCell (by simp; omega) _).setCell (by simp; omega) _)
  · skip
    have hf' : (jF zs ys != 0) = true := by simp [hf]
    have HF : Hid (¬ jF zs ys = 0) := hf
    clear hf
    go_enter Try.func17, Try.ntmps17
    go_wp2_with fail
    refine (specJF b o n c b2 f2 m d zs ys _ (h.new hw) (k.new hw) (by simp; omega) (by simp; omega) hn hm hc hd hn1 hm1).mono ?_
    rintro e w1 ⟨rfl, hn1'⟩
    have bR1 := bR.new hn1'
    have cR := bR1.cells
    have fR := bR1.frees
    go_wp2
    refine bodyPost_ret (v := .agg #[.int .i64 (jF zs ys), .int .i64 0, .slice none 0 0, .slice none 0 0]) (by simp [results, Try.results17, go_sem, cR]) rfl ?_
    unfold JrA axA
    rw [if_neg HF.out]
    exact JrAns.code (((((hw.trans hn1').setCell (by simp; omega) _).setCell (by simp; omega) _).setCell (by simp; omega) _).setCell (by simp; omega) _)

end Go.Proofs.Ytdkjgjjkjfeodaa
