/- What is proved here: what a cut leaves of a journal whose lists may be nil, in the program. -/
import Derived.Test.YtdkjgjjkjfeodaaE10Jk
namespace Go.Proofs.Ytdkjgjjkjfeodaa
open Go.RowKit
set_option linter.unusedVariables false
set_option linter.unusedSimpArgs false
set_option maxRecDepth 100000

set_option maxHeartbeats 3200000 in
theorem implCun (A1 A2 : Option Addr) (n c m d : Nat) (zs ys : List Int) (w : World) (h : BsAt w A1 zs) (k : BsAt w A2 ys) (hb : Sl10 w A1 n c) (hb2 : Sl10 w A2 m d) (hn : zs.length = n) (hm : ys.length = m) (hc : n ≤ c) (hd : m ≤ d) (hn1 : n ≤ 1048576) (hm1 : m ≤ 1048576) (kp : Int) :
    Calls Try.prog 14 #[.agg #[.slice A1 n c, .slice A2 m d], .int .i64 kp] w fun e w' => JrA w (cuA zs ys kp) e w' := by
  have hw := ((New.refl w).alloc (.cells #[.slice A1 n c, .slice A2 m d] 25)).alloc (.cells #[.int .i64 0, .int .i64 0, .slice none 0 0, .slice none 0 0] 29)
  have bJ := (Blk.mk w w.heap.size 25 #[.slice A1 n c, .slice A2 m d] rfl).alloc (.cells #[.int .i64 0, .int .i64 0, .slice none 0 0, .slice none 0 0] 29)
  have bR := Blk.mk (w.alloc (.cells #[.slice A1 n c, .slice A2 m d] 25)) (w.heap.size + 1) 29 #[.int .i64 0, .int .i64 0, .slice none 0 0, .slice none 0 0] (by simp)
  by_cases hf : jF zs ys = 0
  · have hf' : (jF zs ys != 0) = false := by simp [hf]
    have HF : Hid (jF zs ys = 0) := hf
    obtain ⟨hs6, -, -⟩ := jF_zero hf
    have hC1 := eCnt_le zs
    have hC2 := eCnt_le ys
    have e1 : ∀ X, (h' : BsAt X A1 zs) → Sl10 X A1 n c → Calls Try.prog 42 #[.slice A1 n c] X fun e w' => e = .returned (.int .i64 (eCnt zs)) ∧ New X w' := fun X h' hX => countE _ n c zs X h' hX hn hc hn1
    have e2 : ∀ X, (h' : BsAt X A2 ys) → Sl10 X A2 m d → Calls Try.prog 42 #[.slice A2 m d] X fun e w' => e = .returned (.int .i64 (eCnt ys)) ∧ New X w' := fun X h' hX => countE _ m d ys X h' hX hm hd hm1
    clear hf
    go_enter Try.func14, Try.ntmps14
    go_wp2_with fail
    refine (implJFn A1 A2 n c m d zs ys _ (h.new hw) (k.new hw) (hb.up hw.size) (hb2.up hw.size) hn hm hc hd hn1 hm1).mono ?_
    rintro e w1 ⟨rfl, hn1'⟩
    have n1 := hw.trans hn1'
    have bJ1 := bJ.new hn1'
    have bR1 := bR.new hn1'
    have cJ := bJ1.cells
    have lR := bR1.lt
    have s1 := n1.size
    clear hn1' hw
    go_wp2_with fail
    refine (e1 _ (h.new n1) (hb.up n1.size)).mono ?_
    rintro e w2 ⟨rfl, hn2⟩
    have n2 := n1.trans hn2
    have bJ2 := bJ1.new hn2
    have bR2 := bR1.new hn2
    have s2 := n2.size
    clear cJ
    have cJ := bJ2.cells
    by_cases hk0 : kp < 0
    · have HK : Hid (kp < 0 ∨ eCnt zs + eCnt ys < kp) := .inl hk0
      have cR := bR2.cells
      have fR := bR2.frees
      go_wp2
      refine bodyPost_ret (v := .agg #[.int .i64 3, .int .i64 0, .slice none 0 0, .slice none 0 0]) (by simp [results, Try.results14, go_sem, cR]) rfl ?_
      unfold JrA cuA
      rw [if_pos HF.out, if_pos HK.out]
      exact JrAns.code (((((n2).setCell (by simp) _).setCell (by simp) _).setCell (by simp) _).setCell (by simp) _)
    · go_wp2_with fail
      refine (e2 _ (k.new n2) (hb2.up n2.size)).mono ?_
      rintro e w3 ⟨rfl, hn3⟩
      have n3 := n2.trans hn3
      have bJ3 := bJ2.new hn3
      have bR3 := bR2.new hn3
      have s3 := n3.size
      have lR3 := bR3.lt
      clear cJ
      by_cases hk1 : eCnt zs + eCnt ys < kp
      · have HK : Hid (kp < 0 ∨ eCnt zs + eCnt ys < kp) := .inr hk1
        have cR := bR3.cells
        have fR := bR3.frees
        go_wp2
        refine bodyPost_ret (v := .agg #[.int .i64 3, .int .i64 0, .slice none 0 0, .slice none 0 0]) (by simp [results, Try.results14, go_sem, cR]) rfl ?_
        unfold JrA cuA
        rw [if_pos HF.out, if_pos HK.out]
        exact JrAns.code (((((n3).setCell (by simp) _).setCell (by simp) _).setCell (by simp) _).setCell (by simp) _)
      · have HK : Hid (¬ (kp < 0 ∨ eCnt zs + eCnt ys < kp)) := by unfold Hid; omega
        have F1 : ∀ X, New w3 X → Calls Try.prog 43 #[.slice A1 n c, .int .i64 kp] X fun e w' => e = .returned (.slice A1 (eTo zs kp.toNat) c) ∧ New X w' := fun X hX => firstEn _ n c kp zs X ((h.new n3).new hX) (hb.up (Nat.le_trans n3.size hX.size)) hn hc hn1 (by omega) (by omega)
        have F2 : ∀ X, New w3 X → Calls Try.prog 43 #[.slice A2 m d, .int .i64 (kp - eCnt zs)] X fun e w' => e = .returned (.slice A2 (eTo ys (kp - eCnt zs).toNat) d) ∧ New X w' := fun X hX => firstEn _ m d (kp - eCnt zs) ys X ((k.new n3).new hX) (hb2.up (Nat.le_trans n3.size hX.size)) hm hd hm1 (by omega) (by omega)
        have hwr : IntKind.i64.wrap (kp - eCnt zs) = kp - eCnt zs := by simp [IntKind.wrap, IntKind.signed, IntKind.bits]; omega
        have t1 := eTo_le zs kp.toNat
        have t2 := eTo_le ys (kp - eCnt zs).toNat
        have JO : ∀ X, New w3 X → Calls Try.prog 34 #[.slice A1 (eTo zs kp.toNat) c, .slice A2 (eTo ys (kp - eCnt zs).toNat) d] X fun e w' => JrAns X 0 (eCnt (eFi zs kp) + eCnt (eFi ys (kp - eCnt zs))) (eFi zs kp) (eFi ys (kp - eCnt zs)) e w' := fun X hX => jOf _ _ _ c _ d (eFi zs kp) (eFi ys (kp - eCnt zs)) X (((h.new n3).new hX).take _) (((k.new n3).new hX).take _) (eFi_len zs kp) (eFi_len ys _) (fun h => by have := hb.no h; have := eTo_le zs kp.toNat; omega) (fun h => by have := hb2.no h; have := eTo_le ys (kp - eCnt zs).toNat; omega) (by omega) (by omega)
        have cJ := bJ3.cells
        have cJd := (bJ3.new ((New.refl _).drew)).cells
        have hne : ¬ w.heap.size + 1 = w.heap.size := by omega
        go_upto_region 7 with fail
        clear e1 e2
        generalize hPP : eFi zs kp = PP at *
        generalize hQQ : eFi ys (kp - eCnt zs) = QQ at *
        generalize eTo zs kp.toNat = tp at *
        generalize eTo ys (kp - eCnt zs).toNat = tq at *
        go_region_held3 (fun X => ∀ j, X.cell? ⟨w.heap.size, j, none⟩ = (#[.slice A1 n c, .slice A2 m d] : Array Value)[j]?) (first | (with_reducible exact cJ) | (with_reducible exact cJd) | (with_reducible exact cJ4) | (with_reducible exact cJ5) | (with_reducible exact cJ6) | (intro j; rw [cell_set10 hne, cell_set10 hne, cell_set10 hne, cell_set10 hne]; with_reducible exact cJ6 j))
          (first
            | (go_at_call_of 43 A1; refine (F1 _ ((New.refl _).drew)).mono ?_; rintro e w4 ⟨rfl, hn4⟩; have n4 : New w3 w4 := ((New.refl _).drew).trans hn4; have cJ4 := (bJ3.new n4).cells)
            | (go_at_call_of 43 A2; refine (F2 _ n4).mono ?_; rintro e w5 ⟨rfl, hn5⟩; have n5 := n4.trans hn5; have cJ5 := (bJ3.new n5).cells)
            | (go_at_call 34; refine (JO _ n5).mono ?_; rintro e w6 ⟨p1, p2, d1, d2, rfl, q1, q2, qa, qn⟩; have n6 := n5.trans qn; have cJ6 := (bJ3.new n6).cells; have bR6 := bR3.new n6; have cR := bR6.cells; have fR := bR6.frees; have z5 := n5.size))
        all_goals
          clear cJ cJd cJ4 cJ5 cJ6
          go_wp2
          refine bodyPost_ret (v := .agg #[.int .i64 0, .int .i64 (eCnt PP + eCnt QQ), .slice p1 PP.length d1, .slice p2 QQ.length d2]) (by simp [results, Try.results14, go_sem, cR]) rfl ?_
          unfold JrA cuA
          rw [if_pos HF.out, if_neg HK.out, hPP, hQQ]
          exact JrAns.stored (B := w.heap.size + 1) (by omega) (by omega) (n3.trans n5) q1 q2 qa qn (Turn.set (S := fun i => i = w.heap.size + 1) (Turn.set (S := fun i => i = w.heap.size + 1) (Turn.set (S := fun i => i = w.heap.size + 1) (Turn.set (S := fun i => i = w.heap.size + 1) (Turn.refl _ _) rfl _) rfl _) rfl _) rfl _)
  · skip
    have hf' : (jF zs ys != 0) = true := by simp [hf]
    have HF : Hid (¬ jF zs ys = 0) := hf
    clear hf
    go_enter Try.func14, Try.ntmps14
    go_wp2_with fail
    refine (implJFn A1 A2 n c m d zs ys _ (h.new hw) (k.new hw) (hb.up hw.size) (hb2.up hw.size) hn hm hc hd hn1 hm1).mono ?_
    rintro e w1 ⟨rfl, hn1'⟩
    have bR1 := bR.new hn1'
    have cR := bR1.cells
    have fR := bR1.frees
    go_wp2
    refine bodyPost_ret (v := .agg #[.int .i64 (jF zs ys), .int .i64 0, .slice none 0 0, .slice none 0 0]) (by simp [results, Try.results14, go_sem, cR]) rfl ?_
    unfold JrA cuA
    rw [if_neg HF.out]
    exact JrAns.code (((((hw.trans hn1').setCell (by simp) _).setCell (by simp) _).setCell (by simp) _).setCell (by simp) _)

end Go.Proofs.Ytdkjgjjkjfeodaa
