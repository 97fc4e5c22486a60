/- What is proved here: what a cut leaves of a journal whose lists may be nil, in the model. -/
import Derived.Test.YtdkjgjjkjfeodaaE10Jl
namespace Go.Proofs.Ytdkjgjjkjfeodaa
open Go.RowKit
set_option linter.unusedVariables false
set_option linter.unusedSimpArgs false
set_option maxRecDepth 100000

theorem Nl.cut {a : Option Addr} {n j c : Nat} (h : Nl a n c) (hj : j ≤ n) : Nl a j c := by
  rcases h with ⟨e, h1, h2⟩ | h
  · exact .inl ⟨e, by omega, h2⟩
  · exact .inr h
theorem specCutN (A : Option Addr) (n c kk : Nat) (zs : List Int) (w : World) (h : BsAt w A zs) (hb : Nl A n c) (hk : A = none → kk = 0) (hn : zs.length = n) (hc : n ≤ c) (hm : n ≤ 1048576) (hkk : kk ≤ 1048576) :
    Calls Try.prog 51 #[.slice A n c, .int .i64 kk] w fun e w' => e = .returned (.slice A (eTo zs kk) c) ∧ New w w' := by
  rcases hb with ⟨rfl, rfl, rfl⟩ | ⟨b, off, rfl⟩
  · obtain rfl := hk rfl
    exact specCut_nil w
  · exact specCut b off n c kk zs w h hn hc hm hkk

set_option maxHeartbeats 3200000 in
theorem specCun (A1 A2 : Option Addr) (n c m d : Nat) (zs ys : List Int) (w : World) (h : BsAt w A1 zs) (k : BsAt w A2 ys) (hb : Nl A1 n c) (hb2 : Nl A2 m d) (hn : zs.length = n) (hm : ys.length = m) (hc : n ≤ c) (hd : m ≤ d) (hn1 : n ≤ 1048576) (hm1 : m ≤ 1048576) (kp : Int) :
    Calls Try.prog 21 #[.agg #[.slice A1 n c, .slice A2 m d], .int .i64 kp] w fun e w' => JrA w (cuA zs ys kp) e w' := by
  have hw := ((New.refl w).alloc (.cells #[.slice A1 n c, .slice A2 m d] 25)).alloc (.cells #[.int .i64 0, .int .i64 0, .slice none 0 0, .slice none 0 0] 29)
  have bJ := (Blk.mk w w.heap.size 25 #[.slice A1 n c, .slice A2 m d] rfl).alloc (.cells #[.int .i64 0, .int .i64 0, .slice none 0 0, .slice none 0 0] 29)
  have bR := Blk.mk (w.alloc (.cells #[.slice A1 n c, .slice A2 m d] 25)) (w.heap.size + 1) 29 #[.int .i64 0, .int .i64 0, .slice none 0 0, .slice none 0 0] (by simp)
  by_cases hf : jF zs ys = 0
  · have hf' : (jF zs ys != 0) = false := by simp [hf]
    have HF : Hid (jF zs ys = 0) := hf
    obtain ⟨hs6, hU1, -⟩ := jF_zero hf
    have HU1 : Hid (eUse zs 0 = zs.length) := hU1
    have hC1 := eCnt_le zs
    have hC2 := eCnt_le ys
    clear hf hU1
    go_enter Try.func21, Try.ntmps21
    go_wp2_with fail
    refine (specJFn A1 A2 n c m d zs ys _ (h.new hw) (k.new hw) hb hb2 hn hm hc hd hn1 hm1).mono ?_
    rintro e w1 ⟨rfl, hn1'⟩
    have n1 := hw.trans hn1'
    have bJ1 := bJ.new hn1'
    have bR1 := bR.new hn1'
    have cJ := bJ1.cells
    have lR := bR1.lt
    clear hn1' hw
    go_wp2_with fail
    refine (specCount A1 n c zs _ (h.new n1) hb hn hc hn1).mono ?_
    rintro e w2 ⟨y2, k2, x2, rfl, hk2, hn2⟩
    have n2 := n1.trans hn2
    have bJ2 := bJ1.new hn2
    have bR2 := bR1.new hn2
    clear cJ
    have cJ := bJ2.cells
    go_wp2_with fail
    refine (specCount A2 m d ys _ (k.new n2) hb2 hm hd hm1).mono ?_
    rintro e w3 ⟨y3, k3, x3, rfl, hk3, hn3⟩
    have n3 := n2.trans hn3
    have bJ3 := bJ2.new hn3
    have bR3 := bR2.new hn3
    have lR3 := bR3.lt
    have s3 := n3.size
    have HK2 : Hid ((k2 : Int) = eCnt zs) := hk2
    have HK3 : Hid ((k3 : Int) = eCnt ys) := hk3
    have hk2' : (k2 : Int) ≤ 6000 := by omega
    have hk3' : (k3 : Int) ≤ 6000 := by omega
    clear cJ hk2 hk3
    have cJ := bJ3.cells
    by_cases hkp : kp < 0 ∨ (k2 : Int) + (k3 : Int) < kp
    · have HK : Hid (kp < 0 ∨ eCnt zs + eCnt ys < kp) := by have := HK2.out; have := HK3.out; unfold Hid; omega
      go_wp2_with fail
      refine (in_no _ _ _ _ hkp).mono ?_
      rintro e w4 ⟨rfl, hw4⟩
      obtain rfl := hw4.symm
      have cR := bR3.cells
      have fR := bR3.frees
      clear hkp
      go_wp2
      refine bodyPost_ret (v := .agg #[.int .i64 3, .int .i64 0, .slice none 0 0, .slice none 0 0]) (by simp [results, Try.results21, go_sem, cR]) rfl ?_
      unfold JrA cuA
      rw [if_pos HF.out, if_pos HK.out]
      exact JrAns.code (((((n3).setCell (by simp) _).setCell (by simp) _).setCell (by simp) _).setCell (by simp) _)
    · have HK : Hid (¬ (kp < 0 ∨ eCnt zs + eCnt ys < kp)) := by have := HK2.out; have := HK3.out; unfold Hid; omega
      obtain ⟨kk, rfl⟩ : ∃ kk : Nat, kp = kk := ⟨kp.toNat, by omega⟩
      go_wp2_with fail
      refine (in_yes _ _ _ _ (by omega)).mono ?_
      rintro e w4 ⟨rfl, hw4⟩
      obtain rfl := hw4.symm
      have hkk : (kk : Int) ≤ 12000 := by omega
      clear hkp
      by_cases hle : (kk : Int) ≤ (k2 : Int)
      · go_wp2_with fail
        have hz0 : A1 = none → kk = 0 := fun e => by have h1 := (hb.no e).1; have h2 := HK2.out; rw [List.eq_nil_of_length_eq_zero (hn.trans h1), eCnt_nil] at h2; omega
        refine (specCutN A1 n c kk zs _ (h.new n3) hb hz0 hn hc hn1 (by omega)).mono ?_
        rintro e w5 ⟨rfl, hn5⟩
        have n5 := n3.trans hn5
        have bR5 := bR3.new hn5
        have lR5 := bR5.lt
        have tl := eTo_le zs kk
        have l1 : (eFi zs kk).length = eTo zs kk := eFi_len zs kk
        have hbT : Nl A1 (eTo zs kk) c := hb.cut (by rw [← hn]; exact tl)
        clear hz0
        have t1 : BsAt w5 A1 (eFi zs kk) := (h.new n5).take _
        have hQ : eFi ys ((kk : Int) - eCnt zs) = [] := eFi_none ys (by have := HK2.out; omega)
        generalize hPP : eFi zs kk = PP at *
        generalize eTo zs kk = tp at *
        clear cJ
        go_wp2_with fail
        refine (l10Of_any A1 none tp c 0 0 PP [] _ t1 (BsAt.nil _ _) l1 rfl hbT (.inl ⟨rfl, rfl, rfl⟩) (by omega) (Nat.le_refl _) (by omega) (by omega)).mono ?_
        rintro e w6 ⟨p1, p2, d1, d2, rfl, q1, q2, qa, qn⟩
        have bR6 := bR5.new qn
        have cR := bR6.cells
        have fR := bR6.frees
        clear l1
        go_wp2
        refine bodyPost_ret (v := .agg #[.int .i64 0, .int .i64 (eCnt PP + eCnt []), .slice p1 PP.length d1, .slice p2 0 d2]) (by simp [results, Try.results21, go_sem, cR]) rfl ?_
        unfold JrA cuA
        rw [if_pos HF.out, if_neg HK.out, hPP, hQ]
        exact JrAns.stored (ys := []) (B := w.heap.size + 1) (by omega) (by omega) n5 q1 q2 qa qn (Turn.set (S := fun i => i = w.heap.size + 1) (Turn.set (S := fun i => i = w.heap.size + 1) (Turn.set (S := fun i => i = w.heap.size + 1) (Turn.set (S := fun i => i = w.heap.size + 1) (Turn.refl _ _) rfl _) rfl _) rfl _) rfl _)
      · have hgt : (k2 : Int) < (kk : Int) := by omega
        obtain ⟨kq, hkq⟩ : ∃ kq : Nat, kk = k2 + kq := ⟨kk - k2, by omega⟩
        have hwq : IntKind.i64.wrap ((kk : Int) - (k2 : Int)) = (kk : Int) - (k2 : Int) := by simp [IntKind.wrap, IntKind.signed, IntKind.bits]; omega
        have HSQ : Hid ((kk : Int) - (k2 : Int) = (kq : Int)) := by unfold Hid; omega
        have hP : eFi zs kk = zs := eFi_all (by have := HK2.out; omega) HU1.out
        have hqe : (kk : Int) - eCnt zs = (kq : Int) := by have := HK2.out; omega
        have HQE : Hid ((kk : Int) - eCnt zs = (kq : Int)) := hqe
        have hkq1 : kq ≤ 1048576 := by omega
        have tl := eTo_le ys kq
        have l2 : (eFi ys kq).length = eTo ys kq := eFi_len ys kq
        have C2 : ∀ X, New w3 X → Calls Try.prog 51 #[.slice A2 m d, .int .i64 ((kk : Int) - (k2 : Int))] X fun e w' => e = .returned (.slice A2 (eTo ys kq) d) ∧ New X w' := fun X hX => by rw [HSQ.out]; exact specCutN A2 m d kq ys X ((k.new n3).new hX) hb2 (fun e => by have h1 := (hb2.no e).1; have h2 := HK3.out; have h3 := HK.out; have h4 := HK2.out; rw [List.eq_nil_of_length_eq_zero (hm.trans h1), eCnt_nil] at h2 h3; omega) hm hd hm1 hkq1
        have JO : ∀ X, New w3 X → Calls Try.prog 39 #[.slice A1 n c, .slice A2 (eTo ys kq) d] X fun e w' => JrAns X 0 (eCnt zs + eCnt (eFi ys kq)) zs (eFi ys kq) e w' := fun X hX => l10Of_any _ _ n c _ d zs (eFi ys kq) X ((h.new n3).new hX) (((k.new n3).new hX).take _) hn l2 hb (hb2.cut (by rw [← hm]; exact tl)) hc (by omega) hn1 (by omega)
        have cJd := (bJ3.new ((New.refl _).drew)).cells
        have hne : ¬ w.heap.size + 1 = w.heap.size := by omega
        have HKQ : Hid (kk = k2 + kq) := hkq
        clear hkq hqe l2
        go_upto_region 11 with fail
        generalize hQQ : eFi ys kq = QQ at *
        generalize eTo ys kq = tq at *
        go_region_held3 (fun X => ∀ j, X.cell? ⟨w.heap.size, j, none⟩ = (#[.slice A1 n c, .slice A2 m d] : Array Value)[j]?) (first | (with_reducible exact cJ) | (with_reducible exact cJd) | (with_reducible exact cJ5) | (with_reducible exact cJ6) | (intro j; rw [cell_set10 hne, cell_set10 hne, cell_set10 hne, cell_set10 hne]; with_reducible exact cJ6 j))
          (first
            | (go_at_call 51; refine (C2 _ ((New.refl _).drew)).mono ?_; rintro e w5 ⟨rfl, hn5⟩; have n5 : New w3 w5 := ((New.refl _).drew).trans hn5; have cJ5 := (bJ3.new n5).cells)
            | (go_at_call 39; refine (JO _ n5).mono ?_; rintro e w6 ⟨p1, p2, d1, d2, rfl, q1, q2, qa, qn⟩; have n6 := n5.trans qn; have cJ6 := (bJ3.new n6).cells; have bR6 := bR3.new n6; have cR := bR6.cells; have fR := bR6.frees; have z5 := n5.size))
        all_goals
          clear cJ cJd cJ5 cJ6
          go_wp2
          refine bodyPost_ret (v := .agg #[.int .i64 0, .int .i64 (eCnt zs + eCnt QQ), .slice p1 zs.length d1, .slice p2 QQ.length d2]) (by simp [results, Try.results21, go_sem, cR, hn]) rfl ?_
          unfold JrA cuA
          rw [if_pos HF.out, if_neg HK.out, hP, HQE.out, hQQ]
          exact JrAns.stored (B := w.heap.size + 1) (by omega) (by omega) (n3.trans n5) q1 q2 qa qn (Turn.set (S := fun i => i = w.heap.size + 1) (Turn.set (S := fun i => i = w.heap.size + 1) (Turn.set (S := fun i => i = w.heap.size + 1) (Turn.set (S := fun i => i = w.heap.size + 1) (Turn.refl _ _) rfl _) rfl _) rfl _) rfl _)
  · skip
    have hf' : (jF zs ys != 0) = true := by simp [hf]
    have HF : Hid (¬ jF zs ys = 0) := hf
    clear hf
    go_enter Try.func21, Try.ntmps21
    go_wp2_with fail
    refine (specJFn A1 A2 n c m d zs ys _ (h.new hw) (k.new hw) hb hb2 hn hm hc hd hn1 hm1).mono ?_
    rintro e w1 ⟨rfl, hn1'⟩
    have bR1 := bR.new hn1'
    have cR := bR1.cells
    have fR := bR1.frees
    go_wp2
    refine bodyPost_ret (v := .agg #[.int .i64 (jF zs ys), .int .i64 0, .slice none 0 0, .slice none 0 0]) (by simp [results, Try.results21, go_sem, cR]) rfl ?_
    unfold JrA cuA
    rw [if_neg HF.out]
    exact JrAns.code (((((hw.trans hn1').setCell (by simp) _).setCell (by simp) _).setCell (by simp) _).setCell (by simp) _)

end Go.Proofs.Ytdkjgjjkjfeodaa
