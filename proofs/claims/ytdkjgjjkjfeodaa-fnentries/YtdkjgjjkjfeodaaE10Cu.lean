/- What is proved here: what a cut leaves of a journal, in the program and in the model, for every journal of at most 1048576 bytes each. -/
import Derived.Test.YtdkjgjjkjfeodaaE10Sy
import Derived.Test.YtdkjgjjkjfeodaaE10Ct
namespace Go.Proofs.Ytdkjgjjkjfeodaa
open Go.RowKit
set_option linter.unusedVariables false
set_option linter.unusedSimpArgs false
set_option maxRecDepth 100000

/-- The first so many entries' bytes. -/
def eFi (zs : List Int) (k : Int) : List Int := zs.take (eTo zs k.toNat)
theorem eFi_len (zs : List Int) (k : Int) : (eFi zs k).length = eTo zs k.toNat := by have := eTo_le zs k.toNat; simp only [eFi, List.length_take]; omega
theorem eFi_none (zs : List Int) {k : Int} (h : k ≤ 0) : eFi zs k = [] := by
  have : k.toNat = 0 := by omega
  rw [eFi, this]
  rfl
theorem eFi_all {zs : List Int} {k : Int} (h : eCnt zs ≤ k) (hu : eUse zs 0 = zs.length) : eFi zs k = zs := by
  unfold eCnt at h
  rw [eFi, eTo_all (by omega), hu, List.take_length]

/-- What CutJournal answers. -/
def cuA (zs ys : List Int) (kp : Int) : Int × Int × List Int × List Int := if jF zs ys = 0 then (if kp < 0 ∨ eCnt zs + eCnt ys < kp then (3, 0, [], []) else (0, eCnt (eFi zs kp) + eCnt (eFi ys (kp - eCnt zs)), eFi zs kp, eFi ys (kp - eCnt zs))) else (jF zs ys, 0, [], [])

set_option maxHeartbeats 3200000 in
theorem implCu (b o n c b2 f2 m d : Nat) (zs ys : List Int) (w : World) (h : BsAt w (some ⟨b, o, none⟩) zs) (k : BsAt w (some ⟨b2, f2, none⟩) ys) (hb : b < w.heap.size) (hb2 : b2 < w.heap.size) (hn : zs.length = n) (hm : ys.length = m) (hc : n ≤ c) (hd : m ≤ d) (hn1 : n ≤ 1048576) (hm1 : m ≤ 1048576) (kp : Int) :
    Calls Try.prog 14 #[.agg #[.slice (some ⟨b, o, none⟩) n c, .slice (some ⟨b2, f2, none⟩) m d], .int .i64 kp] w fun e w' => JrA w (cuA zs ys kp) e w' := by
  have hw := ((New.refl w).alloc (.cells #[.slice (some ⟨b, o, none⟩) n c, .slice (some ⟨b2, f2, none⟩) m d] 25)).alloc (.cells #[.int .i64 0, .int .i64 0, .slice none 0 0, .slice none 0 0] 29)
  have bJ := (Blk.mk w w.heap.size 25 #[.slice (some ⟨b, o, none⟩) n c, .slice (some ⟨b2, f2, none⟩) m d] rfl).alloc (.cells #[.int .i64 0, .int .i64 0, .slice none 0 0, .slice none 0 0] 29)
  have bR := Blk.mk (w.alloc (.cells #[.slice (some ⟨b, o, none⟩) n c, .slice (some ⟨b2, f2, none⟩) m d] 25)) (w.heap.size + 1) 29 #[.int .i64 0, .int .i64 0, .slice none 0 0, .slice none 0 0] (by simp)
  by_cases hf : jF zs ys = 0
  · have hf' : (jF zs ys != 0) = false := by simp [hf]
    have HF : Hid (jF zs ys = 0) := hf
    obtain ⟨hs6, -, -⟩ := jF_zero hf
    have hC1 := eCnt_le zs
    have hC2 := eCnt_le ys
    have e1 : ∀ X, (h' : BsAt X (some ⟨b, o, none⟩) zs) → b < X.heap.size → Calls Try.prog 42 #[.slice (some ⟨b, o, none⟩) n c] X fun e w' => e = .returned (.int .i64 (eCnt zs)) ∧ New X w' := fun X h' hX => countE _ n c zs X h' (Sl10.some hX) hn hc hn1
    have e2 : ∀ X, (h' : BsAt X (some ⟨b2, f2, none⟩) ys) → b2 < X.heap.size → Calls Try.prog 42 #[.slice (some ⟨b2, f2, none⟩) m d] X fun e w' => e = .returned (.int .i64 (eCnt ys)) ∧ New X w' := fun X h' hX => countE _ m d ys X h' (Sl10.some hX) hm hd hm1
    clear hf
    go_enter Try.func14, Try.ntmps14
    go_wp2_with fail
    refine (implJF b o n c b2 f2 m d zs ys _ (h.new hw) (k.new hw) (by simp; omega) (by simp; omega) hn hm hc hd hn1 hm1).mono ?_
    rintro e w1 ⟨rfl, hn1'⟩
    have n1 := hw.trans hn1'
    have bJ1 := bJ.new hn1'
    have bR1 := bR.new hn1'
    have cJ := bJ1.cells
    have lR := bR1.lt
    have s1 := n1.size
    clear hn1' hw
    go_wp2_with fail
    refine (e1 _ (h.new n1) (by omega)).mono ?_
    rintro e w2 ⟨rfl, hn2⟩
    have n2 := n1.trans hn2
    have bJ2 := bJ1.new hn2
    have bR2 := bR1.new hn2
    have s2 := n2.size
    clear cJ
    have cJ := bJ2.cells
    by_cases hk0 : kp < 0
    · have HK : Hid (kp < 0 ∨ eCnt zs + eCnt ys < kp) := .inl hk0
      have cR := bR2.cells
      have fR := bR2.frees
      go_wp2
      refine bodyPost_ret (v := .agg #[.int .i64 3, .int .i64 0, .slice none 0 0, .slice none 0 0]) (by simp [results, Try.results14, go_sem, cR]) rfl ?_
      unfold JrA cuA
      rw [if_pos HF.out, if_pos HK.out]
      exact JrAns.code (((((n2).setCell (by simp) _).setCell (by simp) _).setCell (by simp) _).setCell (by simp) _)
    · go_wp2_with fail
      refine (e2 _ (k.new n2) (by omega)).mono ?_
      rintro e w3 ⟨rfl, hn3⟩
      have n3 := n2.trans hn3
      have bJ3 := bJ2.new hn3
      have bR3 := bR2.new hn3
      have s3 := n3.size
      have lR3 := bR3.lt
      clear cJ
      by_cases hk1 : eCnt zs + eCnt ys < kp
      · have HK : Hid (kp < 0 ∨ eCnt zs + eCnt ys < kp) := .inr hk1
        have cR := bR3.cells
        have fR := bR3.frees
        go_wp2
        refine bodyPost_ret (v := .agg #[.int .i64 3, .int .i64 0, .slice none 0 0, .slice none 0 0]) (by simp [results, Try.results14, go_sem, cR]) rfl ?_
        unfold JrA cuA
        rw [if_pos HF.out, if_pos HK.out]
        exact JrAns.code (((((n3).setCell (by simp) _).setCell (by simp) _).setCell (by simp) _).setCell (by simp) _)
      · have HK : Hid (¬ (kp < 0 ∨ eCnt zs + eCnt ys < kp)) := by unfold Hid; omega
        have F1 : ∀ X, New w3 X → Calls Try.prog 43 #[.slice (some ⟨b, o, none⟩) n c, .int .i64 kp] X fun e w' => e = .returned (.slice (some ⟨b, o, none⟩) (eTo zs kp.toNat) c) ∧ New X w' := fun X hX => firstE _ n c kp zs X ((h.new n3).new hX) ⟨b, o, rfl, by have := hX.size; omega⟩ hn hc hn1 (by omega) (by omega)
        have F2 : ∀ X, New w3 X → Calls Try.prog 43 #[.slice (some ⟨b2, f2, none⟩) m d, .int .i64 (kp - eCnt zs)] X fun e w' => e = .returned (.slice (some ⟨b2, f2, none⟩) (eTo ys (kp - eCnt zs).toNat) d) ∧ New X w' := fun X hX => firstE _ m d (kp - eCnt zs) ys X ((k.new n3).new hX) ⟨b2, f2, rfl, by have := hX.size; omega⟩ hm hd hm1 (by omega) (by omega)
        have hwr : IntKind.i64.wrap (kp - eCnt zs) = kp - eCnt zs := by simp [IntKind.wrap, IntKind.signed, IntKind.bits]; omega
        have t1 := eTo_le zs kp.toNat
        have t2 := eTo_le ys (kp - eCnt zs).toNat
        have JO : ∀ X, New w3 X → Calls Try.prog 34 #[.slice (some ⟨b, o, none⟩) (eTo zs kp.toNat) c, .slice (some ⟨b2, f2, none⟩) (eTo ys (kp - eCnt zs).toNat) d] X fun e w' => JrAns X 0 (eCnt (eFi zs kp) + eCnt (eFi ys (kp - eCnt zs))) (eFi zs kp) (eFi ys (kp - eCnt zs)) e w' := fun X hX => jOf _ _ _ c _ d (eFi zs kp) (eFi ys (kp - eCnt zs)) X (((h.new n3).new hX).take _) (((k.new n3).new hX).take _) (eFi_len zs kp) (eFi_len ys _) (by intro h; cases h) (by intro h; cases h) (by omega) (by omega)
        have cJ := bJ3.cells
        have cJd := (bJ3.new ((New.refl _).drew)).cells
        have hne : ¬ w.heap.size + 1 = w.heap.size := by omega
        go_upto_region 7 with fail
        clear e1 e2
        generalize hPP : eFi zs kp = PP at *
        generalize hQQ : eFi ys (kp - eCnt zs) = QQ at *
        generalize eTo zs kp.toNat = tp at *
        generalize eTo ys (kp - eCnt zs).toNat = tq at *
        go_region_held3 (fun X => ∀ j, X.cell? ⟨w.heap.size, j, none⟩ = (#[.slice (some ⟨b, o, none⟩) n c, .slice (some ⟨b2, f2, none⟩) m d] : Array Value)[j]?) (first | (with_reducible exact cJ) | (with_reducible exact cJd) | (with_reducible exact cJ4) | (with_reducible exact cJ5) | (with_reducible exact cJ6) | (intro j; rw [cell_set10 hne, cell_set10 hne, cell_set10 hne, cell_set10 hne]; with_reducible exact cJ6 j))
          (first
            | (go_at_call_of 43 b; refine (F1 _ ((New.refl _).drew)).mono ?_; rintro e w4 ⟨rfl, hn4⟩; have n4 : New w3 w4 := ((New.refl _).drew).trans hn4; have cJ4 := (bJ3.new n4).cells)
            | (go_at_call_of 43 b2; refine (F2 _ n4).mono ?_; rintro e w5 ⟨rfl, hn5⟩; have n5 := n4.trans hn5; have cJ5 := (bJ3.new n5).cells)
            | (go_at_call 34; refine (JO _ n5).mono ?_; rintro e w6 ⟨p1, p2, d1, d2, rfl, q1, q2, qa, qn⟩; have n6 := n5.trans qn; have cJ6 := (bJ3.new n6).cells; have bR6 := bR3.new n6; have cR := bR6.cells; have fR := bR6.frees; have z5 := n5.size))
        all_goals
          clear cJ cJd cJ4 cJ5 cJ6
          go_wp2
          refine bodyPost_ret (v := .agg #[.int .i64 0, .int .i64 (eCnt PP + eCnt QQ), .slice p1 PP.length d1, .slice p2 QQ.length d2]) (by simp [results, Try.results14, go_sem, cR]) rfl ?_
          unfold JrA cuA
          rw [if_pos HF.out, if_neg HK.out, hPP, hQQ]
          exact JrAns.stored (B := w.heap.size + 1) (by omega) (by omega) (n3.trans n5) q1 q2 qa qn (Turn.set (S := fun i => i = w.heap.size + 1) (Turn.set (S := fun i => i = w.heap.size + 1) (Turn.set (S := fun i => i = w.heap.size + 1) (Turn.set (S := fun i => i = w.heap.size + 1) (Turn.refl _ _) rfl _) rfl _) rfl _) rfl _)
  · skip
    have hf' : (jF zs ys != 0) = true := by simp [hf]
    have HF : Hid (¬ jF zs ys = 0) := hf
    clear hf
    go_enter Try.func14, Try.ntmps14
    go_wp2_with fail
    refine (implJF b o n c b2 f2 m d zs ys _ (h.new hw) (k.new hw) (by simp; omega) (by simp; omega) hn hm hc hd hn1 hm1).mono ?_
    rintro e w1 ⟨rfl, hn1'⟩
    have bR1 := bR.new hn1'
    have cR := bR1.cells
    have fR := bR1.frees
    go_wp2
    refine bodyPost_ret (v := .agg #[.int .i64 (jF zs ys), .int .i64 0, .slice none 0 0, .slice none 0 0]) (by simp [results, Try.results14, go_sem, cR]) rfl ?_
    unfold JrA cuA
    rw [if_neg HF.out]
    exact JrAns.code (((((hw.trans hn1').setCell (by simp) _).setCell (by simp) _).setCell (by simp) _).setCell (by simp) _)

set_option maxHeartbeats 3200000 in
theorem specCu (b o n c b2 f2 m d : Nat) (zs ys : List Int) (w : World) (h : BsAt w (some ⟨b, o, none⟩) zs) (k : BsAt w (some ⟨b2, f2, none⟩) ys) (hb : b < w.heap.size) (hb2 : b2 < w.heap.size) (hn : zs.length = n) (hm : ys.length = m) (hc : n ≤ c) (hd : m ≤ d) (hn1 : n ≤ 1048576) (hm1 : m ≤ 1048576) (kp : Int) :
    Calls Try.prog 21 #[.agg #[.slice (some ⟨b, o, none⟩) n c, .slice (some ⟨b2, f2, none⟩) m d], .int .i64 kp] w fun e w' => JrA w (cuA zs ys kp) e w' := by
  have hw := ((New.refl w).alloc (.cells #[.slice (some ⟨b, o, none⟩) n c, .slice (some ⟨b2, f2, none⟩) m d] 25)).alloc (.cells #[.int .i64 0, .int .i64 0, .slice none 0 0, .slice none 0 0] 29)
  have bJ := (Blk.mk w w.heap.size 25 #[.slice (some ⟨b, o, none⟩) n c, .slice (some ⟨b2, f2, none⟩) m d] rfl).alloc (.cells #[.int .i64 0, .int .i64 0, .slice none 0 0, .slice none 0 0] 29)
  have bR := Blk.mk (w.alloc (.cells #[.slice (some ⟨b, o, none⟩) n c, .slice (some ⟨b2, f2, none⟩) m d] 25)) (w.heap.size + 1) 29 #[.int .i64 0, .int .i64 0, .slice none 0 0, .slice none 0 0] (by simp)
  by_cases hf : jF zs ys = 0
  · have hf' : (jF zs ys != 0) = false := by simp [hf]
    have HF : Hid (jF zs ys = 0) := hf
    obtain ⟨hs6, hU1, -⟩ := jF_zero hf
    have HU1 : Hid (eUse zs 0 = zs.length) := hU1
    have hC1 := eCnt_le zs
    have hC2 := eCnt_le ys
    clear hf hU1
    go_enter Try.func21, Try.ntmps21
    go_wp2_with fail
    refine (specJF b o n c b2 f2 m d zs ys _ (h.new hw) (k.new hw) (by simp; omega) (by simp; omega) hn hm hc hd hn1 hm1).mono ?_
    rintro e w1 ⟨rfl, hn1'⟩
    have n1 := hw.trans hn1'
    have bJ1 := bJ.new hn1'
    have bR1 := bR.new hn1'
    have cJ := bJ1.cells
    have lR := bR1.lt
    clear hn1' hw
    go_wp2_with fail
    refine (specCount (some ⟨b, o, none⟩) n c zs _ (h.new n1) (.inr ⟨b, o, rfl⟩) hn hc hn1).mono ?_
    rintro e w2 ⟨y2, k2, x2, rfl, hk2, hn2⟩
    have n2 := n1.trans hn2
    have bJ2 := bJ1.new hn2
    have bR2 := bR1.new hn2
    clear cJ
    have cJ := bJ2.cells
    go_wp2_with fail
    refine (specCount (some ⟨b2, f2, none⟩) m d ys _ (k.new n2) (.inr ⟨b2, f2, rfl⟩) hm hd hm1).mono ?_
    rintro e w3 ⟨y3, k3, x3, rfl, hk3, hn3⟩
    have n3 := n2.trans hn3
    have bJ3 := bJ2.new hn3
    have bR3 := bR2.new hn3
    have lR3 := bR3.lt
    have s3 := n3.size
    have HK2 : Hid ((k2 : Int) = eCnt zs) := hk2
    have HK3 : Hid ((k3 : Int) = eCnt ys) := hk3
    have hk2' : (k2 : Int) ≤ 6000 := by omega
    have hk3' : (k3 : Int) ≤ 6000 := by omega
    clear cJ hk2 hk3
    have cJ := bJ3.cells
    by_cases hkp : kp < 0 ∨ (k2 : Int) + (k3 : Int) < kp
    · have HK : Hid (kp < 0 ∨ eCnt zs + eCnt ys < kp) := by have := HK2.out; have := HK3.out; unfold Hid; omega
      go_wp2_with fail
      refine (in_no _ _ _ _ hkp).mono ?_
      rintro e w4 ⟨rfl, hw4⟩
      obtain rfl := hw4.symm
      have cR := bR3.cells
      have fR := bR3.frees
      clear hkp
      go_wp2
      refine bodyPost_ret (v := .agg #[.int .i64 3, .int .i64 0, .slice none 0 0, .slice none 0 0]) (by simp [results, Try.results21, go_sem, cR]) rfl ?_
      unfold JrA cuA
      rw [if_pos HF.out, if_pos HK.out]
      exact JrAns.code (((((n3).setCell (by simp) _).setCell (by simp) _).setCell (by simp) _).setCell (by simp) _)
    · have HK : Hid (¬ (kp < 0 ∨ eCnt zs + eCnt ys < kp)) := by have := HK2.out; have := HK3.out; unfold Hid; omega
      obtain ⟨kk, rfl⟩ : ∃ kk : Nat, kp = kk := ⟨kp.toNat, by omega⟩
      go_wp2_with fail
      refine (in_yes _ _ _ _ (by omega)).mono ?_
      rintro e w4 ⟨rfl, hw4⟩
      obtain rfl := hw4.symm
      have hkk : (kk : Int) ≤ 12000 := by omega
      clear hkp
      by_cases hle : (kk : Int) ≤ (k2 : Int)
      · go_wp2_with fail
        refine (specCut b o n c kk zs _ (h.new n3) hn hc hn1 (by omega)).mono ?_
        rintro e w5 ⟨rfl, hn5⟩
        have n5 := n3.trans hn5
        have bR5 := bR3.new hn5
        have lR5 := bR5.lt
        have tl := eTo_le zs kk
        have l1 : (eFi zs kk).length = eTo zs kk := eFi_len zs kk
        have t1 : BsAt w5 (some ⟨b, o, none⟩) (eFi zs kk) := (h.new n5).take _
        have hQ : eFi ys ((kk : Int) - eCnt zs) = [] := eFi_none ys (by have := HK2.out; omega)
        generalize hPP : eFi zs kk = PP at *
        generalize eTo zs kk = tp at *
        clear cJ
        go_wp2_with fail
        refine (l10Of_any (some ⟨b, o, none⟩) none tp c 0 0 PP [] _ t1 (BsAt.nil _ _) l1 rfl (.inr ⟨b, o, rfl⟩) (.inl ⟨rfl, rfl, rfl⟩) (by omega) (Nat.le_refl _) (by omega) (by omega)).mono ?_
        rintro e w6 ⟨p1, p2, d1, d2, rfl, q1, q2, qa, qn⟩
        have bR6 := bR5.new qn
        have cR := bR6.cells
        have fR := bR6.frees
        clear l1
        go_wp2
        refine bodyPost_ret (v := .agg #[.int .i64 0, .int .i64 (eCnt PP + eCnt []), .slice p1 PP.length d1, .slice p2 0 d2]) (by simp [results, Try.results21, go_sem, cR]) rfl ?_
        unfold JrA cuA
        rw [if_pos HF.out, if_neg HK.out, hPP, hQ]
        exact JrAns.stored (ys := []) (B := w.heap.size + 1) (by omega) (by omega) n5 q1 q2 qa qn (Turn.set (S := fun i => i = w.heap.size + 1) (Turn.set (S := fun i => i = w.heap.size + 1) (Turn.set (S := fun i => i = w.heap.size + 1) (Turn.set (S := fun i => i = w.heap.size + 1) (Turn.refl _ _) rfl _) rfl _) rfl _) rfl _)
      · have hgt : (k2 : Int) < (kk : Int) := by omega
        obtain ⟨kq, hkq⟩ : ∃ kq : Nat, kk = k2 + kq := ⟨kk - k2, by omega⟩
        have hwq : IntKind.i64.wrap ((kk : Int) - (k2 : Int)) = (kk : Int) - (k2 : Int) := by simp [IntKind.wrap, IntKind.signed, IntKind.bits]; omega
        have HSQ : Hid ((kk : Int) - (k2 : Int) = (kq : Int)) := by unfold Hid; omega
        have hP : eFi zs kk = zs := eFi_all (by have := HK2.out; omega) HU1.out
        have hqe : (kk : Int) - eCnt zs = (kq : Int) := by have := HK2.out; omega
        have HQE : Hid ((kk : Int) - eCnt zs = (kq : Int)) := hqe
        have hkq1 : kq ≤ 1048576 := by omega
        have tl := eTo_le ys kq
        have l2 : (eFi ys kq).length = eTo ys kq := eFi_len ys kq
        have C2 : ∀ X, New w3 X → Calls Try.prog 51 #[.slice (some ⟨b2, f2, none⟩) m d, .int .i64 ((kk : Int) - (k2 : Int))] X fun e w' => e = .returned (.slice (some ⟨b2, f2, none⟩) (eTo ys kq) d) ∧ New X w' := fun X hX => by rw [HSQ.out]; exact specCut b2 f2 m d kq ys X ((k.new n3).new hX) hm hd hm1 hkq1
        have JO : ∀ X, New w3 X → Calls Try.prog 39 #[.slice (some ⟨b, o, none⟩) n c, .slice (some ⟨b2, f2, none⟩) (eTo ys kq) d] X fun e w' => JrAns X 0 (eCnt zs + eCnt (eFi ys kq)) zs (eFi ys kq) e w' := fun X hX => l10Of_any _ _ n c _ d zs (eFi ys kq) X ((h.new n3).new hX) (((k.new n3).new hX).take _) hn l2 (.inr ⟨b, o, rfl⟩) (.inr ⟨b2, f2, rfl⟩) hc (by omega) hn1 (by omega)
        have cJd := (bJ3.new ((New.refl _).drew)).cells
        have hne : ¬ w.heap.size + 1 = w.heap.size := by omega
        have HKQ : Hid (kk = k2 + kq) := hkq
        clear hkq hqe l2
        go_upto_region 11 with fail
        generalize hQQ : eFi ys kq = QQ at *
        generalize eTo ys kq = tq at *
        go_region_held3 (fun X => ∀ j, X.cell? ⟨w.heap.size, j, none⟩ = (#[.slice (some ⟨b, o, none⟩) n c, .slice (some ⟨b2, f2, none⟩) m d] : Array Value)[j]?) (first | (with_reducible exact cJ) | (with_reducible exact cJd) | (with_reducible exact cJ5) | (with_reducible exact cJ6) | (intro j; rw [cell_set10 hne, cell_set10 hne, cell_set10 hne, cell_set10 hne]; with_reducible exact cJ6 j))
          (first
            | (go_at_call 51; refine (C2 _ ((New.refl _).drew)).mono ?_; rintro e w5 ⟨rfl, hn5⟩; have n5 : New w3 w5 := ((New.refl _).drew).trans hn5; have cJ5 := (bJ3.new n5).cells)
            | (go_at_call 39; refine (JO _ n5).mono ?_; rintro e w6 ⟨p1, p2, d1, d2, rfl, q1, q2, qa, qn⟩; have n6 := n5.trans qn; have cJ6 := (bJ3.new n6).cells; have bR6 := bR3.new n6; have cR := bR6.cells; have fR := bR6.frees; have z5 := n5.size))
        all_goals
          clear cJ cJd cJ5 cJ6
          go_wp2
          refine bodyPost_ret (v := .agg #[.int .i64 0, .int .i64 (eCnt zs + eCnt QQ), .slice p1 zs.length d1, .slice p2 QQ.length d2]) (by simp [results, Try.results21, go_sem, cR, hn]) rfl ?_
          unfold JrA cuA
          rw [if_pos HF.out, if_neg HK.out, hP, HQE.out, hQQ]
          exact JrAns.stored (B := w.heap.size + 1) (by omega) (by omega) (n3.trans n5) q1 q2 qa qn (Turn.set (S := fun i => i = w.heap.size + 1) (Turn.set (S := fun i => i = w.heap.size + 1) (Turn.set (S := fun i => i = w.heap.size + 1) (Turn.set (S := fun i => i = w.heap.size + 1) (Turn.refl _ _) rfl _) rfl _) rfl _) rfl _)
  · skip
    have hf' : (jF zs ys != 0) = true := by simp [hf]
    have HF : Hid (¬ jF zs ys = 0) := hf
    clear hf
    go_enter Try.func21, Try.ntmps21
    go_wp2_with fail
    refine (specJF b o n c b2 f2 m d zs ys _ (h.new hw) (k.new hw) (by simp; omega) (by simp; omega) hn hm hc hd hn1 hm1).mono ?_
    rintro e w1 ⟨rfl, hn1'⟩
    have bR1 := bR.new hn1'
    have cR := bR1.cells
    have fR := bR1.frees
    go_wp2
    refine bodyPost_ret (v := .agg #[.int .i64 (jF zs ys), .int .i64 0, .slice none 0 0, .slice none 0 0]) (by simp [results, Try.results21, go_sem, cR]) rfl ?_
    unfold JrA cuA
    rw [if_neg HF.out]
    exact JrAns.code (((((hw.trans hn1').setCell (by simp) _).setCell (by simp) _).setCell (by simp) _).setCell (by simp) _)

end Go.Proofs.Ytdkjgjjkjfeodaa
