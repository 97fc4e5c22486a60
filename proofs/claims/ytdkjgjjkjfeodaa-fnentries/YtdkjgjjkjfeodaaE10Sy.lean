/- What is proved here: what syncing a journal answers, in the program and in the model, for every journal of at most 1048576 bytes each. -/
import Derived.Test.YtdkjgjjkjfeodaaE10Jf
import Derived.Test.YtdkjgjjkjfeodaaE10Of
namespace Go.Proofs.Ytdkjgjjkjfeodaa
open Go.RowKit
set_option linter.unusedVariables false
set_option linter.unusedSimpArgs false
set_option maxRecDepth 100000

/-- An answer: a code, a number, two lists. -/
def JrA (w : World) (A : Int × Int × List Int × List Int) (e : Ending) (w' : World) : Prop := JrAns w A.1 A.2.1 A.2.2.1 A.2.2.2 e w'

/-- An answer of a call's callee, stored whole into the call's own result. -/
theorem JrAns.stored {w w5 w9 w' : World} {B : Nat} {z ct : Int} {zs ys : List Int} {p1 p2 : Option Addr} {d1 d2 : Nat} (hB : w.heap.size ≤ B) (hB5 : B < w5.heap.size) (h5 : New w w5) (q1 : OvB w9 w5.heap.size (.slice p1 zs.length d1) zs) (q2 : OvB w9 w5.heap.size (.slice p2 ys.length d2) ys)
    (qa : ∀ x y, p1 = some x → p2 = some y → x.block ≠ y.block) (qn : New w5 w9) (t : Turn (fun i => i = B) w9 w') : JrAns w z ct zs ys (.returned (.agg #[.int .i64 z, .int .i64 ct, .slice p1 zs.length d1, .slice p2 ys.length d2])) w' := by
  have s := h5.size
  refine ⟨p1, p2, d1, d2, rfl, ?_, ?_, qa, (h5.trans qn).before t (by intro i hi e; omega)⟩
  · exact (ov_turn q1 t (by intro k hk e; omega)).low s
  · exact (ov_turn q2 t (by intro k hk e; omega)).low s

/-- What SyncJournal answers. -/
def syA (zs ys : List Int) : Int × Int × List Int × List Int := if jF zs ys = 0 then (0, eCnt (zs ++ ys) + eCnt [], zs ++ ys, []) else (jF zs ys, 0, [], [])

theorem jF_zero {zs ys : List Int} (h : jF zs ys = 0) : zs.length + ys.length ≤ 6000 ∧ eUse zs 0 = zs.length ∧ eUse ys 0 = ys.length := by
  unfold jF at h
  have h1 := eUse_le zs zs.length 0 (by omega) (by omega)
  have h2 := eUse_le ys ys.length 0 (by omega) (by omega)
  repeat (split at h)
  all_goals omega

set_option maxHeartbeats 3200000 in
theorem implSy (b o n c b2 f2 m d : Nat) (zs ys : List Int) (w : World) (h : BsAt w (some ⟨b, o, none⟩) zs) (k : BsAt w (some ⟨b2, f2, none⟩) ys) (hb : b < w.heap.size) (hb2 : b2 < w.heap.size) (hn : zs.length = n) (hm : ys.length = m) (hc : n ≤ c) (hd : m ≤ d) (hn1 : n ≤ 1048576) (hm1 : m ≤ 1048576) :
    Calls Try.prog 12 #[.agg #[.slice (some ⟨b, o, none⟩) n c, .slice (some ⟨b2, f2, none⟩) m d]] w fun e w' => JrA w (syA zs ys) e w' := by
  have hw := ((New.refl w).alloc (.cells #[.slice (some ⟨b, o, none⟩) n c, .slice (some ⟨b2, f2, none⟩) m d] 25)).alloc (.cells #[.int .i64 0, .int .i64 0, .slice none 0 0, .slice none 0 0] 29)
  have bJ := (Blk.mk w w.heap.size 25 #[.slice (some ⟨b, o, none⟩) n c, .slice (some ⟨b2, f2, none⟩) m d] rfl).alloc (.cells #[.int .i64 0, .int .i64 0, .slice none 0 0, .slice none 0 0] 29)
  have bR := Blk.mk (w.alloc (.cells #[.slice (some ⟨b, o, none⟩) n c, .slice (some ⟨b2, f2, none⟩) m d] 25)) (w.heap.size + 1) 29 #[.int .i64 0, .int .i64 0, .slice none 0 0, .slice none 0 0] (by simp)
  by_cases hf : jF zs ys = 0
  · have hf' : (jF zs ys != 0) = false := by simp [hf]
    have HF : Hid (jF zs ys = 0) := hf
    obtain ⟨hs6, -, -⟩ := jF_zero hf
    clear hf
    go_enter Try.func12, Try.ntmps12
    go_wp2_with fail
    refine (implJF b o n c b2 f2 m d zs ys _ (h.new hw) (k.new hw) (by simp; omega) (by simp; omega) hn hm hc hd hn1 hm1).mono ?_
    rintro e w1 ⟨rfl, hn1'⟩
    have n1 := hw.trans hn1'
    have bJ1 := bJ.new hn1'
    have bR1 := bR.new hn1'
    have cJ := bJ1.cells
    have al := (New.refl w1).alloc (.cells #[.slice (some ⟨b, o, none⟩) n c, .slice (some ⟨b2, f2, none⟩) m d] 22)
    have bL := Blk.mk w1 w1.heap.size 22 #[.slice (some ⟨b, o, none⟩) n c, .slice (some ⟨b2, f2, none⟩) m d] rfl
    have lR := bR1.lt
    clear hn1' hw
    go_wp2_with fail
    refine (concat2 w1.heap.size (some ⟨b, o, none⟩) (some ⟨b2, f2, none⟩) n c m d zs ys _ (bL.cells 0) (bL.cells 1) ((h.new n1).new al) ((k.new n1).new al) hn hm (by intro h; cases h) (by intro h; cases h) hn1 hm1).mono ?_
    rintro e w2 ⟨v, rfl, ho, hn2⟩
    have hzz : ∀ z ∈ zs ++ ys, 0 ≤ z ∧ z ≤ 255 := fun z hz => (List.mem_append.1 hz).elim (h.lt z) (k.lt z)
    obtain ⟨a3, c3, rfl, ha3, hc3, hs3, -⟩ := ho.bs hzz
    have n12 := al.trans hn2
    have hl3 : (zs ++ ys).length ≤ 1048576 := by rw [List.length_append]; omega
    have hnn : a3 = none → (zs ++ ys).length = 0 ∧ c3 = 0 := by rintro rfl; rcases hs3 with h | ⟨g, h, _⟩; exact h.2; cases h
    have HN : Hid (a3 = none → (zs ++ ys).length = 0 ∧ c3 = 0) := hnn
    generalize hU : zs ++ ys = us at *
    generalize hL : us.length = l at *
    clear hnn hs3 cJ
    go_wp2_with fail
    refine (jOf a3 none l c3 0 0 us [] _ ha3 (BsAt.nil _ _) hL rfl HN.out (fun _ => ⟨rfl, rfl⟩) hl3 (by omega)).mono ?_
    rintro e w3 ⟨p1, p2, d1, d2, rfl, q1, q2, qa, qn⟩
    have bR3 := (bR1.new n12).new qn
    have cR := bR3.cells
    have fR := bR3.frees
    have s12 := n12.size
    have HL : Hid (us.length = l) := hL
    clear hL
    go_wp2
    refine bodyPost_ret (v := .agg #[.int .i64 0, .int .i64 (eCnt us + eCnt []), .slice p1 us.length d1, .slice p2 0 d2]) (by simp [results, Try.results12, go_sem, cR]) rfl ?_
    unfold JrA syA
    rw [if_pos HF.out, hU]
    exact JrAns.stored (ys := []) (B := w.heap.size + 1) (by omega) (by omega) (n1.trans n12) q1 q2 qa qn (Turn.set (S := fun i => i = w.heap.size + 1) (Turn.set (S := fun i => i = w.heap.size + 1) (Turn.set (S := fun i => i = w.heap.size + 1) (Turn.set (S := fun i => i = w.heap.size + 1) (Turn.refl _ _) rfl _) rfl _) rfl _) rfl _)
  · skip
    have hf' : (jF zs ys != 0) = true := by simp [hf]
    have HF : Hid (¬ jF zs ys = 0) := hf
    clear hf
    go_enter Try.func12, Try.ntmps12
    go_wp2_with fail
    refine (implJF b o n c b2 f2 m d zs ys _ (h.new hw) (k.new hw) (by simp; omega) (by simp; omega) hn hm hc hd hn1 hm1).mono ?_
    rintro e w1 ⟨rfl, hn1'⟩
    have bR1 := bR.new hn1'
    have cR := bR1.cells
    have fR := bR1.frees
    go_wp2
    refine bodyPost_ret (v := .agg #[.int .i64 (jF zs ys), .int .i64 0, .slice none 0 0, .slice none 0 0]) (by simp [results, Try.results12, go_sem, cR]) rfl ?_
    unfold JrA syA
    rw [if_neg HF.out]
    exact JrAns.code (((((hw.trans hn1').setCell (by simp) _).setCell (by simp) _).setCell (by simp) _).setCell (by simp) _)

set_option maxHeartbeats 3200000 in
theorem specSy (b o n c b2 f2 m d : Nat) (zs ys : List Int) (w : World) (h : BsAt w (some ⟨b, o, none⟩) zs) (k : BsAt w (some ⟨b2, f2, none⟩) ys) (hb : b < w.heap.size) (hb2 : b2 < w.heap.size) (hn : zs.length = n) (hm : ys.length = m) (hc : n ≤ c) (hd : m ≤ d) (hn1 : n ≤ 1048576) (hm1 : m ≤ 1048576) :
    Calls Try.prog 57 #[.agg #[.slice (some ⟨b, o, none⟩) n c, .slice (some ⟨b2, f2, none⟩) m d]] w fun e w' => JrA w (syA zs ys) e w' := by
  obtain ⟨i0, hi, hz0, hz1, hz2⟩ := info_parts Try.infoU8
  have hw := ((New.refl w).alloc (.cells #[.slice (some ⟨b, o, none⟩) n c, .slice (some ⟨b2, f2, none⟩) m d] 25)).alloc (.cells #[.int .i64 0, .int .i64 0, .slice none 0 0, .slice none 0 0] 29)
  have bJ := (Blk.mk w w.heap.size 25 #[.slice (some ⟨b, o, none⟩) n c, .slice (some ⟨b2, f2, none⟩) m d] rfl).alloc (.cells #[.int .i64 0, .int .i64 0, .slice none 0 0, .slice none 0 0] 29)
  have bR := Blk.mk (w.alloc (.cells #[.slice (some ⟨b, o, none⟩) n c, .slice (some ⟨b2, f2, none⟩) m d] 25)) (w.heap.size + 1) 29 #[.int .i64 0, .int .i64 0, .slice none 0 0, .slice none 0 0] (by simp)
  by_cases hf : jF zs ys = 0
  · have hf' : (jF zs ys != 0) = false := by simp [hf]
    have HF : Hid (jF zs ys = 0) := hf
    obtain ⟨hs6, -, -⟩ := jF_zero hf
    clear hf
    go_enter Try.func57, Try.ntmps57
    go_wp2_with fail
    refine (specJF b o n c b2 f2 m d zs ys _ (h.new hw) (k.new hw) (by simp; omega) (by simp; omega) hn hm hc hd hn1 hm1).mono ?_
    rintro e w1 ⟨rfl, hn1'⟩
    have n1 := hw.trans hn1'
    have bJ1 := bJ.new hn1'
    have bR1 := bR.new hn1'
    have cJ := bJ1.cells
    have lR := bR1.lt
    have lJ := bJ1.lt
    have hzz : ∀ z ∈ zs ++ ys, 0 ≤ z ∧ z ≤ 255 := fun z hz => (List.mem_append.1 hz).elim (h.lt z) (k.lt z)
    obtain ⟨us, hU⟩ : ∃ us, zs ++ ys = us := ⟨_, rfl⟩
    have HZ : Hid (∀ z ∈ us, 0 ≤ z ∧ z ≤ 255) := by rw [← hU]; exact hzz
    have hl3 : us.length ≤ 1048576 := by rw [← hU, List.length_append]; omega
    have h1 := h.new n1
    have k1 := k.new n1
    have cJd := (bJ1.new ((New.refl _).drew)).cells
    have cJa := (bJ1.new (((New.refl _).alloc (.cells #[] 5)).drew)).cells
    have N0 : New w1 (w1.alloc (.cells #[] 5)).drew := ((New.refl _).alloc _).drew
    have L0 : OvB (w1.alloc (.cells #[] 5)).drew w1.heap.size (.slice (some ⟨w1.heap.size, 0, none⟩) 0 0) [] := (lit_ov w1).new ((New.refl _).drew)
    have L0b := L0.blk
    have hne : ¬ w.heap.size + 1 = w.heap.size := by omega
    clear hn1' hw hzz
    go_upto_region 4 with fail
    go_region_held3 (fun X => ∀ j, X.cell? ⟨w.heap.size, j, none⟩ = (#[.slice (some ⟨b, o, none⟩) n c, .slice (some ⟨b2, f2, none⟩) m d] : Array Value)[j]?) (first | (with_reducible exact cJ) | (with_reducible exact cJd) | (with_reducible exact cJa) | (with_reducible exact cJ2) | (with_reducible exact cJ3) | (with_reducible exact cJ4) | (intro j; rw [cell_set10 hne, cell_set10 hne, cell_set10 hne, cell_set10 hne]; with_reducible exact cJ4 j))
      (first
        | (refine step_apB _ rfl (.tmp 10) (.tmp 12) rfl w1.heap.size Try.underlying22 hi hz0 hz1 hz2 _ [] rfl L0 (some ⟨b, o, none⟩) n c zs rfl (h1.new N0) hn (by intro h; cases h) (by simp; omega) N0.size ?_; intro v2 w2 ho2 hg2; have N2 : New w1 w2 := N0.grow hg2 (fun k hk => L0b k hk); have cJ2 := (bJ1.new N2).cells; have o2 : OvB w2 w1.heap.size v2 zs := (by first | exact ho2 | (unfold OvB; simpa using ho2) | (unfold OvB; rw [hn]; simpa using ho2)); have o2b := o2.blk)
        | (refine step_apB _ rfl (.tmp 13) (.tmp 15) rfl w1.heap.size Try.underlying22 hi hz0 hz1 hz2 v2 zs rfl o2 (some ⟨b2, f2, none⟩) m d ys rfl (k1.new N2) hm (by intro h; cases h) (by omega) N2.size ?_; intro v3 w3 ho3 hg3; have N3 : New w1 w3 := N2.grow hg3 (fun k hk => o2b k hk); have cJ3 := (bJ1.new N3).cells; have o3 : OvB w3 w1.heap.size v3 us := (by rw [← hU]; first | exact ho3 | (unfold OvB; simpa using ho3) | (unfold OvB; simpa [hn, hm] using ho3)); obtain ⟨a3, c3, rfl, ha3, hc3, hs3, -⟩ := o3.bs HZ.out; have hs3' : (a3 = none ∧ us.length = 0 ∧ c3 = 0) ∨ ∃ b off, a3 = some ⟨b, off, none⟩ := (by rcases hs3 with h | ⟨g, h, _⟩; exact .inl h; exact .inr ⟨g, 0, h⟩))
        | (go_at_call 39; refine (l10Of_any a3 none us.length c3 0 0 us [] _ ha3 (BsAt.nil _ _) rfl rfl hs3' (.inl ⟨rfl, rfl, rfl⟩) hc3 (Nat.le_refl _) hl3 (by omega)).mono ?_; rintro e w4 ⟨p1, p2, d1, d2, rfl, q1, q2, qa, qn⟩; have N4 := N3.trans qn; have cJ4 := (bJ1.new N4).cells; have bR4 := bR1.new N4; have cR := bR4.cells; have fR := bR4.frees))
    all_goals
      have s3 := N3.size
      clear cJ cJd cJa cJ2 cJ3 cJ4
      go_wp2
      refine bodyPost_ret (v := .agg #[.int .i64 0, .int .i64 (eCnt us + eCnt []), .slice p1 us.length d1, .slice p2 0 d2]) (by simp [results, Try.results57, go_sem, cR]) rfl ?_
      unfold JrA syA
      rw [if_pos HF.out, hU]
      exact JrAns.stored (ys := []) (B := w.heap.size + 1) (by omega) (by omega) (n1.trans N3) q1 q2 qa qn (Turn.set (S := fun i => i = w.heap.size + 1) (Turn.set (S := fun i => i = w.heap.size + 1) (Turn.set (S := fun i => i = w.heap.size + 1) (Turn.set (S := fun i => i = w.heap.size + 1) (Turn.refl _ _) rfl _) rfl _) rfl _) rfl _)
  · skip
    have hf' : (jF zs ys != 0) = true := by simp [hf]
    have HF : Hid (¬ jF zs ys = 0) := hf
    clear hf
    go_enter Try.func57, Try.ntmps57
    go_wp2_with fail
    refine (specJF b o n c b2 f2 m d zs ys _ (h.new hw) (k.new hw) (by simp; omega) (by simp; omega) hn hm hc hd hn1 hm1).mono ?_
    rintro e w1 ⟨rfl, hn1'⟩
    have bR1 := bR.new hn1'
    have cR := bR1.cells
    have fR := bR1.frees
    go_wp2
    refine bodyPost_ret (v := .agg #[.int .i64 (jF zs ys), .int .i64 0, .slice none 0 0, .slice none 0 0]) (by simp [results, Try.results57, go_sem, cR]) rfl ?_
    unfold JrA syA
    rw [if_neg HF.out]
    exact JrAns.code (((((hw.trans hn1').setCell (by simp) _).setCell (by simp) _).setCell (by simp) _).setCell (by simp) _)

end Go.Proofs.Ytdkjgjjkjfeodaa
