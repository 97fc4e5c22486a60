/- What is proved here: what TakeInput answer, in the program and in the model, for lists of at most 1048576 bytes. The condition: the package-level variables hold what the text lays. -/
import Derived.Test.YtkjhjfdgkinpjaaDoorW11Ps
import Derived.Test.YtkjhjfdgkinpjaaDoorW11Sf
import Derived.Deep.RegionHeld3
namespace Go.Proofs.YtkjhjfdgkinpjaaDoor
open Go.RowKit
set_option linter.unusedVariables false
set_option linter.unusedSimpArgs false

theorem Tryd.htB : Tryd.prog.underlying 22 = some (.slice (Tryd.prog.elem 22)) := by kernel_rfl
theorem Tryd.szB (w : World) : (sizeOf (Tryd.prog.elem 22)).run Tryd.prog w = .ok 1 w := by kernel_rfl
theorem cell_set11 {w : World} {B C i j : Nat} {v : Value} (h : ¬ B = C) : (w.setCell ⟨B, i, none⟩ v).cell? ⟨C, j, none⟩ = w.cell? ⟨C, j, none⟩ :=
  World.cell?_of_block (Below.heap_setCell w ⟨B, i, none⟩ v C (fun e => h e.symm))

/-- What is left of bytes from a place on. -/
theorem cutL (a : Option Addr) (c f : Nat) (zs : List Int) (hs : (a = none ∧ zs.length = 0 ∧ c = 0) ∨ ∃ b o, a = some ⟨b, o, none⟩) (hc : zs.length ≤ c) (hf : f ≤ zs.length) :
    ∃ a' c', (∀ X, (Instr.slice 22 (.slice a zs.length c) (some (.int .i64 (f : Int))) none none).run Tryd.prog X = .ok (.slice a' (zs.length - f) c') X) ∧ (∀ W, BsAt W a zs → BsAt W a' (zs.drop f)) ∧ (a' = none → zs.length - f = 0 ∧ c' = 0) ∧ zs.length - f ≤ c' ∧ ((a' = none ∧ zs.length - f = 0 ∧ c' = 0) ∨ ∃ b o, a' = some ⟨b, o, none⟩) := by
  have hr : ∀ X, (Instr.slice 22 (.slice a zs.length c) (some (.int .i64 (f : Int))) none none).run Tryd.prog X = .ok (sliced a f zs.length c 1) X := by
    intro X
    rw [run_slice_l X 22 a zs.length c Tryd.htB .i64 f (by omega) (by omega), Tryd.szB]
    simp [Result.andThen]
  rcases hs with ⟨rfl, h0, rfl⟩ | ⟨b, o, rfl⟩
  · obtain rfl : zs = [] := List.eq_nil_of_length_eq_zero h0
    obtain rfl : f = 0 := by simpa using hf
    exact ⟨none, 0, fun X => by rw [hr X]; simp [sliced], fun W h => by simpa using h, fun _ => by simp, by simp, .inl ⟨rfl, by simp, rfl⟩⟩
  · by_cases hcf : c = f
    · refine ⟨some ⟨b, o, none⟩, c - f, fun X => by rw [hr X]; simp [sliced, hcf], fun W h => ?_, (by intro h; cases h), by omega, .inr ⟨b, o, rfl⟩⟩
      rw [List.drop_of_length_le (by omega)]
      exact BsAt.nil _ _
    · refine ⟨some ⟨b, o + f, none⟩, c - f, fun X => by rw [hr X]; simp [sliced, hcf, Addr.add], fun W h => ?_, (by intro h; cases h), by omega, .inr ⟨b, o + f, rfl⟩⟩
      intro i z hz
      rw [List.getElem?_drop] at hz
      obtain ⟨b', o', e, hc', hb⟩ := h _ z hz
      obtain ⟨rfl, rfl⟩ : b = b' ∧ o = o' := by simpa using e
      exact ⟨b, o + f, rfl, by rw [Nat.add_assoc]; exact hc', hb⟩

/-- The first of bytes. -/
theorem headL (a : Option Addr) (n c t : Nat) (hs : (a = none ∧ n = 0 ∧ c = 0) ∨ ∃ b o, a = some ⟨b, o, none⟩) (ht : t ≤ c) :
    ∀ X, (Instr.slice 22 (.slice a n c) none (some (.int .i64 (t : Int))) none).run Tryd.prog X = .ok (.slice a t c) X := by
  intro X
  rw [run_slice_h X 22 a n c Tryd.htB .i64 t (by omega) (by omega), Tryd.szB]
  rcases hs with ⟨rfl, h0, rfl⟩ | ⟨b, o, rfl⟩
  · simp [Result.andThen, sliced]
  · by_cases hc : c = 0
    · simp [Result.andThen, sliced, hc]
    · simp [Result.andThen, sliced, hc, Addr.add]

/-- What TakeInput answers. -/
def tiA (E T ep fr n : Int) (zs ys : List Int) : Wr := if sF E T ep zs.length ys.length = 0 then (if (fr < 0 ∨ (zs.length : Int) < fr) ∨ n < 0 ∨ 60 < n then Wr.bad 3 else ⟨0, E, T, (zs.drop fr.toNat).take n.toNat, zs, ys⟩) else Wr.bad (sF E T ep zs.length ys.length)

/-- Bytes and a wire that callees made, stored into the call's own result. -/
theorem WrAns.three {w w1 w2 w9 w' : World} {B : Nat} {E T : Int} {xs zs ys : List Int} {p a b : Option Addr} {f c d : Nat} (hB : w.heap.size ≤ B) (hB1 : B < w1.heap.size) (h1 : New w w1) (h12 : New w1 w2) (q0 : OvB w2 w1.heap.size (.slice p xs.length f) xs) (hxs : ∀ z ∈ xs, 0 ≤ z ∧ z ≤ 255) (q1 : OvB w9 w2.heap.size (.slice a zs.length c) zs) (q2 : OvB w9 w2.heap.size (.slice b ys.length d) ys) (hzs : ∀ z ∈ zs, 0 ≤ z ∧ z ≤ 255) (hys : ∀ z ∈ ys, 0 ≤ z ∧ z ≤ 255)
    (qa : ∀ x y, a = some x → b = some y → x.block ≠ y.block) (qn : New w2 w9) (t : Turn (fun i => i = B) w9 w') : WrAns w 0 E T xs zs ys (.returned (.agg #[.int .i64 0, .slice p xs.length f, .int .i64 E, .slice a zs.length c, .int .i64 T, .slice b ys.length d])) w' := by
  have s1 := h1.size
  have s2 := h12.size
  obtain ⟨-, -, lp⟩ := q0.ow hxs
  obtain ⟨-, -, la⟩ := q1.ow hzs
  obtain ⟨-, -, lb⟩ := q2.ow hys
  refine ⟨p, a, b, f, c, d, rfl, ?_, ?_, ?_, ?_, ?_, qa, ((h1.trans h12).trans qn).before t (by intro i hi e; omega)⟩
  · exact (ov_turn (q0.new qn) t (by intro k hk e; omega)).low s1
  · exact (ov_turn q1 t (by intro k hk e; omega)).low (by omega)
  · exact (ov_turn q2 t (by intro k hk e; omega)).low (by omega)
  · intro x y hx hy e
    have := (lp x hx).2
    have := (la y hy).1
    omega
  · intro x y hx hy e
    have := (lp x hx).2
    have := (lb y hy).1
    omega

/-- Bytes from a place on up to another one. -/
theorem cutM (a : Option Addr) (c f h : Nat) (zs : List Int) (hs : (a = none ∧ zs.length = 0 ∧ c = 0) ∨ ∃ b o, a = some ⟨b, o, none⟩) (hc : zs.length ≤ c) (hf : f ≤ h) (hh : h ≤ zs.length) :
    ∃ a' c', (∀ X, (Instr.slice 22 (.slice a zs.length c) (some (.int .i64 (f : Int))) (some (.int .i64 (h : Int))) none).run Tryd.prog X = .ok (.slice a' (h - f) c') X) ∧ (∀ W, BsAt W a zs → BsAt W a' ((zs.drop f).take (h - f))) ∧ (a' = none → h - f = 0 ∧ c' = 0) := by
  have hr : ∀ X, (Instr.slice 22 (.slice a zs.length c) (some (.int .i64 (f : Int))) (some (.int .i64 (h : Int))) none).run Tryd.prog X = .ok (sliced a f h c 1) X := by
    intro X
    rw [run_slice_lh X 22 a zs.length c Tryd.htB .i64 .i64 f h (by omega) (by omega) (by omega), Tryd.szB]
    simp [Result.andThen]
  rcases hs with ⟨rfl, h0, rfl⟩ | ⟨b, o, rfl⟩
  · obtain rfl : zs = [] := List.eq_nil_of_length_eq_zero h0
    obtain rfl : h = 0 := by simpa using hh
    obtain rfl : f = 0 := by simpa using hf
    exact ⟨none, 0, fun X => by rw [hr X]; simp [sliced], fun W h => by simpa using h, fun _ => by simp⟩
  · by_cases hcf : c = f
    · refine ⟨some ⟨b, o, none⟩, c - f, fun X => by rw [hr X]; simp [sliced, hcf], fun W hW => ?_, (by intro h; cases h)⟩
      rw [List.drop_of_length_le (by omega)]
      simpa using BsAt.nil _ _
    · refine ⟨some ⟨b, o + f, none⟩, c - f, fun X => by rw [hr X]; simp [sliced, hcf, Addr.add], fun W hW => BsAt.take ?_ _, (by intro h; cases h)⟩
      intro i z hz
      rw [List.getElem?_drop] at hz
      obtain ⟨b', o', e, hc', hb⟩ := hW _ z hz
      obtain ⟨rfl, rfl⟩ : b = b' ∧ o = o' := by simpa using e
      exact ⟨b, o + f, rfl, by rw [Nat.add_assoc]; exact hc', hb⟩

theorem l1Min_any (x y : Int) (w : World) : Calls Tryd.prog 23 #[.int .i64 x, .int .i64 y] w fun e w' => e = .returned (.int .i64 (min x y)) ∧ w' = w := by
  by_cases h : x < y
  · have hm : Hid (min x y = x) := by unfold Hid; omega
    go_enter Tryd.func23, Tryd.ntmps23
    go_wp2
    go_ret
    exact ⟨ret_i64 hm.out.symm, rfl⟩
  · have hm : Hid (min x y = y) := by unfold Hid; omega
    go_enter Tryd.func23, Tryd.ntmps23
    go_wp2
    go_ret
    exact ⟨ret_i64 hm.out.symm, rfl⟩

set_option maxHeartbeats 3200000 in
theorem implTIok (E T ep : Int) (fn nn : Nat) (a b : Option Addr) (c d : Nat) (zs ys : List Int) (w : World) (hG : Glob w) (hsa : (a = none ∧ zs.length = 0 ∧ c = 0) ∨ ∃ b o, a = some ⟨b, o, none⟩) (hca : zs.length ≤ c) (ha : BsAt w a zs) (hb : BsAt w b ys) (hna : a = none → zs.length = 0 ∧ c = 0) (hnb : b = none → ys.length = 0 ∧ d = 0) (hn1 : zs.length ≤ 1048576) (hm1 : ys.length ≤ 1048576) (hf : sF E T ep zs.length ys.length = 0) (hfl : fn ≤ zs.length) (hn60 : nn ≤ 60) :
    Calls Tryd.prog 11 #[.agg #[.int .i64 E, .slice a zs.length c, .int .i64 T, .slice b ys.length d], .int .i64 ep, .int .i64 fn, .int .i64 nn] w fun e w' => WrAns w 0 E T ((zs.drop fn).take nn) zs ys e w' := by
  have HSA : Hid ((a = none ∧ zs.length = 0 ∧ c = 0) ∨ ∃ b o, a = some ⟨b, o, none⟩) := hsa
  have hz := ha.lt
  have hy := hb.lt
  clear hsa
  have hw := ((New.refl w).alloc (.cells #[.int .i64 E, .slice a zs.length c, .int .i64 T, .slice b ys.length d] 25)).alloc (.cells #[.int .i64 0, .slice none 0 0, .int .i64 0, .slice none 0 0, .int .i64 0, .slice none 0 0] 29)
  have bP := (Blk.mk w w.heap.size 25 #[.int .i64 E, .slice a zs.length c, .int .i64 T, .slice b ys.length d] rfl).alloc (.cells #[.int .i64 0, .slice none 0 0, .int .i64 0, .slice none 0 0, .int .i64 0, .slice none 0 0] 29)
  have bR := Blk.mk (w.alloc (.cells #[.int .i64 E, .slice a zs.length c, .int .i64 T, .slice b ys.length d] 25)) (w.heap.size + 1) 29 #[.int .i64 0, .slice none 0 0, .int .i64 0, .slice none 0 0, .int .i64 0, .slice none 0 0] (by simp)
  have HNA : Hid (a = none → zs.length = 0 ∧ c = 0) := hna
  have HNB : Hid (b = none → ys.length = 0 ∧ d = 0) := hnb
  clear hna hnb
  have hf' : (sF E T ep zs.length ys.length != 0) = false := by simp [hf]
  have HF : Hid (sF E T ep zs.length ys.length = 0) := hf
  obtain ⟨hf0, hep1, hep2, hep3⟩ := sF_zero hf
  obtain ⟨-, ⟨hn2, hm2⟩, hT0, hT1⟩ := wF_zero hf0
  clear hf hf0
  obtain ⟨a2, c2, hcut, hbs, hnone, hle, hs2⟩ := cutL a c fn zs HSA.out hca hfl
  obtain ⟨xs, hxs⟩ : ∃ xs, (zs.drop fn).take nn = xs := ⟨_, rfl⟩
  have hxl : xs.length = min nn (zs.length - fn) := by rw [← hxs, List.length_take, List.length_drop]
  have hhd := headL a2 (zs.length - fn) c2 xs.length hs2 (by omega)
  have HNO : Hid (a2 = none → xs.length = 0 ∧ c2 = 0) := by intro h; have := hnone h; exact ⟨by omega, this.2⟩
  have HBS : Hid (∀ W, BsAt W a zs → BsAt W a2 xs) := by intro W h; rw [← hxs]; exact (hbs W h).take nn
  have HXB : Hid (∀ z ∈ xs, 0 ≤ z ∧ z ≤ 255) := by unfold Hid; rw [← hxs]; exact fun z h => hz z (List.mem_of_mem_drop (List.mem_of_mem_take h))
  have hx1 : xs.length ≤ 1048576 := by omega
  rw [hxs]
  clear hxs hbs hnone hs2
  obtain ⟨ll, hll⟩ : ∃ ll : Nat, zs.length - fn = ll := ⟨_, rfl⟩
  rw [hll] at hcut hhd hxl hle
  have hll2 : ll ≤ 2000 := by omega
  clear hll
  by_cases hmn : nn ≤ ll
  · obtain rfl : xs.length = nn := by omega
    clear hxl
    go_enter Tryd.func11, Tryd.ntmps11
    go_wp2_with fail
    refine (implSF E T ep a b zs.length c ys.length d _ (hG.new hw) hn1 hm1).mono ?_
    rintro e w1 ⟨rfl, hn1'⟩
    have n1 := hw.trans hn1'
    have bP1 := bP.new hn1'
    have bR1 := bR.new hn1'
    have lR := bR1.lt
    have cP := bP1.cells
    clear hn1' hw
    go_wp2_with fail
    refine (place_yes (fn : Int) a zs.length c _ ⟨by omega, by omega⟩ hn1).mono ?_
    rintro e w1' ⟨rfl, hx⟩
    obtain rfl := hx.symm
    have al : New w1 (w1.alloc (.cells #[.slice a2 xs.length c2] 22)).drew := ((New.refl w1).alloc _).drew
    have bL := (Blk.mk w1 w1.heap.size 22 #[.slice a2 xs.length c2] rfl).new ((New.refl _).drew)
    have hCC := concat1 w1.heap.size a2 xs.length c2 xs _ (bL.cells 0) (HBS.out _ (ha.new (n1.trans al))) rfl HNO.out hx1
    have cPd := (bP1.new ((New.refl _).drew)).cells
    have cPa := (bP1.new al).cells
    have hne : ¬ w.heap.size + 1 = w.heap.size := by omega
    go_upto_region 8 with fail
    go_region_held3 (fun X => ∀ j, X.cell? ⟨w.heap.size, j, none⟩ = (#[.int .i64 E, .slice a zs.length c, .int .i64 T, .slice b ys.length d] : Array Value)[j]?) (first | (with_reducible exact cP) | (with_reducible exact cPd) | (with_reducible exact cPa) | (with_reducible exact cP2) | (with_reducible exact cP3) | (intro j; rw [cell_set11 hne, cell_set11 hne, cell_set11 hne, cell_set11 hne, cell_set11 hne, cell_set11 hne]; with_reducible exact cP3 j))
      (first
        | (go_at_call 28; refine hCC.mono ?_; rintro e w2 ⟨v2, rfl, ho2, hn2'⟩; have n12 := al.trans hn2'; have o2 : OvB w2 w1.heap.size v2 xs := ho2.low al.size; obtain ⟨p2, f2, rfl, -, -, -, -⟩ := o2.bs HXB.out; have cP2 := (bP1.new n12).cells)
        | (go_at_call 29; refine (copyW E T a b c d zs ys _ (ha.new (n1.trans n12)) (hb.new (n1.trans n12)) HNA.out HNB.out hn1 hm1).mono ?_; rintro e w3 ⟨p3, p4, d3, d4, rfl, q1, q2, qa, qn⟩; have n13 := n12.trans qn; have cP3 := (bP1.new n13).cells; have bR3 := bR1.new n13; have cR := bR3.cells; have fR := bR3.frees))
    all_goals
      clear cP cPd cPa cP2 cP3
      go_wp2
      refine bodyPost_ret (v := .agg #[.int .i64 0, .slice p2 xs.length f2, .int .i64 E, .slice p3 zs.length d3, .int .i64 T, .slice p4 ys.length d4]) (by simp [results, Tryd.results11, go_sem, cR]) rfl ?_
      exact WrAns.three (B := w.heap.size + 1) (by omega) lR n1 n12 o2 HXB.out q1 q2 hz hy qa qn (Turn.set (S := fun i => i = w.heap.size + 1) (Turn.set (S := fun i => i = w.heap.size + 1) (Turn.set (S := fun i => i = w.heap.size + 1) (Turn.set (S := fun i => i = w.heap.size + 1) (Turn.set (S := fun i => i = w.heap.size + 1) (Turn.set (S := fun i => i = w.heap.size + 1) (Turn.refl _ _) rfl _) rfl _) rfl _) rfl _) rfl _) rfl _)
  · obtain rfl : xs.length = ll := by omega
    clear hxl
    go_enter Tryd.func11, Tryd.ntmps11
    go_wp2_with fail
    refine (implSF E T ep a b zs.length c ys.length d _ (hG.new hw) hn1 hm1).mono ?_
    rintro e w1 ⟨rfl, hn1'⟩
    have n1 := hw.trans hn1'
    have bP1 := bP.new hn1'
    have bR1 := bR.new hn1'
    have lR := bR1.lt
    have cP := bP1.cells
    clear hn1' hw
    go_wp2_with fail
    refine (place_yes (fn : Int) a zs.length c _ ⟨by omega, by omega⟩ hn1).mono ?_
    rintro e w1' ⟨rfl, hx⟩
    obtain rfl := hx.symm
    have al : New w1 (w1.alloc (.cells #[.slice a2 xs.length c2] 22)).drew := ((New.refl w1).alloc _).drew
    have bL := (Blk.mk w1 w1.heap.size 22 #[.slice a2 xs.length c2] rfl).new ((New.refl _).drew)
    have hCC := concat1 w1.heap.size a2 xs.length c2 xs _ (bL.cells 0) (HBS.out _ (ha.new (n1.trans al))) rfl HNO.out hx1
    have cPd := (bP1.new ((New.refl _).drew)).cells
    have cPa := (bP1.new al).cells
    have hne : ¬ w.heap.size + 1 = w.heap.size := by omega
    go_upto_region 8 with fail
    go_region_held3 (fun X => ∀ j, X.cell? ⟨w.heap.size, j, none⟩ = (#[.int .i64 E, .slice a zs.length c, .int .i64 T, .slice b ys.length d] : Array Value)[j]?) (first | (with_reducible exact cP) | (with_reducible exact cPd) | (with_reducible exact cPa) | (with_reducible exact cP2) | (with_reducible exact cP3) | (intro j; rw [cell_set11 hne, cell_set11 hne, cell_set11 hne, cell_set11 hne, cell_set11 hne, cell_set11 hne]; with_reducible exact cP3 j))
      (first
        | (go_at_call 28; refine hCC.mono ?_; rintro e w2 ⟨v2, rfl, ho2, hn2'⟩; have n12 := al.trans hn2'; have o2 : OvB w2 w1.heap.size v2 xs := ho2.low al.size; obtain ⟨p2, f2, rfl, -, -, -, -⟩ := o2.bs HXB.out; have cP2 := (bP1.new n12).cells)
        | (go_at_call 29; refine (copyW E T a b c d zs ys _ (ha.new (n1.trans n12)) (hb.new (n1.trans n12)) HNA.out HNB.out hn1 hm1).mono ?_; rintro e w3 ⟨p3, p4, d3, d4, rfl, q1, q2, qa, qn⟩; have n13 := n12.trans qn; have cP3 := (bP1.new n13).cells; have bR3 := bR1.new n13; have cR := bR3.cells; have fR := bR3.frees))
    all_goals
      clear cP cPd cPa cP2 cP3
      go_wp2
      refine bodyPost_ret (v := .agg #[.int .i64 0, .slice p2 xs.length f2, .int .i64 E, .slice p3 zs.length d3, .int .i64 T, .slice p4 ys.length d4]) (by simp [results, Tryd.results11, go_sem, cR]) rfl ?_
      exact WrAns.three (B := w.heap.size + 1) (by omega) lR n1 n12 o2 HXB.out q1 q2 hz hy qa qn (Turn.set (S := fun i => i = w.heap.size + 1) (Turn.set (S := fun i => i = w.heap.size + 1) (Turn.set (S := fun i => i = w.heap.size + 1) (Turn.set (S := fun i => i = w.heap.size + 1) (Turn.set (S := fun i => i = w.heap.size + 1) (Turn.set (S := fun i => i = w.heap.size + 1) (Turn.refl _ _) rfl _) rfl _) rfl _) rfl _) rfl _) rfl _)

set_option maxHeartbeats 3200000 in
theorem implTI (E T ep fr n : Int) (a b : Option Addr) (c d : Nat) (zs ys : List Int) (w : World) (hG : Glob w) (hsa : (a = none ∧ zs.length = 0 ∧ c = 0) ∨ ∃ b o, a = some ⟨b, o, none⟩) (hca : zs.length ≤ c) (ha : BsAt w a zs) (hb : BsAt w b ys) (hna : a = none → zs.length = 0 ∧ c = 0) (hnb : b = none → ys.length = 0 ∧ d = 0) (hn1 : zs.length ≤ 1048576) (hm1 : ys.length ≤ 1048576) :
    Calls Tryd.prog 11 #[.agg #[.int .i64 E, .slice a zs.length c, .int .i64 T, .slice b ys.length d], .int .i64 ep, .int .i64 fr, .int .i64 n] w fun e w' => WrA w (tiA E T ep fr n zs ys) e w' := by
  by_cases hgood : sF E T ep zs.length ys.length = 0 ∧ (0 ≤ fr ∧ fr ≤ (zs.length : Int)) ∧ 0 ≤ n ∧ n ≤ 60
  · obtain ⟨h1, ⟨h2, h3⟩, h4, h5⟩ := hgood
    obtain ⟨fn, rfl⟩ : ∃ fn : Nat, fr = fn := ⟨fr.toNat, by omega⟩
    obtain ⟨nn, rfl⟩ : ∃ nn : Nat, n = nn := ⟨n.toNat, by omega⟩
    refine (implTIok E T ep fn nn a b c d zs ys w hG hsa hca ha hb hna hnb hn1 hm1 h1 (by omega) (by omega)).mono fun e w' hh => ?_
    unfold WrA tiA
    rw [if_pos h1, if_neg (by omega)]
    simpa using hh
  have HSA : Hid ((a = none ∧ zs.length = 0 ∧ c = 0) ∨ ∃ b o, a = some ⟨b, o, none⟩) := hsa
  clear hsa
  have hw := ((New.refl w).alloc (.cells #[.int .i64 E, .slice a zs.length c, .int .i64 T, .slice b ys.length d] 25)).alloc (.cells #[.int .i64 0, .slice none 0 0, .int .i64 0, .slice none 0 0, .int .i64 0, .slice none 0 0] 29)
  have bP := (Blk.mk w w.heap.size 25 #[.int .i64 E, .slice a zs.length c, .int .i64 T, .slice b ys.length d] rfl).alloc (.cells #[.int .i64 0, .slice none 0 0, .int .i64 0, .slice none 0 0, .int .i64 0, .slice none 0 0] 29)
  have bR := Blk.mk (w.alloc (.cells #[.int .i64 E, .slice a zs.length c, .int .i64 T, .slice b ys.length d] 25)) (w.heap.size + 1) 29 #[.int .i64 0, .slice none 0 0, .int .i64 0, .slice none 0 0, .int .i64 0, .slice none 0 0] (by simp)
  have HNA : Hid (a = none → zs.length = 0 ∧ c = 0) := hna
  have HNB : Hid (b = none → ys.length = 0 ∧ d = 0) := hnb
  clear hna hnb
  by_cases hf : sF E T ep zs.length ys.length = 0
  · have hf' : (sF E T ep zs.length ys.length != 0) = false := by simp [hf]
    have HF : Hid (sF E T ep zs.length ys.length = 0) := hf
    obtain ⟨hf0, hep1, hep2, hep3⟩ := sF_zero hf
    obtain ⟨-, ⟨hn2, hm2⟩, hT0, hT1⟩ := wF_zero hf0
    clear hf hf0
    by_cases hu : fr < 0 ∨ (zs.length : Int) < fr
    · have HU : Hid (fr < 0 ∨ (zs.length : Int) < fr) := hu
      clear hu hgood
      go_enter Tryd.func11, Tryd.ntmps11
      go_wp2_with fail
      refine (implSF E T ep a b zs.length c ys.length d _ (hG.new hw) hn1 hm1).mono ?_
      rintro e w1 ⟨rfl, hn1'⟩
      have n1 := hw.trans hn1'
      have bP1 := bP.new hn1'
      have bR1 := bR.new hn1'
      have lR := bR1.lt
      have cP := bP1.cells
      clear hn1' hw
      go_wp2_with fail
      refine (place_no fr a zs.length c _ HU.out hn1).mono ?_
      rintro e w1' ⟨rfl, hx⟩
      obtain rfl := hx.symm
      have cR := bR1.cells
      have fR := bR1.frees
      go_wp2
      refine bodyPost_ret (v := .agg #[.int .i64 3, .slice none 0 0, .int .i64 0, .slice none 0 0, .int .i64 0, .slice none 0 0]) (by simp [results, Tryd.results11, go_sem, cR]) rfl ?_
      unfold WrA tiA
      rw [if_pos HF.out, if_pos (Or.inl HU.out)]
      exact WrAns.codeT (B := w.heap.size + 1) (by omega) n1 (Turn.set (S := fun i => i = w.heap.size + 1) (Turn.set (S := fun i => i = w.heap.size + 1) (Turn.set (S := fun i => i = w.heap.size + 1) (Turn.set (S := fun i => i = w.heap.size + 1) (Turn.set (S := fun i => i = w.heap.size + 1) (Turn.set (S := fun i => i = w.heap.size + 1) (Turn.refl _ _) rfl _) rfl _) rfl _) rfl _) rfl _) rfl _)
    have HV : Hid (0 ≤ fr ∧ fr ≤ (zs.length : Int)) := by unfold Hid; omega
    have hnn : n < 0 ∨ 60 < n := by have := HV.out; have := HF.out; omega
    have HN : Hid (n < 0 ∨ 60 < n) := hnn
    clear hu hgood
    by_cases hn0 : n < 0
    · clear hnn
      go_enter Tryd.func11, Tryd.ntmps11
      go_wp2_with fail
      refine (implSF E T ep a b zs.length c ys.length d _ (hG.new hw) hn1 hm1).mono ?_
      rintro e w1 ⟨rfl, hn1'⟩
      have n1 := hw.trans hn1'
      have bP1 := bP.new hn1'
      have bR1 := bR.new hn1'
      have lR := bR1.lt
      have cP := bP1.cells
      clear hn1' hw
      go_wp2_with fail
      refine (place_yes fr a zs.length c _ HV.out hn1).mono ?_
      rintro e w1' ⟨rfl, hx⟩
      obtain rfl := hx.symm
      have cR := bR1.cells
      have fR := bR1.frees
      go_wp2
      refine bodyPost_ret (v := .agg #[.int .i64 3, .slice none 0 0, .int .i64 0, .slice none 0 0, .int .i64 0, .slice none 0 0]) (by simp [results, Tryd.results11, go_sem, cR]) rfl ?_
      unfold WrA tiA
      rw [if_pos HF.out, if_pos (Or.inr HN.out)]
      exact WrAns.codeT (B := w.heap.size + 1) (by omega) n1 (Turn.set (S := fun i => i = w.heap.size + 1) (Turn.set (S := fun i => i = w.heap.size + 1) (Turn.set (S := fun i => i = w.heap.size + 1) (Turn.set (S := fun i => i = w.heap.size + 1) (Turn.set (S := fun i => i = w.heap.size + 1) (Turn.set (S := fun i => i = w.heap.size + 1) (Turn.refl _ _) rfl _) rfl _) rfl _) rfl _) rfl _) rfl _)
    · have hn6 : 60 < n := by omega
      clear hnn
      go_enter Tryd.func11, Tryd.ntmps11
      go_wp2_with fail
      refine (implSF E T ep a b zs.length c ys.length d _ (hG.new hw) hn1 hm1).mono ?_
      rintro e w1 ⟨rfl, hn1'⟩
      have n1 := hw.trans hn1'
      have bP1 := bP.new hn1'
      have bR1 := bR.new hn1'
      have lR := bR1.lt
      have cP := bP1.cells
      clear hn1' hw
      go_wp2_with fail
      refine (place_yes fr a zs.length c _ HV.out hn1).mono ?_
      rintro e w1' ⟨rfl, hx⟩
      obtain rfl := hx.symm
      have cR := bR1.cells
      have fR := bR1.frees
      go_wp2
      refine bodyPost_ret (v := .agg #[.int .i64 3, .slice none 0 0, .int .i64 0, .slice none 0 0, .int .i64 0, .slice none 0 0]) (by simp [results, Tryd.results11, go_sem, cR]) rfl ?_
      unfold WrA tiA
      rw [if_pos HF.out, if_pos (Or.inr HN.out)]
      exact WrAns.codeT (B := w.heap.size + 1) (by omega) n1 (Turn.set (S := fun i => i = w.heap.size + 1) (Turn.set (S := fun i => i = w.heap.size + 1) (Turn.set (S := fun i => i = w.heap.size + 1) (Turn.set (S := fun i => i = w.heap.size + 1) (Turn.set (S := fun i => i = w.heap.size + 1) (Turn.set (S := fun i => i = w.heap.size + 1) (Turn.refl _ _) rfl _) rfl _) rfl _) rfl _) rfl _) rfl _)
  · have hf' : (sF E T ep zs.length ys.length != 0) = true := by simp [hf]
    have HF : Hid (¬ sF E T ep zs.length ys.length = 0) := hf
    clear hf hgood
    go_enter Tryd.func11, Tryd.ntmps11
    go_wp2_with fail
    refine (implSF E T ep a b zs.length c ys.length d _ (hG.new hw) hn1 hm1).mono ?_
    rintro e w1 ⟨rfl, hn1'⟩
    have n1 := hw.trans hn1'
    have bP1 := bP.new hn1'
    have bR1 := bR.new hn1'
    have lR := bR1.lt
    have cP := bP1.cells
    clear hn1' hw
    have cR := bR1.cells
    have fR := bR1.frees
    go_wp2
    refine bodyPost_ret (v := .agg #[.int .i64 (sF E T ep zs.length ys.length), .slice none 0 0, .int .i64 0, .slice none 0 0, .int .i64 0, .slice none 0 0]) (by simp [results, Tryd.results11, go_sem, cR]) rfl ?_
    unfold WrA tiA
    rw [if_neg HF.out]
    exact WrAns.codeT (B := w.heap.size + 1) (by omega) n1 (Turn.set (S := fun i => i = w.heap.size + 1) (Turn.set (S := fun i => i = w.heap.size + 1) (Turn.set (S := fun i => i = w.heap.size + 1) (Turn.set (S := fun i => i = w.heap.size + 1) (Turn.set (S := fun i => i = w.heap.size + 1) (Turn.set (S := fun i => i = w.heap.size + 1) (Turn.refl _ _) rfl _) rfl _) rfl _) rfl _) rfl _) rfl _)

end Go.Proofs.YtkjhjfdgkinpjaaDoor
