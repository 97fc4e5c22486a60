/- What is proved here: what the drawing of a message answers. -/
import Derived.Test.YteniieagcehmpaaDrawUp6
namespace Go.Proofs.Yteniieagcehmpaa
open Go.RowKit Go.Sort
set_option linter.unusedVariables false

theorem Turn.hereD {w wr : World} {B j : Nat} (h : Turn (fun k => k = B) w wr) (v : Value) : Turn (fun k => k = B) w (wr.setCell ⟨B, j, none⟩ v) := h.set rfl v

theorem uf_in {gs rs : List (Int × Int)} {has : Bool} {o nx md lc : Int} {xs : List Int} (h : uf gs has o xs nx md lc rs = 0) : (∀ p ∈ gs, In6 p.1 ∧ In6 p.2) ∧ (∀ z ∈ xs, In6 z) ∧ (∀ p ∈ rs, In6 p.1 ∧ In6 p.2) := by
  obtain ⟨_, _, hg, hr, h1, h0⟩ := uf_ok h
  refine ⟨fun p hp => pf_in ((lf_ok hg).2 p hp), ?_, fun p hp => pf_in ((lf_ok hr).2 p hp)⟩
  cases has with
  | true =>
    obtain ⟨_, haf⟩ := h1 rfl
    obtain ⟨-, -, hx⟩ := af_ok haf
    intro z hz
    have := hx z hz
    unfold In6
    omega
  | false =>
    obtain ⟨_, hz⟩ := h0 rfl
    intro u hu
    simp [ZaP] at hz
    simp_all

set_option maxHeartbeats 6400000 in
theorem l4Message_sc {B n c t : Nat} {a : Option Addr} {zs : List Int} {w : World} (h : Sc w B a n c zs t) (ht : t ≤ 5000) :
    Calls Try.prog 13 #[.pointer (some ⟨B, 0, none⟩)] w fun e w' => ∃ (kd sa mh mi wh su : Int) (gs rs : List (Int × Int)) (xs : List Int) (has : Bool) (o nx md lc : Int) (x y z : Value) (t' : Nat), e = .returned (.agg #[.int .i64 kd, .int .i64 sa, .int .i64 mh, .int .i64 mi, .int .i64 wh, .int .i64 su, x, .bool has, .int .i64 o, y, .int .i64 nx, .int .i64 md, .int .i64 lc, z]) ∧ gs.length ≤ 9 ∧ xs.length ≤ 7 ∧ rs.length ≤ 4 ∧ (∀ p ∈ gs, In6 p.1 ∧ In6 p.2) ∧ (∀ z ∈ xs, In6 z) ∧ (∀ p ∈ rs, In6 p.1 ∧ In6 p.2) ∧ OwQ w' w.heap.size x gs ∧ OwM w' w.heap.size y xs ∧ OwQ w' w.heap.size z rs ∧ t' ≤ t + 250 ∧ Sc w' B a n c zs t' ∧ Turn (fun k => k = B) w w' := by
  have hlt := h.blk.lt
  have hA := h.lt_of
  have N0 : New w (w.alloc (.cells #[.int .i64 0, .int .i64 0, .int .i64 0, .int .i64 0, .int .i64 0, .int .i64 0, .slice none 0 0, .bool false, .int .i64 0, .slice none 0 0, .int .i64 0, .int .i64 0, .int .i64 0, .slice none 0 0] 35)) := (New.refl w).alloc _
  have bR0 := Blk.mk w w.heap.size 35 #[.int .i64 0, .int .i64 0, .int .i64 0, .int .i64 0, .int .i64 0, .int .i64 0, .slice none 0 0, .bool false, .int .i64 0, .slice none 0 0, .int .i64 0, .int .i64 0, .int .i64 0, .slice none 0 0] rfl
  have hs0 := h.new N0
  have tT0 : Turn (fun k => k = B) w (w.alloc (.cells #[.int .i64 0, .int .i64 0, .int .i64 0, .int .i64 0, .int .i64 0, .int .i64 0, .slice none 0 0, .bool false, .int .i64 0, .slice none 0 0, .int .i64 0, .int .i64 0, .int .i64 0, .slice none 0 0] 35)) := N0.turn
  have hRB : ¬ w.heap.size = B := by omega
  have hSR : ∀ x, zs ≠ [] → a = some x → ¬ x.block = w.heap.size := fun x h1 h2 e => by have := hA x h1 h2; omega
  go_enter Try.func13, Try.ntmps13
  go_wp2_with fail
  refine (next_sc hs0 6 (by omega) (by omega)).mono ?_
  rintro e w1 ⟨y0, rfl, -, hs1, tn1⟩
  have bR1 := bR0.turn tn1 hRB
  have tT1 := Turn.both tT0 tn1
  clear bR0 tT0
  by_cases g0 : y0 = 0
  · subst g0
    go_wp2_with fail
    refine (next_sc hs1 5 (by omega) (by omega)).mono ?_
    rintro e w2 ⟨y1, rfl, ⟨py1, qy1, -⟩, hs2, tn2⟩
    have bR2 := bR1.turn tn2 hRB
    have tT2 := Turn.both tT1 tn2
    clear bR1 tT1
    have qy1 := qy1 (by omega)
    have hwy1 : IntKind.i64.wrap (1 + y1) = 1 + y1 := wrap_in (by omega)
    go_wp2_with fail
    refine (pick_sc (hs2.new ((New.refl _).alloc (.cells #[.int .i64 (9), .int .i64 (9), .int .i64 (0), .int .i64 (3), .int .i64 (200)] 2))) [9, 9, 0, 3, 200] (Blk.mk w2 w2.heap.size 2 #[.int .i64 (9), .int .i64 (9), .int .i64 (0), .int .i64 (3), .int .i64 (200)] rfl) 5 rfl (by omega) (by omega) (by omega)).mono ?_
    rintro e w3 ⟨q1, rfl, -, hs3, tn3⟩
    have bR3 := (bR2.alloc (.cells #[.int .i64 (9), .int .i64 (9), .int .i64 (0), .int .i64 (3), .int .i64 (200)] 2)).turn tn3 hRB
    have tT3 := Turn.both (Turn.andNew tT2 ((New.refl _).alloc (.cells #[.int .i64 (9), .int .i64 (9), .int .i64 (0), .int .i64 (3), .int .i64 (200)] 2))) tn3
    clear bR2 tT2
    go_wp2_with fail
    refine (next_sc hs3 9 (by omega) (by omega)).mono ?_
    rintro e w4 ⟨y2, rfl, ⟨py2, qy2, -⟩, hs4, tn4⟩
    have bR4 := bR3.turn tn4 hRB
    have tT4 := Turn.both tT3 tn4
    clear bR3 tT3
    have qy2 := qy2 (by omega)
    have hwy2 : IntKind.i64.wrap (1 + y2) = 1 + y2 := wrap_in (by omega)
    have cR := bR4.cells
    have fR := bR4.frees
    go_wp2
    refine bodyPost_ret (v := .agg #[.int .i64 1, .int .i64 (1 + y1), .int .i64 q1, .int .i64 (1 + y2), .int .i64 0, .int .i64 0, .slice none 0 0, .bool false, .int .i64 0, .slice none 0 0, .int .i64 0, .int .i64 0, .int .i64 0, .slice none 0 0]) (by simp [results, Try.results13, go_sem, cR]) rfl ?_
    refine (fun (hT : Turn (fun k => k = w.heap.size) w4 _) => ⟨1, 1 + y1, q1, 1 + y2, 0, 0, [], [], [], false, 0, 0, 0, 0, _, _, _, _, rfl, by simp, by simp, by simp, by simp, by simp, by simp, OwQ.nil _ _, OwM.nil _ _, OwQ.nil _ _, by omega, hs4.turn hT (fun e => hRB e.symm) hSR, Turn.trans tT4 hT (fun i hi e => by omega)⟩) ?_
    exact Turn.hereD (Turn.hereD (Turn.hereD (Turn.hereD (Turn.hereD (Turn.hereD (Turn.hereD (Turn.hereD (Turn.hereD (Turn.hereD (Turn.hereD (Turn.hereD (Turn.hereD (Turn.hereD (Turn.refl _ _) _) _) _) _) _) _) _) _) _) _) _) _) _) _
  have e0 : (y0 == 0) = false := by simpa using g0
  by_cases g1 : y0 = 1
  · subst g1
    go_wp2_with fail
    refine (next_sc hs1 6 (by omega) (by omega)).mono ?_
    rintro e w2 ⟨y1, rfl, ⟨py1, qy1, -⟩, hs2, tn2⟩
    have bR2 := bR1.turn tn2 hRB
    have tT2 := Turn.both tT1 tn2
    clear bR1 tT1
    have qy1 := qy1 (by omega)
    have hwy1 : IntKind.i64.wrap (1 + y1) = 1 + y1 := wrap_in (by omega)
    go_wp2_with fail
    refine (next_sc hs2 21 (by omega) (by omega)).mono ?_
    rintro e w3 ⟨y2, rfl, -, hs3, tn3⟩
    have bR3 := bR2.turn tn3 hRB
    have tT3 := Turn.both tT2 tn3
    clear bR2 tT2
    have cR := bR3.cells
    have fR := bR3.frees
    go_wp2
    refine bodyPost_ret (v := .agg #[.int .i64 3, .int .i64 0, .int .i64 0, .int .i64 0, .int .i64 (1 + y1), .int .i64 y2, .slice none 0 0, .bool false, .int .i64 0, .slice none 0 0, .int .i64 0, .int .i64 0, .int .i64 0, .slice none 0 0]) (by simp [results, Try.results13, go_sem, cR]) rfl ?_
    refine (fun (hT : Turn (fun k => k = w.heap.size) w3 _) => ⟨3, 0, 0, 0, 1 + y1, y2, [], [], [], false, 0, 0, 0, 0, _, _, _, _, rfl, by simp, by simp, by simp, by simp, by simp, by simp, OwQ.nil _ _, OwM.nil _ _, OwQ.nil _ _, by omega, hs3.turn hT (fun e => hRB e.symm) hSR, Turn.trans tT3 hT (fun i hi e => by omega)⟩) ?_
    exact Turn.hereD (Turn.hereD (Turn.hereD (Turn.hereD (Turn.hereD (Turn.hereD (Turn.hereD (Turn.hereD (Turn.hereD (Turn.hereD (Turn.hereD (Turn.hereD (Turn.hereD (Turn.hereD (Turn.refl _ _) _) _) _) _) _) _) _) _) _) _) _) _) _) _
  have e1 : (y0 == 1) = false := by simpa using g1
  by_cases g2 : y0 = 2
  · subst g2
    have cR := bR1.cells
    have fR := bR1.frees
    go_wp2
    refine bodyPost_ret (v := .agg #[.int .i64 4, .int .i64 0, .int .i64 0, .int .i64 0, .int .i64 0, .int .i64 0, .slice none 0 0, .bool false, .int .i64 0, .slice none 0 0, .int .i64 0, .int .i64 0, .int .i64 0, .slice none 0 0]) (by simp [results, Try.results13, go_sem, cR]) rfl ?_
    refine (fun (hT : Turn (fun k => k = w.heap.size) w1 _) => ⟨4, 0, 0, 0, 0, 0, [], [], [], false, 0, 0, 0, 0, _, _, _, _, rfl, by simp, by simp, by simp, by simp, by simp, by simp, OwQ.nil _ _, OwM.nil _ _, OwQ.nil _ _, by omega, hs1.turn hT (fun e => hRB e.symm) hSR, Turn.trans tT1 hT (fun i hi e => by omega)⟩) ?_
    exact Turn.hereD (Turn.hereD (Turn.hereD (Turn.hereD (Turn.hereD (Turn.hereD (Turn.hereD (Turn.hereD (Turn.hereD (Turn.hereD (Turn.hereD (Turn.hereD (Turn.hereD (Turn.hereD (Turn.refl _ _) _) _) _) _) _) _) _) _) _) _) _) _) _) _
  have e2 : (y0 == 2) = false := by simpa using g2
  have tT1s := tT1.size
  have z1 : w.heap.size < w1.heap.size := bR1.lt
  go_wp2_with fail
  refine (l3DrawUpdate_sc hs1 (by omega)).mono ?_
  rintro e w2 ⟨gs, rs, xs, has, o, nx, md, lc, x, y, z, t2, rfl, huf, hg2, hx3, hr3, ht2, oQ, oM, oR, hs2, tn2, -, -, -⟩
  have bR2 := bR1.turn tn2 hRB
  have tT2 := Turn.both tT1 tn2
  clear bR1 tT1
  obtain ⟨xa, xc, rfl⟩ := oQ.slice
  obtain ⟨ya, yc, rfl⟩ := oM.slice
  obtain ⟨za, zc, rfl⟩ := oR.slice
  have s1 : w.heap.size + 1 ≤ w1.heap.size := by have := tT1s; omega
  obtain ⟨ig, ix, ir⟩ := uf_in huf
  have cR := bR2.cells
  have fR := bR2.frees
  go_wp2
  refine bodyPost_ret (v := .agg #[.int .i64 2, .int .i64 0, .int .i64 0, .int .i64 0, .int .i64 0, .int .i64 0, .slice xa gs.length xc, .bool has, .int .i64 o, .slice ya xs.length yc, .int .i64 nx, .int .i64 md, .int .i64 lc, .slice za rs.length zc]) (by simp [results, Try.results13, go_sem, cR]) rfl ?_
  refine (fun (hT : Turn (fun k => k = w.heap.size) w2 _) => ⟨2, 0, 0, 0, 0, 0, gs, rs, xs, has, o, nx, md, lc, _, _, _, _, rfl, by omega, by omega, by omega, ig, ix, ir, (oQ.turn hT (fun g hg e => by omega)).low (by omega), (oM.turn hT (fun g hg e => by omega)).low (by omega), (oR.turn hT (fun g hg e => by omega)).low (by omega), by omega, hs2.turn hT (fun e => hRB e.symm) hSR, Turn.trans tT2 hT (fun i hi e => by omega)⟩) ?_
  exact Turn.hereD (Turn.hereD (Turn.hereD (Turn.hereD (Turn.hereD (Turn.hereD (Turn.hereD (Turn.hereD (Turn.hereD (Turn.hereD (Turn.hereD (Turn.hereD (Turn.hereD (Turn.hereD (Turn.refl _ _) _) _) _) _) _) _) _) _) _) _) _) _) _) _

end Go.Proofs.Yteniieagcehmpaa
