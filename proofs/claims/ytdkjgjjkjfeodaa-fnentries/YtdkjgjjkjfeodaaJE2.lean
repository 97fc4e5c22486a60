/- What is proved here: what the drawing of a message answers. What is proved here: what the judging of a message answers, in the program, for every lists of at most 1048576 elements. What is proved here: what the judging of a message answers, in the program, for every lists of at most 1048576 elements. What is proved here: what the judging of a message answers, in the program and in its model, for every lists of at most 1048576 elements. What is proved here: what the packing of a message answers, in the program, for every lists of at most 1048576 elements. What is proved here: what the packing of a message answers, in the program, for every lists of at most 1048576 elements. What is proved here: what the model's packing of prefixes answers, for prefixes without a fault. What is proved here: what the model's packing of an update answers, for every update with lists of at most 1048576 elements. -/
import Derived.Test.YtdkjgjjkjfeodaaJE1
import Derived.Deep.RegionHeld3
namespace Go.Proofs.Ytdkjgjjkjfeodaa
open Go.RowKit Go.Sort
set_option linter.unusedVariables false

theorem Turn.hereD {w wr : World} {B j : Nat} (h : Turn (fun k => k = B) w wr) (v : Value) : Turn (fun k => k = B) w (wr.setCell ⟨B, j, none⟩ v) := h.set rfl v

theorem uf_in {gs rs : List (Int × Int)} {has : Bool} {o nx md lc : Int} {xs : List Int} (h : uf gs has o xs nx md lc rs = 0) : (∀ p ∈ gs, In6 p.1 ∧ In6 p.2) ∧ (∀ z ∈ xs, In6 z) ∧ (∀ p ∈ rs, In6 p.1 ∧ In6 p.2) := by
  obtain ⟨_, _, hg, hr, h1, h0⟩ := uf_ok h
  refine ⟨fun p hp => pf_in ((lf_ok hg).2 p hp), ?_, fun p hp => pf_in ((lf_ok hr).2 p hp)⟩
  cases has with
  | true =>
    obtain ⟨_, haf⟩ := h1 rfl
    obtain ⟨-, -, hx⟩ := af_ok haf
    intro z hz
    have := hx z hz
    unfold In6
    omega
  | false =>
    obtain ⟨_, hz⟩ := h0 rfl
    intro u hu
    simp [ZaP] at hz
    simp_all

set_option maxHeartbeats 6400000 in
theorem l4Message_sc {B n c t : Nat} {a : Option Addr} {zs : List Int} {w : World} (h : Sc w B a n c zs t) (ht : t ≤ 5000) :
    Calls Try.prog 85 #[.pointer (some ⟨B, 0, none⟩)] w fun e w' => ∃ (kd sa mh mi wh su : Int) (gs rs : List (Int × Int)) (xs : List Int) (has : Bool) (o nx md lc : Int) (x y z : Value) (t' : Nat), e = .returned (.agg #[.int .i64 kd, .int .i64 sa, .int .i64 mh, .int .i64 mi, .int .i64 wh, .int .i64 su, x, .bool has, .int .i64 o, y, .int .i64 nx, .int .i64 md, .int .i64 lc, z]) ∧ gs.length ≤ 9 ∧ xs.length ≤ 7 ∧ rs.length ≤ 4 ∧ (∀ p ∈ gs, In6 p.1 ∧ In6 p.2) ∧ (∀ z ∈ xs, In6 z) ∧ (∀ p ∈ rs, In6 p.1 ∧ In6 p.2) ∧ OwQ w' w.heap.size x gs ∧ OwM w' w.heap.size y xs ∧ OwQ w' w.heap.size z rs ∧ t' ≤ t + 250 ∧ Sc w' B a n c zs t' ∧ Turn (fun k => k = B) w w' := by
  have hlt := h.blk.lt
  have hA := h.lt_of
  have N0 : New w (w.alloc (.cells #[.int .i64 0, .int .i64 0, .int .i64 0, .int .i64 0, .int .i64 0, .int .i64 0, .slice none 0 0, .bool false, .int .i64 0, .slice none 0 0, .int .i64 0, .int .i64 0, .int .i64 0, .slice none 0 0] 104)) := (New.refl w).alloc _
  have bR0 := Blk.mk w w.heap.size 104 #[.int .i64 0, .int .i64 0, .int .i64 0, .int .i64 0, .int .i64 0, .int .i64 0, .slice none 0 0, .bool false, .int .i64 0, .slice none 0 0, .int .i64 0, .int .i64 0, .int .i64 0, .slice none 0 0] rfl
  have hs0 := h.new N0
  have tT0 : Turn (fun k => k = B) w (w.alloc (.cells #[.int .i64 0, .int .i64 0, .int .i64 0, .int .i64 0, .int .i64 0, .int .i64 0, .slice none 0 0, .bool false, .int .i64 0, .slice none 0 0, .int .i64 0, .int .i64 0, .int .i64 0, .slice none 0 0] 104)) := N0.turn
  have hRB : ¬ w.heap.size = B := by omega
  have hSR : ∀ x, zs ≠ [] → a = some x → ¬ x.block = w.heap.size := fun x h1 h2 e => by have := hA x h1 h2; omega
  go_enter Try.func85, Try.ntmps85
  go_wp2_with fail
  refine (next_sc hs0 6 (by omega) (by omega)).mono ?_
  rintro e w1 ⟨y0, rfl, -, hs1, tn1⟩
  have bR1 := bR0.turn tn1 hRB
  have tT1 := Turn.both tT0 tn1
  clear bR0 tT0
  by_cases g0 : y0 = 0
  · subst g0
    go_wp2_with fail
    refine (next_sc hs1 5 (by omega) (by omega)).mono ?_
    rintro e w2 ⟨y1, rfl, ⟨py1, qy1, -⟩, hs2, tn2⟩
    have bR2 := bR1.turn tn2 hRB
    have tT2 := Turn.both tT1 tn2
    clear bR1 tT1
    have qy1 := qy1 (by omega)
    have hwy1 : IntKind.i64.wrap (1 + y1) = 1 + y1 := wrap_in (by omega)
    go_wp2_with fail
    refine (pick_sc (hs2.new ((New.refl _).alloc (.cells #[.int .i64 (9), .int .i64 (9), .int .i64 (0), .int .i64 (3), .int .i64 (200)] 2))) [9, 9, 0, 3, 200] (Blk.mk w2 w2.heap.size 2 #[.int .i64 (9), .int .i64 (9), .int .i64 (0), .int .i64 (3), .int .i64 (200)] rfl) 5 rfl (by omega) (by omega) (by omega)).mono ?_
    rintro e w3 ⟨q1, rfl, -, hs3, tn3⟩
    have bR3 := (bR2.alloc (.cells #[.int .i64 (9), .int .i64 (9), .int .i64 (0), .int .i64 (3), .int .i64 (200)] 2)).turn tn3 hRB
    have tT3 := Turn.both (Turn.andNew tT2 ((New.refl _).alloc (.cells #[.int .i64 (9), .int .i64 (9), .int .i64 (0), .int .i64 (3), .int .i64 (200)] 2))) tn3
    clear bR2 tT2
    go_wp2_with fail
    refine (next_sc hs3 9 (by omega) (by omega)).mono ?_
    rintro e w4 ⟨y2, rfl, ⟨py2, qy2, -⟩, hs4, tn4⟩
    have bR4 := bR3.turn tn4 hRB
    have tT4 := Turn.both tT3 tn4
    clear bR3 tT3
    have qy2 := qy2 (by omega)
    have hwy2 : IntKind.i64.wrap (1 + y2) = 1 + y2 := wrap_in (by omega)
    have cR := bR4.cells
    have fR := bR4.frees
    go_wp2
    refine bodyPost_ret (v := .agg #[.int .i64 1, .int .i64 (1 + y1), .int .i64 q1, .int .i64 (1 + y2), .int .i64 0, .int .i64 0, .slice none 0 0, .bool false, .int .i64 0, .slice none 0 0, .int .i64 0, .int .i64 0, .int .i64 0, .slice none 0 0]) (by simp [results, Try.results85, go_sem, cR]) rfl ?_
    refine (fun (hT : Turn (fun k => k = w.heap.size) w4 _) => ⟨1, 1 + y1, q1, 1 + y2, 0, 0, [], [], [], false, 0, 0, 0, 0, _, _, _, _, rfl, by simp, by simp, by simp, by simp, by simp, by simp, OwQ.nil _ _, OwM.nil _ _, OwQ.nil _ _, by omega, hs4.turn hT (fun e => hRB e.symm) hSR, Turn.trans tT4 hT (fun i hi e => by omega)⟩) ?_
    exact Turn.hereD (Turn.hereD (Turn.hereD (Turn.hereD (Turn.hereD (Turn.hereD (Turn.hereD (Turn.hereD (Turn.hereD (Turn.hereD (Turn.hereD (Turn.hereD (Turn.hereD (Turn.hereD (Turn.refl _ _) _) _) _) _) _) _) _) _) _) _) _) _) _) _
  have e0 : (y0 == 0) = false := by simpa using g0
  by_cases g1 : y0 = 1
  · subst g1
    go_wp2_with fail
    refine (next_sc hs1 6 (by omega) (by omega)).mono ?_
    rintro e w2 ⟨y1, rfl, ⟨py1, qy1, -⟩, hs2, tn2⟩
    have bR2 := bR1.turn tn2 hRB
    have tT2 := Turn.both tT1 tn2
    clear bR1 tT1
    have qy1 := qy1 (by omega)
    have hwy1 : IntKind.i64.wrap (1 + y1) = 1 + y1 := wrap_in (by omega)
    go_wp2_with fail
    refine (next_sc hs2 21 (by omega) (by omega)).mono ?_
    rintro e w3 ⟨y2, rfl, -, hs3, tn3⟩
    have bR3 := bR2.turn tn3 hRB
    have tT3 := Turn.both tT2 tn3
    clear bR2 tT2
    have cR := bR3.cells
    have fR := bR3.frees
    go_wp2
    refine bodyPost_ret (v := .agg #[.int .i64 3, .int .i64 0, .int .i64 0, .int .i64 0, .int .i64 (1 + y1), .int .i64 y2, .slice none 0 0, .bool false, .int .i64 0, .slice none 0 0, .int .i64 0, .int .i64 0, .int .i64 0, .slice none 0 0]) (by simp [results, Try.results85, go_sem, cR]) rfl ?_
    refine (fun (hT : Turn (fun k => k = w.heap.size) w3 _) => ⟨3, 0, 0, 0, 1 + y1, y2, [], [], [], false, 0, 0, 0, 0, _, _, _, _, rfl, by simp, by simp, by simp, by simp, by simp, by simp, OwQ.nil _ _, OwM.nil _ _, OwQ.nil _ _, by omega, hs3.turn hT (fun e => hRB e.symm) hSR, Turn.trans tT3 hT (fun i hi e => by omega)⟩) ?_
    exact Turn.hereD (Turn.hereD (Turn.hereD (Turn.hereD (Turn.hereD (Turn.hereD (Turn.hereD (Turn.hereD (Turn.hereD (Turn.hereD (Turn.hereD (Turn.hereD (Turn.hereD (Turn.hereD (Turn.refl _ _) _) _) _) _) _) _) _) _) _) _) _) _) _) _
  have e1 : (y0 == 1) = false := by simpa using g1
  by_cases g2 : y0 = 2
  · subst g2
    have cR := bR1.cells
    have fR := bR1.frees
    go_wp2
    refine bodyPost_ret (v := .agg #[.int .i64 4, .int .i64 0, .int .i64 0, .int .i64 0, .int .i64 0, .int .i64 0, .slice none 0 0, .bool false, .int .i64 0, .slice none 0 0, .int .i64 0, .int .i64 0, .int .i64 0, .slice none 0 0]) (by simp [results, Try.results85, go_sem, cR]) rfl ?_
    refine (fun (hT : Turn (fun k => k = w.heap.size) w1 _) => ⟨4, 0, 0, 0, 0, 0, [], [], [], false, 0, 0, 0, 0, _, _, _, _, rfl, by simp, by simp, by simp, by simp, by simp, by simp, OwQ.nil _ _, OwM.nil _ _, OwQ.nil _ _, by omega, hs1.turn hT (fun e => hRB e.symm) hSR, Turn.trans tT1 hT (fun i hi e => by omega)⟩) ?_
    exact Turn.hereD (Turn.hereD (Turn.hereD (Turn.hereD (Turn.hereD (Turn.hereD (Turn.hereD (Turn.hereD (Turn.hereD (Turn.hereD (Turn.hereD (Turn.hereD (Turn.hereD (Turn.hereD (Turn.refl _ _) _) _) _) _) _) _) _) _) _) _) _) _) _) _
  have e2 : (y0 == 2) = false := by simpa using g2
  have tT1s := tT1.size
  have z1 : w.heap.size < w1.heap.size := bR1.lt
  go_wp2_with fail
  refine (l3DrawUpdate_sc hs1 (by omega)).mono ?_
  rintro e w2 ⟨gs, rs, xs, has, o, nx, md, lc, x, y, z, t2, rfl, huf, hg2, hx3, hr3, ht2, oQ, oM, oR, hs2, tn2, -, -, -⟩
  have bR2 := bR1.turn tn2 hRB
  have tT2 := Turn.both tT1 tn2
  clear bR1 tT1
  obtain ⟨xa, xc, rfl⟩ := oQ.slice
  obtain ⟨ya, yc, rfl⟩ := oM.slice
  obtain ⟨za, zc, rfl⟩ := oR.slice
  have s1 : w.heap.size + 1 ≤ w1.heap.size := by have := tT1s; omega
  obtain ⟨ig, ix, ir⟩ := uf_in huf
  have cR := bR2.cells
  have fR := bR2.frees
  go_wp2
  refine bodyPost_ret (v := .agg #[.int .i64 2, .int .i64 0, .int .i64 0, .int .i64 0, .int .i64 0, .int .i64 0, .slice xa gs.length xc, .bool has, .int .i64 o, .slice ya xs.length yc, .int .i64 nx, .int .i64 md, .int .i64 lc, .slice za rs.length zc]) (by simp [results, Try.results85, go_sem, cR]) rfl ?_
  refine (fun (hT : Turn (fun k => k = w.heap.size) w2 _) => ⟨2, 0, 0, 0, 0, 0, gs, rs, xs, has, o, nx, md, lc, _, _, _, _, rfl, by omega, by omega, by omega, ig, ix, ir, (oQ.turn hT (fun g hg e => by omega)).low (by omega), (oM.turn hT (fun g hg e => by omega)).low (by omega), (oR.turn hT (fun g hg e => by omega)).low (by omega), by omega, hs2.turn hT (fun e => hRB e.symm) hSR, Turn.trans tT2 hT (fun i hi e => by omega)⟩) ?_
  exact Turn.hereD (Turn.hereD (Turn.hereD (Turn.hereD (Turn.hereD (Turn.hereD (Turn.hereD (Turn.hereD (Turn.hereD (Turn.hereD (Turn.hereD (Turn.hereD (Turn.hereD (Turn.hereD (Turn.refl _ _) _) _) _) _) _) _) _) _) _) _) _) _) _) _

end Go.Proofs.Ytdkjgjjkjfeodaa

namespace Go.Proofs.Ytdkjgjjkjfeodaa
open Go.RowKit Go.Sort
set_option linter.unusedVariables false

/-- A hold time. -/
abbrev Hl (x : Int) : Prop := x = 0 ∨ (3 ≤ x ∧ x ≤ 200)
/-- The numbers of an open. -/
abbrev Opn (sa ho si : Int) : Prop := (1 ≤ sa ∧ sa ≤ 65535) ∧ Hl ho ∧ (1 ≤ si ∧ si ≤ 65535)
/-- The numbers of a notify. -/
abbrev Nty (wh su : Int) : Prop := (1 ≤ wh ∧ wh ≤ 6) ∧ (0 ≤ su ∧ su ≤ 20)
/-- Two updates have all fields the same. -/
abbrev SuP (gs : List (Int × Int)) (has : Bool) (o : Int) (xs : List Int) (nx md lc : Int) (rs : List (Int × Int)) (gs' : List (Int × Int)) (has' : Bool) (o' : Int) (xs' : List Int) (nx' md' lc' : Int) (rs' : List (Int × Int)) : Prop :=
  gs = gs' ∧ has = has' ∧ SaP o xs nx md lc o' xs' nx' md' lc' ∧ rs = rs'
/-- All of the update is zero. -/
abbrev ZuP (gs : List (Int × Int)) (has : Bool) (o : Int) (xs : List Int) (nx md lc : Int) (rs : List (Int × Int)) : Prop := gs.length = 0 ∧ rs.length = 0 ∧ has = false ∧ ZaP o xs nx md lc

theorem take_eq_nextP {xs ys : List (Int × Int)} {k : Nat} {z : Int × Int} (h : xs.take k = ys.take k) (hx : xs[k]? = some z) (hy : ys[k]? = some z) : xs.take (k + 1) = ys.take (k + 1) := by
  obtain ⟨h1, rfl⟩ := List.getElem?_eq_some_iff.1 hx
  obtain ⟨h2, e2⟩ := List.getElem?_eq_some_iff.1 hy
  rw [List.take_succ_eq_append_getElem h1, List.take_succ_eq_append_getElem h2, h, e2]

end Go.Proofs.Ytdkjgjjkjfeodaa

namespace Go.Proofs.Ytdkjgjjkjfeodaa
open Go.RowKit Go.Sort
set_option linter.unusedVariables false

end Go.Proofs.Ytdkjgjjkjfeodaa

namespace Go.Proofs.Ytdkjgjjkjfeodaa
open Go.RowKit Go.Sort
set_option linter.unusedVariables false

/-- The fault of a message. -/
def mf (kd sa ho si wh su : Int) (gs : List (Int × Int)) (has : Bool) (o : Int) (xs : List Int) (nx md lc : Int) (rs : List (Int × Int)) : Int :=
  if kd < 1 ∨ 4 < kd then 1 else if kd = 1 ∧ ¬ Opn sa ho si then 3 else if kd = 3 ∧ ¬ Nty wh su then 3
  else if ¬ ((kd ≠ 1 → sa = 0 ∧ ho = 0 ∧ si = 0) ∧ (kd ≠ 3 → wh = 0 ∧ su = 0) ∧ (kd ≠ 2 → ZuP gs has o xs nx md lc rs)) then 1
  else if kd = 2 then uf gs has o xs nx md lc rs else 0

theorem SuZ (gs : List (Int × Int)) (has : Bool) (o : Int) (xs : List Int) (nx md lc : Int) (rs : List (Int × Int)) : SuP gs has o xs nx md lc rs [] false 0 [] 0 0 0 [] ↔ ZuP gs has o xs nx md lc rs := by
  unfold SuP ZuP SaP ZaP
  simp only [List.length_eq_zero_iff]
  constructor
  · rintro ⟨h1, h2, ⟨h3, h4, h5, h6, h7⟩, h8⟩; exact ⟨h1, h8, h2, h3, h7, h4, h5, h6⟩
  · rintro ⟨h1, h8, h2, h3, h7, h4, h5, h6⟩; exact ⟨h1, h2, ⟨h3, h4, h5, h6, h7⟩, h8⟩
theorem uf_zero {gs rs : List (Int × Int)} {has : Bool} {o nx md lc : Int} {xs : List Int} (h : ZuP gs has o xs nx md lc rs) : uf gs has o xs nx md lc rs = 0 := by
  obtain ⟨h1, h8, rfl, rfl, h7, rfl, rfl, rfl⟩ := h
  obtain rfl := List.length_eq_zero_iff.1 h1
  obtain rfl := List.length_eq_zero_iff.1 h8
  obtain rfl := List.length_eq_zero_iff.1 h7
  rfl

theorem mf_none {gs rs : List (Int × Int)} {has : Bool} {o nx md lc : Int} {xs : List Int} {kd sa ho si wh su : Int} (h : kd < 1 ∨ 4 < kd) : mf kd sa ho si wh su gs has o xs nx md lc rs = 1 := if_pos h
theorem mf1_bad {gs rs : List (Int × Int)} {has : Bool} {o nx md lc : Int} {xs : List Int} {sa ho si wh su : Int} (h : ¬ Opn sa ho si) : mf 1 sa ho si wh su gs has o xs nx md lc rs = 3 := by
  unfold mf; rw [if_neg (by omega), if_pos ⟨rfl, h⟩]
theorem mf1_form {gs rs : List (Int × Int)} {has : Bool} {o nx md lc : Int} {xs : List Int} {sa ho si wh su : Int} (h : Opn sa ho si) (h2 : ¬ (wh = 0 ∧ su = 0 ∧ ZuP gs has o xs nx md lc rs)) : mf 1 sa ho si wh su gs has o xs nx md lc rs = 1 := by
  unfold mf
  rw [if_neg (by omega), if_neg (fun q => q.2 h), if_neg (by omega), if_pos (fun q => h2 ⟨(q.2.1 (by omega)).1, (q.2.1 (by omega)).2, q.2.2 (by omega)⟩)]
theorem mf1_ok {gs rs : List (Int × Int)} {has : Bool} {o nx md lc : Int} {xs : List Int} {sa ho si wh su : Int} (h : Opn sa ho si) (h2 : wh = 0 ∧ su = 0 ∧ ZuP gs has o xs nx md lc rs) : mf 1 sa ho si wh su gs has o xs nx md lc rs = 0 := by
  unfold mf
  rw [if_neg (by omega), if_neg (fun q => q.2 h), if_neg (by omega), if_neg (fun q => q ⟨fun e => absurd rfl e, fun _ => ⟨h2.1, h2.2.1⟩, fun _ => h2.2.2⟩), if_neg (by omega)]
theorem mf2_form {gs rs : List (Int × Int)} {has : Bool} {o nx md lc : Int} {xs : List Int} {sa ho si wh su : Int} (h2 : ¬ (sa = 0 ∧ ho = 0 ∧ si = 0 ∧ wh = 0 ∧ su = 0)) : mf 2 sa ho si wh su gs has o xs nx md lc rs = 1 := by
  unfold mf
  rw [if_neg (by omega), if_neg (by omega), if_neg (by omega), if_pos (fun q => h2 ⟨(q.1 (by omega)).1, (q.1 (by omega)).2.1, (q.1 (by omega)).2.2, (q.2.1 (by omega)).1, (q.2.1 (by omega)).2⟩)]
theorem mf2_ok {gs rs : List (Int × Int)} {has : Bool} {o nx md lc : Int} {xs : List Int} {sa ho si wh su : Int} (h2 : sa = 0 ∧ ho = 0 ∧ si = 0 ∧ wh = 0 ∧ su = 0) : mf 2 sa ho si wh su gs has o xs nx md lc rs = uf gs has o xs nx md lc rs := by
  unfold mf
  rw [if_neg (by omega), if_neg (by omega), if_neg (by omega), if_neg (fun q => q ⟨fun _ => ⟨h2.1, h2.2.1, h2.2.2.1⟩, fun _ => ⟨h2.2.2.2.1, h2.2.2.2.2⟩, fun e => absurd rfl e⟩), if_pos rfl]
theorem mf3_bad {gs rs : List (Int × Int)} {has : Bool} {o nx md lc : Int} {xs : List Int} {sa ho si wh su : Int} (h : ¬ Nty wh su) : mf 3 sa ho si wh su gs has o xs nx md lc rs = 3 := by
  unfold mf; rw [if_neg (by omega), if_neg (by omega), if_pos ⟨rfl, h⟩]
theorem mf3_form {gs rs : List (Int × Int)} {has : Bool} {o nx md lc : Int} {xs : List Int} {sa ho si wh su : Int} (h : Nty wh su) (h2 : ¬ (sa = 0 ∧ ho = 0 ∧ si = 0 ∧ ZuP gs has o xs nx md lc rs)) : mf 3 sa ho si wh su gs has o xs nx md lc rs = 1 := by
  unfold mf
  rw [if_neg (by omega), if_neg (by omega), if_neg (fun q => q.2 h), if_pos (fun q => h2 ⟨(q.1 (by omega)).1, (q.1 (by omega)).2.1, (q.1 (by omega)).2.2, q.2.2 (by omega)⟩)]
theorem mf3_ok {gs rs : List (Int × Int)} {has : Bool} {o nx md lc : Int} {xs : List Int} {sa ho si wh su : Int} (h : Nty wh su) (h2 : sa = 0 ∧ ho = 0 ∧ si = 0 ∧ ZuP gs has o xs nx md lc rs) : mf 3 sa ho si wh su gs has o xs nx md lc rs = 0 := by
  unfold mf
  rw [if_neg (by omega), if_neg (by omega), if_neg (fun q => q.2 h), if_neg (fun q => q ⟨fun _ => ⟨h2.1, h2.2.1, h2.2.2.1⟩, fun e => absurd rfl e, fun _ => h2.2.2.2⟩), if_neg (by omega)]
theorem mf4_form {gs rs : List (Int × Int)} {has : Bool} {o nx md lc : Int} {xs : List Int} {sa ho si wh su : Int} (h2 : ¬ (sa = 0 ∧ ho = 0 ∧ si = 0 ∧ wh = 0 ∧ su = 0 ∧ ZuP gs has o xs nx md lc rs)) : mf 4 sa ho si wh su gs has o xs nx md lc rs = 1 := by
  unfold mf
  rw [if_neg (by omega), if_neg (by omega), if_neg (by omega), if_pos (fun q => h2 ⟨(q.1 (by omega)).1, (q.1 (by omega)).2.1, (q.1 (by omega)).2.2, (q.2.1 (by omega)).1, (q.2.1 (by omega)).2, q.2.2 (by omega)⟩)]
theorem mf4_ok {gs rs : List (Int × Int)} {has : Bool} {o nx md lc : Int} {xs : List Int} {sa ho si wh su : Int} (h2 : sa = 0 ∧ ho = 0 ∧ si = 0 ∧ wh = 0 ∧ su = 0 ∧ ZuP gs has o xs nx md lc rs) : mf 4 sa ho si wh su gs has o xs nx md lc rs = 0 := by
  unfold mf
  rw [if_neg (by omega), if_neg (by omega), if_neg (by omega), if_neg (fun q => q ⟨fun _ => ⟨h2.1, h2.2.1, h2.2.2.1⟩, fun _ => ⟨h2.2.2.2.1, h2.2.2.2.2.1⟩, fun _ => h2.2.2.2.2.2⟩), if_neg (by omega)]

end Go.Proofs.Ytdkjgjjkjfeodaa

namespace Go.Proofs.Ytdkjgjjkjfeodaa
open Go.RowKit Go.Sort
set_option linter.unusedVariables false

/-- What the packing of a body answers: its bytes. -/
def BdAns (w : World) (zs : List Int) (e : Ending) (w' : World) : Prop :=
  ∃ (a : Option Addr) (m cap : Nat), e = .returned (.slice a m cap) ∧ BsAt w' a zs ∧ zs.length = m ∧ (a = none → m = 0 ∧ cap = 0) ∧ New w w'

/-- The bytes of an open. -/
def opB (sa ho si : Int) : List Int := [sa / 256, sa % 256, ho, si / 256, si % 256]

theorem own_nil (w : World) (base : Nat) (e : TypeId) : w.ownsRow base e 1 (.slice none 0 0) 0 (([] : List Int).map (Value.int .u8)) := ⟨rfl, .inl ⟨rfl, rfl⟩⟩

set_option maxHeartbeats 800000 in
theorem appendPair_nil (x : Int) (w : World) (h0 : 0 ≤ x) (hx : x < 65536) :
    Calls Try.prog 49 #[.slice none 0 0, .int .i64 x] w fun e w' => ∃ g' cap', e = .returned (.slice (some ⟨g', 0, none⟩) 2 cap') ∧ w.heap.size ≤ g' ∧
      w'.ownsRow 0 5 1 (.slice (some ⟨g', 0, none⟩) 2 cap') 2 ([x / 256, x % 256].map (Value.int .u8)) ∧ New w w' := by
  obtain ⟨i0, hi, hz0, hz1, hz2⟩ := info_parts Try.infoU8
  have hbs : BsAt (w.alloc (.cells #[.int .u8 (x / 256), .int .u8 (x % 256)] 5)) (some ⟨w.heap.size, 0, none⟩) [x / 256, x % 256] := BsAt.of_block (heap_alloc_new _ _) _ rfl (by simp; omega)
  go_enter Try.func49, Try.ntmps49
  go_wp2_with (at_builtin; refine wpList_ap _ rfl (.tmp 5) (.tmp 12) rfl 0 Try.underlying22 hi hz0 hz1 hz2 (.slice none 0 0) 0 [] rfl (own_nil _ _ _) (some ⟨w.heap.size, 0, none⟩) 2 2 _ rfl hbs rfl (by intro h; cases h) (by omega) (by omega) (Nat.zero_le _) (w.heap.size + 1) (by simp) ?_)
  intro g2 cap2 w2 ho2 hgr2 hat2
  have hg2 : w.heap.size ≤ g2 := by
    rcases hat2 with h' | h'
    · simp [Value.ownBlock] at h'
    · omega
  clear hat2 hbs
  go_wp2
  go_ret
  exact ⟨g2, cap2, rfl, hg2, by simpa using ho2, ((New.refl w).alloc _).grow hgr2 (by intro k hk; simp [Value.ownBlock] at hk)⟩

/-- The body of a message. -/
def msB (kd sa ho si wh su : Int) (gs : List (Int × Int)) (has : Bool) (o : Int) (xs : List Int) (nx md lc : Int) (rs : List (Int × Int)) : List Int :=
  if kd = 1 then opB sa ho si else if kd = 2 then upB gs has o xs nx md lc rs else if kd = 3 then [wh, su] else []
/-- What PackMessage answers: the fault, or the message's bytes in new memory. -/
def MsAns (w : World) (kd sa ho si wh su : Int) (gs : List (Int × Int)) (has : Bool) (o : Int) (xs : List Int) (nx md lc : Int) (rs : List (Int × Int)) (e : Ending) (w' : World) : Prop :=
  ∃ (a : Option Addr) (m cap : Nat) (ys : List Int), e = .returned (.agg #[.int .i64 (mf kd sa ho si wh su gs has o xs nx md lc rs), .slice a m cap]) ∧ OwAt w' a m cap ys ∧ (∀ z ∈ ys, 0 ≤ z ∧ z ≤ 255) ∧ (∀ x, a = some x → w.heap.size ≤ x.block ∧ x.block < w'.heap.size) ∧ New w w' ∧
    ys = (if mf kd sa ho si wh su gs has o xs nx md lc rs = 0 then packOf kd (msB kd sa ho si wh su gs has o xs nx md lc rs) else []) ∧ (a = none → m = 0 ∧ cap = 0) ∧ m ≤ 125

end Go.Proofs.Ytdkjgjjkjfeodaa

namespace Go.Proofs.Ytdkjgjjkjfeodaa
open Go.RowKit Go.Sort
set_option linter.unusedVariables false

theorem mf_zero {gs rs : List (Int × Int)} {has : Bool} {o nx md lc : Int} {xs : List Int} {kd sa ho si wh su : Int} (h : mf kd sa ho si wh su gs has o xs nx md lc rs = 0) :
    (kd = 1 ∧ Opn sa ho si ∧ wh = 0 ∧ su = 0 ∧ ZuP gs has o xs nx md lc rs) ∨ (kd = 2 ∧ sa = 0 ∧ ho = 0 ∧ si = 0 ∧ wh = 0 ∧ su = 0 ∧ uf gs has o xs nx md lc rs = 0) ∨ (kd = 3 ∧ Nty wh su ∧ sa = 0 ∧ ho = 0 ∧ si = 0 ∧ ZuP gs has o xs nx md lc rs) ∨ (kd = 4 ∧ sa = 0 ∧ ho = 0 ∧ si = 0 ∧ wh = 0 ∧ su = 0 ∧ ZuP gs has o xs nx md lc rs) := by
  by_cases h0 : kd < 1 ∨ 4 < kd
  · rw [mf_none h0] at h; cases h
  rcases (show kd = 1 ∨ kd = 2 ∨ kd = 3 ∨ kd = 4 by omega) with rfl | rfl | rfl | rfl
  · by_cases h1 : Opn sa ho si
    · by_cases h2 : wh = 0 ∧ su = 0 ∧ ZuP gs has o xs nx md lc rs
      · exact .inl ⟨rfl, h1, h2⟩
      · rw [mf1_form h1 h2] at h; cases h
    · rw [mf1_bad h1] at h; cases h
  · by_cases h2 : sa = 0 ∧ ho = 0 ∧ si = 0 ∧ wh = 0 ∧ su = 0
    · rw [mf2_ok h2] at h
      exact .inr (.inl ⟨rfl, h2.1, h2.2.1, h2.2.2.1, h2.2.2.2.1, h2.2.2.2.2, h⟩)
    · rw [mf2_form h2] at h; cases h
  · by_cases h1 : Nty wh su
    · by_cases h2 : sa = 0 ∧ ho = 0 ∧ si = 0 ∧ ZuP gs has o xs nx md lc rs
      · exact .inr (.inr (.inl ⟨rfl, h1, h2⟩))
      · rw [mf3_form h1 h2] at h; cases h
    · rw [mf3_bad h1] at h; cases h
  · by_cases h2 : sa = 0 ∧ ho = 0 ∧ si = 0 ∧ wh = 0 ∧ su = 0 ∧ ZuP gs has o xs nx md lc rs
    · exact .inr (.inr (.inr ⟨rfl, h2⟩))
    · rw [mf4_form h2] at h; cases h

theorem upB_short {gs rs : List (Int × Int)} {has : Bool} {o nx md lc : Int} {xs : List Int} (h : uf gs has o xs nx md lc rs = 0) : (upB gs has o xs nx md lc rs).length ≤ 120 := by
  obtain ⟨h1, h2, -, -, hy, -⟩ := uf_ok h
  rw [upB_len]
  split
  · rename_i ht
    have := (af_ok (hy ht).2).2.1
    omega
  · omega

end Go.Proofs.Ytdkjgjjkjfeodaa

namespace Go.Proofs.Ytdkjgjjkjfeodaa
open Go.RowKit Go.Sort
set_option linter.unusedVariables false
set_option maxRecDepth 100000

theorem PsAt.get {w : World} {b off : Nat} {ps : List (Int × Int)} {i : Nat} {x y : Int} (h : PsAt w (some ⟨b, off, none⟩) ps) (hz : ps[i]? = some (x, y)) : w.cell? ⟨b, off + i * 2, none⟩ = some (.int .i64 x) ∧ w.cell? ⟨b, off + i * 2 + 1, none⟩ = some (.int .i64 y) := by
  obtain ⟨b', off', e, h1, h2, _⟩ := h i _ hz
  simp only [Option.some.injEq, Addr.mk.injEq, and_true] at e
  obtain ⟨rfl, rfl⟩ := e
  exact ⟨h1, h2⟩
theorem NsAt.get {w : World} {b off : Nat} {xs : List Int} {i : Nat} {x : Int} (h : NsAt w (some ⟨b, off, none⟩) xs) (hz : xs[i]? = some x) : w.cell? ⟨b, off + i, none⟩ = some (.int .i64 x) := by
  obtain ⟨b', off', e, h1, _⟩ := h i _ hz
  simp only [Option.some.injEq, Addr.mk.injEq, and_true] at e
  obtain ⟨rfl, rfl⟩ := e
  exact h1

/-- A row of bytes made behind the block base. -/
def RowB (w : World) (base g n c : Nat) (ys : List Int) : Prop := w.ownsRow base 5 1 (.slice (some ⟨g, 0, none⟩) n c) n (ys.map (Value.int .u8))
theorem RowB.new {w w' : World} {base g n c : Nat} {ys : List Int} (h : RowB w base g n c ys) (t : New w w') : RowB w' base g n c ys := own_new h t
theorem RowB.ge {w : World} {base g n c : Nat} {ys : List Int} (h : RowB w base g n c ys) : base ≤ g := (World.ownsRow.lt h g rfl).1
theorem RowB.lt {w : World} {base g n c : Nat} {ys : List Int} (h : RowB w base g n c ys) : g < w.heap.size := (World.ownsRow.lt h g rfl).2
theorem RowB.low {w : World} {base base' g n c : Nat} {ys : List Int} (h : RowB w base g n c ys) (hb : base' ≤ base) : RowB w base' g n c ys := Joins.ownsRow_le h hb

theorem src_old {w w1 w2 : World} {g : Nat} {y : Int} {t : TypeId} (hb : 0 ≤ y ∧ y ≤ 255) (N : New (w.alloc (.cells #[.int .u8 y] t)) w1) (hg : w1.grownBy w2 (some g)) (hne : ¬ w.heap.size = g) : BsAt w2 (some ⟨w.heap.size, 0, none⟩) [y] :=
  ((BsAt.of_block (heap_alloc_new w (.cells #[.int .u8 y] t)) [y] rfl (by simpa using hb)).new N).turn (Turn.of_grown (g := g) hg) (by rintro x hx; obtain rfl := Option.some.inj hx; exact hne)

set_option maxHeartbeats 3200000 in
theorem l3Px_any (a : Option Addr) (k c : Nat) (ps : List (Int × Int)) (w : World) (hp : PsAt w a ps) (hk : ps.length = k) (hk8 : k ≤ 100) (hok : ∀ p ∈ ps, pf p.1 p.2 = 0) :
    Calls Try.prog 86 #[.slice a k c] w fun e w' => ∃ g cap, e = .returned (.slice (some ⟨g, 0, none⟩) (k * 3) cap) ∧ RowB w' w.heap.size g (k * 3) cap (pxB ps) ∧ New w w' := by
  obtain ⟨i0, hi, hz0, hz1, hz2⟩ := info_parts Try.infoU8
  have HK : Hid (ps.length = k) := hk
  have HOK : Hid (∀ p ∈ ps, pf p.1 p.2 = 0) := hok
  clear hk hok
  have hlit : RowB (w.alloc (.cells #[] 5)) w.heap.size w.heap.size 0 0 [] := World.ownsRow_lit (base := w.heap.size) (size := 1) (e := 5) w #[] 0 (Nat.le_refl _) (Nat.zero_le _) rfl
  go_enter Try.func86, Try.ntmps86
  go_wp2
  go_loopw [3, 4] (fun s i wr => ∃ (j g cap : Nat), j ≤ k ∧ i = .int .i64 j ∧ s = .slice (some ⟨g, 0, none⟩) (j * 3) cap ∧ RowB wr w.heap.size g (j * 3) cap (pxB (ps.take j)) ∧ New w wr) (fun _ i _ => k - (intOf i).toNat)
  case atStart => exact ⟨0, w.heap.size, 0, Nat.zero_le _, rfl, rfl, hlit, (New.refl _).alloc _⟩
  case round =>
    obtain ⟨j, g, cap, hj, rfl, rfl, hrow, hnw⟩ := hrel
    by_cases hlt : j < k
    · obtain ⟨b, off, x, y, ha, hz, hc0, hc1⟩ := (hp.new hnw).at j (by rw [HK.out]; exact hlt)
      have ha' := ha
      subst ha'
      have HZ : Hid (ps[j]? = some (x, y)) := hz
      have hpf := HOK.out (x, y) (List.mem_of_getElem? hz)
      obtain ⟨hx0, hx1, hy0, hy1, -⟩ := pf_ok hpf
      have hxu : x < 65536 := by simp at hx1; omega
      simp at hx0 hx1 hy0 hy1
      have hwy : IntKind.u8.wrap y = y := by simp [IntKind.wrap, IntKind.signed, IntKind.bits]; omega
      have hT : Hid (pxB (ps.take (j + 1)) = pxB (ps.take j) ++ [x / 256, x % 256, y]) := by unfold Hid; rw [takeP_snoc hz]; exact pxB_snoc _ _ _
      have hsz := hnw.size
      have hgg := hrow.ge
      have hgl := hrow.lt
      have hyb : 0 ≤ y ∧ y ≤ 255 := by omega
      have h2b : ∀ z ∈ [x / 256, x % 256], 0 ≤ z ∧ z ≤ 255 := by simp; omega
      have e1 : ¬ wr.heap.size = g := by omega
      obtain ⟨dA0, dA1⟩ := (hp.new (hnw.alloc (.cells #[.int .u8 y] 5))).get HZ.out
      clear hz hpf
      go_wp2_with fail
      go_region_law (first
        | (refine step_ap2 _ rfl (.tmp 12) (.tmp 18) rfl w.heap.size Try.underlying22 hi hz0 hz1 hz2 g (j * 3) cap _ rfl (by first | exact hrow.new N1 | exact (hrow.new N1).new ((New.refl _).alloc _)) ⟨g1, 0, none⟩ 2 cap1 [x / 256, x % 256] rfl (by first | exact BsAt.of_own ho1 h2b | exact (BsAt.of_own ho1 h2b).new ((New.refl _).alloc _)) rfl (by omega) (by first | omega | (simp; omega)) _ rfl ?_; intro g2 cap2 w2 ho2 hgr2 hat2; have hgr2' := hgr2; have N2 : New w w2 := (by first | exact (hnw.trans N1).grow hgr2 (by intro k hk; obtain rfl := Option.some.inj hk; exact hgg) | exact ((hnw.trans N1).alloc _).grow hgr2 (by intro k hk; obtain rfl := Option.some.inj hk; exact hgg)); obtain ⟨d20, d21⟩ := (hp.new N2).get HZ.out; have s2 := N2.size)
        | (refine step_ap2 _ rfl (.tmp 19) (.tmp 26) rfl w.heap.size Try.underlying22 hi hz0 hz1 hz2 g2 (j * 3 + 2) cap2 _ rfl (by first | exact ho2 | exact ho2.alloc _) ⟨_, 0, none⟩ 1 1 [y] rfl (by first | exact BsAt.of_block (heap_alloc_new _ _) [y] rfl (by simpa using hyb) | exact src_old hyb (New.refl _) hgr2 (by omega) | exact src_old hyb (((New.refl _).drew).trans hn1) hgr2 e1) rfl (by omega) (by first | omega | (simp; omega)) _ rfl ?_; intro g3 cap3 w3 ho3 hgr3 hat3)
        | (go_simp; go_at_call 66; refine (twoBytes_any x _ hx0 hxu).mono ?_; rintro e w1 ⟨g1, cap1, rfl, hg1, ho1, hn1⟩; have N1 : New wr w1 := (by first | exact ((New.refl _).drew).trans hn1 | exact (((New.refl _).alloc _).drew).trans hn1); obtain ⟨d10, d11⟩ := (hp.new (hnw.trans N1)).get HZ.out; obtain ⟨d1a0, d1a1⟩ := (hp.new ((hnw.trans N1).alloc (.cells #[.int .u8 y] 5))).get HZ.out; have s1 := N1.size))
      all_goals
        have hge2 := (World.ownsRow.lt ho2 g2 rfl).1
        have N3 : New w w3 := (by first | exact N2.grow hgr3 (by intro k hk; obtain rfl := Option.some.inj hk; exact hge2) | exact (N2.alloc _).grow hgr3 (by intro k hk; obtain rfl := Option.some.inj hk; exact hge2))
        have hrow3 : RowB w3 w.heap.size g3 ((j + 1) * 3) cap3 (pxB (ps.take (j + 1))) := by
          rw [hT.out, show (j + 1) * 3 = j * 3 + 2 + 1 by omega]
          unfold RowB
          simpa using ho3
        have hlen : j * 3 + 2 + 1 = (j + 1) * 3 := by omega
        clear ho3 hgr3 hat3 ho2 hgr2 hgr2' hat2 N2 ho1 hn1 N1 d10 d11 d1a0 d1a1 d20 d21 dA0 dA1 hc0 hc1 hg1 hrow
        go_wp2
        go_roundw
        case rel => exact ⟨j + 1, g3, cap3, by omega, by go_num, by rw [← hlen], hrow3, N3⟩
        case measure => simp [intOf]; omega
    · obtain rfl : j = k := by omega
      go_wp2
      go_ret
      rw [List.take_of_length_le (by rw [HK.out]; omega)] at hrow
      exact ⟨g, cap, rfl, hrow, hnw⟩

end Go.Proofs.Ytdkjgjjkjfeodaa

namespace Go.Proofs.Ytdkjgjjkjfeodaa
open Go.RowKit Go.Sort
set_option linter.unusedVariables false
set_option maxRecDepth 100000

theorem BsAt.grown {w w' : World} {g p : Nat} {ys : List Int} (h : BsAt w (some ⟨p, 0, none⟩) ys) (hg : w.grownBy w' (some g)) (hne : ¬ p = g) : BsAt w' (some ⟨p, 0, none⟩) ys :=
  h.turn (Turn.of_grown (g := g) hg) (by rintro x hx; obtain rfl := Option.some.inj hx; exact hne)

set_option maxHeartbeats 6400000 in
theorem l3Pack_any (ga a ra : Option Addr) (gn gc n c rn rc : Nat) (has : Bool) (o nx md lc : Int) (gs rs : List (Int × Int)) (xs : List Int) (w : World) (hg : PsAt w ga gs) (hx : NsAt w a xs) (hr : PsAt w ra rs) (hgn : gs.length = gn) (hn : xs.length = n) (hrn : rs.length = rn) (hf : uf gs has o xs nx md lc rs = 0) :
    Calls Try.prog 81 #[.agg #[.slice ga gn gc, .bool has, .int .i64 o, .slice a n c, .int .i64 nx, .int .i64 md, .int .i64 lc, .slice ra rn rc]] w fun e w' => ∃ g cap m, e = .returned (.slice (some ⟨g, 0, none⟩) m cap) ∧ m ≤ 100 ∧ RowB w' w.heap.size g m cap (upB gs has o xs nx md lc rs) ∧ New w w' := by
  obtain ⟨i0, hi, hz0, hz1, hz2⟩ := info_parts Try.infoU8
  obtain ⟨h8, h8r, hlg, hlr, hyes, hno⟩ := uf_ok hf
  have hgok := (lf_ok hlg).2
  have hrok := (lf_ok hlr).2
  rw [hgn] at h8
  rw [hrn] at h8r
  have HG : Hid (gs.length = gn) := hgn
  have HX : Hid (xs.length = n) := hn
  have HR : Hid (rs.length = rn) := hrn
  have hwk : IntKind.u8.wrap (gn : Int) = (gn : Int) := by simp [IntKind.wrap, IntKind.signed, IntKind.bits]; omega
  have hgb : 0 ≤ (gn : Int) ∧ (gn : Int) ≤ 255 := by omega
  clear hgn hn hrn hf
  have hw := (New.refl w).alloc (.cells #[.slice ga gn gc, .bool has, .int .i64 o, .slice a n c, .int .i64 nx, .int .i64 md, .int .i64 lc, .slice ra rn rc] 102)
  have bU := Blk.mk w w.heap.size 102 #[.slice ga gn gc, .bool has, .int .i64 o, .slice a n c, .int .i64 nx, .int .i64 md, .int .i64 lc, .slice ra rn rc] rfl
  go_enter Try.func81, Try.ntmps81
  go_wp2_with fail
  generalize hW : w.alloc (.cells #[.slice ga gn gc, .bool has, .int .i64 o, .slice a n c, .int .i64 nx, .int .i64 md, .int .i64 lc, .slice ra rn rc] 102) = w0 at *
  clear hW
  have hlt0 := bU.lt
  have cU := bU.cells
  have hg0 := hg.new hw
  have cUa := (bU.alloc (.cells #[.int .u8 (gn : Int)] 5)).cells
  have hlitA : ∀ W : World, RowB (W.alloc (.cells #[.int .u8 (gn : Int)] 5)) W.heap.size W.heap.size 1 1 [(gn : Int)] := fun W => World.ownsRow_lit (base := W.heap.size) (size := 1) (e := 5) W #[.int .u8 (gn : Int)] 1 (Nat.le_refl _) (by decide) rfl
  go_region_law (first
    | (refine step_ap2 _ rfl (.tmp 9) (.tmp 12) rfl w0.heap.size Try.underlying22 hi hz0 hz1 hz2 _ 1 1 [(gn : Int)] rfl (by first | exact (hlitA w1).low s1 | exact ((hlitA w0).new ((New.refl _).drew)).new hn1) ⟨g1, 0, none⟩ (gn * 3) cap1 (pxB gs) rfl (by first | exact BsAt.of_own ho1 hpb | exact (BsAt.of_own ho1 hpb).new ((New.refl _).alloc _)) hpl (by omega) (by first | omega | (simp; omega)) _ rfl ?_; intro g2 cap2 w2 ho2 hgr2 hat2)
    | (go_simp; go_at_call 86; refine (l3Px_any ga gn gc gs _ (by first | exact hg0.new ((New.refl _).drew) | exact hg0.new (((New.refl _).alloc _).drew)) HG.out (by omega) hgok).mono ?_; rintro e w1 ⟨g1, cap1, rfl, ho1, hn1⟩; have N1 : New w0 w1 := (by first | exact ((New.refl _).drew).trans hn1 | exact (((New.refl _).alloc _).drew).trans hn1); have hpb := pxB_bd hgok; have hpl : (pxB gs).length = gn * 3 := (by rw [pxB_len, HG.out]); have s1 := N1.size; have cU1 := (bU.new N1).cells; have cU1a := ((bU.new N1).alloc (.cells #[.int .u8 (gn : Int)] 5)).cells))
  all_goals
    have N2 : New w0 w2 := (by first | exact (N1.alloc _).grow hgr2 (by intro k hk; obtain rfl := Option.some.inj hk; omega) | exact N1.grow hgr2 (by intro k hk; obtain rfl := Option.some.inj hk; omega))
    have R2 : RowB w2 w0.heap.size g2 (1 + gn * 3) cap2 ([(gn : Int)] ++ pxB gs) := by unfold RowB; simpa using ho2
    have b2 := bU.new N2
    have q2 := R2.ge
    have p2 := R2.lt
    have z2 := N2.size
    clear ho2 hgr2 hat2 ho1 hn1 N1 cU1 cU1a cU cUa hlitA
    have cU := b2.cells
    cases has with
    | false =>
      go_wp2
      go_ret
      refine ⟨g2, cap2, 1 + gn * 3, rfl, by omega, ?_, hw.trans N2⟩
      have e2 : ∀ o nx md lc : Int, upB gs false o xs nx md lc rs = [(gn : Int)] ++ pxB gs := by intro o nx md lc; simp [upB, HG.out]
      rw [e2]
      exact R2.low (by omega)
    | true =>
      obtain ⟨hrp, haf⟩ := hyes rfl
      obtain ⟨⟨⟨ho0, ho1⟩, ⟨hx0, hx1⟩, ⟨hm0, hm1⟩, ⟨hl0, hl1⟩⟩, hk6, hall⟩ := af_ok haf
      replace hk6 : n ≤ 6 := by have h1 := HX.out; omega
      have hwn : IntKind.u8.wrap (n : Int) = (n : Int) := by simp [IntKind.wrap, IntKind.signed, IntKind.bits]; omega
      have hwo : IntKind.u8.wrap o = o := by simp [IntKind.wrap, IntKind.signed, IntKind.bits]; omega
      have HA : Hid (∀ x ∈ xs, 1 ≤ x ∧ x ≤ 65535) := hall
      clear hyes hno haf hall
      have hal2 := (New.refl w2).alloc (.cells #[.int .u8 (n : Int)] 5)
      have hbs2 : BsAt (w2.alloc (.cells #[.int .u8 (n : Int)] 5)) (some ⟨w2.heap.size, 0, none⟩) [(n : Int)] := BsAt.of_block (heap_alloc_new _ _) _ rfl (by simp; omega)
      go_wp2_with (at_builtin; refine wpList_ap _ rfl (.tmp 18) (.tmp 24) rfl w0.heap.size Try.underlying22 hi hz0 hz1 hz2 (.slice (some ⟨g2, 0, none⟩) (1 + gn * 3) cap2) (1 + gn * 3) _ rfl (R2.new hal2) (some ⟨w2.heap.size, 0, none⟩) 1 1 _ rfl hbs2 rfl (by intro h; cases h) (by omega) (by omega) (by simp; omega) _ rfl ?_)
      intro g3 cap3 w3 ho3 hgr3 hat3
      have N3 : New w0 w3 := (N2.trans hal2).grow hgr3 (by intro k hk; simp [Value.ownBlock] at hk; omega)
      have R3 : RowB w3 w0.heap.size g3 (1 + gn * 3 + 1) cap3 ([(gn : Int)] ++ pxB gs ++ [(n : Int)]) := by unfold RowB; simpa using ho3
      clear ho3 hgr3 hat3 hbs2 hal2 R2 b2 q2 p2 z2 cU N2
      go_wp2_with fail
      go_loopw [3, 4] (fun s i wr => ∃ (j g cap : Nat), j ≤ n ∧ i = .int .i64 j ∧ s = .slice (some ⟨g, 0, none⟩) (1 + gn * 3 + 1 + j * 2) cap ∧ RowB wr w0.heap.size g (1 + gn * 3 + 1 + j * 2) cap ([(gn : Int)] ++ pxB gs ++ [(n : Int)] ++ nsB (xs.take j)) ∧ New w0 wr) (fun _ i _ => n - (intOf i).toNat)
      case atStart => exact ⟨0, g3, cap3, Nat.zero_le _, rfl, by simp, by simpa [nsB] using R3, N3⟩
      case round =>
        clear R3 N3
        obtain ⟨j, g, cap, hj, rfl, rfl, R4, N4⟩ := hrel
        have cU := (bU.new N4).cells
        have z4 := N4.size
        have q4 := R4.ge
        by_cases hlt : j < n
        · obtain ⟨b, off, x, ha, hz, hc0, -⟩ := (hx.new (hw.trans N4)).at j (by rw [HX.out]; exact hlt)
          have ha' := ha
          subst ha'
          obtain ⟨t0, t1⟩ := HA.out x (List.mem_of_getElem? hz)
          have t2 : 0 ≤ x := by omega
          have t3 : x < 65536 := by omega
          have hT : Hid (nsB (xs.take (j + 1)) = nsB (xs.take j) ++ [x / 256, x % 256]) := by unfold Hid; rw [take_snoc hz]; exact nsB_snoc _ _
          clear hz
          go_wp2_with fail
          refine (twoBytes_any x _ t2 t3).mono ?_
          rintro e w5 ⟨g5, cap5, rfl, hg5, ho5, hn5⟩
          have hb5 : BsAt w5 (some ⟨g5, 0, none⟩) [x / 256, x % 256] := BsAt.of_own ho5 (by simp; omega)
          have N5 := N4.trans hn5
          have z5 := N5.size
          go_wp2_with (at_builtin; refine wpList_ap _ rfl (.tmp 34) (.tmp 41) rfl w0.heap.size Try.underlying22 hi hz0 hz1 hz2 (.slice (some ⟨g, 0, none⟩) (1 + gn * 3 + 1 + j * 2) cap) (1 + gn * 3 + 1 + j * 2) _ rfl (R4.new hn5) (some ⟨g5, 0, none⟩) 2 cap5 _ rfl hb5 rfl (by intro h; cases h) (by omega) (by omega) (by omega) _ rfl ?_)
          intro g6 cap6 w6 ho6 hgr6 hat6
          have N6 : New w0 w6 := N5.grow hgr6 (by intro k hk; simp [Value.ownBlock] at hk; omega)
          have R6 : RowB w6 w0.heap.size g6 (1 + gn * 3 + 1 + (j + 1) * 2) cap6 ([(gn : Int)] ++ pxB gs ++ [(n : Int)] ++ nsB (xs.take (j + 1))) := by
            rw [hT.out, show 1 + gn * 3 + 1 + (j + 1) * 2 = 1 + gn * 3 + 1 + j * 2 + 2 by omega]
            unfold RowB
            simpa using ho6
          have hlen : 1 + gn * 3 + 1 + j * 2 + 2 = 1 + gn * 3 + 1 + (j + 1) * 2 := by omega
          clear ho6 hgr6 hat6 hb5 ho5 hn5 hg5 N5 z5 R4 N4 cU hc0
          go_wp2
          go_roundw
          case rel => exact ⟨j + 1, g6, cap6, by omega, by go_num, by rw [← hlen], R6, N6⟩
          case measure => simp [intOf]; omega
        · obtain rfl : j = n := by omega
          rw [List.take_of_length_le (by rw [HX.out]; omega)] at R4
          have hal4 := (New.refl wr).alloc (.cells #[.int .u8 o] 5)
          have hbs4 : BsAt (wr.alloc (.cells #[.int .u8 o] 5)) (some ⟨wr.heap.size, 0, none⟩) [o] := BsAt.of_block (heap_alloc_new _ _) _ rfl (by simp; omega)
          go_wp2_with (at_builtin; refine wpList_ap _ rfl (.tmp 43) (.tmp 48) rfl w0.heap.size Try.underlying22 hi hz0 hz1 hz2 (.slice (some ⟨g, 0, none⟩) (1 + gn * 3 + 1 + j * 2) cap) (1 + gn * 3 + 1 + j * 2) _ rfl (R4.new hal4) (some ⟨wr.heap.size, 0, none⟩) 1 1 _ rfl hbs4 rfl (by intro h; cases h) (by omega) (by omega) (by simp; omega) _ rfl ?_)
          intro g5 cap5 w5 ho5 hgr5 hat5
          have N5 : New w0 w5 := (N4.trans hal4).grow hgr5 (by intro k hk; simp [Value.ownBlock] at hk; omega)
          obtain ⟨L, hL⟩ : ∃ L, 1 + gn * 3 + 1 + j * 2 + 1 = L := ⟨_, rfl⟩
          obtain ⟨Y, hY⟩ : ∃ Y, [(gn : Int)] ++ pxB gs ++ [(j : Int)] ++ nsB xs ++ [o] = Y := ⟨_, rfl⟩
          have R5 : RowB w5 w0.heap.size g5 L cap5 Y := by rw [← hL, ← hY]; unfold RowB; simpa using ho5
          have HL : Hid (1 + gn * 3 + 1 + j * 2 + 1 = L) := hL
          have HY : Hid ([(gn : Int)] ++ pxB gs ++ [(j : Int)] ++ nsB xs ++ [o] = Y) := hY
          have hL50 : L ≤ 60 := by omega
          have b5 := bU.new N5
          clear ho5 hgr5 hat5 hbs4 hal4 R4 N4 cU z4 q4 hY
          rw [hL]
          clear hL
          have cU5 := b5.cells
          have q5 := R5.ge
          have p5 := R5.lt
          have z5 := N5.size
          go_wp2_with fail
          go_region_held3 (fun W => ∀ i, W.cell? ⟨w.heap.size, i, none⟩ = #[Value.slice ga gn gc, .bool true, .int .i64 o, .slice a j c, .int .i64 nx, .int .i64 md, .int .i64 lc, .slice ra rn rc][i]?) (first | exact cU5 | exact cc1 | exact cv1 | exact cc2 | exact cv2 | exact cc3 | exact cv3)
            (first
            | (refine step_ap2 _ rfl (.tmp 50) (.tmp 54) rfl w0.heap.size Try.underlying22 hi hz0 hz1 hz2 g5 L cap5 Y rfl (by first | exact X1 | exact X1.new un2 | exact (X1.new un2).new un3) ⟨p1, 0, none⟩ 2 k1 [nx / 256, nx % 256] rfl (by first | exact B1 | exact B1.new un2 | exact (B1.new un2).new un3) rfl (by omega) (by omega) _ rfl ?_; intro f1 l1 v1 S1' gr1 at1; have S1 : RowB v1 w0.heap.size f1 (L + 2) l1 (Y ++ [nx / 256, nx % 256]) := (by unfold RowB; simpa using S1'); have V1 : New w0 v1 := (by first | exact M1.grow gr1 (by intro k hk; obtain rfl := Option.some.inj hk; omega) | exact M2.grow gr1 (by intro k hk; obtain rfl := Option.some.inj hk; omega) | exact M3.grow gr1 (by intro k hk; obtain rfl := Option.some.inj hk; omega)); have cv1 := (bU.new V1).cells; have yv1 := V1.size; have zv1 := gr1.size; have ge1 := S1.ge; have lt1 := S1.lt)
            | (refine step_ap2 _ rfl (.tmp 55) (.tmp 59) rfl w0.heap.size Try.underlying22 hi hz0 hz1 hz2 f1 (L + 2) l1 _ rfl (by first | exact S1 | exact S1.new un2 | exact S1.new un3 | exact (S1.new un2).new un3) ⟨p2, 0, none⟩ 2 k2 [md / 256, md % 256] rfl (by first | exact B2 | exact B2.new un3 | exact B2.grown gr1 (by omega) | exact (B2.grown gr1 (by omega)).new un3 | exact (B2.new un3).grown gr1 (by omega)) rfl (by omega) (by omega) _ rfl ?_; intro f2 l2 v2 S2' gr2 at2; have S2 : RowB v2 w0.heap.size f2 (L + 2 + 2) l2 (Y ++ [nx / 256, nx % 256] ++ [md / 256, md % 256]) := (by unfold RowB; simpa using S2'); have V2 : New w0 v2 := (by first | exact V1.grow gr2 (by intro k hk; obtain rfl := Option.some.inj hk; omega) | exact M2.grow gr2 (by intro k hk; obtain rfl := Option.some.inj hk; omega) | exact M3.grow gr2 (by intro k hk; obtain rfl := Option.some.inj hk; omega)); have cv2 := (bU.new V2).cells; have yv2 := V2.size; have zv2 := gr2.size; have ge2 := S2.ge; have lt2 := S2.lt)
            | (refine step_ap2 _ rfl (.tmp 60) (.tmp 64) rfl w0.heap.size Try.underlying22 hi hz0 hz1 hz2 f2 (L + 2 + 2) l2 _ rfl (by first | exact S2 | exact S2.new un3) ⟨p3, 0, none⟩ 2 k3 [lc / 256, lc % 256] rfl (by first | exact B3 | exact B3.grown gr2 (by omega) | exact (B3.grown gr1 (by omega)).grown gr2 (by omega)) rfl (by omega) (by omega) _ rfl ?_; intro f3 l3 v3 S3' gr3 at3; have S3 : RowB v3 w0.heap.size f3 (L + 2 + 2 + 2) l3 (Y ++ [nx / 256, nx % 256] ++ [md / 256, md % 256] ++ [lc / 256, lc % 256]) := (by unfold RowB; simpa using S3'); have V3 : New w0 v3 := (by first | exact V2.grow gr3 (by intro k hk; obtain rfl := Option.some.inj hk; omega) | exact M3.grow gr3 (by intro k hk; obtain rfl := Option.some.inj hk; omega)); have cv3 := (bU.new V3).cells)
            | (go_at_call_of 66 nx; refine (twoBytes_any nx _ hx0 (by omega)).mono ?_; rintro e u1 ⟨p1, k1, rfl, hp1, op1, un1⟩; have D1 : New w5 u1 := ((New.refl _).drew).trans un1; have M1 := N5.trans D1; have B1 : BsAt u1 (some ⟨p1, 0, none⟩) [nx / 256, nx % 256] := BsAt.of_own op1 (by simp; omega); have X1 := R5.new D1; have cc1 := (bU.new M1).cells; have y1 := M1.size; have d1 := D1.size; have hp1' : w5.heap.size ≤ p1 := hp1; have pl1 := (op1.lt p1 rfl).2)
            | (go_at_call_of 66 md; refine (twoBytes_any md _ hm0 (by omega)).mono ?_; rintro e u2 ⟨p2, k2, rfl, hp2, op2, un2⟩; have M2 : New w0 u2 := (by first | exact M1.trans un2 | exact V1.trans un2); have B2 : BsAt u2 (some ⟨p2, 0, none⟩) [md / 256, md % 256] := BsAt.of_own op2 (by simp; omega); have cc2 := (bU.new M2).cells; have y2 := M2.size; have d2 := un2.size; have pl2 := (op2.lt p2 rfl).2)
            | (go_at_call_of 66 lc; refine (twoBytes_any lc _ hl0 (by omega)).mono ?_; rintro e u3 ⟨p3, k3, rfl, hp3, op3, un3⟩; have M3 : New w0 u3 := (by first | exact M2.trans un3 | exact V1.trans un3 | exact V2.trans un3); have B3 : BsAt u3 (some ⟨p3, 0, none⟩) [lc / 256, lc % 256] := BsAt.of_own op3 (by simp; omega); have cc3 := (bU.new M3).cells; have y3 := M3.size; have d3 := un3.size; have pl3 := (op3.lt p3 rfl).2))
          all_goals
            have c9 := cv3
            have z9 := V3.size
            have q9 := S3.ge
            clear S3' S2' S1' gr1 gr2 gr3 at1 at2 at3 un1 un2 un3 op1 op2 op3 B1 B2 B3 S1 S2 V1 V2 M1 M2 M3 D1 X1 cc1 cc2 cc3 cv1 cv2 cv3 cU5 R5 hp1 hp2 hp3
            go_wp2_with fail
            refine (l3Px_any ra rn rc rs _ (hr.new (hw.trans V3)) HR.out (by omega) hrok).mono ?_
            rintro e w8 ⟨g8, cap8, rfl, ho8, hn8⟩
            have N8 := V3.trans hn8
            have hb8 : BsAt w8 (some ⟨g8, 0, none⟩) (pxB rs) := BsAt.of_own ho8 (pxB_bd hrok)
            have hl8 : (pxB rs).length = rn * 3 := by rw [pxB_len, HR.out]
            have z8 := N8.size
            go_wp2_with (at_builtin; refine wpList_ap _ rfl (.tmp 66) (.tmp 69) rfl w0.heap.size Try.underlying22 hi hz0 hz1 hz2 (.slice (some ⟨f3, 0, none⟩) (L + 2 + 2 + 2) l3) (L + 2 + 2 + 2) _ rfl (S3.new hn8) (some ⟨g8, 0, none⟩) (rn * 3) cap8 _ rfl hb8 hl8 (by intro h; cases h) (by omega) (by omega) (by omega) _ rfl ?_)
            intro g9 cap9 w9 ho9 hgr9 hat9
            have N9 : New w0 w9 := N8.grow hgr9 (by intro k hk; simp [Value.ownBlock] at hk; omega)
            clear hgr9 hat9 hb8 ho8 hn8
            go_wp2
            go_ret
            refine ⟨g9, cap9, L + 2 + 2 + 2 + rn * 3, rfl, by omega, ?_, hw.trans N9⟩
            have e2 : upB gs true o xs nx md lc rs = (Y ++ [nx / 256, nx % 256] ++ [md / 256, md % 256] ++ [lc / 256, lc % 256]) ++ pxB rs := by
              rw [← HY.out]
              simp [upB, atB, HG.out, HX.out]
            rw [e2]
            have : RowB w9 w0.heap.size g9 (L + 2 + 2 + 2 + rn * 3) cap9 ((Y ++ [nx / 256, nx % 256] ++ [md / 256, md % 256] ++ [lc / 256, lc % 256]) ++ pxB rs) := by unfold RowB; simpa using ho9
            exact this.low (by omega)

end Go.Proofs.Ytdkjgjjkjfeodaa
