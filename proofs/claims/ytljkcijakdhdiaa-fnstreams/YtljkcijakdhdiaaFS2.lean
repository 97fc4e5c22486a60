/- What is proved here: what the drawing of a message answers. What is proved here: what the packing of a message answers, in the program, for every lists of at most 1048576 elements. What is proved here: what the packing of a message answers, in the program, for every lists of at most 1048576 elements. What is proved here: what the model's packing of prefixes answers, for prefixes without a fault. What is proved here: what the model's packing of an update answers, for every update with lists of at most 1048576 elements. What is proved here: what the model's packing of a message answers, for messages without a fault. What is proved here: what the drawing of a message answers, and that it is right. What is proved here: what the drawing of a frame answers. What is proved here: what the bending of bytes answers: bytes of the call's own. What is proved here: what the packing of a drawn message and the drawing of a stream of messages answer. What is proved here: what the laws' asking for too many bytes answers. What is proved here: what the choice of a number by the laws answers. What is proved here: what the drawing of a stream of messages for its readers leaves, for every list of at most 1048576 bytes. -/
import Derived.Test.YtljkcijakdhdiaaFS1
import Derived.Test.YtljkcijakdhdiaaMsMf
import Derived.Deep.RegionHeld3
import Derived.Deep.CutRange
import Derived.Test.YtljkcijakdhdiaaBytes
import Derived.Test.YtljkcijakdhdiaaRows
namespace Go.Proofs.Ytljkcijakdhdiaa
open Go.RowKit Go.Sort
set_option linter.unusedVariables false

theorem Turn.hereD {w wr : World} {B j : Nat} (h : Turn (fun k => k = B) w wr) (v : Value) : Turn (fun k => k = B) w (wr.setCell ⟨B, j, none⟩ v) := h.set rfl v

theorem uf_in {gs rs : List (Int × Int)} {has : Bool} {o nx md lc : Int} {xs : List Int} (h : uf gs has o xs nx md lc rs = 0) : (∀ p ∈ gs, In6 p.1 ∧ In6 p.2) ∧ (∀ z ∈ xs, In6 z) ∧ (∀ p ∈ rs, In6 p.1 ∧ In6 p.2) := by
  obtain ⟨_, _, hg, hr, h1, h0⟩ := uf_ok h
  refine ⟨fun p hp => pf_in ((lf_ok hg).2 p hp), ?_, fun p hp => pf_in ((lf_ok hr).2 p hp)⟩
  cases has with
  | true =>
    obtain ⟨_, haf⟩ := h1 rfl
    obtain ⟨-, -, hx⟩ := af_ok haf
    intro z hz
    have := hx z hz
    unfold In6
    omega
  | false =>
    obtain ⟨_, hz⟩ := h0 rfl
    intro u hu
    simp [ZaP] at hz
    simp_all

set_option maxHeartbeats 6400000 in
theorem l4Message_sc {B n c t : Nat} {a : Option Addr} {zs : List Int} {w : World} (h : Sc w B a n c zs t) (ht : t ≤ 5000) :
    Calls Try.prog 29 #[.pointer (some ⟨B, 0, none⟩)] w fun e w' => ∃ (kd sa mh mi wh su : Int) (gs rs : List (Int × Int)) (xs : List Int) (has : Bool) (o nx md lc : Int) (x y z : Value) (t' : Nat), e = .returned (.agg #[.int .i64 kd, .int .i64 sa, .int .i64 mh, .int .i64 mi, .int .i64 wh, .int .i64 su, x, .bool has, .int .i64 o, y, .int .i64 nx, .int .i64 md, .int .i64 lc, z]) ∧ gs.length ≤ 9 ∧ xs.length ≤ 7 ∧ rs.length ≤ 4 ∧ (∀ p ∈ gs, In6 p.1 ∧ In6 p.2) ∧ (∀ z ∈ xs, In6 z) ∧ (∀ p ∈ rs, In6 p.1 ∧ In6 p.2) ∧ OwQ w' w.heap.size x gs ∧ OwM w' w.heap.size y xs ∧ OwQ w' w.heap.size z rs ∧ t' ≤ t + 250 ∧ Sc w' B a n c zs t' ∧ Turn (fun k => k = B) w w' := by
  have hlt := h.blk.lt
  have hA := h.lt_of
  have N0 : New w (w.alloc (.cells #[.int .i64 0, .int .i64 0, .int .i64 0, .int .i64 0, .int .i64 0, .int .i64 0, .slice none 0 0, .bool false, .int .i64 0, .slice none 0 0, .int .i64 0, .int .i64 0, .int .i64 0, .slice none 0 0] 51)) := (New.refl w).alloc _
  have bR0 := Blk.mk w w.heap.size 51 #[.int .i64 0, .int .i64 0, .int .i64 0, .int .i64 0, .int .i64 0, .int .i64 0, .slice none 0 0, .bool false, .int .i64 0, .slice none 0 0, .int .i64 0, .int .i64 0, .int .i64 0, .slice none 0 0] rfl
  have hs0 := h.new N0
  have tT0 : Turn (fun k => k = B) w (w.alloc (.cells #[.int .i64 0, .int .i64 0, .int .i64 0, .int .i64 0, .int .i64 0, .int .i64 0, .slice none 0 0, .bool false, .int .i64 0, .slice none 0 0, .int .i64 0, .int .i64 0, .int .i64 0, .slice none 0 0] 51)) := N0.turn
  have hRB : ¬ w.heap.size = B := by omega
  have hSR : ∀ x, zs ≠ [] → a = some x → ¬ x.block = w.heap.size := fun x h1 h2 e => by have := hA x h1 h2; omega
  go_enter Try.func29, Try.ntmps29
  go_wp2_with fail
  refine (next_sc hs0 6 (by omega) (by omega)).mono ?_
  rintro e w1 ⟨y0, rfl, -, hs1, tn1⟩
  have bR1 := bR0.turn tn1 hRB
  have tT1 := Turn.both tT0 tn1
  clear bR0 tT0
  by_cases g0 : y0 = 0
  · subst g0
    go_wp2_with fail
    refine (next_sc hs1 5 (by omega) (by omega)).mono ?_
    rintro e w2 ⟨y1, rfl, ⟨py1, qy1, -⟩, hs2, tn2⟩
    have bR2 := bR1.turn tn2 hRB
    have tT2 := Turn.both tT1 tn2
    clear bR1 tT1
    have qy1 := qy1 (by omega)
    have hwy1 : IntKind.i64.wrap (1 + y1) = 1 + y1 := wrap_in (by omega)
    go_wp2_with fail
    refine (pick_sc (hs2.new ((New.refl _).alloc (.cells #[.int .i64 (9), .int .i64 (9), .int .i64 (0), .int .i64 (3), .int .i64 (200)] 2))) [9, 9, 0, 3, 200] (Blk.mk w2 w2.heap.size 2 #[.int .i64 (9), .int .i64 (9), .int .i64 (0), .int .i64 (3), .int .i64 (200)] rfl) 5 rfl (by omega) (by omega) (by omega)).mono ?_
    rintro e w3 ⟨q1, rfl, -, hs3, tn3⟩
    have bR3 := (bR2.alloc (.cells #[.int .i64 (9), .int .i64 (9), .int .i64 (0), .int .i64 (3), .int .i64 (200)] 2)).turn tn3 hRB
    have tT3 := Turn.both (Turn.andNew tT2 ((New.refl _).alloc (.cells #[.int .i64 (9), .int .i64 (9), .int .i64 (0), .int .i64 (3), .int .i64 (200)] 2))) tn3
    clear bR2 tT2
    go_wp2_with fail
    refine (next_sc hs3 9 (by omega) (by omega)).mono ?_
    rintro e w4 ⟨y2, rfl, ⟨py2, qy2, -⟩, hs4, tn4⟩
    have bR4 := bR3.turn tn4 hRB
    have tT4 := Turn.both tT3 tn4
    clear bR3 tT3
    have qy2 := qy2 (by omega)
    have hwy2 : IntKind.i64.wrap (1 + y2) = 1 + y2 := wrap_in (by omega)
    have cR := bR4.cells
    have fR := bR4.frees
    go_wp2
    refine bodyPost_ret (v := .agg #[.int .i64 1, .int .i64 (1 + y1), .int .i64 q1, .int .i64 (1 + y2), .int .i64 0, .int .i64 0, .slice none 0 0, .bool false, .int .i64 0, .slice none 0 0, .int .i64 0, .int .i64 0, .int .i64 0, .slice none 0 0]) (by simp [results, Try.results29, go_sem, cR]) rfl ?_
    refine (fun (hT : Turn (fun k => k = w.heap.size) w4 _) => ⟨1, 1 + y1, q1, 1 + y2, 0, 0, [], [], [], false, 0, 0, 0, 0, _, _, _, _, rfl, by simp, by simp, by simp, by simp, by simp, by simp, OwQ.nil _ _, OwM.nil _ _, OwQ.nil _ _, by omega, hs4.turn hT (fun e => hRB e.symm) hSR, Turn.trans tT4 hT (fun i hi e => by omega)⟩) ?_
    exact Turn.hereD (Turn.hereD (Turn.hereD (Turn.hereD (Turn.hereD (Turn.hereD (Turn.hereD (Turn.hereD (Turn.hereD (Turn.hereD (Turn.hereD (Turn.hereD (Turn.hereD (Turn.hereD (Turn.refl _ _) _) _) _) _) _) _) _) _) _) _) _) _) _) _
  have e0 : (y0 == 0) = false := by simpa using g0
  by_cases g1 : y0 = 1
  · subst g1
    go_wp2_with fail
    refine (next_sc hs1 6 (by omega) (by omega)).mono ?_
    rintro e w2 ⟨y1, rfl, ⟨py1, qy1, -⟩, hs2, tn2⟩
    have bR2 := bR1.turn tn2 hRB
    have tT2 := Turn.both tT1 tn2
    clear bR1 tT1
    have qy1 := qy1 (by omega)
    have hwy1 : IntKind.i64.wrap (1 + y1) = 1 + y1 := wrap_in (by omega)
    go_wp2_with fail
    refine (next_sc hs2 21 (by omega) (by omega)).mono ?_
    rintro e w3 ⟨y2, rfl, -, hs3, tn3⟩
    have bR3 := bR2.turn tn3 hRB
    have tT3 := Turn.both tT2 tn3
    clear bR2 tT2
    have cR := bR3.cells
    have fR := bR3.frees
    go_wp2
    refine bodyPost_ret (v := .agg #[.int .i64 3, .int .i64 0, .int .i64 0, .int .i64 0, .int .i64 (1 + y1), .int .i64 y2, .slice none 0 0, .bool false, .int .i64 0, .slice none 0 0, .int .i64 0, .int .i64 0, .int .i64 0, .slice none 0 0]) (by simp [results, Try.results29, go_sem, cR]) rfl ?_
    refine (fun (hT : Turn (fun k => k = w.heap.size) w3 _) => ⟨3, 0, 0, 0, 1 + y1, y2, [], [], [], false, 0, 0, 0, 0, _, _, _, _, rfl, by simp, by simp, by simp, by simp, by simp, by simp, OwQ.nil _ _, OwM.nil _ _, OwQ.nil _ _, by omega, hs3.turn hT (fun e => hRB e.symm) hSR, Turn.trans tT3 hT (fun i hi e => by omega)⟩) ?_
    exact Turn.hereD (Turn.hereD (Turn.hereD (Turn.hereD (Turn.hereD (Turn.hereD (Turn.hereD (Turn.hereD (Turn.hereD (Turn.hereD (Turn.hereD (Turn.hereD (Turn.hereD (Turn.hereD (Turn.refl _ _) _) _) _) _) _) _) _) _) _) _) _) _) _) _
  have e1 : (y0 == 1) = false := by simpa using g1
  by_cases g2 : y0 = 2
  · subst g2
    have cR := bR1.cells
    have fR := bR1.frees
    go_wp2
    refine bodyPost_ret (v := .agg #[.int .i64 4, .int .i64 0, .int .i64 0, .int .i64 0, .int .i64 0, .int .i64 0, .slice none 0 0, .bool false, .int .i64 0, .slice none 0 0, .int .i64 0, .int .i64 0, .int .i64 0, .slice none 0 0]) (by simp [results, Try.results29, go_sem, cR]) rfl ?_
    refine (fun (hT : Turn (fun k => k = w.heap.size) w1 _) => ⟨4, 0, 0, 0, 0, 0, [], [], [], false, 0, 0, 0, 0, _, _, _, _, rfl, by simp, by simp, by simp, by simp, by simp, by simp, OwQ.nil _ _, OwM.nil _ _, OwQ.nil _ _, by omega, hs1.turn hT (fun e => hRB e.symm) hSR, Turn.trans tT1 hT (fun i hi e => by omega)⟩) ?_
    exact Turn.hereD (Turn.hereD (Turn.hereD (Turn.hereD (Turn.hereD (Turn.hereD (Turn.hereD (Turn.hereD (Turn.hereD (Turn.hereD (Turn.hereD (Turn.hereD (Turn.hereD (Turn.hereD (Turn.refl _ _) _) _) _) _) _) _) _) _) _) _) _) _) _) _
  have e2 : (y0 == 2) = false := by simpa using g2
  have tT1s := tT1.size
  have z1 : w.heap.size < w1.heap.size := bR1.lt
  go_wp2_with fail
  refine (l3DrawUpdate_sc hs1 (by omega)).mono ?_
  rintro e w2 ⟨gs, rs, xs, has, o, nx, md, lc, x, y, z, t2, rfl, huf, hg2, hx3, hr3, ht2, oQ, oM, oR, hs2, tn2, -, -, -⟩
  have bR2 := bR1.turn tn2 hRB
  have tT2 := Turn.both tT1 tn2
  clear bR1 tT1
  obtain ⟨xa, xc, rfl⟩ := oQ.slice
  obtain ⟨ya, yc, rfl⟩ := oM.slice
  obtain ⟨za, zc, rfl⟩ := oR.slice
  have s1 : w.heap.size + 1 ≤ w1.heap.size := by have := tT1s; omega
  obtain ⟨ig, ix, ir⟩ := uf_in huf
  have cR := bR2.cells
  have fR := bR2.frees
  go_wp2
  refine bodyPost_ret (v := .agg #[.int .i64 2, .int .i64 0, .int .i64 0, .int .i64 0, .int .i64 0, .int .i64 0, .slice xa gs.length xc, .bool has, .int .i64 o, .slice ya xs.length yc, .int .i64 nx, .int .i64 md, .int .i64 lc, .slice za rs.length zc]) (by simp [results, Try.results29, go_sem, cR]) rfl ?_
  refine (fun (hT : Turn (fun k => k = w.heap.size) w2 _) => ⟨2, 0, 0, 0, 0, 0, gs, rs, xs, has, o, nx, md, lc, _, _, _, _, rfl, by omega, by omega, by omega, ig, ix, ir, (oQ.turn hT (fun g hg e => by omega)).low (by omega), (oM.turn hT (fun g hg e => by omega)).low (by omega), (oR.turn hT (fun g hg e => by omega)).low (by omega), by omega, hs2.turn hT (fun e => hRB e.symm) hSR, Turn.trans tT2 hT (fun i hi e => by omega)⟩) ?_
  exact Turn.hereD (Turn.hereD (Turn.hereD (Turn.hereD (Turn.hereD (Turn.hereD (Turn.hereD (Turn.hereD (Turn.hereD (Turn.hereD (Turn.hereD (Turn.hereD (Turn.hereD (Turn.hereD (Turn.refl _ _) _) _) _) _) _) _) _) _) _) _) _) _) _) _

end Go.Proofs.Ytljkcijakdhdiaa

namespace Go.Proofs.Ytljkcijakdhdiaa
open Go.RowKit Go.Sort
set_option linter.unusedVariables false

/-- What the packing of a body answers: its bytes. -/
def BdAns (w : World) (zs : List Int) (e : Ending) (w' : World) : Prop :=
  ∃ (a : Option Addr) (m cap : Nat), e = .returned (.slice a m cap) ∧ BsAt w' a zs ∧ zs.length = m ∧ (a = none → m = 0 ∧ cap = 0) ∧ New w w'

/-- The bytes of an open. -/
def opB (sa ho si : Int) : List Int := [sa / 256, sa % 256, ho, si / 256, si % 256]

theorem own_nil (w : World) (base : Nat) (e : TypeId) : w.ownsRow base e 1 (.slice none 0 0) 0 (([] : List Int).map (Value.int .u8)) := ⟨rfl, .inl ⟨rfl, rfl⟩⟩

/-- The body of a message. -/
def msB (kd sa ho si wh su : Int) (gs : List (Int × Int)) (has : Bool) (o : Int) (xs : List Int) (nx md lc : Int) (rs : List (Int × Int)) : List Int :=
  if kd = 1 then opB sa ho si else if kd = 2 then upB gs has o xs nx md lc rs else if kd = 3 then [wh, su] else []
/-- What PackMessage answers: the fault, or the message's bytes in new memory. -/
def MsAns (w : World) (kd sa ho si wh su : Int) (gs : List (Int × Int)) (has : Bool) (o : Int) (xs : List Int) (nx md lc : Int) (rs : List (Int × Int)) (e : Ending) (w' : World) : Prop :=
  ∃ (a : Option Addr) (m cap : Nat) (ys : List Int), e = .returned (.agg #[.int .i64 (mf kd sa ho si wh su gs has o xs nx md lc rs), .slice a m cap]) ∧ OwAt w' a m cap ys ∧ (∀ z ∈ ys, 0 ≤ z ∧ z ≤ 255) ∧ (∀ x, a = some x → w.heap.size ≤ x.block ∧ x.block < w'.heap.size) ∧ New w w' ∧
    ys = (if mf kd sa ho si wh su gs has o xs nx md lc rs = 0 then packOf kd (msB kd sa ho si wh su gs has o xs nx md lc rs) else []) ∧ (a = none → m = 0 ∧ cap = 0) ∧ m ≤ 125

end Go.Proofs.Ytljkcijakdhdiaa

namespace Go.Proofs.Ytljkcijakdhdiaa
open Go.RowKit Go.Sort
set_option linter.unusedVariables false

theorem mf_zero {gs rs : List (Int × Int)} {has : Bool} {o nx md lc : Int} {xs : List Int} {kd sa ho si wh su : Int} (h : mf kd sa ho si wh su gs has o xs nx md lc rs = 0) :
    (kd = 1 ∧ Opn sa ho si ∧ wh = 0 ∧ su = 0 ∧ ZuP gs has o xs nx md lc rs) ∨ (kd = 2 ∧ sa = 0 ∧ ho = 0 ∧ si = 0 ∧ wh = 0 ∧ su = 0 ∧ uf gs has o xs nx md lc rs = 0) ∨ (kd = 3 ∧ Nty wh su ∧ sa = 0 ∧ ho = 0 ∧ si = 0 ∧ ZuP gs has o xs nx md lc rs) ∨ (kd = 4 ∧ sa = 0 ∧ ho = 0 ∧ si = 0 ∧ wh = 0 ∧ su = 0 ∧ ZuP gs has o xs nx md lc rs) := by
  by_cases h0 : kd < 1 ∨ 4 < kd
  · rw [mf_none h0] at h; cases h
  rcases (show kd = 1 ∨ kd = 2 ∨ kd = 3 ∨ kd = 4 by omega) with rfl | rfl | rfl | rfl
  · by_cases h1 : Opn sa ho si
    · by_cases h2 : wh = 0 ∧ su = 0 ∧ ZuP gs has o xs nx md lc rs
      · exact .inl ⟨rfl, h1, h2⟩
      · rw [mf1_form h1 h2] at h; cases h
    · rw [mf1_bad h1] at h; cases h
  · by_cases h2 : sa = 0 ∧ ho = 0 ∧ si = 0 ∧ wh = 0 ∧ su = 0
    · rw [mf2_ok h2] at h
      exact .inr (.inl ⟨rfl, h2.1, h2.2.1, h2.2.2.1, h2.2.2.2.1, h2.2.2.2.2, h⟩)
    · rw [mf2_form h2] at h; cases h
  · by_cases h1 : Nty wh su
    · by_cases h2 : sa = 0 ∧ ho = 0 ∧ si = 0 ∧ ZuP gs has o xs nx md lc rs
      · exact .inr (.inr (.inl ⟨rfl, h1, h2⟩))
      · rw [mf3_form h1 h2] at h; cases h
    · rw [mf3_bad h1] at h; cases h
  · by_cases h2 : sa = 0 ∧ ho = 0 ∧ si = 0 ∧ wh = 0 ∧ su = 0 ∧ ZuP gs has o xs nx md lc rs
    · exact .inr (.inr (.inr ⟨rfl, h2⟩))
    · rw [mf4_form h2] at h; cases h

theorem upB_short {gs rs : List (Int × Int)} {has : Bool} {o nx md lc : Int} {xs : List Int} (h : uf gs has o xs nx md lc rs = 0) : (upB gs has o xs nx md lc rs).length ≤ 120 := by
  obtain ⟨h1, h2, -, -, hy, -⟩ := uf_ok h
  rw [upB_len]
  split
  · rename_i ht
    have := (af_ok (hy ht).2).2.1
    omega
  · omega

end Go.Proofs.Ytljkcijakdhdiaa

namespace Go.Proofs.Ytljkcijakdhdiaa
open Go.RowKit Go.Sort
set_option linter.unusedVariables false
set_option maxRecDepth 100000

theorem PsAt.get {w : World} {b off : Nat} {ps : List (Int × Int)} {i : Nat} {x y : Int} (h : PsAt w (some ⟨b, off, none⟩) ps) (hz : ps[i]? = some (x, y)) : w.cell? ⟨b, off + i * 2, none⟩ = some (.int .i64 x) ∧ w.cell? ⟨b, off + i * 2 + 1, none⟩ = some (.int .i64 y) := by
  obtain ⟨b', off', e, h1, h2, _⟩ := h i _ hz
  simp only [Option.some.injEq, Addr.mk.injEq, and_true] at e
  obtain ⟨rfl, rfl⟩ := e
  exact ⟨h1, h2⟩
theorem NsAt.get {w : World} {b off : Nat} {xs : List Int} {i : Nat} {x : Int} (h : NsAt w (some ⟨b, off, none⟩) xs) (hz : xs[i]? = some x) : w.cell? ⟨b, off + i, none⟩ = some (.int .i64 x) := by
  obtain ⟨b', off', e, h1, _⟩ := h i _ hz
  simp only [Option.some.injEq, Addr.mk.injEq, and_true] at e
  obtain ⟨rfl, rfl⟩ := e
  exact h1

/-- A row of bytes made behind the block base. -/
def RowB (w : World) (base g n c : Nat) (ys : List Int) : Prop := w.ownsRow base 5 1 (.slice (some ⟨g, 0, none⟩) n c) n (ys.map (Value.int .u8))
theorem RowB.new {w w' : World} {base g n c : Nat} {ys : List Int} (h : RowB w base g n c ys) (t : New w w') : RowB w' base g n c ys := own_new h t
theorem RowB.ge {w : World} {base g n c : Nat} {ys : List Int} (h : RowB w base g n c ys) : base ≤ g := (World.ownsRow.lt h g rfl).1
theorem RowB.lt {w : World} {base g n c : Nat} {ys : List Int} (h : RowB w base g n c ys) : g < w.heap.size := (World.ownsRow.lt h g rfl).2
theorem RowB.low {w : World} {base base' g n c : Nat} {ys : List Int} (h : RowB w base g n c ys) (hb : base' ≤ base) : RowB w base' g n c ys := Joins.ownsRow_le h hb

theorem src_old {w w1 w2 : World} {g : Nat} {y : Int} {t : TypeId} (hb : 0 ≤ y ∧ y ≤ 255) (N : New (w.alloc (.cells #[.int .u8 y] t)) w1) (hg : w1.grownBy w2 (some g)) (hne : ¬ w.heap.size = g) : BsAt w2 (some ⟨w.heap.size, 0, none⟩) [y] :=
  ((BsAt.of_block (heap_alloc_new w (.cells #[.int .u8 y] t)) [y] rfl (by simpa using hb)).new N).turn (Turn.of_grown (g := g) hg) (by rintro x hx; obtain rfl := Option.some.inj hx; exact hne)

set_option maxHeartbeats 3200000 in
theorem l3Px_any (a : Option Addr) (k c : Nat) (ps : List (Int × Int)) (w : World) (hp : PsAt w a ps) (hk : ps.length = k) (hk8 : k ≤ 100) (hok : ∀ p ∈ ps, pf p.1 p.2 = 0) :
    Calls Try.prog 69 #[.slice a k c] w fun e w' => ∃ g cap, e = .returned (.slice (some ⟨g, 0, none⟩) (k * 3) cap) ∧ RowB w' w.heap.size g (k * 3) cap (pxB ps) ∧ New w w' := by
  obtain ⟨i0, hi, hz0, hz1, hz2⟩ := info_parts Try.infoU8
  have HK : Hid (ps.length = k) := hk
  have HOK : Hid (∀ p ∈ ps, pf p.1 p.2 = 0) := hok
  clear hk hok
  have hlit : RowB (w.alloc (.cells #[] 5)) w.heap.size w.heap.size 0 0 [] := World.ownsRow_lit (base := w.heap.size) (size := 1) (e := 5) w #[] 0 (Nat.le_refl _) (Nat.zero_le _) rfl
  go_enter Try.func69, Try.ntmps69
  go_wp2
  go_loopw [3, 4] (fun s i wr => ∃ (j g cap : Nat), j ≤ k ∧ i = .int .i64 j ∧ s = .slice (some ⟨g, 0, none⟩) (j * 3) cap ∧ RowB wr w.heap.size g (j * 3) cap (pxB (ps.take j)) ∧ New w wr) (fun _ i _ => k - (intOf i).toNat)
  case atStart => exact ⟨0, w.heap.size, 0, Nat.zero_le _, rfl, rfl, hlit, (New.refl _).alloc _⟩
  case round =>
    obtain ⟨j, g, cap, hj, rfl, rfl, hrow, hnw⟩ := hrel
    by_cases hlt : j < k
    · obtain ⟨b, off, x, y, ha, hz, hc0, hc1⟩ := (hp.new hnw).at j (by rw [HK.out]; exact hlt)
      have ha' := ha
      subst ha'
      have HZ : Hid (ps[j]? = some (x, y)) := hz
      have hpf := HOK.out (x, y) (List.mem_of_getElem? hz)
      obtain ⟨hx0, hx1, hy0, hy1, -⟩ := pf_ok hpf
      have hxu : x < 65536 := by simp at hx1; omega
      simp at hx0 hx1 hy0 hy1
      have hwy : IntKind.u8.wrap y = y := by simp [IntKind.wrap, IntKind.signed, IntKind.bits]; omega
      have hT : Hid (pxB (ps.take (j + 1)) = pxB (ps.take j) ++ [x / 256, x % 256, y]) := by unfold Hid; rw [takeP_snoc hz]; exact pxB_snoc _ _ _
      have hsz := hnw.size
      have hgg := hrow.ge
      have hgl := hrow.lt
      have hyb : 0 ≤ y ∧ y ≤ 255 := by omega
      have h2b : ∀ z ∈ [x / 256, x % 256], 0 ≤ z ∧ z ≤ 255 := by simp; omega
      have e1 : ¬ wr.heap.size = g := by omega
      obtain ⟨dA0, dA1⟩ := (hp.new (hnw.alloc (.cells #[.int .u8 y] 5))).get HZ.out
      clear hz hpf
      go_wp2_with fail
      go_region_law (first
        | (refine step_ap2 _ rfl (.tmp 12) (.tmp 18) rfl w.heap.size Try.underlying22 hi hz0 hz1 hz2 g (j * 3) cap _ rfl (by first | exact hrow.new N1 | exact (hrow.new N1).new ((New.refl _).alloc _)) ⟨g1, 0, none⟩ 2 cap1 [x / 256, x % 256] rfl (by first | exact BsAt.of_own ho1 h2b | exact (BsAt.of_own ho1 h2b).new ((New.refl _).alloc _)) rfl (by omega) (by first | omega | (simp; omega)) _ rfl ?_; intro g2 cap2 w2 ho2 hgr2 hat2; have hgr2' := hgr2; have N2 : New w w2 := (by first | exact (hnw.trans N1).grow hgr2 (by intro k hk; obtain rfl := Option.some.inj hk; exact hgg) | exact ((hnw.trans N1).alloc _).grow hgr2 (by intro k hk; obtain rfl := Option.some.inj hk; exact hgg)); obtain ⟨d20, d21⟩ := (hp.new N2).get HZ.out; have s2 := N2.size)
        | (refine step_ap2 _ rfl (.tmp 19) (.tmp 26) rfl w.heap.size Try.underlying22 hi hz0 hz1 hz2 g2 (j * 3 + 2) cap2 _ rfl (by first | exact ho2 | exact ho2.alloc _) ⟨_, 0, none⟩ 1 1 [y] rfl (by first | exact BsAt.of_block (heap_alloc_new _ _) [y] rfl (by simpa using hyb) | exact src_old hyb (New.refl _) hgr2 (by omega) | exact src_old hyb (((New.refl _).drew).trans hn1) hgr2 e1) rfl (by omega) (by first | omega | (simp; omega)) _ rfl ?_; intro g3 cap3 w3 ho3 hgr3 hat3)
        | (go_simp; go_at_call 49; refine (twoBytes_any x _ hx0 hxu).mono ?_; rintro e w1 ⟨g1, cap1, rfl, hg1, ho1, hn1⟩; have N1 : New wr w1 := (by first | exact ((New.refl _).drew).trans hn1 | exact (((New.refl _).alloc _).drew).trans hn1); obtain ⟨d10, d11⟩ := (hp.new (hnw.trans N1)).get HZ.out; obtain ⟨d1a0, d1a1⟩ := (hp.new ((hnw.trans N1).alloc (.cells #[.int .u8 y] 5))).get HZ.out; have s1 := N1.size))
      all_goals
        have hge2 := (World.ownsRow.lt ho2 g2 rfl).1
        have N3 : New w w3 := (by first | exact N2.grow hgr3 (by intro k hk; obtain rfl := Option.some.inj hk; exact hge2) | exact (N2.alloc _).grow hgr3 (by intro k hk; obtain rfl := Option.some.inj hk; exact hge2))
        have hrow3 : RowB w3 w.heap.size g3 ((j + 1) * 3) cap3 (pxB (ps.take (j + 1))) := by
          rw [hT.out, show (j + 1) * 3 = j * 3 + 2 + 1 by omega]
          unfold RowB
          simpa using ho3
        have hlen : j * 3 + 2 + 1 = (j + 1) * 3 := by omega
        clear ho3 hgr3 hat3 ho2 hgr2 hgr2' hat2 N2 ho1 hn1 N1 d10 d11 d1a0 d1a1 d20 d21 dA0 dA1 hc0 hc1 hg1 hrow
        go_wp2
        go_roundw
        case rel => exact ⟨j + 1, g3, cap3, by omega, by go_num, by rw [← hlen], hrow3, N3⟩
        case measure => simp [intOf]; omega
    · obtain rfl : j = k := by omega
      go_wp2
      go_ret
      rw [List.take_of_length_le (by rw [HK.out]; omega)] at hrow
      exact ⟨g, cap, rfl, hrow, hnw⟩

end Go.Proofs.Ytljkcijakdhdiaa

namespace Go.Proofs.Ytljkcijakdhdiaa
open Go.RowKit Go.Sort
set_option linter.unusedVariables false
set_option maxRecDepth 100000

theorem BsAt.grown {w w' : World} {g p : Nat} {ys : List Int} (h : BsAt w (some ⟨p, 0, none⟩) ys) (hg : w.grownBy w' (some g)) (hne : ¬ p = g) : BsAt w' (some ⟨p, 0, none⟩) ys :=
  h.turn (Turn.of_grown (g := g) hg) (by rintro x hx; obtain rfl := Option.some.inj hx; exact hne)

set_option maxHeartbeats 6400000 in
theorem l3Pack_any (ga a ra : Option Addr) (gn gc n c rn rc : Nat) (has : Bool) (o nx md lc : Int) (gs rs : List (Int × Int)) (xs : List Int) (w : World) (hg : PsAt w ga gs) (hx : NsAt w a xs) (hr : PsAt w ra rs) (hgn : gs.length = gn) (hn : xs.length = n) (hrn : rs.length = rn) (hf : uf gs has o xs nx md lc rs = 0) :
    Calls Try.prog 50 #[.agg #[.slice ga gn gc, .bool has, .int .i64 o, .slice a n c, .int .i64 nx, .int .i64 md, .int .i64 lc, .slice ra rn rc]] w fun e w' => ∃ g cap m, e = .returned (.slice (some ⟨g, 0, none⟩) m cap) ∧ m ≤ 100 ∧ RowB w' w.heap.size g m cap (upB gs has o xs nx md lc rs) ∧ New w w' := by
  obtain ⟨i0, hi, hz0, hz1, hz2⟩ := info_parts Try.infoU8
  obtain ⟨h8, h8r, hlg, hlr, hyes, hno⟩ := uf_ok hf
  have hgok := (lf_ok hlg).2
  have hrok := (lf_ok hlr).2
  rw [hgn] at h8
  rw [hrn] at h8r
  have HG : Hid (gs.length = gn) := hgn
  have HX : Hid (xs.length = n) := hn
  have HR : Hid (rs.length = rn) := hrn
  have hwk : IntKind.u8.wrap (gn : Int) = (gn : Int) := by simp [IntKind.wrap, IntKind.signed, IntKind.bits]; omega
  have hgb : 0 ≤ (gn : Int) ∧ (gn : Int) ≤ 255 := by omega
  clear hgn hn hrn hf
  have hw := (New.refl w).alloc (.cells #[.slice ga gn gc, .bool has, .int .i64 o, .slice a n c, .int .i64 nx, .int .i64 md, .int .i64 lc, .slice ra rn rc] 49)
  have bU := Blk.mk w w.heap.size 49 #[.slice ga gn gc, .bool has, .int .i64 o, .slice a n c, .int .i64 nx, .int .i64 md, .int .i64 lc, .slice ra rn rc] rfl
  go_enter Try.func50, Try.ntmps50
  go_wp2_with fail
  generalize hW : w.alloc (.cells #[.slice ga gn gc, .bool has, .int .i64 o, .slice a n c, .int .i64 nx, .int .i64 md, .int .i64 lc, .slice ra rn rc] 49) = w0 at *
  clear hW
  have hlt0 := bU.lt
  have cU := bU.cells
  have hg0 := hg.new hw
  have cUa := (bU.alloc (.cells #[.int .u8 (gn : Int)] 5)).cells
  have hlitA : ∀ W : World, RowB (W.alloc (.cells #[.int .u8 (gn : Int)] 5)) W.heap.size W.heap.size 1 1 [(gn : Int)] := fun W => World.ownsRow_lit (base := W.heap.size) (size := 1) (e := 5) W #[.int .u8 (gn : Int)] 1 (Nat.le_refl _) (by decide) rfl
  go_region_law (first
    | (refine step_ap2 _ rfl (.tmp 9) (.tmp 12) rfl w0.heap.size Try.underlying22 hi hz0 hz1 hz2 _ 1 1 [(gn : Int)] rfl (by first | exact (hlitA w1).low s1 | exact ((hlitA w0).new ((New.refl _).drew)).new hn1) ⟨g1, 0, none⟩ (gn * 3) cap1 (pxB gs) rfl (by first | exact BsAt.of_own ho1 hpb | exact (BsAt.of_own ho1 hpb).new ((New.refl _).alloc _)) hpl (by omega) (by first | omega | (simp; omega)) _ rfl ?_; intro g2 cap2 w2 ho2 hgr2 hat2)
    | (go_simp; go_at_call 69; refine (l3Px_any ga gn gc gs _ (by first | exact hg0.new ((New.refl _).drew) | exact hg0.new (((New.refl _).alloc _).drew)) HG.out (by omega) hgok).mono ?_; rintro e w1 ⟨g1, cap1, rfl, ho1, hn1⟩; have N1 : New w0 w1 := (by first | exact ((New.refl _).drew).trans hn1 | exact (((New.refl _).alloc _).drew).trans hn1); have hpb := pxB_bd hgok; have hpl : (pxB gs).length = gn * 3 := (by rw [pxB_len, HG.out]); have s1 := N1.size; have cU1 := (bU.new N1).cells; have cU1a := ((bU.new N1).alloc (.cells #[.int .u8 (gn : Int)] 5)).cells))
  all_goals
    have N2 : New w0 w2 := (by first | exact (N1.alloc _).grow hgr2 (by intro k hk; obtain rfl := Option.some.inj hk; omega) | exact N1.grow hgr2 (by intro k hk; obtain rfl := Option.some.inj hk; omega))
    have R2 : RowB w2 w0.heap.size g2 (1 + gn * 3) cap2 ([(gn : Int)] ++ pxB gs) := by unfold RowB; simpa using ho2
    have b2 := bU.new N2
    have q2 := R2.ge
    have p2 := R2.lt
    have z2 := N2.size
    clear ho2 hgr2 hat2 ho1 hn1 N1 cU1 cU1a cU cUa hlitA
    have cU := b2.cells
    cases has with
    | false =>
      go_wp2
      go_ret
      refine ⟨g2, cap2, 1 + gn * 3, rfl, by omega, ?_, hw.trans N2⟩
      have e2 : ∀ o nx md lc : Int, upB gs false o xs nx md lc rs = [(gn : Int)] ++ pxB gs := by intro o nx md lc; simp [upB, HG.out]
      rw [e2]
      exact R2.low (by omega)
    | true =>
      obtain ⟨hrp, haf⟩ := hyes rfl
      obtain ⟨⟨⟨ho0, ho1⟩, ⟨hx0, hx1⟩, ⟨hm0, hm1⟩, ⟨hl0, hl1⟩⟩, hk6, hall⟩ := af_ok haf
      replace hk6 : n ≤ 6 := by have h1 := HX.out; omega
      have hwn : IntKind.u8.wrap (n : Int) = (n : Int) := by simp [IntKind.wrap, IntKind.signed, IntKind.bits]; omega
      have hwo : IntKind.u8.wrap o = o := by simp [IntKind.wrap, IntKind.signed, IntKind.bits]; omega
      have HA : Hid (∀ x ∈ xs, 1 ≤ x ∧ x ≤ 65535) := hall
      clear hyes hno haf hall
      have hal2 := (New.refl w2).alloc (.cells #[.int .u8 (n : Int)] 5)
      have hbs2 : BsAt (w2.alloc (.cells #[.int .u8 (n : Int)] 5)) (some ⟨w2.heap.size, 0, none⟩) [(n : Int)] := BsAt.of_block (heap_alloc_new _ _) _ rfl (by simp; omega)
      go_wp2_with (at_builtin; refine wpList_ap _ rfl (.tmp 18) (.tmp 24) rfl w0.heap.size Try.underlying22 hi hz0 hz1 hz2 (.slice (some ⟨g2, 0, none⟩) (1 + gn * 3) cap2) (1 + gn * 3) _ rfl (R2.new hal2) (some ⟨w2.heap.size, 0, none⟩) 1 1 _ rfl hbs2 rfl (by intro h; cases h) (by omega) (by omega) (by simp; omega) _ rfl ?_)
      intro g3 cap3 w3 ho3 hgr3 hat3
      have N3 : New w0 w3 := (N2.trans hal2).grow hgr3 (by intro k hk; simp [Value.ownBlock] at hk; omega)
      have R3 : RowB w3 w0.heap.size g3 (1 + gn * 3 + 1) cap3 ([(gn : Int)] ++ pxB gs ++ [(n : Int)]) := by unfold RowB; simpa using ho3
      clear ho3 hgr3 hat3 hbs2 hal2 R2 b2 q2 p2 z2 cU N2
      go_wp2_with fail
      go_loopw [3, 4] (fun s i wr => ∃ (j g cap : Nat), j ≤ n ∧ i = .int .i64 j ∧ s = .slice (some ⟨g, 0, none⟩) (1 + gn * 3 + 1 + j * 2) cap ∧ RowB wr w0.heap.size g (1 + gn * 3 + 1 + j * 2) cap ([(gn : Int)] ++ pxB gs ++ [(n : Int)] ++ nsB (xs.take j)) ∧ New w0 wr) (fun _ i _ => n - (intOf i).toNat)
      case atStart => exact ⟨0, g3, cap3, Nat.zero_le _, rfl, by simp, by simpa [nsB] using R3, N3⟩
      case round =>
        clear R3 N3
        obtain ⟨j, g, cap, hj, rfl, rfl, R4, N4⟩ := hrel
        have cU := (bU.new N4).cells
        have z4 := N4.size
        have q4 := R4.ge
        by_cases hlt : j < n
        · obtain ⟨b, off, x, ha, hz, hc0, -⟩ := (hx.new (hw.trans N4)).at j (by rw [HX.out]; exact hlt)
          have ha' := ha
          subst ha'
          obtain ⟨t0, t1⟩ := HA.out x (List.mem_of_getElem? hz)
          have t2 : 0 ≤ x := by omega
          have t3 : x < 65536 := by omega
          have hT : Hid (nsB (xs.take (j + 1)) = nsB (xs.take j) ++ [x / 256, x % 256]) := by unfold Hid; rw [take_snoc hz]; exact nsB_snoc _ _
          clear hz
          go_wp2_with fail
          refine (twoBytes_any x _ t2 t3).mono ?_
          rintro e w5 ⟨g5, cap5, rfl, hg5, ho5, hn5⟩
          have hb5 : BsAt w5 (some ⟨g5, 0, none⟩) [x / 256, x % 256] := BsAt.of_own ho5 (by simp; omega)
          have N5 := N4.trans hn5
          have z5 := N5.size
          go_wp2_with (at_builtin; refine wpList_ap _ rfl (.tmp 34) (.tmp 41) rfl w0.heap.size Try.underlying22 hi hz0 hz1 hz2 (.slice (some ⟨g, 0, none⟩) (1 + gn * 3 + 1 + j * 2) cap) (1 + gn * 3 + 1 + j * 2) _ rfl (R4.new hn5) (some ⟨g5, 0, none⟩) 2 cap5 _ rfl hb5 rfl (by intro h; cases h) (by omega) (by omega) (by omega) _ rfl ?_)
          intro g6 cap6 w6 ho6 hgr6 hat6
          have N6 : New w0 w6 := N5.grow hgr6 (by intro k hk; simp [Value.ownBlock] at hk; omega)
          have R6 : RowB w6 w0.heap.size g6 (1 + gn * 3 + 1 + (j + 1) * 2) cap6 ([(gn : Int)] ++ pxB gs ++ [(n : Int)] ++ nsB (xs.take (j + 1))) := by
            rw [hT.out, show 1 + gn * 3 + 1 + (j + 1) * 2 = 1 + gn * 3 + 1 + j * 2 + 2 by omega]
            unfold RowB
            simpa using ho6
          have hlen : 1 + gn * 3 + 1 + j * 2 + 2 = 1 + gn * 3 + 1 + (j + 1) * 2 := by omega
          clear ho6 hgr6 hat6 hb5 ho5 hn5 hg5 N5 z5 R4 N4 cU hc0
          go_wp2
          go_roundw
          case rel => exact ⟨j + 1, g6, cap6, by omega, by go_num, by rw [← hlen], R6, N6⟩
          case measure => simp [intOf]; omega
        · obtain rfl : j = n := by omega
          rw [List.take_of_length_le (by rw [HX.out]; omega)] at R4
          have hal4 := (New.refl wr).alloc (.cells #[.int .u8 o] 5)
          have hbs4 : BsAt (wr.alloc (.cells #[.int .u8 o] 5)) (some ⟨wr.heap.size, 0, none⟩) [o] := BsAt.of_block (heap_alloc_new _ _) _ rfl (by simp; omega)
          go_wp2_with (at_builtin; refine wpList_ap _ rfl (.tmp 43) (.tmp 48) rfl w0.heap.size Try.underlying22 hi hz0 hz1 hz2 (.slice (some ⟨g, 0, none⟩) (1 + gn * 3 + 1 + j * 2) cap) (1 + gn * 3 + 1 + j * 2) _ rfl (R4.new hal4) (some ⟨wr.heap.size, 0, none⟩) 1 1 _ rfl hbs4 rfl (by intro h; cases h) (by omega) (by omega) (by simp; omega) _ rfl ?_)
          intro g5 cap5 w5 ho5 hgr5 hat5
          have N5 : New w0 w5 := (N4.trans hal4).grow hgr5 (by intro k hk; simp [Value.ownBlock] at hk; omega)
          obtain ⟨L, hL⟩ : ∃ L, 1 + gn * 3 + 1 + j * 2 + 1 = L := ⟨_, rfl⟩
          obtain ⟨Y, hY⟩ : ∃ Y, [(gn : Int)] ++ pxB gs ++ [(j : Int)] ++ nsB xs ++ [o] = Y := ⟨_, rfl⟩
          have R5 : RowB w5 w0.heap.size g5 L cap5 Y := by rw [← hL, ← hY]; unfold RowB; simpa using ho5
          have HL : Hid (1 + gn * 3 + 1 + j * 2 + 1 = L) := hL
          have HY : Hid ([(gn : Int)] ++ pxB gs ++ [(j : Int)] ++ nsB xs ++ [o] = Y) := hY
          have hL50 : L ≤ 60 := by omega
          have b5 := bU.new N5
          clear ho5 hgr5 hat5 hbs4 hal4 R4 N4 cU z4 q4 hY
          rw [hL]
          clear hL
          have cU5 := b5.cells
          have q5 := R5.ge
          have p5 := R5.lt
          have z5 := N5.size
          go_wp2_with fail
          go_region_held3 (fun W => ∀ i, W.cell? ⟨w.heap.size, i, none⟩ = #[Value.slice ga gn gc, .bool true, .int .i64 o, .slice a j c, .int .i64 nx, .int .i64 md, .int .i64 lc, .slice ra rn rc][i]?) (first | exact cU5 | exact cc1 | exact cv1 | exact cc2 | exact cv2 | exact cc3 | exact cv3)
            (first
            | (refine step_ap2 _ rfl (.tmp 50) (.tmp 54) rfl w0.heap.size Try.underlying22 hi hz0 hz1 hz2 g5 L cap5 Y rfl (by first | exact X1 | exact X1.new un2 | exact (X1.new un2).new un3) ⟨p1, 0, none⟩ 2 k1 [nx / 256, nx % 256] rfl (by first | exact B1 | exact B1.new un2 | exact (B1.new un2).new un3) rfl (by omega) (by omega) _ rfl ?_; intro f1 l1 v1 S1' gr1 at1; have S1 : RowB v1 w0.heap.size f1 (L + 2) l1 (Y ++ [nx / 256, nx % 256]) := (by unfold RowB; simpa using S1'); have V1 : New w0 v1 := (by first | exact M1.grow gr1 (by intro k hk; obtain rfl := Option.some.inj hk; omega) | exact M2.grow gr1 (by intro k hk; obtain rfl := Option.some.inj hk; omega) | exact M3.grow gr1 (by intro k hk; obtain rfl := Option.some.inj hk; omega)); have cv1 := (bU.new V1).cells; have yv1 := V1.size; have zv1 := gr1.size; have ge1 := S1.ge; have lt1 := S1.lt)
            | (refine step_ap2 _ rfl (.tmp 55) (.tmp 59) rfl w0.heap.size Try.underlying22 hi hz0 hz1 hz2 f1 (L + 2) l1 _ rfl (by first | exact S1 | exact S1.new un2 | exact S1.new un3 | exact (S1.new un2).new un3) ⟨p2, 0, none⟩ 2 k2 [md / 256, md % 256] rfl (by first | exact B2 | exact B2.new un3 | exact B2.grown gr1 (by omega) | exact (B2.grown gr1 (by omega)).new un3 | exact (B2.new un3).grown gr1 (by omega)) rfl (by omega) (by omega) _ rfl ?_; intro f2 l2 v2 S2' gr2 at2; have S2 : RowB v2 w0.heap.size f2 (L + 2 + 2) l2 (Y ++ [nx / 256, nx % 256] ++ [md / 256, md % 256]) := (by unfold RowB; simpa using S2'); have V2 : New w0 v2 := (by first | exact V1.grow gr2 (by intro k hk; obtain rfl := Option.some.inj hk; omega) | exact M2.grow gr2 (by intro k hk; obtain rfl := Option.some.inj hk; omega) | exact M3.grow gr2 (by intro k hk; obtain rfl := Option.some.inj hk; omega)); have cv2 := (bU.new V2).cells; have yv2 := V2.size; have zv2 := gr2.size; have ge2 := S2.ge; have lt2 := S2.lt)
            | (refine step_ap2 _ rfl (.tmp 60) (.tmp 64) rfl w0.heap.size Try.underlying22 hi hz0 hz1 hz2 f2 (L + 2 + 2) l2 _ rfl (by first | exact S2 | exact S2.new un3) ⟨p3, 0, none⟩ 2 k3 [lc / 256, lc % 256] rfl (by first | exact B3 | exact B3.grown gr2 (by omega) | exact (B3.grown gr1 (by omega)).grown gr2 (by omega)) rfl (by omega) (by omega) _ rfl ?_; intro f3 l3 v3 S3' gr3 at3; have S3 : RowB v3 w0.heap.size f3 (L + 2 + 2 + 2) l3 (Y ++ [nx / 256, nx % 256] ++ [md / 256, md % 256] ++ [lc / 256, lc % 256]) := (by unfold RowB; simpa using S3'); have V3 : New w0 v3 := (by first | exact V2.grow gr3 (by intro k hk; obtain rfl := Option.some.inj hk; omega) | exact M3.grow gr3 (by intro k hk; obtain rfl := Option.some.inj hk; omega)); have cv3 := (bU.new V3).cells)
            | (go_at_call_of 49 nx; refine (twoBytes_any nx _ hx0 (by omega)).mono ?_; rintro e u1 ⟨p1, k1, rfl, hp1, op1, un1⟩; have D1 : New w5 u1 := ((New.refl _).drew).trans un1; have M1 := N5.trans D1; have B1 : BsAt u1 (some ⟨p1, 0, none⟩) [nx / 256, nx % 256] := BsAt.of_own op1 (by simp; omega); have X1 := R5.new D1; have cc1 := (bU.new M1).cells; have y1 := M1.size; have d1 := D1.size; have hp1' : w5.heap.size ≤ p1 := hp1; have pl1 := (op1.lt p1 rfl).2)
            | (go_at_call_of 49 md; refine (twoBytes_any md _ hm0 (by omega)).mono ?_; rintro e u2 ⟨p2, k2, rfl, hp2, op2, un2⟩; have M2 : New w0 u2 := (by first | exact M1.trans un2 | exact V1.trans un2); have B2 : BsAt u2 (some ⟨p2, 0, none⟩) [md / 256, md % 256] := BsAt.of_own op2 (by simp; omega); have cc2 := (bU.new M2).cells; have y2 := M2.size; have d2 := un2.size; have pl2 := (op2.lt p2 rfl).2)
            | (go_at_call_of 49 lc; refine (twoBytes_any lc _ hl0 (by omega)).mono ?_; rintro e u3 ⟨p3, k3, rfl, hp3, op3, un3⟩; have M3 : New w0 u3 := (by first | exact M2.trans un3 | exact V1.trans un3 | exact V2.trans un3); have B3 : BsAt u3 (some ⟨p3, 0, none⟩) [lc / 256, lc % 256] := BsAt.of_own op3 (by simp; omega); have cc3 := (bU.new M3).cells; have y3 := M3.size; have d3 := un3.size; have pl3 := (op3.lt p3 rfl).2))
          all_goals
            have c9 := cv3
            have z9 := V3.size
            have q9 := S3.ge
            clear S3' S2' S1' gr1 gr2 gr3 at1 at2 at3 un1 un2 un3 op1 op2 op3 B1 B2 B3 S1 S2 V1 V2 M1 M2 M3 D1 X1 cc1 cc2 cc3 cv1 cv2 cv3 cU5 R5 hp1 hp2 hp3
            go_wp2_with fail
            refine (l3Px_any ra rn rc rs _ (hr.new (hw.trans V3)) HR.out (by omega) hrok).mono ?_
            rintro e w8 ⟨g8, cap8, rfl, ho8, hn8⟩
            have N8 := V3.trans hn8
            have hb8 : BsAt w8 (some ⟨g8, 0, none⟩) (pxB rs) := BsAt.of_own ho8 (pxB_bd hrok)
            have hl8 : (pxB rs).length = rn * 3 := by rw [pxB_len, HR.out]
            have z8 := N8.size
            go_wp2_with (at_builtin; refine wpList_ap _ rfl (.tmp 66) (.tmp 69) rfl w0.heap.size Try.underlying22 hi hz0 hz1 hz2 (.slice (some ⟨f3, 0, none⟩) (L + 2 + 2 + 2) l3) (L + 2 + 2 + 2) _ rfl (S3.new hn8) (some ⟨g8, 0, none⟩) (rn * 3) cap8 _ rfl hb8 hl8 (by intro h; cases h) (by omega) (by omega) (by omega) _ rfl ?_)
            intro g9 cap9 w9 ho9 hgr9 hat9
            have N9 : New w0 w9 := N8.grow hgr9 (by intro k hk; simp [Value.ownBlock] at hk; omega)
            clear hgr9 hat9 hb8 ho8 hn8
            go_wp2
            go_ret
            refine ⟨g9, cap9, L + 2 + 2 + 2 + rn * 3, rfl, by omega, ?_, hw.trans N9⟩
            have e2 : upB gs true o xs nx md lc rs = (Y ++ [nx / 256, nx % 256] ++ [md / 256, md % 256] ++ [lc / 256, lc % 256]) ++ pxB rs := by
              rw [← HY.out]
              simp [upB, atB, HG.out, HX.out]
            rw [e2]
            have : RowB w9 w0.heap.size g9 (L + 2 + 2 + 2 + rn * 3) cap9 ((Y ++ [nx / 256, nx % 256] ++ [md / 256, md % 256] ++ [lc / 256, lc % 256]) ++ pxB rs) := by unfold RowB; simpa using ho9
            exact this.low (by omega)

end Go.Proofs.Ytljkcijakdhdiaa

namespace Go.Proofs.Ytljkcijakdhdiaa
open Go.RowKit Go.Sort
set_option linter.unusedVariables false
set_option linter.unusedSimpArgs false
set_option maxRecDepth 100000

theorem opB_bd {sa ho si : Int} (h : Opn sa ho si) : ∀ z ∈ opB sa ho si, 0 ≤ z ∧ z ≤ 255 := by
  obtain ⟨h1, h2, h3⟩ := h
  have h4 : 0 ≤ ho ∧ ho ≤ 200 := by rcases h2 with h | h <;> omega
  simp [opB]
  omega

set_option maxHeartbeats 1600000 in
theorem l4Pack4 (sa ho si wh su : Int) (ga a ra : Option Addr) (gn gc n c rn rc : Nat) (has : Bool) (o nx md lc : Int) (gs rs : List (Int × Int)) (xs : List Int) (w : World) : Calls Try.prog 28 #[.agg #[.int .i64 4, .int .i64 sa, .int .i64 ho, .int .i64 si, .int .i64 wh, .int .i64 su, .slice ga gn gc, .bool has, .int .i64 o, .slice a n c, .int .i64 nx, .int .i64 md, .int .i64 lc, .slice ra rn rc]] w fun e w' => ∃ g cap, e = .returned (.slice (some ⟨g, 0, none⟩) (0 + 5) cap) ∧ w.heap.size ≤ g ∧ w'.ownsRow 0 5 1 (.slice (some ⟨g, 0, none⟩) (0 + 5) cap) (0 + 5) ((packOf 4 ([])).map (Value.int .u8)) ∧ New w w' := by
  have hw : New w ((w.alloc (.cells #[.int .i64 4, .int .i64 sa, .int .i64 ho, .int .i64 si, .int .i64 wh, .int .i64 su, .slice ga gn gc, .bool has, .int .i64 o, .slice a n c, .int .i64 nx, .int .i64 md, .int .i64 lc, .slice ra rn rc] 51)).alloc (.cells #[] 5)) := ((New.refl w).alloc _).alloc _
  have bM : Blk ((w.alloc (.cells #[.int .i64 4, .int .i64 sa, .int .i64 ho, .int .i64 si, .int .i64 wh, .int .i64 su, .slice ga gn gc, .bool has, .int .i64 o, .slice a n c, .int .i64 nx, .int .i64 md, .int .i64 lc, .slice ra rn rc] 51)).alloc (.cells #[] 5)) w.heap.size 51 #[.int .i64 4, .int .i64 sa, .int .i64 ho, .int .i64 si, .int .i64 wh, .int .i64 su, .slice ga gn gc, .bool has, .int .i64 o, .slice a n c, .int .i64 nx, .int .i64 md, .int .i64 lc, .slice ra rn rc] := (Blk.mk _ _ _ _ rfl).alloc _
  go_enter Try.func28, Try.ntmps28
  go_wp2_with fail
  refine (specPack_any 4 (some ⟨w.heap.size + 1, 0, none⟩) 0 0 [] _ (BsAt.nil _ _) rfl (by omega) (by omega) (by omega) (by intro h; cases h)).mono ?_
  rintro e w1 ⟨g, cap, rfl, hg, ho1, hn1⟩
  simp at hg
  go_wp2
  go_ret
  exact ⟨g, cap, rfl, by omega, ho1, hw.trans hn1⟩

set_option maxHeartbeats 1600000 in
theorem l4Pack3 (sa ho si wh su : Int) (ga a ra : Option Addr) (gn gc n c rn rc : Nat) (has : Bool) (o nx md lc : Int) (gs rs : List (Int × Int)) (xs : List Int) (w : World) (h : Nty wh su) : Calls Try.prog 28 #[.agg #[.int .i64 3, .int .i64 sa, .int .i64 ho, .int .i64 si, .int .i64 wh, .int .i64 su, .slice ga gn gc, .bool has, .int .i64 o, .slice a n c, .int .i64 nx, .int .i64 md, .int .i64 lc, .slice ra rn rc]] w fun e w' => ∃ g cap, e = .returned (.slice (some ⟨g, 0, none⟩) (2 + 5) cap) ∧ w.heap.size ≤ g ∧ w'.ownsRow 0 5 1 (.slice (some ⟨g, 0, none⟩) (2 + 5) cap) (2 + 5) ((packOf 3 ([wh, su])).map (Value.int .u8)) ∧ New w w' := by
  obtain ⟨i0, hi, hz0, hz1, hz2⟩ := info_parts Try.infoU8
  obtain ⟨⟨hw0, hw1⟩, ⟨hs0, hs1⟩⟩ := h
  have hww : IntKind.u8.wrap wh = wh := by simp [IntKind.wrap, IntKind.signed, IntKind.bits]; omega
  have hws : IntKind.u8.wrap su = su := by simp [IntKind.wrap, IntKind.signed, IntKind.bits]; omega
  have hw : New w ((w.alloc (.cells #[.int .i64 3, .int .i64 sa, .int .i64 ho, .int .i64 si, .int .i64 wh, .int .i64 su, .slice ga gn gc, .bool has, .int .i64 o, .slice a n c, .int .i64 nx, .int .i64 md, .int .i64 lc, .slice ra rn rc] 51)).alloc (.cells #[] 5)) := ((New.refl w).alloc _).alloc _
  have bM : Blk ((w.alloc (.cells #[.int .i64 3, .int .i64 sa, .int .i64 ho, .int .i64 si, .int .i64 wh, .int .i64 su, .slice ga gn gc, .bool has, .int .i64 o, .slice a n c, .int .i64 nx, .int .i64 md, .int .i64 lc, .slice ra rn rc] 51)).alloc (.cells #[] 5)) w.heap.size 51 #[.int .i64 3, .int .i64 sa, .int .i64 ho, .int .i64 si, .int .i64 wh, .int .i64 su, .slice ga gn gc, .bool has, .int .i64 o, .slice a n c, .int .i64 nx, .int .i64 md, .int .i64 lc, .slice ra rn rc] := (Blk.mk _ _ _ _ rfl).alloc _
  have R0 : RowB ((w.alloc (.cells #[.int .i64 3, .int .i64 sa, .int .i64 ho, .int .i64 si, .int .i64 wh, .int .i64 su, .slice ga gn gc, .bool has, .int .i64 o, .slice a n c, .int .i64 nx, .int .i64 md, .int .i64 lc, .slice ra rn rc] 51)).alloc (.cells #[] 5)) w.heap.size (w.heap.size + 1) 0 0 [] := by
    have h := World.ownsRow_lit (base := w.heap.size) (size := 1) (e := 5) (w.alloc (.cells #[.int .i64 3, .int .i64 sa, .int .i64 ho, .int .i64 si, .int .i64 wh, .int .i64 su, .slice ga gn gc, .bool has, .int .i64 o, .slice a n c, .int .i64 nx, .int .i64 md, .int .i64 lc, .slice ra rn rc] 51)) #[] 0 (by simp) (Nat.zero_le _) rfl
    simpa [RowB] using h
  go_enter Try.func28, Try.ntmps28
  go_upto_region 6 with fail
  have lM := bM.lt
  generalize ((w.alloc (.cells #[.int .i64 3, .int .i64 sa, .int .i64 ho, .int .i64 si, .int .i64 wh, .int .i64 su, .slice ga gn gc, .bool has, .int .i64 o, .slice a n c, .int .i64 nx, .int .i64 md, .int .i64 lc, .slice ra rn rc] 51)).alloc (.cells #[] 5)) = w0 at *
  have cM := bM.cells
  have hal := (New.refl w0).alloc (.cells #[.int .u8 wh, .int .u8 su] 5)
  have hbs : BsAt (w0.alloc (.cells #[.int .u8 wh, .int .u8 su] 5)) (some ⟨w0.heap.size, 0, none⟩) [wh, su] := BsAt.of_block (heap_alloc_new _ _) _ rfl (by simp; omega)
  have sz0 := hw.size
  go_wp2_with (at_builtin; refine wpList_ap _ rfl (.tmp 25) (.tmp 32) rfl w.heap.size Try.underlying22 hi hz0 hz1 hz2 (.slice (some ⟨w.heap.size + 1, 0, none⟩) 0 0) 0 [] rfl (R0.new hal) (some ⟨w0.heap.size, 0, none⟩) 2 2 _ rfl hbs rfl (by intro h; cases h) (by omega) (by omega) (by simp; omega) _ rfl ?_)
  intro g1 cap1 w1 ho1 hgr1 hat1
  have N1 : New w w1 := (hw.trans hal).grow hgr1 (by intro k hk; simp [Value.ownBlock] at hk; omega)
  have R1 : RowB w1 w.heap.size g1 2 cap1 [wh, su] := by unfold RowB; simpa using ho1
  have M1 : New w0 w1 ∨ True := .inr trivial
  have bM1 : Blk w1 w.heap.size 51 #[.int .i64 3, .int .i64 sa, .int .i64 ho, .int .i64 si, .int .i64 wh, .int .i64 su, .slice ga gn gc, .bool has, .int .i64 o, .slice a n c, .int .i64 nx, .int .i64 md, .int .i64 lc, .slice ra rn rc] := by
    have hb0 := bM.new hal
    exact (hgr1.block w.heap.size hb0.lt (by simp [Value.ownBlock])).trans hb0
  have cM1 := bM1.cells
  have z1 := N1.size
  clear ho1 hgr1 hat1 hbs hal R0 cM M1
  go_wp2_with fail
  refine (specPack_any 3 (some ⟨g1, 0, none⟩) 2 cap1 [wh, su] _ (BsAt.of_own R1 (by simp; omega)) rfl (by omega) (by omega) (by omega) (by intro h; cases h)).mono ?_
  rintro e w2 ⟨g, cap, rfl, hg, ho2, hn2⟩
  go_wp2
  go_ret
  exact ⟨g, cap, rfl, by omega, ho2, N1.trans hn2⟩

set_option maxHeartbeats 1600000 in
theorem l4Pack2 (sa ho si wh su : Int) (ga a ra : Option Addr) (gn gc n c rn rc : Nat) (has : Bool) (o nx md lc : Int) (gs rs : List (Int × Int)) (xs : List Int) (w : World) (hg : PsAt w ga gs) (hx : NsAt w a xs) (hr : PsAt w ra rs) (hgn : gs.length = gn) (hn : xs.length = n) (hrn : rs.length = rn) (hf : uf gs has o xs nx md lc rs = 0) : Calls Try.prog 28 #[.agg #[.int .i64 2, .int .i64 sa, .int .i64 ho, .int .i64 si, .int .i64 wh, .int .i64 su, .slice ga gn gc, .bool has, .int .i64 o, .slice a n c, .int .i64 nx, .int .i64 md, .int .i64 lc, .slice ra rn rc]] w fun e w' => ∃ g cap l, l = (upB gs has o xs nx md lc rs).length ∧ l ≤ 100 ∧ e = .returned (.slice (some ⟨g, 0, none⟩) (l + 5) cap) ∧ w.heap.size ≤ g ∧ w'.ownsRow 0 5 1 (.slice (some ⟨g, 0, none⟩) (l + 5) cap) (l + 5) ((packOf 2 (upB gs has o xs nx md lc rs)).map (Value.int .u8)) ∧ New w w' := by
  have hw : New w ((w.alloc (.cells #[.int .i64 2, .int .i64 sa, .int .i64 ho, .int .i64 si, .int .i64 wh, .int .i64 su, .slice ga gn gc, .bool has, .int .i64 o, .slice a n c, .int .i64 nx, .int .i64 md, .int .i64 lc, .slice ra rn rc] 51)).alloc (.cells #[] 5)) := ((New.refl w).alloc _).alloc _
  have bM : Blk ((w.alloc (.cells #[.int .i64 2, .int .i64 sa, .int .i64 ho, .int .i64 si, .int .i64 wh, .int .i64 su, .slice ga gn gc, .bool has, .int .i64 o, .slice a n c, .int .i64 nx, .int .i64 md, .int .i64 lc, .slice ra rn rc] 51)).alloc (.cells #[] 5)) w.heap.size 51 #[.int .i64 2, .int .i64 sa, .int .i64 ho, .int .i64 si, .int .i64 wh, .int .i64 su, .slice ga gn gc, .bool has, .int .i64 o, .slice a n c, .int .i64 nx, .int .i64 md, .int .i64 lc, .slice ra rn rc] := (Blk.mk _ _ _ _ rfl).alloc _
  have hbd := upB_bd hf
  go_enter Try.func28, Try.ntmps28
  go_wp2_with fail
  refine (l3Pack_any ga a ra gn gc n c rn rc has o nx md lc gs rs xs _ (hg.new hw) (hx.new hw) (hr.new hw) hgn hn hrn hf).mono ?_
  rintro e w1 ⟨g1, cap1, l, rfl, hl, ho1, hn1⟩
  have N1 := hw.trans hn1
  have cM := (bM.new hn1).cells
  have hll : (upB gs has o xs nx md lc rs).length = l := by simpa using ho1.1
  have z1 := N1.size
  go_wp2_with fail
  refine (specPack_any 2 (some ⟨g1, 0, none⟩) l cap1 (upB gs has o xs nx md lc rs) _ (BsAt.of_own ho1 hbd) hll (by omega) (by omega) (by omega) (by intro h; cases h)).mono ?_
  rintro e w2 ⟨g, cap, rfl, hg2, ho2, hn2⟩
  go_wp2
  go_ret
  exact ⟨g, cap, l, hll.symm, hl, rfl, by omega, ho2, N1.trans hn2⟩

set_option maxHeartbeats 6400000 in
theorem l4Pack1 (sa ho si wh su : Int) (ga a ra : Option Addr) (gn gc n c rn rc : Nat) (has : Bool) (o nx md lc : Int) (gs rs : List (Int × Int)) (xs : List Int) (w : World) (h : Opn sa ho si) : Calls Try.prog 28 #[.agg #[.int .i64 1, .int .i64 sa, .int .i64 ho, .int .i64 si, .int .i64 wh, .int .i64 su, .slice ga gn gc, .bool has, .int .i64 o, .slice a n c, .int .i64 nx, .int .i64 md, .int .i64 lc, .slice ra rn rc]] w fun e w' => ∃ g cap, e = .returned (.slice (some ⟨g, 0, none⟩) (5 + 5) cap) ∧ w.heap.size ≤ g ∧ w'.ownsRow 0 5 1 (.slice (some ⟨g, 0, none⟩) (5 + 5) cap) (5 + 5) ((packOf 1 (opB sa ho si)).map (Value.int .u8)) ∧ New w w' := by
  obtain ⟨i0, hi, hz0, hz1, hz2⟩ := info_parts Try.infoU8
  have hbd := opB_bd h
  obtain ⟨⟨hs0, hs1⟩, h2, ⟨hi0, hi1⟩⟩ := h
  have hob : 0 ≤ ho ∧ ho ≤ 255 := by rcases h2 with h | h <;> omega
  clear h2
  have hwo : IntKind.u8.wrap ho = ho := by simp [IntKind.wrap, IntKind.signed, IntKind.bits]; omega
  have hw : New w ((w.alloc (.cells #[.int .i64 1, .int .i64 sa, .int .i64 ho, .int .i64 si, .int .i64 wh, .int .i64 su, .slice ga gn gc, .bool has, .int .i64 o, .slice a n c, .int .i64 nx, .int .i64 md, .int .i64 lc, .slice ra rn rc] 51)).alloc (.cells #[] 5)) := ((New.refl w).alloc _).alloc _
  have bM : Blk ((w.alloc (.cells #[.int .i64 1, .int .i64 sa, .int .i64 ho, .int .i64 si, .int .i64 wh, .int .i64 su, .slice ga gn gc, .bool has, .int .i64 o, .slice a n c, .int .i64 nx, .int .i64 md, .int .i64 lc, .slice ra rn rc] 51)).alloc (.cells #[] 5)) w.heap.size 51 #[.int .i64 1, .int .i64 sa, .int .i64 ho, .int .i64 si, .int .i64 wh, .int .i64 su, .slice ga gn gc, .bool has, .int .i64 o, .slice a n c, .int .i64 nx, .int .i64 md, .int .i64 lc, .slice ra rn rc] := (Blk.mk _ _ _ _ rfl).alloc _
  have R0 : RowB ((w.alloc (.cells #[.int .i64 1, .int .i64 sa, .int .i64 ho, .int .i64 si, .int .i64 wh, .int .i64 su, .slice ga gn gc, .bool has, .int .i64 o, .slice a n c, .int .i64 nx, .int .i64 md, .int .i64 lc, .slice ra rn rc] 51)).alloc (.cells #[] 5)) w.heap.size (w.heap.size + 1) 0 0 [] := by
    have h := World.ownsRow_lit (base := w.heap.size) (size := 1) (e := 5) (w.alloc (.cells #[.int .i64 1, .int .i64 sa, .int .i64 ho, .int .i64 si, .int .i64 wh, .int .i64 su, .slice ga gn gc, .bool has, .int .i64 o, .slice a n c, .int .i64 nx, .int .i64 md, .int .i64 lc, .slice ra rn rc] 51)) #[] 0 (by simp) (Nat.zero_le _) rfl
    simpa [RowB] using h
  go_enter Try.func28, Try.ntmps28
  go_upto_region 4 with fail
  have sz0 : w.heap.size + 2 ≤ ((w.alloc (.cells #[.int .i64 1, .int .i64 sa, .int .i64 ho, .int .i64 si, .int .i64 wh, .int .i64 su, .slice ga gn gc, .bool has, .int .i64 o, .slice a n c, .int .i64 nx, .int .i64 md, .int .i64 lc, .slice ra rn rc] 51)).alloc (.cells #[] 5)).heap.size := by simp
  generalize ((w.alloc (.cells #[.int .i64 1, .int .i64 sa, .int .i64 ho, .int .i64 si, .int .i64 wh, .int .i64 su, .slice ga gn gc, .bool has, .int .i64 o, .slice a n c, .int .i64 nx, .int .i64 md, .int .i64 lc, .slice ra rn rc] 51)).alloc (.cells #[] 5)) = w0 at *
  have cM := bM.cells
  have cMa := (bM.alloc (.cells #[.int .u8 ho] 5)).cells
  go_region_held3 (fun W => ∀ i, W.cell? ⟨w.heap.size, i, none⟩ = #[Value.int .i64 1, .int .i64 sa, .int .i64 ho, .int .i64 si, .int .i64 wh, .int .i64 su, .slice ga gn gc, .bool has, .int .i64 o, .slice a n c, .int .i64 nx, .int .i64 md, .int .i64 lc, .slice ra rn rc][i]?) (first | exact cM | exact cMa | exact cc1 | exact cc1a | exact cv1 | exact cv1a | exact cv2 | exact cc2 | exact cv3)
    (first
    | (refine step_ap2 _ rfl (.tmp 9) (.tmp 12) rfl w.heap.size Try.underlying22 hi hz0 hz1 hz2 (w.heap.size + 1) 0 0 [] rfl (by first | exact R0.new M1 | exact (R0.new M1).new ((New.refl _).alloc _)) ⟨p1, 0, none⟩ 2 k1 [sa / 256, sa % 256] rfl (by first | exact B1 | exact B1.new ((New.refl _).alloc _)) rfl (by omega) (by first | omega | (simp; omega)) _ rfl ?_; intro f1 l1 v1 S1' gr1 at1; have S1 : RowB v1 w.heap.size f1 2 l1 [sa / 256, sa % 256] := (by unfold RowB; simpa using S1'); have V1 : New w v1 := (by first | exact (hw.trans M1).grow gr1 (by intro k hk; obtain rfl := Option.some.inj hk; omega) | exact ((hw.trans M1).alloc _).grow gr1 (by intro k hk; obtain rfl := Option.some.inj hk; omega)); have bv1 : Blk v1 w.heap.size 51 #[.int .i64 1, .int .i64 sa, .int .i64 ho, .int .i64 si, .int .i64 wh, .int .i64 su, .slice ga gn gc, .bool has, .int .i64 o, .slice a n c, .int .i64 nx, .int .i64 md, .int .i64 lc, .slice ra rn rc] := (by first | exact (bM.new M1).grow gr1 (by simp) | exact ((bM.new M1).alloc _).grow gr1 (by simp)); have cv1 := bv1.cells; have cv1a := (bv1.alloc (.cells #[.int .u8 ho] 5)).cells; have y1 := V1.size; have ge1 := S1.ge; have lt1 := S1.lt; have zz1 := gr1.size)
    | (refine step_ap2 _ rfl (.tmp 13) (.tmp 17) rfl w.heap.size Try.underlying22 hi hz0 hz1 hz2 f1 2 l1 _ rfl (by first | exact S1 | exact S1.new ((New.refl _).alloc _)) ⟨_, 0, none⟩ 1 1 [ho] rfl (by first | exact BsAt.of_block (heap_alloc_new _ _) [ho] rfl (by simpa using hob) | exact src_old hob (New.refl _) gr1 (by omega) | exact src_old hob (((New.refl _).drew).trans un1) gr1 (by omega)) rfl (by omega) (by first | omega | (simp; omega)) _ rfl ?_; intro f2 l2 v2 S2' gr2 at2; have S2 : RowB v2 w.heap.size f2 3 l2 ([sa / 256, sa % 256] ++ [ho]) := (by unfold RowB; simpa using S2'); have V2 : New w v2 := (by first | exact V1.grow gr2 (by intro k hk; obtain rfl := Option.some.inj hk; omega) | exact (V1.alloc _).grow gr2 (by intro k hk; obtain rfl := Option.some.inj hk; omega)); have bv2 : Blk v2 w.heap.size 51 #[.int .i64 1, .int .i64 sa, .int .i64 ho, .int .i64 si, .int .i64 wh, .int .i64 su, .slice ga gn gc, .bool has, .int .i64 o, .slice a n c, .int .i64 nx, .int .i64 md, .int .i64 lc, .slice ra rn rc] := (by first | exact bv1.grow gr2 (by intro e; exact bv1.ne_own S1 (by decide) (Option.some.inj e).symm) | exact (bv1.alloc _).grow gr2 (by intro e; exact bv1.ne_own S1 (by decide) (Option.some.inj e).symm)); have cv2 := bv2.cells; have y2 := V2.size; have ge2 := S2.ge; have lt2 := S2.lt)
    | (refine step_ap2 _ rfl (.tmp 18) (.tmp 21) rfl w.heap.size Try.underlying22 hi hz0 hz1 hz2 f2 3 l2 _ rfl (S2.new un2) ⟨p2, 0, none⟩ 2 k2 [si / 256, si % 256] rfl B2 rfl (by omega) (by first | omega | (simp; omega)) _ rfl ?_; intro f3 l3 v3 S3' gr3 at3; have S3 : RowB v3 w.heap.size f3 5 l3 (opB sa ho si) := (by unfold RowB; simpa [opB] using S3'); have V3 : New w v3 := (V2.trans un2).grow gr3 (by intro k hk; obtain rfl := Option.some.inj hk; omega); have bv3 : Blk v3 w.heap.size 51 #[.int .i64 1, .int .i64 sa, .int .i64 ho, .int .i64 si, .int .i64 wh, .int .i64 su, .slice ga gn gc, .bool has, .int .i64 o, .slice a n c, .int .i64 nx, .int .i64 md, .int .i64 lc, .slice ra rn rc] := (bv2.new un2).grow gr3 (by intro e; exact bv2.ne_own S2 (by decide) (Option.some.inj e).symm); have cv3 := bv3.cells)
    | (go_at_call_of 49 sa; refine (twoBytes_any sa _ (by omega) (by omega)).mono ?_; rintro e u1 ⟨p1, k1, rfl, hp1, op1, un1⟩; have M1 : New w0 u1 := (by first | exact ((New.refl _).drew).trans un1 | exact (((New.refl _).alloc _).drew).trans un1); have B1 : BsAt u1 (some ⟨p1, 0, none⟩) [sa / 256, sa % 256] := BsAt.of_own op1 (by simp; omega); have cc1 := (bM.new M1).cells; have cc1a := ((bM.new M1).alloc (.cells #[.int .u8 ho] 5)).cells; have d1 := M1.size)
    | (go_at_call_of 49 si; refine (twoBytes_any si _ (by omega) (by omega)).mono ?_; rintro e u2 ⟨p2, k2, rfl, hp2, op2, un2⟩; have B2 : BsAt u2 (some ⟨p2, 0, none⟩) [si / 256, si % 256] := BsAt.of_own op2 (by simp; omega); have cc2 := (bv2.new un2).cells; have d2 := un2.size))
  all_goals
    have c9 := cv3
    have z9 := V3.size
    clear S1' S2' S3' gr1 gr2 gr3 at1 at2 at3 un1 un2 op1 op2 B1 B2 S1 S2 V1 V2 M1 cc1 cc1a cc2 cv1 cv1a cv2 cv3 cM cMa bv1 bv2 bv3 R0
    go_wp2_with fail
    refine (specPack_any 1 (some ⟨f3, 0, none⟩) 5 l3 (opB sa ho si) _ (BsAt.of_own S3 hbd) rfl (by omega) (by omega) (by omega) (by intro h; cases h)).mono ?_
    rintro e w2 ⟨g, cap, rfl, hg, ho2, hn2⟩
    go_wp2
    go_ret
    exact ⟨g, cap, rfl, by omega, ho2, V3.trans hn2⟩

end Go.Proofs.Ytljkcijakdhdiaa

namespace Go.Proofs.Ytljkcijakdhdiaa
open Go.RowKit Go.Sort
set_option linter.unusedVariables false

/-- A right message of its kind. -/
def MsOk (kd sa mh mi wh su : Int) (gs rs : List (Int × Int)) (xs : List Int) (has : Bool) (o nx md lc : Int) : Prop :=
  (kd = 1 ∧ Opn sa mh mi) ∨ (kd = 3 ∧ Nty wh su) ∨ kd = 4 ∨ (kd = 2 ∧ uf gs has o xs nx md lc rs = 0)

set_option maxHeartbeats 6400000 in
theorem l4Message_ok {B n c t : Nat} {a : Option Addr} {zs : List Int} {w : World} (h : Sc w B a n c zs t) (ht : t ≤ 9000) :
    Calls Try.prog 29 #[.pointer (some ⟨B, 0, none⟩)] w fun e w' => ∃ (kd sa mh mi wh su : Int) (gs rs : List (Int × Int)) (xs : List Int) (has : Bool) (o nx md lc : Int) (x y z : Value) (t' : Nat), e = .returned (.agg #[.int .i64 kd, .int .i64 sa, .int .i64 mh, .int .i64 mi, .int .i64 wh, .int .i64 su, x, .bool has, .int .i64 o, y, .int .i64 nx, .int .i64 md, .int .i64 lc, z]) ∧ MsOk kd sa mh mi wh su gs rs xs has o nx md lc ∧ gs.length ≤ 9 ∧ xs.length ≤ 7 ∧ rs.length ≤ 4 ∧ (∀ p ∈ gs, In6 p.1 ∧ In6 p.2) ∧ (∀ z ∈ xs, In6 z) ∧ (∀ p ∈ rs, In6 p.1 ∧ In6 p.2) ∧ OwQ w' w.heap.size x gs ∧ OwM w' w.heap.size y xs ∧ OwQ w' w.heap.size z rs ∧ t' ≤ t + 250 ∧ Sc w' B a n c zs t' ∧ Turn (fun k => k = B) w w' := by
  have hlt := h.blk.lt
  have hA := h.lt_of
  have N0 : New w (w.alloc (.cells #[.int .i64 0, .int .i64 0, .int .i64 0, .int .i64 0, .int .i64 0, .int .i64 0, .slice none 0 0, .bool false, .int .i64 0, .slice none 0 0, .int .i64 0, .int .i64 0, .int .i64 0, .slice none 0 0] 51)) := (New.refl w).alloc _
  have bR0 := Blk.mk w w.heap.size 51 #[.int .i64 0, .int .i64 0, .int .i64 0, .int .i64 0, .int .i64 0, .int .i64 0, .slice none 0 0, .bool false, .int .i64 0, .slice none 0 0, .int .i64 0, .int .i64 0, .int .i64 0, .slice none 0 0] rfl
  have hs0 := h.new N0
  have tT0 : Turn (fun k => k = B) w (w.alloc (.cells #[.int .i64 0, .int .i64 0, .int .i64 0, .int .i64 0, .int .i64 0, .int .i64 0, .slice none 0 0, .bool false, .int .i64 0, .slice none 0 0, .int .i64 0, .int .i64 0, .int .i64 0, .slice none 0 0] 51)) := N0.turn
  have hRB : ¬ w.heap.size = B := by omega
  have hSR : ∀ x, zs ≠ [] → a = some x → ¬ x.block = w.heap.size := fun x h1 h2 e => by have := hA x h1 h2; omega
  go_enter Try.func29, Try.ntmps29
  go_wp2_with fail
  refine (next_sc hs0 6 (by omega) (by omega)).mono ?_
  rintro e w1 ⟨y0, rfl, -, hs1, tn1⟩
  have bR1 := bR0.turn tn1 hRB
  have tT1 := Turn.both tT0 tn1
  clear bR0 tT0
  by_cases g0 : y0 = 0
  · subst g0
    go_wp2_with fail
    refine (next_sc hs1 5 (by omega) (by omega)).mono ?_
    rintro e w2 ⟨y1, rfl, ⟨py1, qy1, -⟩, hs2, tn2⟩
    have bR2 := bR1.turn tn2 hRB
    have tT2 := Turn.both tT1 tn2
    clear bR1 tT1
    have qy1 := qy1 (by omega)
    have hwy1 : IntKind.i64.wrap (1 + y1) = 1 + y1 := wrap_in (by omega)
    go_wp2_with fail
    refine (pick_sc (hs2.new ((New.refl _).alloc (.cells #[.int .i64 (9), .int .i64 (9), .int .i64 (0), .int .i64 (3), .int .i64 (200)] 2))) [9, 9, 0, 3, 200] (Blk.mk w2 w2.heap.size 2 #[.int .i64 (9), .int .i64 (9), .int .i64 (0), .int .i64 (3), .int .i64 (200)] rfl) 5 rfl (by omega) (by omega) (by omega)).mono ?_
    rintro e w3 ⟨q1, rfl, hq1, hs3, tn3⟩
    have hHl : Hl q1 := by simp at hq1; unfold Hl; omega
    clear hq1
    have bR3 := (bR2.alloc (.cells #[.int .i64 (9), .int .i64 (9), .int .i64 (0), .int .i64 (3), .int .i64 (200)] 2)).turn tn3 hRB
    have tT3 := Turn.both (Turn.andNew tT2 ((New.refl _).alloc (.cells #[.int .i64 (9), .int .i64 (9), .int .i64 (0), .int .i64 (3), .int .i64 (200)] 2))) tn3
    clear bR2 tT2
    go_wp2_with fail
    refine (next_sc hs3 9 (by omega) (by omega)).mono ?_
    rintro e w4 ⟨y2, rfl, ⟨py2, qy2, -⟩, hs4, tn4⟩
    have bR4 := bR3.turn tn4 hRB
    have tT4 := Turn.both tT3 tn4
    clear bR3 tT3
    have qy2 := qy2 (by omega)
    have hwy2 : IntKind.i64.wrap (1 + y2) = 1 + y2 := wrap_in (by omega)
    have cR := bR4.cells
    have fR := bR4.frees
    go_wp2
    refine bodyPost_ret (v := .agg #[.int .i64 1, .int .i64 (1 + y1), .int .i64 q1, .int .i64 (1 + y2), .int .i64 0, .int .i64 0, .slice none 0 0, .bool false, .int .i64 0, .slice none 0 0, .int .i64 0, .int .i64 0, .int .i64 0, .slice none 0 0]) (by simp [results, Try.results29, go_sem, cR]) rfl ?_
    refine (fun (hT : Turn (fun k => k = w.heap.size) w4 _) => ⟨1, 1 + y1, q1, 1 + y2, 0, 0, [], [], [], false, 0, 0, 0, 0, _, _, _, _, rfl, .inl ⟨rfl, ⟨by omega, by omega⟩, hHl, ⟨by omega, by omega⟩⟩, by simp, by simp, by simp, by simp, by simp, by simp, OwQ.nil _ _, OwM.nil _ _, OwQ.nil _ _, by omega, hs4.turn hT (fun e => hRB e.symm) hSR, Turn.trans tT4 hT (fun i hi e => by omega)⟩) ?_
    exact Turn.hereD (Turn.hereD (Turn.hereD (Turn.hereD (Turn.hereD (Turn.hereD (Turn.hereD (Turn.hereD (Turn.hereD (Turn.hereD (Turn.hereD (Turn.hereD (Turn.hereD (Turn.hereD (Turn.refl _ _) _) _) _) _) _) _) _) _) _) _) _) _) _) _
  have e0 : (y0 == 0) = false := by simpa using g0
  by_cases g1 : y0 = 1
  · subst g1
    go_wp2_with fail
    refine (next_sc hs1 6 (by omega) (by omega)).mono ?_
    rintro e w2 ⟨y1, rfl, ⟨py1, qy1, -⟩, hs2, tn2⟩
    have bR2 := bR1.turn tn2 hRB
    have tT2 := Turn.both tT1 tn2
    clear bR1 tT1
    have qy1 := qy1 (by omega)
    have hwy1 : IntKind.i64.wrap (1 + y1) = 1 + y1 := wrap_in (by omega)
    go_wp2_with fail
    refine (next_sc hs2 21 (by omega) (by omega)).mono ?_
    rintro e w3 ⟨y2, rfl, ⟨py2, qy2, -⟩, hs3, tn3⟩
    have qy2 := qy2 (by omega)
    have bR3 := bR2.turn tn3 hRB
    have tT3 := Turn.both tT2 tn3
    clear bR2 tT2
    have cR := bR3.cells
    have fR := bR3.frees
    go_wp2
    refine bodyPost_ret (v := .agg #[.int .i64 3, .int .i64 0, .int .i64 0, .int .i64 0, .int .i64 (1 + y1), .int .i64 y2, .slice none 0 0, .bool false, .int .i64 0, .slice none 0 0, .int .i64 0, .int .i64 0, .int .i64 0, .slice none 0 0]) (by simp [results, Try.results29, go_sem, cR]) rfl ?_
    refine (fun (hT : Turn (fun k => k = w.heap.size) w3 _) => ⟨3, 0, 0, 0, 1 + y1, y2, [], [], [], false, 0, 0, 0, 0, _, _, _, _, rfl, .inr (.inl ⟨rfl, ⟨by omega, by omega⟩, ⟨by omega, by omega⟩⟩), by simp, by simp, by simp, by simp, by simp, by simp, OwQ.nil _ _, OwM.nil _ _, OwQ.nil _ _, by omega, hs3.turn hT (fun e => hRB e.symm) hSR, Turn.trans tT3 hT (fun i hi e => by omega)⟩) ?_
    exact Turn.hereD (Turn.hereD (Turn.hereD (Turn.hereD (Turn.hereD (Turn.hereD (Turn.hereD (Turn.hereD (Turn.hereD (Turn.hereD (Turn.hereD (Turn.hereD (Turn.hereD (Turn.hereD (Turn.refl _ _) _) _) _) _) _) _) _) _) _) _) _) _) _) _
  have e1 : (y0 == 1) = false := by simpa using g1
  by_cases g2 : y0 = 2
  · subst g2
    have cR := bR1.cells
    have fR := bR1.frees
    go_wp2
    refine bodyPost_ret (v := .agg #[.int .i64 4, .int .i64 0, .int .i64 0, .int .i64 0, .int .i64 0, .int .i64 0, .slice none 0 0, .bool false, .int .i64 0, .slice none 0 0, .int .i64 0, .int .i64 0, .int .i64 0, .slice none 0 0]) (by simp [results, Try.results29, go_sem, cR]) rfl ?_
    refine (fun (hT : Turn (fun k => k = w.heap.size) w1 _) => ⟨4, 0, 0, 0, 0, 0, [], [], [], false, 0, 0, 0, 0, _, _, _, _, rfl, .inr (.inr (.inl rfl)), by simp, by simp, by simp, by simp, by simp, by simp, OwQ.nil _ _, OwM.nil _ _, OwQ.nil _ _, by omega, hs1.turn hT (fun e => hRB e.symm) hSR, Turn.trans tT1 hT (fun i hi e => by omega)⟩) ?_
    exact Turn.hereD (Turn.hereD (Turn.hereD (Turn.hereD (Turn.hereD (Turn.hereD (Turn.hereD (Turn.hereD (Turn.hereD (Turn.hereD (Turn.hereD (Turn.hereD (Turn.hereD (Turn.hereD (Turn.refl _ _) _) _) _) _) _) _) _) _) _) _) _) _) _) _
  have e2 : (y0 == 2) = false := by simpa using g2
  have tT1s := tT1.size
  have z1 : w.heap.size < w1.heap.size := bR1.lt
  go_wp2_with fail
  refine (l3DrawUpdate_sc hs1 (by omega)).mono ?_
  rintro e w2 ⟨gs, rs, xs, has, o, nx, md, lc, x, y, z, t2, rfl, huf, hg2, hx3, hr3, ht2, oQ, oM, oR, hs2, tn2, -, -, -⟩
  have bR2 := bR1.turn tn2 hRB
  have tT2 := Turn.both tT1 tn2
  clear bR1 tT1
  obtain ⟨xa, xc, rfl⟩ := oQ.slice
  obtain ⟨ya, yc, rfl⟩ := oM.slice
  obtain ⟨za, zc, rfl⟩ := oR.slice
  have s1 : w.heap.size + 1 ≤ w1.heap.size := by have := tT1s; omega
  obtain ⟨ig, ix, ir⟩ := uf_in huf
  have cR := bR2.cells
  have fR := bR2.frees
  go_wp2
  refine bodyPost_ret (v := .agg #[.int .i64 2, .int .i64 0, .int .i64 0, .int .i64 0, .int .i64 0, .int .i64 0, .slice xa gs.length xc, .bool has, .int .i64 o, .slice ya xs.length yc, .int .i64 nx, .int .i64 md, .int .i64 lc, .slice za rs.length zc]) (by simp [results, Try.results29, go_sem, cR]) rfl ?_
  refine (fun (hT : Turn (fun k => k = w.heap.size) w2 _) => ⟨2, 0, 0, 0, 0, 0, gs, rs, xs, has, o, nx, md, lc, _, _, _, _, rfl, .inr (.inr (.inr ⟨rfl, huf⟩)), by omega, by omega, by omega, ig, ix, ir, (oQ.turn hT (fun g hg e => by omega)).low (by omega), (oM.turn hT (fun g hg e => by omega)).low (by omega), (oR.turn hT (fun g hg e => by omega)).low (by omega), by omega, hs2.turn hT (fun e => hRB e.symm) hSR, Turn.trans tT2 hT (fun i hi e => by omega)⟩) ?_
  exact Turn.hereD (Turn.hereD (Turn.hereD (Turn.hereD (Turn.hereD (Turn.hereD (Turn.hereD (Turn.hereD (Turn.hereD (Turn.hereD (Turn.hereD (Turn.hereD (Turn.hereD (Turn.hereD (Turn.refl _ _) _) _) _) _) _) _) _) _) _) _) _) _) _) _

end Go.Proofs.Ytljkcijakdhdiaa

namespace Go.Proofs.Ytljkcijakdhdiaa
open Go.RowKit

/-- A frame that was drawn. -/
def FrAns (w : World) (B : Nat) (a : Option Addr) (n c : Nat) (zs : List Int) (t : Nat) (e : Ending) (w' : World) : Prop :=
  ∃ (k : Int) (g m cap t' : Nat) (ys : List Int), e = .returned (.agg #[.int .i64 k, .slice (some ⟨g, 0, none⟩) m cap]) ∧ 0 ≤ k ∧ k ≤ 5 ∧ m ≤ 121 ∧ w.heap.size ≤ g ∧ t' ≤ t + 400 ∧
    w'.ownsRow 0 5 1 (.slice (some ⟨g, 0, none⟩) m cap) m (ys.map (Value.int .u8)) ∧ (∀ y ∈ ys, 0 ≤ y ∧ y ≤ 255) ∧ Sc w' B a n c zs t' ∧ Turn (fun k => k = B) w w'

end Go.Proofs.Ytljkcijakdhdiaa

namespace Go.Proofs.Ytljkcijakdhdiaa
open Go.RowKit Go.Sort
set_option linter.unusedVariables false

/-- Bytes that were bent: of at most one more, the call's own. -/
def TurnAn2 (B : Nat) (a : Option Addr) (n c : Nat) (zs : List Int) (t m g lo : Nat) (e : Ending) (w' : World) : Prop :=
  ∃ (g' m' cap t' : Nat) (ys : List Int), e = .returned (.slice (some ⟨g', 0, none⟩) m' cap) ∧ m' ≤ m + 1 ∧ t' ≤ t + 10 ∧ w'.ownsRow 0 5 1 (.slice (some ⟨g', 0, none⟩) m' cap) m' (ys.map (Value.int .u8)) ∧ (∀ y ∈ ys, 0 ≤ y ∧ y ≤ 255) ∧ (g' = g ∨ lo ≤ g') ∧ Sc w' B a n c zs t'

theorem own_cap9 {w : World} {base g n cap : Nat} {xs : List Value} (h : w.ownsRow base 5 1 (.slice (some ⟨g, 0, none⟩) n cap) n xs) : n ≤ cap := by
  rcases h.2 with ⟨h', _⟩ | ⟨g', cap', cur, h', r⟩
  · simp at h'
  · simp only [Value.slice.injEq, Option.some.injEq, Addr.mk.injEq, and_true, true_and] at h'
    obtain ⟨rfl, rfl⟩ := h'
    exact r.2.2.1

theorem own_cut8 {w : World} {g n c : Nat} {ys : List Int} (h : w.ownsRow 0 5 1 (.slice (some ⟨g, 0, none⟩) n c) n (ys.map (Value.int .u8))) (i : Nat) (hi : i ≤ n) : w.ownsRow 0 5 1 (.slice (some ⟨g, 0, none⟩) i c) i ((ys.take i).map (Value.int .u8)) := by
  have hl : ys.length = n := by simpa using h.1
  refine ⟨by simp; omega, ?_⟩
  rcases h.2 with ⟨h', _⟩ | ⟨g', cap', cur, h', r1, r2, r3, r4, r5, r6⟩
  · simp at h'
  · simp only [Value.slice.injEq, Option.some.injEq, Addr.mk.injEq, and_true, true_and] at h'
    obtain ⟨rfl, rfl⟩ := h'
    refine .inr ⟨g, c, cur, rfl, r1, r2, by omega, r4, r5, ?_⟩
    rw [List.map_take, ← r6, List.take_take]
    congr 1
    omega

set_option maxHeartbeats 3200000 in
theorem turn2_sc {B n c t g m cap : Nat} {a : Option Addr} {zs ys : List Int} {w : World} (h : Sc w B a n c zs t) (ht : t ≤ 100000) (ha : ∀ x, zs ≠ [] → a = some x → x.block < g) (ho : w.ownsRow 0 5 1 (.slice (some ⟨g, 0, none⟩) m cap) m (ys.map (Value.int .u8))) (hys : ∀ y ∈ ys, 0 ≤ y ∧ y ≤ 255) (hm : m ≤ 2000) :
    Calls Try.prog 30 #[.pointer (some ⟨B, 0, none⟩), .slice (some ⟨g, 0, none⟩) m cap] w fun e w' => TurnAn2 B a n c zs t m g w.heap.size e w' ∧ Turn (fun k => k = B ∨ k = g) w w' := by
  obtain ⟨i0, hi, hz0, hz1, hz2⟩ := info_parts Try.infoU8
  have hl : ys.length = m := by simpa using ho.1
  have HL : Hid (ys.length = m) := hl
  have hmc : m ≤ cap := by
    rcases ho.2 with ⟨h', _⟩ | ⟨_, _, _, h', _, _, hle, _⟩
    · simp at h'
    · simp only [Value.slice.injEq, Option.some.injEq, Addr.mk.injEq, and_true, true_and] at h'
      omega
  have hgB : g ≠ B := fun e => h.blk.ne_own ho (by decide) e.symm
  have tw : ∀ {x y : World}, Turn (fun k => k = B) x y → Turn (fun k => k = B ∨ k = g) x y := fun p => p.mono (fun _ _ h => .inl h)
  have TW : Hid (∀ {x y : World}, Turn (fun k => k = B) x y → Turn (fun k => k = B ∨ k = g) x y) := tw
  clear hl tw
  by_cases h0 : m = 0
  · subst h0
    go_enter Try.func30, Try.ntmps30
    go_wp2
    go_ret
    exact ⟨⟨g, 0, cap, t, ys, rfl, by omega, by omega, ho, hys, .inl rfl, h⟩, Turn.refl _ _⟩
  have hm0 : ((m : Int) == 0) = false := by simp; omega
  go_enter Try.func30, Try.ntmps30
  go_wp2_with fail
  refine (chance_sc h 3 (by omega) (by omega)).mono ?_
  rintro e w1 ⟨r1, rfl, hs1, ht1⟩
  have ho1 := own_turn ho ht1 hgB
  cases r1 with
  | false =>
    go_wp2
    go_ret
    exact ⟨⟨g, m, cap, _, ys, rfl, by omega, by omega, ho1, hys, .inl rfl, hs1⟩, TW.out ht1⟩
  | true =>
    go_wp2_with fail
    refine (next_sc hs1 (m : Int) (by omega) (by omega)).mono ?_
    rintro e w2 ⟨r2, rfl, hd2, hs2, ht2⟩
    obtain ⟨hr0, hr1, -⟩ := hd2
    have hr1 := hr1 (by omega)
    obtain ⟨i, rfl⟩ := Int.eq_ofNat_of_zero_le hr0
    have ho2 := own_turn ho1 ht2 hgB
    have t12 := Turn.trans ht1 ht2 (fun _ _ h => h)
    clear ht1 ht2 hs1 ho1
    go_wp2_with fail
    refine (next_sc hs2 3 (by omega) (by omega)).mono ?_
    rintro e w3 ⟨r3, rfl, hd3, hs3, ht3⟩
    have ho3 := own_turn ho2 ht3 hgB
    have t13 := Turn.trans t12 ht3 (fun _ _ h => h)
    clear t12 ht3 hs2 ho2
    by_cases e0 : r3 = 0
    · subst e0
      have n0 : ((0 : Int) == 0) = true := rfl
      go_wp2_with fail
      refine (next_sc hs3 256 (by omega) (by omega)).mono ?_
      rintro e w4 ⟨x, rfl, hdx, hs4, ht4⟩
      obtain ⟨p1, p2, -⟩ := hdx
      have p2 := p2 (by omega)
      have ho4 := own_turn ho3 ht4 hgB
      have t14 := Turn.trans t13 ht4 (fun _ _ h => h)
      have hfz := ho4.frozenAt i
      have hst := ho4.stored i (.int .u8 x)
      rw [← List.map_set] at hst
      have hcw : ∃ v, w4.cell? ⟨g, i, none⟩ = some v := by
        rw [ho4.cellAt i (by omega)]
        exact ⟨_, List.getElem?_eq_getElem (by have := ho4.1; omega)⟩
      obtain ⟨v, hv⟩ := hcw
      have tg : Turn (fun k => k = g) w4 (w4.setCell ⟨g, i, none⟩ (.int .u8 x)) := Turn.of_grown hst.2
      have hs5 := hs4.turn tg (fun e => hgB e.symm) (fun y hz' hy e => by have := ha y hz' hy; omega)
      have hys5 : ∀ y ∈ ys.set i x, 0 ≤ y ∧ y ≤ 255 := by intro y hy; rcases List.mem_or_eq_of_mem_set hy with h' | h'; exact hys y h'; subst h'; omega
      have hr5 := hst.1
      have t15 : Turn (fun k => k = B ∨ k = g) w (w4.setCell ⟨g, i, none⟩ (.int .u8 x)) := Turn.trans (TW.out t14) tg (fun i _ e => .inr e)
      clear hst ht4 hs3 t13 ho3 ho4
      go_wp2
      go_ret
      exact ⟨⟨g, m, cap, _, ys.set i x, rfl, by omega, by omega, hr5, hys5, .inl rfl, hs5⟩, t15⟩
    · by_cases e1 : r3 = 1
      · subst e1
        have n0 : ((1 : Int) == 0) = false := rfl
        have n1 : ((1 : Int) == 1) = true := rfl
        have hic : i ≤ cap := by omega
        go_wp2
        go_ret
        exact ⟨⟨g, i, cap, _, ys.take i, rfl, by omega, by omega, own_cut8 ho3 i (by omega), (fun y hy => hys y (List.mem_of_mem_take hy)), .inl rfl, hs3⟩, TW.out t13⟩
      · obtain rfl : r3 = 2 := by obtain ⟨p1, p2, -⟩ := hd3; have p2 := p2 (by omega); omega
        have n0 : ((2 : Int) == 0) = false := rfl
        have n1 : ((2 : Int) == 1) = false := rfl
        have n2 : ((2 : Int) == 2) = true := rfl
        have hbl := Blk.mk w3 w3.heap.size 2 #[.int .i64 0, .int .i64 255] rfl
        have hal := (New.refl w3).alloc (.cells #[.int .i64 0, .int .i64 255] 2)
        go_wp2_with fail
        refine (pick_sc (hs3.new hal) [0, 255] hbl 2 rfl (by omega) (by omega) (by omega)).mono ?_
        rintro e w4 ⟨x, rfl, hx, hs4, ht4⟩
        have hxb : 0 ≤ x ∧ x ≤ 255 := by
          simp only [List.mem_cons, List.not_mem_nil, or_false] at hx
          rcases hx with rfl | rfl <;> omega
        have ho4 := own_turn (own_new ho3 hal) ht4 hgB
        have t14 := Turn.trans (Turn.trans t13 hal.turn (fun _ _ h => h)) ht4 (fun _ _ h => h)
        have hbs4 : BsAt (w4.alloc (.cells #[.int .u8 x] 5)) (some ⟨w4.heap.size, 0, none⟩) [x] := BsAt.of_block (heap_alloc_new _ _) _ rfl (by simp; omega)
        have hA4 := (New.refl w4).alloc (.cells #[.int .u8 x] 5)
        clear hbl hal ht4 hs3 t13 ho3 hx e0 e1
        go_wp2_with (at_builtin; refine wpList_ap _ rfl (.tmp 36) (.tmp 41) rfl 0 Try.underlying22 hi hz0 hz1 hz2 (.slice (some ⟨g, 0, none⟩) m cap) m ys rfl (ho4.alloc _) (some ⟨w4.heap.size, 0, none⟩) 1 1 [x] rfl hbs4 rfl (by intro h; cases h) (by omega) (by omega) (Nat.zero_le _) (w4.heap.size + 1) (by simp) ?_)
        intro g5 cap5 w5 ho5 hgr5 hat5
        have tg : Turn (fun k => k = g) (w4.alloc (.cells #[.int .u8 x] 5)) w5 := Turn.of_grown hgr5
        have hs5 := (hs4.new hA4).turn tg (fun e => hgB e.symm) (fun y hz' hy e => by have := ha y hz' hy; omega)
        have hys5 : ∀ y ∈ ys ++ [x], 0 ≤ y ∧ y ≤ 255 := by intro y hy; rcases List.mem_append.1 hy with h' | h'; exact hys y h'; simp at h'; subst h'; exact hxb
        have hr5 : w5.ownsRow 0 5 1 (.slice (some ⟨g5, 0, none⟩) (m + 1) cap5) (m + 1) ((ys ++ [x]).map (Value.int .u8)) := by simpa using ho5
        have sz4 : w.heap.size ≤ w4.heap.size := t14.size
        have hg5 : g5 = g ∨ w.heap.size ≤ g5 := by
          rcases hat5 with h' | h'
          · left; simp [Value.ownBlock] at h'; omega
          · right; omega
        have t15 : Turn (fun k => k = B ∨ k = g) w w5 := Turn.trans (Turn.trans (TW.out t14) hA4.turn (fun _ _ h => h)) tg (fun i _ e => .inr e)
        clear ho5 hgr5 hat5 ho4 hbs4
        go_wp2
        go_ret
        exact ⟨⟨g5, m + 1, cap5, _, ys ++ [x], rfl, by omega, by omega, hr5, hys5, hg5, hs5⟩, t15⟩

end Go.Proofs.Ytljkcijakdhdiaa

namespace Go.Proofs.Ytljkcijakdhdiaa
open Go.RowKit Go.Sort
set_option linter.unusedVariables false

/-- Bytes of the call's own: at least five, at most 105. -/
def PkAns (w : World) (e : Ending) (w' : World) : Prop :=
  ∃ (g cap m : Nat) (ys : List Int), e = .returned (.slice (some ⟨g, 0, none⟩) m cap) ∧ 5 ≤ m ∧ m ≤ 105 ∧ ys.length = m ∧ w.heap.size ≤ g ∧ w'.ownsRow 0 5 1 (.slice (some ⟨g, 0, none⟩) m cap) m (ys.map (Value.int .u8)) ∧ (∀ y ∈ ys, 0 ≤ y ∧ y ≤ 255) ∧ New w w'

theorem l4Pack_ok (kd sa mh mi wh su : Int) (gs rs : List (Int × Int)) (xs : List Int) (has : Bool) (o nx md lc : Int) (x y z : Value) (lo : Nat) (w : World) (h : MsOk kd sa mh mi wh su gs rs xs has o nx md lc) (hx : OwQ w lo x gs) (hy : OwM w lo y xs) (hz : OwQ w lo z rs) :
    Calls Try.prog 28 #[.agg #[.int .i64 kd, .int .i64 sa, .int .i64 mh, .int .i64 mi, .int .i64 wh, .int .i64 su, x, .bool has, .int .i64 o, y, .int .i64 nx, .int .i64 md, .int .i64 lc, z]] w fun e w' => PkAns w e w' := by
  rcases h with ⟨rfl, h⟩ | ⟨rfl, h⟩ | rfl | ⟨rfl, h⟩
  · obtain ⟨xa, xc, rfl⟩ := hx.slice
    obtain ⟨ya, yc, rfl⟩ := hy.slice
    obtain ⟨za, zc, rfl⟩ := hz.slice
    refine (l4Pack1 sa mh mi wh su xa ya za gs.length xc xs.length yc rs.length zc has o nx md lc gs rs xs w h).mono ?_
    rintro e w' ⟨g, cap, rfl, hg, ho, hn⟩
    have hl : (packOf 1 (opB sa mh mi)).length = 5 + 5 := by simpa using ho.1
    exact ⟨g, cap, 5 + 5, _, rfl, by omega, by omega, hl, hg, ho, packOf_bd _ _ (opB_bd h) (by rw [packOf_length] at hl; omega) (by omega), hn⟩
  · obtain ⟨xa, xc, rfl⟩ := hx.slice
    obtain ⟨ya, yc, rfl⟩ := hy.slice
    obtain ⟨za, zc, rfl⟩ := hz.slice
    refine (l4Pack3 sa mh mi wh su xa ya za gs.length xc xs.length yc rs.length zc has o nx md lc gs rs xs w h).mono ?_
    rintro e w' ⟨g, cap, rfl, hg, ho, hn⟩
    obtain ⟨⟨h1, h2⟩, h3, h4⟩ := h
    refine ⟨g, cap, 2 + 5, _, rfl, by omega, by omega, rfl, hg, ho, packOf_bd _ _ ?_ (by simp) (by omega), hn⟩
    intro v hv
    simp only [List.mem_cons, List.not_mem_nil, or_false] at hv
    rcases hv with rfl | rfl <;> omega
  · obtain ⟨xa, xc, rfl⟩ := hx.slice
    obtain ⟨ya, yc, rfl⟩ := hy.slice
    obtain ⟨za, zc, rfl⟩ := hz.slice
    refine (l4Pack4 sa mh mi wh su xa ya za gs.length xc xs.length yc rs.length zc has o nx md lc gs rs xs w).mono ?_
    rintro e w' ⟨g, cap, rfl, hg, ho, hn⟩
    exact ⟨g, cap, 0 + 5, _, rfl, by omega, by omega, rfl, hg, ho, packOf_bd _ _ (by simp) (by simp) (by omega), hn⟩
  · obtain ⟨ig, ix, ir⟩ := uf_in h
    obtain ⟨xa, xc, rfl, px, -⟩ := hx.ps ig
    obtain ⟨ya, yc, rfl, py, -⟩ := hy.ns ix
    obtain ⟨za, zc, rfl, pz, -⟩ := hz.ps ir
    refine (l4Pack2 sa mh mi wh su xa ya za gs.length xc xs.length yc rs.length zc has o nx md lc gs rs xs w px py pz rfl rfl rfl h).mono ?_
    rintro e w' ⟨g, cap, l, hl, hl1, rfl, hg, ho, hn⟩
    have hl2 : (packOf 2 (upB gs has o xs nx md lc rs)).length = l + 5 := by rw [packOf_length, hl]
    exact ⟨g, cap, l + 5, _, rfl, by omega, by omega, hl2, hg, ho, packOf_bd _ _ (upB_bd h) (by omega) (by omega), hn⟩

/-- Bytes that were drawn. -/
def StAns (w : World) (B : Nat) (a : Option Addr) (n c : Nat) (zs : List Int) (t M : Nat) (e : Ending) (w' : World) : Prop :=
  ∃ (g m cap t' : Nat) (ys : List Int), e = .returned (.slice (some ⟨g, 0, none⟩) m cap) ∧ m ≤ M ∧ m ≤ cap ∧ ys.length = m ∧ t' ≤ t + 780 ∧ w.heap.size ≤ g ∧ BsAt w' (some ⟨g, 0, none⟩) ys ∧ Sc w' B a n c zs t' ∧ Turn (fun k => k = B) w w'

set_option maxHeartbeats 6400000 in
theorem l4Stream_sc {B n c t : Nat} {a : Option Addr} {zs : List Int} {w : World} (h : Sc w B a n c zs t) (ht : t ≤ 8000) :
    Calls Try.prog 18 #[.pointer (some ⟨B, 0, none⟩)] w fun e w' => StAns w B a n c zs t 400 e w' := by
  obtain ⟨i0, hi, hz0, hz1, hz2⟩ := info_parts Try.infoU8
  have hlt := h.blk.lt
  have ha := h.lt_of
  have hA1 := (New.refl w).alloc (.cells #[] 5)
  have ho1 := New.lit (w := w) 0 [] w.heap.size rfl rfl (by omega) #[] rfl
  go_enter Try.func18, Try.ntmps18
  go_wp2_with fail
  refine (next_sc (h.new hA1) 4 (by omega) (by omega)).mono ?_
  rintro e w2 ⟨r2, rfl, hd2, hs2, ht2⟩
  obtain ⟨q1, q2, -⟩ := hd2
  have q2 := q2 (by omega)
  obtain ⟨k0, rfl⟩ := Int.eq_ofNat_of_zero_le q1
  have ho2 := own_turn ho1 ht2 (by omega)
  have tw2 : Turn (fun k => k = B) w w2 := Turn.trans hA1.turn ht2 (fun _ _ e => e)
  clear ho1 ht2
  go_wp2_with fail
  go_loopw [3, 4] (fun s4 s5 wr => ∃ (k g m cap t' : Nat) (ys : List Int), k ≤ 3 ∧ s5 = .int .i64 k ∧ s4 = .slice (some ⟨g, 0, none⟩) m cap ∧ w.heap.size ≤ g ∧ m + 105 * k ≤ 315 ∧ t' + 252 * k ≤ t + 760 ∧ wr.ownsRow 0 5 1 (.slice (some ⟨g, 0, none⟩) m cap) m (ys.map (Value.int .u8)) ∧ (∀ y ∈ ys, 0 ≤ y ∧ y ≤ 255) ∧ Sc wr B a n c zs t' ∧ Turn (fun k => k = B) w wr) (fun _ s5 _ => (intOf s5).toNat)
  case atStart => exact ⟨k0, w.heap.size, 0, 0, _, [], by omega, rfl, rfl, by omega, by omega, by omega, ho2, by simp, hs2, tw2⟩
  case round =>
    obtain ⟨k, g, m, cap, t', ys, hk, rfl, rfl, hg, hmk, htk, ho, hys, hsc, hnw⟩ := hrel
    have zr := hnw.size
    have hgB : g ≠ B := fun e => hsc.blk.ne_own ho (by decide) e.symm
    by_cases hlt' : 0 < k
    · go_wp2_with fail
      refine (l4Message_ok hsc (by omega)).mono ?_
      rintro e w3 ⟨kd, sa, mh, mi, wh, su, gs, rs, xs, has, o, nx, md, lc, x, y, z, t3, rfl, hok, -, -, -, -, -, -, oQ, oM, oR, ht3, hs3, tn3⟩
      have hog := own_turn ho tn3 hgB
      have tw3 : Turn (fun k => k = B) w w3 := Turn.trans hnw tn3 (fun _ _ e => e)
      clear ho hsc tn3
      go_wp2_with fail
      refine (l4Pack_ok kd sa mh mi wh su gs rs xs has o nx md lc x y z _ _ hok oQ oM oR).mono ?_
      rintro e w5 ⟨g5, cap5, m5, ys5, rfl, j5, j105, hl5, hg5, ho5, hys5, hn5⟩
      have hog5 := own_new hog hn5
      have hs5 := hs3.new hn5
      have tw5 := Turn.trans tw3 hn5 (fun _ _ e => e.elim)
      have hb5 := BsAt.of_own ho5 hys5
      have HL5 : Hid (ys5.length = m5) := hl5
      clear hog hs3 ho5 oQ oM oR hl5 hok
      go_wp2_with (at_builtin; refine wpList_ap _ rfl (.tmp 12) (.tmp 15) rfl 0 Try.underlying22 hi hz0 hz1 hz2 (.slice (some ⟨g, 0, none⟩) m cap) m ys rfl hog5 (some ⟨g5, 0, none⟩) m5 cap5 ys5 rfl hb5 HL5.out (by intro h; cases h) (by omega) (by omega) (Nat.zero_le _) w5.heap.size rfl ?_)
      intro g6 cap6 w6 ho6 hgr6 hat6
      have tg : Turn (fun k => k = g) w5 w6 := Turn.of_grown hgr6
      have hs6 := hs5.turn tg (fun e => hgB e.symm) (fun y hz' hy e => by have := ha y hz' hy; omega)
      have tw6 : Turn (fun k => k = B) w w6 := Turn.trans tw5 tg (fun i hi e => by omega)
      have hg6 : w.heap.size ≤ g6 := by
        rcases hat6 with h' | h'
        · simp [Value.ownBlock] at h'; omega
        · have := tw5.size; omega
      have hys6 : ∀ y ∈ ys ++ ys5, 0 ≤ y ∧ y ≤ 255 := by intro y hy; rcases List.mem_append.1 hy with h' | h'; exact hys y h'; exact hys5 y h'
      have ho6' : w6.ownsRow 0 5 1 (.slice (some ⟨g6, 0, none⟩) (m + m5) cap6) (m + m5) ((ys ++ ys5).map (Value.int .u8)) := by simpa using ho6
      clear hgr6 hat6 hog5 hb5 ho6 tg
      go_wp2
      go_roundw
      case rel => exact ⟨k - 1, g6, m + m5, cap6, _, ys ++ ys5, by omega, by go_num, rfl, hg6, by omega, by omega, ho6', hys6, hs6, tw6⟩
      case measure => simp [intOf]; omega
    · obtain rfl : k = 0 := by omega
      go_wp2_with fail
      refine (turn2_sc hsc (by omega) (fun x hz' hx => by have := ha x hz' hx; omega) ho hys (by omega)).mono ?_
      rintro e w4 ⟨⟨g4, m4, cap4, t4, ys4, rfl, hm4, ht4', ho4, hy4, hg4, hs4⟩, ht4⟩
      have hb4 := BsAt.of_own ho4 hy4
      have hc4 := own_cap9 ho4
      have hl4 : ys4.length = m4 := by simpa using ho4.1
      have HL4 : Hid (ys4.length = m4) := hl4
      have hg4' : w.heap.size ≤ g4 := by omega
      clear ho4 hl4 hg4
      have tw4 : Turn (fun k => k = B) w w4 := Turn.trans hnw ht4 (fun i hi e => by omega)
      go_wp2
      go_ret
      exact ⟨g4, m4, cap4, t4, ys4, rfl, by omega, hc4, HL4.out, by omega, hg4', hb4, hs4, tw4⟩

end Go.Proofs.Ytljkcijakdhdiaa

namespace Go.Proofs.Ytljkcijakdhdiaa
open Go.RowKit

theorem lbig_no (a : Option Addr) (n c : Nat) (w : World) (h : ¬ 1048576 < n) : Calls Try.prog 5 #[.slice a n c] w fun e w' => e = .returned (.bool false) ∧ w' = w := by
  have hd : decide ((1048576 : Int) < (n : Int)) = false := by simp; omega
  go_enter Try.func5, Try.ntmps5
  go_wp2
  go_ret
  exact ⟨rfl, rfl⟩

theorem lbig_yes (a : Option Addr) (n c : Nat) (w : World) (h : 1048576 < n) : Calls Try.prog 5 #[.slice a n c] w fun e w' => e = .returned (.bool true) ∧ w' = w := by
  have hd : decide ((1048576 : Int) < (n : Int)) = true := by simp; omega
  go_enter Try.func5, Try.ntmps5
  go_wp2
  go_ret
  exact ⟨rfl, rfl⟩

end Go.Proofs.Ytljkcijakdhdiaa

namespace Go.Proofs.Ytljkcijakdhdiaa
open Go.RowKit

set_option maxHeartbeats 1600000 in
theorem lwAt_any (a : Option Addr) (n c t : Nat) (m : Int) (zs : List Int) (w : World) (h : BsAt w a zs) (hn : zs.length = n) (hm : n ≤ 2097152) (ht : t ≤ 100000) (h1 : 1 ≤ m) (hmm : m ≤ 1000000) :
    Calls Try.prog 8 #[.slice a n c, .int .i64 t, .int .i64 m] w fun e w' => ∃ r : Int, e = .returned (.int .i64 r) ∧ 0 ≤ r ∧ r < m ∧ New w w' := by
  by_cases hm1 : m = 1
  · subst hm1
    go_enter Try.func8, Try.ntmps8
    go_wp2
    go_ret
    exact ⟨0, rfl, by omega, by omega, New.refl _⟩
  have h2 : ¬ m ≤ 1 := by omega
  by_cases h0 : n = 0
  · subst h0
    have HD : Hid (Dr m ((t : Int) * 7 % m)) := Dr.of_mod (by omega)
    clear hm1
    go_enter Try.func8, Try.ntmps8
    go_wp2
    go_ret
    exact ⟨_, rfl, HD.out.1, HD.out.2.1 h1, New.refl _⟩
  obtain ⟨i, hi⟩ : ∃ i : Nat, i = t % n := ⟨_, rfl⟩
  obtain ⟨q, hq⟩ : ∃ q : Nat, q = t / n := ⟨_, rfl⟩
  have hmod : (t : Int) % (n : Int) = (i : Int) := by rw [mod_nat, hi]
  have hdiv : (t : Int) / (n : Int) = (q : Int) := by rw [hq]; omega
  have hlt : i < n := by rw [hi]; exact Nat.mod_lt t (show n > 0 by omega)
  have hdl : q ≤ t := by rw [hq]; exact Nat.div_le_self t n
  have hdv : (t : Int).tdiv (n : Int) = (q : Int) := by rw [Int.tdiv_eq_ediv_of_nonneg (by omega)]; exact hdiv
  have hmv : (t : Int).tmod (n : Int) = (i : Int) := by rw [Int.tmod_eq_emod_of_nonneg (by omega)]; exact hmod
  obtain ⟨b, off, z, rfl, hz, hc, hz0, hz1⟩ := h.at i (by omega)
  have hne0 : ((n : Int) == 0) = false := by simp; omega
  have hw0 : IntKind.i64.wrap z = z := wrap_in (by omega)
  have hw1 : IntKind.i64.wrap ((q : Int) * 3) = (q : Int) * 3 := wrap_in (by omega)
  have hw2 : IntKind.i64.wrap (z + (q : Int) * 3) = z + (q : Int) * 3 := wrap_in (by omega)
  have hw3 : IntKind.i64.wrap (i : Int) = (i : Int) := wrap_in (by omega)
  have hw4 : IntKind.i64.wrap (q : Int) = (q : Int) := wrap_in (by omega)
  clear hi hq hm1
  by_cases hm2 : 200 < m
  · obtain ⟨i2, hi2⟩ : ∃ i2 : Nat, i2 = (t + 1) % n := ⟨_, rfl⟩
    have hmod2 : ((t : Int) + 1) % (n : Int) = (i2 : Int) := by rw [hi2, ← mod_nat]; simp
    have hlt2 : i2 < n := by rw [hi2]; exact Nat.mod_lt _ (show n > 0 by omega)
    obtain ⟨b2, off2, z2, e2, hz2, hc2, hz20, hz21⟩ := h.at i2 (by omega)
    simp only [Option.some.injEq, Addr.mk.injEq, and_true] at e2
    obtain ⟨rfl, rfl⟩ := e2
    have HD : Hid (Dr m (((z + (q : Int) * 3) * 251 + z2) % m)) := Dr.of_mod (by omega)
    have hv0 : 0 ≤ z + (q : Int) * 3 := by omega
    have hv1 : z + (q : Int) * 3 ≤ 100000000 := by omega
    clear hi2
    go_enter Try.func8, Try.ntmps8
    go_wp2
    go_quiet (fail)
    go_wp2
    go_ret
    exact ⟨_, rfl, HD.out.1, HD.out.2.1 h1, (New.refl _).drewN _⟩
  · have HD : Hid (Dr m ((z + (q : Int) * 3) % m)) := Dr.of_mod (by omega)
    have hv0 : 0 ≤ z + (q : Int) * 3 := by omega
    go_enter Try.func8, Try.ntmps8
    go_wp2
    go_quiet (fail)
    go_wp2
    go_ret
    exact ⟨_, rfl, HD.out.1, HD.out.2.1 h1, (New.refl _).drewN _⟩

end Go.Proofs.Ytljkcijakdhdiaa

namespace Go.Proofs.Ytljkcijakdhdiaa
open Go.RowKit Go.Sort
set_option linter.unusedVariables false
set_option linter.unusedSimpArgs false
set_option maxRecDepth 100000

set_option maxHeartbeats 3200000 in
theorem drawRM (a : Option Addr) (n c : Nat) (zs : List Int) (w : World) (h : BsAt w a zs) (hn : zs.length = n) (hm : n ≤ 2097152) (ha : ∀ x, zs ≠ [] → a = some x → x.block < w.heap.size) :
    Calls Try.prog 6 #[.slice a n c] w fun e w' => ∃ (g m cap : Nat) (ys : List Int), e = .returned (.slice (some ⟨g, 0, none⟩) m cap) ∧ m ≤ 1048576 ∧ m ≤ cap ∧ ys.length = m ∧ BsAt w' (some ⟨g, 0, none⟩) ys ∧ New w w' := by
  obtain ⟨i0, hi, hz0, hz1, hz2⟩ := info_parts Try.infoU8
  go_enter Try.func6, Try.ntmps6
  go_wp2_with fail
  refine (source_any a n c zs _ h hn hm ha).mono ?_
  rintro e w1 ⟨B, rfl, hB, hs, hn1⟩
  go_wp2_with fail
  refine (chance_sc hs 40 (by omega) (by omega)).mono ?_
  rintro e w2 ⟨r, rfl, hs2, ht2⟩
  have N2 : New w w2 := hn1.before ht2 (fun i hi e => by omega)
  cases r with
  | true =>
    go_wp2_with (at_make; refine wpList_make_full _ rfl _ _ 22 rfl w2.heap.size 5 i0 (.int .u8 0) 1 Try.underlying22 hi hz0 hz1 _ _ _ _ 401 rfl rfl rfl rfl ?b2 ?b3 (Nat.le_refl _) ?_)
    case b2 => rw [hz2]; omega
    case b3 => unfold maxLen; omega
    intro w6 hown0 hgrow0
    have hown : w6.ownsRow 0 5 1 (.slice (some ⟨w2.heap.size, 0, none⟩) 401 401) 401 ((List.replicate 401 (0 : Int)).map (Value.int .u8)) := by
      have := own_base hown0
      simpa [Value.cells, toList_madeCells_one] using this
    have n6 := New.of_grown hgrow0
    clear hown0 hgrow0
    have x26 : BsAt w6 (some ⟨w2.heap.size, 0, none⟩) (List.replicate 401 (0 : Int)) := BsAt.of_own hown (by intro z hz; have := List.eq_of_mem_replicate hz; omega)
    have HX : Hid (BsAt w6 (some ⟨w2.heap.size, 0, none⟩) (List.replicate 401 (0 : Int))) := x26
    clear hown x26
    go_wp2
    go_ret
    exact ⟨w2.heap.size, 401, 401, List.replicate 401 0, rfl, by omega, by omega, List.length_replicate, HX.out, N2.trans n6⟩
  | false =>
    go_wp2_with fail
    refine (l4Stream_sc hs2 (by omega)).mono ?_
    rintro e w3 ⟨g, m, cap, t', ys, rfl, hm4, hmc, hl, -, hg, hb, -, ht3⟩
    have N3 : New w w3 := N2.before ht3 (fun i hi e => by omega)
    go_wp2
    go_ret
    exact ⟨g, m, cap, ys, rfl, by omega, hmc, hl, hb, N3⟩

end Go.Proofs.Ytljkcijakdhdiaa
