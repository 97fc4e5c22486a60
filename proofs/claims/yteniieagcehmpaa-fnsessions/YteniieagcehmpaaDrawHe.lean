/- What is proved here: what the drawing of what a session hears answers. -/
import Derived.Test.YteniieagcehmpaaDrawMb
import Derived.Test.YteniieagcehmpaaDrawTk
import Derived.Test.YteniieagcehmpaaRwLib
import Derived.Deep.CutRange
import Derived.Deep.RegionHeld3
namespace Go.Proofs.Yteniieagcehmpaa
open Go.RowKit Go.Sort
set_option linter.unusedVariables false

theorem own_lit9 {w : World} {B : Nat} (h : Blk w B 5 #[.int .u8 9]) : w.ownsRow 0 5 1 (.slice (some ⟨B, 0, none⟩) 1 1) 1 (([9] : List Int).map (Value.int .u8)) :=
  ⟨rfl, .inr ⟨B, 1, #[.int .u8 9], rfl, Nat.zero_le _, h, Nat.le_refl _, by unfold maxLen; omega, rfl, rfl⟩⟩
theorem OwM.nsB7 {w : World} {lo n c : Nat} {a : Option Addr} {L : List Int} (h : OwM w lo (.slice a n c) L) (hb : ∀ z ∈ L, In6 z) : NsAt w a L := by
  obtain ⟨a', c', e, h1, _⟩ := h.ns hb
  cases e
  exact h1
theorem cell_set7h {W : World} {B b j j' : Nat} {v : Value} (h : ¬ B = b) : (W.setCell ⟨B, j', none⟩ v).cell? ⟨b, j, none⟩ = W.cell? ⟨b, j, none⟩ := World.cell?_of_block (Below.heap_setCell W ⟨B, j', none⟩ v b (fun e => h e.symm))
theorem cell_drew7h {W : World} {p : Addr} : W.drew.cell? p = W.cell? p := rfl
theorem Turn.drew7 {S : Nat → Prop} {a w : World} (h : Turn S a w) : Turn S a w.drew := ⟨h.os, h.tape, h.output, h.size, h.block⟩
theorem Turn.set0 {a w : World} {A B C j : Nat} (h : Turn (fun k => k = A ∨ k = B ∨ k = C) a w) (u : Value) : Turn (fun k => k = A ∨ k = B ∨ k = C) a (w.setCell ⟨A, j, none⟩ u) := h.set (Or.inl rfl) u
theorem Turn.set1 {a w : World} {A B C j : Nat} (h : Turn (fun k => k = A ∨ k = B ∨ k = C) a w) (u : Value) : Turn (fun k => k = A ∨ k = B ∨ k = C) a (w.setCell ⟨B, j, none⟩ u) := h.set (Or.inr (Or.inl rfl)) u
theorem Turn.set2 {a w : World} {A B C j : Nat} (h : Turn (fun k => k = A ∨ k = B ∨ k = C) a w) (u : Value) : Turn (fun k => k = A ∨ k = B ∨ k = C) a (w.setCell ⟨C, j, none⟩ u) := h.set (Or.inr (Or.inr rfl)) u

/-- What is drawn: a configuration, a session, a message whose lists can be read. -/
def HearAns (w : World) (e : Ending) (w' : World) : Prop := ∃ (ca ci ch st pe ho si sp kd sa mh mi wh su : Int) (gs rs : List (Int × Int)) (xs : List Int) (has : Bool) (o nx md lc : Int) (xa ya za : Option Addr) (xn xc yn yc zn zc : Nat), e = .returned (.tuple #[.agg #[.int .i64 ca, .int .i64 ci, .int .i64 ch], .agg #[.int .i64 st, .int .i64 pe, .int .i64 ho, .int .i64 si, .int .i64 sp], .agg #[.int .i64 kd, .int .i64 sa, .int .i64 mh, .int .i64 mi, .int .i64 wh, .int .i64 su, .slice xa xn xc, .bool has, .int .i64 o, .slice ya yn yc, .int .i64 nx, .int .i64 md, .int .i64 lc, .slice za zn zc]]) ∧ PsAt w' xa gs ∧ NsAt w' ya xs ∧ PsAt w' za rs ∧ gs.length = xn ∧ xs.length = yn ∧ rs.length = zn ∧ xn ≤ 9 ∧ yn ≤ 7 ∧ zn ≤ 4 ∧ New w w'

set_option maxRecDepth 100000 in
set_option maxHeartbeats 12800000 in
theorem drawHear (a : Option Addr) (n c : Nat) (zs : List Int) (w : World) (h : BsAt w a zs) (hn : zs.length = n) (hm : n ≤ 1048576) (hnil : a = none → n = 0 ∧ c = 0) (ha : ∀ x, zs ≠ [] → a = some x → x.block < w.heap.size) :
    Calls Try.prog 5 #[.slice a n c] w (HearAns w) := by
  obtain ⟨i0, hi, hz0, hz1, hz2⟩ := info_parts Try.infoU8
  have HN : Hid (zs.length = n) := hn
  have HNL : Hid (a = none → n = 0 ∧ c = 0) := hnil
  clear hn hnil
  have N0 : New w (((w.alloc (.cells #[.int .i64 0, .int .i64 0, .int .i64 0] 25)).alloc (.cells #[.int .i64 0, .int .i64 0, .int .i64 0, .int .i64 0, .int .i64 0] 27)).alloc (.cells #[.int .i64 0, .int .i64 0, .int .i64 0, .int .i64 0, .int .i64 0, .int .i64 0, .slice none 0 0, .bool false, .int .i64 0, .slice none 0 0, .int .i64 0, .int .i64 0, .int .i64 0, .slice none 0 0] 35)) := (((New.refl w).alloc _).alloc _).alloc _
  have r0 : Blk (((w.alloc (.cells #[.int .i64 0, .int .i64 0, .int .i64 0] 25)).alloc (.cells #[.int .i64 0, .int .i64 0, .int .i64 0, .int .i64 0, .int .i64 0] 27)).alloc (.cells #[.int .i64 0, .int .i64 0, .int .i64 0, .int .i64 0, .int .i64 0, .int .i64 0, .slice none 0 0, .bool false, .int .i64 0, .slice none 0 0, .int .i64 0, .int .i64 0, .int .i64 0, .slice none 0 0] 35)) w.heap.size 25 #[.int .i64 0, .int .i64 0, .int .i64 0] := ((Blk.mk _ _ _ _ rfl).alloc _).alloc _
  have r1 : Blk (((w.alloc (.cells #[.int .i64 0, .int .i64 0, .int .i64 0] 25)).alloc (.cells #[.int .i64 0, .int .i64 0, .int .i64 0, .int .i64 0, .int .i64 0] 27)).alloc (.cells #[.int .i64 0, .int .i64 0, .int .i64 0, .int .i64 0, .int .i64 0, .int .i64 0, .slice none 0 0, .bool false, .int .i64 0, .slice none 0 0, .int .i64 0, .int .i64 0, .int .i64 0, .slice none 0 0] 35)) (w.heap.size + 1) 27 #[.int .i64 0, .int .i64 0, .int .i64 0, .int .i64 0, .int .i64 0] := (Blk.mk _ _ _ _ (by simp)).alloc _
  have r2 : Blk (((w.alloc (.cells #[.int .i64 0, .int .i64 0, .int .i64 0] 25)).alloc (.cells #[.int .i64 0, .int .i64 0, .int .i64 0, .int .i64 0, .int .i64 0] 27)).alloc (.cells #[.int .i64 0, .int .i64 0, .int .i64 0, .int .i64 0, .int .i64 0, .int .i64 0, .slice none 0 0, .bool false, .int .i64 0, .slice none 0 0, .int .i64 0, .int .i64 0, .int .i64 0, .slice none 0 0] 35)) (w.heap.size + 1 + 1) 35 #[.int .i64 0, .int .i64 0, .int .i64 0, .int .i64 0, .int .i64 0, .int .i64 0, .slice none 0 0, .bool false, .int .i64 0, .slice none 0 0, .int .i64 0, .int .i64 0, .int .i64 0, .slice none 0 0] := Blk.mk _ _ _ _ (by simp)
  have z0 : w.heap.size + 3 ≤ (((w.alloc (.cells #[.int .i64 0, .int .i64 0, .int .i64 0] 25)).alloc (.cells #[.int .i64 0, .int .i64 0, .int .i64 0, .int .i64 0, .int .i64 0] 27)).alloc (.cells #[.int .i64 0, .int .i64 0, .int .i64 0, .int .i64 0, .int .i64 0, .int .i64 0, .slice none 0 0, .bool false, .int .i64 0, .slice none 0 0, .int .i64 0, .int .i64 0, .int .i64 0, .slice none 0 0] 35)).heap.size := by simp
  go_enter Try.func5, Try.ntmps5
  go_upto_region 1 with fail
  generalize (((w.alloc (.cells #[.int .i64 0, .int .i64 0, .int .i64 0] 25)).alloc (.cells #[.int .i64 0, .int .i64 0, .int .i64 0, .int .i64 0, .int .i64 0] 27)).alloc (.cells #[.int .i64 0, .int .i64 0, .int .i64 0, .int .i64 0, .int .i64 0, .int .i64 0, .slice none 0 0, .bool false, .int .i64 0, .slice none 0 0, .int .i64 0, .int .i64 0, .int .i64 0, .slice none 0 0] 35)) = w0 at *
  go_wp2_with fail
  refine (l5With_any a n c zs _ (h.new N0) HN.out (by omega) (fun x h1 h2 => by have := ha x h1 h2; omega)).mono ?_
  rintro e w1 ⟨ca, ci, ch, st, pe, ho, si, sp, rfl, h1⟩
  go_upto_region 2 with fail
  have hal : New w1 ((w1.alloc (.cells #[.int .i64 ca, .int .i64 ci, .int .i64 ch] 25)).alloc (.cells #[.int .i64 st, .int .i64 pe, .int .i64 ho, .int .i64 si, .int .i64 sp] 27)) := ((New.refl w1).alloc _).alloc _
  have bC : Blk ((w1.alloc (.cells #[.int .i64 ca, .int .i64 ci, .int .i64 ch] 25)).alloc (.cells #[.int .i64 st, .int .i64 pe, .int .i64 ho, .int .i64 si, .int .i64 sp] 27)) w1.heap.size 25 #[.int .i64 ca, .int .i64 ci, .int .i64 ch] := (Blk.mk _ _ _ _ rfl).alloc _
  have bS : Blk ((w1.alloc (.cells #[.int .i64 ca, .int .i64 ci, .int .i64 ch] 25)).alloc (.cells #[.int .i64 st, .int .i64 pe, .int .i64 ho, .int .i64 si, .int .i64 sp] 27)) (w1.heap.size + 1) 27 #[.int .i64 st, .int .i64 pe, .int .i64 ho, .int .i64 si, .int .i64 sp] := Blk.mk _ _ _ _ (by simp)
  have r0 := (r0.new h1).new hal
  have r1 := (r1.new h1).new hal
  have r2 := (r2.new h1).new hal
  have N := (N0.trans h1).trans hal
  have l1 := h1.size
  have z2 : w1.heap.size + 2 ≤ ((w1.alloc (.cells #[.int .i64 ca, .int .i64 ci, .int .i64 ch] 25)).alloc (.cells #[.int .i64 st, .int .i64 pe, .int .i64 ho, .int .i64 si, .int .i64 sp] 27)).heap.size := by simp
  clear h1 hal N0
  generalize ((w1.alloc (.cells #[.int .i64 ca, .int .i64 ci, .int .i64 ch] 25)).alloc (.cells #[.int .i64 st, .int .i64 pe, .int .i64 ho, .int .i64 si, .int .i64 sp] 27)) = w2 at *
  have bL := Blk.mk w2 w2.heap.size 5 #[.int .u8 9] rfl
  have hsrc := h.new (N.alloc (.cells #[.int .u8 9] 5))
  go_wp2_with (at_builtin; refine wpList_ap _ rfl (.tmp 14) (.tmp 15) rfl 0 Try.underlying22 hi hz0 hz1 hz2 (.slice (some ⟨w2.heap.size, 0, none⟩) 1 1) 1 [9] rfl (own_lit9 bL) a n c zs rfl hsrc HN.out HNL.out (by omega) (by omega) (Nat.zero_le _) (w2.heap.size + 1) (by simp) ?_)
  intro g cap w3 how hg hor
  have hga : w2.heap.size ≤ g := by
    rcases hor with e | e
    · have e' : w2.heap.size = g := Option.some.inj e
      omega
    · omega
  have G : ∀ (B : Nat) (t : TypeId) (cs : Array Value), Blk w2 B t cs → Blk w3 B t cs := fun B t cs hb => (hb.alloc (.cells #[.int .u8 9] 5)).grow hg (fun e => by have e' : w2.heap.size = B := Option.some.inj e; have := hb.lt; omega)
  have r0 := G _ _ _ r0
  have r1 := G _ _ _ r1
  have r2 := G _ _ _ r2
  have bC := G _ _ _ bC
  have bS := G _ _ _ bS
  have N : New w w3 := (N.alloc _).grow hg (fun k hk => by have e' : w2.heap.size = k := Option.some.inj hk; omega)
  have hb3 : BsAt w3 (some ⟨g, 0, none⟩) (9 :: zs) := BsAt.of_own (zs := 9 :: zs) (by simpa using how) (by intro z hz; rcases List.mem_cons.1 hz with rfl | hz; exact ⟨by omega, by omega⟩; exact h.lt z hz)
  have hg3 : g < w3.heap.size := (World.ownsRow.lt how g rfl).2
  have HL9 : Hid ((9 :: zs).length = 1 + n) := by show _ = _; rw [List.length_cons, HN.out]; omega
  clear how hg hor bL hsrc G
  go_wp2_with fail
  refine (source_any (some ⟨g, 0, none⟩) (1 + n) cap (9 :: zs) _ hb3 HL9.out (by omega) (fun x _ hx => by obtain rfl := Option.some.inj hx; exact hg3)).mono ?_
  rintro e w4 ⟨B, rfl, hB, hs4, h4⟩
  have r0 := r0.new h4
  have r1 := r1.new h4
  have r2 := r2.new h4
  have bC := bC.new h4
  have bS := bS.new h4
  have N := N.trans h4
  have l34 := h4.size
  have lB := hs4.blk.lt
  have q0 : ¬ w.heap.size = B := by omega
  have q1 : ¬ w.heap.size + 1 = B := by omega
  have q2 : ¬ w.heap.size + 1 + 1 = B := by omega
  have q3 : ¬ w1.heap.size = B := by omega
  have q4 : ¬ w1.heap.size + 1 = B := by omega
  have hNB : ∀ i, i < w.heap.size → ¬ i = B := fun i hi e => by omega
  clear hb3 h4
  go_wp2_with fail
  refine (l4Message_sc hs4 (by omega)).mono ?_
  rintro e w5 ⟨kd, sa, mh, mi, wh, su, gs, rs, xs, has, o, nx, md, lc, x, y, z, t5, rfl, lg, lx, lr, ig, ix, ir, oQ, oM, oR, ht5, hs5, t45⟩
  obtain ⟨xa, xc, rfl⟩ := oQ.slice
  obtain ⟨ya, yc, rfl⟩ := oM.slice
  obtain ⟨za, zc, rfl⟩ := oR.slice
  generalize hxn : gs.length = xn at *
  generalize hyn : xs.length = yn at *
  generalize hzn : rs.length = zn at *
  have HXN : Hid (gs.length = xn) := hxn
  have HYN : Hid (xs.length = yn) := hyn
  have HZN : Hid (rs.length = zn) := hzn
  clear hxn hyn hzn
  go_upto_region 4 with fail
  have hal : New w5 (w5.alloc (.cells #[.int .i64 kd, .int .i64 sa, .int .i64 mh, .int .i64 mi, .int .i64 wh, .int .i64 su, .slice xa xn xc, .bool has, .int .i64 o, .slice ya yn yc, .int .i64 nx, .int .i64 md, .int .i64 lc, .slice za zn zc] 35)) := (New.refl w5).alloc _
  have bM := Blk.mk w5 w5.heap.size 35 #[.int .i64 kd, .int .i64 sa, .int .i64 mh, .int .i64 mi, .int .i64 wh, .int .i64 su, .slice xa xn xc, .bool has, .int .i64 o, .slice ya yn yc, .int .i64 nx, .int .i64 md, .int .i64 lc, .slice za zn zc] rfl
  have r0 := (r0.turn t45 q0).new hal
  have r1 := (r1.turn t45 q1).new hal
  have r2 := (r2.turn t45 q2).new hal
  have bC := (bC.turn t45 q3).new hal
  have bS := (bS.turn t45 q4).new hal
  have N := (N.before t45 hNB).trans hal
  have oQ := oQ.new hal
  have oM := oM.new hal
  have oR := oR.new hal
  have hs5 := hs5.new hal
  have l45 := t45.size
  have q5 : ¬ w5.heap.size = B := by omega
  have l56 : w5.heap.size < (w5.alloc (.cells #[.int .i64 kd, .int .i64 sa, .int .i64 mh, .int .i64 mi, .int .i64 wh, .int .i64 su, .slice xa xn xc, .bool has, .int .i64 o, .slice ya yn yc, .int .i64 nx, .int .i64 md, .int .i64 lc, .slice za zn zc] 35)).heap.size := by simp
  clear t45 hal hs4
  generalize w5.alloc (.cells #[.int .i64 kd, .int .i64 sa, .int .i64 mh, .int .i64 mi, .int .i64 wh, .int .i64 su, .slice xa xn xc, .bool has, .int .i64 o, .slice ya yn yc, .int .i64 nx, .int .i64 md, .int .i64 lc, .slice za zn zc] 35) = w6 at *
  go_wp2_with fail
  refine (chance_sc hs5 12 (by omega) (by omega)).mono ?_
  rintro e w7 ⟨r, rfl, hs7, t67⟩
  have r0 := r0.turn t67 q0
  have r1 := r1.turn t67 q1
  have r2 := r2.turn t67 q2
  have bC := bC.turn t67 q3
  have bS := bS.turn t67 q4
  have bM := bM.turn t67 q5
  have N := N.before t67 hNB
  have oQ := oQ.turn t67 (fun g hg e => by omega)
  have oM := oM.turn t67 (fun g hg e => by omega)
  have oR := oR.turn t67 (fun g hg e => by omega)
  have l67 := t67.size
  have e01 : ¬ w.heap.size = w.heap.size + 1 := by omega
  have e02 : ¬ w.heap.size = w.heap.size + 1 + 1 := by omega
  have e12 : ¬ w.heap.size + 1 = w.heap.size + 1 + 1 := by omega
  have e10 : ¬ w.heap.size + 1 = w.heap.size := by omega
  have e20 : ¬ w.heap.size + 1 + 1 = w.heap.size := by omega
  have e21 : ¬ w.heap.size + 1 + 1 = w.heap.size + 1 := by omega
  have e03 : ¬ w.heap.size = w1.heap.size := by omega
  have e04 : ¬ w.heap.size = w1.heap.size + 1 := by omega
  have e05 : ¬ w.heap.size = w5.heap.size := by omega
  have e13 : ¬ w.heap.size + 1 = w1.heap.size := by omega
  have e14 : ¬ w.heap.size + 1 = w1.heap.size + 1 := by omega
  have e15 : ¬ w.heap.size + 1 = w5.heap.size := by omega
  have e23 : ¬ w.heap.size + 1 + 1 = w1.heap.size := by omega
  have e24 : ¬ w.heap.size + 1 + 1 = w1.heap.size + 1 := by omega
  have e25 : ¬ w.heap.size + 1 + 1 = w5.heap.size := by omega
  clear t67 hs5
  cases r
  · skip
    have fin : ∀ X, Turn (fun k => k = w.heap.size ∨ k = w.heap.size + 1 ∨ k = w.heap.size + 1 + 1) w7 X → _ := fun X hT => (⟨ca, ci, ch, st, pe, ho, si, sp, kd, sa, mh, mi, wh, su, gs, rs, xs, has, o, nx, md, lc, xa, ya, za, xn, xc, yn, yc, zn, zc, rfl, ((oQ.turn hT (fun g hg e => by omega)).psB ig), ((oM.turn hT (fun g hg e => by omega)).nsB7 ix), ((oR.turn hT (fun g hg e => by omega)).psB ir), HXN.out, HYN.out, HZN.out, lg, lx, lr, N.before hT (fun i hi e => by omega)⟩ : HearAns w (.returned (.tuple #[.agg #[.int .i64 ca, .int .i64 ci, .int .i64 ch], .agg #[.int .i64 st, .int .i64 pe, .int .i64 ho, .int .i64 si, .int .i64 sp], .agg #[.int .i64 kd, .int .i64 sa, .int .i64 mh, .int .i64 mi, .int .i64 wh, .int .i64 su, .slice xa xn xc, .bool has, .int .i64 o, .slice ya yn yc, .int .i64 nx, .int .i64 md, .int .i64 lc, .slice za zn zc]])) X)
    go_upto_region 6 with fail
    refine hw_start (n := 6) (S := fun W => (Blk W w1.heap.size 25 #[.int .i64 ca, .int .i64 ci, .int .i64 ch] ∧ Blk W (w1.heap.size + 1) 27 #[.int .i64 st, .int .i64 pe, .int .i64 ho, .int .i64 si, .int .i64 sp] ∧ Blk W w5.heap.size 35 #[.int .i64 kd, .int .i64 sa, .int .i64 mh, .int .i64 mi, .int .i64 wh, .int .i64 su, .slice xa xn xc, .bool has, .int .i64 o, .slice ya yn yc, .int .i64 nx, .int .i64 md, .int .i64 lc, .slice za zn zc]) ∧ ((∃ o, o.size = 3 ∧ Blk W w.heap.size 25 o) ∧ (∃ o, o.size = 5 ∧ Blk W (w.heap.size + 1) 27 o) ∧ (∃ o, o.size = 14 ∧ Blk W (w.heap.size + 1 + 1) 35 o)) ∧ Turn (fun k => k = w.heap.size ∨ k = w.heap.size + 1 ∨ k = w.heap.size + 1 + 1) w7 W) rfl (by kernel_rfl) ⟨⟨bC, bS, bM⟩, ⟨⟨_, rfl, r0⟩, ⟨_, rfl, r1⟩, ⟨_, rfl, r2⟩⟩, Turn.drewW (Turn.refl _ _)⟩ (fun hH => ?_)
    refine hw_take 0 (some 24) (.agg #[.int .i64 ca, .int .i64 ci, .int .i64 ch]) rfl rfl (by kernel_rfl) (by kernel_rfl) (by kernel_rfl) (fun _ _ _ h => h) (by rfl) hH (fun W hW => run_load_blk 25 (.tmp 5) rfl w1.heap.size rfl #[.int .i64 ca, .int .i64 ci, .int .i64 ch] _ hW.1.1 Try.underlying25 rfl (by kernel_rfl)) ?_
    simp only [Act.put, List.setIfInBounds_toArray, List.set_cons_zero, List.set_cons_succ]
    refine hw_take 1 (some 25) (.agg #[.int .i64 st, .int .i64 pe, .int .i64 ho, .int .i64 si, .int .i64 sp]) rfl rfl (by kernel_rfl) (by kernel_rfl) (by kernel_rfl) (fun _ _ _ h => h) (by rfl) hH (fun W hW => run_load_blk 27 (.tmp 6) rfl (w1.heap.size + 1) rfl #[.int .i64 st, .int .i64 pe, .int .i64 ho, .int .i64 si, .int .i64 sp] _ hW.1.2.1 Try.underlying27 rfl (by kernel_rfl)) ?_
    simp only [Act.put, List.setIfInBounds_toArray, List.set_cons_zero, List.set_cons_succ]
    refine hw_take 2 (some 26) (.agg #[.int .i64 kd, .int .i64 sa, .int .i64 mh, .int .i64 mi, .int .i64 wh, .int .i64 su, .slice xa xn xc, .bool has, .int .i64 o, .slice ya yn yc, .int .i64 nx, .int .i64 md, .int .i64 lc, .slice za zn zc]) rfl rfl (by kernel_rfl) (by kernel_rfl) (by kernel_rfl) (fun _ _ _ h => h) (by rfl) hH (fun W hW => run_load_blk 35 (.tmp 8) rfl w5.heap.size rfl #[.int .i64 kd, .int .i64 sa, .int .i64 mh, .int .i64 mi, .int .i64 wh, .int .i64 su, .slice xa xn xc, .bool has, .int .i64 o, .slice ya yn yc, .int .i64 nx, .int .i64 md, .int .i64 lc, .slice za zn zc] _ hW.1.2.2 Try.underlying35 rfl (by kernel_rfl)) ?_
    simp only [Act.put, List.setIfInBounds_toArray, List.set_cons_zero, List.set_cons_succ]
    refine hw_call 3 none rfl rfl (by kernel_rfl) (by rfl) (fun K hK => ?_)
    obtain ⟨⟨sC, sS, sM⟩, ⟨⟨ob0, zb0, qb0⟩, ⟨ob1, zb1, qb1⟩, ⟨ob2, zb2, qb2⟩⟩, tt⟩ := hH
    refine hw_store 25 (.tmp 2) (.tmp 24) rfl rfl w.heap.size #[.int .i64 ca, .int .i64 ci, .int .i64 ch] ob0 rfl rfl qb0 (by kernel_rfl) zb0 (by kernel_rfl) ?_
    have d0 := qb0.rowW #[.int .i64 ca, .int .i64 ci, .int .i64 ch]
    refine hK.out _ _ ⟨⟨sC.rowO (fun e => e03 e.symm) _, sS.rowO (fun e => e04 e.symm) _, sM.rowO (fun e => e05 e.symm) _⟩, ⟨⟨_, rfl, qb0.rowW _⟩, ⟨_, zb1, qb1.rowO e10 _⟩, ⟨_, zb2, qb2.rowO e20 _⟩⟩, tt.rowW (Or.inl rfl) _⟩ (fun hH0 => ?_)
    simp only [Act.put]
    refine hw_call 4 none rfl rfl (by kernel_rfl) (by rfl) (fun K hK => ?_)
    obtain ⟨⟨sC, sS, sM⟩, ⟨⟨ob0, zb0, qb0⟩, ⟨ob1, zb1, qb1⟩, ⟨ob2, zb2, qb2⟩⟩, tt⟩ := hH0
    refine hw_store 27 (.tmp 3) (.tmp 25) rfl rfl (w.heap.size + 1) #[.int .i64 st, .int .i64 pe, .int .i64 ho, .int .i64 si, .int .i64 sp] ob1 rfl rfl qb1 (by kernel_rfl) zb1 (by kernel_rfl) ?_
    have d1 := qb1.rowW #[.int .i64 st, .int .i64 pe, .int .i64 ho, .int .i64 si, .int .i64 sp]
    have d0 := d0.rowO (B := (w.heap.size + 1)) e01 #[.int .i64 st, .int .i64 pe, .int .i64 ho, .int .i64 si, .int .i64 sp]
    refine hK.out _ _ ⟨⟨sC.rowO (fun e => e13 e.symm) _, sS.rowO (fun e => e14 e.symm) _, sM.rowO (fun e => e15 e.symm) _⟩, ⟨⟨_, zb0, qb0.rowO e01 _⟩, ⟨_, rfl, qb1.rowW _⟩, ⟨_, zb2, qb2.rowO e21 _⟩⟩, tt.rowW (Or.inr (Or.inl rfl)) _⟩ (fun hH1 => ?_)
    simp only [Act.put]
    refine hw_call 5 none rfl rfl (by kernel_rfl) (by rfl) (fun K hK => ?_)
    obtain ⟨⟨sC, sS, sM⟩, ⟨⟨ob0, zb0, qb0⟩, ⟨ob1, zb1, qb1⟩, ⟨ob2, zb2, qb2⟩⟩, tt⟩ := hH1
    refine hw_store 35 (.tmp 4) (.tmp 26) rfl rfl (w.heap.size + 1 + 1) #[.int .i64 kd, .int .i64 sa, .int .i64 mh, .int .i64 mi, .int .i64 wh, .int .i64 su, .slice xa xn xc, .bool has, .int .i64 o, .slice ya yn yc, .int .i64 nx, .int .i64 md, .int .i64 lc, .slice za zn zc] ob2 rfl rfl qb2 (by kernel_rfl) zb2 (by kernel_rfl) ?_
    have d2 := qb2.rowW #[.int .i64 kd, .int .i64 sa, .int .i64 mh, .int .i64 mi, .int .i64 wh, .int .i64 su, .slice xa xn xc, .bool has, .int .i64 o, .slice ya yn yc, .int .i64 nx, .int .i64 md, .int .i64 lc, .slice za zn zc]
    have d0 := d0.rowO (B := (w.heap.size + 1 + 1)) e02 #[.int .i64 kd, .int .i64 sa, .int .i64 mh, .int .i64 mi, .int .i64 wh, .int .i64 su, .slice xa xn xc, .bool has, .int .i64 o, .slice ya yn yc, .int .i64 nx, .int .i64 md, .int .i64 lc, .slice za zn zc]
    have d1 := d1.rowO (B := (w.heap.size + 1 + 1)) e12 #[.int .i64 kd, .int .i64 sa, .int .i64 mh, .int .i64 mi, .int .i64 wh, .int .i64 su, .slice xa xn xc, .bool has, .int .i64 o, .slice ya yn yc, .int .i64 nx, .int .i64 md, .int .i64 lc, .slice za zn zc]
    refine hK.out _ _ ⟨⟨sC.rowO (fun e => e23 e.symm) _, sS.rowO (fun e => e24 e.symm) _, sM.rowO (fun e => e25 e.symm) _⟩, ⟨⟨_, zb0, qb0.rowO e02 _⟩, ⟨_, zb1, qb1.rowO e12 _⟩, ⟨_, rfl, qb2.rowW _⟩⟩, tt.rowW (Or.inr (Or.inr rfl)) _⟩ (fun hH2 => ?_)
    simp only [Act.put]
    refine wpAnyH_done (by kernel_rfl) ?_ _
    go_wp2
    refine bodyPost_ret (v := .tuple #[.agg #[.int .i64 ca, .int .i64 ci, .int .i64 ch], .agg #[.int .i64 st, .int .i64 pe, .int .i64 ho, .int .i64 si, .int .i64 sp], .agg #[.int .i64 kd, .int .i64 sa, .int .i64 mh, .int .i64 mi, .int .i64 wh, .int .i64 su, .slice xa xn xc, .bool has, .int .i64 o, .slice ya yn yc, .int .i64 nx, .int .i64 md, .int .i64 lc, .slice za zn zc]]) (results_row3 Try.results5 rfl rfl rfl d0 d1 d2 ⟨_, Try.underlying25⟩ ⟨_, Try.underlying27⟩ ⟨_, Try.underlying35⟩ (by kernel_rfl) (by kernel_rfl) (by kernel_rfl)) rfl ?_
    exact fin _ hH2.2.2
  · go_wp2_with fail
    refine (l4Bent_sc hs7 (by omega)).mono ?_
    rintro e w8 ⟨kd2, sa2, mh2, mi2, wh2, su2, gs2, rs2, xs2, has2, o2, nx2, md2, lc2, x2, y2, z2', rfl, lg2, lx2, lr2, ig2, ix2, ir2, oQ2, oM2, oR2, t78⟩
    obtain ⟨xa2, xc2, rfl⟩ := oQ2.slice
    obtain ⟨ya2, yc2, rfl⟩ := oM2.slice
    obtain ⟨za2, zc2, rfl⟩ := oR2.slice
    generalize hxn : gs2.length = xn2 at *
    generalize hyn : xs2.length = yn2 at *
    generalize hzn : rs2.length = zn2 at *
    have HXN2 : Hid (gs2.length = xn2) := hxn
    have HYN2 : Hid (xs2.length = yn2) := hyn
    have HZN2 : Hid (rs2.length = zn2) := hzn
    clear hxn hyn hzn oQ oM oR HXN HYN HZN lg lx lr ig ix ir
    have r0 := r0.turn t78 q0
    have r1 := r1.turn t78 q1
    have r2 := r2.turn t78 q2
    have bC := bC.turn t78 q3
    have bS := bS.turn t78 q4
    have bM := bM.turn t78 q5
    have N := N.before t78 hNB
    have l78 := t78.size
    go_wp2_with (refine wpList_store_row rfl 35 (.tmp 8) (.tmp 23) rfl w5.heap.size #[.int .i64 kd2, .int .i64 sa2, .int .i64 mh2, .int .i64 mi2, .int .i64 wh2, .int .i64 su2, .slice xa2 xn2 xc2, .bool has2, .int .i64 o2, .slice ya2 yn2 yc2, .int .i64 nx2, .int .i64 md2, .int .i64 lc2, .slice za2 zn2 zc2] rfl rfl 35 #[.int .i64 kd, .int .i64 sa, .int .i64 mh, .int .i64 mi, .int .i64 wh, .int .i64 su, .slice xa xn xc, .bool has, .int .i64 o, .slice ya yn yc, .int .i64 nx, .int .i64 md, .int .i64 lc, .slice za zn zc] bM (by kernel_rfl) rfl (by kernel_rfl) ?_)
    have tQ : Turn (fun k => k = w5.heap.size) w8 (w8.setRow w5.heap.size #[.int .i64 kd2, .int .i64 sa2, .int .i64 mh2, .int .i64 mi2, .int .i64 wh2, .int .i64 su2, .slice xa2 xn2 xc2, .bool has2, .int .i64 o2, .slice ya2 yn2 yc2, .int .i64 nx2, .int .i64 md2, .int .i64 lc2, .slice za2 zn2 zc2]) := Turn.rowW (S := fun k => k = w5.heap.size) (Turn.refl _ w8) (show w5.heap.size = w5.heap.size from rfl) _
    have bM := bM.rowW #[.int .i64 kd2, .int .i64 sa2, .int .i64 mh2, .int .i64 mi2, .int .i64 wh2, .int .i64 su2, .slice xa2 xn2 xc2, .bool has2, .int .i64 o2, .slice ya2 yn2 yc2, .int .i64 nx2, .int .i64 md2, .int .i64 lc2, .slice za2 zn2 zc2]
    have r0 := r0.turn tQ e05
    have r1 := r1.turn tQ e15
    have r2 := r2.turn tQ e25
    have bC := bC.turn tQ (by omega)
    have bS := bS.turn tQ (by omega)
    have N := N.before tQ (fun i hi e => by omega)
    have oQ2 := oQ2.turn tQ (fun g hg e => by omega)
    have oM2 := oM2.turn tQ (fun g hg e => by omega)
    have oR2 := oR2.turn tQ (fun g hg e => by omega)
    clear tQ t78 hs7
    generalize w8.setRow w5.heap.size #[.int .i64 kd2, .int .i64 sa2, .int .i64 mh2, .int .i64 mi2, .int .i64 wh2, .int .i64 su2, .slice xa2 xn2 xc2, .bool has2, .int .i64 o2, .slice ya2 yn2 yc2, .int .i64 nx2, .int .i64 md2, .int .i64 lc2, .slice za2 zn2 zc2] = w9 at *
    go_upto_region 6 with fail
    have fin : ∀ X, Turn (fun k => k = w.heap.size ∨ k = w.heap.size + 1 ∨ k = w.heap.size + 1 + 1) w9 X → _ := fun X hT => (⟨ca, ci, ch, st, pe, ho, si, sp, kd2, sa2, mh2, mi2, wh2, su2, gs2, rs2, xs2, has2, o2, nx2, md2, lc2, xa2, ya2, za2, xn2, xc2, yn2, yc2, zn2, zc2, rfl, ((oQ2.turn hT (fun g hg e => by omega)).psB ig2), ((oM2.turn hT (fun g hg e => by omega)).nsB7 ix2), ((oR2.turn hT (fun g hg e => by omega)).psB ir2), HXN2.out, HYN2.out, HZN2.out, lg2, lx2, lr2, N.before hT (fun i hi e => by omega)⟩ : HearAns w (.returned (.tuple #[.agg #[.int .i64 ca, .int .i64 ci, .int .i64 ch], .agg #[.int .i64 st, .int .i64 pe, .int .i64 ho, .int .i64 si, .int .i64 sp], .agg #[.int .i64 kd2, .int .i64 sa2, .int .i64 mh2, .int .i64 mi2, .int .i64 wh2, .int .i64 su2, .slice xa2 xn2 xc2, .bool has2, .int .i64 o2, .slice ya2 yn2 yc2, .int .i64 nx2, .int .i64 md2, .int .i64 lc2, .slice za2 zn2 zc2]])) X)
    refine hw_start (n := 6) (S := fun W => (Blk W w1.heap.size 25 #[.int .i64 ca, .int .i64 ci, .int .i64 ch] ∧ Blk W (w1.heap.size + 1) 27 #[.int .i64 st, .int .i64 pe, .int .i64 ho, .int .i64 si, .int .i64 sp] ∧ Blk W w5.heap.size 35 #[.int .i64 kd2, .int .i64 sa2, .int .i64 mh2, .int .i64 mi2, .int .i64 wh2, .int .i64 su2, .slice xa2 xn2 xc2, .bool has2, .int .i64 o2, .slice ya2 yn2 yc2, .int .i64 nx2, .int .i64 md2, .int .i64 lc2, .slice za2 zn2 zc2]) ∧ ((∃ o, o.size = 3 ∧ Blk W w.heap.size 25 o) ∧ (∃ o, o.size = 5 ∧ Blk W (w.heap.size + 1) 27 o) ∧ (∃ o, o.size = 14 ∧ Blk W (w.heap.size + 1 + 1) 35 o)) ∧ Turn (fun k => k = w.heap.size ∨ k = w.heap.size + 1 ∨ k = w.heap.size + 1 + 1) w9 W) rfl (by kernel_rfl) ⟨⟨bC, bS, bM⟩, ⟨⟨_, rfl, r0⟩, ⟨_, rfl, r1⟩, ⟨_, rfl, r2⟩⟩, Turn.drewW (Turn.refl _ _)⟩ (fun hH => ?_)
    refine hw_take 0 (some 24) (.agg #[.int .i64 ca, .int .i64 ci, .int .i64 ch]) rfl rfl (by kernel_rfl) (by kernel_rfl) (by kernel_rfl) (fun _ _ _ h => h) (by rfl) hH (fun W hW => run_load_blk 25 (.tmp 5) rfl w1.heap.size rfl #[.int .i64 ca, .int .i64 ci, .int .i64 ch] _ hW.1.1 Try.underlying25 rfl (by kernel_rfl)) ?_
    simp only [Act.put, List.setIfInBounds_toArray, List.set_cons_zero, List.set_cons_succ]
    refine hw_take 1 (some 25) (.agg #[.int .i64 st, .int .i64 pe, .int .i64 ho, .int .i64 si, .int .i64 sp]) rfl rfl (by kernel_rfl) (by kernel_rfl) (by kernel_rfl) (fun _ _ _ h => h) (by rfl) hH (fun W hW => run_load_blk 27 (.tmp 6) rfl (w1.heap.size + 1) rfl #[.int .i64 st, .int .i64 pe, .int .i64 ho, .int .i64 si, .int .i64 sp] _ hW.1.2.1 Try.underlying27 rfl (by kernel_rfl)) ?_
    simp only [Act.put, List.setIfInBounds_toArray, List.set_cons_zero, List.set_cons_succ]
    refine hw_take 2 (some 26) (.agg #[.int .i64 kd2, .int .i64 sa2, .int .i64 mh2, .int .i64 mi2, .int .i64 wh2, .int .i64 su2, .slice xa2 xn2 xc2, .bool has2, .int .i64 o2, .slice ya2 yn2 yc2, .int .i64 nx2, .int .i64 md2, .int .i64 lc2, .slice za2 zn2 zc2]) rfl rfl (by kernel_rfl) (by kernel_rfl) (by kernel_rfl) (fun _ _ _ h => h) (by rfl) hH (fun W hW => run_load_blk 35 (.tmp 8) rfl w5.heap.size rfl #[.int .i64 kd2, .int .i64 sa2, .int .i64 mh2, .int .i64 mi2, .int .i64 wh2, .int .i64 su2, .slice xa2 xn2 xc2, .bool has2, .int .i64 o2, .slice ya2 yn2 yc2, .int .i64 nx2, .int .i64 md2, .int .i64 lc2, .slice za2 zn2 zc2] _ hW.1.2.2 Try.underlying35 rfl (by kernel_rfl)) ?_
    simp only [Act.put, List.setIfInBounds_toArray, List.set_cons_zero, List.set_cons_succ]
    refine hw_call 3 none rfl rfl (by kernel_rfl) (by rfl) (fun K hK => ?_)
    obtain ⟨⟨sC, sS, sM⟩, ⟨⟨ob0, zb0, qb0⟩, ⟨ob1, zb1, qb1⟩, ⟨ob2, zb2, qb2⟩⟩, tt⟩ := hH
    refine hw_store 25 (.tmp 2) (.tmp 24) rfl rfl w.heap.size #[.int .i64 ca, .int .i64 ci, .int .i64 ch] ob0 rfl rfl qb0 (by kernel_rfl) zb0 (by kernel_rfl) ?_
    have d0 := qb0.rowW #[.int .i64 ca, .int .i64 ci, .int .i64 ch]
    refine hK.out _ _ ⟨⟨sC.rowO (fun e => e03 e.symm) _, sS.rowO (fun e => e04 e.symm) _, sM.rowO (fun e => e05 e.symm) _⟩, ⟨⟨_, rfl, qb0.rowW _⟩, ⟨_, zb1, qb1.rowO e10 _⟩, ⟨_, zb2, qb2.rowO e20 _⟩⟩, tt.rowW (Or.inl rfl) _⟩ (fun hH0 => ?_)
    simp only [Act.put]
    refine hw_call 4 none rfl rfl (by kernel_rfl) (by rfl) (fun K hK => ?_)
    obtain ⟨⟨sC, sS, sM⟩, ⟨⟨ob0, zb0, qb0⟩, ⟨ob1, zb1, qb1⟩, ⟨ob2, zb2, qb2⟩⟩, tt⟩ := hH0
    refine hw_store 27 (.tmp 3) (.tmp 25) rfl rfl (w.heap.size + 1) #[.int .i64 st, .int .i64 pe, .int .i64 ho, .int .i64 si, .int .i64 sp] ob1 rfl rfl qb1 (by kernel_rfl) zb1 (by kernel_rfl) ?_
    have d1 := qb1.rowW #[.int .i64 st, .int .i64 pe, .int .i64 ho, .int .i64 si, .int .i64 sp]
    have d0 := d0.rowO (B := (w.heap.size + 1)) e01 #[.int .i64 st, .int .i64 pe, .int .i64 ho, .int .i64 si, .int .i64 sp]
    refine hK.out _ _ ⟨⟨sC.rowO (fun e => e13 e.symm) _, sS.rowO (fun e => e14 e.symm) _, sM.rowO (fun e => e15 e.symm) _⟩, ⟨⟨_, zb0, qb0.rowO e01 _⟩, ⟨_, rfl, qb1.rowW _⟩, ⟨_, zb2, qb2.rowO e21 _⟩⟩, tt.rowW (Or.inr (Or.inl rfl)) _⟩ (fun hH1 => ?_)
    simp only [Act.put]
    refine hw_call 5 none rfl rfl (by kernel_rfl) (by rfl) (fun K hK => ?_)
    obtain ⟨⟨sC, sS, sM⟩, ⟨⟨ob0, zb0, qb0⟩, ⟨ob1, zb1, qb1⟩, ⟨ob2, zb2, qb2⟩⟩, tt⟩ := hH1
    refine hw_store 35 (.tmp 4) (.tmp 26) rfl rfl (w.heap.size + 1 + 1) #[.int .i64 kd2, .int .i64 sa2, .int .i64 mh2, .int .i64 mi2, .int .i64 wh2, .int .i64 su2, .slice xa2 xn2 xc2, .bool has2, .int .i64 o2, .slice ya2 yn2 yc2, .int .i64 nx2, .int .i64 md2, .int .i64 lc2, .slice za2 zn2 zc2] ob2 rfl rfl qb2 (by kernel_rfl) zb2 (by kernel_rfl) ?_
    have d2 := qb2.rowW #[.int .i64 kd2, .int .i64 sa2, .int .i64 mh2, .int .i64 mi2, .int .i64 wh2, .int .i64 su2, .slice xa2 xn2 xc2, .bool has2, .int .i64 o2, .slice ya2 yn2 yc2, .int .i64 nx2, .int .i64 md2, .int .i64 lc2, .slice za2 zn2 zc2]
    have d0 := d0.rowO (B := (w.heap.size + 1 + 1)) e02 #[.int .i64 kd2, .int .i64 sa2, .int .i64 mh2, .int .i64 mi2, .int .i64 wh2, .int .i64 su2, .slice xa2 xn2 xc2, .bool has2, .int .i64 o2, .slice ya2 yn2 yc2, .int .i64 nx2, .int .i64 md2, .int .i64 lc2, .slice za2 zn2 zc2]
    have d1 := d1.rowO (B := (w.heap.size + 1 + 1)) e12 #[.int .i64 kd2, .int .i64 sa2, .int .i64 mh2, .int .i64 mi2, .int .i64 wh2, .int .i64 su2, .slice xa2 xn2 xc2, .bool has2, .int .i64 o2, .slice ya2 yn2 yc2, .int .i64 nx2, .int .i64 md2, .int .i64 lc2, .slice za2 zn2 zc2]
    refine hK.out _ _ ⟨⟨sC.rowO (fun e => e23 e.symm) _, sS.rowO (fun e => e24 e.symm) _, sM.rowO (fun e => e25 e.symm) _⟩, ⟨⟨_, zb0, qb0.rowO e02 _⟩, ⟨_, zb1, qb1.rowO e12 _⟩, ⟨_, rfl, qb2.rowW _⟩⟩, tt.rowW (Or.inr (Or.inr rfl)) _⟩ (fun hH2 => ?_)
    simp only [Act.put]
    refine wpAnyH_done (by kernel_rfl) ?_ _
    go_wp2
    refine bodyPost_ret (v := .tuple #[.agg #[.int .i64 ca, .int .i64 ci, .int .i64 ch], .agg #[.int .i64 st, .int .i64 pe, .int .i64 ho, .int .i64 si, .int .i64 sp], .agg #[.int .i64 kd2, .int .i64 sa2, .int .i64 mh2, .int .i64 mi2, .int .i64 wh2, .int .i64 su2, .slice xa2 xn2 xc2, .bool has2, .int .i64 o2, .slice ya2 yn2 yc2, .int .i64 nx2, .int .i64 md2, .int .i64 lc2, .slice za2 zn2 zc2]]) (results_row3 Try.results5 rfl rfl rfl d0 d1 d2 ⟨_, Try.underlying25⟩ ⟨_, Try.underlying27⟩ ⟨_, Try.underlying35⟩ (by kernel_rfl) (by kernel_rfl) (by kernel_rfl)) rfl ?_
    exact fin _ hH2.2.2


end Go.Proofs.Yteniieagcehmpaa
