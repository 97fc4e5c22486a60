/- What is proved here: bounds of what the reading of bytes as an update tells. What is proved here: what the copying, the comparing and the counting of a message answer, for every lists of at most 1048576 elements. What is proved here: what the comparing, the marking and the looking for marks of what ParseMessage answers do, for lists of at most 1048576 elements. What is proved here: for every frame the law on ParseMessage returns true, and the frame reads as it did. No condition. -/
import Derived.Test.YtnhkmgibppiimaaPuLaw2
import Derived.Test.YtnhkmgibppiimaaMsFn2
import Derived.Test.YtnhkmgibppiimaaMpAllM
import Derived.Test.YtnhkmgibppiimaaOpen
import Derived.Test.YtnhkmgibppiimaaPackFn
import Derived.Deep.RegionHeld3
namespace Go.Proofs.Ytnhkmgibppiimaa
open Go.RowKit Go.Sort
set_option linter.unusedVariables false

theorem rdP_le : ∀ zs : List Int, (rdP zs).length ≤ zs.length
  | a :: b :: c :: r => by have := rdP_le r; simp [rdP]; omega
  | [] => by simp [rdP]
  | [_] => by simp [rdP]
  | [_, _] => by simp [rdP]
theorem bdZ (c : Int) : Bd (puZ c) := ⟨by simp [puZ], by simp [puZ], by simp [puZ], by simp [puZ], by simp [puZ], by simp [puZ]⟩
theorem bdS {L : List (Int × Int)} (h : ∀ q ∈ L, In6 q.1 ∧ In6 q.2) (hl : L.length ≤ 1048576) : Bd (puS L) := ⟨h, by simp [puS], by simp [puS], hl, by simp [puS], by simp [puS]⟩
theorem bdU {L : List (Int × Int)} (h : ∀ q ∈ L, In6 q.1 ∧ In6 q.2) (hl : L.length ≤ 1048576) : Bd (puU L) := ⟨h, by simp [puU], by simp [puU], hl, by simp [puU], by simp [puU]⟩
theorem rdP_in {zs : List Int} (h : ∀ z ∈ zs, 0 ≤ z ∧ z ≤ 255) : ∀ p ∈ rdP zs, In6 p.1 ∧ In6 p.2 := by
  intro p hp
  have := rdP_bd zs h p hp
  unfold In6; omega
theorem rdU_bd (gs : List (Int × Int)) (ls : List Int) (hg : ∀ q ∈ gs, In6 q.1 ∧ In6 q.2) (hgl : gs.length ≤ 1048576) (hz : ∀ z ∈ ls, 0 ≤ z ∧ z ≤ 255) (hl : ls.length ≤ 1048576) : Bd (rdU gs ls) := by
  have ht : ∀ q ∈ gs.take 8, In6 q.1 ∧ In6 q.2 := fun q hq => hg q (List.mem_of_mem_take hq)
  have htl : (gs.take 8).length ≤ 1048576 := by rw [List.length_take]; omega
  unfold rdU
  split
  · split
    · exact bdU hg hgl
    · exact bdS ht htl
  · rename_i z h0
    have hb := hz z (List.mem_of_getElem? h0)
    split
    · exact bdS ht htl
    · have hr := rdP_in (zs := ls.drop (8 + 2 * z.toNat)) (fun x hx => hz x (List.mem_of_mem_drop hx))
      split
      · refine ⟨hg, ?_, hr, hgl, ?_, ?_⟩
        · intro x hx
          unfold puA nsR at hx
          obtain ⟨i, _, rfl⟩ := List.mem_map.1 hx
          have := numAt_bd2 ls hz (1 + 2 * i)
          unfold In6; omega
        · show (nsR ls z.toNat).length ≤ _
          rw [nsR_len]; omega
        · show (rdP (ls.drop (8 + 2 * z.toNat))).length ≤ _
          have := rdP_le (ls.drop (8 + 2 * z.toNat))
          rw [List.length_drop] at this
          omega
      · refine bdS ?_ ?_
        · intro q hq
          rcases List.mem_append.1 (List.mem_of_mem_take hq) with h | h
          · exact hg q h
          · exact hr q (List.mem_filter.1 h).1
        · rw [List.length_take]; omega
theorem pu_bd (zs : List Int) (hz : ∀ z ∈ zs, 0 ≤ z ∧ z ≤ 255) (hl : zs.length ≤ 1048576) : Bd (pu zs) := by
  unfold pu
  split
  · exact bdZ 5
  · rename_i z h0
    split
    · exact bdZ 5
    · split
      · exact bdZ 3
      · refine rdU_bd _ _ (rdP_in (fun x hx => hz x (List.mem_of_mem_drop (List.mem_of_mem_take hx)))) ?_ (fun x hx => hz x (List.mem_of_mem_drop hx)) (by rw [List.length_drop]; omega)
        have := rdP_le ((zs.drop 1).take (z.toNat * 3))
        rw [List.length_take, List.length_drop] at this
        show (rdP ((zs.drop 1).take (z.toNat * 3))).length ≤ _
        omega

end Go.Proofs.Ytnhkmgibppiimaa

namespace Go.Proofs.Ytnhkmgibppiimaa
open Go.RowKit Go.Sort
set_option linter.unusedVariables false

set_option maxHeartbeats 1600000 in
theorem eqMs_any (ga a ra gb b rb : Option Addr) (gn gc n c rn rc gd d rd : Nat) (has : Bool) (o nx md lc : Int) (gs rs : List (Int × Int)) (xs : List Int) (kd sa ho si wh su : Int) (w : World)
    (hg : PsAt w ga gs) (hx : NsAt w a xs) (hr : PsAt w ra rs) (kg : PsAt w gb gs) (kx : NsAt w b xs) (kr : PsAt w rb rs) (hgn : gs.length = gn) (hn : xs.length = n) (hrn : rs.length = rn) (hm1 : gn ≤ 1048576) (hm2 : n ≤ 1048576) (hm3 : rn ≤ 1048576) :
    Calls Try.prog 33 #[.agg #[.int .i64 kd, .int .i64 sa, .int .i64 ho, .int .i64 si, .int .i64 wh, .int .i64 su, .slice ga gn gc, .bool has, .int .i64 o, .slice a n c, .int .i64 nx, .int .i64 md, .int .i64 lc, .slice ra rn rc], .agg #[.int .i64 kd, .int .i64 sa, .int .i64 ho, .int .i64 si, .int .i64 wh, .int .i64 su, .slice gb gn gd, .bool has, .int .i64 o, .slice b n d, .int .i64 nx, .int .i64 md, .int .i64 lc, .slice rb rn rd]] w fun e w' => e = .returned (.bool true) ∧ New w w' := by
  have hw := ((New.refl w).alloc (.cells #[.int .i64 kd, .int .i64 sa, .int .i64 ho, .int .i64 si, .int .i64 wh, .int .i64 su, .slice ga gn gc, .bool has, .int .i64 o, .slice a n c, .int .i64 nx, .int .i64 md, .int .i64 lc, .slice ra rn rc] 33)).alloc (.cells #[.int .i64 kd, .int .i64 sa, .int .i64 ho, .int .i64 si, .int .i64 wh, .int .i64 su, .slice gb gn gd, .bool has, .int .i64 o, .slice b n d, .int .i64 nx, .int .i64 md, .int .i64 lc, .slice rb rn rd] 33)
  have z1 : (kd != kd) = false := by simp
  have z2 : (sa != sa) = false := by simp
  have z3 : (ho != ho) = false := by simp
  have z4 : (si != si) = false := by simp
  have z5 : (wh != wh) = false := by simp
  have z6 : (su != su) = false := by simp
  go_enter Try.func33, Try.ntmps33
  go_wp2_with fail
  refine (eqUp_any ga a ra gb b rb gn gc n c rn rc gd d rd has o nx md lc gs rs xs _ (hg.new hw) (hx.new hw) (hr.new hw) (kg.new hw) (kx.new hw) (kr.new hw) hgn hn hrn hm1 hm2 hm3).mono ?_
  rintro e w1 ⟨rfl, hn1⟩
  go_wp2
  go_ret
  exact ⟨rfl, hw.trans hn1⟩

end Go.Proofs.Ytnhkmgibppiimaa

namespace Go.Proofs.Ytnhkmgibppiimaa
open Go.RowKit Go.Sort
set_option linter.unusedVariables false

set_option maxHeartbeats 3200000 in
theorem eqMR_any (H : MH) (p : PU) (x y z x' y' z' : Value) (lo lo' : Nat) (w : World) (h : Got w lo p x y z) (h' : Got w lo' p x' y' z') (hb : Bd p) :
    Calls Try.prog 9 #[mrV H p x y z, mrV H p x' y' z'] w fun e w' => e = .returned (.bool true) ∧ New w w' := by
  obtain ⟨ga, gc, rfl⟩ := h.g.slice
  obtain ⟨a, c, rfl⟩ := h.n.slice
  obtain ⟨ra, rc, rfl⟩ := h.r.slice
  obtain ⟨gb, gd, rfl⟩ := h'.g.slice
  obtain ⟨b, d, rfl⟩ := h'.n.slice
  obtain ⟨rb, rd, rfl⟩ := h'.r.slice
  have pg := h.g.psA hb.g
  have pn := h.n.nsA hb.n
  have pr := h.r.psA hb.r
  have qg := h'.g.psA hb.g
  have qn := h'.n.nsA hb.n
  have qr := h'.r.psA hb.r
  have l1 := hb.lg
  have l2 := hb.ln
  have l3 := hb.lr
  clear h h' hb
  obtain ⟨code, why, sub, kd, sa, ho, si, wh, su⟩ := H
  obtain ⟨pc, soft, gs, has, o, xs, nx, md, lc, rs⟩ := p
  unfold mrV
  simp only at *
  have hw := ((New.refl w).alloc (.cells #[.int .i64 code, .int .i64 why, .int .i64 sub, .int .i64 kd, .int .i64 sa, .int .i64 ho, .int .i64 si, .int .i64 wh, .int .i64 su, .slice ga gs.length gc, .bool has, .int .i64 o, .slice a xs.length c, .int .i64 nx, .int .i64 md, .int .i64 lc, .slice ra rs.length rc] 35)).alloc (.cells #[.int .i64 code, .int .i64 why, .int .i64 sub, .int .i64 kd, .int .i64 sa, .int .i64 ho, .int .i64 si, .int .i64 wh, .int .i64 su, .slice gb gs.length gd, .bool has, .int .i64 o, .slice b xs.length d, .int .i64 nx, .int .i64 md, .int .i64 lc, .slice rb rs.length rd] 35)
  have z1 : (code != code) = false := by simp
  have z2 : (why != why) = false := by simp
  have z3 : (sub != sub) = false := by simp
  have HG : Hid (gs.length = gs.length) := rfl
  go_enter Try.func9, Try.ntmps9
  go_wp2_with fail
  refine (eqMs_any ga a ra gb b rb gs.length gc xs.length c rs.length rc gd d rd has o nx md lc gs rs xs kd sa ho si wh su _ (pg.new hw) (pn.new hw) (pr.new hw) (qg.new hw) (qn.new hw) (qr.new hw) rfl rfl rfl l1 l2 l3).mono ?_
  rintro e w1 ⟨rfl, hn1⟩
  go_wp2
  go_ret
  exact ⟨rfl, hw.trans hn1⟩

set_option maxHeartbeats 3200000 in
theorem markMR_any (H : MH) (p : PU) (x y z : Value) (lo : Nat) (w : World) (h : Got w lo p x y z) (hb : Bd p) :
    Calls Try.prog 12 #[mrV H p x y z, .int .i64 1] w fun e w' => e = .returned (.int .i64 (mkE p)) ∧ Got w' lo (mkPU p) x y z ∧ Turn (fun k => x.ownBlock = some k ∨ y.ownBlock = some k ∨ z.ownBlock = some k) w w' := by
  obtain ⟨code, why, sub, kd, sa, ho, si, wh, su⟩ := H
  obtain ⟨pc, soft, gs, has, o, xs, nx, md, lc, rs⟩ := p
  have h0 : ∀ W, New w W → Got W lo ⟨0, false, gs, has, o, xs, nx, md, lc, rs⟩ x y z := fun W hN => ⟨h.g.new hN, h.n.new hN, h.r.new hN, h.gn, h.gr, h.nr⟩
  have hb0 : Bd ⟨0, false, gs, has, o, xs, nx, md, lc, rs⟩ := ⟨hb.g, hb.n, hb.r, hb.lg, hb.ln, hb.lr⟩
  have key := fun W hN => markUp_any x y z has o nx md lc gs rs xs lo W ⟨0, false, gs, has, o, xs, nx, md, lc, rs⟩ rfl (h0 W hN) hb0
  obtain ⟨ga, gc, rfl⟩ := h.g.slice
  obtain ⟨a, c, rfl⟩ := h.n.slice
  obtain ⟨ra, rc, rfl⟩ := h.r.slice
  simp only at *
  unfold mrV
  simp only
  have HE : Hid (mkE ⟨0, false, gs, has, o, xs, nx, md, lc, rs⟩ = mkE ⟨pc, soft, gs, has, o, xs, nx, md, lc, rs⟩) := rfl
  have inner : ∀ W, New w W → Calls Try.prog 34 #[.agg #[.int .i64 kd, .int .i64 sa, .int .i64 ho, .int .i64 si, .int .i64 wh, .int .i64 su, .slice ga gs.length gc, .bool has, .int .i64 o, .slice a xs.length c, .int .i64 nx, .int .i64 md, .int .i64 lc, .slice ra rs.length rc], .int .i64 1] W fun e w' => e = .returned (.int .i64 (mkE ⟨0, false, gs, has, o, xs, nx, md, lc, rs⟩)) ∧ Got w' lo (mkPU ⟨0, false, gs, has, o, xs, nx, md, lc, rs⟩) (.slice ga gs.length gc) (.slice a xs.length c) (.slice ra rs.length rc) ∧ Turn (fun k => (Value.slice ga gs.length gc).ownBlock = some k ∨ (Value.slice a xs.length c).ownBlock = some k ∨ (Value.slice ra rs.length rc).ownBlock = some k) W w' := by
    intro W hN
    have hw := (New.refl W).alloc (.cells #[.int .i64 kd, .int .i64 sa, .int .i64 ho, .int .i64 si, .int .i64 wh, .int .i64 su, .slice ga gs.length gc, .bool has, .int .i64 o, .slice a xs.length c, .int .i64 nx, .int .i64 md, .int .i64 lc, .slice ra rs.length rc] 33)
    have k1 := key _ (hN.trans hw)
    generalize mkE ⟨0, false, gs, has, o, xs, nx, md, lc, rs⟩ = E at *
    clear key h0 hb0 HE
    go_enter Try.func34, Try.ntmps34
    go_wp2_with fail
    refine k1.mono ?_
    rintro e w1 ⟨rfl, g1, t1⟩
    go_wp2
    go_ret
    exact ⟨rfl, g1, Turn.trans hw.turn t1 (fun _ _ e => e)⟩
  have hw := (New.refl w).alloc (.cells #[.int .i64 code, .int .i64 why, .int .i64 sub, .int .i64 kd, .int .i64 sa, .int .i64 ho, .int .i64 si, .int .i64 wh, .int .i64 su, .slice ga gs.length gc, .bool has, .int .i64 o, .slice a xs.length c, .int .i64 nx, .int .i64 md, .int .i64 lc, .slice ra rs.length rc] 35)
  have k1 := inner _ hw
  clear inner key
  generalize mkE ⟨0, false, gs, has, o, xs, nx, md, lc, rs⟩ = E at *
  clear h0 hb0
  go_enter Try.func12, Try.ntmps12
  go_wp2_with fail
  refine k1.mono ?_
  rintro e w1 ⟨rfl, g1, t1⟩
  go_wp2
  go_ret
  exact ⟨ret_i64 HE.out, ⟨g1.g, g1.n, g1.r, g1.gn, g1.gr, g1.nr⟩, Turn.trans hw.turn t1 (fun _ _ e => e)⟩

set_option maxHeartbeats 3200000 in
theorem heldMR_any (H : MH) (p : PU) (x y z : Value) (lo : Nat) (w : World) (h : Got w lo (mkPU p) x y z) (hb : Bd p) :
    Calls Try.prog 13 #[mrV H p x y z, .int .i64 1] w fun e w' => e = .returned (.int .i64 (mkE p)) ∧ New w w' := by
  obtain ⟨code, why, sub, kd, sa, ho, si, wh, su⟩ := H
  obtain ⟨pc, soft, gs, has, o, xs, nx, md, lc, rs⟩ := p
  have hb' := mkPU_bd hb
  obtain ⟨ga, gc, ex⟩ := h.g.slice
  obtain ⟨a, c, ey⟩ := h.n.slice
  obtain ⟨ra, rc, ez⟩ := h.r.slice
  subst ex
  subst ey
  subst ez
  have pg := h.g.psA hb'.g
  have pn := h.n.nsA hb'.n
  have pr := h.r.psA hb'.r
  have l1 := hb.lg
  have l2 := hb.ln
  have l3 := hb.lr
  unfold mkPU at pg pn pr ⊢
  simp only [mkP_len, mkN_len] at pg pn pr l1 l2 l3 ⊢
  unfold mrV
  simp only
  have HE : Hid (1 + 2 * (gs.length : Int) + xs.length + 2 * (rs.length : Int) = mkE ⟨pc, soft, gs, has, o, xs, nx, md, lc, rs⟩) := rfl
  have hE0 : ¬ mkE ⟨pc, soft, gs, has, o, xs, nx, md, lc, rs⟩ < 0 := by rw [← HE.out]; omega
  clear h hb hb'
  generalize mkE ⟨pc, soft, gs, has, o, xs, nx, md, lc, rs⟩ = E at *
  generalize gs.length = G at *
  generalize xs.length = N at *
  generalize rs.length = R at *
  have inner : ∀ W, New w W → Calls Try.prog 35 #[.agg #[.int .i64 kd, .int .i64 sa, .int .i64 ho, .int .i64 si, .int .i64 wh, .int .i64 su, .slice ga G gc, .bool has, .int .i64 o, .slice a N c, .int .i64 nx, .int .i64 md, .int .i64 lc, .slice ra R rc], .int .i64 1] W fun e w' => e = .returned (.int .i64 E) ∧ New W w' := by
    intro W hN
    have hw := (New.refl W).alloc (.cells #[.int .i64 kd, .int .i64 sa, .int .i64 ho, .int .i64 si, .int .i64 wh, .int .i64 su, .slice ga G gc, .bool has, .int .i64 o, .slice a N c, .int .i64 nx, .int .i64 md, .int .i64 lc, .slice ra R rc] 33)
    have hNN := hN.trans hw
    go_enter Try.func35, Try.ntmps35
    go_wp2_with fail
    refine (heldUp_any ga a ra G gc N c R rc has o nx md lc 1 _ (pg.new hNN) (pn.new hNN) (pr.new hNN) l1 l2 l3 (by omega) (by omega)).mono ?_
    rintro e w1 ⟨rfl, hn1⟩
    rw [HE.out]
    go_wp2
    go_ret
    exact ⟨rfl, hw.trans hn1⟩
  have hw := (New.refl w).alloc (.cells #[.int .i64 code, .int .i64 why, .int .i64 sub, .int .i64 kd, .int .i64 sa, .int .i64 ho, .int .i64 si, .int .i64 wh, .int .i64 su, .slice ga G gc, .bool has, .int .i64 o, .slice a N c, .int .i64 nx, .int .i64 md, .int .i64 lc, .slice ra R rc] 35)
  have k1 := inner _ hw
  clear inner
  go_enter Try.func13, Try.ntmps13
  go_wp2_with fail
  refine k1.mono ?_
  rintro e w1 ⟨rfl, hn1⟩
  go_wp2
  go_ret
  exact ⟨rfl, hw.trans hn1⟩

theorem pu_bd_zero : Bd (puZ 0) := ⟨by intro q hq; simp [puZ] at hq, by intro q hq; simp [puZ] at hq, by intro q hq; simp [puZ] at hq, by simp [puZ], by simp [puZ], by simp [puZ]⟩

theorem mp_bd (k : Int) (zs : List Int) (hz : ∀ z ∈ zs, 0 ≤ z ∧ z ≤ 255) (hn : zs.length ≤ 1048576) : Bd (mp k zs) := by
  have h0 : Bd (puZ 0) := pu_bd_zero
  unfold mp
  split
  · exact h0
  · split
    · unfold mpU
      split
      · exact h0
      · exact pu_bd zs hz hn
    · exact h0

end Go.Proofs.Ytnhkmgibppiimaa

namespace Go.Proofs.Ytnhkmgibppiimaa
open Go.ChangeShapes Go.WideShapes Go.ChangeAt Go.RowKit Go.Sort
set_option linter.unusedVariables false

theorem Got.turnM {w w' : World} {lo : Nat} {p : PU} {x y z : Value} {S : Nat → Prop} (h : Got w lo p x y z) (t : Turn S w w') (hS : ∀ g, (x.ownBlock = some g ∨ y.ownBlock = some g ∨ z.ownBlock = some g) → ¬ S g) : Got w' lo p x y z :=
  ⟨h.g.turnA t (fun g e => hS g (.inl e)), h.n.turnA t (fun g e => hS g (.inr (.inl e))), h.r.turnA t (fun g e => hS g (.inr (.inr e))), h.gn, h.gr, h.nr⟩
theorem Got.blkM {w : World} {lo : Nat} {p : PU} {x y z : Value} (h : Got w lo p x y z) : ∀ g, (x.ownBlock = some g ∨ y.ownBlock = some g ∨ z.ownBlock = some g) → lo ≤ g ∧ g < w.heap.size := by
  rintro g (e | e | e)
  · exact h.g.blk g e
  · exact h.n.blk g e
  · exact h.r.blk g e

set_option maxRecDepth 100000 in
set_option maxHeartbeats 12800000 in
theorem ams_walk (k : Int) (a : Option Addr) (n c : Nat) (zs : List Int) (w : World) (h : BsAt w a zs) (hn : zs.length = n) (hm : n ≤ maxLen) :
    Calls Try.prog 3 #[.agg #[.int .i64 k, .slice a n c]] w fun e w' => e = .returned (.bool true) ∧ New w w' := by
  have hw := (New.refl w).alloc (.cells #[.int .i64 k, .slice a n c] 24)
  by_cases hbig : 1048576 < n
  · go_enter Try.func3, Try.ntmps3
    go_wp2_with fail
    refine (szFrame_big k a n c 1048576 _ (Nat.le_refl _) hm hbig).mono ?_
    rintro e w1 ⟨rfl, hn1⟩
    go_wp2
    go_ret
    exact ⟨rfl, hw.trans hn1⟩
  · have hb : Hid (∀ z ∈ zs, 0 ≤ z ∧ z ≤ 255) := h.lt
    have hmn : n ≤ 1048576 := by omega
    have HN : Hid (zs.length = n) := hn
    have HBd : Bd (mp k zs) := mp_bd k zs h.lt (by omega)
    clear hm hbig hn
    generalize hP : mp k zs = P at *
    have HP : Hid (mp k zs = P) := hP
    generalize hH : mh k zs = H at *
    have HHe : Hid (mh k zs = H) := hH
    clear hP hH
    obtain ⟨code, why, sub, kd, sa, ho, si, wh, su⟩ := H
    obtain ⟨pc, soft, gs, has, o, xs, nx, md, lc, rs⟩ := P
    have bA := Blk.mk w w.heap.size 24 #[.int .i64 k, .slice a n c] rfl
    go_enter Try.func3, Try.ntmps3
    go_wp2_with fail
    refine (szFrame_ok k a n c 1048576 _ (Nat.le_refl _) hmn).mono ?_
    rintro e w1 ⟨rfl, hn1⟩
    have bA := bA.new hn1
    have N := hw.trans hn1
    have cA := bA.cells
    clear hn1 hw
    go_wp2_with fail
    refine (toFrame_any k a n c zs _ (h.new N) HN.out hmn).mono ?_
    rintro e w2 ⟨g2, rfl, hg2, ho2, hn2⟩
    go_wp2_with fail
    refine (specPMsg k _ n n zs _ (BsAt.of_own ho2 hb.out) HN.out (Nat.le_refl _) hmn).mono ?_
    rintro e w3 ⟨x2, y2, z2, rfl, hG2, hn3⟩
    rw [HP.out] at hG2 ⊢
    rw [HHe.out]
    obtain ⟨ga2, gc2, ex⟩ := hG2.g.slice
    obtain ⟨xa2, xc2, ey⟩ := hG2.n.slice
    obtain ⟨ra2, rc2, ez⟩ := hG2.r.slice
    subst ex
    subst ey
    subst ez
    simp only at hG2
    unfold mrV
    simp only
    have k2 := hG2.blkM
    have s2 := hn2.size
    have s3 := hn3.size
    have sN := N.size
    have lA := bA.lt
    have bA := (bA.new hn2).new hn3
    have N := (N.trans hn2).trans hn3
    clear cA ho2 hg2 hn2 hn3
    go_upto_region 6 with (refine wpList_store_row rfl 35 (.tmp 4) (.tmp 18) rfl w3.heap.size #[.int .i64 code, .int .i64 why, .int .i64 sub, .int .i64 kd, .int .i64 sa, .int .i64 ho, .int .i64 si, .int .i64 wh, .int .i64 su, .slice ga2 gs.length gc2, .bool has, .int .i64 o, .slice xa2 xs.length xc2, .int .i64 nx, .int .i64 md, .int .i64 lc, .slice ra2 rs.length rc2] rfl rfl 35 #[.int .i64 0, .int .i64 0, .int .i64 0, .int .i64 0, .int .i64 0, .int .i64 0, .int .i64 0, .int .i64 0, .int .i64 0, .slice none 0 0, .bool false, .int .i64 0, .slice none 0 0, .int .i64 0, .int .i64 0, .int .i64 0, .slice none 0 0] (Blk.mk w3 w3.heap.size 35 #[.int .i64 0, .int .i64 0, .int .i64 0, .int .i64 0, .int .i64 0, .int .i64 0, .int .i64 0, .int .i64 0, .int .i64 0, .slice none 0 0, .bool false, .int .i64 0, .slice none 0 0, .int .i64 0, .int .i64 0, .int .i64 0, .slice none 0 0] rfl) (by kernel_rfl) rfl (by kernel_rfl) ?_)
    have hal2 : New w3 ((w3.alloc (.cells #[.int .i64 0, .int .i64 0, .int .i64 0, .int .i64 0, .int .i64 0, .int .i64 0, .int .i64 0, .int .i64 0, .int .i64 0, .slice none 0 0, .bool false, .int .i64 0, .slice none 0 0, .int .i64 0, .int .i64 0, .int .i64 0, .slice none 0 0] 35)).setRow w3.heap.size #[.int .i64 code, .int .i64 why, .int .i64 sub, .int .i64 kd, .int .i64 sa, .int .i64 ho, .int .i64 si, .int .i64 wh, .int .i64 su, .slice ga2 gs.length gc2, .bool has, .int .i64 o, .slice xa2 xs.length xc2, .int .i64 nx, .int .i64 md, .int .i64 lc, .slice ra2 rs.length rc2]) := ((New.refl w3).alloc _).row (Nat.le_refl _) _
    have b2 : Blk ((w3.alloc (.cells #[.int .i64 0, .int .i64 0, .int .i64 0, .int .i64 0, .int .i64 0, .int .i64 0, .int .i64 0, .int .i64 0, .int .i64 0, .slice none 0 0, .bool false, .int .i64 0, .slice none 0 0, .int .i64 0, .int .i64 0, .int .i64 0, .slice none 0 0] 35)).setRow w3.heap.size #[.int .i64 code, .int .i64 why, .int .i64 sub, .int .i64 kd, .int .i64 sa, .int .i64 ho, .int .i64 si, .int .i64 wh, .int .i64 su, .slice ga2 gs.length gc2, .bool has, .int .i64 o, .slice xa2 xs.length xc2, .int .i64 nx, .int .i64 md, .int .i64 lc, .slice ra2 rs.length rc2]) w3.heap.size 35 #[.int .i64 code, .int .i64 why, .int .i64 sub, .int .i64 kd, .int .i64 sa, .int .i64 ho, .int .i64 si, .int .i64 wh, .int .i64 su, .slice ga2 gs.length gc2, .bool has, .int .i64 o, .slice xa2 xs.length xc2, .int .i64 nx, .int .i64 md, .int .i64 lc, .slice ra2 rs.length rc2] := (Blk.mk w3 w3.heap.size 35 #[.int .i64 0, .int .i64 0, .int .i64 0, .int .i64 0, .int .i64 0, .int .i64 0, .int .i64 0, .int .i64 0, .int .i64 0, .slice none 0 0, .bool false, .int .i64 0, .slice none 0 0, .int .i64 0, .int .i64 0, .int .i64 0, .slice none 0 0] rfl).row _
    have sz2 : ((w3.alloc (.cells #[.int .i64 0, .int .i64 0, .int .i64 0, .int .i64 0, .int .i64 0, .int .i64 0, .int .i64 0, .int .i64 0, .int .i64 0, .slice none 0 0, .bool false, .int .i64 0, .slice none 0 0, .int .i64 0, .int .i64 0, .int .i64 0, .slice none 0 0] 35)).setRow w3.heap.size #[.int .i64 code, .int .i64 why, .int .i64 sub, .int .i64 kd, .int .i64 sa, .int .i64 ho, .int .i64 si, .int .i64 wh, .int .i64 su, .slice ga2 gs.length gc2, .bool has, .int .i64 o, .slice xa2 xs.length xc2, .int .i64 nx, .int .i64 md, .int .i64 lc, .slice ra2 rs.length rc2]).heap.size = w3.heap.size + 1 := by simp [World.setRow]
    generalize ((w3.alloc (.cells #[.int .i64 0, .int .i64 0, .int .i64 0, .int .i64 0, .int .i64 0, .int .i64 0, .int .i64 0, .int .i64 0, .int .i64 0, .slice none 0 0, .bool false, .int .i64 0, .slice none 0 0, .int .i64 0, .int .i64 0, .int .i64 0, .slice none 0 0] 35)).setRow w3.heap.size #[.int .i64 code, .int .i64 why, .int .i64 sub, .int .i64 kd, .int .i64 sa, .int .i64 ho, .int .i64 si, .int .i64 wh, .int .i64 su, .slice ga2 gs.length gc2, .bool has, .int .i64 o, .slice xa2 xs.length xc2, .int .i64 nx, .int .i64 md, .int .i64 lc, .slice ra2 rs.length rc2]) = u2 at *
    have bA := bA.new hal2
    have N := N.trans hal2
    have G2 := hG2.new hal2
    clear hG2 hal2
    have cA := bA.cells
    go_wp2_with fail
    refine (toFrame_any k a n c zs _ (h.new N) HN.out hmn).mono ?_
    rintro e w4 ⟨g3, rfl, hg3, ho3, hn4⟩
    have lt3 := (ho3.lt g3 rfl).2
    have hal : New w4 (w4.alloc (.cells #[.int .i64 k, .slice (some ⟨g3, 0, none⟩) n n] 37)) := (New.refl w4).alloc _
    have bF := Blk.mk w4 w4.heap.size 37 #[.int .i64 k, .slice (some ⟨g3, 0, none⟩) n n] rfl
    have s4 := hn4.size
    have hnn := hn4.trans hal
    have bA := bA.new hnn
    have b2 := b2.new hnn
    have G2 := G2.new hnn
    have N := N.trans hnn
    have oA := (OwAt.of_own ho3).new hal
    clear cA ho3 hn4 hal hnn
    go_upto_region 7 with fail
    generalize (w4.alloc (.cells #[.int .i64 k, .slice (some ⟨g3, 0, none⟩) n n] 37)) = w5 at *
    have lF := bF.lt
    have cF := bF.cells
    go_wp2_with fail
    refine (implPMsg k _ n n zs _ (oA.bs hb.out) HN.out (Nat.le_refl _) hmn).mono ?_
    rintro e w6 ⟨x4, y4, z4, rfl, hG4, hn6⟩
    rw [HP.out] at hG4 ⊢
    rw [HHe.out]
    obtain ⟨ga4, gc4, ex⟩ := hG4.g.slice
    obtain ⟨xa4, xc4, ey⟩ := hG4.n.slice
    obtain ⟨ra4, rc4, ez⟩ := hG4.r.slice
    subst ex
    subst ey
    subst ez
    simp only at hG4
    unfold mrV
    simp only
    have k4 := hG4.blkM
    have s6 := hn6.size
    have bA := bA.new hn6
    have b2 := b2.new hn6
    have bF := bF.new hn6
    have G2 := G2.new hn6
    have oA := oA.new hn6
    have N := N.trans hn6
    clear cF hn6
    go_upto_region 8 with (refine wpList_store_row rfl 35 (.tmp 6) (.tmp 22) rfl w6.heap.size #[.int .i64 code, .int .i64 why, .int .i64 sub, .int .i64 kd, .int .i64 sa, .int .i64 ho, .int .i64 si, .int .i64 wh, .int .i64 su, .slice ga4 gs.length gc4, .bool has, .int .i64 o, .slice xa4 xs.length xc4, .int .i64 nx, .int .i64 md, .int .i64 lc, .slice ra4 rs.length rc4] rfl rfl 35 #[.int .i64 0, .int .i64 0, .int .i64 0, .int .i64 0, .int .i64 0, .int .i64 0, .int .i64 0, .int .i64 0, .int .i64 0, .slice none 0 0, .bool false, .int .i64 0, .slice none 0 0, .int .i64 0, .int .i64 0, .int .i64 0, .slice none 0 0] (Blk.mk w6 w6.heap.size 35 #[.int .i64 0, .int .i64 0, .int .i64 0, .int .i64 0, .int .i64 0, .int .i64 0, .int .i64 0, .int .i64 0, .int .i64 0, .slice none 0 0, .bool false, .int .i64 0, .slice none 0 0, .int .i64 0, .int .i64 0, .int .i64 0, .slice none 0 0] rfl) (by kernel_rfl) rfl (by kernel_rfl) ?_)
    have hal4 : New w6 ((w6.alloc (.cells #[.int .i64 0, .int .i64 0, .int .i64 0, .int .i64 0, .int .i64 0, .int .i64 0, .int .i64 0, .int .i64 0, .int .i64 0, .slice none 0 0, .bool false, .int .i64 0, .slice none 0 0, .int .i64 0, .int .i64 0, .int .i64 0, .slice none 0 0] 35)).setRow w6.heap.size #[.int .i64 code, .int .i64 why, .int .i64 sub, .int .i64 kd, .int .i64 sa, .int .i64 ho, .int .i64 si, .int .i64 wh, .int .i64 su, .slice ga4 gs.length gc4, .bool has, .int .i64 o, .slice xa4 xs.length xc4, .int .i64 nx, .int .i64 md, .int .i64 lc, .slice ra4 rs.length rc4]) := ((New.refl w6).alloc _).row (Nat.le_refl _) _
    have b4 : Blk ((w6.alloc (.cells #[.int .i64 0, .int .i64 0, .int .i64 0, .int .i64 0, .int .i64 0, .int .i64 0, .int .i64 0, .int .i64 0, .int .i64 0, .slice none 0 0, .bool false, .int .i64 0, .slice none 0 0, .int .i64 0, .int .i64 0, .int .i64 0, .slice none 0 0] 35)).setRow w6.heap.size #[.int .i64 code, .int .i64 why, .int .i64 sub, .int .i64 kd, .int .i64 sa, .int .i64 ho, .int .i64 si, .int .i64 wh, .int .i64 su, .slice ga4 gs.length gc4, .bool has, .int .i64 o, .slice xa4 xs.length xc4, .int .i64 nx, .int .i64 md, .int .i64 lc, .slice ra4 rs.length rc4]) w6.heap.size 35 #[.int .i64 code, .int .i64 why, .int .i64 sub, .int .i64 kd, .int .i64 sa, .int .i64 ho, .int .i64 si, .int .i64 wh, .int .i64 su, .slice ga4 gs.length gc4, .bool has, .int .i64 o, .slice xa4 xs.length xc4, .int .i64 nx, .int .i64 md, .int .i64 lc, .slice ra4 rs.length rc4] := (Blk.mk w6 w6.heap.size 35 #[.int .i64 0, .int .i64 0, .int .i64 0, .int .i64 0, .int .i64 0, .int .i64 0, .int .i64 0, .int .i64 0, .int .i64 0, .slice none 0 0, .bool false, .int .i64 0, .slice none 0 0, .int .i64 0, .int .i64 0, .int .i64 0, .slice none 0 0] rfl).row _
    have sz4 : ((w6.alloc (.cells #[.int .i64 0, .int .i64 0, .int .i64 0, .int .i64 0, .int .i64 0, .int .i64 0, .int .i64 0, .int .i64 0, .int .i64 0, .slice none 0 0, .bool false, .int .i64 0, .slice none 0 0, .int .i64 0, .int .i64 0, .int .i64 0, .slice none 0 0] 35)).setRow w6.heap.size #[.int .i64 code, .int .i64 why, .int .i64 sub, .int .i64 kd, .int .i64 sa, .int .i64 ho, .int .i64 si, .int .i64 wh, .int .i64 su, .slice ga4 gs.length gc4, .bool has, .int .i64 o, .slice xa4 xs.length xc4, .int .i64 nx, .int .i64 md, .int .i64 lc, .slice ra4 rs.length rc4]).heap.size = w6.heap.size + 1 := by simp [World.setRow]
    generalize ((w6.alloc (.cells #[.int .i64 0, .int .i64 0, .int .i64 0, .int .i64 0, .int .i64 0, .int .i64 0, .int .i64 0, .int .i64 0, .int .i64 0, .slice none 0 0, .bool false, .int .i64 0, .slice none 0 0, .int .i64 0, .int .i64 0, .int .i64 0, .slice none 0 0] 35)).setRow w6.heap.size #[.int .i64 code, .int .i64 why, .int .i64 sub, .int .i64 kd, .int .i64 sa, .int .i64 ho, .int .i64 si, .int .i64 wh, .int .i64 su, .slice ga4 gs.length gc4, .bool has, .int .i64 o, .slice xa4 xs.length xc4, .int .i64 nx, .int .i64 md, .int .i64 lc, .slice ra4 rs.length rc4]) = u4 at *
    have bA := bA.new hal4
    have b2 := b2.new hal4
    have bF := bF.new hal4
    have G2 := G2.new hal4
    have oA := oA.new hal4
    have N := N.trans hal4
    have G4 := hG4.new hal4
    clear hG4 hal4
    apply wp_region_lit
    refine wpList_load_row rfl 35 (.tmp 6) rfl w6.heap.size rfl 35 #[.int .i64 code, .int .i64 why, .int .i64 sub, .int .i64 kd, .int .i64 sa, .int .i64 ho, .int .i64 si, .int .i64 wh, .int .i64 su, .slice ga4 gs.length gc4, .bool has, .int .i64 o, .slice xa4 xs.length xc4, .int .i64 nx, .int .i64 md, .int .i64 lc, .slice ra4 rs.length rc4] (0, 0) _ b4 Try.underlying35 rfl (by kernel_rfl) ?_
    refine wpList_load_row rfl 35 (.tmp 4) rfl w3.heap.size rfl 35 #[.int .i64 code, .int .i64 why, .int .i64 sub, .int .i64 kd, .int .i64 sa, .int .i64 ho, .int .i64 si, .int .i64 wh, .int .i64 su, .slice ga2 gs.length gc2, .bool has, .int .i64 o, .slice xa2 xs.length xc2, .int .i64 nx, .int .i64 md, .int .i64 lc, .slice ra2 rs.length rc2] (0, 0) _ b2 Try.underlying35 rfl (by kernel_rfl) ?_
    go_wp2_with fail
    refine (eqMR_any ⟨code, why, sub, kd, sa, ho, si, wh, su⟩ ⟨pc, soft, gs, has, o, xs, nx, md, lc, rs⟩ (.slice ga4 gs.length gc4) (.slice xa4 xs.length xc4) (.slice ra4 rs.length rc4) (.slice ga2 gs.length gc2) (.slice xa2 xs.length xc2) (.slice ra2 rs.length rc2) _ _ _ G4 G2 HBd).mono ?_
    rintro e w7 ⟨rfl, hn7⟩
    have bA := bA.new hn7
    have b2 := b2.new hn7
    have b4 := b4.new hn7
    have bF := bF.new hn7
    have G2 := G2.new hn7
    have G4 := G4.new hn7
    have oA := oA.new hn7
    have N := N.trans hn7
    clear hn7
    have cA := bA.cells
    have cF := bF.cells
    go_upto_region 10 with fail
    go_region_held3 (fun W => (∀ j, W.cell? ⟨w.heap.size, j, none⟩ = #[Value.int .i64 k, .slice a n c][j]?) ∧ (∀ j, W.cell? ⟨w4.heap.size, j, none⟩ = #[Value.int .i64 k, .slice (some ⟨g3, 0, none⟩) n n][j]?)) (first | exact ⟨cA, cF⟩ | exact ⟨cA8, cF8⟩ | exact ⟨cA9, cF9⟩)
      (first
        | (go_at_call 7; refine (toFrame_any k a n c zs _ ?_ HN.out hmn).mono ?_; exact (h.new N).new ((New.refl _).drew); rintro e w8 ⟨g8, rfl, hg8, ho8, hn8⟩; have D8 := ((New.refl _).drew).trans hn8; have cA8 := (bA.new D8).cells; have cF8 := (bF.new D8).cells)
        | (go_at_call 10; refine (eqFrame_any k _ _ n n n zs _ ?_ ?_ HN.out hmn).mono ?_; exact (oA.bs hb.out).new D8; exact BsAt.of_own ho8 hb.out; rintro e w9 ⟨rfl, hn9⟩; have D9 := D8.trans hn9; have cA9 := (bA.new D9).cells; have cF9 := (bF.new D9).cells))
    have bA := bA.new D9
    have b2 := b2.new D9
    have b4 := b4.new D9
    have bF := bF.new D9
    have G2 := G2.new D9
    have G4 := G4.new D9
    have oA := oA.new D9
    have N := N.trans D9
    clear cA cF cA8 cF8 cA9 cF9 D8 D9 hn8 hn9 ho8 hg8
    have cF := bF.cells
    go_wp2_with fail
    refine (markFr_any k (some ⟨g3, 0, none⟩) n n 1 zs _ oA (by omega) (by omega) (by omega)).mono ?_
    rintro e w10 ⟨rfl, oA10, ht⟩
    have bA := bA.turn ht (by rintro ⟨x, hx, e⟩; obtain rfl := Option.some.inj hx; simp only at e; omega)
    have b2 := b2.turn ht (by rintro ⟨x, hx, e⟩; obtain rfl := Option.some.inj hx; simp only at e; omega)
    have b4 := b4.turn ht (by rintro ⟨x, hx, e⟩; obtain rfl := Option.some.inj hx; simp only at e; omega)
    have G2 := G2.turnM ht (by rintro g hg ⟨x, hx, e⟩; obtain rfl := Option.some.inj hx; simp only at e; have := k2 g hg; omega)
    have G4 := G4.turnM ht (by rintro g hg ⟨x, hx, e⟩; obtain rfl := Option.some.inj hx; simp only at e; have := k4 g hg; omega)
    have N : New w w10 := N.before ht (by rintro i hi ⟨x, hx, e⟩; obtain rfl := Option.some.inj hx; simp only at e; omega)
    have hkp : ¬ (1 : Int) + (n : Int) < 0 := by omega
    clear cF oA oA10 ht bF
    have c2 := b2.cells
    have c4 := b4.cells
    go_wp2_with fail
    refine (eqMR_any ⟨code, why, sub, kd, sa, ho, si, wh, su⟩ ⟨pc, soft, gs, has, o, xs, nx, md, lc, rs⟩ (.slice ga4 gs.length gc4) (.slice xa4 xs.length xc4) (.slice ra4 rs.length rc4) (.slice ga2 gs.length gc2) (.slice xa2 xs.length xc2) (.slice ra2 rs.length rc2) _ _ _ G4 G2 HBd).mono ?_
    rintro e w11 ⟨rfl, hn11⟩
    have bA := bA.new hn11
    have b2 := b2.new hn11
    have b4 := b4.new hn11
    have G2 := G2.new hn11
    have G4 := G4.new hn11
    have N := N.trans hn11
    clear c2 c4 hn11
    go_upto_region 17 with fail
    apply wp_region_lit
    refine wpList_load_row rfl 35 (.tmp 6) rfl w6.heap.size rfl 35 #[.int .i64 code, .int .i64 why, .int .i64 sub, .int .i64 kd, .int .i64 sa, .int .i64 ho, .int .i64 si, .int .i64 wh, .int .i64 su, .slice ga4 gs.length gc4, .bool has, .int .i64 o, .slice xa4 xs.length xc4, .int .i64 nx, .int .i64 md, .int .i64 lc, .slice ra4 rs.length rc4] (0, 0) _ b4 Try.underlying35 rfl (by kernel_rfl) ?_
    go_wp2_with fail
    refine (markMR_any ⟨code, why, sub, kd, sa, ho, si, wh, su⟩ ⟨pc, soft, gs, has, o, xs, nx, md, lc, rs⟩ (.slice ga4 gs.length gc4) (.slice xa4 xs.length xc4) (.slice ra4 rs.length rc4) _ _ G4 HBd).mono ?_
    rintro e w12 ⟨rfl, G4, ht⟩
    have bA := bA.turn ht (fun e => by have := k4 _ e; omega)
    have b2 := b2.turn ht (fun e => by have := k4 _ e; omega)
    have b4 := b4.turn ht (fun e => by have := k4 _ e; omega)
    have G2 := G2.turnM ht (fun g hg e => by have := k4 _ e; have := k2 g hg; omega)
    have N : New w w12 := N.before ht (fun i hi e => by have := k4 _ e; omega)
    have hE : 0 ≤ mkE ⟨pc, soft, gs, has, o, xs, nx, md, lc, rs⟩ := by unfold mkE; simp only; omega
    generalize hEe : mkE ⟨pc, soft, gs, has, o, xs, nx, md, lc, rs⟩ = E at *
    have HE : Hid (mkE ⟨pc, soft, gs, has, o, xs, nx, md, lc, rs⟩ = E) := hEe
    have hEn : ¬ E < 0 := by omega
    have hEE : (E != E) = false := by simp
    clear ht hEe
    go_upto_region 19 with fail
    apply wp_region_lit
    refine wpList_load_row rfl 35 (.tmp 6) rfl w6.heap.size rfl 35 #[.int .i64 code, .int .i64 why, .int .i64 sub, .int .i64 kd, .int .i64 sa, .int .i64 ho, .int .i64 si, .int .i64 wh, .int .i64 su, .slice ga4 gs.length gc4, .bool has, .int .i64 o, .slice xa4 xs.length xc4, .int .i64 nx, .int .i64 md, .int .i64 lc, .slice ra4 rs.length rc4] (0, 0) _ b4 Try.underlying35 rfl (by kernel_rfl) ?_
    go_wp2_with fail
    refine (heldMR_any ⟨code, why, sub, kd, sa, ho, si, wh, su⟩ ⟨pc, soft, gs, has, o, xs, nx, md, lc, rs⟩ (.slice ga4 gs.length gc4) (.slice xa4 xs.length xc4) (.slice ra4 rs.length rc4) _ _ G4 HBd).mono ?_
    rintro e w13 ⟨rfl, hn13⟩
    rw [HE.out]
    have bA := bA.new hn13
    have b2 := b2.new hn13
    have b4 := b4.new hn13
    have G2 := G2.new hn13
    have G4 := G4.new hn13
    have N := N.trans hn13
    clear hn13
    have cA := bA.cells
    go_wp2_with fail
    refine (toFrame_any k a n c zs _ (h.new N) HN.out hmn).mono ?_
    rintro e w14 ⟨g14, rfl, hg14, ho14, hn14⟩
    go_wp2_with fail
    refine (implPMsg k _ n n zs _ (BsAt.of_own ho14 hb.out) HN.out (Nat.le_refl _) hmn).mono ?_
    rintro e w15 ⟨x7, y7, z7, rfl, hG7, hn15⟩
    rw [HP.out] at hG7 ⊢
    rw [HHe.out]
    obtain ⟨ga7, gc7, ex⟩ := hG7.g.slice
    obtain ⟨xa7, xc7, ey⟩ := hG7.n.slice
    obtain ⟨ra7, rc7, ez⟩ := hG7.r.slice
    subst ex
    subst ey
    subst ez
    simp only at hG7
    unfold mrV
    simp only
    have hnn := hn14.trans hn15
    have b2 := b2.new hnn
    have b4 := b4.new hnn
    have G2 := G2.new hnn
    have G4 := G4.new hnn
    have N := N.trans hnn
    clear cA ho14 hg14 hn14 hn15 hnn bA
    go_upto_region 25 with (refine wpList_store_row rfl 35 (.tmp 10) (.tmp 56) rfl w15.heap.size #[.int .i64 code, .int .i64 why, .int .i64 sub, .int .i64 kd, .int .i64 sa, .int .i64 ho, .int .i64 si, .int .i64 wh, .int .i64 su, .slice ga7 gs.length gc7, .bool has, .int .i64 o, .slice xa7 xs.length xc7, .int .i64 nx, .int .i64 md, .int .i64 lc, .slice ra7 rs.length rc7] rfl rfl 35 #[.int .i64 0, .int .i64 0, .int .i64 0, .int .i64 0, .int .i64 0, .int .i64 0, .int .i64 0, .int .i64 0, .int .i64 0, .slice none 0 0, .bool false, .int .i64 0, .slice none 0 0, .int .i64 0, .int .i64 0, .int .i64 0, .slice none 0 0] (Blk.mk w15 w15.heap.size 35 #[.int .i64 0, .int .i64 0, .int .i64 0, .int .i64 0, .int .i64 0, .int .i64 0, .int .i64 0, .int .i64 0, .int .i64 0, .slice none 0 0, .bool false, .int .i64 0, .slice none 0 0, .int .i64 0, .int .i64 0, .int .i64 0, .slice none 0 0] rfl) (by kernel_rfl) rfl (by kernel_rfl) ?_)
    have hal7 : New w15 ((w15.alloc (.cells #[.int .i64 0, .int .i64 0, .int .i64 0, .int .i64 0, .int .i64 0, .int .i64 0, .int .i64 0, .int .i64 0, .int .i64 0, .slice none 0 0, .bool false, .int .i64 0, .slice none 0 0, .int .i64 0, .int .i64 0, .int .i64 0, .slice none 0 0] 35)).setRow w15.heap.size #[.int .i64 code, .int .i64 why, .int .i64 sub, .int .i64 kd, .int .i64 sa, .int .i64 ho, .int .i64 si, .int .i64 wh, .int .i64 su, .slice ga7 gs.length gc7, .bool has, .int .i64 o, .slice xa7 xs.length xc7, .int .i64 nx, .int .i64 md, .int .i64 lc, .slice ra7 rs.length rc7]) := ((New.refl w15).alloc _).row (Nat.le_refl _) _
    have b7 : Blk ((w15.alloc (.cells #[.int .i64 0, .int .i64 0, .int .i64 0, .int .i64 0, .int .i64 0, .int .i64 0, .int .i64 0, .int .i64 0, .int .i64 0, .slice none 0 0, .bool false, .int .i64 0, .slice none 0 0, .int .i64 0, .int .i64 0, .int .i64 0, .slice none 0 0] 35)).setRow w15.heap.size #[.int .i64 code, .int .i64 why, .int .i64 sub, .int .i64 kd, .int .i64 sa, .int .i64 ho, .int .i64 si, .int .i64 wh, .int .i64 su, .slice ga7 gs.length gc7, .bool has, .int .i64 o, .slice xa7 xs.length xc7, .int .i64 nx, .int .i64 md, .int .i64 lc, .slice ra7 rs.length rc7]) w15.heap.size 35 #[.int .i64 code, .int .i64 why, .int .i64 sub, .int .i64 kd, .int .i64 sa, .int .i64 ho, .int .i64 si, .int .i64 wh, .int .i64 su, .slice ga7 gs.length gc7, .bool has, .int .i64 o, .slice xa7 xs.length xc7, .int .i64 nx, .int .i64 md, .int .i64 lc, .slice ra7 rs.length rc7] := (Blk.mk w15 w15.heap.size 35 #[.int .i64 0, .int .i64 0, .int .i64 0, .int .i64 0, .int .i64 0, .int .i64 0, .int .i64 0, .int .i64 0, .int .i64 0, .slice none 0 0, .bool false, .int .i64 0, .slice none 0 0, .int .i64 0, .int .i64 0, .int .i64 0, .slice none 0 0] rfl).row _
    have sz7 : ((w15.alloc (.cells #[.int .i64 0, .int .i64 0, .int .i64 0, .int .i64 0, .int .i64 0, .int .i64 0, .int .i64 0, .int .i64 0, .int .i64 0, .slice none 0 0, .bool false, .int .i64 0, .slice none 0 0, .int .i64 0, .int .i64 0, .int .i64 0, .slice none 0 0] 35)).setRow w15.heap.size #[.int .i64 code, .int .i64 why, .int .i64 sub, .int .i64 kd, .int .i64 sa, .int .i64 ho, .int .i64 si, .int .i64 wh, .int .i64 su, .slice ga7 gs.length gc7, .bool has, .int .i64 o, .slice xa7 xs.length xc7, .int .i64 nx, .int .i64 md, .int .i64 lc, .slice ra7 rs.length rc7]).heap.size = w15.heap.size + 1 := by simp [World.setRow]
    generalize ((w15.alloc (.cells #[.int .i64 0, .int .i64 0, .int .i64 0, .int .i64 0, .int .i64 0, .int .i64 0, .int .i64 0, .int .i64 0, .int .i64 0, .slice none 0 0, .bool false, .int .i64 0, .slice none 0 0, .int .i64 0, .int .i64 0, .int .i64 0, .slice none 0 0] 35)).setRow w15.heap.size #[.int .i64 code, .int .i64 why, .int .i64 sub, .int .i64 kd, .int .i64 sa, .int .i64 ho, .int .i64 si, .int .i64 wh, .int .i64 su, .slice ga7 gs.length gc7, .bool has, .int .i64 o, .slice xa7 xs.length xc7, .int .i64 nx, .int .i64 md, .int .i64 lc, .slice ra7 rs.length rc7]) = u7 at *
    have b2 := b2.new hal7
    have b4 := b4.new hal7
    have G2 := G2.new hal7
    have G4 := G4.new hal7
    have G7 := hG7.new hal7
    have N := N.trans hal7
    clear hG7 hal7
    apply wp_region_lit
    refine wpList_load_row rfl 35 (.tmp 10) rfl w15.heap.size rfl 35 #[.int .i64 code, .int .i64 why, .int .i64 sub, .int .i64 kd, .int .i64 sa, .int .i64 ho, .int .i64 si, .int .i64 wh, .int .i64 su, .slice ga7 gs.length gc7, .bool has, .int .i64 o, .slice xa7 xs.length xc7, .int .i64 nx, .int .i64 md, .int .i64 lc, .slice ra7 rs.length rc7] (0, 0) _ b7 Try.underlying35 rfl (by kernel_rfl) ?_
    refine wpList_load_row rfl 35 (.tmp 4) rfl w3.heap.size rfl 35 #[.int .i64 code, .int .i64 why, .int .i64 sub, .int .i64 kd, .int .i64 sa, .int .i64 ho, .int .i64 si, .int .i64 wh, .int .i64 su, .slice ga2 gs.length gc2, .bool has, .int .i64 o, .slice xa2 xs.length xc2, .int .i64 nx, .int .i64 md, .int .i64 lc, .slice ra2 rs.length rc2] (0, 0) _ b2 Try.underlying35 rfl (by kernel_rfl) ?_
    go_wp2_with fail
    refine (eqMR_any ⟨code, why, sub, kd, sa, ho, si, wh, su⟩ ⟨pc, soft, gs, has, o, xs, nx, md, lc, rs⟩ (.slice ga7 gs.length gc7) (.slice xa7 xs.length xc7) (.slice ra7 rs.length rc7) (.slice ga2 gs.length gc2) (.slice xa2 xs.length xc2) (.slice ra2 rs.length rc2) _ _ _ G7 G2 HBd).mono ?_
    rintro e w16 ⟨rfl, hn16⟩
    have b4 := b4.new hn16
    have G4 := G4.new hn16
    have N := N.trans hn16
    clear hn16 b2 b7 G2 G7
    go_upto_region 28 with fail
    apply wp_region_lit
    refine wpList_load_row rfl 35 (.tmp 6) rfl w6.heap.size rfl 35 #[.int .i64 code, .int .i64 why, .int .i64 sub, .int .i64 kd, .int .i64 sa, .int .i64 ho, .int .i64 si, .int .i64 wh, .int .i64 su, .slice ga4 gs.length gc4, .bool has, .int .i64 o, .slice xa4 xs.length xc4, .int .i64 nx, .int .i64 md, .int .i64 lc, .slice ra4 rs.length rc4] (0, 0) _ b4 Try.underlying35 rfl (by kernel_rfl) ?_
    go_wp2_with fail
    refine (heldMR_any ⟨code, why, sub, kd, sa, ho, si, wh, su⟩ ⟨pc, soft, gs, has, o, xs, nx, md, lc, rs⟩ (.slice ga4 gs.length gc4) (.slice xa4 xs.length xc4) (.slice ra4 rs.length rc4) _ _ G4 HBd).mono ?_
    rintro e w17 ⟨rfl, hn17⟩
    rw [HE.out]
    go_wp2
    go_ret
    exact ⟨rfl, N.trans hn17⟩


set_option maxRecDepth 100000 in
theorem ams_lifted (os : Os) (started : os.Started) (H : Type) (enc : TypeId × Value → H) :
    ReturnsInHanded {} Try.checked os 3 .any (Rows.fnExactParseMessageSpec.pre6 enc Try.prog Try.f3 Rows.fnExactParseMessageRow.domain false) (Rows.fnExactParseMessageSpec.post enc Try.prog Try.f3 false true false false) := by
  refine returnsInHanded_of_change (C := Try.checked) own started (by kernel_rfl) Try.func3
    (ChangeSpec.witness6 (enc := enc) (C := Try.checked) false ⟨#[], #[.agg #[.int .i64 0, .slice none 0 0]], []⟩ 8 (by kernel_rfl) (by kernel_rfl) (by kernel_rfl) (by kernel_rfl)) ?_
  intro W base args ds gs before hval0 hW hcnd _
  have hval : ∀ (j : Nat) t v, Try.f3.params[j]? = some t → args[j]? = some v → Value.okWide Try.prog W .any base t v := hval0
  have hW' := hW
  obtain ⟨p, q, hA0, hV, rfl, hfz, hnd⟩ := hW
  have hA : DataW.TrodAll enc Try.prog W 0 (fun _ => true) true Try.f3.params.toList args.toList ds p := hA0
  rw [Try.params3] at hA hval
  obtain ⟨v0, vs0, d0, ds0, p0, q0, hargs, rfl, rfl, h0, r0⟩ := trodAll_cons hA
  obtain ⟨rfl, rfl, rfl⟩ := trodAll_nil r0
  obtain rfl : args = #[v0] := by cases args; simp_all
  obtain ⟨rfl, rfl⟩ := trodVars_none hV
  have k0 := h0
  have lt0 : ∀ x ∈ p0, x.block < W.heap.size := by obtain ⟨m, hm⟩ := k0; exact DataW.trod_lt m _ _ _ hm
  obtain ⟨kn0, a0, len0, cap0, z0, rfl, wk0, b0, e0, m0⟩ := open_frame (hval 0 24 v0 rfl rfl) h0
  clear hA0 hval0
  refine (ams_walk kn0 a0 len0 cap0 z0 W b0 e0 m0.2).mono fun e W' ⟨he, new⟩ => ?_
  have bel := new.below
  subst he
  exact ⟨_, rfl, _, _, _, [], _, [], hW', trodAll_mk1 (shut_bool Try.underlying4 _), (trodAll_cons_mk (Below.trod laidOut (by kernel_rfl) (of_decide_eq_true (by kernel_rfl)) k0 bel lt0) trodAll_mk0), rfl, bel.frame _, fun h => by cases h⟩

theorem ams_holds : Rows.FnExactParseMessageSaid :=
  OpenClaim.holds_of_wide 3 Try.f3 rfl rfl rfl rfl rfl rfl rfl ⟨rfl, rfl, rfl, rfl, rfl⟩ rfl rfl rfl rfl rfl (by kernel_rfl) Try.func3 (by kernel_rfl)
    (of_decide_eq_true (by kernel_rfl)) (by unfold Func.isWrapper; first | (rw [if_pos (by decide +kernel)]; kernel_rfl) | (rw [if_neg (by decide +kernel)]; exact ⟨rfl, rfl⟩))
    (fun os started H enc _ => ams_lifted os started H enc)

end Go.Proofs.Ytnhkmgibppiimaa
