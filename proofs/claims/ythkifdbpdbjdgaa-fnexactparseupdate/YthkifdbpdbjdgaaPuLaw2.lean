/- What is proved here: what the comparing, the marking and the looking for marks in a whole answer of the reading of an update tell. -/
import Derived.Test.YthkifdbpdbjdgaaPuLaw
namespace Go.Proofs.Ythkifdbpdbjdgaa
open Go.RowKit Go.Sort
set_option linter.unusedVariables false

theorem OwQ.psA {w : World} {lo n c : Nat} {a : Option Addr} {L : List (Int × Int)} (h : OwQ w lo (.slice a n c) L) (hb : ∀ p ∈ L, In6 p.1 ∧ In6 p.2) : PsAt w a L := by
  obtain ⟨a', c', e, hp, -⟩ := h.ps hb
  simp only [Value.slice.injEq] at e
  obtain ⟨rfl, -, rfl⟩ := e
  exact hp
theorem OwM.nsA {w : World} {lo n c : Nat} {a : Option Addr} {L : List Int} (h : OwM w lo (.slice a n c) L) (hb : ∀ z ∈ L, In6 z) : NsAt w a L := by
  obtain ⟨a', c', e, hp, -⟩ := h.ns hb
  simp only [Value.slice.injEq] at e
  obtain ⟨rfl, -, rfl⟩ := e
  exact hp
theorem OwQ.turnA {w w' : World} {lo : Nat} {v : Value} {L : List (Int × Int)} {S : Nat → Prop} (h : OwQ w lo v L) (t : Turn S w w') (hS : ∀ g, v.ownBlock = some g → ¬ S g) : OwQ w' lo v L := by
  rcases h with h | ⟨g, c, h1, h2, h3⟩
  · exact .inl h
  · exact .inr ⟨g, c, h1, h2, h3.turn t (hS g (by rw [h1]; rfl))⟩
theorem OwM.turnA {w w' : World} {lo : Nat} {v : Value} {L : List Int} {S : Nat → Prop} (h : OwM w lo v L) (t : Turn S w w') (hS : ∀ g, v.ownBlock = some g → ¬ S g) : OwM w' lo v L := by
  rcases h with h | ⟨g, c, h1, h2, h3⟩
  · exact .inl h
  · exact .inr ⟨g, c, h1, h2, h3.turn t (hS g (by rw [h1]; rfl))⟩
theorem OwM.slice {w : World} {lo : Nat} {v : Value} {L : List Int} (h : OwM w lo v L) : ∃ a c, v = .slice a L.length c := by
  rcases h with ⟨rfl, rfl⟩ | ⟨g, c, rfl, _⟩
  · exact ⟨none, 0, rfl⟩
  · exact ⟨_, c, rfl⟩
theorem OwQ.slice {w : World} {lo : Nat} {v : Value} {L : List (Int × Int)} (h : OwQ w lo v L) : ∃ a c, v = .slice a L.length c := by
  rcases h with ⟨rfl, rfl⟩ | ⟨g, c, rfl, _⟩
  · exact ⟨none, 0, rfl⟩
  · exact ⟨_, c, rfl⟩

/-- Bounds of what is told. -/
structure Bd (p : PU) : Prop where
  g : ∀ q ∈ p.gs, In6 q.1 ∧ In6 q.2
  n : ∀ z ∈ p.xs, In6 z
  r : ∀ q ∈ p.rs, In6 q.1 ∧ In6 q.2
  lg : p.gs.length ≤ 1048576
  ln : p.xs.length ≤ 1048576
  lr : p.rs.length ≤ 1048576

set_option maxHeartbeats 1600000 in
theorem eqUR_any (p : PU) (x y z x' y' z' : Value) (lo lo' : Nat) (w : World) (h : Got w lo p x y z) (h' : Got w lo' p x' y' z') (hb : Bd p) :
    Calls Try.prog 15 #[puV p x y z, puV p x' y' z'] w fun e w' => e = .returned (.bool true) ∧ New w w' := by
  obtain ⟨ga, gc, rfl⟩ := h.g.slice
  obtain ⟨a, c, rfl⟩ := h.n.slice
  obtain ⟨ra, rc, rfl⟩ := h.r.slice
  obtain ⟨gb, gd, rfl⟩ := h'.g.slice
  obtain ⟨b, d, rfl⟩ := h'.n.slice
  obtain ⟨rb, rd, rfl⟩ := h'.r.slice
  have pg := h.g.psA hb.g
  have pn := h.n.nsA hb.n
  have pr := h.r.psA hb.r
  have qg := h'.g.psA hb.g
  have qn := h'.n.nsA hb.n
  have qr := h'.r.psA hb.r
  have l1 := hb.lg
  have l2 := hb.ln
  have l3 := hb.lr
  clear h h' hb
  obtain ⟨code, soft, gs, has, o, xs, nx, md, lc, rs⟩ := p
  unfold puV
  simp only at *
  have hw := ((New.refl w).alloc (.cells #[.int .i64 code, .bool soft, .slice ga gs.length gc, .bool has, .int .i64 o, .slice a xs.length c, .int .i64 nx, .int .i64 md, .int .i64 lc, .slice ra rs.length rc] 32)).alloc (.cells #[.int .i64 code, .bool soft, .slice gb gs.length gd, .bool has, .int .i64 o, .slice b xs.length d, .int .i64 nx, .int .i64 md, .int .i64 lc, .slice rb rs.length rd] 32)
  have hsb : (soft != soft) = false := by cases soft <;> rfl
  have HG : Hid (gs.length = gs.length) := rfl
  go_enter Try.func15, Try.ntmps15
  go_wp2_with fail
  refine (eqUp_any ga a ra gb b rb gs.length gc xs.length c rs.length rc gd d rd has o nx md lc gs rs xs _ (pg.new hw) (pn.new hw) (pr.new hw) (qg.new hw) (qn.new hw) (qr.new hw) rfl rfl rfl l1 l2 l3).mono ?_
  rintro e w1 ⟨rfl, hn1⟩
  go_wp2
  go_ret
  exact ⟨rfl, hw.trans hn1⟩

/-- What is told, with its lists marked. -/
def mkPU (p : PU) : PU := { p with gs := mkP 1 p.gs.length, xs := mkN (1 + 2 * (p.gs.length : Int)) p.xs.length, rs := mkP (1 + 2 * (p.gs.length : Int) + p.xs.length) p.rs.length }
theorem mkPU_bd {p : PU} (hb : Bd p) : Bd (mkPU p) := by
  have l1 := hb.lg
  have l2 := hb.ln
  have l3 := hb.lr
  refine ⟨mkP_bd _ _ (by omega) (by omega) l1, mkN_bd _ _ (by omega) (by omega) l2, mkP_bd _ _ (by omega) (by omega) l3, ?_, ?_, ?_⟩
  · show (mkP 1 p.gs.length).length ≤ _; rw [mkP_len]; exact l1
  · show (mkN _ p.xs.length).length ≤ _; rw [mkN_len]; exact l2
  · show (mkP _ p.rs.length).length ≤ _; rw [mkP_len]; exact l3
def mkE (p : PU) : Int := 1 + 2 * (p.gs.length : Int) + p.xs.length + 2 * (p.rs.length : Int)

theorem markAtM_any (o nx md lc : Int) (v : Value) (L : List Int) (lo n : Nat) (s : Int) (w : World) (h : OwM w lo v L) (hn : L.length = n) (hv : ∃ a m c, v = .slice a m c) (hm : n ≤ 1048576) (hs0 : 0 ≤ s) (hs1 : s ≤ 1073741824) :
    Calls Try.prog 71 #[.agg #[.int .i64 o, v, .int .i64 nx, .int .i64 md, .int .i64 lc], .int .i64 s] w fun e w' => e = .returned (.int .i64 (s + (n : Int))) ∧ OwM w' lo v (mkN s n) ∧ Turn (fun k => v.ownBlock = some k) w w' := by
  obtain ⟨a, m, c, rfl⟩ := hv
  have hw := (New.refl w).alloc (.cells #[.int .i64 o, .slice a m c, .int .i64 nx, .int .i64 md, .int .i64 lc] 28)
  go_enter Try.func71, Try.ntmps71
  go_wp2_with fail
  refine (markM_any (.slice a m c) L lo n s _ (h.new hw) hn hm hs0 hs1).mono ?_
  rintro e w1 ⟨rfl, ho1, ht1⟩
  go_wp2
  go_ret
  exact ⟨rfl, ho1, Turn.trans hw.turn ht1 (fun _ _ e => e)⟩

set_option maxHeartbeats 1600000 in
theorem markUp_any (x y z : Value) (has : Bool) (o nx md lc : Int) (gs rs : List (Int × Int)) (xs : List Int) (lo : Nat) (w : World) (p : PU) (hp : p = ⟨0, false, gs, has, o, xs, nx, md, lc, rs⟩) (h : Got w lo p x y z) (hb : Bd p) :
    Calls Try.prog 41 #[.agg #[x, .bool has, .int .i64 o, y, .int .i64 nx, .int .i64 md, .int .i64 lc, z], .int .i64 1] w fun e w' => e = .returned (.int .i64 (mkE p)) ∧ Got w' lo (mkPU p) x y z ∧ Turn (fun k => x.ownBlock = some k ∨ y.ownBlock = some k ∨ z.ownBlock = some k) w w' := by
  subst hp
  obtain ⟨hg, hn, hr, d1, d2, d3⟩ := h
  have l1 := hb.lg
  have l2 := hb.ln
  have l3 := hb.lr
  simp only at hg hn hr l1 l2 l3
  obtain ⟨ga, gc, ex⟩ := hg.slice
  obtain ⟨a, c, ey⟩ := hn.slice
  obtain ⟨ra, rc, ez⟩ := hr.slice
  have bx := hg.blk
  have by' := hn.blk
  have bz := hr.blk
  subst ex
  subst ey
  subst ez
  obtain ⟨G, hG⟩ : ∃ G, gs.length = G := ⟨_, rfl⟩
  obtain ⟨N, hN⟩ : ∃ N, xs.length = N := ⟨_, rfl⟩
  obtain ⟨R, hR⟩ : ∃ R, rs.length = R := ⟨_, rfl⟩
  have HG : Hid (gs.length = G) := hG
  have HN : Hid (xs.length = N) := hN
  have HR : Hid (rs.length = R) := hR
  have hpu : mkPU ⟨0, false, gs, has, o, xs, nx, md, lc, rs⟩ = ⟨0, false, mkP 1 G, has, o, mkN (1 + 2 * (G : Int)) N, nx, md, lc, mkP (1 + 2 * (G : Int) + N) R⟩ := by unfold mkPU; simp only [hG, hN, hR]
  have hE : mkE ⟨0, false, gs, has, o, xs, nx, md, lc, rs⟩ = 1 + 2 * (G : Int) + N + 2 * (R : Int) := by unfold mkE; simp only [hG, hN, hR]
  rw [hpu, hE]
  rw [hG] at hg bx d1 d2 l1 ⊢
  rw [hN] at hn by' d1 d3 l2 ⊢
  rw [hR] at hr bz d2 d3 l3 ⊢
  clear hpu hE hb
  have hw := (New.refl w).alloc (.cells #[.slice ga G gc, .bool has, .int .i64 o, .slice a N c, .int .i64 nx, .int .i64 md, .int .i64 lc, .slice ra R rc] 30)
  have bU := Blk.mk w w.heap.size 30 #[.slice ga G gc, .bool has, .int .i64 o, .slice a N c, .int .i64 nx, .int .i64 md, .int .i64 lc, .slice ra R rc] rfl
  clear hG hN hR
  go_enter Try.func41, Try.ntmps41
  go_wp2_with fail
  refine (markQ_any (.slice ga G gc) gs lo G 1 _ (hg.new hw) HG.out l1 (by omega) (by omega)).mono ?_
  rintro e w1 ⟨rfl, g1, t1⟩
  have n1 := (hn.new hw).turnA t1 (fun g e e' => d1 g e' e)
  have r1 := (hr.new hw).turnA t1 (fun g e e' => d2 g e' e)
  have b1 := bU.turn t1 (fun e => by have := bx _ e; omega)
  have c1 := b1.cells
  have w01 := Turn.trans (hw.turn (S := fun k => (Value.slice ga G gc).ownBlock = some k ∨ (Value.slice a N c).ownBlock = some k ∨ (Value.slice ra R rc).ownBlock = some k)) t1 (fun i _ e => .inl e)
  clear bU hg hn hr t1
  go_wp2_with fail
  refine (markAtM_any o nx md lc (.slice a N c) xs lo N (1 + 2 * (G : Int)) _ n1 HN.out ⟨a, N, c, rfl⟩ l2 (by omega) (by omega)).mono ?_
  rintro e w2 ⟨rfl, n2, t2⟩
  have g2 := g1.turnA t2 (fun g e e' => d1 g e e')
  have r2 := r1.turnA t2 (fun g e e' => d3 g e' e)
  have b2 := b1.turn t2 (fun e => by have := by' _ e; omega)
  have w02 := Turn.trans w01 t2 (fun i _ e => .inr (.inl e))
  clear c1 b1 r1 g1 n1 w01 t2
  have c2 := b2.cells
  go_wp2_with fail
  refine (markQ_any (.slice ra R rc) rs lo R (1 + 2 * (G : Int) + N) _ r2 HR.out l3 (by omega) (by omega)).mono ?_
  rintro e w3 ⟨rfl, r3, t3⟩
  have g3 := g2.turnA t3 (fun g e e' => d2 g e e')
  have n3 := n2.turnA t3 (fun g e e' => d3 g e e')
  have w03 := Turn.trans w02 t3 (fun i _ e => .inr (.inr e))
  go_wp2
  go_ret
  exact ⟨rfl, ⟨g3, n3, r3, d1, d2, d3⟩, w03⟩

set_option maxHeartbeats 1600000 in
theorem markUR_any (p : PU) (x y z : Value) (lo : Nat) (w : World) (h : Got w lo p x y z) (hb : Bd p) :
    Calls Try.prog 18 #[puV p x y z, .int .i64 1] w fun e w' => e = .returned (.int .i64 (mkE p)) ∧ Got w' lo (mkPU p) x y z ∧ Turn (fun k => x.ownBlock = some k ∨ y.ownBlock = some k ∨ z.ownBlock = some k) w w' := by
  obtain ⟨code, soft, gs, has, o, xs, nx, md, lc, rs⟩ := p
  have h0 : ∀ W, New w W → Got W lo ⟨0, false, gs, has, o, xs, nx, md, lc, rs⟩ x y z := fun W hN => ⟨h.g.new hN, h.n.new hN, h.r.new hN, h.gn, h.gr, h.nr⟩
  have hb0 : Bd ⟨0, false, gs, has, o, xs, nx, md, lc, rs⟩ := ⟨hb.g, hb.n, hb.r, hb.lg, hb.ln, hb.lr⟩
  have key := fun W hN => markUp_any x y z has o nx md lc gs rs xs lo W ⟨0, false, gs, has, o, xs, nx, md, lc, rs⟩ rfl (h0 W hN) hb0
  obtain ⟨ga, gc, rfl⟩ := h.g.slice
  obtain ⟨a, c, rfl⟩ := h.n.slice
  obtain ⟨ra, rc, rfl⟩ := h.r.slice
  simp only at *
  unfold puV
  simp only
  have hw := (New.refl w).alloc (.cells #[.int .i64 code, .bool soft, .slice ga gs.length gc, .bool has, .int .i64 o, .slice a xs.length c, .int .i64 nx, .int .i64 md, .int .i64 lc, .slice ra rs.length rc] 32)
  have k1 := key _ hw
  have HE : Hid (mkE ⟨0, false, gs, has, o, xs, nx, md, lc, rs⟩ = mkE ⟨code, soft, gs, has, o, xs, nx, md, lc, rs⟩) := rfl
  generalize mkE ⟨0, false, gs, has, o, xs, nx, md, lc, rs⟩ = E at *
  clear key h0 hb0
  go_enter Try.func18, Try.ntmps18
  go_wp2_with fail
  refine k1.mono ?_
  rintro e w1 ⟨rfl, g1, t1⟩
  go_wp2
  go_ret
  exact ⟨ret_i64 HE.out, ⟨g1.g, g1.n, g1.r, g1.gn, g1.gr, g1.nr⟩, Turn.trans hw.turn t1 (fun _ _ e => e)⟩

set_option maxHeartbeats 1600000 in
theorem heldUR_any (p : PU) (x y z : Value) (lo : Nat) (w : World) (h : Got w lo (mkPU p) x y z) (hb : Bd p) :
    Calls Try.prog 19 #[puV p x y z, .int .i64 1] w fun e w' => e = .returned (.int .i64 (mkE p)) ∧ New w w' := by
  obtain ⟨code, soft, gs, has, o, xs, nx, md, lc, rs⟩ := p
  have hb' := mkPU_bd hb
  obtain ⟨ga, gc, ex⟩ := h.g.slice
  obtain ⟨a, c, ey⟩ := h.n.slice
  obtain ⟨ra, rc, ez⟩ := h.r.slice
  subst ex
  subst ey
  subst ez
  have pg := h.g.psA hb'.g
  have pn := h.n.nsA hb'.n
  have pr := h.r.psA hb'.r
  have l1 := hb.lg
  have l2 := hb.ln
  have l3 := hb.lr
  unfold mkPU at pg pn pr ⊢
  simp only [mkP_len, mkN_len] at pg pn pr l1 l2 l3 ⊢
  unfold puV
  simp only
  have HE : Hid (1 + 2 * (gs.length : Int) + xs.length + 2 * (rs.length : Int) = mkE ⟨code, soft, gs, has, o, xs, nx, md, lc, rs⟩) := rfl
  clear h hb hb'
  generalize mkE ⟨code, soft, gs, has, o, xs, nx, md, lc, rs⟩ = E at *
  generalize gs.length = G at *
  generalize xs.length = N at *
  generalize rs.length = R at *
  have hw := (New.refl w).alloc (.cells #[.int .i64 code, .bool soft, .slice ga G gc, .bool has, .int .i64 o, .slice a N c, .int .i64 nx, .int .i64 md, .int .i64 lc, .slice ra R rc] 32)
  have hnn : ¬ 1 + 2 * (G : Int) + N + 2 * (R : Int) < 0 := by omega
  go_enter Try.func19, Try.ntmps19
  go_wp2_with fail
  refine (heldUp_any ga a ra G gc N c R rc has o nx md lc 1 _ (pg.new hw) (pn.new hw) (pr.new hw) l1 l2 l3 (by omega) (by omega)).mono ?_
  rintro e w1 ⟨rfl, hn1⟩
  go_wp2
  go_ret
  exact ⟨ret_i64 HE.out, hw.trans hn1⟩

end Go.Proofs.Ythkifdbpdbjdgaa
