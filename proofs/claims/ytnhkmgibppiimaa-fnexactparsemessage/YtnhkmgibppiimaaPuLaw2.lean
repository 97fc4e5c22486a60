/- What is proved here: what the comparing, the marking and the looking for marks in a whole answer of the reading of an update tell. -/
import Derived.Test.YtnhkmgibppiimaaPuLaw
namespace Go.Proofs.Ytnhkmgibppiimaa
open Go.RowKit Go.Sort
set_option linter.unusedVariables false

theorem OwQ.psA {w : World} {lo n c : Nat} {a : Option Addr} {L : List (Int × Int)} (h : OwQ w lo (.slice a n c) L) (hb : ∀ p ∈ L, In6 p.1 ∧ In6 p.2) : PsAt w a L := by
  obtain ⟨a', c', e, hp, -⟩ := h.ps hb
  simp only [Value.slice.injEq] at e
  obtain ⟨rfl, -, rfl⟩ := e
  exact hp
theorem OwM.nsA {w : World} {lo n c : Nat} {a : Option Addr} {L : List Int} (h : OwM w lo (.slice a n c) L) (hb : ∀ z ∈ L, In6 z) : NsAt w a L := by
  obtain ⟨a', c', e, hp, -⟩ := h.ns hb
  simp only [Value.slice.injEq] at e
  obtain ⟨rfl, -, rfl⟩ := e
  exact hp
theorem OwQ.turnA {w w' : World} {lo : Nat} {v : Value} {L : List (Int × Int)} {S : Nat → Prop} (h : OwQ w lo v L) (t : Turn S w w') (hS : ∀ g, v.ownBlock = some g → ¬ S g) : OwQ w' lo v L := by
  rcases h with h | ⟨g, c, h1, h2, h3⟩
  · exact .inl h
  · exact .inr ⟨g, c, h1, h2, h3.turn t (hS g (by rw [h1]; rfl))⟩
theorem OwM.turnA {w w' : World} {lo : Nat} {v : Value} {L : List Int} {S : Nat → Prop} (h : OwM w lo v L) (t : Turn S w w') (hS : ∀ g, v.ownBlock = some g → ¬ S g) : OwM w' lo v L := by
  rcases h with h | ⟨g, c, h1, h2, h3⟩
  · exact .inl h
  · exact .inr ⟨g, c, h1, h2, h3.turn t (hS g (by rw [h1]; rfl))⟩
theorem OwM.slice {w : World} {lo : Nat} {v : Value} {L : List Int} (h : OwM w lo v L) : ∃ a c, v = .slice a L.length c := by
  rcases h with ⟨rfl, rfl⟩ | ⟨g, c, rfl, _⟩
  · exact ⟨none, 0, rfl⟩
  · exact ⟨_, c, rfl⟩
theorem OwQ.slice {w : World} {lo : Nat} {v : Value} {L : List (Int × Int)} (h : OwQ w lo v L) : ∃ a c, v = .slice a L.length c := by
  rcases h with ⟨rfl, rfl⟩ | ⟨g, c, rfl, _⟩
  · exact ⟨none, 0, rfl⟩
  · exact ⟨_, c, rfl⟩

/-- Bounds of what is told. -/
structure Bd (p : PU) : Prop where
  g : ∀ q ∈ p.gs, In6 q.1 ∧ In6 q.2
  n : ∀ z ∈ p.xs, In6 z
  r : ∀ q ∈ p.rs, In6 q.1 ∧ In6 q.2
  lg : p.gs.length ≤ 1048576
  ln : p.xs.length ≤ 1048576
  lr : p.rs.length ≤ 1048576

/-- What is told, with its lists marked. -/
def mkPU (p : PU) : PU := { p with gs := mkP 1 p.gs.length, xs := mkN (1 + 2 * (p.gs.length : Int)) p.xs.length, rs := mkP (1 + 2 * (p.gs.length : Int) + p.xs.length) p.rs.length }
theorem mkPU_bd {p : PU} (hb : Bd p) : Bd (mkPU p) := by
  have l1 := hb.lg
  have l2 := hb.ln
  have l3 := hb.lr
  refine ⟨mkP_bd _ _ (by omega) (by omega) l1, mkN_bd _ _ (by omega) (by omega) l2, mkP_bd _ _ (by omega) (by omega) l3, ?_, ?_, ?_⟩
  · show (mkP 1 p.gs.length).length ≤ _; rw [mkP_len]; exact l1
  · show (mkN _ p.xs.length).length ≤ _; rw [mkN_len]; exact l2
  · show (mkP _ p.rs.length).length ≤ _; rw [mkP_len]; exact l3
def mkE (p : PU) : Int := 1 + 2 * (p.gs.length : Int) + p.xs.length + 2 * (p.rs.length : Int)

theorem markAtM_any (o nx md lc : Int) (v : Value) (L : List Int) (lo n : Nat) (s : Int) (w : World) (h : OwM w lo v L) (hn : L.length = n) (hv : ∃ a m c, v = .slice a m c) (hm : n ≤ 1048576) (hs0 : 0 ≤ s) (hs1 : s ≤ 1073741824) :
    Calls Try.prog 75 #[.agg #[.int .i64 o, v, .int .i64 nx, .int .i64 md, .int .i64 lc], .int .i64 s] w fun e w' => e = .returned (.int .i64 (s + (n : Int))) ∧ OwM w' lo v (mkN s n) ∧ Turn (fun k => v.ownBlock = some k) w w' := by
  obtain ⟨a, m, c, rfl⟩ := hv
  have hw := (New.refl w).alloc (.cells #[.int .i64 o, .slice a m c, .int .i64 nx, .int .i64 md, .int .i64 lc] 29)
  go_enter Try.func75, Try.ntmps75
  go_wp2_with fail
  refine (markM_any (.slice a m c) L lo n s _ (h.new hw) hn hm hs0 hs1).mono ?_
  rintro e w1 ⟨rfl, ho1, ht1⟩
  go_wp2
  go_ret
  exact ⟨rfl, ho1, Turn.trans hw.turn ht1 (fun _ _ e => e)⟩

set_option maxHeartbeats 1600000 in
theorem markUp_any (x y z : Value) (has : Bool) (o nx md lc : Int) (gs rs : List (Int × Int)) (xs : List Int) (lo : Nat) (w : World) (p : PU) (hp : p = ⟨0, false, gs, has, o, xs, nx, md, lc, rs⟩) (h : Got w lo p x y z) (hb : Bd p) :
    Calls Try.prog 56 #[.agg #[x, .bool has, .int .i64 o, y, .int .i64 nx, .int .i64 md, .int .i64 lc, z], .int .i64 1] w fun e w' => e = .returned (.int .i64 (mkE p)) ∧ Got w' lo (mkPU p) x y z ∧ Turn (fun k => x.ownBlock = some k ∨ y.ownBlock = some k ∨ z.ownBlock = some k) w w' := by
  subst hp
  obtain ⟨hg, hn, hr, d1, d2, d3⟩ := h
  have l1 := hb.lg
  have l2 := hb.ln
  have l3 := hb.lr
  simp only at hg hn hr l1 l2 l3
  obtain ⟨ga, gc, ex⟩ := hg.slice
  obtain ⟨a, c, ey⟩ := hn.slice
  obtain ⟨ra, rc, ez⟩ := hr.slice
  have bx := hg.blk
  have by' := hn.blk
  have bz := hr.blk
  subst ex
  subst ey
  subst ez
  obtain ⟨G, hG⟩ : ∃ G, gs.length = G := ⟨_, rfl⟩
  obtain ⟨N, hN⟩ : ∃ N, xs.length = N := ⟨_, rfl⟩
  obtain ⟨R, hR⟩ : ∃ R, rs.length = R := ⟨_, rfl⟩
  have HG : Hid (gs.length = G) := hG
  have HN : Hid (xs.length = N) := hN
  have HR : Hid (rs.length = R) := hR
  have hpu : mkPU ⟨0, false, gs, has, o, xs, nx, md, lc, rs⟩ = ⟨0, false, mkP 1 G, has, o, mkN (1 + 2 * (G : Int)) N, nx, md, lc, mkP (1 + 2 * (G : Int) + N) R⟩ := by unfold mkPU; simp only [hG, hN, hR]
  have hE : mkE ⟨0, false, gs, has, o, xs, nx, md, lc, rs⟩ = 1 + 2 * (G : Int) + N + 2 * (R : Int) := by unfold mkE; simp only [hG, hN, hR]
  rw [hpu, hE]
  rw [hG] at hg bx d1 d2 l1 ⊢
  rw [hN] at hn by' d1 d3 l2 ⊢
  rw [hR] at hr bz d2 d3 l3 ⊢
  clear hpu hE hb
  have hw := (New.refl w).alloc (.cells #[.slice ga G gc, .bool has, .int .i64 o, .slice a N c, .int .i64 nx, .int .i64 md, .int .i64 lc, .slice ra R rc] 31)
  have bU := Blk.mk w w.heap.size 31 #[.slice ga G gc, .bool has, .int .i64 o, .slice a N c, .int .i64 nx, .int .i64 md, .int .i64 lc, .slice ra R rc] rfl
  clear hG hN hR
  go_enter Try.func56, Try.ntmps56
  go_wp2_with fail
  refine (markQ_any (.slice ga G gc) gs lo G 1 _ (hg.new hw) HG.out l1 (by omega) (by omega)).mono ?_
  rintro e w1 ⟨rfl, g1, t1⟩
  have n1 := (hn.new hw).turnA t1 (fun g e e' => d1 g e' e)
  have r1 := (hr.new hw).turnA t1 (fun g e e' => d2 g e' e)
  have b1 := bU.turn t1 (fun e => by have := bx _ e; omega)
  have c1 := b1.cells
  have w01 := Turn.trans (hw.turn (S := fun k => (Value.slice ga G gc).ownBlock = some k ∨ (Value.slice a N c).ownBlock = some k ∨ (Value.slice ra R rc).ownBlock = some k)) t1 (fun i _ e => .inl e)
  clear bU hg hn hr t1
  go_wp2_with fail
  refine (markAtM_any o nx md lc (.slice a N c) xs lo N (1 + 2 * (G : Int)) _ n1 HN.out ⟨a, N, c, rfl⟩ l2 (by omega) (by omega)).mono ?_
  rintro e w2 ⟨rfl, n2, t2⟩
  have g2 := g1.turnA t2 (fun g e e' => d1 g e e')
  have r2 := r1.turnA t2 (fun g e e' => d3 g e' e)
  have b2 := b1.turn t2 (fun e => by have := by' _ e; omega)
  have w02 := Turn.trans w01 t2 (fun i _ e => .inr (.inl e))
  clear c1 b1 r1 g1 n1 w01 t2
  have c2 := b2.cells
  go_wp2_with fail
  refine (markQ_any (.slice ra R rc) rs lo R (1 + 2 * (G : Int) + N) _ r2 HR.out l3 (by omega) (by omega)).mono ?_
  rintro e w3 ⟨rfl, r3, t3⟩
  have g3 := g2.turnA t3 (fun g e e' => d2 g e e')
  have n3 := n2.turnA t3 (fun g e e' => d3 g e e')
  have w03 := Turn.trans w02 t3 (fun i _ e => .inr (.inr e))
  go_wp2
  go_ret
  exact ⟨rfl, ⟨g3, n3, r3, d1, d2, d3⟩, w03⟩

end Go.Proofs.Ytnhkmgibppiimaa
