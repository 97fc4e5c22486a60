/- What is proved here: what the copies of logs and of nodes answer, both sides, for logs of at most 1048576 entries and bytes. What is proved here: what the model's copies of entries and of nodes answer, for at most 1048576 entries and bytes. What is proved here: what the comparing, marking and holding of mails and of answers with nodes leave. What is proved here: what the marking and holding of mails and of answers with nodes leave. What is proved here: facts on answers with nodes. No condition. What is proved here: what the first questions of the functions on nodes answer, both sides. What is proved here: what a node without a fault is; how a node enters an epoch. -/
import Derived.Test.YtlkhmnjghdbmoaaGreatDoorK12Ng
namespace Go.Proofs.YtlkhmnjghdbmoaaGreatDoor
open Go.RowKit Go.Sort
set_option linter.unusedVariables false
set_option linter.unusedSimpArgs false
set_option maxRecDepth 100000

theorem PaK.turnP {w w' : World} {lo hi : Nat} {V : List EkV} {S : Nat → Prop} (h : PaK w lo hi V) (t : Turn S w w') (hS : ∀ v ∈ V, ∀ k, v.pv.ownBlock = some k → ¬ S k) : PaK w' lo hi V :=
  ⟨fun v hv => (h.own v hv).turnK t (hS v hv), h.bd, h.lies, h.apart⟩
theorem rowv_neK {w : World} {lo lo' n k sz : Nat} {ty : TypeId} {u v : Value} {cs : List Value} {xs : List Int} (h : w.ownsRow lo ty sz u n cs) (hty : ¬ ty = 5) (ho : OvB w lo' v xs) (hu : u.ownBlock = some k) : v.ownBlock ≠ some k := by
  intro e
  rcases ho.2 with ⟨h', _⟩ | ⟨g1, c1, cur1, h1, _, hb1, _⟩
  · rw [h'] at e; simp [Value.ownBlock] at e
  · rw [h1] at e
    simp [Value.ownBlock] at e
    subst e
    rcases h.2 with ⟨h', _⟩ | ⟨g2, _, cur2, h2, _, hb2, _⟩
    · rw [h'] at hu; simp [Value.ownBlock] at hu
    · rw [h2] at hu
      simp [Value.ownBlock] at hu
      subst hu
      rw [hb1] at hb2
      simp only [Option.some.injEq, Obj.cells.injEq] at hb2
      exact hty hb2.2.1.symm

/-- An entry put behind a list of the call's own. -/
theorem OwL.appended {w2 w3 w4 w5 : World} {lo : Nat} {u v' : Value} {V : List EkV} {v : EkV} (h : OwL w2 lo w2.heap.size u V) (hlo : lo ≤ w2.heap.size) (n3 : New w2 w3) (ho : OvB w3 w2.heap.size v.pv v.r.xs) (hb : ∀ z ∈ v.r.xs, By z) (hm : v.r.xs.length ≤ 1048576) (n4 : New w3 w4)
    (hr : w5.ownsRow lo 104 4 v' (V ++ [v]).length (cellsK (V ++ [v]))) (hg : w4.grownBy w5 u.ownBlock) : OwL w5 lo w5.heap.size v' (V ++ [v]) := by
  have P4 := ((h.path.new n3).snoc v ho hb hm hlo n3.size (Nat.le_refl _)).new n4
  have r4 := row9_new h.row (n3.trans n4)
  obtain ⟨y, d, -, -, hrn⟩ := row9_form hr
  refine ⟨hr, fun k hk => (hrn k hk).2, (P4.turnP (turn_of_grown hg) ?_).up (Nat.le_trans n4.size hg.size)⟩
  intro q hq k hk e
  exact rowv_neK r4 (by decide) (P4.own q hq) e hk

/-- Entries without bytes have no room. -/
def NlK (V : List EkV) : Prop := ∀ v ∈ V, v.a = none → v.r.xs.length = 0 ∧ v.c = 0
theorem OwL.nl {w : World} {lo hi : Nat} {u : Value} {V : List EkV} (h : OwL w lo hi u V) : NlK V := fun v hv => (h.path.here v hv).2.1

end Go.Proofs.YtlkhmnjghdbmoaaGreatDoor

namespace Go.Proofs.YtlkhmnjghdbmoaaGreatDoor
open Go.RowKit Go.Sort
set_option linter.unusedVariables false
set_option linter.unusedSimpArgs false
set_option maxRecDepth 100000

end Go.Proofs.YtlkhmnjghdbmoaaGreatDoor

namespace Go.Proofs.YtlkhmnjghdbmoaaGreatDoor
open Go.RowKit Go.Sort
set_option linter.unusedVariables false
set_option linter.unusedSimpArgs false
set_option maxRecDepth 100000

/-- A mail. -/
structure Ml where
  kd : Int
  tgt : Int
  ep : Int
  at1 : Int
  pr : Int
  has : Bool
  e : Ek
/-- A mail in memory. -/
structure MlV where
  m : Ml
  a : Option Addr
  c : Nat
def MlV.cs (v : MlV) : List Value := [.int .i64 v.m.kd, .int .i64 v.m.tgt, .int .i64 v.m.ep, .int .i64 v.m.at1, .int .i64 v.m.pr, .bool v.m.has, .int .i64 v.m.e.ep, .int .i64 v.m.e.ki, .int .i64 v.m.e.pe, .slice v.a v.m.e.xs.length v.c]

/-- At most one mail can be read there. -/
def SdAt (w : World) (S : Option Addr) (M : List MlV) : Prop := M = [] ∨ ∃ v g, M = [v] ∧ S = some ⟨g, 0, none⟩ ∧ (∀ j, j < 10 → w.cell? ⟨g, j, none⟩ = v.cs[j]?) ∧ BsAt w v.a v.m.e.xs ∧ v.m.e.xs.length ≤ 1048576
theorem SdAt.turn {w w' : World} {S : Option Addr} {M : List MlV} {T : Nat → Prop} (h : SdAt w S M) (t : Turn T w w') (hS : ∀ x, S = some x → ¬ T x.block) (hM : ∀ v ∈ M, ∀ x, v.a = some x → ¬ T x.block) : SdAt w' S M := by
  rcases h with h | ⟨v, g, rfl, rfl, hc, hb, hl⟩
  · exact .inl h
  · have h0 : w.cell? ⟨g, 0, none⟩ = some (.int .i64 v.m.kd) := hc 0 (by omega)
    exact .inr ⟨v, g, rfl, rfl, fun j hj => (World.cell?_of_block (t.block g (World.block_lt_of_cell? w _ h0) (hS _ rfl))).trans (hc j hj), hb.turn t (hM v (by simp)), hl⟩
theorem SdAt.new {w w' : World} {S : Option Addr} {M : List MlV} (h : SdAt w S M) (t : New w w') : SdAt w' S M := h.turn t (fun _ _ f => f) (fun _ _ _ _ f => f)
theorem SdAt.one {w : World} {S : Option Addr} {M : List MlV} (h : SdAt w S M) : M.length = 0 ∨ M.length = 1 := by
  rcases h with rfl | ⟨v, g, rfl, -⟩
  · exact .inl rfl
  · exact .inr rfl

/-- At most one mail, of the call's own: its row and its bytes lie in blocks of P. -/
def SdOw (w : World) (P : Nat → Prop) (S : Option Addr) (q cs : Nat) (M : List MlV) : Prop :=
  (M = [] ∧ S = none ∧ q = 0 ∧ cs = 0) ∨ ∃ v g, M = [v] ∧ S = some ⟨g, 0, none⟩ ∧ q = 1 ∧ P g ∧ w.ownsRow 0 115 10 (.slice (some ⟨g, 0, none⟩) 1 cs) 1 v.cs ∧ OwAt w v.a v.m.e.xs.length v.c v.m.e.xs ∧ (∀ z ∈ v.m.e.xs, By z) ∧ v.m.e.xs.length ≤ 1048576 ∧ ∀ x, v.a = some x → P x.block ∧ ¬ x.block = g
theorem SdOw.turn {w w' : World} {P : Nat → Prop} {S : Option Addr} {q cs : Nat} {M : List MlV} {T : Nat → Prop} (h : SdOw w P S q cs M) (t : Turn T w w') (hT : ∀ k, P k → ¬ T k) : SdOw w' P S q cs M := by
  rcases h with h | ⟨v, g, rfl, rfl, hq, hg, hr, ho, hb, hl, ha⟩
  · exact .inl h
  · exact .inr ⟨v, g, rfl, rfl, hq, hg, row9_turn hr t (by intro k hk; simp [Value.ownBlock] at hk; subst hk; exact hT _ hg), ho.turn t (fun x hx => hT _ (ha x hx).1), hb, hl, ha⟩
theorem SdOw.new {w w' : World} {P : Nat → Prop} {S : Option Addr} {q cs : Nat} {M : List MlV} (h : SdOw w P S q cs M) (t : New w w') : SdOw w' P S q cs M := h.turn t (fun _ _ f => f)
theorem SdOw.mono {w : World} {P Q : Nat → Prop} {S : Option Addr} {q cs : Nat} {M : List MlV} (h : SdOw w P S q cs M) (hPQ : ∀ k, P k → Q k) : SdOw w Q S q cs M := by
  rcases h with h | ⟨v, g, rfl, rfl, hq, hg, hr, ho, hb, hl, ha⟩
  · exact .inl h
  · exact .inr ⟨v, g, rfl, rfl, hq, hPQ _ hg, hr, ho, hb, hl, fun x hx => ⟨hPQ _ (ha x hx).1, (ha x hx).2⟩⟩
theorem SdOw.sd {w : World} {P : Nat → Prop} {S : Option Addr} {q cs : Nat} {M : List MlV} (h : SdOw w P S q cs M) : SdAt w S M ∧ M.length = q ∧ (∀ x, S = some x → P x.block) ∧ (∀ v ∈ M, ∀ x, v.a = some x → P x.block) := by
  rcases h with ⟨rfl, rfl, rfl, rfl⟩ | ⟨v, g, rfl, rfl, rfl, hg, hr, ho, hb, hl, ha⟩
  · exact ⟨.inl rfl, rfl, fun x hx => (by cases hx), fun v hv => (by cases hv)⟩
  · refine ⟨.inr ⟨v, g, rfl, rfl, fun j hj => World.ownsRow.cellAt hr j (by omega), ho.bs hb, hl⟩, rfl, fun x hx => ?_, fun u hu x hx => ?_⟩
    · cases hx; exact hg
    · obtain rfl := List.mem_singleton.1 hu
      exact (ha x hx).1
theorem SdOw.nil (w : World) (P : Nat → Prop) : SdOw w P none 0 0 [] := .inl ⟨rfl, rfl, rfl, rfl⟩

set_option maxHeartbeats 800000 in
theorem eqMl_any (kd tgt ep at1 pr : Int) (has : Bool) (ee ki pe : Int) (a b : Option Addr) (n c d : Nat) (zs : List Int) (w : World) (ha : BsAt w a zs) (hb : BsAt w b zs) (hn : zs.length = n) (hm : n ≤ 1048576) :
    Calls Tryz.prog 62 #[.agg #[.int .i64 kd, .int .i64 tgt, .int .i64 ep, .int .i64 at1, .int .i64 pr, .bool has, .int .i64 ee, .int .i64 ki, .int .i64 pe, .slice a n c], .agg #[.int .i64 kd, .int .i64 tgt, .int .i64 ep, .int .i64 at1, .int .i64 pr, .bool has, .int .i64 ee, .int .i64 ki, .int .i64 pe, .slice b n d]] w fun e w' => e = .returned (.bool true) ∧ New w w' := by
  have hw := ((New.refl w).alloc (.cells #[.int .i64 kd, .int .i64 tgt, .int .i64 ep, .int .i64 at1, .int .i64 pr, .bool has, .int .i64 ee, .int .i64 ki, .int .i64 pe, .slice a n c] 115)).alloc (.cells #[.int .i64 kd, .int .i64 tgt, .int .i64 ep, .int .i64 at1, .int .i64 pr, .bool has, .int .i64 ee, .int .i64 ki, .int .i64 pe, .slice b n d] 115)
  have z1 : (kd != kd) = false := by simp
  have z2 : (tgt != tgt) = false := by simp
  have z3 : (ep != ep) = false := by simp
  have z4 : (at1 != at1) = false := by simp
  have z5 : (pr != pr) = false := by simp
  have z6 : (has != has) = false := by simp
  go_enter Tryz.func62, Tryz.ntmps62
  go_wp2_with fail
  refine (eqEntry_any ee ki pe a b n c d zs _ (ha.new hw) (hb.new hw) hn hm).mono ?_
  rintro e w1 ⟨rfl, hn1⟩
  go_wp2
  go_ret
  exact ⟨rfl, hw.trans hn1⟩

theorem eqMls_nil (S T : Option Addr) (c d : Nat) (w : World) : Calls Tryz.prog 30 #[.slice S 0 c, .slice T 0 d] w fun e w' => e = .returned (.bool true) ∧ New w w' := by
  go_enter Tryz.func30, Tryz.ntmps30
  go_wp2
  refine wp_loop_rounds 1 ?_
  rw [rounds_succ]
  go_wp2
  go_ret
  exact ⟨rfl, New.refl _⟩

set_option maxHeartbeats 1600000 in
theorem eqMls_any (S T : Option Addr) (q c d : Nat) (M W : List MlV) (w : World) (h : SdAt w S M) (k : SdAt w T W) (hMW : M.map MlV.m = W.map MlV.m) (hq : M.length = q) :
    Calls Tryz.prog 30 #[.slice S q c, .slice T q d] w fun e w' => e = .returned (.bool true) ∧ New w w' := by
  rcases h with rfl | ⟨u, g, rfl, rfl, hc, hb, hl⟩
  · subst hq
    exact eqMls_nil S T c d w
  · rcases k with rfl | ⟨v, g', rfl, rfl, hc', hb', hl'⟩
    · simp at hMW
    · simp only [List.map_cons, List.map_nil, List.cons.injEq, and_true] at hMW
      obtain ⟨⟨kd, tgt, ep, at1, pr, has, ⟨ee, ki, pe, xs⟩⟩, a, ca⟩ := u
      obtain ⟨m', b, cb⟩ := v
      simp only at hMW
      subst hMW
      simp only [List.length_cons, List.length_nil] at hq
      subst hq
      have HL : Hid (xs.length ≤ 1048576) := hl
      have x0 := cell_regrown (hc 0 (by omega))
      have x1 := cell_regrown (hc 1 (by omega))
      have x2 := cell_regrown (hc 2 (by omega))
      have x3 := cell_regrown (hc 3 (by omega))
      have x4 := cell_regrown (hc 4 (by omega))
      have x5 := cell_regrown (hc 5 (by omega))
      have x6 := cell_regrown (hc 6 (by omega))
      have x7 := cell_regrown (hc 7 (by omega))
      have x8 := cell_regrown (hc 8 (by omega))
      have x9 := cell_regrown (hc 9 (by omega))
      have y0 := cell_regrown (hc' 0 (by omega))
      have y1 := cell_regrown (hc' 1 (by omega))
      have y2 := cell_regrown (hc' 2 (by omega))
      have y3 := cell_regrown (hc' 3 (by omega))
      have y4 := cell_regrown (hc' 4 (by omega))
      have y5 := cell_regrown (hc' 5 (by omega))
      have y6 := cell_regrown (hc' 6 (by omega))
      have y7 := cell_regrown (hc' 7 (by omega))
      have y8 := cell_regrown (hc' 8 (by omega))
      have y9 := cell_regrown (hc' 9 (by omega))
      have hb1 : BsAt w a xs := hb
      have hb2 : BsAt w b xs := hb'
      clear hc hc' hl hl' hb hb'
      go_enter Tryz.func30, Tryz.ntmps30
      go_wp2
      refine wp_loop_rounds 2 ?_
      rw [rounds_succ]
      go_wp2_with fail
      refine wp_region_quiet_below (by kernel_rfl) (by kernel_rfl) ?_
      repeat (go_big_quiet_step ((go_at_call 62; exact calls_regrown (eqMl_any kd tgt ep at1 pr has ee ki pe a b xs.length ca cb xs _ (hb1.new (new_regrown _ _ _)) (hb2.new (new_regrown _ _ _)) rfl HL.out))))
      refine wpQuiet_nil ?_
      rintro w1 hn1
      replace hn1 := new_of_regrown hn1
      go_wp2
      rw [rounds_succ]
      go_wp2
      go_ret
      exact ⟨rfl, hn1⟩

end Go.Proofs.YtlkhmnjghdbmoaaGreatDoor

namespace Go.Proofs.YtlkhmnjghdbmoaaGreatDoor
open Go.RowKit Go.Sort
set_option linter.unusedVariables false
set_option linter.unusedSimpArgs false
set_option maxRecDepth 100000

/-- What the mark says of Has. -/
def bq (k : Int) : Bool := ((k + 1 + 1 + 1 + 1 + 1) % 3 == 0)
/-- A mail, marked from k on. -/
def MlV.mk9 (k : Int) (v : MlV) : MlV := ⟨⟨k, k + 1, k + 1 + 1, k + 1 + 1 + 1, k + 1 + 1 + 1 + 1, bq k, ⟨k + 1 + 1 + 1 + 1 + 1 + 1, k + 1 + 1 + 1 + 1 + 1 + 1 + 1, k + 1 + 1 + 1 + 1 + 1 + 1 + 1 + 1, marks (k + 1 + 1 + 1 + 1 + 1 + 1 + 1 + 1 + 1) v.m.e.xs.length⟩⟩, v.a, v.c⟩
def markM (k : Int) (M : List MlV) : List MlV := M.map (MlV.mk9 k)
def endM (k : Int) : List MlV → Int
  | [] => k
  | v :: _ => k + 1 + 1 + 1 + 1 + 1 + 1 + 1 + 1 + 1 + v.m.e.xs.length
theorem endM_bd (k : Int) (M : List MlV) : k ≤ endM k M := by
  cases M with
  | nil => exact Int.le_refl _
  | cons v M => show k ≤ k + 1 + 1 + 1 + 1 + 1 + 1 + 1 + 1 + 1 + (v.m.e.xs.length : Int); omega

end Go.Proofs.YtlkhmnjghdbmoaaGreatDoor

namespace Go.Proofs.YtlkhmnjghdbmoaaGreatDoor
open Go.RowKit Go.Sort
set_option linter.unusedVariables false
set_option linter.unusedSimpArgs false
set_option maxRecDepth 100000

/-- An answer can be read there, all in blocks below b. -/
structure NrRd (w : World) (b : Nat) (A : Option Addr) (U : List EkV) (S : Option Addr) (Ms : List MlV) : Prop where
  lg : LgAt w A U
  sd : SdAt w S Ms
  l1 : ∀ x, A = some x → x.block < b
  l2 : ∀ u ∈ U, ∀ x, u.a = some x → x.block < b
  l3 : ∀ x, S = some x → x.block < b
  l4 : ∀ v ∈ Ms, ∀ x, v.a = some x → x.block < b
theorem NrRd.turn {w w' : World} {b : Nat} {A S : Option Addr} {U : List EkV} {Ms : List MlV} {T : Nat → Prop} (h : NrRd w b A U S Ms) (t : Turn T w w') (hT : ∀ k, k < b → ¬ T k) : NrRd w' b A U S Ms :=
  ⟨h.lg.turn t (fun x _ hx => hT _ (h.l1 x hx)) (fun u hu x _ hx => hT _ (h.l2 u hu x hx)), h.sd.turn t (fun x hx => hT _ (h.l3 x hx)) (fun v hv x hx => hT _ (h.l4 v hv x hx)), h.l1, h.l2, h.l3, h.l4⟩
theorem NrRd.new {w w' : World} {b : Nat} {A S : Option Addr} {U : List EkV} {Ms : List MlV} (h : NrRd w b A U S Ms) (t : New w w') : NrRd w' b A U S Ms := h.turn t (fun _ _ f => f)

/-- All of an answer is the call's own, from b0 to b1. -/
def NrOw (w : World) (b0 b1 : Nat) (A : Option Addr) (n c : Nat) (U : List EkV) (S : Option Addr) (q cs : Nat) (Ms : List MlV) : Prop :=
  ∃ (lo hi : Nat) (P : Nat → Prop), OwL w lo hi (.slice A n c) U ∧ SdOw w P S q cs Ms ∧ (∀ i, P i → ¬ (lo ≤ i ∧ i < hi)) ∧ (∀ i, P i → b0 ≤ i ∧ i < b1) ∧ b0 ≤ lo ∧ hi ≤ b1
theorem NrOw.turn {w w' : World} {b0 b1 n c q cs : Nat} {A S : Option Addr} {U : List EkV} {Ms : List MlV} {T : Nat → Prop} (h : NrOw w b0 b1 A n c U S q cs Ms) (t : Turn T w w') (hT : ∀ k, b0 ≤ k → k < b1 → ¬ T k) : NrOw w' b0 b1 A n c U S q cs Ms := by
  obtain ⟨lo, hi, P, h1, h2, h3, h4, h5, h6⟩ := h
  exact ⟨lo, hi, P, h1.turn t (fun k k1 k2 => hT k (by omega) (by omega)), h2.turn t (fun k hk => hT k (h4 k hk).1 (h4 k hk).2), h3, h4, h5, h6⟩
theorem NrOw.new {w w' : World} {b0 b1 n c q cs : Nat} {A S : Option Addr} {U : List EkV} {Ms : List MlV} (h : NrOw w b0 b1 A n c U S q cs Ms) (t : New w w') : NrOw w' b0 b1 A n c U S q cs Ms := h.turn t (fun _ _ _ f => f)
theorem OwL.blocks {w : World} {lo hi n c : Nat} {A : Option Addr} {U : List EkV} (h : OwL w lo hi (.slice A n c) U) : (∀ x, A = some x → lo ≤ x.block ∧ x.block < hi) ∧ (∀ u ∈ U, ∀ x, u.a = some x → lo ≤ x.block ∧ x.block < hi) := by
  refine ⟨fun x hx => ?_, fun u hu x hx => ?_⟩
  · obtain ⟨A', c', ef, -, h2⟩ := h.form
    simp only [Value.slice.injEq] at ef
    obtain ⟨rfl, rfl, rfl⟩ := ef
    rcases h2 with ⟨rfl, -, -⟩ | ⟨g, rfl, -, h3, h4, -, -⟩
    · cases hx
    · cases hx; exact ⟨h3, h4⟩
  · have hob : u.pv.ownBlock = some x.block := by unfold EkV.pv; rw [hx]; rfl
    exact ⟨((h.path.own u hu).rngK _ hob).1, h.path.lies u hu _ hob⟩
theorem NrOw.rd {w : World} {b0 b1 n c q cs : Nat} {A S : Option Addr} {U : List EkV} {Ms : List MlV} (h : NrOw w b0 b1 A n c U S q cs Ms) : NrRd w b1 A U S Ms ∧ U.length = n ∧ Ms.length = q ∧ NlK U := by
  obtain ⟨lo, hi, P, h1, h2, h3, h4, h5, h6⟩ := h
  have k1 := h1.blocks
  have k2 := h2.sd
  exact ⟨⟨h1.lg.1, k2.1, fun x hx => Nat.lt_of_lt_of_le (k1.1 x hx).2 h6, fun u hu x hx => Nat.lt_of_lt_of_le (k1.2 u hu x hx).2 h6, fun x hx => (h4 _ (k2.2.2.1 x hx)).2, fun v hv x hx => (h4 _ (k2.2.2.2 v hv x hx)).2⟩, h1.lg.2, k2.2.1, h1.nl⟩

/-- An answer with a node and mails. -/
def NrAns (w : World) (z1 id1 : Int) (up1 : Bool) (ro1 ep1 su1 ma1 ot1 co1 : Int) (L : List Ek) (M : List Ml) (e : Ending) (w' : World) : Prop :=
  ∃ (A : Option Addr) (c : Nat) (U : List EkV) (S : Option Addr) (cs : Nat) (Ms : List MlV), e = .returned (.agg #[.int .i64 z1, .int .i64 id1, .bool up1, .int .i64 ro1, .int .i64 ep1, .slice A L.length c, .int .i64 su1, .int .i64 ma1, .int .i64 ot1, .int .i64 co1, .slice S M.length cs]) ∧ U.map EkV.r = L ∧ Ms.map MlV.m = M ∧ NrOw w' w.heap.size w'.heap.size A L.length c U S M.length cs Ms ∧ New w w'

end Go.Proofs.YtlkhmnjghdbmoaaGreatDoor

namespace Go.Proofs.YtlkhmnjghdbmoaaGreatDoor
open Go.RowKit Go.Sort
set_option linter.unusedVariables false
set_option linter.unusedSimpArgs false
set_option maxRecDepth 100000

/-- The fault of a node, or that it is not up. -/
def uF (up : Bool) (f : Int) : Int := if f ≠ 0 then f else if up = false then 10 else 0
/-- The fault of a node, or that it is not up, or that it is not active. -/
def aF (up : Bool) (ro f : Int) : Int := if uF up f ≠ 0 then uF up f else if ro ≠ 1 then 10 else 0

theorem implNFv (v : Int) (id : Int) (up : Bool) (ro ep su ma ot co : Int) (A : Option Addr) (n c : Nat) (V : List EkV) (w : World) (h : LgAt w A V) (hn : V.length = n) (hm : n ≤ 2097152) (hv : nF id up ro ep su ma ot co n (V.map EkV.r) = v) :
    Calls Tryz.prog 81 #[.agg #[.int .i64 id, .bool up, .int .i64 ro, .int .i64 ep, .slice A n c, .int .i64 su, .int .i64 ma, .int .i64 ot, .int .i64 co]] w fun e w' => e = .returned (.int .i64 v) ∧ New w w' := by
  rw [← hv]; exact implNF id up ro ep su ma ot co A n c V w h hn hm
theorem specNFv (v : Int) (B : Nat) (id : Int) (up : Bool) (ro ep su ma ot co : Int) (A : Option Addr) (n c : Nat) (V : List EkV) (w : World) (hb : Blk w B 107 #[.int .i64 id, .bool up, .int .i64 ro, .int .i64 ep, .slice A n c, .int .i64 su, .int .i64 ma, .int .i64 ot, .int .i64 co]) (h : LgAt w A V) (hn : V.length = n) (hm : n ≤ 2097152) (hv : nF id up ro ep su ma ot co n (V.map EkV.r) = v) :
    Calls Tryz.prog 69 #[.pointer (some ⟨B, 0, none⟩)] w fun e w' => e = .returned (.int .i64 v) ∧ New w w' := by
  rw [← hv]; exact specNFp B id up ro ep su ma ot co A n c V w hb h hn hm

theorem nrAns_mk {w w' : World} {z1 id1 : Int} {up1 : Bool} {ro1 ep1 su1 ma1 ot1 co1 : Int} {L : List Ek} {M : List Ml} {A S : Option Addr} {n c q cs : Nat} {U : List EkV} {Ms : List MlV} (hL : L.length = n) (hQ : M.length = q) (hU : U.map EkV.r = L) (hM : Ms.map MlV.m = M) (ho : NrOw w' w.heap.size w'.heap.size A n c U S q cs Ms) (hn : New w w') :
    NrAns w z1 id1 up1 ro1 ep1 su1 ma1 ot1 co1 L M (.returned (.agg #[.int .i64 z1, .int .i64 id1, .bool up1, .int .i64 ro1, .int .i64 ep1, .slice A n c, .int .i64 su1, .int .i64 ma1, .int .i64 ot1, .int .i64 co1, .slice S q cs])) w' := by
  subst hL hQ
  exact ⟨A, c, U, S, cs, Ms, rfl, hU, hM, ho, hn⟩
theorem nrAns_bad {w w' : World} (z : Int) (hn : New w w') : NrAns w z 0 false 0 0 0 0 0 0 [] [] (.returned (.agg #[.int .i64 z, .int .i64 0, .bool false, .int .i64 0, .int .i64 0, .slice none 0 0, .int .i64 0, .int .i64 0, .int .i64 0, .int .i64 0, .slice none 0 0])) w' :=
  nrAns_mk (n := 0) (q := 0) (U := []) (Ms := []) rfl rfl rfl rfl ⟨w.heap.size, w'.heap.size, fun _ => False, OwL.nil _ _ _, SdOw.nil _ _, fun _ f => f.elim, fun _ f => f.elim, Nat.le_refl _, Nat.le_refl _⟩ hn
/-- A log alone, of the call's own. -/
theorem NrOw.log {w : World} {b0 b1 lo hi n c : Nat} {A : Option Addr} {U : List EkV} (h : OwL w lo hi (.slice A n c) U) (h0 : b0 ≤ lo) (h1 : hi ≤ b1) : NrOw w b0 b1 A n c U none 0 0 [] :=
  ⟨lo, hi, fun _ => False, h, SdOw.nil _ _, fun _ f => f.elim, fun _ f => f.elim, h0, h1⟩
theorem set11 {S : Nat → Prop} (w : World) (B : Nat) (hS : S B) (v0 v1 v2 v3 v4 v5 v6 v7 v8 v9 v10 : Value) : Turn S w (((((((((((w.setCell ⟨B, 0, none⟩ v0).setCell ⟨B, 1, none⟩ v1).setCell ⟨B, 2, none⟩ v2).setCell ⟨B, 3, none⟩ v3).setCell ⟨B, 4, none⟩ v4).setCell ⟨B, 5, none⟩ v5).setCell ⟨B, 6, none⟩ v6).setCell ⟨B, 7, none⟩ v7).setCell ⟨B, 8, none⟩ v8).setCell ⟨B, 9, none⟩ v9).setCell ⟨B, 10, none⟩ v10) :=
  (((((((((((Turn.refl S w).set (p := ⟨B, 0, none⟩) hS v0).set (p := ⟨B, 1, none⟩) hS v1).set (p := ⟨B, 2, none⟩) hS v2).set (p := ⟨B, 3, none⟩) hS v3).set (p := ⟨B, 4, none⟩) hS v4).set (p := ⟨B, 5, none⟩) hS v5).set (p := ⟨B, 6, none⟩) hS v6).set (p := ⟨B, 7, none⟩) hS v7).set (p := ⟨B, 8, none⟩) hS v8).set (p := ⟨B, 9, none⟩) hS v9).set (p := ⟨B, 10, none⟩) hS v10

end Go.Proofs.YtlkhmnjghdbmoaaGreatDoor

namespace Go.Proofs.YtlkhmnjghdbmoaaGreatDoor
open Go.RowKit Go.Sort
set_option linter.unusedVariables false
set_option linter.unusedSimpArgs false
set_option maxRecDepth 100000

theorem nF_ok (id : Int) (up : Bool) (ro ep su ma ot co : Int) (n : Nat) (L : List Ek) (h : nF id up ro ep su ma ot co n L = 0) : Hd id ro ep ∧ n ≤ 100 ∧ lgF ep 0 L = 0 ∧ Cn su ma ot co n ∧ Ft up ro ep ma ot ∧ (up = false → Rs su ma co n) := by
  unfold nF at h
  by_cases h1 : (id = 0 ∨ id = 1) ∧ (ro = 0 ∨ ro = 1) ∧ 0 ≤ ep ∧ ep ≤ 1000
  case neg => rw [if_pos h1] at h; omega
  rw [if_neg (fun k => k h1)] at h
  by_cases h2 : 100 < n
  case pos => rw [if_pos h2] at h; omega
  rw [if_neg h2] at h
  by_cases h3 : lgF ep 0 L = 0
  case neg => rw [if_pos h3] at h; exact absurd h h3
  rw [if_neg (fun k => k h3)] at h
  by_cases h4 : (0 ≤ su ∧ su ≤ n) ∧ (0 ≤ ma ∧ ma ≤ n) ∧ (0 ≤ ot ∧ ot ≤ n) ∧ 0 ≤ co ∧ co ≤ su
  case neg => rw [if_pos h4] at h; omega
  rw [if_neg (fun k => k h4)] at h
  by_cases h5 : (ro = 1 → up = true ∧ 0 < ep ∧ ma = 0) ∧ (ro ≠ 1 → ot = 0)
  case neg => rw [if_pos h5] at h; omega
  rw [if_neg (fun k => k h5)] at h
  by_cases h6 : up = false ∧ ¬ (su = n ∧ ma = 0 ∧ co = 0)
  · rw [if_pos h6] at h; omega
  · exact ⟨h1, by omega, h3, h4, h5, fun hu => Classical.byContradiction fun hr => h6 ⟨hu, hr⟩⟩
theorem uF_ok {up : Bool} {f : Int} (h : uF up f = 0) : f = 0 ∧ up = true := by
  unfold uF at h
  by_cases hf : f = 0
  · rw [if_neg (fun k => k hf)] at h
    refine ⟨hf, ?_⟩
    cases up with
    | true => rfl
    | false => simp at h
  · rw [if_pos hf] at h; exact absurd h hf
theorem aF_ok {up : Bool} {ro f : Int} (h : aF up ro f = 0) : f = 0 ∧ up = true ∧ ro = 1 := by
  unfold aF at h
  by_cases hf : uF up f = 0
  · rw [if_neg (fun k => k hf)] at h
    refine ⟨(uF_ok hf).1, (uF_ok hf).2, Classical.byContradiction fun hr => ?_⟩
    rw [if_pos hr] at h
    omega
  · rw [if_pos hf] at h; exact absurd h hf

end Go.Proofs.YtlkhmnjghdbmoaaGreatDoor
