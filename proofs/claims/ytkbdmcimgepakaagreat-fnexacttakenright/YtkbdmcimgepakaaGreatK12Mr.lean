/- What is proved here: what the comparing, marking and holding of mails and of answers with nodes leave. -/
import Derived.Test.YtkbdmcimgepakaaGreatK12Cs
namespace Go.Proofs.YtkbdmcimgepakaaGreat
open Go.RowKit Go.Sort
set_option linter.unusedVariables false
set_option linter.unusedSimpArgs false
set_option maxRecDepth 100000

/-- A mail. -/
structure Ml where
  kd : Int
  tgt : Int
  ep : Int
  at1 : Int
  pr : Int
  has : Bool
  e : Ek
/-- A mail in memory. -/
structure MlV where
  m : Ml
  a : Option Addr
  c : Nat
def MlV.cs (v : MlV) : List Value := [.int .i64 v.m.kd, .int .i64 v.m.tgt, .int .i64 v.m.ep, .int .i64 v.m.at1, .int .i64 v.m.pr, .bool v.m.has, .int .i64 v.m.e.ep, .int .i64 v.m.e.ki, .int .i64 v.m.e.pe, .slice v.a v.m.e.xs.length v.c]

/-- At most one mail can be read there. -/
def SdAt (w : World) (S : Option Addr) (M : List MlV) : Prop := M = [] ∨ ∃ v g, M = [v] ∧ S = some ⟨g, 0, none⟩ ∧ (∀ j, j < 10 → w.cell? ⟨g, j, none⟩ = v.cs[j]?) ∧ BsAt w v.a v.m.e.xs ∧ v.m.e.xs.length ≤ 1048576
theorem SdAt.turn {w w' : World} {S : Option Addr} {M : List MlV} {T : Nat → Prop} (h : SdAt w S M) (t : Turn T w w') (hS : ∀ x, S = some x → ¬ T x.block) (hM : ∀ v ∈ M, ∀ x, v.a = some x → ¬ T x.block) : SdAt w' S M := by
  rcases h with h | ⟨v, g, rfl, rfl, hc, hb, hl⟩
  · exact .inl h
  · have h0 : w.cell? ⟨g, 0, none⟩ = some (.int .i64 v.m.kd) := hc 0 (by omega)
    exact .inr ⟨v, g, rfl, rfl, fun j hj => (World.cell?_of_block (t.block g (World.block_lt_of_cell? w _ h0) (hS _ rfl))).trans (hc j hj), hb.turn t (hM v (by simp)), hl⟩
theorem SdAt.new {w w' : World} {S : Option Addr} {M : List MlV} (h : SdAt w S M) (t : New w w') : SdAt w' S M := h.turn t (fun _ _ f => f) (fun _ _ _ _ f => f)
theorem SdAt.one {w : World} {S : Option Addr} {M : List MlV} (h : SdAt w S M) : M.length = 0 ∨ M.length = 1 := by
  rcases h with rfl | ⟨v, g, rfl, -⟩
  · exact .inl rfl
  · exact .inr rfl

/-- At most one mail, of the call's own: its row and its bytes lie in blocks of P. -/
def SdOw (w : World) (P : Nat → Prop) (S : Option Addr) (q cs : Nat) (M : List MlV) : Prop :=
  (M = [] ∧ S = none ∧ q = 0 ∧ cs = 0) ∨ ∃ v g, M = [v] ∧ S = some ⟨g, 0, none⟩ ∧ q = 1 ∧ P g ∧ w.ownsRow 0 105 10 (.slice (some ⟨g, 0, none⟩) 1 cs) 1 v.cs ∧ OwAt w v.a v.m.e.xs.length v.c v.m.e.xs ∧ (∀ z ∈ v.m.e.xs, By z) ∧ v.m.e.xs.length ≤ 1048576 ∧ ∀ x, v.a = some x → P x.block ∧ ¬ x.block = g
theorem SdOw.turn {w w' : World} {P : Nat → Prop} {S : Option Addr} {q cs : Nat} {M : List MlV} {T : Nat → Prop} (h : SdOw w P S q cs M) (t : Turn T w w') (hT : ∀ k, P k → ¬ T k) : SdOw w' P S q cs M := by
  rcases h with h | ⟨v, g, rfl, rfl, hq, hg, hr, ho, hb, hl, ha⟩
  · exact .inl h
  · exact .inr ⟨v, g, rfl, rfl, hq, hg, row9_turn hr t (by intro k hk; simp [Value.ownBlock] at hk; subst hk; exact hT _ hg), ho.turn t (fun x hx => hT _ (ha x hx).1), hb, hl, ha⟩
theorem SdOw.new {w w' : World} {P : Nat → Prop} {S : Option Addr} {q cs : Nat} {M : List MlV} (h : SdOw w P S q cs M) (t : New w w') : SdOw w' P S q cs M := h.turn t (fun _ _ f => f)
theorem SdOw.mono {w : World} {P Q : Nat → Prop} {S : Option Addr} {q cs : Nat} {M : List MlV} (h : SdOw w P S q cs M) (hPQ : ∀ k, P k → Q k) : SdOw w Q S q cs M := by
  rcases h with h | ⟨v, g, rfl, rfl, hq, hg, hr, ho, hb, hl, ha⟩
  · exact .inl h
  · exact .inr ⟨v, g, rfl, rfl, hq, hPQ _ hg, hr, ho, hb, hl, fun x hx => ⟨hPQ _ (ha x hx).1, (ha x hx).2⟩⟩
theorem SdOw.sd {w : World} {P : Nat → Prop} {S : Option Addr} {q cs : Nat} {M : List MlV} (h : SdOw w P S q cs M) : SdAt w S M ∧ M.length = q ∧ (∀ x, S = some x → P x.block) ∧ (∀ v ∈ M, ∀ x, v.a = some x → P x.block) := by
  rcases h with ⟨rfl, rfl, rfl, rfl⟩ | ⟨v, g, rfl, rfl, rfl, hg, hr, ho, hb, hl, ha⟩
  · exact ⟨.inl rfl, rfl, fun x hx => (by cases hx), fun v hv => (by cases hv)⟩
  · refine ⟨.inr ⟨v, g, rfl, rfl, fun j hj => World.ownsRow.cellAt hr j (by omega), ho.bs hb, hl⟩, rfl, fun x hx => ?_, fun u hu x hx => ?_⟩
    · cases hx; exact hg
    · obtain rfl := List.mem_singleton.1 hu
      exact (ha x hx).1
theorem SdOw.nil (w : World) (P : Nat → Prop) : SdOw w P none 0 0 [] := .inl ⟨rfl, rfl, rfl, rfl⟩

set_option maxHeartbeats 800000 in
theorem eqMl_any (kd tgt ep at1 pr : Int) (has : Bool) (ee ki pe : Int) (a b : Option Addr) (n c d : Nat) (zs : List Int) (w : World) (ha : BsAt w a zs) (hb : BsAt w b zs) (hn : zs.length = n) (hm : n ≤ 1048576) :
    Calls Tryz.prog 72 #[.agg #[.int .i64 kd, .int .i64 tgt, .int .i64 ep, .int .i64 at1, .int .i64 pr, .bool has, .int .i64 ee, .int .i64 ki, .int .i64 pe, .slice a n c], .agg #[.int .i64 kd, .int .i64 tgt, .int .i64 ep, .int .i64 at1, .int .i64 pr, .bool has, .int .i64 ee, .int .i64 ki, .int .i64 pe, .slice b n d]] w fun e w' => e = .returned (.bool true) ∧ New w w' := by
  have hw := ((New.refl w).alloc (.cells #[.int .i64 kd, .int .i64 tgt, .int .i64 ep, .int .i64 at1, .int .i64 pr, .bool has, .int .i64 ee, .int .i64 ki, .int .i64 pe, .slice a n c] 105)).alloc (.cells #[.int .i64 kd, .int .i64 tgt, .int .i64 ep, .int .i64 at1, .int .i64 pr, .bool has, .int .i64 ee, .int .i64 ki, .int .i64 pe, .slice b n d] 105)
  have z1 : (kd != kd) = false := by simp
  have z2 : (tgt != tgt) = false := by simp
  have z3 : (ep != ep) = false := by simp
  have z4 : (at1 != at1) = false := by simp
  have z5 : (pr != pr) = false := by simp
  have z6 : (has != has) = false := by simp
  go_enter Tryz.func72, Tryz.ntmps72
  go_wp2_with fail
  refine (eqEntry_any ee ki pe a b n c d zs _ (ha.new hw) (hb.new hw) hn hm).mono ?_
  rintro e w1 ⟨rfl, hn1⟩
  go_wp2
  go_ret
  exact ⟨rfl, hw.trans hn1⟩

theorem eqMls_nil (S T : Option Addr) (c d : Nat) (w : World) : Calls Tryz.prog 35 #[.slice S 0 c, .slice T 0 d] w fun e w' => e = .returned (.bool true) ∧ New w w' := by
  go_enter Tryz.func35, Tryz.ntmps35
  go_wp2
  refine wp_loop_rounds 1 ?_
  rw [rounds_succ]
  go_wp2
  go_ret
  exact ⟨rfl, New.refl _⟩

set_option maxHeartbeats 1600000 in
theorem eqMls_any (S T : Option Addr) (q c d : Nat) (M W : List MlV) (w : World) (h : SdAt w S M) (k : SdAt w T W) (hMW : M.map MlV.m = W.map MlV.m) (hq : M.length = q) :
    Calls Tryz.prog 35 #[.slice S q c, .slice T q d] w fun e w' => e = .returned (.bool true) ∧ New w w' := by
  rcases h with rfl | ⟨u, g, rfl, rfl, hc, hb, hl⟩
  · subst hq
    exact eqMls_nil S T c d w
  · rcases k with rfl | ⟨v, g', rfl, rfl, hc', hb', hl'⟩
    · simp at hMW
    · simp only [List.map_cons, List.map_nil, List.cons.injEq, and_true] at hMW
      obtain ⟨⟨kd, tgt, ep, at1, pr, has, ⟨ee, ki, pe, xs⟩⟩, a, ca⟩ := u
      obtain ⟨m', b, cb⟩ := v
      simp only at hMW
      subst hMW
      simp only [List.length_cons, List.length_nil] at hq
      subst hq
      have HL : Hid (xs.length ≤ 1048576) := hl
      have x0 := cell_regrown (hc 0 (by omega))
      have x1 := cell_regrown (hc 1 (by omega))
      have x2 := cell_regrown (hc 2 (by omega))
      have x3 := cell_regrown (hc 3 (by omega))
      have x4 := cell_regrown (hc 4 (by omega))
      have x5 := cell_regrown (hc 5 (by omega))
      have x6 := cell_regrown (hc 6 (by omega))
      have x7 := cell_regrown (hc 7 (by omega))
      have x8 := cell_regrown (hc 8 (by omega))
      have x9 := cell_regrown (hc 9 (by omega))
      have y0 := cell_regrown (hc' 0 (by omega))
      have y1 := cell_regrown (hc' 1 (by omega))
      have y2 := cell_regrown (hc' 2 (by omega))
      have y3 := cell_regrown (hc' 3 (by omega))
      have y4 := cell_regrown (hc' 4 (by omega))
      have y5 := cell_regrown (hc' 5 (by omega))
      have y6 := cell_regrown (hc' 6 (by omega))
      have y7 := cell_regrown (hc' 7 (by omega))
      have y8 := cell_regrown (hc' 8 (by omega))
      have y9 := cell_regrown (hc' 9 (by omega))
      have hb1 : BsAt w a xs := hb
      have hb2 : BsAt w b xs := hb'
      clear hc hc' hl hl' hb hb'
      go_enter Tryz.func35, Tryz.ntmps35
      go_wp2
      refine wp_loop_rounds 2 ?_
      rw [rounds_succ]
      go_wp2_with fail
      refine wp_region_quiet_below (by kernel_rfl) (by kernel_rfl) ?_
      repeat (go_big_quiet_step ((go_at_call 72; exact calls_regrown (eqMl_any kd tgt ep at1 pr has ee ki pe a b xs.length ca cb xs _ (hb1.new (new_regrown _ _ _)) (hb2.new (new_regrown _ _ _)) rfl HL.out))))
      refine wpQuiet_nil ?_
      rintro w1 hn1
      replace hn1 := new_of_regrown hn1
      go_wp2
      rw [rounds_succ]
      go_wp2
      go_ret
      exact ⟨rfl, hn1⟩

end Go.Proofs.YtkbdmcimgepakaaGreat
