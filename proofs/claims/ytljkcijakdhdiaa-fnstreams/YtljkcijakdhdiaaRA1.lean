/- What is proved here: what is read of a message has lists within their bounds. No condition. What is proved here: what the copying, the comparing and the counting of a message answer, for every lists of at most 1048576 elements. What is proved here: what appending one thing to a list of the call's own leaves, whatever the things are. What is proved here: rows of unlike things lie in unlike blocks. No condition. What is proved here: what lists of messages are: how they are read, compared, owned and appended to. No condition. What is proved here: plain facts on the splitting of a list of bytes into frames, and on lists of frames in memory; no run of the program. What is proved here: what the looks at the head of a frame and the taking of one frame answer, for every list of bytes of at most 400. What is proved here: what the look for a wrong mark and the taking of one frame answer, for every list of bytes. What is proved here: plain facts on lists of frames that the call owns in memory; no run of the program. What is proved here: a law on a body that jumps to several labels, for the texts behind it. What is proved here: what the reader of frames answers, for every list of at most 400 bytes. What is proved here: what the reader of frames answers, for every list of at most 400 bytes. -/
import Derived.Test.YtljkcijakdhdiaaMpIm
import Derived.Test.YtljkcijakdhdiaaPuBd
import Derived.Test.YtljkcijakdhdiaaMsFn2
import Derived.Test.YtljkcijakdhdiaaAp
import Derived.Maps.AppendAt
import Derived.Test.YtljkcijakdhdiaaBytes
import Derived.Test.YtljkcijakdhdiaaPuLaw2
import Derived.Lib.QuietBelow
import Derived.Test.YtljkcijakdhdiaaQB
import Derived.Test.YtljkcijakdhdiaaPackFn
import Derived.Laws.AppendOwnNone
import Derived.ScopeJumps
import Derived.WalkMore
import Derived.WalkKit
namespace Go.Proofs.Ytljkcijakdhdiaa
open Go.RowKit Go.Sort
set_option linter.unusedVariables false

theorem pu_bd_zero : Bd (puZ 0) := ⟨by intro q hq; simp [puZ] at hq, by intro q hq; simp [puZ] at hq, by intro q hq; simp [puZ] at hq, by simp [puZ], by simp [puZ], by simp [puZ]⟩

theorem mp_bd (k : Int) (zs : List Int) (hz : ∀ z ∈ zs, 0 ≤ z ∧ z ≤ 255) (hn : zs.length ≤ 1048576) : Bd (mp k zs) := by
  have h0 : Bd (puZ 0) := pu_bd_zero
  unfold mp
  split
  · exact h0
  · split
    · unfold mpU
      split
      · exact h0
      · exact pu_bd zs hz hn
    · exact h0

end Go.Proofs.Ytljkcijakdhdiaa

namespace Go.Proofs.Ytljkcijakdhdiaa
open Go.RowKit Go.Sort
set_option linter.unusedVariables false

set_option maxHeartbeats 1600000 in
theorem eqMs_any (ga a ra gb b rb : Option Addr) (gn gc n c rn rc gd d rd : Nat) (has : Bool) (o nx md lc : Int) (gs rs : List (Int × Int)) (xs : List Int) (kd sa ho si wh su : Int) (w : World)
    (hg : PsAt w ga gs) (hx : NsAt w a xs) (hr : PsAt w ra rs) (kg : PsAt w gb gs) (kx : NsAt w b xs) (kr : PsAt w rb rs) (hgn : gs.length = gn) (hn : xs.length = n) (hrn : rs.length = rn) (hm1 : gn ≤ 1048576) (hm2 : n ≤ 1048576) (hm3 : rn ≤ 1048576) :
    Calls Try.prog 44 #[.agg #[.int .i64 kd, .int .i64 sa, .int .i64 ho, .int .i64 si, .int .i64 wh, .int .i64 su, .slice ga gn gc, .bool has, .int .i64 o, .slice a n c, .int .i64 nx, .int .i64 md, .int .i64 lc, .slice ra rn rc], .agg #[.int .i64 kd, .int .i64 sa, .int .i64 ho, .int .i64 si, .int .i64 wh, .int .i64 su, .slice gb gn gd, .bool has, .int .i64 o, .slice b n d, .int .i64 nx, .int .i64 md, .int .i64 lc, .slice rb rn rd]] w fun e w' => e = .returned (.bool true) ∧ New w w' := by
  have hw := ((New.refl w).alloc (.cells #[.int .i64 kd, .int .i64 sa, .int .i64 ho, .int .i64 si, .int .i64 wh, .int .i64 su, .slice ga gn gc, .bool has, .int .i64 o, .slice a n c, .int .i64 nx, .int .i64 md, .int .i64 lc, .slice ra rn rc] 51)).alloc (.cells #[.int .i64 kd, .int .i64 sa, .int .i64 ho, .int .i64 si, .int .i64 wh, .int .i64 su, .slice gb gn gd, .bool has, .int .i64 o, .slice b n d, .int .i64 nx, .int .i64 md, .int .i64 lc, .slice rb rn rd] 51)
  have z1 : (kd != kd) = false := by simp
  have z2 : (sa != sa) = false := by simp
  have z3 : (ho != ho) = false := by simp
  have z4 : (si != si) = false := by simp
  have z5 : (wh != wh) = false := by simp
  have z6 : (su != su) = false := by simp
  go_enter Try.func44, Try.ntmps44
  go_wp2_with fail
  refine (eqUp_any ga a ra gb b rb gn gc n c rn rc gd d rd has o nx md lc gs rs xs _ (hg.new hw) (hx.new hw) (hr.new hw) (kg.new hw) (kx.new hw) (kr.new hw) hgn hn hrn hm1 hm2 hm3).mono ?_
  rintro e w1 ⟨rfl, hn1⟩
  go_wp2
  go_ret
  exact ⟨rfl, hw.trans hn1⟩

end Go.Proofs.Ytljkcijakdhdiaa

namespace Go.Proofs.Ytljkcijakdhdiaa
open Go.RowKit
set_option linter.unusedVariables false

theorem row9_form {w : World} {lo sz n : Nat} {e : TypeId} {u : Value} {xs : List Value} (h : w.ownsRow lo e sz u n xs) : ∃ y d, u = .slice y n d ∧ (y = none → n = 0 ∧ d = 0) ∧ ∀ k, u.ownBlock = some k → lo ≤ k ∧ k < w.heap.size := by
  rcases h.2 with ⟨h1, h2⟩ | ⟨g, c, cur, h1, h2, h3, r⟩
  · subst h1; subst h2
    exact ⟨none, 0, rfl, fun _ => ⟨rfl, rfl⟩, by intro k hk; simp [Value.ownBlock] at hk⟩
  · have hlt : g < w.heap.size := (Array.getElem?_eq_some_iff.1 h3).1
    subst h1
    refine ⟨some ⟨g, 0, none⟩, c, rfl, (by intro e; cases e), ?_⟩
    intro k hk
    simp [Value.ownBlock] at hk
    omega
theorem row9_turn {w w' : World} {lo sz n : Nat} {e : TypeId} {u : Value} {xs : List Value} {S : Nat → Prop} (h : w.ownsRow lo e sz u n xs) (t : Turn S w w') (hS : ∀ k, u.ownBlock = some k → ¬ S k) : w'.ownsRow lo e sz u n xs := by
  refine ⟨h.1, ?_⟩
  rcases h.2 with h' | ⟨g', cap', cur, h', hb, hh, r⟩
  · exact .inl h'
  · have hlt : g' < w.heap.size := (Array.getElem?_eq_some_iff.1 hh).1
    exact .inr ⟨g', cap', cur, h', hb, (t.block g' hlt (hS g' (by rw [h']; rfl))).trans hh, r⟩
theorem row9_new {w w' : World} {lo sz n : Nat} {e : TypeId} {u : Value} {xs : List Value} (h : w.ownsRow lo e sz u n xs) (t : New w w') : w'.ownsRow lo e sz u n xs := row9_turn h t (fun _ _ f => f)
theorem turn_of_grown {w w' : World} {b : Option Nat} (h : w.grownBy w' b) : Turn (fun k => b = some k) w w' := ⟨h.os, h.tape, h.output, h.size, fun k hk hs => h.block k hk (fun e => hs e.symm)⟩

section
variable {P : Program} {t e : TypeId} {i : TypeInfo}
theorem wpList_apV (w : World) {ops : Array Oper} {rest : List Oper} {o : Oper} {a : Act} {Q : Exit → Act → World → Prop} (hgd : o.guard = none) (s x : Operand)
    (ho : o.op = .call { callee := .builtin .append, args := #[s, x], argTypes := #[t, t] }) (base sz by' : Nat) (zero : Value) (ht : P.underlying t = some (.slice e)) (hi : P.info? e = some i) (hz : i.zero = some zero) (hs : i.size = sz) (hb : i.bytes = by') (hz1 : zero.cells.size = sz) (hsz : 0 < sz) (hby : by' ≤ 1000)
    (v : Value) (n : Nat) (xs : List Value) (hsv : a.eval s = v) (hown : w.ownsRow base e sz v n xs)
    (L : Nat) (r : List Value) (hr : r.length = sz) (h1 : ∀ u ∈ r, u.oneCell' = true) (hxv : a.eval x = .slice (some ⟨L, 0, none⟩) 1 1) (hsrc : ∀ j u, r[j]? = some u → w.cell? ⟨L, j, none⟩ = some u) (hle : n + 1 ≤ 4194304) (hbase : base ≤ w.heap.size)
    (h : ∀ v' w', w'.ownsRow base e sz v' (n + 1) (xs ++ r) → w.grownBy w' v.ownBlock → (v'.ownBlock = v.ownBlock ∨ v'.ownBlock = some w.heap.size) → wpList P ops Q rest (a.put o.dst v') w') : wpList P ops Q (o :: rest) a w := by
  refine wpList_plain hgd fun _ hK => ?_
  have hnews : ∀ j u, r[j]? = some u → w.cell? ((⟨L, 0, none⟩ : Addr).add j) = some u := by
    intro j u hu
    rw [Addr.add_lit, Nat.zero_add]
    exact hsrc j u hu
  have hbb : (n + 1) * by' ≤ 140737488355328 := Nat.le_trans (Nat.mul_le_mul hle hby) (by decide)
  obtain ⟨v', w', hr, h2, h3, _, h5⟩ := run_append_own_at (P := P) w base t o.type e i zero sz by' ht hi hz hs hb hz1 hsz v n xs hown ⟨L, 0, none⟩ 1 1 r (by omega) hnews h1 (by unfold maxLen; omega) hbb hbase
  unfold Oper.wp execOp
  simp only [ho, resolve, invoke, builtin, Sem.run_bind, Sem.run_pure, Result.andThen_ok, List.map_toArray, List.map_cons, List.map_nil, hsv, hxv, hr]
  exact hK _ _ (h v' w' h2 h3 h5)
end

end Go.Proofs.Ytljkcijakdhdiaa

namespace Go.Proofs.Ytljkcijakdhdiaa
open Go.RowKit
set_option linter.unusedVariables false
set_option linter.unusedSimpArgs false
set_option maxRecDepth 100000

theorem row_ne_row {w : World} {lo lo' sz sz' n n' : Nat} {e e' : TypeId} {u u' : Value} {xs xs' : List Value} (h : w.ownsRow lo e sz u n xs) (h' : w.ownsRow lo' e' sz' u' n' xs') (hne : e ≠ e') : ∀ k, u.ownBlock = some k → u'.ownBlock ≠ some k := by
  intro k hk hk'
  rcases h.2 with ⟨h1, h2⟩ | ⟨g, c, cur, h1, h2, h3, r⟩
  · subst h1; simp [Value.ownBlock] at hk
  · rcases h'.2 with ⟨i1, i2⟩ | ⟨g', c', cur', i1, i2, i3, r'⟩
    · subst i1; simp [Value.ownBlock] at hk'
    · subst h1 i1
      simp [Value.ownBlock] at hk hk'
      subst hk hk'
      rw [h3] at i3
      simp at i3
      exact hne i3.2

end Go.Proofs.Ytljkcijakdhdiaa

namespace Go.Proofs.Ytljkcijakdhdiaa
open Go.RowKit Go.Sort
set_option linter.unusedVariables false
set_option linter.unusedSimpArgs false
set_option maxRecDepth 100000

/-- A message in memory. -/
structure Mg where
  H : MH
  p : PU
  x : Value
  y : Value
  z : Value
def Mg.r (v : Mg) : MH × PU := (v.H, v.p)
def Mg.bl (v : Mg) (k : Nat) : Prop := v.x.ownBlock = some k ∨ v.y.ownBlock = some k ∨ v.z.ownBlock = some k
def Mg.cs (v : Mg) : List Value := [.int .i64 v.H.kd, .int .i64 v.H.sa, .int .i64 v.H.ho, .int .i64 v.H.si, .int .i64 v.H.wh, .int .i64 v.H.su, v.x, .bool v.p.has, .int .i64 v.p.o, v.y, .int .i64 v.p.nx, .int .i64 v.p.md, .int .i64 v.p.lc, v.z]
def cellsG (U : List Mg) : List Value := U.flatMap Mg.cs
theorem cellsG_len : ∀ U : List Mg, (cellsG U).length = U.length * 14
  | [] => rfl
  | x :: U => by
    have := cellsG_len U
    unfold cellsG at this ⊢
    rw [List.flatMap_cons, List.length_append, this]
    simp only [Mg.cs, List.length_cons, List.length_nil]
    omega
theorem cellsG_get : ∀ (U : List Mg) (i : Nat) (u : Mg), U[i]? = some u → ∀ j, j < 14 → (cellsG U)[i * 14 + j]? = u.cs[j]?
  | [], i, u, h, _, _ => by simp at h
  | x :: U, 0, u, h, j, hj => by
    simp at h
    subst h
    unfold cellsG
    rw [List.flatMap_cons, Nat.zero_mul, Nat.zero_add, List.getElem?_append_left (by simpa [Mg.cs] using hj)]
  | x :: U, i + 1, u, h, j, hj => by
    have ih := cellsG_get U i u (by simpa using h) j hj
    unfold cellsG at ih ⊢
    rw [List.flatMap_cons, List.getElem?_append_right (by simp [Mg.cs]; omega)]
    have e : (i + 1) * 14 + j - (Mg.cs x).length = i * 14 + j := by simp [Mg.cs]; omega
    rw [e]
    exact ih
theorem cellsG_snoc (U : List Mg) (v : Mg) : cellsG (U ++ [v]) = cellsG U ++ v.cs := by
  unfold cellsG
  rw [List.flatMap_append, List.flatMap_cons, List.flatMap_nil, List.append_nil]

theorem Got.turnB {w w' : World} {lo : Nat} {p : PU} {x y z : Value} {S : Nat → Prop} (h : Got w lo p x y z) (t : Turn S w w') (hS : ∀ k, (x.ownBlock = some k ∨ y.ownBlock = some k ∨ z.ownBlock = some k) → ¬ S k) : Got w' lo p x y z :=
  ⟨h.g.turnA t (fun k hk => hS k (.inl hk)), h.n.turnA t (fun k hk => hS k (.inr (.inl hk))), h.r.turnA t (fun k hk => hS k (.inr (.inr hk))), h.gn, h.gr, h.nr⟩
theorem Got.blk {w : World} {lo : Nat} {p : PU} {x y z : Value} (h : Got w lo p x y z) : ∀ k, (x.ownBlock = some k ∨ y.ownBlock = some k ∨ z.ownBlock = some k) → lo ≤ k ∧ k < w.heap.size := by
  rintro k (e | e | e)
  · exact h.g.blk k e
  · exact h.n.blk k e
  · exact h.r.blk k e
theorem OwQ.neR {w : World} {lo lo' sz n : Nat} {v u : Value} {L : List (Int × Int)} {e : TypeId} {xs : List Value} (h : OwQ w lo v L) (hr : w.ownsRow lo' e sz u n xs) (he : e ≠ 88) : ∀ k, v.ownBlock = some k → u.ownBlock ≠ some k := by
  intro k hk hu
  rcases h with ⟨rfl, -⟩ | ⟨g, c, rfl, -, ho⟩
  · cases hk
  · exact row_ne_row hr ho he k hu hk
theorem OwM.neR {w : World} {lo lo' sz n : Nat} {v u : Value} {L : List Int} {e : TypeId} {xs : List Value} (h : OwM w lo v L) (hr : w.ownsRow lo' e sz u n xs) (he : e ≠ 2) : ∀ k, v.ownBlock = some k → u.ownBlock ≠ some k := by
  intro k hk hu
  rcases h with ⟨rfl, -⟩ | ⟨g, c, rfl, -, ho⟩
  · cases hk
  · exact row_ne_row hr ho he k hu hk
theorem Got.neR {w : World} {lo lo' sz n : Nat} {p : PU} {x y z u : Value} {xs : List Value} (h : Got w lo p x y z) (hr : w.ownsRow lo' 51 sz u n xs) : ∀ k, (x.ownBlock = some k ∨ y.ownBlock = some k ∨ z.ownBlock = some k) → u.ownBlock ≠ some k := by
  rintro k (e | e | e)
  · exact h.g.neR hr (by decide) k e
  · exact h.n.neR hr (by decide) k e
  · exact h.r.neR hr (by decide) k e

/-- The messages can be read there. -/
def MgAt (w : World) (A : Option Addr) (U : List Mg) : Prop := ∀ i u, U[i]? = some u → (∃ g, A = some ⟨g, 0, none⟩ ∧ ∀ j, j < 14 → w.cell? ⟨g, i * 14 + j, none⟩ = u.cs[j]?) ∧ Got w 0 u.p u.x u.y u.z ∧ Bd u.p
theorem MgAt.turn {w w' : World} {A : Option Addr} {U : List Mg} {S : Nat → Prop} (h : MgAt w A U) (t : Turn S w w') (hA : ∀ x, U ≠ [] → A = some x → ¬ S x.block) (hU : ∀ u ∈ U, ∀ k, u.bl k → ¬ S k) : MgAt w' A U := by
  intro i u hu
  obtain ⟨⟨g, hg, hc⟩, hb, hl⟩ := h i u hu
  have hne : U ≠ [] := by rintro rfl; simp at hu
  have h0 : w.cell? ⟨g, i * 14, none⟩ = some (.int .i64 u.H.kd) := hc 0 (by omega)
  exact ⟨⟨g, hg, fun j hj => (World.cell?_of_block (t.block g (World.block_lt_of_cell? w _ h0) (hA _ hne hg))).trans (hc j hj)⟩, hb.turnB t (fun k hk => hU u (List.mem_of_getElem? hu) k hk), hl⟩
theorem MgAt.new {w w' : World} {A : Option Addr} {U : List Mg} (h : MgAt w A U) (t : New w w') : MgAt w' A U := h.turn t (fun _ _ _ f => f) (fun _ _ _ _ f => f)
theorem MgAt.lt {w : World} {A : Option Addr} {U : List Mg} (h : MgAt w A U) : (∀ x, U ≠ [] → A = some x → x.block < w.heap.size) ∧ ∀ u ∈ U, ∀ k, u.bl k → k < w.heap.size := by
  refine ⟨fun x hne hx => ?_, fun u hu k hk => ?_⟩
  · obtain ⟨⟨g, hg, hc⟩, -, -⟩ := h 0 _ (List.getElem?_eq_getElem (List.length_pos_iff.2 hne))
    rw [hg] at hx
    cases hx
    exact World.block_lt_of_cell? w _ (hc 0 (by omega))
  · obtain ⟨i, hi, rfl⟩ := List.mem_iff_getElem.1 hu
    exact ((h i _ (List.getElem?_eq_getElem hi)).2.1.blk k hk).2
theorem MgAt.at {w : World} {A : Option Addr} {U : List Mg} (h : MgAt w A U) (i : Nat) (hi : i < U.length) :
    ∃ (g : Nat) (H : MH) (p : PU) (ga a ra : Option Addr) (gc c rc : Nat), A = some ⟨g, 0, none⟩ ∧ U[i]? = some ⟨H, p, .slice ga p.gs.length gc, .slice a p.xs.length c, .slice ra p.rs.length rc⟩ ∧ PsAt w ga p.gs ∧ NsAt w a p.xs ∧ PsAt w ra p.rs ∧ Bd p ∧ (∀ j, j < 14 → w.cell? ⟨g, i * 14 + j, none⟩ = (Mg.cs ⟨H, p, .slice ga p.gs.length gc, .slice a p.xs.length c, .slice ra p.rs.length rc⟩)[j]?) := by
  obtain ⟨⟨g, hg, hc⟩, hb, hl⟩ := h i _ (List.getElem?_eq_getElem hi)
  have hu := List.getElem?_eq_getElem hi
  generalize U[i] = u at *
  obtain ⟨H, p, x, y, z⟩ := u
  obtain ⟨ga, gc, e1⟩ := hb.g.slice
  obtain ⟨a, c, e2⟩ := hb.n.slice
  obtain ⟨ra, rc, e3⟩ := hb.r.slice
  simp only at e1 e2 e3
  subst e1
  subst e2
  subst e3
  exact ⟨g, H, p, ga, a, ra, gc, c, rc, hg, hu, hb.g.psA hl.g, hb.n.nsA hl.n, hb.r.psA hl.r, hl, hc⟩

/-- A list of messages of the call's own, from lo on. -/
structure OvG (w : World) (lo : Nat) (v : Value) (U : List Mg) : Prop where
  row : w.ownsRow lo 51 14 v U.length (cellsG U)
  own : ∀ u ∈ U, Got w lo u.p u.x u.y u.z
  bd : ∀ u ∈ U, Bd u.p
  apart : ∀ (i j : Nat) (u v : Mg) (k : Nat), U[i]? = some u → U[j]? = some v → i ≠ j → u.bl k → ¬ v.bl k
theorem OvG.nil (w : World) (lo : Nat) : OvG w lo (.slice none 0 0) [] := ⟨⟨rfl, .inl ⟨rfl, rfl⟩⟩, (by intro u hu; cases hu), (by intro u hu; cases hu), (by intro i j u v k hu; simp at hu)⟩
theorem OvG.turn {w w' : World} {lo : Nat} {v : Value} {U : List Mg} {S : Nat → Prop} (h : OvG w lo v U) (t : Turn S w w') (hv : ∀ k, v.ownBlock = some k → ¬ S k) (hU : ∀ u ∈ U, ∀ k, u.bl k → ¬ S k) : OvG w' lo v U :=
  ⟨row9_turn h.row t hv, fun u hu => (h.own u hu).turnB t (hU u hu), h.bd, h.apart⟩
theorem OvG.new {w w' : World} {lo : Nat} {v : Value} {U : List Mg} (h : OvG w lo v U) (t : New w w') : OvG w' lo v U := h.turn t (fun _ _ f => f) (fun _ _ _ _ f => f)
theorem OvG.blk {w : World} {lo : Nat} {v : Value} {U : List Mg} (h : OvG w lo v U) : (∀ k, v.ownBlock = some k → lo ≤ k ∧ k < w.heap.size) ∧ ∀ u ∈ U, ∀ k, u.bl k → (lo ≤ k ∧ k < w.heap.size) ∧ v.ownBlock ≠ some k := by
  refine ⟨fun k hk => ?_, fun u hu k hk => ⟨(h.own u hu).blk k hk, (h.own u hu).neR h.row k hk⟩⟩
  obtain ⟨_, _, _, _, hb⟩ := row9_form h.row
  exact hb k hk
theorem OvG.turnL {w w' : World} {lo : Nat} {v : Value} {U : List Mg} {S : Nat → Prop} (h : OvG w lo v U) (t : Turn S w w') (hS : ∀ k, lo ≤ k → ¬ S k) : OvG w' lo v U :=
  h.turn t (fun k hk => hS k (h.blk.1 k hk).1) (fun u hu k hk => hS k (h.blk.2 u hu k hk).1.1)
theorem OvG.snoc {w w' : World} {lo lo2 : Nat} {v v' : Value} {U : List Mg} {m : Mg} (h : OvG w lo v U) (hg : Got w lo2 m.p m.x m.y m.z) (hb : Bd m.p) (hlo : lo ≤ lo2) (hU : ∀ u ∈ U, ∀ k, u.bl k → k < lo2) (hr : w'.ownsRow lo 51 14 v' (U.length + 1) (cellsG U ++ m.cs)) (hw : w.grownBy w' v.ownBlock) : OvG w' lo v' (U ++ [m]) := by
  have t := turn_of_grown hw
  refine ⟨?_, fun u hu => ?_, fun u hu => ?_, fun i j u u' k hi hj hij hk hk' => ?_⟩
  · rw [List.length_append, List.length_singleton, cellsG_snoc]; exact hr
  · rcases List.mem_append.1 hu with hu | hu
    · exact (h.own u hu).turnB t (fun k hk e => (h.blk.2 u hu k hk).2 e)
    · obtain rfl := List.mem_singleton.1 hu
      exact (hg.turnB t (fun k hk e => hg.neR h.row k hk e)).low hlo
  · rcases List.mem_append.1 hu with hu | hu
    · exact h.bd u hu
    · obtain rfl := List.mem_singleton.1 hu
      exact hb
  · have key : ∀ (i : Nat) (u : Mg), (U ++ [m])[i]? = some u → (i < U.length ∧ U[i]? = some u) ∨ (i = U.length ∧ u = m) := by
      intro i u hu
      rcases Nat.lt_trichotomy i U.length with hl | hl | hl
      · rw [List.getElem?_append_left hl] at hu; exact .inl ⟨hl, hu⟩
      · rw [List.getElem?_append_right (by omega), hl, Nat.sub_self] at hu; simp at hu; exact .inr ⟨hl, hu.symm⟩
      · rw [List.getElem?_append_right (by omega)] at hu
        have := (List.getElem?_eq_some_iff.1 hu).1
        simp at this
        omega
    rcases key i u hi with ⟨l1, h1⟩ | ⟨l1, rfl⟩ <;> rcases key j u' hj with ⟨l2, h2⟩ | ⟨l2, rfl⟩
    · exact h.apart i j u u' k h1 h2 hij hk hk'
    · have a1 := hU u (List.mem_of_getElem? h1) k hk
      have a2 := (hg.blk k hk').1
      omega
    · have a1 := hU u' (List.mem_of_getElem? h2) k hk'
      have a2 := (hg.blk k hk).1
      omega
    · omega
/-- What the marking needs of a list: the row and each message's lists, of the call's own, from lo up to hi. -/
structure OwG (w : World) (lo hi g n c : Nat) (U : List Mg) : Prop where
  row : w.ownsRow 0 51 14 (.slice (some ⟨g, 0, none⟩) n c) n (cellsG U)
  own : ∀ (i : Nat) (u : Mg), U[i]? = some u → Got w lo u.p u.x u.y u.z
  bd : ∀ u ∈ U, Bd u.p
  inn : ∀ u ∈ U, ∀ k, u.bl k → lo ≤ k ∧ k < hi ∧ ¬ k = g
  glo : lo ≤ g ∧ g < hi
  apart : ∀ (i j : Nat) (u v : Mg) (k : Nat), U[i]? = some u → U[j]? = some v → i ≠ j → u.bl k → ¬ v.bl k
theorem row_turn14 {w w' : World} {g n c : Nat} {xs : List Value} {S : Nat → Prop} (h : w.ownsRow 0 51 14 (.slice (some ⟨g, 0, none⟩) n c) n xs) (t : Turn S w w') (hS : ¬ S g) : w'.ownsRow 0 51 14 (.slice (some ⟨g, 0, none⟩) n c) n xs := row9_turn h t (by intro k hk; simp [Value.ownBlock] at hk; subst hk; exact hS)
theorem own_base14 {w : World} {lo sz n : Nat} {e : TypeId} {u : Value} {xs : List Value} (h : w.ownsRow lo e sz u n xs) : w.ownsRow 0 e sz u n xs := by
  refine ⟨h.1, ?_⟩
  rcases h.2 with h' | ⟨g', cap', cur, h', hb, r⟩
  · exact .inl h'
  · exact .inr ⟨g', cap', cur, h', Nat.zero_le _, r⟩

/-- An answer with messages: four numbers and a list of the call's own. -/
def RmAns (w : World) (Z US WY SB : Int) (D : List (MH × PU)) (e : Ending) (w' : World) : Prop :=
  ∃ (y : Option Addr) (d : Nat) (U : List Mg), e = .returned (.agg #[.int .i64 Z, .int .i64 US, .int .i64 WY, .int .i64 SB, .slice y U.length d]) ∧ U.map Mg.r = D ∧ MgAt w' y U ∧ ((y = none ∧ U = []) ∨ ∃ g, y = some ⟨g, 0, none⟩ ∧ OwG w' w.heap.size w'.heap.size g U.length d U) ∧ New w w'
theorem RmAns.of {w w' : World} {lo : Nat} {v : Value} {U : List Mg} {Z US WY SB : Int} {e : Ending} (h : OvG w' lo v U) (hlo : w.heap.size ≤ lo) (hn : New w w') (he : e = .returned (.agg #[.int .i64 Z, .int .i64 US, .int .i64 WY, .int .i64 SB, v])) : RmAns w Z US WY SB (U.map Mg.r) e w' := by
  obtain ⟨y, d, rfl, hny, hby⟩ := row9_form h.row
  refine ⟨y, d, U, he, rfl, ?_, ?_, hn⟩
  · intro i u hu
    have hi := (List.getElem?_eq_some_iff.1 hu).1
    refine ⟨?_, (h.own u (List.mem_of_getElem? hu)).low (Nat.zero_le _), h.bd u (List.mem_of_getElem? hu)⟩
    rcases h.row.2 with ⟨h1, h2⟩ | ⟨g, cap, cur, h1, h2, h3, r⟩
    · omega
    · obtain ⟨rfl, rfl⟩ : y = some ⟨g, 0, none⟩ ∧ d = cap := by simp at h1; exact ⟨h1.1, h1.2⟩
      refine ⟨g, rfl, fun j hj => ?_⟩
      rw [World.ownsRow.cellAt h.row (i * 14 + j) (by omega)]
      exact cellsG_get _ i _ hu j hj
  · rcases h.row.2 with ⟨h1, h2⟩ | ⟨g, cap, cur, h1, h2, h3, r⟩
    · obtain rfl : U = [] := List.eq_nil_of_length_eq_zero h2
      obtain ⟨rfl, -⟩ : y = none ∧ d = 0 := by simp at h1; exact ⟨h1.1, h1.2⟩
      exact .inl ⟨rfl, rfl⟩
    · obtain ⟨rfl, rfl⟩ : y = some ⟨g, 0, none⟩ ∧ d = cap := by simp at h1; exact ⟨h1.1, h1.2⟩
      refine .inr ⟨g, rfl, ⟨own_base14 h.row, fun i u hu => (h.own u (List.mem_of_getElem? hu)).low hlo, h.bd, fun u hu k hk => ?_, ⟨by omega, (Array.getElem?_eq_some_iff.1 h3).1⟩, h.apart⟩⟩
      obtain ⟨⟨q1, q2⟩, q3⟩ := h.blk.2 u hu k hk
      exact ⟨by omega, q2, fun e => q3 (by rw [e]; rfl)⟩

end Go.Proofs.Ytljkcijakdhdiaa

namespace Go.Proofs.Ytljkcijakdhdiaa
open Go.RowKit

/-- What is wrong with the head of a frame, as far as it is there. -/
def headM (l : List Int) : Int :=
  if 0 < l.length ∧ l.getD 0 0 ≠ 255 then 1 else if 1 < l.length ∧ l.getD 1 0 ≠ 255 then 1
  else if 3 < l.length ∧ (numAt l 2 2 < 5 ∨ 125 < numAt l 2 2) then 2 else if 4 < l.length ∧ (l.getD 4 0 < 1 ∨ 4 < l.getD 4 0) then 3 else 0
/-- The size that the head says. -/
def szM (l : List Int) : Nat := (numAt l 2 2).toNat
/-- The frames at the beginning, with fuel. -/
def splitF : Nat → List Int → Int × Nat × List (Int × List Int)
  | 0, _ => (0, 0, [])
  | f + 1, l => if headM l ≠ 0 then (headM l, 0, []) else if l.length < 5 ∨ l.length < szM l then (0, 0, [])
    else ((splitF f (l.drop (szM l))).1, szM l + (splitF f (l.drop (szM l))).2.1, (l.getD 4 0, (l.take (szM l)).drop 5) :: (splitF f (l.drop (szM l))).2.2)

theorem head_ok {l : List Int} (h : headM l = 0) (h5 : 5 ≤ l.length) : 5 ≤ szM l ∧ szM l ≤ 125 ∧ 1 ≤ l.getD 4 0 ∧ l.getD 4 0 ≤ 4 ∧ l.getD 0 0 = 255 ∧ l.getD 1 0 = 255 ∧ (szM l : Int) = numAt l 2 2 := by
  unfold headM at h
  split at h
  · omega
  · split at h
    · omega
    · split at h
      · omega
      · split at h
        · omega
        · unfold szM; omega

/-- What is told of the bytes behind the first u, once the frames fs have been told. -/
def SplitAt (zs : List Int) (u : Nat) (fs : List (Int × List Int)) (R : Int × Nat × List (Int × List Int)) : Prop :=
  ∃ f, zs.length < u + f ∧ R = ((splitF f (zs.drop u)).1, u + (splitF f (zs.drop u)).2.1, fs ++ (splitF f (zs.drop u)).2.2)

theorem SplitAt.start (zs : List Int) : SplitAt zs 0 [] (splitF (zs.length + 1) zs) := ⟨zs.length + 1, by omega, by simp⟩
theorem SplitAt.stop {zs : List Int} {u : Nat} {fs : List (Int × List Int)} {R : Int × Nat × List (Int × List Int)} (h : SplitAt zs u fs R) (hu : u ≤ zs.length) (hh : headM (zs.drop u) ≠ 0) : R = (headM (zs.drop u), u, fs) := by
  obtain ⟨f, hf, rfl⟩ := h
  cases f with
  | zero => omega
  | succ f => simp [splitF, hh]
theorem SplitAt.done {zs : List Int} {u : Nat} {fs : List (Int × List Int)} {R : Int × Nat × List (Int × List Int)} (h : SplitAt zs u fs R) (hu : u ≤ zs.length) (hh : headM (zs.drop u) = 0) (hs : (zs.drop u).length < 5 ∨ (zs.drop u).length < szM (zs.drop u)) : R = (0, u, fs) := by
  obtain ⟨f, hf, rfl⟩ := h
  cases f with
  | zero => omega
  | succ f => rw [splitF, if_neg (by simp [hh]), if_pos hs]; simp
theorem SplitAt.next {zs : List Int} {u : Nat} {fs : List (Int × List Int)} {R : Int × Nat × List (Int × List Int)} (h : SplitAt zs u fs R) (hu : u ≤ zs.length) (hh : headM (zs.drop u) = 0) (h5 : 5 ≤ (zs.drop u).length) (hs : szM (zs.drop u) ≤ (zs.drop u).length) :
    SplitAt zs (u + szM (zs.drop u)) (fs ++ [((zs.drop u).getD 4 0, ((zs.drop u).take (szM (zs.drop u))).drop 5)]) R := by
  obtain ⟨f, hf, rfl⟩ := h
  have h5' := head_ok hh h5
  cases f with
  | zero => omega
  | succ f =>
    refine ⟨f, by omega, ?_⟩
    rw [splitF, if_neg (by simp [hh]), if_neg (by omega), List.drop_drop]
    simp [Nat.add_assoc]

end Go.Proofs.Ytljkcijakdhdiaa

namespace Go.Proofs.Ytljkcijakdhdiaa
open Go.RowKit

theorem getD_of {zs : List Int} {i : Nat} {z : Int} (h : zs[i]? = some z) : zs.getD i 0 = z := by simp [List.getD, h]

set_option maxHeartbeats 1600000 in
theorem head_any (a : Option Addr) (n c : Nat) (zs : List Int) (w : World) (h : BsAt w a zs) (hn : zs.length = n) (hm : n ≤ 1048576) :
    Calls Try.prog 37 #[.slice a n c] w fun e w' => e = .returned (.int .i64 (headM zs)) ∧ w' = w := by
  by_cases h0 : n = 0
  · have HF : Hid (headM zs = 0) := by unfold Hid headM; rw [hn]; simp [h0]
    subst h0
    clear hn
    go_enter Try.func37, Try.ntmps37
    go_wp2
    go_ret
    exact ⟨ret_i64 HF.out.symm, rfl⟩
  obtain ⟨b, off, z0, rfl, hz0, c0, y0, y0'⟩ := h.at 0 (by omega)
  rw [Nat.add_zero] at c0
  have g0 := getD_of hz0
  by_cases e0 : z0 = 255
  case neg =>
    have HF : Hid (headM zs = 1) := by unfold Hid headM; rw [hn, g0, if_pos ⟨by omega, e0⟩]
    have t0 : (z0 != 255) = true := by simp [e0]
    have p0 : (0 : Int) < (n : Int) := by omega
    clear hn g0 hz0 e0
    go_enter Try.func37, Try.ntmps37
    go_wp2
    go_ret
    exact ⟨ret_i64 HF.out.symm, rfl⟩
  have t0 : (z0 != 255) = false := by simp [e0]
  by_cases h1 : n = 1
  · have HF : Hid (headM zs = 0) := by unfold Hid headM; rw [hn, g0]; simp [h1, e0]
    subst h1
    clear hn g0 hz0 e0
    go_enter Try.func37, Try.ntmps37
    go_wp2
    go_ret
    exact ⟨ret_i64 HF.out.symm, rfl⟩
  obtain ⟨b', off', z1, e', hz1, c1, y1, y1'⟩ := h.at 1 (by omega)
  simp only [Option.some.injEq, Addr.mk.injEq, and_true] at e'
  obtain ⟨rfl, rfl⟩ := e'
  have g1 := getD_of hz1
  have p0 : (0 : Int) < (n : Int) := by omega
  have p1 : (1 : Int) < (n : Int) := by omega
  by_cases e1 : z1 = 255
  case neg =>
    have HF : Hid (headM zs = 1) := by unfold Hid headM; rw [hn, g0, g1, if_neg (by simp [e0]), if_pos ⟨by omega, e1⟩]
    have t1 : (z1 != 255) = true := by simp [e1]
    clear hn g0 hz0 e0 g1 hz1 e1
    go_enter Try.func37, Try.ntmps37
    go_wp2
    go_ret
    exact ⟨ret_i64 HF.out.symm, rfl⟩
  have t1 : (z1 != 255) = false := by simp [e1]
  by_cases h3 : n ≤ 3
  · have HF : Hid (headM zs = 0) := by
      unfold Hid headM
      rw [hn, g0, g1, if_neg (by simp [e0]), if_neg (by simp [e1]), if_neg (by omega), if_neg (by omega)]
    clear hn g0 hz0 e0 g1 hz1 e1
    go_enter Try.func37, Try.ntmps37
    go_wp2
    go_ret
    exact ⟨ret_i64 HF.out.symm, rfl⟩
  have p3 : (3 : Int) < (n : Int) := by omega
  by_cases e2 : numAt zs 2 2 < 5 ∨ 125 < numAt zs 2 2
  · have HF : Hid (headM zs = 2) := by
      unfold Hid headM
      rw [hn, g0, g1, if_neg (by simp [e0]), if_neg (by simp [e1]), if_pos ⟨by omega, e2⟩]
    have HN : Hid (zs.length = n) := hn
    clear hn g0 hz0 e0 g1 hz1 e1
    go_enter Try.func37, Try.ntmps37
    go_wp2_with fail
    refine (take_any _ n c 2 2 zs _ h HN.out hm (by omega) (by omega)).mono ?_
    rintro e w1 ⟨rfl, rfl⟩
    go_wp2_with fail
    refine (in_no _ _ _ _ e2).mono ?_
    rintro e w1 ⟨rfl, rfl⟩
    go_wp2
    go_ret
    exact ⟨ret_i64 HF.out.symm, rfl⟩
  have e2' : 5 ≤ numAt zs 2 2 ∧ numAt zs 2 2 ≤ 125 := by omega
  by_cases h4 : n = 4
  · have HF : Hid (headM zs = 0) := by
      unfold Hid headM
      rw [hn, g0, g1, if_neg (by simp [e0]), if_neg (by simp [e1]), if_neg (fun x => e2 x.2), if_neg (by omega)]
    have HN : Hid (zs.length = n) := hn
    have p4 : ¬ (4 : Int) < (n : Int) := by omega
    clear hn g0 hz0 e0 g1 hz1 e1 e2 h4
    go_enter Try.func37, Try.ntmps37
    go_wp2_with fail
    refine (take_any _ n c 2 2 zs _ h HN.out hm (by omega) (by omega)).mono ?_
    rintro e w1 ⟨rfl, rfl⟩
    go_wp2_with fail
    refine (in_yes _ _ _ _ e2').mono ?_
    rintro e w1 ⟨rfl, rfl⟩
    go_wp2
    go_ret
    exact ⟨ret_i64 HF.out.symm, rfl⟩
  obtain ⟨b', off', z4, e', hz4, c4, y4, y4'⟩ := h.at 4 (by omega)
  simp only [Option.some.injEq, Addr.mk.injEq, and_true] at e'
  obtain ⟨rfl, rfl⟩ := e'
  have g4 := getD_of hz4
  have p4 : (4 : Int) < (n : Int) := by omega
  by_cases e4 : z4 < 1 ∨ 4 < z4
  · have HF : Hid (headM zs = 3) := by
      unfold Hid headM
      rw [hn, g0, g1, g4, if_neg (by simp [e0]), if_neg (by simp [e1]), if_neg (fun x => e2 x.2), if_pos ⟨by omega, e4⟩]
    have HN : Hid (zs.length = n) := hn
    clear hn g0 hz0 e0 g1 hz1 e1 e2 h4 g4 hz4
    go_enter Try.func37, Try.ntmps37
    go_wp2_with fail
    refine (take_any _ n c 2 2 zs _ h HN.out hm (by omega) (by omega)).mono ?_
    rintro e w1 ⟨rfl, rfl⟩
    go_wp2_with fail
    refine (in_yes _ _ _ _ e2').mono ?_
    rintro e w1 ⟨rfl, rfl⟩
    go_wp2_with fail
    refine (in_no _ _ _ _ e4).mono ?_
    rintro e w1 ⟨rfl, rfl⟩
    go_wp2
    go_ret
    exact ⟨ret_i64 HF.out.symm, rfl⟩
  · have HF : Hid (headM zs = 0) := by
      unfold Hid headM
      rw [hn, g0, g1, g4, if_neg (by simp [e0]), if_neg (by simp [e1]), if_neg (fun x => e2 x.2), if_neg (fun x => e4 x.2)]
    have HN : Hid (zs.length = n) := hn
    have e4' : 1 ≤ z4 ∧ z4 ≤ 4 := by omega
    clear hn g0 hz0 e0 g1 hz1 e1 e2 h4 g4 hz4 e4
    go_enter Try.func37, Try.ntmps37
    go_wp2_with fail
    refine (take_any _ n c 2 2 zs _ h HN.out hm (by omega) (by omega)).mono ?_
    rintro e w1 ⟨rfl, rfl⟩
    go_wp2_with fail
    refine (in_yes _ _ _ _ e2').mono ?_
    rintro e w1 ⟨rfl, rfl⟩
    go_wp2_with fail
    refine (in_yes _ _ _ _ e4').mono ?_
    rintro e w1 ⟨rfl, rfl⟩
    go_wp2
    go_ret
    exact ⟨ret_i64 HF.out.symm, rfl⟩

end Go.Proofs.Ytljkcijakdhdiaa

namespace Go.Proofs.Ytljkcijakdhdiaa
open Go.RowKit

/-- One of the first two bytes is not 255. -/
def wrongB (zs : List Int) : Bool := (zs.take 2).any (fun z => z != 255)
theorem wrong_of0 {zs : List Int} {z : Int} (h : zs[0]? = some z) (hz : z ≠ 255) : wrongB zs = true := by
  cases zs with
  | nil => simp at h
  | cons x l => simp at h; subst h; simp [wrongB, hz]
theorem wrong_of1 {zs : List Int} {z : Int} (h : zs[1]? = some z) (hz : z ≠ 255) : wrongB zs = true := by
  match zs, h with
  | x :: y :: l, h => simp at h; subst h; simp [wrongB, hz]
theorem wrong_no0 {zs : List Int} (h : zs.length = 0) : wrongB zs = false := by
  obtain rfl := List.eq_nil_of_length_eq_zero h
  rfl
theorem wrong_no1 {zs : List Int} (h : zs.length = 1) (h0 : zs[0]? = some 255) : wrongB zs = false := by
  match zs, h with
  | [x], _ => simp at h0; subst h0; simp [wrongB]
theorem wrong_no2 {zs : List Int} (h0 : zs[0]? = some 255) (h1 : zs[1]? = some 255) : wrongB zs = false := by
  match zs, h1 with
  | x :: y :: l, h1 => simp at h0 h1; subst h0; subst h1; simp [wrongB]
set_option maxHeartbeats 1600000 in
theorem wrong_any (a : Option Addr) (n c : Nat) (zs : List Int) (w : World) (h : BsAt w a zs) (hn : zs.length = n) (hc : n ≤ c) (hm : n ≤ 1048576) :
    Calls Try.prog 54 #[.slice a n c] w fun e w' => e = .returned (.bool (wrongB zs)) ∧ w' = w := by
  have hmx : max (2 : Int) 0 = 2 := by decide
  by_cases h0 : n = 0
  · have HF : Hid (wrongB zs = false) := wrong_no0 (by omega)
    subst h0
    clear hn
    go_enter Try.func54, Try.ntmps54
    go_wp2
    refine wp_loop_rounds 1 ?_
    rw [rounds_succ]
    go_wp2
    go_ret
    exact ⟨ret_bool HF.out.symm, rfl⟩
  obtain ⟨b, off, z0, rfl, hz0, c0, y0, y0'⟩ := h.at 0 (by omega)
  rw [Nat.add_zero] at c0
  by_cases h1 : n = 1
  · subst h1
    by_cases e0 : z0 = 255
    · subst e0
      have HF : Hid (wrongB zs = false) := wrong_no1 hn hz0
      clear hn hz0
      go_enter Try.func54, Try.ntmps54
      go_wp2
      refine wp_loop_rounds 2 ?_
      rw [rounds_succ]
      go_wp2
      rw [rounds_succ]
      go_wp2
      go_ret
      exact ⟨ret_bool HF.out.symm, rfl⟩
    · have HF : Hid (wrongB zs = true) := wrong_of0 hz0 e0
      have t0 : (z0 != 255) = true := by simp [e0]
      clear hn hz0 e0
      go_enter Try.func54, Try.ntmps54
      go_wp2
      refine wp_loop_rounds 1 ?_
      rw [rounds_succ]
      go_wp2
      go_ret
      exact ⟨ret_bool HF.out.symm, rfl⟩
  obtain ⟨b', off', z1, e', hz1, c1, y1, y1'⟩ := h.at 1 (by omega)
  simp only [Option.some.injEq, Addr.mk.injEq, and_true] at e'
  obtain ⟨rfl, rfl⟩ := e'
  have p2 : (2 : Int) ≤ (n : Int) := by omega
  by_cases e0 : z0 = 255
  · subst e0
    by_cases e1 : z1 = 255
    · subst e1
      have HF : Hid (wrongB zs = false) := wrong_no2 hz0 hz1
      clear hn hz0 hz1
      go_enter Try.func54, Try.ntmps54
      go_wp2
      refine wp_loop_rounds 3 ?_
      rw [rounds_succ]
      go_wp2
      rw [rounds_succ]
      go_wp2
      rw [rounds_succ]
      go_wp2
      go_ret
      exact ⟨ret_bool HF.out.symm, rfl⟩
    · have HF : Hid (wrongB zs = true) := wrong_of1 hz1 e1
      have t1 : (z1 != 255) = true := by simp [e1]
      clear hn hz0 hz1 e1
      go_enter Try.func54, Try.ntmps54
      go_wp2
      refine wp_loop_rounds 2 ?_
      rw [rounds_succ]
      go_wp2
      rw [rounds_succ]
      go_wp2
      go_ret
      exact ⟨ret_bool HF.out.symm, rfl⟩
  · have HF : Hid (wrongB zs = true) := wrong_of0 hz0 e0
    have t0 : (z0 != 255) = true := by simp [e0]
    clear hn hz0 e0 hz1
    go_enter Try.func54, Try.ntmps54
    go_wp2
    refine wp_loop_rounds 1 ?_
    rw [rounds_succ]
    go_wp2
    go_ret
    exact ⟨ret_bool HF.out.symm, rfl⟩

set_option maxHeartbeats 1600000 in
theorem frameOf_any (b off n c : Nat) (zs : List Int) (w : World) (h : BsAt w (some ⟨b, off, none⟩) zs) (hn : zs.length = n) (h5 : 5 ≤ n) (hc : n ≤ c) (hm : n ≤ 1048576) :
    Calls Try.prog 57 #[.slice (some ⟨b, off, none⟩) n c] w fun e w' => ∃ a' c', e = .returned (.agg #[.int .i64 (zs.getD 4 0), .slice a' (n - 5) c']) ∧
      OwAt w' a' (n - 5) c' (zs.drop 5) ∧ (∀ x, a' = some x → w.heap.size ≤ x.block ∧ x.block < w'.heap.size) ∧ (a' = none → n - 5 = 0 ∧ c' = 0) ∧ New w w' := by
  obtain ⟨i0, hi, hz0, hz1, hz2⟩ := info_parts Try.infoU8
  obtain ⟨b', off', z4, e', hz4, c4, y4, y4'⟩ := h.at 4 (by omega)
  simp only [Option.some.injEq, Addr.mk.injEq, and_true] at e'
  obtain ⟨rfl, rfl⟩ := e'
  have HG : Hid (zs.getD 4 0 = z4) := getD_of hz4
  have hblt : b < w.heap.size := World.block_lt_of_cell? w _ c4
  clear hz4
  have hw := (New.refl w).alloc (.cells #[.int .i64 0, .slice none 0 0] 43)
  have b1 := Blk.mk w w.heap.size 43 #[.int .i64 0, .slice none 0 0] rfl
  by_cases hn5 : n = 5
  · subst hn5
    have HD : Hid (zs.drop 5 = []) := List.drop_of_length_le (by omega)
    clear hn
    by_cases hc5 : c = 5
    · subst hc5
      go_enter Try.func57, Try.ntmps57
      go_wp2
      refine bodyPost_ret (v := .agg #[.int .i64 z4, .slice none 0 0]) (by simp [results, Try.results57, go_sem]) rfl ⟨none, 0, by rw [HG.out], ⟨by rw [HD.out]; rfl, fun h => by omega⟩, (by intro x hx; cases hx), by simp, ?_⟩
      exact (New.refl _).alloc _
    · go_enter Try.func57, Try.ntmps57
      go_wp2
      refine bodyPost_ret (v := .agg #[.int .i64 z4, .slice none 0 0]) (by simp [results, Try.results57, go_sem]) rfl ⟨none, 0, by rw [HG.out], ⟨by rw [HD.out]; rfl, fun h => by omega⟩, (by intro x hx; cases hx), by simp, ?_⟩
      exact (New.refl _).alloc _
  · have hpos : 0 < n - 5 := by omega
    have hc5 : ¬ c = 5 := by omega
    have c5 : ((5 : Nat) : Int) ≤ (n : Int) := by omega
    have hl : (zs.drop 5).length = n - 5 := by rw [List.length_drop, hn]
    have HL : Hid ((zs.drop 5).length = n - 5) := hl
    have hsrc := (h.drop 5).new hw
    clear hn hl
    go_enter Try.func57, Try.ntmps57
    go_wp2_with (at_builtin; refine wpList_ap _ rfl _ _ rfl 0 Try.underlying22 hi hz0 hz1 hz2 (.slice none 0 0) 0 [] rfl (World.ownsRow_nil _ _ _ _) (some ⟨b, off + 5, none⟩) (n - 5) (c - 5) (zs.drop 5) rfl hsrc HL.out (by intro h; cases h) (by omega) (by omega) (Nat.zero_le _) (w.heap.size + 1) (by simp) ?_)
    intro g cap w1 ho1 hgr1 hat1
    have hg1 : w.heap.size < g := by
      rcases hat1 with h' | h'
      · simp [Value.ownBlock] at h'
      · omega
    have b2 := b1.grow hgr1 (by simp [Value.ownBlock])
    have hw1 : New w w1 := hw.grow hgr1 (by intro j hj; simp [Value.ownBlock] at hj)
    have c4' : w1.cell? ⟨b, off + 4, none⟩ = some (.int .u8 z4) := (hw1.cells _ _ (World.block_lt_of_cell? w _ c4)).trans c4
    have d := b2.cells
    have f := b2.frees
    clear hat1 hgr1 b1 hsrc c4
    go_wp2
    have hlt := (ho1.lt g rfl).2
    have ht : Turn (fun i => i = w.heap.size) w1 ((w1.setCell ⟨w.heap.size, 0, none⟩ (.int .i64 z4)).setCell ⟨w.heap.size, 1, none⟩ (.slice (some ⟨g, 0, none⟩) (n - 5) cap)) := Turn.set (S := fun i => i = w.heap.size) (Turn.set (S := fun i => i = w.heap.size) (Turn.refl _ _) rfl _) rfl _
    refine bodyPost_ret (v := .agg #[.int .i64 z4, .slice (some ⟨g, 0, none⟩) (n - 5) cap]) (by simp [results, Try.results57, go_sem, d]) rfl ⟨some ⟨g, 0, none⟩, cap, by rw [HG.out], ?_, ?_, (by intro h; cases h), (hw1.setCell (Nat.le_refl _) _).setCell (Nat.le_refl _) _⟩
    · refine OwAt.of_own (base := 0) (own_turn ?_ ht (by omega))
      simpa using ho1
    · intro x hx
      obtain rfl := Option.some.inj hx
      exact ⟨by simp; omega, by have := ht.size; simp at this ⊢; omega⟩

end Go.Proofs.Ytljkcijakdhdiaa

namespace Go.Proofs.Ytljkcijakdhdiaa
open Go.RowKit

theorem Try.infoFr : (Try.prog.info? 43).map (fun i => (i.zero, i.size, i.bytes)) = some (some (.agg #[.int .i64 0, .slice none 0 0]), 2, 32) := by kernel_rfl

/-- A frame in memory: its kind, the bytes of its body, where they lie, their room. -/
structure Fr where
  k : Int
  zs : List Int
  a : Option Addr
  c : Nat
/-- What it is, wherever it lies. -/
def Fr.out (f : Fr) : Int × List Int := (f.k, f.zs)
def cellsF (F : List Fr) : List Value := F.flatMap (fun f => [.int .i64 f.k, .slice f.a f.zs.length f.c])
theorem cellsF_length (F : List Fr) : (cellsF F).length = F.length * 2 := by
  induction F with
  | nil => rfl
  | cons f F ih => simp only [cellsF, List.flatMap_cons, List.length_append, List.length_cons, List.length_nil] at ih ⊢; omega
theorem cellsF_append (F G : List Fr) : cellsF (F ++ G) = cellsF F ++ cellsF G := by simp [cellsF]
theorem cellsF_get0 {F : List Fr} {i : Nat} {f : Fr} (h : F[i]? = some f) : (cellsF F)[i * 2]? = some (.int .i64 f.k) := by
  induction F generalizing i with
  | nil => simp at h
  | cons g F ih =>
    cases i with
    | zero => simp at h; subst h; simp [cellsF]
    | succ i => simp at h; have := ih h; rw [show (i + 1) * 2 = i * 2 + 2 by omega]; simpa [cellsF] using this
theorem cellsF_get1 {F : List Fr} {i : Nat} {f : Fr} (h : F[i]? = some f) : (cellsF F)[i * 2 + 1]? = some (.slice f.a f.zs.length f.c) := by
  induction F generalizing i with
  | nil => simp at h
  | cons g F ih =>
    cases i with
    | zero => simp at h; subst h; simp [cellsF]
    | succ i => simp at h; have := ih h; rw [show (i + 1) * 2 + 1 = i * 2 + 1 + 2 by omega]; simpa [cellsF] using this

/-- The call owns the frames F at this address, all their memory in the blocks from lo up to hi. -/
structure OwF (w : World) (lo hi : Nat) (a : Option Addr) (n c : Nat) (F : List Fr) : Prop where
  len : F.length = n
  anil : a = none → n = 0 ∧ c = 0
  row : ∀ x, a = some x → ∃ g, x = ⟨g, 0, none⟩ ∧ lo ≤ g ∧ g < hi ∧ w.ownsRow 0 43 2 (.slice (some ⟨g, 0, none⟩) n c) n (cellsF F)
  body : ∀ (i : Nat) (f : Fr), F[i]? = some f → OwAt w f.a f.zs.length f.c f.zs
  bd : ∀ (i : Nat) (f : Fr), F[i]? = some f → ∀ z ∈ f.zs, 0 ≤ z ∧ z ≤ 255
  lies : ∀ (i : Nat) (f : Fr) (x : Addr), F[i]? = some f → f.a = some x → lo ≤ x.block ∧ x.block < hi
  apart : ∀ (i j : Nat) (f g : Fr) (x y : Addr), F[i]? = some f → F[j]? = some g → i ≠ j → f.a = some x → g.a = some y → x.block ≠ y.block
  bnil : ∀ (i : Nat) (f : Fr), F[i]? = some f → f.a = none → f.zs.length = 0 ∧ f.c = 0

theorem OwF.empty (w : World) (lo hi : Nat) : OwF w lo hi none 0 0 [] :=
  ⟨rfl, fun _ => ⟨rfl, rfl⟩, (by intro x hx; cases hx), (by intro i f h; simp at h), (by intro i f h; simp at h), (by intro i f x h; simp at h), (by intro i j f g x y h; simp at h), (by intro i f h; simp at h)⟩

theorem ownG_turn {w w' : World} {base g n cap sz : Nat} {e : TypeId} {xs : List Value} {S : Nat → Prop} (h : w.ownsRow base e sz (.slice (some ⟨g, 0, none⟩) n cap) n xs) (t : Turn S w w') (hS : ¬ S g) :
    w'.ownsRow base e sz (.slice (some ⟨g, 0, none⟩) n cap) n xs := by
  have hg : g < w.heap.size := (h.lt g rfl).2
  refine ⟨h.1, ?_⟩
  rcases h.2 with ⟨h', _⟩ | ⟨g', cap', cur, h', r⟩
  · simp at h'
  · simp only [Value.slice.injEq, Option.some.injEq, Addr.mk.injEq, and_true, true_and] at h'
    obtain ⟨rfl, rfl⟩ := h'
    exact .inr ⟨g, cap, cur, rfl, r.1, (t.block g hg hS).trans r.2.1, r.2.2⟩

theorem OwF.turn {w w' : World} {lo hi n c : Nat} {a : Option Addr} {F : List Fr} {S : Nat → Prop} (h : OwF w lo hi a n c F) (t : Turn S w w') (hS : ∀ k, lo ≤ k → k < hi → ¬ S k) : OwF w' lo hi a n c F :=
  ⟨h.len, h.anil, (by intro x hx; obtain ⟨g, e, h1, h2, ho⟩ := h.row x hx; exact ⟨g, e, h1, h2, ownG_turn ho t (hS g h1 h2)⟩),
    (by intro i f hf; exact (h.body i f hf).turn t (fun x hx => hS _ (h.lies i f x hf hx).1 (h.lies i f x hf hx).2)), h.bd, h.lies, h.apart, h.bnil⟩
theorem OwF.new {w w' : World} {lo hi n c : Nat} {a : Option Addr} {F : List Fr} (h : OwF w lo hi a n c F) (t : New w w') : OwF w' lo hi a n c F := h.turn t (fun _ _ _ f => f)
theorem OwF.wide {w : World} {lo hi hi' n c : Nat} {a : Option Addr} {F : List Fr} (h : OwF w lo hi a n c F) (hh : hi ≤ hi') : OwF w lo hi' a n c F :=
  ⟨h.len, h.anil, (by intro x hx; obtain ⟨g, e, h1, h2, ho⟩ := h.row x hx; exact ⟨g, e, h1, by omega, ho⟩), h.body, h.bd, (by intro i f x hf hx; have := h.lies i f x hf hx; omega), h.apart, h.bnil⟩

theorem OwF.value {w : World} {lo hi n c : Nat} {a : Option Addr} {F : List Fr} (h : OwF w lo hi a n c F) : w.ownsRow 0 43 2 (.slice a n c) n (cellsF F) := by
  cases a with
  | none =>
    obtain ⟨rfl, rfl⟩ := h.anil rfl
    obtain rfl := List.eq_nil_of_length_eq_zero h.len
    exact World.ownsRow_nil _ _ _ _
  | some x => obtain ⟨g, rfl, _, _, ho⟩ := h.row x rfl; exact ho

/-- One frame more: its row in a new place or in the old one. -/
theorem OwF.snoc {w w' : World} {lo hi n c g cap : Nat} {a : Option Addr} {F : List Fr} {f : Fr} {row : Option Nat} (h : OwF w lo hi a n c F) (hg : w.grownBy w' row) (hrow : row = (Value.slice a n c).ownBlock)
    (ho : w'.ownsRow 0 43 2 (.slice (some ⟨g, 0, none⟩) (n + 1) cap) (n + 1) (cellsF F ++ cellsF [f])) (hat : row = some g ∨ g = w.heap.size) (hlo : lo ≤ w.heap.size) (hhi : hi ≤ w.heap.size)
    (hf : OwAt w f.a f.zs.length f.c f.zs) (hz : ∀ z ∈ f.zs, 0 ≤ z ∧ z ≤ 255) (hl : ∀ x, f.a = some x → lo ≤ x.block ∧ x.block < w.heap.size) (hap : ∀ x, f.a = some x → hi ≤ x.block) (hnil : f.a = none → f.zs.length = 0 ∧ f.c = 0) :
    OwF w' lo w'.heap.size (some ⟨g, 0, none⟩) (n + 1) cap (F ++ [f]) := by
  have hlt := (ho.lt g rfl).2
  have hs := hg.size
  have hgl : lo ≤ g := by
    rcases hat with h' | h'
    · rw [hrow] at h'
      cases a with
      | none => simp [Value.ownBlock] at h'
      | some x => obtain ⟨g', rfl, h1, _, _⟩ := h.row x rfl; simp [Value.ownBlock] at h'; omega
    · omega
  -- no body lies in the row that was written
  have hne : ∀ (f' : Fr) (x : Addr), OwAt w f'.a f'.zs.length f'.c f'.zs → f'.a = some x → 0 < f'.zs.length → some x.block ≠ row := by
    intro f' x hb hx h0 hr
    obtain ⟨g1, e1, ho1⟩ := hb.2 h0
    rw [hx] at e1
    obtain rfl := Option.some.inj e1
    rw [hrow] at hr
    cases a with
    | none => simp [Value.ownBlock] at hr
    | some y =>
      obtain ⟨g2, rfl, _, _, ho2⟩ := h.row y rfl
      simp [Value.ownBlock] at hr
      subst hr
      rcases ho1.2 with ⟨h', _⟩ | ⟨_, _, cur1, h1, _, hb1, _⟩
      · simp at h'
      · rcases ho2.2 with ⟨h', _⟩ | ⟨_, _, cur2, h2, _, hb2, _⟩
        · simp at h'
        · simp only [Value.slice.injEq, Option.some.injEq, Addr.mk.injEq, and_true, true_and] at h1 h2
          rw [← h1.1] at hb1
          rw [← h2.1, hb1] at hb2
          simp at hb2
  have keep : ∀ f' : Fr, OwAt w f'.a f'.zs.length f'.c f'.zs → OwAt w' f'.a f'.zs.length f'.c f'.zs := by
    intro f' hb
    refine ⟨hb.1, fun h0 => ?_⟩
    obtain ⟨g1, e1, ho1⟩ := hb.2 h0
    have hn := hne f' _ hb e1 h0
    exact ⟨g1, e1, ho1.kept hg (.inr hn)⟩
  have getl : ∀ (i : Nat) f', (F ++ [f])[i]? = some f' → F[i]? = some f' ∨ (i = F.length ∧ f' = f) := by
    intro i f' hi
    rw [List.getElem?_append] at hi
    split at hi
    · exact .inl hi
    · right
      have : i - F.length = 0 := by
        rcases Nat.eq_zero_or_pos (i - F.length) with h | h
        · exact h
        · rw [List.getElem?_eq_none (by simp; omega)] at hi; cases hi
      rw [this] at hi
      simp at hi
      exact ⟨by omega, hi.symm⟩
  refine ⟨by simp [h.len], (by intro hx; cases hx), ?_, ?_, ?_, ?_, ?_, ?_⟩
  · intro x hx
    obtain rfl := Option.some.inj hx
    exact ⟨g, rfl, hgl, hlt, by rw [cellsF_append]; exact ho⟩
  · intro i f' hi
    rcases getl i f' hi with h1 | ⟨_, rfl⟩
    · exact keep _ (h.body i f' h1)
    · exact keep _ hf
  · intro i f' hi
    rcases getl i f' hi with h1 | ⟨_, rfl⟩
    · exact h.bd i f' h1
    · exact hz
  · intro i f' x hi hx
    rcases getl i f' hi with h1 | ⟨_, rfl⟩
    · have := h.lies i f' x h1 hx; omega
    · have := hl x hx; omega
  · intro i j f1 f2 x y h1 h2 hij hx hy
    rcases getl i f1 h1 with k1 | ⟨e1, q1⟩
    · rcases getl j f2 h2 with k2 | ⟨e2, q2⟩
      · exact h.apart i j f1 f2 x y k1 k2 hij hx hy
      · have := h.lies i f1 x k1 hx; rw [q2] at hy; have := hap y hy; omega
    · rcases getl j f2 h2 with k2 | ⟨e2, q2⟩
      · have := h.lies j f2 y k2 hy; rw [q1] at hx; have := hap x hx; omega
      · omega
  · intro i f' hi hx
    rcases getl i f' hi with h1 | ⟨_, rfl⟩
    · exact h.bnil i f' h1 hx
    · exact hnil hx

end Go.Proofs.Ytljkcijakdhdiaa

namespace Go.Proofs.Ytljkcijakdhdiaa

/-- As Q; by a goto to a label: J of that label. -/
def jumps (J : Nat → Act → World → Prop) (Q : Exit → Act → World → Prop) : Exit → Act → World → Prop
  | .goto l, a, w => J l a w
  | e, a, w => Q e a w

section
variable {P : Program} {a : Act} {w : World} {Q : Exit → Act → World → Prop}

theorem jumps_normal (J : Nat → Act → World → Prop) : jumps J Q .normal a w = Q .normal a w := rfl
theorem jumps_ret (J : Nat → Act → World → Prop) : jumps J Q .ret a w = Q .ret a w := rfl
theorem jumps_mono {J J' : Nat → Act → World → Prop} (h : ∀ l a w, J l a w → J' l a w) : ∀ (e : Exit) (a : Act) (w : World), jumps J Q e a w → jumps J' Q e a w := by
  intro e a w hq
  cases e with
  | goto l => exact h l a w hq
  | _ => exact hq

theorem wp_scope_many {c : Code} (J : Nat → Nat → Act → World → Prop)
    (pass : ∀ l m a w, J l m a w → ∃ rest, findLabel c l = some (.seq .skip rest) ∧ rest.wp P (jumps (fun l' a' w' => ∃ m', m' < m ∧ J l' m' a' w') Q) a w)
    (first : (∀ l m a w rest, J l m a w → findLabel c l = some (.seq .skip rest) → rest.wp P (jumps (fun l' a' w' => ∃ m', J l' m' a' w') Q) a w) → c.wp P (jumps (fun l' a' w' => ∃ m', J l' m' a' w') Q) a w) :
    (Code.scope c).wp P Q a w := by
  have hfirst := first (fun l m a w rest hJ hf => by
    obtain ⟨rest', hf', hwp⟩ := pass l m a w hJ
    obtain rfl : rest' = rest := by have := Option.some.inj (hf'.symm.trans hf); simpa using this
    exact Code.wp_mono (jumps_mono (fun l a w ⟨m', _, h⟩ => ⟨m', h⟩)) hwp)
  intro b k cs
  have key : ∀ m l a w, J l m a w → ∃ rest, findLabel c l = some rest ∧ ∃ e a' w', Q e a' w' ∧ Arrives P (lone (b.at a (.code rest :: .inScope c :: k)) cs w) b k cs e a' w' := by
    intro m
    induction m using Nat.strongRecOn with
    | _ m ih =>
      intro l a w hJ
      obtain ⟨rest, hf, hwp0⟩ := pass l m a w hJ
      have hwp := wp_seq (x := .skip) (wp_skip (Q := Exit.then (rest.wp P (jumps (fun l' a' w' => ∃ m', m' < m ∧ J l' m' a' w') Q)) (jumps (fun l' a' w' => ∃ m', m' < m ∧ J l' m' a' w') Q)) hwp0)
      refine ⟨_, hf, ?_⟩
      obtain ⟨e, a₁, w₁, hq, harr⟩ := hwp b (.inScope c :: k) cs
      cases e with
      | normal => exact ⟨.normal, a₁, w₁, hq, Steps.trans harr (.one step_inScope)⟩
      | exit id => exact ⟨.exit id, a₁, w₁, hq, fun k' hk => harr k' (by simp [exitTo, hk])⟩
      | goto l' =>
        obtain ⟨m', hlt, hJ'⟩ := hq
        obtain ⟨rest', hf', e₂, a₂, w₂, hq₂, harr₂⟩ := ih m' hlt l' a₁ w₁ hJ'
        have hg : gotoIn l' (.inScope c :: k) = some (.code rest' :: .inScope c :: k) := by simp [gotoIn, hf']
        exact ⟨e₂, a₂, w₂, hq₂, .of_steps (harr _ hg) harr₂⟩
      | ret => exact ⟨_, a₁, w₁, hq, harr⟩
      | panic ch => exact ⟨_, a₁, w₁, hq, harr⟩
      | outgrown => exact ⟨_, a₁, w₁, hq, harr⟩
  obtain ⟨e, a₁, w₁, hq, harr⟩ := hfirst b (.inScope c :: k) cs
  cases e with
  | normal => exact ⟨.normal, a₁, w₁, hq, .head step_scope (Steps.trans harr (.one step_inScope))⟩
  | exit id => exact ⟨.exit id, a₁, w₁, hq, fun k' hk => .head step_scope (harr k' (by simp [exitTo, hk]))⟩
  | goto l' =>
    obtain ⟨m', hJ'⟩ := hq
    obtain ⟨rest', hf', e₂, a₂, w₂, hq₂, harr₂⟩ := key m' l' a₁ w₁ hJ'
    have hg : gotoIn l' (.inScope c :: k) = some (.code rest' :: .inScope c :: k) := by simp [gotoIn, hf']
    exact ⟨e₂, a₂, w₂, hq₂, .of_steps (.head step_scope (harr _ hg)) harr₂⟩
  | ret => exact ⟨_, a₁, w₁, hq, .of_steps (.one step_scope) harr⟩
  | panic ch => exact ⟨_, a₁, w₁, hq, .of_steps (.one step_scope) harr⟩
  | outgrown => exact ⟨_, a₁, w₁, hq, .of_steps (.one step_scope) harr⟩
end
end Go.Proofs.Ytljkcijakdhdiaa

namespace Go.Proofs.Ytljkcijakdhdiaa
open Go.RowKit
attribute [local go_sem] jumps_normal jumps_ret

theorem OwF.lower {w : World} {lo lo' hi n c : Nat} {a : Option Addr} {F : List Fr} (h : OwF w lo hi a n c F) (hh : lo' ≤ lo) : OwF w lo' hi a n c F :=
  ⟨h.len, h.anil, (by intro x hx; obtain ⟨g, e, h1, h2, ho⟩ := h.row x hx; exact ⟨g, e, by omega, h2, ho⟩), h.body, h.bd, (by intro i f x hf hx; have := h.lies i f x hf hx; omega), h.apart, h.bnil⟩

theorem OwF.block_ge {w : World} {lo hi n c : Nat} {a : Option Addr} {F : List Fr} (h : OwF w lo hi a n c F) : ∀ k, (Value.slice a n c).ownBlock = some k → lo ≤ k := by
  intro k hk
  cases a with
  | none => simp [Value.ownBlock] at hk
  | some x => obtain ⟨g, rfl, h1, _, _⟩ := h.row x rfl; simp [Value.ownBlock] at hk; omega

theorem head_wrong {l : List Int} (h : wrongB l = true) : headM l = 1 := by
  unfold headM
  match l, h with
  | [], h => simp [wrongB] at h
  | [x], h => simp [wrongB] at h; simp [h]
  | x :: y :: l, h =>
    simp [wrongB] at h
    by_cases hx : x = 255
    · have hy : ¬ y = 255 := by rcases h with h | h; exact absurd hx h; exact h
      simp [hx, hy]
    · simp [hx]
theorem head_right {l : List Int} (h : wrongB l = false) : headM l = if 3 < l.length ∧ (numAt l 2 2 < 5 ∨ 125 < numAt l 2 2) then 2 else if 4 < l.length ∧ (l.getD 4 0 < 1 ∨ 4 < l.getD 4 0) then 3 else 0 := by
  unfold headM
  match l, h with
  | [], h => simp
  | [x], h => simp [wrongB] at h; simp [h]
  | x :: y :: l, h =>
    simp [wrongB] at h
    rw [if_neg (by simp [h.1]), if_neg (by simp [h.2])]

/-- What SplitFrames answers: R, its frames in new memory. -/
def SplitAns (w : World) (R : Int × Nat × List (Int × List Int)) (e : Ending) (w' : World) : Prop :=
  ∃ (a : Option Addr) (n c : Nat) (F : List Fr), e = .returned (.agg #[.int .i64 R.1, .int .i64 (R.2.1 : Int), .slice a n c]) ∧ OwF w' w.heap.size w'.heap.size a n c F ∧ New w w' ∧ R.2.2 = F.map Fr.out

/-- The reader's memory: its answer so far. -/
structure RW (w wr : World) (code u : Int) (a' : Option Addr) (n' c' : Nat) (F : List Fr) : Prop where
  new : New w wr
  b2 : Blk wr w.heap.size 40 #[.int .i64 0, .int .i64 0, .slice none 0 0]
  b3 : Blk wr (w.heap.size + 1) 40 #[.int .i64 code, .int .i64 u, .slice a' n' c']
  own : OwF wr (w.heap.size + 2) wr.heap.size a' n' c' F

theorem RW.later {w wr w' : World} {code u : Int} {a' : Option Addr} {n' c' : Nat} {F : List Fr} (h : RW w wr code u a' n' c' F) (t : New wr w') : RW w w' code u a' n' c' F :=
  ⟨h.new.trans t, h.b2.new t, h.b3.new t, (h.own.new t).wide t.size⟩
theorem RW.put {w wr : World} {code u : Int} {a' : Option Addr} {n' c' : Nat} {F : List Fr} (h : RW w wr code u a' n' c' F) (x : Int) : RW w (wr.setCell ⟨w.heap.size + 1, 0, none⟩ (.int .i64 x)) x u a' n' c' F := by
  have t : Turn (fun k => k = w.heap.size + 1) wr (wr.setCell ⟨w.heap.size + 1, 0, none⟩ (.int .i64 x)) := Turn.set (S := fun k => k = w.heap.size + 1) (Turn.refl _ _) rfl _
  exact ⟨h.new.setCell (by simp) _, h.b2.turn t (by omega), h.b3.set 0 _, (h.own.turn t (by omega)).wide t.size⟩
theorem RW.used {w wr : World} {code u : Int} {a' : Option Addr} {n' c' : Nat} {F : List Fr} (h : RW w wr code u a' n' c' F) (x : Int) : RW w (wr.setCell ⟨w.heap.size + 1, 1, none⟩ (.int .i64 x)) code x a' n' c' F := by
  have t : Turn (fun k => k = w.heap.size + 1) wr (wr.setCell ⟨w.heap.size + 1, 1, none⟩ (.int .i64 x)) := Turn.set (S := fun k => k = w.heap.size + 1) (Turn.refl _ _) rfl _
  exact ⟨h.new.setCell (by simp) _, h.b2.turn t (by omega), h.b3.set 1 _, (h.own.turn t (by omega)).wide t.size⟩
/-- One frame more is told. -/
theorem RW.more {w wr w' : World} {code u : Int} {a' a2 : Option Addr} {n' c' n2 c2 : Nat} {F F2 : List Fr} {row : Option Nat} (h : RW w wr code u a' n' c' F) (hg : wr.grownBy w' row) (hrow : ∀ k, row = some k → w.heap.size + 2 ≤ k) (ho : OwF w' (w.heap.size + 2) w'.heap.size a2 n2 c2 F2) :
    RW w (w'.setCell ⟨w.heap.size + 1, 2, none⟩ (.slice a2 n2 c2)) code u a2 n2 c2 F2 := by
  have t : Turn (fun k => k = w.heap.size + 1) w' (w'.setCell ⟨w.heap.size + 1, 2, none⟩ (.slice a2 n2 c2)) := Turn.set (S := fun k => k = w.heap.size + 1) (Turn.refl _ _) rfl _
  have hb2 : Blk w' w.heap.size 40 #[.int .i64 0, .int .i64 0, .slice none 0 0] := h.b2.grow hg (fun e => by have := hrow _ e; omega)
  have hb3 : Blk w' (w.heap.size + 1) 40 #[.int .i64 code, .int .i64 u, .slice a' n' c'] := h.b3.grow hg (fun e => by have := hrow _ e; omega)
  have hnw : New w w' := h.new.grow hg (fun k e => by have := hrow _ e; omega)
  exact ⟨hnw.setCell (by simp) _, hb2.turn t (by omega), hb3.set 2 _, (ho.turn t (by omega)).wide t.size⟩

/-- What holds at a jump to the next frame, and to the end. -/
def ReadJ (w : World) (b off n c : Nat) (zs : List Int) (R : Int × Nat × List (Int × List Int)) (l m : Nat) (x : Act) (wr : World) : Prop :=
  ∃ (u4 u5 u6 u7 u8 u9 u10 u11 u12 u13 u14 u15 u16 u17 u18 u19 u20 u21 u22 u23 u24 u25 u26 u27 u28 u29 u30 u31 u32 u33 u34 u35 u36 u37 u38 u39 u40 u41 u42 u43 u44 u45 u46 u47 u48 u49 u50 u51 u52 u53 u54 : Value) (code : Int) (u : Nat) (a' : Option Addr) (n' c' : Nat) (F : List Fr),
    x = { tmps := #[.slice (some ⟨b, off, none⟩) n c, undef, .pointer (some ⟨w.heap.size, 0, none⟩), .pointer (some ⟨w.heap.size + 1, 0, none⟩), u4, u5, u6, u7, u8, u9, u10, u11, u12, u13, u14, u15, u16, u17, u18, u19, u20, u21, u22, u23, u24, u25, u26, u27, u28, u29, u30, u31, u32, u33, u34, u35, u36, u37, u38, u39, u40, u41, u42, u43, u44, u45, u46, u47, u48, u49, u50, u51, u52, u53, u54], defers := [] } ∧
    RW w wr code u a' n' c' F ∧ u ≤ n ∧ 5 * F.length ≤ u ∧ ((l = 0 ∧ m = n - u + 1 ∧ code = 0 ∧ SplitAt zs u (F.map Fr.out) R) ∨ (l = 1 ∧ m = 0 ∧ R = (code, u, F.map Fr.out)))

end Go.Proofs.Ytljkcijakdhdiaa

namespace Go.Proofs.Ytljkcijakdhdiaa
open Go.RowKit
attribute [local go_sem] jumps_normal jumps_ret

set_option maxHeartbeats 6400000 in
set_option maxRecDepth 100000 in
theorem read_any (b off n c : Nat) (zs : List Int) (w : World) (h : BsAt w (some ⟨b, off, none⟩) zs) (hn : zs.length = n) (hc : n ≤ c) (hm : n ≤ 400) :
    Calls Try.prog 31 #[.slice (some ⟨b, off, none⟩) n c] w fun e w' => SplitAns w (splitF (n + 1) zs) e w' := by
  have hfd : ∀ (x y : Int) (w : World), (Instr.field 77 (.agg #[.int .i64 x, .int .i64 y]) 1).run Try.prog w = .ok (.int .i64 y) w := fun _ _ _ => by kernel_rfl
  have HN : Hid (zs.length = n) := hn
  have hs0 : SplitAt zs 0 [] (splitF (n + 1) zs) := by have := SplitAt.start zs; rw [hn] at this; exact this
  clear hn
  generalize splitF (n + 1) zs = R at *
  go_enter Try.func31, Try.ntmps31
  go_wp2
  refine wp_scope_many (ReadJ w b off n c zs R) ?pass ?first
  case first =>
    intro hrest
    have HR : Hid _ := hrest
    clear hrest
    go_wp2
    go_step3
    rename_i hK
    apply hK
    refine HR.out 0 (n + 1) _ _ _ ⟨_, _, _, _, _, _, _, _, _, _, _, _, _, _, _, _, _, _, _, _, _, _, _, _, _, _, _, _, _, _, _, _, _, _, _, _, _, _, _, _, _, _, _, _, _, _, _, _, _, _, _, 0, 0, none, 0, 0, [], rfl, ⟨((New.refl w).alloc _).alloc _, (Blk.mk w w.heap.size _ _ rfl).alloc _, Blk.mk _ _ _ _ (by simp), OwF.empty _ _ _⟩, Nat.zero_le _, by simp, .inl ⟨rfl, rfl, rfl, hs0⟩⟩ rfl
  case pass =>
    clear hs0
    intro l m x wr hx
    obtain ⟨u4, u5, u6, u7, u8, u9, u10, u11, u12, u13, u14, u15, u16, u17, u18, u19, u20, u21, u22, u23, u24, u25, u26, u27, u28, u29, u30, u31, u32, u33, u34, u35, u36, u37, u38, u39, u40, u41, u42, u43, u44, u45, u46, u47, u48, u49, u50, u51, u52, u53, u54, code, u, a', n', c', F, rfl, hrw, hu, h5F, hJ⟩ := hx
    rcases hJ with ⟨rfl, rfl, rfl, hsp⟩ | ⟨rfl, rfl, hR⟩
    · refine ⟨_, rfl, ?_⟩
      have c3 := hrw.b3.cells
      have f3 := hrw.b3.frees
      have hz := h.lt
      by_cases hun : u = n
      · have HD : Hid (zs.drop u = []) := List.drop_of_length_le (by have := HN.out; omega)
        have HR : Hid (R = (0, u, F.map Fr.out)) := hsp.done (by have := HN.out; omega) (by rw [HD.out]; rfl) (by rw [HD.out]; simp)
        subst hun
        clear hsp
        by_cases hcu : u = c
        all_goals first | subst hcu | (have hcu' : ¬ c = u := fun e => hcu e.symm)
        all_goals
          go_wp2_with fail
          refine (wrong_any _ 0 _ [] _ (BsAt.nil _ _) rfl (Nat.zero_le _) (by omega)).mono ?_
          rintro e w1 ⟨rfl, rfl⟩
          have hwb : wrongB [] = false := rfl
          go_wp2
          go_step3
          exact ⟨0, by omega, _, _, _, _, _, _, _, _, _, _, _, _, _, _, _, _, _, _, _, _, _, _, _, _, _, _, _, _, _, _, _, _, _, _, _, _, _, _, _, _, _, _, _, _, _, _, _, _, _, _, _, 0, u, a', n', c', F, rfl, hrw, hu, h5F, .inr ⟨rfl, rfl, HR.out⟩⟩
      · have hlt : u < n := by omega
        have hcu : ¬ c = u := by omega
        have hl : (zs.drop u).length = n - u := by rw [List.length_drop, HN.out]
        have HL : Hid ((zs.drop u).length = n - u) := hl
        have hbs := (h.new hrw.new).drop u
        have hzl : ∀ z ∈ zs.drop u, 0 ≤ z ∧ z ≤ 255 := fun z hz' => hz z (List.mem_of_mem_drop hz')
        have hun' : u ≤ zs.length := by rw [HN.out]; omega
        have c3 := hrw.b3.cells
        have f3 := hrw.b3.frees
        have HS : Hid (SplitAt zs u (F.map Fr.out) R) := hsp
        have HU : Hid (u ≤ zs.length) := hun'
        have HZ : Hid (∀ z ∈ zs.drop u, 0 ≤ z ∧ z ≤ 255) := hzl
        have hnl : ((n - u : Nat) : Int) = (n : Int) - (u : Int) := by omega
        clear hsp hl hun hun' hzl hz
        have hstop : ∀ x, headM (zs.drop u) = x → x ≠ 0 → R = (x, u, F.map Fr.out) := fun x hx h0 => by rw [← hx]; exact HS.out.stop HU.out (by rw [hx]; exact h0)
        have hdone : headM (zs.drop u) = 0 → ((zs.drop u).length < 5 ∨ (zs.drop u).length < szM (zs.drop u)) → R = (0, u, F.map Fr.out) := fun h0 h1 => HS.out.done HU.out h0 h1
        have hnext : headM (zs.drop u) = 0 → 5 ≤ (zs.drop u).length → szM (zs.drop u) ≤ (zs.drop u).length → SplitAt zs (u + szM (zs.drop u)) (F.map Fr.out ++ [((zs.drop u).getD 4 0, ((zs.drop u).take (szM (zs.drop u))).drop 5)]) R := fun h0 h5 h1 => HS.out.next HU.out h0 h5 h1
        clear HS HU
        generalize zs.drop u = l at *
        have HSt : Hid _ := hstop
        have HDo : Hid _ := hdone
        have HNx : Hid _ := hnext
        clear hstop hdone hnext
        by_cases hwb : wrongB l = true
        · have HH : Hid (R = (1, u, F.map Fr.out)) := HSt.out 1 (head_wrong hwb) (by omega)
          go_wp2_with fail
          refine (wrong_any _ (n - u) _ l _ hbs HL.out (by omega) (by omega)).mono ?_
          rintro e w1 ⟨rfl, rfl⟩
          go_wp2
          go_step3
          exact ⟨0, by omega, _, _, _, _, _, _, _, _, _, _, _, _, _, _, _, _, _, _, _, _, _, _, _, _, _, _, _, _, _, _, _, _, _, _, _, _, _, _, _, _, _, _, _, _, _, _, _, _, _, _, _, 1, u, a', n', c', F, rfl, hrw.put 1, hu, h5F, .inr ⟨rfl, rfl, HH.out⟩⟩
        · have hwf : wrongB l = false := by simpa using hwb
          have hhd := head_right hwf
          rw [HL.out] at hhd
          have HHd : Hid _ := hhd
          clear hwb hhd
          by_cases h4 : n - u < 4
          · have HH : Hid (R = (0, u, F.map Fr.out)) := HDo.out (by rw [HHd.out, if_neg (by omega), if_neg (by omega)]) (.inl (by rw [HL.out]; omega))
            go_wp2_with fail
            refine (wrong_any _ (n - u) _ l _ hbs HL.out (by omega) (by omega)).mono ?_
            rintro e w1 ⟨rfl, rfl⟩
            go_wp2
            go_step3
            exact ⟨0, by omega, _, _, _, _, _, _, _, _, _, _, _, _, _, _, _, _, _, _, _, _, _, _, _, _, _, _, _, _, _, _, _, _, _, _, _, _, _, _, _, _, _, _, _, _, _, _, _, _, _, _, _, 0, u, a', n', c', F, rfl, hrw, hu, h5F, .inr ⟨rfl, rfl, HH.out⟩⟩
          · have hN := fun W hW => implNum_good (some ⟨b, off + u, none⟩) (n - u) (c - u) 2 2 l W hW HL.out (by omega) (by omega) (by omega) (by omega) (by omega)
            by_cases hv : numAt l 2 2 < 5 ∨ 125 < numAt l 2 2
            · have HH : Hid (R = (2, u, F.map Fr.out)) := HSt.out 2 (by rw [HHd.out, if_pos ⟨by omega, hv⟩]) (by omega)
              have HNu : Hid _ := hN
              clear hN
              by_cases hv5 : numAt l 2 2 < 5
              all_goals
                go_wp2_with fail
                refine (wrong_any _ (n - u) _ l _ hbs HL.out (by omega) (by omega)).mono ?_
                rintro e w1 ⟨rfl, rfl⟩
                go_wp2_with fail
                refine (HNu.out _ hbs).mono ?_
                rintro e w2 ⟨rfl, hn2⟩
                have hrw2 := hrw.later hn2
                have c3 := hrw2.b3.cells
                have f3 := hrw2.b3.frees
                go_wp2
                go_step3
                exact ⟨0, by omega, _, _, _, _, _, _, _, _, _, _, _, _, _, _, _, _, _, _, _, _, _, _, _, _, _, _, _, _, _, _, _, _, _, _, _, _, _, _, _, _, _, _, _, _, _, _, _, _, _, _, _, 2, u, a', n', c', F, rfl, hrw2.put 2, hu, h5F, .inr ⟨rfl, rfl, HH.out⟩⟩
            · obtain ⟨sz, hsz⟩ : ∃ sz : Nat, numAt l 2 2 = sz := ⟨(numAt l 2 2).toNat, by omega⟩
              have hszM : szM l = sz := by unfold szM; omega
              have hs5 : 5 ≤ sz := by omega
              have hs125 : sz ≤ 125 := by omega
              simp only [hsz] at hN
              have HNu : Hid _ := hN
              have HSz : Hid (szM l = sz) := hszM
              have HV : Hid (¬ (3 < n - u ∧ (numAt l 2 2 < 5 ∨ 125 < numAt l 2 2))) := fun x => hv x.2
              clear hN hszM hsz hv
              by_cases h5 : n - u < 5
              · have HH : Hid (R = (0, u, F.map Fr.out)) := HDo.out (by rw [HHd.out, if_neg HV.out, if_neg (by omega)]) (.inl (by rw [HL.out]; omega))
                go_wp2_with fail
                refine (wrong_any _ (n - u) _ l _ hbs HL.out (by omega) (by omega)).mono ?_
                rintro e w1 ⟨rfl, rfl⟩
                go_wp2_with fail
                refine (HNu.out _ hbs).mono ?_
                rintro e w2 ⟨rfl, hn2⟩
                have hrw2 := hrw.later hn2
                go_wp2
                go_step3
                exact ⟨0, by omega, _, _, _, _, _, _, _, _, _, _, _, _, _, _, _, _, _, _, _, _, _, _, _, _, _, _, _, _, _, _, _, _, _, _, _, _, _, _, _, _, _, _, _, _, _, _, _, _, _, _, _, 0, u, a', n', c', F, rfl, hrw2, hu, h5F, .inr ⟨rfl, rfl, HH.out⟩⟩
              · obtain ⟨b', off', z4, e', hz4, c4, y4, y4'⟩ := hbs.at 4 (by have := HL.out; omega)
                simp only [Option.some.injEq, Addr.mk.injEq, and_true] at e'
                obtain ⟨rfl, rfl⟩ := e'
                have HG : Hid (l.getD 4 0 = z4) := getD_of hz4
                clear hz4
                by_cases hk : z4 < 1 ∨ 4 < z4
                · have HH : Hid (R = (3, u, F.map Fr.out)) := HSt.out 3 (by rw [HHd.out, if_neg HV.out, if_pos ⟨by omega, by rw [HG.out]; exact hk⟩]) (by omega)
                  go_wp2_with fail
                  refine (wrong_any _ (n - u) _ l _ hbs HL.out (by omega) (by omega)).mono ?_
                  rintro e w1 ⟨rfl, rfl⟩
                  go_wp2_with fail
                  refine (HNu.out _ hbs).mono ?_
                  rintro e w2 ⟨rfl, hn2⟩
                  have hrw2 := hrw.later hn2
                  have hbs2 := hbs.new hn2
                  have c4 := (hn2.cells _ _ (World.block_lt_of_cell? _ _ c4)).trans c4
                  have c3 := hrw2.b3.cells
                  have f3 := hrw2.b3.frees
                  go_wp2_with fail
                  refine (isKind_no _ _ hk).mono ?_
                  rintro e w3 ⟨rfl, rfl⟩
                  go_wp2
                  go_step3
                  exact ⟨0, by omega, _, _, _, _, _, _, _, _, _, _, _, _, _, _, _, _, _, _, _, _, _, _, _, _, _, _, _, _, _, _, _, _, _, _, _, _, _, _, _, _, _, _, _, _, _, _, _, _, _, _, _, 3, u, a', n', c', F, rfl, hrw2.put 3, hu, h5F, .inr ⟨rfl, rfl, HH.out⟩⟩
                · have hk' : 1 ≤ z4 ∧ z4 ≤ 4 := by omega
                  have HH0 : Hid (headM l = 0) := by unfold Hid; rw [HHd.out, if_neg HV.out, if_neg (by rw [HG.out]; omega)]
                  clear hk
                  by_cases hls : n - u < sz
                  · have HH : Hid (R = (0, u, F.map Fr.out)) := HDo.out HH0.out (.inr (by rw [HL.out, HSz.out]; omega))
                    go_wp2_with fail
                    refine (wrong_any _ (n - u) _ l _ hbs HL.out (by omega) (by omega)).mono ?_
                    rintro e w1 ⟨rfl, rfl⟩
                    go_wp2_with fail
                    refine (HNu.out _ hbs).mono ?_
                    rintro e w2 ⟨rfl, hn2⟩
                    have hrw2 := hrw.later hn2
                    have hbs2 := hbs.new hn2
                    have c4 := (hn2.cells _ _ (World.block_lt_of_cell? _ _ c4)).trans c4
                    have c3 := hrw2.b3.cells
                    have f3 := hrw2.b3.frees
                    go_wp2_with fail
                    refine (isKind_yes _ _ hk').mono ?_
                    rintro e w3 ⟨rfl, rfl⟩
                    go_wp2
                    go_step3
                    exact ⟨0, by omega, _, _, _, _, _, _, _, _, _, _, _, _, _, _, _, _, _, _, _, _, _, _, _, _, _, _, _, _, _, _, _, _, _, _, _, _, _, _, _, _, _, _, _, _, _, _, _, _, _, _, _, 0, u, a', n', c', F, rfl, hrw2, hu, h5F, .inr ⟨rfl, rfl, HH.out⟩⟩
                  · have hsp := HNx.out HH0.out (by rw [HL.out]; omega) (by rw [HL.out, HSz.out]; omega)
                    rw [HSz.out, HG.out] at hsp
                    have HSp : Hid _ := hsp
                    clear hsp
                    have hlt' : (l.take sz).length = sz := by rw [List.length_take, HL.out]; omega
                    have hk4 : (l.take sz).getD 4 0 = z4 := by
                      rw [← HG.out]
                      simp only [List.getD_eq_getElem?_getD]
                      rw [List.getElem?_take_of_lt (by omega)]
                    have hfo := fun W hW => frameOf_any b (off + u) sz (c - u) (l.take sz) W hW hlt' hs5 (by omega) (by omega)
                    simp only [hk4] at hfo
                    have HFo : Hid _ := hfo
                    have hld : ((l.take sz).drop 5).length = sz - 5 := by rw [List.length_drop, hlt']
                    have HLd : Hid (((l.take sz).drop 5).length = sz - 5) := hld
                    have hzd : ∀ z ∈ (l.take sz).drop 5, 0 ≤ z ∧ z ≤ 255 := fun z hz => HZ.out z (List.mem_of_mem_take (List.mem_of_mem_drop hz))
                    have HZd : Hid (∀ z ∈ (l.take sz).drop 5, 0 ≤ z ∧ z ≤ 255) := hzd
                    have hn'F := hrw.own.len
                    have hn100 : n' ≤ 80 := by omega
                    clear hlt' hk4 hfo hld hzd hn'F
                    generalize (l.take sz).drop 5 = body at *
                    go_wp2_with fail
                    refine (wrong_any _ (n - u) _ l _ hbs HL.out (by omega) (by omega)).mono ?_
                    rintro e w1 ⟨rfl, rfl⟩
                    go_wp2_with fail
                    refine (HNu.out _ hbs).mono ?_
                    rintro e w2 ⟨rfl, hn2⟩
                    have hrw2 := hrw.later hn2
                    have hbs2 := hbs.new hn2
                    have c4 := (hn2.cells _ _ (World.block_lt_of_cell? _ _ c4)).trans c4
                    have c3 := hrw2.b3.cells
                    have f3 := hrw2.b3.frees
                    go_wp2_with fail
                    refine (isKind_yes _ _ hk').mono ?_
                    rintro e w2 ⟨rfl, rfl⟩
                    have hszc : sz ≤ c - u := by omega
                    have hrow := hrw2.own.block_ge
                    have HRow : Hid _ := hrow
                    obtain ⟨iF, hiF, hF0, hF1, hF2⟩ := info_parts Try.infoFr
                    clear hrow
                    go_wp2_with fail
                    go_region_law (first
                      | (refine step_append_lies _ rfl (.tmp 41) (.tmp 46) 38 rfl 0 43 iF (.agg #[.int .i64 0, .slice none 0 0]) 2 32 Try.underlying38 hiF hF0 hF1 hF2 rfl (by decide) (.slice a' n' c') n' (cellsF F) rfl (hrw3.own.value.alloc _) ⟨w3.heap.size, 0, none⟩ 1 1 [.int .i64 z4, .slice a3 (sz - 5) c3'] rfl rfl (World.news_of_block (heap_alloc_new _ _)) (by intro v hv; simp at hv; rcases hv with rfl | rfl <;> rfl) (by omega) (by unfold maxLen; omega) (by omega) (Nat.zero_le _) (w3.heap.size + 1) (by simp) ?_; intro g4 cap4 w4 ho4 hgr4 hat4 hlt4; have b34 := (hrw3.b3.alloc (.cells #[.int .i64 z4, .slice a3 (sz - 5) c3'] 43)).grow hgr4 (fun e => by have := HRow.out _ e; omega); have c34 := b34.cells; have f34 := b34.frees)
                      | (go_simp; go_at_call 57; refine (HFo.out _ ?_).mono ?_; exact (hbs2.take sz).new ((New.refl _).drew); rintro e w3 ⟨a3, c3', rfl, ho3, hp3, hnil3, hn3⟩; have hrw3 := hrw2.later (((New.refl _).drew).trans hn3); have c33 := hrw3.b3.cells; have f33 := hrw3.b3.frees; have l33 := hrw3.b3.lt))
                    all_goals
                      go_wp2
                      go_step3
                      have hF3 : OwF (w3.alloc (.cells #[.int .i64 z4, .slice a3 (sz - 5) c3'] 43)) (w.heap.size + 2) w2.heap.size a' n' c' F := hrw2.own.new ((((New.refl _).drew).trans hn3).alloc _)
                      have hs3 := hn3.size
                      have hs2 := hrw2.b3.lt
                      have e : cellsF [⟨z4, body, a3, c3'⟩] = [.int .i64 z4, .slice a3 (sz - 5) c3'] := by simp [cellsF, HLd.out]
                      have hsn := OwF.snoc (f := ⟨z4, body, a3, c3'⟩) hF3 hgr4 rfl (by rw [e]; exact ho4) (by simpa using hat4) (by simp; simp at hs3; omega) (by simp; simp at hs3; omega) (by show OwAt _ a3 body.length c3' body; rw [HLd.out]; exact ho3.new ((New.refl _).alloc _)) HZd.out (by intro x hx; have := hp3 x hx; simp at this ⊢; simp at hs3; omega) (by intro x hx; have := (hp3 x hx).1; simpa using this) (by intro hx; have := hnil3 hx; rw [HLd.out]; exact this)
                      have hrw4 := RW.more (hrw3.later ((New.refl _).alloc (.cells #[.int .i64 z4, .slice a3 (sz - 5) c3'] 43))) hgr4 HRow.out hsn
                      have hrw5 := hrw4.used ((u : Int) + sz)
                      have ec : ((u + sz : Nat) : Int) = (u : Int) + sz := by omega
                      refine ⟨n - (u + sz) + 1, by omega, _, _, _, _, _, _, _, _, _, _, _, _, _, _, _, _, _, _, _, _, _, _, _, _, _, _, _, _, _, _, _, _, _, _, _, _, _, _, _, _, _, _, _, _, _, _, _, _, _, _, _, 0, u + sz, some ⟨g4, 0, none⟩, n' + 1, cap4, F ++ [⟨z4, body, a3, c3'⟩], rfl, by rw [ec]; exact hrw5, by omega, by simp; omega, .inl ⟨rfl, rfl, rfl, ?_⟩⟩
                      rw [List.map_append]
                      exact HSp.out
    · refine ⟨_, rfl, ?_⟩
      have c3 := hrw.b3.cells
      have c2 := hrw.b2.cells
      have f2 := hrw.b2.frees
      go_wp2
      rw [jumps_ret]
      refine bodyPost_ret (v := .agg #[.int .i64 code, .int .i64 u, .slice a' n' c']) (by simp [results, Try.results31, go_sem, c2]) rfl ?_
      have t : Turn (fun k => k = w.heap.size) wr (((wr.setCell ⟨w.heap.size, 0, none⟩ (.int .i64 code)).setCell ⟨w.heap.size, 1, none⟩ (.int .i64 u)).setCell ⟨w.heap.size, 2, none⟩ (.slice a' n' c')) :=
        Turn.set (S := fun k => k = w.heap.size) (Turn.set (S := fun k => k = w.heap.size) (Turn.set (S := fun k => k = w.heap.size) (Turn.refl _ _) rfl _) rfl _) rfl _
      refine ⟨a', n', c', F, by rw [hR], ((hrw.own.turn t (by omega)).wide t.size).lower (by omega), ?_, by rw [hR]⟩
      exact ((hrw.new.setCell (Nat.le_refl _) _).setCell (Nat.le_refl _) _).setCell (Nat.le_refl _) _

end Go.Proofs.Ytljkcijakdhdiaa
