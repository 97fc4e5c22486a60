/- What is proved here: what the copying and the comparing of routes and of lists of routes answer, for every list of at most 1048576 routes with paths of at most 1048576 numbers. What is proved here: facts on lists of routes that a call owns. No condition. What is proved here: how an argument that is a route or a list of routes comes in. No condition. What is proved here: what the counting, the copying and the comparing of lists of routes answer, for every list of at most 1048576 routes with paths of at most 1048576 numbers. What is proved here: what the counting, the copying and the comparing of routers answer, where all lists have at most 1048576 things. What is proved here: what the comparing of two answers of NewRouter tells, where all lists have at most 1048576 things and what is sent is three nil lists or none. -/
import Derived.Test.YtmmkdmebmbpkgaaNR1
import Derived.Deep.CutRange
import Derived.Test.YtmmkdmebmbpkgaaR7Mk
import Derived.Maps.AppendAt
import Derived.Test.YtmmkdmebmbpkgaaAtOpen
import Derived.Deep.SlicePairs
import Derived.Test.YtmmkdmebmbpkgaaG9Se
namespace Go.Proofs.Ytmmkdmebmbpkgaa
open Go.RowKit Go.Sort
set_option linter.unusedVariables false

set_option maxHeartbeats 3200000 in
theorem eqRt_any (p a l o nx md lc : Int) (x x' : Option Addr) (n c c' : Nat) (xs : List Int) (w : World) (ha : NsAt w x xs) (hb : NsAt w x' xs) (hn : xs.length = n) (hm : n ≤ 1048576) : Calls Try.prog 66 #[.agg #[.int .i64 p, .int .i64 a, .int .i64 l, .int .i64 o, .slice x n c, .int .i64 nx, .int .i64 md, .int .i64 lc], .agg #[.int .i64 p, .int .i64 a, .int .i64 l, .int .i64 o, .slice x' n c', .int .i64 nx, .int .i64 md, .int .i64 lc]] w fun e w' => e = .returned (.bool true) ∧ New w w' := by
  have hw := ((New.refl w).alloc (.cells #[.int .i64 p, .int .i64 a, .int .i64 l, .int .i64 o, .slice x n c, .int .i64 nx, .int .i64 md, .int .i64 lc] 103)).alloc (.cells #[.int .i64 p, .int .i64 a, .int .i64 l, .int .i64 o, .slice x' n c', .int .i64 nx, .int .i64 md, .int .i64 lc] 103)
  have hB : Blk ((w.alloc (.cells #[.int .i64 p, .int .i64 a, .int .i64 l, .int .i64 o, .slice x n c, .int .i64 nx, .int .i64 md, .int .i64 lc] 103)).alloc (.cells #[.int .i64 p, .int .i64 a, .int .i64 l, .int .i64 o, .slice x' n c', .int .i64 nx, .int .i64 md, .int .i64 lc] 103)) w.heap.size 103 #[.int .i64 p, .int .i64 a, .int .i64 l, .int .i64 o, .slice x n c, .int .i64 nx, .int .i64 md, .int .i64 lc] := (Blk.mk _ _ _ _ rfl).alloc _
  have hD : Blk ((w.alloc (.cells #[.int .i64 p, .int .i64 a, .int .i64 l, .int .i64 o, .slice x n c, .int .i64 nx, .int .i64 md, .int .i64 lc] 103)).alloc (.cells #[.int .i64 p, .int .i64 a, .int .i64 l, .int .i64 o, .slice x' n c', .int .i64 nx, .int .i64 md, .int .i64 lc] 103)) (w.heap.size + 1) 103 #[.int .i64 p, .int .i64 a, .int .i64 l, .int .i64 o, .slice x' n c', .int .i64 nx, .int .i64 md, .int .i64 lc] := Blk.mk _ _ _ _ (by simp)
  have z1 : (p != p) = false := by simp
  have cB := hB.cells
  have cD := hD.cells
  go_enter Try.func66, Try.ntmps66
  go_wp2_with fail
  refine (eqPrefix_any a l _).mono ?_
  rintro e w1 ⟨rfl, hn1⟩
  have hw := hw.trans hn1
  have hB := hB.new hn1
  have hD := hD.new hn1
  have cB := hB.cells
  have cD := hD.cells
  go_wp2_with fail
  refine (eqAt_any o nx md lc x x' n c c' xs _ (ha.new hw) (hb.new hw) hn hm).mono ?_
  rintro e w2 ⟨rfl, hn2⟩
  go_wp2
  go_ret
  exact ⟨rfl, hw.trans hn2⟩

end Go.Proofs.Ytmmkdmebmbpkgaa

namespace Go.Proofs.Ytmmkdmebmbpkgaa
open Go.RowKit Go.Sort
set_option linter.unusedVariables false

/-- The path of a route, as a value. -/
def Rv.pv (v : Rv) : Value := .slice v.x v.r.xs.length v.c

theorem OvN.turn7 {w w' : World} {lo : Nat} {v : Value} {xs : List Int} {S : Nat → Prop} (h : OvN w lo v xs) (t : Turn S w w') (hS : ∀ k, v.ownBlock = some k → ¬ S k) : OvN w' lo v xs := by
  refine ⟨h.1, ?_⟩
  rcases h.2 with h' | ⟨g', cap', cur, h', hb, hh, r⟩
  · exact .inl h'
  · have hlt : g' < w.heap.size := (Array.getElem?_eq_some_iff.1 hh).1
    exact .inr ⟨g', cap', cur, h', hb, (t.block g' hlt (hS g' (by rw [h']; rfl))).trans hh, r⟩
theorem OvN.rng7 {w : World} {lo : Nat} {v : Value} {xs : List Int} (h : OvN w lo v xs) : ∀ j, v.ownBlock = some j → lo ≤ j ∧ j < w.heap.size := by
  intro j hj
  rcases h.2 with ⟨h', _⟩ | ⟨g', cap', cur, h', hb, hh, r⟩
  · rw [h'] at hj; simp [Value.ownBlock] at hj
  · have hlt : g' < w.heap.size := (Array.getElem?_eq_some_iff.1 hh).1
    rw [h'] at hj
    simp [Value.ownBlock] at hj
    omega
theorem OwN.ov7 {w : World} {g n c : Nat} {xs : List Int} (h : OwN w g n c xs) : OvN w g (.slice (some ⟨g, 0, none⟩) n c) xs := by
  have hl := h.len
  subst hl
  refine ⟨h.1, ?_⟩
  rcases h.2 with h' | ⟨g', cap', cur, h', r⟩
  · exact .inl h'
  · have e2 := congrArg Value.ownBlock h'
    have e3 : g = g' := by simpa [Value.ownBlock] using e2
    exact .inr ⟨g', cap', cur, h', by omega, r.2⟩

/-- The paths of the routes lie in memory of the call's own, from lo to hi, each in a block of its own. -/
structure PathsT (w : World) (lo hi : Nat) (V : List Rv) : Prop where
  own : ∀ v ∈ V, OvN w lo v.pv v.r.xs
  bd : ∀ v ∈ V, (∀ z ∈ v.r.xs, In6 z) ∧ v.r.xs.length ≤ 1048576
  lies : ∀ v ∈ V, ∀ k, v.pv.ownBlock = some k → k < hi
  apart : ∀ (i j : Nat) (u v : Rv) (k : Nat), V[i]? = some u → V[j]? = some v → i ≠ j → u.pv.ownBlock = some k → v.pv.ownBlock ≠ some k

theorem PathsT.nil (w : World) (lo hi : Nat) : PathsT w lo hi [] := ⟨by simp, by simp, by simp, by intro i j u v k h; simp at h⟩
theorem PathsT.turn {w w' : World} {lo hi : Nat} {V : List Rv} {S : Nat → Prop} (h : PathsT w lo hi V) (t : Turn S w w') (hS : ∀ k, lo ≤ k → k < hi → ¬ S k) : PathsT w' lo hi V :=
  ⟨fun v hv => (h.own v hv).turn7 t (fun k hk => hS k ((h.own v hv).rng7 k hk).1 (h.lies v hv k hk)), h.bd, h.lies, h.apart⟩
theorem PathsT.new {w w' : World} {lo hi : Nat} {V : List Rv} (h : PathsT w lo hi V) (t : New w w') : PathsT w' lo hi V := h.turn t (fun _ _ _ f => f)
theorem PathsT.here {w : World} {lo hi : Nat} {V : List Rv} (h : PathsT w lo hi V) : ∀ v ∈ V, v.here w := by
  intro v hv
  obtain ⟨a, c, e, h1, h2, -⟩ := (h.own v hv).ns (h.bd v hv).1
  simp only [Rv.pv, Value.slice.injEq, true_and] at e
  obtain ⟨rfl, rfl⟩ := e
  exact ⟨h1, h2, (h.bd v hv).2⟩
theorem PathsT.snoc {w : World} {lo hi hi' : Nat} {V : List Rv} (h : PathsT w lo hi V) (v : Rv) (ho : OvN w hi v.pv v.r.xs) (hb : ∀ z ∈ v.r.xs, In6 z) (hm : v.r.xs.length ≤ 1048576) (hlo : lo ≤ hi) (hhi : hi ≤ hi') (hw : w.heap.size ≤ hi') : PathsT w lo hi' (V ++ [v]) := by
  have key : ∀ (i : Nat) (u : Rv), (V ++ [v])[i]? = some u → (V[i]? = some u) ∨ (i = V.length ∧ u = v) := by
    intro i u hu
    rw [List.getElem?_append] at hu
    split at hu
    · exact .inl hu
    · right
      have : i - V.length = 0 := by
        rcases Nat.eq_zero_or_pos (i - V.length) with e | e
        · exact e
        · rw [List.getElem?_eq_none (by simp; omega)] at hu; cases hu
      rw [this] at hu
      simp at hu
      exact ⟨by omega, hu.symm⟩
  refine ⟨?_, ?_, ?_, ?_⟩
  · intro u hu
    rcases List.mem_append.1 hu with hu | hu
    · exact h.own u hu
    · obtain rfl := List.mem_singleton.1 hu; exact ho.low hlo
  · intro u hu
    rcases List.mem_append.1 hu with hu | hu
    · exact h.bd u hu
    · obtain rfl := List.mem_singleton.1 hu; exact ⟨hb, hm⟩
  · intro u hu k hk
    rcases List.mem_append.1 hu with hu | hu
    · have := h.lies u hu k hk; omega
    · obtain rfl := List.mem_singleton.1 hu; have := (ho.rng7 k hk).2; omega
  · intro i j u q k hi hj hne hu hq
    rcases key i u hi with h1 | ⟨h1, rfl⟩
    · rcases key j q hj with h2 | ⟨h2, rfl⟩
      · exact h.apart i j u q k h1 h2 hne hu hq
      · have := h.lies u (List.mem_of_getElem? h1) k hu; have := (ho.rng7 k hq).1; omega
    · rcases key j q hj with h2 | ⟨h2, rfl⟩
      · have := h.lies q (List.mem_of_getElem? h2) k hq; have := (ho.rng7 k hu).1; omega
      · omega
theorem PathsT.up {w : World} {lo hi hi' : Nat} {V : List Rv} (h : PathsT w lo hi V) (hh : hi ≤ hi') : PathsT w lo hi' V := ⟨h.own, h.bd, fun v hv k hk => Nat.lt_of_lt_of_le (h.lies v hv k hk) hh, h.apart⟩
theorem PathsT.low {w : World} {lo lo' hi : Nat} {V : List Rv} (h : PathsT w lo hi V) (hh : lo' ≤ lo) : PathsT w lo' hi V := ⟨fun v hv => (h.own v hv).low hh, h.bd, h.lies, h.apart⟩

/-- The row of the routes and their paths are the call's own, from lo to hi. -/
structure OwT (w : World) (lo hi : Nat) (u : Value) (V : List Rv) : Prop where
  row : w.ownsRow lo 103 8 u V.length (cellsT V)
  rhi : ∀ k, u.ownBlock = some k → k < hi
  path : PathsT w lo hi V

theorem row_turn7 {w w' : World} {lo : Nat} {u : Value} {V : List Rv} {S : Nat → Prop} (h : w.ownsRow lo 103 8 u V.length (cellsT V)) (t : Turn S w w') (hS : ∀ k, u.ownBlock = some k → ¬ S k) : w'.ownsRow lo 103 8 u V.length (cellsT V) := by
  refine ⟨h.1, ?_⟩
  rcases h.2 with h' | ⟨g', cap', cur, h', hb, hh, r⟩
  · exact .inl h'
  · have hlt : g' < w.heap.size := (Array.getElem?_eq_some_iff.1 hh).1
    exact .inr ⟨g', cap', cur, h', hb, (t.block g' hlt (hS g' (by rw [h']; rfl))).trans hh, r⟩
theorem row_rng7 {w : World} {lo n : Nat} {u : Value} {xs : List Value} (h : w.ownsRow lo 103 8 u n xs) : ∀ k, u.ownBlock = some k → lo ≤ k ∧ k < w.heap.size := by
  intro j hj
  rcases h.2 with ⟨h', _⟩ | ⟨g', cap', cur, h', hb, hh, r⟩
  · rw [h'] at hj; simp [Value.ownBlock] at hj
  · have hlt : g' < w.heap.size := (Array.getElem?_eq_some_iff.1 hh).1
    rw [h'] at hj
    simp [Value.ownBlock] at hj
    omega
theorem row_form7 {w : World} {lo : Nat} {u : Value} {V : List Rv} (h : w.ownsRow lo 103 8 u V.length (cellsT V)) : (u = .slice none 0 0 ∧ V = []) ∨ ∃ g c, u = .slice (some ⟨g, 0, none⟩) V.length c ∧ lo ≤ g ∧ g < w.heap.size ∧ OwRow w g V.length c V := by
  rcases h.2 with ⟨h1, h2⟩ | ⟨g, c, cur, h1, h2, h3, r⟩
  · exact .inl ⟨h1, List.eq_nil_of_length_eq_zero h2⟩
  · have hlt : g < w.heap.size := (Array.getElem?_eq_some_iff.1 h3).1
    exact .inr ⟨g, c, h1, h2, hlt, h.1, .inr ⟨g, c, cur, rfl, Nat.zero_le _, h3, r⟩⟩
theorem row_of7 {w : World} {lo g n c : Nat} {V : List Rv} (h : OwRow w g n c V) (hl : lo ≤ g) : w.ownsRow lo 103 8 (.slice (some ⟨g, 0, none⟩) n c) V.length (cellsT V) := by
  have hn := h.len
  subst hn
  refine ⟨h.1, ?_⟩
  rcases h.2 with h' | ⟨g', cap', cur, h', r⟩
  · exact .inl h'
  · have e2 := congrArg Value.ownBlock h'
    have e3 : g = g' := by simpa [Value.ownBlock] using e2
    exact .inr ⟨g', cap', cur, h', by omega, r.2⟩

theorem OwT.turn {w w' : World} {lo hi : Nat} {u : Value} {V : List Rv} {S : Nat → Prop} (h : OwT w lo hi u V) (t : Turn S w w') (hS : ∀ k, lo ≤ k → k < hi → ¬ S k) : OwT w' lo hi u V :=
  ⟨row_turn7 h.row t (fun k hk => hS k (row_rng7 h.row k hk).1 (h.rhi k hk)), h.rhi, h.path.turn t hS⟩
theorem OwT.new {w w' : World} {lo hi : Nat} {u : Value} {V : List Rv} (h : OwT w lo hi u V) (t : New w w') : OwT w' lo hi u V := h.turn t (fun _ _ _ f => f)
theorem OwT.up {w : World} {lo hi hi' : Nat} {u : Value} {V : List Rv} (h : OwT w lo hi u V) (hh : hi ≤ hi') : OwT w lo hi' u V := ⟨h.row, fun k hk => Nat.lt_of_lt_of_le (h.rhi k hk) hh, h.path.up hh⟩
theorem OwT.form {w : World} {lo hi : Nat} {u : Value} {V : List Rv} (h : OwT w lo hi u V) : ∃ A c, u = .slice A V.length c ∧ RtAt w A V ∧ (A = none → V.length = 0 ∧ c = 0) := by
  rcases row_form7 h.row with ⟨rfl, rfl⟩ | ⟨g, c, rfl, -, -, ho⟩
  · exact ⟨none, 0, rfl, RtAt.nil _ _, fun _ => ⟨rfl, rfl⟩⟩
  · exact ⟨_, c, rfl, ho.rt h.path.here, by intro e; cases e⟩
theorem OwT.rt {w : World} {lo hi n c : Nat} {A : Option Addr} {V : List Rv} (h : OwT w lo hi (.slice A n c) V) : RtAt w A V ∧ V.length = n := by
  obtain ⟨A', c', e, h1, -⟩ := h.form
  simp only [Value.slice.injEq] at e
  obtain ⟨rfl, rfl, rfl⟩ := e
  exact ⟨h1, rfl⟩
theorem OwT.nil (w : World) (lo hi : Nat) : OwT w lo hi (.slice none 0 0) [] := ⟨⟨rfl, .inl ⟨rfl, rfl⟩⟩, by intro k hk; simp [Value.ownBlock] at hk, PathsT.nil _ _ _⟩

section
variable {P : Program} {t e : TypeId} {i : TypeInfo}
/-- Appending a route to a list that the call owns. -/
theorem wpList_apT (w : World) {ops : Array Oper} {rest : List Oper} {o : Oper} {a : Act} {Q : Exit → Act → World → Prop} (hgd : o.guard = none) (s x : Operand)
    (ho : o.op = .call { callee := .builtin .append, args := #[s, x], argTypes := #[t, t] }) (base : Nat) (zero : Value) (ht : P.underlying t = some (.slice e)) (hi : P.info? e = some i) (hz : i.zero = some zero) (hs : i.size = 8) (hb : i.bytes = 80) (hz1 : zero.cells.size = 8)
    (v : Value) (rs : List Rv) (hsv : a.eval s = v) (hown : w.ownsRow base e 8 v rs.length (cellsT rs))
    (L : Nat) (r : Rv) (hxv : a.eval x = .slice (some ⟨L, 0, none⟩) 1 1) (hsrc : ∀ j, w.cell? ⟨L, j, none⟩ = r.cs[j]?) (hle : rs.length + 1 ≤ 4194304) (hbase : base ≤ w.heap.size)
    (h : ∀ v' w', w'.ownsRow base e 8 v' (rs ++ [r]).length (cellsT (rs ++ [r])) → w.grownBy w' v.ownBlock → (v'.ownBlock = v.ownBlock ∨ v'.ownBlock = some w.heap.size) → wpList P ops Q rest (a.put o.dst v') w') : wpList P ops Q (o :: rest) a w := by
  refine wpList_plain hgd fun _ hK => ?_
  have hnews : ∀ j u, r.cs[j]? = some u → w.cell? ((⟨L, 0, none⟩ : Addr).add j) = some u := by
    intro j u hu
    rw [Addr.add_lit, Nat.zero_add, hsrc j, hu]
  obtain ⟨v', w', hr, h2, h3, _, h5⟩ := run_append_own_at (P := P) w base t o.type e i zero 8 80 ht hi hz hs hb hz1 (by decide) v rs.length (cellsT rs) hown ⟨L, 0, none⟩ 1 1 r.cs rfl hnews (by simp [Rv.cs, Value.oneCell']) (by unfold maxLen; omega) (by omega) hbase
  unfold Oper.wp execOp
  simp only [ho, resolve, invoke, builtin, Sem.run_bind, Sem.run_pure, Result.andThen_ok, List.map_toArray, List.map_cons, List.map_nil, hsv, hxv, hr]
  exact hK _ _ (h v' w' (by rw [cellsT_snoc]; simpa using h2) h3 h5)
end

end Go.Proofs.Ytmmkdmebmbpkgaa

namespace Go.Proofs.Ytmmkdmebmbpkgaa
open Go.ChangeShapes Go.WideShapes Go.ChangeAt Go.RowKit Go.Deep

set_option maxRecDepth 100000 in
theorem open_nums7 {H : Type} {enc : TypeId × Value → H} {W : World} {base fuel : Nat} {t1 : Nat → Bool} {t2 : Bool} {cs : List Value} {y : DataW H × List MemPlace}
    (hf : DataW.trod enc Try.prog W base t1 t2 fuel 99 cs = some y) : ∃ a n c xs, cs = [.slice a n c] ∧ NsAt W a xs ∧ xs.length = n ∧ n ≤ maxLen ∧ (a = none → n = 0 ∧ c = 0) := by
  rcases open_ints Try.underlying99 Try.underlying2 (by kernel_rfl) hf with ⟨hcs, _⟩ | ⟨x, l, c, zs, hcs, _, hl, hm, hz, _, hcell, hwz⟩
  · exact ⟨none, 0, 0, [], hcs, NsAt.nil _ _, rfl, Nat.zero_le _, fun _ => ⟨rfl, rfl⟩⟩
  · have hz' : l ≤ zs.length := by rw [hz]; split <;> omega
    exact ⟨some x, l, c, zs.take l, hcs, NsAt.of_cells l hcell hwz, by rw [List.length_take]; omega, Nat.le_trans hl hm, by intro e; cases e⟩

/-- A route that came in: its path is there. -/
def Rv.came (w : World) (v : Rv) : Prop := NsAt w v.x v.r.xs ∧ (v.x = none → v.r.xs.length = 0 ∧ v.c = 0) ∧ v.r.xs.length ≤ maxLen

/-- The address leads to the routes that came in. -/
def RtCame (w : World) (A : Option Addr) (V : List Rv) : Prop :=
  ∀ i v, V[i]? = some v → (∃ b off, A = some ⟨b, off, none⟩ ∧ ∀ j, j < 8 → w.cell? ⟨b, off + i * 8 + j, none⟩ = v.cs[j]?) ∧ v.came w

end Go.Proofs.Ytmmkdmebmbpkgaa

namespace Go.Proofs.Ytmmkdmebmbpkgaa
open Go.RowKit Go.Sort
set_option linter.unusedVariables false

theorem set8 (w : World) (B j : Nat) (v0 v1 v2 v3 v4 v5 v6 v7 : Value) : Turn (fun k => k = B) w ((((((((w.setCell ⟨B, j, none⟩ v0).setCell ⟨B, j + 1, none⟩ v1).setCell ⟨B, j + 2, none⟩ v2).setCell ⟨B, j + 3, none⟩ v3).setCell ⟨B, j + 4, none⟩ v4).setCell ⟨B, j + 5, none⟩ v5).setCell ⟨B, j + 6, none⟩ v6).setCell ⟨B, j + 7, none⟩ v7) :=
  ((((((((Turn.refl (fun k => k = B) w).set (p := ⟨B, j, none⟩) rfl v0).set (p := ⟨B, j + 1, none⟩) rfl v1).set (p := ⟨B, j + 2, none⟩) rfl v2).set (p := ⟨B, j + 3, none⟩) rfl v3).set (p := ⟨B, j + 4, none⟩) rfl v4).set (p := ⟨B, j + 5, none⟩) rfl v5).set (p := ⟨B, j + 6, none⟩) rfl v6).set (p := ⟨B, j + 7, none⟩) rfl v7

theorem RtCame.new {w w' : World} {A : Option Addr} {V : List Rv} (h : RtCame w A V) (t : New w w') : RtCame w' A V := by
  intro i v hv
  obtain ⟨⟨b, off, ha, hc⟩, h1, h2⟩ := h i v hv
  have h0 : w.cell? ⟨b, off + i * 8, none⟩ = some (.int .i64 v.r.p) := hc 0 (by omega)
  have hb' := t.block b (World.block_lt_of_cell? w _ h0) (fun f => f)
  exact ⟨⟨b, off, ha, fun j hj => (World.cell?_of_block hb').trans (hc j hj)⟩, h1.new t, h2⟩
theorem RtCame.at {w : World} {A : Option Addr} {V : List Rv} (h : RtCame w A V) (i : Nat) (hi : i < V.length) :
    ∃ (b off : Nat) (p a l o nx md lc : Int) (x : Option Addr) (n c : Nat) (xs : List Int), A = some ⟨b, off, none⟩ ∧ V[i]? = some ⟨⟨p, a, l, o, xs, nx, md, lc⟩, x, c⟩ ∧ xs.length = n ∧ NsAt w x xs ∧ (x = none → n = 0 ∧ c = 0) ∧ n ≤ maxLen ∧ w.cell? ⟨b, off + i * 8, none⟩ = some (.int .i64 p) ∧ w.cell? ⟨b, off + i * 8 + 1, none⟩ = some (.int .i64 a) ∧ w.cell? ⟨b, off + i * 8 + 2, none⟩ = some (.int .i64 l) ∧ w.cell? ⟨b, off + i * 8 + 3, none⟩ = some (.int .i64 o) ∧ w.cell? ⟨b, off + i * 8 + 4, none⟩ = some (.slice x n c) ∧ w.cell? ⟨b, off + i * 8 + 5, none⟩ = some (.int .i64 nx) ∧ w.cell? ⟨b, off + i * 8 + 6, none⟩ = some (.int .i64 md) ∧ w.cell? ⟨b, off + i * 8 + 7, none⟩ = some (.int .i64 lc) := by
  obtain ⟨⟨b, off, h1, h2⟩, hh⟩ := h i _ (List.getElem?_eq_getElem hi)
  exact ⟨b, off, _, _, _, _, _, _, _, _, _, _, _, h1, List.getElem?_eq_getElem hi, rfl, hh.1, hh.2.1, hh.2.2, h2 0 (by omega), h2 1 (by omega), h2 2 (by omega), h2 3 (by omega), h2 4 (by omega), h2 5 (by omega), h2 6 (by omega), h2 7 (by omega)⟩
theorem RtCame.rt {w : World} {A : Option Addr} {V : List Rv} (h : RtCame w A V) (hb : ∀ v ∈ V, v.r.xs.length ≤ 1048576) : RtAt w A V := by
  intro i v hv
  obtain ⟨h1, h2, h3, -⟩ := h i v hv
  exact ⟨h1, h2, h3, hb v (List.mem_of_getElem? hv)⟩

set_option maxHeartbeats 3200000 in
theorem eqRts_any (A B : Option Addr) (n c e0 : Nat) (V U : List Rv) (w : World) (hF : RtAt w A V) (hG : RtAt w B U) (hVU : V.map Rv.r = U.map Rv.r) (hn : V.length = n) (hm : n ≤ 1048576) :
    Calls Try.prog 43 #[.slice A n c, .slice B n e0] w fun e w' => e = .returned (.bool true) ∧ New w w' := by
  have hnn : ((n : Int) != (n : Int)) = false := by simp
  have HN : Hid (V.length = n) := hn
  have HU : Hid (V.map Rv.r = U.map Rv.r) := hVU
  have HUN : Hid (U.length = n) := by
    have := congrArg List.length hVU
    simp at this
    show U.length = n
    omega
  clear hn hVU
  go_enter Try.func43, Try.ntmps43
  go_wp2
  go_loopw [5] (fun i wr => ∃ k : Nat, k ≤ n ∧ i = .int .i64 k ∧ New w wr) (fun i _ => n - (intOf i).toNat)
  case atStart => exact ⟨0, Nat.zero_le _, rfl, New.refl _⟩
  case round =>
    obtain ⟨k, hk, rfl, hnw⟩ := hrel
    by_cases hlt : k < n
    · obtain ⟨g1, o1, p, a, l, o, nx, md, lc, x, m, d, xs, rfl, hp1, hl1, hx1, -, hmx, x0, x1, x2, x3, x4, x5, x6, x7⟩ := (hF.new hnw).at k (by have := HN.out; omega)
      obtain ⟨g2, o2, p', a', l', o', nx', md', lc', x', m', d', xs', rfl, hp2, hl2, hx2, -, hmx', y0, y1, y2, y3, y4, y5, y6, y7⟩ := (hG.new hnw).at k (by have := HUN.out; omega)
      have hh : (⟨p, a, l, o, xs, nx, md, lc⟩ : Rt) = ⟨p', a', l', o', xs', nx', md', lc'⟩ := by
        have h1 : (V.map Rv.r)[k]? = some ⟨p, a, l, o, xs, nx, md, lc⟩ := by rw [List.getElem?_map, hp1]; rfl
        have h2 : (U.map Rv.r)[k]? = some ⟨p', a', l', o', xs', nx', md', lc'⟩ := by rw [List.getElem?_map, hp2]; rfl
        rw [HU.out, h2] at h1
        exact (Option.some.inj h1).symm
      simp only [Rt.mk.injEq] at hh
      obtain ⟨rfl, rfl, rfl, rfl, rfl, rfl, rfl, rfl⟩ := hh
      obtain rfl : m = m' := hl1.symm.trans hl2
      have HL : Hid (xs.length = m) := hl1
      clear hp1 hp2 hF hG hl1 hl2
      have X0 := cell_regrown x0
      have X1 := cell_regrown x1
      have X2 := cell_regrown x2
      have X3 := cell_regrown x3
      have X4 := cell_regrown x4
      have X5 := cell_regrown x5
      have X6 := cell_regrown x6
      have X7 := cell_regrown x7
      have Y0 := cell_regrown y0
      have Y1 := cell_regrown y1
      have Y2 := cell_regrown y2
      have Y3 := cell_regrown y3
      have Y4 := cell_regrown y4
      have Y5 := cell_regrown y5
      have Y6 := cell_regrown y6
      have Y7 := cell_regrown y7
      go_wp2_with fail
      refine wp_region_quiet_below (by kernel_rfl) (by kernel_rfl) ?_
      repeat (go_big_quiet_step ((go_at_call 66; exact calls_regrown (eqRt_any p a l o nx md lc x x' m d d' xs _ (hx1.new (new_regrown _ _ _)) (hx2.new (new_regrown _ _ _)) HL.out hmx))))
      refine wpQuiet_nil ?_
      rintro w1 hn1
      replace hn1 := new_of_regrown hn1
      go_wp2
      go_roundw
      case rel => exact ⟨k + 1, by omega, by go_num, hnw.trans hn1⟩
      case measure => simp [intOf]; omega
    · go_wp2
      go_ret
      exact ⟨rfl, hnw⟩

end Go.Proofs.Ytmmkdmebmbpkgaa

namespace Go.Proofs.Ytmmkdmebmbpkgaa
open Go.RowKit Go.Sort
set_option linter.unusedVariables false

set_option maxHeartbeats 3200000 in
theorem eqRr_any (sa si ho nx : Int) (a1 a2 la ra b1 b2 lb rb : Option Addr) (n1 c1 n2 c2 ln lc rn rc d1 d2 ld rd : Nat) (r1 r2 : List Ru) (L L' : List Lv) (R R' : List Rv) (w : World) (h1 : RsAt w a1 r1) (h2 : RsAt w a2 r2) (h3 : LkAt w la L) (h4 : RtAt w ra R) (k1 : RsAt w b1 r1) (k2 : RsAt w b2 r2) (k3 : LkAt w lb L') (k4 : RtAt w rb R') (hL : L.map Lv.r = L'.map Lv.r) (hR : R.map Rv.r = R'.map Rv.r) (e1 : r1.length = n1) (e2 : r2.length = n2) (e3 : L.length = ln) (e4 : R.length = rn) (m1 : n1 ≤ 1048576) (m2 : n2 ≤ 1048576) (m3 : ln ≤ 1048576) (m4 : rn ≤ 1048576) :
    Calls Try.prog 21 #[.agg #[.int .i64 sa, .int .i64 si, .int .i64 ho, .int .i64 nx, .slice a1 n1 c1, .slice a2 n2 c2, .slice la ln lc, .slice ra rn rc], .agg #[.int .i64 sa, .int .i64 si, .int .i64 ho, .int .i64 nx, .slice b1 n1 d1, .slice b2 n2 d2, .slice lb ln ld, .slice rb rn rd]] w fun e w' => e = .returned (.bool true) ∧ New w w' := by
  have hw := ((New.refl w).alloc (.cells #[.int .i64 sa, .int .i64 si, .int .i64 ho, .int .i64 nx, .slice a1 n1 c1, .slice a2 n2 c2, .slice la ln lc, .slice ra rn rc] 35)).alloc (.cells #[.int .i64 sa, .int .i64 si, .int .i64 ho, .int .i64 nx, .slice b1 n1 d1, .slice b2 n2 d2, .slice lb ln ld, .slice rb rn rd] 35)
  have bA : Blk ((w.alloc (.cells #[.int .i64 sa, .int .i64 si, .int .i64 ho, .int .i64 nx, .slice a1 n1 c1, .slice a2 n2 c2, .slice la ln lc, .slice ra rn rc] 35)).alloc (.cells #[.int .i64 sa, .int .i64 si, .int .i64 ho, .int .i64 nx, .slice b1 n1 d1, .slice b2 n2 d2, .slice lb ln ld, .slice rb rn rd] 35)) w.heap.size 35 #[.int .i64 sa, .int .i64 si, .int .i64 ho, .int .i64 nx, .slice a1 n1 c1, .slice a2 n2 c2, .slice la ln lc, .slice ra rn rc] := (Blk.mk _ _ _ _ rfl).alloc _
  have bB : Blk ((w.alloc (.cells #[.int .i64 sa, .int .i64 si, .int .i64 ho, .int .i64 nx, .slice a1 n1 c1, .slice a2 n2 c2, .slice la ln lc, .slice ra rn rc] 35)).alloc (.cells #[.int .i64 sa, .int .i64 si, .int .i64 ho, .int .i64 nx, .slice b1 n1 d1, .slice b2 n2 d2, .slice lb ln ld, .slice rb rn rd] 35)) (w.heap.size + 1) 35 #[.int .i64 sa, .int .i64 si, .int .i64 ho, .int .i64 nx, .slice b1 n1 d1, .slice b2 n2 d2, .slice lb ln ld, .slice rb rn rd] := Blk.mk _ _ _ _ (by simp)
  have E1 : Hid (r1.length = n1) := e1
  have E2 : Hid (r2.length = n2) := e2
  have E3 : Hid (L.length = ln) := e3
  have E4 : Hid (R.length = rn) := e4
  have HL : Hid (L.map Lv.r = L'.map Lv.r) := hL
  have HR : Hid (R.map Rv.r = R'.map Rv.r) := hR
  clear e1 e2 e3 e4 hL hR
  go_enter Try.func21, Try.ntmps21
  go_wp2_with fail
  refine (eqSe_any sa si ho nx a1 a2 b1 b2 n1 c1 n2 c2 d1 d2 r1 r2 _ (h1.new hw) (h2.new hw) E1.out E2.out m1 m2 (k1.new hw) (k2.new hw)).mono ?_
  rintro e w0 ⟨rfl, hn0⟩
  have hw0 := hw.trans hn0
  have bA0 := bA.new hn0
  have bB0 := bB.new hn0
  have cA := bA0.cells
  have cB := bB0.cells
  clear bA bB hn0
  go_wp2_with fail
  refine (eqLks_any la lb ln lc ld L L' _ (h3.new hw0) (k3.new hw0) HL.out E3.out m3).mono ?_
  rintro e w1 ⟨rfl, hn1⟩
  have hw1 := hw0.trans hn1
  clear cA cB
  have cA := (bA0.new hn1).cells
  have cB := (bB0.new hn1).cells
  go_wp2_with fail
  refine (eqRts_any ra rb rn rc rd R R' _ (h4.new hw1) (k4.new hw1) HR.out E4.out m4).mono ?_
  rintro e w2 ⟨rfl, hn2⟩
  go_wp2
  go_ret
  exact ⟨rfl, hw1.trans hn2⟩

end Go.Proofs.Ytmmkdmebmbpkgaa

namespace Go.Proofs.Ytmmkdmebmbpkgaa
open Go.RowKit Go.Sort
set_option linter.unusedVariables false

theorem OuAt.at {W : World} {y : Option Addr} {n : Nat} (h : OuAt W y n) (j : Nat) (hj : j < n) : ∃ b off, y = some ⟨b, off, none⟩ ∧ W.cell? ⟨b, off + j, none⟩ = some (.slice none 0 0) := h j hj

set_option maxHeartbeats 1600000 in
theorem eqOuts (y y' : Option Addr) (n d d' : Nat) (w : World) (h : OuAt w y n) (h' : OuAt w y' n) (hn : n ≤ 1048576) : Calls Try.prog 22 #[.slice y n d, .slice y' n d'] w fun e w' => e = .returned (.bool true) ∧ New w w' := by
  have hnn : ((n : Int) != (n : Int)) = false := by simp
  go_enter Try.func22, Try.ntmps22
  go_wp2
  go_loopw [5] (fun i wr => ∃ k : Nat, k ≤ n ∧ i = .int .i64 k ∧ New w wr) (fun i _ => n - (intOf i).toNat)
  case atStart => exact ⟨0, Nat.zero_le _, rfl, New.refl _⟩
  case round =>
    obtain ⟨k, hk, rfl, hnw⟩ := hrel
    by_cases hlt : k < n
    · obtain ⟨g1, o1, rfl, x0⟩ := (h.new hnw).at k hlt
      obtain ⟨g2, o2, rfl, y0⟩ := (h'.new hnw).at k hlt
      clear h h'
      have X0 := cell_regrown x0
      have Y0 := cell_regrown y0
      go_wp2_with fail
      refine wp_region_quiet_below (by kernel_rfl) (by kernel_rfl) ?_
      repeat (go_big_quiet_step ((go_at_call 44; exact calls_regrown (eqBytes_any none none 0 0 0 [] _ (BsAt.nil _ _) (BsAt.nil _ _) rfl (by omega)))))
      refine wpQuiet_nil ?_
      rintro w1 hn1
      replace hn1 := new_of_regrown hn1
      go_wp2
      go_roundw
      case rel => exact ⟨k + 1, by omega, by go_num, hnw.trans hn1⟩
      case measure => simp [intOf]; omega
    · go_wp2
      go_ret
      exact ⟨rfl, hnw⟩

set_option maxHeartbeats 3200000 in
theorem eqNR (z sa si ho nx : Int) (a1 a2 la ra b1 b2 lb rb y y' : Option Addr) (n1 c1 n2 c2 ln lc rn rc d1 d2 ld rd k e e' : Nat) (r1 r2 : List Ru) (L L' : List Lv) (R R' : List Rv) (w : World) (h1 : RsAt w a1 r1) (h2 : RsAt w a2 r2) (h3 : LkAt w la L) (h4 : RtAt w ra R) (k1 : RsAt w b1 r1) (k2 : RsAt w b2 r2) (k3 : LkAt w lb L') (k4 : RtAt w rb R') (hL : L.map Lv.r = L'.map Lv.r) (hR : R.map Rv.r = R'.map Rv.r) (e1 : r1.length = n1) (e2 : r2.length = n2) (e3 : L.length = ln) (e4 : R.length = rn) (m1 : n1 ≤ 1048576) (m2 : n2 ≤ 1048576) (m3 : ln ≤ 1048576) (m4 : rn ≤ 1048576) (hy : OuAt w y k) (hy' : OuAt w y' k) (hk : k ≤ 1048576) :
    Calls Try.prog 8 #[.agg #[.int .i64 z, .int .i64 sa, .int .i64 si, .int .i64 ho, .int .i64 nx, .slice a1 n1 c1, .slice a2 n2 c2, .slice la ln lc, .slice ra rn rc, .slice y k e], .agg #[.int .i64 z, .int .i64 sa, .int .i64 si, .int .i64 ho, .int .i64 nx, .slice b1 n1 d1, .slice b2 n2 d2, .slice lb ln ld, .slice rb rn rd, .slice y' k e']] w fun e w' => e = .returned (.bool true) ∧ New w w' := by
  have hw := ((New.refl w).alloc (.cells #[.int .i64 z, .int .i64 sa, .int .i64 si, .int .i64 ho, .int .i64 nx, .slice a1 n1 c1, .slice a2 n2 c2, .slice la ln lc, .slice ra rn rc, .slice y k e] 38)).alloc (.cells #[.int .i64 z, .int .i64 sa, .int .i64 si, .int .i64 ho, .int .i64 nx, .slice b1 n1 d1, .slice b2 n2 d2, .slice lb ln ld, .slice rb rn rd, .slice y' k e'] 38)
  have bA : Blk ((w.alloc (.cells #[.int .i64 z, .int .i64 sa, .int .i64 si, .int .i64 ho, .int .i64 nx, .slice a1 n1 c1, .slice a2 n2 c2, .slice la ln lc, .slice ra rn rc, .slice y k e] 38)).alloc (.cells #[.int .i64 z, .int .i64 sa, .int .i64 si, .int .i64 ho, .int .i64 nx, .slice b1 n1 d1, .slice b2 n2 d2, .slice lb ln ld, .slice rb rn rd, .slice y' k e'] 38)) w.heap.size 38 #[.int .i64 z, .int .i64 sa, .int .i64 si, .int .i64 ho, .int .i64 nx, .slice a1 n1 c1, .slice a2 n2 c2, .slice la ln lc, .slice ra rn rc, .slice y k e] := (Blk.mk _ _ _ _ rfl).alloc _
  have bB : Blk ((w.alloc (.cells #[.int .i64 z, .int .i64 sa, .int .i64 si, .int .i64 ho, .int .i64 nx, .slice a1 n1 c1, .slice a2 n2 c2, .slice la ln lc, .slice ra rn rc, .slice y k e] 38)).alloc (.cells #[.int .i64 z, .int .i64 sa, .int .i64 si, .int .i64 ho, .int .i64 nx, .slice b1 n1 d1, .slice b2 n2 d2, .slice lb ln ld, .slice rb rn rd, .slice y' k e'] 38)) (w.heap.size + 1) 38 #[.int .i64 z, .int .i64 sa, .int .i64 si, .int .i64 ho, .int .i64 nx, .slice b1 n1 d1, .slice b2 n2 d2, .slice lb ln ld, .slice rb rn rd, .slice y' k e'] := Blk.mk _ _ _ _ (by simp)
  have E1 : Hid (r1.length = n1) := e1
  have E2 : Hid (r2.length = n2) := e2
  have E3 : Hid (L.length = ln) := e3
  have E4 : Hid (R.length = rn) := e4
  have HL : Hid (L.map Lv.r = L'.map Lv.r) := hL
  have HR : Hid (R.map Rv.r = R'.map Rv.r) := hR
  have hz : (z != z) = false := by simp
  clear e1 e2 e3 e4 hL hR
  go_enter Try.func8, Try.ntmps8
  go_wp2_with fail
  refine (eqRr_any sa si ho nx a1 a2 la ra b1 b2 lb rb n1 c1 n2 c2 ln lc rn rc d1 d2 ld rd r1 r2 L L' R R' _ (h1.new hw) (h2.new hw) (h3.new hw) (h4.new hw) (k1.new hw) (k2.new hw) (k3.new hw) (k4.new hw) HL.out HR.out E1.out E2.out E3.out E4.out m1 m2 m3 m4).mono ?_
  rintro e w1 ⟨rfl, hn1⟩
  have hw1 := hw.trans hn1
  have cA := (bA.new hn1).cells
  have cB := (bB.new hn1).cells
  go_wp2_with fail
  refine (eqOuts y y' k _ _ _ (hy.new hw1) (hy'.new hw1) hk).mono ?_
  rintro e w2 ⟨rfl, hn2⟩
  go_wp2
  go_ret
  exact ⟨rfl, hw1.trans hn2⟩

end Go.Proofs.Ytmmkdmebmbpkgaa
