/- What is proved here: what putting two lists of mails one behind the other answers, for lists of at most 1048576 mails. What is proved here: limits of pairs that read alike; what a pair of the call's own gives to PairFault; a pair without one of its mails. No condition. -/
import Derived.Test.YtebkdaddndlmoaaGreatLL26
import Derived.Lib.AppendZeros
import Derived.LoopN
import Derived.Test.YtebkdaddndlmoaaGreatLL22
import Derived.Test.YtebkdaddndlmoaaGreatLL19
namespace Go.Proofs.YtebkdaddndlmoaaGreat
open Go.RowKit Go.Sort
set_option linter.unusedVariables false
set_option linter.unusedSimpArgs false

section
variable {P : Program} {t e : TypeId} {i : TypeInfo}
/-- Cells put behind a row of the call's own. -/
theorem run_apG (w : World) (ty : TypeId) (base sz by' : Nat) (zero : Value) (ht : P.underlying t = some (.slice e)) (hi : P.info? e = some i) (hz : i.zero = some zero) (hs : i.size = sz) (hb : i.bytes = by') (hz1 : zero.cells.size = sz) (hsz : 0 < sz) (hby : by' ≤ 1000)
    (v : Value) (n : Nat) (xs : List Value) (hown : w.ownsRow base e sz v n xs)
    (A : Option Addr) (m c : Nat) (r : List Value) (hr : r.length = m * sz) (h1 : ∀ u ∈ r, u.oneCell' = true) (hA : A = none → m = 0 ∧ c = 0) (hsrc : ∀ a, A = some a → ∀ j u, r[j]? = some u → w.cell? (a.add j) = some u) (hle : n + m ≤ 4194304) (hbase : base ≤ w.heap.size) :
    ∃ v' w', (Builtin.append_ #[t, t] ty #[v, .slice A m c]).run P w = .ok v' w' ∧ w'.ownsRow base e sz v' (n + m) (xs ++ r) ∧ w.grownBy w' v.ownBlock := by
  cases A with
  | none =>
    obtain ⟨rfl, rfl⟩ := hA rfl
    obtain rfl : r = [] := List.eq_nil_of_length_eq_zero (by simpa using hr)
    have hrun := run_append_owned_none (P := P) w base t ty e i sz ht hi v n xs hown
    exact ⟨v, w, by simpa using hrun, by simpa using hown, World.grownBy.refl _ _⟩
  | some ad =>
    have hbb : (n + m) * by' ≤ 140737488355328 := Nat.le_trans (Nat.mul_le_mul hle hby) (by decide)
    obtain ⟨v', w', hrun, h2, h3, _, _⟩ := run_append_own_at (P := P) w base t ty e i zero sz by' ht hi hz hs hb hz1 hsz v n xs hown ad m c r hr (hsrc ad rfl) h1 (by unfold maxLen; omega) hbb hbase
    exact ⟨v', w', hrun, h2, h3⟩
theorem wp_apG (w : World) {o : Oper} {a : Act} {K : Act → World → Prop} {Q : Exit → Act → World → Prop} (s x : Operand)
    (ho : o.op = .call { callee := .builtin .append, args := #[s, x], argTypes := #[t, t] }) (base sz by' : Nat) (zero : Value) (ht : P.underlying t = some (.slice e)) (hi : P.info? e = some i) (hz : i.zero = some zero) (hs : i.size = sz) (hb : i.bytes = by') (hz1 : zero.cells.size = sz) (hsz : 0 < sz) (hby : by' ≤ 1000)
    (v : Value) (n : Nat) (xs : List Value) (hsv : a.eval s = v) (hown : w.ownsRow base e sz v n xs)
    (A : Option Addr) (m c : Nat) (r : List Value) (hxv : a.eval x = .slice A m c) (hr : r.length = m * sz) (h1 : ∀ u ∈ r, u.oneCell' = true) (hA : A = none → m = 0 ∧ c = 0) (hsrc : ∀ a, A = some a → ∀ j u, r[j]? = some u → w.cell? (a.add j) = some u) (hle : n + m ≤ 4194304) (hbase : base ≤ w.heap.size)
    (h : ∀ v' w', w'.ownsRow base e sz v' (n + m) (xs ++ r) → w.grownBy w' v.ownBlock → K (a.put o.dst v') w') : o.wp P a w K Q := by
  obtain ⟨v', w', hrun, h2, h3⟩ := run_apG (P := P) w o.type base sz by' zero ht hi hz hs hb hz1 hsz hby v n xs hown A m c r hr h1 hA hsrc hle hbase
  unfold Oper.wp execOp
  simp only [ho, resolve, invoke, builtin, Sem.run_bind, Sem.run_pure, Result.andThen_ok, List.map_toArray, List.map_cons, List.map_nil, hsv, hxv, hrun]
  exact h v' w' h2 h3
theorem wpList_apG (w : World) {ops : Array Oper} {rest : List Oper} {o : Oper} {a : Act} {Q : Exit → Act → World → Prop} (hgd : o.guard = none) (s x : Operand)
    (ho : o.op = .call { callee := .builtin .append, args := #[s, x], argTypes := #[t, t] }) (base sz by' : Nat) (zero : Value) (ht : P.underlying t = some (.slice e)) (hi : P.info? e = some i) (hz : i.zero = some zero) (hs : i.size = sz) (hb : i.bytes = by') (hz1 : zero.cells.size = sz) (hsz : 0 < sz) (hby : by' ≤ 1000)
    (v : Value) (n : Nat) (xs : List Value) (hsv : a.eval s = v) (hown : w.ownsRow base e sz v n xs)
    (A : Option Addr) (m c : Nat) (r : List Value) (hxv : a.eval x = .slice A m c) (hr : r.length = m * sz) (h1 : ∀ u ∈ r, u.oneCell' = true) (hA : A = none → m = 0 ∧ c = 0) (hsrc : ∀ a, A = some a → ∀ j u, r[j]? = some u → w.cell? (a.add j) = some u) (hle : n + m ≤ 4194304) (hbase : base ≤ w.heap.size)
    (h : ∀ v' w', w'.ownsRow base e sz v' (n + m) (xs ++ r) → w.grownBy w' v.ownBlock → wpList P ops Q rest (a.put o.dst v') w') : wpList P ops Q (o :: rest) a w :=
  wpList_plain hgd fun _ hK => wp_apG w s x ho base sz by' zero ht hi hz hs hb hz1 hsz hby v n xs hsv hown A m c r hxv hr h1 hA hsrc hle hbase fun v' w' h2 h3 => hK _ _ (h v' w' h2 h3)
end
theorem cellsMq_app (V U : List MlV) : cellsMq (V ++ U) = cellsMq V ++ cellsMq U := by
  unfold cellsMq; exact List.flatMap_append

set_option maxRecDepth 100000 in
set_option maxHeartbeats 1600000 in
theorem growQ (N : Nat) (hN : N ≤ 4194304) (w : World) : Calls Tryz.prog 189 #[.slice none 0 0, .int .i64 N] w fun e w' => ∃ v, e = .returned v ∧ w'.ownsRow w.heap.size 137 10 v 0 [] ∧ New w w' := by
  obtain ⟨i0, hi, hz0, hz1, hz2⟩ := info_parts Tryz.infoMq
  by_cases h0 : N = 0
  · subst h0
    go_enter Tryz.func189, Tryz.ntmps189
    go_wp2
    go_ret
    exact ⟨_, rfl, ⟨rfl, .inl ⟨rfl, rfl⟩⟩, New.refl _⟩
  · have hr := Lib.run_append_nil_zeros (P := Tryz.prog) w 41 3 41 137 i0 (.agg #[.int .i64 0, .int .i64 0, .int .i64 0, .int .i64 0, .int .i64 0, .bool false, .int .i64 0, .int .i64 0, .int .i64 0, .slice none 0 0]) .i64 .i64 Tryz.underlying41 Tryz.underlying3 hi hz0 N (by omega) (by omega) (by omega) (by rw [hz2]; omega)
    have hge := grownCap_ge w N 0 137
    have hle := grownCap_le_maxLen w N 0 137 (by unfold maxLen; omega)
    go_enter Tryz.func189, Tryz.ntmps189
    go_wp2_with (at_builtin; refine Lib.wpList_append_run _ rfl (.tmp 20) (.tmp 21) 41 3 rfl _ _ rfl rfl _ _ hr ?_)
    generalize hcap : grownCap w N 0 137 = cap at *
    go_wp2
    go_ret
    refine ⟨_, rfl, ⟨rfl, .inr ⟨w.heap.size, cap, _, rfl, Nat.le_refl _, heap_alloc_new _ _, Nat.zero_le _, hle, ?_, by simp⟩⟩, ((New.refl w).drew).alloc _⟩
    simp [Builtin.zeroCells, Value.cells]
    omega
theorem growQz (z : Int) (h0 : 0 ≤ z) (h1 : z ≤ 4194304) (w : World) : Calls Tryz.prog 189 #[.slice none 0 0, .int .i64 z] w fun e w' => ∃ v, e = .returned v ∧ w'.ownsRow w.heap.size 137 10 v 0 [] ∧ New w w' := by
  obtain ⟨N, rfl⟩ : ∃ N : Nat, z = N := ⟨z.toNat, by omega⟩
  exact growQ N (by omega) w

set_option maxRecDepth 100000 in
set_option maxHeartbeats 1600000 in
theorem concatQ (G : Nat) (x y : Option Addr) (n c m d : Nat) (xs ys : List Value) (w : World) (g0 : w.cell? ⟨G, 0, none⟩ = some (.slice x n c)) (g1 : w.cell? ⟨G, 1, none⟩ = some (.slice y m d)) (hx : ∀ X, New w X → ∀ a, x = some a → ∀ j u, xs[j]? = some u → X.cell? (a.add j) = some u) (hy : ∀ X, New w X → ∀ a, y = some a → ∀ j u, ys[j]? = some u → X.cell? (a.add j) = some u) (hn : xs.length = n * 10) (hm : ys.length = m * 10) (ox : ∀ u ∈ xs, u.oneCell' = true) (oy : ∀ u ∈ ys, u.oneCell' = true) (hnx : x = none → n = 0 ∧ c = 0) (hny : y = none → m = 0 ∧ d = 0) (hn1 : n ≤ 1048576) (hm1 : m ≤ 1048576) :
    Calls Tryz.prog 158 #[.slice (some ⟨G, 0, none⟩) 2 2] w fun e w' => ∃ v, e = .returned v ∧ w'.ownsRow w.heap.size 137 10 v (n + m) (xs ++ ys) ∧ New w w' := by
  obtain ⟨i0, hi, hz0, hz1, hz2⟩ := info_parts Tryz.infoMq
  have HX : Hid (∀ X, New w X → ∀ a, x = some a → ∀ j u, xs[j]? = some u → X.cell? (a.add j) = some u) := hx
  have HY : Hid (∀ X, New w X → ∀ a, y = some a → ∀ j u, ys[j]? = some u → X.cell? (a.add j) = some u) := hy
  have HN : Hid (xs.length = n * 10) := hn
  have HM : Hid (ys.length = m * 10) := hm
  have OX : Hid (∀ u ∈ xs, u.oneCell' = true) := ox
  have OY : Hid (∀ u ∈ ys, u.oneCell' = true) := oy
  have HNX : Hid (x = none → n = 0 ∧ c = 0) := hnx
  have HNY : Hid (y = none → m = 0 ∧ d = 0) := hny
  have hG : G < w.heap.size := World.block_lt_of_cell? w _ g0
  clear hx hy hn hm ox oy hnx hny
  go_enter Tryz.func158, Tryz.ntmps158
  go_wp2
  refine wp_loop_rounds 3 ?_
  rw [rounds_succ]
  go_wp2
  rw [rounds_succ]
  go_wp2
  rw [rounds_succ]
  go_wp2_with fail
  refine (growQz _ (by omega) (by omega) _).mono ?_
  rintro e w1 ⟨v1, rfl, ho1, hn1'⟩
  have G0 : w1.cell? ⟨G, 0, none⟩ = some (.slice x n c) := (World.cell?_of_block (hn1'.block G hG (fun f => f))).trans g0
  have G1 : w1.cell? ⟨G, 1, none⟩ = some (.slice y m d) := (World.cell?_of_block (hn1'.block G hG (fun f => f))).trans g1
  have sz1 := hn1'.size
  have lt1 : G < w1.heap.size := by omega
  clear g0 g1
  go_wp2_with fail
  refine wp_loop_rounds 3 ?_
  rw [rounds_succ]
  go_wp2_with (at_builtin; refine wpList_apG _ rfl (.tmp 31) (.tmp 32) rfl w.heap.size 10 96 _ Tryz.underlying41 hi hz0 hz1 hz2 rfl (by omega) (by omega) v1 0 [] rfl ho1 x n c xs rfl HN.out OX.out HNX.out (HX.out _ hn1') (by omega) sz1 ?_)
  intro v2 w2 ho2 hg2
  have N2 : New w w2 := hn1'.grow hg2 (fun k hk => (rng16 ho1 k hk).1)
  have G2 : w2.cell? ⟨G, 1, none⟩ = some (.slice y m d) := (World.cell?_of_block (hg2.block G lt1 (fun e => by have := (rng16 ho1 G e.symm).1; omega))).trans G1
  have sz2 := N2.size
  have lt2 : G < w2.heap.size := by omega
  have ob2 : ∀ k, v2.ownBlock = some k → w.heap.size ≤ k := fun k hk => (rng16 ho2 k hk).1
  clear G0 G1 hg2 ho1
  go_wp2_with fail
  rw [rounds_succ]
  go_wp2_with (at_builtin; refine wpList_apG _ rfl (.tmp 31) (.tmp 32) rfl w.heap.size 10 96 _ Tryz.underlying41 hi hz0 hz1 hz2 rfl (by omega) (by omega) v2 n xs rfl ho2 y m d ys rfl HM.out OY.out HNY.out (HY.out _ N2) (by omega) sz2 ?_)
  intro v3 w3 ho3 hg3
  have N3 : New w w3 := N2.grow hg3 ob2
  go_wp2_with fail
  rw [rounds_succ]
  go_wp2
  go_ret
  exact ⟨v3, rfl, ho3, N3⟩

end Go.Proofs.YtebkdaddndlmoaaGreat

namespace Go.Proofs.YtebkdaddndlmoaaGreat
open Go.ChangeShapes Go.WideShapes Go.ChangeAt Go.RowKit Go.Deep Go.Sort
set_option linter.unusedVariables false
set_option linter.unusedSimpArgs false
set_option maxRecDepth 100000

theorem totNd_alike : ∀ {V U : List NdV}, V.map NdV.r = U.map NdV.r → totNd V = totNd U
  | [], [], _ => rfl
  | [], _ :: _, h => by simp at h
  | _ :: _, [], h => by simp at h
  | v :: V, u :: U, h => by
    simp only [List.map_cons, List.cons.injEq] at h
    have ih := totNd_alike h.2
    have e : v.V.map EkV.r = u.V.map EkV.r := by
      have := h.1
      simp only [NdV.r, Prod.mk.injEq] at this
      exact this.2.2.2.2.2.2.2.2
    have := totK_alike e
    simp only [totNd, NdV.tot, ih, this]
theorem totWi_alike : ∀ {V U : List WiV}, V.map WiV.r = U.map WiV.r → totWi V = totWi U
  | [], [], _ => rfl
  | [], _ :: _, h => by simp at h
  | _ :: _, [], h => by simp at h
  | v :: V, u :: U, h => by
    simp only [List.map_cons, List.cons.injEq] at h
    have ih := totWi_alike h.2
    have e := h.1
    simp only [WiV.r, Prod.mk.injEq] at e
    simp only [totWi, WiV.tot, ih, e.2.2.1, e.2.2.2]
theorem totMq_alike : ∀ {V U : List MlV}, V.map MlV.r = U.map MlV.r → totMq V = totMq U
  | [], [], _ => rfl
  | [], _ :: _, h => by simp at h
  | _ :: _, [], h => by simp at h
  | v :: V, u :: U, h => by
    simp only [List.map_cons, List.cons.injEq] at h
    have ih := totMq_alike h.2
    have e : v.m = u.m := h.1
    simp only [totMq, MlV.tot, ih, e]
theorem PrE.lim {P Q : PrV} (l : PrL P) (h : PrE Q P) : PrL Q := by
  have hN := congrArg List.length h.nd
  have hW := congrArg List.length h.wi
  have hM := congrArg List.length h.mq
  have hS := congrArg List.length h.se
  simp only [List.length_map] at hN hW hM hS
  refine ⟨?_, ?_, ?_, ?_, ?_, ?_, ?_, ?_, ?_, ?_, ?_, ?_, ?_, ?_, ?_, ?_⟩
  · rw [h.r1, h.n1]; exact l.l1
  · rw [h.r2, h.n2]; exact l.l2
  · rw [hN, h.nN]; exact l.lN
  · rw [hW, h.nW]; exact l.lW
  · rw [hM, h.nM]; exact l.lM
  · rw [hS, h.nS]; exact l.lS
  · rw [h.n1]; exact l.m1
  · rw [h.n2]; exact l.m2
  · rw [h.nN]; exact l.mN
  · rw [h.nW]; exact l.mW
  · rw [h.nM]; exact l.mM
  · rw [h.nS]; exact l.mS
  · rw [totNd_alike h.nd]; exact l.tN
  · rw [totWi_alike h.wi]; exact l.tW
  · rw [totMq_alike h.mq]; exact l.tM
  · rw [totK_alike h.se]; exact l.tS
theorem PrE.refl (P : PrV) : PrE P P := ⟨rfl, rfl, rfl, rfl, rfl, rfl, rfl, rfl, rfl, rfl, rfl, rfl, rfl, rfl, rfl, rfl⟩
theorem owl_fit {w : World} {lo hi n c : Nat} {A : Option Addr} {V : List EkV} (h : OwL w lo hi (.slice A n c) V) : FitK A n c := by
  obtain ⟨A', c', e, -, h2⟩ := h.form
  simp only [Value.slice.injEq] at e
  obtain ⟨rfl, rfl, rfl⟩ := e
  rcases h2 with ⟨h3, h4, h5⟩ | ⟨g, h3, h4, -⟩
  · subst h4 h5; exact ⟨by simp, .inl ⟨h3, rfl, rfl⟩⟩
  · exact ⟨h4, .inr ⟨g, h3⟩⟩
/-- What PairFault's contracts ask of a pair. -/
theorem PrOw.pat {w : World} {b0 b1 : Nat} {col : Nat → Nat} {P : PrV} (h : PrOw w b0 b1 col P) (l : PrL P) (hN : ∃ g, P.aN = some ⟨g, 0, none⟩) (hc : P.cN = P.nN) (hW : SomW P.VW) : PAt w P.a1 P.a2 P.aN P.aW P.aM P.aS P.r1 P.r2 P.VN P.VW P.VM P.VS := by
  have hr := h.rd
  have hn := h.nl
  refine ⟨hr.s1, hr.s2, hr.nd, hr.wi, hr.mq, hr.se, ?_, ?_, ?_, hn.2, hn.1⟩
  · rcases h.oN with ⟨e, -⟩ | ⟨g, A, B, e, k⟩
    · obtain ⟨g, e'⟩ := hN; rw [e] at e'; cases e'
    · refine ⟨g, e, ?_⟩
      have := k.row
      rw [hc, ← l.lN] at this
      exact this
  · intro v hv
    rcases h.oN with ⟨-, -, -, e⟩ | ⟨g, A, B, -, k⟩
    · rw [e] at hv; cases hv
    · obtain ⟨i, hi⟩ := List.getElem?_of_mem hv
      exact owl_fit (k.own i v hi)
  · intro v hv
    obtain ⟨h1, h2, h3, h4⟩ := hW v hv
    exact ⟨⟨h3, .inr h1⟩, ⟨h4, .inr h2⟩⟩
theorem SomW.nl {V : List WiV} (h : SomW V) : ∀ v ∈ V, (v.a = none → v.xs.length = 0 ∧ v.c = 0) ∧ (v.b = none → v.ys.length = 0 ∧ v.d = 0) := by
  intro v hv
  obtain ⟨⟨g, e1⟩, ⟨g', e2⟩, -⟩ := h v hv
  exact ⟨fun e => (by rw [e] at e1; cases e1), fun e => (by rw [e] at e2; cases e2)⟩
theorem SomM.nl {V : List MlV} (h : SomM V) : ∀ v ∈ V, v.a = none → v.m.e.xs.length = 0 ∧ v.c = 0 := by
  intro v hv e
  obtain ⟨g, e1⟩ := h v hv
  rw [e] at e1; cases e1

/-- A pair without its mail k. -/
def PrV.drop (P : PrV) (k : Nat) (a : Option Addr) (c : Nat) : PrV := { P with aM := a, nM := P.nM - 1, cM := c, VM := P.VM.take k ++ P.VM.drop (k + 1) }
theorem drop_get (V : List MlV) (k i : Nat) : (V.take k ++ V.drop (k + 1))[i]? = V[if i < k then i else i + 1]? := by
  rw [← List.eraseIdx_eq_take_drop_succ, List.getElem?_eraseIdx]
  split <;> rfl
theorem drop_len {V : List MlV} {k : Nat} (hk : k < V.length) : (V.take k ++ V.drop (k + 1)).length = V.length - 1 := by
  rw [← List.eraseIdx_eq_take_drop_succ, List.length_eraseIdx]
  simp [hk]
theorem PrE.drop {P Q : PrV} (h : PrE Q P) (k : Nat) (a a' : Option Addr) (c c' : Nat) : PrE (Q.drop k a c) (P.drop k a' c') := by
  refine ⟨h.sa, h.si, h.ho, h.nx, h.n1, h.n2, h.nN, h.nW, ?_, h.nS, h.r1, h.r2, h.nd, h.wi, ?_, h.se⟩
  · show Q.nM - 1 = P.nM - 1
    rw [h.nM]
  · show (Q.VM.take k ++ Q.VM.drop (k + 1)).map MlV.r = (P.VM.take k ++ P.VM.drop (k + 1)).map MlV.r
    rw [List.map_append, List.map_append, List.map_take, List.map_take, List.map_drop, List.map_drop, h.mq]
theorem totMq_app (V U : List MlV) : totMq (V ++ U) = totMq V + totMq U := by
  induction V with
  | nil => simp [totMq]
  | cons v V ih => simp [totMq, ih, Nat.add_assoc]
theorem totMq_cut (V : List MlV) (k : Nat) : totMq (V.take k ++ V.drop (k + 1)) ≤ totMq V := by
  have h1 := totMq_app (V.take k) (V.drop k)
  rw [List.take_append_drop] at h1
  have h2 : totMq (V.drop (k + 1)) ≤ totMq (V.drop k) := by
    rw [show V.drop (k + 1) = (V.drop k).drop 1 by rw [List.drop_drop]]
    cases V.drop k with
    | nil => exact Nat.le_refl _
    | cons v U => simp [totMq]
  rw [totMq_app, h1]; omega
theorem PrL.drop {P : PrV} (l : PrL P) {k : Nat} (hk : k < P.nM) (a : Option Addr) (c : Nat) : PrL (P.drop k a c) := by
  have h1 := l.lM
  have h2 := l.mM
  refine ⟨l.l1, l.l2, l.lN, l.lW, ?_, l.lS, l.m1, l.m2, l.mN, l.mW, ?_, l.mS, l.tN, l.tW, Nat.le_trans (totMq_cut _ _) l.tM, l.tS⟩
  · show (P.VM.take k ++ P.VM.drop (k + 1)).length = P.nM - 1
    rw [drop_len (by omega), h1]
  · show P.nM - 1 ≤ 1048576
    omega
theorem OwQ1.cut {w w' : World} {F G : Nat → Prop} {g n c g' n' c' : Nat} {U : List MlV} (h : OwQ1 w F g n c U) (k : Nat) (t : New w w') (hr : w'.ownsRow 0 137 10 (.slice (some ⟨g', 0, none⟩) n' c') n' (cellsMq (U.take k ++ U.drop (k + 1)))) (hg : G g') (hF : ∀ x, F x → G x ∧ ¬ x = g') : OwQ1 w' G g' n' c' (U.take k ++ U.drop (k + 1)) := by
  have h1 := h.new t
  have mem : ∀ u, u ∈ U.take k ++ U.drop (k + 1) → u ∈ U := by
    intro u hu
    rcases List.mem_append.1 hu with e | e
    · exact List.mem_of_mem_take e
    · exact List.mem_of_mem_drop e
  refine ⟨hr, fun i u hu => ?_, fun u hu => h.len u (mem u hu), fun u hu x hx => hF _ (h.inn u (mem u hu) x hx).1, hg, ?_⟩
  · rw [drop_get] at hu
    exact h1.own _ u hu
  · intro i j u v x y hi hj hne hx hy
    rw [drop_get] at hi hj
    refine h.apart _ _ u v x y hi hj ?_ hx hy
    intro e
    split at e <;> split at e <;> omega
/-- The pair without a mail, in a row that is new. -/
theorem PrOw.cut {w w1 : World} {b0 b1 : Nat} {col : Nat → Nat} {P : PrV} (h : PrOw w b0 b1 col P) (t : New w w1) (hb : b1 ≤ w.heap.size) {k : Nat} (hk : k < P.nM) (hl : P.VM.length = P.nM) {a : Option Addr} {c : Nat} (hr : w1.ownsRow w.heap.size 137 10 (.slice a (P.nM - 1) c) (P.nM - 1) (cellsMq (P.VM.take k ++ P.VM.drop (k + 1)))) : ∃ col', PrOw w1 b0 w1.heap.size col' (P.drop k a c) := by
  have hs := t.size
  have hc : ∀ i x, Cl col b0 b1 i x → Cl (fun x => if w.heap.size ≤ x then 3 else col x) b0 w1.heap.size i x := by
    intro i x hx
    have h1 := hx.2.2
    have h2 : ¬ w.heap.size ≤ x := by omega
    exact ⟨by simp [h2, hx.1], hx.2.1, by omega⟩
  obtain ⟨lo, hi, hS, hcS⟩ := (h.new t).oS
  have h' := h.new t
  refine ⟨fun x => if w.heap.size ≤ x then 3 else col x, h'.o1, h'.o2, fun j hj => hc _ _ (h.k1 j hj), fun j hj => hc _ _ (h.k2 j hj), h'.oN.mono (fun x => hc _ x), h'.oW.mono (fun x => hc _ x), ?_, ⟨lo, hi, hS, fun x h1 h2 => hc _ _ (hcS x h1 h2)⟩, h.bW, ?_⟩
  · rcases h.oQ with ⟨-, e, -⟩ | ⟨g, e, q⟩
    · omega
    · rcases hr.2 with ⟨e2, h0⟩ | ⟨g', c', cur, e2, hb', hg', h1⟩
      · simp only [Value.slice.injEq] at e2
        obtain ⟨rfl, h3, rfl⟩ := e2
        refine .inl ⟨rfl, h3, rfl, ?_⟩
        have h4 := hr.1
        rw [cellsMq_len] at h4
        exact List.eq_nil_of_length_eq_zero (by show (P.VM.take k ++ P.VM.drop (k + 1)).length = 0; omega)
      · simp only [Value.slice.injEq] at e2
        obtain ⟨rfl, -, rfl⟩ := e2
        have hlt : g' < w1.heap.size := (Array.getElem?_eq_some_iff.1 hg').1
        refine .inr ⟨g', rfl, q.cut k t (own_base hr) ?_ ?_⟩
        · exact ⟨by simp [hb'], by have := q.glo.2; omega, hlt⟩
        · intro x hx
          exact ⟨hc _ _ hx, by have := hx.2.2; omega⟩
  · intro u hu
    refine h.bM u ?_
    rcases List.mem_append.1 hu with e | e
    · exact List.mem_of_mem_take e
    · exact List.mem_of_mem_drop e
theorem PrOw.up {w : World} {b0 b1 b2 : Nat} {col : Nat → Nat} {P : PrV} (h : PrOw w b0 b1 col P) (hb : b1 ≤ b2) : PrOw w b0 b2 col P := by
  obtain ⟨lo, hi, hS, hcS⟩ := h.oS
  have hc : ∀ i x, Cl col b0 b1 i x → Cl col b0 b2 i x := fun i x hx => ⟨hx.1, hx.2.1, Nat.lt_of_lt_of_le hx.2.2 hb⟩
  exact ⟨h.o1, h.o2, fun j hj => hc _ _ (h.k1 j hj), fun j hj => hc _ _ (h.k2 j hj), h.oN.mono (hc _), h.oW.mono (hc _), h.oQ.mono (hc _), ⟨lo, hi, hS, fun x h1 h2 => hc _ _ (hcS x h1 h2)⟩, h.bW, h.bM⟩
/-- The pair with nothing. -/
def zPr : PrV := ⟨0, 0, 0, 0, none, 0, 0, none, 0, 0, none, 0, 0, none, 0, 0, none, 0, 0, none, 0, 0, [], [], [], [], [], []⟩
theorem zPr_ow (w : World) (b0 b1 : Nat) (col : Nat → Nat) : PrOw w b0 b1 col zPr := by
  refine ⟨⟨rfl, .inl ⟨rfl, rfl⟩⟩, ⟨rfl, .inl ⟨rfl, rfl⟩⟩, fun j hj => by simp [Value.ownBlock, zPr] at hj, fun j hj => by simp [Value.ownBlock, zPr] at hj, .inl ⟨rfl, rfl, rfl, rfl⟩, .inl ⟨rfl, rfl, rfl, rfl⟩, .inl ⟨rfl, rfl, rfl, rfl⟩, ⟨0, 0, OwL.nil _ _ _, fun x _ h => by omega⟩, (fun u hu => by cases hu), (fun u hu => by cases hu)⟩
theorem zPr_l : PrL zPr := ⟨rfl, rfl, rfl, rfl, rfl, rfl, by decide, by decide, by decide, by decide, by decide, by decide, by decide, by decide, by decide, by decide⟩

end Go.Proofs.YtebkdaddndlmoaaGreat
