/- What is proved here: a pair with another wire, and what wire, rewire and say do: what a peer says is put into its wire. -/
import Derived.Test.YtebkdaddndlmoaaGreatLS29
import Derived.Test.YtebkdaddndlmoaaGreatLS30
import Derived.Test.YtebkdaddndlmoaaGreatLS25
namespace Go.Proofs.YtebkdaddndlmoaaGreat
open Go.ChangeShapes Go.WideShapes Go.ChangeAt Go.RowKit Go.Deep Go.Sort
set_option linter.unusedVariables false
set_option linter.unusedSimpArgs false
set_option maxRecDepth 100000


def PrV.setW (P : PrV) (k : Nat) (v : WiV) : PrV := { P with VW := P.VW.set k v }
/-- The wire of an answer. -/
def wiOf (A : Wr) : WiV := ⟨A.E, A.T, none, none, 0, 0, A.Z, A.Y⟩
theorem PrE.setW {P Q : PrV} (h : PrE Q P) {k : Nat} {v u : WiV} (e : v.r = u.r) : PrE (Q.setW k v) (P.setW k u) :=
  ⟨h.sa, h.si, h.ho, h.nx, h.n1, h.n2, h.nN, h.nW, h.nM, h.nS, h.r1, h.r2, h.nd, by show (Q.VW.set k v).map WiV.r = (P.VW.set k u).map WiV.r; rw [List.map_set, List.map_set, h.wi, e], h.mq, h.se⟩
theorem cellsWi_set4 : ∀ (U : List WiV) (k : Nat) (v : WiV), k < U.length → ((((cellsWi U).set (k * 4) (.int .i64 v.E)).set (k * 4 + 1) (.slice v.a v.xs.length v.c)).set (k * 4 + 2) (.int .i64 v.T)).set (k * 4 + 3) (.slice v.b v.ys.length v.d) = cellsWi (U.set k v)
  | [], k, v, h => by simp at h
  | q :: U, 0, v, h => by simp [cellsWi, WiV.cs]
  | q :: U, k + 1, v, h => by
    have ih := cellsWi_set4 U k v (by simpa using h)
    have e2 : ∀ (q : WiV) (U : List WiV), cellsWi (q :: U) = .int .i64 q.E :: .slice q.a q.xs.length q.c :: .int .i64 q.T :: .slice q.b q.ys.length q.d :: cellsWi U := fun _ _ => rfl
    rw [show (k + 1) * 4 = k * 4 + 4 by omega, e2, show (q :: U).set (k + 1) v = q :: U.set k v from rfl, e2, ← ih]
    simp only [Nat.add_assoc, Nat.reduceAdd, List.set_cons_succ]
theorem OwW1.setW {w w' : World} {F G : Nat → Prop} {g n c k : Nat} {U : List WiV} {v : WiV} (h : OwW1 w F g n c U) (hr : w'.ownsRow 0 79 4 (.slice (some ⟨g, 0, none⟩) n c) n (cellsWi (U.set k v))) (t : Turn (fun x => x = g) w w') (hv : OwAt w' v.a v.xs.length v.c v.xs ∧ OwAt w' v.b v.ys.length v.d v.ys) (hl : v.xs.length ≤ 1048576 ∧ v.ys.length ≤ 1048576) (hF : ∀ x, F x → G x) (hN : ∀ x, (v.a = some x ∨ v.b = some x) → G x.block ∧ ¬ F x.block) (hs : ∀ x y, v.a = some x → v.b = some y → ¬ x.block = y.block) : OwW1 w' G g n c (U.set k v) := by
  have G1 : ∀ (i : Nat) (u : WiV), (U.set k v)[i]? = some u → (i = k ∧ u = v) ∨ (¬ i = k ∧ U[i]? = some u) := by
    intro i u hu
    by_cases hik : i = k
    · subst hik
      have h1 := (List.getElem?_eq_some_iff.1 hu).1
      rw [List.length_set] at h1
      rw [List.getElem?_set_self h1] at hu
      exact .inl ⟨rfl, (Option.some.inj hu).symm⟩
    · rw [List.getElem?_set_ne (by omega)] at hu
      exact .inr ⟨hik, hu⟩
  have hin : ∀ u ∈ U, ∀ x, (u.a = some x ∨ u.b = some x) → F x.block ∧ ¬ x.block = g := h.inn
  have hvg : ∀ x, (v.a = some x ∨ v.b = some x) → ¬ x.block = g := fun x hx e => (hN x hx).2 (e ▸ h.glo)
  refine ⟨hr, ?_, ?_, ?_, hF g h.glo, ?_, ?_⟩
  · intro i u hu
    rcases G1 i u hu with ⟨-, rfl⟩ | ⟨-, hu⟩
    · exact hv
    · have hm := List.mem_of_getElem? hu
      exact ⟨(h.own i u hu).1.turn t (fun x hx => (hin u hm x (.inl hx)).2), (h.own i u hu).2.turn t (fun x hx => (hin u hm x (.inr hx)).2)⟩
  · intro u hu
    rcases List.mem_or_eq_of_mem_set hu with hu | rfl
    · exact h.len u hu
    · exact hl
  · intro u hu x hx
    rcases List.mem_or_eq_of_mem_set hu with hu | rfl
    · exact ⟨hF _ (hin u hu x hx).1, (hin u hu x hx).2⟩
    · exact ⟨(hN x hx).1, hvg x hx⟩
  · intro u hu
    rcases List.mem_or_eq_of_mem_set hu with hu | rfl
    · exact h.self u hu
    · exact hs
  · intro i j u u' x y hi hj hij hx hy
    rcases G1 i u hi with ⟨h1, e1⟩ | ⟨h1, hi'⟩ <;> rcases G1 j u' hj with ⟨h2, e2⟩ | ⟨h2, hj'⟩
    · omega
    · intro e
      subst e1
      exact (hN x hx).2 (e.symm ▸ (hin u' (List.mem_of_getElem? hj') y hy).1)
    · intro e
      subst e2
      exact (hN y hy).2 (e ▸ (hin u (List.mem_of_getElem? hi') x hx).1)
    · exact h.apart i j u u' x y hi' hj' hij hx hy
/-- The pair with another wire k, whose bytes lie apart from it. -/
theorem PrOw.setW {w w' : World} {b0 b1 b0' b2 k g : Nat} {col : Nat → Nat} {P : PrV} {v : WiV} (h : PrOw w b0 b1 col P) (ha : P.aW = some ⟨g, 0, none⟩) (t : Turn (fun x => x = g) w w') (hr : w'.ownsRow 0 79 4 (.slice (some ⟨g, 0, none⟩) P.nW P.cW) P.nW (cellsWi (P.VW.set k v))) (hv : OwAt w' v.a v.xs.length v.c v.xs ∧ OwAt w' v.b v.ys.length v.d v.ys) (hl : v.xs.length ≤ 1048576 ∧ v.ys.length ≤ 1048576) (hby : (∀ z ∈ v.xs, By z) ∧ ∀ z ∈ v.ys, By z) (hs : ∀ x y, v.a = some x → v.b = some y → ¬ x.block = y.block) (hN : ∀ x, (v.a = some x ∨ v.b = some x) → ¬ (b0 ≤ x.block ∧ x.block < b1) ∧ b0' ≤ x.block ∧ x.block < b2) (h00 : b0' ≤ b0) (h12 : b1 ≤ b2) : ∃ col', PrOw w' b0' b2 col' (P.setW k v) ∧ ∀ x, ¬ (b0 ≤ x ∧ x < b1) → (∀ y, (v.a = some y ∨ v.b = some y) → ¬ y.block = x) → col' x = 0 := by
  obtain ⟨g', e, k1⟩ : ∃ g', P.aW = some ⟨g', 0, none⟩ ∧ OwW1 w (Cl col b0 b1 2) g' P.nW P.cW P.VW := by
    rcases h.oW with ⟨e, -⟩ | h'
    · rw [e] at ha; cases ha
    · exact h'
  obtain rfl : g' = g := by rw [e] at ha; simpa using ha
  have hg := k1.glo
  have hcol : ∃ col' : Nat → Nat, (∀ x, (b0 ≤ x ∧ x < b1) → col' x = col x) ∧ (∀ x, (v.a = some x ∨ v.b = some x) → col' x.block = 2) ∧ ∀ x, ¬ (b0 ≤ x ∧ x < b1) → (∀ y, (v.a = some y ∨ v.b = some y) → ¬ y.block = x) → col' x = 0 := by
    classical
    refine ⟨fun x => if b0 ≤ x ∧ x < b1 then col x else if (∃ y, (v.a = some y ∨ v.b = some y) ∧ y.block = x) then 2 else 0, ?_, ?_, ?_⟩
    · intro x hx; simp only [if_pos hx]
    · intro x hx; simp only [if_neg (hN x hx).1]; rw [if_pos ⟨x, hx, rfl⟩]
    · intro x hx hy
      have n2 : ¬ ∃ y, (v.a = some y ∨ v.b = some y) ∧ y.block = x := by rintro ⟨y, h1, h2⟩; exact hy y h1 h2
      simp only [if_neg hx, if_neg n2]
  obtain ⟨col', hc1, hc2, hc3⟩ := hcol
  refine ⟨col', ?_, hc3⟩
  have H : ∀ i x, Cl col b0 b1 i x → Cl col' b0' b2 i x := fun i x hx => ⟨(hc1 x hx.2).trans hx.1, Nat.le_trans h00 hx.2.1, by have := hx.2.2; omega⟩
  have N : ∀ i x, ¬ i = 2 → Cl col b0 b1 i x → ¬ x = g' := by
    rintro i x hi hx rfl
    exact hi (hx.1.symm.trans hg.1)
  obtain ⟨lo', hi', hS, hcS⟩ := h.oS
  refine ⟨own_low (h.o1.turn t (fun j hj => N 5 j (by decide) (h.k1 j hj))) h00, own_low (h.o2.turn t (fun j hj => N 6 j (by decide) (h.k2 j hj))) h00, fun j hj => H 5 _ (h.k1 j hj), fun j hj => H 6 _ (h.k2 j hj), (h.oN.turn t (fun x hx => N 1 x (by decide) hx)).mono (H 1), .inr ⟨g', e, ?_⟩, (h.oQ.turn t (fun x hx => N 3 x (by decide) hx)).mono (H 3), ⟨lo', hi', hS.turn t (fun x a b => N 4 x (by decide) (hcS x a b)), fun x a b => H 4 _ (hcS x a b)⟩, ?_, h.bM⟩
  · exact k1.setW hr t hv hl (H 2) (fun x hx => ⟨⟨hc2 x hx, (hN x hx).2⟩, fun hF => (hN x hx).1 hF.2⟩) hs
  · intro u hu
    rcases List.mem_or_eq_of_mem_set hu with hu | rfl
    · exact h.bW u hu
    · exact hby
theorem totWi_set : ∀ (V : List WiV) (k : Nat) (v : WiV), totWi (V.set k v) ≤ totWi V + v.tot + 1
  | [], k, v => by simp [totWi]
  | u :: V, 0, v => by simp only [List.set_cons_zero, totWi]; omega
  | u :: V, k + 1, v => by have := totWi_set V k v; simp only [List.set_cons_succ, totWi]; omega
theorem wF_len {E T : Int} {n m : Nat} (h : wF E T n m = 0) : n ≤ 2000 ∧ m ≤ 2000 := by
  unfold wF at h
  repeat (first | omega | split at h)
theorem totWi_2000 : ∀ {V : List WiV}, (∀ v ∈ V, v.xs.length ≤ 2000 ∧ v.ys.length ≤ 2000) → totWi V ≤ 4001 * V.length
  | [], _ => by simp [totWi]
  | v :: V, h => by
    have h1 := totWi_2000 (fun u hu => h u (List.mem_cons_of_mem _ hu))
    have h2 := h v (List.mem_cons_self ..)
    simp only [totWi, WiV.tot, List.length_cons]; omega
theorem prBW {P : PrV} (h : pF P.sa P.si P.ho P.nx P.r1 P.r2 (P.VN.map NdV.r) (P.VW.map WiV.r) (P.VM.map MlV.r) (P.VS.map EkV.r) = 0) : ∀ v ∈ P.VW, wF v.E v.T v.xs.length v.ys.length = 0 := by
  unfold pF at h
  have h1 := (q1_zero h).2
  split at h1
  · omega
  · have h3 := (q1_zero (q1_zero h1).2).1
    intro v hv
    exact ffF_all h3 v.r (List.mem_map_of_mem hv)
theorem PrL.setW {P : PrV} (l : PrL P) (h : totWi P.VW ≤ 1000000) {k : Nat} {v : WiV} (hv : v.tot ≤ 1000000) : PrL (P.setW k v) := by
  have h1 := totWi_set P.VW k v
  exact ⟨l.l1, l.l2, l.lN, by show (P.VW.set k v).length = P.nW; rw [List.length_set]; exact l.lW, l.lM, l.lS, l.m1, l.m2, l.mN, l.mW, l.mM, l.mS, l.tN, by show totWi (P.VW.set k v) ≤ 2097152; omega, l.tM, l.tS⟩
theorem psA_ok {E T : Int} {zs ys us : List Int} (h : (psA E T zs ys us).z = 0) : wF E T zs.length ys.length = 0 ∧ psA E T zs ys us = ⟨0, E, T, [], zs ++ us, ys⟩ ∧ zs.length + us.length ≤ 2000 := by
  unfold psA at h ⊢
  split at h
  · rename_i h1
    split at h
    · simp [Wr.bad] at h
    · rename_i h2
      exact ⟨h1, by rw [if_pos h1, if_neg h2], by omega⟩
  · rename_i h1
    simp [Wr.bad] at h
    exact absurd h h1
/-- A wire of a pair of the call's own, as it lies. -/
theorem PrOw.wire {w : World} {b0 b1 k : Nat} {col : Nat → Nat} {P : PrV} {v : WiV} (h : PrOw w b0 b1 col P) (hv : P.VW[k]? = some v) (hl : P.VW.length = P.nW) : ∃ g, P.aW = some ⟨g, 0, none⟩ ∧ (∀ j, j < 4 → w.cell? ⟨g, k * 4 + j, none⟩ = v.cs[j]?) ∧ BsAt w v.a v.xs ∧ BsAt w v.b v.ys ∧ v.xs.length ≤ 1048576 ∧ v.ys.length ≤ 1048576 := by
  have hk := (List.getElem?_eq_some_iff.1 hv).1
  have hb := h.bW v (List.mem_of_getElem? hv)
  rcases h.oW with ⟨-, -, -, e⟩ | ⟨g, e, q⟩
  · rw [e] at hk; simp at hk
  · refine ⟨g, e, fun j hj => ?_, (q.own k v hv).1.bs hb.1, (q.own k v hv).2.bs hb.2, (q.len v (List.mem_of_getElem? hv)).1, (q.len v (List.mem_of_getElem? hv)).2⟩
    rw [World.ownsRow.cellAt q.row (k * 4 + j) (by omega)]
    exact cellsWi_get _ k v hv j hj
def SwO (P : PrV) (k : Nat) (A : Wr) (z : Int) (R : PrV) : Prop := (¬ A.z = 0 ∧ z = A.z) ∨ (A.z = 0 ∧ z = 0 ∧ PrE R (P.setW k (wiOf A)))
theorem SomW.at {V : List WiV} {k : Nat} {v : WiV} (h : SomW V) (hv : V[k]? = some v) : (v.a = none → v.xs.length = 0 ∧ v.c = 0) ∧ (v.b = none → v.ys.length = 0 ∧ v.d = 0) := h.nl v (List.mem_of_getElem? hv)

set_option maxHeartbeats 3200000 in
theorem wire16 (B g k : Nat) (P : PrV) (v : WiV) (nd az ct : Int) (ke : Bool) (dA : Option Addr) (dn dc : Nat) (ek ep : Int) (eA : Option Addr) (en ec : Nat) (yA : Option Addr) (yn yc : Nat) (w : World) (hb : Blk w B 91 (pcCs P nd (k : Int) az ct ke dA dn dc ek ep eA en ec yA yn yc)) (ha : P.aW = some ⟨g, 0, none⟩) (hv : ∀ j, j < 4 → w.cell? ⟨g, k * 4 + j, none⟩ = v.cs[j]?) (hk : k < P.nW) :
    Calls Tryz.prog 108 #[.pointer (some ⟨B, 0, none⟩)] w fun e w' => e = .returned (.agg #[.int .i64 v.E, .slice v.a v.xs.length v.c, .int .i64 v.T, .slice v.b v.ys.length v.d]) ∧ New w w' := by
  have hw := (New.refl w).alloc (.cells #[.int .i64 0, .slice none 0 0, .int .i64 0, .slice none 0 0] 79)
  have b1 := Blk.mk w w.heap.size 79 #[.int .i64 0, .slice none 0 0, .int .i64 0, .slice none 0 0] rfl
  have HB : Hid (∀ X, New w X → X.cell? ⟨B, 7, none⟩ = some (.slice (some ⟨g, 0, none⟩) P.nW P.cW)) := fun X hX => by
    have h1 := (hb.new hX).cells 7
    rw [h1, ← ha]; rfl
  have HN : Hid (∀ X, New w X → X.cell? ⟨B, 11, none⟩ = some (.int .i64 (k : Int))) := fun X hX => (hb.new hX).cells 11
  have HC0 : Hid (∀ X, New w X → X.cell? ⟨g, k * 4, none⟩ = some (.int .i64 v.E)) := fun X hX => by
    have h0 : w.cell? ⟨g, k * 4, none⟩ = some (.int .i64 v.E) := hv 0 (by omega)
    exact (World.cell?_of_block (hX.block g (World.block_lt_of_cell? w _ h0) (fun f => f))).trans h0
  have HC1 : Hid (∀ X, New w X → X.cell? ⟨g, k * 4 + 1, none⟩ = some (.slice v.a v.xs.length v.c)) := fun X hX => by
    have h0 : w.cell? ⟨g, k * 4 + 1, none⟩ = some (.slice v.a v.xs.length v.c) := hv 1 (by omega)
    exact (World.cell?_of_block (hX.block g (World.block_lt_of_cell? w _ h0) (fun f => f))).trans h0
  have HC2 : Hid (∀ X, New w X → X.cell? ⟨g, k * 4 + 2, none⟩ = some (.int .i64 v.T)) := fun X hX => by
    have h0 : w.cell? ⟨g, k * 4 + 2, none⟩ = some (.int .i64 v.T) := hv 2 (by omega)
    exact (World.cell?_of_block (hX.block g (World.block_lt_of_cell? w _ h0) (fun f => f))).trans h0
  have HC3 : Hid (∀ X, New w X → X.cell? ⟨g, k * 4 + 3, none⟩ = some (.slice v.b v.ys.length v.d)) := fun X hX => by
    have h0 : w.cell? ⟨g, k * 4 + 3, none⟩ = some (.slice v.b v.ys.length v.d) := hv 3 (by omega)
    exact (World.cell?_of_block (hX.block g (World.block_lt_of_cell? w _ h0) (fun f => f))).trans h0
  have hki : (k : Int) < (P.nW : Int) := by omega
  have hk0 : (0 : Int) ≤ (k : Int) := by omega
  clear hb ha hv
  go_enter Tryz.func108, Tryz.ntmps108
  go_upto_region 1 with fail
  generalize w.alloc (.cells #[.int .i64 0, .slice none 0 0, .int .i64 0, .slice none 0 0] 79) = w0 at *
  refine hw_start (n := 12) (S := fun X => New w X) rfl (by kernel_rfl) (hw.trans (New.refl w0).drew) (fun hH => ?_)
  have nv0 : New w w0.drew := hw.trans (New.refl w0).drew
  have b1v := b1.new ((New.refl w0).drew)
  generalize w0.drew = v0 at *
  refine' hw_take 0 (some 3) _ rfl rfl (by kernel_rfl) (by kernel_rfl) (by kernel_rfl) (fun _ _ _ h => h) (by rfl) nv0 ?hy1 ?rest1
  case hy1 =>
    intro X hX
    go_simp
    try rfl
  simp only [Act.put, List.setIfInBounds_toArray, List.set_cons_zero, List.set_cons_succ]
  refine' hw_take 1 (some 4) _ rfl rfl (by kernel_rfl) (by kernel_rfl) (by kernel_rfl) (fun _ _ _ h => h) (by rfl) nv0 ?hy2 ?rest2
  case hy2 =>
    intro X hX
    go_simp
    try rfl
  simp only [Act.put, List.setIfInBounds_toArray, List.set_cons_zero, List.set_cons_succ]
  refine' hw_take 2 (some 5) _ rfl rfl (by kernel_rfl) (by kernel_rfl) (by kernel_rfl) (fun _ _ _ h => h) (by rfl) nv0 ?hy3 ?rest3
  case hy3 =>
    intro X hX
    go_simp
    try rfl
  simp only [Act.put, List.setIfInBounds_toArray, List.set_cons_zero, List.set_cons_succ]
  refine' hw_take 3 (some 6) _ rfl rfl (by kernel_rfl) (by kernel_rfl) (by kernel_rfl) (fun _ _ _ h => h) (by rfl) nv0 ?hy4 ?rest4
  case hy4 =>
    intro X hX
    go_simp
    try rfl
  simp only [Act.put, List.setIfInBounds_toArray, List.set_cons_zero, List.set_cons_succ]
  refine' hw_take 4 (some 7) _ rfl rfl (by kernel_rfl) (by kernel_rfl) (by kernel_rfl) (fun _ _ _ h => h) (by rfl) nv0 ?hy5 ?rest5
  case hy5 =>
    intro X hX
    have g7 := HB.out X hX
    go_simp
    try rfl
  simp only [Act.put, List.setIfInBounds_toArray, List.set_cons_zero, List.set_cons_succ]
  refine' hw_take 5 (some 8) _ rfl rfl (by kernel_rfl) (by kernel_rfl) (by kernel_rfl) (fun _ _ _ h => h) (by rfl) nv0 ?hy6 ?rest6
  case hy6 =>
    intro X hX
    go_simp
    try rfl
  simp only [Act.put, List.setIfInBounds_toArray, List.set_cons_zero, List.set_cons_succ]
  refine' hw_take 6 (some 9) _ rfl rfl (by kernel_rfl) (by kernel_rfl) (by kernel_rfl) (fun _ _ _ h => h) (by rfl) nv0 ?hy7 ?rest7
  case hy7 =>
    intro X hX
    go_simp
    try rfl
  simp only [Act.put, List.setIfInBounds_toArray, List.set_cons_zero, List.set_cons_succ]
  refine' hw_take 7 (some 10) _ rfl rfl (by kernel_rfl) (by kernel_rfl) (by kernel_rfl) (fun _ _ _ h => h) (by rfl) nv0 ?hy8 ?rest8
  case hy8 =>
    intro X hX
    go_simp
    try rfl
  simp only [Act.put, List.setIfInBounds_toArray, List.set_cons_zero, List.set_cons_succ]
  refine' hw_take 8 (some 11) _ rfl rfl (by kernel_rfl) (by kernel_rfl) (by kernel_rfl) (fun _ _ _ h => h) (by rfl) nv0 ?hy9 ?rest9
  case hy9 =>
    intro X hX
    have g11 := HN.out X hX
    go_simp
    try rfl
  simp only [Act.put, List.setIfInBounds_toArray, List.set_cons_zero, List.set_cons_succ]
  refine' hw_take 9 (some 12) _ rfl rfl (by kernel_rfl) (by kernel_rfl) (by kernel_rfl) (fun _ _ _ h => h) (by rfl) nv0 ?hy10 ?rest10
  case hy10 =>
    intro X hX
    go_simp
    try rfl
  simp only [Act.put, List.setIfInBounds_toArray, List.set_cons_zero, List.set_cons_succ]
  refine' hw_take 10 (some 13) _ rfl rfl (by kernel_rfl) (by kernel_rfl) (by kernel_rfl) (fun _ _ _ h => h) (by rfl) nv0 ?hy11 ?rest11
  case hy11 =>
    intro X hX
    have q0 := HC0.out X hX
    have q1 := HC1.out X hX
    have q2 := HC2.out X hX
    have q3 := HC3.out X hX
    go_simp
    try rfl
  simp only [Act.put, List.setIfInBounds_toArray, List.set_cons_zero, List.set_cons_succ]
  refine hw_call 11 none rfl rfl (by kernel_rfl) (by rfl) (fun K hK => ?_)
  have c1 := b1v.cells
  have f1 := b1v.frees
  go_simp
  have tt := ((((Turn.refl (fun x => x = w.heap.size) v0).set (p := ⟨w.heap.size, 0, none⟩) rfl (.int .i64 v.E)).set (p := ⟨w.heap.size, 1, none⟩) rfl (.slice v.a v.xs.length v.c)).set (p := ⟨w.heap.size, 2, none⟩) rfl (.int .i64 v.T)).set (p := ⟨w.heap.size, 3, none⟩) rfl (.slice v.b v.ys.length v.d)
  refine hK.out undef _ (nv0.before tt (fun i hi e => by omega)) (fun _ => ?_)
  try simp only [Act.put, List.setIfInBounds_toArray, List.set_cons_zero, List.set_cons_succ]
  refine wpAnyH_done (by kernel_rfl) ?_ _
  go_wp2
  refine bodyPost_ret (v := .agg #[.int .i64 v.E, .slice v.a v.xs.length v.c, .int .i64 v.T, .slice v.b v.ys.length v.d]) (by simp [results, Tryz.results108, go_sem, c1]) rfl ?_
  exact ⟨rfl, nv0.before tt (fun i hi e => by omega)⟩

set_option maxHeartbeats 6400000 in
theorem rewire16 (B k : Nat) (P : PrV) (nd pe az ct : Int) (ke : Bool) (dA : Option Addr) (dn dc : Nat) (ek ep : Int) (eA : Option Addr) (en ec : Nat) (yA : Option Addr) (yn yc : Nat) (A : Wr) (p a b : Option Addr) (f c d : Nat) (b0 b1 bx by' : Nat) (col : Nat → Nat) (w : World) (hb : Blk w B 91 (pcCs P nd pe az ct ke dA dn dc ek ep eA en ec yA yn yc)) (ho : PrOw w b0 b1 col P) (hl : PrL P) (hk : k < P.nW) (hB : B < b0) (h01 : b0 ≤ b1) (hs : by' ≤ w.heap.size) (hx : b1 ≤ bx) (hxy : bx ≤ by') (hZ : OvB w bx (.slice a A.Z.length c) A.Z) (hY : OvB w bx (.slice b A.Y.length d) A.Y) (hab : ∀ x y, a = some x → b = some y → x.block ≠ y.block) (hin : ∀ x, (a = some x ∨ b = some x) → x.block < by') (hbz : (∀ z ∈ A.Z, By z) ∧ ∀ z ∈ A.Y, By z) (hln : A.Z.length ≤ 1048576 ∧ A.Y.length ≤ 1048576) :
    Calls Tryz.prog 106 #[.pointer (some ⟨B, 0, none⟩), .int .i64 (k : Int), .agg #[.int .i64 A.z, .slice p A.X.length f, .int .i64 A.E, .slice a A.Z.length c, .int .i64 A.T, .slice b A.Y.length d]] w fun e w' => ∃ R z col', e = .returned (.int .i64 z) ∧ Blk w' B 91 (pcCs R nd pe az ct ke dA dn dc ek ep eA en ec yA yn yc) ∧ PrOw w' b0 w'.heap.size col' R ∧ Turn (fun x => x = B ∨ b0 ≤ x) w w' ∧ SwO P k A z R := by
  have hw := (New.refl w).alloc (.cells #[.int .i64 A.z, .slice p A.X.length f, .int .i64 A.E, .slice a A.Z.length c, .int .i64 A.T, .slice b A.Y.length d] 81)
  have b1' := Blk.mk w w.heap.size 81 #[.int .i64 A.z, .slice p A.X.length f, .int .i64 A.E, .slice a A.Z.length c, .int .i64 A.T, .slice b A.Y.length d] rfl
  have hb' := hb.new hw
  have hlt := hb.lt
  have s0 : (w.alloc (.cells #[.int .i64 A.z, .slice p A.X.length f, .int .i64 A.E, .slice a A.Z.length c, .int .i64 A.T, .slice b A.Y.length d] 81)).heap.size = w.heap.size + 1 := by simp
  have ho' := ho.new hw
  have hZ' := hZ.new hw
  have hY' := hY.new hw
  have HL : Hid (PrL P) := hl
  clear hb ho hl hZ hY
  go_enter Tryz.func106, Tryz.ntmps106
  go_upto_region 1 with fail
  generalize w.alloc (.cells #[.int .i64 A.z, .slice p A.X.length f, .int .i64 A.E, .slice a A.Z.length c, .int .i64 A.T, .slice b A.Y.length d] 81) = w0 at *
  have cT := b1'.cells
  by_cases hz : A.z = 0
  case neg =>
    have HZ : Hid (¬ A.z = 0) := hz
    have hzb : (A.z != 0) = true := by simp [hz]
    go_wp2
    go_ret
    exact ⟨P, A.z, col, rfl, hb', (ho'.up (by omega)), hw.turn, .inl ⟨HZ.out, rfl⟩⟩
  have HZ : Hid (A.z = 0) := hz
  have hzb : (A.z != 0) = false := by simp [hz]
  clear hz
  go_upto_region 3 with fail
  clear hzb cT
  obtain ⟨g, ea, oN⟩ : ∃ g, P.aW = some ⟨g, 0, none⟩ ∧ OwW1 w0 (Cl col b0 b1 2) g P.nW P.cW P.VW := by
    rcases ho'.oW with ⟨-, e, -⟩ | h
    · omega
    · exact h
  have gB : ¬ B = g := by have := oN.glo.2.1; omega
  have gT : ¬ w.heap.size = g := by have := oN.glo.2.2; omega
  have HB : Hid (∀ X, Turn (fun x => x = g) w0 X → X.cell? ⟨B, 7, none⟩ = some (.slice (some ⟨g, 0, none⟩) P.nW P.cW)) := fun X hX => by
    have h1 := (hb'.turn hX gB).cells 7
    rw [h1, ← ea]; rfl
  have HC0 : Hid (∀ X, Turn (fun x => x = g) w0 X → X.cell? ⟨w.heap.size, 2, none⟩ = some (.int .i64 A.E)) := fun X hX => (b1'.turn hX gT).cells 2
  have HC1 : Hid (∀ X, Turn (fun x => x = g) w0 X → X.cell? ⟨w.heap.size, 3, none⟩ = some (.slice a A.Z.length c)) := fun X hX => (b1'.turn hX gT).cells 3
  have HC2 : Hid (∀ X, Turn (fun x => x = g) w0 X → X.cell? ⟨w.heap.size, 4, none⟩ = some (.int .i64 A.T)) := fun X hX => (b1'.turn hX gT).cells 4
  have HC3 : Hid (∀ X, Turn (fun x => x = g) w0 X → X.cell? ⟨w.heap.size, 5, none⟩ = some (.slice b A.Y.length d)) := fun X hX => (b1'.turn hX gT).cells 5
  have hki : (k : Int) < (P.nW : Int) := by omega
  have hk0 : (0 : Int) ≤ (k : Int) := by omega
  have hrow := oN.row
  have f0 := fun q => World.ownsRow.frozenAt hrow q
  have lrow := hrow.1
  rw [cellsWi_len] at lrow
  have lVW := HL.out.lW
  obtain ⟨y0, cy0⟩ : ∃ y, w0.cell? ⟨g, k * 4, none⟩ = some y := ⟨_, (World.ownsRow.cellAt hrow (k * 4) (by omega)).trans (List.getElem?_eq_getElem (by rw [cellsWi_len]; omega))⟩
  obtain ⟨y1, cy1⟩ : ∃ y, w0.cell? ⟨g, k * 4 + 1, none⟩ = some y := ⟨_, (World.ownsRow.cellAt hrow (k * 4 + 1) (by omega)).trans (List.getElem?_eq_getElem (by rw [cellsWi_len]; omega))⟩
  obtain ⟨y2, cy2⟩ : ∃ y, w0.cell? ⟨g, k * 4 + 2, none⟩ = some y := ⟨_, (World.ownsRow.cellAt hrow (k * 4 + 2) (by omega)).trans (List.getElem?_eq_getElem (by rw [cellsWi_len]; omega))⟩
  obtain ⟨y3, cy3⟩ : ∃ y, w0.cell? ⟨g, k * 4 + 3, none⟩ = some y := ⟨_, (World.ownsRow.cellAt hrow (k * 4 + 3) (by omega)).trans (List.getElem?_eq_getElem (by rw [cellsWi_len]; omega))⟩
  have HLV : Hid (P.VW.length = P.nW) := lVW
  clear lVW lrow
  refine hw_start (n := 10) (S := fun X => Turn (fun x => x = g) w0 X) rfl (by kernel_rfl) ((New.refl w0).drew.turn) (fun hH => ?_)
  have nv0 : New w0 w0.drew := (New.refl w0).drew
  have dy0 : w0.drew.cell? ⟨g, k * 4, none⟩ = some y0 := cy0
  have dy1 : w0.drew.cell? ⟨g, k * 4 + 1, none⟩ = some y1 := cy1
  have dy2 : w0.drew.cell? ⟨g, k * 4 + 2, none⟩ = some y2 := cy2
  have dy3 : w0.drew.cell? ⟨g, k * 4 + 3, none⟩ = some y3 := cy3
  have fd : ∀ q, w0.drew.frozen? ⟨g, q, none⟩ = false := f0
  generalize w0.drew = u0 at *
  clear f0 cy0 cy1 cy2 cy3
  refine' hw_take 0 (some 12) _ rfl rfl (by kernel_rfl) (by kernel_rfl) (by kernel_rfl) (fun _ _ _ h => h) (by rfl) nv0.turn ?hy12 ?rest12
  case hy12 =>
    intro X hX
    go_simp
    try rfl
  simp only [Act.put, List.setIfInBounds_toArray, List.set_cons_zero, List.set_cons_succ]
  refine' hw_take 1 (some 13) _ rfl rfl (by kernel_rfl) (by kernel_rfl) (by kernel_rfl) (fun _ _ _ h => h) (by rfl) nv0.turn ?hy13 ?rest13
  case hy13 =>
    intro X hX
    go_simp
    try rfl
  simp only [Act.put, List.setIfInBounds_toArray, List.set_cons_zero, List.set_cons_succ]
  refine' hw_take 2 (some 14) _ rfl rfl (by kernel_rfl) (by kernel_rfl) (by kernel_rfl) (fun _ _ _ h => h) (by rfl) nv0.turn ?hy14 ?rest14
  case hy14 =>
    intro X hX
    go_simp
    try rfl
  simp only [Act.put, List.setIfInBounds_toArray, List.set_cons_zero, List.set_cons_succ]
  refine' hw_take 3 (some 15) _ rfl rfl (by kernel_rfl) (by kernel_rfl) (by kernel_rfl) (fun _ _ _ h => h) (by rfl) nv0.turn ?hy15 ?rest15
  case hy15 =>
    intro X hX
    go_simp
    try rfl
  simp only [Act.put, List.setIfInBounds_toArray, List.set_cons_zero, List.set_cons_succ]
  refine' hw_take 4 (some 16) _ rfl rfl (by kernel_rfl) (by kernel_rfl) (by kernel_rfl) (fun _ _ _ h => h) (by rfl) nv0.turn ?hy16 ?rest16
  case hy16 =>
    intro X hX
    have q7 := HB.out X hX
    go_simp
    try rfl
  simp only [Act.put, List.setIfInBounds_toArray, List.set_cons_zero, List.set_cons_succ]
  refine' hw_take 5 (some 17) _ rfl rfl (by kernel_rfl) (by kernel_rfl) (by kernel_rfl) (fun _ _ _ h => h) (by rfl) nv0.turn ?hy17 ?rest17
  case hy17 =>
    intro X hX
    go_simp
    try rfl
  simp only [Act.put, List.setIfInBounds_toArray, List.set_cons_zero, List.set_cons_succ]
  refine' hw_take 6 (some 18) _ rfl rfl (by kernel_rfl) (by kernel_rfl) (by kernel_rfl) (fun _ _ _ h => h) (by rfl) nv0.turn ?hy18 ?rest18
  case hy18 =>
    intro X hX
    go_simp
    try rfl
  simp only [Act.put, List.setIfInBounds_toArray, List.set_cons_zero, List.set_cons_succ]
  refine' hw_take 7 (some 19) _ rfl rfl (by kernel_rfl) (by kernel_rfl) (by kernel_rfl) (fun _ _ _ h => h) (by rfl) nv0.turn ?hy19 ?rest19
  case hy19 =>
    intro X hX
    have q0 := HC0.out X hX
    have q1 := HC1.out X hX
    have q2 := HC2.out X hX
    have q3 := HC3.out X hX
    go_simp
    try rfl
  simp only [Act.put, List.setIfInBounds_toArray, List.set_cons_zero, List.set_cons_succ]
  refine' hw_take 8 (some 20) _ rfl rfl (by kernel_rfl) (by kernel_rfl) (by kernel_rfl) (fun _ _ _ h => h) (by rfl) nv0.turn ?hy20 ?rest20
  case hy20 =>
    intro X hX
    go_simp
    try rfl
  simp only [Act.put, List.setIfInBounds_toArray, List.set_cons_zero, List.set_cons_succ]
  refine hw_call 9 none rfl rfl (by kernel_rfl) (by rfl) (fun K hK => ?_)
  go_simp
  have hr0 := row9_turn hrow nv0.turn (fun _ _ f => f)
  have hr1 := (World.ownsRow.stored hr0 (k * 4) (.int .i64 A.E)).1
  have hr2 := (World.ownsRow.stored hr1 (k * 4 + 1) (.slice a A.Z.length c)).1
  have hr3 := (World.ownsRow.stored hr2 (k * 4 + 2) (.int .i64 A.T)).1
  have hr4 := (World.ownsRow.stored hr3 (k * 4 + 3) (.slice b A.Y.length d)).1
  have t9 := ((((Turn.refl (fun x => x = g) u0).set (p := ⟨g, k * 4, none⟩) rfl (.int .i64 A.E)).set (p := ⟨g, k * 4 + 1, none⟩) rfl (.slice a A.Z.length c)).set (p := ⟨g, k * 4 + 2, none⟩) rfl (.int .i64 A.T)).set (p := ⟨g, k * 4 + 3, none⟩) rfl (.slice b A.Y.length d)
  have tw := Turn.trans nv0.turn t9 (fun _ _ h => h)
  have hset := cellsWi_set4 P.VW k ⟨A.E, A.T, a, b, c, d, A.Z, A.Y⟩ (by have := HLV.out; omega)
  rw [hset] at hr4
  clear hset hr0 hr1 hr2 hr3 dy0 dy1 dy2 dy3 HC0 HC1 HC2 HC3
  refine hK.out undef _ tw (fun _ => ?_)
  try simp only [Act.put, List.setIfInBounds_toArray, List.set_cons_zero, List.set_cons_succ]
  refine wpAnyH_done (by kernel_rfl) ?_ _
  have z9 := t9.size
  have zv := nv0.size
  have HB9 := (hb'.new nv0).turn t9 gB
  have ZZ := (hZ'.new nv0).turn t9 (by have := oN.glo.2.2; intro x h1 h2 e; omega)
  have YY := (hY'.new nv0).turn t9 (by have := oN.glo.2.2; intro x h1 h2 e; omega)
  obtain ⟨a1, c1, e1, -, -, d1, v1⟩ := ZZ.bs hbz.1
  obtain ⟨a2, c2, e2, -, -, d2, v2⟩ := YY.bs hbz.2
  simp only [Value.slice.injEq] at e1 e2
  obtain ⟨rfl, -, rfl⟩ := e1
  obtain ⟨rfl, -, rfl⟩ := e2
  obtain ⟨colw, PO9, -⟩ := (ho'.new nv0).setW (v := ⟨A.E, A.T, a, b, c, d, A.Z, A.Y⟩) (b0' := b0) (b2 := by') ea t9 hr4 ⟨v1, v2⟩ hln hbz hab (by
    rintro x (h | h)
    · rcases d1 with ⟨e, -⟩ | ⟨q, e, h1, -⟩
      · rw [show a = some x from h] at e; cases e
      · have h2 : a = some x := h
        rw [h2] at e; cases e
        have := hin _ (.inl h2)
        exact ⟨fun hh => absurd hh.2 (by show ¬ q < b1; omega), (show b0 ≤ q by omega), this⟩
    · rcases d2 with ⟨e, -⟩ | ⟨q, e, h1, -⟩
      · rw [show b = some x from h] at e; cases e
      · have h2 : b = some x := h
        rw [h2] at e; cases e
        have := hin _ (.inr h2)
        exact ⟨fun hh => absurd hh.2 (by show ¬ q < b1; omega), (show b0 ≤ q by omega), this⟩) (Nat.le_refl _) (by omega)
  have tn9 : Turn (fun x => x = B ∨ b0 ≤ x) w ((((u0.setCell ⟨g, k * 4, none⟩ (.int .i64 A.E)).setCell ⟨g, k * 4 + 1, none⟩ (.slice a A.Z.length c)).setCell ⟨g, k * 4 + 2, none⟩ (.int .i64 A.T)).setCell ⟨g, k * 4 + 3, none⟩ (.slice b A.Y.length d)) := Turn.trans (Turn.trans hw.turn nv0.turn (fun _ _ h => h)) (t9.mono (fun x _ e => .inr (by have := oN.glo.2.1; omega))) (fun _ _ h => h)
  clear hrow hr4 fd HB t9 tw
  generalize (((u0.setCell ⟨g, k * 4, none⟩ (.int .i64 A.E)).setCell ⟨g, k * 4 + 1, none⟩ (.slice a A.Z.length c)).setCell ⟨g, k * 4 + 2, none⟩ (.int .i64 A.T)).setCell ⟨g, k * 4 + 3, none⟩ (.slice b A.Y.length d) = w9 at *
  go_wp2
  go_ret
  exact ⟨P.setW k ⟨A.E, A.T, a, b, c, d, A.Z, A.Y⟩, 0, colw, rfl, HB9, PO9.up (by omega), tn9, .inr ⟨HZ.out, rfl, (PrE.refl P).setW rfl⟩⟩

set_option maxHeartbeats 6400000 in
theorem say16 (B k : Nat) (P : PrV) (nd az ct : Int) (ke : Bool) (dA : Option Addr) (dn dc : Nat) (ek ep : Int) (eA : Option Addr) (en ec : Nat) (yA : Option Addr) (yn yc : Nat) (v : WiV) (us : List Int) (b0 b1 : Nat) (col : Nat → Nat) (w : World) (hb : Blk w B 91 (pcCs P nd (k : Int) az ct ke dA dn dc ek ep eA en ec yA yn yc)) (ho : PrOw w b0 b1 col P) (hl : PrL P) (hB : B < b0) (h01 : b0 ≤ b1) (hs : b1 ≤ w.heap.size) (hv : P.VW[k]? = some v) (hnl : (v.a = none → v.xs.length = 0 ∧ v.c = 0) ∧ (v.b = none → v.ys.length = 0 ∧ v.d = 0)) (hu : BsAt w dA us) (hun : us.length = dn) (hnu : dA = none → us.length = 0 ∧ dc = 0) (hum : us.length ≤ 1048576) :
    Calls Tryz.prog 53 #[.pointer (some ⟨B, 0, none⟩)] w fun e w' => ∃ R z col', e = .returned (.int .i64 z) ∧ Blk w' B 91 (pcCs R nd (k : Int) az ct ke dA dn dc ek ep eA en ec yA yn yc) ∧ PrOw w' b0 w'.heap.size col' R ∧ Turn (fun x => x = B ∨ b0 ≤ x) w w' ∧ SwO P k (psA v.E v.T v.xs v.ys us) z R := by
  subst hun
  have HB : Hid (Blk w B 91 (pcCs P nd (k : Int) az ct ke dA us.length dc ek ep eA en ec yA yn yc)) := hb
  have HO : Hid (PrOw w b0 b1 col P) := ho
  have HL : Hid (PrL P) := hl
  have HV : Hid (P.VW[k]? = some v) := hv
  have HU : Hid (BsAt w dA us) := hu
  have hkW : k < P.nW := by rw [← hl.lW]; exact (List.getElem?_eq_some_iff.1 hv).1
  clear hb ho hl hv hu
  go_enter Tryz.func53, Tryz.ntmps53
  go_upto_region 1 with fail
  refine hw_start (n := 14) (S := fun X => X.cell? ⟨B, 11, none⟩ = some (.int .i64 (k : Int)) ∧ X.cell? ⟨B, 15, none⟩ = some (.slice dA us.length dc)) rfl (by kernel_rfl) (⟨(HB.out.new (New.refl w).drew).cells 11, (HB.out.new (New.refl w).drew).cells 15⟩) (fun hH => ?_)
  have nv0 : New w w.drew := (New.refl w).drew
  generalize w.drew = v0 at *
  refine' hw_take 0 (some 3) _ rfl rfl (by kernel_rfl) (by kernel_rfl) (by kernel_rfl) (fun _ _ _ h => h) (by rfl) ⟨(HB.out.new nv0).cells 11, (HB.out.new nv0).cells 15⟩ ?hy21 ?rest21
  case hy21 =>
    intro X hX
    go_simp
    try rfl
  simp only [Act.put, List.setIfInBounds_toArray, List.set_cons_zero, List.set_cons_succ]
  refine' hw_take 1 (some 4) _ rfl rfl (by kernel_rfl) (by kernel_rfl) (by kernel_rfl) (fun _ _ _ h => h) (by rfl) ⟨(HB.out.new nv0).cells 11, (HB.out.new nv0).cells 15⟩ ?hy22 ?rest22
  case hy22 =>
    intro X hX
    go_simp
    try rfl
  simp only [Act.put, List.setIfInBounds_toArray, List.set_cons_zero, List.set_cons_succ]
  refine' hw_take 2 (some 5) _ rfl rfl (by kernel_rfl) (by kernel_rfl) (by kernel_rfl) (fun _ _ _ h => h) (by rfl) ⟨(HB.out.new nv0).cells 11, (HB.out.new nv0).cells 15⟩ ?hy23 ?rest23
  case hy23 =>
    intro X hX
    go_simp
    try rfl
  simp only [Act.put, List.setIfInBounds_toArray, List.set_cons_zero, List.set_cons_succ]
  refine' hw_take 3 (some 6) _ rfl rfl (by kernel_rfl) (by kernel_rfl) (by kernel_rfl) (fun _ _ _ h => h) (by rfl) ⟨(HB.out.new nv0).cells 11, (HB.out.new nv0).cells 15⟩ ?hy24 ?rest24
  case hy24 =>
    intro X hX
    go_simp
    try rfl
  simp only [Act.put, List.setIfInBounds_toArray, List.set_cons_zero, List.set_cons_succ]
  refine' hw_take 4 (some 7) _ rfl rfl (by kernel_rfl) (by kernel_rfl) (by kernel_rfl) (fun _ _ _ h => h) (by rfl) ⟨(HB.out.new nv0).cells 11, (HB.out.new nv0).cells 15⟩ ?hy25 ?rest25
  case hy25 =>
    intro X hX
    obtain ⟨q11, q15⟩ := hX
    go_simp
    try rfl
  simp only [Act.put, List.setIfInBounds_toArray, List.set_cons_zero, List.set_cons_succ]
  refine' hw_take 5 (some 8) _ rfl rfl (by kernel_rfl) (by kernel_rfl) (by kernel_rfl) (fun _ _ _ h => h) (by rfl) ⟨(HB.out.new nv0).cells 11, (HB.out.new nv0).cells 15⟩ ?hy26 ?rest26
  case hy26 =>
    intro X hX
    go_simp
    try rfl
  simp only [Act.put, List.setIfInBounds_toArray, List.set_cons_zero, List.set_cons_succ]
  refine' hw_take 7 (some 10) _ rfl rfl (by kernel_rfl) (by kernel_rfl) (by kernel_rfl) (fun _ _ _ h => h) (by rfl) ⟨(HB.out.new nv0).cells 11, (HB.out.new nv0).cells 15⟩ ?hy27 ?rest27
  case hy27 =>
    intro X hX
    go_simp
    try rfl
  simp only [Act.put, List.setIfInBounds_toArray, List.set_cons_zero, List.set_cons_succ]
  refine' hw_take 8 (some 11) _ rfl rfl (by kernel_rfl) (by kernel_rfl) (by kernel_rfl) (fun _ _ _ h => h) (by rfl) ⟨(HB.out.new nv0).cells 11, (HB.out.new nv0).cells 15⟩ ?hy28 ?rest28
  case hy28 =>
    intro X hX
    go_simp
    try rfl
  simp only [Act.put, List.setIfInBounds_toArray, List.set_cons_zero, List.set_cons_succ]
  refine' hw_take 9 (some 12) _ rfl rfl (by kernel_rfl) (by kernel_rfl) (by kernel_rfl) (fun _ _ _ h => h) (by rfl) ⟨(HB.out.new nv0).cells 11, (HB.out.new nv0).cells 15⟩ ?hy29 ?rest29
  case hy29 =>
    intro X hX
    go_simp
    try rfl
  simp only [Act.put, List.setIfInBounds_toArray, List.set_cons_zero, List.set_cons_succ]
  refine' hw_take 10 (some 13) _ rfl rfl (by kernel_rfl) (by kernel_rfl) (by kernel_rfl) (fun _ _ _ h => h) (by rfl) ⟨(HB.out.new nv0).cells 11, (HB.out.new nv0).cells 15⟩ ?hy30 ?rest30
  case hy30 =>
    intro X hX
    obtain ⟨q11, q15⟩ := hX
    go_simp
    try rfl
  simp only [Act.put, List.setIfInBounds_toArray, List.set_cons_zero, List.set_cons_succ]
  refine hw_call 6 (some 9) rfl rfl (by kernel_rfl) (by rfl) (fun K hK => ?_)
  go_simp
  obtain ⟨g, ea, hcs, bx1, bx2, l1, l2⟩ := (HO.out.new nv0).wire HV.out HL.out.lW
  refine (wire16 B g k P v nd az ct ke dA us.length dc ek ep eA en ec yA yn yc _ (HB.out.new nv0) ea hcs hkW).mono ?_
  rintro e v1 ⟨rfl, hn1⟩
  have nv1 := nv0.trans hn1
  refine hK.out _ _ ⟨(HB.out.new nv1).cells 11, (HB.out.new nv1).cells 15⟩ (fun _ => ?_)
  simp only [Act.put, List.setIfInBounds_toArray, List.set_cons_zero, List.set_cons_succ]
  refine hw_call 11 (some 14) rfl rfl (by kernel_rfl) (by rfl) (fun K hK => ?_)
  go_simp
  refine (implPS v.E v.T v.a v.b dA v.c v.d dc v.xs v.ys us v1 (bx1.new hn1) (bx2.new hn1) (HU.out.new nv1) hnl.1 hnl.2 hnu l1 l2 hum).mono ?_
  have hbyv := HO.out.bW v (List.mem_of_getElem? HV.out)
  have hbyu : ∀ z ∈ us, By z := HU.out.lt
  have hA : Hid ((psA v.E v.T v.xs v.ys us).z = 0 → psA v.E v.T v.xs v.ys us = ⟨0, v.E, v.T, [], v.xs ++ us, v.ys⟩) := fun h => (psA_ok h).2.1
  have hAb : ((∀ z ∈ (psA v.E v.T v.xs v.ys us).Z, By z) ∧ ∀ z ∈ (psA v.E v.T v.xs v.ys us).Y, By z) ∧ (psA v.E v.T v.xs v.ys us).Z.length ≤ 1048576 ∧ (psA v.E v.T v.xs v.ys us).Y.length ≤ 1048576 := by
    by_cases hz : (psA v.E v.T v.xs v.ys us).z = 0
    · obtain ⟨h1, h2, h3⟩ := psA_ok hz
      rw [h2]
      refine ⟨⟨fun z hz => ?_, hbyv.2⟩, ?_, l2⟩
      · rcases List.mem_append.1 hz with h | h
        · exact hbyv.1 z h
        · exact hbyu z h
      · show (v.xs ++ us).length ≤ 1048576
        rw [List.length_append]; omega
    · have h1 : psA v.E v.T v.xs v.ys us = Wr.bad (psA v.E v.T v.xs v.ys us).z := by
        unfold psA at hz ⊢
        split
        · split
          · rfl
          · rename_i h4 h5; rw [if_pos h4, if_neg h5] at hz; exact absurd rfl hz
        · rfl
      rw [h1]
      exact ⟨⟨fun z hz => (by cases hz), fun z hz => (by cases hz)⟩, Nat.zero_le _, Nat.zero_le _⟩
  generalize hAe : psA v.E v.T v.xs v.ys us = A at *
  have HAE : Hid (psA v.E v.T v.xs v.ys us = A) := hAe
  clear hAe
  rintro e v2 ⟨p, a, b, f, c, d, rfl, hX, hZ, hY, -, -, hab, hn2⟩
  have nv2 := nv1.trans hn2
  refine hK.out _ _ ⟨(HB.out.new nv2).cells 11, (HB.out.new nv2).cells 15⟩ (fun _ => ?_)
  simp only [Act.put, List.setIfInBounds_toArray, List.set_cons_zero, List.set_cons_succ]
  refine hw_call 12 (some 15) rfl rfl (by kernel_rfl) (by rfl) (fun K hK => ?_)
  go_simp
  have hin : ∀ x, (a = some x ∨ b = some x) → x.block < v2.heap.size := by
    rintro x (h | h)
    · exact (OvB.rngK hZ x.block (by rw [h]; rfl)).2
    · exact (OvB.rngK hY x.block (by rw [h]; rfl)).2
  refine (rewire16 B k P nd (k : Int) az ct ke dA us.length dc ek ep eA en ec yA yn yc A p a b f c d b0 b1 v1.heap.size v2.heap.size col v2 (HB.out.new nv2) (HO.out.new nv2) HL.out hkW hB h01 (Nat.le_refl _) (Nat.le_trans hs nv1.size) hn2.size hZ hY hab hin hAb.1 hAb.2).mono ?_
  rintro e v3 ⟨R, z, col', rfl, b3, o3, t3, g3⟩
  refine hK.out _ _ ⟨b3.cells 11, b3.cells 15⟩ (fun _ => ?_)
  simp only [Act.put, List.setIfInBounds_toArray, List.set_cons_zero, List.set_cons_succ]
  refine' hw_take 13 (some 2) _ rfl rfl (by kernel_rfl) (by kernel_rfl) (by kernel_rfl) (fun _ _ _ h => h) (by rfl) ⟨b3.cells 11, b3.cells 15⟩ ?hy31 ?rest31
  case hy31 =>
    intro X hX
    go_simp
    try rfl
  simp only [Act.put, List.setIfInBounds_toArray, List.set_cons_zero, List.set_cons_succ]
  refine wpAnyH_done (by kernel_rfl) ?_ _
  go_wp2
  go_ret
  exact ⟨R, z, col', rfl, b3, o3, Turn.trans nv2.turn t3 (fun _ _ h => h), by rw [HAE.out]; exact g3⟩

end Go.Proofs.YtebkdaddndlmoaaGreat
