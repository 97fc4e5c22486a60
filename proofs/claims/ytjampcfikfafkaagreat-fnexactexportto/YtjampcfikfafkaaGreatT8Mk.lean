/- What is proved here: what the marking of lists of things told leaves and what the looking for marks answers, for lists of at most 1048576 things told with paths of at most 1048576 numbers. -/
import Derived.Test.YtjampcfikfafkaaGreatT8Ls
namespace Go.Proofs.YtjampcfikfafkaaGreat
open Go.RowKit Go.Sort
set_option linter.unusedVariables false

/-- A thing told, marked from k on. -/
def Tv.mk8 (k : Int) (v : Tv) : Tv := ⟨⟨k, k + 1, k + 1 + 1, mkN7 (k + 1 + 1 + 1) v.r.xs.length, k + 1 + 1 + 1 + v.r.xs.length, k + 1 + 1 + 1 + v.r.xs.length + 1, k + 1 + 1 + 1 + v.r.xs.length + 1 + 1⟩, v.x, v.c⟩
/-- The next mark. -/
def Tv.nx8 (k : Int) (v : Tv) : Int := k + 1 + 1 + 1 + v.r.xs.length + 1 + 1 + 1
/-- The things told, marked from k on; the next mark. -/
def mark8 : Int → List Tv → List Tv
  | _, [] => []
  | k, v :: V => v.mk8 k :: mark8 (v.nx8 k) V
def end8 : Int → List Tv → Int
  | k, [] => k
  | k, v :: V => end8 (v.nx8 k) V
theorem mark8_length (V : List Tv) : ∀ k, (mark8 k V).length = V.length := by
  induction V with
  | nil => intro k; rfl
  | cons f F ih => intro k; simp [mark8, ih]
theorem end8_snoc (V : List Tv) (v : Tv) : ∀ k, end8 k (V ++ [v]) = v.nx8 (end8 k V) := by
  induction V with
  | nil => intro k; rfl
  | cons g F ih => intro k; simp only [List.cons_append, end8]; exact ih _
theorem mark8_snoc (V : List Tv) (v : Tv) : ∀ k, mark8 k (V ++ [v]) = mark8 k V ++ [v.mk8 (end8 k V)] := by
  induction V with
  | nil => intro k; rfl
  | cons g F ih => intro k; simp only [List.cons_append, mark8, end8, ih]
theorem end8_bd (V : List Tv) : ∀ k, (∀ v ∈ V, v.r.xs.length ≤ 1048576) → k ≤ end8 k V ∧ end8 k V ≤ k + V.length * 1048582 := by
  induction V with
  | nil => intro k _; simp [end8]
  | cons f F ih =>
    intro k h
    have h1 := h f (by simp)
    have h2 := ih (f.nx8 k) (fun g hg => h g (by simp [hg]))
    simp only [end8, List.length_cons]
    unfold Tv.nx8 at h2 ⊢
    omega
theorem take_snoc8 {V : List Tv} {k : Nat} {f : Tv} (h : V[k]? = some f) : V.take (k + 1) = V.take k ++ [f] := by
  obtain ⟨hk, rfl⟩ := List.getElem?_eq_some_iff.1 h
  exact List.take_succ_eq_append_getElem hk
theorem mark8_get (V : List Tv) {j : Nat} {f : Tv} (h : V[j]? = some f) (k : Int) : (mark8 k V)[j]? = some (f.mk8 (end8 k (V.take j))) := by
  induction V generalizing j k with
  | nil => simp at h
  | cons g F ih =>
    cases j with
    | zero => simp at h; subst h; simp [mark8, end8]
    | succ j => simp at h; simp only [mark8, List.getElem?_cons_succ, List.take_succ_cons, end8]; exact ih h _
theorem end8_take {V : List Tv} {j : Nat} {f : Tv} (h : V[j]? = some f) (k : Int) : end8 k (V.take (j + 1)) = f.nx8 (end8 k (V.take j)) := by rw [take_snoc8 h, end8_snoc]
theorem step8_get {V : List Tv} {j : Nat} {f : Tv} (h : V[j]? = some f) (k : Int) : (mark8 k (V.take j) ++ V.drop j)[j]? = some f := by
  obtain ⟨hj, rfl⟩ := List.getElem?_eq_some_iff.1 h
  have hl : (mark8 k (V.take j)).length = j := by rw [mark8_length, List.length_take]; omega
  rw [List.getElem?_append_right (by omega), hl, Nat.sub_self, List.getElem?_drop]
  exact h
theorem step8_set {V : List Tv} {j : Nat} {f : Tv} (h : V[j]? = some f) (k : Int) : (mark8 k (V.take j) ++ V.drop j).set j (f.mk8 (end8 k (V.take j))) = mark8 k (V.take (j + 1)) ++ V.drop (j + 1) := by
  have hf := take_snoc8 h
  obtain ⟨hj, rfl⟩ := List.getElem?_eq_some_iff.1 h
  have hl : (mark8 k (V.take j)).length = j := by rw [mark8_length, List.length_take]; omega
  rw [hf, mark8_snoc, List.set_append_right _ _ (by omega), hl, Nat.sub_self, List.drop_eq_getElem_cons hj, List.set_cons_zero]
  simp
theorem mark8_eq : ∀ (V U : List Tv) (k : Int), V.map (fun v => v.r.xs.length) = U.map (fun v => v.r.xs.length) → end8 k V = end8 k U ∧ (mark8 k V).map Tv.r = (mark8 k U).map Tv.r
  | [], [], k, _ => ⟨rfl, rfl⟩
  | [], u :: U, k, h => by simp at h
  | v :: V, [], k, h => by simp at h
  | v :: V, u :: U, k, h => by
    simp only [List.map_cons, List.cons.injEq] at h
    have := mark8_eq V U (v.nx8 k) h.2
    have e : u.nx8 k = v.nx8 k := by unfold Tv.nx8; rw [h.1]
    simp only [end8, mark8, List.map_cons, e]
    exact ⟨this.1, by rw [this.2]; simp [Tv.mk8, h.1]⟩

theorem cells8_set8 : ∀ (V : List Tv) (i : Nat) (u v : Tv), V[i]? = some u → v.pv = u.pv → ((((((cells8 V).set (i * 7) (.int .i64 v.r.a)).set (i * 7 + 1) (.int .i64 v.r.l)).set (i * 7 + 2) (.int .i64 v.r.o)).set (i * 7 + 4) (.int .i64 v.r.nx)).set (i * 7 + 5) (.int .i64 v.r.md)).set (i * 7 + 6) (.int .i64 v.r.lc) = cells8 (V.set i v)
  | [], i, u, v, h, _ => by simp at h
  | q :: V, 0, u, v, h, e => by
    simp at h
    subst h
    have e' : Value.slice v.x v.r.xs.length v.c = .slice q.x q.r.xs.length q.c := e
    simp [cells8_cons, e']
  | q :: V, i + 1, u, v, h, e => by
    have ih := cells8_set8 V i u v (by simpa using h) e
    rw [show (i + 1) * 7 = i * 7 + 7 by omega, cells8_cons, show (q :: V).set (i + 1) v = q :: V.set i v from rfl, cells8_cons, ← ih]
    simp only [Nat.add_assoc, Nat.reduceAdd, List.set_cons_succ]

/-- One path in its place is marked. -/
theorem Paths8.put {w w' : World} {lo hi j : Nat} {V : List Tv} {u v : Tv} {S : Nat → Prop} (h : Paths8 w lo hi V) (hj : V[j]? = some u) (hp : v.pv = u.pv) (hb : ∀ z ∈ v.r.xs, In6 z) (ho : OvN w' lo v.pv v.r.xs) (t : Turn S w w') (hS : ∀ (i : Nat) (q : Tv) (k : Nat), i ≠ j → V[i]? = some q → q.pv.ownBlock = some k → ¬ S k) : Paths8 w' lo hi (V.set j v) := by
  have hl : v.r.xs.length = u.r.xs.length := by
    have : Value.slice v.x v.r.xs.length v.c = .slice u.x u.r.xs.length u.c := hp
    simp only [Value.slice.injEq] at this
    exact this.2.1
  have get : ∀ (i : Nat) (g : Tv), (V.set j v)[i]? = some g → (i = j ∧ g = v) ∨ (i ≠ j ∧ V[i]? = some g) := by
    intro i g hi
    rw [List.getElem?_set] at hi
    split at hi
    · split at hi
      · left; exact ⟨by omega, (Option.some.inj hi).symm⟩
      · cases hi
    · right; exact ⟨by omega, hi⟩
  have mem : ∀ g ∈ V.set j v, ∃ i : Nat, (i = j ∧ g = v) ∨ (i ≠ j ∧ V[i]? = some g) := by
    intro g hg
    obtain ⟨i, hi⟩ := List.getElem?_of_mem hg
    exact ⟨i, get i g hi⟩
  have hu := List.mem_of_getElem? hj
  refine ⟨?_, ?_, ?_, ?_⟩
  · intro g hg
    obtain ⟨i, ⟨-, rfl⟩ | ⟨hne, hi⟩⟩ := mem g hg
    · exact ho
    · exact (h.own g (List.mem_of_getElem? hi)).turn8 t (fun k hk => hS i g k hne hi hk)
  · intro g hg
    obtain ⟨i, ⟨-, rfl⟩ | ⟨hne, hi⟩⟩ := mem g hg
    · exact ⟨hb, by rw [hl]; exact (h.bd u hu).2⟩
    · exact h.bd g (List.mem_of_getElem? hi)
  · intro g hg k hk
    obtain ⟨i, ⟨-, rfl⟩ | ⟨hne, hi⟩⟩ := mem g hg
    · rw [hp] at hk; exact h.lies u hu k hk
    · exact h.lies g (List.mem_of_getElem? hi) k hk
  · intro i k g1 g2 b h1 h2 hne hx hy
    rcases get i g1 h1 with ⟨e1, q1⟩ | ⟨n1, k1⟩
    · rcases get k g2 h2 with ⟨e2, q2⟩ | ⟨n2, k2⟩
      · omega
      · rw [q1, hp] at hx; rw [e1] at hne; exact h.apart j k u g2 b hj k2 hne hx hy
    · rcases get k g2 h2 with ⟨e2, q2⟩ | ⟨n2, k2⟩
      · rw [q2, hp] at hy; rw [e2] at hne; exact h.apart i j g1 u b k1 hj hne hx hy
      · exact h.apart i k g1 g2 b k1 k2 hne hx hy

/-- The row of the things told and a path are two blocks. -/
theorem row_ne8 {w : World} {lo g n c : Nat} {V : List Tv} {v : Value} {xs : List Int} (h : OwRow8 w g n c V) (ho : OvN w lo v xs) : v.ownBlock ≠ some g := by
  intro e
  rcases ho.2 with ⟨h', _⟩ | ⟨g1, c1, cur1, h1, _, hb1, _⟩
  · rw [h'] at e; simp [Value.ownBlock] at e
  · rw [h1] at e
    simp [Value.ownBlock] at e
    subst e
    rcases h.2 with ⟨h', _⟩ | ⟨_, _, cur2, h2, _, hb2, _⟩
    · simp at h'
    · simp only [Value.slice.injEq, Option.some.injEq, Addr.mk.injEq, and_true, true_and] at h2
      rw [← h2.1, hb1] at hb2
      simp at hb2

theorem set8a (w : World) (B j : Nat) (v0 v1 v2 : Value) : Turn (fun k => k = B) w (((w.setCell ⟨B, j, none⟩ v0).setCell ⟨B, j + 1, none⟩ v1).setCell ⟨B, j + 2, none⟩ v2) :=
  (((Turn.refl (fun k => k = B) w).set (p := ⟨B, j, none⟩) rfl v0).set (p := ⟨B, j + 1, none⟩) rfl v1).set (p := ⟨B, j + 2, none⟩) rfl v2
theorem set8b (w : World) (B j : Nat) (v0 v1 v2 : Value) : Turn (fun k => k = B) w (((w.setCell ⟨B, j + 4, none⟩ v0).setCell ⟨B, j + 5, none⟩ v1).setCell ⟨B, j + 6, none⟩ v2) :=
  (((Turn.refl (fun k => k = B) w).set (p := ⟨B, j + 4, none⟩) rfl v0).set (p := ⟨B, j + 5, none⟩) rfl v1).set (p := ⟨B, j + 6, none⟩) rfl v2

set_option maxHeartbeats 6400000 in
theorem markRow8_any (g n c lo hi : Nat) (k : Int) (V : List Tv) (w : World) (hO : OwRow8 w g n c V) (hP : Paths8 w lo hi V) (hg : lo ≤ g) (hgi : g < hi) (hm : n ≤ 1048576) (hk0 : 0 ≤ k) (hk : k ≤ 1048576) :
    Calls Tryz.prog 53 #[.slice (some ⟨g, 0, none⟩) n c, .int .i64 k] w fun e w' => e = .returned (.int .i64 (end8 k V)) ∧ OwRow8 w' g n c (mark8 k V) ∧ Paths8 w' lo hi (mark8 k V) ∧ Turn (fun x => lo ≤ x ∧ x < hi) w w' := by
  have HLn : Hid (V.length = n) := hO.len
  have hl : Hid (∀ v ∈ V, v.r.xs.length ≤ 1048576) := fun v hv => (hP.bd v hv).2
  have HBd : Hid (∀ j, j ≤ n → k ≤ end8 k (V.take j) ∧ end8 k (V.take j) ≤ k + 1099517919232) := by
    intro j hj
    have h1 := end8_bd (V.take j) k (fun f hf => hl.out f (List.mem_of_mem_take hf))
    have h2 : ((V.take j).length : Int) * 1048582 ≤ 1048576 * 1048582 := by
      have : (V.take j).length ≤ 1048576 := by rw [List.length_take]; omega
      omega
    omega
  go_enter Tryz.func53, Tryz.ntmps53
  go_wp2
  go_loopw [1, 5] (fun s i wr => ∃ j : Nat, j ≤ n ∧ i = .int .i64 j ∧ s = .int .i64 (end8 k (V.take j)) ∧ OwRow8 wr g n c (mark8 k (V.take j) ++ V.drop j) ∧ Paths8 wr lo hi (mark8 k (V.take j) ++ V.drop j) ∧ Turn (fun x => lo ≤ x ∧ x < hi) w wr) (fun _ i _ => n - (intOf i).toNat)
  case atStart => exact ⟨0, Nat.zero_le _, rfl, rfl, by simpa [mark8] using hO, by simpa [mark8] using hP, Turn.refl _ _⟩
  case round =>
    obtain ⟨j, hj, rfl, rfl, hC, hQ, htn⟩ := hrel
    by_cases hlt : j < n
    · obtain ⟨f, hfj⟩ : ∃ f, V[j]? = some f := ⟨_, List.getElem?_eq_getElem (by have := HLn.out; omega)⟩
      have hCj := step8_get hfj k
      have he := HBd.out j hj
      have HE : Hid (end8 k (V.take (j + 1)) = f.nx8 (end8 k (V.take j))) := end8_take hfj k
      have HS2 : Hid _ := step8_set hfj k
      generalize mark8 k (V.take j) ++ V.drop j = CC at *
      generalize end8 k (V.take j) = kc at *
      have HCj : Hid (CC[j]? = some f) := hCj
      have hov := hQ.own f (List.mem_of_getElem? hCj)
      have hbf := (hQ.bd f (List.mem_of_getElem? hCj)).2
      have hCC := hC.len
      have HCC : Hid (CC.length = n) := hCC
      have x4 : wr.cell? ⟨g, j * 7 + 3, none⟩ = some (.slice f.x f.r.xs.length f.c) := by
        rw [World.ownsRow.cellAt hC (j * 7 + 3) (by omega)]
        exact cells8_get CC j f hCj 3 (by omega)
      have f0 := fun q => World.ownsRow.frozenAt hC q
      obtain ⟨v0, c0⟩ := hC.cell (j * 7) (by omega)
      obtain ⟨v1, c1⟩ := hC.cell (j * 7 + 1) (by omega)
      obtain ⟨v2, c2⟩ := hC.cell (j * 7 + 2) (by omega)
      obtain ⟨fr, fa, fc⟩ := f
      obtain ⟨a, l, o, xs, nx, md, lc⟩ := fr
      simp only [Tv.pv] at x4 hov hbf
      clear hfj hCj hCC
      have hg1 := (World.ownsRow.stored hC (j * 7) (.int .i64 kc)).1
      have hg2 := (World.ownsRow.stored hg1 (j * 7 + 1) (.int .i64 (kc + 1))).1
      have hg4 := (World.ownsRow.stored hg2 (j * 7 + 1 + 1) (.int .i64 (kc + 1 + 1))).1
      have t4 : Turn (fun k => k = g) wr (((wr.setCell ⟨g, j * 7, none⟩ (.int .i64 kc)).setCell ⟨g, j * 7 + 1, none⟩ (.int .i64 (kc + 1))).setCell ⟨g, j * 7 + 1 + 1, none⟩ (.int .i64 (kc + 1 + 1))) := set8a wr g (j * 7) (.int .i64 kc) (.int .i64 (kc + 1)) (.int .i64 (kc + 1 + 1))
      have HNE : Hid (∀ b, (Value.slice fa xs.length fc).ownBlock = some b → ¬ b = g) := fun b hb e => row_ne8 hC hov (by rw [hb, e])
      have hov4 := hov.turn8 t4 HNE.out
      have HRN : Hid (∀ q ∈ CC, ∀ b, q.pv.ownBlock = some b → ¬ b = g) := fun q hq b hb e => row_ne8 hC (hQ.own q hq) (by rw [hb, e])
      clear hg1 hg2 hov
      go_upto_region 12 with fail
      have hs4 : (((cells8 CC).set (j * 7) (.int .i64 kc)).set (j * 7 + 1) (.int .i64 (kc + 1))).set (j * 7 + 1 + 1) (.int .i64 (kc + 1 + 1)) = (((cells8 CC).set (j * 7) (.int .i64 kc)).set (j * 7 + 1) (.int .i64 (kc + 1))).set (j * 7 + 2) (.int .i64 (kc + 1 + 1)) := rfl
      rw [hs4] at hg4
      have T4 := Turn.trans htn t4 (T := fun k => k = g) (by rintro i - rfl; exact ⟨hg, hgi⟩)
      generalize (((wr.setCell ⟨g, j * 7, none⟩ (.int .i64 kc)).setCell ⟨g, j * 7 + 1, none⟩ (.int .i64 (kc + 1))).setCell ⟨g, j * 7 + 1 + 1, none⟩ (.int .i64 (kc + 1 + 1))) = w4 at *
      have hlen4 : ((((cells8 CC).set (j * 7) (.int .i64 kc)).set (j * 7 + 1) (.int .i64 (kc + 1))).set (j * 7 + 2) (.int .i64 (kc + 1 + 1))).length = n * 7 := by simp [cells8_len, HCC.out]
      have x4' : w4.cell? ⟨g, j * 7 + 3, none⟩ = some (.slice fa xs.length fc) := by
        rw [World.ownsRow.cellAt hg4 (j * 7 + 3) (by omega), List.getElem?_set_ne (by omega), List.getElem?_set_ne (by omega), List.getElem?_set_ne (by omega)]
        exact cells8_get CC j _ HCj.out 3 (by omega)
      clear hs4 x4 c0 c1 c2 f0 hC
      generalize hD4 : (((cells8 CC).set (j * 7) (.int .i64 kc)).set (j * 7 + 1) (.int .i64 (kc + 1))).set (j * 7 + 2) (.int .i64 (kc + 1 + 1)) = D4 at *
      have HD4 : Hid _ := hD4
      have HLD : Hid _ := hlen4
      clear hD4 hlen4
      go_wp2_with fail
      refine (markOv7 lo fa xs.length fc xs (kc + 1 + 1 + 1) _ hov4 rfl hbf (by omega) (by omega)).mono ?_
      rintro e w5 ⟨rfl, hov5, t5⟩
      have hg5 : w5.ownsRow 0 43 7 (.slice (some ⟨g, 0, none⟩) n c) n D4 := by
        refine ⟨hg4.1, ?_⟩
        rcases hg4.2 with ⟨h', _⟩ | ⟨g', cap', cur, h', r⟩
        · simp at h'
        · simp only [Value.slice.injEq, Option.some.injEq, Addr.mk.injEq, and_true, true_and] at h'
          obtain ⟨rfl, rfl⟩ := h'
          have hlt4 : g < w4.heap.size := (Array.getElem?_eq_some_iff.1 r.2.1).1
          exact .inr ⟨g, c, cur, rfl, r.1, (t5.block g hlt4 (fun e => HNE.out g e rfl)).trans r.2.1, r.2.2⟩
      have f5 := fun q => World.ownsRow.frozenAt hg5 q
      obtain ⟨v5, c5⟩ : ∃ v, w5.cell? ⟨g, j * 7 + 4, none⟩ = some v := ⟨_, (World.ownsRow.cellAt hg5 _ (by omega)).trans (List.getElem?_eq_getElem (by rw [HLD.out]; omega))⟩
      obtain ⟨v6, c6⟩ : ∃ v, w5.cell? ⟨g, j * 7 + 5, none⟩ = some v := ⟨_, (World.ownsRow.cellAt hg5 _ (by omega)).trans (List.getElem?_eq_getElem (by rw [HLD.out]; omega))⟩
      obtain ⟨v7, c7⟩ : ∃ v, w5.cell? ⟨g, j * 7 + 6, none⟩ = some v := ⟨_, (World.ownsRow.cellAt hg5 _ (by omega)).trans (List.getElem?_eq_getElem (by rw [HLD.out]; omega))⟩
      clear x4' hg4
      go_wp2
      go_roundw
      case rel =>
        have h1 := (World.ownsRow.stored hg5 (j * 7 + 4) (.int .i64 (kc + 1 + 1 + 1 + xs.length))).1
        have h2 := (World.ownsRow.stored h1 (j * 7 + 5) (.int .i64 (kc + 1 + 1 + 1 + xs.length + 1))).1
        have h3 := (World.ownsRow.stored h2 (j * 7 + 6) (.int .i64 (kc + 1 + 1 + 1 + xs.length + 1 + 1))).1
        have hcs := cells8_set8 CC j _ (Tv.mk8 kc ⟨⟨a, l, o, xs, nx, md, lc⟩, fa, fc⟩) HCj.out (by simp [Tv.pv, Tv.mk8, mkN7_len])
        have t7 := set8b w5 g (j * 7) (.int .i64 (kc + 1 + 1 + 1 + xs.length)) (.int .i64 (kc + 1 + 1 + 1 + xs.length + 1)) (.int .i64 (kc + 1 + 1 + 1 + xs.length + 1 + 1))
        have hS5 : ∀ b, (Value.slice fa xs.length fc).ownBlock = some b → lo ≤ b ∧ b < hi := fun b hb => ⟨(hov4.rng8 b hb).1, hQ.lies _ (List.mem_of_getElem? HCj.out) b hb⟩
        have tA : Turn (fun k => k = g ∨ (Value.slice fa xs.length fc).ownBlock = some k) wr _ := Turn.trans (Turn.trans (Turn.mono t4 (fun i _ e => .inl e)) t5 (fun i _ e => .inr e)) t7 (fun i _ e => .inl e)
        refine ⟨j + 1, by omega, by go_num, by rw [HE.out]; rfl, ?_, ?_, ?_⟩
        · rw [← HS2.out]
          unfold OwRow8
          rw [← hcs]
          rw [← HD4.out] at h3
          exact h3
        · rw [← HS2.out]
          refine Paths8.put hQ HCj.out (by simp [Tv.pv, Tv.mk8, mkN7_len]) (mkN7_in _ _ (by omega) (by omega) hbf) ?_ tA ?_
          · have := hov5.turn8 t7 HNE.out
            simpa [Tv.pv, Tv.mk8, mkN7_len] using this
          · intro i q b hne hi hb hor
            rcases hor with e | hor
            · exact HRN.out q (List.mem_of_getElem? hi) b hb e
            · exact hQ.apart i j q _ b hi HCj.out hne hb hor
        · exact Turn.trans (Turn.trans T4 t5 (fun i _ e => hS5 i e)) t7 (by rintro i - rfl; exact ⟨hg, hgi⟩)
      case measure => simp [intOf]; omega
    · go_wp2
      go_ret
      obtain rfl : j = n := by omega
      have e1 : V.take j = V := List.take_of_length_le (by rw [HLn.out]; omega)
      have e2 : V.drop j = [] := List.drop_eq_nil_of_le (by rw [HLn.out]; omega)
      rw [e1, e2, List.append_nil] at hC hQ
      rw [e1]
      exact ⟨rfl, hC, hQ, htn⟩

end Go.Proofs.YtjampcfikfafkaaGreat
