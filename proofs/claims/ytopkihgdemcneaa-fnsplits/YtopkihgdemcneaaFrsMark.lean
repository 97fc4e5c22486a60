/- What is proved here: what the marking of lists of frames leaves and what the looking for marks answers. -/
import Derived.Test.YtopkihgdemcneaaFrsOps
namespace Go.Proofs.Ytopkihgdemcneaa
open Go.RowKit

/-- The frames marked from k on; the next mark. -/
def markF : Int → List Fr → List Fr
  | _, [] => []
  | k, f :: F => ⟨k, marks (k + 1) f.zs.length, f.a, f.c⟩ :: markF (k + 1 + f.zs.length) F
def endF : Int → List Fr → Int
  | k, [] => k
  | k, f :: F => endF (k + 1 + f.zs.length) F
theorem markF_length (F : List Fr) : ∀ k, (markF k F).length = F.length := by
  induction F with
  | nil => intro k; rfl
  | cons f F ih => intro k; simp [markF, ih]
theorem endF_snoc (F : List Fr) (f : Fr) : ∀ k, endF k (F ++ [f]) = endF k F + 1 + f.zs.length := by
  induction F with
  | nil => intro k; rfl
  | cons g F ih => intro k; simp only [List.cons_append, endF]; exact ih _
theorem markF_snoc (F : List Fr) (f : Fr) : ∀ k, markF k (F ++ [f]) = markF k F ++ [⟨endF k F, marks (endF k F + 1) f.zs.length, f.a, f.c⟩] := by
  induction F with
  | nil => intro k; rfl
  | cons g F ih => intro k; simp only [List.cons_append, markF, endF, ih]
theorem endF_bd (F : List Fr) (m : Nat) : ∀ k, (∀ f ∈ F, f.zs.length ≤ m) → k ≤ endF k F ∧ endF k F ≤ k + F.length * (1 + m) := by
  induction F with
  | nil => intro k _; simp [endF]
  | cons f F ih =>
    intro k h
    have h1 := h f (by simp)
    have h2 := ih (k + 1 + f.zs.length) (fun g hg => h g (by simp [hg]))
    simp only [endF, List.length_cons]
    have : ((F.length + 1 : Nat) : Int) * (1 + m) = F.length * (1 + m) + (1 + m) := by rw [Int.natCast_add, Int.add_mul]; simp
    rw [this]
    omega
theorem take_snocF {F : List Fr} {k : Nat} {f : Fr} (h : F[k]? = some f) : F.take (k + 1) = F.take k ++ [f] := by
  obtain ⟨hk, rfl⟩ := List.getElem?_eq_some_iff.1 h
  exact List.take_succ_eq_append_getElem hk
theorem markF_get (F : List Fr) {j : Nat} {f : Fr} (h : F[j]? = some f) (k : Int) : (markF k F)[j]? = some ⟨endF k (F.take j), marks (endF k (F.take j) + 1) f.zs.length, f.a, f.c⟩ := by
  induction F generalizing j k with
  | nil => simp at h
  | cons g F ih =>
    cases j with
    | zero => simp at h; subst h; simp [markF, endF]
    | succ j => simp at h; simp only [markF, List.getElem?_cons_succ, List.take_succ_cons, endF]; exact ih h _

/-- One frame in its place is another one of the same room. -/
theorem OwF.put {w w' : World} {lo hi n c j : Nat} {a : Option Addr} {F : List Fr} {f f' : Fr} {S : Nat → Prop} (h : OwF w lo hi a n c F) (hj : F[j]? = some f) (ha : f'.a = f.a) (hc : f'.c = f.c) (hl : f'.zs.length = f.zs.length)
    (hrow : ∀ g, a = some ⟨g, 0, none⟩ → w'.ownsRow 0 26 2 (.slice (some ⟨g, 0, none⟩) n c) n (cellsF (F.set j f')))
    (hb : OwAt w' f.a f.zs.length f.c f'.zs) (hz : ∀ z ∈ f'.zs, 0 ≤ z ∧ z ≤ 255) (t : Turn S w w') (hS : ∀ (i : Nat) (g : Fr) (x : Addr), i ≠ j → F[i]? = some g → g.a = some x → 0 < g.zs.length → ¬ S x.block) : OwF w' lo hi a n c (F.set j f') := by
  have get : ∀ (i : Nat) (g : Fr), (F.set j f')[i]? = some g → (i = j ∧ g = f') ∨ (i ≠ j ∧ F[i]? = some g) := by
    intro i g hi
    rw [List.getElem?_set] at hi
    split at hi
    · split at hi
      · left; exact ⟨by omega, (Option.some.inj hi).symm⟩
      · cases hi
    · right; exact ⟨by omega, hi⟩
  refine ⟨by simp [h.len], h.anil, ?_, ?_, ?_, ?_, ?_, ?_⟩
  · intro x hx
    obtain ⟨g, rfl, h1, h2, _⟩ := h.row x hx
    exact ⟨g, rfl, h1, h2, hrow g hx⟩
  · intro i g hg
    rcases get i g hg with ⟨rfl, rfl⟩ | ⟨hne, hg'⟩
    · rw [ha, hc, hl]; exact hb
    · have hb' := h.body i g hg'
      refine ⟨hb'.1, fun h0 => ?_⟩
      obtain ⟨g1, e1, ho1⟩ := hb'.2 h0
      exact ⟨g1, e1, own_turn ho1 t (hS i g _ hne hg' e1 h0)⟩
  · intro i g hg
    rcases get i g hg with ⟨rfl, rfl⟩ | ⟨hne, hg'⟩
    · exact hz
    · exact h.bd i g hg'
  · intro i g x hg hx
    rcases get i g hg with ⟨rfl, rfl⟩ | ⟨hne, hg'⟩
    · rw [ha] at hx; exact h.lies i f x hj hx
    · exact h.lies i g x hg' hx
  · intro i k g1 g2 x y h1 h2 hne hx hy
    rcases get i g1 h1 with ⟨e1, q1⟩ | ⟨n1, k1⟩
    · rcases get k g2 h2 with ⟨e2, q2⟩ | ⟨n2, k2⟩
      · omega
      · rw [q1, ha] at hx; rw [e1] at hne; exact h.apart j k f g2 x y hj k2 hne hx hy
    · rcases get k g2 h2 with ⟨e2, q2⟩ | ⟨n2, k2⟩
      · rw [q2, ha] at hy; rw [e2] at hne; exact h.apart i j g1 f x y k1 hj hne hx hy
      · exact h.apart i k g1 g2 x y k1 k2 hne hx hy
  · intro i g hg hx
    rcases get i g hg with ⟨rfl, rfl⟩ | ⟨hne, hg'⟩
    · rw [ha] at hx; rw [hl, hc]; exact h.bnil i f hj hx
    · exact h.bnil i g hg' hx

theorem cellsF_set {F : List Fr} {j : Nat} {f : Fr} (h : F[j]? = some f) (k : Int) : cellsF (F.set j ⟨k, f.zs, f.a, f.c⟩) = (cellsF F).set (j * 2) (.int .i64 k) := by
  induction F generalizing j with
  | nil => simp at h
  | cons g F ih =>
    cases j with
    | zero => simp at h; subst h; simp [cellsF]
    | succ j =>
      simp at h
      have := ih h
      rw [show (j + 1) * 2 = j * 2 + 1 + 1 by omega]
      simp only [List.set_cons_succ, cellsF, List.flatMap_cons, List.cons_append, List.nil_append] at this ⊢
      rw [this]
theorem cellsF_body {F : List Fr} {j : Nat} {f : Fr} (h : F[j]? = some f) {ys : List Int} (hl : ys.length = f.zs.length) : cellsF (F.set j ⟨f.k, ys, f.a, f.c⟩) = cellsF F := by
  induction F generalizing j with
  | nil => simp at h
  | cons g F ih =>
    cases j with
    | zero => simp at h; subst h; simp [cellsF, hl]
    | succ j => simp at h; have := ih h; simp only [List.set_cons_succ, cellsF, List.flatMap_cons] at this ⊢; rw [this]

/-- The row of the frames and a body that is not empty are two blocks. -/
theorem OwF.ne {w : World} {lo hi n c g g1 m d : Nat} {F : List Fr} {ys : List Int} (h : OwF w lo hi (some ⟨g, 0, none⟩) n c F) (ho1 : w.ownsRow 0 5 1 (.slice (some ⟨g1, 0, none⟩) m d) m (ys.map (Value.int .u8))) : g1 ≠ g := by
  rintro rfl
  obtain ⟨g2, e2, _, _, ho2⟩ := h.row _ rfl
  simp only [Addr.mk.injEq, and_true] at e2
  subst e2
  rcases ho1.2 with ⟨h', _⟩ | ⟨_, _, cur1, h1, _, hb1, _⟩
  · simp at h'
  · rcases ho2.2 with ⟨h', _⟩ | ⟨_, _, cur2, h2, _, hb2, _⟩
    · simp at h'
    · simp only [Value.slice.injEq, Option.some.injEq, Addr.mk.injEq, and_true, true_and] at h1 h2
      rw [← h1.1] at hb1
      rw [← h2.1, hb1] at hb2
      simp at hb2

end Go.Proofs.Ytopkihgdemcneaa
