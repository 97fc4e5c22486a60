/- What is proved here: plain facts on lists of frames that the call owns in memory; no run of the program. -/
import Derived.Test.YtopkihgdemcneaaWrong
namespace Go.Proofs.Ytopkihgdemcneaa
open Go.RowKit

theorem Try.infoFr : (Try.prog.info? 26).map (fun i => (i.zero, i.size, i.bytes)) = some (some (.agg #[.int .i64 0, .slice none 0 0]), 2, 32) := by kernel_rfl

/-- A frame in memory: its kind, the bytes of its body, where they lie, their room. -/
structure Fr where
  k : Int
  zs : List Int
  a : Option Addr
  c : Nat
/-- What it is, wherever it lies. -/
def Fr.out (f : Fr) : Int × List Int := (f.k, f.zs)
def cellsF (F : List Fr) : List Value := F.flatMap (fun f => [.int .i64 f.k, .slice f.a f.zs.length f.c])
theorem cellsF_length (F : List Fr) : (cellsF F).length = F.length * 2 := by
  induction F with
  | nil => rfl
  | cons f F ih => simp only [cellsF, List.flatMap_cons, List.length_append, List.length_cons, List.length_nil] at ih ⊢; omega
theorem cellsF_append (F G : List Fr) : cellsF (F ++ G) = cellsF F ++ cellsF G := by simp [cellsF]
theorem cellsF_get0 {F : List Fr} {i : Nat} {f : Fr} (h : F[i]? = some f) : (cellsF F)[i * 2]? = some (.int .i64 f.k) := by
  induction F generalizing i with
  | nil => simp at h
  | cons g F ih =>
    cases i with
    | zero => simp at h; subst h; simp [cellsF]
    | succ i => simp at h; have := ih h; rw [show (i + 1) * 2 = i * 2 + 2 by omega]; simpa [cellsF] using this
theorem cellsF_get1 {F : List Fr} {i : Nat} {f : Fr} (h : F[i]? = some f) : (cellsF F)[i * 2 + 1]? = some (.slice f.a f.zs.length f.c) := by
  induction F generalizing i with
  | nil => simp at h
  | cons g F ih =>
    cases i with
    | zero => simp at h; subst h; simp [cellsF]
    | succ i => simp at h; have := ih h; rw [show (i + 1) * 2 + 1 = i * 2 + 1 + 2 by omega]; simpa [cellsF] using this

/-- The call owns the frames F at this address, all their memory in the blocks from lo up to hi. -/
structure OwF (w : World) (lo hi : Nat) (a : Option Addr) (n c : Nat) (F : List Fr) : Prop where
  len : F.length = n
  anil : a = none → n = 0 ∧ c = 0
  row : ∀ x, a = some x → ∃ g, x = ⟨g, 0, none⟩ ∧ lo ≤ g ∧ g < hi ∧ w.ownsRow 0 26 2 (.slice (some ⟨g, 0, none⟩) n c) n (cellsF F)
  body : ∀ (i : Nat) (f : Fr), F[i]? = some f → OwAt w f.a f.zs.length f.c f.zs
  bd : ∀ (i : Nat) (f : Fr), F[i]? = some f → ∀ z ∈ f.zs, 0 ≤ z ∧ z ≤ 255
  lies : ∀ (i : Nat) (f : Fr) (x : Addr), F[i]? = some f → f.a = some x → lo ≤ x.block ∧ x.block < hi
  apart : ∀ (i j : Nat) (f g : Fr) (x y : Addr), F[i]? = some f → F[j]? = some g → i ≠ j → f.a = some x → g.a = some y → x.block ≠ y.block
  bnil : ∀ (i : Nat) (f : Fr), F[i]? = some f → f.a = none → f.zs.length = 0 ∧ f.c = 0

theorem OwF.empty (w : World) (lo hi : Nat) : OwF w lo hi none 0 0 [] :=
  ⟨rfl, fun _ => ⟨rfl, rfl⟩, (by intro x hx; cases hx), (by intro i f h; simp at h), (by intro i f h; simp at h), (by intro i f x h; simp at h), (by intro i j f g x y h; simp at h), (by intro i f h; simp at h)⟩

theorem ownG_turn {w w' : World} {base g n cap sz : Nat} {e : TypeId} {xs : List Value} {S : Nat → Prop} (h : w.ownsRow base e sz (.slice (some ⟨g, 0, none⟩) n cap) n xs) (t : Turn S w w') (hS : ¬ S g) :
    w'.ownsRow base e sz (.slice (some ⟨g, 0, none⟩) n cap) n xs := by
  have hg : g < w.heap.size := (h.lt g rfl).2
  refine ⟨h.1, ?_⟩
  rcases h.2 with ⟨h', _⟩ | ⟨g', cap', cur, h', r⟩
  · simp at h'
  · simp only [Value.slice.injEq, Option.some.injEq, Addr.mk.injEq, and_true, true_and] at h'
    obtain ⟨rfl, rfl⟩ := h'
    exact .inr ⟨g, cap, cur, rfl, r.1, (t.block g hg hS).trans r.2.1, r.2.2⟩

theorem OwF.turn {w w' : World} {lo hi n c : Nat} {a : Option Addr} {F : List Fr} {S : Nat → Prop} (h : OwF w lo hi a n c F) (t : Turn S w w') (hS : ∀ k, lo ≤ k → k < hi → ¬ S k) : OwF w' lo hi a n c F :=
  ⟨h.len, h.anil, (by intro x hx; obtain ⟨g, e, h1, h2, ho⟩ := h.row x hx; exact ⟨g, e, h1, h2, ownG_turn ho t (hS g h1 h2)⟩),
    (by intro i f hf; exact (h.body i f hf).turn t (fun x hx => hS _ (h.lies i f x hf hx).1 (h.lies i f x hf hx).2)), h.bd, h.lies, h.apart, h.bnil⟩
theorem OwF.new {w w' : World} {lo hi n c : Nat} {a : Option Addr} {F : List Fr} (h : OwF w lo hi a n c F) (t : New w w') : OwF w' lo hi a n c F := h.turn t (fun _ _ _ f => f)
theorem OwF.wide {w : World} {lo hi hi' n c : Nat} {a : Option Addr} {F : List Fr} (h : OwF w lo hi a n c F) (hh : hi ≤ hi') : OwF w lo hi' a n c F :=
  ⟨h.len, h.anil, (by intro x hx; obtain ⟨g, e, h1, h2, ho⟩ := h.row x hx; exact ⟨g, e, h1, by omega, ho⟩), h.body, h.bd, (by intro i f x hf hx; have := h.lies i f x hf hx; omega), h.apart, h.bnil⟩

theorem OwF.value {w : World} {lo hi n c : Nat} {a : Option Addr} {F : List Fr} (h : OwF w lo hi a n c F) : w.ownsRow 0 26 2 (.slice a n c) n (cellsF F) := by
  cases a with
  | none =>
    obtain ⟨rfl, rfl⟩ := h.anil rfl
    obtain rfl := List.eq_nil_of_length_eq_zero h.len
    exact World.ownsRow_nil _ _ _ _
  | some x => obtain ⟨g, rfl, _, _, ho⟩ := h.row x rfl; exact ho

/-- One frame more: its row in a new place or in the old one. -/
theorem OwF.snoc {w w' : World} {lo hi n c g cap : Nat} {a : Option Addr} {F : List Fr} {f : Fr} {row : Option Nat} (h : OwF w lo hi a n c F) (hg : w.grownBy w' row) (hrow : row = (Value.slice a n c).ownBlock)
    (ho : w'.ownsRow 0 26 2 (.slice (some ⟨g, 0, none⟩) (n + 1) cap) (n + 1) (cellsF F ++ cellsF [f])) (hat : row = some g ∨ g = w.heap.size) (hlo : lo ≤ w.heap.size) (hhi : hi ≤ w.heap.size)
    (hf : OwAt w f.a f.zs.length f.c f.zs) (hz : ∀ z ∈ f.zs, 0 ≤ z ∧ z ≤ 255) (hl : ∀ x, f.a = some x → lo ≤ x.block ∧ x.block < w.heap.size) (hap : ∀ x, f.a = some x → hi ≤ x.block) (hnil : f.a = none → f.zs.length = 0 ∧ f.c = 0) :
    OwF w' lo w'.heap.size (some ⟨g, 0, none⟩) (n + 1) cap (F ++ [f]) := by
  have hlt := (ho.lt g rfl).2
  have hs := hg.size
  have hgl : lo ≤ g := by
    rcases hat with h' | h'
    · rw [hrow] at h'
      cases a with
      | none => simp [Value.ownBlock] at h'
      | some x => obtain ⟨g', rfl, h1, _, _⟩ := h.row x rfl; simp [Value.ownBlock] at h'; omega
    · omega
  -- no body lies in the row that was written
  have hne : ∀ (f' : Fr) (x : Addr), OwAt w f'.a f'.zs.length f'.c f'.zs → f'.a = some x → 0 < f'.zs.length → some x.block ≠ row := by
    intro f' x hb hx h0 hr
    obtain ⟨g1, e1, ho1⟩ := hb.2 h0
    rw [hx] at e1
    obtain rfl := Option.some.inj e1
    rw [hrow] at hr
    cases a with
    | none => simp [Value.ownBlock] at hr
    | some y =>
      obtain ⟨g2, rfl, _, _, ho2⟩ := h.row y rfl
      simp [Value.ownBlock] at hr
      subst hr
      rcases ho1.2 with ⟨h', _⟩ | ⟨_, _, cur1, h1, _, hb1, _⟩
      · simp at h'
      · rcases ho2.2 with ⟨h', _⟩ | ⟨_, _, cur2, h2, _, hb2, _⟩
        · simp at h'
        · simp only [Value.slice.injEq, Option.some.injEq, Addr.mk.injEq, and_true, true_and] at h1 h2
          rw [← h1.1] at hb1
          rw [← h2.1, hb1] at hb2
          simp at hb2
  have keep : ∀ f' : Fr, OwAt w f'.a f'.zs.length f'.c f'.zs → OwAt w' f'.a f'.zs.length f'.c f'.zs := by
    intro f' hb
    refine ⟨hb.1, fun h0 => ?_⟩
    obtain ⟨g1, e1, ho1⟩ := hb.2 h0
    have hn := hne f' _ hb e1 h0
    exact ⟨g1, e1, ho1.kept hg (.inr hn)⟩
  have getl : ∀ (i : Nat) f', (F ++ [f])[i]? = some f' → F[i]? = some f' ∨ (i = F.length ∧ f' = f) := by
    intro i f' hi
    rw [List.getElem?_append] at hi
    split at hi
    · exact .inl hi
    · right
      have : i - F.length = 0 := by
        rcases Nat.eq_zero_or_pos (i - F.length) with h | h
        · exact h
        · rw [List.getElem?_eq_none (by simp; omega)] at hi; cases hi
      rw [this] at hi
      simp at hi
      exact ⟨by omega, hi.symm⟩
  refine ⟨by simp [h.len], (by intro hx; cases hx), ?_, ?_, ?_, ?_, ?_, ?_⟩
  · intro x hx
    obtain rfl := Option.some.inj hx
    exact ⟨g, rfl, hgl, hlt, by rw [cellsF_append]; exact ho⟩
  · intro i f' hi
    rcases getl i f' hi with h1 | ⟨_, rfl⟩
    · exact keep _ (h.body i f' h1)
    · exact keep _ hf
  · intro i f' hi
    rcases getl i f' hi with h1 | ⟨_, rfl⟩
    · exact h.bd i f' h1
    · exact hz
  · intro i f' x hi hx
    rcases getl i f' hi with h1 | ⟨_, rfl⟩
    · have := h.lies i f' x h1 hx; omega
    · have := hl x hx; omega
  · intro i j f1 f2 x y h1 h2 hij hx hy
    rcases getl i f1 h1 with k1 | ⟨e1, q1⟩
    · rcases getl j f2 h2 with k2 | ⟨e2, q2⟩
      · exact h.apart i j f1 f2 x y k1 k2 hij hx hy
      · have := h.lies i f1 x k1 hx; rw [q2] at hy; have := hap y hy; omega
    · rcases getl j f2 h2 with k2 | ⟨e2, q2⟩
      · have := h.lies j f2 y k2 hy; rw [q1] at hx; have := hap x hx; omega
      · omega
  · intro i f' hi hx
    rcases getl i f' hi with h1 | ⟨_, rfl⟩
    · exact h.bnil i f' h1 hx
    · exact hnil hx

end Go.Proofs.Ytopkihgdemcneaa
