/- What is proved here: what the program's packing of an update answers, for every update with lists of at most 1048576 elements. -/
import Derived.Test.YtohngojiomgoeaaDoorUpPack2
import Derived.Test.YtohngojiomgoeaaDoorUpLaw
namespace Go.Proofs.YtohngojiomgoeaaDoor
open Go.RowKit Go.Sort
set_option linter.unusedVariables false

/-- The bytes of an update. -/
def upB (gs : List (Int × Int)) (has : Bool) (o : Int) (xs : List Int) (nx md lc : Int) (rs : List (Int × Int)) : List Int :=
  [(gs.length : Int)] ++ pxB gs ++ (if has = true then atB o xs nx md lc ++ pxB rs else [])

theorem uf_ok {gs rs : List (Int × Int)} {has : Bool} {o nx md lc : Int} {xs : List Int} (h : uf gs has o xs nx md lc rs = 0) :
    gs.length ≤ 8 ∧ rs.length ≤ 8 ∧ lf gs = 0 ∧ lf rs = 0 ∧ (has = true → 0 < rs.length ∧ af o xs nx md lc = 0) ∧ (has = false → rs.length = 0 ∧ ZaP o xs nx md lc) := by
  unfold uf at h
  split at h
  · cases h
  · rename_i h8
    split at h
    · contradiction
    · rename_i hg
      split at h
      · contradiction
      · rename_i hr
        split at h
        · cases h
        · rename_i hh
          simp only [ne_eq, Decidable.not_not] at hg hr hh
          refine ⟨by omega, by omega, hg, hr, ?_, ?_⟩
          · intro ht
            subst ht
            simp at h hh
            exact ⟨hh, h⟩
          · intro ht
            subst ht
            have h' := h
            simp at hh
            refine ⟨by simpa using hh, ?_⟩
            by_cases hz : ZaP o xs nx md lc
            · exact hz
            · rw [if_neg (by simp), if_neg hz] at h'
              cases h'

theorem pxB_bd : ∀ {ps : List (Int × Int)}, (∀ p ∈ ps, pf p.1 p.2 = 0) → ∀ z ∈ pxB ps, 0 ≤ z ∧ z ≤ 255
  | [], _ => by simp [pxB]
  | p :: r, h => by
    obtain ⟨h0, h1, h2, h3, _⟩ := pf_ok (h p (by simp))
    have ih := pxB_bd (ps := r) (fun q hq => h q (by simp [hq]))
    intro z hz
    simp only [pxB, List.flatMap_cons, List.mem_append, List.mem_cons, List.not_mem_nil, or_false] at hz
    rcases hz with (rfl | rfl | rfl) | hz
    · omega
    · omega
    · omega
    · exact ih z (by simpa [pxB] using hz)
theorem nsB_bd : ∀ {xs : List Int}, (∀ x ∈ xs, 0 ≤ x ∧ x ≤ 65535) → ∀ z ∈ nsB xs, 0 ≤ z ∧ z ≤ 255
  | [], _ => by simp [nsB]
  | p :: r, h => by
    have hp := h p (by simp)
    have ih := nsB_bd (xs := r) (fun q hq => h q (by simp [hq]))
    intro z hz
    simp only [nsB, List.flatMap_cons, List.mem_append, List.mem_cons, List.not_mem_nil, or_false] at hz
    rcases hz with (rfl | rfl) | hz
    · omega
    · omega
    · exact ih z (by simpa [nsB] using hz)
theorem atB_bd {o nx md lc : Int} {xs : List Int} (h : af o xs nx md lc = 0) : ∀ z ∈ atB o xs nx md lc, 0 ≤ z ∧ z ≤ 255 := by
  obtain ⟨⟨⟨ho0, ho2⟩, ⟨hx0, hx1⟩, ⟨hm0, hm1⟩, ⟨hl0, hl1⟩⟩, hk6, hall⟩ := af_ok h
  intro z hz
  simp only [atB, List.mem_append, List.mem_cons, List.not_mem_nil, or_false] at hz
  rcases hz with ((rfl | hz) | rfl) | rfl | rfl | rfl | rfl | rfl | rfl
  · omega
  · exact nsB_bd (fun x hx => by have := hall x hx; omega) z hz
  all_goals omega
theorem upB_bd {gs rs : List (Int × Int)} {has : Bool} {o nx md lc : Int} {xs : List Int} (h : uf gs has o xs nx md lc rs = 0) : ∀ z ∈ upB gs has o xs nx md lc rs, 0 ≤ z ∧ z ≤ 255 := by
  obtain ⟨h1, h2, h3, h4, h5, _⟩ := uf_ok h
  intro z hz
  unfold upB at hz
  simp only [List.mem_append, List.mem_cons, List.not_mem_nil, or_false] at hz
  rcases hz with (rfl | hz) | hz
  · omega
  · exact pxB_bd (lf_ok h3).2 z hz
  · split at hz
    · rename_i ht
      rcases List.mem_append.1 hz with hz | hz
      · exact atB_bd (h5 ht).2 z hz
      · exact pxB_bd (lf_ok h4).2 z hz
    · simp at hz
theorem upB_len {gs rs : List (Int × Int)} {has : Bool} {o nx md lc : Int} {xs : List Int} : (upB gs has o xs nx md lc rs).length = 1 + gs.length * 3 + (if has = true then xs.length * 2 + 8 + rs.length * 3 else 0) := by
  unfold upB
  split <;> simp [pxB_len, atB_len] <;> omega

/-- What PackUpdate answers: the fault, or the update's bytes in new memory. -/
def UpAns (w : World) (gs : List (Int × Int)) (has : Bool) (o : Int) (xs : List Int) (nx md lc : Int) (rs : List (Int × Int)) (e : Ending) (w' : World) : Prop :=
  ∃ (a : Option Addr) (m cap : Nat) (ys : List Int), e = .returned (.agg #[.int .i64 (uf gs has o xs nx md lc rs), .slice a m cap]) ∧ OwAt w' a m cap ys ∧ (∀ z ∈ ys, 0 ≤ z ∧ z ≤ 255) ∧ (∀ x, a = some x → w.heap.size ≤ x.block ∧ x.block < w'.heap.size) ∧ New w w' ∧
    ys = (if uf gs has o xs nx md lc rs = 0 then upB gs has o xs nx md lc rs else []) ∧ (a = none → m = 0 ∧ cap = 0) ∧ m ≤ 100

theorem PsAt.blk_lt {w : World} {a : Option Addr} {ps : List (Int × Int)} (h : PsAt w a ps) : ∀ x, ps ≠ [] → a = some x → x.block < w.heap.size := by
  intro x hz hx
  obtain ⟨b, off, p, q, e, _, hc, _⟩ := h.at 0 (by cases ps <;> simp_all)
  rw [e] at hx
  obtain rfl := Option.some.inj hx
  exact World.block_lt_of_cell? w _ hc
theorem NsAt.blk_lt {w : World} {a : Option Addr} {xs : List Int} (h : NsAt w a xs) : ∀ x, xs ≠ [] → a = some x → x.block < w.heap.size := by
  intro x hz hx
  obtain ⟨b, off, p, e, _, hc, _⟩ := h.at 0 (by cases xs <;> simp_all)
  rw [e] at hx
  obtain rfl := Option.some.inj hx
  exact World.block_lt_of_cell? w _ hc

theorem ret_agg2 {x y : Int} {a : Option Addr} {m m' c : Nat} (h : x = y) (hm : m = m') : Ending.returned (.agg #[.int .i64 x, .slice a m c]) = .returned (.agg #[.int .i64 y, .slice a m' c]) := by rw [h, hm]

end Go.Proofs.YtohngojiomgoeaaDoor
