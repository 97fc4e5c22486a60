/- What is proved here: what the copying, the comparing and the counting of attributes answer, for every list of at most 1048576 numbers. What is proved here: what the judging of an update answers, in the program and in its model, for every lists of at most 1048576 elements. What is proved here: what the program's packing of an update answers, for every update with lists of at most 1048576 elements. What is proved here: what the program's packing of attributes answers, for attributes without a fault. What is proved here: what the copying, the comparing and the counting of an update answer, for lists of at most 1048576 elements. What is proved here: what the program's packing of an update answers, for every update with lists of at most 1048576 elements. What is proved here: small facts on lists of numbers of the call's own, for the draws of attributes. No condition. What is proved here: what the drawing of attributes answers: attributes without a fault. What is proved here: small facts on lists of prefixes of the call's own, for the draws of updates. No condition. What is proved here: what the drawing of an update answers: an update without a fault. -/
import Derived.Test.YtdkjgjjkjfeodaaAtFn
import Derived.Test.YtdkjgjjkjfeodaaPackFn
import Derived.Test.YtdkjgjjkjfeodaaAp
import Derived.Lib.SmallJoins
import Derived.Test.YtdkjgjjkjfeodaaPxDraw
import Derived.Deep.RegionLaw
namespace Go.Proofs.Ytdkjgjjkjfeodaa
open Go.RowKit Go.Sort
set_option linter.unusedVariables false

/-- The block g is a row of numbers that a call has made. -/
def OwN (w : World) (g n c : Nat) (xs : List Int) : Prop := w.ownsRow 0 2 1 (.slice (some ⟨g, 0, none⟩) n c) n (xs.map (Value.int .i64))

theorem OwN.len {w : World} {g n c : Nat} {xs : List Int} (h : OwN w g n c xs) : xs.length = n := by simpa using h.1
theorem OwN.lt {w : World} {g n c : Nat} {xs : List Int} (h : OwN w g n c xs) : g < w.heap.size := (World.ownsRow.lt h g rfl).2
theorem OwN.turn {w w' : World} {g n c : Nat} {xs : List Int} {S : Nat → Prop} (h : OwN w g n c xs) (t : Turn S w w') (hS : ¬ S g) : OwN w' g n c xs := own_turn h t hS
theorem OwN.new {w w' : World} {g n c : Nat} {xs : List Int} (h : OwN w g n c xs) (t : New w w') : OwN w' g n c xs := own_new h t
theorem OwN.ns {w : World} {g n c : Nat} {xs : List Int} (h : OwN w g n c xs) (hb : ∀ z ∈ xs, In6 z) : NsAt w (some ⟨g, 0, none⟩) xs := by
  intro i z hz
  have hl := h.len
  have hi : i < xs.length := (List.getElem?_eq_some_iff.1 hz).1
  have hc := World.ownsRow.cellAt h i (by omega)
  refine ⟨g, 0, rfl, ?_, hb z (List.mem_of_getElem? hz)⟩
  rw [Nat.zero_add, hc]
  simp [hz]

theorem New.set_iff {a w : World} {p : Addr} {u : Value} (hp : a.heap.size ≤ p.block) : New a (w.setCell p u) ↔ New a w :=
  ⟨fun h => ⟨h.os, h.tape, h.output, by simpa [World.setCell] using h.size, fun k hk hs => (Below.heap_setCell w p u k (by omega)).symm.trans (h.block k hk hs)⟩, fun h => h.setCell hp u⟩
theorem New.drew_iff {a w : World} : New a w.drew ↔ New a w := ⟨fun h => ⟨h.os, h.tape, h.output, h.size, h.block⟩, fun h => h.drew⟩
theorem OwN.set_iff {w : World} {g n c : Nat} {xs : List Int} {p : Addr} {u : Value} (hp : ¬ p.block = g) : OwN (w.setCell p u) g n c xs ↔ OwN w g n c xs := by
  have hb : (w.setCell p u).heap[g]? = w.heap[g]? := Below.heap_setCell w p u g (fun e => hp e.symm)
  unfold OwN World.ownsRow
  constructor
  · rintro ⟨h1, h2⟩
    refine ⟨h1, ?_⟩
    rcases h2 with h' | ⟨g', cap', cur, h', r⟩
    · exact .inl h'
    · simp only [Value.slice.injEq, Option.some.injEq, Addr.mk.injEq, and_true, true_and] at h'
      obtain ⟨rfl, rfl⟩ := h'
      exact .inr ⟨g, c, cur, rfl, r.1, hb.symm.trans r.2.1, r.2.2⟩
  · rintro ⟨h1, h2⟩
    refine ⟨h1, ?_⟩
    rcases h2 with h' | ⟨g', cap', cur, h', r⟩
    · exact .inl h'
    · simp only [Value.slice.injEq, Option.some.injEq, Addr.mk.injEq, and_true, true_and] at h'
      obtain ⟨rfl, rfl⟩ := h'
      exact .inr ⟨g, c, cur, rfl, r.1, hb.trans r.2.1, r.2.2⟩

theorem Try.infoI64 : (Try.prog.info? 2).map (fun i => (i.zero, i.size, i.bytes)) = some (some (.int .i64 0), 1, 8) := by kernel_rfl

theorem obN (xs : List Int) (k n : Nat) (hn : xs.length = n) (z : Int) (hz : xs[k]? = some z) :
    (((xs.take k).map (Value.int .i64)) ++ List.replicate (n - k) (Value.int .i64 0)).set k (.int .i64 z) = ((xs.take (k + 1)).map (Value.int .i64)) ++ List.replicate (n - (k + 1)) (Value.int .i64 0) := by
  obtain ⟨hk, rfl⟩ := List.getElem?_eq_some_iff.1 hz
  have hl : ((xs.take k).map (Value.int .i64)).length = k := by simp; omega
  rw [List.set_append_right _ _ (by omega), hl, Nat.sub_self, show n - k = (n - (k + 1)) + 1 by omega, List.replicate_succ, List.set_cons_zero, List.take_succ_eq_append_getElem hk]
  simp only [List.map_append, List.map_cons, List.map_nil, List.append_assoc, List.singleton_append]

end Go.Proofs.Ytdkjgjjkjfeodaa

namespace Go.Proofs.Ytdkjgjjkjfeodaa
open Go.RowKit Go.Sort
set_option linter.unusedVariables false

/-- The fault of an update. -/
def uf (gs : List (Int × Int)) (has : Bool) (o : Int) (xs : List Int) (nx md lc : Int) (rs : List (Int × Int)) : Int :=
  if 8 < gs.length ∨ 8 < rs.length then 2 else if lf gs ≠ 0 then lf gs else if lf rs ≠ 0 then lf rs
  else if has ≠ decide (0 < rs.length) then 1 else if has then af o xs nx md lc else if ZaP o xs nx md lc then 0 else 1

theorem lfc_three : ∀ ps : List (Int × Int), lfc ps = 0 ∨ lfc ps = 1 ∨ lfc ps = 3
  | [] => .inl rfl
  | p :: r => by
    unfold lfc
    split
    · exact lfc_three r
    · rcases pf_three p.1 p.2 with h | h | h
      · contradiction
      · exact .inr (.inl h)
      · exact .inr (.inr h)
theorem lf_four (ps : List (Int × Int)) : lf ps = 0 ∨ lf ps = 1 ∨ lf ps = 2 ∨ lf ps = 3 := by
  unfold lf
  split
  · exact .inr (.inr (.inl rfl))
  · rcases lfc_three ps with h | h | h
    · exact .inl h
    · exact .inr (.inl h)
    · exact .inr (.inr (.inr h))

theorem uf_many {gs rs : List (Int × Int)} {has : Bool} {o nx md lc : Int} {xs : List Int} (h : 8 < gs.length ∨ 8 < rs.length) : uf gs has o xs nx md lc rs = 2 := if_pos h
theorem uf_gone {gs rs : List (Int × Int)} {has : Bool} {o nx md lc : Int} {xs : List Int} (h : ¬ (8 < gs.length ∨ 8 < rs.length)) (h1 : lf gs ≠ 0) : uf gs has o xs nx md lc rs = lf gs := by
  unfold uf; rw [if_neg h, if_pos h1]
theorem uf_reach {gs rs : List (Int × Int)} {has : Bool} {o nx md lc : Int} {xs : List Int} (h : ¬ (8 < gs.length ∨ 8 < rs.length)) (h1 : lf gs = 0) (h2 : lf rs ≠ 0) : uf gs has o xs nx md lc rs = lf rs := by
  unfold uf; rw [if_neg h, if_neg (by simpa using h1), if_pos h2]
theorem uf_rest {gs rs : List (Int × Int)} {has : Bool} {o nx md lc : Int} {xs : List Int} (h : ¬ (8 < gs.length ∨ 8 < rs.length)) (h1 : lf gs = 0) (h2 : lf rs = 0) : uf gs has o xs nx md lc rs = if has ≠ decide (0 < rs.length) then 1 else if has then af o xs nx md lc else if ZaP o xs nx md lc then 0 else 1 := by
  unfold uf; rw [if_neg h, if_neg (by simpa using h1), if_neg (by simpa using h2)]

/-- The cells of an update. -/
def upC (ga : Option Addr) (gn gc : Nat) (has : Bool) (o : Int) (a : Option Addr) (n c : Nat) (nx md lc : Int) (ra : Option Addr) (rn rc : Nat) : Array Value :=
  #[.slice ga gn gc, .bool has, .int .i64 o, .slice a n c, .int .i64 nx, .int .i64 md, .int .i64 lc, .slice ra rn rc]

theorem SaZ {o nx md lc : Int} {xs : List Int} : decide (SaP o xs nx md lc 0 [] 0 0 0) = decide (ZaP o xs nx md lc) := by
  unfold SaP ZaP
  simp only [List.length_eq_zero_iff]
  congr 1
  apply propext
  constructor
  · rintro ⟨h1, h2, h3, h4, h5⟩; exact ⟨h1, h5, h2, h3, h4⟩
  · rintro ⟨h1, h5, h2, h3, h4⟩; exact ⟨h1, h2, h3, h4, h5⟩

end Go.Proofs.Ytdkjgjjkjfeodaa

namespace Go.Proofs.Ytdkjgjjkjfeodaa
open Go.RowKit Go.Sort
set_option linter.unusedVariables false

/-- The block g is a row of bytes that a call has made. -/
def Row8 (w : World) (g n c : Nat) (ys : List Int) : Prop := w.ownsRow 0 5 1 (.slice (some ⟨g, 0, none⟩) n c) n (ys.map (Value.int .u8))
theorem Row8.len {w : World} {g n c : Nat} {ys : List Int} (h : Row8 w g n c ys) : ys.length = n := by simpa using h.1
theorem Row8.lt {w : World} {g n c : Nat} {ys : List Int} (h : Row8 w g n c ys) : g < w.heap.size := (World.ownsRow.lt h g rfl).2
theorem Row8.turn {w w' : World} {g n c : Nat} {ys : List Int} {S : Nat → Prop} (h : Row8 w g n c ys) (t : Turn S w w') (hS : ¬ S g) : Row8 w' g n c ys := own_turn h t hS
theorem Row8.new {w w' : World} {g n c : Nat} {ys : List Int} (h : Row8 w g n c ys) (t : New w w') : Row8 w' g n c ys := own_new h t

/-- The bytes of prefixes. -/
def pxB (ps : List (Int × Int)) : List Int := ps.flatMap fun p => [p.1 / 256, p.1 % 256, p.2]
theorem pxB_snoc (ps : List (Int × Int)) (x y : Int) : pxB (ps ++ [(x, y)]) = pxB ps ++ [x / 256, x % 256, y] := by simp [pxB]
theorem pxB_len : ∀ ps : List (Int × Int), (pxB ps).length = ps.length * 3
  | [] => rfl
  | p :: r => by
    have := pxB_len r
    simp only [pxB, List.flatMap_cons, List.length_append, List.length_cons, List.length_nil] at this ⊢
    omega
/-- The bytes of numbers, two each. -/
def nsB (xs : List Int) : List Int := xs.flatMap fun x => [x / 256, x % 256]
theorem nsB_snoc (xs : List Int) (x : Int) : nsB (xs ++ [x]) = nsB xs ++ [x / 256, x % 256] := by simp [nsB]
theorem nsB_len : ∀ xs : List Int, (nsB xs).length = xs.length * 2
  | [] => rfl
  | p :: r => by
    have := nsB_len r
    simp only [nsB, List.flatMap_cons, List.length_append, List.length_cons, List.length_nil] at this ⊢
    omega

theorem takeP_snoc {ps : List (Int × Int)} {k : Nat} {p : Int × Int} (h : ps[k]? = some p) : ps.take (k + 1) = ps.take k ++ [p] := by
  obtain ⟨hk, rfl⟩ := List.getElem?_eq_some_iff.1 h
  exact List.take_succ_eq_append_getElem hk

end Go.Proofs.Ytdkjgjjkjfeodaa

namespace Go.Proofs.Ytdkjgjjkjfeodaa
open Go.RowKit Go.Sort
set_option linter.unusedVariables false

/-- The bytes of attributes. -/
def atB (o : Int) (xs : List Int) (nx md lc : Int) : List Int := [(xs.length : Int)] ++ nsB xs ++ [o] ++ [nx / 256, nx % 256, md / 256, md % 256, lc / 256, lc % 256]
theorem atB_len (o : Int) (xs : List Int) (nx md lc : Int) : (atB o xs nx md lc).length = xs.length * 2 + 8 := by
  simp [atB, nsB_len]

theorem afc_all : ∀ {xs : List Int}, afc xs = 0 → ∀ x ∈ xs, 1 ≤ x ∧ x ≤ 65535
  | [], _ => by simp
  | y :: r, h => by
    unfold afc at h
    split at h
    · rename_i hy
      intro x hx
      rcases List.mem_cons.1 hx with rfl | hx
      · exact hy
      · exact afc_all h x hx
    · cases h
theorem af_ok {o nx md lc : Int} {xs : List Int} (h : af o xs nx md lc = 0) : Ao o nx md lc ∧ xs.length ≤ 6 ∧ ∀ x ∈ xs, 1 ≤ x ∧ x ≤ 65535 := by
  unfold af at h
  split at h
  · rename_i ho
    split at h
    · cases h
    · exact ⟨ho, by omega, afc_all h⟩
  · cases h

/-- Where bytes that are appended lie: at their old place, or in new memory. -/
theorem grow_at {w w1 : World} {g g1 g2 H : Nat} {v : Value} (h1 : g1 = g ∨ w.heap.size ≤ g1) (hv : v.ownBlock = some g1) (hH : w.heap.size ≤ H) (h : v.ownBlock = some g2 ∨ g2 = H) : g2 = g ∨ w.heap.size ≤ g2 := by
  rcases h with h' | h'
  · rw [hv] at h'
    obtain rfl := Option.some.inj h'
    exact h1
  · right; omega

end Go.Proofs.Ytdkjgjjkjfeodaa

namespace Go.Proofs.Ytdkjgjjkjfeodaa
open Go.RowKit Go.Sort
set_option linter.unusedVariables false

theorem OwP.set_iff {w : World} {g n c : Nat} {ps : List (Int × Int)} {p : Addr} {u : Value} (hp : ¬ p.block = g) : OwP (w.setCell p u) g n c ps ↔ OwP w g n c ps := by
  have hb : (w.setCell p u).heap[g]? = w.heap[g]? := Below.heap_setCell w p u g (fun e => hp e.symm)
  unfold OwP World.ownsRow
  constructor
  · rintro ⟨h1, h2⟩
    refine ⟨h1, ?_⟩
    rcases h2 with h' | ⟨g', cap', cur, h', r⟩
    · exact .inl h'
    · simp only [Value.slice.injEq, Option.some.injEq, Addr.mk.injEq, and_true, true_and] at h'
      obtain ⟨rfl, rfl⟩ := h'
      exact .inr ⟨g, c, cur, rfl, r.1, hb.symm.trans r.2.1, r.2.2⟩
  · rintro ⟨h1, h2⟩
    refine ⟨h1, ?_⟩
    rcases h2 with h' | ⟨g', cap', cur, h', r⟩
    · exact .inl h'
    · simp only [Value.slice.injEq, Option.some.injEq, Addr.mk.injEq, and_true, true_and] at h'
      obtain ⟨rfl, rfl⟩ := h'
      exact .inr ⟨g, c, cur, rfl, r.1, hb.trans r.2.1, r.2.2⟩

theorem Turn.here {a w : World} {B j : Nat} (h : Turn (fun k => k = B) a w) (u : Value) : Turn (fun k => k = B) a (w.setCell ⟨B, j, none⟩ u) := Turn.set (S := fun k => k = B) h rfl u

end Go.Proofs.Ytdkjgjjkjfeodaa

namespace Go.Proofs.Ytdkjgjjkjfeodaa
open Go.RowKit Go.Sort
set_option linter.unusedVariables false

/-- The bytes of an update. -/
def upB (gs : List (Int × Int)) (has : Bool) (o : Int) (xs : List Int) (nx md lc : Int) (rs : List (Int × Int)) : List Int :=
  [(gs.length : Int)] ++ pxB gs ++ (if has = true then atB o xs nx md lc ++ pxB rs else [])

theorem uf_ok {gs rs : List (Int × Int)} {has : Bool} {o nx md lc : Int} {xs : List Int} (h : uf gs has o xs nx md lc rs = 0) :
    gs.length ≤ 8 ∧ rs.length ≤ 8 ∧ lf gs = 0 ∧ lf rs = 0 ∧ (has = true → 0 < rs.length ∧ af o xs nx md lc = 0) ∧ (has = false → rs.length = 0 ∧ ZaP o xs nx md lc) := by
  unfold uf at h
  split at h
  · cases h
  · rename_i h8
    split at h
    · contradiction
    · rename_i hg
      split at h
      · contradiction
      · rename_i hr
        split at h
        · cases h
        · rename_i hh
          simp only [ne_eq, Decidable.not_not] at hg hr hh
          refine ⟨by omega, by omega, hg, hr, ?_, ?_⟩
          · intro ht
            subst ht
            simp at h hh
            exact ⟨hh, h⟩
          · intro ht
            subst ht
            have h' := h
            simp at hh
            refine ⟨by simpa using hh, ?_⟩
            by_cases hz : ZaP o xs nx md lc
            · exact hz
            · rw [if_neg (by simp), if_neg hz] at h'
              cases h'

theorem pxB_bd : ∀ {ps : List (Int × Int)}, (∀ p ∈ ps, pf p.1 p.2 = 0) → ∀ z ∈ pxB ps, 0 ≤ z ∧ z ≤ 255
  | [], _ => by simp [pxB]
  | p :: r, h => by
    obtain ⟨h0, h1, h2, h3, _⟩ := pf_ok (h p (by simp))
    have ih := pxB_bd (ps := r) (fun q hq => h q (by simp [hq]))
    intro z hz
    simp only [pxB, List.flatMap_cons, List.mem_append, List.mem_cons, List.not_mem_nil, or_false] at hz
    rcases hz with (rfl | rfl | rfl) | hz
    · omega
    · omega
    · omega
    · exact ih z (by simpa [pxB] using hz)
theorem nsB_bd : ∀ {xs : List Int}, (∀ x ∈ xs, 0 ≤ x ∧ x ≤ 65535) → ∀ z ∈ nsB xs, 0 ≤ z ∧ z ≤ 255
  | [], _ => by simp [nsB]
  | p :: r, h => by
    have hp := h p (by simp)
    have ih := nsB_bd (xs := r) (fun q hq => h q (by simp [hq]))
    intro z hz
    simp only [nsB, List.flatMap_cons, List.mem_append, List.mem_cons, List.not_mem_nil, or_false] at hz
    rcases hz with (rfl | rfl) | hz
    · omega
    · omega
    · exact ih z (by simpa [nsB] using hz)
theorem atB_bd {o nx md lc : Int} {xs : List Int} (h : af o xs nx md lc = 0) : ∀ z ∈ atB o xs nx md lc, 0 ≤ z ∧ z ≤ 255 := by
  obtain ⟨⟨⟨ho0, ho2⟩, ⟨hx0, hx1⟩, ⟨hm0, hm1⟩, ⟨hl0, hl1⟩⟩, hk6, hall⟩ := af_ok h
  intro z hz
  simp only [atB, List.mem_append, List.mem_cons, List.not_mem_nil, or_false] at hz
  rcases hz with ((rfl | hz) | rfl) | rfl | rfl | rfl | rfl | rfl | rfl
  · omega
  · exact nsB_bd (fun x hx => by have := hall x hx; omega) z hz
  all_goals omega
theorem upB_bd {gs rs : List (Int × Int)} {has : Bool} {o nx md lc : Int} {xs : List Int} (h : uf gs has o xs nx md lc rs = 0) : ∀ z ∈ upB gs has o xs nx md lc rs, 0 ≤ z ∧ z ≤ 255 := by
  obtain ⟨h1, h2, h3, h4, h5, _⟩ := uf_ok h
  intro z hz
  unfold upB at hz
  simp only [List.mem_append, List.mem_cons, List.not_mem_nil, or_false] at hz
  rcases hz with (rfl | hz) | hz
  · omega
  · exact pxB_bd (lf_ok h3).2 z hz
  · split at hz
    · rename_i ht
      rcases List.mem_append.1 hz with hz | hz
      · exact atB_bd (h5 ht).2 z hz
      · exact pxB_bd (lf_ok h4).2 z hz
    · simp at hz
theorem upB_len {gs rs : List (Int × Int)} {has : Bool} {o nx md lc : Int} {xs : List Int} : (upB gs has o xs nx md lc rs).length = 1 + gs.length * 3 + (if has = true then xs.length * 2 + 8 + rs.length * 3 else 0) := by
  unfold upB
  split <;> simp [pxB_len, atB_len] <;> omega

/-- What PackUpdate answers: the fault, or the update's bytes in new memory. -/
def UpAns (w : World) (gs : List (Int × Int)) (has : Bool) (o : Int) (xs : List Int) (nx md lc : Int) (rs : List (Int × Int)) (e : Ending) (w' : World) : Prop :=
  ∃ (a : Option Addr) (m cap : Nat) (ys : List Int), e = .returned (.agg #[.int .i64 (uf gs has o xs nx md lc rs), .slice a m cap]) ∧ OwAt w' a m cap ys ∧ (∀ z ∈ ys, 0 ≤ z ∧ z ≤ 255) ∧ (∀ x, a = some x → w.heap.size ≤ x.block ∧ x.block < w'.heap.size) ∧ New w w' ∧
    ys = (if uf gs has o xs nx md lc rs = 0 then upB gs has o xs nx md lc rs else []) ∧ (a = none → m = 0 ∧ cap = 0) ∧ m ≤ 100

theorem PsAt.blk_lt {w : World} {a : Option Addr} {ps : List (Int × Int)} (h : PsAt w a ps) : ∀ x, ps ≠ [] → a = some x → x.block < w.heap.size := by
  intro x hz hx
  obtain ⟨b, off, p, q, e, _, hc, _⟩ := h.at 0 (by cases ps <;> simp_all)
  rw [e] at hx
  obtain rfl := Option.some.inj hx
  exact World.block_lt_of_cell? w _ hc
theorem NsAt.blk_lt {w : World} {a : Option Addr} {xs : List Int} (h : NsAt w a xs) : ∀ x, xs ≠ [] → a = some x → x.block < w.heap.size := by
  intro x hz hx
  obtain ⟨b, off, p, e, _, hc, _⟩ := h.at 0 (by cases xs <;> simp_all)
  rw [e] at hx
  obtain rfl := Option.some.inj hx
  exact World.block_lt_of_cell? w _ hc

theorem ret_agg2 {x y : Int} {a : Option Addr} {m m' c : Nat} (h : x = y) (hm : m = m') : Ending.returned (.agg #[.int .i64 x, .slice a m c]) = .returned (.agg #[.int .i64 y, .slice a m' c]) := by rw [h, hm]

end Go.Proofs.Ytdkjgjjkjfeodaa

namespace Go.Proofs.Ytdkjgjjkjfeodaa
open Go.RowKit Go.Sort
set_option linter.unusedVariables false

section
variable {P : Program} {t e : TypeId} {i : TypeInfo}
/-- Appending, at a drawn step, onto a list that the call owns. -/
theorem step_apV (w : World) {ops : Array Oper} {o : Oper} {a : Act} {K : Act → World → Prop} {Q : Exit → Act → World → Prop} {E : Prop} (hgd : o.guard = none) (s x : Operand)
    (ho : o.op = .call { callee := .builtin .append, args := #[s, x], argTypes := #[t, t] }) (base : Nat) (zero : Value) (ht : P.underlying t = some (.slice e)) (hi : P.info? e = some i) (hz : i.zero = some zero) (hs : i.size = 1) (hb : i.bytes = 8) (hz1 : zero.cells.size = 1)
    (v : Value) (n : Nat) (xs : List Value) (hsv : a.eval s = v) (hown : w.ownsRow base e 1 v n xs)
    (ad : Addr) (u : Value) (hxv : a.eval x = .slice (some ad) 1 1) (hsrc : w.cell? (ad.add 0) = some u) (hu : u.oneCell' = true)
    (hle : n + 1 ≤ 4194304) (hbase : base ≤ w.heap.size)
    (h : ∀ v' w', w'.ownsRow base e 1 v' (n + 1) (xs ++ [u]) → w.grownBy w' v.ownBlock → K (a.put o.dst v') w') :
    if Region.wanted o (yielded ops a.tmps) = true then Oper.wp P o a w K Q else E := by
  have hw : Region.wanted o (yielded ops a.tmps) = true := by simp [Region.wanted, hgd]
  rw [if_pos hw]
  have hnews : ∀ j y, [u][j]? = some y → w.cell? (ad.add j) = some y := by
    intro j y hy
    match j, hy with
    | 0, hy => simp at hy; subst hy; exact hsrc
  obtain ⟨v', w', hr, h2, h3, _, _⟩ := run_append_own_at (P := P) w base t o.type e i zero 1 8 ht hi hz hs hb hz1 (by decide) v n xs hown ad 1 1 [u] rfl hnews (by simpa using hu) (by unfold maxLen; omega) (by omega) hbase
  unfold Oper.wp execOp
  simp only [ho, resolve, invoke, builtin, Sem.run_bind, Sem.run_pure, Result.andThen_ok, List.map_toArray, List.map_cons, List.map_nil, hsv, hxv, hr]
  exact h v' w' h2 h3
end

/-- A list of numbers in memory of the call's own, or nil for none. -/
def OwM (w : World) (lo : Nat) (v : Value) (L : List Int) : Prop := (v = .slice none 0 0 ∧ L = []) ∨ ∃ g c, v = .slice (some ⟨g, 0, none⟩) L.length c ∧ lo ≤ g ∧ OwN w g L.length c L
theorem OwM.new {w w' : World} {lo : Nat} {v : Value} {L : List Int} (h : OwM w lo v L) (t : New w w') : OwM w' lo v L := by
  rcases h with h | ⟨g, c, h1, h2, h3⟩
  · exact .inl h
  · exact .inr ⟨g, c, h1, h2, h3.new t⟩
theorem OwM.of_own {w : World} {lo n : Nat} {v : Value} {L : List Int} (h : w.ownsRow lo 2 1 v n (L.map (Value.int .i64))) (hn : L.length = n) : OwM w lo v L := by
  subst hn
  rcases Joins.ownsRow_forms h with ⟨rfl, h0⟩ | ⟨g, cap, rfl⟩
  · exact .inl ⟨rfl, List.eq_nil_of_length_eq_zero h0⟩
  · exact .inr ⟨g, cap, rfl, (World.ownsRow.lt h g rfl).1, own_base h⟩
theorem OwM.ns {w : World} {lo : Nat} {v : Value} {L : List Int} (h : OwM w lo v L) (hb : ∀ z ∈ L, In6 z) : ∃ a c, v = .slice a L.length c ∧ NsAt w a L ∧ (∀ x, a = some x → lo ≤ x.block ∧ x.block < w.heap.size) := by
  rcases h with ⟨rfl, rfl⟩ | ⟨g, c, rfl, hg, ho⟩
  · exact ⟨none, 0, rfl, NsAt.nil _ _, by intro x hx; cases hx⟩
  · exact ⟨_, c, rfl, ho.ns hb, by intro x hx; obtain rfl := Option.some.inj hx; exact ⟨hg, ho.lt⟩⟩

theorem own_newN {w w' : World} {base n : Nat} {v : Value} {xs : List Value} (h : w.ownsRow base 2 1 v n xs) (t : New w w') : w'.ownsRow base 2 1 v n xs := by
  refine ⟨h.1, ?_⟩
  rcases h.2 with h' | ⟨g', cap', cur, h', hb, hh, r⟩
  · exact .inl h'
  · have hlt : g' < w.heap.size := (Array.getElem?_eq_some_iff.1 hh).1
    exact .inr ⟨g', cap', cur, h', hb, (t.block g' hlt (fun f => f)).trans hh, r⟩
theorem own_blkN {w : World} {base n : Nat} {v : Value} {xs : List Value} (h : w.ownsRow base 2 1 v n xs) : ∀ k, v.ownBlock = some k → base ≤ k := by
  intro k hk
  rcases Joins.ownsRow_forms h with ⟨rfl, _⟩ | ⟨g, cap, rfl⟩
  · simp [Value.ownBlock] at hk
  · simp [Value.ownBlock] at hk
    subst hk
    exact (World.ownsRow.lt h g rfl).1
theorem own_setN {w : World} {base n : Nat} {v : Value} {xs : List Value} {p : Addr} {u : Value} (h : w.ownsRow base 2 1 v n xs) (hp : p.block < base) : (w.setCell p u).ownsRow base 2 1 v n xs := by
  refine ⟨h.1, ?_⟩
  rcases h.2 with h' | ⟨g', cap', cur, h', hb, hh, r⟩
  · exact .inl h'
  · exact .inr ⟨g', cap', cur, h', hb, (Below.heap_setCell w p u g' (by omega)).trans hh, r⟩

theorem own_setN_iff {w : World} {base n : Nat} {v : Value} {xs : List Value} {p : Addr} {u : Value} (hp : p.block < base) : (w.setCell p u).ownsRow base 2 1 v n xs ↔ w.ownsRow base 2 1 v n xs := by
  refine ⟨fun h => ⟨h.1, ?_⟩, fun h => own_setN h hp⟩
  rcases h.2 with h' | ⟨g', cap', cur, h', hb, hh, r⟩
  · exact .inl h'
  · exact .inr ⟨g', cap', cur, h', hb, (Below.heap_setCell w p u g' (by omega)).symm.trans hh, r⟩

theorem own_sliceN {w : World} {base n : Nat} {v : Value} {xs : List Value} (h : w.ownsRow base 2 1 v n xs) : ∃ a c, v = .slice a n c := by
  rcases h.2 with ⟨rfl, rfl⟩ | ⟨g, cap, cur, rfl, _⟩
  · exact ⟨none, 0, rfl⟩
  · exact ⟨_, cap, rfl⟩

theorem OwM.low {w : World} {lo lo' : Nat} {v : Value} {L : List Int} (h : OwM w lo v L) (hb : lo' ≤ lo) : OwM w lo' v L := by
  rcases h with h | ⟨g, c, h1, h2, h3⟩
  · exact .inl h
  · exact .inr ⟨g, c, h1, by omega, h3⟩
theorem OwM.turn {w w' : World} {lo : Nat} {v : Value} {L : List Int} {S : Nat → Prop} (h : OwM w lo v L) (t : Turn S w w') (hS : ∀ g, lo ≤ g → ¬ S g) : OwM w' lo v L := by
  rcases h with h | ⟨g, c, h1, h2, h3⟩
  · exact .inl h
  · exact .inr ⟨g, c, h1, h2, h3.turn t (hS g h2)⟩

/-- Three lists of the call's own, in memory that they do not share. -/
theorem OwM.blk {w : World} {lo : Nat} {v : Value} {L : List Int} (h : OwM w lo v L) : ∀ b, v.ownBlock = some b → lo ≤ b ∧ b < w.heap.size := by
  intro b hb
  rcases h with ⟨rfl, _⟩ | ⟨g, c, rfl, h2, h3⟩
  · cases hb
  · obtain rfl := Option.some.inj hb
    exact ⟨h2, h3.lt⟩

theorem OwM.slice {w : World} {lo : Nat} {v : Value} {L : List Int} (h : OwM w lo v L) : ∃ a c, v = .slice a L.length c := by
  rcases h with ⟨rfl, rfl⟩ | ⟨g, c, rfl, _⟩
  · exact ⟨none, 0, rfl⟩
  · exact ⟨_, c, rfl⟩

theorem OwM.turnB' {w w' : World} {lo : Nat} {v : Value} {L : List Int} {S : Nat → Prop} (h : OwM w lo v L) (t : Turn S w w') (hS : ∀ g, v.ownBlock = some g → ¬ S g) : OwM w' lo v L := by
  rcases h with h | ⟨g, c, h1, h2, h3⟩
  · exact .inl h
  · exact .inr ⟨g, c, h1, h2, h3.turn t (hS g (by rw [h1]; rfl))⟩

end Go.Proofs.Ytdkjgjjkjfeodaa

namespace Go.Proofs.Ytdkjgjjkjfeodaa
open Go.RowKit Go.Sort
set_option linter.unusedVariables false

theorem afc_of : ∀ {xs : List Int}, (∀ x ∈ xs, 1 ≤ x ∧ x ≤ 65535) → afc xs = 0
  | [], _ => rfl
  | x :: r, h => by
    unfold afc
    rw [if_pos (h x (by simp))]
    exact afc_of (fun y hy => h y (by simp [hy]))
theorem af_of {o nx md lc : Int} {xs : List Int} (ho : Ao o nx md lc) (hl : xs.length ≤ 6) (hx : ∀ x ∈ xs, 1 ≤ x ∧ x ≤ 65535) : af o xs nx md lc = 0 := by
  unfold af
  rw [if_pos ho, if_neg (by omega)]
  exact afc_of hx
theorem own_turnN {w w' : World} {base n : Nat} {v : Value} {xs : List Value} {S : Nat → Prop} (h : w.ownsRow base 2 1 v n xs) (t : Turn S w w') (hS : ∀ g, v.ownBlock = some g → ¬ S g) : w'.ownsRow base 2 1 v n xs := by
  refine ⟨h.1, ?_⟩
  rcases h.2 with h' | ⟨g', cap', cur, h', hb, hh, r⟩
  · exact .inl h'
  · have hlt : g' < w.heap.size := (Array.getElem?_eq_some_iff.1 hh).1
    exact .inr ⟨g', cap', cur, h', hb, (t.block g' hlt (hS g' (by rw [h']; rfl))).trans hh, r⟩

set_option maxRecDepth 100000 in
set_option maxHeartbeats 3200000 in
theorem l3DrawAttrs_sc {B n c t : Nat} {a : Option Addr} {zs : List Int} {w : World} (h : Sc w B a n c zs t) (ht : t ≤ 100000) :
    Calls Try.prog 84 #[.pointer (some ⟨B, 0, none⟩)] w fun e w' => ∃ (o nx md lc : Int) (xs : List Int) (xa : Option Addr) (xc t' : Nat), e = .returned (.agg #[.int .i64 o, .slice xa xs.length xc, .int .i64 nx, .int .i64 md, .int .i64 lc]) ∧ af o xs nx md lc = 0 ∧ xs.length ≤ 3 ∧ t' ≤ t + 30 ∧ OwM w' w.heap.size (.slice xa xs.length xc) xs ∧ Sc w' B a n c zs t' ∧ Turn (fun k => k = B) w w' := by
  obtain ⟨iN, hi, hz0, hz1, hz2⟩ := info_parts Try.infoI64
  have hlt := h.blk.lt
  have hA := h.lt_of
  have hw0 := (New.refl w).alloc (.cells #[.int .i64 0, .slice none 0 0, .int .i64 0, .int .i64 0, .int .i64 0] 100)
  have bR0 := Blk.mk w w.heap.size 100 #[.int .i64 0, .slice none 0 0, .int .i64 0, .int .i64 0, .int .i64 0] rfl
  have hRB : ¬ w.heap.size = B := by omega
  go_enter Try.func84, Try.ntmps84
  go_wp2_with fail
  refine (next_sc (h.new hw0) 3 (by omega) (by omega)).mono ?_
  rintro e w1 ⟨r1, rfl, ⟨p1, q1, -⟩, hs1, ht1⟩
  have q1 := q1 (by omega)
  go_wp2_with fail
  refine (next_sc hs1 9 (by omega) (by omega)).mono ?_
  rintro e w2 ⟨r2, rfl, ⟨p2, q2, -⟩, hs2, ht2⟩
  have q2 := q2 (by omega)
  go_wp2_with fail
  refine (next_sc hs2 5 (by omega) (by omega)).mono ?_
  rintro e w3 ⟨r3, rfl, ⟨p3, q3, -⟩, hs3, ht3⟩
  have q3 := q3 (by omega)
  have hal3 := (New.refl w3).alloc (.cells #[.int .i64 0, .int .i64 r3] 2)
  have hbl3 := Blk.mk w3 w3.heap.size 2 #[.int .i64 0, .int .i64 r3] rfl
  go_wp2_with fail
  refine (pick_sc (hs3.new hal3) [0, r3] hbl3 2 rfl (by omega) (by omega) (by omega)).mono ?_
  rintro e w4 ⟨x4, rfl, hx4, hs4, ht4⟩
  have hx4' : 0 ≤ x4 ∧ x4 ≤ 4 := by
    simp only [List.mem_cons, List.not_mem_nil, or_false] at hx4
    rcases hx4 with rfl | rfl <;> omega
  have t14 := Turn.both (Turn.both (Turn.both (hw0.turn (S := fun k => k = B)) ht1) (Turn.both ht2 ht3)) (Turn.both (hal3.turn (S := fun k => k = B)) ht4)
  clear hx4 hal3 hbl3 hs1 hs2 hs3
  go_wp2_with fail
  refine (next_sc hs4 20 (by omega) (by omega)).mono ?_
  rintro e w5 ⟨r5, rfl, ⟨p5, q5, -⟩, hs5, ht5⟩
  have q5 := q5 (by omega)
  have hal5 := (New.refl w5).alloc (.cells #[.int .i64 100, .int .i64 100, .int .i64 (90 + r5)] 2)
  have hbl5 := Blk.mk w5 w5.heap.size 2 #[.int .i64 100, .int .i64 100, .int .i64 (90 + r5)] rfl
  go_wp2_with fail
  refine (pick_sc (hs5.new hal5) [100, 100, 90 + r5] hbl5 3 rfl (by omega) (by omega) (by omega)).mono ?_
  rintro e w6 ⟨x6, rfl, hx6, hs6, ht6⟩
  have hx6' : 0 ≤ x6 ∧ x6 ≤ 200 := by
    simp only [List.mem_cons, List.not_mem_nil, or_false] at hx6
    rcases hx6 with rfl | rfl | rfl <;> omega
  have t16 := Turn.both t14 (Turn.both ht5 (Turn.both (hal5.turn (S := fun k => k = B)) ht6))
  have tR := Turn.both (Turn.both ht1 (Turn.both ht2 ht3)) (Turn.both (((New.refl w3).alloc (.cells #[.int .i64 0, .int .i64 r3] 2)).turn (S := fun k => k = B)) ht4)
  have bR6 := ((((bR0.turn tR hRB).turn ht5 hRB).new hal5).turn ht6 hRB)
  clear hx6 hal5 hbl5 hs4 hs5 ht1 ht2 ht3 ht4 ht5 ht6 t14 bR0 tR hw0
  have s6 := t16.size
  have hal6 := (New.refl w6).alloc (.cells #[.int .i64 r1, .slice none 0 0, .int .i64 r2, .int .i64 x4, .int .i64 x6] 100)
  have bA6 := Blk.mk w6 w6.heap.size 100 #[.int .i64 r1, .slice none 0 0, .int .i64 r2, .int .i64 x4, .int .i64 x6] rfl
  have lR6 := bR6.lt
  have lB6 := hs6.blk.lt
  go_wp2_with fail
  refine (next_sc (hs6.new hal6) 4 (by omega) (by omega)).mono ?_
  rintro e w7 ⟨r7, rfl, ⟨p7, q7, -⟩, hs7, ht7⟩
  have q7 := q7 (by omega)
  obtain ⟨k0, rfl⟩ := Int.eq_ofNat_of_zero_le p7
  have bA7 := bA6.turn ht7 (by omega)
  have bR7 := (bR6.new hal6).turn ht7 hRB
  have t17 := Turn.both t16 (Turn.both (hal6.turn (S := fun k => k = B)) ht7)
  clear bA6 bR6 hs6 t16 hal6 ht7
  go_wp2_with fail
  go_loopw [4] (fun s wr => ∃ (k t' m : Nat) (v : Value) (xs : List Int), s = .int .i64 (k : Int) ∧ k ≤ 3 ∧ m + k ≤ 3 ∧ (∀ x ∈ xs, 1 ≤ x ∧ x ≤ 65535) ∧ t' + 3 * k ≤ t + 30 ∧ wr.ownsRow (w6.heap.size + 1) 2 1 v m (xs.map (Value.int .i64)) ∧ Blk wr w.heap.size 100 #[.int .i64 0, .slice none 0 0, .int .i64 0, .int .i64 0, .int .i64 0] ∧ Blk wr w6.heap.size 100 #[.int .i64 r1, v, .int .i64 r2, .int .i64 x4, .int .i64 x6] ∧ Sc wr B a n c zs t' ∧ Turn (fun k => k = B) w wr) (fun s _ => (intOf s).toNat)
  case atStart => exact ⟨k0, _, 0, .slice none 0 0, [], rfl, by omega, by omega, by simp, by omega, ⟨rfl, .inl ⟨rfl, rfl⟩⟩, bR7, bA7, hs7, t17⟩
  case round =>
    clear bR7 bA7 hs7 t17
    obtain ⟨k, t', m, v, xs, rfl, hk, hmk, hxs, ht', hown, bR, bA, hsc, htn⟩ := hrel
    have hblk := own_blkN hown
    obtain ⟨va, vc, rfl⟩ := own_sliceN hown
    have cA := bA.cells
    have fA := bA.frees
    have hal := bA.lt
    have hml : xs.length = m := by simpa using hown.1
    have HML : Hid (xs.length = m) := hml
    clear hml
    by_cases hlt0 : 0 < k
    · have hd0 := hsc.new ((New.refl _).drew)
      go_wp2_with fail
      go_region_law (first
        | (refine step_apV _ rfl (.tmp 28) (.tmp 38) rfl (w6.heap.size + 1) (.int .i64 0) Try.underlying79 hi hz0 hz1 hz2 rfl (.slice va m vc) m _ rfl (own3.alloc _) ⟨_, 0, none⟩ (.int .i64 x3) rfl (by simp [Addr.add]) rfl (by omega) (by first | omega | (simp; omega)) ?_; intro v' w4' ho4 hgr4; obtain ⟨g4, c4, rfl⟩ := Joins.ownsRow_form ho4 (by omega); have bA4 := (bA3.alloc (.cells #[.int .i64 x3] 2)).grow hgr4 (fun e => by have := hblk _ e; omega); have cA4 := bA4.cells; have fA4 := bA4.frees)
        | (go_simp; go_at_call 31; refine (pick_sc (hsB.new ((New.refl _).alloc (.cells #[.int .i64 (1 + y1), .int .i64 (1 + y2), .int .i64 65535] 2))) [1 + y1, 1 + y2, 65535] (Blk.mk v2 v2.heap.size 2 #[.int .i64 (1 + y1), .int .i64 (1 + y2), .int .i64 65535] rfl) 3 rfl (by omega) (by omega) (by omega)).mono ?_; rintro e v3 ⟨x3, rfl, hx3, hsC, htC⟩; have bA3 := (bA2.alloc (.cells #[.int .i64 (1 + y1), .int .i64 (1 + y2), .int .i64 65535] 2)).turn htC (by omega); have cA3 := bA3.cells; have cA3a := (bA3.alloc (.cells #[.int .i64 x3] 2)).cells; have own3 := own_turnN (own2.alloc (.cells #[.int .i64 (1 + y1), .int .i64 (1 + y2), .int .i64 65535] 2)) htC (fun g hg e => by have := hblk g hg; omega); have s3 : v2.heap.size ≤ v3.heap.size := (by have := htC.size; simp at this; omega))
        | (go_simp; go_at_call 32; refine (next_sc hsA 5 (by omega) (by omega)).mono ?_; rintro e v2 ⟨y2, rfl, ⟨py2, qy2, -⟩, hsB, htB⟩; have qy2 := qy2 (by omega); have hwy2 : IntKind.i64.wrap (1 + y2) = 1 + y2 := wrap_in (by omega); have bA2 := bA1.turn htB (by omega); have cA2 := bA2.cells; have cA2a := (bA2.alloc (.cells #[.int .i64 (1 + y1), .int .i64 (1 + y2), .int .i64 65535] 2)).cells; have own2 := own_turnN own1 htB (fun g hg e => by have := hblk g hg; omega); have s2 := htB.size)
        | (go_simp; go_at_call 32; refine (next_sc hd0 5 (by omega) (by omega)).mono ?_; rintro e v1 ⟨y1, rfl, ⟨py1, qy1, -⟩, hsA, htA⟩; have qy1 := qy1 (by omega); have hwy1 : IntKind.i64.wrap (1 + y1) = 1 + y1 := wrap_in (by omega); have bA1 := (bA.new ((New.refl _).drew)).turn htA (by omega); have cA1 := bA1.cells; have own1 := own_turnN (own_newN hown ((New.refl _).drew)) htA (fun g hg e => by have := hblk g hg; omega); have s1 : wr.heap.size ≤ v1.heap.size := htA.size))
      all_goals
        have hx3' : 1 ≤ x3 ∧ x3 ≤ 65535 := by
          simp only [List.mem_cons, List.not_mem_nil, or_false] at hx3
          rcases hx3 with rfl | rfl | rfl <;> omega
        have tABC : Turn (fun k => k = B) wr v3 := Turn.both (Turn.both (Turn.both (((New.refl wr).drew).turn (S := fun k => k = B)) htA) htB) (Turn.both (((New.refl v2).alloc (.cells #[.int .i64 (1 + y1), .int .i64 (1 + y2), .int .i64 65535] 2)).turn (S := fun k => k = B)) htC)
        have hal3 := (New.refl v3).alloc (.cells #[.int .i64 x3] 2)
        have bR3 := ((bR.turn tABC hRB).new hal3).grow hgr4 (fun e => by have := hblk _ e; omega)
        have tg : Turn (fun k => (Value.slice va m vc).ownBlock = some k) (v3.alloc (.cells #[.int .i64 x3] 2)) w4' := ⟨hgr4.os, hgr4.tape, hgr4.output, hgr4.size, fun k hk hs => hgr4.block k hk (fun e => hs e.symm)⟩
        have sc4 := (hsC.new hal3).turn tg (fun e => by have := hblk _ e; omega) (fun x hz hx e => by have := hA x hz hx; have := hblk _ e; omega)
        have T5 := Turn.here (B := w6.heap.size) (j := 1) (Turn.refl _ w4') (.slice (some ⟨g4, 0, none⟩) (m + 1) c4)
        have sc5 := sc4.turn T5 (by omega) (fun x hz hx e => by have := hA x hz hx; omega)
        have bR5 := bR3.turn T5 (by omega)
        have bA5 := bA4.set 1 (.slice (some ⟨g4, 0, none⟩) (m + 1) c4)
        simp only [List.setIfInBounds_toArray, List.set_cons_zero, List.set_cons_succ] at bA5
        have ho5 : (w4'.setCell ⟨w6.heap.size, 1, none⟩ (.slice (some ⟨g4, 0, none⟩) (m + 1) c4)).ownsRow (w6.heap.size + 1) 2 1 (.slice (some ⟨g4, 0, none⟩) (m + 1) c4) (m + 1) ((xs ++ [x3]).map (Value.int .i64)) := own_setN (by simpa using ho4) (by simp)
        have t5 : Turn (fun k => k = B) w (w4'.setCell ⟨w6.heap.size, 1, none⟩ (.slice (some ⟨g4, 0, none⟩) (m + 1) c4)) := Turn.trans (Turn.trans (Turn.both (Turn.both htn tABC) (hal3.turn (S := fun k => k = B))) tg (fun i hi e => by have := hblk _ e; omega)) T5 (fun i hi e => by omega)
        have hxs5 : ∀ x ∈ xs ++ [x3], 1 ≤ x ∧ x ≤ 65535 := by
          intro x hx
          rcases List.mem_append.1 hx with h | h
          · exact hxs x h
          · simp at h; subst h; exact hx3'
        clear ho4 hgr4 hown bA bR bA1 bA2 bA3 bA4 bR3 cA fA cA1 cA2 cA2a cA3 cA3a cA4 fA4 own1 own2 own3 hsA hsB hsC htA htB htC tABC tg sc4 T5 hal3 hx3 hd0 hsc htn
        go_wp2
        go_roundw
        case rel => exact ⟨k - 1, _, m + 1, _, xs ++ [x3], by go_num, by omega, by omega, hxs5, by omega, ho5, bR5, bA5, sc5, t5⟩
        case measure => simp [intOf]; omega
    · obtain rfl : k = 0 := by omega
      have hM : OwM wr (w6.heap.size + 1) (.slice va m vc) xs := OwM.of_own hown HML.out
      have cR := bR.cells
      have fR := bR.frees
      have lR := bR.lt
      have haf : Hid (af r1 xs r2 x4 x6 = 0) := af_of ⟨by omega, ⟨by omega, by omega⟩, ⟨by omega, by omega⟩, ⟨by omega, by omega⟩⟩ (by rw [HML.out]; omega) hxs
      clear hown
      go_wp2
      refine bodyPost_ret (v := .agg #[.int .i64 r1, .slice va m vc, .int .i64 r2, .int .i64 x4, .int .i64 x6]) (by simp [results, Try.results84, go_sem, cR]) rfl ?_
      refine (fun (hT : Turn (fun k => k = w.heap.size) wr _) => ⟨r1, r2, x4, x6, xs, va, vc, t', by rw [HML.out], haf.out, by rw [HML.out]; omega, by omega, by rw [HML.out]; exact (hM.turn hT (fun g hg e => by omega)).low (by omega), hsc.turn hT (by omega) (fun x hz hx e => by have := hA x hz hx; omega), Turn.trans htn hT (fun i hi e => by omega)⟩) ?_
      exact Turn.here (Turn.here (Turn.here (Turn.here (Turn.here (Turn.refl _ _) _) _) _) _) _

end Go.Proofs.Ytdkjgjjkjfeodaa

namespace Go.Proofs.Ytdkjgjjkjfeodaa
open Go.RowKit Go.Sort
set_option linter.unusedVariables false

/-- A list of prefixes in memory of the call's own, or nil for none. -/
def OwQ (w : World) (lo : Nat) (v : Value) (L : List (Int × Int)) : Prop := (v = .slice none 0 0 ∧ L = []) ∨ ∃ g c, v = .slice (some ⟨g, 0, none⟩) L.length c ∧ lo ≤ g ∧ OwP w g L.length c L
theorem OwQ.new {w w' : World} {lo : Nat} {v : Value} {L : List (Int × Int)} (h : OwQ w lo v L) (t : New w w') : OwQ w' lo v L := by
  rcases h with h | ⟨g, c, h1, h2, h3⟩
  · exact .inl h
  · exact .inr ⟨g, c, h1, h2, h3.new t⟩
theorem OwQ.low {w : World} {lo lo' : Nat} {v : Value} {L : List (Int × Int)} (h : OwQ w lo v L) (hb : lo' ≤ lo) : OwQ w lo' v L := by
  rcases h with h | ⟨g, c, h1, h2, h3⟩
  · exact .inl h
  · exact .inr ⟨g, c, h1, by omega, h3⟩
/-- Its form, and how it reads. -/
theorem OwQ.ps {w : World} {lo : Nat} {v : Value} {L : List (Int × Int)} (h : OwQ w lo v L) (hb : ∀ p ∈ L, In6 p.1 ∧ In6 p.2) : ∃ a c, v = .slice a L.length c ∧ PsAt w a L ∧ (∀ x, a = some x → lo ≤ x.block ∧ x.block < w.heap.size) := by
  rcases h with ⟨rfl, rfl⟩ | ⟨g, c, rfl, hg, ho⟩
  · exact ⟨none, 0, rfl, PsAt.nil _ _, by intro x hx; cases hx⟩
  · exact ⟨_, c, rfl, ho.ps hb, by intro x hx; obtain rfl := Option.some.inj hx; exact ⟨hg, ho.lt⟩⟩
theorem OwQ.of_own {w : World} {lo n : Nat} {v : Value} {L : List (Int × Int)} (h : w.ownsRow lo 112 2 v n (cellsP L)) (hn : L.length = n) : OwQ w lo v L := by
  subst hn
  rcases Joins.ownsRow_forms h with ⟨rfl, h0⟩ | ⟨g, cap, rfl⟩
  · exact .inl ⟨rfl, List.eq_nil_of_length_eq_zero h0⟩
  · exact .inr ⟨g, cap, rfl, (World.ownsRow.lt h g rfl).1, own_base h⟩

theorem own_turnQ {w w' : World} {base n : Nat} {v : Value} {xs : List Value} (h : w.ownsRow base 112 2 v n xs) (t : New w w') : w'.ownsRow base 112 2 v n xs := by
  refine ⟨h.1, ?_⟩
  rcases h.2 with h' | ⟨g', cap', cur, h', hb, hh, r⟩
  · exact .inl h'
  · have hlt : g' < w.heap.size := (Array.getElem?_eq_some_iff.1 hh).1
    exact .inr ⟨g', cap', cur, h', hb, (t.block g' hlt (fun f => f)).trans hh, r⟩

theorem own_blk {w : World} {base n : Nat} {v : Value} {xs : List Value} (h : w.ownsRow base 112 2 v n xs) : ∀ k, v.ownBlock = some k → base ≤ k := by
  intro k hk
  rcases Joins.ownsRow_forms h with ⟨rfl, _⟩ | ⟨g, cap, rfl⟩
  · simp [Value.ownBlock] at hk
  · simp [Value.ownBlock] at hk
    subst hk
    exact (World.ownsRow.lt h g rfl).1

theorem OwQ.turn {w w' : World} {lo : Nat} {v : Value} {L : List (Int × Int)} {S : Nat → Prop} (h : OwQ w lo v L) (t : Turn S w w') (hS : ∀ g, lo ≤ g → ¬ S g) : OwQ w' lo v L := by
  rcases h with h | ⟨g, c, h1, h2, h3⟩
  · exact .inl h
  · exact .inr ⟨g, c, h1, h2, h3.turn t (hS g h2)⟩

/-- Three lists of the call's own, in memory that they do not share. -/
theorem OwQ.nil (w : World) (lo : Nat) : OwQ w lo (.slice none 0 0) [] := .inl ⟨rfl, rfl⟩
theorem OwM.nil (w : World) (lo : Nat) : OwM w lo (.slice none 0 0) [] := .inl ⟨rfl, rfl⟩
theorem OwQ.blk {w : World} {lo : Nat} {v : Value} {L : List (Int × Int)} (h : OwQ w lo v L) : ∀ b, v.ownBlock = some b → lo ≤ b ∧ b < w.heap.size := by
  intro b hb
  rcases h with ⟨rfl, _⟩ | ⟨g, c, rfl, h2, h3⟩
  · cases hb
  · obtain rfl := Option.some.inj hb
    exact ⟨h2, h3.lt⟩

theorem OwQ.slice {w : World} {lo : Nat} {v : Value} {L : List (Int × Int)} (h : OwQ w lo v L) : ∃ a c, v = .slice a L.length c := by
  rcases h with ⟨rfl, rfl⟩ | ⟨g, c, rfl, _⟩
  · exact ⟨none, 0, rfl⟩
  · exact ⟨_, c, rfl⟩

theorem own_slice {w : World} {base n : Nat} {v : Value} {xs : List Value} (h : w.ownsRow base 112 2 v n xs) : ∃ a c, v = .slice a n c ∧ (∀ x, a = some x → base ≤ x.block ∧ x.block < w.heap.size) := by
  rcases h.2 with ⟨rfl, rfl⟩ | ⟨g, cap, cur, rfl, hb, hh, _⟩
  · exact ⟨none, 0, rfl, (by intro x hx; cases hx)⟩
  · refine ⟨_, cap, rfl, ?_⟩
    intro x hx
    obtain rfl := Option.some.inj hx
    exact ⟨hb, (Array.getElem?_eq_some_iff.1 hh).1⟩

theorem own_setQ {w : World} {base n : Nat} {v : Value} {xs : List Value} {p : Addr} {u : Value} (h : w.ownsRow base 112 2 v n xs) (hp : p.block < base) : (w.setCell p u).ownsRow base 112 2 v n xs := by
  refine ⟨h.1, ?_⟩
  rcases h.2 with h' | ⟨g', cap', cur, h', hb, hh, r⟩
  · exact .inl h'
  · exact .inr ⟨g', cap', cur, h', hb, (Below.heap_setCell w p u g' (by omega)).trans hh, r⟩

section
variable {P : Program} {t e : TypeId} {i : TypeInfo}
/-- Appending one prefix, at a drawn step, onto a list that the call owns. -/
theorem step_apR (w : World) {ops : Array Oper} {o : Oper} {a : Act} {K : Act → World → Prop} {Q : Exit → Act → World → Prop} {E : Prop} (hgd : o.guard = none) (s x : Operand)
    (ho : o.op = .call { callee := .builtin .append, args := #[s, x], argTypes := #[t, t] }) (base : Nat) (ht : P.underlying t = some (.slice e)) (hi : P.info? e = some i) (hz : i.zero = some (.agg #[.int .i64 0, .int .i64 0])) (hs : i.size = 2) (hb : i.bytes = 16)
    (v : Value) (n : Nat) (xs : List Value) (hsv : a.eval s = v) (hown : w.ownsRow base e 2 v n xs)
    (ad : Addr) (p q : Int) (hxv : a.eval x = .slice (some ad) 1 1) (h0 : w.cell? (ad.add 0) = some (.int .i64 p)) (h1 : w.cell? (ad.add 1) = some (.int .i64 q))
    (hle : n + 1 ≤ 4194304) (hbase : base ≤ w.heap.size)
    (h : ∀ v' w', w'.ownsRow base e 2 v' (n + 1) (xs ++ [.int .i64 p, .int .i64 q]) → w.grownBy w' v.ownBlock → K (a.put o.dst v') w') :
    if Region.wanted o (yielded ops a.tmps) = true then Oper.wp P o a w K Q else E := by
  have hw : Region.wanted o (yielded ops a.tmps) = true := by simp [Region.wanted, hgd]
  rw [if_pos hw]
  have hnews : ∀ j y, [Value.int .i64 p, Value.int .i64 q][j]? = some y → w.cell? (ad.add j) = some y := by
    intro j y hy
    match j, hy with
    | 0, hy => simp at hy; subst hy; exact h0
    | 1, hy => simp at hy; subst hy; exact h1
  obtain ⟨v', w', hr, h2, h3, _, _⟩ := run_append_own_at (P := P) w base t o.type e i (.agg #[.int .i64 0, .int .i64 0]) 2 16 ht hi hz hs hb rfl (by decide) v n xs hown ad 1 1 [.int .i64 p, .int .i64 q] rfl hnews (by simp [Value.oneCell']) (by unfold maxLen; omega) (by omega) hbase
  unfold Oper.wp execOp
  simp only [ho, resolve, invoke, builtin, Sem.run_bind, Sem.run_pure, Result.andThen_ok, List.map_toArray, List.map_cons, List.map_nil, hsv, hxv, hr]
  exact h v' w' h2 h3
end

theorem lfc_nought : ∀ {ps : List (Int × Int)}, (∀ p ∈ ps, pf p.1 p.2 = 0) → lfc ps = 0
  | [], _ => rfl
  | p :: r, h => by
    unfold lfc
    rw [if_pos (h p (by simp))]
    exact lfc_nought (fun q hq => h q (by simp [hq]))
theorem uf_gs {gs : List (Int × Int)} (h : ∀ p ∈ gs, pf p.1 p.2 = 0) (hl : gs.length ≤ 8) : uf gs false 0 [] 0 0 0 [] = 0 := by
  have h0 : lf gs = 0 := by unfold lf; rw [if_neg (by omega), lfc_nought h]
  unfold uf
  rw [if_neg (by simp; omega), h0]
  simp [lf, lfc, ZaP]

theorem OwM.slice' {w : World} {lo : Nat} {v : Value} {L : List Int} (h : OwM w lo v L) : ∃ a c, v = .slice a L.length c := by
  rcases h with ⟨rfl, rfl⟩ | ⟨g, c, rfl, _⟩
  · exact ⟨none, 0, rfl⟩
  · exact ⟨_, c, rfl⟩
theorem OwQ.slice' {w : World} {lo : Nat} {v : Value} {L : List (Int × Int)} (h : OwQ w lo v L) : ∃ a c, v = .slice a L.length c := by
  rcases h with ⟨rfl, rfl⟩ | ⟨g, c, rfl, _⟩
  · exact ⟨none, 0, rfl⟩
  · exact ⟨_, c, rfl⟩
theorem OwQ.psB {w : World} {lo n c : Nat} {a : Option Addr} {L : List (Int × Int)} (h : OwQ w lo (.slice a n c) L) (hb : ∀ p ∈ L, In6 p.1 ∧ In6 p.2) : PsAt w a L := by
  obtain ⟨a', c', e, hp, -⟩ := h.ps hb
  simp only [Value.slice.injEq] at e
  obtain ⟨rfl, -, rfl⟩ := e
  exact hp
theorem OwM.nsB' {w : World} {lo n c : Nat} {a : Option Addr} {L : List Int} (h : OwM w lo (.slice a n c) L) (hb : ∀ z ∈ L, In6 z) : NsAt w a L := by
  obtain ⟨a', c', e, hp, -⟩ := h.ns hb
  simp only [Value.slice.injEq] at e
  obtain ⟨rfl, -, rfl⟩ := e
  exact hp
theorem pf_in {p : Int × Int} (h : pf p.1 p.2 = 0) : In6 p.1 ∧ In6 p.2 := by
  unfold pf at h
  split at h
  · omega
  · rename_i hh
    unfold In6
    omega

end Go.Proofs.Ytdkjgjjkjfeodaa

namespace Go.Proofs.Ytdkjgjjkjfeodaa
open Go.RowKit Go.Sort
set_option linter.unusedVariables false

theorem own_turnQB {w w' : World} {base n : Nat} {v : Value} {xs : List Value} {S : Nat → Prop} (h : w.ownsRow base 112 2 v n xs) (t : Turn S w w') (hS : ∀ g, v.ownBlock = some g → ¬ S g) : w'.ownsRow base 112 2 v n xs := by
  refine ⟨h.1, ?_⟩
  rcases h.2 with h' | ⟨g', cap', cur, h', hb, hh, r⟩
  · exact .inl h'
  · have hlt : g' < w.heap.size := (Array.getElem?_eq_some_iff.1 hh).1
    exact .inr ⟨g', cap', cur, h', hb, (t.block g' hlt (hS g' (by rw [h']; rfl))).trans hh, r⟩
theorem OwQ.turnB' {w w' : World} {lo : Nat} {v : Value} {L : List (Int × Int)} {S : Nat → Prop} (h : OwQ w lo v L) (t : Turn S w w') (hS : ∀ g, v.ownBlock = some g → ¬ S g) : OwQ w' lo v L := by
  rcases h with h | ⟨g, c, h1, h2, h3⟩
  · exact .inl h
  · exact .inr ⟨g, c, h1, h2, h3.turn t (hS g (by rw [h1]; rfl))⟩
theorem uf_true {gs rs : List (Int × Int)} {o nx md lc : Int} {xs : List Int} (hg : ∀ p ∈ gs, pf p.1 p.2 = 0) (hr : ∀ p ∈ rs, pf p.1 p.2 = 0) (h8 : gs.length ≤ 8) (r8 : rs.length ≤ 8) (r0 : 0 < rs.length) (ha : af o xs nx md lc = 0) : uf gs true o xs nx md lc rs = 0 := by
  have h0 : lf gs = 0 := by unfold lf; rw [if_neg (by omega), lfc_nought hg]
  have h1 : lf rs = 0 := by unfold lf; rw [if_neg (by omega), lfc_nought hr]
  unfold uf
  rw [if_neg (by omega), h0, h1]
  simp [r0, ha]

/-- What the drawing of an update leaves. -/
structure Drawn (w : World) (lo : Nat) (gs : List (Int × Int)) (xs : List Int) (rs : List (Int × Int)) (x y z : Value) : Prop where
  g : OwQ w lo x gs
  n : OwM w lo y xs
  r : OwQ w lo z rs
  lg : gs.length ≤ 3
  ln : xs.length ≤ 7
  lr : rs.length ≤ 4

set_option maxRecDepth 100000 in
set_option maxHeartbeats 6400000 in
theorem l3DrawUpdate_sc {B n c t : Nat} {a : Option Addr} {zs : List Int} {w : World} (h : Sc w B a n c zs t) (ht : t ≤ 10000) :
    Calls Try.prog 79 #[.pointer (some ⟨B, 0, none⟩)] w fun e w' => ∃ (gs rs : List (Int × Int)) (xs : List Int) (has : Bool) (o nx md lc : Int) (x y z : Value) (t' : Nat), e = .returned (.agg #[x, .bool has, .int .i64 o, y, .int .i64 nx, .int .i64 md, .int .i64 lc, z]) ∧ uf gs has o xs nx md lc rs = 0 ∧ gs.length ≤ 2 ∧ xs.length ≤ 3 ∧ rs.length ≤ 3 ∧ t' ≤ t + 200 ∧ OwQ w' w.heap.size x gs ∧ OwM w' w.heap.size y xs ∧ OwQ w' w.heap.size z rs ∧ Sc w' B a n c zs t' ∧ Turn (fun k => k = B) w w' ∧ (∀ b, x.ownBlock = some b → y.ownBlock ≠ some b) ∧ (∀ b, x.ownBlock = some b → z.ownBlock ≠ some b) ∧ (∀ b, y.ownBlock = some b → z.ownBlock ≠ some b) := by
  obtain ⟨iP, hi, hz0, hz1, hz2⟩ := info_parts Try.infoPx
  have hlt := h.blk.lt
  have hA := h.lt_of
  have hw0 := ((New.refl w).alloc (.cells #[.slice none 0 0, .bool false, .int .i64 0, .slice none 0 0, .int .i64 0, .int .i64 0, .int .i64 0, .slice none 0 0] 102)).alloc (.cells #[.slice none 0 0, .bool false, .int .i64 0, .slice none 0 0, .int .i64 0, .int .i64 0, .int .i64 0, .slice none 0 0] 102)
  have bR0 := (Blk.mk w w.heap.size 102 #[.slice none 0 0, .bool false, .int .i64 0, .slice none 0 0, .int .i64 0, .int .i64 0, .int .i64 0, .slice none 0 0] rfl).alloc (.cells #[.slice none 0 0, .bool false, .int .i64 0, .slice none 0 0, .int .i64 0, .int .i64 0, .int .i64 0, .slice none 0 0] 102)
  have bU0 := Blk.mk (w.alloc (.cells #[.slice none 0 0, .bool false, .int .i64 0, .slice none 0 0, .int .i64 0, .int .i64 0, .int .i64 0, .slice none 0 0] 102)) (w.heap.size + 1) 102 #[.slice none 0 0, .bool false, .int .i64 0, .slice none 0 0, .int .i64 0, .int .i64 0, .int .i64 0, .slice none 0 0] (by simp)
  have hRB : ¬ w.heap.size = B := by omega
  have hUB : ¬ w.heap.size + 1 = B := by omega
  go_enter Try.func79, Try.ntmps79
  go_wp2_with fail
  refine (next_sc (h.new hw0) 3 (by omega) (by omega)).mono ?_
  rintro e w1 ⟨r1, rfl, ⟨p1, q1, -⟩, hs1, ht1⟩
  have q1 := q1 (by omega)
  obtain ⟨k0, rfl⟩ := Int.eq_ofNat_of_zero_le p1
  have bR1 := bR0.turn ht1 hRB
  have bU1 := bU0.turn ht1 hUB
  have t01 := Turn.both (hw0.turn (S := fun k => k = B)) ht1
  clear bR0 bU0 hw0 ht1
  go_wp2_with fail
  go_loopw [4] (fun s wr => ∃ (k t' m : Nat) (v : Value) (gs : List (Int × Int)), s = .int .i64 (k : Int) ∧ k ≤ 2 ∧ m + k ≤ 2 ∧ (∀ p ∈ gs, pf p.1 p.2 = 0) ∧ t' + 10 * k ≤ t + 30 ∧ wr.ownsRow (w.heap.size + 2) 112 2 v m (cellsP gs) ∧ Blk wr w.heap.size 102 #[.slice none 0 0, .bool false, .int .i64 0, .slice none 0 0, .int .i64 0, .int .i64 0, .int .i64 0, .slice none 0 0] ∧ Blk wr (w.heap.size + 1) 102 #[v, .bool false, .int .i64 0, .slice none 0 0, .int .i64 0, .int .i64 0, .int .i64 0, .slice none 0 0] ∧ Sc wr B a n c zs t' ∧ Turn (fun k => k = B) w wr) (fun s _ => (intOf s).toNat)
  case atStart => exact ⟨k0, _, 0, .slice none 0 0, [], rfl, by omega, by omega, by simp, by omega, ⟨rfl, .inl ⟨rfl, rfl⟩⟩, bR1, bU1, hs1, t01⟩
  case round =>
    clear bR1 bU1 hs1 t01
    obtain ⟨k, t', m, v, gs, rfl, hk, hmk, hok, ht', hown, bR, bU, hsc, htn⟩ := hrel
    have hblk := own_blk hown
    obtain ⟨va, vc, rfl, hvb⟩ := own_slice hown
    have cU := bU.cells
    have fU := bU.frees
    have hal := bU.lt
    have HML : Hid (gs.length = m) := by have := hown.1; rw [cellsP_len] at this; unfold Hid; omega
    by_cases hlt0 : 0 < k
    · have hd0 := hsc.new ((New.refl _).drew)
      go_wp2_with fail
      go_region_law (first
        | (refine step_apR _ rfl (.tmp 14) (.tmp 17) rfl (w.heap.size + 2) Try.underlying98 hi hz0 hz1 hz2 (.slice va m vc) m _ rfl (own1.alloc _) ⟨_, 0, none⟩ x l rfl (by simp [Addr.add]) (by simp [Addr.add]) (by omega) (by first | omega | (simp; omega)) ?_; intro v' w4' ho4 hgr4; obtain ⟨g4, c4, rfl⟩ := Joins.ownsRow_form ho4 (by omega); have bU4 := (bU1.alloc (.cells #[.int .i64 x, .int .i64 l] 112)).grow hgr4 (fun e => by have := hblk _ e; omega); have cU4 := bU4.cells; have fU4 := bU4.frees)
        | (go_simp; go_at_call 83; refine (l2Prefix_sc hd0 (by omega)).mono ?_; rintro e v1 ⟨x, l, tc, rfl, hpx, htc, hsA, htA⟩; have bU1 := (bU.new ((New.refl _).drew)).turn htA (by omega); have cU1 := bU1.cells; have cU1a := (bU1.alloc (.cells #[.int .i64 x, .int .i64 l] 112)).cells; have own1 := own_turnQB (own_turnQ hown ((New.refl _).drew)) htA (fun g hg e => by have := hblk g hg; omega); have s1 : wr.heap.size ≤ v1.heap.size := htA.size))
      all_goals
        have tA : Turn (fun k => k = B) wr v1 := Turn.both (((New.refl wr).drew).turn (S := fun k => k = B)) htA
        have hal1 := (New.refl v1).alloc (.cells #[.int .i64 x, .int .i64 l] 112)
        have bR3 := ((bR.turn tA hRB).new hal1).grow hgr4 (fun e => by have := hblk _ e; omega)
        have tg : Turn (fun k => (Value.slice va m vc).ownBlock = some k) (v1.alloc (.cells #[.int .i64 x, .int .i64 l] 112)) w4' := ⟨hgr4.os, hgr4.tape, hgr4.output, hgr4.size, fun k hk hs => hgr4.block k hk (fun e => hs e.symm)⟩
        have sc4 := (hsA.new hal1).turn tg (fun e => by have := hblk _ e; omega) (fun x hz hx e => by have := hA x hz hx; have := hblk _ e; omega)
        have T5 := Turn.here (B := w.heap.size + 1) (j := 0) (Turn.refl _ w4') (.slice (some ⟨g4, 0, none⟩) (m + 1) c4)
        have sc5 := sc4.turn T5 (by omega) (fun x hz hx e => by have := hA x hz hx; omega)
        have bR5 := bR3.turn T5 (by omega)
        have bU5 := bU4.set 0 (.slice (some ⟨g4, 0, none⟩) (m + 1) c4)
        simp only [List.setIfInBounds_toArray, List.set_cons_zero] at bU5
        have ho5 : (w4'.setCell ⟨w.heap.size + 1, 0, none⟩ (.slice (some ⟨g4, 0, none⟩) (m + 1) c4)).ownsRow (w.heap.size + 2) 112 2 (.slice (some ⟨g4, 0, none⟩) (m + 1) c4) (m + 1) (cellsP (gs ++ [(x, l)])) := own_setQ (by rw [cellsP_append]; exact ho4) (by simp; try omega)
        have t5 : Turn (fun k => k = B) w (w4'.setCell ⟨w.heap.size + 1, 0, none⟩ (.slice (some ⟨g4, 0, none⟩) (m + 1) c4)) := Turn.trans (Turn.trans (Turn.both (Turn.both htn tA) (hal1.turn (S := fun k => k = B))) tg (fun i hi e => by have := hblk _ e; omega)) T5 (fun i hi e => by omega)
        have hok5 : ∀ p ∈ gs ++ [(x, l)], pf p.1 p.2 = 0 := by
          intro p hp
          rcases List.mem_append.1 hp with h | h
          · exact hok p h
          · simp at h; subst h; exact hpx
        clear ho4 hgr4 hown bU bR bU1 bU4 bR3 cU fU cU1 cU1a cU4 fU4 own1 hsA htA tA tg sc4 T5 hal1 hd0 hsc htn
        go_wp2
        go_roundw
        case rel => exact ⟨k - 1, _, m + 1, _, gs ++ [(x, l)], by go_num, by omega, by omega, hok5, by omega, ho5, bR5, bU5, sc5, t5⟩
        case measure => simp [intOf]; omega
    · obtain rfl : k = 0 := by omega
      have hQ : OwQ wr (w.heap.size + 2) (.slice va m vc) gs := OwQ.of_own hown HML.out
      clear hown hblk
      go_wp2_with fail
      refine (chance_sc hsc 4 (by omega) (by omega)).mono ?_
      rintro e w2 ⟨r2, rfl, hs2, ht2⟩
      have hQ2 := hQ.turnB' ht2 (fun g hg e => by have := hQ.blk g hg; omega)
      have bR2 := bR.turn ht2 hRB
      have bU2 := bU.turn ht2 hUB
      have t02 := Turn.both htn ht2
      have hgb := hQ2.blk
      clear cU fU hQ bR bU hsc htn ht2 hal
      have cU := bU2.cells
      have fU := bU2.frees
      have hal := bU2.lt
      cases r2 with
      | true =>
        have cR := bR2.cells
        have fR := bR2.frees
        have lR := bR2.lt
        have huf : Hid (uf gs false 0 [] 0 0 0 [] = 0) := uf_gs hok (by rw [HML.out]; omega)
        go_wp2
        refine bodyPost_ret (v := .agg #[.slice va m vc, .bool false, .int .i64 0, .slice none 0 0, .int .i64 0, .int .i64 0, .int .i64 0, .slice none 0 0]) (by simp [results, Try.results79, go_sem, cR]) rfl ?_
        refine (fun (hT : Turn (fun k => k = w.heap.size) w2 _) => ⟨gs, [], [], false, 0, 0, 0, 0, _, _, _, _, rfl, huf.out, by rw [HML.out]; omega, by simp, by simp, by omega, (hQ2.turn hT (fun g hg e => by omega)).low (by omega), OwM.nil _ _, OwQ.nil _ _, hs2.turn hT (by omega) (fun x hz hx e => by have := hA x hz hx; omega), Turn.trans t02 hT (fun i hi e => by omega), (by intro b _ e; cases e), (by intro b _ e; cases e), (by intro b e; cases e)⟩) ?_
        exact Turn.here (Turn.here (Turn.here (Turn.here (Turn.here (Turn.here (Turn.here (Turn.here (Turn.refl _ _) _) _) _) _) _) _) _) _
      | false =>
        have b3 := bU2.set 1 (.bool true)
        simp only [List.setIfInBounds_toArray, List.set_cons_zero, List.set_cons_succ] at b3
        have T3 := Turn.here (B := w.heap.size + 1) (j := 1) (Turn.refl _ w2) (.bool true)
        have bR3 := bR2.turn T3 (by omega)
        have hQ3 := hQ2.turn T3 (fun g hg e => by omega)
        have hs3 := hs2.turn T3 (by omega) (fun x hz hx e => by have := hA x hz hx; omega)
        have t03 := Turn.trans t02 T3 (fun i hi e => by omega)
        have sz3 := T3.size
        clear bU2 bR2 hQ2 hs2 t02
        go_wp2_with fail
        refine (l3DrawAttrs_sc hs3 (by omega)).mono ?_
        rintro e w4 ⟨o, nx, md, lc, xs, xa, xc, t4, rfl, haf, hxl, ht4, hM4, hs4, htA4⟩
        have HAF : Hid (af o xs nx md lc = 0) := haf
        have b4 := b3.turn htA4 hUB
        have bR4 := bR3.turn htA4 hRB
        have hQ4 := hQ3.turnB' htA4 (fun g hg e => by have := hQ3.blk g hg; omega)
        have t04 := Turn.both t03 htA4
        have hMb := hM4.blk
        have hM4' := hM4.low (Nat.le_trans hal sz3)
        clear cU fU b3 bR3 hQ3 hs3 t03 T3 haf hM4
        generalize hX : xs.length = xn at *
        have HX : Hid (xs.length = xn) := hX
        clear hX
        have cU := b4.cells
        have fU := b4.frees
        have lU := b4.lt
        have b5 := ((((b4.set 2 (.int .i64 o)).set 3 (.slice xa xn xc)).set 4 (.int .i64 nx)).set 5 (.int .i64 md)).set 6 (.int .i64 lc)
        simp only [List.setIfInBounds_toArray, List.set_cons_zero, List.set_cons_succ] at b5
        have T5 := Turn.here (B := w.heap.size + 1) (j := 6) (Turn.here (j := 5) (Turn.here (j := 4) (Turn.here (j := 3) (Turn.here (j := 2) (Turn.refl _ w4) (.int .i64 o)) (.slice xa xn xc)) (.int .i64 nx)) (.int .i64 md)) (.int .i64 lc)
        have bR5 := bR4.turn T5 (by omega)
        have hQ5 := hQ4.turn T5 (fun g hg e => by omega)
        have hM5 := hM4'.turn T5 (fun g hg e => by omega)
        have hs5 := hs4.turn T5 (by omega) (fun x hz hx e => by have := hA x hz hx; omega)
        have t05 := Turn.trans t04 T5 (fun i hi e => by omega)
        have sz5 := T5.size
        clear b4 bR4 hQ4 hs4 t04 hM4'
        go_wp2_with fail
        refine (next_sc hs5 3 (by omega) (by omega)).mono ?_
        rintro e w6 ⟨r6, rfl, ⟨p6, q6, -⟩, hs6, ht6⟩
        have q6 := q6 (by omega)
        obtain ⟨k6, rfl⟩ := Int.eq_ofNat_of_zero_le p6
        have b6 := b5.turn ht6 hUB
        have bR6 := bR5.turn ht6 hRB
        have hQ6 := hQ5.turnB' ht6 (fun g hg e => by have := hQ5.blk g hg; omega)
        have hM6 := hM5.turnB' ht6 (fun g hg e => by have := hM5.blk g hg; omega)
        have t06 := Turn.both t05 ht6
        have kQ := hQ6.blk
        have kM := hM6.blk
        have l6 := b6.lt
        have lB6 := hs6.blk.lt
        clear cU fU b5 bR5 hQ5 hM5 hs5 t05 T5 ht6 lU
        go_wp2_with fail
        go_loopw [5] (fun s wr => ∃ (k t' rm : Nat) (v : Value) (rs : List (Int × Int)), s = .int .i64 (k : Int) ∧ k ≤ 3 ∧ rm + k ≤ 3 ∧ 1 ≤ rm + k ∧ (∀ p ∈ rs, pf p.1 p.2 = 0) ∧ t' + 10 * k ≤ t + 100 ∧ wr.ownsRow (w6.heap.size) 112 2 v rm (cellsP rs) ∧ Blk wr w.heap.size 102 #[.slice none 0 0, .bool false, .int .i64 0, .slice none 0 0, .int .i64 0, .int .i64 0, .int .i64 0, .slice none 0 0] ∧ Blk wr (w.heap.size + 1) 102 #[.slice va m vc, .bool true, .int .i64 o, .slice xa xn xc, .int .i64 nx, .int .i64 md, .int .i64 lc, v] ∧ Sc wr B a n c zs t' ∧ Turn (fun k => k = B) w wr ∧ OwQ wr (w.heap.size + 2) (.slice va m vc) gs ∧ OwM wr (w.heap.size + 2) (.slice xa xn xc) xs ∧ w6.heap.size ≤ wr.heap.size) (fun s _ => (intOf s).toNat)
        case atStart => exact ⟨1 + k6, _, 0, .slice none 0 0, [], by first | rfl | go_num | simp, by omega, by omega, by omega, by simp, by omega, ⟨rfl, .inl ⟨rfl, rfl⟩⟩, bR6, b6, hs6, t06, hQ6, hM6, Nat.le_refl _⟩
        case round =>
          clear bR6 b6 hs6 t06 hQ6 hM6
          have HG : Hid (∀ p ∈ gs, pf p.1 p.2 = 0) := hok
          clear hok
          obtain ⟨k, t', rm, v, rs, rfl, hk, hmk, hmk1, hok, ht', hown, bR, bU, hsc, htn, hQ, hM, hs66⟩ := hrel
          have hblk := own_blk hown
          obtain ⟨va', vc', rfl, hvb⟩ := own_slice hown
          have cU := bU.cells
          have fU := bU.frees
          have hal := bU.lt
          have HRL : Hid (rs.length = rm) := by have := hown.1; rw [cellsP_len] at this; unfold Hid; omega
          by_cases hlt0 : 0 < k
          · have hd0 := hsc.new ((New.refl _).drew)
            go_wp2_with fail
            go_region_law (first
              | (refine step_apR _ rfl (.tmp 35) (.tmp 38) rfl (w6.heap.size) Try.underlying98 hi hz0 hz1 hz2 (.slice va' rm vc') rm _ rfl (own1.alloc _) ⟨_, 0, none⟩ x l rfl (by simp [Addr.add]) (by simp [Addr.add]) (by omega) (by first | omega | (simp; omega)) ?_; intro v' w4' ho4 hgr4; obtain ⟨g4, c4, rfl⟩ := Joins.ownsRow_form ho4 (by omega); have bU4 := (bU1.alloc (.cells #[.int .i64 x, .int .i64 l] 112)).grow hgr4 (fun e => by have := hblk _ e; omega); have cU4 := bU4.cells; have fU4 := bU4.frees)
              | (go_simp; go_at_call 83; refine (l2Prefix_sc hd0 (by omega)).mono ?_; rintro e v1 ⟨x, l, tc, rfl, hpx, htc, hsA, htA⟩; have bU1 := (bU.new ((New.refl _).drew)).turn htA (by omega); have cU1 := bU1.cells; have cU1a := (bU1.alloc (.cells #[.int .i64 x, .int .i64 l] 112)).cells; have own1 := own_turnQB (own_turnQ hown ((New.refl _).drew)) htA (fun g hg e => by have := hblk g hg; omega); have s1 : wr.heap.size ≤ v1.heap.size := htA.size))
            all_goals
              have tA : Turn (fun k => k = B) wr v1 := Turn.both (((New.refl wr).drew).turn (S := fun k => k = B)) htA
              have hal1 := (New.refl v1).alloc (.cells #[.int .i64 x, .int .i64 l] 112)
              have bR3 := ((bR.turn tA hRB).new hal1).grow hgr4 (fun e => by have := hblk _ e; omega)
              have tg : Turn (fun k => (Value.slice va' rm vc').ownBlock = some k) (v1.alloc (.cells #[.int .i64 x, .int .i64 l] 112)) w4' := ⟨hgr4.os, hgr4.tape, hgr4.output, hgr4.size, fun k hk hs => hgr4.block k hk (fun e => hs e.symm)⟩
              have sc4 := (hsA.new hal1).turn tg (fun e => by have := hblk _ e; omega) (fun x hz hx e => by have := hA x hz hx; have := hblk _ e; omega)
              have T5 := Turn.here (B := w.heap.size + 1) (j := 7) (Turn.refl _ w4') (.slice (some ⟨g4, 0, none⟩) (rm + 1) c4)
              have sc5 := sc4.turn T5 (by omega) (fun x hz hx e => by have := hA x hz hx; omega)
              have bR5 := bR3.turn T5 (by omega)
              have bU5 := bU4.set 7 (.slice (some ⟨g4, 0, none⟩) (rm + 1) c4)
              simp only [List.setIfInBounds_toArray, List.set_cons_zero, List.set_cons_succ] at bU5
              have ho5 : (w4'.setCell ⟨w.heap.size + 1, 7, none⟩ (.slice (some ⟨g4, 0, none⟩) (rm + 1) c4)).ownsRow (w6.heap.size) 112 2 (.slice (some ⟨g4, 0, none⟩) (rm + 1) c4) (rm + 1) (cellsP (rs ++ [(x, l)])) := own_setQ (by rw [cellsP_append]; exact ho4) (by simp; try omega)
              have t5 : Turn (fun k => k = B) w (w4'.setCell ⟨w.heap.size + 1, 7, none⟩ (.slice (some ⟨g4, 0, none⟩) (rm + 1) c4)) := Turn.trans (Turn.trans (Turn.both (Turn.both htn tA) (hal1.turn (S := fun k => k = B))) tg (fun i hi e => by have := hblk _ e; omega)) T5 (fun i hi e => by omega)
              have hok5 : ∀ p ∈ rs ++ [(x, l)], pf p.1 p.2 = 0 := by
                intro p hp
                rcases List.mem_append.1 hp with h | h
                · exact hok p h
                · simp at h; subst h; exact hpx
              have hQ5 := ((((hQ.turnB' tA (fun g hg e => by have := kQ g hg; omega)).new hal1).turnB' tg (fun g hg e => by have := kQ g hg; have := hblk _ e; omega))).turn T5 (fun g hg e => by omega)
              have hM5 := ((((hM.turnB' tA (fun g hg e => by have := kM g hg; omega)).new hal1).turnB' tg (fun g hg e => by have := kM g hg; have := hblk _ e; omega))).turn T5 (fun g hg e => by omega)
              have s5 : w6.heap.size ≤ (w4'.setCell ⟨w.heap.size + 1, 7, none⟩ (.slice (some ⟨g4, 0, none⟩) (rm + 1) c4)).heap.size := by have := T5.size; have := tg.size; simp at this; omega
              clear ho4 hgr4 hown bU bR bU1 bU4 bR3 cU fU cU1 cU1a cU4 fU4 own1 hsA htA tA tg sc4 T5 hal1 hd0 hsc htn hQ hM
              go_wp2
              go_roundw
              case rel => exact ⟨k - 1, _, rm + 1, _, rs ++ [(x, l)], by go_num, by omega, by omega, by omega, hok5, by omega, ho5, bR5, bU5, sc5, t5, hQ5, hM5, s5⟩
              case measure => simp [intOf]; omega
          · obtain rfl : k = 0 := by omega
            have hR : OwQ wr w6.heap.size (.slice va' rm vc') rs := OwQ.of_own hown HRL.out
            clear hown
            have cR := bR.cells
            have fR := bR.frees
            have lR := bR.lt
            have huf : Hid (uf gs true o xs nx md lc rs = 0) := uf_true HG.out hok (by rw [HML.out]; omega) (by rw [HRL.out]; omega) (by rw [HRL.out]; omega) HAF.out
            go_wp2
            refine bodyPost_ret (v := .agg #[.slice va m vc, .bool true, .int .i64 o, .slice xa xn xc, .int .i64 nx, .int .i64 md, .int .i64 lc, .slice va' rm vc']) (by simp [results, Try.results79, go_sem, cR]) rfl ?_
            refine (fun (hT : Turn (fun k => k = w.heap.size) wr _) => ⟨gs, rs, xs, true, o, nx, md, lc, _, _, _, _, rfl, huf.out, by rw [HML.out]; omega, by rw [HX.out]; omega, by rw [HRL.out]; omega, by omega, (hQ.turn hT (fun g hg e => by omega)).low (by omega), (hM.turn hT (fun g hg e => by omega)).low (by omega), (hR.turn hT (fun g hg e => by omega)).low (by omega), hsc.turn hT (by omega) (fun x hz hx e => by have := hA x hz hx; omega), Turn.trans htn hT (fun i hi e => by omega), (fun b e1 e2 => by have := hgb b e1; have := hMb b e2; omega), (fun b e1 e2 => by have := kQ b e1; have := hR.blk b e2; omega), (fun b e1 e2 => by have := kM b e1; have := hR.blk b e2; omega)⟩) ?_
            exact Turn.here (Turn.here (Turn.here (Turn.here (Turn.here (Turn.here (Turn.here (Turn.here (Turn.refl _ _) _) _) _) _) _) _) _) _

end Go.Proofs.Ytdkjgjjkjfeodaa
