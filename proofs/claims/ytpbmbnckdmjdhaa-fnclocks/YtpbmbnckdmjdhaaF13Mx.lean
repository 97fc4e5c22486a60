/- What is proved here: the facts on numbers by which no two lead at a time. No condition. -/
import Derived.Test.YtpbmbnckdmjdhaaC13Tu
import Derived.Test.YtpbmbnckdmjdhaaD13Ls
import Derived.Test.YtpbmbnckdmjdhaaLwAt
import Derived.Test.YtpbmbnckdmjdhaaLwBig
import Derived.Test.YtpbmbnckdmjdhaaQB
namespace Go.Proofs.Ytpbmbnckdmjdhaa
open Go.RowKit Go.Sort
set_option linter.unusedVariables false

theorem tick_keeps {nw x y r p q : Int} (h : ckF nw [x, y] = 0) (hn : nw ≤ 200) (hr : 0 ≤ r ∧ r ≤ 5) (hp : OfP p) (hq : OfP q) : ckF (nw + r) [max x (nw + r + p), max y (nw + r + q)] = 0 := by
  obtain ⟨⟨h1, h2⟩, x', y', e, ⟨a0, a1, a2⟩, ⟨b0, b1, b2⟩⟩ := ckF_zero h
  cases e
  obtain ⟨p0, p1⟩ := hp
  obtain ⟨q0, q1⟩ := hq
  refine ckF_ok ⟨by omega, by omega⟩ ⟨by omega, by omega, by omega⟩ ⟨by omega, by omega, by omega⟩

theorem tick_ok {nw x y r p q : Int} (h : ckF nw [x, y] = 0) (hn : nw ≤ 200) (hr : 0 ≤ r ∧ r ≤ 5) (hp : OfP p) (hq : OfP q) : tiR nw [x, y] r [p, q] = ⟨0, nw + r, [max x (nw + r + p), max y (nw + r + q)]⟩ := by
  obtain ⟨⟨h1, h2⟩, -⟩ := ckF_zero h
  exact ti_ok h ⟨by omega, by omega⟩ ⟨hp, hq⟩

/-- Who may lead has seen less than the other one must have seen to take. -/
theorem no_both {nw s s' ho ep ak he : Int} (h0 : nw - 2 ≤ s) (h1 : s' ≤ nw + 2) (hk : ak ≤ he + 4) (hl : mlB ho ep ak he s = true) : mtB ho ep ak he s' = false := by
  unfold mlB at hl
  unfold mtB
  simp only [Bool.and_eq_true, decide_eq_true_eq] at hl
  rw [show decide (he + 14 ≤ s') = false from decide_eq_false (by omega)]
  simp

theorem ml_no {nw s s' ho ep ak he : Int} (h0 : nw - 2 ≤ s) (h1 : s' ≤ nw + 2) (hk : ak ≤ he + 4) (ht : mtB ho ep ak he s' = true) : mlB ho ep ak he s = false := by
  cases hl : mlB ho ep ak he s with
  | false => rfl
  | true => rw [no_both h0 h1 hk hl] at ht; cases ht

theorem implML_is (ho ep ak he s : Int) (b : Bool) (w : World) (h : mlB ho ep ak he s = b) : Calls Try.prog 16 #[.agg #[.int .i64 ho, .int .i64 ep, .int .i64 ak, .int .i64 he], .int .i64 s] w fun e w' => e = .returned (.bool b) ∧ New w w' := h ▸ implML ho ep ak he s w

theorem implMT_is (ho ep ak he s : Int) (b : Bool) (w : World) (h : mtB ho ep ak he s = b) : Calls Try.prog 17 #[.agg #[.int .i64 ho, .int .i64 ep, .int .i64 ak, .int .i64 he], .int .i64 s] w fun e w' => e = .returned (.bool b) ∧ New w w' := h ▸ implMT ho ep ak he s w

theorem specML_is (ho ep ak he s : Int) (b : Bool) (w : World) (h : mlB ho ep ak he s = b) : Calls Try.prog 23 #[.agg #[.int .i64 ho, .int .i64 ep, .int .i64 ak, .int .i64 he], .int .i64 s] w fun e w' => e = .returned (.bool b) ∧ New w w' := h ▸ specML ho ep ak he s w

theorem specMT_is (ho ep ak he s : Int) (b : Bool) (w : World) (h : mtB ho ep ak he s = b) : Calls Try.prog 22 #[.agg #[.int .i64 ho, .int .i64 ep, .int .i64 ak, .int .i64 he], .int .i64 s] w fun e w' => e = .returned (.bool b) ∧ New w w' := h ▸ specMT ho ep ak he s w

theorem lwAt_z (a : Option Addr) (n c : Nat) (z m : Int) (zs : List Int) (w : World) (h : BsAt w a zs) (hn : zs.length = n) (hm : n ≤ 2097152) (h0 : 0 ≤ z) (ht : z ≤ 100000) (h1 : 1 ≤ m) (hmm : m ≤ 1000000) :
    Calls Try.prog 14 #[.slice a n c, .int .i64 z, .int .i64 m] w fun e w' => ∃ r : Int, e = .returned (.int .i64 r) ∧ 0 ≤ r ∧ r < m ∧ New w w' := by
  obtain ⟨t, rfl⟩ := Int.eq_ofNat_of_zero_le h0
  exact lwAt_any a n c t m zs w h hn hm (by omega) h1 hmm

theorem gr_ok {ho ep ak he a h rh re ra rr : Int} (hg : (⟨0, rh, re, ra, rr⟩ : Lr) = grR ho ep ak he a h) (hk : a ≤ h + 4) : ho = rh ∧ ep = re ∧ a = ra ∧ h = rr ∧ LeP ho ep a h ∧ a ≤ h + 4 := by
  unfold grR at hg
  split at hg
  · rename_i h1
    split at hg
    · rename_i h2
      split at hg
      · simp at hg
      · simp only [Lr.mk.injEq, true_and] at hg
        exact ⟨hg.1.symm, hg.2.1.symm, hg.2.2.1.symm, hg.2.2.2.symm, ⟨h1.1, h1.2.1, h2.1, h2.2⟩, hk⟩
    · simp at hg
  · simp at hg

theorem tk_no {ho ep ak he s : Int} (h : LeP ho ep ak he) (hb : mtB ho ep ak he s = false) : (⟨8, 0, 0, 0, 0⟩ : Lr) = tkR ho ep ak he s := by
  unfold tkR
  rw [if_pos h, if_neg (by rw [hb]; decide)]

theorem tk_ok {ho ep ak he s h1 : Int} (h : LeP ho ep ak he) (hl : ¬ ep = 1000) (hb : mtB ho ep ak he s = true) (hh : 1 - ho = h1) : (⟨0, h1, ep + 1, s, s⟩ : Lr) = tkR ho ep ak he s := by
  unfold tkR
  rw [if_pos h, if_pos hb, if_neg hl, hh]

theorem own_of_blk {w : World} {g : Nat} {x y : Int} (h : Blk w g 2 #[.int .i64 x, .int .i64 y]) : OwN w g 2 2 [x, y] :=
  ⟨rfl, .inr ⟨g, 2, _, rfl, Nat.zero_le _, h, Nat.le_refl _, by unfold maxLen; omega, rfl, rfl⟩⟩

theorem OwN.two {w : World} {g k : Nat} {x y : Int} (h : OwN w g 2 k [x, y]) : w.cell? ⟨g, 0, none⟩ = some (.int .i64 x) ∧ w.cell? ⟨g, 1, none⟩ = some (.int .i64 y) :=
  ⟨by have := World.ownsRow.cellAt h 0 (by omega); simpa using this, by have := World.ownsRow.cellAt h 1 (by omega); simpa using this⟩

theorem OwN.regrown {w : World} {g k : Nat} {x y : Int} (h : OwN w g 2 k [x, y]) : (∀ (d : Nat) (os : Array Obj), (grow (redrawn w d) os).cell? ⟨g, 0, none⟩ = some (.int .i64 x)) ∧ (∀ (d : Nat) (os : Array Obj), (grow (redrawn w d) os).cell? ⟨g, 1, none⟩ = some (.int .i64 y)) :=
  ⟨fun d os => (h.new (new_regrown w d os)).two.1, fun d os => (h.new (new_regrown w d os)).two.2⟩

end Go.Proofs.Ytpbmbnckdmjdhaa
