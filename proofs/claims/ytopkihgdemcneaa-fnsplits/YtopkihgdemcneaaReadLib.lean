/- What is proved here: what the reader of frames answers, for every list of at most 400 bytes. -/
import Derived.Test.YtopkihgdemcneaaFrs
import Derived.Test.YtopkihgdemcneaaJumps
namespace Go.Proofs.Ytopkihgdemcneaa
open Go.RowKit
attribute [local go_sem] jumps_normal jumps_ret

theorem OwF.lower {w : World} {lo lo' hi n c : Nat} {a : Option Addr} {F : List Fr} (h : OwF w lo hi a n c F) (hh : lo' ≤ lo) : OwF w lo' hi a n c F :=
  ⟨h.len, h.anil, (by intro x hx; obtain ⟨g, e, h1, h2, ho⟩ := h.row x hx; exact ⟨g, e, by omega, h2, ho⟩), h.body, h.bd, (by intro i f x hf hx; have := h.lies i f x hf hx; omega), h.apart, h.bnil⟩

theorem OwF.block_ge {w : World} {lo hi n c : Nat} {a : Option Addr} {F : List Fr} (h : OwF w lo hi a n c F) : ∀ k, (Value.slice a n c).ownBlock = some k → lo ≤ k := by
  intro k hk
  cases a with
  | none => simp [Value.ownBlock] at hk
  | some x => obtain ⟨g, rfl, h1, _, _⟩ := h.row x rfl; simp [Value.ownBlock] at hk; omega

theorem head_wrong {l : List Int} (h : wrongB l = true) : headM l = 1 := by
  unfold headM
  match l, h with
  | [], h => simp [wrongB] at h
  | [x], h => simp [wrongB] at h; simp [h]
  | x :: y :: l, h =>
    simp [wrongB] at h
    by_cases hx : x = 255
    · have hy : ¬ y = 255 := by rcases h with h | h; exact absurd hx h; exact h
      simp [hx, hy]
    · simp [hx]
theorem head_right {l : List Int} (h : wrongB l = false) : headM l = if 3 < l.length ∧ (numAt l 2 2 < 5 ∨ 125 < numAt l 2 2) then 2 else if 4 < l.length ∧ (l.getD 4 0 < 1 ∨ 4 < l.getD 4 0) then 3 else 0 := by
  unfold headM
  match l, h with
  | [], h => simp
  | [x], h => simp [wrongB] at h; simp [h]
  | x :: y :: l, h =>
    simp [wrongB] at h
    rw [if_neg (by simp [h.1]), if_neg (by simp [h.2])]

/-- What SplitFrames answers: R, its frames in new memory. -/
def SplitAns (w : World) (R : Int × Nat × List (Int × List Int)) (e : Ending) (w' : World) : Prop :=
  ∃ (a : Option Addr) (n c : Nat) (F : List Fr), e = .returned (.agg #[.int .i64 R.1, .int .i64 (R.2.1 : Int), .slice a n c]) ∧ OwF w' w.heap.size w'.heap.size a n c F ∧ New w w' ∧ R.2.2 = F.map Fr.out

/-- The reader's memory: its answer so far. -/
structure RW (w wr : World) (code u : Int) (a' : Option Addr) (n' c' : Nat) (F : List Fr) : Prop where
  new : New w wr
  b2 : Blk wr w.heap.size 34 #[.int .i64 0, .int .i64 0, .slice none 0 0]
  b3 : Blk wr (w.heap.size + 1) 34 #[.int .i64 code, .int .i64 u, .slice a' n' c']
  own : OwF wr (w.heap.size + 2) wr.heap.size a' n' c' F

theorem RW.later {w wr w' : World} {code u : Int} {a' : Option Addr} {n' c' : Nat} {F : List Fr} (h : RW w wr code u a' n' c' F) (t : New wr w') : RW w w' code u a' n' c' F :=
  ⟨h.new.trans t, h.b2.new t, h.b3.new t, (h.own.new t).wide t.size⟩
theorem RW.put {w wr : World} {code u : Int} {a' : Option Addr} {n' c' : Nat} {F : List Fr} (h : RW w wr code u a' n' c' F) (x : Int) : RW w (wr.setCell ⟨w.heap.size + 1, 0, none⟩ (.int .i64 x)) x u a' n' c' F := by
  have t : Turn (fun k => k = w.heap.size + 1) wr (wr.setCell ⟨w.heap.size + 1, 0, none⟩ (.int .i64 x)) := Turn.set (S := fun k => k = w.heap.size + 1) (Turn.refl _ _) rfl _
  exact ⟨h.new.setCell (by simp) _, h.b2.turn t (by omega), h.b3.set 0 _, (h.own.turn t (by omega)).wide t.size⟩
theorem RW.used {w wr : World} {code u : Int} {a' : Option Addr} {n' c' : Nat} {F : List Fr} (h : RW w wr code u a' n' c' F) (x : Int) : RW w (wr.setCell ⟨w.heap.size + 1, 1, none⟩ (.int .i64 x)) code x a' n' c' F := by
  have t : Turn (fun k => k = w.heap.size + 1) wr (wr.setCell ⟨w.heap.size + 1, 1, none⟩ (.int .i64 x)) := Turn.set (S := fun k => k = w.heap.size + 1) (Turn.refl _ _) rfl _
  exact ⟨h.new.setCell (by simp) _, h.b2.turn t (by omega), h.b3.set 1 _, (h.own.turn t (by omega)).wide t.size⟩
/-- One frame more is told. -/
theorem RW.more {w wr w' : World} {code u : Int} {a' a2 : Option Addr} {n' c' n2 c2 : Nat} {F F2 : List Fr} {row : Option Nat} (h : RW w wr code u a' n' c' F) (hg : wr.grownBy w' row) (hrow : ∀ k, row = some k → w.heap.size + 2 ≤ k) (ho : OwF w' (w.heap.size + 2) w'.heap.size a2 n2 c2 F2) :
    RW w (w'.setCell ⟨w.heap.size + 1, 2, none⟩ (.slice a2 n2 c2)) code u a2 n2 c2 F2 := by
  have t : Turn (fun k => k = w.heap.size + 1) w' (w'.setCell ⟨w.heap.size + 1, 2, none⟩ (.slice a2 n2 c2)) := Turn.set (S := fun k => k = w.heap.size + 1) (Turn.refl _ _) rfl _
  have hb2 : Blk w' w.heap.size 34 #[.int .i64 0, .int .i64 0, .slice none 0 0] := h.b2.grow hg (fun e => by have := hrow _ e; omega)
  have hb3 : Blk w' (w.heap.size + 1) 34 #[.int .i64 code, .int .i64 u, .slice a' n' c'] := h.b3.grow hg (fun e => by have := hrow _ e; omega)
  have hnw : New w w' := h.new.grow hg (fun k e => by have := hrow _ e; omega)
  exact ⟨hnw.setCell (by simp) _, hb2.turn t (by omega), hb3.set 2 _, (ho.turn t (by omega)).wide t.size⟩

/-- What holds at a jump to the next frame, and to the end. -/
def ReadJ (w : World) (b off n c : Nat) (zs : List Int) (R : Int × Nat × List (Int × List Int)) (l m : Nat) (x : Act) (wr : World) : Prop :=
  ∃ (u4 u5 u6 u7 u8 u9 u10 u11 u12 u13 u14 u15 u16 u17 u18 u19 u20 u21 u22 u23 u24 u25 u26 u27 u28 u29 u30 u31 u32 u33 u34 u35 u36 u37 u38 u39 u40 u41 u42 u43 u44 u45 u46 u47 u48 u49 u50 u51 u52 u53 u54 : Value) (code : Int) (u : Nat) (a' : Option Addr) (n' c' : Nat) (F : List Fr),
    x = { tmps := #[.slice (some ⟨b, off, none⟩) n c, undef, .pointer (some ⟨w.heap.size, 0, none⟩), .pointer (some ⟨w.heap.size + 1, 0, none⟩), u4, u5, u6, u7, u8, u9, u10, u11, u12, u13, u14, u15, u16, u17, u18, u19, u20, u21, u22, u23, u24, u25, u26, u27, u28, u29, u30, u31, u32, u33, u34, u35, u36, u37, u38, u39, u40, u41, u42, u43, u44, u45, u46, u47, u48, u49, u50, u51, u52, u53, u54], defers := [] } ∧
    RW w wr code u a' n' c' F ∧ u ≤ n ∧ 5 * F.length ≤ u ∧ ((l = 0 ∧ m = n - u + 1 ∧ code = 0 ∧ SplitAt zs u (F.map Fr.out) R) ∨ (l = 1 ∧ m = 0 ∧ R = (code, u, F.map Fr.out)))

end Go.Proofs.Ytopkihgdemcneaa
