/- What is proved here: facts on one mail with an entry; what the epoch ahead of a place is, both sides. -/
import Derived.Test.YthnigcalboobgaaK12Sd
namespace Go.Proofs.Ythnigcalboobgaa
open Go.RowKit Go.Sort
set_option linter.unusedVariables false
set_option linter.unusedSimpArgs false
set_option maxRecDepth 100000

def MlV.pv (v : MlV) : Value := .slice v.a v.m.e.xs.length v.c
/-- A log and a mail, of the call's own. -/
theorem NrOw.send {w : World} {b0 b1 lo hi n c g cs lb : Nat} {A : Option Addr} {U : List EkV} (v : MlV) (h : OwL w lo hi (.slice A n c) U) (h0 : b0 ≤ lo) (h1 : hi ≤ b1) (hr : w.ownsRow 0 46 10 (.slice (some ⟨g, 0, none⟩) 1 cs) 1 v.cs) (hg : ¬ (lo ≤ g ∧ g < hi)) (hg0 : b0 ≤ g) (hg1 : g < b1)
    (hv : OvB w lb v.pv v.m.e.xs) (hb : ∀ z ∈ v.m.e.xs, By z) (hl : v.m.e.xs.length ≤ 1048576) (hlb : b0 ≤ lb) (hk : ∀ k, v.pv.ownBlock = some k → k < lo) (hlo : lo ≤ b1) : NrOw w b0 b1 A n c U (some ⟨g, 0, none⟩) 1 cs [v] := by
  refine ⟨lo, hi, fun i => i = g ∨ v.pv.ownBlock = some i, h, .inr ⟨v, g, rfl, rfl, rfl, .inl rfl, hr, ?_, hb, hl, ?_⟩, ?_, ?_, h0, h1⟩
  · obtain ⟨a, c', e, -, -, -, h9⟩ := hv.bs hb
    simp only [MlV.pv, Value.slice.injEq, true_and] at e
    obtain ⟨rfl, rfl⟩ := e
    exact h9
  · intro x hx
    have hob : v.pv.ownBlock = some x.block := by unfold MlV.pv; rw [hx]; rfl
    refine ⟨.inr hob, fun e => ?_⟩
    exact rowv_neK hr (by decide) hv (k := g) rfl (by rw [hob, e])
  · rintro i (e | e)
    · rw [e]; exact hg
    · have := hk i e; omega
  · rintro i (e | e)
    · rw [e]; exact ⟨hg0, hg1⟩
    · have := hk i e; have := (hv.rngK i e).1; omega

/-- The epoch ahead of a place. -/
def prevE (L : List Ek) : Nat → Int
  | 0 => 0
  | j + 1 => ((L[j]?).map Ek.ep).getD 0

set_option maxHeartbeats 800000 in
theorem eahead_any (o : Nat) (B : Nat) (id : Int) (up : Bool) (ro ep su ma ot co : Int) (A : Option Addr) (n c : Nat) (V : List EkV) (w : World) (hb : Blk w B 36 #[.int .i64 id, .bool up, .int .i64 ro, .int .i64 ep, .slice A n c, .int .i64 su, .int .i64 ma, .int .i64 ot, .int .i64 co]) (h : LgAt w A V) (hn : V.length = n) (hm : n ≤ 2097152) (ho : o ≤ n) :
    Calls Try.prog 57 #[.pointer (some ⟨B, 0, none⟩), .int .i64 (o : Int)] w fun e w' => e = .returned (.int .i64 (prevE (V.map EkV.r) o)) ∧ w' = w := by
  have cB := hb.cells
  cases o with
  | zero =>
    have HR : Hid ((0 : Int) = prevE (V.map EkV.r) 0) := rfl
    go_enter Try.func57, Try.ntmps57
    go_wp2
    go_ret
    exact ⟨ret_i64 HR.out, rfl⟩
  | succ j =>
    obtain ⟨g, ep1, ki, pe, x, m, d, xs, rfl, hv, -, -, -, q0, -, -, -⟩ := h.at j (by omega)
    have HR : Hid (ep1 = prevE (V.map EkV.r) (j + 1)) := by unfold Hid prevE; simp [hv]
    have hj : ¬ ((j : Int) + 1 = 0) := by omega
    have gj : (((j : Int) + 1) == 0) = false := by simp [hj]
    have hjn : j < n := by omega
    clear hv h
    go_enter Try.func57, Try.ntmps57
    go_wp2
    go_ret
    exact ⟨ret_i64 HR.out, rfl⟩

set_option maxHeartbeats 800000 in
theorem prev_any (o : Nat) (B : Nat) (id : Int) (up : Bool) (ro ep su ma ot co : Int) (A : Option Addr) (n c : Nat) (V : List EkV) (w : World) (hb : Blk w B 36 #[.int .i64 id, .bool up, .int .i64 ro, .int .i64 ep, .slice A n c, .int .i64 su, .int .i64 ma, .int .i64 ot, .int .i64 co]) (h : LgAt w A V) (hn : V.length = n) (hm : n ≤ 2097152) (ho : o ≤ n) :
    Calls Try.prog 73 #[.pointer (some ⟨B, 0, none⟩), .int .i64 (o : Int)] w fun e w' => e = .returned (.int .i64 (prevE (V.map EkV.r) o)) ∧ w' = w := by
  have cB := hb.cells
  cases o with
  | zero =>
    have HR : Hid ((0 : Int) = prevE (V.map EkV.r) 0) := rfl
    go_enter Try.func73, Try.ntmps73
    go_wp2
    go_ret
    exact ⟨ret_i64 HR.out, rfl⟩
  | succ j =>
    obtain ⟨g, ep1, ki, pe, x, m, d, xs, rfl, hv, -, -, -, q0, -, -, -⟩ := h.at j (by omega)
    have HR : Hid (ep1 = prevE (V.map EkV.r) (j + 1)) := by unfold Hid prevE; simp [hv]
    have hj : ¬ ((j : Int) + 1 = 0) := by omega
    have gj : (((j : Int) + 1) == 0) = false := by simp [hj]
    have hjn : j < n := by omega
    clear hv h
    go_enter Try.func73, Try.ntmps73
    go_wp2
    go_ret
    exact ⟨ret_i64 HR.out, rfl⟩

end Go.Proofs.Ythnigcalboobgaa
