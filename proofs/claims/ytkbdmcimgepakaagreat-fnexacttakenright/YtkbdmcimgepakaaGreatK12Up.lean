/- What is proved here: what the first questions of the functions on nodes answer, both sides. -/
import Derived.Test.YtkbdmcimgepakaaGreatK12An
namespace Go.Proofs.YtkbdmcimgepakaaGreat
open Go.RowKit Go.Sort
set_option linter.unusedVariables false
set_option linter.unusedSimpArgs false
set_option maxRecDepth 100000

/-- The fault of a node, or that it is not up. -/
def uF (up : Bool) (f : Int) : Int := if f ≠ 0 then f else if up = false then 10 else 0
/-- The fault of a node, or that it is not up, or that it is not active. -/
def aF (up : Bool) (ro f : Int) : Int := if uF up f ≠ 0 then uF up f else if ro ≠ 1 then 10 else 0

theorem implNFv (v : Int) (id : Int) (up : Bool) (ro ep su ma ot co : Int) (A : Option Addr) (n c : Nat) (V : List EkV) (w : World) (h : LgAt w A V) (hn : V.length = n) (hm : n ≤ 2097152) (hv : nF id up ro ep su ma ot co n (V.map EkV.r) = v) :
    Calls Tryz.prog 99 #[.agg #[.int .i64 id, .bool up, .int .i64 ro, .int .i64 ep, .slice A n c, .int .i64 su, .int .i64 ma, .int .i64 ot, .int .i64 co]] w fun e w' => e = .returned (.int .i64 v) ∧ New w w' := by
  rw [← hv]; exact implNF id up ro ep su ma ot co A n c V w h hn hm
theorem specNFv (v : Int) (B : Nat) (id : Int) (up : Bool) (ro ep su ma ot co : Int) (A : Option Addr) (n c : Nat) (V : List EkV) (w : World) (hb : Blk w B 98 #[.int .i64 id, .bool up, .int .i64 ro, .int .i64 ep, .slice A n c, .int .i64 su, .int .i64 ma, .int .i64 ot, .int .i64 co]) (h : LgAt w A V) (hn : V.length = n) (hm : n ≤ 2097152) (hv : nF id up ro ep su ma ot co n (V.map EkV.r) = v) :
    Calls Tryz.prog 87 #[.pointer (some ⟨B, 0, none⟩)] w fun e w' => e = .returned (.int .i64 v) ∧ New w w' := by
  rw [← hv]; exact specNFp B id up ro ep su ma ot co A n c V w hb h hn hm

theorem nrAns_mk {w w' : World} {z1 id1 : Int} {up1 : Bool} {ro1 ep1 su1 ma1 ot1 co1 : Int} {L : List Ek} {M : List Ml} {A S : Option Addr} {n c q cs : Nat} {U : List EkV} {Ms : List MlV} (hL : L.length = n) (hQ : M.length = q) (hU : U.map EkV.r = L) (hM : Ms.map MlV.m = M) (ho : NrOw w' w.heap.size w'.heap.size A n c U S q cs Ms) (hn : New w w') :
    NrAns w z1 id1 up1 ro1 ep1 su1 ma1 ot1 co1 L M (.returned (.agg #[.int .i64 z1, .int .i64 id1, .bool up1, .int .i64 ro1, .int .i64 ep1, .slice A n c, .int .i64 su1, .int .i64 ma1, .int .i64 ot1, .int .i64 co1, .slice S q cs])) w' := by
  subst hL hQ
  exact ⟨A, c, U, S, cs, Ms, rfl, hU, hM, ho, hn⟩
theorem nrAns_bad {w w' : World} (z : Int) (hn : New w w') : NrAns w z 0 false 0 0 0 0 0 0 [] [] (.returned (.agg #[.int .i64 z, .int .i64 0, .bool false, .int .i64 0, .int .i64 0, .slice none 0 0, .int .i64 0, .int .i64 0, .int .i64 0, .int .i64 0, .slice none 0 0])) w' :=
  nrAns_mk (n := 0) (q := 0) (U := []) (Ms := []) rfl rfl rfl rfl ⟨w.heap.size, w'.heap.size, fun _ => False, OwL.nil _ _ _, SdOw.nil _ _, fun _ f => f.elim, fun _ f => f.elim, Nat.le_refl _, Nat.le_refl _⟩ hn
/-- A log alone, of the call's own. -/
theorem NrOw.log {w : World} {b0 b1 lo hi n c : Nat} {A : Option Addr} {U : List EkV} (h : OwL w lo hi (.slice A n c) U) (h0 : b0 ≤ lo) (h1 : hi ≤ b1) : NrOw w b0 b1 A n c U none 0 0 [] :=
  ⟨lo, hi, fun _ => False, h, SdOw.nil _ _, fun _ f => f.elim, fun _ f => f.elim, h0, h1⟩
theorem set11 {S : Nat → Prop} (w : World) (B : Nat) (hS : S B) (v0 v1 v2 v3 v4 v5 v6 v7 v8 v9 v10 : Value) : Turn S w (((((((((((w.setCell ⟨B, 0, none⟩ v0).setCell ⟨B, 1, none⟩ v1).setCell ⟨B, 2, none⟩ v2).setCell ⟨B, 3, none⟩ v3).setCell ⟨B, 4, none⟩ v4).setCell ⟨B, 5, none⟩ v5).setCell ⟨B, 6, none⟩ v6).setCell ⟨B, 7, none⟩ v7).setCell ⟨B, 8, none⟩ v8).setCell ⟨B, 9, none⟩ v9).setCell ⟨B, 10, none⟩ v10) :=
  (((((((((((Turn.refl S w).set (p := ⟨B, 0, none⟩) hS v0).set (p := ⟨B, 1, none⟩) hS v1).set (p := ⟨B, 2, none⟩) hS v2).set (p := ⟨B, 3, none⟩) hS v3).set (p := ⟨B, 4, none⟩) hS v4).set (p := ⟨B, 5, none⟩) hS v5).set (p := ⟨B, 6, none⟩) hS v6).set (p := ⟨B, 7, none⟩) hS v7).set (p := ⟨B, 8, none⟩) hS v8).set (p := ⟨B, 9, none⟩) hS v9).set (p := ⟨B, 10, none⟩) hS v10

end Go.Proofs.YtkbdmcimgepakaaGreat
