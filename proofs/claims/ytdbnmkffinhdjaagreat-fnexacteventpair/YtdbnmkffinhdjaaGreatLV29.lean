/- Lemmas and contracts of one law. -/
import Derived.Test.YtdbnmkffinhdjaaGreatLV28
import Derived.Test.YtdbnmkffinhdjaaGreatLV5
namespace Go.Proofs.YtdbnmkffinhdjaaGreat
open Go.ChangeShapes Go.WideShapes Go.ChangeAt Go.RowKit Go.Deep Go.Sort
set_option linter.unusedVariables false
set_option linter.unusedSimpArgs false
set_option maxRecDepth 100000
set_option maxHeartbeats 25600000

/-- What a call works at: a pair, and what it was told. -/
def pcCs (P : PrV) (nd pe az ct : Int) (ke : Bool) (dA : Option Addr) (dn dc : Nat) (ek ep : Int) (eA : Option Addr) (en ec : Nat) (yA : Option Addr) (yn yc : Nat) : Array Value := #[.int .i64 P.sa, .int .i64 P.si, .int .i64 P.ho, .int .i64 P.nx, .slice P.a1 P.n1 P.c1, .slice P.a2 P.n2 P.c2, .slice P.aN P.nN P.cN, .slice P.aW P.nW P.cW, .slice P.aM P.nM P.cM, .slice P.aS P.nS P.cS, .int .i64 nd, .int .i64 pe, .int .i64 az, .int .i64 ct, .bool ke, .slice dA dn dc, .int .i64 ek, .int .i64 ep, .slice eA en ec, .slice yA yn yc]
theorem pcCs_get (P : PrV) (nd pe az ct : Int) (ke : Bool) (dA : Option Addr) (dn dc : Nat) (ek ep : Int) (eA : Option Addr) (en ec : Nat) (yA : Option Addr) (yn yc : Nat) : ∀ j, j < 10 → (pcCs P nd pe az ct ke dA dn dc ek ep eA en ec yA yn yc)[j]? = (#[.int .i64 P.sa, .int .i64 P.si, .int .i64 P.ho, .int .i64 P.nx, .slice P.a1 P.n1 P.c1, .slice P.a2 P.n2 P.c2, .slice P.aN P.nN P.cN, .slice P.aW P.nW P.cW, .slice P.aM P.nM P.cM, .slice P.aS P.nS P.cS] : Array Value)[j]? := by
  intro j hj
  obtain rfl | rfl | rfl | rfl | rfl | rfl | rfl | rfl | rfl | rfl : j = 0 ∨ j = 1 ∨ j = 2 ∨ j = 3 ∨ j = 4 ∨ j = 5 ∨ j = 6 ∨ j = 7 ∨ j = 8 ∨ j = 9 := by omega
  all_goals rfl
theorem own_low {w : World} {lo lo' sz n : Nat} {e : TypeId} {v : Value} {xs : List Value} (h : w.ownsRow lo e sz v n xs) (hl : lo' ≤ lo) : w.ownsRow lo' e sz v n xs := by
  refine ⟨h.1, ?_⟩
  rcases h.2 with h' | ⟨g', cap', cur, h', hb, hh, r⟩
  · exact .inl h'
  · exact .inr ⟨g', cap', cur, h', by omega, hh, r⟩
def prF (P : PrV) : Int := pF P.sa P.si P.ho P.nx P.r1 P.r2 (P.VN.map NdV.r) (P.VW.map WiV.r) (P.VM.map MlV.r) (P.VS.map EkV.r)
theorem isPeer0 (w : World) : Calls Tryz.prog 78 #[.int .i64 0] w fun e w' => e = .returned (.bool true) ∧ w' = w := by
  go_enter Tryz.func78, Tryz.ntmps78
  go_wp2
  go_ret
  exact ⟨rfl, rfl⟩
theorem set10t {S : Nat → Prop} (w : World) (B : Nat) (hS : S B) (v0 v1 v2 v3 v4 v5 v6 v7 v8 v9 : Value) : Turn S w ((((((((((w.setCell ⟨B, 0, none⟩ v0).setCell ⟨B, 1, none⟩ v1).setCell ⟨B, 2, none⟩ v2).setCell ⟨B, 3, none⟩ v3).setCell ⟨B, 4, none⟩ v4).setCell ⟨B, 5, none⟩ v5).setCell ⟨B, 6, none⟩ v6).setCell ⟨B, 7, none⟩ v7).setCell ⟨B, 8, none⟩ v8).setCell ⟨B, 9, none⟩ v9) := (((((((((((Turn.refl S w).set (p := ⟨B, 0, none⟩) hS v0).set (p := ⟨B, 1, none⟩) hS v1).set (p := ⟨B, 2, none⟩) hS v2).set (p := ⟨B, 3, none⟩) hS v3).set (p := ⟨B, 4, none⟩) hS v4).set (p := ⟨B, 5, none⟩) hS v5).set (p := ⟨B, 6, none⟩) hS v6).set (p := ⟨B, 7, none⟩) hS v7).set (p := ⟨B, 8, none⟩) hS v8).set (p := ⟨B, 9, none⟩) hS v9)
theorem set12t {S : Nat → Prop} (w : World) (B : Nat) (hS : S B) (v0 v1 v2 v3 v4 v5 v6 v7 v8 v9 v10 v11 : Value) : Turn S w ((((((((((((w.setCell ⟨B, 0, none⟩ v0).setCell ⟨B, 1, none⟩ v1).setCell ⟨B, 2, none⟩ v2).setCell ⟨B, 3, none⟩ v3).setCell ⟨B, 4, none⟩ v4).setCell ⟨B, 5, none⟩ v5).setCell ⟨B, 6, none⟩ v6).setCell ⟨B, 7, none⟩ v7).setCell ⟨B, 8, none⟩ v8).setCell ⟨B, 9, none⟩ v9).setCell ⟨B, 10, none⟩ v10).setCell ⟨B, 11, none⟩ v11) := (((((((((((((Turn.refl S w).set (p := ⟨B, 0, none⟩) hS v0).set (p := ⟨B, 1, none⟩) hS v1).set (p := ⟨B, 2, none⟩) hS v2).set (p := ⟨B, 3, none⟩) hS v3).set (p := ⟨B, 4, none⟩) hS v4).set (p := ⟨B, 5, none⟩) hS v5).set (p := ⟨B, 6, none⟩) hS v6).set (p := ⟨B, 7, none⟩) hS v7).set (p := ⟨B, 8, none⟩) hS v8).set (p := ⟨B, 9, none⟩) hS v9).set (p := ⟨B, 10, none⟩) hS v10).set (p := ⟨B, 11, none⟩) hS v11)
theorem PrOw.low {w : World} {b0 b1 bl : Nat} {col : Nat → Nat} {P : PrV} (h : PrOw w b0 b1 col P) (hb : bl ≤ b0) : PrOw w bl b1 col P := by
  obtain ⟨lo, hi, hS, hcS⟩ := h.oS
  have hc : ∀ i x, Cl col b0 b1 i x → Cl col bl b1 i x := fun i x hx => ⟨hx.1, Nat.le_trans hb hx.2.1, hx.2.2⟩
  exact ⟨own_low h.o1 hb, own_low h.o2 hb, fun j hj => hc _ _ (h.k1 j hj), fun j hj => hc _ _ (h.k2 j hj), h.oN.mono (hc _), h.oW.mono (hc _), h.oQ.mono (hc _), ⟨lo, hi, hS, fun x h1 h2 => hc _ _ (hcS x h1 h2)⟩, h.bW, h.bM⟩
theorem fin12 {w : World} {B b0 b1 bl : Nat} {col : Nat → Nat} {R : PrV} (h : PrOw w b0 b1 col R) (hB : B < b0) (hl : bl ≤ b0) (hs : b1 ≤ w.heap.size) (v0 v1 v2 v3 v4 v5 v6 v7 v8 v9 v10 v11 : Value) : PrOw ((((((((((((w.setCell ⟨B, 0, none⟩ v0).setCell ⟨B, 1, none⟩ v1).setCell ⟨B, 2, none⟩ v2).setCell ⟨B, 3, none⟩ v3).setCell ⟨B, 4, none⟩ v4).setCell ⟨B, 5, none⟩ v5).setCell ⟨B, 6, none⟩ v6).setCell ⟨B, 7, none⟩ v7).setCell ⟨B, 8, none⟩ v8).setCell ⟨B, 9, none⟩ v9).setCell ⟨B, 10, none⟩ v10).setCell ⟨B, 11, none⟩ v11) bl ((((((((((((w.setCell ⟨B, 0, none⟩ v0).setCell ⟨B, 1, none⟩ v1).setCell ⟨B, 2, none⟩ v2).setCell ⟨B, 3, none⟩ v3).setCell ⟨B, 4, none⟩ v4).setCell ⟨B, 5, none⟩ v5).setCell ⟨B, 6, none⟩ v6).setCell ⟨B, 7, none⟩ v7).setCell ⟨B, 8, none⟩ v8).setCell ⟨B, 9, none⟩ v9).setCell ⟨B, 10, none⟩ v10).setCell ⟨B, 11, none⟩ v11).heap.size col R := by
  have t := set12t (S := fun x => x = B) w B rfl v0 v1 v2 v3 v4 v5 v6 v7 v8 v9 v10 v11
  exact ((h.turn t (by intro x h1 h2 e; omega)).up (Nat.le_trans hs t.size)).low hl
theorem new12 {a w : World} {B : Nat} (h : New a w) (hB : a.heap.size ≤ B) (v0 v1 v2 v3 v4 v5 v6 v7 v8 v9 v10 v11 : Value) : New a ((((((((((((w.setCell ⟨B, 0, none⟩ v0).setCell ⟨B, 1, none⟩ v1).setCell ⟨B, 2, none⟩ v2).setCell ⟨B, 3, none⟩ v3).setCell ⟨B, 4, none⟩ v4).setCell ⟨B, 5, none⟩ v5).setCell ⟨B, 6, none⟩ v6).setCell ⟨B, 7, none⟩ v7).setCell ⟨B, 8, none⟩ v8).setCell ⟨B, 9, none⟩ v9).setCell ⟨B, 10, none⟩ v10).setCell ⟨B, 11, none⟩ v11) := h.before (set12t (S := fun x => x = B) w B rfl v0 v1 v2 v3 v4 v5 v6 v7 v8 v9 v10 v11) (by intro i hi e; omega)
theorem l14Bad16 (z : Int) (w : World) : Calls Tryz.prog 27 #[.int .i64 z] w fun e w' => e = .returned (.agg #[.int .i64 z, .slice none 0 0, .int .i64 zPr.sa, .int .i64 zPr.si, .int .i64 zPr.ho, .int .i64 zPr.nx, .slice zPr.a1 zPr.n1 zPr.c1, .slice zPr.a2 zPr.n2 zPr.c2, .slice zPr.aN zPr.nN zPr.cN, .slice zPr.aW zPr.nW zPr.cW, .slice zPr.aM zPr.nM zPr.cM, .slice zPr.aS zPr.nS zPr.cS]) ∧ New w w' := by
  have b1 := Blk.mk w w.heap.size 49 #[.int .i64 0, .slice none 0 0, .int .i64 0, .int .i64 0, .int .i64 0, .int .i64 0, .slice none 0 0, .slice none 0 0, .slice none 0 0, .slice none 0 0, .slice none 0 0, .slice none 0 0] rfl
  have hw := (New.refl w).alloc (.cells #[.int .i64 0, .slice none 0 0, .int .i64 0, .int .i64 0, .int .i64 0, .int .i64 0, .slice none 0 0, .slice none 0 0, .slice none 0 0, .slice none 0 0, .slice none 0 0, .slice none 0 0] 49)
  have c1 := b1.cells
  have f1 := b1.frees
  go_enter Tryz.func27, Tryz.ntmps27
  go_wp2
  refine bodyPost_ret (v := .agg #[.int .i64 z, .slice none 0 0, .int .i64 zPr.sa, .int .i64 zPr.si, .int .i64 zPr.ho, .int .i64 zPr.nx, .slice zPr.a1 zPr.n1 zPr.c1, .slice zPr.a2 zPr.n2 zPr.c2, .slice zPr.aN zPr.nN zPr.cN, .slice zPr.aW zPr.nW zPr.cW, .slice zPr.aM zPr.nM zPr.cM, .slice zPr.aS zPr.nS zPr.cS]) (by simp [results, Tryz.results27, go_sem, zPr]) rfl ?_
  refine ⟨rfl, ?_⟩
  first | exact (New.refl w).alloc _ | exact new12 hw (Nat.le_refl _) _ _ _ _ _ _ _ _ _ _ _ _ 
end Go.Proofs.YtdbnmkffinhdjaaGreat
