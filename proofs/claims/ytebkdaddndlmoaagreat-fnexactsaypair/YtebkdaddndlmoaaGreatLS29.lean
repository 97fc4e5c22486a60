/- What is proved here: what a call on a pair works at, and small facts on it. No condition. What is proved here: what a pair is behind what a node did: how it reads, that it has its limits, and that it is the call's own. No condition. -/
import Derived.Test.YtebkdaddndlmoaaGreatLS28
import Derived.Test.YtebkdaddndlmoaaGreatLS6
import Derived.Test.YtebkdaddndlmoaaGreatLS8
namespace Go.Proofs.YtebkdaddndlmoaaGreat
open Go.ChangeShapes Go.WideShapes Go.ChangeAt Go.RowKit Go.Deep Go.Sort
set_option linter.unusedVariables false
set_option linter.unusedSimpArgs false
set_option maxRecDepth 100000

/-- What a call works at: a pair, and what it was told. -/
def pcCs (P : PrV) (nd pe az ct : Int) (ke : Bool) (dA : Option Addr) (dn dc : Nat) (ek ep : Int) (eA : Option Addr) (en ec : Nat) (yA : Option Addr) (yn yc : Nat) : Array Value := #[.int .i64 P.sa, .int .i64 P.si, .int .i64 P.ho, .int .i64 P.nx, .slice P.a1 P.n1 P.c1, .slice P.a2 P.n2 P.c2, .slice P.aN P.nN P.cN, .slice P.aW P.nW P.cW, .slice P.aM P.nM P.cM, .slice P.aS P.nS P.cS, .int .i64 nd, .int .i64 pe, .int .i64 az, .int .i64 ct, .bool ke, .slice dA dn dc, .int .i64 ek, .int .i64 ep, .slice eA en ec, .slice yA yn yc]
theorem pcCs_get (P : PrV) (nd pe az ct : Int) (ke : Bool) (dA : Option Addr) (dn dc : Nat) (ek ep : Int) (eA : Option Addr) (en ec : Nat) (yA : Option Addr) (yn yc : Nat) : ∀ j, j < 10 → (pcCs P nd pe az ct ke dA dn dc ek ep eA en ec yA yn yc)[j]? = (#[.int .i64 P.sa, .int .i64 P.si, .int .i64 P.ho, .int .i64 P.nx, .slice P.a1 P.n1 P.c1, .slice P.a2 P.n2 P.c2, .slice P.aN P.nN P.cN, .slice P.aW P.nW P.cW, .slice P.aM P.nM P.cM, .slice P.aS P.nS P.cS] : Array Value)[j]? := by
  intro j hj
  obtain rfl | rfl | rfl | rfl | rfl | rfl | rfl | rfl | rfl | rfl : j = 0 ∨ j = 1 ∨ j = 2 ∨ j = 3 ∨ j = 4 ∨ j = 5 ∨ j = 6 ∨ j = 7 ∨ j = 8 ∨ j = 9 := by omega
  all_goals rfl
theorem own_low {w : World} {lo lo' sz n : Nat} {e : TypeId} {v : Value} {xs : List Value} (h : w.ownsRow lo e sz v n xs) (hl : lo' ≤ lo) : w.ownsRow lo' e sz v n xs := by
  refine ⟨h.1, ?_⟩
  rcases h.2 with h' | ⟨g', cap', cur, h', hb, hh, r⟩
  · exact .inl h'
  · exact .inr ⟨g', cap', cur, h', by omega, hh, r⟩
def prF (P : PrV) : Int := pF P.sa P.si P.ho P.nx P.r1 P.r2 (P.VN.map NdV.r) (P.VW.map WiV.r) (P.VM.map MlV.r) (P.VS.map EkV.r)
theorem set10t {S : Nat → Prop} (w : World) (B : Nat) (hS : S B) (v0 v1 v2 v3 v4 v5 v6 v7 v8 v9 : Value) : Turn S w ((((((((((w.setCell ⟨B, 0, none⟩ v0).setCell ⟨B, 1, none⟩ v1).setCell ⟨B, 2, none⟩ v2).setCell ⟨B, 3, none⟩ v3).setCell ⟨B, 4, none⟩ v4).setCell ⟨B, 5, none⟩ v5).setCell ⟨B, 6, none⟩ v6).setCell ⟨B, 7, none⟩ v7).setCell ⟨B, 8, none⟩ v8).setCell ⟨B, 9, none⟩ v9) := (((((((((((Turn.refl S w).set (p := ⟨B, 0, none⟩) hS v0).set (p := ⟨B, 1, none⟩) hS v1).set (p := ⟨B, 2, none⟩) hS v2).set (p := ⟨B, 3, none⟩) hS v3).set (p := ⟨B, 4, none⟩) hS v4).set (p := ⟨B, 5, none⟩) hS v5).set (p := ⟨B, 6, none⟩) hS v6).set (p := ⟨B, 7, none⟩) hS v7).set (p := ⟨B, 8, none⟩) hS v8).set (p := ⟨B, 9, none⟩) hS v9)
theorem set12t {S : Nat → Prop} (w : World) (B : Nat) (hS : S B) (v0 v1 v2 v3 v4 v5 v6 v7 v8 v9 v10 v11 : Value) : Turn S w ((((((((((((w.setCell ⟨B, 0, none⟩ v0).setCell ⟨B, 1, none⟩ v1).setCell ⟨B, 2, none⟩ v2).setCell ⟨B, 3, none⟩ v3).setCell ⟨B, 4, none⟩ v4).setCell ⟨B, 5, none⟩ v5).setCell ⟨B, 6, none⟩ v6).setCell ⟨B, 7, none⟩ v7).setCell ⟨B, 8, none⟩ v8).setCell ⟨B, 9, none⟩ v9).setCell ⟨B, 10, none⟩ v10).setCell ⟨B, 11, none⟩ v11) := (((((((((((((Turn.refl S w).set (p := ⟨B, 0, none⟩) hS v0).set (p := ⟨B, 1, none⟩) hS v1).set (p := ⟨B, 2, none⟩) hS v2).set (p := ⟨B, 3, none⟩) hS v3).set (p := ⟨B, 4, none⟩) hS v4).set (p := ⟨B, 5, none⟩) hS v5).set (p := ⟨B, 6, none⟩) hS v6).set (p := ⟨B, 7, none⟩) hS v7).set (p := ⟨B, 8, none⟩) hS v8).set (p := ⟨B, 9, none⟩) hS v9).set (p := ⟨B, 10, none⟩) hS v10).set (p := ⟨B, 11, none⟩) hS v11)
theorem PrOw.low {w : World} {b0 b1 bl : Nat} {col : Nat → Nat} {P : PrV} (h : PrOw w b0 b1 col P) (hb : bl ≤ b0) : PrOw w bl b1 col P := by
  obtain ⟨lo, hi, hS, hcS⟩ := h.oS
  have hc : ∀ i x, Cl col b0 b1 i x → Cl col bl b1 i x := fun i x hx => ⟨hx.1, Nat.le_trans hb hx.2.1, hx.2.2⟩
  exact ⟨own_low h.o1 hb, own_low h.o2 hb, fun j hj => hc _ _ (h.k1 j hj), fun j hj => hc _ _ (h.k2 j hj), h.oN.mono (hc _), h.oW.mono (hc _), h.oQ.mono (hc _), ⟨lo, hi, hS, fun x h1 h2 => hc _ _ (hcS x h1 h2)⟩, h.bW, h.bM⟩
theorem fin12 {w : World} {B b0 b1 bl : Nat} {col : Nat → Nat} {R : PrV} (h : PrOw w b0 b1 col R) (hB : B < b0) (hl : bl ≤ b0) (hs : b1 ≤ w.heap.size) (v0 v1 v2 v3 v4 v5 v6 v7 v8 v9 v10 v11 : Value) : PrOw ((((((((((((w.setCell ⟨B, 0, none⟩ v0).setCell ⟨B, 1, none⟩ v1).setCell ⟨B, 2, none⟩ v2).setCell ⟨B, 3, none⟩ v3).setCell ⟨B, 4, none⟩ v4).setCell ⟨B, 5, none⟩ v5).setCell ⟨B, 6, none⟩ v6).setCell ⟨B, 7, none⟩ v7).setCell ⟨B, 8, none⟩ v8).setCell ⟨B, 9, none⟩ v9).setCell ⟨B, 10, none⟩ v10).setCell ⟨B, 11, none⟩ v11) bl ((((((((((((w.setCell ⟨B, 0, none⟩ v0).setCell ⟨B, 1, none⟩ v1).setCell ⟨B, 2, none⟩ v2).setCell ⟨B, 3, none⟩ v3).setCell ⟨B, 4, none⟩ v4).setCell ⟨B, 5, none⟩ v5).setCell ⟨B, 6, none⟩ v6).setCell ⟨B, 7, none⟩ v7).setCell ⟨B, 8, none⟩ v8).setCell ⟨B, 9, none⟩ v9).setCell ⟨B, 10, none⟩ v10).setCell ⟨B, 11, none⟩ v11).heap.size col R := by
  have t := set12t (S := fun x => x = B) w B rfl v0 v1 v2 v3 v4 v5 v6 v7 v8 v9 v10 v11
  exact ((h.turn t (by intro x h1 h2 e; omega)).up (Nat.le_trans hs t.size)).low hl
theorem new12 {a w : World} {B : Nat} (h : New a w) (hB : a.heap.size ≤ B) (v0 v1 v2 v3 v4 v5 v6 v7 v8 v9 v10 v11 : Value) : New a ((((((((((((w.setCell ⟨B, 0, none⟩ v0).setCell ⟨B, 1, none⟩ v1).setCell ⟨B, 2, none⟩ v2).setCell ⟨B, 3, none⟩ v3).setCell ⟨B, 4, none⟩ v4).setCell ⟨B, 5, none⟩ v5).setCell ⟨B, 6, none⟩ v6).setCell ⟨B, 7, none⟩ v7).setCell ⟨B, 8, none⟩ v8).setCell ⟨B, 9, none⟩ v9).setCell ⟨B, 10, none⟩ v10).setCell ⟨B, 11, none⟩ v11) := h.before (set12t (S := fun x => x = B) w B rfl v0 v1 v2 v3 v4 v5 v6 v7 v8 v9 v10 v11) (by intro i hi e; omega)
theorem l14Bad16 (z : Int) (w : World) : Calls Tryz.prog 44 #[.int .i64 z] w fun e w' => e = .returned (.agg #[.int .i64 z, .slice none 0 0, .int .i64 zPr.sa, .int .i64 zPr.si, .int .i64 zPr.ho, .int .i64 zPr.nx, .slice zPr.a1 zPr.n1 zPr.c1, .slice zPr.a2 zPr.n2 zPr.c2, .slice zPr.aN zPr.nN zPr.cN, .slice zPr.aW zPr.nW zPr.cW, .slice zPr.aM zPr.nM zPr.cM, .slice zPr.aS zPr.nS zPr.cS]) ∧ New w w' := by
  have b1 := Blk.mk w w.heap.size 46 #[.int .i64 0, .slice none 0 0, .int .i64 0, .int .i64 0, .int .i64 0, .int .i64 0, .slice none 0 0, .slice none 0 0, .slice none 0 0, .slice none 0 0, .slice none 0 0, .slice none 0 0] rfl
  have hw := (New.refl w).alloc (.cells #[.int .i64 0, .slice none 0 0, .int .i64 0, .int .i64 0, .int .i64 0, .int .i64 0, .slice none 0 0, .slice none 0 0, .slice none 0 0, .slice none 0 0, .slice none 0 0, .slice none 0 0] 46)
  have c1 := b1.cells
  have f1 := b1.frees
  go_enter Tryz.func44, Tryz.ntmps44
  go_wp2
  refine bodyPost_ret (v := .agg #[.int .i64 z, .slice none 0 0, .int .i64 zPr.sa, .int .i64 zPr.si, .int .i64 zPr.ho, .int .i64 zPr.nx, .slice zPr.a1 zPr.n1 zPr.c1, .slice zPr.a2 zPr.n2 zPr.c2, .slice zPr.aN zPr.nN zPr.cN, .slice zPr.aW zPr.nW zPr.cW, .slice zPr.aM zPr.nM zPr.cM, .slice zPr.aS zPr.nS zPr.cS]) (by simp [results, Tryz.results44, go_sem, zPr]) rfl ?_
  refine ⟨rfl, ?_⟩
  first | exact (New.refl w).alloc _ | exact new12 hw (Nat.le_refl _) _ _ _ _ _ _ _ _ _ _ _ _ 
end Go.Proofs.YtebkdaddndlmoaaGreat

namespace Go.Proofs.YtebkdaddndlmoaaGreat
open Go.ChangeShapes Go.WideShapes Go.ChangeAt Go.RowKit Go.Deep Go.Sort
set_option linter.unusedVariables false
set_option linter.unusedSimpArgs false
set_option maxRecDepth 100000


def ekOf (e : Ek) : EkV := ⟨e, none, 0⟩
def mlOf (m : Ml) : MlV := ⟨m, none, 0⟩
def PrV.gM (P : PrV) (M : List Ml) : PrV := { P with nM := P.nM + (M.take (40 - P.nM)).length, VM := P.VM ++ (M.take (40 - P.nM)).map mlOf }
def PrV.gS (P : PrV) (co : Int) (L : List Ek) : PrV := { P with nS := if (P.nS : Int) < co then co.toNat else P.nS, VS := if (P.nS : Int) < co then (L.take co.toNat).map ekOf else P.VS }
theorem PrE.gM {P Q : PrV} (h : PrE Q P) (M : List Ml) : PrE (Q.gM M) (P.gM M) := by
  refine ⟨h.sa, h.si, h.ho, h.nx, h.n1, h.n2, h.nN, h.nW, ?_, h.nS, h.r1, h.r2, h.nd, h.wi, ?_, h.se⟩
  · show Q.nM + (M.take (40 - Q.nM)).length = P.nM + (M.take (40 - P.nM)).length
    rw [h.nM]
  · show (Q.VM ++ (M.take (40 - Q.nM)).map mlOf).map MlV.r = (P.VM ++ (M.take (40 - P.nM)).map mlOf).map MlV.r
    rw [List.map_append, List.map_append, h.mq, h.nM]
theorem PrE.gS {P Q : PrV} (h : PrE Q P) (co : Int) (L : List Ek) : PrE (Q.gS co L) (P.gS co L) := by
  refine ⟨h.sa, h.si, h.ho, h.nx, h.n1, h.n2, h.nN, h.nW, h.nM, ?_, h.r1, h.r2, h.nd, h.wi, h.mq, ?_⟩
  · show (if (Q.nS : Int) < co then co.toNat else Q.nS) = if (P.nS : Int) < co then co.toNat else P.nS
    rw [h.nS]
  · show (if (Q.nS : Int) < co then (L.take co.toNat).map ekOf else Q.VS).map EkV.r = (if (P.nS : Int) < co then (L.take co.toNat).map ekOf else P.VS).map EkV.r
    rw [h.nS]
    split
    · rfl
    · exact h.se
theorem q1_zero {a b : Int} (h : q1F a b = 0) : a = 0 ∧ b = 0 := by
  unfold q1F at h
  split at h
  · rename_i hn; exact absurd h hn
  · rename_i hn; exact ⟨by omega, h⟩
theorem enF_len16 {e k p : Int} {n : Nat} (h : enF e k p n = 0) : n ≤ 60 := by
  unfold enF at h
  split at h
  · omega
  · unfold evF at h
    repeat (first | omega | split at h)
theorem lgF_en16 {E : Int} : ∀ {L : List Ek} {a : Int}, lgF E a L = 0 → ∀ x ∈ L, x.xs.length ≤ 60
  | [], _, _, x, hx => by cases hx
  | e :: L, a, h, x, hx => by
    unfold lgF at h
    split at h
    · rename_i hn; exact absurd h hn
    · rename_i hn
      split at h
      · omega
      · rcases List.mem_cons.1 hx with rfl | hx
        · exact enF_len16 (Decidable.of_not_not hn)
        · exact lgF_en16 h x hx
theorem ffF_all {α : Type} {g : α → Int} : ∀ {L : List α}, ffF g L = 0 → ∀ x ∈ L, g x = 0
  | [], _, x, hx => by cases hx
  | y :: L, h, x, hx => by
    unfold ffF at h
    split at h
    · rename_i hn; exact absurd h hn
    · rename_i hn
      rcases List.mem_cons.1 hx with rfl | hx
      · omega
      · exact ffF_all h x hx
theorem totK_60 : ∀ {V : List EkV}, (∀ v ∈ V, v.r.xs.length ≤ 60) → totK V ≤ 61 * V.length
  | [], _ => by simp [totK]
  | v :: V, h => by
    have h1 := totK_60 (fun u hu => h u (List.mem_cons_of_mem _ hu))
    have h2 := h v (List.mem_cons_self ..)
    simp only [totK, List.length_cons]; omega
theorem totMq_60 : ∀ {V : List MlV}, (∀ v ∈ V, v.m.e.xs.length ≤ 60) → totMq V ≤ 61 * V.length
  | [], _ => by simp [totMq]
  | v :: V, h => by
    have h1 := totMq_60 (fun u hu => h u (List.mem_cons_of_mem _ hu))
    have h2 := h v (List.mem_cons_self ..)
    simp only [totMq, MlV.tot, List.length_cons]; omega
theorem m1F_len {x : Ml} (h : m1F x = 0) : x.e.xs.length ≤ 60 := by
  unfold m1F at h
  split at h
  · omega
  · unfold mlF at h
    split at h
    · omega
    · split at h
      · omega
      · split at h
        · omega
        · split at h
          · unfold efF at h
            split at h
            · rename_i hn; exact absurd h hn
            · rename_i hn; exact enF_len16 (Decidable.of_not_not hn)
          · split at h
            · omega
            · rename_i hn
              have : x.e.xs.length = 0 := by
                by_cases hq : x.e.ep = 0 ∧ x.e.ki = 0 ∧ x.e.pe = 0 ∧ x.e.xs.length = 0
                · exact hq.2.2.2
                · exact absurd (.inr hq) hn
              omega
/-- What a pair without a fault has. -/
structure PrB0 (P : PrV) : Prop where
  lN : P.VN.length = 2
  lW : P.VW.length = 3
  nf : ∀ (k : Nat) (v : NdV), P.VN[k]? = some v → nF v.id v.up v.ro v.ep v.su v.ma v.ot v.co v.V.length (v.V.map EkV.r) = 0 ∧ v.id = k
  lM : P.VM.length ≤ 40
  tM : totMq P.VM ≤ 2440
  lS : P.VS.length ≤ 100
  tS : totK P.VS ≤ 6100
  tN : ∀ v ∈ P.VN, totK v.V ≤ 6100
theorem n1F_zero {k : Int} {v : NdV} (h : n1F k v.r = 0) : nF v.id v.up v.ro v.ep v.su v.ma v.ot v.co v.V.length (v.V.map EkV.r) = 0 ∧ v.id = k := by
  unfold n1F NdV.r at h
  simp only [List.length_map] at h
  by_cases h1 : nF v.id v.up v.ro v.ep v.su v.ma v.ot v.co v.V.length (v.V.map EkV.r) = 0
  · refine ⟨h1, ?_⟩
    rw [if_neg (by simp [h1])] at h
    by_cases h2 : v.id = k
    · exact h2
    · rw [if_pos h2] at h; omega
  · rw [if_pos h1] at h; exact absurd h h1
theorem prB0_of {P : PrV} (h : pF P.sa P.si P.ho P.nx P.r1 P.r2 (P.VN.map NdV.r) (P.VW.map WiV.r) (P.VM.map MlV.r) (P.VS.map EkV.r) = 0) : PrB0 P := by
  unfold pF at h
  have h1 := (q1_zero h).2
  split at h1
  · omega
  · rename_i hn
    have hl : P.VN.length = 2 ∧ P.VW.length = 3 := by
      have := hn
      simp only [List.length_map] at this
      by_cases q : P.VN.length = 2 ∧ P.VW.length = 3
      · exact q
      · exact absurd q this
    have h2 := q1_zero h1
    have h3 := q1_zero h2.2
    have h4 := q1_zero h3.2
    obtain ⟨x, y, hxy⟩ : ∃ x y, P.VN = [x, y] := by
      match hP : P.VN, hl.1 with
      | [x, y], _ => exact ⟨x, y, rfl⟩
    have h5 := h2.1
    rw [hxy] at h5
    simp only [List.map_cons, List.map_nil, ndF] at h5
    have hx0 : n1F 0 x.r = 0 := by
      by_cases q : n1F 0 x.r = 0
      · exact q
      · rw [if_pos q] at h5; exact h5
    rw [if_neg (by simp [hx0])] at h5
    have kx := n1F_zero hx0
    have ky := n1F_zero h5
    have hnf : ∀ (k : Nat) (v : NdV), P.VN[k]? = some v → nF v.id v.up v.ro v.ep v.su v.ma v.ot v.co v.V.length (v.V.map EkV.r) = 0 ∧ v.id = k := by
      intro k v hv
      rw [hxy] at hv
      match k, hv with
      | 0, hv => simp at hv; subst hv; exact ⟨kx.1, kx.2⟩
      | 1, hv => simp at hv; subst hv; exact ⟨ky.1, ky.2⟩
      | k + 2, hv => simp at hv
    have h6 := h4.1
    unfold msF at h6
    have h7 := h4.2
    unfold seF at h7
    simp only [List.length_map] at h6 h7
    have lM : P.VM.length ≤ 40 := by
      by_cases q : 40 < P.VM.length
      · rw [if_pos q] at h6; omega
      · omega
    have lS : P.VS.length ≤ 100 := by
      by_cases q : 100 < P.VS.length
      · rw [if_pos q] at h7; omega
      · omega
    rw [if_neg (by omega)] at h6 h7
    refine ⟨hl.1, hl.2, hnf, lM, ?_, lS, ?_, ?_⟩
    · have := totMq_60 (V := P.VM) (fun v hv => m1F_len (ffF_all h6 v.r (List.mem_map_of_mem hv)))
      omega
    · have := totK_60 (V := P.VS) (fun v hv => enF_len16 (ffF_all h7 v.r (List.mem_map_of_mem hv)))
      omega
    · intro v hv
      obtain ⟨i, hi⟩ := List.getElem?_of_mem hv
      have k1 := nF_ok _ _ _ _ _ _ _ _ _ _ (hnf i v hi).1
      have k2 := totK_60 (V := v.V) (fun u hu => lgF_en16 k1.2.2.1 u.r (List.mem_map_of_mem hu))
      have := k1.2.1
      omega
theorem PrB0.tt {P : PrV} (h : PrB0 P) : totNd P.VN ≤ 12202 := by
  obtain ⟨x, y, hxy⟩ : ∃ x y, P.VN = [x, y] := by
    match hP : P.VN, h.lN with
    | [x, y], _ => exact ⟨x, y, rfl⟩
  have h1 := h.tN x (by rw [hxy]; simp)
  have h2 := h.tN y (by rw [hxy]; simp)
  rw [hxy]
  simp only [totNd, NdV.tot]; omega
/-- Colour 0 is nobody's: what turns there turns no part of the pair. -/
theorem PrOw.turnZ {w w' : World} {b0 b1 : Nat} {col : Nat → Nat} {P : PrV} {S : Nat → Prop} (h : PrOw w b0 b1 col P) (t : Turn S w w') (hS : ∀ x, b0 ≤ x → x < b1 → ¬ col x = 0 → ¬ S x) : PrOw w' b0 b1 col P := by
  obtain ⟨lo, hi, hs, hc⟩ := h.oS
  have H : ∀ i x, ¬ i = 0 → Cl col b0 b1 i x → ¬ S x := fun i x hi hx => hS x hx.2.1 hx.2.2 (by rw [hx.1]; exact hi)
  exact ⟨h.o1.turn t (fun k hk => H 5 k (by decide) (h.k1 k hk)), h.o2.turn t (fun k hk => H 6 k (by decide) (h.k2 k hk)), h.k1, h.k2, h.oN.turn t (fun x hx => H 1 x (by decide) hx), h.oW.turn t (fun x hx => H 2 x (by decide) hx), h.oQ.turn t (fun x hx => H 3 x (by decide) hx), ⟨lo, hi, hs.turn t (fun k a b => H 4 k (by decide) (hc k a b)), hc⟩, h.bW, h.bM⟩
theorem OwQ1.snoc {w w' : World} {F G : Nat → Prop} {g n c g' n' c' : Nat} {U : List MlV} {v : MlV} (h : OwQ1 w F g n c U) (t : Turn (fun x => x = g) w w') (hr : w'.ownsRow 0 137 10 (.slice (some ⟨g', 0, none⟩) n' c') n' (cellsMq (U ++ [v]))) (hv : OwAt w' v.a v.m.e.xs.length v.c v.m.e.xs) (hl : v.m.e.xs.length ≤ 1048576) (hF : ∀ x, F x → G x ∧ (x = g ∨ ¬ x = g')) (hgv : ∀ x, v.a = some x → G x.block ∧ ¬ F x.block ∧ ¬ x.block = g') (hg : G g') : OwQ1 w' G g' n' c' (U ++ [v]) := by
  have hin : ∀ u ∈ U, ∀ x, u.a = some x → G x.block ∧ ¬ x.block = g' := by
    intro u hu x hx
    have h1 := h.inn u hu x hx
    have h2 := hF _ h1.1
    exact ⟨h2.1, fun e => by rcases h2.2 with e' | e'; exact h1.2 e'; exact e' e⟩
  refine ⟨hr, ?_, ?_, ?_, hg, ?_⟩
  · intro i u hu
    rcases Nat.lt_or_ge i U.length with hi | hi
    · rw [List.getElem?_append_left hi] at hu
      exact (h.own i u hu).turn t (fun x hx => (h.inn u (List.mem_of_getElem? hu) x hx).2)
    · rw [List.getElem?_append_right hi] at hu
      obtain rfl := List.mem_singleton.1 (List.mem_of_getElem? hu)
      exact hv
  · intro u hu
    rcases List.mem_append.1 hu with e | e
    · exact h.len u e
    · obtain rfl := List.mem_singleton.1 e; exact hl
  · intro u hu x hx
    rcases List.mem_append.1 hu with e | e
    · exact hin u e x hx
    · obtain rfl := List.mem_singleton.1 e
      exact ⟨(hgv x hx).1, (hgv x hx).2.2⟩
  · intro i j u u' x y hi hj hij hx hy
    rcases Nat.lt_or_ge i U.length with h1 | h1 <;> rcases Nat.lt_or_ge j U.length with h2 | h2
    · rw [List.getElem?_append_left h1] at hi
      rw [List.getElem?_append_left h2] at hj
      exact h.apart i j u u' x y hi hj hij hx hy
    · rw [List.getElem?_append_left h1] at hi
      rw [List.getElem?_append_right h2] at hj
      obtain rfl := List.mem_singleton.1 (List.mem_of_getElem? hj)
      intro e
      exact (hgv y hy).2.1 (e ▸ (h.inn u (List.mem_of_getElem? hi) x hx).1)
    · rw [List.getElem?_append_right h1] at hi
      rw [List.getElem?_append_left h2] at hj
      obtain rfl := List.mem_singleton.1 (List.mem_of_getElem? hi)
      intro e
      exact (hgv x hx).2.1 (e.symm ▸ (h.inn u' (List.mem_of_getElem? hj) y hy).1)
    · have l1 := (List.getElem?_eq_some_iff.1 hi).1
      have l2 := (List.getElem?_eq_some_iff.1 hj).1
      rw [List.length_append, List.length_singleton] at l1 l2
      omega
end Go.Proofs.YtebkdaddndlmoaaGreat
