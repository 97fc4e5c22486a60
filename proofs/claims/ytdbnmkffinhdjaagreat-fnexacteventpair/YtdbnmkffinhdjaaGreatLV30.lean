/- Lemmas and contracts of one law. -/
import Derived.Test.YtdbnmkffinhdjaaGreatLV29
import Derived.Test.YtdbnmkffinhdjaaGreatLV8
import Derived.Test.YtdbnmkffinhdjaaGreatLV28
namespace Go.Proofs.YtdbnmkffinhdjaaGreat
open Go.ChangeShapes Go.WideShapes Go.ChangeAt Go.RowKit Go.Deep Go.Sort
set_option linter.unusedVariables false
set_option linter.unusedSimpArgs false
set_option maxRecDepth 100000
set_option maxHeartbeats 25600000

/-- What a node did: a code, the node, what it sends. -/
structure NA where
  z : Int
  id : Int
  up : Bool
  ro : Int
  ep : Int
  su : Int
  ma : Int
  ot : Int
  co : Int
  L : List Ek
  M : List Ml
def NA.v (a : NA) (A : Option Addr) (c : Nat) (U : List EkV) : NdV := ⟨a.id, a.up, a.ro, a.ep, a.su, a.ma, a.ot, a.co, A, c, U⟩
def ekOf (e : Ek) : EkV := ⟨e, none, 0⟩
def mlOf (m : Ml) : MlV := ⟨m, none, 0⟩
theorem ekOf_map (L : List Ek) : (L.map ekOf).map EkV.r = L := by
  rw [List.map_map]
  exact List.map_id'' (fun _ => rfl) L
/-- What is asked of it where it has no code. -/
structure NA.Good (a : NA) : Prop where
  c0 : 0 ≤ a.co
  c1 : a.co ≤ a.L.length
  ln : a.L.length ≤ 200
  tt : ∀ U : List EkV, U.map EkV.r = a.L → totK U ≤ 1000000
  m1 : a.M.length ≤ 1
  mb : ∀ m ∈ a.M, m.e.xs.length ≤ 1000
def PrV.setN (P : PrV) (k : Nat) (v : NdV) : PrV := { P with VN := P.VN.set k v }
def PrV.addM (P : PrV) (a : Option Addr) (c : Nat) (v : MlV) : PrV := { P with aM := a, nM := P.nM + 1, cM := c, VM := P.VM ++ [v] }
def PrV.setS (P : PrV) (a : Option Addr) (n c : Nat) (U : List EkV) : PrV := { P with aS := a, nS := n, cS := c, VS := U }
def PrV.gM (P : PrV) (M : List Ml) : PrV := { P with nM := P.nM + (M.take (40 - P.nM)).length, VM := P.VM ++ (M.take (40 - P.nM)).map mlOf }
def PrV.gS (P : PrV) (co : Int) (L : List Ek) : PrV := { P with nS := if (P.nS : Int) < co then co.toNat else P.nS, VS := if (P.nS : Int) < co then (L.take co.toNat).map ekOf else P.VS }
/-- A pair at whose node k that was done. -/
def PrV.gone (P : PrV) (k : Nat) (a : NA) : PrV := ((P.setN k (a.v none 0 (a.L.map ekOf))).gM a.M).gS a.co a.L
theorem PrE.setN {P Q : PrV} (h : PrE Q P) {k : Nat} {v u : NdV} (e : v.r = u.r) : PrE (Q.setN k v) (P.setN k u) :=
  ⟨h.sa, h.si, h.ho, h.nx, h.n1, h.n2, h.nN, h.nW, h.nM, h.nS, h.r1, h.r2, by show (Q.VN.set k v).map NdV.r = (P.VN.set k u).map NdV.r; rw [List.map_set, List.map_set, h.nd, e], h.wi, h.mq, h.se⟩
theorem PrE.gM {P Q : PrV} (h : PrE Q P) (M : List Ml) : PrE (Q.gM M) (P.gM M) := by
  refine ⟨h.sa, h.si, h.ho, h.nx, h.n1, h.n2, h.nN, h.nW, ?_, h.nS, h.r1, h.r2, h.nd, h.wi, ?_, h.se⟩
  · show Q.nM + (M.take (40 - Q.nM)).length = P.nM + (M.take (40 - P.nM)).length
    rw [h.nM]
  · show (Q.VM ++ (M.take (40 - Q.nM)).map mlOf).map MlV.r = (P.VM ++ (M.take (40 - P.nM)).map mlOf).map MlV.r
    rw [List.map_append, List.map_append, h.mq, h.nM]
theorem PrE.gS {P Q : PrV} (h : PrE Q P) (co : Int) (L : List Ek) : PrE (Q.gS co L) (P.gS co L) := by
  refine ⟨h.sa, h.si, h.ho, h.nx, h.n1, h.n2, h.nN, h.nW, h.nM, ?_, h.r1, h.r2, h.nd, h.wi, h.mq, ?_⟩
  · show (if (Q.nS : Int) < co then co.toNat else Q.nS) = if (P.nS : Int) < co then co.toNat else P.nS
    rw [h.nS]
  · show (if (Q.nS : Int) < co then (L.take co.toNat).map ekOf else Q.VS).map EkV.r = (if (P.nS : Int) < co then (L.take co.toNat).map ekOf else P.VS).map EkV.r
    rw [h.nS]
    split
    · rfl
    · exact h.se
theorem PrE.gone {P Q : PrV} (h : PrE Q P) (k : Nat) (a : NA) : PrE (Q.gone k a) (P.gone k a) := ((h.setN rfl).gM _).gS _ _
theorem gM_nil (P : PrV) : PrE P (P.gM []) := by
  refine ⟨rfl, rfl, rfl, rfl, rfl, rfl, rfl, rfl, ?_, rfl, rfl, rfl, rfl, rfl, ?_, rfl⟩
  · show P.nM = P.nM + (([] : List Ml).take (40 - P.nM)).length
    simp
  · show P.VM.map MlV.r = (P.VM ++ (([] : List Ml).take (40 - P.nM)).map mlOf).map MlV.r
    simp
theorem gM_full {P : PrV} (h : 40 ≤ P.nM) (M : List Ml) : PrE P (P.gM M) := by
  have e : 40 - P.nM = 0 := by omega
  refine ⟨rfl, rfl, rfl, rfl, rfl, rfl, rfl, rfl, ?_, rfl, rfl, rfl, rfl, rfl, ?_, rfl⟩
  · show P.nM = P.nM + (M.take (40 - P.nM)).length
    rw [e]; simp
  · show P.VM.map MlV.r = (P.VM ++ (M.take (40 - P.nM)).map mlOf).map MlV.r
    rw [e]; simp
theorem gM_one {P : PrV} (h : P.nM < 40) (a : Option Addr) (c : Nat) (v : MlV) : PrE (P.addM a c v) (P.gM [v.m]) := by
  obtain ⟨q, e⟩ : ∃ q, 40 - P.nM = q + 1 := ⟨39 - P.nM, by omega⟩
  refine ⟨rfl, rfl, rfl, rfl, rfl, rfl, rfl, rfl, ?_, rfl, rfl, rfl, rfl, rfl, ?_, rfl⟩
  · show P.nM + 1 = P.nM + ([v.m].take (40 - P.nM)).length
    rw [e]; simp
  · show (P.VM ++ [v]).map MlV.r = (P.VM ++ ([v.m].take (40 - P.nM)).map mlOf).map MlV.r
    rw [e]; simp [mlOf, MlV.r]
theorem gS_no {P : PrV} {co : Int} (h : ¬ (P.nS : Int) < co) (L : List Ek) : PrE P (P.gS co L) := by
  refine ⟨rfl, rfl, rfl, rfl, rfl, rfl, rfl, rfl, rfl, ?_, rfl, rfl, rfl, rfl, rfl, ?_⟩
  · show P.nS = if (P.nS : Int) < co then co.toNat else P.nS
    rw [if_neg h]
  · show P.VS.map EkV.r = (if (P.nS : Int) < co then (L.take co.toNat).map ekOf else P.VS).map EkV.r
    rw [if_neg h]
theorem gS_yes {P : PrV} {co : Int} (h : (P.nS : Int) < co) {L : List Ek} {U : List EkV} (e : U.map EkV.r = L.take co.toNat) (a : Option Addr) (c : Nat) : PrE (P.setS a co.toNat c U) (P.gS co L) := by
  refine ⟨rfl, rfl, rfl, rfl, rfl, rfl, rfl, rfl, rfl, ?_, rfl, rfl, rfl, rfl, rfl, ?_⟩
  · show co.toNat = if (P.nS : Int) < co then co.toNat else P.nS
    rw [if_pos h]
  · show U.map EkV.r = (if (P.nS : Int) < co then (L.take co.toNat).map ekOf else P.VS).map EkV.r
    rw [if_pos h, ekOf_map, e]

theorem q1_zero {a b : Int} (h : q1F a b = 0) : a = 0 ∧ b = 0 := by
  unfold q1F at h
  split at h
  · rename_i hn; exact absurd h hn
  · rename_i hn; exact ⟨by omega, h⟩
theorem enF_len16 {e k p : Int} {n : Nat} (h : enF e k p n = 0) : n ≤ 60 := by
  unfold enF at h
  split at h
  · omega
  · unfold evF at h
    repeat (first | omega | split at h)
theorem lgF_en16 {E : Int} : ∀ {L : List Ek} {a : Int}, lgF E a L = 0 → ∀ x ∈ L, x.xs.length ≤ 60
  | [], _, _, x, hx => by cases hx
  | e :: L, a, h, x, hx => by
    unfold lgF at h
    split at h
    · rename_i hn; exact absurd h hn
    · rename_i hn
      split at h
      · omega
      · rcases List.mem_cons.1 hx with rfl | hx
        · exact enF_len16 (Decidable.of_not_not hn)
        · exact lgF_en16 h x hx
theorem ffF_all {α : Type} {g : α → Int} : ∀ {L : List α}, ffF g L = 0 → ∀ x ∈ L, g x = 0
  | [], _, x, hx => by cases hx
  | y :: L, h, x, hx => by
    unfold ffF at h
    split at h
    · rename_i hn; exact absurd h hn
    · rename_i hn
      rcases List.mem_cons.1 hx with rfl | hx
      · omega
      · exact ffF_all h x hx
theorem totK_60 : ∀ {V : List EkV}, (∀ v ∈ V, v.r.xs.length ≤ 60) → totK V ≤ 61 * V.length
  | [], _ => by simp [totK]
  | v :: V, h => by
    have h1 := totK_60 (fun u hu => h u (List.mem_cons_of_mem _ hu))
    have h2 := h v (List.mem_cons_self ..)
    simp only [totK, List.length_cons]; omega
theorem totMq_60 : ∀ {V : List MlV}, (∀ v ∈ V, v.m.e.xs.length ≤ 60) → totMq V ≤ 61 * V.length
  | [], _ => by simp [totMq]
  | v :: V, h => by
    have h1 := totMq_60 (fun u hu => h u (List.mem_cons_of_mem _ hu))
    have h2 := h v (List.mem_cons_self ..)
    simp only [totMq, MlV.tot, List.length_cons]; omega
theorem m1F_len {x : Ml} (h : m1F x = 0) : x.e.xs.length ≤ 60 := by
  unfold m1F at h
  split at h
  · omega
  · unfold mlF at h
    split at h
    · omega
    · split at h
      · omega
      · split at h
        · omega
        · split at h
          · unfold efF at h
            split at h
            · rename_i hn; exact absurd h hn
            · rename_i hn; exact enF_len16 (Decidable.of_not_not hn)
          · split at h
            · omega
            · rename_i hn
              have : x.e.xs.length = 0 := by
                by_cases hq : x.e.ep = 0 ∧ x.e.ki = 0 ∧ x.e.pe = 0 ∧ x.e.xs.length = 0
                · exact hq.2.2.2
                · exact absurd (.inr hq) hn
              omega
/-- What a pair without a fault has. -/
structure PrB0 (P : PrV) : Prop where
  lN : P.VN.length = 2
  lW : P.VW.length = 3
  nf : ∀ (k : Nat) (v : NdV), P.VN[k]? = some v → nF v.id v.up v.ro v.ep v.su v.ma v.ot v.co v.V.length (v.V.map EkV.r) = 0 ∧ v.id = k
  lM : P.VM.length ≤ 40
  tM : totMq P.VM ≤ 2440
  lS : P.VS.length ≤ 100
  tS : totK P.VS ≤ 6100
  tN : ∀ v ∈ P.VN, totK v.V ≤ 6100
theorem n1F_zero {k : Int} {v : NdV} (h : n1F k v.r = 0) : nF v.id v.up v.ro v.ep v.su v.ma v.ot v.co v.V.length (v.V.map EkV.r) = 0 ∧ v.id = k := by
  unfold n1F NdV.r at h
  simp only [List.length_map] at h
  by_cases h1 : nF v.id v.up v.ro v.ep v.su v.ma v.ot v.co v.V.length (v.V.map EkV.r) = 0
  · refine ⟨h1, ?_⟩
    rw [if_neg (by simp [h1])] at h
    by_cases h2 : v.id = k
    · exact h2
    · rw [if_pos h2] at h; omega
  · rw [if_pos h1] at h; exact absurd h h1
theorem prB0_of {P : PrV} (h : pF P.sa P.si P.ho P.nx P.r1 P.r2 (P.VN.map NdV.r) (P.VW.map WiV.r) (P.VM.map MlV.r) (P.VS.map EkV.r) = 0) : PrB0 P := by
  unfold pF at h
  have h1 := (q1_zero h).2
  split at h1
  · omega
  · rename_i hn
    have hl : P.VN.length = 2 ∧ P.VW.length = 3 := by
      have := hn
      simp only [List.length_map] at this
      by_cases q : P.VN.length = 2 ∧ P.VW.length = 3
      · exact q
      · exact absurd q this
    have h2 := q1_zero h1
    have h3 := q1_zero h2.2
    have h4 := q1_zero h3.2
    obtain ⟨x, y, hxy⟩ : ∃ x y, P.VN = [x, y] := by
      match hP : P.VN, hl.1 with
      | [x, y], _ => exact ⟨x, y, rfl⟩
    have h5 := h2.1
    rw [hxy] at h5
    simp only [List.map_cons, List.map_nil, ndF] at h5
    have hx0 : n1F 0 x.r = 0 := by
      by_cases q : n1F 0 x.r = 0
      · exact q
      · rw [if_pos q] at h5; exact h5
    rw [if_neg (by simp [hx0])] at h5
    have kx := n1F_zero hx0
    have ky := n1F_zero h5
    have hnf : ∀ (k : Nat) (v : NdV), P.VN[k]? = some v → nF v.id v.up v.ro v.ep v.su v.ma v.ot v.co v.V.length (v.V.map EkV.r) = 0 ∧ v.id = k := by
      intro k v hv
      rw [hxy] at hv
      match k, hv with
      | 0, hv => simp at hv; subst hv; exact ⟨kx.1, kx.2⟩
      | 1, hv => simp at hv; subst hv; exact ⟨ky.1, ky.2⟩
      | k + 2, hv => simp at hv
    have h6 := h4.1
    unfold msF at h6
    have h7 := h4.2
    unfold seF at h7
    simp only [List.length_map] at h6 h7
    have lM : P.VM.length ≤ 40 := by
      by_cases q : 40 < P.VM.length
      · rw [if_pos q] at h6; omega
      · omega
    have lS : P.VS.length ≤ 100 := by
      by_cases q : 100 < P.VS.length
      · rw [if_pos q] at h7; omega
      · omega
    rw [if_neg (by omega)] at h6 h7
    refine ⟨hl.1, hl.2, hnf, lM, ?_, lS, ?_, ?_⟩
    · have := totMq_60 (V := P.VM) (fun v hv => m1F_len (ffF_all h6 v.r (List.mem_map_of_mem hv)))
      omega
    · have := totK_60 (V := P.VS) (fun v hv => enF_len16 (ffF_all h7 v.r (List.mem_map_of_mem hv)))
      omega
    · intro v hv
      obtain ⟨i, hi⟩ := List.getElem?_of_mem hv
      have k1 := nF_ok _ _ _ _ _ _ _ _ _ _ (hnf i v hi).1
      have k2 := totK_60 (V := v.V) (fun u hu => lgF_en16 k1.2.2.1 u.r (List.mem_map_of_mem hu))
      have := k1.2.1
      omega
theorem totNd_set : ∀ (V : List NdV) (k : Nat) (v : NdV), totNd (V.set k v) ≤ totNd V + v.tot + 1
  | [], k, v => by simp [totNd]
  | u :: V, 0, v => by simp only [List.set_cons_zero, totNd]; omega
  | u :: V, k + 1, v => by have := totNd_set V k v; simp only [List.set_cons_succ, totNd]; omega
theorem PrB0.tt {P : PrV} (h : PrB0 P) : totNd P.VN ≤ 12202 := by
  obtain ⟨x, y, hxy⟩ : ∃ x y, P.VN = [x, y] := by
    match hP : P.VN, h.lN with
    | [x, y], _ => exact ⟨x, y, rfl⟩
  have h1 := h.tN x (by rw [hxy]; simp)
  have h2 := h.tN y (by rw [hxy]; simp)
  rw [hxy]
  simp only [totNd, NdV.tot]; omega
theorem PrL.gone {P : PrV} (l : PrL P) (h : PrB0 P) {a : NA} (g : a.Good) (k : Nat) : PrL (P.gone k a) := by
  have h1 := h.lM
  have h2 := l.lM
  have h3 := l.lS
  have h4 := h.tt
  have h5 := g.ln
  have h6 : (a.M.take (40 - P.nM)).length ≤ 1 := by rw [List.length_take]; have := g.m1; omega
  have h7 := h.tM
  have h8 := h.tS
  have h9 := totNd_set P.VN k (a.v none 0 (a.L.map ekOf))
  have h10 : (a.v none 0 (a.L.map ekOf)).tot ≤ 1000000 := g.tt _ (ekOf_map _)
  refine ⟨l.l1, l.l2, ?_, l.lW, ?_, ?_, l.m1, l.m2, l.mN, l.mW, ?_, ?_, ?_, l.tW, ?_, ?_⟩
  · show (P.VN.set k _).length = P.nN
    rw [List.length_set]; exact l.lN
  · show (P.VM ++ (a.M.take (40 - P.nM)).map mlOf).length = P.nM + (a.M.take (40 - P.nM)).length
    rw [List.length_append, List.length_map, h2]
  · show (if (P.nS : Int) < a.co then (a.L.take a.co.toNat).map ekOf else P.VS).length = if (P.nS : Int) < a.co then a.co.toNat else P.nS
    by_cases hc : (P.nS : Int) < a.co
    · rw [if_pos hc, if_pos hc, List.length_map, List.length_take]
      have := g.c1
      omega
    · rw [if_neg hc, if_neg hc]; exact h3
  · show P.nM + (a.M.take (40 - P.nM)).length ≤ 1048576
    omega
  · show (if (P.nS : Int) < a.co then a.co.toNat else P.nS) ≤ 1048576
    have := g.c1
    have := l.mS
    split <;> omega
  · show totNd (P.VN.set k (a.v none 0 (a.L.map ekOf))) ≤ 2097152
    omega
  · show totMq (P.VM ++ (a.M.take (40 - P.nM)).map mlOf) ≤ 2097152
    have q : totMq ((a.M.take (40 - P.nM)).map mlOf) ≤ 1001 := by
      match hm : a.M.take (40 - P.nM), h6 with
      | [], _ => simp [totMq]
      | [m], _ =>
        have := g.mb m (List.mem_of_mem_take (by rw [hm]; simp))
        simp only [List.map_cons, List.map_nil, totMq, MlV.tot, mlOf]; omega
    rw [totMq_app]; omega
  · show totK (if (P.nS : Int) < a.co then (a.L.take a.co.toNat).map ekOf else P.VS) ≤ 2097152
    by_cases hc : (P.nS : Int) < a.co
    · rw [if_pos hc, List.map_take]
      have := totK_take (a.L.map ekOf) a.co.toNat
      have := g.tt _ (ekOf_map a.L)
      omega
    · rw [if_neg hc]; omega

/-- Colour 0 is nobody's: what turns there turns no part of the pair. -/
theorem PrOw.turnZ {w w' : World} {b0 b1 : Nat} {col : Nat → Nat} {P : PrV} {S : Nat → Prop} (h : PrOw w b0 b1 col P) (t : Turn S w w') (hS : ∀ x, b0 ≤ x → x < b1 → ¬ col x = 0 → ¬ S x) : PrOw w' b0 b1 col P := by
  obtain ⟨lo, hi, hs, hc⟩ := h.oS
  have H : ∀ i x, ¬ i = 0 → Cl col b0 b1 i x → ¬ S x := fun i x hi hx => hS x hx.2.1 hx.2.2 (by rw [hx.1]; exact hi)
  exact ⟨h.o1.turn t (fun k hk => H 5 k (by decide) (h.k1 k hk)), h.o2.turn t (fun k hk => H 6 k (by decide) (h.k2 k hk)), h.k1, h.k2, h.oN.turn t (fun x hx => H 1 x (by decide) hx), h.oW.turn t (fun x hx => H 2 x (by decide) hx), h.oQ.turn t (fun x hx => H 3 x (by decide) hx), ⟨lo, hi, hs.turn t (fun k a b => H 4 k (by decide) (hc k a b)), hc⟩, h.bW, h.bM⟩
theorem PrOw.recol {w : World} {b0 b1 b2 : Nat} {col col' : Nat → Nat} {P : PrV} (h : PrOw w b0 b1 col P) (hb : b1 ≤ b2) (hc : ∀ x, b0 ≤ x → x < b1 → ¬ col x = 0 → col' x = col x) : PrOw w b0 b2 col' P := by
  obtain ⟨lo, hi, hS, hcS⟩ := h.oS
  have H : ∀ i x, ¬ i = 0 → Cl col b0 b1 i x → Cl col' b0 b2 i x := fun i x hi hx => ⟨(hc x hx.2.1 hx.2.2 (by rw [hx.1]; exact hi)).trans hx.1, hx.2.1, Nat.lt_of_lt_of_le hx.2.2 hb⟩
  exact ⟨h.o1, h.o2, fun j hj => H 5 _ (by decide) (h.k1 j hj), fun j hj => H 6 _ (by decide) (h.k2 j hj), h.oN.mono (fun x => H 1 x (by decide)), h.oW.mono (fun x => H 2 x (by decide)), h.oQ.mono (fun x => H 3 x (by decide)), ⟨lo, hi, hS, fun x h1 h2 => H 4 _ (by decide) (hcS x h1 h2)⟩, h.bW, h.bM⟩
theorem cellsNd_set9 : ∀ (U : List NdV) (k : Nat) (v : NdV), k < U.length → (((((((((cellsNd U).set (k * 9) (.int .i64 v.id)).set (k * 9 + 1) (.bool v.up)).set (k * 9 + 2) (.int .i64 v.ro)).set (k * 9 + 3) (.int .i64 v.ep)).set (k * 9 + 4) (.slice v.A v.V.length v.c)).set (k * 9 + 5) (.int .i64 v.su)).set (k * 9 + 6) (.int .i64 v.ma)).set (k * 9 + 7) (.int .i64 v.ot)).set (k * 9 + 8) (.int .i64 v.co) = cellsNd (U.set k v)
  | [], k, v, h => by simp at h
  | q :: U, 0, v, h => by simp [cellsNd, NdV.cs]
  | q :: U, k + 1, v, h => by
    have ih := cellsNd_set9 U k v (by simpa using h)
    have e2 : ∀ (q : NdV) (U : List NdV), cellsNd (q :: U) = .int .i64 q.id :: .bool q.up :: .int .i64 q.ro :: .int .i64 q.ep :: .slice q.A q.V.length q.c :: .int .i64 q.su :: .int .i64 q.ma :: .int .i64 q.ot :: .int .i64 q.co :: cellsNd U := fun _ _ => rfl
    rw [show (k + 1) * 9 = k * 9 + 9 by omega, e2, show (q :: U).set (k + 1) v = q :: U.set k v from rfl, e2, ← ih]
    simp only [Nat.add_assoc, Nat.reduceAdd, List.set_cons_succ]
theorem OwN1.setN {w w' : World} {F G : Nat → Prop} {g n c k lo hi : Nat} {P Q : Nat → Nat} {U : List NdV} {v : NdV} (h : OwN1 w F g n c P Q U) (hr : w'.ownsRow 0 74 9 (.slice (some ⟨g, 0, none⟩) n c) n (cellsNd (U.set k v))) (t : Turn (fun x => x = g) w w') (hv : OwL w' lo hi (.slice v.A v.V.length v.c) v.V) (hT : totK v.V ≤ 1048576) (hF : ∀ x, F x → G x) (hd : (∀ x, F x → x < lo) ∨ ∀ x, F x → hi ≤ x) (hG : ∀ x, lo ≤ x → x < hi → G x) : ∃ P' Q', OwN1 w' G g n c P' Q' (U.set k v) := by
  have hlen : (U.set k v).length = U.length := List.length_set ..
  refine ⟨fun i => if i = k then lo else if P i < Q i then P i else 0, fun i => if i = k then hi else if P i < Q i then Q i else 0, hr, ?_, ?_, ?_, hF g h.glo, ?_⟩
  · intro i u hu
    by_cases hik : i = k
    · subst hik
      have hi' : i < U.length := by have := (List.getElem?_eq_some_iff.1 hu).1; omega
      rw [List.getElem?_set_self hi'] at hu
      obtain rfl := Option.some.inj hu
      simp only [if_true]
      exact hv
    · rw [List.getElem?_set_ne (by omega)] at hu
      have hi' : i < U.length := (List.getElem?_eq_some_iff.1 hu).1
      have h1 := (h.own i u hu).turn t (fun x a b e => (h.inn i hi').2 ⟨by omega, by omega⟩)
      by_cases hpq : P i < Q i
      · simp only [if_neg hik, if_pos hpq]
        exact h1
      · simp only [if_neg hik, if_neg hpq]
        obtain ⟨A', c', e, -, h2⟩ := h1.form
        rcases h2 with ⟨e1, e2, e3⟩ | ⟨g', -, -, h3, h4, -⟩
        · rw [e, e1, e2, e3]; exact OwL.nil _ _ _
        · omega
  · intro u hu
    rcases List.mem_or_eq_of_mem_set hu with hu | rfl
    · exact h.tot u hu
    · exact hT
  · intro i hi'
    by_cases hik : i = k
    · simp only [if_pos hik]
      refine ⟨hG, ?_⟩
      rcases hd with hd | hd
      · have := hd g h.glo; omega
      · have := hd g h.glo; omega
    · by_cases hpq : P i < Q i
      · simp only [if_neg hik, if_pos hpq]
        have := h.inn i (by omega)
        exact ⟨fun x a b => hF x (this.1 x a b), this.2⟩
      · simp only [if_neg hik, if_neg hpq]
        exact ⟨fun x a b => by omega, by omega⟩
  · intro i j hi' hj hij
    have hQ : ∀ i, i < U.length → ¬ i = k → P i < Q i → Q i ≤ lo ∨ hi ≤ P i := by
      intro i hi1 hik hpq
      rcases hd with hd | hd
      · have := hd (Q i - 1) ((h.inn i hi1).1 _ (by omega) (by omega))
        exact .inl (by omega)
      · exact .inr (hd (P i) ((h.inn i hi1).1 _ (by omega) (by omega)))
    by_cases hik : i = k
    · have hjk : ¬ j = k := by omega
      simp only [if_pos hik, if_neg hjk]
      by_cases hpq : P j < Q j
      · simp only [if_pos hpq]; exact (hQ j (by omega) hjk hpq).symm
      · simp only [if_neg hpq]; exact .inr (by omega)
    · by_cases hjk : j = k
      · simp only [if_neg hik, if_pos hjk]
        by_cases hpq : P i < Q i
        · simp only [if_pos hpq]; exact hQ i (by omega) hik hpq
        · simp only [if_neg hpq]; exact .inl (by omega)
      · simp only [if_neg hik, if_neg hjk]
        by_cases hpq : P i < Q i
        · by_cases hpq2 : P j < Q j
          · simp only [if_pos hpq, if_pos hpq2]; exact h.apart i j (by omega) (by omega) hij
          · simp only [if_pos hpq, if_neg hpq2]; exact .inr (by omega)
        · simp only [if_neg hpq]; exact .inl (by omega)
/-- The pair with another node k, whose log lies apart from it. -/
theorem PrOw.setN {w w' : World} {b0 b1 b0' b2 k lo hi g : Nat} {col : Nat → Nat} {P : PrV} {v : NdV} (h : PrOw w b0 b1 col P) (ha : P.aN = some ⟨g, 0, none⟩) (t : Turn (fun x => x = g) w w') (hr : w'.ownsRow 0 74 9 (.slice (some ⟨g, 0, none⟩) P.nN P.cN) P.nN (cellsNd (P.VN.set k v))) (hv : OwL w' lo hi (.slice v.A v.V.length v.c) v.V) (hT : totK v.V ≤ 1048576) (hd : b1 ≤ lo ∨ hi ≤ b0) (h00 : b0' ≤ b0) (hlo : b0' ≤ lo) (hhi : hi ≤ b2) (h12 : b1 ≤ b2) : PrOw w' b0' b2 (fun x => if b0 ≤ x ∧ x < b1 then col x else if lo ≤ x ∧ x < hi then 1 else 0) (P.setN k v) := by
  obtain ⟨g', A, B, e, k1⟩ : ∃ g' A B, P.aN = some ⟨g', 0, none⟩ ∧ OwN1 w (Cl col b0 b1 1) g' P.nN P.cN A B P.VN := by
    rcases h.oN with ⟨e, -⟩ | h'
    · rw [e] at ha; cases ha
    · exact h'
  obtain rfl : g' = g := by rw [e] at ha; simpa using ha
  have hg := k1.glo
  have H : ∀ i x, Cl col b0 b1 i x → Cl (fun x => if b0 ≤ x ∧ x < b1 then col x else if lo ≤ x ∧ x < hi then 1 else 0) b0' b2 i x := fun i x hx => ⟨by simp only [if_pos hx.2]; exact hx.1, Nat.le_trans h00 hx.2.1, by have := hx.2.2; omega⟩
  have N : ∀ i x, ¬ i = 1 → Cl col b0 b1 i x → ¬ x = g' := by
    rintro i x hi hx rfl
    exact hi (hx.1.symm.trans hg.1)
  obtain ⟨lo', hi', hS, hcS⟩ := h.oS
  refine ⟨own_low (h.o1.turn t (fun j hj => N 5 j (by decide) (h.k1 j hj))) h00, own_low (h.o2.turn t (fun j hj => N 6 j (by decide) (h.k2 j hj))) h00, fun j hj => H 5 _ (h.k1 j hj), fun j hj => H 6 _ (h.k2 j hj), ?_, (h.oW.turn t (fun x hx => N 2 x (by decide) hx)).mono (H 2), (h.oQ.turn t (fun x hx => N 3 x (by decide) hx)).mono (H 3), ⟨lo', hi', hS.turn t (fun x a b => N 4 x (by decide) (hcS x a b)), fun x a b => H 4 _ (hcS x a b)⟩, h.bW, h.bM⟩
  obtain ⟨A', B', k2⟩ := k1.setN (G := Cl (fun x => if b0 ≤ x ∧ x < b1 then col x else if lo ≤ x ∧ x < hi then 1 else 0) b0' b2 1) hr t hv hT (H 1) (by rcases hd with hd | hd; exact .inl (fun x hx => by have := hx.2.2; omega); exact .inr (fun x hx => by have := hx.2.1; omega)) (fun x a b => ⟨by simp only [if_neg (show ¬ (b0 ≤ x ∧ x < b1) by omega), if_pos (And.intro a b)], by omega, by omega⟩)
  exact .inr ⟨g', A', B', e, k2⟩
theorem OwQ1.snoc {w w' : World} {F G : Nat → Prop} {g n c g' n' c' : Nat} {U : List MlV} {v : MlV} (h : OwQ1 w F g n c U) (t : Turn (fun x => x = g) w w') (hr : w'.ownsRow 0 120 10 (.slice (some ⟨g', 0, none⟩) n' c') n' (cellsMq (U ++ [v]))) (hv : OwAt w' v.a v.m.e.xs.length v.c v.m.e.xs) (hl : v.m.e.xs.length ≤ 1048576) (hF : ∀ x, F x → G x ∧ (x = g ∨ ¬ x = g')) (hgv : ∀ x, v.a = some x → G x.block ∧ ¬ F x.block ∧ ¬ x.block = g') (hg : G g') : OwQ1 w' G g' n' c' (U ++ [v]) := by
  have hin : ∀ u ∈ U, ∀ x, u.a = some x → G x.block ∧ ¬ x.block = g' := by
    intro u hu x hx
    have h1 := h.inn u hu x hx
    have h2 := hF _ h1.1
    exact ⟨h2.1, fun e => by rcases h2.2 with e' | e'; exact h1.2 e'; exact e' e⟩
  refine ⟨hr, ?_, ?_, ?_, hg, ?_⟩
  · intro i u hu
    rcases Nat.lt_or_ge i U.length with hi | hi
    · rw [List.getElem?_append_left hi] at hu
      exact (h.own i u hu).turn t (fun x hx => (h.inn u (List.mem_of_getElem? hu) x hx).2)
    · rw [List.getElem?_append_right hi] at hu
      obtain rfl := List.mem_singleton.1 (List.mem_of_getElem? hu)
      exact hv
  · intro u hu
    rcases List.mem_append.1 hu with e | e
    · exact h.len u e
    · obtain rfl := List.mem_singleton.1 e; exact hl
  · intro u hu x hx
    rcases List.mem_append.1 hu with e | e
    · exact hin u e x hx
    · obtain rfl := List.mem_singleton.1 e
      exact ⟨(hgv x hx).1, (hgv x hx).2.2⟩
  · intro i j u u' x y hi hj hij hx hy
    rcases Nat.lt_or_ge i U.length with h1 | h1 <;> rcases Nat.lt_or_ge j U.length with h2 | h2
    · rw [List.getElem?_append_left h1] at hi
      rw [List.getElem?_append_left h2] at hj
      exact h.apart i j u u' x y hi hj hij hx hy
    · rw [List.getElem?_append_left h1] at hi
      rw [List.getElem?_append_right h2] at hj
      obtain rfl := List.mem_singleton.1 (List.mem_of_getElem? hj)
      intro e
      exact (hgv y hy).2.1 (e ▸ (h.inn u (List.mem_of_getElem? hi) x hx).1)
    · rw [List.getElem?_append_right h1] at hi
      rw [List.getElem?_append_left h2] at hj
      obtain rfl := List.mem_singleton.1 (List.mem_of_getElem? hi)
      intro e
      exact (hgv x hx).2.1 (e.symm ▸ (h.inn u' (List.mem_of_getElem? hj) y hy).1)
    · have l1 := (List.getElem?_eq_some_iff.1 hi).1
      have l2 := (List.getElem?_eq_some_iff.1 hj).1
      rw [List.length_append, List.length_singleton] at l1 l2
      omega
theorem owQ1_one {w : World} {G : Nat → Prop} {g c : Nat} {v : MlV} (hr : w.ownsRow 0 120 10 (.slice (some ⟨g, 0, none⟩) 1 c) 1 (cellsMq [v])) (hv : OwAt w v.a v.m.e.xs.length v.c v.m.e.xs) (hl : v.m.e.xs.length ≤ 1048576) (hgv : ∀ x, v.a = some x → G x.block ∧ ¬ x.block = g) (hg : G g) : OwQ1 w G g 1 c [v] := by
  refine ⟨hr, ?_, ?_, ?_, hg, ?_⟩
  · intro i u hu
    obtain rfl := List.mem_singleton.1 (List.mem_of_getElem? hu)
    exact hv
  · intro u hu
    obtain rfl := List.mem_singleton.1 hu
    exact hl
  · intro u hu x hx
    obtain rfl := List.mem_singleton.1 hu
    exact hgv x hx
  · intro i j u u' x y hi hj hij hx hy
    have l1 := (List.getElem?_eq_some_iff.1 hi).1
    have l2 := (List.getElem?_eq_some_iff.1 hj).1
    simp at l1 l2
    omega
theorem grown_turn {w w' : World} {b : Option Nat} (h : w.grownBy w' b) : Turn (fun k => b = some k) w w' := ⟨h.os, h.tape, h.output, h.size, fun k hk hs => h.block k hk (fun e => hs e.symm)⟩
/-- The pair with one more mail, whose bytes lie where no part of it does. -/
theorem PrOw.addM {w w' : World} {b0 b1 : Nat} {col : Nat → Nat} {P : PrV} {v : MlV} {u' : Value} {lo : Nat} (h : PrOw w b0 b1 col P) (l : P.VM.length = P.nM) (hb : b1 ≤ w.heap.size) (hG : w.grownBy w' (Value.slice P.aM P.nM P.cM).ownBlock) (hr : w'.ownsRow lo 120 10 u' (P.nM + 1) (cellsMq P.VM ++ v.cs)) (hu : u'.ownBlock = (Value.slice P.aM P.nM P.cM).ownBlock ∨ u'.ownBlock = some w.heap.size) (hv : OwAt w v.a v.m.e.xs.length v.c v.m.e.xs) (hby : ∀ z ∈ v.m.e.xs, By z) (hl : v.m.e.xs.length ≤ 1048576) (hva : ∀ x, v.a = some x → b0 ≤ x.block ∧ x.block < b1 ∧ col x.block = 0) (h01 : b0 ≤ b1) : ∃ a c col', u' = .slice a (P.nM + 1) c ∧ PrOw w' b0 w'.heap.size col' (P.addM a c v) ∧ ∀ x, x < w.heap.size → col x = 0 → (∀ y, v.a = some y → ¬ y.block = x) → col' x = 0 := by
  have t := grown_turn hG
  have hs := t.size
  obtain ⟨g', c', cur, e1, hb', hg', h1⟩ : ∃ g' c' cur, u' = .slice (some ⟨g', 0, none⟩) (P.nM + 1) c' ∧ lo ≤ g' ∧ w'.heap[g']? = some (.cells cur 120) ∧ True := by
    rcases hr.2 with ⟨e, h0⟩ | ⟨g', c', cur, e, hb', hg', -⟩
    · omega
    · exact ⟨g', c', cur, e, hb', hg', trivial⟩
  subst e1
  have hlt : g' < w'.heap.size := (Array.getElem?_eq_some_iff.1 hg').1
  have hr' : w'.ownsRow 0 120 10 (.slice (some ⟨g', 0, none⟩) (P.nM + 1) c') (P.nM + 1) (cellsMq (P.VM ++ [v])) := by
    have := own_base hr
    rw [show cellsMq P.VM ++ v.cs = cellsMq (P.VM ++ [v]) by simp [cellsMq]] at this
    exact this
  have hgo : (Value.slice (some ⟨g', 0, none⟩) (P.nM + 1) c').ownBlock = some g' := rfl
  rw [hgo] at hu
  have hQ := h.oQ
  obtain ⟨lo', hi', hS, hcS⟩ := h.oS
  -- colours: the row and the bytes of the new mail
  have hcol : ∃ col' : Nat → Nat, (∀ x, b0 ≤ x → x < b1 → ¬ col x = 0 → col' x = col x) ∧ (col' g' = 3 ∧ b0 ≤ g') ∧ (∀ x, v.a = some x → col' x.block = 3) ∧ ∀ x, x < w.heap.size → col x = 0 → (∀ y, v.a = some y → ¬ y.block = x) → col' x = 0 := by
    have hrow : g' = w.heap.size ∨ (b0 ≤ g' ∧ g' < b1 ∧ col g' = 3) := by
      rcases hu with hu | hu
      · rcases hQ with ⟨e, -⟩ | ⟨g, e, q⟩
        · rw [e] at hu; simp [Value.ownBlock] at hu
        · rw [e] at hu
          simp [Value.ownBlock] at hu
          subst hu
          exact .inr ⟨q.glo.2.1, q.glo.2.2, q.glo.1⟩
      · exact .inl (by simpa using hu)
    refine ⟨fun x => if x = g' then 3 else if (∃ y, v.a = some y ∧ y.block = x) then 3 else col x, ?_, ⟨by simp, by omega⟩, ?_, ?_⟩
    · intro x h1 h2 h3
      have n2 : ¬ ∃ y, v.a = some y ∧ y.block = x := by
        rintro ⟨y, hy, rfl⟩
        exact h3 (hva y hy).2.2
      by_cases hx : x = g'
      · subst hx
        rcases hrow with e | e
        · omega
        · simp [e.2.2]
      · simp only [if_neg hx, if_neg n2]
    · intro x hx
      by_cases hxg : x.block = g'
      · simp [hxg]
      · simp only [if_neg hxg]
        rw [if_pos ⟨x, hx, rfl⟩]
    · intro x h1 h2 h3
      have n1 : ¬ x = g' := by
        rintro rfl
        rcases hrow with e | e
        · omega
        · rw [h2] at e; exact absurd e.2.2 (by decide)
      have n2 : ¬ ∃ y, v.a = some y ∧ y.block = x := by
        rintro ⟨y, hy, e⟩
        exact h3 y hy e
      simp only [if_neg n1, if_neg n2]
      exact h2
  obtain ⟨col', hc1, ⟨hc2, hc2'⟩, hc3, hc4⟩ := hcol
  have NB : ∀ i x, ¬ i = 3 → Cl col b0 b1 i x → ¬ (Value.slice P.aM P.nM P.cM).ownBlock = some x := by
    intro i x hi hx e
    rcases hQ with ⟨e', -⟩ | ⟨g, e', q⟩
    · rw [e'] at e; simp [Value.ownBlock] at e
    · rw [e'] at e
      simp [Value.ownBlock] at e
      subst e
      exact hi (hx.1.symm.trans q.glo.1)
  have H : ∀ i x, ¬ i = 0 → Cl col b0 b1 i x → Cl col' b0 w'.heap.size i x := fun i x hi hx => ⟨(hc1 x hx.2.1 hx.2.2 (by rw [hx.1]; exact hi)).trans hx.1, hx.2.1, by have := hx.2.2; omega⟩
  have hva2 : ∀ x, v.a = some x → ¬ (Value.slice P.aM P.nM P.cM).ownBlock = some x.block := by
    intro x hx e
    rcases hQ with ⟨e', -⟩ | ⟨g, e', q⟩
    · rw [e'] at e; simp [Value.ownBlock] at e
    · rw [e'] at e
      simp [Value.ownBlock] at e
      have := (hva x hx).2.2
      rw [← e, q.glo.1] at this
      omega
  have hv' : OwAt w' v.a v.m.e.xs.length v.c v.m.e.xs := hv.turn t (fun x hx => hva2 x hx)
  have hgne : ∀ x, v.a = some x → ¬ x.block = g' := by
    intro x hx e
    have h2 := hva x hx
    rcases hu with hu | hu
    · exact hva2 x hx (by rw [← hu, e])
    · have : g' = w.heap.size := by simpa using hu
      omega
  refine ⟨_, c', col', rfl, ⟨h.o1.turn t (fun j hj => NB 5 j (by decide) (h.k1 j hj)), h.o2.turn t (fun j hj => NB 6 j (by decide) (h.k2 j hj)), fun j hj => H 5 _ (by decide) (h.k1 j hj), fun j hj => H 6 _ (by decide) (h.k2 j hj), (h.oN.turn t (fun x hx => NB 1 x (by decide) hx)).mono (fun x => H 1 x (by decide)), (h.oW.turn t (fun x hx => NB 2 x (by decide) hx)).mono (fun x => H 2 x (by decide)), .inr ⟨g', rfl, ?_⟩, ⟨lo', hi', hS.turn t (fun x a b => NB 4 x (by decide) (hcS x a b)), fun x a b => H 4 _ (by decide) (hcS x a b)⟩, h.bW, ?_⟩, hc4⟩
  · have hG3 : Cl col' b0 w'.heap.size 3 g' := ⟨hc2, hc2', hlt⟩
    have hGv : ∀ x, v.a = some x → Cl col' b0 w'.heap.size 3 x.block := fun x hx => ⟨hc3 x hx, (hva x hx).1, by have := (hva x hx).2.1; omega⟩
    rcases hQ with ⟨e', e2, e3, e4⟩ | ⟨g, e', q⟩
    · show OwQ1 w' _ g' (P.nM + 1) c' (P.VM ++ [v])
      rw [e4, e2]
      rw [e4, e2] at hr'
      exact owQ1_one hr' hv' hl (fun x hx => ⟨hGv x hx, hgne x hx⟩) hG3
    · have t' : Turn (fun x => x = g) w w' := by
        refine t.mono ?_
        intro x hx hx2
        rw [e'] at hx2
        simp [Value.ownBlock] at hx2
        exact hx2.symm
      refine q.snoc t' hr' hv' hl (fun x hx => ⟨H 3 x (by decide) hx, ?_⟩) (fun x hx => ⟨hGv x hx, fun hF => ?_, hgne x hx⟩) hG3
      · rcases hu with hu | hu
        · rw [e'] at hu
          simp [Value.ownBlock] at hu
          by_cases e5 : x = g
          · exact .inl e5
          · exact .inr (by omega)
        · have : g' = w.heap.size := by simpa using hu
          exact .inr (by have := hx.2.2; omega)
      · have := (hva x hx).2.2
        rw [hF.1] at this
        omega
  · intro u hu'
    rcases List.mem_append.1 hu' with e | e
    · exact h.bM u e
    · obtain rfl := List.mem_singleton.1 e; exact hby
/-- The pair with another list of what is sealed, which lies above. -/
theorem PrOw.setS {w : World} {b0 b1 b2 lo hi n c : Nat} {col : Nat → Nat} {P : PrV} {a : Option Addr} {U : List EkV} (h : PrOw w b0 b1 col P) (hv : OwL w lo hi (.slice a n c) U) (hlo : b1 ≤ lo) (hhi : hi ≤ b2) (h12 : b1 ≤ b2) (h01 : b0 ≤ b1) : PrOw w b0 b2 (fun x => if x < b1 then col x else if lo ≤ x ∧ x < hi then 4 else 0) (P.setS a n c U) := by
  have h' := h.recol (col' := fun x => if x < b1 then col x else if lo ≤ x ∧ x < hi then 4 else 0) h12 (fun x _ h2 _ => by simp [h2])
  exact ⟨h'.o1, h'.o2, h'.k1, h'.k2, h'.oN, h'.oW, h'.oQ, ⟨lo, hi, hv, fun x a b => ⟨by simp [show ¬ x < b1 by omega, a, b], by omega, by omega⟩⟩, h'.bW, h'.bM⟩

end Go.Proofs.YtdbnmkffinhdjaaGreat
