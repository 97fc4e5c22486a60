/- Lemmas and contracts of one law. -/
import Derived.Test.YtdbnmkffinhdjaaGreatLV23
import Derived.Test.YtdbnmkffinhdjaaGreatLV24
import Derived.Test.YtdbnmkffinhdjaaGreatLV20
import Derived.Test.YtdbnmkffinhdjaaGreatLV14
namespace Go.Proofs.YtdbnmkffinhdjaaGreat
open Go.ChangeShapes Go.WideShapes Go.ChangeAt Go.RowKit Go.Deep Go.Sort
set_option linter.unusedVariables false
set_option linter.unusedSimpArgs false
set_option maxRecDepth 100000
set_option maxHeartbeats 25600000

theorem rng16 {w : World} {lo sz n : Nat} {e : TypeId} {u : Value} {xs : List Value} (h : w.ownsRow lo e sz u n xs) : ∀ g, u.ownBlock = some g → lo ≤ g ∧ g < w.heap.size := by
  obtain ⟨y, d, -, -, hr⟩ := row9_form h
  exact hr
theorem totK_alike : ∀ {V U : List EkV}, V.map EkV.r = U.map EkV.r → totK V = totK U
  | [], [], _ => rfl
  | [], u :: U, h => by simp at h
  | v :: V, [], h => by simp at h
  | v :: V, u :: U, h => by
    simp only [List.map_cons, List.cons.injEq] at h
    have ih := totK_alike h.2
    simp only [totK, h.1, ih]
/-- Where the row alone turns, the logs stay. -/
theorem apN_row {w w' : World} {lo : Nat} {P Q : Nat → Nat} {V : List NdV} {r : Option Nat} (h : ApN w lo P Q V) (t : Turn (fun k => r = some k) w w') (hr : ∀ g, r = some g → ∀ i, i < V.length → ¬ (P i ≤ g ∧ g < Q i)) : ApN w' lo P Q V := by
  refine ⟨fun i v hv => ?_, h.2⟩
  obtain ⟨h1, h2, h3, h4⟩ := h.1 i v hv
  have := t.size
  exact ⟨h1.turn t (fun k a b e => hr k e i (List.getElem?_eq_some_iff.1 hv).1 ⟨a, b⟩), h2, h3, by omega⟩
theorem apN_snoc16 {w : World} {lo l h : Nat} {P Q : Nat → Nat} {V : List NdV} (hA : ApN w lo P Q V) (v : NdV) (ho : OwL w l h (.slice v.A v.V.length v.c) v.V) (ht : totK v.V ≤ 1048576) (hl : lo ≤ l) (hw : h ≤ w.heap.size) (hh : ∀ i (hi : i < V.length), Q i ≤ l) : ApN w lo (fun i => if i = V.length then l else P i) (fun i => if i = V.length then h else Q i) (V ++ [v]) := by
  refine ⟨fun i u hu => ?_, fun i j hi hj hne => ?_⟩ <;> dsimp only
  · rw [List.getElem?_append] at hu
    split at hu
    · rename_i hlt
      rw [if_neg (show ¬ i = V.length by omega), if_neg (show ¬ i = V.length by omega)]
      exact hA.1 i u hu
    · have : i - V.length = 0 := by
        rcases Nat.eq_zero_or_pos (i - V.length) with e | e
        · exact e
        · rw [List.getElem?_eq_none (by simp; omega)] at hu; cases hu
      rw [this] at hu
      simp at hu
      subst hu
      rw [if_pos (show i = V.length by omega), if_pos (show i = V.length by omega)]
      exact ⟨ho, ht, hl, hw⟩
  · simp at hi hj
    by_cases e1 : i = V.length
    · rw [if_pos e1, if_pos e1, if_neg (show ¬ j = V.length by omega), if_neg (show ¬ j = V.length by omega)]
      have := hh j (by omega)
      exact .inr this
    · by_cases e2 : j = V.length
      · rw [if_neg e1, if_neg e1, if_pos e2, if_pos e2]
        have := hh i (by omega)
        exact .inl this
      · rw [if_neg e1, if_neg e1, if_neg e2, if_neg e2]
        exact hA.2 i j (by omega) (by omega) hne
theorem wans16 {w : World} {E T : Int} {zs ys : List Int} {e : Ending} {w' : World} (h : WAns w E T zs ys e w') (hz : ∀ z ∈ zs, 0 ≤ z ∧ z ≤ 255) (hy : ∀ z ∈ ys, 0 ≤ z ∧ z ≤ 255) : ∃ (a b : Option Addr) (c d : Nat), e = .returned (.agg #[.int .i64 E, .slice a zs.length c, .int .i64 T, .slice b ys.length d]) ∧ OwAt w' a zs.length c zs ∧ OwAt w' b ys.length d ys ∧ (∀ x, (a = some x ∨ b = some x) → w.heap.size ≤ x.block ∧ x.block < w'.heap.size) ∧ (∀ x y, a = some x → b = some y → ¬ x.block = y.block) ∧ New w w' := by
  obtain ⟨a, b, c, d, he, oa, ob, ne, nn⟩ := h
  obtain ⟨p1, -, p2⟩ := oa.ow hz
  obtain ⟨q1, -, q2⟩ := ob.ow hy
  exact ⟨a, b, c, d, he, p1, q1, fun x hx => by rcases hx with hx | hx; exact p2 x hx; exact q2 x hx, ne, nn⟩
theorem nd16 {w : World} {S0 n d : Nat} {y : Option Addr} {PN QN : Nat → Nat} {V : List NdV} (on : w.ownsRow S0 74 9 (.slice y n d) n (cellsNd V)) (ap : ApN w S0 PN QN V) (ng : ∀ g, (Value.slice y n d).ownBlock = some g → ∀ i, i < n → ¬ (PN i ≤ g ∧ g < QN i)) (hl : V.length = n) : OwNn w (fun x => S0 ≤ x ∧ x < w.heap.size) y n d V := by
  rcases on.2 with ⟨e, h0⟩ | ⟨g, c, cur, e, hb, hg, h1⟩
  · simp only [Value.slice.injEq] at e
    obtain ⟨rfl, rfl, rfl⟩ := e
    exact .inl ⟨rfl, rfl, rfl, List.eq_nil_of_length_eq_zero hl⟩
  · simp only [Value.slice.injEq] at e
    obtain ⟨rfl, -, rfl⟩ := e
    have hlt : g < w.heap.size := (Array.getElem?_eq_some_iff.1 hg).1
    refine .inr ⟨g, PN, QN, rfl, ⟨⟨on.1, .inr ⟨g, d, cur, rfl, Nat.zero_le _, hg, h1⟩⟩, fun i u hu => (ap.1 i u hu).1, fun u hu => ?_, fun i hi => ⟨fun x a b => ?_, ng g rfl i (by omega)⟩, ⟨hb, hlt⟩, ap.2⟩⟩
    · obtain ⟨i, hi⟩ := List.getElem?_of_mem hu
      exact (ap.1 i u hi).2.1
    · have := (ap.1 i _ (List.getElem?_eq_getElem hi)).2.2
      exact ⟨by omega, by omega⟩
theorem wi16 {w : World} {S0 n d : Nat} {y : Option Addr} {V : List WiV} (on : w.ownsRow S0 132 4 (.slice y n d) n (cellsWi V)) (ap : ApW w S0 V) (ng : ∀ g, (Value.slice y n d).ownBlock = some g → ∀ u ∈ V, ∀ x, (u.a = some x ∨ u.b = some x) → ¬ x.block = g) (hl : V.length = n) : OwWn w (fun x => S0 ≤ x ∧ x < w.heap.size) y n d V := by
  have hm : ∀ u ∈ V, ∃ i : Nat, V[i]? = some u := fun u hu => List.getElem?_of_mem hu
  rcases on.2 with ⟨e, h0⟩ | ⟨g, c, cur, e, hb, hg, h1⟩
  · simp only [Value.slice.injEq] at e
    obtain ⟨rfl, rfl, rfl⟩ := e
    exact .inl ⟨rfl, rfl, rfl, List.eq_nil_of_length_eq_zero hl⟩
  · simp only [Value.slice.injEq] at e
    obtain ⟨rfl, -, rfl⟩ := e
    have hlt : g < w.heap.size := (Array.getElem?_eq_some_iff.1 hg).1
    refine .inr ⟨g, rfl, ⟨⟨on.1, .inr ⟨g, d, cur, rfl, Nat.zero_le _, hg, h1⟩⟩, fun i u hu => (ap.1 i u hu).1, fun u hu => ?_, fun u hu x hx => ?_, ⟨hb, hlt⟩, fun u hu => ?_, ap.2⟩⟩
    · obtain ⟨i, hi⟩ := hm u hu
      exact (ap.1 i u hi).2.1
    · obtain ⟨i, hi⟩ := hm u hu
      have := (ap.1 i u hi).2.2.1 x hx
      exact ⟨⟨this.1, this.2⟩, ng g rfl u hu x hx⟩
    · obtain ⟨i, hi⟩ := hm u hu
      exact (ap.1 i u hi).2.2.2
theorem mq_by16 {w : World} {A : Option Addr} {V L : List MlV} (he : V.map MlV.r = L.map MlV.r) (h : MqAt w A L) : ∀ u ∈ V, ∀ z ∈ u.m.e.xs, By z := by
  intro u hu
  have h1 : u.r ∈ V.map MlV.r := List.mem_map_of_mem hu
  rw [he] at h1
  obtain ⟨v, hv, e⟩ := List.mem_map.1 h1
  obtain ⟨i, hi⟩ := List.getElem?_of_mem hv
  have k := (h i v hi).2
  have e1 : v.m = u.m := e
  rw [← e1]
  exact k.1.lt
/-- Where the row alone turns, the bytes stay. -/
theorem apW_row {w w' : World} {lo : Nat} {V : List WiV} {r : Option Nat} (h : ApW w lo V) (t : Turn (fun k => r = some k) w w') (hr : ∀ g, r = some g → ∀ u ∈ V, ∀ x, (u.a = some x ∨ u.b = some x) → ¬ x.block = g) : ApW w' lo V := by
  refine ⟨fun i v hv => ?_, h.2⟩
  obtain ⟨h1, h2, h3, h4⟩ := h.1 i v hv
  have hs := t.size
  have hm := List.mem_of_getElem? hv
  exact ⟨⟨h1.1.turn t (fun x hx e => hr _ e v hm x (.inl hx) rfl), h1.2.turn t (fun x hx e => hr _ e v hm x (.inr hx) rfl)⟩, h2, fun x hx => ⟨(h3 x hx).1, Nat.lt_of_lt_of_le (h3 x hx).2 hs⟩, h4⟩

theorem copyPr_1 (B : Nat) (P : PrV) (w : World) (hp : ∀ j, j < 10 → w.cell? ⟨B, j, none⟩ = (#[.int .i64 P.sa, .int .i64 P.si, .int .i64 P.ho, .int .i64 P.nx, .slice P.a1 P.n1 P.c1, .slice P.a2 P.n2 P.c2, .slice P.aN P.nN P.cN, .slice P.aW P.nW P.cW, .slice P.aM P.nM P.cM, .slice P.aS P.nS P.cS] : Array Value)[j]?) (h : PrRd w P) (hl : PrL P) (hS : NlK P.VS) (hN : ∀ v ∈ P.VN, NlK v.V) (hW : ∀ v ∈ P.VW, (v.a = none → v.xs.length = 0 ∧ v.c = 0) ∧ (v.b = none → v.ys.length = 0 ∧ v.d = 0)) (hQ : ∀ v ∈ P.VM, v.a = none → v.m.e.xs.length = 0 ∧ v.c = 0) (z1 : P.a1 = none → P.n1 = 0 ∧ P.c1 = 0) (z2 : P.a2 = none → P.n2 = 0 ∧ P.c2 = 0) :
    Calls Tryz.prog 79 #[.pointer (some ⟨B, 0, none⟩)] w fun e w' => ∃ Q col, e = .returned (.agg #[.int .i64 Q.sa, .int .i64 Q.si, .int .i64 Q.ho, .int .i64 Q.nx, .slice Q.a1 Q.n1 Q.c1, .slice Q.a2 Q.n2 Q.c2, .slice Q.aN Q.nN Q.cN, .slice Q.aW Q.nW Q.cW, .slice Q.aM Q.nM Q.cM, .slice Q.aS Q.nS Q.cS]) ∧ PrE Q P ∧ PrOw w' w.heap.size w'.heap.size col Q ∧ New w w' := by
  have hw1 : New w (w.alloc (.cells #[.int .i64 0, .int .i64 0, .int .i64 0, .int .i64 0, .slice none 0 0, .slice none 0 0, .slice none 0 0, .slice none 0 0, .slice none 0 0, .slice none 0 0] 47)) := (New.refl w).alloc _
  have b2 : Blk (w.alloc (.cells #[.int .i64 0, .int .i64 0, .int .i64 0, .int .i64 0, .slice none 0 0, .slice none 0 0, .slice none 0 0, .slice none 0 0, .slice none 0 0, .slice none 0 0] 47)) w.heap.size 47 #[.int .i64 0, .int .i64 0, .int .i64 0, .int .i64 0, .slice none 0 0, .slice none 0 0, .slice none 0 0, .slice none 0 0, .slice none 0 0, .slice none 0 0] := Blk.mk _ _ _ _ rfl
  have hB : B < w.heap.size := World.block_lt_of_cell? w _ (show w.cell? ⟨B, 0, none⟩ = some (.int .i64 P.sa) from hp 0 (by omega))
  have HC0 : Hid (∀ X, New w X → ∀ j, j < 10 → X.cell? ⟨B, j, none⟩ = (#[.int .i64 P.sa, .int .i64 P.si, .int .i64 P.ho, .int .i64 P.nx, .slice P.a1 P.n1 P.c1, .slice P.a2 P.n2 P.c2, .slice P.aN P.nN P.cN, .slice P.aW P.nW P.cW, .slice P.aM P.nM P.cM, .slice P.aS P.nS P.cS] : Array Value)[j]?) := fun X hX j hj => (World.cell?_of_block (a := ⟨B, j, none⟩) (hX.block B hB (fun f => f))).trans (hp j hj)
  have RD : Hid (PrRd w P) := h
  have NS : Hid (NlK P.VS) := hS
  have NN : Hid (∀ v ∈ P.VN, NlK v.V) := hN
  have NW : Hid (∀ v ∈ P.VW, (v.a = none → v.xs.length = 0 ∧ v.c = 0) ∧ (v.b = none → v.ys.length = 0 ∧ v.d = 0)) := hW
  have NQ : Hid (∀ v ∈ P.VM, v.a = none → v.m.e.xs.length = 0 ∧ v.c = 0) := hQ
  have Z1 : Hid (P.a1 = none → P.n1 = 0 ∧ P.c1 = 0) := z1
  have Z2 : Hid (P.a2 = none → P.n2 = 0 ∧ P.c2 = 0) := z2
  have sz1 : Hid ((w.alloc (.cells #[.int .i64 0, .int .i64 0, .int .i64 0, .int .i64 0, .slice none 0 0, .slice none 0 0, .slice none 0 0, .slice none 0 0, .slice none 0 0, .slice none 0 0] 47)).heap.size = w.heap.size + 1) := by unfold Hid; simp
  clear hp h hS hN hW hQ z1 z2
  go_enter Tryz.func79, Tryz.ntmps79
  go_upto_region 1 with fail
  generalize w.alloc (.cells #[.int .i64 0, .int .i64 0, .int .i64 0, .int .i64 0, .slice none 0 0, .slice none 0 0, .slice none 0 0, .slice none 0 0, .slice none 0 0, .slice none 0 0] 47) = w1 at *
  have HC : Hid (∀ X, New w1 X → ∀ j, j < 10 → X.cell? ⟨B, j, none⟩ = (#[.int .i64 P.sa, .int .i64 P.si, .int .i64 P.ho, .int .i64 P.nx, .slice P.a1 P.n1 P.c1, .slice P.a2 P.n2 P.c2, .slice P.aN P.nN P.cN, .slice P.aW P.nW P.cW, .slice P.aM P.nM P.cM, .slice P.aS P.nS P.cS] : Array Value)[j]?) := fun X hX j hj => HC0.out X (hw1.trans hX) j hj
  refine Code.wp_mono (Q := fun e a' W => match e with | .normal => ∃ (B3 : Nat) (x1 : Option Addr) (d1 : Nat) (x2 : Option Addr) (d2 : Nat) (xM : Option Addr) (dM : Nat) (VM : List MlV) (xS : Option Addr) (dS : Nat) (VS : List EkV) (s0 s1 m0 m1 q0 q1 : Nat), a' = { tmps := List.toArray ((.pointer (some ⟨B, 0, none⟩) : Value) :: undef :: (.pointer (some ⟨w.heap.size, 0, none⟩) : Value) :: (.pointer (some ⟨B3, 0, none⟩) : Value) :: undef :: undef :: undef :: (.pointer (some ⟨B, 0, none⟩) : Value) :: (.pointer (some ⟨B, 0, none⟩) : Value) :: (.pointer (some ⟨B, 0, none⟩) : Value) :: (.agg #[.int .i64 P.sa, .int .i64 P.si, .int .i64 P.ho, .int .i64 P.nx, .slice P.a1 P.n1 P.c1, .slice P.a2 P.n2 P.c2] : Value) :: (.agg #[.int .i64 P.sa, .int .i64 P.si, .int .i64 P.ho, .int .i64 P.nx, .slice x1 P.n1 d1, .slice x2 P.n2 d2] : Value) :: (.pointer (some ⟨B, 0, none⟩) : Value) :: (.pointer (some ⟨B, 0, none⟩) : Value) :: (.pointer (some ⟨B, 8, none⟩) : Value) :: (.slice P.aM P.nM P.cM : Value) :: (.slice xM P.nM dM : Value) :: (.pointer (some ⟨B, 0, none⟩) : Value) :: (.pointer (some ⟨B, 0, none⟩) : Value) :: (.pointer (some ⟨B, 9, none⟩) : Value) :: (.slice P.aS P.nS P.cS : Value) :: (.slice xS P.nS dS : Value) :: (.agg #[.int .i64 P.sa, .int .i64 P.si, .int .i64 P.ho, .int .i64 P.nx, .slice x1 P.n1 d1, .slice x2 P.n2 d2, .slice none 0 0, .slice none 0 0, .slice xM P.nM dM, .slice xS P.nS dS] : Value) :: undef :: undef :: undef :: undef :: undef :: undef :: undef :: undef :: undef :: undef :: undef :: undef :: undef :: undef :: undef :: undef :: undef :: undef :: undef :: undef :: undef :: undef :: undef :: undef :: undef :: undef :: undef :: undef :: undef :: undef :: undef :: undef :: undef :: undef :: undef :: undef :: undef :: undef :: undef :: []), defers := [] } ∧ New w1 W ∧ Blk W B3 47 #[.int .i64 P.sa, .int .i64 P.si, .int .i64 P.ho, .int .i64 P.nx, .slice x1 P.n1 d1, .slice x2 P.n2 d2, .slice none 0 0, .slice none 0 0, .slice xM P.nM dM, .slice xS P.nS dS] ∧ w1.heap.size ≤ B3 ∧ w1.heap.size ≤ s0 ∧ s0 ≤ s1 ∧ s1 ≤ m0 ∧ m0 ≤ m1 ∧ m1 ≤ q0 ∧ q0 ≤ q1 ∧ q1 ≤ W.heap.size ∧ ¬ (s0 ≤ B3 ∧ B3 < s1) ∧ ¬ (m0 ≤ B3 ∧ B3 < m1) ∧ ¬ (q0 ≤ B3 ∧ B3 < q1) ∧ (∀ k, (Value.slice x1 P.n1 d1).ownBlock = some k → (Value.slice x2 P.n2 d2).ownBlock ≠ some k) ∧ (∀ j, (Value.slice x1 P.n1 d1).ownBlock = some j → s0 ≤ j ∧ j < s1) ∧ (∀ j, (Value.slice x2 P.n2 d2).ownBlock = some j → s0 ≤ j ∧ j < s1) ∧ OvR W s0 (.slice x1 P.n1 d1) P.r1 ∧ OvR W s0 (.slice x2 P.n2 d2) P.r2 ∧ VM.map MlV.r = P.VM.map MlV.r ∧ OwQn W (fun x => m0 ≤ x ∧ x < m1) xM P.nM dM VM ∧ VS.map EkV.r = P.VS.map EkV.r ∧ OwL W q0 q1 (.slice xS P.nS dS) VS | _ => False) ?hq1 ?h1
  case h1 =>
    refine hw_start (n := 18) (S := fun X => New w1 X) rfl (by kernel_rfl) ((New.refl _).drew) (fun hH => ?_)
    have nv0 := (New.refl w1).drew
    generalize w1.drew = v0 at *
    have zsz0 := nv0.size
    refine' hw_t 0 (some 7) _ rfl rfl nv0 ?hy11 ?rest11
    case hy11 =>
      intro X hX
      go_simp
      try rfl
    simp only [Act.put, pA9, pB9, pC9]
    refine' hw_t 1 (some 8) _ rfl rfl nv0 ?hy12 ?rest12
    case hy12 =>
      intro X hX
      go_simp
      try rfl
    simp only [Act.put, pA9, pB9, pC9]
    refine' hw_t 2 (some 9) _ rfl rfl nv0 ?hy13 ?rest13
    case hy13 =>
      intro X hX
      go_simp
      try rfl
    simp only [Act.put, pA9, pB9, pC9]
    refine' hw_t 3 (some 10) _ rfl rfl nv0 ?hy14 ?rest14
    case hy14 =>
      intro X hX
      have g0 : X.cell? ⟨B, 0, none⟩ = some (.int .i64 P.sa) := HC.out X hX 0 (by omega)
      have g1 : X.cell? ⟨B, 1, none⟩ = some (.int .i64 P.si) := HC.out X hX 1 (by omega)
      have g2 : X.cell? ⟨B, 2, none⟩ = some (.int .i64 P.ho) := HC.out X hX 2 (by omega)
      have g3 : X.cell? ⟨B, 3, none⟩ = some (.int .i64 P.nx) := HC.out X hX 3 (by omega)
      have g4 : X.cell? ⟨B, 4, none⟩ = some (.slice P.a1 P.n1 P.c1) := HC.out X hX 4 (by omega)
      have g5 : X.cell? ⟨B, 5, none⟩ = some (.slice P.a2 P.n2 P.c2) := HC.out X hX 5 (by omega)
      go_simp
      try rfl
    simp only [Act.put, pA9, pB9, pC9]
    refine' hw_t 5 (some 12) _ rfl rfl nv0 ?hy15 ?rest15
    case hy15 =>
      intro X hX
      go_simp
      try rfl
    simp only [Act.put, pA9, pB9, pC9]
    refine' hw_t 6 (some 13) _ rfl rfl nv0 ?hy16 ?rest16
    case hy16 =>
      intro X hX
      go_simp
      try rfl
    simp only [Act.put, pA9, pB9, pC9]
    refine' hw_t 7 (some 14) _ rfl rfl nv0 ?hy17 ?rest17
    case hy17 =>
      intro X hX
      go_simp
      try rfl
    simp only [Act.put, pA9, pB9, pC9]
    refine' hw_t 8 (some 15) _ rfl rfl nv0 ?hy18 ?rest18
    case hy18 =>
      intro X hX
      have g8 : X.cell? ⟨B, 8, none⟩ = some (.slice P.aM P.nM P.cM) := HC.out X hX 8 (by omega)
      go_simp
      try rfl
    simp only [Act.put, pA9, pB9, pC9]
    refine' hw_t 10 (some 17) _ rfl rfl nv0 ?hy19 ?rest19
    case hy19 =>
      intro X hX
      go_simp
      try rfl
    simp only [Act.put, pA9, pB9, pC9]
    refine' hw_t 11 (some 18) _ rfl rfl nv0 ?hy20 ?rest20
    case hy20 =>
      intro X hX
      go_simp
      try rfl
    simp only [Act.put, pA9, pB9, pC9]
    refine' hw_t 12 (some 19) _ rfl rfl nv0 ?hy21 ?rest21
    case hy21 =>
      intro X hX
      go_simp
      try rfl
    simp only [Act.put, pA9, pB9, pC9]
    refine' hw_t 13 (some 20) _ rfl rfl nv0 ?hy22 ?rest22
    case hy22 =>
      intro X hX
      have g9 : X.cell? ⟨B, 9, none⟩ = some (.slice P.aS P.nS P.cS) := HC.out X hX 9 (by omega)
      go_simp
      try rfl
    simp only [Act.put, pA9, pB9, pC9]
    refine wpAnyH_ready (rs := [4, 16]) (by kernel_rfl) (by simp) (hw_step 4 (some 11) rfl rfl (by rfl) (fun K hK => ?v1) (hw_step 16 (some 3) rfl rfl (by rfl) (fun K hK => ?v2) (by intro j hj; cases hj)))
    case v1 =>
      go_simp
      refine (copySe P.sa P.si P.ho P.nx P.a1 P.a2 P.n1 P.c1 P.n2 P.c2 P.r1 P.r2 _ (RD.out.new (hw1.trans nv0)).s1 (RD.out.new (hw1.trans nv0)).s2 hl.l1 hl.l2 hl.m1 hl.m2 Z1.out Z2.out).mono ?_
      rintro e v3 ⟨x1, d1, x2, d2, rfl, oA, oB, aAB, nnv3⟩
      have o1v3 : OvR v3 v0.heap.size (.slice x1 P.n1 d1) P.r1 := oA
      have o2v3 : OvR v3 v0.heap.size (.slice x2 P.n2 d2) P.r2 := oB
      have AB : Hid (∀ k, (Value.slice x1 P.n1 d1).ownBlock = some k → (Value.slice x2 P.n2 d2).ownBlock ≠ some k) := aAB
      have RS1 : Hid (∀ j, (Value.slice x1 P.n1 d1).ownBlock = some j → v0.heap.size ≤ j ∧ j < v3.heap.size) := oA.blk
      have RS2 : Hid (∀ j, (Value.slice x2 P.n2 d2).ownBlock = some j → v0.heap.size ≤ j ∧ j < v3.heap.size) := oB.blk
      clear oA oB aAB
      have nv3 := nv0.trans nnv3
      have zv3 := nnv3.size
      refine hK.out _ _ nv3 (fun _ => ?_)
      simp only [Act.put, pA9, pB9, pC9]
      clear nnv3
      refine wpAnyH_ready (rs := [9, 16]) (by kernel_rfl) (by simp) (hw_step 9 (some 16) rfl rfl (by rfl) (fun K hK => ?v4) (hw_step 16 (some 3) rfl rfl (by rfl) (fun K hK => ?v5) (by intro j hj; cases hj)))
      case v4 =>
        go_simp
        refine (copyMl16 P.aM P.nM P.cM P.VM _ (RD.out.new (hw1.trans nv3)).mq NQ.out hl.lM hl.mM).mono ?_
        rintro e v6 ⟨xM, dM, VM, rfl, eM, oMv6, nnv6⟩
        have EM : Hid (VM.map MlV.r = P.VM.map MlV.r) := eM
        clear eM
        have nv6 := nv3.trans nnv6
        have zv6 := nnv6.size
        have o1v6 := o1v3.turn nnv6 (fun _ _ f => f)
        have o2v6 := o2v3.turn nnv6 (fun _ _ f => f)
        refine hK.out _ _ nv6 (fun _ => ?_)
        simp only [Act.put, pA9, pB9, pC9]
        clear nnv6
        clear o1v3 o2v3
        refine wpAnyH_ready (rs := [14, 16]) (by kernel_rfl) (by simp) (hw_step 14 (some 21) rfl rfl (by rfl) (fun K hK => ?v7) (hw_step 16 (some 3) rfl rfl (by rfl) (fun K hK => ?v8) (by intro j hj; cases hj)))
        case v7 =>
          go_simp
          refine (copyLg_any P.aS P.nS P.cS P.VS _ (RD.out.new (hw1.trans nv6)).se NS.out hl.lS (by have := hl.mS; omega)).mono ?_
          rintro e v9 ⟨uS, VS, rfl, eS, oSv9, nnv9⟩
          have hlS : VS.length = P.nS := by have h1 := congrArg List.length eS; have h2 := hl.lS; simp at h1; omega
          obtain ⟨xS, dS, hfS, -, -⟩ := row9_form oSv9.row
          rw [hlS] at hfS
          subst hfS
          have ES : Hid (VS.map EkV.r = P.VS.map EkV.r) := eS
          clear eS hlS
          have nv9 := nv6.trans nnv9
          have zv9 := nnv9.size
          have o1v9 := o1v6.turn nnv9 (fun _ _ f => f)
          have o2v9 := o2v6.turn nnv9 (fun _ _ f => f)
          have oMv9 := oMv6.turn nnv9 (fun _ _ f => f)
          refine hK.out _ _ nv9 (fun _ => ?_)
          simp only [Act.put, pA9, pB9, pC9]
          clear nnv9
          clear o1v6 o2v6 oMv6
          refine' hw_t 15 (some 22) _ rfl rfl nv9 ?hy23 ?rest23
          case hy23 =>
            intro X hX
            go_simp
            try rfl
          simp only [Act.put, pA9, pB9, pC9]
          refine hw_call 16 (some 3) rfl rfl (by kernel_rfl) (by rfl) (fun K hK => ?_)
          go_simp
          have nnv10 := (New.refl v9).alloc (.cells #[.int .i64 0, .int .i64 0, .int .i64 0, .int .i64 0, .slice none 0 0, .slice none 0 0, .slice none 0 0, .slice none 0 0, .slice none 0 0, .slice none 0 0] 47)
          have fv10 := Blk.mk v9 v9.heap.size 47 #[.int .i64 0, .int .i64 0, .int .i64 0, .int .i64 0, .slice none 0 0, .slice none 0 0, .slice none 0 0, .slice none 0 0, .slice none 0 0, .slice none 0 0] rfl
          have nv10 := nv9.trans nnv10
          have zv10 := nnv10.size
          have o1v10 := o1v9.turn nnv10 (fun _ _ f => f)
          have o2v10 := o2v9.turn nnv10 (fun _ _ f => f)
          have oMv10 := oMv9.turn nnv10 (fun _ _ f => f)
          have oSv10 := oSv9.turn nnv10 (fun _ _ _ f => f)
          refine hK.out _ _ nv10 (fun _ => ?_)
          simp only [Act.put, pA9, pB9, pC9]
          generalize v9.alloc (.cells #[.int .i64 0, .int .i64 0, .int .i64 0, .int .i64 0, .slice none 0 0, .slice none 0 0, .slice none 0 0, .slice none 0 0, .slice none 0 0, .slice none 0 0] 47) = v10 at *
          have zzv10 : v9.heap.size < v10.heap.size := fv10.lt
          clear nnv10
          clear o1v9 o2v9 oMv9
          refine hw_call 17 none rfl rfl (by kernel_rfl) (by rfl) (fun K hK => ?_)
          refine hw_store 47 (.tmp 3) (.tmp 22) rfl rfl v9.heap.size #[.int .i64 P.sa, .int .i64 P.si, .int .i64 P.ho, .int .i64 P.nx, .slice x1 P.n1 d1, .slice x2 P.n2 d2, .slice none 0 0, .slice none 0 0, .slice xM P.nM dM, .slice xS P.nS dS] #[.int .i64 0, .int .i64 0, .int .i64 0, .int .i64 0, .slice none 0 0, .slice none 0 0, .slice none 0 0, .slice none 0 0, .slice none 0 0, .slice none 0 0] rfl rfl fv10 (by kernel_rfl) rfl (by kernel_rfl) ?_
          have tR := Turn.rowW (Turn.refl (fun i => i = v9.heap.size) v10) rfl #[.int .i64 P.sa, .int .i64 P.si, .int .i64 P.ho, .int .i64 P.nx, .slice x1 P.n1 d1, .slice x2 P.n2 d2, .slice none 0 0, .slice none 0 0, .slice xM P.nM dM, .slice xS P.nS dS]
          have fv11 := fv10.rowW #[.int .i64 P.sa, .int .i64 P.si, .int .i64 P.ho, .int .i64 P.nx, .slice x1 P.n1 d1, .slice x2 P.n2 d2, .slice none 0 0, .slice none 0 0, .slice xM P.nM dM, .slice xS P.nS dS]
          have zB := nv9.size
          have nv11 := nv10.before tR (by intro i hi e; omega)
          have zzv11 := tR.size
          refine hK.out undef _ nv11 (fun _ => ?_)
          try simp only [Act.put, pA9, pB9, pC9]
          refine wpAnyH_done (by kernel_rfl) ?_ _
          exact ⟨v9.heap.size, x1, d1, x2, d2, xM, dM, VM, xS, dS, VS, v0.heap.size, v3.heap.size, v3.heap.size, v6.heap.size, v6.heap.size, v9.heap.size, rfl, nv11, fv11, by omega, by omega, by omega, by omega, by omega, by omega, by omega, by omega, by omega, by omega, by omega, AB.out, RS1.out, RS2.out, o1v10.turn tR (fun j hj e => by have := RS1.out j hj; omega), o2v10.turn tR (fun j hj e => by have := RS2.out j hj; omega), EM.out, oMv10.turn tR (fun x hx e => by have := hx.1; have := hx.2; omega), ES.out, oSv10.turn tR (fun x h1 h2 e => by omega)⟩
        case v8 =>
          go_simp
          have nnv12 := (New.refl v6).alloc (.cells #[.int .i64 0, .int .i64 0, .int .i64 0, .int .i64 0, .slice none 0 0, .slice none 0 0, .slice none 0 0, .slice none 0 0, .slice none 0 0, .slice none 0 0] 47)
          have fv12 := Blk.mk v6 v6.heap.size 47 #[.int .i64 0, .int .i64 0, .int .i64 0, .int .i64 0, .slice none 0 0, .slice none 0 0, .slice none 0 0, .slice none 0 0, .slice none 0 0, .slice none 0 0] rfl
          have nv12 := nv6.trans nnv12
          have zv12 := nnv12.size
          have o1v12 := o1v6.turn nnv12 (fun _ _ f => f)
          have o2v12 := o2v6.turn nnv12 (fun _ _ f => f)
          have oMv12 := oMv6.turn nnv12 (fun _ _ f => f)
          refine hK.out _ _ nv12 (fun _ => ?_)
          simp only [Act.put, pA9, pB9, pC9]
          generalize v6.alloc (.cells #[.int .i64 0, .int .i64 0, .int .i64 0, .int .i64 0, .slice none 0 0, .slice none 0 0, .slice none 0 0, .slice none 0 0, .slice none 0 0, .slice none 0 0] 47) = v12 at *
          have zzv12 : v6.heap.size < v12.heap.size := fv12.lt
          clear nnv12
          clear o1v6 o2v6 oMv6
          refine hw_call 14 (some 21) rfl rfl (by kernel_rfl) (by rfl) (fun K hK => ?_)
          go_simp
          refine (copyLg_any P.aS P.nS P.cS P.VS _ (RD.out.new (hw1.trans nv12)).se NS.out hl.lS (by have := hl.mS; omega)).mono ?_
          rintro e v13 ⟨uS, VS, rfl, eS, oSv13, nnv13⟩
          have hlS : VS.length = P.nS := by have h1 := congrArg List.length eS; have h2 := hl.lS; simp at h1; omega
          obtain ⟨xS, dS, hfS, -, -⟩ := row9_form oSv13.row
          rw [hlS] at hfS
          subst hfS
          have ES : Hid (VS.map EkV.r = P.VS.map EkV.r) := eS
          clear eS hlS
          have nv13 := nv12.trans nnv13
          have zv13 := nnv13.size
          have o1v13 := o1v12.turn nnv13 (fun _ _ f => f)
          have o2v13 := o2v12.turn nnv13 (fun _ _ f => f)
          have oMv13 := oMv12.turn nnv13 (fun _ _ f => f)
          have fv13 := fv12.new nnv13
          refine hK.out _ _ nv13 (fun _ => ?_)
          simp only [Act.put, pA9, pB9, pC9]
          clear nnv13
          clear o1v12 o2v12 oMv12 fv12
          refine' hw_t 15 (some 22) _ rfl rfl nv13 ?hy24 ?rest24
          case hy24 =>
            intro X hX
            go_simp
            try rfl
          simp only [Act.put, pA9, pB9, pC9]
          refine hw_call 17 none rfl rfl (by kernel_rfl) (by rfl) (fun K hK => ?_)
          refine hw_store 47 (.tmp 3) (.tmp 22) rfl rfl v6.heap.size #[.int .i64 P.sa, .int .i64 P.si, .int .i64 P.ho, .int .i64 P.nx, .slice x1 P.n1 d1, .slice x2 P.n2 d2, .slice none 0 0, .slice none 0 0, .slice xM P.nM dM, .slice xS P.nS dS] #[.int .i64 0, .int .i64 0, .int .i64 0, .int .i64 0, .slice none 0 0, .slice none 0 0, .slice none 0 0, .slice none 0 0, .slice none 0 0, .slice none 0 0] rfl rfl fv13 (by kernel_rfl) rfl (by kernel_rfl) ?_
          have tR := Turn.rowW (Turn.refl (fun i => i = v6.heap.size) v13) rfl #[.int .i64 P.sa, .int .i64 P.si, .int .i64 P.ho, .int .i64 P.nx, .slice x1 P.n1 d1, .slice x2 P.n2 d2, .slice none 0 0, .slice none 0 0, .slice xM P.nM dM, .slice xS P.nS dS]
          have fv14 := fv13.rowW #[.int .i64 P.sa, .int .i64 P.si, .int .i64 P.ho, .int .i64 P.nx, .slice x1 P.n1 d1, .slice x2 P.n2 d2, .slice none 0 0, .slice none 0 0, .slice xM P.nM dM, .slice xS P.nS dS]
          have zB := nv6.size
          have nv14 := nv13.before tR (by intro i hi e; omega)
          have zzv14 := tR.size
          refine hK.out undef _ nv14 (fun _ => ?_)
          try simp only [Act.put, pA9, pB9, pC9]
          refine wpAnyH_done (by kernel_rfl) ?_ _
          exact ⟨v6.heap.size, x1, d1, x2, d2, xM, dM, VM, xS, dS, VS, v0.heap.size, v3.heap.size, v3.heap.size, v6.heap.size, v12.heap.size, v13.heap.size, rfl, nv14, fv14, by omega, by omega, by omega, by omega, by omega, by omega, by omega, by omega, by omega, by omega, by omega, AB.out, RS1.out, RS2.out, o1v13.turn tR (fun j hj e => by have := RS1.out j hj; omega), o2v13.turn tR (fun j hj e => by have := RS2.out j hj; omega), EM.out, oMv13.turn tR (fun x hx e => by have := hx.1; have := hx.2; omega), ES.out, oSv13.turn tR (fun x h1 h2 e => by omega)⟩
      case v5 =>
        go_simp
        have nnv15 := (New.refl v3).alloc (.cells #[.int .i64 0, .int .i64 0, .int .i64 0, .int .i64 0, .slice none 0 0, .slice none 0 0, .slice none 0 0, .slice none 0 0, .slice none 0 0, .slice none 0 0] 47)
        have fv15 := Blk.mk v3 v3.heap.size 47 #[.int .i64 0, .int .i64 0, .int .i64 0, .int .i64 0, .slice none 0 0, .slice none 0 0, .slice none 0 0, .slice none 0 0, .slice none 0 0, .slice none 0 0] rfl
        have nv15 := nv3.trans nnv15
        have zv15 := nnv15.size
        have o1v15 := o1v3.turn nnv15 (fun _ _ f => f)
        have o2v15 := o2v3.turn nnv15 (fun _ _ f => f)
        refine hK.out _ _ nv15 (fun _ => ?_)
        simp only [Act.put, pA9, pB9, pC9]
        generalize v3.alloc (.cells #[.int .i64 0, .int .i64 0, .int .i64 0, .int .i64 0, .slice none 0 0, .slice none 0 0, .slice none 0 0, .slice none 0 0, .slice none 0 0, .slice none 0 0] 47) = v15 at *
        have zzv15 : v3.heap.size < v15.heap.size := fv15.lt
        clear nnv15
        clear o1v3 o2v3
        refine hw_call 9 (some 16) rfl rfl (by kernel_rfl) (by rfl) (fun K hK => ?_)
        go_simp
        refine (copyMl16 P.aM P.nM P.cM P.VM _ (RD.out.new (hw1.trans nv15)).mq NQ.out hl.lM hl.mM).mono ?_
        rintro e v16 ⟨xM, dM, VM, rfl, eM, oMv16, nnv16⟩
        have EM : Hid (VM.map MlV.r = P.VM.map MlV.r) := eM
        clear eM
        have nv16 := nv15.trans nnv16
        have zv16 := nnv16.size
        have o1v16 := o1v15.turn nnv16 (fun _ _ f => f)
        have o2v16 := o2v15.turn nnv16 (fun _ _ f => f)
        have fv16 := fv15.new nnv16
        refine hK.out _ _ nv16 (fun _ => ?_)
        simp only [Act.put, pA9, pB9, pC9]
        clear nnv16
        clear o1v15 o2v15 fv15
        refine hw_call 14 (some 21) rfl rfl (by kernel_rfl) (by rfl) (fun K hK => ?_)
        go_simp
        refine (copyLg_any P.aS P.nS P.cS P.VS _ (RD.out.new (hw1.trans nv16)).se NS.out hl.lS (by have := hl.mS; omega)).mono ?_
        rintro e v17 ⟨uS, VS, rfl, eS, oSv17, nnv17⟩
        have hlS : VS.length = P.nS := by have h1 := congrArg List.length eS; have h2 := hl.lS; simp at h1; omega
        obtain ⟨xS, dS, hfS, -, -⟩ := row9_form oSv17.row
        rw [hlS] at hfS
        subst hfS
        have ES : Hid (VS.map EkV.r = P.VS.map EkV.r) := eS
        clear eS hlS
        have nv17 := nv16.trans nnv17
        have zv17 := nnv17.size
        have o1v17 := o1v16.turn nnv17 (fun _ _ f => f)
        have o2v17 := o2v16.turn nnv17 (fun _ _ f => f)
        have oMv17 := oMv16.turn nnv17 (fun _ _ f => f)
        have fv17 := fv16.new nnv17
        refine hK.out _ _ nv17 (fun _ => ?_)
        simp only [Act.put, pA9, pB9, pC9]
        clear nnv17
        clear o1v16 o2v16 oMv16 fv16
        refine' hw_t 15 (some 22) _ rfl rfl nv17 ?hy25 ?rest25
        case hy25 =>
          intro X hX
          go_simp
          try rfl
        simp only [Act.put, pA9, pB9, pC9]
        refine hw_call 17 none rfl rfl (by kernel_rfl) (by rfl) (fun K hK => ?_)
        refine hw_store 47 (.tmp 3) (.tmp 22) rfl rfl v3.heap.size #[.int .i64 P.sa, .int .i64 P.si, .int .i64 P.ho, .int .i64 P.nx, .slice x1 P.n1 d1, .slice x2 P.n2 d2, .slice none 0 0, .slice none 0 0, .slice xM P.nM dM, .slice xS P.nS dS] #[.int .i64 0, .int .i64 0, .int .i64 0, .int .i64 0, .slice none 0 0, .slice none 0 0, .slice none 0 0, .slice none 0 0, .slice none 0 0, .slice none 0 0] rfl rfl fv17 (by kernel_rfl) rfl (by kernel_rfl) ?_
        have tR := Turn.rowW (Turn.refl (fun i => i = v3.heap.size) v17) rfl #[.int .i64 P.sa, .int .i64 P.si, .int .i64 P.ho, .int .i64 P.nx, .slice x1 P.n1 d1, .slice x2 P.n2 d2, .slice none 0 0, .slice none 0 0, .slice xM P.nM dM, .slice xS P.nS dS]
        have fv18 := fv17.rowW #[.int .i64 P.sa, .int .i64 P.si, .int .i64 P.ho, .int .i64 P.nx, .slice x1 P.n1 d1, .slice x2 P.n2 d2, .slice none 0 0, .slice none 0 0, .slice xM P.nM dM, .slice xS P.nS dS]
        have zB := nv3.size
        have nv18 := nv17.before tR (by intro i hi e; omega)
        have zzv18 := tR.size
        refine hK.out undef _ nv18 (fun _ => ?_)
        try simp only [Act.put, pA9, pB9, pC9]
        refine wpAnyH_done (by kernel_rfl) ?_ _
        exact ⟨v3.heap.size, x1, d1, x2, d2, xM, dM, VM, xS, dS, VS, v0.heap.size, v3.heap.size, v15.heap.size, v16.heap.size, v16.heap.size, v17.heap.size, rfl, nv18, fv18, by omega, by omega, by omega, by omega, by omega, by omega, by omega, by omega, by omega, by omega, by omega, AB.out, RS1.out, RS2.out, o1v17.turn tR (fun j hj e => by have := RS1.out j hj; omega), o2v17.turn tR (fun j hj e => by have := RS2.out j hj; omega), EM.out, oMv17.turn tR (fun x hx e => by have := hx.1; have := hx.2; omega), ES.out, oSv17.turn tR (fun x h1 h2 e => by omega)⟩
    case v2 =>
      go_simp
      have nnv19 := (New.refl v0).alloc (.cells #[.int .i64 0, .int .i64 0, .int .i64 0, .int .i64 0, .slice none 0 0, .slice none 0 0, .slice none 0 0, .slice none 0 0, .slice none 0 0, .slice none 0 0] 47)
      have fv19 := Blk.mk v0 v0.heap.size 47 #[.int .i64 0, .int .i64 0, .int .i64 0, .int .i64 0, .slice none 0 0, .slice none 0 0, .slice none 0 0, .slice none 0 0, .slice none 0 0, .slice none 0 0] rfl
      have nv19 := nv0.trans nnv19
      have zv19 := nnv19.size
      refine hK.out _ _ nv19 (fun _ => ?_)
      simp only [Act.put, pA9, pB9, pC9]
      generalize v0.alloc (.cells #[.int .i64 0, .int .i64 0, .int .i64 0, .int .i64 0, .slice none 0 0, .slice none 0 0, .slice none 0 0, .slice none 0 0, .slice none 0 0, .slice none 0 0] 47) = v19 at *
      have zzv19 : v0.heap.size < v19.heap.size := fv19.lt
      clear nnv19
      refine hw_call 4 (some 11) rfl rfl (by kernel_rfl) (by rfl) (fun K hK => ?_)
      go_simp
      refine (copySe P.sa P.si P.ho P.nx P.a1 P.a2 P.n1 P.c1 P.n2 P.c2 P.r1 P.r2 _ (RD.out.new (hw1.trans nv19)).s1 (RD.out.new (hw1.trans nv19)).s2 hl.l1 hl.l2 hl.m1 hl.m2 Z1.out Z2.out).mono ?_
      rintro e v20 ⟨x1, d1, x2, d2, rfl, oA, oB, aAB, nnv20⟩
      have o1v20 : OvR v20 v19.heap.size (.slice x1 P.n1 d1) P.r1 := oA
      have o2v20 : OvR v20 v19.heap.size (.slice x2 P.n2 d2) P.r2 := oB
      have AB : Hid (∀ k, (Value.slice x1 P.n1 d1).ownBlock = some k → (Value.slice x2 P.n2 d2).ownBlock ≠ some k) := aAB
      have RS1 : Hid (∀ j, (Value.slice x1 P.n1 d1).ownBlock = some j → v19.heap.size ≤ j ∧ j < v20.heap.size) := oA.blk
      have RS2 : Hid (∀ j, (Value.slice x2 P.n2 d2).ownBlock = some j → v19.heap.size ≤ j ∧ j < v20.heap.size) := oB.blk
      clear oA oB aAB
      have nv20 := nv19.trans nnv20
      have zv20 := nnv20.size
      have fv20 := fv19.new nnv20
      refine hK.out _ _ nv20 (fun _ => ?_)
      simp only [Act.put, pA9, pB9, pC9]
      clear nnv20
      clear fv19
      refine hw_call 9 (some 16) rfl rfl (by kernel_rfl) (by rfl) (fun K hK => ?_)
      go_simp
      refine (copyMl16 P.aM P.nM P.cM P.VM _ (RD.out.new (hw1.trans nv20)).mq NQ.out hl.lM hl.mM).mono ?_
      rintro e v21 ⟨xM, dM, VM, rfl, eM, oMv21, nnv21⟩
      have EM : Hid (VM.map MlV.r = P.VM.map MlV.r) := eM
      clear eM
      have nv21 := nv20.trans nnv21
      have zv21 := nnv21.size
      have o1v21 := o1v20.turn nnv21 (fun _ _ f => f)
      have o2v21 := o2v20.turn nnv21 (fun _ _ f => f)
      have fv21 := fv20.new nnv21
      refine hK.out _ _ nv21 (fun _ => ?_)
      simp only [Act.put, pA9, pB9, pC9]
      clear nnv21
      clear o1v20 o2v20 fv20
      refine hw_call 14 (some 21) rfl rfl (by kernel_rfl) (by rfl) (fun K hK => ?_)
      go_simp
      refine (copyLg_any P.aS P.nS P.cS P.VS _ (RD.out.new (hw1.trans nv21)).se NS.out hl.lS (by have := hl.mS; omega)).mono ?_
      rintro e v22 ⟨uS, VS, rfl, eS, oSv22, nnv22⟩
      have hlS : VS.length = P.nS := by have h1 := congrArg List.length eS; have h2 := hl.lS; simp at h1; omega
      obtain ⟨xS, dS, hfS, -, -⟩ := row9_form oSv22.row
      rw [hlS] at hfS
      subst hfS
      have ES : Hid (VS.map EkV.r = P.VS.map EkV.r) := eS
      clear eS hlS
      have nv22 := nv21.trans nnv22
      have zv22 := nnv22.size
      have o1v22 := o1v21.turn nnv22 (fun _ _ f => f)
      have o2v22 := o2v21.turn nnv22 (fun _ _ f => f)
      have oMv22 := oMv21.turn nnv22 (fun _ _ f => f)
      have fv22 := fv21.new nnv22
      refine hK.out _ _ nv22 (fun _ => ?_)
      simp only [Act.put, pA9, pB9, pC9]
      clear nnv22
      clear o1v21 o2v21 oMv21 fv21
      refine' hw_t 15 (some 22) _ rfl rfl nv22 ?hy26 ?rest26
      case hy26 =>
        intro X hX
        go_simp
        try rfl
      simp only [Act.put, pA9, pB9, pC9]
      refine hw_call 17 none rfl rfl (by kernel_rfl) (by rfl) (fun K hK => ?_)
      refine hw_store 47 (.tmp 3) (.tmp 22) rfl rfl v0.heap.size #[.int .i64 P.sa, .int .i64 P.si, .int .i64 P.ho, .int .i64 P.nx, .slice x1 P.n1 d1, .slice x2 P.n2 d2, .slice none 0 0, .slice none 0 0, .slice xM P.nM dM, .slice xS P.nS dS] #[.int .i64 0, .int .i64 0, .int .i64 0, .int .i64 0, .slice none 0 0, .slice none 0 0, .slice none 0 0, .slice none 0 0, .slice none 0 0, .slice none 0 0] rfl rfl fv22 (by kernel_rfl) rfl (by kernel_rfl) ?_
      have tR := Turn.rowW (Turn.refl (fun i => i = v0.heap.size) v22) rfl #[.int .i64 P.sa, .int .i64 P.si, .int .i64 P.ho, .int .i64 P.nx, .slice x1 P.n1 d1, .slice x2 P.n2 d2, .slice none 0 0, .slice none 0 0, .slice xM P.nM dM, .slice xS P.nS dS]
      have fv23 := fv22.rowW #[.int .i64 P.sa, .int .i64 P.si, .int .i64 P.ho, .int .i64 P.nx, .slice x1 P.n1 d1, .slice x2 P.n2 d2, .slice none 0 0, .slice none 0 0, .slice xM P.nM dM, .slice xS P.nS dS]
      have zB := nv0.size
      have nv23 := nv22.before tR (by intro i hi e; omega)
      have zzv23 := tR.size
      refine hK.out undef _ nv23 (fun _ => ?_)
      try simp only [Act.put, pA9, pB9, pC9]
      refine wpAnyH_done (by kernel_rfl) ?_ _
      exact ⟨v0.heap.size, x1, d1, x2, d2, xM, dM, VM, xS, dS, VS, v19.heap.size, v20.heap.size, v20.heap.size, v21.heap.size, v21.heap.size, v22.heap.size, rfl, nv23, fv23, by omega, by omega, by omega, by omega, by omega, by omega, by omega, by omega, by omega, by omega, by omega, AB.out, RS1.out, RS2.out, o1v22.turn tR (fun j hj e => by have := RS1.out j hj; omega), o2v22.turn tR (fun j hj e => by have := RS2.out j hj; omega), EM.out, oMv22.turn tR (fun x hx e => by have := hx.1; have := hx.2; omega), ES.out, oSv22.turn tR (fun x h1 h2 e => by omega)⟩
  case hq1 =>
    rintro e a' W hq
    cases e <;> simp only at hq
    obtain ⟨B3, x1, d1, x2, d2, xM, dM, VM, xS, dS, VS, s0, s1, m0, m1, q0, q1, rfl, nW, f3, i1, i2, i2', i3, i4, i5, i6, i7, i8, i9, i10, AB', RS1', RS2', o1W, o2W, eM', oMW, eS', oSW⟩ := hq
    have AB : Hid _ := AB'
    have RS1 : Hid (∀ j, (Value.slice x1 P.n1 d1).ownBlock = some j → s0 ≤ j ∧ j < s1) := RS1'
    have RS2 : Hid (∀ j, (Value.slice x2 P.n2 d2).ownBlock = some j → s0 ≤ j ∧ j < s1) := RS2'
    have EM : Hid (VM.map MlV.r = P.VM.map MlV.r) := eM'
    have ES : Hid (VS.map EkV.r = P.VS.map EkV.r) := eS'
    have b3lt : B3 < W.heap.size := f3.lt
    clear AB' RS1' RS2' eM' eS'
    have c6W : W.cell? ⟨B, 6, none⟩ = some (.slice P.aN P.nN P.cN) := HC.out W nW 6 (by omega)
    obtain ⟨iN, hiN, hzN0, hzN1, hzN2⟩ := info_parts Tryz.infoNd
    go_wp2_with fail
    go_loopw [28] (fun i wr => ∃ (k : Nat) (v0 : Value) (PN QN : Nat → Nat) (V' : List NdV), k ≤ P.nN ∧ i = .int .i64 k ∧ V'.length = k ∧ V'.map NdV.r = (P.VN.take k).map NdV.r ∧ New w1 wr ∧ Blk wr B3 47 #[.int .i64 P.sa, .int .i64 P.si, .int .i64 P.ho, .int .i64 P.nx, .slice x1 P.n1 d1, .slice x2 P.n2 d2, v0, .slice none 0 0, .slice xM P.nM dM, .slice xS P.nS dS] ∧ wr.ownsRow W.heap.size 74 9 v0 k (cellsNd V') ∧ ApN wr W.heap.size PN QN V' ∧ (∀ g, v0.ownBlock = some g → ∀ i, i < k → ¬ (PN i ≤ g ∧ g < QN i)) ∧ Turn (fun x => x = B3) W wr) (fun i _ => P.nN - (intOf i).toNat)
    case atStart => exact ⟨0, .slice none 0 0, fun _ => 0, fun _ => 0, [], Nat.zero_le _, rfl, rfl, rfl, nW, f3, ⟨rfl, .inl ⟨rfl, rfl⟩⟩, ⟨fun i v hv => by simp at hv, fun i j hi => by simp at hi⟩, fun g hg => by simp [Value.ownBlock] at hg, Turn.refl _ _⟩
    case round =>
      obtain ⟨k, v0, PN, QN, V', hk, rfl, hlV, hmap, nwr, fr, onr, apr, ngr, tWr⟩ := hrel
      have HLV : Hid (V'.length = k) := hlV
      have HMAP : Hid (V'.map NdV.r = (P.VN.take k).map NdV.r) := hmap
      have HNG : Hid (∀ g, v0.ownBlock = some g → ∀ i, i < k → ¬ (PN i ≤ g ∧ g < QN i)) := ngr
      clear hlV hmap ngr
      by_cases hlt : k < P.nN
      · obtain ⟨v, hv⟩ : ∃ v, P.VN[k]? = some v := ⟨_, List.getElem?_eq_getElem (by have := hl.lN; omega)⟩
        obtain ⟨⟨gN, hgN, hcN⟩, hlg, htot⟩ := (RD.out.new (hw1.trans nwr)).nd k v hv
        have HAN : Hid (P.aN = some ⟨gN, 0, none⟩) := hgN
        have hNv : NlK v.V := NN.out v (List.mem_of_getElem? hv)
        have hMp : Hid (∀ u : NdV, u.r = v.r → (V' ++ [u]).map NdV.r = (P.VN.take (k + 1)).map NdV.r) := by
          intro u hu
          obtain ⟨hk', e⟩ := List.getElem?_eq_some_iff.1 hv
          rw [List.take_succ_eq_append_getElem hk', e, List.map_append, List.map_append, HMAP.out]
          simp [hu]
        have hlv := totK_len v.V
        have hkm : k + 1 ≤ 4194304 := by have := hl.mN; omega
        clear hgN hv
        have c6 : wr.cell? ⟨B, 6, none⟩ = some (.slice P.aN P.nN P.cN) := HC.out wr nwr 6 (by omega)
        have cF := fr.cells
        have SZ0 : Hid (W.heap.size ≤ wr.heap.size) := tWr.size
        go_upto_region 5 with fail
        clear c6 cF
        refine hw_start (n := 13) (S := fun X => New w1 X) rfl (by kernel_rfl) (nwr.drew) (fun hH => ?_)
        have na := nwr.drew
        have nnd := (New.refl wr).drew
        have fa := fr.new nnd
        have ona := row9_new onr nnd
        have apa := apr.new nnd
        have tWa : Turn (fun x => x = B3) W wr.drew := tWr.drewW
        have kc := fun j (hj : j < 9) => (World.cell?_of_block (a := ⟨gN, k * 9 + j, none⟩) (nnd.block gN (World.block_lt_of_cell? wr _ (hcN 0 (by omega))) (fun f => f))).trans (hcN j hj)
        have hlga := hlg.new nnd
        have SZa := SZ0.out
        have szd : wr.drew.heap.size = wr.heap.size := rfl
        generalize wr.drew = a at *
        rw [← szd] at SZa
        clear nnd hcN hlg fr onr apr nwr tWr
        refine' hw_t 0 (some 31) _ rfl rfl na ?hy1 ?rest1
        case hy1 =>
          intro X hX
          go_simp
          try rfl
        simp only [Act.put, pA9, pB9, pC9]
        refine' hw_t 2 (some 33) _ rfl rfl na ?hy2 ?rest2
        case hy2 =>
          intro X hX
          go_simp
          try rfl
        simp only [Act.put, pA9, pB9, pC9]
        refine' hw_t 3 (some 34) _ rfl rfl na ?hy3 ?rest3
        case hy3 =>
          intro X hX
          go_simp
          try rfl
        simp only [Act.put, pA9, pB9, pC9]
        refine' hw_t 4 (some 35) _ rfl rfl na ?hy4 ?rest4
        case hy4 =>
          intro X hX
          go_simp
          try rfl
        simp only [Act.put, pA9, pB9, pC9]
        refine' hw_t 5 (some 36) _ rfl rfl na ?hy5 ?rest5
        case hy5 =>
          intro X hX
          have g6 : X.cell? ⟨B, 6, none⟩ = some (.slice P.aN P.nN P.cN) := HC.out X hX 6 (by omega)
          rw [HAN.out] at g6
          go_simp
          try rfl
        simp only [Act.put, pA9, pB9, pC9]
        refine' hw_t 6 (some 37) _ rfl rfl na ?hy6 ?rest6
        case hy6 =>
          intro X hX
          go_simp
          try rfl
        simp only [Act.put, pA9, pB9, pC9]
        refine' hw_t 7 (some 38) _ rfl rfl na ?hy7 ?rest7
        case hy7 =>
          intro X hX
          go_simp
          try rfl
        simp only [Act.put, pA9, pB9, pC9]
        refine wpAnyH_ready (rs := [1, 8]) (by kernel_rfl) (by simp) (hw_step 1 (some 32) rfl rfl (by rfl) (fun K hK => ?bl1) (hw_step 8 (some 39) rfl rfl (by rfl) (fun K hK => ?bl2) (by intro j hj; cases hj)))
        case' bl1 =>
          have cF := fa.cells
          go_simp
          refine hK.out _ _ na (fun _ => ?_)
          simp only [Act.put, pA9, pB9, pC9]
          clear cF
          refine hw_call 8 (some 39) rfl rfl (by kernel_rfl) (by rfl) (fun K hK => ?_)
        all_goals
          go_simp
          refine (copyNd_at gN (k * 9) v.id v.up v.ro v.ep v.su v.ma v.ot v.co v.A v.V.length v.c v.V a (kc 0 (by omega)) (kc 1 (by omega)) (kc 2 (by omega)) (kc 3 (by omega)) (kc 4 (by omega)) (kc 5 (by omega)) (kc 6 (by omega)) (kc 7 (by omega)) (kc 8 (by omega)) hlga hNv rfl (by omega)).mono ?_
          rintro e b ⟨A', c', VL, rfl, hVL, oLb, nn⟩
          have HVL : Hid (VL.map EkV.r = v.V.map EkV.r) := hVL
          have fb := fa.new nn
          have onb := row9_new ona nn
          have apb := apa.new nn
          have tWb : Turn (fun x => x = B3) W b := Turn.trans tWa nn (fun i _ f => f.elim)
          have nb := na.trans nn
          have zzb := nn.size
          refine hK.out _ _ nb (fun _ => ?_)
          simp only [Act.put, pA9, pB9, pC9]
          clear hVL nn
          first
            | refine hw_call 9 (some 40) rfl rfl (by decide +kernel) (by rfl) (fun K hK => ?_)
            | (refine wpAnyH_ready (rs := [1, 9]) (by kernel_rfl) (by simp) (hw_step 1 (some 32) rfl rfl (by rfl) (fun K hK => ?bl3) (hw_step 9 (some 40) rfl rfl (by rfl) (fun K hK => ?bl4) (by intro j hj; cases hj)))
               case' bl3 =>
                 have cF := fb.cells
                 go_simp
                 refine hK.out _ _ nb (fun _ => ?_)
                 simp only [Act.put, pA9, pB9, pC9]
                 clear cF
                 refine hw_call 9 (some 40) rfl rfl (by kernel_rfl) (by rfl) (fun K hK => ?_))
          all_goals
            go_simp
            have nn := (New.refl b).alloc (.cells #[.int .i64 v.id, .bool v.up, .int .i64 v.ro, .int .i64 v.ep, .slice A' v.V.length c', .int .i64 v.su, .int .i64 v.ma, .int .i64 v.ot, .int .i64 v.co] 74)
            have bS := Blk.mk b b.heap.size 74 #[.int .i64 v.id, .bool v.up, .int .i64 v.ro, .int .i64 v.ep, .slice A' v.V.length c', .int .i64 v.su, .int .i64 v.ma, .int .i64 v.ot, .int .i64 v.co] rfl
            have fc := fb.new nn
            have onc := row9_new onb nn
            have apc := apb.new nn
            have oLc := oLb.new nn
            have tWc : Turn (fun x => x = B3) W (b.alloc (.cells #[.int .i64 v.id, .bool v.up, .int .i64 v.ro, .int .i64 v.ep, .slice A' v.V.length c', .int .i64 v.su, .int .i64 v.ma, .int .i64 v.ot, .int .i64 v.co] 74)) := Turn.trans tWb nn (fun i _ f => f.elim)
            have nc := nb.trans nn
            have zzc := nn.size
            refine hK.out _ _ nc (fun _ => ?_)
            simp only [Act.put, pA9, pB9, pC9]
            generalize b.alloc (.cells #[.int .i64 v.id, .bool v.up, .int .i64 v.ro, .int .i64 v.ep, .slice A' v.V.length c', .int .i64 v.su, .int .i64 v.ma, .int .i64 v.ot, .int .i64 v.co] 74) = c at *
            clear nn
            try
              refine hw_call 1 (some 32) rfl rfl (by decide +kernel) (by rfl) (fun K hK => ?_)
              have cF := fc.cells
              go_simp
              refine hK.out _ _ nc (fun _ => ?_)
              simp only [Act.put, pA9, pB9, pC9]
              clear cF
            have cS := bS.cells
            refine hw_call 10 (some 41) rfl rfl (by kernel_rfl) (by rfl) (fun K hK => ?_)
            refine wp_apV _ (.tmp 32) (.tmp 40) rfl W.heap.size 9 88 (.agg #[.int .i64 0, .bool false, .int .i64 0, .int .i64 0, .slice none 0 0, .int .i64 0, .int .i64 0, .int .i64 0, .int .i64 0]) Tryz.underlying42 hiN hzN0 hzN1 hzN2 rfl (by omega) (by omega) v0 k (cellsNd V') rfl onc b.heap.size [.int .i64 v.id, .bool v.up, .int .i64 v.ro, .int .i64 v.ep, .slice A' v.V.length c', .int .i64 v.su, .int .i64 v.ma, .int .i64 v.ot, .int .i64 v.co] rfl (by simp [Value.oneCell']) rfl (by intro j u hu; rw [cS j, List.getElem?_toArray]; exact hu) hkm (by omega) ?_
            intro vv d oo gg hloc
            have tt : Turn (fun k => v0.ownBlock = some k) c d := ⟨gg.os, gg.tape, gg.output, gg.size, fun k hk hs => gg.block k hk (fun x => hs x.symm)⟩
            obtain ⟨y, dd, hvv, -, hyr⟩ := row9_form oo
            subst hvv
            have hlVL : VL.length = v.V.length := by have h1 := congrArg List.length HVL.out; simpa using h1
            have hrr : ∀ g, v0.ownBlock = some g → W.heap.size ≤ g ∧ g < c.heap.size := rng16 onc
            have nd := nc.before tt (by intro j hj x; have := hrr j x; have := nW.size; omega)
            have tWd : Turn (fun x => x = B3) W d := Turn.trans tWc tt (fun i hi x => by have := (hrr i x).1; omega)
            have fd := fc.turn tt (fun x => by have := (hrr B3 x).1; omega)
            have apd : ApN d W.heap.size PN QN V' := apN_row apc tt (fun g hg i hi => HNG.out g hg i (by have := HLV.out; omega))
            have oLd : OwL d a.heap.size b.heap.size (.slice A' v.V.length c') VL := oLc.turn tt (fun x h1 h2 x' => by have := (rng16 ona x x').2; omega)
            have HNG2 : Hid (∀ g, (Value.slice y (k + 1) dd).ownBlock = some g → ∀ i, i < k + 1 → ¬ ((if i = k then a.heap.size else PN i) ≤ g ∧ g < (if i = k then b.heap.size else QN i))) := by
              intro g hg i hi
              by_cases hik : i = k
              · rw [if_pos hik, if_pos hik]
                rcases hloc with h1 | h1
                · rw [h1] at hg
                  have := (rng16 ona g hg).2
                  omega
                · rw [h1] at hg
                  simp only [Option.some.injEq] at hg
                  omega
              · rw [if_neg hik, if_neg hik]
                rcases hloc with h1 | h1
                · rw [h1] at hg
                  exact HNG.out g hg i (by omega)
                · rw [h1] at hg
                  simp only [Option.some.injEq] at hg
                  have h2 := (apa.1 i _ (List.getElem?_eq_getElem (by have := HLV.out; omega))).2.2.2
                  omega
            have HAP : Hid (ApN d W.heap.size (fun i => if i = k then a.heap.size else PN i) (fun i => if i = k then b.heap.size else QN i) (V' ++ [⟨v.id, v.up, v.ro, v.ep, v.su, v.ma, v.ot, v.co, A', c', VL⟩])) := by
              have h1 := apN_snoc16 apd (l := a.heap.size) (h := b.heap.size) ⟨v.id, v.up, v.ro, v.ep, v.su, v.ma, v.ot, v.co, A', c', VL⟩ (by rw [hlVL]; exact oLd) (by rw [totK_alike HVL.out]; exact htot) (by omega) (by have := tt.size; omega) (fun i hi => (apa.1 i _ (List.getElem?_eq_getElem hi)).2.2.2)
              rw [HLV.out] at h1
              exact h1
            have HON : Hid (d.ownsRow W.heap.size 74 9 (.slice y (k + 1) dd) (k + 1) (cellsNd (V' ++ [⟨v.id, v.up, v.ro, v.ep, v.su, v.ma, v.ot, v.co, A', c', VL⟩]))) := by
              have h1 : cellsNd (V' ++ [⟨v.id, v.up, v.ro, v.ep, v.su, v.ma, v.ot, v.co, A', c', VL⟩]) = cellsNd V' ++ [.int .i64 v.id, .bool v.up, .int .i64 v.ro, .int .i64 v.ep, .slice A' v.V.length c', .int .i64 v.su, .int .i64 v.ma, .int .i64 v.ot, .int .i64 v.co] := by
                unfold cellsNd
                rw [List.flatMap_append]
                simp [NdV.cs, hlVL]
              show d.ownsRow _ _ _ _ _ _
              rw [h1]
              exact oo
            have HR : Hid ((V' ++ [(⟨v.id, v.up, v.ro, v.ep, v.su, v.ma, v.ot, v.co, A', c', VL⟩ : NdV)]).map NdV.r = (P.VN.take (k + 1)).map NdV.r) := hMp.out _ (by simp [NdV.r, HVL.out])
            clear oo gg tt cS bS
            refine hK.out _ _ nd (fun _ => ?_)
            simp only [Act.put, pA9, pB9, pC9]
            refine hw_take 11 (some 42) (.pointer (some ⟨B3, 6, none⟩)) rfl rfl (by kernel_rfl) (by kernel_rfl) (by kernel_rfl) (fun _ _ _ h => h) (by rfl) nd (fun X hX => ?_) ?_
            · go_simp
              try rfl
            simp only [Act.put, pA9, pB9, pC9]
            refine hw_call 12 none rfl rfl (by kernel_rfl) (by rfl) (fun K hK => ?_)
            have cF := fd.cells
            have fF := fd.frees
            go_simp
            have tS := (Turn.refl (fun i => i = B3) d).set (p := ⟨B3, 6, none⟩) rfl (.slice y (k + 1) dd)
            have fz : Blk (d.setCell ⟨B3, 6, none⟩ (.slice y (k + 1) dd)) B3 47 #[.int .i64 P.sa, .int .i64 P.si, .int .i64 P.ho, .int .i64 P.nx, .slice x1 P.n1 d1, .slice x2 P.n2 d2, .slice y (k + 1) dd, .slice none 0 0, .slice xM P.nM dM, .slice xS P.nS dS] := fd.set 6 (.slice y (k + 1) dd)
            have nz := nd.before tS (by intro j hj x; omega)
            have tWz : Turn (fun x => x = B3) W (d.setCell ⟨B3, 6, none⟩ (.slice y (k + 1) dd)) := Turn.trans tWd tS (fun i _ x => x)
            have HONz : Hid ((d.setCell ⟨B3, 6, none⟩ (.slice y (k + 1) dd)).ownsRow W.heap.size 74 9 (.slice y (k + 1) dd) (k + 1) (cellsNd (V' ++ [⟨v.id, v.up, v.ro, v.ep, v.su, v.ma, v.ot, v.co, A', c', VL⟩]))) := row9_turn HON.out tS (fun j hj x => by have := (hyr j hj).1; omega)
            have HAPz : Hid (ApN (d.setCell ⟨B3, 6, none⟩ (.slice y (k + 1) dd)) W.heap.size (fun i => if i = k then a.heap.size else PN i) (fun i => if i = k then b.heap.size else QN i) (V' ++ [⟨v.id, v.up, v.ro, v.ep, v.su, v.ma, v.ot, v.co, A', c', VL⟩])) := ApN.turn HAP.out tS (fun j h1 h2 x => by omega)
            refine hK.out undef _ nz (fun _ => ?_)
            try simp only [Act.put, pA9, pB9, pC9]
            refine wpAnyH_done (by kernel_rfl) ?_ _
            generalize d.setCell ⟨B3, 6, none⟩ (.slice y (k + 1) dd) = z at *
            clear tS cF fF
            go_wp2
            go_roundw
            case rel => exact ⟨k + 1, .slice y (k + 1) dd, _, _, _, by omega, by go_num, by simp [HLV.out], HR.out, nz, fz, HONz.out, HAPz.out, HNG2.out, tWz⟩
            case measure => simp [intOf]; omega
      · obtain ⟨kN, hkN⟩ : ∃ kN, Hid (P.nN = kN) := ⟨_, rfl⟩
        obtain rfl : k = P.nN := by omega
        have c7 : wr.cell? ⟨B, 7, none⟩ = some (.slice P.aW P.nW P.cW) := HC.out wr nwr 7 (by omega)
        obtain ⟨iW, hiW, hzW0, hzW1, hzW2⟩ := info_parts Tryz.infoWi
        have BTW : Hid (W.heap.size ≤ wr.heap.size) := tWr.size
        go_wp2_with fail
        have nB := nwr
        have fB := fr
        have b3B : B3 < wr.heap.size := fr.lt
        clear c7
        obtain ⟨wB, rfl⟩ : ∃ wB, wB = wr := ⟨_, rfl⟩
        obtain ⟨vN, rfl⟩ : ∃ vN, vN = v0 := ⟨_, rfl⟩
        obtain ⟨VN', rfl⟩ : ∃ VN', VN' = V' := ⟨_, rfl⟩
        have HVN : Hid (wB.ownsRow W.heap.size 74 9 vN P.nN (cellsNd VN')) := onr
        have HAN' : Hid (ApN wB W.heap.size PN QN VN') := apr
        have tWN := tWr
        clear tWr
        have HLVN := HLV
        have HMAPN := HMAP
        have HNGN := HNG
        clear HLV HMAP HNG nwr fr onr apr
        go_loopw [49] (fun i wr => ∃ (k : Nat) (v0 : Value) (V' : List WiV), k ≤ P.nW ∧ i = .int .i64 k ∧ V'.length = k ∧ V'.map WiV.r = (P.VW.take k).map WiV.r ∧ New w1 wr ∧ Blk wr B3 47 #[.int .i64 P.sa, .int .i64 P.si, .int .i64 P.ho, .int .i64 P.nx, .slice x1 P.n1 d1, .slice x2 P.n2 d2, vN, v0, .slice xM P.nM dM, .slice xS P.nS dS] ∧ wr.ownsRow wB.heap.size 132 4 v0 k (cellsWi V') ∧ ApW wr wB.heap.size V' ∧ (∀ g, v0.ownBlock = some g → ∀ u ∈ V', ∀ x, (u.a = some x ∨ u.b = some x) → ¬ x.block = g) ∧ (∀ u ∈ V', (∀ z ∈ u.xs, By z) ∧ ∀ z ∈ u.ys, By z) ∧ Turn (fun x => x = B3) wB wr) (fun i _ => P.nW - (intOf i).toNat)
        case atStart => exact ⟨0, .slice none 0 0, [], Nat.zero_le _, rfl, rfl, rfl, nB, fB, ⟨rfl, .inl ⟨rfl, rfl⟩⟩, ⟨fun i v hv => by simp at hv, fun i j u v x y hi => by simp at hi⟩, fun g hg => by simp [Value.ownBlock] at hg, by simp, Turn.refl _ _⟩
        case round =>
          obtain ⟨k, v0, V', hk, rfl, hlV, hmap, nwr, fr, onr, apr, ngr, byr, tWr⟩ := hrel
          have HLV : Hid (V'.length = k) := hlV
          have HMAP : Hid (V'.map WiV.r = (P.VW.take k).map WiV.r) := hmap
          have HNG : Hid (∀ g, v0.ownBlock = some g → ∀ u ∈ V', ∀ x, (u.a = some x ∨ u.b = some x) → ¬ x.block = g) := ngr
          have HBY : Hid (∀ u ∈ V', (∀ z ∈ u.xs, By z) ∧ ∀ z ∈ u.ys, By z) := byr
          clear hlV hmap ngr byr
          by_cases hlt : k < P.nW
          · obtain ⟨v, hv⟩ : ∃ v, P.VW[k]? = some v := ⟨_, List.getElem?_eq_getElem (by have := hl.lW; omega)⟩
            obtain ⟨⟨gW, hgW, hcW⟩, hba, hbb, hma, hmb⟩ := (RD.out.new (hw1.trans nwr)).wi k v hv
            obtain ⟨hna, hnb⟩ := NW.out v (List.mem_of_getElem? hv)
            have HAW : Hid (P.aW = some ⟨gW, 0, none⟩) := hgW
            have hMp : Hid (∀ u : WiV, u.r = v.r → (V' ++ [u]).map WiV.r = (P.VW.take (k + 1)).map WiV.r) := by
              intro u hu
              obtain ⟨hk', e⟩ := List.getElem?_eq_some_iff.1 hv
              rw [List.take_succ_eq_append_getElem hk', e, List.map_append, List.map_append, HMAP.out]
              simp [hu]
            have hkm : k + 1 ≤ 4194304 := by have := hl.mW; omega
            have hby1 : Hid ((∀ z ∈ v.xs, By z) ∧ ∀ z ∈ v.ys, By z) := ⟨hba.lt, hbb.lt⟩
            have k0 : wr.cell? ⟨gW, k * 4, none⟩ = some (.int .i64 v.E) := hcW 0 (by omega)
            have k1 : wr.cell? ⟨gW, k * 4 + 1, none⟩ = some (.slice v.a v.xs.length v.c) := hcW 1 (by omega)
            have k2 : wr.cell? ⟨gW, k * 4 + 2, none⟩ = some (.int .i64 v.T) := hcW 2 (by omega)
            have k3 : wr.cell? ⟨gW, k * 4 + 3, none⟩ = some (.slice v.b v.ys.length v.d) := hcW 3 (by omega)
            clear hv
            have SZ0 : Hid (wB.heap.size ≤ wr.heap.size) := tWr.size
            have nnL := (New.refl wr).alloc (.cells #[.int .i64 v.E, .slice v.a v.xs.length v.c, .int .i64 v.T, .slice v.b v.ys.length v.d] 132)
            have bL := Blk.mk wr wr.heap.size 132 #[.int .i64 v.E, .slice v.a v.xs.length v.c, .int .i64 v.T, .slice v.b v.ys.length v.d] rfl
            have frL := fr.new nnL
            have onL := row9_new onr nnL
            have apL := apr.new nnL
            have tWL : Turn (fun x => x = B3) wB (wr.alloc (.cells #[.int .i64 v.E, .slice v.a v.xs.length v.c, .int .i64 v.T, .slice v.b v.ys.length v.d] 132)) := Turn.trans tWr nnL (fun i _ f => f.elim)
            have nwL := nwr.trans nnL
            have hbaL := hba.new nnL
            have hbbL := hbb.new nnL
            have LS : Hid (wB.heap.size ≤ wr.heap.size) := SZ0.out
            have hneL : Hid (∀ g, v0.ownBlock = some g → g < wr.heap.size) := fun g hg => (rng16 onr g hg).2
            rw [HAW.out]
            clear hcW hgW
            go_upto_region 10 with fail
            clear k0 k1 k2 k3 nnL fr onr apr tWr nwr hba hbb
            generalize wr.alloc (.cells #[.int .i64 v.E, .slice v.a v.xs.length v.c, .int .i64 v.T, .slice v.b v.ys.length v.d] 132) = wL at *
            refine hw_start (n := 8) (S := fun X => New w1 X ∧ Blk X wr.heap.size 132 #[.int .i64 v.E, .slice v.a v.xs.length v.c, .int .i64 v.T, .slice v.b v.ys.length v.d]) rfl (by kernel_rfl) (⟨nwL.drew, bL.new ((New.refl _).drew)⟩) (fun hH => ?_)
            have nnd := (New.refl wL).drew
            have na := nwL.drew
            have ba := bL.new nnd
            have fa := frL.new nnd
            have ona := row9_new onL nnd
            have apa := apL.new nnd
            have tWa : Turn (fun x => x = B3) wB wL.drew := tWL.drewW
            have hbaa := hbaL.new nnd
            have hbba := hbbL.new nnd
            have LSa : wr.heap.size < wL.drew.heap.size := bL.lt
            generalize wL.drew = a at *
            clear nnd bL frL onL apL nwL tWL hbaL hbbL
            refine' hw_t 0 (some 53) _ rfl rfl ⟨na, ba⟩ ?hy9 ?rest9
            case hy9 =>
              intro X hX
              go_simp
              try rfl
            simp only [Act.put, pA9, pB9, pC9]
            refine' hw_take 2 (some 55) (.agg #[.int .i64 v.E, .slice v.a v.xs.length v.c, .int .i64 v.T, .slice v.b v.ys.length v.d]) rfl rfl (by kernel_rfl) (by kernel_rfl) (by kernel_rfl) (fun _ _ _ h => h) (by rfl) ⟨na, ba⟩ ?hzL ?rzL
            case hzL =>
              intro X hX
              exact run_load_blk 132 (.tmp 6) rfl wr.heap.size rfl #[.int .i64 v.E, .slice v.a v.xs.length v.c, .int .i64 v.T, .slice v.b v.ys.length v.d] _ hX.2 Tryz.underlying132 rfl (by kernel_rfl)
            simp only [Act.put, pA9, pB9, pC9]
            refine wpAnyH_ready (rs := [1, 3]) (by kernel_rfl) (by simp) (hw_step 1 (some 54) rfl rfl (by rfl) (fun K hK => ?bw1) (hw_step 3 (some 56) rfl rfl (by rfl) (fun K hK => ?bw2) (by intro j hj; cases hj)))
            case' bw1 =>
              have cF := fa.cells
              go_simp
              refine hK.out _ _ ⟨na, ba⟩ (fun _ => ?_)
              simp only [Act.put, pA9, pB9, pC9]
              clear cF
              refine hw_call 3 (some 56) rfl rfl (by kernel_rfl) (by rfl) (fun K hK => ?_)
            all_goals
              go_simp
              refine (copyW v.E v.T v.a v.b v.c v.d v.xs v.ys a hbaa hbba hna hnb hma hmb).mono ?_
              rintro e b hWA
              obtain ⟨a', b', c', d', rfl, oab, obb, rgb, neb, nn⟩ := wans16 hWA hby1.out.1 hby1.out.2
              have fb := fa.new nn
              have bb := ba.new nn
              have onb := row9_new ona nn
              have apb := apa.new nn
              have tWb : Turn (fun x => x = B3) wB b := Turn.trans tWa nn (fun i _ f => f.elim)
              have nb := na.trans nn
              have zzb := nn.size
              refine hK.out _ _ ⟨nb, bb⟩ (fun _ => ?_)
              simp only [Act.put, pA9, pB9, pC9]
              clear nn hWA
              first
                | refine hw_call 4 (some 57) rfl rfl (by decide +kernel) (by rfl) (fun K hK => ?_)
                | (refine wpAnyH_ready (rs := [1, 4]) (by kernel_rfl) (by simp) (hw_step 1 (some 54) rfl rfl (by rfl) (fun K hK => ?bw3) (hw_step 4 (some 57) rfl rfl (by rfl) (fun K hK => ?bw4) (by intro j hj; cases hj)))
                   case' bw3 =>
                     have cF := fb.cells
                     go_simp
                     refine hK.out _ _ ⟨nb, bb⟩ (fun _ => ?_)
                     simp only [Act.put, pA9, pB9, pC9]
                     clear cF
                     refine hw_call 4 (some 57) rfl rfl (by kernel_rfl) (by rfl) (fun K hK => ?_))
              all_goals
                go_simp
                have nn := (New.refl b).alloc (.cells #[.int .i64 v.E, .slice a' v.xs.length c', .int .i64 v.T, .slice b' v.ys.length d'] 132)
                have bS := Blk.mk b b.heap.size 132 #[.int .i64 v.E, .slice a' v.xs.length c', .int .i64 v.T, .slice b' v.ys.length d'] rfl
                have fc := fb.new nn
                have bc := bb.new nn
                have onc := row9_new onb nn
                have apc := apb.new nn
                have oac := oab.new nn
                have obc := obb.new nn
                have tWc : Turn (fun x => x = B3) wB (b.alloc (.cells #[.int .i64 v.E, .slice a' v.xs.length c', .int .i64 v.T, .slice b' v.ys.length d'] 132)) := Turn.trans tWb nn (fun i _ f => f.elim)
                have nc := nb.trans nn
                have zzc := nn.size
                refine hK.out _ _ ⟨nc, bc⟩ (fun _ => ?_)
                simp only [Act.put, pA9, pB9, pC9]
                generalize b.alloc (.cells #[.int .i64 v.E, .slice a' v.xs.length c', .int .i64 v.T, .slice b' v.ys.length d'] 132) = c at *
                clear nn
                try
                  refine hw_call 1 (some 54) rfl rfl (by decide +kernel) (by rfl) (fun K hK => ?_)
                  have cF := fc.cells
                  go_simp
                  refine hK.out _ _ ⟨nc, bc⟩ (fun _ => ?_)
                  simp only [Act.put, pA9, pB9, pC9]
                  clear cF
                have cS := bS.cells
                refine hw_call 5 (some 58) rfl rfl (by kernel_rfl) (by rfl) (fun K hK => ?_)
                refine wp_apV _ (.tmp 54) (.tmp 57) rfl wB.heap.size 4 64 (.agg #[.int .i64 0, .slice none 0 0, .int .i64 0, .slice none 0 0]) Tryz.underlying43 hiW hzW0 hzW1 hzW2 rfl (by omega) (by omega) v0 k (cellsWi V') rfl onc b.heap.size [.int .i64 v.E, .slice a' v.xs.length c', .int .i64 v.T, .slice b' v.ys.length d'] rfl (by simp [Value.oneCell']) rfl (by intro j u hu; rw [cS j, List.getElem?_toArray]; exact hu) hkm (by have := LS.out; omega) ?_
                intro vv d oo gg hloc
                have tt : Turn (fun k => v0.ownBlock = some k) c d := ⟨gg.os, gg.tape, gg.output, gg.size, fun k hk hs => gg.block k hk (fun x => hs x.symm)⟩
                obtain ⟨y, dd, hvv, -, hyr⟩ := row9_form oo
                subst hvv
                have hrr : ∀ g, v0.ownBlock = some g → wB.heap.size ≤ g ∧ g < c.heap.size := rng16 onc
                have nd := nc.before tt (by intro j hj x; have := hrr j x; have := nB.size; omega)
                have tWd : Turn (fun x => x = B3) wB d := Turn.trans tWc tt (fun i hi x => by have := (hrr i x).1; omega)
                have fd := fc.turn tt (fun x => by have := (hrr B3 x).1; omega)
                have bd := bc.turn tt (fun x => by have := hneL.out _ x; omega)
                have HAP : Hid (ApW d wB.heap.size (V' ++ [⟨v.E, v.T, a', b', c', d', v.xs, v.ys⟩])) := by
                  have h1 := apW_row apc tt (fun g hg => HNG.out g hg)
                  refine h1.snoc (l := a.heap.size) ⟨v.E, v.T, a', b', c', d', v.xs, v.ys⟩ ⟨oac.turn tt (fun x hx x' => by have := (rgb x (.inl hx)).1; have := hneL.out _ x'; omega), obc.turn tt (fun x hx x' => by have := (rgb x (.inr hx)).1; have := hneL.out _ x'; omega)⟩ ⟨hma, hmb⟩ (fun x hx => ⟨(rgb x hx).1, by have := (rgb x hx).2; have := tt.size; omega⟩) neb (by have := LS.out; omega) ?_
                  intro u hu x hx
                  obtain ⟨i, hi'⟩ := List.getElem?_of_mem hu
                  exact ((apa.1 i u hi').2.2.1 x hx).2
                have HNG2 : Hid (∀ g, (Value.slice y (k + 1) dd).ownBlock = some g → ∀ u ∈ V' ++ [(⟨v.E, v.T, a', b', c', d', v.xs, v.ys⟩ : WiV)], ∀ x, (u.a = some x ∨ u.b = some x) → ¬ x.block = g) := by
                  intro g hg u hu x hx
                  rcases List.mem_append.1 hu with h2 | h2
                  · rcases hloc with h1 | h1
                    · rw [h1] at hg
                      exact HNG.out g hg u h2 x hx
                    · rw [h1] at hg
                      simp only [Option.some.injEq] at hg
                      obtain ⟨i, hi'⟩ := List.getElem?_of_mem h2
                      have := ((apa.1 i u hi').2.2.1 x hx).2
                      omega
                  · obtain rfl := List.mem_singleton.1 h2
                    rcases hloc with h1 | h1
                    · rw [h1] at hg
                      have := (rgb x hx).1
                      have := hneL.out _ hg
                      omega
                    · rw [h1] at hg
                      simp only [Option.some.injEq] at hg
                      have := (rgb x hx).2
                      omega
                have HON : Hid (d.ownsRow wB.heap.size 132 4 (.slice y (k + 1) dd) (k + 1) (cellsWi (V' ++ [⟨v.E, v.T, a', b', c', d', v.xs, v.ys⟩]))) := by
                  have h1 : cellsWi (V' ++ [⟨v.E, v.T, a', b', c', d', v.xs, v.ys⟩]) = cellsWi V' ++ [.int .i64 v.E, .slice a' v.xs.length c', .int .i64 v.T, .slice b' v.ys.length d'] := by
                    unfold cellsWi
                    rw [List.flatMap_append]
                    simp [WiV.cs]
                  show d.ownsRow _ _ _ _ _ _
                  rw [h1]
                  exact oo
                have HR : Hid ((V' ++ [(⟨v.E, v.T, a', b', c', d', v.xs, v.ys⟩ : WiV)]).map WiV.r = (P.VW.take (k + 1)).map WiV.r) := hMp.out _ (by simp [WiV.r])
                have HBY2 : Hid (∀ u ∈ V' ++ [(⟨v.E, v.T, a', b', c', d', v.xs, v.ys⟩ : WiV)], (∀ z ∈ u.xs, By z) ∧ ∀ z ∈ u.ys, By z) := by
                  intro u hu
                  rcases List.mem_append.1 hu with h2 | h2
                  · exact HBY.out u h2
                  · obtain rfl := List.mem_singleton.1 h2
                    exact hby1.out
                clear oo gg tt cS bS
                refine hK.out _ _ ⟨nd, bd⟩ (fun _ => ?_)
                simp only [Act.put, pA9, pB9, pC9]
                refine hw_take 6 (some 59) (.pointer (some ⟨B3, 7, none⟩)) rfl rfl (by kernel_rfl) (by kernel_rfl) (by kernel_rfl) (fun _ _ _ h => h) (by rfl) ⟨nd, bd⟩ (fun X hX => ?_) ?_
                · go_simp
                  try rfl
                simp only [Act.put, pA9, pB9, pC9]
                refine hw_call 7 none rfl rfl (by kernel_rfl) (by rfl) (fun K hK => ?_)
                have cF := fd.cells
                have fF := fd.frees
                go_simp
                have tS := (Turn.refl (fun i => i = B3) d).set (p := ⟨B3, 7, none⟩) rfl (.slice y (k + 1) dd)
                have fz : Blk (d.setCell ⟨B3, 7, none⟩ (.slice y (k + 1) dd)) B3 47 #[.int .i64 P.sa, .int .i64 P.si, .int .i64 P.ho, .int .i64 P.nx, .slice x1 P.n1 d1, .slice x2 P.n2 d2, vN, .slice y (k + 1) dd, .slice xM P.nM dM, .slice xS P.nS dS] := fd.set 7 (.slice y (k + 1) dd)
                have nz := nd.before tS (by intro j hj x; omega)
                have bz := bd.turn tS (fun x => by have := LS.out; omega)
                have tWz : Turn (fun x => x = B3) wB (d.setCell ⟨B3, 7, none⟩ (.slice y (k + 1) dd)) := Turn.trans tWd tS (fun i _ x => x)
                have HONz : Hid ((d.setCell ⟨B3, 7, none⟩ (.slice y (k + 1) dd)).ownsRow wB.heap.size 132 4 (.slice y (k + 1) dd) (k + 1) (cellsWi (V' ++ [⟨v.E, v.T, a', b', c', d', v.xs, v.ys⟩]))) := row9_turn HON.out tS (fun j hj x => by have := (hyr j hj).1; omega)
                have HAPz : Hid (ApW (d.setCell ⟨B3, 7, none⟩ (.slice y (k + 1) dd)) wB.heap.size (V' ++ [⟨v.E, v.T, a', b', c', d', v.xs, v.ys⟩])) := ApW.turn HAP.out tS (fun j h1 h2 x => by omega)
                refine hK.out undef _ ⟨nz, bz⟩ (fun _ => ?_)
                try simp only [Act.put, pA9, pB9, pC9]
                refine wpAnyH_done (by kernel_rfl) ?_ _
                generalize d.setCell ⟨B3, 7, none⟩ (.slice y (k + 1) dd) = z at *
                clear tS cF fF
                go_wp2
                go_roundw
                case rel => exact ⟨k + 1, .slice y (k + 1) dd, _, by omega, by go_num, by simp [HLV.out], HR.out, nz, fz, HONz.out, HAPz.out, HNG2.out, HBY2.out, tWz⟩
                case measure => simp [intOf]; omega
          · obtain rfl : k = P.nW := by omega
            obtain ⟨yN, dN, hvN, -, hyN⟩ := row9_form HVN.out
            obtain ⟨yW, dW, hvW, -, hyW⟩ := row9_form onr
            subst hvN hvW
            have bR := b2.new nwr
            have cR := bR.cells
            have fR := bR.frees
            have cF := fr.cells
            have SB2 : Hid (wB.heap.size ≤ wr.heap.size) := tWr.size
            have ONN := nd16 HVN.out HAN'.out HNGN.out HLVN.out
            have OWW := wi16 onr apr HNG.out HLV.out
            have ge0 : w.heap.size ≤ w.heap.size := Nat.le_refl _
            have nww := hw1.trans nwr
            clear onr apr
            go_wp2
            have tz : Turn (fun x => x = w.heap.size) wr ((((((((((wr.setCell ⟨w.heap.size, 0, none⟩ (.int .i64 P.sa)).setCell ⟨w.heap.size, 1, none⟩ (.int .i64 P.si)).setCell ⟨w.heap.size, 2, none⟩ (.int .i64 P.ho)).setCell ⟨w.heap.size, 3, none⟩ (.int .i64 P.nx)).setCell ⟨w.heap.size, 4, none⟩ (.slice x1 P.n1 d1)).setCell ⟨w.heap.size, 5, none⟩ (.slice x2 P.n2 d2)).setCell ⟨w.heap.size, 6, none⟩ (.slice yN P.nN dN)).setCell ⟨w.heap.size, 7, none⟩ (.slice yW P.nW dW)).setCell ⟨w.heap.size, 8, none⟩ (.slice xM P.nM dM)).setCell ⟨w.heap.size, 9, none⟩ (.slice xS P.nS dS)) := (Turn.set (S := fun x => x = w.heap.size) (Turn.set (S := fun x => x = w.heap.size) (Turn.set (S := fun x => x = w.heap.size) (Turn.set (S := fun x => x = w.heap.size) (Turn.set (S := fun x => x = w.heap.size) (Turn.set (S := fun x => x = w.heap.size) (Turn.set (S := fun x => x = w.heap.size) (Turn.set (S := fun x => x = w.heap.size) (Turn.set (S := fun x => x = w.heap.size) (Turn.set (S := fun x => x = w.heap.size) (Turn.refl _ _) rfl _) rfl _) rfl _) rfl _) rfl _) rfl _) rfl _) rfl _) rfl _) rfl _)
            have tA : Turn (fun x => x = B3 ∨ x = w.heap.size) W ((((((((((wr.setCell ⟨w.heap.size, 0, none⟩ (.int .i64 P.sa)).setCell ⟨w.heap.size, 1, none⟩ (.int .i64 P.si)).setCell ⟨w.heap.size, 2, none⟩ (.int .i64 P.ho)).setCell ⟨w.heap.size, 3, none⟩ (.int .i64 P.nx)).setCell ⟨w.heap.size, 4, none⟩ (.slice x1 P.n1 d1)).setCell ⟨w.heap.size, 5, none⟩ (.slice x2 P.n2 d2)).setCell ⟨w.heap.size, 6, none⟩ (.slice yN P.nN dN)).setCell ⟨w.heap.size, 7, none⟩ (.slice yW P.nW dW)).setCell ⟨w.heap.size, 8, none⟩ (.slice xM P.nM dM)).setCell ⟨w.heap.size, 9, none⟩ (.slice xS P.nS dS)) := Turn.trans (Turn.trans tWN (tWr.mono (fun _ _ h => h)) (fun i _ x => x) |>.mono (fun i _ h => Or.inl h)) tz (fun i _ h => Or.inr h)
            have tB : Turn (fun x => x = B3 ∨ x = w.heap.size) wB ((((((((((wr.setCell ⟨w.heap.size, 0, none⟩ (.int .i64 P.sa)).setCell ⟨w.heap.size, 1, none⟩ (.int .i64 P.si)).setCell ⟨w.heap.size, 2, none⟩ (.int .i64 P.ho)).setCell ⟨w.heap.size, 3, none⟩ (.int .i64 P.nx)).setCell ⟨w.heap.size, 4, none⟩ (.slice x1 P.n1 d1)).setCell ⟨w.heap.size, 5, none⟩ (.slice x2 P.n2 d2)).setCell ⟨w.heap.size, 6, none⟩ (.slice yN P.nN dN)).setCell ⟨w.heap.size, 7, none⟩ (.slice yW P.nW dW)).setCell ⟨w.heap.size, 8, none⟩ (.slice xM P.nM dM)).setCell ⟨w.heap.size, 9, none⟩ (.slice xS P.nS dS)) := Turn.trans (tWr.mono (fun i _ h => Or.inl h)) tz (fun i _ h => Or.inr h)
            have szz := tz.size
            have BT := BTW.out
            have SB := SB2.out
            have S1 := sz1.out
            refine bodyPost_ret (v := .agg #[.int .i64 P.sa, .int .i64 P.si, .int .i64 P.ho, .int .i64 P.nx, .slice x1 P.n1 d1, .slice x2 P.n2 d2, .slice yN P.nN dN, .slice yW P.nW dW, .slice xM P.nM dM, .slice xS P.nS dS]) (by simp [results, Tryz.results79, go_sem, cR]) rfl ⟨⟨P.sa, P.si, P.ho, P.nx, x1, P.n1, d1, x2, P.n2, d2, yN, P.nN, dN, yW, P.nW, dW, xM, P.nM, dM, xS, P.nS, dS, P.r1, P.r2, VN', V', VM, VS⟩, fun x => if (Value.slice x2 P.n2 d2).ownBlock = some x then 6 else if x < m0 then 5 else if x < q0 then 3 else if x < W.heap.size then 4 else if x < wB.heap.size then 1 else 2, rfl, ⟨rfl, rfl, rfl, rfl, rfl, rfl, rfl, rfl, rfl, rfl, rfl, rfl, ?_, ?_, EM.out, ES.out⟩, ⟨?_, ?_, ?_, ?_, ?_, ?_, ?_, ⟨q0, q1, ?_, ?_⟩, HBY.out, ?_⟩, ?_⟩
            · have h1 := HMAPN.out
              rw [List.take_of_length_le (by have := hl.lN; omega)] at h1
              exact h1
            · have h1 := HMAP.out
              rw [List.take_of_length_le (by have := hl.lW; omega)] at h1
              exact h1
            · exact (o1W.turn tA (fun j hj e => by have := RS1.out j hj; omega)).low (by omega)
            · exact (o2W.turn tA (fun j hj e => by have := RS2.out j hj; omega)).low (by omega)
            · intro j hj
              have h1 := RS1.out j hj
              have h2 : ¬ (Value.slice x2 P.n2 d2).ownBlock = some j := AB.out j hj
              have h3 : j < m0 := by omega
              exact ⟨by dsimp only; rw [if_neg h2, if_pos h3], by omega, by omega⟩
            · intro j hj
              have h1 := RS2.out j hj
              exact ⟨by dsimp only; rw [if_pos hj], by omega, by omega⟩
            · refine (ONN.turn tB (fun x hx e => by have := hx.1; have := hx.2; omega)).mono ?_
              intro x hx
              have h1 := hx.1
              have h2 := hx.2
              have h3 : ¬ (Value.slice x2 P.n2 d2).ownBlock = some x := fun e => by have := RS2.out x e; omega
              exact ⟨by dsimp only; rw [if_neg h3, if_neg (by omega), if_neg (by omega), if_neg (by omega), if_pos h2], by omega, by omega⟩
            · refine (OWW.turn tz (fun x hx e => by have := hx.1; omega)).mono ?_
              intro x hx
              have h1 := hx.1
              have h2 := hx.2
              have h3 : ¬ (Value.slice x2 P.n2 d2).ownBlock = some x := fun e => by have := RS2.out x e; omega
              exact ⟨by dsimp only; rw [if_neg h3, if_neg (by omega), if_neg (by omega), if_neg (by omega), if_neg (by omega)], by omega, by omega⟩
            · refine (oMW.turn tA (fun x hx e => by have := hx.1; have := hx.2; omega)).mono ?_
              intro x hx
              have h1 := hx.1
              have h2 := hx.2
              have h3 : ¬ (Value.slice x2 P.n2 d2).ownBlock = some x := fun e => by have := RS2.out x e; omega
              exact ⟨by dsimp only; rw [if_neg h3, if_neg (by omega), if_pos (by omega)], by omega, by omega⟩
            · exact oSW.turn tA (fun x h1 h2 e => by omega)
            · intro x h1 h2
              have h3 : ¬ (Value.slice x2 P.n2 d2).ownBlock = some x := fun e => by have := RS2.out x e; omega
              exact ⟨by dsimp only; rw [if_neg h3, if_neg (by omega), if_neg (by omega), if_pos (by omega)], by omega, by omega⟩
            · exact mq_by16 EM.out RD.out.mq
            · exact (New.setCell (New.setCell (New.setCell (New.setCell (New.setCell (New.setCell (New.setCell (New.setCell (New.setCell (New.setCell nww ge0 _) ge0 _) ge0 _) ge0 _) ge0 _) ge0 _) ge0 _) ge0 _) ge0 _) ge0 _)

end Go.Proofs.YtdbnmkffinhdjaaGreat
