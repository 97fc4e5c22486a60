/- Lemmas and contracts of one law. -/
import Derived.Test.YtdbnmkffinhdjaaGreatLV25
import Derived.Test.YtdbnmkffinhdjaaGreatLV26
namespace Go.Proofs.YtdbnmkffinhdjaaGreat
open Go.ChangeShapes Go.WideShapes Go.ChangeAt Go.RowKit Go.Deep Go.Sort
set_option linter.unusedVariables false
set_option linter.unusedSimpArgs false
set_option maxRecDepth 100000
set_option maxHeartbeats 25600000

theorem apM_row {w w' : World} {lo : Nat} {V : List MlV} {r : Option Nat} (h : ApM w lo V) (t : Turn (fun k => r = some k) w w') (hr : ∀ g, r = some g → ∀ u ∈ V, ∀ x, u.a = some x → ¬ x.block = g) : ApM w' lo V := by
  refine ⟨fun i v hv => ?_, h.2⟩
  obtain ⟨h1, h2, h3⟩ := h.1 i v hv
  have hs := t.size
  have hm := List.mem_of_getElem? hv
  exact ⟨h1.turn t (fun x hx e => hr _ e v hm x hx rfl), h2, fun x hx => ⟨(h3 x hx).1, Nat.lt_of_lt_of_le (h3 x hx).2 hs⟩⟩
theorem mq16 {w : World} {S0 n d : Nat} {y : Option Addr} {V : List MlV} (on : w.ownsRow S0 120 10 (.slice y n d) n (cellsMq V)) (ap : ApM w S0 V) (ng : ∀ g, (Value.slice y n d).ownBlock = some g → ∀ u ∈ V, ∀ x, u.a = some x → ¬ x.block = g) (hl : V.length = n) : OwQn w (fun x => S0 ≤ x ∧ x < w.heap.size) y n d V := by
  have hm : ∀ u ∈ V, ∃ i : Nat, V[i]? = some u := fun u hu => List.getElem?_of_mem hu
  rcases on.2 with ⟨e, h0⟩ | ⟨g, c, cur, e, hb, hg, h1⟩
  · simp only [Value.slice.injEq] at e
    obtain ⟨rfl, rfl, rfl⟩ := e
    exact .inl ⟨rfl, rfl, rfl, List.eq_nil_of_length_eq_zero hl⟩
  · simp only [Value.slice.injEq] at e
    obtain ⟨rfl, -, rfl⟩ := e
    have hlt : g < w.heap.size := (Array.getElem?_eq_some_iff.1 hg).1
    refine .inr ⟨g, rfl, ⟨⟨on.1, .inr ⟨g, d, cur, rfl, Nat.zero_le _, hg, h1⟩⟩, fun i u hu => (ap.1 i u hu).1, fun u hu => ?_, fun u hu x hx => ?_, ⟨hb, hlt⟩, ap.2⟩⟩
    · obtain ⟨i, hi⟩ := hm u hu
      exact (ap.1 i u hi).2.1
    · obtain ⟨i, hi⟩ := hm u hu
      have := (ap.1 i u hi).2.2 x hx
      exact ⟨⟨this.1, this.2⟩, ng g rfl u hu x hx⟩

theorem sCopyPr (P : PrV) (w : World) (h : PrRd w P) (hl : PrL P) (hS : NlK P.VS) (hN : ∀ v ∈ P.VN, NlK v.V) (hW : ∀ v ∈ P.VW, (v.a = none → v.xs.length = 0 ∧ v.c = 0) ∧ (v.b = none → v.ys.length = 0 ∧ v.d = 0)) (hQ : ∀ v ∈ P.VM, v.a = none → v.m.e.xs.length = 0 ∧ v.c = 0) (z1 : P.a1 = none → P.n1 = 0 ∧ P.c1 = 0) (z2 : P.a2 = none → P.n2 = 0 ∧ P.c2 = 0) :
    Calls Tryz.prog 62 #[.agg #[.int .i64 P.sa, .int .i64 P.si, .int .i64 P.ho, .int .i64 P.nx, .slice P.a1 P.n1 P.c1, .slice P.a2 P.n2 P.c2, .slice P.aN P.nN P.cN, .slice P.aW P.nW P.cW, .slice P.aM P.nM P.cM, .slice P.aS P.nS P.cS]] w fun e w' => ∃ Q col, e = .returned (.agg #[.int .i64 Q.sa, .int .i64 Q.si, .int .i64 Q.ho, .int .i64 Q.nx, .slice Q.a1 Q.n1 Q.c1, .slice Q.a2 Q.n2 Q.c2, .slice Q.aN Q.nN Q.cN, .slice Q.aW Q.nW Q.cW, .slice Q.aM Q.nM Q.cM, .slice Q.aS Q.nS Q.cS]) ∧ PrE Q P ∧ PrOw w' w.heap.size w'.heap.size col Q ∧ New w w' := by
  have hw1 : New w ((w.alloc (.cells #[.int .i64 P.sa, .int .i64 P.si, .int .i64 P.ho, .int .i64 P.nx, .slice P.a1 P.n1 P.c1, .slice P.a2 P.n2 P.c2, .slice P.aN P.nN P.cN, .slice P.aW P.nW P.cW, .slice P.aM P.nM P.cM, .slice P.aS P.nS P.cS] 47)).alloc (.cells #[.int .i64 0, .int .i64 0, .int .i64 0, .int .i64 0, .slice none 0 0, .slice none 0 0, .slice none 0 0, .slice none 0 0, .slice none 0 0, .slice none 0 0] 47)) := ((New.refl w).alloc _).alloc _
  have bp : Blk ((w.alloc (.cells #[.int .i64 P.sa, .int .i64 P.si, .int .i64 P.ho, .int .i64 P.nx, .slice P.a1 P.n1 P.c1, .slice P.a2 P.n2 P.c2, .slice P.aN P.nN P.cN, .slice P.aW P.nW P.cW, .slice P.aM P.nM P.cM, .slice P.aS P.nS P.cS] 47)).alloc (.cells #[.int .i64 0, .int .i64 0, .int .i64 0, .int .i64 0, .slice none 0 0, .slice none 0 0, .slice none 0 0, .slice none 0 0, .slice none 0 0, .slice none 0 0] 47)) w.heap.size 47 #[.int .i64 P.sa, .int .i64 P.si, .int .i64 P.ho, .int .i64 P.nx, .slice P.a1 P.n1 P.c1, .slice P.a2 P.n2 P.c2, .slice P.aN P.nN P.cN, .slice P.aW P.nW P.cW, .slice P.aM P.nM P.cM, .slice P.aS P.nS P.cS] := (Blk.mk _ _ _ _ rfl).alloc _
  have b2 : Blk ((w.alloc (.cells #[.int .i64 P.sa, .int .i64 P.si, .int .i64 P.ho, .int .i64 P.nx, .slice P.a1 P.n1 P.c1, .slice P.a2 P.n2 P.c2, .slice P.aN P.nN P.cN, .slice P.aW P.nW P.cW, .slice P.aM P.nM P.cM, .slice P.aS P.nS P.cS] 47)).alloc (.cells #[.int .i64 0, .int .i64 0, .int .i64 0, .int .i64 0, .slice none 0 0, .slice none 0 0, .slice none 0 0, .slice none 0 0, .slice none 0 0, .slice none 0 0] 47)) (w.heap.size + 1) 47 #[.int .i64 0, .int .i64 0, .int .i64 0, .int .i64 0, .slice none 0 0, .slice none 0 0, .slice none 0 0, .slice none 0 0, .slice none 0 0, .slice none 0 0] := Blk.mk _ _ _ _ (by simp)
  have RD : Hid (PrRd w P) := h
  have NS : Hid (NlK P.VS) := hS
  have NN : Hid (∀ v ∈ P.VN, NlK v.V) := hN
  have NW : Hid (∀ v ∈ P.VW, (v.a = none → v.xs.length = 0 ∧ v.c = 0) ∧ (v.b = none → v.ys.length = 0 ∧ v.d = 0)) := hW
  have NQ : Hid (∀ v ∈ P.VM, v.a = none → v.m.e.xs.length = 0 ∧ v.c = 0) := hQ
  have Z1 : Hid (P.a1 = none → P.n1 = 0 ∧ P.c1 = 0) := z1
  have Z2 : Hid (P.a2 = none → P.n2 = 0 ∧ P.c2 = 0) := z2
  have sz1 : Hid (((w.alloc (.cells #[.int .i64 P.sa, .int .i64 P.si, .int .i64 P.ho, .int .i64 P.nx, .slice P.a1 P.n1 P.c1, .slice P.a2 P.n2 P.c2, .slice P.aN P.nN P.cN, .slice P.aW P.nW P.cW, .slice P.aM P.nM P.cM, .slice P.aS P.nS P.cS] 47)).alloc (.cells #[.int .i64 0, .int .i64 0, .int .i64 0, .int .i64 0, .slice none 0 0, .slice none 0 0, .slice none 0 0, .slice none 0 0, .slice none 0 0, .slice none 0 0] 47)).heap.size = w.heap.size + 1 + 1) := by unfold Hid; simp
  clear h hS hN hW hQ z1 z2
  go_enter Tryz.func62, Tryz.ntmps62
  go_upto_region 1 with fail
  generalize ((w.alloc (.cells #[.int .i64 P.sa, .int .i64 P.si, .int .i64 P.ho, .int .i64 P.nx, .slice P.a1 P.n1 P.c1, .slice P.a2 P.n2 P.c2, .slice P.aN P.nN P.cN, .slice P.aW P.nW P.cW, .slice P.aM P.nM P.cM, .slice P.aS P.nS P.cS] 47)).alloc (.cells #[.int .i64 0, .int .i64 0, .int .i64 0, .int .i64 0, .slice none 0 0, .slice none 0 0, .slice none 0 0, .slice none 0 0, .slice none 0 0, .slice none 0 0] 47)) = w1 at *
  have HC : Hid (∀ X, New w1 X → ∀ j, j < 10 → X.cell? ⟨w.heap.size, j, none⟩ = (#[.int .i64 P.sa, .int .i64 P.si, .int .i64 P.ho, .int .i64 P.nx, .slice P.a1 P.n1 P.c1, .slice P.a2 P.n2 P.c2, .slice P.aN P.nN P.cN, .slice P.aW P.nW P.cW, .slice P.aM P.nM P.cM, .slice P.aS P.nS P.cS] : Array Value)[j]?) := fun X hX j _ => (bp.new hX).cells j
  refine Code.wp_mono (Q := fun e a' W => match e with | .normal => ∃ (B3 : Nat) (x1 : Option Addr) (d1 : Nat) (x2 : Option Addr) (d2 : Nat) (xS : Option Addr) (dS : Nat) (VS : List EkV) (s0 s1 q0 q1 : Nat), a' = { tmps := List.toArray ((.agg #[.int .i64 P.sa, .int .i64 P.si, .int .i64 P.ho, .int .i64 P.nx, .slice P.a1 P.n1 P.c1, .slice P.a2 P.n2 P.c2, .slice P.aN P.nN P.cN, .slice P.aW P.nW P.cW, .slice P.aM P.nM P.cM, .slice P.aS P.nS P.cS] : Value) :: (.pointer (some ⟨w.heap.size, 0, none⟩) : Value) :: (.pointer (some ⟨w.heap.size + 1, 0, none⟩) : Value) :: (.pointer (some ⟨B3, 0, none⟩) : Value) :: undef :: undef :: undef :: (.pointer (some ⟨w.heap.size, 0, none⟩) : Value) :: (.agg #[.int .i64 P.sa, .int .i64 P.si, .int .i64 P.ho, .int .i64 P.nx, .slice P.a1 P.n1 P.c1, .slice P.a2 P.n2 P.c2] : Value) :: (.agg #[.int .i64 P.sa, .int .i64 P.si, .int .i64 P.ho, .int .i64 P.nx, .slice x1 P.n1 d1, .slice x2 P.n2 d2] : Value) :: (.pointer (some ⟨w.heap.size, 9, none⟩) : Value) :: (.slice P.aS P.nS P.cS : Value) :: (.slice xS P.nS dS : Value) :: (.agg #[.int .i64 P.sa, .int .i64 P.si, .int .i64 P.ho, .int .i64 P.nx, .slice x1 P.n1 d1, .slice x2 P.n2 d2, .slice none 0 0, .slice none 0 0, .slice none 0 0, .slice xS P.nS dS] : Value) :: undef :: undef :: undef :: undef :: undef :: undef :: undef :: undef :: undef :: undef :: undef :: undef :: undef :: undef :: undef :: undef :: undef :: undef :: undef :: undef :: undef :: undef :: undef :: undef :: undef :: undef :: undef :: undef :: undef :: undef :: undef :: undef :: undef :: undef :: undef :: undef :: undef :: undef :: undef :: undef :: undef :: undef :: undef :: undef :: undef :: undef :: undef :: undef :: undef :: undef :: undef :: undef :: undef :: undef :: undef :: []), defers := [] } ∧ New w1 W ∧ Blk W B3 47 #[.int .i64 P.sa, .int .i64 P.si, .int .i64 P.ho, .int .i64 P.nx, .slice x1 P.n1 d1, .slice x2 P.n2 d2, .slice none 0 0, .slice none 0 0, .slice none 0 0, .slice xS P.nS dS] ∧ w1.heap.size ≤ B3 ∧ w1.heap.size ≤ s0 ∧ s0 ≤ s1 ∧ s1 ≤ q0 ∧ q0 ≤ q1 ∧ q1 ≤ W.heap.size ∧ ¬ (s0 ≤ B3 ∧ B3 < s1) ∧ ¬ (q0 ≤ B3 ∧ B3 < q1) ∧ (∀ k, (Value.slice x1 P.n1 d1).ownBlock = some k → (Value.slice x2 P.n2 d2).ownBlock ≠ some k) ∧ (∀ j, (Value.slice x1 P.n1 d1).ownBlock = some j → s0 ≤ j ∧ j < s1) ∧ (∀ j, (Value.slice x2 P.n2 d2).ownBlock = some j → s0 ≤ j ∧ j < s1) ∧ OvR W s0 (.slice x1 P.n1 d1) P.r1 ∧ OvR W s0 (.slice x2 P.n2 d2) P.r2 ∧ VS.map EkV.r = P.VS.map EkV.r ∧ OwL W q0 q1 (.slice xS P.nS dS) VS | _ => False) ?hq1 ?h1
  case h1 =>
    refine hw_start (n := 9) (S := fun X => New w1 X) rfl (by kernel_rfl) ((New.refl _).drew) (fun hH => ?_)
    have nv0 := (New.refl w1).drew
    generalize w1.drew = v0 at *
    have zsz0 := nv0.size
    refine' hw_t 0 (some 7) _ rfl rfl nv0 ?hy1 ?rest1
    case hy1 =>
      intro X hX
      go_simp
      try rfl
    simp only [Act.put, pA9, pB9, pC9]
    refine' hw_t 1 (some 8) _ rfl rfl nv0 ?hy2 ?rest2
    case hy2 =>
      intro X hX
      have g0 : X.cell? ⟨w.heap.size, 0, none⟩ = some (.int .i64 P.sa) := HC.out X hX 0 (by omega)
      have g1 : X.cell? ⟨w.heap.size, 1, none⟩ = some (.int .i64 P.si) := HC.out X hX 1 (by omega)
      have g2 : X.cell? ⟨w.heap.size, 2, none⟩ = some (.int .i64 P.ho) := HC.out X hX 2 (by omega)
      have g3 : X.cell? ⟨w.heap.size, 3, none⟩ = some (.int .i64 P.nx) := HC.out X hX 3 (by omega)
      have g4 : X.cell? ⟨w.heap.size, 4, none⟩ = some (.slice P.a1 P.n1 P.c1) := HC.out X hX 4 (by omega)
      have g5 : X.cell? ⟨w.heap.size, 5, none⟩ = some (.slice P.a2 P.n2 P.c2) := HC.out X hX 5 (by omega)
      go_simp
      try rfl
    simp only [Act.put, pA9, pB9, pC9]
    refine' hw_t 3 (some 10) _ rfl rfl nv0 ?hy3 ?rest3
    case hy3 =>
      intro X hX
      go_simp
      try rfl
    simp only [Act.put, pA9, pB9, pC9]
    refine' hw_t 4 (some 11) _ rfl rfl nv0 ?hy4 ?rest4
    case hy4 =>
      intro X hX
      have g9 : X.cell? ⟨w.heap.size, 9, none⟩ = some (.slice P.aS P.nS P.cS) := HC.out X hX 9 (by omega)
      go_simp
      try rfl
    simp only [Act.put, pA9, pB9, pC9]
    refine wpAnyH_ready (rs := [2, 7]) (by kernel_rfl) (by simp) (hw_step 2 (some 9) rfl rfl (by rfl) (fun K hK => ?v1) (hw_step 7 (some 3) rfl rfl (by rfl) (fun K hK => ?v2) (by intro j hj; cases hj)))
    case v1 =>
      go_simp
      refine (specSe16 P.sa P.si P.ho P.nx P.a1 P.a2 P.n1 P.c1 P.n2 P.c2 P.r1 P.r2 _ (RD.out.new (hw1.trans nv0)).s1 (RD.out.new (hw1.trans nv0)).s2 hl.l1 hl.l2 hl.m1 hl.m2 Z1.out Z2.out).mono ?_
      rintro e v3 ⟨x1, d1, x2, d2, rfl, oA, oB, aAB, nnv3⟩
      have o1v3 : OvR v3 v0.heap.size (.slice x1 P.n1 d1) P.r1 := oA.low (by omega)
      have o2v3 : OvR v3 v0.heap.size (.slice x2 P.n2 d2) P.r2 := oB.low (by omega)
      have AB : Hid (∀ k, (Value.slice x1 P.n1 d1).ownBlock = some k → (Value.slice x2 P.n2 d2).ownBlock ≠ some k) := aAB
      have RS1 : Hid (∀ j, (Value.slice x1 P.n1 d1).ownBlock = some j → v0.heap.size ≤ j ∧ j < v3.heap.size) := o1v3.blk
      have RS2 : Hid (∀ j, (Value.slice x2 P.n2 d2).ownBlock = some j → v0.heap.size ≤ j ∧ j < v3.heap.size) := o2v3.blk
      clear oA oB aAB
      have nv3 := nv0.trans nnv3
      have zv3 := nnv3.size
      refine hK.out _ _ nv3 (fun _ => ?_)
      simp only [Act.put, pA9, pB9, pC9]
      clear nnv3
      refine wpAnyH_ready (rs := [5, 7]) (by kernel_rfl) (by simp) (hw_step 5 (some 12) rfl rfl (by rfl) (fun K hK => ?v4) (hw_step 7 (some 3) rfl rfl (by rfl) (fun K hK => ?v5) (by intro j hj; cases hj)))
      case v4 =>
        go_simp
        refine (sEnt16 P.aS P.nS P.cS P.VS _ (RD.out.new (hw1.trans nv3)).se NS.out hl.lS (by have := hl.mS; omega)).mono ?_
        rintro e v6 ⟨xS, dS, VS, rfl, eS, oSv6, nnv6⟩
        have ES : Hid (VS.map EkV.r = P.VS.map EkV.r) := eS
        clear eS
        have nv6 := nv3.trans nnv6
        have zv6 := nnv6.size
        have o1v6 := o1v3.turn nnv6 (fun _ _ f => f)
        have o2v6 := o2v3.turn nnv6 (fun _ _ f => f)
        refine hK.out _ _ nv6 (fun _ => ?_)
        simp only [Act.put, pA9, pB9, pC9]
        clear nnv6
        refine' hw_t 6 (some 13) _ rfl rfl nv6 ?hy5 ?rest5
        case hy5 =>
          intro X hX
          go_simp
          try rfl
        simp only [Act.put, pA9, pB9, pC9]
        refine hw_call 7 (some 3) rfl rfl (by kernel_rfl) (by rfl) (fun K hK => ?_)
        go_simp
        have nnv7 := (New.refl v6).alloc (.cells #[.int .i64 0, .int .i64 0, .int .i64 0, .int .i64 0, .slice none 0 0, .slice none 0 0, .slice none 0 0, .slice none 0 0, .slice none 0 0, .slice none 0 0] 47)
        have fv7 := Blk.mk v6 v6.heap.size 47 #[.int .i64 0, .int .i64 0, .int .i64 0, .int .i64 0, .slice none 0 0, .slice none 0 0, .slice none 0 0, .slice none 0 0, .slice none 0 0, .slice none 0 0] rfl
        have nv7 := nv6.trans nnv7
        have zv7 := nnv7.size
        have o1v7 := o1v6.turn nnv7 (fun _ _ f => f)
        have o2v7 := o2v6.turn nnv7 (fun _ _ f => f)
        have oSv7 := oSv6.turn nnv7 (fun _ _ _ f => f)
        refine hK.out _ _ nv7 (fun _ => ?_)
        simp only [Act.put, pA9, pB9, pC9]
        generalize v6.alloc (.cells #[.int .i64 0, .int .i64 0, .int .i64 0, .int .i64 0, .slice none 0 0, .slice none 0 0, .slice none 0 0, .slice none 0 0, .slice none 0 0, .slice none 0 0] 47) = v7 at *
        have zzv7 : v6.heap.size < v7.heap.size := fv7.lt
        clear nnv7
        refine hw_call 8 none rfl rfl (by kernel_rfl) (by rfl) (fun K hK => ?_)
        refine hw_store 47 (.tmp 3) (.tmp 13) rfl rfl v6.heap.size #[.int .i64 P.sa, .int .i64 P.si, .int .i64 P.ho, .int .i64 P.nx, .slice x1 P.n1 d1, .slice x2 P.n2 d2, .slice none 0 0, .slice none 0 0, .slice none 0 0, .slice xS P.nS dS] #[.int .i64 0, .int .i64 0, .int .i64 0, .int .i64 0, .slice none 0 0, .slice none 0 0, .slice none 0 0, .slice none 0 0, .slice none 0 0, .slice none 0 0] rfl rfl fv7 (by kernel_rfl) rfl (by kernel_rfl) ?_
        have tR := Turn.rowW (Turn.refl (fun i => i = v6.heap.size) v7) rfl #[.int .i64 P.sa, .int .i64 P.si, .int .i64 P.ho, .int .i64 P.nx, .slice x1 P.n1 d1, .slice x2 P.n2 d2, .slice none 0 0, .slice none 0 0, .slice none 0 0, .slice xS P.nS dS]
        have fv8 := fv7.rowW #[.int .i64 P.sa, .int .i64 P.si, .int .i64 P.ho, .int .i64 P.nx, .slice x1 P.n1 d1, .slice x2 P.n2 d2, .slice none 0 0, .slice none 0 0, .slice none 0 0, .slice xS P.nS dS]
        have zB := nv6.size
        have nv8 := nv7.before tR (by intro i hi e; omega)
        have zzv8 := tR.size
        refine hK.out undef _ nv8 (fun _ => ?_)
        try simp only [Act.put, pA9, pB9, pC9]
        refine wpAnyH_done (by kernel_rfl) ?_ _
        exact ⟨v6.heap.size, x1, d1, x2, d2, xS, dS, VS, v0.heap.size, v3.heap.size, v3.heap.size, v6.heap.size, rfl, nv8, fv8, by omega, by omega, by omega, by omega, by omega, by omega, by omega, by omega, AB.out, RS1.out, RS2.out, o1v7.turn tR (fun j hj e => by have := RS1.out j hj; omega), o2v7.turn tR (fun j hj e => by have := RS2.out j hj; omega), ES.out, oSv7.turn tR (fun x h1 h2 e => by omega)⟩
      case v5 =>
        go_simp
        have nnv9 := (New.refl v3).alloc (.cells #[.int .i64 0, .int .i64 0, .int .i64 0, .int .i64 0, .slice none 0 0, .slice none 0 0, .slice none 0 0, .slice none 0 0, .slice none 0 0, .slice none 0 0] 47)
        have fv9 := Blk.mk v3 v3.heap.size 47 #[.int .i64 0, .int .i64 0, .int .i64 0, .int .i64 0, .slice none 0 0, .slice none 0 0, .slice none 0 0, .slice none 0 0, .slice none 0 0, .slice none 0 0] rfl
        have nv9 := nv3.trans nnv9
        have zv9 := nnv9.size
        have o1v9 := o1v3.turn nnv9 (fun _ _ f => f)
        have o2v9 := o2v3.turn nnv9 (fun _ _ f => f)
        refine hK.out _ _ nv9 (fun _ => ?_)
        simp only [Act.put, pA9, pB9, pC9]
        generalize v3.alloc (.cells #[.int .i64 0, .int .i64 0, .int .i64 0, .int .i64 0, .slice none 0 0, .slice none 0 0, .slice none 0 0, .slice none 0 0, .slice none 0 0, .slice none 0 0] 47) = v9 at *
        have zzv9 : v3.heap.size < v9.heap.size := fv9.lt
        clear nnv9
        refine hw_call 5 (some 12) rfl rfl (by kernel_rfl) (by rfl) (fun K hK => ?_)
        go_simp
        refine (sEnt16 P.aS P.nS P.cS P.VS _ (RD.out.new (hw1.trans nv9)).se NS.out hl.lS (by have := hl.mS; omega)).mono ?_
        rintro e v10 ⟨xS, dS, VS, rfl, eS, oSv10, nnv10⟩
        have ES : Hid (VS.map EkV.r = P.VS.map EkV.r) := eS
        clear eS
        have nv10 := nv9.trans nnv10
        have zv10 := nnv10.size
        have o1v10 := o1v9.turn nnv10 (fun _ _ f => f)
        have o2v10 := o2v9.turn nnv10 (fun _ _ f => f)
        have fv10 := fv9.new nnv10
        refine hK.out _ _ nv10 (fun _ => ?_)
        simp only [Act.put, pA9, pB9, pC9]
        clear nnv10
        refine' hw_t 6 (some 13) _ rfl rfl nv10 ?hy6 ?rest6
        case hy6 =>
          intro X hX
          go_simp
          try rfl
        simp only [Act.put, pA9, pB9, pC9]
        refine hw_call 8 none rfl rfl (by kernel_rfl) (by rfl) (fun K hK => ?_)
        refine hw_store 47 (.tmp 3) (.tmp 13) rfl rfl v3.heap.size #[.int .i64 P.sa, .int .i64 P.si, .int .i64 P.ho, .int .i64 P.nx, .slice x1 P.n1 d1, .slice x2 P.n2 d2, .slice none 0 0, .slice none 0 0, .slice none 0 0, .slice xS P.nS dS] #[.int .i64 0, .int .i64 0, .int .i64 0, .int .i64 0, .slice none 0 0, .slice none 0 0, .slice none 0 0, .slice none 0 0, .slice none 0 0, .slice none 0 0] rfl rfl fv10 (by kernel_rfl) rfl (by kernel_rfl) ?_
        have tR := Turn.rowW (Turn.refl (fun i => i = v3.heap.size) v10) rfl #[.int .i64 P.sa, .int .i64 P.si, .int .i64 P.ho, .int .i64 P.nx, .slice x1 P.n1 d1, .slice x2 P.n2 d2, .slice none 0 0, .slice none 0 0, .slice none 0 0, .slice xS P.nS dS]
        have fv11 := fv10.rowW #[.int .i64 P.sa, .int .i64 P.si, .int .i64 P.ho, .int .i64 P.nx, .slice x1 P.n1 d1, .slice x2 P.n2 d2, .slice none 0 0, .slice none 0 0, .slice none 0 0, .slice xS P.nS dS]
        have zB := nv3.size
        have nv11 := nv10.before tR (by intro i hi e; omega)
        have zzv11 := tR.size
        refine hK.out undef _ nv11 (fun _ => ?_)
        try simp only [Act.put, pA9, pB9, pC9]
        refine wpAnyH_done (by kernel_rfl) ?_ _
        exact ⟨v3.heap.size, x1, d1, x2, d2, xS, dS, VS, v0.heap.size, v3.heap.size, v9.heap.size, v10.heap.size, rfl, nv11, fv11, by omega, by omega, by omega, by omega, by omega, by omega, by omega, by omega, AB.out, RS1.out, RS2.out, o1v10.turn tR (fun j hj e => by have := RS1.out j hj; omega), o2v10.turn tR (fun j hj e => by have := RS2.out j hj; omega), ES.out, oSv10.turn tR (fun x h1 h2 e => by omega)⟩
    case v2 =>
      go_simp
      have nnv12 := (New.refl v0).alloc (.cells #[.int .i64 0, .int .i64 0, .int .i64 0, .int .i64 0, .slice none 0 0, .slice none 0 0, .slice none 0 0, .slice none 0 0, .slice none 0 0, .slice none 0 0] 47)
      have fv12 := Blk.mk v0 v0.heap.size 47 #[.int .i64 0, .int .i64 0, .int .i64 0, .int .i64 0, .slice none 0 0, .slice none 0 0, .slice none 0 0, .slice none 0 0, .slice none 0 0, .slice none 0 0] rfl
      have nv12 := nv0.trans nnv12
      have zv12 := nnv12.size
      refine hK.out _ _ nv12 (fun _ => ?_)
      simp only [Act.put, pA9, pB9, pC9]
      generalize v0.alloc (.cells #[.int .i64 0, .int .i64 0, .int .i64 0, .int .i64 0, .slice none 0 0, .slice none 0 0, .slice none 0 0, .slice none 0 0, .slice none 0 0, .slice none 0 0] 47) = v12 at *
      have zzv12 : v0.heap.size < v12.heap.size := fv12.lt
      clear nnv12
      refine hw_call 2 (some 9) rfl rfl (by kernel_rfl) (by rfl) (fun K hK => ?_)
      go_simp
      refine (specSe16 P.sa P.si P.ho P.nx P.a1 P.a2 P.n1 P.c1 P.n2 P.c2 P.r1 P.r2 _ (RD.out.new (hw1.trans nv12)).s1 (RD.out.new (hw1.trans nv12)).s2 hl.l1 hl.l2 hl.m1 hl.m2 Z1.out Z2.out).mono ?_
      rintro e v13 ⟨x1, d1, x2, d2, rfl, oA, oB, aAB, nnv13⟩
      have o1v13 : OvR v13 v12.heap.size (.slice x1 P.n1 d1) P.r1 := oA.low (by omega)
      have o2v13 : OvR v13 v12.heap.size (.slice x2 P.n2 d2) P.r2 := oB.low (by omega)
      have AB : Hid (∀ k, (Value.slice x1 P.n1 d1).ownBlock = some k → (Value.slice x2 P.n2 d2).ownBlock ≠ some k) := aAB
      have RS1 : Hid (∀ j, (Value.slice x1 P.n1 d1).ownBlock = some j → v12.heap.size ≤ j ∧ j < v13.heap.size) := o1v13.blk
      have RS2 : Hid (∀ j, (Value.slice x2 P.n2 d2).ownBlock = some j → v12.heap.size ≤ j ∧ j < v13.heap.size) := o2v13.blk
      clear oA oB aAB
      have nv13 := nv12.trans nnv13
      have zv13 := nnv13.size
      have fv13 := fv12.new nnv13
      refine hK.out _ _ nv13 (fun _ => ?_)
      simp only [Act.put, pA9, pB9, pC9]
      clear nnv13
      refine hw_call 5 (some 12) rfl rfl (by kernel_rfl) (by rfl) (fun K hK => ?_)
      go_simp
      refine (sEnt16 P.aS P.nS P.cS P.VS _ (RD.out.new (hw1.trans nv13)).se NS.out hl.lS (by have := hl.mS; omega)).mono ?_
      rintro e v14 ⟨xS, dS, VS, rfl, eS, oSv14, nnv14⟩
      have ES : Hid (VS.map EkV.r = P.VS.map EkV.r) := eS
      clear eS
      have nv14 := nv13.trans nnv14
      have zv14 := nnv14.size
      have o1v14 := o1v13.turn nnv14 (fun _ _ f => f)
      have o2v14 := o2v13.turn nnv14 (fun _ _ f => f)
      have fv14 := fv13.new nnv14
      refine hK.out _ _ nv14 (fun _ => ?_)
      simp only [Act.put, pA9, pB9, pC9]
      clear nnv14
      refine' hw_t 6 (some 13) _ rfl rfl nv14 ?hy7 ?rest7
      case hy7 =>
        intro X hX
        go_simp
        try rfl
      simp only [Act.put, pA9, pB9, pC9]
      refine hw_call 8 none rfl rfl (by kernel_rfl) (by rfl) (fun K hK => ?_)
      refine hw_store 47 (.tmp 3) (.tmp 13) rfl rfl v0.heap.size #[.int .i64 P.sa, .int .i64 P.si, .int .i64 P.ho, .int .i64 P.nx, .slice x1 P.n1 d1, .slice x2 P.n2 d2, .slice none 0 0, .slice none 0 0, .slice none 0 0, .slice xS P.nS dS] #[.int .i64 0, .int .i64 0, .int .i64 0, .int .i64 0, .slice none 0 0, .slice none 0 0, .slice none 0 0, .slice none 0 0, .slice none 0 0, .slice none 0 0] rfl rfl fv14 (by kernel_rfl) rfl (by kernel_rfl) ?_
      have tR := Turn.rowW (Turn.refl (fun i => i = v0.heap.size) v14) rfl #[.int .i64 P.sa, .int .i64 P.si, .int .i64 P.ho, .int .i64 P.nx, .slice x1 P.n1 d1, .slice x2 P.n2 d2, .slice none 0 0, .slice none 0 0, .slice none 0 0, .slice xS P.nS dS]
      have fv15 := fv14.rowW #[.int .i64 P.sa, .int .i64 P.si, .int .i64 P.ho, .int .i64 P.nx, .slice x1 P.n1 d1, .slice x2 P.n2 d2, .slice none 0 0, .slice none 0 0, .slice none 0 0, .slice xS P.nS dS]
      have zB := nv0.size
      have nv15 := nv14.before tR (by intro i hi e; omega)
      have zzv15 := tR.size
      refine hK.out undef _ nv15 (fun _ => ?_)
      try simp only [Act.put, pA9, pB9, pC9]
      refine wpAnyH_done (by kernel_rfl) ?_ _
      exact ⟨v0.heap.size, x1, d1, x2, d2, xS, dS, VS, v12.heap.size, v13.heap.size, v13.heap.size, v14.heap.size, rfl, nv15, fv15, by omega, by omega, by omega, by omega, by omega, by omega, by omega, by omega, AB.out, RS1.out, RS2.out, o1v14.turn tR (fun j hj e => by have := RS1.out j hj; omega), o2v14.turn tR (fun j hj e => by have := RS2.out j hj; omega), ES.out, oSv14.turn tR (fun x h1 h2 e => by omega)⟩
  case hq1 =>
    rintro e a' W hq
    cases e <;> simp only at hq
    obtain ⟨B3, x1, d1, x2, d2, xS, dS, VS, s0, s1, q0, q1, rfl, nW, f3, i1, i2, i2', i3, i4, i5, i6, i7, AB', RS1', RS2', o1W, o2W, eS', oSW⟩ := hq
    have AB : Hid _ := AB'
    have RS1 : Hid (∀ j, (Value.slice x1 P.n1 d1).ownBlock = some j → s0 ≤ j ∧ j < s1) := RS1'
    have RS2 : Hid (∀ j, (Value.slice x2 P.n2 d2).ownBlock = some j → s0 ≤ j ∧ j < s1) := RS2'
    have ES : Hid (VS.map EkV.r = P.VS.map EkV.r) := eS'
    have b3lt : B3 < W.heap.size := f3.lt
    clear AB' RS1' RS2' eS' bp
    obtain ⟨iN, hiN, hzN0, hzN1, hzN2⟩ := info_parts Tryz.infoNd
    go_wp2_with fail
    go_loopw [4] (fun i wr => ∃ (k : Nat) (v0 : Value) (PN QN : Nat → Nat) (V' : List NdV), k ≤ P.nN ∧ i = .int .i64 k ∧ V'.length = k ∧ V'.map NdV.r = (P.VN.take k).map NdV.r ∧ New w1 wr ∧ Blk wr B3 47 #[.int .i64 P.sa, .int .i64 P.si, .int .i64 P.ho, .int .i64 P.nx, .slice x1 P.n1 d1, .slice x2 P.n2 d2, v0, .slice none 0 0, .slice none 0 0, .slice xS P.nS dS] ∧ wr.ownsRow W.heap.size 74 9 v0 k (cellsNd V') ∧ ApN wr W.heap.size PN QN V' ∧ (∀ g, v0.ownBlock = some g → ∀ i, i < k → ¬ (PN i ≤ g ∧ g < QN i)) ∧ True ∧ Turn (fun x => x = B3) W wr) (fun i _ => P.nN - (intOf i).toNat)
    case atStart => exact ⟨0, .slice none 0 0, fun _ => 0, fun _ => 0, [], Nat.zero_le _, rfl, rfl, rfl, nW, f3, ⟨rfl, .inl ⟨rfl, rfl⟩⟩, ⟨fun i v hv => by simp at hv, fun i j hi => by simp at hi⟩, fun g hg => by simp [Value.ownBlock] at hg, by simp, Turn.refl _ _⟩
    case round =>
      obtain ⟨k, v0, PN, QN, V', hk, rfl, hlV, hmap, nwr, fr, onr, apr, ngr, byr, tWr⟩ := hrel
      have HLV : Hid (V'.length = k) := hlV
      have HMAP : Hid (V'.map NdV.r = (P.VN.take k).map NdV.r) := hmap
      have HNG : Hid (∀ g, v0.ownBlock = some g → ∀ i, i < k → ¬ (PN i ≤ g ∧ g < QN i)) := ngr
      have HBY : Hid True := byr
      clear hlV hmap ngr byr
      have cX : wr.cell? ⟨w.heap.size, 6, none⟩ = some (.slice P.aN P.nN P.cN) := HC.out wr nwr 6 (by omega)
      by_cases hlt : k < P.nN
      · obtain ⟨v, hv⟩ : ∃ v, P.VN[k]? = some v := ⟨_, List.getElem?_eq_getElem (by have := hl.lN; omega)⟩
        obtain ⟨⟨gX, hgX, hcX⟩, hrest⟩ := RD.out.nd k v hv
        have HAD : Hid (P.aN = some ⟨gX, 0, none⟩) := hgX
        have HCX : Hid (∀ X, New w1 X → ∀ j, j < 9 → X.cell? ⟨gX, k * 9 + j, none⟩ = v.cs[j]?) := fun X hX j hj => (World.cell?_of_block (a := ⟨gX, k * 9 + j, none⟩) ((hw1.trans hX).block gX (World.block_lt_of_cell? w _ (hcX 0 (by omega))) (fun f => f))).trans (hcX j hj)
        have hMp : Hid (∀ u : NdV, u.r = v.r → (V' ++ [u]).map NdV.r = (P.VN.take (k + 1)).map NdV.r) := by
          intro u hu
          obtain ⟨hk', e⟩ := List.getElem?_eq_some_iff.1 hv
          rw [List.take_succ_eq_append_getElem hk', e, List.map_append, List.map_append, HMAP.out]
          simp [hu]
        have hkm : k + 1 ≤ 4194304 := by have := hl.mN; omega
        have HRE : Hid _ := hrest
        have HVM : Hid (v ∈ P.VN) := List.mem_of_getElem? hv
        have SZ0 : Hid (W.heap.size ≤ wr.heap.size) := tWr.size
        clear hgX hcX hv hrest
        have cF := fr.cells
        go_upto_region 5 with fail
        clear cX cF
        refine hw_start (n := 12) (S := fun X => New w1 X) rfl (by kernel_rfl) (nwr.drew) (fun hH => ?_)
        have na := nwr.drew
        have nnd := (New.refl wr).drew
        have fa := fr.new nnd
        have ona := row9_new onr nnd
        have apa := apr.new nnd
        have tWa : Turn (fun x => x = B3) W wr.drew := tWr.drewW
        have szd : wr.drew.heap.size = wr.heap.size := rfl
        have SZa := SZ0.out
        generalize wr.drew = a at *
        rw [← szd] at SZa
        clear nnd fr onr apr nwr tWr
        refine' hw_t 0 (some 21) _ rfl rfl na ?hy8 ?rest8
        case hy8 =>
          intro X hX
          go_simp
          try rfl
        simp only [Act.put, pA9, pB9, pC9]
        refine' hw_t 2 (some 23) _ rfl rfl na ?hy9 ?rest9
        case hy9 =>
          intro X hX
          go_simp
          try rfl
        simp only [Act.put, pA9, pB9, pC9]
        refine' hw_t 3 (some 24) _ rfl rfl na ?hy10 ?rest10
        case hy10 =>
          intro X hX
          have g6 : X.cell? ⟨w.heap.size, 6, none⟩ = some (.slice P.aN P.nN P.cN) := HC.out X hX 6 (by omega)
          rw [HAD.out] at g6
          go_simp
          try rfl
        simp only [Act.put, pA9, pB9, pC9]
        refine' hw_t 4 (some 25) _ rfl rfl na ?hy11 ?rest11
        case hy11 =>
          intro X hX
          go_simp
          try rfl
        simp only [Act.put, pA9, pB9, pC9]
        refine' hw_t 5 (some 26) _ rfl rfl na ?hy12 ?rest12
        case hy12 =>
          intro X hX
          go_simp
          try rfl
        simp only [Act.put, pA9, pB9, pC9]
        refine' hw_t 6 (some 27) _ rfl rfl na ?hy13 ?rest13
        case hy13 =>
          intro X hX
          have y0 : X.cell? ⟨gX, k * 9, none⟩ = some (.int .i64 v.id) := HCX.out X hX 0 (by omega)
          have y1 : X.cell? ⟨gX, k * 9 + 1, none⟩ = some (.bool v.up) := HCX.out X hX 1 (by omega)
          have y2 : X.cell? ⟨gX, k * 9 + 2, none⟩ = some (.int .i64 v.ro) := HCX.out X hX 2 (by omega)
          have y3 : X.cell? ⟨gX, k * 9 + 3, none⟩ = some (.int .i64 v.ep) := HCX.out X hX 3 (by omega)
          have y4 : X.cell? ⟨gX, k * 9 + 4, none⟩ = some (.slice v.A v.V.length v.c) := HCX.out X hX 4 (by omega)
          have y5 : X.cell? ⟨gX, k * 9 + 5, none⟩ = some (.int .i64 v.su) := HCX.out X hX 5 (by omega)
          have y6 : X.cell? ⟨gX, k * 9 + 6, none⟩ = some (.int .i64 v.ma) := HCX.out X hX 6 (by omega)
          have y7 : X.cell? ⟨gX, k * 9 + 7, none⟩ = some (.int .i64 v.ot) := HCX.out X hX 7 (by omega)
          have y8 : X.cell? ⟨gX, k * 9 + 8, none⟩ = some (.int .i64 v.co) := HCX.out X hX 8 (by omega)
          go_simp
          try rfl
        simp only [Act.put, pA9, pB9, pC9]
        refine wpAnyH_ready (rs := [1, 7]) (by kernel_rfl) (by simp) (hw_step 1 (some 22) rfl rfl (by rfl) (fun K hK => ?bN1) (hw_step 7 (some 28) rfl rfl (by rfl) (fun K hK => ?bN2) (by intro j hj; cases hj)))
        case' bN1 =>
          have cF := fa.cells
          go_simp
          refine hK.out _ _ na (fun _ => ?_)
          simp only [Act.put, pA9, pB9, pC9]
          clear cF
          refine hw_call 7 (some 28) rfl rfl (by kernel_rfl) (by rfl) (fun K hK => ?_)
        all_goals
          go_simp
          refine (scopyNd_any v.id v.up v.ro v.ep v.su v.ma v.ot v.co v.A v.V.length v.c v.V a (HRE.out.1.new (hw1.trans na)) (NN.out v HVM.out) rfl (by have := totK_len v.V; have := HRE.out.2; omega)).mono ?_
          rintro e b ⟨A', c', VL, rfl, hVL, oLb, nn⟩
          have HVL : Hid (VL.map EkV.r = v.V.map EkV.r) := hVL
          clear hVL
          have fb := fa.new nn
          have onb := row9_new ona nn
          have apb := apa.new nn
          have tWb : Turn (fun x => x = B3) W b := Turn.trans tWa nn (fun i _ f => f.elim)
          have nb := na.trans nn
          have zzb := nn.size
          refine hK.out _ _ nb (fun _ => ?_)
          simp only [Act.put, pA9, pB9, pC9]
          clear nn
          first
            | refine hw_call 8 (some 29) rfl rfl (by decide +kernel) (by rfl) (fun K hK => ?_)
            | (refine wpAnyH_ready (rs := [1, 8]) (by kernel_rfl) (by simp) (hw_step 1 (some 22) rfl rfl (by rfl) (fun K hK => ?bN3) (hw_step 8 (some 29) rfl rfl (by rfl) (fun K hK => ?bN4) (by intro j hj; cases hj)))
               case' bN3 =>
                 have cF := fb.cells
                 go_simp
                 refine hK.out _ _ nb (fun _ => ?_)
                 simp only [Act.put, pA9, pB9, pC9]
                 clear cF
                 refine hw_call 8 (some 29) rfl rfl (by kernel_rfl) (by rfl) (fun K hK => ?_))
          all_goals
            go_simp
            have nn := (New.refl b).alloc (.cells #[.int .i64 v.id, .bool v.up, .int .i64 v.ro, .int .i64 v.ep, .slice A' v.V.length c', .int .i64 v.su, .int .i64 v.ma, .int .i64 v.ot, .int .i64 v.co] 74)
            have bS := Blk.mk b b.heap.size 74 #[.int .i64 v.id, .bool v.up, .int .i64 v.ro, .int .i64 v.ep, .slice A' v.V.length c', .int .i64 v.su, .int .i64 v.ma, .int .i64 v.ot, .int .i64 v.co] rfl
            have fc := fb.new nn
            have onc := row9_new onb nn
            have apc := apb.new nn
            have oLc := oLb.new nn
            have tWc : Turn (fun x => x = B3) W (b.alloc (.cells #[.int .i64 v.id, .bool v.up, .int .i64 v.ro, .int .i64 v.ep, .slice A' v.V.length c', .int .i64 v.su, .int .i64 v.ma, .int .i64 v.ot, .int .i64 v.co] 74)) := Turn.trans tWb nn (fun i _ f => f.elim)
            have nc := nb.trans nn
            have zzc := nn.size
            refine hK.out _ _ nc (fun _ => ?_)
            simp only [Act.put, pA9, pB9, pC9]
            generalize b.alloc (.cells #[.int .i64 v.id, .bool v.up, .int .i64 v.ro, .int .i64 v.ep, .slice A' v.V.length c', .int .i64 v.su, .int .i64 v.ma, .int .i64 v.ot, .int .i64 v.co] 74) = c at *
            clear nn
            try
              refine hw_call 1 (some 22) rfl rfl (by decide +kernel) (by rfl) (fun K hK => ?_)
              have cF := fc.cells
              go_simp
              refine hK.out _ _ nc (fun _ => ?_)
              simp only [Act.put, pA9, pB9, pC9]
              clear cF
            have cS := bS.cells
            refine hw_call 9 (some 30) rfl rfl (by kernel_rfl) (by rfl) (fun K hK => ?_)
            refine wp_apV _ (.tmp 22) (.tmp 29) rfl W.heap.size 9 88 (.agg #[.int .i64 0, .bool false, .int .i64 0, .int .i64 0, .slice none 0 0, .int .i64 0, .int .i64 0, .int .i64 0, .int .i64 0]) Tryz.underlying42 hiN hzN0 hzN1 hzN2 rfl (by omega) (by omega) v0 k (cellsNd V') rfl onc b.heap.size [.int .i64 v.id, .bool v.up, .int .i64 v.ro, .int .i64 v.ep, .slice A' v.V.length c', .int .i64 v.su, .int .i64 v.ma, .int .i64 v.ot, .int .i64 v.co] rfl (by simp [Value.oneCell']) rfl (by intro j u hu; rw [cS j, List.getElem?_toArray]; exact hu) hkm (by omega) ?_
            intro vv d oo gg hloc
            have tt : Turn (fun k => v0.ownBlock = some k) c d := ⟨gg.os, gg.tape, gg.output, gg.size, fun k hk hs => gg.block k hk (fun x => hs x.symm)⟩
            obtain ⟨y, dd, hvv, -, hyr⟩ := row9_form oo
            subst hvv
            have hrr : ∀ g, v0.ownBlock = some g → W.heap.size ≤ g ∧ g < c.heap.size := rng16 onc
            have nd := nc.before tt (by intro j hj x; have := hrr j x; have := nW.size; omega)
            have tWd : Turn (fun x => x = B3) W d := Turn.trans tWc tt (fun i hi x => by have := (hrr i x).1; omega)
            have fd := fc.turn tt (fun x => by have := (hrr B3 x).1; omega)
            have hlo : ∀ g, v0.ownBlock = some g → g < a.heap.size := fun g hg => (rng16 ona g hg).2
            have apd : ApN d W.heap.size PN QN V' := apN_row apc tt (fun g hg i hi => HNG.out g hg i (by have := HLV.out; omega))
            have oLd : OwL d a.heap.size b.heap.size (.slice A' v.V.length c') VL := oLc.turn tt (fun x h1 h2 x' => by have := hlo x x'; omega)
            have hlVL : VL.length = v.V.length := by have h1 := congrArg List.length HVL.out; simpa using h1
            have HNG2 : Hid (∀ g, (Value.slice y (k + 1) dd).ownBlock = some g → ∀ i, i < k + 1 → ¬ ((if i = k then a.heap.size else PN i) ≤ g ∧ g < (if i = k then b.heap.size else QN i))) := by
              intro g hg i hi
              by_cases hik : i = k
              · rw [if_pos hik, if_pos hik]
                rcases hloc with h1 | h1
                · rw [h1] at hg
                  have := hlo g hg
                  omega
                · rw [h1] at hg
                  simp only [Option.some.injEq] at hg
                  omega
              · rw [if_neg hik, if_neg hik]
                rcases hloc with h1 | h1
                · rw [h1] at hg
                  exact HNG.out g hg i (by omega)
                · rw [h1] at hg
                  simp only [Option.some.injEq] at hg
                  have h2 := (apa.1 i _ (List.getElem?_eq_getElem (by have := HLV.out; omega))).2.2.2
                  omega
            have HAP : Hid (ApN d W.heap.size (fun i => if i = k then a.heap.size else PN i) (fun i => if i = k then b.heap.size else QN i) (V' ++ [⟨v.id, v.up, v.ro, v.ep, v.su, v.ma, v.ot, v.co, A', c', VL⟩])) := by
              have h1 := apN_snoc16 apd (l := a.heap.size) (h := b.heap.size) ⟨v.id, v.up, v.ro, v.ep, v.su, v.ma, v.ot, v.co, A', c', VL⟩ (by rw [hlVL]; exact oLd) (by rw [totK_alike HVL.out]; exact HRE.out.2) (by omega) (by have := tt.size; omega) (fun i hi => (apa.1 i _ (List.getElem?_eq_getElem hi)).2.2.2)
              rw [HLV.out] at h1
              exact h1
            have HR : Hid ((V' ++ [(⟨v.id, v.up, v.ro, v.ep, v.su, v.ma, v.ot, v.co, A', c', VL⟩ : NdV)]).map NdV.r = (P.VN.take (k + 1)).map NdV.r) := hMp.out _ (by simp [NdV.r, HVL.out])
            have HBY2 : Hid True := trivial
            have HON : Hid (d.ownsRow W.heap.size 74 9 (.slice y (k + 1) dd) (k + 1) (cellsNd (V' ++ [⟨v.id, v.up, v.ro, v.ep, v.su, v.ma, v.ot, v.co, A', c', VL⟩]))) := by
              have h1 : cellsNd (V' ++ [⟨v.id, v.up, v.ro, v.ep, v.su, v.ma, v.ot, v.co, A', c', VL⟩]) = cellsNd V' ++ [.int .i64 v.id, .bool v.up, .int .i64 v.ro, .int .i64 v.ep, .slice A' v.V.length c', .int .i64 v.su, .int .i64 v.ma, .int .i64 v.ot, .int .i64 v.co] := by
                unfold cellsNd
                rw [List.flatMap_append]
                simp [NdV.cs, hlVL]
              show d.ownsRow _ _ _ _ _ _
              rw [h1]
              exact oo
            clear oo gg tt cS bS
            refine hK.out _ _ nd (fun _ => ?_)
            simp only [Act.put, pA9, pB9, pC9]
            refine hw_take 10 (some 31) (.pointer (some ⟨B3, 6, none⟩)) rfl rfl (by kernel_rfl) (by kernel_rfl) (by kernel_rfl) (fun _ _ _ h => h) (by rfl) nd (fun X hX => ?_) ?_
            · go_simp
              try rfl
            simp only [Act.put, pA9, pB9, pC9]
            refine hw_call 11 none rfl rfl (by kernel_rfl) (by rfl) (fun K hK => ?_)
            have cF := fd.cells
            have fF := fd.frees
            go_simp
            have tS := (Turn.refl (fun i => i = B3) d).set (p := ⟨B3, 6, none⟩) rfl (.slice y (k + 1) dd)
            have fz : Blk (d.setCell ⟨B3, 6, none⟩ (.slice y (k + 1) dd)) B3 47 #[.int .i64 P.sa, .int .i64 P.si, .int .i64 P.ho, .int .i64 P.nx, .slice x1 P.n1 d1, .slice x2 P.n2 d2, .slice y (k + 1) dd, .slice none 0 0, .slice none 0 0, .slice xS P.nS dS] := fd.set 6 (.slice y (k + 1) dd)
            have nz := nd.before tS (by intro j hj x; omega)
            have tWz : Turn (fun x => x = B3) W (d.setCell ⟨B3, 6, none⟩ (.slice y (k + 1) dd)) := Turn.trans tWd tS (fun i _ x => x)
            have HONz : Hid ((d.setCell ⟨B3, 6, none⟩ (.slice y (k + 1) dd)).ownsRow W.heap.size 74 9 (.slice y (k + 1) dd) (k + 1) (cellsNd (V' ++ [⟨v.id, v.up, v.ro, v.ep, v.su, v.ma, v.ot, v.co, A', c', VL⟩]))) := row9_turn HON.out tS (fun j hj x => by have := (hyr j hj).1; omega)
            have HAPz : Hid (ApN (d.setCell ⟨B3, 6, none⟩ (.slice y (k + 1) dd)) W.heap.size (fun i => if i = k then a.heap.size else PN i) (fun i => if i = k then b.heap.size else QN i) (V' ++ [⟨v.id, v.up, v.ro, v.ep, v.su, v.ma, v.ot, v.co, A', c', VL⟩])) := ApN.turn HAP.out tS (fun j h1 h2 x => by omega)
            refine hK.out undef _ nz (fun _ => ?_)
            try simp only [Act.put, pA9, pB9, pC9]
            refine wpAnyH_done (by kernel_rfl) ?_ _
            generalize d.setCell ⟨B3, 6, none⟩ (.slice y (k + 1) dd) = z at *
            clear tS cF fF
            go_wp2
            go_roundw
            case rel => exact ⟨k + 1, .slice y (k + 1) dd, _, _, _, by omega, by go_num, by simp [HLV.out], HR.out, nz, fz, HONz.out, HAPz.out, HNG2.out, HBY2.out, tWz⟩
            case measure => simp [intOf]; omega
      · obtain rfl : k = P.nN := by omega
        obtain ⟨wB, rfl⟩ : ∃ W0, W0 = wr := ⟨_, rfl⟩
        obtain ⟨vN, rfl⟩ : ∃ v1, v1 = v0 := ⟨_, rfl⟩
        obtain ⟨VNx, rfl⟩ : ∃ V1, V1 = V' := ⟨_, rfl⟩
        have BTN : Hid (W.heap.size ≤ wB.heap.size) := tWr.size
        have nwB := nwr
        have fwB := fr
        have ltN : B3 < wB.heap.size := fr.lt
        have HON : Hid (wB.ownsRow W.heap.size 74 9 vN P.nN (cellsNd VNx)) := onr
        have HAN : Hid (ApN wB W.heap.size PN QN VNx) := apr
        have TN : Hid (Turn (fun x => x = B3) W wB) := tWr
        have HLN := HLV
        have HMN := HMAP
        have HGN := HNG
        have HBN := HBY
        clear HLV HMAP HNG HBY nwr fr onr apr tWr
        obtain ⟨iW, hiW, hzW0, hzW1, hzW2⟩ := info_parts Tryz.infoWi
        go_wp2_with fail
        go_loopw [5] (fun i wr => ∃ (k : Nat) (v0 : Value) (V' : List WiV), k ≤ P.nW ∧ i = .int .i64 k ∧ V'.length = k ∧ V'.map WiV.r = (P.VW.take k).map WiV.r ∧ New w1 wr ∧ Blk wr B3 47 #[.int .i64 P.sa, .int .i64 P.si, .int .i64 P.ho, .int .i64 P.nx, .slice x1 P.n1 d1, .slice x2 P.n2 d2, vN, v0, .slice none 0 0, .slice xS P.nS dS] ∧ wr.ownsRow wB.heap.size 132 4 v0 k (cellsWi V') ∧ ApW wr wB.heap.size V' ∧ (∀ g, v0.ownBlock = some g → ∀ u ∈ V', ∀ x, (u.a = some x ∨ u.b = some x) → ¬ x.block = g) ∧ (∀ u ∈ V', (∀ z ∈ u.xs, By z) ∧ ∀ z ∈ u.ys, By z) ∧ Turn (fun x => x = B3) wB wr) (fun i _ => P.nW - (intOf i).toNat)
        case atStart => exact ⟨0, .slice none 0 0, [], Nat.zero_le _, rfl, rfl, rfl, nwB, fwB, ⟨rfl, .inl ⟨rfl, rfl⟩⟩, ⟨fun i v hv => by simp at hv, fun i j u v x y hi => by simp at hi⟩, fun g hg => by simp [Value.ownBlock] at hg, by simp, Turn.refl _ _⟩
        case round =>
          obtain ⟨k, v0, V', hk, rfl, hlV, hmap, nwr, fr, onr, apr, ngr, byr, tWr⟩ := hrel
          have HLV : Hid (V'.length = k) := hlV
          have HMAP : Hid (V'.map WiV.r = (P.VW.take k).map WiV.r) := hmap
          have HNG : Hid (∀ g, v0.ownBlock = some g → ∀ u ∈ V', ∀ x, (u.a = some x ∨ u.b = some x) → ¬ x.block = g) := ngr
          have HBY : Hid (∀ u ∈ V', (∀ z ∈ u.xs, By z) ∧ ∀ z ∈ u.ys, By z) := byr
          clear hlV hmap ngr byr
          have cX : wr.cell? ⟨w.heap.size, 7, none⟩ = some (.slice P.aW P.nW P.cW) := HC.out wr nwr 7 (by omega)
          by_cases hlt : k < P.nW
          · obtain ⟨v, hv⟩ : ∃ v, P.VW[k]? = some v := ⟨_, List.getElem?_eq_getElem (by have := hl.lW; omega)⟩
            obtain ⟨⟨gX, hgX, hcX⟩, hrest⟩ := RD.out.wi k v hv
            have HAD : Hid (P.aW = some ⟨gX, 0, none⟩) := hgX
            have HCX : Hid (∀ X, New w1 X → ∀ j, j < 4 → X.cell? ⟨gX, k * 4 + j, none⟩ = v.cs[j]?) := fun X hX j hj => (World.cell?_of_block (a := ⟨gX, k * 4 + j, none⟩) ((hw1.trans hX).block gX (World.block_lt_of_cell? w _ (hcX 0 (by omega))) (fun f => f))).trans (hcX j hj)
            have hMp : Hid (∀ u : WiV, u.r = v.r → (V' ++ [u]).map WiV.r = (P.VW.take (k + 1)).map WiV.r) := by
              intro u hu
              obtain ⟨hk', e⟩ := List.getElem?_eq_some_iff.1 hv
              rw [List.take_succ_eq_append_getElem hk', e, List.map_append, List.map_append, HMAP.out]
              simp [hu]
            have hkm : k + 1 ≤ 4194304 := by have := hl.mW; omega
            have HRE : Hid _ := hrest
            have HVM : Hid (v ∈ P.VW) := List.mem_of_getElem? hv
            have SZ0 : Hid (wB.heap.size ≤ wr.heap.size) := tWr.size
            clear hgX hcX hv hrest
            have cF := fr.cells
            go_upto_region 9 with fail
            clear cX cF
            refine hw_start (n := 12) (S := fun X => New w1 X) rfl (by kernel_rfl) (nwr.drew) (fun hH => ?_)
            have na := nwr.drew
            have nnd := (New.refl wr).drew
            have fa := fr.new nnd
            have ona := row9_new onr nnd
            have apa := apr.new nnd
            have tWa : Turn (fun x => x = B3) wB wr.drew := tWr.drewW
            have szd : wr.drew.heap.size = wr.heap.size := rfl
            have SZa := SZ0.out
            generalize wr.drew = a at *
            rw [← szd] at SZa
            clear nnd fr onr apr nwr tWr
            refine' hw_t 0 (some 39) _ rfl rfl na ?hy15 ?rest15
            case hy15 =>
              intro X hX
              go_simp
              try rfl
            simp only [Act.put, pA9, pB9, pC9]
            refine' hw_t 2 (some 41) _ rfl rfl na ?hy16 ?rest16
            case hy16 =>
              intro X hX
              go_simp
              try rfl
            simp only [Act.put, pA9, pB9, pC9]
            refine' hw_t 3 (some 42) _ rfl rfl na ?hy17 ?rest17
            case hy17 =>
              intro X hX
              have g7 : X.cell? ⟨w.heap.size, 7, none⟩ = some (.slice P.aW P.nW P.cW) := HC.out X hX 7 (by omega)
              rw [HAD.out] at g7
              go_simp
              try rfl
            simp only [Act.put, pA9, pB9, pC9]
            refine' hw_t 4 (some 43) _ rfl rfl na ?hy18 ?rest18
            case hy18 =>
              intro X hX
              go_simp
              try rfl
            simp only [Act.put, pA9, pB9, pC9]
            refine' hw_t 5 (some 44) _ rfl rfl na ?hy19 ?rest19
            case hy19 =>
              intro X hX
              go_simp
              try rfl
            simp only [Act.put, pA9, pB9, pC9]
            refine' hw_t 6 (some 45) _ rfl rfl na ?hy20 ?rest20
            case hy20 =>
              intro X hX
              have y0 : X.cell? ⟨gX, k * 4, none⟩ = some (.int .i64 v.E) := HCX.out X hX 0 (by omega)
              have y1 : X.cell? ⟨gX, k * 4 + 1, none⟩ = some (.slice v.a v.xs.length v.c) := HCX.out X hX 1 (by omega)
              have y2 : X.cell? ⟨gX, k * 4 + 2, none⟩ = some (.int .i64 v.T) := HCX.out X hX 2 (by omega)
              have y3 : X.cell? ⟨gX, k * 4 + 3, none⟩ = some (.slice v.b v.ys.length v.d) := HCX.out X hX 3 (by omega)
              go_simp
              try rfl
            simp only [Act.put, pA9, pB9, pC9]
            refine wpAnyH_ready (rs := [1, 7]) (by kernel_rfl) (by simp) (hw_step 1 (some 40) rfl rfl (by rfl) (fun K hK => ?bW1) (hw_step 7 (some 46) rfl rfl (by rfl) (fun K hK => ?bW2) (by intro j hj; cases hj)))
            case' bW1 =>
              have cF := fa.cells
              go_simp
              refine hK.out _ _ na (fun _ => ?_)
              simp only [Act.put, pA9, pB9, pC9]
              clear cF
              refine hw_call 7 (some 46) rfl rfl (by kernel_rfl) (by rfl) (fun K hK => ?_)
            all_goals
              go_simp
              refine (l11C v.E v.T v.a v.b v.c v.d v.xs v.ys a (HRE.out.1.new (hw1.trans na)) (HRE.out.2.1.new (hw1.trans na)) (NW.out v HVM.out).1 (NW.out v HVM.out).2 HRE.out.2.2.1 HRE.out.2.2.2).mono ?_
              rintro e b hWA
              obtain ⟨a', b', c', d', rfl, oab, obb, rgb, neb, nn⟩ := wans16 hWA HRE.out.1.lt HRE.out.2.1.lt
              clear hWA
              have fb := fa.new nn
              have onb := row9_new ona nn
              have apb := apa.new nn
              have tWb : Turn (fun x => x = B3) wB b := Turn.trans tWa nn (fun i _ f => f.elim)
              have nb := na.trans nn
              have zzb := nn.size
              refine hK.out _ _ nb (fun _ => ?_)
              simp only [Act.put, pA9, pB9, pC9]
              clear nn
              first
                | refine hw_call 8 (some 47) rfl rfl (by decide +kernel) (by rfl) (fun K hK => ?_)
                | (refine wpAnyH_ready (rs := [1, 8]) (by kernel_rfl) (by simp) (hw_step 1 (some 40) rfl rfl (by rfl) (fun K hK => ?bW3) (hw_step 8 (some 47) rfl rfl (by rfl) (fun K hK => ?bW4) (by intro j hj; cases hj)))
                   case' bW3 =>
                     have cF := fb.cells
                     go_simp
                     refine hK.out _ _ nb (fun _ => ?_)
                     simp only [Act.put, pA9, pB9, pC9]
                     clear cF
                     refine hw_call 8 (some 47) rfl rfl (by kernel_rfl) (by rfl) (fun K hK => ?_))
              all_goals
                go_simp
                have nn := (New.refl b).alloc (.cells #[.int .i64 v.E, .slice a' v.xs.length c', .int .i64 v.T, .slice b' v.ys.length d'] 132)
                have bS := Blk.mk b b.heap.size 132 #[.int .i64 v.E, .slice a' v.xs.length c', .int .i64 v.T, .slice b' v.ys.length d'] rfl
                have fc := fb.new nn
                have onc := row9_new onb nn
                have apc := apb.new nn
                have oac := oab.new nn
                have obc := obb.new nn
                have tWc : Turn (fun x => x = B3) wB (b.alloc (.cells #[.int .i64 v.E, .slice a' v.xs.length c', .int .i64 v.T, .slice b' v.ys.length d'] 132)) := Turn.trans tWb nn (fun i _ f => f.elim)
                have nc := nb.trans nn
                have zzc := nn.size
                refine hK.out _ _ nc (fun _ => ?_)
                simp only [Act.put, pA9, pB9, pC9]
                generalize b.alloc (.cells #[.int .i64 v.E, .slice a' v.xs.length c', .int .i64 v.T, .slice b' v.ys.length d'] 132) = c at *
                clear nn
                try
                  refine hw_call 1 (some 40) rfl rfl (by decide +kernel) (by rfl) (fun K hK => ?_)
                  have cF := fc.cells
                  go_simp
                  refine hK.out _ _ nc (fun _ => ?_)
                  simp only [Act.put, pA9, pB9, pC9]
                  clear cF
                have cS := bS.cells
                refine hw_call 9 (some 48) rfl rfl (by kernel_rfl) (by rfl) (fun K hK => ?_)
                refine wp_apV _ (.tmp 40) (.tmp 47) rfl wB.heap.size 4 64 (.agg #[.int .i64 0, .slice none 0 0, .int .i64 0, .slice none 0 0]) Tryz.underlying43 hiW hzW0 hzW1 hzW2 rfl (by omega) (by omega) v0 k (cellsWi V') rfl onc b.heap.size [.int .i64 v.E, .slice a' v.xs.length c', .int .i64 v.T, .slice b' v.ys.length d'] rfl (by simp [Value.oneCell']) rfl (by intro j u hu; rw [cS j, List.getElem?_toArray]; exact hu) hkm (by omega) ?_
                intro vv d oo gg hloc
                have tt : Turn (fun k => v0.ownBlock = some k) c d := ⟨gg.os, gg.tape, gg.output, gg.size, fun k hk hs => gg.block k hk (fun x => hs x.symm)⟩
                obtain ⟨y, dd, hvv, -, hyr⟩ := row9_form oo
                subst hvv
                have hrr : ∀ g, v0.ownBlock = some g → wB.heap.size ≤ g ∧ g < c.heap.size := rng16 onc
                have nd := nc.before tt (by intro j hj x; have := hrr j x; have := nwB.size; omega)
                have tWd : Turn (fun x => x = B3) wB d := Turn.trans tWc tt (fun i hi x => by have := (hrr i x).1; omega)
                have fd := fc.turn tt (fun x => by have := (hrr B3 x).1; omega)
                have hlo : ∀ g, v0.ownBlock = some g → g < a.heap.size := fun g hg => (rng16 ona g hg).2
                have HAP : Hid (ApW d wB.heap.size (V' ++ [⟨v.E, v.T, a', b', c', d', v.xs, v.ys⟩])) := by
                  have h1 := apW_row apc tt (fun g hg => HNG.out g hg)
                  refine h1.snoc (l := a.heap.size) ⟨v.E, v.T, a', b', c', d', v.xs, v.ys⟩ ⟨oac.turn tt (fun x hx x' => by have := (rgb x (.inl hx)).1; have := hlo _ x'; omega), obc.turn tt (fun x hx x' => by have := (rgb x (.inr hx)).1; have := hlo _ x'; omega)⟩ ⟨HRE.out.2.2.1, HRE.out.2.2.2⟩ (fun x hx => ⟨(rgb x hx).1, by have := (rgb x hx).2; have := tt.size; omega⟩) neb (by omega) ?_
                  intro u hu x hx
                  obtain ⟨i, hi'⟩ := List.getElem?_of_mem hu
                  exact ((apa.1 i u hi').2.2.1 x hx).2
                have HNG2 : Hid (∀ g, (Value.slice y (k + 1) dd).ownBlock = some g → ∀ u ∈ V' ++ [(⟨v.E, v.T, a', b', c', d', v.xs, v.ys⟩ : WiV)], ∀ x, (u.a = some x ∨ u.b = some x) → ¬ x.block = g) := by
                  intro g hg u hu x hx
                  rcases List.mem_append.1 hu with h2 | h2
                  · rcases hloc with h1 | h1
                    · rw [h1] at hg
                      exact HNG.out g hg u h2 x hx
                    · rw [h1] at hg
                      simp only [Option.some.injEq] at hg
                      obtain ⟨i, hi'⟩ := List.getElem?_of_mem h2
                      have := ((apa.1 i u hi').2.2.1 x hx).2
                      omega
                  · obtain rfl := List.mem_singleton.1 h2
                    rcases hloc with h1 | h1
                    · rw [h1] at hg
                      have := (rgb x hx).1
                      have := hlo _ hg
                      omega
                    · rw [h1] at hg
                      simp only [Option.some.injEq] at hg
                      have := (rgb x hx).2
                      omega
                have HR : Hid ((V' ++ [(⟨v.E, v.T, a', b', c', d', v.xs, v.ys⟩ : WiV)]).map WiV.r = (P.VW.take (k + 1)).map WiV.r) := hMp.out _ (by simp [WiV.r])
                have HBY2 : Hid ((∀ u ∈ V' ++ [(⟨v.E, v.T, a', b', c', d', v.xs, v.ys⟩ : WiV)], (∀ z ∈ u.xs, By z) ∧ ∀ z ∈ u.ys, By z)) := by
                  intro u hu
                  rcases List.mem_append.1 hu with h2 | h2
                  · exact HBY.out u h2
                  · obtain rfl := List.mem_singleton.1 h2
                    exact ⟨HRE.out.1.lt, HRE.out.2.1.lt⟩
                have HON : Hid (d.ownsRow wB.heap.size 132 4 (.slice y (k + 1) dd) (k + 1) (cellsWi (V' ++ [⟨v.E, v.T, a', b', c', d', v.xs, v.ys⟩]))) := by
                  have h1 : cellsWi (V' ++ [⟨v.E, v.T, a', b', c', d', v.xs, v.ys⟩]) = cellsWi V' ++ [.int .i64 v.E, .slice a' v.xs.length c', .int .i64 v.T, .slice b' v.ys.length d'] := by
                    unfold cellsWi
                    rw [List.flatMap_append]
                    simp [WiV.cs]
                  show d.ownsRow _ _ _ _ _ _
                  rw [h1]
                  exact oo
                clear oo gg tt cS bS
                refine hK.out _ _ nd (fun _ => ?_)
                simp only [Act.put, pA9, pB9, pC9]
                refine hw_take 10 (some 49) (.pointer (some ⟨B3, 7, none⟩)) rfl rfl (by kernel_rfl) (by kernel_rfl) (by kernel_rfl) (fun _ _ _ h => h) (by rfl) nd (fun X hX => ?_) ?_
                · go_simp
                  try rfl
                simp only [Act.put, pA9, pB9, pC9]
                refine hw_call 11 none rfl rfl (by kernel_rfl) (by rfl) (fun K hK => ?_)
                have cF := fd.cells
                have fF := fd.frees
                go_simp
                have tS := (Turn.refl (fun i => i = B3) d).set (p := ⟨B3, 7, none⟩) rfl (.slice y (k + 1) dd)
                have fz : Blk (d.setCell ⟨B3, 7, none⟩ (.slice y (k + 1) dd)) B3 47 #[.int .i64 P.sa, .int .i64 P.si, .int .i64 P.ho, .int .i64 P.nx, .slice x1 P.n1 d1, .slice x2 P.n2 d2, vN, .slice y (k + 1) dd, .slice none 0 0, .slice xS P.nS dS] := fd.set 7 (.slice y (k + 1) dd)
                have nz := nd.before tS (by intro j hj x; omega)
                have tWz : Turn (fun x => x = B3) wB (d.setCell ⟨B3, 7, none⟩ (.slice y (k + 1) dd)) := Turn.trans tWd tS (fun i _ x => x)
                have HONz : Hid ((d.setCell ⟨B3, 7, none⟩ (.slice y (k + 1) dd)).ownsRow wB.heap.size 132 4 (.slice y (k + 1) dd) (k + 1) (cellsWi (V' ++ [⟨v.E, v.T, a', b', c', d', v.xs, v.ys⟩]))) := row9_turn HON.out tS (fun j hj x => by have := (hyr j hj).1; omega)
                have HAPz : Hid (ApW (d.setCell ⟨B3, 7, none⟩ (.slice y (k + 1) dd)) wB.heap.size (V' ++ [⟨v.E, v.T, a', b', c', d', v.xs, v.ys⟩])) := ApW.turn HAP.out tS (fun j h1 h2 x => by omega)
                refine hK.out undef _ nz (fun _ => ?_)
                try simp only [Act.put, pA9, pB9, pC9]
                refine wpAnyH_done (by kernel_rfl) ?_ _
                generalize d.setCell ⟨B3, 7, none⟩ (.slice y (k + 1) dd) = z at *
                clear tS cF fF
                go_wp2
                go_roundw
                case rel => exact ⟨k + 1, .slice y (k + 1) dd, _, by omega, by go_num, by simp [HLV.out], HR.out, nz, fz, HONz.out, HAPz.out, HNG2.out, HBY2.out, tWz⟩
                case measure => simp [intOf]; omega
          · obtain rfl : k = P.nW := by omega
            obtain ⟨wC, rfl⟩ : ∃ W0, W0 = wr := ⟨_, rfl⟩
            obtain ⟨vW, rfl⟩ : ∃ v1, v1 = v0 := ⟨_, rfl⟩
            obtain ⟨VWx, rfl⟩ : ∃ V1, V1 = V' := ⟨_, rfl⟩
            have BTW : Hid (wB.heap.size ≤ wC.heap.size) := tWr.size
            have nwC := nwr
            have fwC := fr
            have ltW : B3 < wC.heap.size := fr.lt
            have HOW : Hid (wC.ownsRow wB.heap.size 132 4 vW P.nW (cellsWi VWx)) := onr
            have HAW : Hid (ApW wC wB.heap.size VWx) := apr
            have TW : Hid (Turn (fun x => x = B3) wB wC) := tWr
            have HLW := HLV
            have HMW := HMAP
            have HGW := HNG
            have HBW := HBY
            clear HLV HMAP HNG HBY nwr fr onr apr tWr
            obtain ⟨iQ, hiQ, hzQ0, hzQ1, hzQ2⟩ := info_parts Tryz.infoMq
            go_wp2_with fail
            go_loopw [6] (fun i wr => ∃ (k : Nat) (v0 : Value) (V' : List MlV), k ≤ P.nM ∧ i = .int .i64 k ∧ V'.length = k ∧ V'.map MlV.r = (P.VM.take k).map MlV.r ∧ New w1 wr ∧ Blk wr B3 47 #[.int .i64 P.sa, .int .i64 P.si, .int .i64 P.ho, .int .i64 P.nx, .slice x1 P.n1 d1, .slice x2 P.n2 d2, vN, vW, v0, .slice xS P.nS dS] ∧ wr.ownsRow wC.heap.size 120 10 v0 k (cellsMq V') ∧ ApM wr wC.heap.size V' ∧ (∀ g, v0.ownBlock = some g → ∀ u ∈ V', ∀ x, u.a = some x → ¬ x.block = g) ∧ (∀ u ∈ V', ∀ z ∈ u.m.e.xs, By z) ∧ Turn (fun x => x = B3) wC wr) (fun i _ => P.nM - (intOf i).toNat)
            case atStart => exact ⟨0, .slice none 0 0, [], Nat.zero_le _, rfl, rfl, rfl, nwC, fwC, ⟨rfl, .inl ⟨rfl, rfl⟩⟩, ⟨fun i v hv => by simp at hv, fun i j u v x y hi => by simp at hi⟩, fun g hg => by simp [Value.ownBlock] at hg, by simp, Turn.refl _ _⟩
            case round =>
              obtain ⟨k, v0, V', hk, rfl, hlV, hmap, nwr, fr, onr, apr, ngr, byr, tWr⟩ := hrel
              have HLV : Hid (V'.length = k) := hlV
              have HMAP : Hid (V'.map MlV.r = (P.VM.take k).map MlV.r) := hmap
              have HNG : Hid (∀ g, v0.ownBlock = some g → ∀ u ∈ V', ∀ x, u.a = some x → ¬ x.block = g) := ngr
              have HBY : Hid (∀ u ∈ V', ∀ z ∈ u.m.e.xs, By z) := byr
              clear hlV hmap ngr byr
              have cX : wr.cell? ⟨w.heap.size, 8, none⟩ = some (.slice P.aM P.nM P.cM) := HC.out wr nwr 8 (by omega)
              by_cases hlt : k < P.nM
              · obtain ⟨v, hv⟩ : ∃ v, P.VM[k]? = some v := ⟨_, List.getElem?_eq_getElem (by have := hl.lM; omega)⟩
                obtain ⟨⟨gX, hgX, hcX⟩, hrest⟩ := RD.out.mq k v hv
                have HAD : Hid (P.aM = some ⟨gX, 0, none⟩) := hgX
                have HCX : Hid (∀ X, New w1 X → ∀ j, j < 10 → X.cell? ⟨gX, k * 10 + j, none⟩ = v.cs[j]?) := fun X hX j hj => (World.cell?_of_block (a := ⟨gX, k * 10 + j, none⟩) ((hw1.trans hX).block gX (World.block_lt_of_cell? w _ (hcX 0 (by omega))) (fun f => f))).trans (hcX j hj)
                have hMp : Hid (∀ u : MlV, u.r = v.r → (V' ++ [u]).map MlV.r = (P.VM.take (k + 1)).map MlV.r) := by
                  intro u hu
                  obtain ⟨hk', e⟩ := List.getElem?_eq_some_iff.1 hv
                  rw [List.take_succ_eq_append_getElem hk', e, List.map_append, List.map_append, HMAP.out]
                  simp [hu]
                have hkm : k + 1 ≤ 4194304 := by have := hl.mM; omega
                have HRE : Hid _ := hrest
                have HVM : Hid (v ∈ P.VM) := List.mem_of_getElem? hv
                have SZ0 : Hid (wC.heap.size ≤ wr.heap.size) := tWr.size
                clear hgX hcX hv hrest
                have cF := fr.cells
                go_upto_region 13 with fail
                clear cX cF
                refine hw_start (n := 12) (S := fun X => New w1 X) rfl (by kernel_rfl) (nwr.drew) (fun hH => ?_)
                have na := nwr.drew
                have nnd := (New.refl wr).drew
                have fa := fr.new nnd
                have ona := row9_new onr nnd
                have apa := apr.new nnd
                have tWa : Turn (fun x => x = B3) wC wr.drew := tWr.drewW
                have szd : wr.drew.heap.size = wr.heap.size := rfl
                have SZa := SZ0.out
                generalize wr.drew = a at *
                rw [← szd] at SZa
                clear nnd fr onr apr nwr tWr
                refine' hw_t 0 (some 57) _ rfl rfl na ?hy22 ?rest22
                case hy22 =>
                  intro X hX
                  go_simp
                  try rfl
                simp only [Act.put, pA9, pB9, pC9]
                refine' hw_t 2 (some 59) _ rfl rfl na ?hy23 ?rest23
                case hy23 =>
                  intro X hX
                  go_simp
                  try rfl
                simp only [Act.put, pA9, pB9, pC9]
                refine' hw_t 3 (some 60) _ rfl rfl na ?hy24 ?rest24
                case hy24 =>
                  intro X hX
                  have g8 : X.cell? ⟨w.heap.size, 8, none⟩ = some (.slice P.aM P.nM P.cM) := HC.out X hX 8 (by omega)
                  rw [HAD.out] at g8
                  go_simp
                  try rfl
                simp only [Act.put, pA9, pB9, pC9]
                refine' hw_t 4 (some 61) _ rfl rfl na ?hy25 ?rest25
                case hy25 =>
                  intro X hX
                  go_simp
                  try rfl
                simp only [Act.put, pA9, pB9, pC9]
                refine' hw_t 5 (some 62) _ rfl rfl na ?hy26 ?rest26
                case hy26 =>
                  intro X hX
                  go_simp
                  try rfl
                simp only [Act.put, pA9, pB9, pC9]
                refine' hw_t 6 (some 63) _ rfl rfl na ?hy27 ?rest27
                case hy27 =>
                  intro X hX
                  have y0 : X.cell? ⟨gX, k * 10, none⟩ = some (.int .i64 v.m.kd) := HCX.out X hX 0 (by omega)
                  have y1 : X.cell? ⟨gX, k * 10 + 1, none⟩ = some (.int .i64 v.m.tgt) := HCX.out X hX 1 (by omega)
                  have y2 : X.cell? ⟨gX, k * 10 + 2, none⟩ = some (.int .i64 v.m.ep) := HCX.out X hX 2 (by omega)
                  have y3 : X.cell? ⟨gX, k * 10 + 3, none⟩ = some (.int .i64 v.m.at1) := HCX.out X hX 3 (by omega)
                  have y4 : X.cell? ⟨gX, k * 10 + 4, none⟩ = some (.int .i64 v.m.pr) := HCX.out X hX 4 (by omega)
                  have y5 : X.cell? ⟨gX, k * 10 + 5, none⟩ = some (.bool v.m.has) := HCX.out X hX 5 (by omega)
                  have y6 : X.cell? ⟨gX, k * 10 + 6, none⟩ = some (.int .i64 v.m.e.ep) := HCX.out X hX 6 (by omega)
                  have y7 : X.cell? ⟨gX, k * 10 + 7, none⟩ = some (.int .i64 v.m.e.ki) := HCX.out X hX 7 (by omega)
                  have y8 : X.cell? ⟨gX, k * 10 + 8, none⟩ = some (.int .i64 v.m.e.pe) := HCX.out X hX 8 (by omega)
                  have y9 : X.cell? ⟨gX, k * 10 + 9, none⟩ = some (.slice v.a v.m.e.xs.length v.c) := HCX.out X hX 9 (by omega)
                  go_simp
                  try rfl
                simp only [Act.put, pA9, pB9, pC9]
                refine wpAnyH_ready (rs := [1, 7]) (by kernel_rfl) (by simp) (hw_step 1 (some 58) rfl rfl (by rfl) (fun K hK => ?bQ1) (hw_step 7 (some 64) rfl rfl (by rfl) (fun K hK => ?bQ2) (by intro j hj; cases hj)))
                case' bQ1 =>
                  have cF := fa.cells
                  go_simp
                  refine hK.out _ _ na (fun _ => ?_)
                  simp only [Act.put, pA9, pB9, pC9]
                  clear cF
                  refine hw_call 7 (some 64) rfl rfl (by kernel_rfl) (by rfl) (fun K hK => ?_)
                all_goals
                  go_simp
                  refine (sMl16 v.m v.a v.c a (HRE.out.1.new (hw1.trans na)) (NQ.out v HVM.out) HRE.out.2).mono ?_
                  rintro e b ⟨a', c', rfl, hov, nn⟩
                  obtain ⟨oab, -, rgb⟩ := hov.ow HRE.out.1.lt
                  clear hov
                  have fb := fa.new nn
                  have onb := row9_new ona nn
                  have apb := apa.new nn
                  have tWb : Turn (fun x => x = B3) wC b := Turn.trans tWa nn (fun i _ f => f.elim)
                  have nb := na.trans nn
                  have zzb := nn.size
                  refine hK.out _ _ nb (fun _ => ?_)
                  simp only [Act.put, pA9, pB9, pC9]
                  clear nn
                  first
                    | refine hw_call 8 (some 65) rfl rfl (by decide +kernel) (by rfl) (fun K hK => ?_)
                    | (refine wpAnyH_ready (rs := [1, 8]) (by kernel_rfl) (by simp) (hw_step 1 (some 58) rfl rfl (by rfl) (fun K hK => ?bQ3) (hw_step 8 (some 65) rfl rfl (by rfl) (fun K hK => ?bQ4) (by intro j hj; cases hj)))
                       case' bQ3 =>
                         have cF := fb.cells
                         go_simp
                         refine hK.out _ _ nb (fun _ => ?_)
                         simp only [Act.put, pA9, pB9, pC9]
                         clear cF
                         refine hw_call 8 (some 65) rfl rfl (by kernel_rfl) (by rfl) (fun K hK => ?_))
                  all_goals
                    go_simp
                    have nn := (New.refl b).alloc (.cells #[.int .i64 v.m.kd, .int .i64 v.m.tgt, .int .i64 v.m.ep, .int .i64 v.m.at1, .int .i64 v.m.pr, .bool v.m.has, .int .i64 v.m.e.ep, .int .i64 v.m.e.ki, .int .i64 v.m.e.pe, .slice a' v.m.e.xs.length c'] 120)
                    have bS := Blk.mk b b.heap.size 120 #[.int .i64 v.m.kd, .int .i64 v.m.tgt, .int .i64 v.m.ep, .int .i64 v.m.at1, .int .i64 v.m.pr, .bool v.m.has, .int .i64 v.m.e.ep, .int .i64 v.m.e.ki, .int .i64 v.m.e.pe, .slice a' v.m.e.xs.length c'] rfl
                    have fc := fb.new nn
                    have onc := row9_new onb nn
                    have apc := apb.new nn
                    have oac := oab.new nn
                    have tWc : Turn (fun x => x = B3) wC (b.alloc (.cells #[.int .i64 v.m.kd, .int .i64 v.m.tgt, .int .i64 v.m.ep, .int .i64 v.m.at1, .int .i64 v.m.pr, .bool v.m.has, .int .i64 v.m.e.ep, .int .i64 v.m.e.ki, .int .i64 v.m.e.pe, .slice a' v.m.e.xs.length c'] 120)) := Turn.trans tWb nn (fun i _ f => f.elim)
                    have nc := nb.trans nn
                    have zzc := nn.size
                    refine hK.out _ _ nc (fun _ => ?_)
                    simp only [Act.put, pA9, pB9, pC9]
                    generalize b.alloc (.cells #[.int .i64 v.m.kd, .int .i64 v.m.tgt, .int .i64 v.m.ep, .int .i64 v.m.at1, .int .i64 v.m.pr, .bool v.m.has, .int .i64 v.m.e.ep, .int .i64 v.m.e.ki, .int .i64 v.m.e.pe, .slice a' v.m.e.xs.length c'] 120) = c at *
                    clear nn
                    try
                      refine hw_call 1 (some 58) rfl rfl (by decide +kernel) (by rfl) (fun K hK => ?_)
                      have cF := fc.cells
                      go_simp
                      refine hK.out _ _ nc (fun _ => ?_)
                      simp only [Act.put, pA9, pB9, pC9]
                      clear cF
                    have cS := bS.cells
                    refine hw_call 9 (some 66) rfl rfl (by kernel_rfl) (by rfl) (fun K hK => ?_)
                    refine wp_apV _ (.tmp 58) (.tmp 65) rfl wC.heap.size 10 96 (.agg #[.int .i64 0, .int .i64 0, .int .i64 0, .int .i64 0, .int .i64 0, .bool false, .int .i64 0, .int .i64 0, .int .i64 0, .slice none 0 0]) Tryz.underlying44 hiQ hzQ0 hzQ1 hzQ2 rfl (by omega) (by omega) v0 k (cellsMq V') rfl onc b.heap.size [.int .i64 v.m.kd, .int .i64 v.m.tgt, .int .i64 v.m.ep, .int .i64 v.m.at1, .int .i64 v.m.pr, .bool v.m.has, .int .i64 v.m.e.ep, .int .i64 v.m.e.ki, .int .i64 v.m.e.pe, .slice a' v.m.e.xs.length c'] rfl (by simp [Value.oneCell']) rfl (by intro j u hu; rw [cS j, List.getElem?_toArray]; exact hu) hkm (by omega) ?_
                    intro vv d oo gg hloc
                    have tt : Turn (fun k => v0.ownBlock = some k) c d := ⟨gg.os, gg.tape, gg.output, gg.size, fun k hk hs => gg.block k hk (fun x => hs x.symm)⟩
                    obtain ⟨y, dd, hvv, -, hyr⟩ := row9_form oo
                    subst hvv
                    have hrr : ∀ g, v0.ownBlock = some g → wC.heap.size ≤ g ∧ g < c.heap.size := rng16 onc
                    have nd := nc.before tt (by intro j hj x; have := hrr j x; have := nwC.size; omega)
                    have tWd : Turn (fun x => x = B3) wC d := Turn.trans tWc tt (fun i hi x => by have := (hrr i x).1; omega)
                    have fd := fc.turn tt (fun x => by have := (hrr B3 x).1; omega)
                    have hlo : ∀ g, v0.ownBlock = some g → g < a.heap.size := fun g hg => (rng16 ona g hg).2
                    have HAP : Hid (ApM d wC.heap.size (V' ++ [⟨v.m, a', c'⟩])) := by
                      have h1 := apM_row apc tt (fun g hg => HNG.out g hg)
                      refine h1.snoc (l := a.heap.size) ⟨v.m, a', c'⟩ (oac.turn tt (fun x hx x' => by have := (rgb x hx).1; have := hlo _ x'; omega)) HRE.out.2 (fun x hx => ⟨(rgb x hx).1, by have := (rgb x hx).2; have := tt.size; omega⟩) (by omega) ?_
                      intro u hu x hx
                      obtain ⟨i, hi'⟩ := List.getElem?_of_mem hu
                      exact ((apa.1 i u hi').2.2 x hx).2
                    have HNG2 : Hid (∀ g, (Value.slice y (k + 1) dd).ownBlock = some g → ∀ u ∈ V' ++ [(⟨v.m, a', c'⟩ : MlV)], ∀ x, u.a = some x → ¬ x.block = g) := by
                      intro g hg u hu x hx
                      rcases List.mem_append.1 hu with h2 | h2
                      · rcases hloc with h1 | h1
                        · rw [h1] at hg
                          exact HNG.out g hg u h2 x hx
                        · rw [h1] at hg
                          simp only [Option.some.injEq] at hg
                          obtain ⟨i, hi'⟩ := List.getElem?_of_mem h2
                          have := ((apa.1 i u hi').2.2 x hx).2
                          omega
                      · obtain rfl := List.mem_singleton.1 h2
                        rcases hloc with h1 | h1
                        · rw [h1] at hg
                          have := (rgb x hx).1
                          have := hlo _ hg
                          omega
                        · rw [h1] at hg
                          simp only [Option.some.injEq] at hg
                          have := (rgb x hx).2
                          omega
                    have HR : Hid ((V' ++ [(⟨v.m, a', c'⟩ : MlV)]).map MlV.r = (P.VM.take (k + 1)).map MlV.r) := hMp.out _ (by simp [MlV.r])
                    have HBY2 : Hid ((∀ u ∈ V' ++ [(⟨v.m, a', c'⟩ : MlV)], ∀ z ∈ u.m.e.xs, By z)) := by
                      intro u hu
                      rcases List.mem_append.1 hu with h2 | h2
                      · exact HBY.out u h2
                      · obtain rfl := List.mem_singleton.1 h2
                        exact HRE.out.1.lt
                    have HON : Hid (d.ownsRow wC.heap.size 120 10 (.slice y (k + 1) dd) (k + 1) (cellsMq (V' ++ [⟨v.m, a', c'⟩]))) := by
                      have h1 : cellsMq (V' ++ [⟨v.m, a', c'⟩]) = cellsMq V' ++ [.int .i64 v.m.kd, .int .i64 v.m.tgt, .int .i64 v.m.ep, .int .i64 v.m.at1, .int .i64 v.m.pr, .bool v.m.has, .int .i64 v.m.e.ep, .int .i64 v.m.e.ki, .int .i64 v.m.e.pe, .slice a' v.m.e.xs.length c'] := by
                        unfold cellsMq
                        rw [List.flatMap_append]
                        simp [MlV.cs]
                      show d.ownsRow _ _ _ _ _ _
                      rw [h1]
                      exact oo
                    clear oo gg tt cS bS
                    refine hK.out _ _ nd (fun _ => ?_)
                    simp only [Act.put, pA9, pB9, pC9]
                    refine hw_take 10 (some 67) (.pointer (some ⟨B3, 8, none⟩)) rfl rfl (by kernel_rfl) (by kernel_rfl) (by kernel_rfl) (fun _ _ _ h => h) (by rfl) nd (fun X hX => ?_) ?_
                    · go_simp
                      try rfl
                    simp only [Act.put, pA9, pB9, pC9]
                    refine hw_call 11 none rfl rfl (by kernel_rfl) (by rfl) (fun K hK => ?_)
                    have cF := fd.cells
                    have fF := fd.frees
                    go_simp
                    have tS := (Turn.refl (fun i => i = B3) d).set (p := ⟨B3, 8, none⟩) rfl (.slice y (k + 1) dd)
                    have fz : Blk (d.setCell ⟨B3, 8, none⟩ (.slice y (k + 1) dd)) B3 47 #[.int .i64 P.sa, .int .i64 P.si, .int .i64 P.ho, .int .i64 P.nx, .slice x1 P.n1 d1, .slice x2 P.n2 d2, vN, vW, .slice y (k + 1) dd, .slice xS P.nS dS] := fd.set 8 (.slice y (k + 1) dd)
                    have nz := nd.before tS (by intro j hj x; omega)
                    have tWz : Turn (fun x => x = B3) wC (d.setCell ⟨B3, 8, none⟩ (.slice y (k + 1) dd)) := Turn.trans tWd tS (fun i _ x => x)
                    have HONz : Hid ((d.setCell ⟨B3, 8, none⟩ (.slice y (k + 1) dd)).ownsRow wC.heap.size 120 10 (.slice y (k + 1) dd) (k + 1) (cellsMq (V' ++ [⟨v.m, a', c'⟩]))) := row9_turn HON.out tS (fun j hj x => by have := (hyr j hj).1; omega)
                    have HAPz : Hid (ApM (d.setCell ⟨B3, 8, none⟩ (.slice y (k + 1) dd)) wC.heap.size (V' ++ [⟨v.m, a', c'⟩])) := ApM.turn HAP.out tS (fun j h1 h2 x => by omega)
                    refine hK.out undef _ nz (fun _ => ?_)
                    try simp only [Act.put, pA9, pB9, pC9]
                    refine wpAnyH_done (by kernel_rfl) ?_ _
                    generalize d.setCell ⟨B3, 8, none⟩ (.slice y (k + 1) dd) = z at *
                    clear tS cF fF
                    go_wp2
                    go_roundw
                    case rel => exact ⟨k + 1, .slice y (k + 1) dd, _, by omega, by go_num, by simp [HLV.out], HR.out, nz, fz, HONz.out, HAPz.out, HNG2.out, HBY2.out, tWz⟩
                    case measure => simp [intOf]; omega
              · obtain rfl : k = P.nM := by omega
                obtain ⟨wD, rfl⟩ : ∃ W0, W0 = wr := ⟨_, rfl⟩
                obtain ⟨vM, rfl⟩ : ∃ v1, v1 = v0 := ⟨_, rfl⟩
                obtain ⟨VMx, rfl⟩ : ∃ V1, V1 = V' := ⟨_, rfl⟩
                have BTQ : Hid (wC.heap.size ≤ wD.heap.size) := tWr.size
                have nwD := nwr
                have fwD := fr
                have ltQ : B3 < wD.heap.size := fr.lt
                have HOQ : Hid (wD.ownsRow wC.heap.size 120 10 vM P.nM (cellsMq VMx)) := onr
                have HAQ : Hid (ApM wD wC.heap.size VMx) := apr
                have TQ : Hid (Turn (fun x => x = B3) wC wD) := tWr
                have HLQ := HLV
                have HMQ := HMAP
                have HGQ := HNG
                have HBQ := HBY
                clear HLV HMAP HNG HBY nwr fr onr apr tWr
                obtain ⟨yN, dN, hvN, -, hyN⟩ := row9_form HON.out
                obtain ⟨yW, dW, hvW, -, hyW⟩ := row9_form HOW.out
                obtain ⟨yM, dM, hvM, -, hyM⟩ := row9_form HOQ.out
                subst hvN hvW hvM
                have bR := b2.new nwD
                have cR := bR.cells
                have fR := bR.frees
                have cF := fwD.cells
                have ONN := nd16 HON.out HAN.out HGN.out HLN.out
                have OWW := wi16 HOW.out HAW.out HGW.out HLW.out
                have OQQ := mq16 HOQ.out HAQ.out HGQ.out HLQ.out
                have ge1 : w.heap.size ≤ w.heap.size + 1 := by omega
                have nww := hw1.trans nwD
                go_wp2
                have tz : Turn (fun x => x = w.heap.size + 1) wD ((((((((((wD.setCell ⟨w.heap.size + 1, 0, none⟩ (.int .i64 P.sa)).setCell ⟨w.heap.size + 1, 1, none⟩ (.int .i64 P.si)).setCell ⟨w.heap.size + 1, 2, none⟩ (.int .i64 P.ho)).setCell ⟨w.heap.size + 1, 3, none⟩ (.int .i64 P.nx)).setCell ⟨w.heap.size + 1, 4, none⟩ (.slice x1 P.n1 d1)).setCell ⟨w.heap.size + 1, 5, none⟩ (.slice x2 P.n2 d2)).setCell ⟨w.heap.size + 1, 6, none⟩ (.slice yN P.nN dN)).setCell ⟨w.heap.size + 1, 7, none⟩ (.slice yW P.nW dW)).setCell ⟨w.heap.size + 1, 8, none⟩ (.slice yM P.nM dM)).setCell ⟨w.heap.size + 1, 9, none⟩ (.slice xS P.nS dS)) := (Turn.set (S := fun x => x = w.heap.size + 1) (Turn.set (S := fun x => x = w.heap.size + 1) (Turn.set (S := fun x => x = w.heap.size + 1) (Turn.set (S := fun x => x = w.heap.size + 1) (Turn.set (S := fun x => x = w.heap.size + 1) (Turn.set (S := fun x => x = w.heap.size + 1) (Turn.set (S := fun x => x = w.heap.size + 1) (Turn.set (S := fun x => x = w.heap.size + 1) (Turn.set (S := fun x => x = w.heap.size + 1) (Turn.set (S := fun x => x = w.heap.size + 1) (Turn.refl _ _) rfl _) rfl _) rfl _) rfl _) rfl _) rfl _) rfl _) rfl _) rfl _) rfl _)
                have tA : Turn (fun x => x = B3 ∨ x = w.heap.size + 1) W ((((((((((wD.setCell ⟨w.heap.size + 1, 0, none⟩ (.int .i64 P.sa)).setCell ⟨w.heap.size + 1, 1, none⟩ (.int .i64 P.si)).setCell ⟨w.heap.size + 1, 2, none⟩ (.int .i64 P.ho)).setCell ⟨w.heap.size + 1, 3, none⟩ (.int .i64 P.nx)).setCell ⟨w.heap.size + 1, 4, none⟩ (.slice x1 P.n1 d1)).setCell ⟨w.heap.size + 1, 5, none⟩ (.slice x2 P.n2 d2)).setCell ⟨w.heap.size + 1, 6, none⟩ (.slice yN P.nN dN)).setCell ⟨w.heap.size + 1, 7, none⟩ (.slice yW P.nW dW)).setCell ⟨w.heap.size + 1, 8, none⟩ (.slice yM P.nM dM)).setCell ⟨w.heap.size + 1, 9, none⟩ (.slice xS P.nS dS)) := Turn.trans (Turn.trans (Turn.trans TN.out TW.out (fun i _ x => x)) TQ.out (fun i _ x => x) |>.mono (fun i _ h => Or.inl h)) tz (fun i _ h => Or.inr h)
                have tB : Turn (fun x => x = B3 ∨ x = w.heap.size + 1) wB ((((((((((wD.setCell ⟨w.heap.size + 1, 0, none⟩ (.int .i64 P.sa)).setCell ⟨w.heap.size + 1, 1, none⟩ (.int .i64 P.si)).setCell ⟨w.heap.size + 1, 2, none⟩ (.int .i64 P.ho)).setCell ⟨w.heap.size + 1, 3, none⟩ (.int .i64 P.nx)).setCell ⟨w.heap.size + 1, 4, none⟩ (.slice x1 P.n1 d1)).setCell ⟨w.heap.size + 1, 5, none⟩ (.slice x2 P.n2 d2)).setCell ⟨w.heap.size + 1, 6, none⟩ (.slice yN P.nN dN)).setCell ⟨w.heap.size + 1, 7, none⟩ (.slice yW P.nW dW)).setCell ⟨w.heap.size + 1, 8, none⟩ (.slice yM P.nM dM)).setCell ⟨w.heap.size + 1, 9, none⟩ (.slice xS P.nS dS)) := Turn.trans (Turn.trans TW.out TQ.out (fun i _ x => x) |>.mono (fun i _ h => Or.inl h)) tz (fun i _ h => Or.inr h)
                have tC : Turn (fun x => x = B3 ∨ x = w.heap.size + 1) wC ((((((((((wD.setCell ⟨w.heap.size + 1, 0, none⟩ (.int .i64 P.sa)).setCell ⟨w.heap.size + 1, 1, none⟩ (.int .i64 P.si)).setCell ⟨w.heap.size + 1, 2, none⟩ (.int .i64 P.ho)).setCell ⟨w.heap.size + 1, 3, none⟩ (.int .i64 P.nx)).setCell ⟨w.heap.size + 1, 4, none⟩ (.slice x1 P.n1 d1)).setCell ⟨w.heap.size + 1, 5, none⟩ (.slice x2 P.n2 d2)).setCell ⟨w.heap.size + 1, 6, none⟩ (.slice yN P.nN dN)).setCell ⟨w.heap.size + 1, 7, none⟩ (.slice yW P.nW dW)).setCell ⟨w.heap.size + 1, 8, none⟩ (.slice yM P.nM dM)).setCell ⟨w.heap.size + 1, 9, none⟩ (.slice xS P.nS dS)) := Turn.trans (TQ.out.mono (fun i _ h => Or.inl h)) tz (fun i _ h => Or.inr h)
                have szz := tz.size
                have B1' := BTN.out
                have B2' := BTW.out
                have B3' := BTQ.out
                have S1 := sz1.out
                refine bodyPost_ret (v := .agg #[.int .i64 P.sa, .int .i64 P.si, .int .i64 P.ho, .int .i64 P.nx, .slice x1 P.n1 d1, .slice x2 P.n2 d2, .slice yN P.nN dN, .slice yW P.nW dW, .slice yM P.nM dM, .slice xS P.nS dS]) (by simp [results, Tryz.results62, go_sem, cR]) rfl ⟨⟨P.sa, P.si, P.ho, P.nx, x1, P.n1, d1, x2, P.n2, d2, yN, P.nN, dN, yW, P.nW, dW, yM, P.nM, dM, xS, P.nS, dS, P.r1, P.r2, VNx, VWx, VMx, VS⟩, fun x => if (Value.slice x2 P.n2 d2).ownBlock = some x then 6 else if x < q0 then 5 else if x < W.heap.size then 4 else if x < wB.heap.size then 1 else if x < wC.heap.size then 2 else 3, rfl, ⟨rfl, rfl, rfl, rfl, rfl, rfl, rfl, rfl, rfl, rfl, rfl, rfl, ?_, ?_, ?_, ES.out⟩, ⟨?_, ?_, ?_, ?_, ?_, ?_, ?_, ⟨q0, q1, ?_, ?_⟩, HBW.out, HBQ.out⟩, ?_⟩
                · have h1 := HMN.out
                  rw [List.take_of_length_le (by have := hl.lN; omega)] at h1
                  exact h1
                · have h1 := HMW.out
                  rw [List.take_of_length_le (by have := hl.lW; omega)] at h1
                  exact h1
                · have h1 := HMQ.out
                  rw [List.take_of_length_le (by have := hl.lM; omega)] at h1
                  exact h1
                · exact (o1W.turn tA (fun j hj e => by have := RS1.out j hj; omega)).low (by omega)
                · exact (o2W.turn tA (fun j hj e => by have := RS2.out j hj; omega)).low (by omega)
                · intro j hj
                  have h1 := RS1.out j hj
                  have h2 : ¬ (Value.slice x2 P.n2 d2).ownBlock = some j := AB.out j hj
                  exact ⟨by dsimp only; rw [if_neg h2, if_pos (by omega)], by omega, by omega⟩
                · intro j hj
                  have h1 := RS2.out j hj
                  exact ⟨by dsimp only; rw [if_pos hj], by omega, by omega⟩
                · refine (ONN.turn tB (fun x hx e => by have := hx.1; have := hx.2; omega)).mono ?_
                  intro x hx
                  have h1 := hx.1
                  have h2 := hx.2
                  have h3 : ¬ (Value.slice x2 P.n2 d2).ownBlock = some x := fun e => by have := RS2.out x e; omega
                  exact ⟨by dsimp only; rw [if_neg h3, if_neg (by omega), if_neg (by omega), if_pos h2], by omega, by omega⟩
                · refine (OWW.turn tC (fun x hx e => by have := hx.1; have := hx.2; omega)).mono ?_
                  intro x hx
                  have h1 := hx.1
                  have h2 := hx.2
                  have h3 : ¬ (Value.slice x2 P.n2 d2).ownBlock = some x := fun e => by have := RS2.out x e; omega
                  exact ⟨by dsimp only; rw [if_neg h3, if_neg (by omega), if_neg (by omega), if_neg (by omega), if_pos h2], by omega, by omega⟩
                · refine (OQQ.turn tz (fun x hx e => by have := hx.1; have := hx.2; omega)).mono ?_
                  intro x hx
                  have h1 := hx.1
                  have h2 := hx.2
                  have h3 : ¬ (Value.slice x2 P.n2 d2).ownBlock = some x := fun e => by have := RS2.out x e; omega
                  exact ⟨by dsimp only; rw [if_neg h3, if_neg (by omega), if_neg (by omega), if_neg (by omega), if_neg (by omega)], by omega, by omega⟩
                · exact oSW.turn tA (fun x h1 h2 e => by omega)
                · intro x h1 h2
                  have h3 : ¬ (Value.slice x2 P.n2 d2).ownBlock = some x := fun e => by have := RS2.out x e; omega
                  exact ⟨by dsimp only; rw [if_neg h3, if_neg (by omega), if_pos (by omega)], by omega, by omega⟩
                · exact (New.setCell (New.setCell (New.setCell (New.setCell (New.setCell (New.setCell (New.setCell (New.setCell (New.setCell (New.setCell nww ge1 _) ge1 _) ge1 _) ge1 _) ge1 _) ge1 _) ge1 _) ge1 _) ge1 _) ge1 _)

end Go.Proofs.YtdbnmkffinhdjaaGreat
