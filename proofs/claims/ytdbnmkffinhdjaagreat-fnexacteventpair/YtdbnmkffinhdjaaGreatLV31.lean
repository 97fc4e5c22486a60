/- Lemmas and contracts of one law. -/
import Derived.Test.YtdbnmkffinhdjaaGreatLV29
import Derived.Test.YtdbnmkffinhdjaaGreatLV30
import Derived.Test.YtdbnmkffinhdjaaGreatLV25
namespace Go.Proofs.YtdbnmkffinhdjaaGreat
open Go.ChangeShapes Go.WideShapes Go.ChangeAt Go.RowKit Go.Deep Go.Sort
set_option linter.unusedVariables false
set_option linter.unusedSimpArgs false
set_option maxRecDepth 100000
set_option maxHeartbeats 25600000

theorem set9any {S : Nat → Prop} (w : World) (B : Nat) (hS : S B) (j0 j1 j2 j3 j4 j5 j6 j7 j8 : Nat) (v0 v1 v2 v3 v4 v5 v6 v7 v8 : Value) : Turn S w (((((((((w.setCell ⟨B, j0, none⟩ v0).setCell ⟨B, j1, none⟩ v1).setCell ⟨B, j2, none⟩ v2).setCell ⟨B, j3, none⟩ v3).setCell ⟨B, j4, none⟩ v4).setCell ⟨B, j5, none⟩ v5).setCell ⟨B, j6, none⟩ v6).setCell ⟨B, j7, none⟩ v7).setCell ⟨B, j8, none⟩ v8) := ((((((((((Turn.refl S w).set (p := ⟨B, j0, none⟩) hS v0).set (p := ⟨B, j1, none⟩) hS v1).set (p := ⟨B, j2, none⟩) hS v2).set (p := ⟨B, j3, none⟩) hS v3).set (p := ⟨B, j4, none⟩) hS v4).set (p := ⟨B, j5, none⟩) hS v5).set (p := ⟨B, j6, none⟩) hS v6).set (p := ⟨B, j7, none⟩) hS v7).set (p := ⟨B, j8, none⟩) hS v8)

theorem own16 (B g k : Nat) (P : PrV) (v : NdV) (pe az ct : Int) (ke : Bool) (dA : Option Addr) (dn dc : Nat) (ek ep : Int) (eA : Option Addr) (en ec : Nat) (yA : Option Addr) (yn yc : Nat) (w : World) (hb : Blk w B 86 (pcCs P (k : Int) pe az ct ke dA dn dc ek ep eA en ec yA yn yc)) (ha : P.aN = some ⟨g, 0, none⟩) (hv : ∀ j, j < 9 → w.cell? ⟨g, k * 9 + j, none⟩ = v.cs[j]?) (hk : k < P.nN) :
    Calls Tryz.prog 82 #[.pointer (some ⟨B, 0, none⟩)] w fun e w' => e = .returned (.agg #[.int .i64 v.id, .bool v.up, .int .i64 v.ro, .int .i64 v.ep, .slice v.A v.V.length v.c, .int .i64 v.su, .int .i64 v.ma, .int .i64 v.ot, .int .i64 v.co]) ∧ New w w' := by
  have hw := (New.refl w).alloc (.cells #[.int .i64 0, .bool false, .int .i64 0, .int .i64 0, .slice none 0 0, .int .i64 0, .int .i64 0, .int .i64 0, .int .i64 0] 74)
  have b1 := Blk.mk w w.heap.size 74 #[.int .i64 0, .bool false, .int .i64 0, .int .i64 0, .slice none 0 0, .int .i64 0, .int .i64 0, .int .i64 0, .int .i64 0] rfl
  have HB : Hid (∀ X, New w X → X.cell? ⟨B, 6, none⟩ = some (.slice (some ⟨g, 0, none⟩) P.nN P.cN)) := fun X hX => by
    have h1 := (hb.new hX).cells 6
    rw [h1, ← ha]; rfl
  have HN : Hid (∀ X, New w X → X.cell? ⟨B, 10, none⟩ = some (.int .i64 (k : Int))) := fun X hX => (hb.new hX).cells 10
  have HC0 : Hid (∀ X, New w X → X.cell? ⟨g, k * 9, none⟩ = some (.int .i64 v.id)) := fun X hX => by
    have h0 : w.cell? ⟨g, k * 9, none⟩ = some (.int .i64 v.id) := hv 0 (by omega)
    exact (World.cell?_of_block (hX.block g (World.block_lt_of_cell? w _ h0) (fun f => f))).trans h0
  have HC1 : Hid (∀ X, New w X → X.cell? ⟨g, k * 9 + 1, none⟩ = some (.bool v.up)) := fun X hX => by
    have h0 : w.cell? ⟨g, k * 9 + 1, none⟩ = some (.bool v.up) := hv 1 (by omega)
    exact (World.cell?_of_block (hX.block g (World.block_lt_of_cell? w _ h0) (fun f => f))).trans h0
  have HC2 : Hid (∀ X, New w X → X.cell? ⟨g, k * 9 + 2, none⟩ = some (.int .i64 v.ro)) := fun X hX => by
    have h0 : w.cell? ⟨g, k * 9 + 2, none⟩ = some (.int .i64 v.ro) := hv 2 (by omega)
    exact (World.cell?_of_block (hX.block g (World.block_lt_of_cell? w _ h0) (fun f => f))).trans h0
  have HC3 : Hid (∀ X, New w X → X.cell? ⟨g, k * 9 + 3, none⟩ = some (.int .i64 v.ep)) := fun X hX => by
    have h0 : w.cell? ⟨g, k * 9 + 3, none⟩ = some (.int .i64 v.ep) := hv 3 (by omega)
    exact (World.cell?_of_block (hX.block g (World.block_lt_of_cell? w _ h0) (fun f => f))).trans h0
  have HC4 : Hid (∀ X, New w X → X.cell? ⟨g, k * 9 + 4, none⟩ = some (.slice v.A v.V.length v.c)) := fun X hX => by
    have h0 : w.cell? ⟨g, k * 9 + 4, none⟩ = some (.slice v.A v.V.length v.c) := hv 4 (by omega)
    exact (World.cell?_of_block (hX.block g (World.block_lt_of_cell? w _ h0) (fun f => f))).trans h0
  have HC5 : Hid (∀ X, New w X → X.cell? ⟨g, k * 9 + 5, none⟩ = some (.int .i64 v.su)) := fun X hX => by
    have h0 : w.cell? ⟨g, k * 9 + 5, none⟩ = some (.int .i64 v.su) := hv 5 (by omega)
    exact (World.cell?_of_block (hX.block g (World.block_lt_of_cell? w _ h0) (fun f => f))).trans h0
  have HC6 : Hid (∀ X, New w X → X.cell? ⟨g, k * 9 + 6, none⟩ = some (.int .i64 v.ma)) := fun X hX => by
    have h0 : w.cell? ⟨g, k * 9 + 6, none⟩ = some (.int .i64 v.ma) := hv 6 (by omega)
    exact (World.cell?_of_block (hX.block g (World.block_lt_of_cell? w _ h0) (fun f => f))).trans h0
  have HC7 : Hid (∀ X, New w X → X.cell? ⟨g, k * 9 + 7, none⟩ = some (.int .i64 v.ot)) := fun X hX => by
    have h0 : w.cell? ⟨g, k * 9 + 7, none⟩ = some (.int .i64 v.ot) := hv 7 (by omega)
    exact (World.cell?_of_block (hX.block g (World.block_lt_of_cell? w _ h0) (fun f => f))).trans h0
  have HC8 : Hid (∀ X, New w X → X.cell? ⟨g, k * 9 + 8, none⟩ = some (.int .i64 v.co)) := fun X hX => by
    have h0 : w.cell? ⟨g, k * 9 + 8, none⟩ = some (.int .i64 v.co) := hv 8 (by omega)
    exact (World.cell?_of_block (hX.block g (World.block_lt_of_cell? w _ h0) (fun f => f))).trans h0
  have hki : (k : Int) < (P.nN : Int) := by omega
  have hk0 : (0 : Int) ≤ (k : Int) := by omega
  clear hb ha hv
  go_enter Tryz.func82, Tryz.ntmps82
  go_upto_region 1 with fail
  generalize w.alloc (.cells #[.int .i64 0, .bool false, .int .i64 0, .int .i64 0, .slice none 0 0, .int .i64 0, .int .i64 0, .int .i64 0, .int .i64 0] 74) = w0 at *
  refine hw_start (n := 12) (S := fun X => New w X) rfl (by kernel_rfl) (hw.trans (New.refl w0).drew) (fun hH => ?_)
  have nv0 : New w w0.drew := hw.trans (New.refl w0).drew
  have b1v := b1.new ((New.refl w0).drew)
  generalize w0.drew = v0 at *
  refine' hw_t 0 (some 3) _ rfl rfl nv0 ?hy1 ?rest1
  case hy1 =>
    intro X hX
    go_simp
    try rfl
  simp only [Act.put, pA9, pB9, pC9]
  refine' hw_t 1 (some 4) _ rfl rfl nv0 ?hy2 ?rest2
  case hy2 =>
    intro X hX
    go_simp
    try rfl
  simp only [Act.put, pA9, pB9, pC9]
  refine' hw_t 2 (some 5) _ rfl rfl nv0 ?hy3 ?rest3
  case hy3 =>
    intro X hX
    go_simp
    try rfl
  simp only [Act.put, pA9, pB9, pC9]
  refine' hw_t 3 (some 6) _ rfl rfl nv0 ?hy4 ?rest4
  case hy4 =>
    intro X hX
    go_simp
    try rfl
  simp only [Act.put, pA9, pB9, pC9]
  refine' hw_t 4 (some 7) _ rfl rfl nv0 ?hy5 ?rest5
  case hy5 =>
    intro X hX
    have g6 := HB.out X hX
    go_simp
    try rfl
  simp only [Act.put, pA9, pB9, pC9]
  refine' hw_t 5 (some 8) _ rfl rfl nv0 ?hy6 ?rest6
  case hy6 =>
    intro X hX
    go_simp
    try rfl
  simp only [Act.put, pA9, pB9, pC9]
  refine' hw_t 6 (some 9) _ rfl rfl nv0 ?hy7 ?rest7
  case hy7 =>
    intro X hX
    go_simp
    try rfl
  simp only [Act.put, pA9, pB9, pC9]
  refine' hw_t 7 (some 10) _ rfl rfl nv0 ?hy8 ?rest8
  case hy8 =>
    intro X hX
    go_simp
    try rfl
  simp only [Act.put, pA9, pB9, pC9]
  refine' hw_t 8 (some 11) _ rfl rfl nv0 ?hy9 ?rest9
  case hy9 =>
    intro X hX
    have g10 := HN.out X hX
    go_simp
    try rfl
  simp only [Act.put, pA9, pB9, pC9]
  refine' hw_t 9 (some 12) _ rfl rfl nv0 ?hy10 ?rest10
  case hy10 =>
    intro X hX
    go_simp
    try rfl
  simp only [Act.put, pA9, pB9, pC9]
  refine' hw_t 10 (some 13) _ rfl rfl nv0 ?hy11 ?rest11
  case hy11 =>
    intro X hX
    have q0 := HC0.out X hX
    have q1 := HC1.out X hX
    have q2 := HC2.out X hX
    have q3 := HC3.out X hX
    have q4 := HC4.out X hX
    have q5 := HC5.out X hX
    have q6 := HC6.out X hX
    have q7 := HC7.out X hX
    have q8 := HC8.out X hX
    go_simp
    try rfl
  simp only [Act.put, pA9, pB9, pC9]
  refine hw_call 11 none rfl rfl (by kernel_rfl) (by rfl) (fun K hK => ?_)
  have c1 := b1v.cells
  have f1 := b1v.frees
  go_simp
  have tt := set9any (S := fun x => x = w.heap.size) v0 w.heap.size rfl 0 1 2 3 4 5 6 7 8 (.int .i64 v.id) (.bool v.up) (.int .i64 v.ro) (.int .i64 v.ep) (.slice v.A v.V.length v.c) (.int .i64 v.su) (.int .i64 v.ma) (.int .i64 v.ot) (.int .i64 v.co)
  refine hK.out undef _ (nv0.before tt (fun i hi e => by omega)) (fun _ => ?_)
  try simp only [Act.put, pA9, pB9, pC9]
  refine wpAnyH_done (by kernel_rfl) ?_ _
  go_wp2
  refine bodyPost_ret (v := .agg #[.int .i64 v.id, .bool v.up, .int .i64 v.ro, .int .i64 v.ep, .slice v.A v.V.length v.c, .int .i64 v.su, .int .i64 v.ma, .int .i64 v.ot, .int .i64 v.co]) (by simp [results, Tryz.results82, go_sem, c1]) rfl ?_
  exact ⟨rfl, nv0.before tt (fun i hi e => by omega)⟩

theorem lg_take16 {w : World} {A : Option Addr} {V : List EkV} (h : LgAt w A V) (k : Nat) : LgAt w A (V.take k) := by
  intro i u hu
  rw [List.getElem?_take] at hu
  split at hu
  · exact h i u hu
  · cases hu
theorem nlk_take16 {V : List EkV} (h : NlK V) (k : Nat) : NlK (V.take k) := fun v hv => h v (List.mem_of_mem_take hv)

theorem seal16 (B T : Nat) (P : PrV) (nd pe az ct : Int) (ke : Bool) (dA : Option Addr) (dn dc : Nat) (ek ep : Int) (eA : Option Addr) (en ec : Nat) (yA : Option Addr) (yn yc : Nat) (z1 id1 : Int) (up1 : Bool) (ro1 ep1 su1 ma1 ot1 co1 : Int) (A S : Option Addr) (n c q cs : Nat) (U : List EkV) (b0 b1 : Nat) (col : Nat → Nat) (w : World) (hb : Blk w B 86 (pcCs P nd pe az ct ke dA dn dc ek ep eA en ec yA yn yc)) (ht : Blk w T 76 #[.int .i64 z1, .int .i64 id1, .bool up1, .int .i64 ro1, .int .i64 ep1, .slice A n c, .int .i64 su1, .int .i64 ma1, .int .i64 ot1, .int .i64 co1, .slice S q cs]) (ho : PrOw w b0 b1 col P) (hB : B < b0) (h01 : b0 ≤ b1) (hs : b1 ≤ w.heap.size) (h : LgAt w A U) (hN : NlK U) (hn : U.length = n) (hA : FitK A n c) (hc0 : 0 ≤ co1) (hcn : co1 ≤ n) (hm : n ≤ 2097152) :
    Calls Tryz.prog 121 #[.pointer (some ⟨B, 0, none⟩), .pointer (some ⟨T, 1, none⟩)] w fun e w' => ∃ R col', e = .returned (.tuple #[]) ∧ Blk w' B 86 (pcCs R nd pe az ct ke dA dn dc ek ep eA en ec yA yn yc) ∧ PrOw w' b0 w'.heap.size col' R ∧ Turn (fun x => x = B) w w' ∧ PrE R (P.gS co1 (U.map EkV.r)) := by
  have hTB : ¬ T = B := by
    rintro rfl
    have h1 := (Option.some.inj (hb.symm.trans ht))
    have h2 : (pcCs P nd pe az ct ke dA dn dc ek ep eA en ec yA yn yc).size = (#[.int .i64 z1, .int .i64 id1, .bool up1, .int .i64 ro1, .int .i64 ep1, .slice A n c, .int .i64 su1, .int .i64 ma1, .int .i64 ot1, .int .i64 co1, .slice S q cs] : Array Value).size := by injection h1 with e1 e2; rw [e1]
    simp [pcCs] at h2
  have HT : Hid (∀ X, Turn (fun x => x = B) w X → X.cell? ⟨T, 9, none⟩ = some (.int .i64 co1)) := fun X hX => (ht.turn hX hTB).cells 9
  have HT5 : Hid (∀ X, Turn (fun x => x = B) w X → X.cell? ⟨T, 5, none⟩ = some (.slice A n c)) := fun X hX => (ht.turn hX hTB).cells 5
  have HB : Hid (∀ X, New w X → X.cell? ⟨B, 9, none⟩ = some (.slice P.aS P.nS P.cS)) := fun X hX => (hb.new hX).cells 9
  have Hb : Hid (Blk w B 86 (pcCs P nd pe az ct ke dA dn dc ek ep eA en ec yA yn yc)) := hb
  have Ho : Hid (PrOw w b0 b1 col P) := ho
  have Hh : Hid (LgAt w A U) := h
  have HN : Hid (NlK U) := hN
  have nw : New w w := New.refl w
  clear hb ht ho h hN
  by_cases hlt : (P.nS : Int) < co1
  · obtain ⟨k, rfl⟩ : ∃ k : Nat, co1 = k := ⟨co1.toNat, by omega⟩
    obtain ⟨g, rfl⟩ : ∃ g, A = some ⟨g, 0, none⟩ := by
      rcases hA.2 with ⟨-, e, -⟩ | h
      · omega
      · exact h
    have hnc := hA.1
    have HLT : Hid ((P.nS : Int) < (k : Int)) := hlt
    have Hn : Hid (U.length = n) := hn
    clear hn
    have hd : decide (P.nS < k) = true := by simp only [decide_eq_true_eq]; omega
    have k0 : (0 : Int) ≤ (k : Int) := by omega
    have k1 : (k : Int) ≤ (c : Int) := by omega
    have k2 : ¬ (k : Int) < 0 := by omega
    clear hlt hA hc0
    go_enter Tryz.func121, Tryz.ntmps121
    go_upto_region 0 with fail
    refine hw_start (n := 10) (S := fun X => New w X) rfl (by kernel_rfl) ((New.refl w).drew) (fun hH => ?_)
    have nv0 : New w w.drew := (New.refl w).drew
    generalize w.drew = v0 at *
    refine' hw_t 0 (some 4) _ rfl rfl nv0 ?hy12 ?rest12
    case hy12 =>
      intro X hX
      go_simp
      try rfl
    simp only [Act.put, pA9, pB9, pC9]
    refine' hw_t 1 (some 5) _ rfl rfl nv0 ?hy13 ?rest13
    case hy13 =>
      intro X hX
      go_simp
      try rfl
    simp only [Act.put, pA9, pB9, pC9]
    refine' hw_t 2 (some 6) _ rfl rfl nv0 ?hy14 ?rest14
    case hy14 =>
      intro X hX
      go_simp
      try rfl
    simp only [Act.put, pA9, pB9, pC9]
    refine' hw_t 3 (some 7) _ rfl rfl nv0 ?hy15 ?rest15
    case hy15 =>
      intro X hX
      have g9 := HT.out X hX.turn
      go_simp
      try rfl
    simp only [Act.put, pA9, pB9, pC9]
    refine' hw_t 4 (some 8) _ rfl rfl nv0 ?hy16 ?rest16
    case hy16 =>
      intro X hX
      go_simp
      try rfl
    simp only [Act.put, pA9, pB9, pC9]
    refine' hw_t 5 (some 9) _ rfl rfl nv0 ?hy17 ?rest17
    case hy17 =>
      intro X hX
      go_simp
      try rfl
    simp only [Act.put, pA9, pB9, pC9]
    refine' hw_t 6 (some 10) _ rfl rfl nv0 ?hy18 ?rest18
    case hy18 =>
      intro X hX
      go_simp
      try rfl
    simp only [Act.put, pA9, pB9, pC9]
    refine' hw_t 7 (some 11) _ rfl rfl nv0 ?hy19 ?rest19
    case hy19 =>
      intro X hX
      have g9 := HB.out X hX
      go_simp
      try rfl
    simp only [Act.put, pA9, pB9, pC9]
    refine' hw_t 8 (some 12) _ rfl rfl nv0 ?hy20 ?rest20
    case hy20 =>
      intro X hX
      go_simp
      try rfl
    simp only [Act.put, pA9, pB9, pC9]
    refine' hw_t 9 (some 13) _ rfl rfl nv0 ?hy21 ?rest21
    case hy21 =>
      intro X hX
      go_simp
      try rfl
    simp only [Act.put, pA9, pB9, pC9]
    refine wpAnyH_done (by kernel_rfl) ?_ _
    go_upto_region 1 with fail
    refine hw_start (n := 14) (S := fun X => Turn (fun x => x = B) w X) rfl (by kernel_rfl) ((nv0.trans (New.refl v0).drew).turn) (fun hH => ?_)
    have nv1 : New w v0.drew := nv0.trans (New.refl v0).drew
    generalize v0.drew = v1 at *
    refine' hw_t 0 (some 14) _ rfl rfl nv1.turn ?hy22 ?rest22
    case hy22 =>
      intro X hX
      go_simp
      try rfl
    simp only [Act.put, pA9, pB9, pC9]
    refine' hw_t 1 (some 15) _ rfl rfl nv1.turn ?hy23 ?rest23
    case hy23 =>
      intro X hX
      go_simp
      try rfl
    simp only [Act.put, pA9, pB9, pC9]
    refine' hw_t 2 (some 16) _ rfl rfl nv1.turn ?hy24 ?rest24
    case hy24 =>
      intro X hX
      go_simp
      try rfl
    simp only [Act.put, pA9, pB9, pC9]
    refine' hw_t 3 (some 17) _ rfl rfl nv1.turn ?hy25 ?rest25
    case hy25 =>
      intro X hX
      go_simp
      try rfl
    simp only [Act.put, pA9, pB9, pC9]
    refine' hw_t 4 (some 18) _ rfl rfl nv1.turn ?hy26 ?rest26
    case hy26 =>
      intro X hX
      have g5 := HT5.out X hX
      go_simp
      try rfl
    simp only [Act.put, pA9, pB9, pC9]
    refine' hw_t 5 (some 19) _ rfl rfl nv1.turn ?hy27 ?rest27
    case hy27 =>
      intro X hX
      go_simp
      try rfl
    simp only [Act.put, pA9, pB9, pC9]
    refine' hw_t 6 (some 20) _ rfl rfl nv1.turn ?hy28 ?rest28
    case hy28 =>
      intro X hX
      go_simp
      try rfl
    simp only [Act.put, pA9, pB9, pC9]
    refine' hw_t 7 (some 21) _ rfl rfl nv1.turn ?hy29 ?rest29
    case hy29 =>
      intro X hX
      go_simp
      try rfl
    simp only [Act.put, pA9, pB9, pC9]
    refine' hw_t 8 (some 22) _ rfl rfl nv1.turn ?hy30 ?rest30
    case hy30 =>
      intro X hX
      have g9 := HT.out X hX
      go_simp
      try rfl
    simp only [Act.put, pA9, pB9, pC9]
    refine' hw_t 9 (some 23) _ rfl rfl nv1.turn ?hy31 ?rest31
    case hy31 =>
      intro X hX
      go_simp
      try rfl
    simp only [Act.put, pA9, pB9, pC9]
    refine hw_call 10 (some 24) rfl rfl (by kernel_rfl) (by rfl) (fun K hK => ?_)
    go_simp
    refine (copyLg_any (some ⟨g, 0, none⟩) k c (U.take k) _ (lg_take16 (Hh.out.new nv1) k) (nlk_take16 HN.out k) (by rw [List.length_take, Hn.out]; omega) (by omega)).mono ?_
    rintro e v2 ⟨u, V', rfl, eV, oV, hn2⟩
    have hl : V'.length = k := by
      have h1 := congrArg List.length eV
      simp only [List.length_map, List.length_take, Hn.out] at h1
      omega
    obtain ⟨y, dd, hform, -, -⟩ := row9_form oV.row
    rw [hl] at hform
    subst hform
    have nv2 := nv1.trans hn2
    refine hK.out _ _ nv2.turn (fun _ => ?_)
    simp only [Act.put, pA9, pB9, pC9]
    refine' hw_t 11 (some 25) _ rfl rfl nv2.turn ?hy32 ?rest32
    case hy32 =>
      intro X hX
      go_simp
      try rfl
    simp only [Act.put, pA9, pB9, pC9]
    refine' hw_t 12 (some 26) _ rfl rfl nv2.turn ?hy33 ?rest33
    case hy33 =>
      intro X hX
      go_simp
      try rfl
    simp only [Act.put, pA9, pB9, pC9]
    refine hw_call 13 none rfl rfl (by kernel_rfl) (by rfl) (fun K hK => ?_)
    have bB := Hb.out.new nv2
    have g9 : v2.cell? ⟨B, 9, none⟩ = some (.slice P.aS P.nS P.cS) := HB.out v2 nv2
    have fB := bB.frees
    go_simp
    have t9 : Turn (fun x => x = B) v2 (v2.setCell ⟨B, 9, none⟩ (.slice y k dd)) := (Turn.refl (fun x => x = B) v2).set (p := ⟨B, 9, none⟩) rfl _
    have tw : Turn (fun x => x = B) w (v2.setCell ⟨B, 9, none⟩ (.slice y k dd)) := Turn.trans nv2.turn t9 (fun _ _ h => h)
    refine hK.out undef _ tw (fun _ => ?_)
    try simp only [Act.put, pA9, pB9, pC9]
    refine wpAnyH_done (by kernel_rfl) ?_ _
    have b9 := bB.set 9 (.slice y k dd)
    have s9 := t9.size
    have z1' := nv1.size
    have z2' := hn2.size
    have kc : ((k : Int)).toNat = k := by omega
    have o9 := ((Ho.out.new nv2).turn t9 (by intro x h1 h2 e; omega)).setS (a := y) (n := k) (c := dd) (U := V') (oV.turn t9 (by intro x h1 h2 e; omega)) (by omega) s9 (by omega) h01
    refine bodyPost_end (results_none rfl _ _ _) rfl ?_
    refine ⟨P.setS y k dd V', _, rfl, b9, o9, tw, ?_⟩
    have e9 := gS_yes (P := P) (co := (k : Int)) HLT.out (L := U.map EkV.r) (U := V') (by rw [eV, List.map_take, kc]) y dd
    rw [kc] at e9
    exact e9
  · have HLT : Hid (¬ (P.nS : Int) < co1) := hlt
    have hd : decide ((P.nS : Int) < co1) = false := by simp only [decide_eq_false_iff_not]; exact hlt
    clear hlt
    go_enter Tryz.func121, Tryz.ntmps121
    go_upto_region 0 with fail
    refine hw_start (n := 10) (S := fun X => New w X) rfl (by kernel_rfl) ((New.refl w).drew) (fun hH => ?_)
    have nv0 : New w w.drew := (New.refl w).drew
    generalize w.drew = v0 at *
    refine' hw_t 0 (some 4) _ rfl rfl nv0 ?hy34 ?rest34
    case hy34 =>
      intro X hX
      go_simp
      try rfl
    simp only [Act.put, pA9, pB9, pC9]
    refine' hw_t 1 (some 5) _ rfl rfl nv0 ?hy35 ?rest35
    case hy35 =>
      intro X hX
      go_simp
      try rfl
    simp only [Act.put, pA9, pB9, pC9]
    refine' hw_t 2 (some 6) _ rfl rfl nv0 ?hy36 ?rest36
    case hy36 =>
      intro X hX
      go_simp
      try rfl
    simp only [Act.put, pA9, pB9, pC9]
    refine' hw_t 3 (some 7) _ rfl rfl nv0 ?hy37 ?rest37
    case hy37 =>
      intro X hX
      have g9 := HT.out X hX.turn
      go_simp
      try rfl
    simp only [Act.put, pA9, pB9, pC9]
    refine' hw_t 4 (some 8) _ rfl rfl nv0 ?hy38 ?rest38
    case hy38 =>
      intro X hX
      go_simp
      try rfl
    simp only [Act.put, pA9, pB9, pC9]
    refine' hw_t 5 (some 9) _ rfl rfl nv0 ?hy39 ?rest39
    case hy39 =>
      intro X hX
      go_simp
      try rfl
    simp only [Act.put, pA9, pB9, pC9]
    refine' hw_t 6 (some 10) _ rfl rfl nv0 ?hy40 ?rest40
    case hy40 =>
      intro X hX
      go_simp
      try rfl
    simp only [Act.put, pA9, pB9, pC9]
    refine' hw_t 7 (some 11) _ rfl rfl nv0 ?hy41 ?rest41
    case hy41 =>
      intro X hX
      have g9 := HB.out X hX
      go_simp
      try rfl
    simp only [Act.put, pA9, pB9, pC9]
    refine' hw_t 8 (some 12) _ rfl rfl nv0 ?hy42 ?rest42
    case hy42 =>
      intro X hX
      go_simp
      try rfl
    simp only [Act.put, pA9, pB9, pC9]
    refine' hw_t 9 (some 13) _ rfl rfl nv0 ?hy43 ?rest43
    case hy43 =>
      intro X hX
      go_simp
      try rfl
    simp only [Act.put, pA9, pB9, pC9]
    refine wpAnyH_done (by kernel_rfl) ?_ _
    go_wp2
    refine bodyPost_end (results_none rfl _ _ _) rfl ?_
    exact ⟨rfl, P, Hb.out.new nv0, ⟨col, (Ho.out.new nv0).up (Nat.le_trans hs nv0.size)⟩, nv0.turn, gS_no (by have := HLT.out; omega) _⟩

end Go.Proofs.YtdbnmkffinhdjaaGreat
