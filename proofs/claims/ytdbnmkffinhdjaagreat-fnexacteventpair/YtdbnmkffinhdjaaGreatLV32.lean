/- Lemmas and contracts of one law. -/
import Derived.Test.YtdbnmkffinhdjaaGreatLV31
import Derived.Test.YtdbnmkffinhdjaaGreatLV24
namespace Go.Proofs.YtdbnmkffinhdjaaGreat
open Go.ChangeShapes Go.WideShapes Go.ChangeAt Go.RowKit Go.Deep Go.Sort
set_option linter.unusedVariables false
set_option linter.unusedSimpArgs false
set_option maxRecDepth 100000
set_option maxHeartbeats 25600000

theorem PrOw.rowM {w : World} {b0 b1 : Nat} {col : Nat → Nat} {P : PrV} (h : PrOw w b0 b1 col P) : w.ownsRow 0 120 10 (.slice P.aM P.nM P.cM) P.nM (cellsMq P.VM) := by
  rcases h.oQ with ⟨e1, e2, e3, e4⟩ | ⟨g, e, q⟩
  · rw [e1, e2, e3, e4]; exact ⟨rfl, .inl ⟨rfl, rfl⟩⟩
  · rw [e]; exact q.row
theorem mlv_one (m : MlV) : ∀ u ∈ m.cs, u.oneCell' = true := by
  intro u hu
  simp only [MlV.cs, List.mem_cons, List.not_mem_nil, or_false] at hu
  rcases hu with rfl | rfl | rfl | rfl | rfl | rfl | rfl | rfl | rfl | rfl <;> rfl
/-- A pair at whose node k that was done, and which tells it. -/
def GoO (P : PrV) (k : Nat) (a : NA) (z : Int) (R : PrV) : Prop := (¬ a.z = 0 ∧ z = a.z) ∨ (a.z = 0 ∧ z = 0 ∧ PrE R (P.gone k a))

theorem goOn16 (B k : Nat) (P : PrV) (nd pe az ct : Int) (ke : Bool) (dA : Option Addr) (dn dc : Nat) (ek ep : Int) (eA : Option Addr) (en ec : Nat) (yA : Option Addr) (yn yc : Nat) (a : NA) (A S : Option Addr) (c cs : Nat) (U : List EkV) (Ms : List MlV) (b0 b1 bx by' : Nat) (col : Nat → Nat) (w : World) (hb : Blk w B 86 (pcCs P nd pe az ct ke dA dn dc ek ep eA en ec yA yn yc)) (ho : PrOw w b0 b1 col P) (hl : PrL P) (hk : k < P.nN) (hB : B < b0) (h01 : b0 ≤ b1) (hs : by' ≤ w.heap.size) (hx : b1 ≤ bx) (hxy : bx ≤ by') (hO : NrOw w bx by' A a.L.length c U S a.M.length cs Ms) (hU : U.map EkV.r = a.L) (hM : Ms.map MlV.m = a.M) (hG : a.z = 0 → a.Good) :
    Calls Tryz.prog 80 #[.pointer (some ⟨B, 0, none⟩), .int .i64 (k : Int), .agg #[.int .i64 a.z, .int .i64 a.id, .bool a.up, .int .i64 a.ro, .int .i64 a.ep, .slice A a.L.length c, .int .i64 a.su, .int .i64 a.ma, .int .i64 a.ot, .int .i64 a.co, .slice S a.M.length cs]] w fun e w' => ∃ R z col', e = .returned (.int .i64 z) ∧ Blk w' B 86 (pcCs R nd pe az ct ke dA dn dc ek ep eA en ec yA yn yc) ∧ PrOw w' b0 w'.heap.size col' R ∧ Turn (fun x => x = B ∨ b0 ≤ x) w w' ∧ GoO P k a z R := by
  have hw := (New.refl w).alloc (.cells #[.int .i64 a.z, .int .i64 a.id, .bool a.up, .int .i64 a.ro, .int .i64 a.ep, .slice A a.L.length c, .int .i64 a.su, .int .i64 a.ma, .int .i64 a.ot, .int .i64 a.co, .slice S a.M.length cs] 76)
  have b1' := Blk.mk w w.heap.size 76 #[.int .i64 a.z, .int .i64 a.id, .bool a.up, .int .i64 a.ro, .int .i64 a.ep, .slice A a.L.length c, .int .i64 a.su, .int .i64 a.ma, .int .i64 a.ot, .int .i64 a.co, .slice S a.M.length cs] rfl
  have hb' := hb.new hw
  have hlt := hb.lt
  have s0 : (w.alloc (.cells #[.int .i64 a.z, .int .i64 a.id, .bool a.up, .int .i64 a.ro, .int .i64 a.ep, .slice A a.L.length c, .int .i64 a.su, .int .i64 a.ma, .int .i64 a.ot, .int .i64 a.co, .slice S a.M.length cs] 76)).heap.size = w.heap.size + 1 := by simp
  have ho' := ho.new hw
  have hO' := hO.new hw
  have HL : Hid (PrL P) := hl
  have HG : Hid (a.z = 0 → a.Good) := hG
  have HU : Hid (U.map EkV.r = a.L) := hU
  have HM : Hid (Ms.map MlV.m = a.M) := hM
  clear hb ho hl hG hU hM hO
  go_enter Tryz.func80, Tryz.ntmps80
  go_upto_region 1 with fail
  generalize w.alloc (.cells #[.int .i64 a.z, .int .i64 a.id, .bool a.up, .int .i64 a.ro, .int .i64 a.ep, .slice A a.L.length c, .int .i64 a.su, .int .i64 a.ma, .int .i64 a.ot, .int .i64 a.co, .slice S a.M.length cs] 76) = w0 at *
  have cT := b1'.cells
  by_cases hz : a.z = 0
  case neg =>
    have HZ : Hid (¬ a.z = 0) := hz
    have hzb : (a.z != 0) = true := by simp [hz]
    go_wp2
    go_ret
    exact ⟨P, a.z, col, rfl, hb', (ho'.up (by omega)), hw.turn, .inl ⟨HZ.out, rfl⟩⟩
  have g0 := HG.out hz
  have HZ : Hid (a.z = 0) := hz
  have hzb : (a.z != 0) = false := by simp [hz]
  clear hz HG
  go_upto_region 3 with fail
  clear hzb cT
  have hT1 := HU.out
  -- the row of nodes
  obtain ⟨g, Pf, Qf, ea, oN⟩ : ∃ g Pf Qf, P.aN = some ⟨g, 0, none⟩ ∧ OwN1 w0 (Cl col b0 b1 1) g P.nN P.cN Pf Qf P.VN := by
    rcases ho'.oN with ⟨-, e, -⟩ | h
    · omega
    · exact h
  have gB : ¬ B = g := by have := oN.glo.2.1; omega
  have gT : ¬ w.heap.size = g := by have := oN.glo.2.2; omega
  have HB : Hid (∀ X, Turn (fun x => x = g) w0 X → X.cell? ⟨B, 6, none⟩ = some (.slice (some ⟨g, 0, none⟩) P.nN P.cN)) := fun X hX => by
    have h1 := (hb'.turn hX gB).cells 6
    rw [h1, ← ea]; rfl
  have HC0 : Hid (∀ X, Turn (fun x => x = g) w0 X → X.cell? ⟨w.heap.size, 1, none⟩ = some (.int .i64 a.id)) := fun X hX => (b1'.turn hX gT).cells 1
  have HC1 : Hid (∀ X, Turn (fun x => x = g) w0 X → X.cell? ⟨w.heap.size, 2, none⟩ = some (.bool a.up)) := fun X hX => (b1'.turn hX gT).cells 2
  have HC2 : Hid (∀ X, Turn (fun x => x = g) w0 X → X.cell? ⟨w.heap.size, 3, none⟩ = some (.int .i64 a.ro)) := fun X hX => (b1'.turn hX gT).cells 3
  have HC3 : Hid (∀ X, Turn (fun x => x = g) w0 X → X.cell? ⟨w.heap.size, 4, none⟩ = some (.int .i64 a.ep)) := fun X hX => (b1'.turn hX gT).cells 4
  have HC4 : Hid (∀ X, Turn (fun x => x = g) w0 X → X.cell? ⟨w.heap.size, 5, none⟩ = some (.slice A a.L.length c)) := fun X hX => (b1'.turn hX gT).cells 5
  have HC5 : Hid (∀ X, Turn (fun x => x = g) w0 X → X.cell? ⟨w.heap.size, 6, none⟩ = some (.int .i64 a.su)) := fun X hX => (b1'.turn hX gT).cells 6
  have HC6 : Hid (∀ X, Turn (fun x => x = g) w0 X → X.cell? ⟨w.heap.size, 7, none⟩ = some (.int .i64 a.ma)) := fun X hX => (b1'.turn hX gT).cells 7
  have HC7 : Hid (∀ X, Turn (fun x => x = g) w0 X → X.cell? ⟨w.heap.size, 8, none⟩ = some (.int .i64 a.ot)) := fun X hX => (b1'.turn hX gT).cells 8
  have HC8 : Hid (∀ X, Turn (fun x => x = g) w0 X → X.cell? ⟨w.heap.size, 9, none⟩ = some (.int .i64 a.co)) := fun X hX => (b1'.turn hX gT).cells 9
  have hki : (k : Int) < (P.nN : Int) := by omega
  have hk0 : (0 : Int) ≤ (k : Int) := by omega
  have hrow := oN.row
  have f0 := fun q => World.ownsRow.frozenAt hrow q
  have lrow := hrow.1
  rw [cellsNd_len] at lrow
  have lVN := HL.out.lN
  obtain ⟨y0, cy0⟩ : ∃ y, w0.cell? ⟨g, k * 9, none⟩ = some y := ⟨_, (World.ownsRow.cellAt hrow (k * 9) (by omega)).trans (List.getElem?_eq_getElem (by rw [cellsNd_len]; omega))⟩
  obtain ⟨y1, cy1⟩ : ∃ y, w0.cell? ⟨g, k * 9 + 1, none⟩ = some y := ⟨_, (World.ownsRow.cellAt hrow (k * 9 + 1) (by omega)).trans (List.getElem?_eq_getElem (by rw [cellsNd_len]; omega))⟩
  obtain ⟨y2, cy2⟩ : ∃ y, w0.cell? ⟨g, k * 9 + 2, none⟩ = some y := ⟨_, (World.ownsRow.cellAt hrow (k * 9 + 2) (by omega)).trans (List.getElem?_eq_getElem (by rw [cellsNd_len]; omega))⟩
  obtain ⟨y3, cy3⟩ : ∃ y, w0.cell? ⟨g, k * 9 + 3, none⟩ = some y := ⟨_, (World.ownsRow.cellAt hrow (k * 9 + 3) (by omega)).trans (List.getElem?_eq_getElem (by rw [cellsNd_len]; omega))⟩
  obtain ⟨y4, cy4⟩ : ∃ y, w0.cell? ⟨g, k * 9 + 4, none⟩ = some y := ⟨_, (World.ownsRow.cellAt hrow (k * 9 + 4) (by omega)).trans (List.getElem?_eq_getElem (by rw [cellsNd_len]; omega))⟩
  obtain ⟨y5, cy5⟩ : ∃ y, w0.cell? ⟨g, k * 9 + 5, none⟩ = some y := ⟨_, (World.ownsRow.cellAt hrow (k * 9 + 5) (by omega)).trans (List.getElem?_eq_getElem (by rw [cellsNd_len]; omega))⟩
  obtain ⟨y6, cy6⟩ : ∃ y, w0.cell? ⟨g, k * 9 + 6, none⟩ = some y := ⟨_, (World.ownsRow.cellAt hrow (k * 9 + 6) (by omega)).trans (List.getElem?_eq_getElem (by rw [cellsNd_len]; omega))⟩
  obtain ⟨y7, cy7⟩ : ∃ y, w0.cell? ⟨g, k * 9 + 7, none⟩ = some y := ⟨_, (World.ownsRow.cellAt hrow (k * 9 + 7) (by omega)).trans (List.getElem?_eq_getElem (by rw [cellsNd_len]; omega))⟩
  obtain ⟨y8, cy8⟩ : ∃ y, w0.cell? ⟨g, k * 9 + 8, none⟩ = some y := ⟨_, (World.ownsRow.cellAt hrow (k * 9 + 8) (by omega)).trans (List.getElem?_eq_getElem (by rw [cellsNd_len]; omega))⟩
  have HLV : Hid (P.VN.length = P.nN) := lVN
  clear lVN lrow
  refine hw_start (n := 10) (S := fun X => Turn (fun x => x = g) w0 X) rfl (by kernel_rfl) ((New.refl w0).drew.turn) (fun hH => ?_)
  have nv0 : New w0 w0.drew := (New.refl w0).drew
  have dy0 : w0.drew.cell? ⟨g, k * 9, none⟩ = some y0 := cy0
  have dy1 : w0.drew.cell? ⟨g, k * 9 + 1, none⟩ = some y1 := cy1
  have dy2 : w0.drew.cell? ⟨g, k * 9 + 2, none⟩ = some y2 := cy2
  have dy3 : w0.drew.cell? ⟨g, k * 9 + 3, none⟩ = some y3 := cy3
  have dy4 : w0.drew.cell? ⟨g, k * 9 + 4, none⟩ = some y4 := cy4
  have dy5 : w0.drew.cell? ⟨g, k * 9 + 5, none⟩ = some y5 := cy5
  have dy6 : w0.drew.cell? ⟨g, k * 9 + 6, none⟩ = some y6 := cy6
  have dy7 : w0.drew.cell? ⟨g, k * 9 + 7, none⟩ = some y7 := cy7
  have dy8 : w0.drew.cell? ⟨g, k * 9 + 8, none⟩ = some y8 := cy8
  have fd : ∀ q, w0.drew.frozen? ⟨g, q, none⟩ = false := f0
  generalize w0.drew = u0 at *
  clear f0 cy0 cy1 cy2 cy3 cy4 cy5 cy6 cy7 cy8
  refine' hw_t 0 (some 14) _ rfl rfl nv0.turn ?hy1 ?rest1
  case hy1 =>
    intro X hX
    go_simp
    try rfl
  simp only [Act.put, pA9, pB9, pC9]
  refine' hw_t 1 (some 15) _ rfl rfl nv0.turn ?hy2 ?rest2
  case hy2 =>
    intro X hX
    go_simp
    try rfl
  simp only [Act.put, pA9, pB9, pC9]
  refine' hw_t 2 (some 16) _ rfl rfl nv0.turn ?hy3 ?rest3
  case hy3 =>
    intro X hX
    go_simp
    try rfl
  simp only [Act.put, pA9, pB9, pC9]
  refine' hw_t 3 (some 17) _ rfl rfl nv0.turn ?hy4 ?rest4
  case hy4 =>
    intro X hX
    go_simp
    try rfl
  simp only [Act.put, pA9, pB9, pC9]
  refine' hw_t 4 (some 18) _ rfl rfl nv0.turn ?hy5 ?rest5
  case hy5 =>
    intro X hX
    have q6 := HB.out X hX
    go_simp
    try rfl
  simp only [Act.put, pA9, pB9, pC9]
  refine' hw_t 5 (some 19) _ rfl rfl nv0.turn ?hy6 ?rest6
  case hy6 =>
    intro X hX
    go_simp
    try rfl
  simp only [Act.put, pA9, pB9, pC9]
  refine' hw_t 6 (some 20) _ rfl rfl nv0.turn ?hy7 ?rest7
  case hy7 =>
    intro X hX
    go_simp
    try rfl
  simp only [Act.put, pA9, pB9, pC9]
  refine' hw_t 7 (some 21) _ rfl rfl nv0.turn ?hy8 ?rest8
  case hy8 =>
    intro X hX
    have q0 := HC0.out X hX
    have q1 := HC1.out X hX
    have q2 := HC2.out X hX
    have q3 := HC3.out X hX
    have q4 := HC4.out X hX
    have q5 := HC5.out X hX
    have q6 := HC6.out X hX
    have q7 := HC7.out X hX
    have q8 := HC8.out X hX
    go_simp
    try rfl
  simp only [Act.put, pA9, pB9, pC9]
  refine' hw_t 8 (some 22) _ rfl rfl nv0.turn ?hy9 ?rest9
  case hy9 =>
    intro X hX
    go_simp
    try rfl
  simp only [Act.put, pA9, pB9, pC9]
  refine hw_call 9 none rfl rfl (by kernel_rfl) (by rfl) (fun K hK => ?_)
  go_simp
  have hr0 := row9_turn hrow nv0.turn (fun _ _ f => f)
  have hr1 := (World.ownsRow.stored hr0 (k * 9) (.int .i64 a.id)).1
  have hr2 := (World.ownsRow.stored hr1 (k * 9 + 1) (.bool a.up)).1
  have hr3 := (World.ownsRow.stored hr2 (k * 9 + 2) (.int .i64 a.ro)).1
  have hr4 := (World.ownsRow.stored hr3 (k * 9 + 3) (.int .i64 a.ep)).1
  have hr5 := (World.ownsRow.stored hr4 (k * 9 + 4) (.slice A a.L.length c)).1
  have hr6 := (World.ownsRow.stored hr5 (k * 9 + 5) (.int .i64 a.su)).1
  have hr7 := (World.ownsRow.stored hr6 (k * 9 + 6) (.int .i64 a.ma)).1
  have hr8 := (World.ownsRow.stored hr7 (k * 9 + 7) (.int .i64 a.ot)).1
  have hr9 := (World.ownsRow.stored hr8 (k * 9 + 8) (.int .i64 a.co)).1
  have t9 := set9any (S := fun x => x = g) u0 g rfl (k * 9) (k * 9 + 1) (k * 9 + 2) (k * 9 + 3) (k * 9 + 4) (k * 9 + 5) (k * 9 + 6) (k * 9 + 7) (k * 9 + 8) (.int .i64 a.id) (.bool a.up) (.int .i64 a.ro) (.int .i64 a.ep) (.slice A a.L.length c) (.int .i64 a.su) (.int .i64 a.ma) (.int .i64 a.ot) (.int .i64 a.co)
  have tw := Turn.trans nv0.turn t9 (fun _ _ h => h)
  have hset := cellsNd_set9 P.VN k (a.v A c U) (by have := HLV.out; omega)
  have hUl : U.length = a.L.length := by have := congrArg List.length HU.out; simpa using this
  simp only [NA.v, hUl] at hset
  rw [hset] at hr9
  clear hset hr0 hr1 hr2 hr3 hr4 hr5 hr6 hr7 hr8 dy0 dy1 dy2 dy3 dy4 dy5 dy6 dy7 dy8 HC0 HC1 HC2 HC3 HC4 HC5 HC6 HC7 HC8
  refine hK.out undef _ tw (fun _ => ?_)
  try simp only [Act.put, pA9, pB9, pC9]
  refine wpAnyH_done (by kernel_rfl) ?_ _
  obtain ⟨lo, hi, Pm, oL, oS, dP, rP, rlo, rhi⟩ := hO'
  have z9 := t9.size
  have zv := nv0.size
  have HB9 := (hb'.new nv0).turn t9 gB
  have HT9 := (b1'.new nv0).turn t9 gT
  have oL9 := (oL.new nv0).turn t9 (by have := oN.glo.2.2; intro x h1 h2 e; omega)
  have oS9 := (oS.new nv0).turn t9 (by have := oN.glo.2.2; intro x h1 e; have := rP x h1; omega)
  have PO9 := (ho'.new nv0).setN (v := a.v A c U) ea t9 hr9 (by show OwL _ lo hi (.slice A U.length c) U; rw [hUl]; exact oL9) (by have := g0.tt U HU.out; show totK U ≤ 1048576; omega) (.inl (by omega)) (Nat.le_refl b0) (by omega) rhi (by omega)
  have tn9 : Turn (fun x => x = B ∨ b0 ≤ x) w (((((((((u0.setCell ⟨g, k * 9, none⟩ (.int .i64 a.id)).setCell ⟨g, k * 9 + 1, none⟩ (.bool a.up)).setCell ⟨g, k * 9 + 2, none⟩ (.int .i64 a.ro)).setCell ⟨g, k * 9 + 3, none⟩ (.int .i64 a.ep)).setCell ⟨g, k * 9 + 4, none⟩ (.slice A a.L.length c)).setCell ⟨g, k * 9 + 5, none⟩ (.int .i64 a.su)).setCell ⟨g, k * 9 + 6, none⟩ (.int .i64 a.ma)).setCell ⟨g, k * 9 + 7, none⟩ (.int .i64 a.ot)).setCell ⟨g, k * 9 + 8, none⟩ (.int .i64 a.co)) := Turn.trans (Turn.trans hw.turn nv0.turn (fun _ _ h => h)) (t9.mono (fun x _ e => .inr (by have := oN.glo.2.1; omega))) (fun _ _ h => h)
  clear hrow hr9 fd HB oN t9 tw ho' hb' b1' oL oS
  generalize ((((((((u0.setCell ⟨g, k * 9, none⟩ (.int .i64 a.id)).setCell ⟨g, k * 9 + 1, none⟩ (.bool a.up)).setCell ⟨g, k * 9 + 2, none⟩ (.int .i64 a.ro)).setCell ⟨g, k * 9 + 3, none⟩ (.int .i64 a.ep)).setCell ⟨g, k * 9 + 4, none⟩ (.slice A a.L.length c)).setCell ⟨g, k * 9 + 5, none⟩ (.int .i64 a.su)).setCell ⟨g, k * 9 + 6, none⟩ (.int .i64 a.ma)).setCell ⟨g, k * 9 + 7, none⟩ (.int .i64 a.ot)).setCell ⟨g, k * 9 + 8, none⟩ (.int .i64 a.co) = w9 at *
  have sz9 : by' ≤ w9.heap.size := by omega
  have hBT : ¬ w.heap.size = B := by omega
  have HE : Hid (PrE (P.setN k (a.v A c U)) (P.setN k (a.v none 0 (a.L.map ekOf)))) := (PrE.refl P).setN (by simp only [NA.v, NdV.r, ekOf_map, HU.out])
  generalize hP1 : P.setN k (a.v A c U) = P1 at *
  have eM1 : P1.aM = P.aM := by rw [← hP1]; rfl
  have LM1 : P1.VM.length = P1.nM := by rw [← hP1]; exact HL.out.lM
  have mM1 : P1.nM ≤ 1048576 := by rw [← hP1]; exact HL.out.mM
  generalize hcol1 : (fun x => if b0 ≤ x ∧ x < b1 then col x else if lo ≤ x ∧ x < hi then 1 else 0) = col1 at *
  have colM : ∀ x, Pm x → col1 x = 0 := by
    intro x hx'
    have h1 := rP x hx'
    have h2 := dP x hx'
    rw [← hcol1]
    simp only [if_neg (show ¬ (b0 ≤ x ∧ x < b1) by omega), if_neg h2]
  have hb9 : Hid (Blk w9 B 86 (pcCs P1 nd pe az ct ke dA dn dc ek ep eA en ec yA yn yc)) := by
    have e : pcCs P nd pe az ct ke dA dn dc ek ep eA en ec yA yn yc = pcCs P1 nd pe az ct ke dA dn dc ek ep eA en ec yA yn yc := by rw [← hP1]; rfl
    show Blk w9 B 86 (pcCs P1 nd pe az ct ke dA dn dc ek ep eA en ec yA yn yc)
    rw [← e]; exact HB9
  have HT : Hid (Blk w9 w.heap.size 76 #[.int .i64 a.z, .int .i64 a.id, .bool a.up, .int .i64 a.ro, .int .i64 a.ep, .slice A a.L.length c, .int .i64 a.su, .int .i64 a.ma, .int .i64 a.ot, .int .i64 a.co, .slice S a.M.length cs]) := HT9
  have LU : Hid (U.length = a.L.length) := hUl
  have fA := owl_fit oL9
  have nlU := oL9.nl
  have FA : Hid (FitK A a.L.length c) := fA
  have OLU : Hid (OwL w9 lo hi (.slice A a.L.length c) U) := oL9
  have NLU : Hid (NlK U) := nlU
  have LM9 : Hid (P1.VM.length = P1.nM) := LM1
  have SO : Hid (SdOw w9 Pm S a.M.length cs Ms) := oS9
  have PO : Hid (PrOw w9 b0 by' col1 P1) := PO9
  have TN9 : Hid (Turn (fun x => x = B ∨ b0 ≤ x) w w9) := tn9
  have hlen : a.L.length ≤ 2097152 := by have := g0.ln; omega
  have hc0 := g0.c0
  have hc1 := g0.c1
  have HC0 : Hid (0 ≤ a.co) := hc0
  have HC1 : Hid (a.co ≤ a.L.length) := hc1
  clear hP1 HL HB9 HT9 hUl fA nlU oS9 PO9 tn9 oL9 hc0 hc1 nv0 ea hw LM1 eM1
  rcases SO.out with ⟨hm0, rfl, hq0, rfl⟩ | ⟨m, gm, hm1, rfl, hq1, hPg, hrm, hom, hbym, hlm, ham⟩
  · have hM0 : a.M = [] := by rw [← HM.out, hm0]; rfl
    have HM0 : Hid (a.M = []) := hM0
    have HQ : Hid (a.M.length = 0) := hq0
    clear hM0 hm0 hq0
    have cT := HT.out.cells
    have q10 : w9.cell? ⟨w.heap.size, 10, none⟩ = some (.slice none 0 0) := by have h := HT.out.cells 10; rw [h, ← HQ.out]; rfl
    clear cT
    go_wp2_with fail
    refine wp_loop_rounds 1 ?_
    rw [rounds_succ]
    go_wp2_with fail
    refine (seal16 B w.heap.size P1 nd pe az ct ke dA dn dc ek ep eA en ec yA yn yc a.z a.id a.up a.ro a.ep a.su a.ma a.ot a.co A _ a.L.length c a.M.length _ U b0 _ _ _ hb9.out HT.out PO.out hB (by omega) sz9 OLU.out.lg.1 NLU.out LU.out FA.out HC0.out HC1.out hlen).mono ?_
    rintro e wf ⟨R, colf, rfl, bf, of, tf, ef⟩
    go_wp2
    go_ret
    have eM : PrE P1 ((P.setN k (a.v none 0 (a.L.map ekOf))).gM a.M) := by rw [HM0.out]; exact (gM_nil _).trans (HE.out.gM [])
    have eF := ef.trans (eM.gS a.co (U.map EkV.r))
    rw [HU.out] at eF
    exact ⟨R, 0, colf, rfl, bf, of, Turn.trans TN9.out tf (fun x _ h => .inl h), .inr ⟨HZ.out, rfl, eF⟩⟩
  · have hM1 : a.M = [m.m] := by rw [← HM.out, hm1]; rfl
    have HM1 : Hid (a.M = [m.m]) := hM1
    have HQ : Hid (a.M.length = 1) := hq1
    clear hM1 hm1 hq1
    have q10 : w9.cell? ⟨w.heap.size, 10, none⟩ = some (.slice (some ⟨gm, 0, none⟩) 1 cs) := by have h := HT.out.cells 10; rw [h, ← HQ.out]; rfl
    have f1 := fun q => World.ownsRow.frozenAt hrm q
    have r0 : w9.cell? ⟨gm, 0, none⟩ = some (.int .i64 m.m.kd) := World.ownsRow.cellAt hrm 0 (by omega)
    have r1 : w9.cell? ⟨gm, 1, none⟩ = some (.int .i64 m.m.tgt) := World.ownsRow.cellAt hrm 1 (by omega)
    have r2 : w9.cell? ⟨gm, 2, none⟩ = some (.int .i64 m.m.ep) := World.ownsRow.cellAt hrm 2 (by omega)
    have r3 : w9.cell? ⟨gm, 3, none⟩ = some (.int .i64 m.m.at1) := World.ownsRow.cellAt hrm 3 (by omega)
    have r4 : w9.cell? ⟨gm, 4, none⟩ = some (.int .i64 m.m.pr) := World.ownsRow.cellAt hrm 4 (by omega)
    have r5 : w9.cell? ⟨gm, 5, none⟩ = some (.bool m.m.has) := World.ownsRow.cellAt hrm 5 (by omega)
    have r6 : w9.cell? ⟨gm, 6, none⟩ = some (.int .i64 m.m.e.ep) := World.ownsRow.cellAt hrm 6 (by omega)
    have r7 : w9.cell? ⟨gm, 7, none⟩ = some (.int .i64 m.m.e.ki) := World.ownsRow.cellAt hrm 7 (by omega)
    have r8 : w9.cell? ⟨gm, 8, none⟩ = some (.int .i64 m.m.e.pe) := World.ownsRow.cellAt hrm 8 (by omega)
    have r9 : w9.cell? ⟨gm, 9, none⟩ = some (.slice m.a m.m.e.xs.length m.c) := World.ownsRow.cellAt hrm 9 (by omega)
    have nA : New w9 (w9.alloc (.cells #[.int .i64 m.m.kd, .int .i64 m.m.tgt, .int .i64 m.m.ep, .int .i64 m.m.at1, .int .i64 m.m.pr, .bool m.m.has, .int .i64 m.m.e.ep, .int .i64 m.m.e.ki, .int .i64 m.m.e.pe, .slice m.a m.m.e.xs.length m.c] 120)) := (New.refl w9).alloc _
    have bA := Blk.mk w9 w9.heap.size 120 #[.int .i64 m.m.kd, .int .i64 m.m.tgt, .int .i64 m.m.ep, .int .i64 m.m.at1, .int .i64 m.m.pr, .bool m.m.has, .int .i64 m.m.e.ep, .int .i64 m.m.e.ki, .int .i64 m.m.e.pe, .slice m.a m.m.e.xs.length m.c] rfl
    have sA : (w9.alloc (.cells #[.int .i64 m.m.kd, .int .i64 m.m.tgt, .int .i64 m.m.ep, .int .i64 m.m.at1, .int .i64 m.m.pr, .bool m.m.has, .int .i64 m.m.e.ep, .int .i64 m.m.e.ki, .int .i64 m.m.e.pe, .slice m.a m.m.e.xs.length m.c] 120)).heap.size = w9.heap.size + 1 := by simp
    have q8 : (w9.alloc (.cells #[.int .i64 m.m.kd, .int .i64 m.m.tgt, .int .i64 m.m.ep, .int .i64 m.m.at1, .int .i64 m.m.pr, .bool m.m.has, .int .i64 m.m.e.ep, .int .i64 m.m.e.ki, .int .i64 m.m.e.pe, .slice m.a m.m.e.xs.length m.c] 120)).cell? ⟨B, 8, none⟩ = some (.slice P1.aM P1.nM P1.cM) := (hb9.out.new nA).cells 8
    go_wp2_with fail
    refine wp_loop_rounds 2 ?_
    rw [rounds_succ]
    by_cases hfull : P1.nM < 40
    · have hd : decide ((P1.nM : Int) < 40) = true := by simp only [decide_eq_true_eq]; omega
      have HF : Hid (P1.nM < 40) := hfull
      clear hfull
      go_upto_region 8 with fail
      clear r0 r1 r2 r3 r4 r5 r6 r7 r8 r9 f1 q10 q8
      generalize w9.alloc (.cells #[.int .i64 m.m.kd, .int .i64 m.m.tgt, .int .i64 m.m.ep, .int .i64 m.m.at1, .int .i64 m.m.pr, .bool m.m.has, .int .i64 m.m.e.ep, .int .i64 m.m.e.ki, .int .i64 m.m.e.pe, .slice m.a m.m.e.xs.length m.c] 120) = wA at *
      obtain ⟨i0, hi', hz0, hz1, hz2⟩ := info_parts Tryz.infoMq
      have hBA : ¬ w9.heap.size = B := by omega
      have H8 : Hid (∀ X, New wA X → X.cell? ⟨B, 8, none⟩ = some (.slice P1.aM P1.nM P1.cM)) := fun X hX => ((hb9.out.new nA).new hX).cells 8
      have HAc : Hid (∀ X, New wA X → Blk X w9.heap.size 120 #[.int .i64 m.m.kd, .int .i64 m.m.tgt, .int .i64 m.m.ep, .int .i64 m.m.at1, .int .i64 m.m.pr, .bool m.m.has, .int .i64 m.m.e.ep, .int .i64 m.m.e.ki, .int .i64 m.m.e.pe, .slice m.a m.m.e.xs.length m.c]) := fun X hX => bA.new hX
      have PA := PO.out.new nA
      refine hw_start (n := 13) (S := fun X => Turn (fun x => x = B ∨ (Value.slice P1.aM P1.nM P1.cM).ownBlock = some x) wA X) rfl (by kernel_rfl) ((New.refl wA).drew.turn) (fun hH => ?_)
      have nv0 : New wA wA.drew := (New.refl wA).drew
      generalize wA.drew = v0 at *
      refine' hw_t 0 (some 37) _ rfl rfl nv0.turn ?hy10 ?rest10
      case hy10 =>
        intro X hX
        go_simp
        try rfl
      simp only [Act.put, pA9, pB9, pC9]
      refine' hw_t 1 (some 38) _ rfl rfl nv0.turn ?hy11 ?rest11
      case hy11 =>
        intro X hX
        go_simp
        try rfl
      simp only [Act.put, pA9, pB9, pC9]
      refine' hw_t 2 (some 39) _ rfl rfl nv0.turn ?hy12 ?rest12
      case hy12 =>
        intro X hX
        go_simp
        try rfl
      simp only [Act.put, pA9, pB9, pC9]
      refine' hw_t 3 (some 40) _ rfl rfl nv0.turn ?hy13 ?rest13
      case hy13 =>
        intro X hX
        go_simp
        try rfl
      simp only [Act.put, pA9, pB9, pC9]
      refine' hw_t 4 (some 41) _ rfl rfl nv0.turn ?hy14 ?rest14
      case hy14 =>
        intro X hX
        go_simp
        try rfl
      simp only [Act.put, pA9, pB9, pC9]
      refine wpAnyH_ready (rs := [5, 6]) (by kernel_rfl) (by simp) (hw_step 5 (some 42) rfl rfl (by rfl) (fun K hK => ?lk1) (hw_step 6 (some 43) rfl rfl (by rfl) (fun K hK => ?lk2) (by intro j hj; cases hj)))
      case' lk1 =>
        have g8 : v0.cell? ⟨B, 8, none⟩ = some (.slice P1.aM P1.nM P1.cM) := H8.out v0 nv0
        go_simp
        refine hK.out _ _ nv0.turn (fun _ => ?_)
        simp only [Act.put, pA9, pB9, pC9]
        clear g8
        refine hw_call 6 (some 43) rfl rfl (by kernel_rfl) (by rfl) (fun K hK => ?_)
      all_goals
        have bM := HAc.out v0 nv0
        have cM := bM.cells
        go_simp
        refine hK.out _ _ nv0.turn (fun _ => ?_)
        simp only [Act.put, pA9, pB9, pC9]
        clear cM
        first
          | refine hw_call 7 (some 44) rfl rfl (by decide +kernel) (by rfl) (fun K hK => ?_)
          | (refine wpAnyH_ready (rs := [5, 7]) (by kernel_rfl) (by simp) (hw_step 5 (some 42) rfl rfl (by rfl) (fun K hK => ?lk3) (hw_step 7 (some 44) rfl rfl (by rfl) (fun K hK => ?lk4) (by intro j hj; cases hj)))
             case' lk3 =>
               have g8 : v0.cell? ⟨B, 8, none⟩ = some (.slice P1.aM P1.nM P1.cM) := H8.out v0 nv0
               go_simp
               refine hK.out _ _ nv0.turn (fun _ => ?_)
               simp only [Act.put, pA9, pB9, pC9]
               clear g8
               refine hw_call 7 (some 44) rfl rfl (by kernel_rfl) (by rfl) (fun K hK => ?_))
        all_goals
          go_simp
          have nB : New v0 (v0.alloc (.cells #[.int .i64 m.m.kd, .int .i64 m.m.tgt, .int .i64 m.m.ep, .int .i64 m.m.at1, .int .i64 m.m.pr, .bool m.m.has, .int .i64 m.m.e.ep, .int .i64 m.m.e.ki, .int .i64 m.m.e.pe, .slice m.a m.m.e.xs.length m.c] 120)) := (New.refl v0).alloc _
          have bB := Blk.mk v0 v0.heap.size 120 #[.int .i64 m.m.kd, .int .i64 m.m.tgt, .int .i64 m.m.ep, .int .i64 m.m.at1, .int .i64 m.m.pr, .bool m.m.has, .int .i64 m.m.e.ep, .int .i64 m.m.e.ki, .int .i64 m.m.e.pe, .slice m.a m.m.e.xs.length m.c] rfl
          have nv1 := nv0.trans nB
          refine hK.out _ _ nv1.turn (fun _ => ?_)
          simp only [Act.put, pA9, pB9, pC9]
          generalize v0.alloc (.cells #[.int .i64 m.m.kd, .int .i64 m.m.tgt, .int .i64 m.m.ep, .int .i64 m.m.at1, .int .i64 m.m.pr, .bool m.m.has, .int .i64 m.m.e.ep, .int .i64 m.m.e.ki, .int .i64 m.m.e.pe, .slice m.a m.m.e.xs.length m.c] 120) = v1 at *
          try
            refine hw_call 5 (some 42) rfl rfl (by decide +kernel) (by rfl) (fun K hK => ?_)
            have g8 : v1.cell? ⟨B, 8, none⟩ = some (.slice P1.aM P1.nM P1.cM) := H8.out v1 nv1
            go_simp
            refine hK.out _ _ nv1.turn (fun _ => ?_)
            simp only [Act.put, pA9, pB9, pC9]
            clear g8
          refine hw_call 8 (some 45) rfl rfl (by kernel_rfl) (by rfl) (fun K hK => ?_)
          have P1v := PA.new nv1
          have z1' := nv1.size
          refine wp_apV _ (.tmp 42) (.tmp 44) rfl 0 10 96 _ Tryz.underlying44 hi' hz0 hz1 hz2 rfl (by omega) (by omega) _ P1.nM (cellsMq P1.VM) rfl P1v.rowM v0.heap.size m.cs rfl (mlv_one m) rfl (fun j u hu => by rw [bB.cells j, ← hu]; simp [MlV.cs]) (by omega) (Nat.zero_le _) ?_
          intro u' v2 r2 hg2 hu2
          have tg := grown_turn hg2
          obtain ⟨aM', cM', col2, rfl, P2o, -⟩ := P1v.addM (v := m) (LM9.out) (by omega) hg2 r2 hu2 (((hom.new nA).new nv1)) hbym hlm (fun x hx => ⟨by have := rP _ (ham x hx).1; omega, (rP _ (ham x hx).1).2, colM _ (ham x hx).1⟩) (by omega)
          have nB8 : ¬ (Value.slice P1.aM P1.nM P1.cM).ownBlock = some B := by
            intro e
            rcases PA.oQ with ⟨e', -⟩ | ⟨g, e', q⟩
            · rw [e'] at e; simp [Value.ownBlock] at e
            · rw [e'] at e
              simp [Value.ownBlock] at e
              have := q.glo.2.1
              omega
          have tw2 : Turn (fun x => x = B ∨ (Value.slice P1.aM P1.nM P1.cM).ownBlock = some x) wA v2 := Turn.trans nv1.turn tg (fun x _ h => .inr h)
          refine hK.out _ _ tw2 (fun _ => ?_)
          simp only [Act.put, pA9, pB9, pC9]
          refine hw_take 9 (some 46) (.pointer (some ⟨B, 0, none⟩)) rfl rfl (by kernel_rfl) (by kernel_rfl) (by kernel_rfl) (fun _ _ _ h => h) (by rfl) tw2 (fun X hX => ?_) ?_
          · go_simp
            try rfl
          simp only [Act.put, pA9, pB9, pC9]
          refine hw_take 10 (some 47) (.pointer (some ⟨B, 0, none⟩)) rfl rfl (by kernel_rfl) (by kernel_rfl) (by kernel_rfl) (fun _ _ _ h => h) (by rfl) tw2 (fun X hX => ?_) ?_
          · go_simp
            try rfl
          simp only [Act.put, pA9, pB9, pC9]
          refine hw_take 11 (some 48) (.pointer (some ⟨B, 8, none⟩)) rfl rfl (by kernel_rfl) (by kernel_rfl) (by kernel_rfl) (fun _ _ _ h => h) (by rfl) tw2 (fun X hX => ?_) ?_
          · go_simp
            try rfl
          simp only [Act.put, pA9, pB9, pC9]
          refine hw_call 12 none rfl rfl (by kernel_rfl) (by rfl) (fun K hK => ?_)
          have bB2 := (((hb9.out.new nA).new nv1).turn tg nB8)
          have g82 : v2.cell? ⟨B, 8, none⟩ = some (.slice P1.aM P1.nM P1.cM) := bB2.cells 8
          have fB := bB2.frees
          go_simp
          have t8 : Turn (fun x => x = B) v2 (v2.setCell ⟨B, 8, none⟩ (.slice aM' (P1.nM + 1) cM')) := (Turn.refl (fun x => x = B) v2).set (p := ⟨B, 8, none⟩) rfl _
          have tw3 : Turn (fun x => x = B ∨ (Value.slice P1.aM P1.nM P1.cM).ownBlock = some x) wA (v2.setCell ⟨B, 8, none⟩ (.slice aM' (P1.nM + 1) cM')) := Turn.trans tw2 t8 (fun x _ h => .inl h)
          refine hK.out undef _ tw3 (fun _ => ?_)
          try simp only [Act.put, pA9, pB9, pC9]
          refine wpAnyH_done (by kernel_rfl) ?_ _
          have s8 := t8.size
          have s2 := tg.size
          have b8 : Blk (v2.setCell ⟨B, 8, none⟩ (.slice aM' (P1.nM + 1) cM')) B 86 (pcCs (P1.addM aM' cM' m) nd pe az ct ke dA dn dc ek ep eA en ec yA yn yc) := bB2.set 8 (.slice aM' (P1.nM + 1) cM')
          have P3o := (P2o.turn t8 (by intro x h1 h2 e; omega)).up s8
          have ownT : ¬ (Value.slice P1.aM P1.nM P1.cM).ownBlock = some w.heap.size := by
            intro e
            rcases PA.oQ with ⟨e', -⟩ | ⟨g, e', q⟩
            · rw [e'] at e; simp [Value.ownBlock] at e
            · rw [e'] at e
              simp [Value.ownBlock] at e
              have := q.glo.2.2
              omega
          have ht3 := (HT.out.new nA).turn tw3 (by rintro (e | e); exact hBT e; exact ownT e)
          have tF : Turn (fun x => x = B ∨ b0 ≤ x) w (v2.setCell ⟨B, 8, none⟩ (.slice aM' (P1.nM + 1) cM')) := Turn.trans (Turn.trans TN9.out (nA.turn (S := fun x => x = B ∨ b0 ≤ x)) (fun _ _ h => h)) tw3 (by
            rintro x _ (h | h)
            · exact .inl h
            · rcases PA.oQ with ⟨e', -⟩ | ⟨g, e', q⟩
              · rw [e'] at h; simp [Value.ownBlock] at h
              · rw [e'] at h
                simp [Value.ownBlock] at h
                exact .inr (by have := q.glo.2.1; omega))
          have lg3 := (OLU.out.new nA).turn tw3 (by
            rintro x h1 h2 (e | e)
            · omega
            · rcases PA.oQ with ⟨e', -⟩ | ⟨g, e', q⟩
              · rw [e'] at e; simp [Value.ownBlock] at e
              · rw [e'] at e
                simp [Value.ownBlock] at e
                have := q.glo
                rw [← hcol1] at this
                have h3 := this.1
                have h4 := this.2.2
                subst e
                by_cases h5 : b0 ≤ g ∧ g < b1
                · omega
                · simp only [if_neg h5, if_pos (And.intro h1 h2)] at h3
                  omega)
          clear bB2 g82 fB P2o P1v r2 hg2 hu2 tw2 t8 tg
          generalize v2.setCell ⟨B, 8, none⟩ (.slice aM' (P1.nM + 1) cM') = w3 at *
          have q103 : w3.cell? ⟨w.heap.size, 10, none⟩ = some (.slice (some ⟨gm, 0, none⟩) 1 cs) := by have h := ht3.cells 10; rw [h, ← HQ.out]; rfl
          go_wp2_with fail
          rw [rounds_succ]
          go_wp2_with fail
          refine (seal16 B w.heap.size (P1.addM aM' cM' m) nd pe az ct ke dA dn dc ek ep eA en ec yA yn yc a.z a.id a.up a.ro a.ep a.su a.ma a.ot a.co A _ a.L.length c a.M.length _ U b0 _ _ _ b8 ht3 P3o hB (by omega) (Nat.le_refl _) lg3.lg.1 NLU.out LU.out FA.out HC0.out HC1.out hlen).mono ?_
          rintro e wf ⟨R, colf, rfl, bf, of, tf, ef⟩
          go_wp2
          go_ret
          have eM : PrE (P1.addM aM' cM' m) ((P.setN k (a.v none 0 (a.L.map ekOf))).gM a.M) := by rw [HM1.out]; exact (gM_one HF.out aM' cM' m).trans (HE.out.gM [m.m])
          have eF := ef.trans (eM.gS a.co (U.map EkV.r))
          rw [HU.out] at eF
          exact ⟨R, 0, colf, rfl, bf, of, Turn.trans tF tf (fun x _ h => .inl h), .inr ⟨HZ.out, rfl, eF⟩⟩
    · have hd : decide ((P1.nM : Int) < 40) = false := by simp only [decide_eq_false_iff_not]; omega
      have HF : Hid (40 ≤ P1.nM) := by unfold Hid; omega
      clear hfull
      go_upto_region 9 with fail
      clear r0 r1 r2 r3 r4 r5 r6 r7 r8 r9 f1 q10 q8
      have b8 := hb9.out.new nA
      have ht3 := HT.out.new nA
      have lg3 := OLU.out.new nA
      have P3o := PO.out.new nA
      have tF : Turn (fun x => x = B ∨ b0 ≤ x) w (w9.alloc (.cells #[.int .i64 m.m.kd, .int .i64 m.m.tgt, .int .i64 m.m.ep, .int .i64 m.m.at1, .int .i64 m.m.pr, .bool m.m.has, .int .i64 m.m.e.ep, .int .i64 m.m.e.ki, .int .i64 m.m.e.pe, .slice m.a m.m.e.xs.length m.c] 120)) := Turn.trans TN9.out (nA.turn (S := fun x => x = B ∨ b0 ≤ x)) (fun _ _ h => h)
      generalize w9.alloc (.cells #[.int .i64 m.m.kd, .int .i64 m.m.tgt, .int .i64 m.m.ep, .int .i64 m.m.at1, .int .i64 m.m.pr, .bool m.m.has, .int .i64 m.m.e.ep, .int .i64 m.m.e.ki, .int .i64 m.m.e.pe, .slice m.a m.m.e.xs.length m.c] 120) = w3 at *
      have q103 : w3.cell? ⟨w.heap.size, 10, none⟩ = some (.slice (some ⟨gm, 0, none⟩) 1 cs) := by have h := ht3.cells 10; rw [h, ← HQ.out]; rfl
      go_wp2_with fail
      rw [rounds_succ]
      go_wp2_with fail
      refine (seal16 B w.heap.size P1 nd pe az ct ke dA dn dc ek ep eA en ec yA yn yc a.z a.id a.up a.ro a.ep a.su a.ma a.ot a.co A _ a.L.length c a.M.length _ U b0 _ _ _ b8 ht3 P3o hB (by omega) (by omega) lg3.lg.1 NLU.out LU.out FA.out HC0.out HC1.out hlen).mono ?_
      rintro e wf ⟨R, colf, rfl, bf, of, tf, ef⟩
      go_wp2
      go_ret
      have eM : PrE P1 ((P.setN k (a.v none 0 (a.L.map ekOf))).gM a.M) := by rw [HM1.out]; exact (gM_full HF.out [m.m]).trans (HE.out.gM [m.m])
      have eF := ef.trans (eM.gS a.co (U.map EkV.r))
      rw [HU.out] at eF
      exact ⟨R, 0, colf, rfl, bf, of, Turn.trans tF tf (fun x _ h => .inl h), .inr ⟨HZ.out, rfl, eF⟩⟩

end Go.Proofs.YtdbnmkffinhdjaaGreat
