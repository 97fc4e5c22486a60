/- What is proved here: what isMail, dropMail and lose do: a pair loses the mail told, in a row that is new, or tells that there is none. -/
import Derived.Test.YtebkdaddndlmoaaGreatLL29
namespace Go.Proofs.YtebkdaddndlmoaaGreat
open Go.ChangeShapes Go.WideShapes Go.ChangeAt Go.RowKit Go.Deep Go.Sort
set_option linter.unusedVariables false
set_option linter.unusedSimpArgs false
set_option maxRecDepth 100000


theorem isMail16 (B : Nat) (z : Int) (A : Option Addr) (n c : Nat) (w : World) (h8 : w.cell? ⟨B, 8, none⟩ = some (.slice A n c)) :
    Calls Tryz.prog 122 #[.pointer (some ⟨B, 0, none⟩), .int .i64 z] w fun e w' => e = .returned (.bool (decide (0 ≤ z ∧ z < n))) ∧ New w w' := by
  by_cases h0 : 0 ≤ z
  · by_cases h1 : z < (n : Int)
    · go_enter Tryz.func122, Tryz.ntmps122
      go_wp2
      go_ret
      exact ⟨by simp [h0, h1], New.refl _⟩
    · go_enter Tryz.func122, Tryz.ntmps122
      go_wp2
      go_ret
      exact ⟨by simp [h0, h1], New.refl _⟩
  · go_enter Tryz.func122, Tryz.ntmps122
    go_wp2
    go_ret
    exact ⟨by simp; omega, New.refl _⟩

theorem OwQ1.row_at {w : World} {F : Nat → Prop} {g n c : Nat} {U : List MlV} (h : OwQ1 w F g n c U) (j : Nat) (u : Value) (hu : (cellsMq U)[j]? = some u) : w.cell? ⟨g, j, none⟩ = some u := by
  have h1 := World.ownsRow.cellAt h.row j (by have := h.row.1; have h2 := (List.getElem?_eq_some_iff.1 hu).1; omega)
  rw [h1, hu]
theorem cells_takeQ (V : List MlV) (k j : Nat) (u : Value) (hu : (cellsMq (V.take k))[j]? = some u) : (cellsMq V)[j]? = some u := by
  have h1 : cellsMq V = cellsMq (V.take k) ++ cellsMq (V.drop k) := by rw [← cellsMq_app, List.take_append_drop]
  rw [h1, List.getElem?_append_left (List.getElem?_eq_some_iff.1 hu).1, hu]
theorem cells_dropQ (V : List MlV) (k j : Nat) (u : Value) (hu : (cellsMq (V.drop k))[j]? = some u) : (cellsMq V)[k * 10 + j]? = some u := by
  have h3 := (List.getElem?_eq_some_iff.1 hu).1
  rw [cellsMq_len, List.length_drop] at h3
  have h1 : cellsMq V = cellsMq (V.take k) ++ cellsMq (V.drop k) := by rw [← cellsMq_app, List.take_append_drop]
  have h2 : (cellsMq (V.take k)).length = k * 10 := by rw [cellsMq_len, List.length_take]; omega
  rw [h1, List.getElem?_append_right (by omega), h2, show k * 10 + j - k * 10 = j by omega, hu]
set_option maxHeartbeats 3200000 in
theorem dropMail16 (B k : Nat) (P : PrV) (nd pe az ct : Int) (ke : Bool) (dA : Option Addr) (dn dc : Nat) (ek ep : Int) (eA : Option Addr) (en ec : Nat) (yA : Option Addr) (yn yc : Nat) (b0 b1 : Nat) (col : Nat → Nat) (w : World) (hb : Blk w B 91 (pcCs P nd pe az ct ke dA dn dc ek ep eA en ec yA yn yc)) (ho : PrOw w b0 b1 col P) (hl : PrL P) (hk : k < P.nM) (hB : B < b0) (hs : b1 ≤ w.heap.size) :
    Calls Tryz.prog 123 #[.pointer (some ⟨B, 0, none⟩), .int .i64 k] w fun e w' => ∃ a c col', e = .returned (.tuple #[]) ∧ Blk w' B 91 (pcCs (P.drop k a c) nd pe az ct ke dA dn dc ek ep eA en ec yA yn yc) ∧ PrOw w' b0 w'.heap.size col' (P.drop k a c) ∧ Turn (fun x => x = B) w w' := by
  obtain ⟨g, ea, oq⟩ : ∃ g, P.aM = some ⟨g, 0, none⟩ ∧ OwQ1 w (Cl col b0 b1 3) g P.nM P.cM P.VM := by
    rcases ho.oQ with ⟨-, e, -⟩ | h
    · omega
    · exact h
  have hc : P.nM ≤ P.cM := (row_fit oq.row).1
  have hm := hl.mM
  have hlt : B < w.heap.size := hb.lt
  have HC : Hid (∀ X, New w X → X.cell? ⟨B, 8, none⟩ = some (.slice (some ⟨g, 0, none⟩) P.nM P.cM)) := fun X hX => by
    have h1 := (hb.new hX).cells 8
    rw [h1, ← ea]; rfl
  have HB : Hid (Blk w B 91 (pcCs P nd pe az ct ke dA dn dc ek ep eA en ec yA yn yc)) := hb
  have HO : Hid (PrOw w b0 b1 col P) := ho
  have HQ : Hid (OwQ1 w (Cl col b0 b1 3) g P.nM P.cM P.VM) := oq
  have HL : Hid (PrL P) := hl
  have k0 : ¬ (k : Int) < 0 := by omega
  have k00 : (0 : Int) ≤ (k : Int) := by omega
  have k1 : (k : Int) ≤ (P.nM : Int) := by omega
  have k2 : (k : Int) ≤ (P.cM : Int) := by omega
  have k3 : (k : Int) + 1 ≤ (P.nM : Int) := by omega
  have k4 : (0 : Int) ≤ (k : Int) + 1 := by omega
  have k5 : (P.nM : Int) ≤ (P.cM : Int) := by omega
  have kw : IntKind.i64.wrap ((k : Int) + 1) = (k : Int) + 1 := by rw [IntKind.wrap_i64]; omega
  have kt : ((k : Int) + 1).toNat = k + 1 := by omega
  clear hb ho oq hl
  go_enter Tryz.func123, Tryz.ntmps123
  refine hw_start (n := 19) (S := fun _ => True) rfl (by kernel_rfl) (trivial) (fun hH => ?_)
  have nv0 := (New.refl w).drew
  generalize w.drew = v0 at *
  have zsz0 := nv0.size
  have g8 : v0.cell? ⟨B, 8, none⟩ = some (.slice (some ⟨g, 0, none⟩) P.nM P.cM) := HC.out v0 nv0
  refine' hw_take 0 (some 4) _ rfl rfl (by kernel_rfl) (by kernel_rfl) (by kernel_rfl) (fun _ _ _ h => h) (by rfl) trivial ?hy1 ?rest1
  case hy1 =>
    intro X hX
    go_simp
    try rfl
  simp only [Act.put, List.setIfInBounds_toArray, List.set_cons_zero, List.set_cons_succ]
  refine' hw_take 1 (some 5) _ rfl rfl (by kernel_rfl) (by kernel_rfl) (by kernel_rfl) (fun _ _ _ h => h) (by rfl) trivial ?hy2 ?rest2
  case hy2 =>
    intro X hX
    go_simp
    try rfl
  simp only [Act.put, List.setIfInBounds_toArray, List.set_cons_zero, List.set_cons_succ]
  refine' hw_take 2 (some 6) _ rfl rfl (by kernel_rfl) (by kernel_rfl) (by kernel_rfl) (fun _ _ _ h => h) (by rfl) trivial ?hy3 ?rest3
  case hy3 =>
    intro X hX
    go_simp
    try rfl
  simp only [Act.put, List.setIfInBounds_toArray, List.set_cons_zero, List.set_cons_succ]
  refine' hw_take 3 (some 7) _ rfl rfl (by kernel_rfl) (by kernel_rfl) (by kernel_rfl) (fun _ _ _ h => h) (by rfl) trivial ?hy4 ?rest4
  case hy4 =>
    intro X hX
    go_simp
    try rfl
  simp only [Act.put, List.setIfInBounds_toArray, List.set_cons_zero, List.set_cons_succ]
  refine' hw_take 5 (some 9) _ rfl rfl (by kernel_rfl) (by kernel_rfl) (by kernel_rfl) (fun _ _ _ h => h) (by rfl) trivial ?hy5 ?rest5
  case hy5 =>
    intro X hX
    go_simp
    try rfl
  simp only [Act.put, List.setIfInBounds_toArray, List.set_cons_zero, List.set_cons_succ]
  refine' hw_take 7 (some 11) _ rfl rfl (by kernel_rfl) (by kernel_rfl) (by kernel_rfl) (fun _ _ _ h => h) (by rfl) trivial ?hy6 ?rest6
  case hy6 =>
    intro X hX
    go_simp
    try rfl
  simp only [Act.put, List.setIfInBounds_toArray, List.set_cons_zero, List.set_cons_succ]
  refine' hw_take 8 (some 12) _ rfl rfl (by kernel_rfl) (by kernel_rfl) (by kernel_rfl) (fun _ _ _ h => h) (by rfl) trivial ?hy7 ?rest7
  case hy7 =>
    intro X hX
    go_simp
    try rfl
  simp only [Act.put, List.setIfInBounds_toArray, List.set_cons_zero, List.set_cons_succ]
  refine' hw_take 9 (some 13) _ rfl rfl (by kernel_rfl) (by kernel_rfl) (by kernel_rfl) (fun _ _ _ h => h) (by rfl) trivial ?hy8 ?rest8
  case hy8 =>
    intro X hX
    go_simp
    try rfl
  simp only [Act.put, List.setIfInBounds_toArray, List.set_cons_zero, List.set_cons_succ]
  refine' hw_take 11 (some 15) _ rfl rfl (by kernel_rfl) (by kernel_rfl) (by kernel_rfl) (fun _ _ _ h => h) (by rfl) trivial ?hy9 ?rest9
  case hy9 =>
    intro X hX
    go_simp
    try rfl
  simp only [Act.put, List.setIfInBounds_toArray, List.set_cons_zero, List.set_cons_succ]
  refine' hw_take 12 (some 16) _ rfl rfl (by kernel_rfl) (by kernel_rfl) (by kernel_rfl) (fun _ _ _ h => h) (by rfl) trivial ?hy10 ?rest10
  case hy10 =>
    intro X hX
    go_simp
    try simp only [kw, kt, if_pos (And.intro k4 k3)]
    try rfl
  simp only [Act.put, List.setIfInBounds_toArray, List.set_cons_zero, List.set_cons_succ]
  refine wpAnyH_ready (rs := [4, 10]) (by kernel_rfl) (by simp) (hw_step 4 (some 8) rfl rfl (by rfl) (fun K hK => ?la) (hw_step 10 (some 14) rfl rfl (by rfl) (fun K hK => ?lb) (by intro j hj; cases hj)))
  case la =>
    go_simp
    refine hK.out _ _ trivial (fun _ => ?_)
    simp only [Act.put, List.setIfInBounds_toArray, List.set_cons_zero, List.set_cons_succ]
    refine' hw_take 6 (some 10) _ rfl rfl (by kernel_rfl) (by kernel_rfl) (by kernel_rfl) (fun _ _ _ h => h) (by rfl) trivial ?hy11 ?rest11
    case hy11 =>
      intro X hX
      go_simp
      try rfl
    simp only [Act.put, List.setIfInBounds_toArray, List.set_cons_zero, List.set_cons_succ]
    refine hw_call 10 (some 14) rfl rfl (by kernel_rfl) (by rfl) (fun K hK => ?_)
    go_simp
    refine hK.out _ _ trivial (fun _ => ?_)
    simp only [Act.put, List.setIfInBounds_toArray, List.set_cons_zero, List.set_cons_succ]
    refine' hw_take 13 (some 17) _ rfl rfl (by kernel_rfl) (by kernel_rfl) (by kernel_rfl) (fun _ _ _ h => h) (by rfl) trivial ?hy12 ?rest12
    case hy12 =>
      intro X hX
      go_simp
      try simp only [kw, kt, if_pos (And.intro k4 k3)]
      try rfl
    simp only [Act.put, List.setIfInBounds_toArray, List.set_cons_zero, List.set_cons_succ]
    refine hw_call 14 (some 18) rfl rfl (by kernel_rfl) (by rfl) (fun K hK => ?_)
    go_simp
    have n1 : New v0 (v0.alloc (.cells #[.slice (some ⟨g, 0, none⟩) k P.cM, .slice (if P.cM = k + 1 then some ⟨g, 0, none⟩ else some ⟨g, (k + 1) * 10, none⟩) (P.nM - (k + 1)) (P.cM - (k + 1))] 41)) := (New.refl v0).alloc _
    have bG := Blk.mk v0 v0.heap.size 41 #[.slice (some ⟨g, 0, none⟩) k P.cM, .slice (if P.cM = k + 1 then some ⟨g, 0, none⟩ else some ⟨g, (k + 1) * 10, none⟩) (P.nM - (k + 1)) (P.cM - (k + 1))] rfl
    refine hK.out _ _ trivial (fun _ => ?_)
    simp only [Act.put, List.setIfInBounds_toArray, List.set_cons_zero, List.set_cons_succ]
    generalize hV1 : v0.alloc (.cells #[.slice (some ⟨g, 0, none⟩) k P.cM, .slice (if P.cM = k + 1 then some ⟨g, 0, none⟩ else some ⟨g, (k + 1) * 10, none⟩) (P.nM - (k + 1)) (P.cM - (k + 1))] 41) = v1 at *
    clear hV1
    refine hw_call 15 (some 19) rfl rfl (by kernel_rfl) (by rfl) (fun K hK => ?_)
    go_simp
    have nw1 := nv0.trans n1
    have rowQ := (HQ.out.new nw1).row
    refine (concatQ v0.heap.size (some ⟨g, 0, none⟩) (if P.cM = k + 1 then some ⟨g, 0, none⟩ else some ⟨g, (k + 1) * 10, none⟩) k P.cM (P.nM - (k + 1)) (P.cM - (k + 1)) (cellsMq (P.VM.take k)) (cellsMq (P.VM.drop (k + 1))) v1 (bG.cells 0) (bG.cells 1) ?_ ?_ ?_ ?_ (cellsMq_one _) (cellsMq_one _) (by intro e; cases e) (by intro e; split at e <;> cases e) (by omega) (by omega)).mono ?_
    · intro X hX a ea' j u hu
      obtain rfl := (Option.some.inj ea').symm
      rw [Addr.add_lit, Nat.zero_add]
      refine (HQ.out.new (nw1.trans hX)).row_at j u ?_
      exact cells_takeQ _ _ j u hu
    · intro X hX a ea' j u hu
      have hj : ¬ P.cM = k + 1 := by
        intro e
        have h1 := (List.getElem?_eq_some_iff.1 hu).1
        rw [cellsMq_len, List.length_drop, HL.out.lM] at h1
        omega
      rw [if_neg hj] at ea'
      obtain rfl := (Option.some.inj ea').symm
      rw [Addr.add_lit]
      refine (HQ.out.new (nw1.trans hX)).row_at ((k + 1) * 10 + j) u ?_
      exact cells_dropQ _ _ j u hu
    · rw [cellsMq_len, List.length_take, HL.out.lM]; omega
    · rw [cellsMq_len, List.length_drop, HL.out.lM]
    rintro e v2 ⟨v, rfl, hr, n2⟩
    have nw2 := nw1.trans n2
    rw [← cellsMq_app, show k + (P.nM - (k + 1)) = P.nM - 1 by omega] at hr
    obtain ⟨a, c, rfl, -, -⟩ := row9_form hr
    obtain ⟨col', hcut⟩ := HO.out.cut nw2 hs hk HL.out.lM (own_low hr nw1.size)
    have fB := (HB.out.new nw2).frees
    have bB := HB.out.new nw2
    refine hK.out _ _ trivial (fun _ => ?_)
    simp only [Act.put, List.setIfInBounds_toArray, List.set_cons_zero, List.set_cons_succ]
    refine' hw_take 16 (some 20) _ rfl rfl (by kernel_rfl) (by kernel_rfl) (by kernel_rfl) (fun _ _ _ h => h) (by rfl) trivial ?hy13 ?rest13
    case hy13 =>
      intro X hX
      go_simp
      try rfl
    simp only [Act.put, List.setIfInBounds_toArray, List.set_cons_zero, List.set_cons_succ]
    refine' hw_take 17 (some 21) _ rfl rfl (by kernel_rfl) (by kernel_rfl) (by kernel_rfl) (fun _ _ _ h => h) (by rfl) trivial ?hy14 ?rest14
    case hy14 =>
      intro X hX
      go_simp
      try rfl
    simp only [Act.put, List.setIfInBounds_toArray, List.set_cons_zero, List.set_cons_succ]
    refine hw_call 18 none rfl rfl (by kernel_rfl) (by rfl) (fun K hK => ?_)
    have c8 : v2.cell? ⟨B, 8, none⟩ = some (.slice (some ⟨g, 0, none⟩) P.nM P.cM) := HC.out v2 nw2
    go_simp
    refine hK.out undef _ trivial (fun _ => ?_)
    try simp only [Act.put, List.setIfInBounds_toArray, List.set_cons_zero, List.set_cons_succ]
    refine wpAnyH_done (by kernel_rfl) ?_ _
    have t8 : Turn (fun x => x = B) v2 (v2.setCell ⟨B, 8, none⟩ (.slice a (P.nM - 1) c)) := (Turn.refl (fun x => x = B) v2).set (p := ⟨B, 8, none⟩) rfl _
    have b8 := bB.set 8 (.slice a (P.nM - 1) c)
    have s8 := t8.size
    have hcut2 := (hcut.turn t8 (by intro x h1 h2 e; omega)).up s8
    refine bodyPost_end (results_none rfl _ _ _) rfl ?_
    exact ⟨_, _, _, rfl, b8, hcut2, Turn.trans nw2.turn t8 (fun _ _ h => h)⟩
  case lb =>
    go_simp
    refine hK.out _ _ trivial (fun _ => ?_)
    simp only [Act.put, List.setIfInBounds_toArray, List.set_cons_zero, List.set_cons_succ]
    refine' hw_take 13 (some 17) _ rfl rfl (by kernel_rfl) (by kernel_rfl) (by kernel_rfl) (fun _ _ _ h => h) (by rfl) trivial ?hy15 ?rest15
    case hy15 =>
      intro X hX
      go_simp
      try simp only [kw, kt, if_pos (And.intro k4 k3)]
      try rfl
    simp only [Act.put, List.setIfInBounds_toArray, List.set_cons_zero, List.set_cons_succ]
    refine hw_call 4 (some 8) rfl rfl (by kernel_rfl) (by rfl) (fun K hK => ?_)
    go_simp
    refine hK.out _ _ trivial (fun _ => ?_)
    simp only [Act.put, List.setIfInBounds_toArray, List.set_cons_zero, List.set_cons_succ]
    refine' hw_take 6 (some 10) _ rfl rfl (by kernel_rfl) (by kernel_rfl) (by kernel_rfl) (fun _ _ _ h => h) (by rfl) trivial ?hy16 ?rest16
    case hy16 =>
      intro X hX
      go_simp
      try rfl
    simp only [Act.put, List.setIfInBounds_toArray, List.set_cons_zero, List.set_cons_succ]
    refine hw_call 14 (some 18) rfl rfl (by kernel_rfl) (by rfl) (fun K hK => ?_)
    go_simp
    have n1 : New v0 (v0.alloc (.cells #[.slice (some ⟨g, 0, none⟩) k P.cM, .slice (if P.cM = k + 1 then some ⟨g, 0, none⟩ else some ⟨g, (k + 1) * 10, none⟩) (P.nM - (k + 1)) (P.cM - (k + 1))] 41)) := (New.refl v0).alloc _
    have bG := Blk.mk v0 v0.heap.size 41 #[.slice (some ⟨g, 0, none⟩) k P.cM, .slice (if P.cM = k + 1 then some ⟨g, 0, none⟩ else some ⟨g, (k + 1) * 10, none⟩) (P.nM - (k + 1)) (P.cM - (k + 1))] rfl
    refine hK.out _ _ trivial (fun _ => ?_)
    simp only [Act.put, List.setIfInBounds_toArray, List.set_cons_zero, List.set_cons_succ]
    generalize hV1 : v0.alloc (.cells #[.slice (some ⟨g, 0, none⟩) k P.cM, .slice (if P.cM = k + 1 then some ⟨g, 0, none⟩ else some ⟨g, (k + 1) * 10, none⟩) (P.nM - (k + 1)) (P.cM - (k + 1))] 41) = v1 at *
    clear hV1
    refine hw_call 15 (some 19) rfl rfl (by kernel_rfl) (by rfl) (fun K hK => ?_)
    go_simp
    have nw1 := nv0.trans n1
    have rowQ := (HQ.out.new nw1).row
    refine (concatQ v0.heap.size (some ⟨g, 0, none⟩) (if P.cM = k + 1 then some ⟨g, 0, none⟩ else some ⟨g, (k + 1) * 10, none⟩) k P.cM (P.nM - (k + 1)) (P.cM - (k + 1)) (cellsMq (P.VM.take k)) (cellsMq (P.VM.drop (k + 1))) v1 (bG.cells 0) (bG.cells 1) ?_ ?_ ?_ ?_ (cellsMq_one _) (cellsMq_one _) (by intro e; cases e) (by intro e; split at e <;> cases e) (by omega) (by omega)).mono ?_
    · intro X hX a ea' j u hu
      obtain rfl := (Option.some.inj ea').symm
      rw [Addr.add_lit, Nat.zero_add]
      refine (HQ.out.new (nw1.trans hX)).row_at j u ?_
      exact cells_takeQ _ _ j u hu
    · intro X hX a ea' j u hu
      have hj : ¬ P.cM = k + 1 := by
        intro e
        have h1 := (List.getElem?_eq_some_iff.1 hu).1
        rw [cellsMq_len, List.length_drop, HL.out.lM] at h1
        omega
      rw [if_neg hj] at ea'
      obtain rfl := (Option.some.inj ea').symm
      rw [Addr.add_lit]
      refine (HQ.out.new (nw1.trans hX)).row_at ((k + 1) * 10 + j) u ?_
      exact cells_dropQ _ _ j u hu
    · rw [cellsMq_len, List.length_take, HL.out.lM]; omega
    · rw [cellsMq_len, List.length_drop, HL.out.lM]
    rintro e v2 ⟨v, rfl, hr, n2⟩
    have nw2 := nw1.trans n2
    rw [← cellsMq_app, show k + (P.nM - (k + 1)) = P.nM - 1 by omega] at hr
    obtain ⟨a, c, rfl, -, -⟩ := row9_form hr
    obtain ⟨col', hcut⟩ := HO.out.cut nw2 hs hk HL.out.lM (own_low hr nw1.size)
    have fB := (HB.out.new nw2).frees
    have bB := HB.out.new nw2
    refine hK.out _ _ trivial (fun _ => ?_)
    simp only [Act.put, List.setIfInBounds_toArray, List.set_cons_zero, List.set_cons_succ]
    refine' hw_take 16 (some 20) _ rfl rfl (by kernel_rfl) (by kernel_rfl) (by kernel_rfl) (fun _ _ _ h => h) (by rfl) trivial ?hy17 ?rest17
    case hy17 =>
      intro X hX
      go_simp
      try rfl
    simp only [Act.put, List.setIfInBounds_toArray, List.set_cons_zero, List.set_cons_succ]
    refine' hw_take 17 (some 21) _ rfl rfl (by kernel_rfl) (by kernel_rfl) (by kernel_rfl) (fun _ _ _ h => h) (by rfl) trivial ?hy18 ?rest18
    case hy18 =>
      intro X hX
      go_simp
      try rfl
    simp only [Act.put, List.setIfInBounds_toArray, List.set_cons_zero, List.set_cons_succ]
    refine hw_call 18 none rfl rfl (by kernel_rfl) (by rfl) (fun K hK => ?_)
    have c8 : v2.cell? ⟨B, 8, none⟩ = some (.slice (some ⟨g, 0, none⟩) P.nM P.cM) := HC.out v2 nw2
    go_simp
    refine hK.out undef _ trivial (fun _ => ?_)
    try simp only [Act.put, List.setIfInBounds_toArray, List.set_cons_zero, List.set_cons_succ]
    refine wpAnyH_done (by kernel_rfl) ?_ _
    have t8 : Turn (fun x => x = B) v2 (v2.setCell ⟨B, 8, none⟩ (.slice a (P.nM - 1) c)) := (Turn.refl (fun x => x = B) v2).set (p := ⟨B, 8, none⟩) rfl _
    have b8 := bB.set 8 (.slice a (P.nM - 1) c)
    have s8 := t8.size
    have hcut2 := (hcut.turn t8 (by intro x h1 h2 e; omega)).up s8
    refine bodyPost_end (results_none rfl _ _ _) rfl ?_
    exact ⟨_, _, _, rfl, b8, hcut2, Turn.trans nw2.turn t8 (fun _ _ h => h)⟩

set_option maxHeartbeats 3200000 in
theorem lose16 (B : Nat) (P : PrV) (nd pe az ct : Int) (ke : Bool) (dA : Option Addr) (dn dc : Nat) (ek ep : Int) (eA : Option Addr) (en ec : Nat) (yA : Option Addr) (yn yc : Nat) (b0 b1 : Nat) (col : Nat → Nat) (w : World) (hb : Blk w B 91 (pcCs P nd pe az ct ke dA dn dc ek ep eA en ec yA yn yc)) (ho : PrOw w b0 b1 col P) (hl : PrL P) (hB : B < b0) (hs : b1 ≤ w.heap.size) :
    Calls Tryz.prog 68 #[.pointer (some ⟨B, 0, none⟩)] w fun e w' => ∃ R z col', e = .returned (.int .i64 z) ∧ Blk w' B 91 (pcCs R nd pe az ct ke dA dn dc ek ep eA en ec yA yn yc) ∧ PrOw w' b0 w'.heap.size col' R ∧ Turn (fun x => x = B) w w' ∧ (¬ (0 ≤ az ∧ az < P.nM) ∧ z = 4 ∨ (0 ≤ az ∧ az < P.nM) ∧ z = 0 ∧ PrE R (P.drop az.toNat none 0)) := by
  have HB : Hid (Blk w B 91 (pcCs P nd pe az ct ke dA dn dc ek ep eA en ec yA yn yc)) := hb
  have HO : Hid (PrOw w b0 b1 col P) := ho
  have HL : Hid (PrL P) := hl
  have nw : New w w := New.refl w
  clear hb ho hl
  by_cases hz : 0 ≤ az ∧ az < (P.nM : Int)
  · obtain ⟨k, rfl⟩ : ∃ k : Nat, az = k := ⟨az.toNat, by omega⟩
    have hk : k < P.nM := by omega
    have HZ : Hid (0 ≤ (k : Int) ∧ (k : Int) < (P.nM : Int)) := hz
    clear hz
    go_enter Tryz.func68, Tryz.ntmps68
    go_upto_region 1 with fail
    refine hw_start (n := 9) (S := fun X => New w X) rfl (by kernel_rfl) ((New.refl _).drew) (fun hH => ?_)
    have nn0 := (New.refl w).drew
    generalize w.drew = u0 at *
    refine' hw_take 0 (some 3) _ rfl rfl (by kernel_rfl) (by kernel_rfl) (by kernel_rfl) (fun _ _ _ h => h) (by rfl) nn0 ?hy19 ?rest19
    case hy19 =>
      intro X hX
      go_simp
      try rfl
    simp only [Act.put, List.setIfInBounds_toArray, List.set_cons_zero, List.set_cons_succ]
    refine' hw_take 1 (some 4) _ rfl rfl (by kernel_rfl) (by kernel_rfl) (by kernel_rfl) (fun _ _ _ h => h) (by rfl) nn0 ?hy20 ?rest20
    case hy20 =>
      intro X hX
      go_simp
      try rfl
    simp only [Act.put, List.setIfInBounds_toArray, List.set_cons_zero, List.set_cons_succ]
    refine' hw_take 2 (some 5) _ rfl rfl (by kernel_rfl) (by kernel_rfl) (by kernel_rfl) (fun _ _ _ h => h) (by rfl) nn0 ?hy21 ?rest21
    case hy21 =>
      intro X hX
      go_simp
      try rfl
    simp only [Act.put, List.setIfInBounds_toArray, List.set_cons_zero, List.set_cons_succ]
    refine' hw_take 3 (some 6) _ rfl rfl (by kernel_rfl) (by kernel_rfl) (by kernel_rfl) (fun _ _ _ h => h) (by rfl) nn0 ?hy22 ?rest22
    case hy22 =>
      intro X hX
      go_simp
      try rfl
    simp only [Act.put, List.setIfInBounds_toArray, List.set_cons_zero, List.set_cons_succ]
    refine' hw_take 4 (some 7) _ rfl rfl (by kernel_rfl) (by kernel_rfl) (by kernel_rfl) (fun _ _ _ h => h) (by rfl) nn0 ?hy23 ?rest23
    case hy23 =>
      intro X hX
      go_simp
      try rfl
    simp only [Act.put, List.setIfInBounds_toArray, List.set_cons_zero, List.set_cons_succ]
    refine' hw_take 5 (some 8) _ rfl rfl (by kernel_rfl) (by kernel_rfl) (by kernel_rfl) (fun _ _ _ h => h) (by rfl) nn0 ?hy24 ?rest24
    case hy24 =>
      intro X hX
      go_simp
      try rfl
    simp only [Act.put, List.setIfInBounds_toArray, List.set_cons_zero, List.set_cons_succ]
    refine' hw_take 6 (some 9) _ rfl rfl (by kernel_rfl) (by kernel_rfl) (by kernel_rfl) (fun _ _ _ h => h) (by rfl) nn0 ?hy25 ?rest25
    case hy25 =>
      intro X hX
      have g12 : X.cell? ⟨B, 12, none⟩ = some (.int .i64 k) := (HB.out.new (nw.trans hX)).cells 12
      go_simp
      try rfl
    simp only [Act.put, List.setIfInBounds_toArray, List.set_cons_zero, List.set_cons_succ]
    refine hw_call 7 (some 10) rfl rfl (by kernel_rfl) (by rfl) (fun K hK => ?_)
    go_simp
    refine (isMail16 B k P.aM P.nM P.cM _ ((HB.out.new nn0).cells 8)).mono ?_
    rintro e w1 ⟨rfl, hn1⟩
    have hd : decide (0 ≤ (k : Int) ∧ (k : Int) < (P.nM : Int)) = true := by simp; omega
    rw [hd]
    have n1 := nn0.trans hn1
    refine hK.out _ _ n1 (fun _ => ?_)
    simp only [Act.put, List.setIfInBounds_toArray, List.set_cons_zero, List.set_cons_succ]
    refine' hw_take 8 (some 11) _ rfl rfl (by kernel_rfl) (by kernel_rfl) (by kernel_rfl) (fun _ _ _ h => h) (by rfl) n1 ?hy26 ?rest26
    case hy26 =>
      intro X hX
      go_simp
      try rfl
    simp only [Act.put, List.setIfInBounds_toArray, List.set_cons_zero, List.set_cons_succ]
    refine wpAnyH_done (by kernel_rfl) ?_ _
    clear nn0 hn1
    go_upto_region 3 with fail
    refine hw_start (n := 8) (S := fun _ => True) rfl (by kernel_rfl) (trivial) (fun hH => ?_)
    have nn0 := (New.refl w1).drew
    generalize w1.drew = u0 at *
    refine' hw_take 0 (some 12) _ rfl rfl (by kernel_rfl) (by kernel_rfl) (by kernel_rfl) (fun _ _ _ h => h) (by rfl) trivial ?hy27 ?rest27
    case hy27 =>
      intro X hX
      go_simp
      try rfl
    simp only [Act.put, List.setIfInBounds_toArray, List.set_cons_zero, List.set_cons_succ]
    refine' hw_take 1 (some 13) _ rfl rfl (by kernel_rfl) (by kernel_rfl) (by kernel_rfl) (fun _ _ _ h => h) (by rfl) trivial ?hy28 ?rest28
    case hy28 =>
      intro X hX
      go_simp
      try rfl
    simp only [Act.put, List.setIfInBounds_toArray, List.set_cons_zero, List.set_cons_succ]
    refine' hw_take 2 (some 14) _ rfl rfl (by kernel_rfl) (by kernel_rfl) (by kernel_rfl) (fun _ _ _ h => h) (by rfl) trivial ?hy29 ?rest29
    case hy29 =>
      intro X hX
      go_simp
      try rfl
    simp only [Act.put, List.setIfInBounds_toArray, List.set_cons_zero, List.set_cons_succ]
    refine' hw_take 3 (some 15) _ rfl rfl (by kernel_rfl) (by kernel_rfl) (by kernel_rfl) (fun _ _ _ h => h) (by rfl) trivial ?hy30 ?rest30
    case hy30 =>
      intro X hX
      go_simp
      try rfl
    simp only [Act.put, List.setIfInBounds_toArray, List.set_cons_zero, List.set_cons_succ]
    refine' hw_take 4 (some 16) _ rfl rfl (by kernel_rfl) (by kernel_rfl) (by kernel_rfl) (fun _ _ _ h => h) (by rfl) trivial ?hy31 ?rest31
    case hy31 =>
      intro X hX
      go_simp
      try rfl
    simp only [Act.put, List.setIfInBounds_toArray, List.set_cons_zero, List.set_cons_succ]
    refine' hw_take 5 (some 17) _ rfl rfl (by kernel_rfl) (by kernel_rfl) (by kernel_rfl) (fun _ _ _ h => h) (by rfl) trivial ?hy32 ?rest32
    case hy32 =>
      intro X hX
      go_simp
      try rfl
    simp only [Act.put, List.setIfInBounds_toArray, List.set_cons_zero, List.set_cons_succ]
    refine hw_call 6 (some 18) rfl rfl (by kernel_rfl) (by rfl) (fun K hK => ?_)
    have nw := n1.trans nn0
    have g12 : u0.cell? ⟨B, 12, none⟩ = some (.int .i64 k) := (HB.out.new nw).cells 12
    go_simp
    refine hK.out _ _ trivial (fun _ => ?_)
    simp only [Act.put, List.setIfInBounds_toArray, List.set_cons_zero, List.set_cons_succ]
    refine hw_call 7 (some 19) rfl rfl (by kernel_rfl) (by rfl) (fun K hK => ?_)
    go_simp
    refine (dropMail16 B k P nd pe k ct ke dA dn dc ek ep eA en ec yA yn yc b0 b1 col _ (HB.out.new nw) (HO.out.new nw) HL.out hk hB (Nat.le_trans hs nw.size)).mono ?_
    rintro e w2 ⟨a, c, col', rfl, b2, o2, t2⟩
    refine hK.out _ _ trivial (fun _ => ?_)
    try simp only [Act.put, List.setIfInBounds_toArray, List.set_cons_zero, List.set_cons_succ]
    refine wpAnyH_done (by kernel_rfl) ?_ _
    clear g12
    go_wp2
    go_ret
    exact ⟨P.drop k a c, 0, col', rfl, b2, o2, Turn.trans nw.turn t2 (fun _ _ h => h), .inr ⟨HZ.out, rfl, (PrE.refl P).drop k a none c 0⟩⟩
  · have HZ : Hid (¬ (0 ≤ az ∧ az < (P.nM : Int))) := hz
    clear hz
    go_enter Tryz.func68, Tryz.ntmps68
    go_upto_region 1 with fail
    refine hw_start (n := 9) (S := fun X => New w X) rfl (by kernel_rfl) ((New.refl _).drew) (fun hH => ?_)
    have nn0 := (New.refl w).drew
    generalize w.drew = u0 at *
    refine' hw_take 0 (some 3) _ rfl rfl (by kernel_rfl) (by kernel_rfl) (by kernel_rfl) (fun _ _ _ h => h) (by rfl) nn0 ?hy33 ?rest33
    case hy33 =>
      intro X hX
      go_simp
      try rfl
    simp only [Act.put, List.setIfInBounds_toArray, List.set_cons_zero, List.set_cons_succ]
    refine' hw_take 1 (some 4) _ rfl rfl (by kernel_rfl) (by kernel_rfl) (by kernel_rfl) (fun _ _ _ h => h) (by rfl) nn0 ?hy34 ?rest34
    case hy34 =>
      intro X hX
      go_simp
      try rfl
    simp only [Act.put, List.setIfInBounds_toArray, List.set_cons_zero, List.set_cons_succ]
    refine' hw_take 2 (some 5) _ rfl rfl (by kernel_rfl) (by kernel_rfl) (by kernel_rfl) (fun _ _ _ h => h) (by rfl) nn0 ?hy35 ?rest35
    case hy35 =>
      intro X hX
      go_simp
      try rfl
    simp only [Act.put, List.setIfInBounds_toArray, List.set_cons_zero, List.set_cons_succ]
    refine' hw_take 3 (some 6) _ rfl rfl (by kernel_rfl) (by kernel_rfl) (by kernel_rfl) (fun _ _ _ h => h) (by rfl) nn0 ?hy36 ?rest36
    case hy36 =>
      intro X hX
      go_simp
      try rfl
    simp only [Act.put, List.setIfInBounds_toArray, List.set_cons_zero, List.set_cons_succ]
    refine' hw_take 4 (some 7) _ rfl rfl (by kernel_rfl) (by kernel_rfl) (by kernel_rfl) (fun _ _ _ h => h) (by rfl) nn0 ?hy37 ?rest37
    case hy37 =>
      intro X hX
      go_simp
      try rfl
    simp only [Act.put, List.setIfInBounds_toArray, List.set_cons_zero, List.set_cons_succ]
    refine' hw_take 5 (some 8) _ rfl rfl (by kernel_rfl) (by kernel_rfl) (by kernel_rfl) (fun _ _ _ h => h) (by rfl) nn0 ?hy38 ?rest38
    case hy38 =>
      intro X hX
      go_simp
      try rfl
    simp only [Act.put, List.setIfInBounds_toArray, List.set_cons_zero, List.set_cons_succ]
    refine' hw_take 6 (some 9) _ rfl rfl (by kernel_rfl) (by kernel_rfl) (by kernel_rfl) (fun _ _ _ h => h) (by rfl) nn0 ?hy39 ?rest39
    case hy39 =>
      intro X hX
      have g12 : X.cell? ⟨B, 12, none⟩ = some (.int .i64 az) := (HB.out.new (nw.trans hX)).cells 12
      go_simp
      try rfl
    simp only [Act.put, List.setIfInBounds_toArray, List.set_cons_zero, List.set_cons_succ]
    refine hw_call 7 (some 10) rfl rfl (by kernel_rfl) (by rfl) (fun K hK => ?_)
    go_simp
    refine (isMail16 B az P.aM P.nM P.cM _ ((HB.out.new nn0).cells 8)).mono ?_
    rintro e w1 ⟨rfl, hn1⟩
    have hd : decide (0 ≤ az ∧ az < (P.nM : Int)) = false := by have := HZ.out; simp only [decide_eq_false_iff_not]; exact this
    rw [hd]
    have n1 := nn0.trans hn1
    refine hK.out _ _ n1 (fun _ => ?_)
    simp only [Act.put, List.setIfInBounds_toArray, List.set_cons_zero, List.set_cons_succ]
    refine' hw_take 8 (some 11) _ rfl rfl (by kernel_rfl) (by kernel_rfl) (by kernel_rfl) (fun _ _ _ h => h) (by rfl) n1 ?hy40 ?rest40
    case hy40 =>
      intro X hX
      go_simp
      try rfl
    simp only [Act.put, List.setIfInBounds_toArray, List.set_cons_zero, List.set_cons_succ]
    refine wpAnyH_done (by kernel_rfl) ?_ _
    clear nn0 hn1
    go_wp2
    go_ret
    exact ⟨P, 4, col, rfl, HB.out.new n1, (HO.out.new n1).up (Nat.le_trans hs n1.size), n1.turn, .inl ⟨HZ.out, rfl⟩⟩

end Go.Proofs.YtebkdaddndlmoaaGreat
