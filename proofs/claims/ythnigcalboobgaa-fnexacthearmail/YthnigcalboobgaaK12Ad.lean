/- What is proved here: what putting an entry behind a log leaves; what the program's AddEvent answers. -/
import Derived.Test.YthnigcalboobgaaK12Sd
namespace Go.Proofs.Ythnigcalboobgaa
open Go.RowKit Go.Sort
set_option linter.unusedVariables false
set_option linter.unusedSimpArgs false
set_option maxRecDepth 100000

theorem blk_ne_row {w : World} {B lo sz n : Nat} {ty e : TypeId} {cs : Array Value} {u : Value} {xs : List Value} (hb : Blk w B ty cs) (h : w.ownsRow lo e sz u n xs) (hne : ty ≠ e) : ∀ k, u.ownBlock = some k → k ≠ B := by
  intro k hk ekB
  subst ekB
  rcases h.2 with ⟨h', _⟩ | ⟨g2, _, cur2, h2, _, hb2, _⟩
  · rw [h'] at hk; simp [Value.ownBlock] at hk
  · rw [h2] at hk
    simp [Value.ownBlock] at hk
    subst hk
    unfold Blk at hb
    rw [hb] at hb2
    simp only [Option.some.injEq, Obj.cells.injEq] at hb2
    exact hne hb2.2.1
/-- A block of another make is turned. -/
theorem OwL.turnB {w w' : World} {lo hi B : Nat} {u : Value} {V : List EkV} {ty : TypeId} {cs : Array Value} (h : OwL w lo hi u V) (hb : Blk w B ty cs) (h1 : ty ≠ 44) (h2 : ty ≠ 5) (t : Turn (fun i => i = B) w w') : OwL w' lo hi u V :=
  ⟨row9_turn h.row t (fun k hk e => blk_ne_row hb h.row h1 k hk e), h.rhi, h.path.turnP t (fun v hv k hk e => blk_ne_row hb (h.path.own v hv) h2 k hk e)⟩

set_option maxHeartbeats 3200000 in
theorem add_any (e1 k1 p1 : Int) (x : Option Addr) (m d : Nat) (xs : List Int) (B lo : Nat) (id : Int) (up : Bool) (ro ep su ma ot co : Int) (A : Option Addr) (n c : Nat) (V1 : List EkV) (w : World) (hb : Blk w B 36 #[.int .i64 id, .bool up, .int .i64 ro, .int .i64 ep, .slice A n c, .int .i64 su, .int .i64 ma, .int .i64 ot, .int .i64 co]) (hoL0 : OwL w lo w.heap.size (.slice A n c) V1) (hlo0 : lo ≤ w.heap.size) (hx : BsAt w x xs) (hX : xs.length = m) (hnx : x = none → m = 0 ∧ d = 0) (hm : m ≤ 1048576) (hn : n ≤ 1048576) :
    Calls Try.prog 84 #[.pointer (some ⟨B, 0, none⟩), .agg #[.int .i64 e1, .int .i64 k1, .int .i64 p1, .slice x m d]] w fun e w' => ∃ A2 c2 V2, e = .returned (.tuple #[]) ∧ Blk w' B 36 #[.int .i64 id, .bool up, .int .i64 ro, .int .i64 ep, .slice A2 (n + 1) c2, .int .i64 su, .int .i64 ma, .int .i64 ot, .int .i64 co] ∧ V2.map EkV.r = V1.map EkV.r ++ [⟨e1, k1, p1, xs⟩] ∧ V2.length = n + 1 ∧ OwL w' lo w'.heap.size (.slice A2 (n + 1) c2) V2 ∧ Turn (fun i => i = B ∨ (Value.slice A n c).ownBlock = some i) w w' := by
  obtain ⟨i0, hi, hz0, hz1, hz2⟩ := info_parts Try.infoEk
  have HX : Hid (xs.length = m) := hX
  have HLV : Hid (V1.length = n) := hoL0.lg.2
  have hby : Hid (∀ z ∈ xs, By z) := hx.lt
  have hw := (New.refl w).alloc (.cells #[.int .i64 e1, .int .i64 k1, .int .i64 p1, .slice x m d] 44)
  have bB := hb.new hw
  have bE := Blk.mk w w.heap.size 44 #[.int .i64 e1, .int .i64 k1, .int .i64 p1, .slice x m d] rfl
  have hE : ¬ (w.heap.size = B ∨ (Value.slice A n c).ownBlock = some w.heap.size) := by
    rintro (e | e)
    · have := hb.lt; omega
    · have := hoL0.rhi _ e; omega
  have hoL := (hoL0.new hw).up hw.size
  have hlo : lo ≤ (w.alloc (.cells #[.int .i64 e1, .int .i64 k1, .int .i64 p1, .slice x m d] 44)).heap.size := Nat.le_trans hlo0 hw.size
  go_enter Try.func84, Try.ntmps84
  go_upto_region 1 with fail
  generalize w.alloc (.cells #[.int .i64 e1, .int .i64 k1, .int .i64 p1, .slice x m d] 44) = w0 at *
  have cBd := (bB.new ((New.refl _).drew)).cells
  refine hw_start (n := 12) (S := fun X => Turn (fun i => i = B ∨ (Value.slice A n c).ownBlock = some i) w0 X) rfl (by kernel_rfl) (((New.refl _).drew).turn) (fun hH => ?_)
  refine' hw_take 0 (some 4) _ rfl rfl (by kernel_rfl) (by kernel_rfl) (by kernel_rfl) (fun _ _ _ h => h) (by rfl) hH ?hy1 ?rest1
  case hy1 =>
    intro X hX
    go_simp
    try rfl
  simp only [Act.put, List.setIfInBounds_toArray, List.set_cons_zero, List.set_cons_succ]
  refine' hw_take 1 (some 5) _ rfl rfl (by kernel_rfl) (by kernel_rfl) (by kernel_rfl) (fun _ _ _ h => h) (by rfl) hH ?hy2 ?rest2
  case hy2 =>
    intro X hX
    go_simp
    try rfl
  simp only [Act.put, List.setIfInBounds_toArray, List.set_cons_zero, List.set_cons_succ]
  refine' hw_take 2 (some 6) _ rfl rfl (by kernel_rfl) (by kernel_rfl) (by kernel_rfl) (fun _ _ _ h => h) (by rfl) hH ?hy3 ?rest3
  case hy3 =>
    intro X hX
    go_simp
    try rfl
  simp only [Act.put, List.setIfInBounds_toArray, List.set_cons_zero, List.set_cons_succ]
  refine' hw_take 3 (some 7) _ rfl rfl (by kernel_rfl) (by kernel_rfl) (by kernel_rfl) (fun _ _ _ h => h) (by rfl) hH ?hy4 ?rest4
  case hy4 =>
    intro X hX
    go_simp
    try rfl
  simp only [Act.put, List.setIfInBounds_toArray, List.set_cons_zero, List.set_cons_succ]
  refine' hw_take 5 (some 9) (.agg #[.int .i64 e1, .int .i64 k1, .int .i64 p1, .slice x m d]) rfl rfl (by kernel_rfl) (by kernel_rfl) (by kernel_rfl) (fun _ _ _ h => h) (by rfl) hH ?hyA ?restA
  case hyA =>
    intro X hX
    exact run_load_blk 44 (.tmp 3) rfl w.heap.size rfl #[.int .i64 e1, .int .i64 k1, .int .i64 p1, .slice x m d] _ (bE.turn hX hE) Try.underlying44 rfl (by kernel_rfl)
  simp only [Act.put, List.setIfInBounds_toArray, List.set_cons_zero, List.set_cons_succ]
  refine wpAnyH_ready (rs := [4, 6]) (by kernel_rfl) (by simp) ?_
  refine hw_step 4 (some 8) rfl rfl (by rfl) (fun K hK => ?_) ?_
  · skip
    go_simp
    refine hK.out _ _ hH (fun hH1 => ?_)
    simp only [Act.put, List.setIfInBounds_toArray, List.set_cons_zero, List.set_cons_succ]
    refine hw_call 6 (some 10) rfl rfl (by kernel_rfl) (by rfl) (fun K hK => ?_)
    go_simp
    refine (copyE e1 k1 p1 x m d xs _ ((hx.new hw).new ((New.refl _).drew)) HX.out hnx hm).mono ?_
    rintro e w5 ⟨a', c', rfl, ho5, hn5⟩
    have n5 : New w0 w5 := ((New.refl _).drew).trans hn5
    have cL5 := (bB.new n5).cells
    have z5 := n5.size
    go_simp
    refine hK.out _ _ n5.turn (fun hH5 => ?_)
    simp only [Act.put, List.setIfInBounds_toArray, List.set_cons_zero, List.set_cons_succ]
    refine hw_call 7 (some 11) rfl rfl (by kernel_rfl) (by rfl) (fun K hK => ?_)
    go_simp
    have al6 := (New.refl w5).alloc (.cells #[.int .i64 e1, .int .i64 k1, .int .i64 p1, .slice a' m c'] 44)
    have bM := Blk.mk w5 w5.heap.size 44 #[.int .i64 e1, .int .i64 k1, .int .i64 p1, .slice a' m c'] rfl
    have n6 := n5.trans al6
    have cL6 := (bB.new n6).cells
    have cM := bM.cells
    refine hK.out _ _ n6.turn (fun hH6 => ?_)
    simp only [Act.put, List.setIfInBounds_toArray, List.set_cons_zero, List.set_cons_succ]
    refine hw_call 8 (some 12) rfl rfl (by kernel_rfl) (by rfl) (fun K hK => ?_)
    have hrow := row9_new (row9_new hoL.row n5) al6
    have hov : OvB w5 w0.heap.size (EkV.pv ⟨⟨e1, k1, p1, xs⟩, a', c'⟩) xs := by
      unfold EkV.pv
      simp only [HX.out]
      exact ho5
    refine wp_apV _ (.tmp 8) (.tmp 11) rfl lo 4 48 (.agg #[.int .i64 0, .int .i64 0, .int .i64 0, .slice none 0 0]) Try.underlying34 hi hz0 hz1 hz2 rfl (by omega) (by omega) _ _ _ rfl hrow w5.heap.size [.int .i64 e1, .int .i64 k1, .int .i64 p1, .slice a' m c'] rfl (by simp [Value.oneCell']) rfl (by intro j u hu; rw [cM j, List.getElem?_toArray]; exact hu) (by have := HLV.out; omega) (by simp; omega) ?_
    intro v7 w7 hr7 hg7 hat7
    have hr7' : w7.ownsRow lo 44 4 v7 (V1 ++ [EkV.mk (Ek.mk e1 k1 p1 xs) a' c']).length (cellsK (V1 ++ [EkV.mk (Ek.mk e1 k1 p1 xs) a' c'])) := by
      rw [cellsK_snoc, List.length_append]
      simp only [EkV.cs, HX.out]
      exact hr7
    have hap := hoL.appended hlo n5 hov hby.out (by simp only [HX.out]; omega) al6 hr7' hg7
    obtain ⟨A2, c2, hv7, -, hy7⟩ := row9_form hr7
    rw [HLV.out] at hv7
    subst hv7
    have t67 := turn_of_grown hg7
    have tAll : Turn (fun i => i = B ∨ (Value.slice A n c).ownBlock = some i) w0 w7 := Turn.trans n6.turn t67 (fun i _ e => .inr e)
    have bB7 := (bB.new n6).turn t67 (fun e => blk_ne_row (bB.new n6) hrow (by decide) _ e rfl)
    have cB7 := bB7.cells
    have fB7 := bB7.frees
    have bB8 := bB7.set 4 (.slice A2 (n + 1) c2)
    have t8 := (Turn.refl (fun i => i = B) w7).set (p := ⟨B, 4, none⟩) rfl (.slice A2 (n + 1) c2)
    have hap8 := hap.turnB bB7 (by decide) (by decide) t8
    have tF := Turn.trans tAll t8 (fun i _ e => .inl e)
    refine hK.out _ _ tAll (fun hH7 => ?_)
    simp only [Act.put, List.setIfInBounds_toArray, List.set_cons_zero, List.set_cons_succ]
    refine' hw_take 9 (some 13) _ rfl rfl (by kernel_rfl) (by kernel_rfl) (by kernel_rfl) (fun _ _ _ h => h) (by rfl) hH7 ?hy5 ?rest5
    case hy5 =>
      intro X hX
      go_simp
      try rfl
    simp only [Act.put, List.setIfInBounds_toArray, List.set_cons_zero, List.set_cons_succ]
    refine' hw_take 10 (some 14) _ rfl rfl (by kernel_rfl) (by kernel_rfl) (by kernel_rfl) (fun _ _ _ h => h) (by rfl) hH7 ?hy6 ?rest6
    case hy6 =>
      intro X hX
      go_simp
      try rfl
    simp only [Act.put, List.setIfInBounds_toArray, List.set_cons_zero, List.set_cons_succ]
    refine hw_call 11 none rfl rfl (by kernel_rfl) (by rfl) (fun K hK => ?_)
    go_simp
    refine hK.out undef _ tF (fun hS2 => ?_)
    refine wpAnyH_done (by kernel_rfl) ?_ _
    have bB9 : Blk (w7.setCell ⟨B, 4, none⟩ (.slice A2 (n + 1) c2)) B 36 #[.int .i64 id, .bool up, .int .i64 ro, .int .i64 ep, .slice A2 (n + 1) c2, .int .i64 su, .int .i64 ma, .int .i64 ot, .int .i64 co] := bB8
    generalize w7.setCell ⟨B, 4, none⟩ (.slice A2 (n + 1) c2) = w8 at *
    go_wp2
    refine bodyPost_end (results_none rfl _ _ _) rfl ?_
    refine ⟨A2, c2, _, rfl, bB9, ?_, ?_, hap8.up t8.size, Turn.trans hw.turn tF (fun i _ e => e)⟩
    · rw [List.map_append]; rfl
    · simp [HLV.out]
  refine hw_step 6 (some 10) rfl rfl (by rfl) (fun K hK => ?_) ?_
  · skip
    go_simp
    refine (copyE e1 k1 p1 x m d xs _ ((hx.new hw).new ((New.refl _).drew)) HX.out hnx hm).mono ?_
    rintro e w5 ⟨a', c', rfl, ho5, hn5⟩
    have n5 : New w0 w5 := ((New.refl _).drew).trans hn5
    have cL5 := (bB.new n5).cells
    have z5 := n5.size
    go_simp
    refine hK.out _ _ n5.turn (fun hH5 => ?_)
    simp only [Act.put, List.setIfInBounds_toArray, List.set_cons_zero, List.set_cons_succ]
    refine wpAnyH_ready (rs := [4, 7]) (by kernel_rfl) (by simp) ?_
    refine hw_step 4 (some 8) rfl rfl (by rfl) (fun K hK => ?_) ?_
    · skip
      go_simp
      refine hK.out _ _ hH5 (fun hH1 => ?_)
      simp only [Act.put, List.setIfInBounds_toArray, List.set_cons_zero, List.set_cons_succ]
      refine hw_call 7 (some 11) rfl rfl (by kernel_rfl) (by rfl) (fun K hK => ?_)
      go_simp
      have al6 := (New.refl w5).alloc (.cells #[.int .i64 e1, .int .i64 k1, .int .i64 p1, .slice a' m c'] 44)
      have bM := Blk.mk w5 w5.heap.size 44 #[.int .i64 e1, .int .i64 k1, .int .i64 p1, .slice a' m c'] rfl
      have n6 := n5.trans al6
      have cL6 := (bB.new n6).cells
      have cM := bM.cells
      refine hK.out _ _ n6.turn (fun hH6 => ?_)
      simp only [Act.put, List.setIfInBounds_toArray, List.set_cons_zero, List.set_cons_succ]
      refine hw_call 8 (some 12) rfl rfl (by kernel_rfl) (by rfl) (fun K hK => ?_)
      have hrow := row9_new (row9_new hoL.row n5) al6
      have hov : OvB w5 w0.heap.size (EkV.pv ⟨⟨e1, k1, p1, xs⟩, a', c'⟩) xs := by
        unfold EkV.pv
        simp only [HX.out]
        exact ho5
      refine wp_apV _ (.tmp 8) (.tmp 11) rfl lo 4 48 (.agg #[.int .i64 0, .int .i64 0, .int .i64 0, .slice none 0 0]) Try.underlying34 hi hz0 hz1 hz2 rfl (by omega) (by omega) _ _ _ rfl hrow w5.heap.size [.int .i64 e1, .int .i64 k1, .int .i64 p1, .slice a' m c'] rfl (by simp [Value.oneCell']) rfl (by intro j u hu; rw [cM j, List.getElem?_toArray]; exact hu) (by have := HLV.out; omega) (by simp; omega) ?_
      intro v7 w7 hr7 hg7 hat7
      have hr7' : w7.ownsRow lo 44 4 v7 (V1 ++ [EkV.mk (Ek.mk e1 k1 p1 xs) a' c']).length (cellsK (V1 ++ [EkV.mk (Ek.mk e1 k1 p1 xs) a' c'])) := by
        rw [cellsK_snoc, List.length_append]
        simp only [EkV.cs, HX.out]
        exact hr7
      have hap := hoL.appended hlo n5 hov hby.out (by simp only [HX.out]; omega) al6 hr7' hg7
      obtain ⟨A2, c2, hv7, -, hy7⟩ := row9_form hr7
      rw [HLV.out] at hv7
      subst hv7
      have t67 := turn_of_grown hg7
      have tAll : Turn (fun i => i = B ∨ (Value.slice A n c).ownBlock = some i) w0 w7 := Turn.trans n6.turn t67 (fun i _ e => .inr e)
      have bB7 := (bB.new n6).turn t67 (fun e => blk_ne_row (bB.new n6) hrow (by decide) _ e rfl)
      have cB7 := bB7.cells
      have fB7 := bB7.frees
      have bB8 := bB7.set 4 (.slice A2 (n + 1) c2)
      have t8 := (Turn.refl (fun i => i = B) w7).set (p := ⟨B, 4, none⟩) rfl (.slice A2 (n + 1) c2)
      have hap8 := hap.turnB bB7 (by decide) (by decide) t8
      have tF := Turn.trans tAll t8 (fun i _ e => .inl e)
      refine hK.out _ _ tAll (fun hH7 => ?_)
      simp only [Act.put, List.setIfInBounds_toArray, List.set_cons_zero, List.set_cons_succ]
      refine' hw_take 9 (some 13) _ rfl rfl (by kernel_rfl) (by kernel_rfl) (by kernel_rfl) (fun _ _ _ h => h) (by rfl) hH7 ?hy7 ?rest7
      case hy7 =>
        intro X hX
        go_simp
        try rfl
      simp only [Act.put, List.setIfInBounds_toArray, List.set_cons_zero, List.set_cons_succ]
      refine' hw_take 10 (some 14) _ rfl rfl (by kernel_rfl) (by kernel_rfl) (by kernel_rfl) (fun _ _ _ h => h) (by rfl) hH7 ?hy8 ?rest8
      case hy8 =>
        intro X hX
        go_simp
        try rfl
      simp only [Act.put, List.setIfInBounds_toArray, List.set_cons_zero, List.set_cons_succ]
      refine hw_call 11 none rfl rfl (by kernel_rfl) (by rfl) (fun K hK => ?_)
      go_simp
      refine hK.out undef _ tF (fun hS2 => ?_)
      refine wpAnyH_done (by kernel_rfl) ?_ _
      have bB9 : Blk (w7.setCell ⟨B, 4, none⟩ (.slice A2 (n + 1) c2)) B 36 #[.int .i64 id, .bool up, .int .i64 ro, .int .i64 ep, .slice A2 (n + 1) c2, .int .i64 su, .int .i64 ma, .int .i64 ot, .int .i64 co] := bB8
      generalize w7.setCell ⟨B, 4, none⟩ (.slice A2 (n + 1) c2) = w8 at *
      go_wp2
      refine bodyPost_end (results_none rfl _ _ _) rfl ?_
      refine ⟨A2, c2, _, rfl, bB9, ?_, ?_, hap8.up t8.size, Turn.trans hw.turn tF (fun i _ e => e)⟩
      · rw [List.map_append]; rfl
      · simp [HLV.out]
    refine hw_step 7 (some 11) rfl rfl (by rfl) (fun K hK => ?_) ?_
    · skip
      go_simp
      have al6 := (New.refl w5).alloc (.cells #[.int .i64 e1, .int .i64 k1, .int .i64 p1, .slice a' m c'] 44)
      have bM := Blk.mk w5 w5.heap.size 44 #[.int .i64 e1, .int .i64 k1, .int .i64 p1, .slice a' m c'] rfl
      have n6 := n5.trans al6
      have cL6 := (bB.new n6).cells
      have cM := bM.cells
      refine hK.out _ _ n6.turn (fun hH6 => ?_)
      simp only [Act.put, List.setIfInBounds_toArray, List.set_cons_zero, List.set_cons_succ]
      refine hw_call 4 (some 8) rfl rfl (by kernel_rfl) (by rfl) (fun K hK => ?_)
      go_simp
      refine hK.out _ _ hH6 (fun hH1 => ?_)
      simp only [Act.put, List.setIfInBounds_toArray, List.set_cons_zero, List.set_cons_succ]
      refine hw_call 8 (some 12) rfl rfl (by kernel_rfl) (by rfl) (fun K hK => ?_)
      have hrow := row9_new (row9_new hoL.row n5) al6
      have hov : OvB w5 w0.heap.size (EkV.pv ⟨⟨e1, k1, p1, xs⟩, a', c'⟩) xs := by
        unfold EkV.pv
        simp only [HX.out]
        exact ho5
      refine wp_apV _ (.tmp 8) (.tmp 11) rfl lo 4 48 (.agg #[.int .i64 0, .int .i64 0, .int .i64 0, .slice none 0 0]) Try.underlying34 hi hz0 hz1 hz2 rfl (by omega) (by omega) _ _ _ rfl hrow w5.heap.size [.int .i64 e1, .int .i64 k1, .int .i64 p1, .slice a' m c'] rfl (by simp [Value.oneCell']) rfl (by intro j u hu; rw [cM j, List.getElem?_toArray]; exact hu) (by have := HLV.out; omega) (by simp; omega) ?_
      intro v7 w7 hr7 hg7 hat7
      have hr7' : w7.ownsRow lo 44 4 v7 (V1 ++ [EkV.mk (Ek.mk e1 k1 p1 xs) a' c']).length (cellsK (V1 ++ [EkV.mk (Ek.mk e1 k1 p1 xs) a' c'])) := by
        rw [cellsK_snoc, List.length_append]
        simp only [EkV.cs, HX.out]
        exact hr7
      have hap := hoL.appended hlo n5 hov hby.out (by simp only [HX.out]; omega) al6 hr7' hg7
      obtain ⟨A2, c2, hv7, -, hy7⟩ := row9_form hr7
      rw [HLV.out] at hv7
      subst hv7
      have t67 := turn_of_grown hg7
      have tAll : Turn (fun i => i = B ∨ (Value.slice A n c).ownBlock = some i) w0 w7 := Turn.trans n6.turn t67 (fun i _ e => .inr e)
      have bB7 := (bB.new n6).turn t67 (fun e => blk_ne_row (bB.new n6) hrow (by decide) _ e rfl)
      have cB7 := bB7.cells
      have fB7 := bB7.frees
      have bB8 := bB7.set 4 (.slice A2 (n + 1) c2)
      have t8 := (Turn.refl (fun i => i = B) w7).set (p := ⟨B, 4, none⟩) rfl (.slice A2 (n + 1) c2)
      have hap8 := hap.turnB bB7 (by decide) (by decide) t8
      have tF := Turn.trans tAll t8 (fun i _ e => .inl e)
      refine hK.out _ _ tAll (fun hH7 => ?_)
      simp only [Act.put, List.setIfInBounds_toArray, List.set_cons_zero, List.set_cons_succ]
      refine' hw_take 9 (some 13) _ rfl rfl (by kernel_rfl) (by kernel_rfl) (by kernel_rfl) (fun _ _ _ h => h) (by rfl) hH7 ?hy9 ?rest9
      case hy9 =>
        intro X hX
        go_simp
        try rfl
      simp only [Act.put, List.setIfInBounds_toArray, List.set_cons_zero, List.set_cons_succ]
      refine' hw_take 10 (some 14) _ rfl rfl (by kernel_rfl) (by kernel_rfl) (by kernel_rfl) (fun _ _ _ h => h) (by rfl) hH7 ?hy10 ?rest10
      case hy10 =>
        intro X hX
        go_simp
        try rfl
      simp only [Act.put, List.setIfInBounds_toArray, List.set_cons_zero, List.set_cons_succ]
      refine hw_call 11 none rfl rfl (by kernel_rfl) (by rfl) (fun K hK => ?_)
      go_simp
      refine hK.out undef _ tF (fun hS2 => ?_)
      refine wpAnyH_done (by kernel_rfl) ?_ _
      have bB9 : Blk (w7.setCell ⟨B, 4, none⟩ (.slice A2 (n + 1) c2)) B 36 #[.int .i64 id, .bool up, .int .i64 ro, .int .i64 ep, .slice A2 (n + 1) c2, .int .i64 su, .int .i64 ma, .int .i64 ot, .int .i64 co] := bB8
      generalize w7.setCell ⟨B, 4, none⟩ (.slice A2 (n + 1) c2) = w8 at *
      go_wp2
      refine bodyPost_end (results_none rfl _ _ _) rfl ?_
      refine ⟨A2, c2, _, rfl, bB9, ?_, ?_, hap8.up t8.size, Turn.trans hw.turn tF (fun i _ e => e)⟩
      · rw [List.map_append]; rfl
      · simp [HLV.out]
    exact fun j hj => by cases hj
  exact fun j hj => by cases hj

theorem implEVv (v k1 p1 : Int) (x : Option Addr) (m d : Nat) (w : World) (hm : m ≤ 1048576) (hv : evF k1 p1 m = v) : Calls Try.prog 87 #[.agg #[.int .i64 k1, .int .i64 p1, .slice x m d]] w fun e w' => e = .returned (.int .i64 v) ∧ New w w' := by
  rw [← hv]; exact implEV k1 p1 x m d w hm
theorem specEVv (v k1 p1 : Int) (x : Option Addr) (m d : Nat) (w : World) (hm : m ≤ 1048576) (hv : evF k1 p1 m = v) : Calls Try.prog 69 #[.agg #[.int .i64 k1, .int .i64 p1, .slice x m d]] w fun e w' => e = .returned (.int .i64 v) ∧ New w w' := by
  rw [← hv]; exact specEV k1 p1 x m d w hm

end Go.Proofs.Ythnigcalboobgaa
