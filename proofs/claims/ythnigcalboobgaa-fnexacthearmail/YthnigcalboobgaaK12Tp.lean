/- What is proved here: what taking an entry leaves where it is put in, and the code where the log is full. -/
import Derived.Test.YthnigcalboobgaaK12Hf
import Derived.Deep.RegionHeld3
namespace Go.Proofs.Ythnigcalboobgaa
open Go.ChangeShapes Go.WideShapes Go.ChangeAt Go.RowKit
set_option linter.unusedVariables false
set_option linter.unusedSimpArgs false
set_option maxRecDepth 100000

/-- An operation whose guard says no is left out. -/
theorem hw_skip {P : Program} {ops : Array Oper} {Q : Exit → Act → World → Prop} {md : Region.Mode} {S : World → Prop} {fuel : Nat} {listed : Array Bool} {a : Act} {w : World} (i : Nat) (d : Option Tmp) {oi : Oper} (hi : ops[i]? = some oi) (hd : oi.dst = d)
    (hs : Region.noSelect ops = true) (hf : Region.free md ops listed i = true) (hr : (Region.ready md ops listed).contains i = true)
    (hQ : ∀ c a w, Q (.panic c) (a.put d undef) w → Q (.panic c) a w) (hw : Region.wanted oi (yielded ops a.tmps) = false) (hS : S w)
    (h : wpAnyH P md ops Q S fuel (listed.setIfInBounds i true) (a.put d undef) w) : wpAnyH P md ops Q S (fuel + 1) listed a w := by
  subst hd
  exact wpAnyH_take hi hs hf hr hQ (.inr ⟨hw, rfl⟩) hS h

theorem own_same {A : Option Addr} {n n' c B i : Nat} (h : i = B ∨ (Value.slice A n c).ownBlock = some i) : i = B ∨ (Value.slice A n' c).ownBlock = some i := by
  cases A <;> simpa [Value.ownBlock] using h
theorem Try.htE : Try.prog.underlying 34 = some (.slice (Try.prog.elem 34)) := by kernel_rfl
theorem Try.szE (w : World) : (sizeOf (Try.prog.elem 34)).run Try.prog w = .ok 4 w := by kernel_rfl
/-- The first of a list of entries. -/
theorem headK (a : Option Addr) (n c t : Nat) (hs : (a = none ∧ c = 0) ∨ ∃ b, a = some ⟨b, 0, none⟩) (ht : t ≤ c) :
    ∀ X, (Instr.slice 34 (.slice a n c) none (some (.int .i64 (t : Int))) none).run Try.prog X = .ok (.slice a t c) X := by
  intro X
  rw [run_slice_h X 34 a n c Try.htE .i64 t (by omega) (by omega), Try.szE]
  rcases hs with ⟨rfl, rfl⟩ | ⟨b, rfl⟩
  · simp [Result.andThen, sliced]
  · by_cases hc : c = 0
    · simp [Result.andThen, sliced, hc]
    · simp [Result.andThen, sliced, hc, Addr.add]

set_option maxHeartbeats 1600000 in
theorem take_mid (e1 k1 p1 : Int) (x : Option Addr) (m d : Nat) (xs : List Int) (o B lo : Nat) (id : Int) (up : Bool) (ro ep su ma ot co : Int) (A : Option Addr) (n c : Nat) (V1 : List EkV) (wb w : World) (hb : Blk w B 36 #[.int .i64 id, .bool up, .int .i64 ro, .int .i64 ep, .slice A n c, .int .i64 su, .int .i64 ma, .int .i64 ot, .int .i64 co]) (hoL0 : OwL w lo w.heap.size (.slice A n c) V1) (hlo0 : lo ≤ w.heap.size) (hx : BsAt wb x xs) (hwb : New wb w) (hBb : wb.heap.size ≤ B) (hX : xs.length = m) (hnx : x = none → m = 0 ∧ d = 0) (hm : m ≤ 1048576) (hn : n ≤ 100) (ho' : o < n) (he : ¬ prevE (V1.map EkV.r) (o + 1) = e1) (hc : co ≤ o) :
    Calls Try.prog 59 #[.pointer (some ⟨B, 0, none⟩), .agg #[.int .i64 e1, .int .i64 k1, .int .i64 p1, .slice x m d], .int .i64 (o : Int)] w fun e w' => ∃ A2 c2 V2, e = .returned (.int .i64 0) ∧ Blk w' B 36 #[.int .i64 id, .bool up, .int .i64 ro, .int .i64 ep, .slice A2 (o + 1) c2, .int .i64 (min su (o : Int)), .int .i64 ma, .int .i64 ot, .int .i64 co] ∧ V2.map EkV.r = (V1.map EkV.r).take o ++ [⟨e1, k1, p1, xs⟩] ∧ OwL w' lo w'.heap.size (.slice A2 (o + 1) c2) V2 ∧ Turn (fun i => i = B ∨ (Value.slice A n c).ownBlock = some i) w w' := by
  have HL : Hid (V1.length = n) := hoL0.lg.2
  have al := (New.refl w).alloc (.cells #[.int .i64 e1, .int .i64 k1, .int .i64 p1, .slice x m d] 44)
  have hb1 := hb.new al
  have bE := Blk.mk w w.heap.size 44 #[.int .i64 e1, .int .i64 k1, .int .i64 p1, .slice x m d] rfl
  have hoL := (hoL0.new al).up al.size
  have hlB := hb.lt
  have hrb := hoL0.rhi
  have hcap : o ≤ c := by
    obtain ⟨A', c', ef, -, h2⟩ := hoL0.form
    simp only [Value.slice.injEq] at ef
    obtain ⟨rfl, rfl, rfl⟩ := ef
    rcases h2 with ⟨-, h3, -⟩ | ⟨g', -, h3, -⟩
    · rw [h3] at ho'; simp at ho'
    · omega
  obtain ⟨g, ep1, ki, pe, x1, m1, d1, xs1, rfl, hv, -, -, -, q0, -, -, -⟩ := hoL.lg.1.at o (by rw [HL.out]; exact ho')
  have hep : ep1 = prevE (V1.map EkV.r) (o + 1) := by unfold prevE; simp [hv]
  rw [hep] at q0
  have hd1 : decide ((o : Int) < (n : Int)) = true := by simp; omega
  have hd2 : decide ((o : Int) < co) = false := by simp; omega
  have hd3 : (prevE (V1.map EkV.r) (o + 1) == e1) = false := by simp [he]
  have hd4 : ¬ (100 : Int) ≤ (o : Int) := by omega
  have ho : o ≤ n := by omega
  clear hep hv
  generalize prevE (V1.map EkV.r) (o + 1) = q1 at *
  go_enter Try.func59, Try.ntmps59
  go_upto_region 1 with fail
  generalize w.alloc (.cells #[.int .i64 e1, .int .i64 k1, .int .i64 p1, .slice x m d] 44) = w0 at *
  have hb2 := hb1.new ((New.refl _).drew)
  have cB := hb1.cells
  have cE := bE.cells
  have cB2 := hb2.cells
  have cE2 := (bE.new ((New.refl _).drew)).cells
  have q2 : w0.drew.cell? ⟨g, o * 4, none⟩ = some (.int .i64 q1) := q0
  go_wp2_with fail
  go_region_held3 (fun W => (∀ j, W.cell? ⟨B, j, none⟩ = (#[.int .i64 id, .bool up, .int .i64 ro, .int .i64 ep, .slice (some ⟨g, 0, none⟩) n c, .int .i64 su, .int .i64 ma, .int .i64 ot, .int .i64 co] : Array Value)[j]?) ∧ (∀ j, W.cell? ⟨w.heap.size, j, none⟩ = (#[.int .i64 e1, .int .i64 k1, .int .i64 p1, .slice x m d] : Array Value)[j]?) ∧ W.cell? ⟨g, o * 4, none⟩ = some (.int .i64 q1)) (first | exact ⟨cB, cE, q0⟩ | exact ⟨cB2, cE2, q2⟩)
    (first | (go_at_call 56; refine (count_any B id up ro ep su ma ot co _ n c _ hb2).mono ?_; rintro e wz ⟨rfl, hwz⟩; subst hwz))
  clear cB2 cE2
  have d1 : New w0 w0.drew := (New.refl _).drew
  generalize w0.drew = w1 at *
  have cB := hb2.cells
  have fB := hb2.frees
  by_cases hso : (o : Int) < su
  · skip
    have e0 : min su (o : Int) = (o : Int) := by omega
    go_upto_region 8 with fail
    have b3 := hb2.set 5 (.int .i64 (o : Int))
    have t3 := (d1.turn (S := fun i => i = B)).set (p := ⟨B, 5, none⟩) rfl (.int .i64 (o : Int))
    clear cB fB
    generalize w1.setCell ⟨B, 5, none⟩ (.int .i64 (o : Int)) = w3 at *
    have cB := b3.cells
    have fB := b3.frees
    go_upto_region 9 with fail
    have b4 := b3.set 4 (.slice (some ⟨g, 0, none⟩) o c)
    have t4 := t3.set (p := ⟨B, 4, none⟩) rfl (.slice (some ⟨g, 0, none⟩) o c)
    clear cB fB
    generalize w3.setCell ⟨B, 4, none⟩ (.slice (some ⟨g, 0, none⟩) o c) = w4 at *
    have bE4 := bE.turn t4 (by omega)
    have tw4 : Turn (fun i => i = B) w w4 := Turn.trans al.turn t4 (fun i _ e => e)
    have hoL4 := hoL.turnB hb1 (by decide) (by decide) t4
    have hwb4 := (hwb.trans al).before t4 (by intro i hi e; omega)
    have z4 := t4.size
    have hoT := (hoL4.up z4).takeN o ho
    have cE4 := bE4.cells
    clear b3 t3
    go_wp2_with fail
    refine (add_any e1 k1 p1 x m d xs B lo id up ro ep (o : Int) ma ot co (some ⟨g, 0, none⟩) o c (V1.take o) _ b4 hoT (by have := al.size; omega) (hx.new hwb4) hX hnx hm (by omega)).mono ?_
    rintro e w5 ⟨A2, c2, V2, rfl, bB5, hV2, hl2, hoF, t5⟩
    have tF : Turn (fun i => i = B ∨ (Value.slice (some ⟨g, 0, none⟩) n c).ownBlock = some i) w w5 := Turn.trans (tw4.mono (fun i _ e => .inl e)) t5 (fun i _ e => own_same e)
    go_wp2
    go_ret
    refine ⟨A2, c2, V2, rfl, ?_, ?_, hoF, tF⟩
    · rw [e0]; exact bB5
    · rw [hV2, List.map_take]
  · skip
    have e0 : min su (o : Int) = su := by omega
    go_upto_region 8 with fail
    have b3 := hb2.set 5 (.int .i64 su)
    have t3 := (d1.turn (S := fun i => i = B)).set (p := ⟨B, 5, none⟩) rfl (.int .i64 su)
    clear cB fB
    generalize w1.setCell ⟨B, 5, none⟩ (.int .i64 su) = w3 at *
    have cB := b3.cells
    have fB := b3.frees
    go_upto_region 9 with fail
    have b4 := b3.set 4 (.slice (some ⟨g, 0, none⟩) o c)
    have t4 := t3.set (p := ⟨B, 4, none⟩) rfl (.slice (some ⟨g, 0, none⟩) o c)
    clear cB fB
    generalize w3.setCell ⟨B, 4, none⟩ (.slice (some ⟨g, 0, none⟩) o c) = w4 at *
    have bE4 := bE.turn t4 (by omega)
    have tw4 : Turn (fun i => i = B) w w4 := Turn.trans al.turn t4 (fun i _ e => e)
    have hoL4 := hoL.turnB hb1 (by decide) (by decide) t4
    have hwb4 := (hwb.trans al).before t4 (by intro i hi e; omega)
    have z4 := t4.size
    have hoT := (hoL4.up z4).takeN o ho
    have cE4 := bE4.cells
    clear b3 t3
    go_wp2_with fail
    refine (add_any e1 k1 p1 x m d xs B lo id up ro ep su ma ot co (some ⟨g, 0, none⟩) o c (V1.take o) _ b4 hoT (by have := al.size; omega) (hx.new hwb4) hX hnx hm (by omega)).mono ?_
    rintro e w5 ⟨A2, c2, V2, rfl, bB5, hV2, hl2, hoF, t5⟩
    have tF : Turn (fun i => i = B ∨ (Value.slice (some ⟨g, 0, none⟩) n c).ownBlock = some i) w w5 := Turn.trans (tw4.mono (fun i _ e => .inl e)) t5 (fun i _ e => own_same e)
    go_wp2
    go_ret
    refine ⟨A2, c2, V2, rfl, ?_, ?_, hoF, tF⟩
    · rw [e0]; exact bB5
    · rw [hV2, List.map_take]

set_option maxHeartbeats 1600000 in
theorem take_end (e1 k1 p1 : Int) (x : Option Addr) (m d : Nat) (xs : List Int) (o B lo : Nat) (id : Int) (up : Bool) (ro ep su ma ot co : Int) (A : Option Addr) (n c : Nat) (V1 : List EkV) (wb w : World) (hb : Blk w B 36 #[.int .i64 id, .bool up, .int .i64 ro, .int .i64 ep, .slice A n c, .int .i64 su, .int .i64 ma, .int .i64 ot, .int .i64 co]) (hoL0 : OwL w lo w.heap.size (.slice A n c) V1) (hlo0 : lo ≤ w.heap.size) (hx : BsAt wb x xs) (hwb : New wb w) (hBb : wb.heap.size ≤ B) (hX : xs.length = m) (hnx : x = none → m = 0 ∧ d = 0) (hm : m ≤ 1048576) (hn : n ≤ 100) (ho' : o = n) (ho1 : o < 100) (hc : co ≤ o) :
    Calls Try.prog 59 #[.pointer (some ⟨B, 0, none⟩), .agg #[.int .i64 e1, .int .i64 k1, .int .i64 p1, .slice x m d], .int .i64 (o : Int)] w fun e w' => ∃ A2 c2 V2, e = .returned (.int .i64 0) ∧ Blk w' B 36 #[.int .i64 id, .bool up, .int .i64 ro, .int .i64 ep, .slice A2 (o + 1) c2, .int .i64 (min su (o : Int)), .int .i64 ma, .int .i64 ot, .int .i64 co] ∧ V2.map EkV.r = (V1.map EkV.r).take o ++ [⟨e1, k1, p1, xs⟩] ∧ OwL w' lo w'.heap.size (.slice A2 (o + 1) c2) V2 ∧ Turn (fun i => i = B ∨ (Value.slice A n c).ownBlock = some i) w w' := by
  have al := (New.refl w).alloc (.cells #[.int .i64 e1, .int .i64 k1, .int .i64 p1, .slice x m d] 44)
  have hb1 := hb.new al
  have bE := Blk.mk w w.heap.size 44 #[.int .i64 e1, .int .i64 k1, .int .i64 p1, .slice x m d] rfl
  have hoL := (hoL0.new al).up al.size
  have hlB := hb.lt
  have hrb := hoL0.rhi
  have ho : o ≤ n := by omega
  have hd1 : decide ((o : Int) < (n : Int)) = false := by simp; omega
  have hd2 : decide ((o : Int) < co) = false := by simp; omega
  have hd4 : ¬ (100 : Int) ≤ (o : Int) := by omega
  have hcut : ∀ X, (Instr.slice 34 (.slice A n c) none (some (.int .i64 (o : Int))) none).run Try.prog X = .ok (.slice A o c) X := by
    intro X
    obtain ⟨A', c', ef, -, h2⟩ := hoL0.form
    simp only [Value.slice.injEq] at ef
    obtain ⟨rfl, h1, rfl⟩ := ef
    exact headK A n c o (by rcases h2 with ⟨h3, h4, h5⟩ | ⟨g', h3, h4, -⟩; exact .inl ⟨h3, h5⟩; exact .inr ⟨g', h3⟩) (by rcases h2 with ⟨h3, h4, h5⟩ | ⟨g', h3, h4, -⟩; (rw [h4] at h1; simp at h1; omega); omega) X
  have HO : Hid (o = n) := ho'
  have hno : n ≤ o := by omega
  have HN : Hid (n ≤ 100) := hn
  clear ho' hoL0
  go_enter Try.func59, Try.ntmps59
  go_upto_region 1 with fail
  generalize w.alloc (.cells #[.int .i64 e1, .int .i64 k1, .int .i64 p1, .slice x m d] 44) = w0 at *
  have hb2 := hb1.new ((New.refl _).drew)
  have cB := hb1.cells
  have cE := bE.cells
  have cB2 := hb2.cells
  have cE2 := (bE.new ((New.refl _).drew)).cells
  clear cB cE
  refine hw_start (n := 17) (S := fun X => New w0 X) rfl (by kernel_rfl) ((New.refl _).drew) (fun hH => ?_)
  refine' hw_take 0 (some 7) _ rfl rfl (by kernel_rfl) (by kernel_rfl) (by kernel_rfl) (fun _ _ _ h => h) (by rfl) hH ?hy1 ?rest1
  case hy1 =>
    intro X hX
    go_simp
    try rfl
  simp only [Act.put, List.setIfInBounds_toArray, List.set_cons_zero, List.set_cons_succ]
  refine' hw_take 1 (some 8) _ rfl rfl (by kernel_rfl) (by kernel_rfl) (by kernel_rfl) (fun _ _ _ h => h) (by rfl) hH ?hy2 ?rest2
  case hy2 =>
    intro X hX
    go_simp
    try rfl
  simp only [Act.put, List.setIfInBounds_toArray, List.set_cons_zero, List.set_cons_succ]
  refine hw_call 2 (some 9) rfl rfl (by kernel_rfl) (by rfl) (fun K hK => ?_)
  go_simp
  refine (count_any B id up ro ep su ma ot co A n c _ hb2).mono ?_
  rintro e wz ⟨rfl, hwz⟩
  subst hwz
  go_simp
  refine hK.out _ _ ((New.refl _).drew) (fun hH2 => ?_)
  simp only [Act.put, List.setIfInBounds_toArray, List.set_cons_zero, List.set_cons_succ]
  refine' hw_take 3 (some 10) (.bool false) rfl rfl (by kernel_rfl) (by kernel_rfl) (by kernel_rfl) (fun _ _ _ h => h) (by rfl) hH2 ?hyL ?restL
  case hyL =>
    intro X hX
    go_simp
    try rfl
  simp only [Act.put, List.setIfInBounds_toArray, List.set_cons_zero, List.set_cons_succ]
  refine' hw_take 4 (some 11) _ rfl rfl (by kernel_rfl) (by kernel_rfl) (by kernel_rfl) (fun _ _ _ h => h) (by rfl) hH2 ?hy3 ?rest3
  case hy3 =>
    intro X hX
    go_simp
    try rfl
  simp only [Act.put, List.setIfInBounds_toArray, List.set_cons_zero, List.set_cons_succ]
  refine hw_skip 5 (some 12) rfl rfl (by kernel_rfl) (by kernel_rfl) (by kernel_rfl) (fun _ _ _ h => h) (by rfl) hH2 ?_
  simp only [Act.put, List.setIfInBounds_toArray, List.set_cons_zero, List.set_cons_succ]
  refine hw_skip 6 (some 13) rfl rfl (by kernel_rfl) (by kernel_rfl) (by kernel_rfl) (fun _ _ _ h => h) (by rfl) hH2 ?_
  simp only [Act.put, List.setIfInBounds_toArray, List.set_cons_zero, List.set_cons_succ]
  refine hw_skip 7 (some 14) rfl rfl (by kernel_rfl) (by kernel_rfl) (by kernel_rfl) (fun _ _ _ h => h) (by rfl) hH2 ?_
  simp only [Act.put, List.setIfInBounds_toArray, List.set_cons_zero, List.set_cons_succ]
  refine hw_skip 8 (some 15) rfl rfl (by kernel_rfl) (by kernel_rfl) (by kernel_rfl) (fun _ _ _ h => h) (by rfl) hH2 ?_
  simp only [Act.put, List.setIfInBounds_toArray, List.set_cons_zero, List.set_cons_succ]
  refine hw_skip 9 (some 16) rfl rfl (by kernel_rfl) (by kernel_rfl) (by kernel_rfl) (fun _ _ _ h => h) (by rfl) hH2 ?_
  simp only [Act.put, List.setIfInBounds_toArray, List.set_cons_zero, List.set_cons_succ]
  refine hw_skip 10 (some 17) rfl rfl (by kernel_rfl) (by kernel_rfl) (by kernel_rfl) (fun _ _ _ h => h) (by rfl) hH2 ?_
  simp only [Act.put, List.setIfInBounds_toArray, List.set_cons_zero, List.set_cons_succ]
  refine hw_skip 11 (some 18) rfl rfl (by kernel_rfl) (by kernel_rfl) (by kernel_rfl) (fun _ _ _ h => h) (by rfl) hH2 ?_
  simp only [Act.put, List.setIfInBounds_toArray, List.set_cons_zero, List.set_cons_succ]
  refine hw_skip 12 (some 19) rfl rfl (by kernel_rfl) (by kernel_rfl) (by kernel_rfl) (fun _ _ _ h => h) (by rfl) hH2 ?_
  simp only [Act.put, List.setIfInBounds_toArray, List.set_cons_zero, List.set_cons_succ]
  refine hw_skip 13 (some 20) rfl rfl (by kernel_rfl) (by kernel_rfl) (by kernel_rfl) (fun _ _ _ h => h) (by rfl) hH2 ?_
  simp only [Act.put, List.setIfInBounds_toArray, List.set_cons_zero, List.set_cons_succ]
  refine hw_skip 14 (some 21) rfl rfl (by kernel_rfl) (by kernel_rfl) (by kernel_rfl) (fun _ _ _ h => h) (by rfl) hH2 ?_
  simp only [Act.put, List.setIfInBounds_toArray, List.set_cons_zero, List.set_cons_succ]
  refine hw_skip 15 (some 22) rfl rfl (by kernel_rfl) (by kernel_rfl) (by kernel_rfl) (fun _ _ _ h => h) (by rfl) hH2 ?_
  simp only [Act.put, List.setIfInBounds_toArray, List.set_cons_zero, List.set_cons_succ]
  refine' hw_take 16 (some 23) _ rfl rfl (by kernel_rfl) (by kernel_rfl) (by kernel_rfl) (fun _ _ _ h => h) (by rfl) hH2 ?hy4 ?rest4
  case hy4 =>
    intro X hX
    go_simp
    try rfl
  simp only [Act.put, List.setIfInBounds_toArray, List.set_cons_zero, List.set_cons_succ]
  refine wpAnyH_done (by kernel_rfl) ?_ _
  clear cB2 cE2
  have d1 : New w0 w0.drew := (New.refl _).drew
  generalize w0.drew = w1 at *
  have cB := hb2.cells
  have fB := hb2.frees
  by_cases hso : (o : Int) < su
  · skip
    have e0 : min su (o : Int) = (o : Int) := by omega
    go_upto_region 8 with fail
    have b3 := hb2.set 5 (.int .i64 (o : Int))
    have t3 := (d1.turn (S := fun i => i = B)).set (p := ⟨B, 5, none⟩) rfl (.int .i64 (o : Int))
    clear cB fB
    generalize w1.setCell ⟨B, 5, none⟩ (.int .i64 (o : Int)) = w3 at *
    have cB := b3.cells
    have fB := b3.frees
    go_upto_region 9 with fail
    have b4 := b3.set 4 (.slice A o c)
    have t4 := t3.set (p := ⟨B, 4, none⟩) rfl (.slice A o c)
    clear cB fB
    generalize w3.setCell ⟨B, 4, none⟩ (.slice A o c) = w4 at *
    have bE4 := bE.turn t4 (by omega)
    have tw4 : Turn (fun i => i = B) w w4 := Turn.trans al.turn t4 (fun i _ e => e)
    have hoL4 := hoL.turnB hb1 (by decide) (by decide) t4
    have hwb4 := (hwb.trans al).before t4 (by intro i hi e; omega)
    have z4 := t4.size
    have hoT := (hoL4.up z4).takeN o ho
    have cE4 := bE4.cells
    clear b3 t3
    go_wp2_with fail
    refine (add_any e1 k1 p1 x m d xs B lo id up ro ep (o : Int) ma ot co A o c (V1.take o) _ b4 hoT (by have := al.size; omega) (hx.new hwb4) hX hnx hm (by omega)).mono ?_
    rintro e w5 ⟨A2, c2, V2, rfl, bB5, hV2, hl2, hoF, t5⟩
    have tF : Turn (fun i => i = B ∨ (Value.slice A n c).ownBlock = some i) w w5 := Turn.trans (tw4.mono (fun i _ e => .inl e)) t5 (fun i _ e => own_same e)
    go_wp2
    go_ret
    refine ⟨A2, c2, V2, rfl, ?_, ?_, hoF, tF⟩
    · rw [e0]; exact bB5
    · rw [hV2, List.map_take]
  · skip
    have e0 : min su (o : Int) = su := by omega
    go_upto_region 8 with fail
    have b3 := hb2.set 5 (.int .i64 su)
    have t3 := (d1.turn (S := fun i => i = B)).set (p := ⟨B, 5, none⟩) rfl (.int .i64 su)
    clear cB fB
    generalize w1.setCell ⟨B, 5, none⟩ (.int .i64 su) = w3 at *
    have cB := b3.cells
    have fB := b3.frees
    go_upto_region 9 with fail
    have b4 := b3.set 4 (.slice A o c)
    have t4 := t3.set (p := ⟨B, 4, none⟩) rfl (.slice A o c)
    clear cB fB
    generalize w3.setCell ⟨B, 4, none⟩ (.slice A o c) = w4 at *
    have bE4 := bE.turn t4 (by omega)
    have tw4 : Turn (fun i => i = B) w w4 := Turn.trans al.turn t4 (fun i _ e => e)
    have hoL4 := hoL.turnB hb1 (by decide) (by decide) t4
    have hwb4 := (hwb.trans al).before t4 (by intro i hi e; omega)
    have z4 := t4.size
    have hoT := (hoL4.up z4).takeN o ho
    have cE4 := bE4.cells
    clear b3 t3
    go_wp2_with fail
    refine (add_any e1 k1 p1 x m d xs B lo id up ro ep su ma ot co A o c (V1.take o) _ b4 hoT (by have := al.size; omega) (hx.new hwb4) hX hnx hm (by omega)).mono ?_
    rintro e w5 ⟨A2, c2, V2, rfl, bB5, hV2, hl2, hoF, t5⟩
    have tF : Turn (fun i => i = B ∨ (Value.slice A n c).ownBlock = some i) w w5 := Turn.trans (tw4.mono (fun i _ e => .inl e)) t5 (fun i _ e => own_same e)
    go_wp2
    go_ret
    refine ⟨A2, c2, V2, rfl, ?_, ?_, hoF, tF⟩
    · rw [e0]; exact bB5
    · rw [hV2, List.map_take]

set_option maxHeartbeats 1600000 in
theorem take_full (e1 k1 p1 : Int) (x : Option Addr) (m d : Nat) (xs : List Int) (o B lo : Nat) (id : Int) (up : Bool) (ro ep su ma ot co : Int) (A : Option Addr) (n c : Nat) (V1 : List EkV) (wb w : World) (hb : Blk w B 36 #[.int .i64 id, .bool up, .int .i64 ro, .int .i64 ep, .slice A n c, .int .i64 su, .int .i64 ma, .int .i64 ot, .int .i64 co]) (hn : n = 100) (ho' : o = n) (hc : co ≤ o) :
    Calls Try.prog 59 #[.pointer (some ⟨B, 0, none⟩), .agg #[.int .i64 e1, .int .i64 k1, .int .i64 p1, .slice x m d], .int .i64 (o : Int)] w fun e w' => e = .returned (.int .i64 2) ∧ New w w' := by
  have al := (New.refl w).alloc (.cells #[.int .i64 e1, .int .i64 k1, .int .i64 p1, .slice x m d] 44)
  have hb1 := hb.new al
  have bE := Blk.mk w w.heap.size 44 #[.int .i64 e1, .int .i64 k1, .int .i64 p1, .slice x m d] rfl
  have hd1 : decide ((o : Int) < (n : Int)) = false := by simp; omega
  have hd2 : decide ((o : Int) < co) = false := by simp; omega
  have hd4 : (100 : Int) ≤ (o : Int) := by omega
  have hno : n ≤ o := by omega
  clear hn ho'
  go_enter Try.func59, Try.ntmps59
  go_upto_region 1 with fail
  generalize w.alloc (.cells #[.int .i64 e1, .int .i64 k1, .int .i64 p1, .slice x m d] 44) = w0 at *
  have hb2 := hb1.new ((New.refl _).drew)
  have cB := hb1.cells
  have cE := bE.cells
  have cB2 := hb2.cells
  have cE2 := (bE.new ((New.refl _).drew)).cells
  clear cB cE
  refine hw_start (n := 17) (S := fun X => New w0 X) rfl (by kernel_rfl) ((New.refl _).drew) (fun hH => ?_)
  refine' hw_take 0 (some 7) _ rfl rfl (by kernel_rfl) (by kernel_rfl) (by kernel_rfl) (fun _ _ _ h => h) (by rfl) hH ?hy5 ?rest5
  case hy5 =>
    intro X hX
    go_simp
    try rfl
  simp only [Act.put, List.setIfInBounds_toArray, List.set_cons_zero, List.set_cons_succ]
  refine' hw_take 1 (some 8) _ rfl rfl (by kernel_rfl) (by kernel_rfl) (by kernel_rfl) (fun _ _ _ h => h) (by rfl) hH ?hy6 ?rest6
  case hy6 =>
    intro X hX
    go_simp
    try rfl
  simp only [Act.put, List.setIfInBounds_toArray, List.set_cons_zero, List.set_cons_succ]
  refine hw_call 2 (some 9) rfl rfl (by kernel_rfl) (by rfl) (fun K hK => ?_)
  go_simp
  refine (count_any B id up ro ep su ma ot co A n c _ hb2).mono ?_
  rintro e wz ⟨rfl, hwz⟩
  subst hwz
  go_simp
  refine hK.out _ _ ((New.refl _).drew) (fun hH2 => ?_)
  simp only [Act.put, List.setIfInBounds_toArray, List.set_cons_zero, List.set_cons_succ]
  refine' hw_take 3 (some 10) (.bool false) rfl rfl (by kernel_rfl) (by kernel_rfl) (by kernel_rfl) (fun _ _ _ h => h) (by rfl) hH2 ?hyL ?restL
  case hyL =>
    intro X hX
    go_simp
    try rfl
  simp only [Act.put, List.setIfInBounds_toArray, List.set_cons_zero, List.set_cons_succ]
  refine' hw_take 4 (some 11) _ rfl rfl (by kernel_rfl) (by kernel_rfl) (by kernel_rfl) (fun _ _ _ h => h) (by rfl) hH2 ?hy7 ?rest7
  case hy7 =>
    intro X hX
    go_simp
    try rfl
  simp only [Act.put, List.setIfInBounds_toArray, List.set_cons_zero, List.set_cons_succ]
  refine hw_skip 5 (some 12) rfl rfl (by kernel_rfl) (by kernel_rfl) (by kernel_rfl) (fun _ _ _ h => h) (by rfl) hH2 ?_
  simp only [Act.put, List.setIfInBounds_toArray, List.set_cons_zero, List.set_cons_succ]
  refine hw_skip 6 (some 13) rfl rfl (by kernel_rfl) (by kernel_rfl) (by kernel_rfl) (fun _ _ _ h => h) (by rfl) hH2 ?_
  simp only [Act.put, List.setIfInBounds_toArray, List.set_cons_zero, List.set_cons_succ]
  refine hw_skip 7 (some 14) rfl rfl (by kernel_rfl) (by kernel_rfl) (by kernel_rfl) (fun _ _ _ h => h) (by rfl) hH2 ?_
  simp only [Act.put, List.setIfInBounds_toArray, List.set_cons_zero, List.set_cons_succ]
  refine hw_skip 8 (some 15) rfl rfl (by kernel_rfl) (by kernel_rfl) (by kernel_rfl) (fun _ _ _ h => h) (by rfl) hH2 ?_
  simp only [Act.put, List.setIfInBounds_toArray, List.set_cons_zero, List.set_cons_succ]
  refine hw_skip 9 (some 16) rfl rfl (by kernel_rfl) (by kernel_rfl) (by kernel_rfl) (fun _ _ _ h => h) (by rfl) hH2 ?_
  simp only [Act.put, List.setIfInBounds_toArray, List.set_cons_zero, List.set_cons_succ]
  refine hw_skip 10 (some 17) rfl rfl (by kernel_rfl) (by kernel_rfl) (by kernel_rfl) (fun _ _ _ h => h) (by rfl) hH2 ?_
  simp only [Act.put, List.setIfInBounds_toArray, List.set_cons_zero, List.set_cons_succ]
  refine hw_skip 11 (some 18) rfl rfl (by kernel_rfl) (by kernel_rfl) (by kernel_rfl) (fun _ _ _ h => h) (by rfl) hH2 ?_
  simp only [Act.put, List.setIfInBounds_toArray, List.set_cons_zero, List.set_cons_succ]
  refine hw_skip 12 (some 19) rfl rfl (by kernel_rfl) (by kernel_rfl) (by kernel_rfl) (fun _ _ _ h => h) (by rfl) hH2 ?_
  simp only [Act.put, List.setIfInBounds_toArray, List.set_cons_zero, List.set_cons_succ]
  refine hw_skip 13 (some 20) rfl rfl (by kernel_rfl) (by kernel_rfl) (by kernel_rfl) (fun _ _ _ h => h) (by rfl) hH2 ?_
  simp only [Act.put, List.setIfInBounds_toArray, List.set_cons_zero, List.set_cons_succ]
  refine hw_skip 14 (some 21) rfl rfl (by kernel_rfl) (by kernel_rfl) (by kernel_rfl) (fun _ _ _ h => h) (by rfl) hH2 ?_
  simp only [Act.put, List.setIfInBounds_toArray, List.set_cons_zero, List.set_cons_succ]
  refine hw_skip 15 (some 22) rfl rfl (by kernel_rfl) (by kernel_rfl) (by kernel_rfl) (fun _ _ _ h => h) (by rfl) hH2 ?_
  simp only [Act.put, List.setIfInBounds_toArray, List.set_cons_zero, List.set_cons_succ]
  refine' hw_take 16 (some 23) _ rfl rfl (by kernel_rfl) (by kernel_rfl) (by kernel_rfl) (fun _ _ _ h => h) (by rfl) hH2 ?hy8 ?rest8
  case hy8 =>
    intro X hX
    go_simp
    try rfl
  simp only [Act.put, List.setIfInBounds_toArray, List.set_cons_zero, List.set_cons_succ]
  refine wpAnyH_done (by kernel_rfl) ?_ _
  go_wp2
  go_ret
  exact ⟨rfl, al.drew⟩

end Go.Proofs.Ythnigcalboobgaa
