/- What is proved here: for every line the law on WordsOf returns true, and the line reads as it did. The tables of the library that the row lists lie as the program's text lays them (the card ties them to it). -/
import Derived.Test.YtkdnccjbhkmheaaDoorW16Mk
import Derived.Test.YtkdnccjbhkmheaaDoorTie
import Derived.Test.YtkdnccjbhkmheaaDoorCards
import Derived.LaidMore
import Derived.Lay
import Derived.LaidSub
import Derived.Shelf.Vars
import Derived.SevenTiedAt
import Derived.Stop.Joined
namespace Go.Proofs.YtkdnccjbhkmheaaDoor
open Go.ChangeShapes Go.WideShapes Go.ChangeAt Go.RowKit Go.Sort
open Go.ChangeMaps (open_string shut_string)
set_option linter.unusedVariables false

theorem wds_len (s : ByteArray) (h : s.size ≤ 1048576) : (wds s.data.toList).length ≤ 1048577 := by
  have h1 : (pcs 32 s.data.toList).length ≤ s.data.toList.length + 1 := pcs_len _
  rw [← Lib.size_eq] at h1
  have h2 : (wds s.data.toList).length ≤ (pcs 32 s.data.toList).length := List.length_filter_le _ _
  omega

set_option maxHeartbeats 3200000 in
theorem awo_walk (s : ByteArray) (w : World) (hM : MaxI w) (hsz : s.size ≤ maxLen) :
    Calls Tryd.prog 3 #[.string s] w fun e w' => e = .returned (.bool true) ∧ New w w' := by
  unfold maxLen at hsz
  by_cases hbig : 1048576 < s.size
  · go_enter Tryd.func3, Tryd.ntmps3
    go_wp2
    go_ret
    exact ⟨rfl, New.refl _⟩
  have hm : s.size ≤ 1048576 := by omega
  obtain ⟨L, hL⟩ : ∃ L, Hid (wds s.data.toList = L) := ⟨_, rfl⟩
  have hLn : L.length ≤ 1048577 := by rw [← hL.out]; exact wds_len s hm
  have hS := fun W => specWof s W hm
  have hI := fun W hM => implWo s W hM hm
  rw [hL.out] at hS hI
  go_enter Tryd.func3, Tryd.ntmps3
  go_wp2_with fail
  refine (hS _).mono ?_
  rintro e w1 ⟨a1, n1, c1, rfl, ho1, hn1⟩
  obtain ⟨HL1⟩ : Nonempty (Hid (L.length = n1)) := ⟨ho1.2⟩
  have hn1b : n1 ≤ 1048577 := by rw [← ho1.2]; exact hLn
  have M1 := (hM.new hn1).new ((New.refl w1).alloc (.cells #[.int .i64 0, .slice a1 n1 c1] 24))
  have r1 := ho1.rd.new ((New.refl w1).alloc (.cells #[.int .i64 0, .slice a1 n1 c1] 24))
  have b1 := Blk.mk w1 w1.heap.size 24 #[.int .i64 0, .slice a1 n1 c1] rfl
  have hw1 := hn1.alloc (.cells #[.int .i64 0, .slice a1 n1 c1] 24)
  have lt1 : Hid (w.heap.size ≤ w1.heap.size) := hn1.size
  have HR1 : Hid (WdAt w1 a1 L) := ho1.rd
  clear ho1 hn1
  go_wp2_with fail
  refine (hI _ M1).mono ?_
  rintro e w2 ⟨a2, n2, c2, rfl, ho2, hn2⟩
  obtain rfl : n1 = n2 := by rw [← HL1.out]; exact ho2.2
  have al2 := (New.refl w2).alloc (.cells #[.int .i64 0, .slice a2 n1 c2] 24)
  have hsz2 : Hid ((w1.alloc (.cells #[.int .i64 0, .slice a1 n1 c1] 24)).heap.size = w1.heap.size + 1) := by unfold Hid; simp
  have rg2 : Hid (∀ j, (Value.slice a2 n1 c2).ownBlock = some j → w1.heap.size + 1 ≤ j ∧ j < w2.heap.size) := by
    intro j hj
    obtain ⟨-, -, -, -, h⟩ := form16 ho2.1
    have := h j hj
    rw [hsz2.out] at this
    exact this
  have M2 := (M1.new hn2).new al2
  have r12 := (r1.new hn2).new al2
  have b12 := (b1.new hn2).new al2
  have ho2' := ho2.new al2
  have b2 := Blk.mk w2 w2.heap.size 24 #[.int .i64 0, .slice a2 n1 c2] rfl
  have hw2 := (hw1.trans hn2).trans al2
  clear M1 r1 b1 ho2 hn2 al2 hw1
  have c1' := b12.cells
  have c2' := b2.cells
  go_wp2_with fail
  refine (eqWr 0 a2 a1 n1 c2 c1 L _ ho2'.rd r12 HL1.out hn1b).mono ?_
  rintro e w3 ⟨rfl, hn3⟩
  have M3 := M2.new hn3
  have r13 := r12.new hn3
  have b13 := b12.new hn3
  have ho3 := ho2'.new hn3
  have b23 := b2.new hn3
  have hw3 := hw2.trans hn3
  clear M2 r12 b12 ho2' b2 hw2 hn3 c1' c2'
  have c2' := b23.cells
  go_wp2_with fail
  refine (markWr 0 a2 n1 c2 _ L _ ho3 hn1b).mono ?_
  rintro e w4 ⟨rfl, ho4, ht4⟩
  have M4 : MaxI w4 := M3.turn ht4 (fun e => by
    have h1 := (rg2.out _ e).1
    obtain ⟨m, hm'⟩ := hM
    have h2 := World.block_lt_of_cell? w _ hm'
    have h3 := lt1.out
    simp at h2
    omega)
  have r14 : WdAt w4 a1 L := by
    intro k l hl
    obtain ⟨g, e, h0⟩ := HR1.out k l hl
    obtain ⟨g', e', h1⟩ := r13 k l hl
    rw [e] at e'
    simp only [Option.some.injEq, Addr.mk.injEq, and_true] at e'
    subst e'
    have h2 := World.block_lt_of_cell? w1 _ h0
    have h3 := World.block_lt_of_cell? w3 _ h1
    exact ⟨g, e, (World.cell?_of_block (ht4.block g h3 (fun e => by have := (rg2.out _ e).1; simp at h2; omega))).trans h1⟩
  have b14 := b13.turn ht4 (fun e => by have := (rg2.out _ e).1; omega)
  have b24 := b23.turn ht4 (fun e => by have := (rg2.out _ e).2; omega)
  have hw4 : New w w4 := hw3.before ht4 (fun i hi e => by have := (rg2.out _ e).1; have := lt1.out; omega)
  have h4 := ho4.rd
  clear M3 r13 b13 ho3 b23 hw3 ht4 c2' ho4
  have c2' := b24.cells
  have hp : ¬ (1 + (n1 : Int) < 0) := by omega
  go_wp2_with fail
  refine (heldWr 0 a2 n1 c2 _ h4 hn1b).mono ?_
  rintro e w5 ⟨rfl, hn5⟩
  have M5 := M4.new hn5
  have r15 := r14.new hn5
  have b15 := b14.new hn5
  have b25 := b24.new hn5
  have h5 := h4.new hn5
  have hw5 := hw4.trans hn5
  clear M4 r14 b14 b24 h4 hw4 hn5 c2'
  have hne : ((1 + (n1 : Int)) != (1 + (n1 : Int))) = false := by simp
  go_wp2_with fail
  refine (hI _ M5).mono ?_
  rintro e w6 ⟨a6, n6, c6, rfl, ho6, hn6⟩
  obtain rfl : n1 = n6 := by rw [← HL1.out]; exact ho6.2
  have al6 := (New.refl w6).alloc (.cells #[.int .i64 0, .slice a6 n1 c6] 24)
  have r16 := (r15.new hn6).new al6
  have b16 := (b15.new hn6).new al6
  have b26 := (b25.new hn6).new al6
  have h6 := (h5.new hn6).new al6
  have ho6' := ho6.rd.new al6
  have b6 := Blk.mk w6 w6.heap.size 24 #[.int .i64 0, .slice a6 n1 c6] rfl
  have hw6 := (hw5.trans hn6).trans al6
  clear r15 b15 b25 h5 ho6 hn6 al6 hw5 M5
  have c1' := b16.cells
  have c6' := b6.cells
  go_wp2_with fail
  refine (eqWr 0 a6 a1 n1 c6 c1 L _ ho6' r16 HL1.out hn1b).mono ?_
  rintro e w7 ⟨rfl, hn7⟩
  have b27 := b26.new hn7
  have h7 := h6.new hn7
  have hw7 := hw6.trans hn7
  clear r16 b16 b26 h6 ho6' b6 hw6 hn7 c1' c6'
  have c2' := b27.cells
  go_wp2_with fail
  refine (heldWr 0 a2 n1 c2 _ h7 hn1b).mono ?_
  rintro e w8 ⟨rfl, hn8⟩
  have hw8 := hw7.trans hn8
  clear b27 h7 c2' hn8 hw7
  go_wp2
  go_ret
  exact ⟨rfl, hw8⟩

theorem both16 {H : Type} {enc : TypeId × Value → H} {a : Assume} {C : Checked} {os : Os} {f : FuncId} {fn : Func} {s : ChangeSpec} {conds : List PathCond} {apart fresh handsOn again : Bool} {X : World → Array Value → Prop}
    (hX : ∀ (w w' : World) (args : Array Value), w.heap = w'.heap → X w args → X w' args)
    (own : ownKnob C.prog.godebug = none) (started : os.Started) (noInit : C.prog.inits.idxOf? f = none) (hfn : C.prog.funcs[f]? = some fn)
    (witness : ∃ (w : World) (tape : Tape) (i : Input), w.os = os ∧ (w.forCall tape i).Shaped C.prog ∧ i.vars = [] ∧ Input.okWide C.prog (w.forCall tape i) .any w.heap.size f i ∧ ((s.pre enc C.prog fn conds apart (w.forCall tape i).memory i.args ∧ X (w.forCall tape i).memory i.args) ∧ sizedMet enc C.prog fn (OpenSpec.ofChange s) apart (w.forCall tape i).memory i.args) ∧ a.holds C.prog (lone (Frame.enter C.prog f i.args .normal) [] (w.forCall tape i)))
    (walk : ∀ (W : World) (base : Nat) (args : Array Value) (ds gs : List (DataW H)) (before : List MemPlace), (∀ (j : Nat) t v, fn.params[j]? = some t → args[j]? = some v → Value.okWide C.prog W .any base t v) → DataW.Whole enc C.prog fn.params.toList s.vars apart W args.toList ds gs before → W.ShapedOpen C.prog →
      Calls C.prog f args W fun e W' => ∃ v, e = .returned v ∧ s.post enc C.prog fn apart fresh handsOn again W args v W') :
    ReturnsInHanded a C os f .any (fun w args => (s.pre enc C.prog fn conds apart w args ∧ X w args) ∧ sizedMet enc C.prog fn (OpenSpec.ofChange s) apart w args) (s.post enc C.prog fn apart fresh handsOn again) := by
  refine returnsInHanded_of_calls own started noInit witness ?_
  intro w tape i _ hsh _ hok hpre _
  obtain ⟨_, _, _, fn', hfn', _, _, _, _, hval⟩ := hok
  obtain rfl : fn' = fn := Option.some.inj (hfn'.symm.trans hfn)
  obtain ⟨⟨⟨ds, gs, before, hw, _⟩, _⟩, _⟩ := hpre
  refine (walk (w.forCall tape i) w.heap.size i.args ds gs before hval (DataW.Whole.of_heap (w' := w.forCall tape i) (by rfl) hw) hsh).mono fun e W' ⟨v, he, hp⟩ => ?_
  subst he
  exact ChangeSpec.post_blind hp

set_option maxRecDepth 100000 in
theorem awo_lifted (os : Os) (started : os.Started) (H : Type) (enc : TypeId × Value → H) :
    ReturnsInHanded {} Tryd.checked os 3 .any (fun w args => (Rows.fnExactWordsOfSpec.pre enc Tryd.prog Tryd.f3 Rows.fnExactWordsOfRow.domain false w args ∧ laidMetH Tryd.prog Rows.fnExactWordsOfRow.laid w) ∧ sizedMet enc Tryd.prog Tryd.f3 (OpenSpec.ofChange Rows.fnExactWordsOfSpec) false w args)
      (Rows.fnExactWordsOfSpec.post enc Tryd.prog Tryd.f3 false true false false) := by
  refine both16 (C := Tryd.checked) (X := fun w _ => laidMetH Tryd.prog Rows.fnExactWordsOfRow.laid w) (fun _ _ _ hh h => h.of_heap hh) own started (by kernel_rfl) Tryd.func3
    (ChangeSpec.witness_shaped (enc := enc) (C := Tryd.checked) (os := os) (X := fun w _ => laidMetH Tryd.prog Rows.fnExactWordsOfRow.laid w) false (World.laidAll Tryd.prog os Rows.fnExactWordsOfRow.laid) #[.string ⟨#[]⟩] 8 (World.laidAll_os _ _ _)
      (World.shaped_of_ZipB (by kernel_rfl) (by kernel_rfl)) (by kernel_rfl) (by kernel_rfl) (by kernel_rfl)
      (by rw [MakeChecks.laidMetH_plain _ _ _ (by kernel_rfl)]; exact laidMet_laidAll _ (by kernel_rfl) (by kernel_rfl))) ?_
  intro W base args ds gs before hval0 hW hsh
  have hval : ∀ (j : Nat) t v, Tryd.f3.params[j]? = some t → args[j]? = some v → Value.okWide Tryd.prog W .any base t v := hval0
  have hW' := hW
  obtain ⟨p, q, hA0, hV, rfl, hfz, hnd⟩ := hW
  have hA : DataW.TrodAll enc Tryd.prog W 0 (fun _ => true) true Tryd.f3.params.toList args.toList ds p := hA0
  rw [Tryd.params3] at hA hval
  obtain ⟨v0, vs0, d0, ds0, p0, q0, hargs, rfl, rfl, h0, r0⟩ := trodAll_cons hA
  obtain ⟨rfl, rfl, rfl⟩ := trodAll_nil r0
  obtain rfl : args = #[v0] := by cases args; simp_all
  obtain ⟨rfl, rfl⟩ := trodVars_none hV
  have k0 := h0
  have lt0 : ∀ x ∈ p0, x.block < W.heap.size := by obtain ⟨m, hm⟩ := k0; exact DataW.trod_lt m _ _ _ hm
  obtain ⟨s, rfl, hd0, hp0, ws⟩ := open_string Tryd.underlying9 (hval 0 9 v0 rfl rfl) h0
  clear hA0 hval0
  have hMx : MaxI W := cell_of_shapedOpen_int (zero := #[.int .i64 0]) (t := 3) hsh (of_decide_eq_true (by kernel_rfl)) (by kernel_rfl) rfl (by kernel_rfl) (by kernel_rfl) Tryd.underlying3
  refine (awo_walk s W hMx ws).mono fun e W' ⟨he, new⟩ => ?_
  have bel := new.below
  subst he
  exact ⟨_, rfl, _, _, _, [], _, [], hW', trodAll_mk1 (shut_bool Tryd.underlying4 _), (trodAll_cons_mk (Below.trod laidOut (by kernel_rfl) (of_decide_eq_true (by kernel_rfl)) k0 bel lt0) trodAll_mk0), rfl, bel.frame _, fun h => by cases h⟩

theorem awo_row : Rows.FnExactWordsOfSaid :=
  OpenClaim.holds_of_wide 3 Tryd.f3 rfl rfl rfl rfl rfl rfl rfl ⟨rfl, rfl, rfl, rfl, rfl⟩ rfl rfl rfl rfl rfl (by kernel_rfl) Tryd.func3 (by kernel_rfl)
    (of_decide_eq_true (by kernel_rfl)) (by unfold Func.isWrapper; first | (rw [if_pos (by decide +kernel)]; kernel_rfl) | (rw [if_neg (by decide +kernel)]; exact ⟨rfl, rfl⟩))
    (fun os started H enc _ => awo_lifted os started H enc)

theorem awo_holds : Rows.FnExactWordsOfCardSaid :=
  Claim7.holds_tied_plain_at .later [] [.data, .pinned] true (true, Rows.fnExactWordsOfCard.stood.harness.2) false
    awo_row (fun _ h => by cases h) (by kernel_rfl) (fun _ h => by cases h) fnExactWordsOf_row_tie rfl ⟨rfl, rfl⟩ (by kernel_rfl) rfl
    (fun f fn hf hfn => by
      obtain rfl : f = 3 := Option.some.inj ((show Tryd.prog.funcNamed Rows.fnExactWordsOfRow.func = some 3 by kernel_rfl).symm.trans hf) |>.symm
      obtain rfl : fn = Tryd.f3 := (Option.some.inj (Tryd.func3.symm.trans hfn)).symm
      exact ⟨by kernel_rfl, fun j t ht => by
        rw [Tryd.params3] at ht
        have h3 : t = 9 := by
          rcases j with _ | j
          · simpa using ht.symm
          · simp at ht
        subst h3
        exact (show Tryd.prog.wantsStandIn 9 = false by kernel_rfl)⟩)
    (by kernel_rfl)

end Go.Proofs.YtkdnccjbhkmheaaDoor
