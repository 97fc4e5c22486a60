/- What is proved here: for every entry the law on PackEntry returns true, and the entry reads as it did. No condition. -/
import Derived.Test.YtmfmpcagoamffaaE10Op
import Derived.Test.YtmfmpcagoamffaaE10Ps
import Derived.Deep.RegionHeld3
namespace Go.Proofs.Ytmfmpcagoamffaa
open Go.ChangeShapes Go.WideShapes Go.ChangeAt Go.RowKit
set_option linter.unusedVariables false

theorem markEv_any (x y : Int) (a : Option Addr) (n c : Nat) (k : Int) (zs : List Int) (w : World) (h : OwAt w a n c zs) (hm : n ≤ 4194304) (hk0 : 0 ≤ k) (hk : k ≤ 1073741824) :
    Calls Try.prog 67 #[.agg #[.int .i64 x, .int .i64 y, .slice a n c], .int .i64 k] w fun e w' => e = .returned (.int .i64 (k + n)) ∧ OwAt w' a n c (marks k n) ∧ Turn (inA a) w w' := by
  have hw := (New.refl w).alloc (.cells #[.int .i64 x, .int .i64 y, .slice a n c] 38)
  go_enter Try.func67, Try.ntmps67
  go_wp2_with fail
  refine (mark_any a n c k zs _ (h.new hw) hm hk0 hk).mono ?_
  rintro e w1 ⟨rfl, ho1, ht1⟩
  go_wp2
  go_ret
  exact ⟨rfl, ho1, Turn.trans hw.turn ht1 (fun _ _ h => h)⟩

theorem markEn_any (ep x y : Int) (a : Option Addr) (n c : Nat) (k : Int) (zs : List Int) (w : World) (h : OwAt w a n c zs) (hm : n ≤ 4194304) (hk0 : 0 ≤ k) (hk : k ≤ 1073741824) :
    Calls Try.prog 30 #[.agg #[.int .i64 ep, .int .i64 x, .int .i64 y, .slice a n c], .int .i64 k] w fun e w' => e = .returned (.int .i64 (k + n)) ∧ OwAt w' a n c (marks k n) ∧ Turn (inA a) w w' := by
  have hw := (New.refl w).alloc (.cells #[.int .i64 ep, .int .i64 x, .int .i64 y, .slice a n c] 40)
  go_enter Try.func30, Try.ntmps30
  go_wp2_with fail
  refine (markEv_any x y a n c k zs _ (h.new hw) hm hk0 hk).mono ?_
  rintro e w1 ⟨rfl, ho1, ht1⟩
  go_wp2
  go_ret
  exact ⟨rfl, ho1, Turn.trans hw.turn ht1 (fun _ _ h => h)⟩

theorem ans_length {ep k p : Int} {zs : List Int} : (if enF ep k p zs.length = 0 then enP ep k p zs else []).length ≤ 68 := by
  split
  · rw [enP_len]; have := enF_zero ‹_›; omega
  · simp

set_option maxHeartbeats 3200000 in
theorem ape_walk (ep k p : Int) (a : Option Addr) (n c : Nat) (zs : List Int) (w : World) (h : BsAt w a zs) (hn : zs.length = n) (hm : n ≤ maxLen) :
    Calls Try.prog 7 #[.agg #[.int .i64 ep, .int .i64 k, .int .i64 p, .slice a n c]] w fun e w' => e = .returned (.bool true) ∧ New w w' := by
  have hw := (New.refl w).alloc (.cells #[.int .i64 ep, .int .i64 k, .int .i64 p, .slice a n c] 50)
  by_cases hbig : 1048576 < n
  · go_enter Try.func7, Try.ntmps7
    go_wp2_with fail
    refine (szEntry_big ep k p a n c 1048576 _ (Nat.le_refl _) hm hbig).mono ?_
    rintro e w1 ⟨rfl, hn1⟩
    go_wp2
    go_ret
    exact ⟨rfl, hw.trans hn1⟩
  · have hz := h.lt
    have hm' : n ≤ 1048576 := by omega
    clear hm
    have HN : Hid (zs.length = n) := hn
    clear hn
    have bA := Blk.mk w w.heap.size 50 #[.int .i64 ep, .int .i64 k, .int .i64 p, .slice a n c] rfl
    have HL : Hid ((if enF ep k p zs.length = 0 then enP ep k p zs else []).length ≤ 68) := ans_length
    go_enter Try.func7, Try.ntmps7
    go_wp2_with fail
    refine (szEntry_ok ep k p a n c 1048576 _ (Nat.le_refl _) hm').mono ?_
    rintro e w1 ⟨rfl, hn1⟩
    have bA1 := bA.new hn1
    have cA := bA1.cells
    have hw1 := hw.trans hn1
    clear bA hn1 hw
    go_wp2_with fail
    refine (toEntry_any ep k p a n c zs _ (h.new hw1) HN.out hm').mono ?_
    rintro e w2 ⟨g2, rfl, hg2, ho2, hn2⟩
    have bA2 := bA1.new hn2
    have hw2 := hw1.trans hn2
    clear cA bA1 hn2
    go_wp2_with fail
    refine (specPE ep k p _ n n zs _ (BsAt.of_own ho2 hz) HN.out hm' (by intro h; cases h)).mono ?_
    rintro e w3 ⟨a3, m3, cap3, ys, rfl, ho3, hys, hp3, hn3, HY, hnil3⟩
    have bA3 := (bA2.new hn3).alloc (.cells #[.int .i64 (enF ep k p zs.length), .slice a3 m3 cap3] 46)
    have b3 := Blk.mk w3 w3.heap.size 46 #[.int .i64 (enF ep k p zs.length), .slice a3 m3 cap3] rfl
    have hw3 := (hw2.trans hn3).alloc (.cells #[.int .i64 (enF ep k p zs.length), .slice a3 m3 cap3] 46)
    have bs3 : BsAt (w3.alloc (.cells #[.int .i64 (enF ep k p zs.length), .slice a3 m3 cap3] 46)) a3 ys := (ho3.bs hys).new ((New.refl _).alloc _)
    have hl3 := ho3.1
    have HY3 : Hid (ys = if enF ep k p zs.length = 0 then enP ep k p zs else []) := HY
    have hm3 : m3 ≤ 68 := by rw [← hl3, HY]; exact HL.out
    have cA := bA3.cells
    clear bA2 hn3 ho2 hg2 HY hnil3 ho3
    go_wp2_with fail
    refine (toEntry_any ep k p a n c zs _ (h.new hw3) HN.out hm').mono ?_
    rintro e w4 ⟨g4, rfl, hg4, ho4, hn4⟩
    have bA4 := (bA3.new hn4).alloc (.cells #[.int .i64 ep, .int .i64 k, .int .i64 p, .slice (some ⟨g4, 0, none⟩) n n] 40)
    have b34 := (b3.new hn4).alloc (.cells #[.int .i64 ep, .int .i64 k, .int .i64 p, .slice (some ⟨g4, 0, none⟩) n n] 40)
    have b4 := Blk.mk w4 w4.heap.size 40 #[.int .i64 ep, .int .i64 k, .int .i64 p, .slice (some ⟨g4, 0, none⟩) n n] rfl
    have hw4 := (hw3.trans hn4).alloc (.cells #[.int .i64 ep, .int .i64 k, .int .i64 p, .slice (some ⟨g4, 0, none⟩) n n] 40)
    have bs34 := bs3.new (hn4.alloc (.cells #[.int .i64 ep, .int .i64 k, .int .i64 p, .slice (some ⟨g4, 0, none⟩) n n] 40))
    have ho4' := own_new ho4 ((New.refl _).alloc (.cells #[.int .i64 ep, .int .i64 k, .int .i64 p, .slice (some ⟨g4, 0, none⟩) n n] 40))
    have hg4' := hg4
    simp at hg4'
    have hlt4 := (ho4.lt g4 rfl).2
    have s4 := hn4.size
    simp at s4
    have cB := b4.cells
    clear bA3 b3 cA hn4 bs3 ho4 hg4
    go_wp2_with fail
    refine (implPE ep k p _ n n zs _ (BsAt.of_own ho4' hz) HN.out hm' (by intro h; cases h)).mono ?_
    rintro e w5 ⟨a5, m5, cap5, ys5, rfl, ho5, hys5, hp5, hn5, HY, hnil5⟩
    have hyy : ys5 = ys := HY.trans HY3.out.symm
    subst hyy
    obtain rfl : m5 = m3 := by have := ho5.1; omega
    have bA5 := (bA4.new hn5).alloc (.cells #[.int .i64 (enF ep k p zs.length), .slice a5 m5 cap5] 46)
    have b35 := (b34.new hn5).alloc (.cells #[.int .i64 (enF ep k p zs.length), .slice a5 m5 cap5] 46)
    have b45 := (b4.new hn5).alloc (.cells #[.int .i64 (enF ep k p zs.length), .slice a5 m5 cap5] 46)
    have b5 := Blk.mk w5 w5.heap.size 46 #[.int .i64 (enF ep k p zs.length), .slice a5 m5 cap5] rfl
    have hnn := hn5.alloc (.cells #[.int .i64 (enF ep k p zs.length), .slice a5 m5 cap5] 46)
    have hw5 := hw4.trans hnn
    have bs35 := bs34.new hnn
    have ho45 := own_new ho4' hnn
    have ho55 := ho5.new ((New.refl _).alloc (.cells #[.int .i64 (enF ep k p zs.length), .slice a5 m5 cap5] 46))
    have c3 := b35.cells
    have c5 := b5.cells
    have s5 := hn5.size
    simp at s5
    simp at hp5
    clear bA4 b34 b4 cB hn5 HY hnil5 ho5 hnn bs34 ho4'
    go_wp2_with fail
    refine (eqBR_any _ a5 a3 m5 cap5 cap3 ys5 _ (ho55.bs hys) bs35 hl3 (by omega)).mono ?_
    rintro e w6 ⟨rfl, hn6⟩
    have bA6 := bA5.new hn6
    have b36 := b35.new hn6
    have b46 := b45.new hn6
    have b56 := b5.new hn6
    have hw6 := hw5.trans hn6
    have bs36 := bs35.new hn6
    have ho46 := own_new ho45 hn6
    have ho56 := ho55.new hn6
    have s6 := hn6.size
    simp at s6
    clear bA5 b35 b45 b5 c3 c5 hn6 bs35 ho45 ho55
    have cA := bA6.cells
    have cB := b46.cells
    go_wp2_with fail
    go_region_held3 (fun W => (∀ j, W.cell? ⟨w.heap.size, j, none⟩ = #[Value.int .i64 ep, .int .i64 k, .int .i64 p, .slice a n c][j]?) ∧ (∀ j, W.cell? ⟨w4.heap.size, j, none⟩ = #[Value.int .i64 ep, .int .i64 k, .int .i64 p, .slice (some ⟨g4, 0, none⟩) n n][j]?)) (first | exact ⟨cA, cB⟩ | exact ⟨cA7, cB7⟩ | exact ⟨cA8, cB8⟩)
      (first
        | (go_at_call 26; refine (toEntry_any ep k p a n c zs _ ?_ HN.out hm').mono ?_; exact (h.new hw6).new ((New.refl _).drew); rintro e w7 ⟨g7, rfl, hg7, ho7, hn7⟩; have cA7 := (bA6.new (((New.refl _).drew).trans hn7)).cells; have cB7 := (b46.new (((New.refl _).drew).trans hn7)).cells)
        | (go_at_call 27; refine (eqEntry_any ep k p _ _ n n n zs _ ?_ ?_ HN.out hm').mono ?_; exact (BsAt.of_own ho46 hz).new (((New.refl _).drew).trans hn7); exact BsAt.of_own ho7 hz; rintro e w8 ⟨rfl, hn8⟩; have cA8 := (bA6.new ((((New.refl _).drew).trans hn7).trans hn8)).cells; have cB8 := (b46.new ((((New.refl _).drew).trans hn7).trans hn8)).cells))
    have hn68 : New w6 w8 := (((New.refl _).drew).trans hn7).trans hn8
    have bA8 := bA6.new hn68
    have b38 := b36.new hn68
    have b48 := b46.new hn68
    have b58 := b56.new hn68
    have hw8 := hw6.trans hn68
    have bs38 := bs36.new hn68
    have ho48 := own_new ho46 hn68
    have ho58 := ho56.new hn68
    have s8 := hn68.size
    clear cA cB cA7 cB7 cA8 cB8 bA6 b36 b46 b56 bs36 ho46 ho56 hn68 hn7 hn8 ho7 hg7
    have cB := b48.cells
    go_wp2_with fail
    refine (markEn_any ep k p _ n n 1 zs _ (OwAt.of_own ho48) (by omega) (by omega) (by omega)).mono ?_
    rintro e w9 ⟨rfl, -, ht9⟩
    have nA : ¬ inA (some ⟨g4, 0, none⟩) w.heap.size := by rintro ⟨x, hx, hb⟩; obtain rfl := Option.some.inj hx; exact bA8.ne_own ho48 (by decide) hb
    have n3 : ¬ inA (some ⟨g4, 0, none⟩) w3.heap.size := by rintro ⟨x, hx, hb⟩; obtain rfl := Option.some.inj hx; exact b38.ne_own ho48 (by decide) hb
    have n5 : ¬ inA (some ⟨g4, 0, none⟩) w5.heap.size := by rintro ⟨x, hx, hb⟩; obtain rfl := Option.some.inj hx; exact b58.ne_own ho48 (by decide) hb
    have bA9 := bA8.turn ht9 nA
    have b39 := b38.turn ht9 n3
    have b59 := b58.turn ht9 n5
    have hw9 : New w w9 := hw8.before ht9 (by rintro i hi ⟨x, hx, hb⟩; obtain rfl := Option.some.inj hx; simp at hb; have := hw3.size; simp at this; omega)
    have bs39 := bs38.turn ht9 (by rintro x hx ⟨y, hy, hb⟩; obtain rfl := Option.some.inj hy; have := (hp3 x hx).2; simp at hb; omega)
    have ho59 := ho58.turn ht9 (by rintro x hx ⟨y, hy, hb⟩; obtain rfl := Option.some.inj hy; have := (hp5 x hx).1; simp at hb; omega)
    have s9 := ht9.size
    clear cB bA8 b38 b48 b58 nA n3 n5 ht9 bs38 ho48 ho58
    have c3 := b39.cells
    have c5 := b59.cells
    go_wp2_with fail
    refine (eqBR_any _ a5 a3 m5 cap5 cap3 ys5 _ (ho59.bs hys) bs39 hl3 (by omega)).mono ?_
    rintro e w10 ⟨rfl, hn10⟩
    have bA10 := bA9.new hn10
    have b310 := b39.new hn10
    have b510 := b59.new hn10
    have hw10 := hw9.trans hn10
    have bs310 := bs39.new hn10
    have ho510 := ho59.new hn10
    clear c3 c5 bA9 b39 b59 bs39 ho59 hn10
    have c5 := b510.cells
    go_wp2_with fail
    refine (markBR_any _ a5 m5 cap5 1 ys5 _ ho510 (by omega) (by omega) (by omega)).mono ?_
    rintro e w11 ⟨rfl, ho11, ht11⟩
    have nA : ¬ inA a5 w.heap.size := by rintro ⟨x, hx, hb⟩; have := (hp5 x hx).1; have := hw3.size; simp at this; omega
    have n3 : ¬ inA a5 w3.heap.size := by rintro ⟨x, hx, hb⟩; have := (hp5 x hx).1; omega
    have n5 : ¬ inA a5 w5.heap.size := by rintro ⟨x, hx, hb⟩; have := (hp5 x hx).2; omega
    have bA11 := bA10.turn ht11 nA
    have b311 := b310.turn ht11 n3
    have b511 := b510.turn ht11 n5
    have hw11 : New w w11 := hw10.before ht11 (by rintro i hi ⟨x, hx, hb⟩; have := (hp5 x hx).1; have := hw3.size; simp at this; omega)
    have bs311 := bs310.turn ht11 (by rintro x hx ⟨y, hy, hb⟩; have := (hp3 x hx).2; have := (hp5 y hy).1; omega)
    have bm11 := ho11.bs (marks_bd _ _)
    clear c5 bA10 b310 b510 nA n3 n5 ht11 bs310 ho510 ho11
    have c5 := b511.cells
    go_wp2_with fail
    refine (heldBR_any _ a5 m5 cap5 1 _ bm11 (by omega) (by omega) (by omega)).mono ?_
    rintro e w12 ⟨rfl, hn12⟩
    have bA12 := bA11.new hn12
    have b312 := b311.new hn12
    have b512 := b511.new hn12
    have hw12 := hw11.trans hn12
    have bs312 := bs311.new hn12
    have bm12 := bm11.new hn12
    clear c5 bA11 b311 b511 bs311 bm11 hn12
    have cA := bA12.cells
    have hqm : ((1 : Int) + (m5 : Int) != 1 + (m5 : Int)) = false := by simp
    go_wp2_with fail
    refine (toEntry_any ep k p a n c zs _ (h.new hw12) HN.out hm').mono ?_
    rintro e w13 ⟨g13, rfl, hg13, ho13, hn13⟩
    have b313 := b312.new hn13
    have b513 := b512.new hn13
    have hw13 := hw12.trans hn13
    have bs313 := bs312.new hn13
    have bm13 := bm12.new hn13
    clear cA bA12 b312 b512 bs312 bm12 hn13
    go_wp2_with fail
    refine (implPE ep k p _ n n zs _ (BsAt.of_own ho13 hz) HN.out hm' (by intro h; cases h)).mono ?_
    rintro e w14 ⟨a14, m14, cap14, ys14, rfl, ho14, hys14, hp14, hn14, HY, hnil14⟩
    have hyy : ys14 = ys5 := HY.trans HY3.out.symm
    subst hyy
    obtain rfl : m14 = m5 := by have := ho14.1; omega
    have hnn := hn14.alloc (.cells #[.int .i64 (enF ep k p zs.length), .slice a14 m14 cap14] 46)
    have b314 := b313.new hnn
    have b514 := b513.new hnn
    have b14 := Blk.mk w14 w14.heap.size 46 #[.int .i64 (enF ep k p zs.length), .slice a14 m14 cap14] rfl
    have hw14 := hw13.trans hnn
    have bs314 := bs313.new hnn
    have bm14 := bm13.new hnn
    have ho1414 := ho14.new ((New.refl _).alloc (.cells #[.int .i64 (enF ep k p zs.length), .slice a14 m14 cap14] 46))
    clear b313 b513 bs313 bm13 hn14 HY ho14 hnn
    have c3 := b314.cells
    have c14 := b14.cells
    go_wp2_with fail
    refine (eqBR_any _ a14 a3 m14 cap14 cap3 ys14 _ (ho1414.bs hys) bs314 hl3 (by omega)).mono ?_
    rintro e w15 ⟨rfl, hn15⟩
    have b515 := b514.new hn15
    have bm15 := bm14.new hn15
    have hw15 := hw14.trans hn15
    clear c3 c14 b514 bm14 b314 b14 bs314 ho1414 hn15
    have c5 := b515.cells
    go_wp2_with fail
    refine (heldBR_any _ a5 m14 cap5 1 _ bm15 (by omega) (by omega) (by omega)).mono ?_
    rintro e w16 ⟨rfl, hn16⟩
    go_wp2
    go_ret
    exact ⟨rfl, hw15.trans hn16⟩

set_option maxRecDepth 100000 in
theorem ape_lifted (os : Os) (started : os.Started) (H : Type) (enc : TypeId × Value → H) :
    ReturnsInHanded {} Try.checked os 7 .any (Rows.fnExactPackEntrySpec.pre6 enc Try.prog Try.f7 Rows.fnExactPackEntryRow.domain false) (Rows.fnExactPackEntrySpec.post enc Try.prog Try.f7 false true false false) := by
  refine returnsInHanded_of_change (C := Try.checked) own started (by kernel_rfl) Try.func7
    (ChangeSpec.witness6 (enc := enc) (C := Try.checked) false ⟨#[], #[.agg #[.int .i64 0, .int .i64 0, .int .i64 0, .slice none 0 0]], []⟩ 8 (by kernel_rfl) (by kernel_rfl) (by kernel_rfl) (by kernel_rfl)) ?_
  intro W base args ds gs before hval0 hW hcnd _
  have hval : ∀ (j : Nat) t v, Try.f7.params[j]? = some t → args[j]? = some v → Value.okWide Try.prog W .any base t v := hval0
  have hW' := hW
  obtain ⟨p, q, hA0, hV, rfl, hfz, hnd⟩ := hW
  have hA : DataW.TrodAll enc Try.prog W 0 (fun _ => true) true Try.f7.params.toList args.toList ds p := hA0
  rw [Try.params7] at hA hval
  obtain ⟨v0, vs0, d0, ds0, p0, q0, hargs, rfl, rfl, h0, r0⟩ := trodAll_cons hA
  obtain ⟨rfl, rfl, rfl⟩ := trodAll_nil r0
  obtain rfl : args = #[v0] := by cases args; simp_all
  obtain ⟨rfl, rfl⟩ := trodVars_none hV
  have k0 := h0
  have lt0 : ∀ x ∈ p0, x.block < W.heap.size := by obtain ⟨m, hm⟩ := k0; exact DataW.trod_lt m _ _ _ hm
  obtain ⟨ep0, kn0, pn0, a0, len0, cap0, z0, rfl, b0, e0, m0⟩ := open_entry (hval 0 50 v0 rfl rfl) h0
  clear hA0 hval0
  refine (ape_walk ep0 kn0 pn0 a0 len0 cap0 z0 W b0 e0 m0).mono fun e W' ⟨he, new⟩ => ?_
  have bel := new.below
  subst he
  exact ⟨_, rfl, _, _, _, [], _, [], hW', trodAll_mk1 (shut_bool Try.underlying4 _), (trodAll_cons_mk (Below.trod laidOut (by kernel_rfl) (of_decide_eq_true (by kernel_rfl)) k0 bel lt0) trodAll_mk0), rfl, bel.frame _, fun h => by cases h⟩

theorem ape_holds : Rows.FnExactPackEntrySaid :=
  OpenClaim.holds_of_wide 7 Try.f7 rfl rfl rfl rfl rfl rfl rfl ⟨rfl, rfl, rfl, rfl, rfl⟩ rfl rfl rfl rfl rfl (by kernel_rfl) Try.func7 (by kernel_rfl)
    (of_decide_eq_true (by kernel_rfl)) (by unfold Func.isWrapper; first | (rw [if_pos (by decide +kernel)]; kernel_rfl) | (rw [if_neg (by decide +kernel)]; exact ⟨rfl, rfl⟩))
    (fun os started H enc _ => ape_lifted os started H enc)

end Go.Proofs.Ytmfmpcagoamffaa
