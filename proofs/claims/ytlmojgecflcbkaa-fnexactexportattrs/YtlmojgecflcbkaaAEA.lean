/- What is proved here: for every attributes and numbers the law on ExportAttrs returns true, and the attributes read as they did. No condition. -/
import Derived.Test.YtlmojgecflcbkaaR6Open
import Derived.Test.YtlmojgecflcbkaaR6Ex3
import Derived.Test.YtlmojgecflcbkaaR6Res
import Derived.Deep.RegionHeld3
import Derived.Deep.CutRange
namespace Go.Proofs.Ytlmojgecflcbkaa
open Go.ChangeShapes Go.WideShapes Go.ChangeAt Go.RowKit Go.Sort
set_option linter.unusedVariables false

theorem exA_in {o nx md lo z t : Int} {xs : List Int} (hb : ∀ u ∈ xs, In6 u) : ∀ u ∈ (exA o xs nx md lo z t).ns, In6 u := by
  intro u hu
  unfold exA at hu
  split at hu
  · split at hu
    · rename_i h1
      split at hu
      · simp [arC] at hu
      · rcases List.mem_cons.1 hu with rfl | hu
        · unfold In6; omega
        · exact hb u hu
    · simp [arC] at hu
  · simp [arC] at hu
theorem exA_len {o nx md lo z t : Int} {xs : List Int} : (exA o xs nx md lo z t).ns.length ≤ 7 := by
  unfold exA
  split
  · rename_i h0
    have := af_len h0
    split
    · split
      · simp [arC]
      · simp; omega
    · simp [arC]
  · simp [arC]

set_option maxHeartbeats 6400000 in
theorem aea_walk (o nx md lo : Int) (x : Option Addr) (n c : Nat) (xs : List Int) (z t : Int) (w : World) (h : NsAt w x xs) (hn : xs.length = n) (hm : n ≤ maxLen) :
    Calls Try.prog 8 #[.agg #[.int .i64 o, .slice x n c, .int .i64 nx, .int .i64 md, .int .i64 lo], .int .i64 z, .int .i64 t] w fun e w' => e = .returned (.bool true) ∧ New w w' := by
  have N0 : New w (w.alloc (.cells #[.int .i64 o, .slice x n c, .int .i64 nx, .int .i64 md, .int .i64 lo] 41)) := (New.refl w).alloc _
  by_cases hbig : 1048576 < n
  case pos =>
    go_enter Try.func8, Try.ntmps8
    go_wp2_with fail
    refine (szAt_big o nx md lo x n c 1048576 _ (Nat.le_refl _) hm hbig).mono ?_
    rintro e w1 ⟨rfl, hn1⟩
    go_wp2
    go_ret
    exact ⟨rfl, N0.trans hn1⟩
  have hm' : n ≤ 1048576 := by omega
  have hbd : Hid (∀ z ∈ xs, In6 z) := h.bd
  have HN : Hid (xs.length = n) := hn
  clear hm hn hbig
  have bA0 := Blk.mk w w.heap.size 41 #[.int .i64 o, .slice x n c, .int .i64 nx, .int .i64 md, .int .i64 lo] rfl
  have hin : Hid (∀ u ∈ (exA o xs nx md lo z t).ns, In6 u) := exA_in hbd.out
  have hlm : Hid ((exA o xs nx md lo z t).ns.length ≤ 7) := exA_len
  have hS : Hid (∀ W g, NsAt W (some ⟨g, 0, none⟩) xs → Calls Try.prog 32 #[.agg #[.int .i64 o, .slice (some ⟨g, 0, none⟩) n n, .int .i64 nx, .int .i64 md, .int .i64 lo], .int .i64 z, .int .i64 t] W (AAns W (exA o xs nx md lo z t))) := fun W g hh => specEA o nx md lo _ n n xs z t W hh HN.out hm' (by intro e; cases e)
  have hI : Hid (∀ W g, NsAt W (some ⟨g, 0, none⟩) xs → Calls Try.prog 33 #[.agg #[.int .i64 o, .slice (some ⟨g, 0, none⟩) n n, .int .i64 nx, .int .i64 md, .int .i64 lo], .int .i64 z, .int .i64 t] W (AAns W (exA o xs nx md lo z t))) := fun W g hh => implEA o nx md lo _ n n xs z t W hh HN.out hm' (by intro e; cases e)
  generalize exA o xs nx md lo z t = r at hS hI hin hlm
  obtain ⟨rc, rr, ro, ns, rx, rd, rl⟩ := r
  obtain ⟨m, HM⟩ : ∃ m, Hid (ns.length = m) := ⟨_, rfl⟩
  have hm7 : m ≤ 7 := by rw [← HM.out]; exact hlm.out
  have hz : ((1 : Int) + (m : Int) != 1 + (m : Int)) = false := by simp
  have hnn : ¬ (1 : Int) + (m : Int) < 0 := by omega
  have hkn : ¬ (1 : Int) + (n : Int) < 0 := by omega
  replace hin : Hid (∀ u ∈ ns, In6 u) := hin
  have hmk : Hid (∀ u ∈ mkN6 1 m, In6 u) := mkN6_in 1 m (by omega) (by omega) (by omega)
  go_enter Try.func8, Try.ntmps8
  go_wp2_with fail
  refine (szAt_ok o nx md lo x n c 1048576 _ (Nat.le_refl _) hm').mono ?_
  rintro e w1 ⟨rfl, hn1⟩
  have bA1 := bA0.new hn1
  have N1 := N0.trans hn1
  have z1 := hn1.size
  clear bA0 N0
  have cA := bA1.cells
  clear hn1
  have zz : w.heap.size < w1.heap.size := by simp at z1; omega
  go_wp2_with fail
  refine (toAt_any o nx md lo x n c xs _ (h.new N1) HN.out hm').mono ?_
  rintro e w2 ⟨g2, rfl, hg2, ho2, hn2⟩
  have bA2 := bA1.new hn2
  have N2 := N1.trans hn2
  have z2 := hn2.size
  clear bA1 N1
  go_wp2_with fail
  refine (hS.out _ g2 (ho2.ns hbd.out)).mono ?_
  rintro e w3 hans
  obtain ⟨aW, kW, rfl, oW3, hn3⟩ := hans.opened HM.out
  clear hans ho2 hg2 cA
  have bA3 := bA2.new hn3
  have N3 := N2.trans hn3
  have z3 := hn3.size
  clear bA2 N2
  have rW := oW3.rng
  go_upto_region 6 with fail
  have hal : New w3 (w3.alloc (.cells #[.int .i64 rc, .int .i64 rr, .int .i64 ro, .slice aW m kW, .int .i64 rx, .int .i64 rd, .int .i64 rl] 50)) := (New.refl _).alloc _
  have bW4 : Blk (w3.alloc (.cells #[.int .i64 rc, .int .i64 rr, .int .i64 ro, .slice aW m kW, .int .i64 rx, .int .i64 rd, .int .i64 rl] 50)) w3.heap.size 50 #[.int .i64 rc, .int .i64 rr, .int .i64 ro, .slice aW m kW, .int .i64 rx, .int .i64 rd, .int .i64 rl] := Blk.mk _ _ _ _ rfl
  have y4 : w3.heap.size < (w3.alloc (.cells #[.int .i64 rc, .int .i64 rr, .int .i64 ro, .slice aW m kW, .int .i64 rx, .int .i64 rd, .int .i64 rl] 50)).heap.size := by simp
  have bA4 := bA3.new hal
  have oW4 := oW3.new hal
  have N4 := N3.trans hal
  have z4 := hal.size
  clear bA3 oW3 N3
  clear hal hn3
  generalize w3.alloc (.cells #[.int .i64 rc, .int .i64 rr, .int .i64 ro, .slice aW m kW, .int .i64 rx, .int .i64 rd, .int .i64 rl] 50) = w4 at *
  have cA := bA4.cells
  go_wp2_with fail
  refine (toAt_any o nx md lo x n c xs _ (h.new N4) HN.out hm').mono ?_
  rintro e w5 ⟨g5, rfl, hg5, oX5, hn5⟩
  have bA5 := bA4.new hn5
  have bW5 := bW4.new hn5
  have oW5 := oW4.new hn5
  have N5 := N4.trans hn5
  have z5 := hn5.size
  clear bA4 bW4 oW4 N4
  have lX := oX5.lt
  go_upto_region 7 with fail
  have hal : New w5 (w5.alloc (.cells #[.int .i64 o, .slice (some ⟨g5, 0, none⟩) n n, .int .i64 nx, .int .i64 md, .int .i64 lo] 45)) := (New.refl _).alloc _
  have bX6 : Blk (w5.alloc (.cells #[.int .i64 o, .slice (some ⟨g5, 0, none⟩) n n, .int .i64 nx, .int .i64 md, .int .i64 lo] 45)) w5.heap.size 45 #[.int .i64 o, .slice (some ⟨g5, 0, none⟩) n n, .int .i64 nx, .int .i64 md, .int .i64 lo] := Blk.mk _ _ _ _ rfl
  have y6 : w5.heap.size < (w5.alloc (.cells #[.int .i64 o, .slice (some ⟨g5, 0, none⟩) n n, .int .i64 nx, .int .i64 md, .int .i64 lo] 45)).heap.size := by simp
  have bA6 := bA5.new hal
  have bW6 := bW5.new hal
  have oW6 := oW5.new hal
  have oX6 := oX5.new hal
  have N6 := N5.trans hal
  have z6 := hal.size
  clear bA5 bW5 oW5 oX5 N5
  clear hal hn5 cA
  generalize w5.alloc (.cells #[.int .i64 o, .slice (some ⟨g5, 0, none⟩) n n, .int .i64 nx, .int .i64 md, .int .i64 lo] 45) = w6 at *
  have cX := bX6.cells
  go_wp2_with fail
  refine (hI.out _ g5 (oX6.ns hbd.out)).mono ?_
  rintro e w7 hans
  obtain ⟨aG, kG, rfl, oG7, hn7⟩ := hans.opened HM.out
  clear hans cX
  have rG := oG7.rng
  have bA7 := bA6.new hn7
  have bW7 := bW6.new hn7
  have oW7 := oW6.new hn7
  have oX7 := oX6.new hn7
  have bX7 := bX6.new hn7
  have N7 := N6.trans hn7
  have z7 := hn7.size
  clear bA6 bW6 oW6 oX6 bX6 N6
  go_upto_region 8 with fail
  have hal : New w7 (w7.alloc (.cells #[.int .i64 rc, .int .i64 rr, .int .i64 ro, .slice aG m kG, .int .i64 rx, .int .i64 rd, .int .i64 rl] 50)) := (New.refl _).alloc _
  have bG8 : Blk (w7.alloc (.cells #[.int .i64 rc, .int .i64 rr, .int .i64 ro, .slice aG m kG, .int .i64 rx, .int .i64 rd, .int .i64 rl] 50)) w7.heap.size 50 #[.int .i64 rc, .int .i64 rr, .int .i64 ro, .slice aG m kG, .int .i64 rx, .int .i64 rd, .int .i64 rl] := Blk.mk _ _ _ _ rfl
  have y8 : w7.heap.size < (w7.alloc (.cells #[.int .i64 rc, .int .i64 rr, .int .i64 ro, .slice aG m kG, .int .i64 rx, .int .i64 rd, .int .i64 rl] 50)).heap.size := by simp
  have bA8 := bA7.new hal
  have bW8 := bW7.new hal
  have oW8 := oW7.new hal
  have oX8 := oX7.new hal
  have bX8 := bX7.new hal
  have oG8 := oG7.new hal
  have N8 := N7.trans hal
  have z8 := hal.size
  clear bA7 bW7 oW7 oX7 bX7 oG7 N7
  clear hal hn7
  generalize w7.alloc (.cells #[.int .i64 rc, .int .i64 rr, .int .i64 ro, .slice aG m kG, .int .i64 rx, .int .i64 rd, .int .i64 rl] 50) = w8 at *
  have cW := bW8.cells
  have cG := bG8.cells
  go_wp2_with fail
  refine (eqAR rc rr ro rx rd rl _ _ m _ _ ns _ (oG8.nsAt hin.out) (oW8.nsAt hin.out) HM.out (by omega)).mono ?_
  rintro e w9 ⟨rfl, hn9⟩
  have bA9 := bA8.new hn9
  have bW9 := bW8.new hn9
  have oW9 := oW8.new hn9
  have oX9 := oX8.new hn9
  have bX9 := bX8.new hn9
  have oG9 := oG8.new hn9
  have bG9 := bG8.new hn9
  have N9 := N8.trans hn9
  have z9 := hn9.size
  clear bA8 bW8 oW8 oX8 bX8 oG8 bG8 N8
  clear hn9 cW cG
  have ho9 := oX9
  have cA := bA9.cells
  have cB := bX9.cells
  go_wp2_with fail
  go_region_held3 (fun W => (∀ j, W.cell? ⟨w.heap.size, j, none⟩ = #[Value.int .i64 o, .slice x n c, .int .i64 nx, .int .i64 md, .int .i64 lo][j]?) ∧ (∀ j, W.cell? ⟨w5.heap.size, j, none⟩ = #[Value.int .i64 o, .slice (some ⟨g5, 0, none⟩) n n, .int .i64 nx, .int .i64 md, .int .i64 lo][j]?)) (first | exact ⟨cA, cB⟩ | exact ⟨cA7, cB7⟩ | exact ⟨cA8, cB8⟩)
    (first
      | (go_at_call 20; refine (toAt_any o nx md lo x n c xs _ ?_ HN.out hm').mono ?_; exact (h.new N9).new ((New.refl _).drew); rintro e w17 ⟨g7, rfl, hg7, ho7, hn7⟩; have cA7 := (bA9.new (((New.refl _).drew).trans hn7)).cells; have cB7 := (bX9.new (((New.refl _).drew).trans hn7)).cells)
      | (go_at_call 22; refine (eqAt_any o nx md lo _ _ n n n xs _ ?_ ?_ HN.out hm').mono ?_; exact (ho9.ns hbd.out).new (((New.refl _).drew).trans hn7); exact ho7.ns hbd.out; rintro e w18 ⟨rfl, hn8⟩; have cA8 := (bA9.new ((((New.refl _).drew).trans hn7).trans hn8)).cells; have cB8 := (bX9.new ((((New.refl _).drew).trans hn7).trans hn8)).cells))
  have hn18 : New w9 w18 := (((New.refl _).drew).trans hn7).trans hn8
  clear cA cB cA7 cB7 cA8 cB8 ho9 hn7 hn8 ho7
  have bA18 := bA9.new hn18
  have bW18 := bW9.new hn18
  have oW18 := oW9.new hn18
  have oX18 := oX9.new hn18
  have bX18 := bX9.new hn18
  have oG18 := oG9.new hn18
  have bG18 := bG9.new hn18
  have N18 := N9.trans hn18
  have z18 := hn18.size
  clear bA9 bW9 oW9 oX9 bX9 oG9 bG9 N9
  clear hn18
  have cX := bX18.cells
  go_wp2_with fail
  refine (markAt6 o nx md lo g5 (some ⟨g5, 0, none⟩) n n xs 1 _ oX18.ov HN.out hm' (by omega) (by omega)).mono ?_
  rintro e w12 ⟨rfl, oY12, ht12⟩
  replace ht12 : Turn (fun j => j = g5) w18 w12 := ht12.mono (fun i _ e => (Option.some.inj e).symm)
  clear cX oX18 oY12
  have nW12 : NsAt w12 aW ns := (oW18.nsAt hin.out).turn ht12 (fun x5 _ hx5 e => by have := (rW x5.block (by rw [hx5]; rfl)).2; omega)
  clear oW18
  have bA12 := bA18.turn ht12 (by omega)
  have bW12 := bW18.turn ht12 (by omega)
  have bX12 := bX18.turn ht12 (by omega)
  have oG12 := oG18.turn ht12 (fun k hk _ e => by omega)
  have bG12 := bG18.turn ht12 (by omega)
  have N12 := N18.before ht12 (fun i hi e => by omega)
  have z12 := ht12.size
  clear bA18 bW18 bX18 oG18 bG18 N18
  clear ht12 bX12
  have cW := bW12.cells
  have cG := bG12.cells
  go_wp2_with fail
  refine (eqAR rc rr ro rx rd rl _ _ m _ _ ns _ (oG12.nsAt hin.out) nW12 HM.out (by omega)).mono ?_
  rintro e w13 ⟨rfl, hn13⟩
  have bA13 := bA12.new hn13
  have bW13 := bW12.new hn13
  have oG13 := oG12.new hn13
  have bG13 := bG12.new hn13
  have nW13 := nW12.new hn13
  have N13 := N12.trans hn13
  have z13 := hn13.size
  clear bA12 bW12 oG12 bG12 nW12 N12
  clear hn13 cW cG
  have cG := bG13.cells
  go_wp2_with fail
  refine (markAR rc rr ro rx rd rl w6.heap.size aG m kG ns 1 _ oG13 HM.out (by omega) (by omega) (by omega)).mono ?_
  rintro e w14 ⟨rfl, oM14, ht14⟩
  have nW14 : NsAt w14 aW ns := nW13.turn ht14 (fun x5 _ hx5 e => by have := (rW x5.block (by rw [hx5]; rfl)).2; have := (rG _ e).1; omega)
  clear oG13 nW13 cG
  have bA14 := bA13.turn ht14 (fun e => by have := (rG _ e).1; omega)
  have bW14 := bW13.turn ht14 (fun e => by have := (rG _ e).1; omega)
  have bG14 := bG13.turn ht14 (fun e => by have := (rG _ e).2; omega)
  have N14 := N13.before ht14 (fun i hi e => by have := (rG _ e).1; omega)
  have z14 := ht14.size
  clear bA13 bW13 bG13 N13
  clear ht14
  have cG := bG14.cells
  go_wp2_with fail
  refine (heldAR rc rr ro rx rd rl aG m kG 1 _ (oM14.nsAt hmk.out) (by omega) (by omega) (by omega)).mono ?_
  rintro e w15 ⟨rfl, hn15⟩
  have bA15 := bA14.new hn15
  have bW15 := bW14.new hn15
  have bG15 := bG14.new hn15
  have nW15 := nW14.new hn15
  have oM15 := oM14.new hn15
  have N15 := N14.trans hn15
  have z15 := hn15.size
  clear bA14 bW14 bG14 nW14 oM14 N14
  clear hn15 cG
  have cA := bA15.cells
  go_wp2_with fail
  refine (toAt_any o nx md lo x n c xs _ (h.new N15) HN.out hm').mono ?_
  rintro e w16 ⟨g16, rfl, hg16, oX16, hn16⟩
  have bA16 := bA15.new hn16
  have bW16 := bW15.new hn16
  have bG16 := bG15.new hn16
  have nW16 := nW15.new hn16
  have oM16 := oM15.new hn16
  have N16 := N15.trans hn16
  have z16 := hn16.size
  clear bA15 bW15 bG15 nW15 oM15 N15
  clear hn16 cA bA16
  go_wp2_with fail
  refine (hI.out _ g16 (oX16.ns hbd.out)).mono ?_
  rintro e w17 hans
  obtain ⟨aH, kH, rfl, oH17, hn17⟩ := hans.opened HM.out
  clear hans oX16 hg16
  have bW17 := bW16.new hn17
  have bG17 := bG16.new hn17
  have nW17 := nW16.new hn17
  have oM17 := oM16.new hn17
  have N17 := N16.trans hn17
  have z17 := hn17.size
  clear bW16 bG16 nW16 oM16 N16
  go_upto_region 25 with fail
  have hal : New w17 (w17.alloc (.cells #[.int .i64 rc, .int .i64 rr, .int .i64 ro, .slice aH m kH, .int .i64 rx, .int .i64 rd, .int .i64 rl] 50)) := (New.refl _).alloc _
  have bH19 : Blk (w17.alloc (.cells #[.int .i64 rc, .int .i64 rr, .int .i64 ro, .slice aH m kH, .int .i64 rx, .int .i64 rd, .int .i64 rl] 50)) w17.heap.size 50 #[.int .i64 rc, .int .i64 rr, .int .i64 ro, .slice aH m kH, .int .i64 rx, .int .i64 rd, .int .i64 rl] := Blk.mk _ _ _ _ rfl
  have bW19 := bW17.new hal
  have bG19 := bG17.new hal
  have nW19 := nW17.new hal
  have oM19 := oM17.new hal
  have oH19 := oH17.new hal
  have N19 := N17.trans hal
  have z19 := hal.size
  clear bW17 bG17 nW17 oM17 oH17 N17
  clear hal hn17
  generalize w17.alloc (.cells #[.int .i64 rc, .int .i64 rr, .int .i64 ro, .slice aH m kH, .int .i64 rx, .int .i64 rd, .int .i64 rl] 50) = w19 at *
  have cW := bW19.cells
  have cH := bH19.cells
  go_wp2_with fail
  refine (eqAR rc rr ro rx rd rl _ _ m _ _ ns _ (oH19.nsAt hin.out) nW19 HM.out (by omega)).mono ?_
  rintro e w20 ⟨rfl, hn20⟩
  have bG20 := bG19.new hn20
  have oM20 := oM19.new hn20
  have N20 := N19.trans hn20
  have z20 := hn20.size
  clear bG19 oM19 N19
  clear hn20 cW cH
  have cG := bG20.cells
  go_wp2_with fail
  refine (heldAR rc rr ro rx rd rl aG m kG 1 _ (oM20.nsAt hmk.out) (by omega) (by omega) (by omega)).mono ?_
  rintro e w21 ⟨rfl, hn21⟩
  go_wp2
  go_ret
  exact ⟨rfl, N20.trans hn21⟩

set_option maxRecDepth 100000 in
theorem aea_lifted (os : Os) (started : os.Started) (H : Type) (enc : TypeId × Value → H) :
    ReturnsInHanded {} Try.checked os 8 .any (Rows.fnExactExportAttrsSpec.pre6 enc Try.prog Try.f8 Rows.fnExactExportAttrsRow.domain false) (Rows.fnExactExportAttrsSpec.post enc Try.prog Try.f8 false true false false) := by
  refine returnsInHanded_of_change (C := Try.checked) own started (by kernel_rfl) Try.func8
    (ChangeSpec.witness6 (enc := enc) (C := Try.checked) false ⟨#[], #[.agg #[.int .i64 0, .slice none 0 0, .int .i64 0, .int .i64 0, .int .i64 0], .int .i64 0, .int .i64 0], []⟩ 8 (by kernel_rfl) (by kernel_rfl) (by kernel_rfl) (by kernel_rfl)) ?_
  intro W base args ds gs before hval0 hW hcnd _
  have hval : ∀ (j : Nat) t v, Try.f8.params[j]? = some t → args[j]? = some v → Value.okWide Try.prog W .any base t v := hval0
  have hW' := hW
  obtain ⟨p, q, hA0, hV, rfl, hfz, hnd⟩ := hW
  have hA : DataW.TrodAll enc Try.prog W 0 (fun _ => true) true Try.f8.params.toList args.toList ds p := hA0
  rw [Try.params8] at hA hval
  obtain ⟨v0, vs0, d0, ds0, p0, q0, hargs, rfl, rfl, h0, r0⟩ := trodAll_cons hA
  obtain ⟨v1, vs1, d1, ds1, p1, q1, rfl, rfl, rfl, h1, r1⟩ := trodAll_cons r0
  obtain ⟨v2, vs2, d2, ds2, p2, q2, rfl, rfl, rfl, h2, r2⟩ := trodAll_cons r1
  obtain ⟨rfl, rfl, rfl⟩ := trodAll_nil r2
  obtain rfl : args = #[v0, v1, v2] := by cases args; simp_all
  obtain ⟨rfl, rfl⟩ := trodVars_none hV
  have k0 := h0
  have lt0 : ∀ x ∈ p0, x.block < W.heap.size := by obtain ⟨m, hm⟩ := k0; exact DataW.trod_lt m _ _ _ hm
  obtain ⟨o0, nx0, md0, lc0, a0, n0, c0, x0, rfl, b0, e0, m0, io0, in0, im0, il0⟩ := open_attrs (hval 0 41 v0 rfl rfl) h0
  obtain ⟨a1, rfl, rfl, rfl, w1⟩ := open_int Try.underlying2 (hval 1 2 v1 rfl rfl) h1
  obtain ⟨a2, rfl, rfl, rfl, w2⟩ := open_int Try.underlying2 (hval 2 2 v2 rfl rfl) h2
  clear hA0 hval0
  refine (aea_walk o0 nx0 md0 lc0 a0 n0 c0 x0 a1 a2 W b0 e0 m0).mono fun e W' ⟨he, new⟩ => ?_
  have bel := new.below
  subst he
  exact ⟨_, rfl, _, _, _, [], _, [], hW', trodAll_mk1 (shut_bool Try.underlying4 _), (trodAll_cons_mk (Below.trod laidOut (by kernel_rfl) (of_decide_eq_true (by kernel_rfl)) k0 bel lt0) (trodAll_cons_mk (shut_int Try.underlying2 w1) (trodAll_cons_mk (shut_int Try.underlying2 w2) trodAll_mk0))), rfl, bel.frame _, fun h => by cases h⟩

theorem aea_holds : Rows.FnExactExportAttrsSaid :=
  OpenClaim.holds_of_wide 8 Try.f8 rfl rfl rfl rfl rfl rfl rfl ⟨rfl, rfl, rfl, rfl, rfl⟩ rfl rfl rfl rfl rfl (by kernel_rfl) Try.func8 (by kernel_rfl)
    (of_decide_eq_true (by kernel_rfl)) (by unfold Func.isWrapper; first | (rw [if_pos (by decide +kernel)]; kernel_rfl) | (rw [if_neg (by decide +kernel)]; exact ⟨rfl, rfl⟩))
    (fun os started H enc _ => aea_lifted os started H enc)

end Go.Proofs.Ytlmojgecflcbkaa
