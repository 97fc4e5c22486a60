/- What is proved here: for every bytes the law on what is told to others returns true, and the bytes read as they did. No condition. -/
import Derived.Test.YtidibaknahfmmaaDrawEx
import Derived.Test.YtidibaknahfmmaaLwBig
import Derived.Test.YtidibaknahfmmaaR6Ex3
import Derived.Test.YtidibaknahfmmaaR6Res
import Derived.Test.YtidibaknahfmmaaOpen
import Derived.Deep.RegionHeld3
import Derived.Deep.CutRange
namespace Go.Proofs.Ytidibaknahfmmaa
open Go.ChangeShapes Go.WideShapes Go.ChangeAt Go.RowKit Go.Sort
set_option linter.unusedVariables false
set_option linter.unusedSimpArgs false

theorem exA_cases (o : Int) (xs : List Int) (nx md lo z t : Int) : (∃ k, k ≠ 0 ∧ exA o xs nx md lo z t = ⟨k, 0, 0, [], 0, 0, 0⟩) ∨ (exA o xs nx md lo z t = ⟨0, -1, o, z :: xs, t, 0, 0⟩ ∧ af o (z :: xs) t 0 0 = 0) := by
  unfold exA
  split
  · rename_i h0
    split
    · rename_i h1
      split
      · exact .inl ⟨2, by decide, rfl⟩
      · rename_i h2
        refine .inr ⟨rfl, ?_⟩
        obtain ⟨⟨ho, hw⟩, hl, hx⟩ := af_ok h0
        refine af_of ⟨ho, h1.2, ⟨by omega, by omega⟩, ⟨by omega, by omega⟩⟩ (by simp; omega) ?_
        intro u hu
        rcases List.mem_cons.1 hu with rfl | hu
        · exact h1.1
        · exact hx u hu
    · exact .inl ⟨3, by decide, rfl⟩
  · rename_i h0
    exact .inl ⟨_, h0, rfl⟩

set_option maxRecDepth 100000 in
set_option maxHeartbeats 6400000 in
theorem fnex_walk (a : Option Addr) (n c : Nat) (zs : List Int) (w : World) (h : BsAt w a zs) (hn : zs.length = n) (hm : n ≤ maxLen) (ha : ∀ x, zs ≠ [] → a = some x → x.block < w.heap.size) :
    Calls Try.prog 4 #[.slice a n c] w fun e w' => e = .returned (.bool true) ∧ New w w' := by
  by_cases hbig : 1048576 < n
  · go_enter Try.func4, Try.ntmps4
    go_wp2_with fail
    refine (lbig_yes a n c _ hbig).mono ?_
    rintro e w0 ⟨rfl, hw0⟩
    rw [hw0]
    go_wp2
    go_ret
    exact ⟨rfl, New.refl _⟩
  have hfd0 : ∀ (c0 c1 c2 c3 c4 c5 c6 : Value) (X : World), (Instr.field 33 (.agg #[c0, c1, c2, c3, c4, c5, c6]) 0).run Try.prog X = .ok c0 X := fun _ _ _ _ _ _ _ _ => by kernel_rfl
  go_enter Try.func4, Try.ntmps4
  go_wp2_with fail
  refine (lbig_no a n c _ hbig).mono ?_
  rintro e w0 ⟨rfl, hw0⟩
  rw [hw0]
  go_wp2_with fail
  refine (drawExport a n c zs _ h hn (by omega) ha).mono ?_
  rintro e w1 ⟨o, nx, md, lo, xs, xa, xc, m, z, t, rfl, hlx, hm7, nP1, hnil, N1⟩
  go_upto_region 4 with fail
  have hal : New w1 (w1.alloc (.cells #[.int .i64 o, .slice xa m xc, .int .i64 nx, .int .i64 md, .int .i64 lo] 29)) := (New.refl _).alloc _
  have bV2 : Blk (w1.alloc (.cells #[.int .i64 o, .slice xa m xc, .int .i64 nx, .int .i64 md, .int .i64 lo] 29)) w1.heap.size 29 #[.int .i64 o, .slice xa m xc, .int .i64 nx, .int .i64 md, .int .i64 lo] := Blk.mk _ _ _ _ rfl
  have N2 := N1.trans hal
  have nP2 := nP1.new hal
  have HL : Hid (xs.length = m) := hlx
  have HNIL : Hid (xa = none → m = 0 ∧ xc = 0) := hnil
  clear hal N1 nP1 hlx hnil
  generalize (w1.alloc (.cells #[.int .i64 o, .slice xa m xc, .int .i64 nx, .int .i64 md, .int .i64 lo] 29)) = w2 at *
  have cV2 := bV2.cells
  have hb : Hid (∀ u ∈ xs, In6 u) := nP2.bd
  go_wp2_with fail
  refine (implEA o nx md lo xa m xc xs z t _ nP2 HL.out (by omega) HNIL.out).mono ?_
  rintro e w3 hans
  rcases exA_cases o xs nx md lo z t with ⟨k, hk, hx⟩ | ⟨hx, haf⟩
  · have hspec : Hid (∀ W, NsAt W xa xs → Calls Try.prog 16 #[.agg #[.int .i64 o, .slice xa m xc, .int .i64 nx, .int .i64 md, .int .i64 lo], .int .i64 z, .int .i64 t] W (AAns W ⟨k, 0, 0, [], 0, 0, 0⟩)) := fun W hW => hx ▸ specEA o nx md lo xa m xc xs z t W hW HL.out (by omega) HNIL.out
    rw [hx] at hans
    obtain ⟨ga, gk, rfl, og3, hn3⟩ := hans.opened (n := 0) rfl
    have e1 : (k != 0) = true := by simpa using hk
    clear hans hx hk og3
    go_upto_region 5 with fail
    have hal : New w3 (w3.alloc (.cells #[.int .i64 k, .int .i64 0, .int .i64 0, .slice ga 0 gk, .int .i64 0, .int .i64 0, .int .i64 0] 33)) := (New.refl _).alloc _
    have bX4 : Blk (w3.alloc (.cells #[.int .i64 k, .int .i64 0, .int .i64 0, .slice ga 0 gk, .int .i64 0, .int .i64 0, .int .i64 0] 33)) w3.heap.size 33 #[.int .i64 k, .int .i64 0, .int .i64 0, .slice ga 0 gk, .int .i64 0, .int .i64 0, .int .i64 0] := Blk.mk _ _ _ _ rfl
    have hw4 := hn3.trans hal
    have bV4 := bV2.new hw4
    have nP4 := nP2.new hw4
    have N4 := N2.trans hw4
    clear bV2 nP2 N2 hal hn3 hw4 cV2
    generalize w3.alloc (.cells #[.int .i64 k, .int .i64 0, .int .i64 0, .slice ga 0 gk, .int .i64 0, .int .i64 0, .int .i64 0] 33) = w4 at *
    have cX4 := bX4.cells
    have cV4 := bV4.cells
    go_wp2_with fail
    have dX := bX4
    have dV := bV4
    have dN : New w4 w4 := New.refl _
    have nPd := nP4.new ((New.refl _).drew)
    go_region_held3 (fun W => (∀ j, W.cell? ⟨w1.heap.size, j, none⟩ = #[Value.int .i64 o, .slice xa m xc, .int .i64 nx, .int .i64 md, .int .i64 lo][j]?) ∧ (∀ j, W.cell? ⟨w3.heap.size, j, none⟩ = #[Value.int .i64 k, .int .i64 0, .int .i64 0, .slice ga 0 gk, .int .i64 0, .int .i64 0, .int .i64 0][j]?)) (first | exact ⟨cV4, cX4⟩ | exact ⟨dV.cells, dX.cells⟩)
      (first | (go_at_call 16; refine (hspec.out _ nPd).mono ?_; rintro e wx hans; obtain ⟨gb, gj, rfl, -, h5⟩ := hans.opened (n := 0) rfl; (try simp only [New.drew_mark6] at h5); have dX := dX.new h5; have dV := dV.new h5; have dN := dN.trans h5))
    go_wp2
    go_ret
    exact ⟨by simp, N4.trans dN⟩
  · rw [hx] at hans
    obtain ⟨ga, gk, rfl, og3, hn3⟩ := hans.opened (n := m + 1) (by simp [HL.out])
    have HAF : Hid (af o (z :: xs) t 0 0 = 0) := haf
    have hz6 : In6 z := by
      obtain ⟨-, -, h3⟩ := af_ok haf
      have := h3 z (by simp)
      unfold In6
      omega
    have hb1 : Hid (∀ u ∈ z :: xs, In6 u) := by
      intro u hu
      rcases List.mem_cons.1 hu with rfl | hu
      · exact hz6
      · exact hb.out u hu
    clear hans hx haf hz6
    go_upto_region 5 with fail
    have hal : New w3 (w3.alloc (.cells #[.int .i64 0, .int .i64 (-1), .int .i64 o, .slice ga (m + 1) gk, .int .i64 t, .int .i64 0, .int .i64 0] 33)) := (New.refl _).alloc _
    have bX4 : Blk (w3.alloc (.cells #[.int .i64 0, .int .i64 (-1), .int .i64 o, .slice ga (m + 1) gk, .int .i64 t, .int .i64 0, .int .i64 0] 33)) w3.heap.size 33 #[.int .i64 0, .int .i64 (-1), .int .i64 o, .slice ga (m + 1) gk, .int .i64 t, .int .i64 0, .int .i64 0] := Blk.mk _ _ _ _ rfl
    have hw4 := hn3.trans hal
    have bV4 := bV2.new hw4
    have nP4 := nP2.new hw4
    have N4 := N2.trans hw4
    have nG4 := (og3.nsAt hb1.out).new hal
    clear bV2 nP2 N2 hal hn3 hw4 cV2 og3
    generalize w3.alloc (.cells #[.int .i64 0, .int .i64 (-1), .int .i64 o, .slice ga (m + 1) gk, .int .i64 t, .int .i64 0, .int .i64 0] 33) = w4 at *
    have HL1 : Hid ((z :: xs).length = m + 1) := by unfold Hid; simp [HL.out]
    have cX4 := bX4.cells
    have cV4 := bV4.cells
    have e2 : (t == t) = true := by simp
    have e3 : ((m : Int) + 1 == (m : Int) + 1) = true := by simp
    go_wp2_with fail
    refine (implHL o t 0 0 ga (m + 1) gk (z :: xs) z true _ nG4 HL1.out (by omega) (by simp)).mono ?_
    rintro e w5 ⟨rfl, hn5⟩
    have bX5 := bX4.new hn5
    have bV5 := bV4.new hn5
    have nP5 := nP4.new hn5
    have nG5 := nG4.new hn5
    have N5 := N4.trans hn5
    clear bX4 bV4 nP4 nG4 N4 hn5 cX4 cV4
    have cX5 := bX5.cells
    have cV5 := bV5.cells
    go_wp2_with fail
    refine (implAF_is o t 0 0 ga (m + 1) gk (z :: xs) 0 _ nG5 HL1.out (by omega) HAF.out).mono ?_
    rintro e w6 ⟨rfl, hn6⟩
    have bX6 := bX5.new hn6
    have bV6 := bV5.new hn6
    have nP6 := nP5.new hn6
    have nG6 := nG5.new hn6
    have N6 := N5.trans hn6
    clear bX5 bV5 nP5 nG5 N5 hn6 cX5 cV5
    have cX6 := bX6.cells
    have cV6 := bV6.cells
    obtain ⟨v7, hv7⟩ : ∃ v7, Hid (decide ((7 : Int) ∈ z :: xs) = v7) := ⟨_, rfl⟩
    go_wp2_with fail
    refine (implHL o t 0 0 ga (m + 1) gk (z :: xs) 7 v7 _ nG6 HL1.out (by omega) hv7.out).mono ?_
    rintro e w7 ⟨rfl, hn7⟩
    have bX7 := bX6.new hn7
    have bV7 := bV6.new hn7
    have nP7 := nP6.new hn7
    have N7 := N6.trans hn7
    clear bX6 bV6 nP6 nG6 N6 hn7 cX6 cV6
    have cX7 := bX7.cells
    have cV7 := bV7.cells
    by_cases g7 : z = 7
    · subst g7
      have e7 : v7 = true := by rw [← hv7.out]; simp
      subst e7
      go_wp2
      go_ret
      exact ⟨by first | rfl | simp, N7⟩
    · have e7 : (z == 7) = false := by simpa using g7
      have hv8 : decide ((7 : Int) ∈ xs) = v7 := by rw [← hv7.out]; simp; intro e; exact absurd e.symm g7
      go_wp2_with fail
      refine (implHL o nx md lo xa m xc xs 7 v7 _ nP7 HL.out (by omega) hv8).mono ?_
      rintro e w8 ⟨rfl, hn8⟩
      have cX8 := (bX7.new hn8).cells
      have e8 : (v7 == v7) = true := by simp
      clear cX7 cV7
      go_wp2
      go_ret
      exact ⟨by first | rfl | simp, N7.trans hn8⟩

theorem fnex_any (a : Option Addr) (n c : Nat) (zs : List Int) (w : World) (h : BsAt w a zs) (hn : zs.length = n) (hm : n ≤ maxLen) :
    Calls Try.prog 4 #[.slice a n c] w fun e w' => e = .returned (.bool true) ∧ New w w' := by
  refine fnex_walk a n c zs w h hn hm ?_
  intro x hz hx
  obtain ⟨b, off, e, hl⟩ := h.block_lt hz
  rw [e] at hx
  obtain rfl := Option.some.inj hx
  exact hl

set_option maxRecDepth 100000 in
theorem fnex_lifted (os : Os) (started : os.Started) (H : Type) (enc : TypeId × Value → H) :
    ReturnsInHanded {} Try.checked os 4 .any (Rows.fnExportsSpec.pre6 enc Try.prog Try.f4 Rows.fnExportsRow.domain false) (Rows.fnExportsSpec.post enc Try.prog Try.f4 false true false false) := by
  refine returnsInHanded_of_change (C := Try.checked) own started (by kernel_rfl) Try.func4
    (ChangeSpec.witness6 (enc := enc) (C := Try.checked) false ⟨#[], #[.slice none 0 0], []⟩ 8 (by kernel_rfl) (by kernel_rfl) (by kernel_rfl) (by kernel_rfl)) ?_
  intro W base args ds gs before hval0 hW hcnd _
  have hval : ∀ (j : Nat) t v, Try.f4.params[j]? = some t → args[j]? = some v → Value.okWide Try.prog W .any base t v := hval0
  have hW' := hW
  obtain ⟨p, q, hA0, hV, rfl, hfz, hnd⟩ := hW
  have hA : DataW.TrodAll enc Try.prog W 0 (fun _ => true) true Try.f4.params.toList args.toList ds p := hA0
  rw [Try.params4] at hA hval
  obtain ⟨v0, vs0, d0, ds0, p0, q0, hargs, rfl, rfl, h0, r0⟩ := trodAll_cons hA
  obtain ⟨rfl, rfl, rfl⟩ := trodAll_nil r0
  obtain rfl : args = #[v0] := by cases args; simp_all
  obtain ⟨rfl, rfl⟩ := trodVars_none hV
  have k0 := h0
  have lt0 : ∀ x ∈ p0, x.block < W.heap.size := by obtain ⟨m, hm⟩ := k0; exact DataW.trod_lt m _ _ _ hm
  obtain ⟨a0, len0, cap0, rfl⟩ := okWide_slice Try.underlying22 (hval 0 22 v0 rfl rfl)
  have nil0 := open_nil h0
  obtain ⟨z0, b0, e0, m0⟩ := open_bytes h0
  clear hA0 hval0
  refine (fnex_any a0 len0 cap0 z0 W b0 e0 m0.2).mono fun e W' ⟨he, new⟩ => ?_
  have bel := new.below
  subst he
  exact ⟨_, rfl, _, _, _, [], _, [], hW', trodAll_mk1 (shut_bool Try.underlying4 _), (trodAll_cons_mk (Below.trod laidOut (by kernel_rfl) (of_decide_eq_true (by kernel_rfl)) k0 bel lt0) trodAll_mk0), rfl, bel.frame _, fun h => by cases h⟩

theorem fnex_holds : Rows.FnExportsSaid :=
  OpenClaim.holds_of_wide 4 Try.f4 rfl rfl rfl rfl rfl rfl rfl ⟨rfl, rfl, rfl, rfl, rfl⟩ rfl rfl rfl rfl rfl (by kernel_rfl) Try.func4 (by kernel_rfl)
    (of_decide_eq_true (by kernel_rfl)) (by unfold Func.isWrapper; first | (rw [if_pos (by decide +kernel)]; kernel_rfl) | (rw [if_neg (by decide +kernel)]; exact ⟨rfl, rfl⟩))
    (fun os started H enc _ => fnex_lifted os started H enc)

end Go.Proofs.Ytidibaknahfmmaa
