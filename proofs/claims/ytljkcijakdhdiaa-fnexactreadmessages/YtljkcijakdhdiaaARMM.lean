/- What is proved here: for every list of bytes the law on ReadMessages returns true, and the bytes read as they did. No condition. -/
import Derived.Test.YtljkcijakdhdiaaRA5
import Derived.Test.YtljkcijakdhdiaaFrLib
import Derived.Test.YtljkcijakdhdiaaOpen
namespace Go.Proofs.Ytljkcijakdhdiaa
open Go.ChangeShapes Go.WideShapes Go.ChangeAt Go.RowKit
set_option linter.unusedVariables false
set_option maxRecDepth 100000

theorem implRMl (g n : Nat) (zs : List Int) (w : World) (h : BsAt w (some ⟨g, 0, none⟩) zs) (hn : zs.length = n) (hm : n ≤ 1048576) :
    Calls Try.prog 7 #[.slice (some ⟨g, 0, none⟩) n n] w fun e w' => RmAns w (rmF zs).z (rmF zs).us (rmF zs).wy (rmF zs).sb (rmF zs).D e w' ∧ (rmF zs).D.length ≤ 100 :=
  (implRM g 0 n n zs w h hn (Nat.le_refl _) hm).mono fun e w' hh => ⟨hh, rmF_len h.lt⟩
theorem specRMl (g n : Nat) (zs : List Int) (w : World) (h : BsAt w (some ⟨g, 0, none⟩) zs) (hn : zs.length = n) (hm : n ≤ 1048576) :
    Calls Try.prog 9 #[.slice (some ⟨g, 0, none⟩) n n] w fun e w' => RmAns w (rmF zs).z (rmF zs).us (rmF zs).wy (rmF zs).sb (rmF zs).D e w' ∧ (rmF zs).D.length ≤ 100 :=
  (specRM g 0 n n zs w h hn (Nat.le_refl _) hm).mono fun e w' hh => ⟨hh, rmF_len h.lt⟩

set_option maxHeartbeats 6400000 in
theorem arm_walk (a : Option Addr) (n c : Nat) (zs : List Int) (w : World) (h : BsAt w a zs) (hn : zs.length = n) (hm : n ≤ maxLen) :
    Calls Try.prog 4 #[.slice a n c] w fun e w' => e = .returned (.bool true) ∧ New w w' := by
  by_cases hbig : 1048576 < n
  · have hb : (1048576 : Int) < (n : Int) := by omega
    unfold maxLen at hm
    go_enter Try.func4, Try.ntmps4
    go_wp2
    go_ret
    exact ⟨rfl, New.refl _⟩
  have hb : ¬ (1048576 : Int) < (n : Int) := by omega
  have hl : n ≤ 1048576 := by omega
  have hz := h.lt
  obtain ⟨Z, hZ⟩ : ∃ Z, (rmF zs).z = Z := ⟨_, rfl⟩
  obtain ⟨US, hUS⟩ : ∃ US, (rmF zs).us = US := ⟨_, rfl⟩
  obtain ⟨WY, hWY⟩ : ∃ WY, (rmF zs).wy = WY := ⟨_, rfl⟩
  obtain ⟨SB, hSB⟩ : ∃ SB, (rmF zs).sb = SB := ⟨_, rfl⟩
  obtain ⟨D, hD⟩ : ∃ D, (rmF zs).D = D := ⟨_, rfl⟩
  have hI := fun g W i1 => implRMl g n zs W i1 hn hl
  have hS := fun g W i1 => specRMl g n zs W i1 hn hl
  rw [hZ, hUS, hWY, hSB, hD] at hI hS
  clear hZ hUS hWY hSB hD hm hbig
  go_enter Try.func4, Try.ntmps4
  go_wp2_with fail
  refine (toBytes_any a n c zs _ h hn hl).mono ?_
  rintro e w2 ⟨g2, rfl, hg2, o2, N2⟩
  go_wp2_with fail
  refine (hS g2 _ (BsAt.of_own o2 hz)).mono ?_
  rintro e w3 ⟨⟨y3, d3, U3, rfl, hr3, hE3, -, hn3⟩, hDl⟩
  have hU3 : U3.length = D.length := by rw [← hr3, List.length_map]
  rw [hU3]
  have al := (New.refl w3).alloc (.cells #[.int .i64 Z, .int .i64 US, .int .i64 WY, .int .i64 SB, .slice y3 D.length d3] 27)
  have b3 := Blk.mk w3 w3.heap.size 27 #[.int .i64 Z, .int .i64 US, .int .i64 WY, .int .i64 SB, .slice y3 D.length d3] rfl
  go_upto_region 4 with fail
  have N3 := (N2.trans hn3).trans al
  have E3 := hE3.new al
  have L3 : Hid (w3.heap.size < (w3.alloc (.cells #[.int .i64 Z, .int .i64 US, .int .i64 WY, .int .i64 SB, .slice y3 D.length d3] 27)).heap.size) := b3.lt
  have HA3 : Hid ((∀ x, U3 ≠ [] → y3 = some x → x.block < w3.heap.size) ∧ ∀ u ∈ U3, ∀ k, u.bl k → k < w3.heap.size) := hE3.lt
  generalize w3.alloc (.cells #[.int .i64 Z, .int .i64 US, .int .i64 WY, .int .i64 SB, .slice y3 D.length d3] 27) = w4 at *
  clear o2 hg2 N2 hn3 hE3 al
  go_wp2_with fail
  refine (toBytes_any a n c zs _ (h.new N3) hn hl).mono ?_
  rintro e w5 ⟨g5, rfl, hg5, o5, hn5⟩
  have N5 := N3.trans hn5
  have b35 := b3.new hn5
  have E35 := E3.new hn5
  have lg5 := (o5.lt g5 rfl).2
  have HS3 : Hid (w.heap.size ≤ w4.heap.size) := N3.size
  clear N3 b3 E3 hn5
  go_wp2_with fail
  refine (hI g5 _ (BsAt.of_own o5 hz)).mono ?_
  rintro e w6 ⟨⟨y6, d6, U6, rfl, hr6, hE6, hO6, hn6⟩, -⟩
  have hU6 : U6.length = D.length := by rw [← hr6, List.length_map]
  rw [hU6]
  have hx6 : ∀ u ∈ U6, Bd u.p := by
    intro u hu
    obtain ⟨i, hi, rfl⟩ := List.mem_iff_getElem.1 hu
    exact (hE6 i _ (List.getElem?_eq_getElem hi)).2.2
  have al := (New.refl w6).alloc (.cells #[.int .i64 Z, .int .i64 US, .int .i64 WY, .int .i64 SB, .slice y6 D.length d6] 27)
  have b6 := Blk.mk w6 w6.heap.size 27 #[.int .i64 Z, .int .i64 US, .int .i64 WY, .int .i64 SB, .slice y6 D.length d6] rfl
  go_upto_region 6 with fail
  have n7 := hn6.trans al
  have N7 := N5.trans n7
  have b37 := b35.new n7
  have E37 := E35.new n7
  have o57 := own_new o5 n7
  have E67 := hE6.new al
  have O67 : (y6 = none ∧ U6 = []) ∨ ∃ g, y6 = some ⟨g, 0, none⟩ ∧ OwG (w6.alloc (.cells #[.int .i64 Z, .int .i64 US, .int .i64 WY, .int .i64 SB, .slice y6 D.length d6] 27)) w5.heap.size w6.heap.size g D.length d6 U6 := by
    rcases hO6 with h' | ⟨g, hg, h'⟩
    · exact .inl h'
    · rw [hU6] at h'
      exact .inr ⟨g, hg, ⟨row_turn14 h'.row al (fun f => f), fun i u hu => (h'.own i u hu).new al, h'.bd, h'.inn, h'.glo, h'.apart⟩⟩
  have s67 := al.size
  have s56 := hn6.size
  generalize w6.alloc (.cells #[.int .i64 Z, .int .i64 US, .int .i64 WY, .int .i64 SB, .slice y6 D.length d6] 27) = w7 at *
  have HO : Hid ((y6 = none ∧ U6 = []) ∨ ∃ g, y6 = some ⟨g, 0, none⟩ ∧ OwG w7 w5.heap.size w6.heap.size g D.length d6 U6) := O67
  clear hO6 O67 hE6 hn6 al n7 N5 b35 E35 o5
  have c3 := b37.cells
  have c6 := b6.cells
  have HR : Hid (U6.map Mg.r = U3.map Mg.r) := hr6.trans hr3.symm
  clear hr6
  go_wp2_with fail
  refine (eqRM_any Z US WY SB y6 y3 D.length d6 d3 U6 U3 _ E67 E37 HR.out hU6 (by omega)).mono ?_
  rintro e w8 ⟨rfl, hn8⟩
  have N8 := N7.trans hn8
  have b38 := b37.new hn8
  have b68 := b6.new hn8
  have E38 := E37.new hn8
  have E68 := E67.new hn8
  have o58 := own_new o57 hn8
  clear c3 c6
  go_wp2_with fail
  refine (toBytes_any a n c zs _ (h.new N8) hn hl).mono ?_
  rintro e w9 ⟨g9, rfl, hg9, o9, hn9⟩
  go_wp2_with fail
  refine (eqBytes_any (some ⟨g5, 0, none⟩) (some ⟨g9, 0, none⟩) n n n zs _ ((BsAt.of_own o58 hz).new hn9) (BsAt.of_own o9 hz) hn hl).mono ?_
  rintro e w10 ⟨rfl, hn10⟩
  have n10 := hn9.trans hn10
  have N10 := N8.trans n10
  have b310 := b38.new n10
  have b610 := b68.new n10
  have E310 := E38.new n10
  have E610 := E68.new n10
  have o510 := own_new o58 n10
  have nO : New w7 w10 := hn8.trans n10
  clear o9 hn9 hn10 hg9 N8 b38 b68 E38 E68 o58 n10
  go_wp2_with fail
  refine (mark_any (some ⟨g5, 0, none⟩) n n 1 zs _ (OwAt.of_own o510) (by omega) (by omega) (by omega)).mono ?_
  rintro e w11 ⟨rfl, -, t11⟩
  have in5 : ∀ i, inA (some ⟨g5, 0, none⟩) i → i = g5 := by rintro i ⟨x, hx, e⟩; cases hx; exact e
  have sN3 := HS3.out
  have N11 : New w w11 := N10.before t11 (fun i hi e => by have := in5 i e; omega)
  have b311 := b310.turn t11 (fun e => by have := in5 _ e; have := L3.out; omega)
  have b611 := b610.turn t11 (fun e => by have := in5 _ e; omega)
  have E311 := E310.turn t11 (fun x hx hy e => by have := HA3.out.1 x hx hy; have := in5 _ e; have := L3.out; omega) (fun u hu x hx e => by have := HA3.out.2 u hu x hx; have := in5 _ e; have := L3.out; omega)
  have ou := owG_out HO.out
  have E611 := E610.turn t11 (fun x hx hy e => by have := ou.1 x hy; have := in5 _ e; omega) (fun u hu x hx e => by have := ou.2 u hu x hx; have := in5 _ e; omega)
  have HO11 := owG_turn (owG_turn HO.out nO.turn (S := fun _ => False) (fun i _ _ e => e)) t11 (fun i hi _ e => by have := in5 _ e; omega)
  have hkk : (0 : Int) ≤ 1 + (n : Int) := by omega
  clear N10 b310 b610 E310 E610 t11 o510 in5 nO
  have c3 := b311.cells
  have c6 := b611.cells
  go_wp2_with fail
  refine (eqRM_any Z US WY SB y6 y3 D.length d6 d3 U6 U3 _ E611 E311 HR.out hU6 (by omega)).mono ?_
  rintro e w12 ⟨rfl, hn12⟩
  have N12 := N11.trans hn12
  have b312 := b311.new hn12
  have b612 := b611.new hn12
  have E312 := E311.new hn12
  have HO12 := owG_turn HO11 hn12.turn (S := fun _ => False) (fun i _ _ e => e)
  have s12 : w6.heap.size < w12.heap.size := b612.lt
  clear c3 c6 N11 b311 b611 E311 E611 HO11 hn12
  have HO2 : Hid ((y6 = none ∧ U6 = []) ∨ ∃ g, y6 = some ⟨g, 0, none⟩ ∧ OwG w12 w5.heap.size w6.heap.size g D.length d6 U6) := HO12
  clear HO12 HO
  have hMk := markRM_any Z US WY SB y6 d6 w5.heap.size w6.heap.size U6 w12 (by rw [hU6]; exact HO2.out) (by omega)
  have hed := endG_bd U6 1 hx6
  have hHl := fun W hE => heldRM_any Z US WY SB y6 d6 U6 W hE hx6 (by omega)
  rw [hU6] at hMk hHl hed
  have hme : ∃ M, endG 1 U6 = M := ⟨_, rfl⟩
  obtain ⟨M, hM⟩ := hme
  rw [hM] at hMk hHl hed
  have c6 := b612.cells
  go_wp2_with fail
  refine hMk.mono ?_
  rintro e w13 ⟨rfl, E13, t13⟩
  have N13 : New w w13 := N12.before t13 (fun i hi e => by omega)
  have b313 := b312.turn t13 (fun e => by have := L3.out; omega)
  have b613 := b612.turn t13 (fun e => by omega)
  have E313 := E312.turn t13 (fun x hx hy e => by have := HA3.out.1 x hx hy; have := L3.out; omega) (fun u hu x hx e => by have := HA3.out.2 u hu x hx; have := L3.out; omega)
  clear hMk c6 t13 N12 b312 b612 E312
  have c6 := b613.cells
  go_wp2_with fail
  refine (hHl _ E13).mono ?_
  rintro e w14 ⟨rfl, hn14⟩
  have N14 := N13.trans hn14
  have b314 := b313.new hn14
  have b614 := b613.new hn14
  have E314 := E313.new hn14
  have E614 := E13.new hn14
  clear c6 N13 b313 b613 E313 E13 hn14
  have hqm : (M != M) = false := by simp
  have hM0 : ¬ M < 0 := by omega
  go_wp2_with fail
  refine (toBytes_any a n c zs _ (h.new N14) hn hl).mono ?_
  rintro e w15 ⟨g15, rfl, hg15, o15, hn15⟩
  have N15 := N14.trans hn15
  have b315 := b314.new hn15
  have b615 := b614.new hn15
  have E315 := E314.new hn15
  have E615 := E614.new hn15
  clear N14 b314 b614 E314 E614 hn15 hg15
  go_wp2_with fail
  refine (hI g15 _ (BsAt.of_own o15 hz)).mono ?_
  rintro e w16 ⟨⟨y16, d16, U16, rfl, hr16, hE16, -, hn16⟩, -⟩
  have hU16 : U16.length = D.length := by rw [← hr16, List.length_map]
  rw [hU16]
  have al := (New.refl w16).alloc (.cells #[.int .i64 Z, .int .i64 US, .int .i64 WY, .int .i64 SB, .slice y16 D.length d16] 27)
  have b16 := Blk.mk w16 w16.heap.size 27 #[.int .i64 Z, .int .i64 US, .int .i64 WY, .int .i64 SB, .slice y16 D.length d16] rfl
  go_upto_region 23 with fail
  have n17 := hn16.trans al
  have N17 := N15.trans n17
  have b317 := b315.new n17
  have b617 := b615.new n17
  have E317 := E315.new n17
  have E617 := E615.new n17
  have E16 := hE16.new al
  generalize w16.alloc (.cells #[.int .i64 Z, .int .i64 US, .int .i64 WY, .int .i64 SB, .slice y16 D.length d16] 27) = w17 at *
  have HR2 : Hid (U16.map Mg.r = U3.map Mg.r) := hr16.trans hr3.symm
  clear o15 hn16 al n17 N15 b315 b615 E315 E615 hE16 hr16
  have c3 := b317.cells
  have c16 := b16.cells
  go_wp2_with fail
  refine (eqRM_any Z US WY SB y16 y3 D.length d16 d3 U16 U3 _ E16 E317 HR2.out hU16 (by omega)).mono ?_
  rintro e w18 ⟨rfl, hn18⟩
  have N18 := N17.trans hn18
  have b618 := b617.new hn18
  have E618 := E617.new hn18
  clear c3 c16 b317 b617 E317 E617 E16 N17 hn18
  have c6 := b618.cells
  go_wp2_with fail
  refine (hHl _ E618).mono ?_
  rintro e w19 ⟨rfl, hn19⟩
  have N19 := N18.trans hn19
  clear c6
  go_wp2_with fail
  go_ret
  exact ⟨rfl, N19⟩

set_option maxRecDepth 100000 in
theorem arm_lifted (os : Os) (started : os.Started) (H : Type) (enc : TypeId × Value → H) :
    ReturnsInHanded {} Try.checked os 4 .any (Rows.fnExactReadMessagesSpec.pre6 enc Try.prog Try.f4 Rows.fnExactReadMessagesRow.domain false) (Rows.fnExactReadMessagesSpec.post enc Try.prog Try.f4 false true false false) := by
  refine returnsInHanded_of_change (C := Try.checked) own started (by kernel_rfl) Try.func4
    (ChangeSpec.witness6 (enc := enc) (C := Try.checked) false ⟨#[], #[.slice none 0 0], []⟩ 8 (by kernel_rfl) (by kernel_rfl) (by kernel_rfl) (by kernel_rfl)) ?_
  intro W base args ds gs before hval0 hW hcnd _
  have hval : ∀ (j : Nat) t v, Try.f4.params[j]? = some t → args[j]? = some v → Value.okWide Try.prog W .any base t v := hval0
  have hW' := hW
  obtain ⟨p, q, hA0, hV, rfl, hfz, hnd⟩ := hW
  have hA : DataW.TrodAll enc Try.prog W 0 (fun _ => true) true Try.f4.params.toList args.toList ds p := hA0
  rw [Try.params4] at hA hval
  obtain ⟨v0, vs0, d0, ds0, p0, q0, hargs, rfl, rfl, h0, r0⟩ := trodAll_cons hA
  obtain ⟨rfl, rfl, rfl⟩ := trodAll_nil r0
  obtain rfl : args = #[v0] := by cases args; simp_all
  obtain ⟨rfl, rfl⟩ := trodVars_none hV
  have k0 := h0
  have lt0 : ∀ x ∈ p0, x.block < W.heap.size := by obtain ⟨m, hm⟩ := k0; exact DataW.trod_lt m _ _ _ hm
  obtain ⟨a0, len0, cap0, rfl⟩ := okWide_slice Try.underlying22 (hval 0 22 v0 rfl rfl)
  have nil0 := open_nil h0
  obtain ⟨z0, b0, e0, m0⟩ := open_bytes h0
  clear hA0 hval0
  refine (arm_walk a0 len0 cap0 z0 W b0 e0 m0.2).mono fun e W' ⟨he, new⟩ => ?_
  have bel := new.below
  subst he
  exact ⟨_, rfl, _, _, _, [], _, [], hW', trodAll_mk1 (shut_bool Try.underlying4 _), (trodAll_cons_mk (Below.trod laidOut (by kernel_rfl) (of_decide_eq_true (by kernel_rfl)) k0 bel lt0) trodAll_mk0), rfl, bel.frame _, fun h => by cases h⟩

theorem arm_holds : Rows.FnExactReadMessagesSaid :=
  OpenClaim.holds_of_wide 4 Try.f4 rfl rfl rfl rfl rfl rfl rfl ⟨rfl, rfl, rfl, rfl, rfl⟩ rfl rfl rfl rfl rfl (by kernel_rfl) Try.func4 (by kernel_rfl)
    (of_decide_eq_true (by kernel_rfl)) (by unfold Func.isWrapper; first | (rw [if_pos (by decide +kernel)]; kernel_rfl) | (rw [if_neg (by decide +kernel)]; exact ⟨rfl, rfl⟩))
    (fun os started H enc _ => arm_lifted os started H enc)

end Go.Proofs.Ytljkcijakdhdiaa
