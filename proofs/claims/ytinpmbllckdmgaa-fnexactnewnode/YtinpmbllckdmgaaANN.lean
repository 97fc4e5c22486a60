/- What is proved here: for every number the law on NewNode returns true. No condition. -/
import Derived.Test.YtinpmbllckdmgaaK12Nw
import Derived.Deep.RegionHeld3
namespace Go.Proofs.Ytinpmbllckdmgaa
open Go.ChangeShapes Go.WideShapes Go.ChangeAt Go.RowKit
set_option linter.unusedVariables false
set_option linter.unusedSimpArgs false
set_option maxRecDepth 100000

set_option maxHeartbeats 6400000 in
theorem ann_walk (xk : Int) (z1 id1 : Int) (up1 : Bool) (ro1 ep1 su1 ma1 ot1 co1 : Int) (L : List Ek) (M : List Ml) (w : World)
    (hI : ∀ W, Calls Try.prog 24 #[.int .i64 xk] W (NrAns W z1 id1 up1 ro1 ep1 su1 ma1 ot1 co1 L M))
    (hS : ∀ W, Calls Try.prog 23 #[.int .i64 xk] W (NrAns W z1 id1 up1 ro1 ep1 su1 ma1 ot1 co1 L M))
    (hLT : ∀ U, U.map EkV.r = L → totK U ≤ 2097152) :
    Calls Try.prog 5 #[.int .i64 xk] w fun e w' => e = .returned (.bool true) ∧ New w w' := by
  go_enter Try.func5, Try.ntmps5
  go_wp2_with fail
  refine (hS _).mono ?_
  rintro e w3 ⟨A3, c3, U3, S3, s3, M3, rfl, hU3, hM3, hO3, hn3⟩
  have al3 := (New.refl w3).alloc (.cells #[.int .i64 z1, .int .i64 id1, .bool up1, .int .i64 ro1, .int .i64 ep1, .slice A3 L.length c3, .int .i64 su1, .int .i64 ma1, .int .i64 ot1, .int .i64 co1, .slice S3 M.length s3] 52)
  have b3 := Blk.mk w3 w3.heap.size 52 #[.int .i64 z1, .int .i64 id1, .bool up1, .int .i64 ro1, .int .i64 ep1, .slice A3 L.length c3, .int .i64 su1, .int .i64 ma1, .int .i64 ot1, .int .i64 co1, .slice S3 M.length s3] rfl
  have hw3 := hn3.trans al3
  obtain ⟨rd3, l3, q3, -⟩ := hO3.rd
  have s3r := rd3.new al3
  have sz3 : Hid ((w3.alloc (.cells #[.int .i64 z1, .int .i64 id1, .bool up1, .int .i64 ro1, .int .i64 ep1, .slice A3 L.length c3, .int .i64 su1, .int .i64 ma1, .int .i64 ot1, .int .i64 co1, .slice S3 M.length s3] 52)).heap.size = w3.heap.size + 1) := by unfold Hid; simp
  have z03 := hn3.size
  clear hn3 hO3 rd3
  go_wp2_with fail
  refine (hI _).mono ?_
  rintro e w5 ⟨A5, c5, U5, S5, s5, M5, rfl, hU5, hM5, hO5, hn5⟩
  rw [sz3.out] at hO5
  have al5 := (New.refl w5).alloc (.cells #[.int .i64 z1, .int .i64 id1, .bool up1, .int .i64 ro1, .int .i64 ep1, .slice A5 L.length c5, .int .i64 su1, .int .i64 ma1, .int .i64 ot1, .int .i64 co1, .slice S5 M.length s5] 52)
  have n5 := hn5.trans al5
  have b35 := b3.new n5
  have b5 := Blk.mk w5 w5.heap.size 52 #[.int .i64 z1, .int .i64 id1, .bool up1, .int .i64 ro1, .int .i64 ep1, .slice A5 L.length c5, .int .i64 su1, .int .i64 ma1, .int .i64 ot1, .int .i64 co1, .slice S5 M.length s5] rfl
  have s5r := s3r.new n5
  have g5 := hO5.new al5
  have hw5 := hw3.trans n5
  have lt5 : Hid (w3.heap.size < w5.heap.size) := (b3.new hn5).lt
  obtain ⟨-, l5, q5, -⟩ := hO5.rd
  clear b3 hn5 hO5 s3r n5
  have c3' := b35.cells
  have c5' := b5.cells
  go_wp2_with fail
  refine (eqNR_any z1 id1 up1 ro1 ep1 su1 ma1 ot1 co1 A5 A3 S5 S3 L.length c5 c3 M.length s5 s3 U5 U3 M5 M3 _ g5.rd.1.lg s5r.lg (hU5.trans hU3.symm) l5 ?lm g5.rd.1.sd s5r.sd (hM5.trans hM3.symm) q5).mono ?_
  case lm => have h1 := totK_len U5; have h2 := hLT U5 hU5; omega
  rintro e w10 ⟨rfl, hn6⟩
  have b310 := b35.new hn6
  have b510 := b5.new hn6
  have s10r := s5r.new hn6
  have g10 := g5.new hn6
  have hw10 := hw5.trans hn6
  have z6 := (al5.trans hn6).size
  clear b35 b5 c3' c5' s5r g5 al5 hn6
  have c5' := b510.cells
  go_wp2_with fail
  refine (markNR_own z1 id1 up1 ro1 ep1 su1 ma1 ot1 co1 A5 S5 L.length c5 M.length s5 _ _ U5 M5 _ g10 (hLT U5 hU5) (by omega)).mono ?_
  rintro e w11 ⟨rfl, m11, n11, ht11⟩
  have L5 := lt5.out
  have b311 := b310.turn ht11 (by omega)
  have b511 := b510.turn ht11 (by omega)
  have s11r := s10r.turn ht11 (fun k hk e => by omega)
  have hw11 : New w w11 := hw10.before ht11 (fun i hi e => by omega)
  have hem := endM_bd (endK 1 U5) M5
  have hek := endK_bd U5 1
  have hlU : ∀ u ∈ U5, u.r.xs.length ≤ 1048576 := by
    obtain ⟨lo, hi, P, h1, -⟩ := g10
    exact fun u hu => (h1.path.bd u hu).2
  clear b310 b510 s10r g10 c5' ht11 L5
  have c5' := b511.cells
  have HE : Hid (∃ E, E = endM (endK 1 U5) M5) := ⟨_, rfl⟩
  obtain ⟨E, hE⟩ := HE.out
  have HEE : Hid (endM (endK 1 U5) M5 = E) := hE.symm
  have hE0 : ¬ E < 0 := by omega
  have hEE : (E != E) = false := by simp
  rw [HEE.out]
  clear hE hem hek
  go_wp2_with fail
  refine (heldNR_any z1 id1 up1 ro1 ep1 su1 ma1 ot1 co1 A5 S5 L.length c5 M.length s5 U5 M5 _ m11 l5 (hLT U5 hU5) hlU n11 q5).mono ?_
  rintro e w12 ⟨rfl, hn12⟩
  rw [HEE.out]
  have b312 := b311.new hn12
  have b512 := b511.new hn12
  have s12r := s11r.new hn12
  have m12 := m11.new hn12
  have n12 := n11.new hn12
  have hw12 := hw11.trans hn12
  clear b311 b511 s11r m11 n11 c5' hn12
  go_wp2_with fail
  refine (hI _).mono ?_
  rintro e w14 ⟨A9, c9, U9, S9, s9, M9, rfl, hU9, hM9, hO9, hn14⟩
  have al14 := (New.refl w14).alloc (.cells #[.int .i64 z1, .int .i64 id1, .bool up1, .int .i64 ro1, .int .i64 ep1, .slice A9 L.length c9, .int .i64 su1, .int .i64 ma1, .int .i64 ot1, .int .i64 co1, .slice S9 M.length s9] 52)
  have n14 := hn14.trans al14
  have b314 := b312.new n14
  have b514 := b512.new n14
  have b9 := Blk.mk w14 w14.heap.size 52 #[.int .i64 z1, .int .i64 id1, .bool up1, .int .i64 ro1, .int .i64 ep1, .slice A9 L.length c9, .int .i64 su1, .int .i64 ma1, .int .i64 ot1, .int .i64 co1, .slice S9 M.length s9] rfl
  have s14r := s12r.new n14
  have m14 := m12.new n14
  have q14 := n12.new n14
  have h14 := hO9.new al14
  have hw14 := hw12.trans n14
  obtain ⟨-, l9, q9, -⟩ := hO9.rd
  clear b312 b512 s12r m12 n12 hn14 hO9 n14 al14
  have c3' := b314.cells
  have c9' := b9.cells
  go_wp2_with fail
  refine (eqNR_any z1 id1 up1 ro1 ep1 su1 ma1 ot1 co1 A9 A3 S9 S3 L.length c9 c3 M.length s9 s3 U9 U3 M9 M3 _ h14.rd.1.lg s14r.lg (hU9.trans hU3.symm) l9 ?lm3 h14.rd.1.sd s14r.sd (hM9.trans hM3.symm) q9).mono ?_
  case lm3 => have h1 := totK_len U9; have h2 := hLT U9 hU9; omega
  rintro e w15 ⟨rfl, hn15⟩
  have c5' := (b514.new hn15).cells
  have m15 := m14.new hn15
  have q15 := q14.new hn15
  have hw15 := hw14.trans hn15
  clear b314 b514 b9 c3' c9' s14r h14 m14 q14
  go_wp2_with fail
  refine (heldNR_any z1 id1 up1 ro1 ep1 su1 ma1 ot1 co1 A5 S5 L.length c5 M.length s5 U5 M5 _ m15 l5 (hLT U5 hU5) hlU q15 q5).mono ?_
  rintro e w16 ⟨rfl, hn16⟩
  rw [HEE.out]
  clear m15 q15 c5'
  go_wp2
  go_ret
  exact ⟨rfl, hw15.trans hn16⟩

theorem ann_all (xk : Int) (w : World) : Calls Try.prog 5 #[.int .i64 xk] w fun e w' => e = .returned (.bool true) ∧ New w w' := by
  have hL0 : ∀ U : List EkV, U.map EkV.r = [] → totK U ≤ 2097152 := by intro U hU; obtain rfl : U = [] := (by simpa using hU); simp [totK]
  by_cases hid : xk = 0 ∨ xk = 1
  · exact ann_walk xk 0 xk true 0 0 0 0 0 0 [] [] w (fun W => iNew_ok xk W hid) (fun W => sNew_ok xk W hid) hL0
  · exact ann_walk xk 3 0 false 0 0 0 0 0 0 [] [] w (fun W => iNew_bad xk W hid) (fun W => sNew_bad xk W hid) hL0

set_option maxRecDepth 100000 in
theorem ann_lifted (os : Os) (started : os.Started) (H : Type) (enc : TypeId × Value → H) :
    ReturnsInHanded {} Try.checked os 5 .any (Rows.fnExactNewNodeSpec.pre6 enc Try.prog Try.f5 Rows.fnExactNewNodeRow.domain false) (Rows.fnExactNewNodeSpec.post enc Try.prog Try.f5 false true false false) := by
  refine returnsInHanded_of_change (C := Try.checked) own started (by kernel_rfl) Try.func5
    (ChangeSpec.witness6 (enc := enc) (C := Try.checked) false ⟨#[], #[.int .i64 0], []⟩ 8 (by kernel_rfl) (by kernel_rfl) (by kernel_rfl) (by kernel_rfl)) ?_
  intro W base args ds gs before hval0 hW hcnd _
  have hval : ∀ (j : Nat) t v, Try.f5.params[j]? = some t → args[j]? = some v → Value.okWide Try.prog W .any base t v := hval0
  have hW' := hW
  obtain ⟨p, q, hA0, hV, rfl, hfz, hnd⟩ := hW
  have hA : DataW.TrodAll enc Try.prog W 0 (fun _ => true) true Try.f5.params.toList args.toList ds p := hA0
  rw [Try.params5] at hA hval
  obtain ⟨v0, vs0, d0, ds0, p0, q0, hargs0, rfl, rfl, h0, r0⟩ := trodAll_cons hA
  obtain ⟨rfl, rfl, rfl⟩ := trodAll_nil r0
  obtain rfl : args = #[v0] := by cases args; simp_all
  obtain ⟨rfl, rfl⟩ := trodVars_none hV
  obtain ⟨x0, rfl, rfl, rfl, w0⟩ := open_int Try.underlying2 (hval 0 2 v0 rfl rfl) h0
  clear hA0 hval0
  refine (ann_all x0 W).mono fun e W' ⟨he, new⟩ => ?_
  have bel := new.below
  subst he
  exact ⟨_, rfl, _, _, _, [], _, [], hW', trodAll_mk1 (shut_bool Try.underlying4 _), (trodAll_cons_mk (shut_int Try.underlying2 w0) trodAll_mk0), rfl, bel.frame _, fun h => by cases h⟩

theorem ann_holds : Rows.FnExactNewNodeSaid :=
  OpenClaim.holds_of_wide 5 Try.f5 rfl rfl rfl rfl rfl rfl rfl ⟨rfl, rfl, rfl, rfl, rfl⟩ rfl rfl rfl rfl rfl (by kernel_rfl) Try.func5 (by kernel_rfl)
    (of_decide_eq_true (by kernel_rfl)) (by unfold Func.isWrapper; first | (rw [if_pos (by decide +kernel)]; kernel_rfl) | (rw [if_neg (by decide +kernel)]; exact ⟨rfl, rfl⟩))
    (fun os started H enc _ => ann_lifted os started H enc)

end Go.Proofs.Ytinpmbllckdmgaa
