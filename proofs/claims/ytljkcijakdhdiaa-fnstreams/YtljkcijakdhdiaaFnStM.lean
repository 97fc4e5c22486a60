/- What is proved here: for every bytes the law on streams returns true, and the bytes read as they did. No condition. -/
import Derived.Test.YtljkcijakdhdiaaRA5
import Derived.Test.YtljkcijakdhdiaaFS1
import Derived.Test.YtljkcijakdhdiaaFS2
import Derived.Test.YtljkcijakdhdiaaOpen
import Derived.Deep.RegionHeld3
namespace Go.Proofs.Ytljkcijakdhdiaa
open Go.ChangeShapes Go.WideShapes Go.ChangeAt Go.RowKit Go.Sort
set_option linter.unusedVariables false
set_option linter.unusedSimpArgs false
set_option maxRecDepth 100000

theorem Try.htU8s : Try.prog.underlying 22 = some (.slice (Try.prog.elem 22)) := by kernel_rfl
theorem Try.szU8s (w : World) : (sizeOf (Try.prog.elem 22)).run Try.prog w = .ok 1 w := by kernel_rfl
theorem hidI {p : Prop} (h : p) : Hid p := h
/-- What is behind the first ones of bytes. -/
theorem tailB (g n c t : Nat) (ht : t ≤ n) (hc : n ≤ c) : ∃ off, (∀ X, (Instr.slice 22 (.slice (some ⟨g, 0, none⟩) n c) (some (.int .i64 (t : Int))) none none).run Try.prog X = .ok (.slice (some ⟨g, off, none⟩) (n - t) (c - t)) X) ∧ ∀ (W : World) (zs : List Int), zs.length = n → BsAt W (some ⟨g, 0, none⟩) zs → BsAt W (some ⟨g, off, none⟩) (zs.drop t) := by
  by_cases hct : c = t
  · refine ⟨0, fun X => ?_, fun W zs hl h => ?_⟩
    · rw [run_slice_l X 22 (some ⟨g, 0, none⟩) n c Try.htU8s .i64 t (by omega) (by omega), Try.szU8s]
      simp [Result.andThen, sliced, hct]
    · rw [List.drop_eq_nil_of_le (by omega)]
      exact BsAt.nil _ _
  · refine ⟨t, fun X => ?_, fun W zs hl h => ?_⟩
    · rw [run_slice_l X 22 (some ⟨g, 0, none⟩) n c Try.htU8s .i64 t (by omega) (by omega), Try.szU8s]
      have h1 : ¬ (c - t = 0) := by omega
      rcases Nat.eq_zero_or_pos t with rfl | h0
      · simp [Result.andThen, sliced, h1, Addr.add, hct]
      · have h2 : ¬ t = 0 := by omega
        simp [Result.andThen, sliced, h1, Addr.add, hct, h2]
    · intro i z hz
      rw [List.getElem?_drop] at hz
      obtain ⟨b', o', e, hcell, hb⟩ := h (t + i) z hz
      simp only [Option.some.injEq, Addr.mk.injEq, and_true] at e
      obtain ⟨rfl, rfl⟩ := e
      exact ⟨g, t, rfl, by rw [Nat.zero_add] at hcell; exact hcell, hb⟩
theorem takeB {W : World} {x : Option Addr} {zs : List Int} (h : BsAt W x zs) (k : Nat) : BsAt W x (zs.take k) := by
  intro i z hz
  refine h i z ?_
  rw [List.getElem?_take] at hz
  split at hz
  · exact hz
  · cases hz

set_option maxHeartbeats 12800000 in
theorem fnst_walk (a : Option Addr) (n c : Nat) (zs : List Int) (w : World) (h : BsAt w a zs) (hn : zs.length = n) (hm : n ≤ maxLen) (ha : ∀ x, zs ≠ [] → a = some x → x.block < w.heap.size) :
    Calls Try.prog 3 #[.slice a n c] w fun e w' => e = .returned (.bool true) ∧ New w w' := by
  by_cases hbig : 1048576 < n
  case pos =>
    go_enter Try.func3, Try.ntmps3
    go_wp2_with fail
    refine (lbig_yes a n c _ hbig).mono ?_
    rintro e w1 ⟨rfl, rfl⟩
    go_wp2
    go_ret
    exact ⟨rfl, New.refl _⟩
  have hmb : n ≤ 2097152 := by omega
  have HN : Hid (zs.length = n) := hn
  have hfd0 : ∀ (c0 c1 c2 c3 c4 : Value) (X : World), (Instr.field 27 (.agg #[c0, c1, c2, c3, c4]) 0).run Try.prog X = .ok c0 X := fun _ _ _ _ _ _ => by kernel_rfl
  have hfd4 : ∀ (c0 c1 c2 c3 c4 : Value) (X : World), (Instr.field 27 (.agg #[c0, c1, c2, c3, c4]) 4).run Try.prog X = .ok c4 X := fun _ _ _ _ _ _ => by kernel_rfl
  clear hm hn
  go_enter Try.func3, Try.ntmps3
  go_wp2_with fail
  refine (lbig_no a n c _ hbig).mono ?_
  rintro e wz ⟨rfl, hwz⟩
  obtain rfl := hwz.symm
  go_wp2_with fail
  refine (drawRM a n c zs _ h HN.out hmb ha).mono ?_
  rintro e w1 ⟨g, m, cap, ys, rfl, hm4, hmc, hl, hb, hn1⟩
  have HL : Hid (ys.length = m) := hl
  have HB : Hid (∀ W, New w1 W → BsAt W (some ⟨g, 0, none⟩) ys) := fun W hW => hb.new hW
  have HI : Hid (∀ W, New w1 W → Calls Try.prog 7 #[.slice (some ⟨g, 0, none⟩) m cap] W (RmAns W (rmF ys).z (rmF ys).us (rmF ys).wy (rmF ys).sb (rmF ys).D)) := fun W hW => implRM g 0 m cap ys W (hb.new hW) hl hmc hm4
  have HS : Hid (∀ W, New w1 W → Calls Try.prog 9 #[.slice (some ⟨g, 0, none⟩) m cap] W (RmAns W (rmF ys).z (rmF ys).us (rmF ys).wy (rmF ys).sb (rmF ys).D)) := fun W hW => specRM g 0 m cap ys W (hb.new hW) hl hmc hm4
  have HBIG : Hid (400 < m → (rmF ys).z = 2) := fun h4 => by unfold rmF; rw [if_pos (by omega)]
  have HCUT : Hid (¬ 400 < m → ∀ q, q ≤ m → ((rmF (ys.take q)).z ≠ 0 → (rmF ys).z = (rmF (ys.take q)).z ∧ (rmF ys).us = (rmF (ys.take q)).us ∧ (rmF ys).wy = (rmF (ys.take q)).wy ∧ (rmF ys).sb = (rmF (ys.take q)).sb) ∧
    ((rmF (ys.take q)).z = 0 → (rmF ys).z = (rmF (ys.drop (rmF (ys.take q)).us.toNat)).z ∧ (rmF ys).us = (rmF (ys.take q)).us + (rmF (ys.drop (rmF (ys.take q)).us.toNat)).us ∧ (rmF ys).wy = (rmF (ys.drop (rmF (ys.take q)).us.toNat)).wy ∧ (rmF ys).sb = (rmF (ys.drop (rmF (ys.take q)).us.toNat)).sb ∧ (rmF ys).D.length = (rmF (ys.take q)).D.length + (rmF (ys.drop (rmF (ys.take q)).us.toNat)).D.length) ∧
    0 ≤ (rmF (ys.take q)).us ∧ (rmF (ys.take q)).us ≤ q) := fun h4 q hq => rmF_cut (by omega) q (by omega)
  have HLEN : Hid (∀ ts : List Int, (∀ z ∈ ts, 0 ≤ z ∧ z ≤ 255) → (rmF ts).D.length ≤ 100) := fun ts hz => rmF_len hz
  have HY : Hid (∀ z ∈ ys, 0 ≤ z ∧ z ≤ 255) := hb.lt
  have N1 : Hid (New w w1) := hn1
  have HA0 : Hid (∀ W, New w W → BsAt W a zs) := fun W hW => h.new hW
  clear hb hl hn1 h ha
  go_wp2_with fail
  refine (HI.out _ (New.refl _)).mono ?_
  rintro e w2 ⟨y2, d2, U2, rfl, hU2, -, -, hn2⟩
  have HLR : Hid (U2.length = (rmF ys).D.length) := by unfold Hid; rw [← hU2, List.length_map]
  clear hU2
  have al := (New.refl w2).alloc (.cells #[.int .i64 (rmF ys).z, .int .i64 (rmF ys).us, .int .i64 (rmF ys).wy, .int .i64 (rmF ys).sb, .slice y2 U2.length d2] 27)
  by_cases h4 : 400 < m
  · have hz2 := HBIG.out h4
    rw [hz2]
    have h4i : (400 : Int) < (m : Int) := by omega
    clear HCUT HI HS HBIG
    go_wp2
    go_ret
    exact ⟨rfl, (N1.out.trans hn2).trans (New.alloc (New.refl _) _)⟩
  have h4i : ¬ (400 : Int) < (m : Int) := by omega
  have HC := HCUT.out h4
  have HCC : Hid _ := HC
  clear HC HCUT HBIG
  obtain ⟨Lr, hLr⟩ : ∃ Lr, U2.length = Lr := ⟨_, rfl⟩
  rw [hLr] at HLR al ⊢
  clear hLr
  obtain ⟨RR, hRR⟩ : ∃ RR, rmF ys = RR := ⟨_, rfl⟩
  rw [hRR] at HLR HI HS HCC al ⊢
  have HRR : Hid (rmF ys = RR) := hRR
  clear hRR
  obtain ⟨rz, rus, rwy, rsb, rD⟩ := RR
  simp only at al HLR HI HS HCC ⊢
  have b2 := Blk.mk w2 w2.heap.size 27 #[.int .i64 rz, .int .i64 rus, .int .i64 rwy, .int .i64 rsb, .slice y2 Lr d2] rfl
  have n2 : New w1 (w2.alloc (.cells #[.int .i64 rz, .int .i64 rus, .int .i64 rwy, .int .i64 rsb, .slice y2 Lr d2] 27)) := hn2.trans al
  go_wp2_with fail
  refine (lwAt_any a n c 1 ((m : Int) + 1) zs _ (HA0.out _ (N1.out.trans n2)) HN.out hmb (by omega) (by omega) (by omega)).mono ?_
  rintro e w4 ⟨q0, rfl, r0, r1, hn4⟩
  obtain ⟨q, rfl⟩ : ∃ q : Nat, q0 = q := ⟨q0.toNat, by omega⟩
  have hq : q ≤ m := by omega
  have hqi : (q : Int) ≤ (cap : Int) := by omega
  have b24 := b2.new hn4
  have n4 := n2.trans hn4
  clear b2 al hn4 n2 r1 hn2
  obtain ⟨HC1, HC2, HC3, HC4⟩ := HCC.out q hq
  have HTK : Hid ((ys.take q).length = q) := by unfold Hid; rw [List.length_take, HL.out]; omega
  have HLA : Hid ((rmF (ys.take q)).D.length ≤ 100) := HLEN.out _ (fun z hz => HY.out z (List.mem_of_mem_take hz))
  have hA := implRM g 0 q cap (ys.take q) w4 (takeB (HB.out _ n4) q) HTK.out (by omega) (by omega)
  have HD1 : Hid (∀ t, t ≤ m → (rmF (ys.drop t)).D.length ≤ 100) := fun t ht => HLEN.out _ (fun z hz => HY.out z (List.mem_of_mem_drop hz))
  generalize rmF (ys.take q) = AA at *
  have HAC := hidI hA
  obtain ⟨az, aus, awy, asb, aD⟩ := AA
  simp only at HC1 HC2 HC3 HC4 HLA HAC
  have HD2 : Hid (az ≠ 0 → rz = az ∧ rus = aus ∧ rwy = awy ∧ rsb = asb) := HC1
  have HD3 : Hid (az = 0 → rz = (rmF (ys.drop aus.toNat)).z ∧ rus = aus + (rmF (ys.drop aus.toNat)).us ∧ rwy = (rmF (ys.drop aus.toNat)).wy ∧ rsb = (rmF (ys.drop aus.toNat)).sb ∧ rD.length = aD.length + (rmF (ys.drop aus.toNat)).D.length) := HC2
  clear HCC HC1 HC2 hA HLEN HA0
  go_wp2_with fail
  refine HAC.out.mono ?_
  rintro e w5 ⟨y5, d5, U5, rfl, hU5, -, -, hn5⟩
  simp only
  have HLA2 : Hid (U5.length = aD.length) := by unfold Hid; rw [← hU5, List.length_map]
  clear hU5 HAC
  obtain ⟨La, hLa⟩ : ∃ La, U5.length = La := ⟨_, rfl⟩
  rw [hLa] at HLA2 ⊢
  clear hLa
  have al5 := (New.refl w5).alloc (.cells #[.int .i64 az, .int .i64 aus, .int .i64 awy, .int .i64 asb, .slice y5 La d5] 27)
  have b5 := Blk.mk w5 w5.heap.size 27 #[.int .i64 az, .int .i64 aus, .int .i64 awy, .int .i64 asb, .slice y5 La d5] rfl
  have b25 := (b24.new hn5).new al5
  have n5 := (n4.trans hn5).trans al5
  clear b24 n4 hn5 al5
  by_cases hz : az = 0
  case neg =>
    have hzb : (az != 0) = true := by simpa using hz
    obtain ⟨rfl, rfl, rfl, rfl⟩ := HD2.out hz
    clear hz HD2 HD3
    have cR0 := b25.cells
    have cA0 := b5.cells
    go_upto_region 10 with fail
    generalize w5.alloc (.cells #[.int .i64 rz, .int .i64 rus, .int .i64 rwy, .int .i64 rsb, .slice y5 La d5] 27) = w6 at *
    clear cR0 cA0
    have e1 : (rz == rz) = true := by simp
    have e2 : (rus == rus) = true := by simp
    have e3 : (rwy == rwy) = true := by simp
    have e4 : (rsb == rsb) = true := by simp
    have cR := b25.cells
    have cA := b5.cells
    have cRd := (b25.new ((New.refl _).drew)).cells
    have cAd := (b5.new ((New.refl _).drew)).cells
    go_region_held3 (fun W => (∀ j, W.cell? ⟨w2.heap.size, j, none⟩ = (#[.int .i64 rz, .int .i64 rus, .int .i64 rwy, .int .i64 rsb, .slice y2 Lr d2] : Array Value)[j]?) ∧ (∀ j, W.cell? ⟨w5.heap.size, j, none⟩ = (#[.int .i64 rz, .int .i64 rus, .int .i64 rwy, .int .i64 rsb, .slice y5 La d5] : Array Value)[j]?)) (first | exact ⟨cR, cA⟩ | exact ⟨cRd, cAd⟩ | exact ⟨cR7, cA7⟩)
      ((go_at_call 9; refine (HS.out _ (n5.trans ((New.refl _).drew))).mono ?_; rintro e w7 ⟨y7, d7, U7, rfl, -, -, -, hn7⟩; have N7 := ((New.refl _).drew).trans hn7; have cR7 := (b25.new N7).cells; have cA7 := (b5.new N7).cells))
    go_wp2
    go_ret
    exact ⟨rfl, (N1.out.trans n5).trans N7⟩
  case pos =>
    subst hz
    have hzb : ((0 : Int) != 0) = false := rfl
    obtain ⟨k, rfl⟩ : ∃ k : Nat, aus = k := ⟨aus.toNat, by omega⟩
    have hk : k ≤ m := by omega
    have hkm : (k : Int) ≤ (m : Int) := by omega
    have HD4 := HD3.out rfl
    rw [show ((k : Int)).toNat = k by omega] at HD4
    obtain ⟨off, hcut, hbo⟩ := tailB g m cap k hk hmc
    have HBO : Hid _ := hbo
    have HLB : Hid ((ys.drop k).length = m - k) := by unfold Hid; rw [List.length_drop, HL.out]
    have HLB2 := HD1.out k hk
    have hbu : 0 ≤ (rmF (ys.drop k)).us ∧ (rmF (ys.drop k)).us ≤ 1048576 := by
      have h1 : ¬ 400 < (ys.drop k).length := by rw [HLB.out]; omega
      rw [rmF_gS h1]
      have := gS_us ((ys.drop k).length + 1) (ys.drop k)
      omega
    have hBB := implRM g off (m - k) (cap - k) (ys.drop k) (w5.alloc (.cells #[.int .i64 0, .int .i64 (k : Int), .int .i64 awy, .int .i64 asb, .slice y5 La d5] 27)) (HBO.out _ ys HL.out (HB.out _ n5)) HLB.out (by omega) (by omega)
    generalize rmF (ys.drop k) = BB at *
    obtain ⟨bz, bus, bwy, bsb, bD⟩ := BB
    simp only at HD4 HLB2 hBB hbu
    have HBU : Hid (0 ≤ bus ∧ bus ≤ 1048576) := hbu
    clear hbu
    obtain ⟨rfl, rfl, rfl, rfl, hLL⟩ := HD4
    have HBC := hidI hBB
    have HLB3 : Hid (bD.length ≤ 100) := HLB2
    have HLL : Hid (rD.length = aD.length + bD.length) := hLL
    have cR0 := b25.cells
    have cA0 := b5.cells
    clear HD2 HD3 hBB HBO hbo HLB2 hLL HD1
    go_wp2_with fail
    refine HBC.out.mono ?_
    rintro e w7 ⟨y7, d7, U7, rfl, hU7, -, -, hn7⟩
    simp only
    have HLB4 : Hid (U7.length = bD.length) := by unfold Hid; rw [← hU7, List.length_map]
    clear hU7 HBC cR0 cA0
    obtain ⟨Lb, hLb⟩ : ∃ Lb, U7.length = Lb := ⟨_, rfl⟩
    rw [hLb] at HLB4 ⊢
    clear hLb
    have al7 := (New.refl w7).alloc (.cells #[.int .i64 rz, .int .i64 bus, .int .i64 rwy, .int .i64 rsb, .slice y7 Lb d7] 27)
    have b7 := Blk.mk w7 w7.heap.size 27 #[.int .i64 rz, .int .i64 bus, .int .i64 rwy, .int .i64 rsb, .slice y7 Lb d7] rfl
    have b27 := (b25.new hn7).new al7
    have b57 := (b5.new hn7).new al7
    have n7 := (n5.trans hn7).trans al7
    clear b25 b5 n5 hn7 al7
    go_upto_region 12 with fail
    generalize w7.alloc (.cells #[.int .i64 rz, .int .i64 bus, .int .i64 rwy, .int .i64 rsb, .slice y7 Lb d7] 27) = w8 at *
    have hL1 : Lr = La + Lb := by have := HLR.out; have := HLA2.out; have := HLB4.out; have := HLL.out; omega
    have hL2 : La ≤ 100 ∧ Lb ≤ 100 := by have := HLA2.out; have := HLB4.out; have := HLA.out; have := HLB3.out; omega
    have hb0 := HBU.out
    have e1 : (rz == rz) = true := by simp
    have e3 : (rwy == rwy) = true := by simp
    have e4 : (rsb == rsb) = true := by simp
    have hw1 : IntKind.i64.wrap ((k : Int) + bus) = (k : Int) + bus := by rw [IntKind.wrap_i64]; omega
    have e2 : ((k : Int) + bus == (k : Int) + bus) = true := by simp
    have hw2 : IntKind.i64.wrap ((La : Int) + (Lb : Int)) = (La : Int) + (Lb : Int) := by rw [IntKind.wrap_i64]; omega
    have e5 : ((Lr : Int) == (La : Int) + (Lb : Int)) = true := by simp; omega
    have e6 : (Lr == La + Lb) = true := by simp; omega
    have e7 : ((Lr : Int) == (Lr : Int)) = true := by simp
    have HL1 : Hid (Lr = La + Lb) := hL1
    clear hL1
    have cR := b27.cells
    have cA := b57.cells
    have cB := b7.cells
    have cRd := (b27.new ((New.refl _).drew)).cells
    have cAd := (b57.new ((New.refl _).drew)).cells
    have cBd := (b7.new ((New.refl _).drew)).cells
    go_region_held3 (fun W => (∀ j, W.cell? ⟨w2.heap.size, j, none⟩ = (#[.int .i64 rz, .int .i64 ((k : Int) + bus), .int .i64 rwy, .int .i64 rsb, .slice y2 Lr d2] : Array Value)[j]?) ∧ (∀ j, W.cell? ⟨w5.heap.size, j, none⟩ = (#[.int .i64 0, .int .i64 (k : Int), .int .i64 awy, .int .i64 asb, .slice y5 La d5] : Array Value)[j]?) ∧ (∀ j, W.cell? ⟨w7.heap.size, j, none⟩ = (#[.int .i64 rz, .int .i64 bus, .int .i64 rwy, .int .i64 rsb, .slice y7 Lb d7] : Array Value)[j]?)) (first | exact ⟨cR, cA, cB⟩ | exact ⟨cRd, cAd, cBd⟩ | exact ⟨cR9, cA9, cB9⟩)
      ((go_at_call 9; refine (HS.out _ (n7.trans ((New.refl _).drew))).mono ?_; rintro e w9 ⟨y9, d9, U9, rfl, hU9, -, -, hn9⟩; have N9 := ((New.refl _).drew).trans hn9; have cR9 := (b27.new N9).cells; have cA9 := (b57.new N9).cells; have cB9 := (b7.new N9).cells; have hL9 : U9.length = Lr := (by have h1 := congrArg List.length hU9; rw [List.length_map] at h1; exact h1.trans HLR.out.symm); rw [hL9]))
    go_wp2
    go_ret
    exact ⟨rfl, (N1.out.trans n7).trans N9⟩

set_option maxRecDepth 100000 in
theorem fnst_lifted (os : Os) (started : os.Started) (H : Type) (enc : TypeId × Value → H) :
    ReturnsInHanded {} Try.checked os 3 .any (Rows.fnStreamsSpec.pre6 enc Try.prog Try.f3 Rows.fnStreamsRow.domain false) (Rows.fnStreamsSpec.post enc Try.prog Try.f3 false true false false) := by
  refine returnsInHanded_of_change (C := Try.checked) own started (by kernel_rfl) Try.func3
    (ChangeSpec.witness6 (enc := enc) (C := Try.checked) false ⟨#[], #[.slice none 0 0], []⟩ 8 (by kernel_rfl) (by kernel_rfl) (by kernel_rfl) (by kernel_rfl)) ?_
  intro W base args ds gs before hval0 hW hcnd _
  have hval : ∀ (j : Nat) t v, Try.f3.params[j]? = some t → args[j]? = some v → Value.okWide Try.prog W .any base t v := hval0
  have hW' := hW
  obtain ⟨p, q, hA0, hV, rfl, hfz, hnd⟩ := hW
  have hA : DataW.TrodAll enc Try.prog W 0 (fun _ => true) true Try.f3.params.toList args.toList ds p := hA0
  rw [Try.params3] at hA hval
  obtain ⟨v0, vs0, d0, ds0, p0, q0, hargs, rfl, rfl, h0, r0⟩ := trodAll_cons hA
  obtain ⟨rfl, rfl, rfl⟩ := trodAll_nil r0
  obtain rfl : args = #[v0] := by cases args; simp_all
  obtain ⟨rfl, rfl⟩ := trodVars_none hV
  have k0 := h0
  have lt0 : ∀ x ∈ p0, x.block < W.heap.size := by obtain ⟨m, hm⟩ := k0; exact DataW.trod_lt m _ _ _ hm
  obtain ⟨a0, len0, cap0, rfl⟩ := okWide_slice Try.underlying22 (hval 0 22 v0 rfl rfl)
  obtain ⟨z0, b0, e0, m0⟩ := open_bytes h0
  clear hA0 hval0
  refine (fnst_walk a0 len0 cap0 z0 W b0 e0 m0.2 (fun x h1 h2 => by obtain ⟨bb, oo, hh, hl⟩ := b0.block_lt h1; rw [h2] at hh; obtain rfl := Option.some.inj hh; exact hl)).mono fun e W' ⟨he, new⟩ => ?_
  have bel := new.below
  subst he
  exact ⟨_, rfl, _, _, _, [], _, [], hW', trodAll_mk1 (shut_bool Try.underlying4 _), (trodAll_cons_mk (Below.trod laidOut (by kernel_rfl) (of_decide_eq_true (by kernel_rfl)) k0 bel lt0) trodAll_mk0), rfl, bel.frame _, fun h => by cases h⟩

theorem fnst_holds : Rows.FnStreamsSaid :=
  OpenClaim.holds_of_wide 3 Try.f3 rfl rfl rfl rfl rfl rfl rfl ⟨rfl, rfl, rfl, rfl, rfl⟩ rfl rfl rfl rfl rfl (by kernel_rfl) Try.func3 (by kernel_rfl)
    (of_decide_eq_true (by kernel_rfl)) (by unfold Func.isWrapper; first | (rw [if_pos (by decide +kernel)]; kernel_rfl) | (rw [if_neg (by decide +kernel)]; exact ⟨rfl, rfl⟩))
    (fun os started H enc _ => fnst_lifted os started H enc)

end Go.Proofs.Ytljkcijakdhdiaa
