/- What is proved here: for every list of bytes the law on splits returns true, and the list reads as it did. No condition. -/
import Derived.Test.YtopkihgdemcneaaOpen
import Derived.Test.YtopkihgdemcneaaFnFrLib
import Derived.Test.YtopkihgdemcneaaDrawSp
import Derived.Deep.RegionHeld3
namespace Go.Proofs.Ytopkihgdemcneaa
open Go.ChangeShapes Go.WideShapes Go.ChangeAt Go.RowKit
set_option linter.unusedVariables false

theorem splitF_bd' (f : Nat) : ∀ l : List Int, (splitF f l).2.1 ≤ l.length ∧ 5 * (splitF f l).2.2.length ≤ (splitF f l).2.1 := by
  induction f with
  | zero => intro l; simp [splitF]
  | succ f ih =>
    intro l
    unfold splitF
    by_cases h1 : headM l ≠ 0
    · rw [if_pos h1]; simp
    · by_cases h2 : l.length < 5 ∨ l.length < szM l
      · rw [if_neg h1, if_pos h2]; simp
      · rw [if_neg h1, if_neg h2]
        have hk := head_ok (l := l) (by omega) (by omega)
        obtain ⟨i1, i2⟩ := ih (l.drop (szM l))
        rw [List.length_drop] at i1
        exact ⟨by simp only; omega, by simp only [List.length_cons]; omega⟩
theorem ff_good {k : Int} {zs : List Int} (h : Good (k, zs)) : ff k zs.length = 0 := by
  obtain ⟨h1, h2, h3, _⟩ := h
  simp only at h1 h2 h3
  unfold ff
  rw [if_neg (by omega), if_neg (by omega)]

theorem flat_take_succ {fs : List (Int × List Int)} {k : Nat} {x : Int × List Int} (h : fs[k]? = some x) : flatP (fs.take (k + 1)) = flatP (fs.take k) ++ packOf x.1 x.2 := by
  obtain ⟨hk, rfl⟩ := List.getElem?_eq_some_iff.1 h
  rw [List.take_succ_eq_append_getElem hk, flatP_snoc]
theorem flat_take_le (fs : List (Int × List Int)) (k : Nat) : (flatP (fs.take k)).length ≤ (flatP fs).length := by
  have h : flatP fs = flatP (fs.take k) ++ flatP (fs.drop k) := by
    unfold flatP
    rw [← List.flatMap_append, List.take_append_drop]
  rw [h, List.length_append]
  omega

set_option maxHeartbeats 6400000 in
set_option maxRecDepth 100000 in
theorem splits_walk (a : Option Addr) (n c : Nat) (zs : List Int) (w : World) (h : BsAt w a zs) (hn : zs.length = n) (hm : n ≤ maxLen) :
    Calls Try.prog 4 #[.slice a n c] w fun e w' => e = .returned (.bool true) ∧ New w w' := by
  by_cases hbig : 1048576 < n
  · go_enter Try.func4, Try.ntmps4
    go_wp2_with fail
    refine (big_yes a n c _ hbig).mono ?_
    rintro e w1 ⟨rfl, rfl⟩
    go_wp2
    go_ret
    exact ⟨rfl, New.refl _⟩
  · have hm' : n ≤ 1048576 := by omega
    clear hm
    have HN : Hid (zs.length = n) := hn
    clear hn
    obtain ⟨i0, hi, hz0, hz1, hz2⟩ := info_parts Try.infoU8
    go_enter Try.func4, Try.ntmps4
    go_wp2_with fail
    refine (big_no a n c _ hbig).mono ?_
    rintro e w ⟨rfl, rfl⟩
    go_wp2_with fail
    refine (drawSplit_any a n c zs _ h HN.out (by omega) (by intro x hz hx; obtain ⟨b, off, e, hb⟩ := h.block_lt hz; rw [hx] at e; obtain rfl := Option.some.inj e; exact hb)).mono ?_
    rintro e w1 ⟨g, m, cap, ys, rfl, hm1, hmc, hl, hb, hn1⟩
    have HL : Hid (ys.length = m) := hl
    have hys := hb.lt
    have HYS : Hid (∀ z ∈ ys, 0 ≤ z ∧ z ≤ 255) := hys
    have hI := fun W hW => implSplit_any g 0 m cap ys W hW HL.out hmc (by omega)
    have hS := fun W hW => specSplit_any g 0 m cap ys W hW HL.out hmc (by omega)
    clear hl hys
    by_cases h400 : 400 < m
    · have hR : splitR ys = (2, 0, []) := by unfold splitR; rw [if_pos (by have := HL.out; omega)]
      rw [hR] at hI
      have HI : Hid _ := hI
      clear hI hS hR
      go_wp2_with fail
      refine (HI.out _ hb).mono ?_
      rintro e w2 ⟨au, nu, cu, Fu, rfl, hFu, hn2, hfu⟩
      simp only at hfu
      obtain rfl : nu = 0 := by have h1 := hFu.len; have h2 := congrArg List.length hfu; simp only [List.length_nil, List.length_map] at h2; omega
      have b4 := Blk.mk w2 w2.heap.size 34 #[.int .i64 2, .int .i64 0, .slice au 0 cu] rfl
      have c4 := b4.cells
      go_wp2
      go_ret
      exact ⟨rfl, (hn1.trans hn2).alloc _⟩
    · have hR : splitR ys = splitF (m + 1) ys := by unfold splitR; rw [if_neg (by have := HL.out; omega), HL.out]
      have hbk := split_back (m + 1) ys HYS.out
      have hbd := splitF_bd' (m + 1) ys
      rw [hR] at hI hS
      generalize splitF (m + 1) ys = R at *
      obtain ⟨r1, r2, fs⟩ := R
      simp only at hbk hbd
      obtain ⟨hfl, hgd⟩ := hbk
      rw [HL.out] at hbd
      have HI : Hid _ := hI
      have HS : Hid _ := hS
      have HFl : Hid (flatP fs = ys.take r2) := hfl
      have HGd : Hid (∀ x ∈ fs, Good x) := hgd
      obtain ⟨hr2, hf5⟩ := hbd
      clear hI hS hR hfl hgd
      go_wp2_with fail
      refine (HI.out _ hb).mono ?_
      rintro e w2 ⟨au, nu, cu, Fu, rfl, hFu, hn2, hfu⟩
      simp only at hfu
      have HFu : Hid (fs = Fu.map Fr.out) := hfu
      have hA2 := (New.refl w2).alloc (.cells #[.int .i64 r1, .int .i64 r2, .slice au nu cu] 34)
      have b4 := Blk.mk w2 w2.heap.size 34 #[.int .i64 r1, .int .i64 r2, .slice au nu cu] rfl
      have hnu : nu ≤ 80 := by have h1 := hFu.len; have h2 := congrArg List.length hfu; simp only [List.length_map] at h2; omega
      have hb2 := hb.new (hn2.trans hA2)
      have hF2 := hFu.new hA2
      have hw2 := (hn1.trans hn2).trans hA2
      have c4 := b4.cells
      have z2 := hw2.size
      clear hfu hFu hb hn2 hn1
      have hfd : ∀ (x : Int) (v : Value) (W : World), (Instr.field 29 (.agg #[.int .i64 x, v]) 1).run Try.prog W = .ok v W := fun _ _ _ => by kernel_rfl
      have HGf : Hid (∀ (k : Nat) (f : Fr), Fu[k]? = some f → Good f.out) := fun k f hf => HGd.out _ (by rw [HFu.out]; exact List.mem_map_of_mem (List.mem_of_getElem? hf))
      go_wp2_with fail
      go_loopw [5, 6] (fun s5 s6 wr => ∃ (k gb nb cb : Nat), k ≤ nu ∧ s6 = .int .i64 k ∧ s5 = .slice (some ⟨gb, 0, none⟩) nb cb ∧ w2.heap.size < gb ∧ nb ≤ 1000 ∧ wr.ownsRow 0 5 1 (.slice (some ⟨gb, 0, none⟩) nb cb) nb ((flatP (fs.take k)).map (Value.int .u8)) ∧ New (w2.alloc (.cells #[.int .i64 r1, .int .i64 r2, .slice au nu cu] 34)) wr) (fun _ s6 _ => nu - (intOf s6).toNat)
      case atStart => exact ⟨0, w2.heap.size + 1, 0, 0, Nat.zero_le _, rfl, rfl, by omega, by omega, New.lit (w := w2.alloc (.cells #[.int .i64 r1, .int .i64 r2, .slice au nu cu] 34)) 0 [] (w2.heap.size + 1) (by simp) rfl (by omega) #[] rfl, (New.refl _).alloc _⟩
      case round =>
        obtain ⟨k, gb, nb, cb, hk, rfl, rfl, hgb, hnb, hob, hq⟩ := hrel
        have bq := b4.new hq
        have cq := bq.cells
        by_cases hlk : k < nu
        · obtain ⟨g1, f1, rfl, hf1, x0, x1, bs1, -, -⟩ := (hF2.new hq).at k hlk
          have n1 := (hF2.new hq).bnil k f1 hf1
          have hgd1 := HGf.out k f1 hf1
          have hfk : fs[k]? = some f1.out := by rw [HFu.out, List.getElem?_map, hf1]; rfl
          have HT : Hid (flatP (fs.take (k + 1)) = flatP (fs.take k) ++ packOf f1.k f1.zs) := flat_take_succ hfk
          have hlen1 : (flatP (fs.take (k + 1))).length ≤ 1000 := by
            have h1 := flat_take_le fs (k + 1)
            rw [HFl.out, List.length_take] at h1
            omega
          have hf0 := ff_good (k := f1.k) (zs := f1.zs) hgd1
          obtain ⟨k1, z1, a1, d1⟩ := f1
          simp only at x0 x1 bs1 n1 hf0 HT
          have hz120 : z1.length ≤ 120 := hgd1.2.2.1
          have hP := fun W hW => implPackFrame_any k1 a1 z1.length d1 z1 W hW rfl (by omega) n1
          have HP : Hid _ := hP
          have HF0 : Hid (ff k1 z1.length = 0) := hf0
          have hlb : (flatP (fs.take k)).length = nb := by simpa using hob.1
          have hnb2 : nb + (z1.length + 5) ≤ 1000 := by
            rw [HT.out, List.length_append, packOf_length, hlb] at hlen1
            exact hlen1
          clear hP hf0 hfk hf1 hlen1 hgd1 hlb
          go_wp2_with fail
          refine (HP.out _ bs1).mono ?_
          rintro e w3 ⟨a3, m3, cap3, ys3, rfl, ho3, hys3, hp3, hn3, HY, hnil3⟩
          rw [if_pos HF0.out] at HY
          rw [HF0.out]
          have HY3 : Hid (ys3 = packOf k1 z1) := HY
          have hm3 : m3 = z1.length + 5 := by rw [← ho3.1, HY, packOf_length]
          subst hm3
          have HL3 : Hid (ys3.length = z1.length + 5) := ho3.1
          have hb3 := ho3.bs hys3
          have hob3 := own_new hob hn3
          clear HY ho3 hys3 bs1 n1 hob
          go_wp2_with (at_builtin; refine wpList_ap _ rfl (.tmp 35) (.tmp 42) rfl 0 Try.underlying22 hi hz0 hz1 hz2 (.slice (some ⟨gb, 0, none⟩) nb cb) nb (flatP (fs.take k)) rfl hob3 a3 (z1.length + 5) cap3 ys3 rfl hb3 HL3.out hnil3 (by omega) (by omega) (Nat.zero_le _) w3.heap.size rfl ?_)
          intro g4 cap4 w4 ho4 hgr4 hat4
          have hsz3 := (hq.trans hn3).size
          simp at hsz3
          have hg4 : w2.heap.size < g4 := by
            rcases hat4 with h' | h'
            · simp [Value.ownBlock] at h'; omega
            · omega
          have hq4 : New _ w4 := (hq.trans hn3).grow hgr4 (by intro j hj; simp [Value.ownBlock] at hj; simp; omega)
          have ho4' : w4.ownsRow 0 5 1 (.slice (some ⟨g4, 0, none⟩) (nb + (z1.length + 5)) cap4) (nb + (z1.length + 5)) ((flatP (fs.take (k + 1))).map (Value.int .u8)) := by
            rw [HT.out, ← HY3.out]
            simpa using ho4
          clear ho4 hgr4 hat4 hob3 hb3
          go_wp2
          go_roundw
          case rel => exact ⟨k + 1, g4, nb + (z1.length + 5), cap4, by omega, by go_num, rfl, hg4, by omega, ho4', hq4⟩
          case measure => simp [intOf]; omega
        · obtain rfl : k = nu := by omega
          have hfs : fs.take k = fs := List.take_of_length_le (by rw [HFu.out, List.length_map, hF2.len]; omega)
          rw [hfs, HFl.out] at hob
          have hnbr : nb = r2 := by have h1 := hob.1; simp only [List.length_map, List.length_take] at h1; have := HL.out; omega
          subst hnbr
          have hbb := BsAt.of_own hob (fun z hz => HYS.out z (List.mem_of_mem_take hz))
          have hbd := hb2.new hq
          clear hfs hob
          go_wp2_with fail
          refine (HS.out _ hbd).mono ?_
          rintro e w3 ⟨ax, nx, cx, Fx, rfl, hFx, hn3, hfx⟩
          have hA3 := (New.refl w3).alloc (.cells #[.int .i64 r1, .int .i64 nb, .slice ax nx cx] 34)
          have b7 := Blk.mk w3 w3.heap.size 34 #[.int .i64 r1, .int .i64 nb, .slice ax nx cx] rfl
          have b43 := bq.new (hn3.trans hA3)
          have hbb3 := hbb.new (hn3.trans hA3)
          have hbd3 := hbd.new (hn3.trans hA3)
          have hq3 := hq.trans (hn3.trans hA3)
          have c4q := b43.cells
          have c7 := b7.cells
          clear cq hfx hFx hbb hbd hn3 hA3
          have nlt : decide ((m : Int) < (nb : Int)) = false := by simp; omega
          have nbc : nb ≤ cap := by omega
          have hlt0 : (ys.take nb).length = nb := by rw [List.length_take, HL.out]; omega
          have rA : ∀ i, (convert 22 9 (.slice (some ⟨gb, 0, none⟩) nb cb)).run Try.prog ((w3.alloc (.cells #[.int .i64 r1, .int .i64 nb, .slice ax nx cx] 34)).drewN i) = .ok (.string (strOf (ys.take nb))) ((w3.alloc (.cells #[.int .i64 r1, .int .i64 nb, .slice ax nx cx] 34)).drewN i) := fun i => run_str _ _ _ _ _ (hbb3.new ((New.refl _).drewN i)) hlt0 (by intro h; cases h)
          have rB : ∀ i, (convert 22 9 (.slice (some ⟨g, 0, none⟩) nb cap)).run Try.prog ((w3.alloc (.cells #[.int .i64 r1, .int .i64 nb, .slice ax nx cx] 34)).drewN i) = .ok (.string (strOf (ys.take nb))) ((w3.alloc (.cells #[.int .i64 r1, .int .i64 nb, .slice ax nx cx] 34)).drewN i) := fun i => run_str _ _ _ _ _ ((hbd3.take nb).new ((New.refl _).drewN i)) hlt0 (by intro h; cases h)
          generalize strOf (ys.take nb) = S at *
          have ss : (S.toList == S.toList) = true := by simp
          have q1 : (r1 != r1) = false := by simp
          have q2 : ((nb : Int) != (nb : Int)) = false := by simp
          clear hlt0 hbb3
          go_wp2_with fail
          go_quiet (fail)
          clear rA rB
          have hsame : ∃ x y : Int, (∀ W, BsAt W (some ⟨g, 0, none⟩) ys → Calls Try.prog 14 #[.slice (some ⟨g, 0, none⟩) m cap, .int .i64 0, .int .i64 2] W fun e w' => e = .returned (.agg #[.int .i64 x, .int .i64 y]) ∧ New W w') ∧ ((m < 2 ∧ x = 3) ∨ (2 ≤ m ∧ x = 0 ∧ y = numAt ys 0 2)) := by
            by_cases hm2 : m < 2
            · exact ⟨3, 0, fun W _ => implNum_bad _ m cap 0 2 W (by omega) (by omega), .inl ⟨hm2, rfl⟩⟩
            · exact ⟨0, numAt ys 0 2, fun W hW => implNum_good _ m cap 0 2 ys W hW HL.out hmc (by omega) (by omega) (by omega) (by omega), .inr ⟨by omega, rfl, rfl⟩⟩
          obtain ⟨x, y, hNA, hxy⟩ := hsame
          have HNA : Hid _ := hNA
          have HXY : Hid ((m < 2 ∧ x = 3) ∨ (2 ≤ m ∧ x = 0 ∧ y = numAt ys 0 2)) := hxy
          clear hNA hxy
          go_wp2_with fail
          refine (HNA.out _ (hbd3.new ((New.refl _).drewN _))).mono ?_
          rintro e w4 ⟨rfl, hn4⟩
          have hnd := ((New.refl _).drewN _).trans hn4
          have hA4 := (New.refl w4).alloc (.cells #[.int .i64 x, .int .i64 y] 38)
          have b8 := Blk.mk w4 w4.heap.size 38 #[.int .i64 x, .int .i64 y] rfl
          have hbd4 := hbd3.new (hnd.trans hA4)
          have hfin := (hw2.trans hq3).trans (hnd.trans hA4)
          have c8 := b8.cells
          have hP1 := fun W hW => implSum_any (some ⟨g, 0, none⟩) m cap ys W hW HL.out (by omega)
          have hP2 := fun W hW => specSum_any (some ⟨g, 0, none⟩) m cap ys W hW HL.out (by omega)
          have HP1 : Hid _ := hP1
          have HP2 : Hid _ := hP2
          clear hP1 hP2 c4q c7 hbd3
          rcases HXY.out with ⟨hm2, rfl⟩ | ⟨hm2, rfl, rfl⟩
          · have d0 : decide ((2 : Int) ≤ (m : Int)) = false := by simp; omega
            have d1 : (sumOf ys == sumOf ys) = true := by simp
            go_wp2_with fail
            go_quiet ((first | (go_at_call 15; exact Calls.quiet_of_same (HP1.out _ (hbd4.new ((New.refl _).drewN _)))) | (go_at_call 16; exact Calls.quiet_of_same (HP2.out _ (hbd4.new ((New.refl _).drewN _))))))
            go_wp2
            go_ret
            exact ⟨rfl, hfin.drewN _⟩
          · obtain ⟨b0, o0, y0, e0, hy0, k0, l0, u0⟩ := hbd4.at 0 (by have := HL.out; omega)
            simp only [Option.some.injEq, Addr.mk.injEq, and_true] at e0
            obtain ⟨rfl, rfl⟩ := e0
            obtain ⟨b1, o1, y1, e1, hy1, k1, l1, u1⟩ := hbd4.at 1 (by have := HL.out; omega)
            simp only [Option.some.injEq, Addr.mk.injEq, and_true] at e1
            obtain ⟨rfl, rfl⟩ := e1
            have hval : numAt ys 0 2 = y0 * 256 + y1 := by
              match ys, hy0, hy1 with
              | p :: q :: r, hy0, hy1 =>
                simp at hy0 hy1
                subst hy0
                subst hy1
                simp [numAt, num]
            rw [hval] at k0 k1 c8 hbd4 hfin ⊢
            have d0 : decide ((2 : Int) ≤ (m : Int)) = true := by simp; omega
            have p0 : (0 : Int) < (m : Int) := by omega
            have p1 : (1 : Int) < (m : Int) := by omega
            have p2 : 0 < m := by omega
            have p3 : 1 < m := by omega
            have d1 : (sumOf ys == sumOf ys) = true := by simp
            have d2 : (y0 * 256 + y1 == y0 * 256 + y1) = true := by simp
            have v0 : IntKind.i64.wrap y0 = y0 := wrap_in (by omega)
            have v1 : IntKind.i64.wrap y1 = y1 := wrap_in (by omega)
            have v2 : IntKind.i64.wrap (y0 * 256) = y0 * 256 := wrap_in (by omega)
            have v3 : IntKind.i64.wrap (y0 * 256 + y1) = y0 * 256 + y1 := wrap_in (by omega)
            simp only [Nat.zero_add] at k0 k1
            clear hval hy0 hy1 HXY
            go_wp2_with fail
            go_quiet ((first | (go_at_call 15; exact Calls.quiet_of_same (HP1.out _ (hbd4.new ((New.refl _).drewN _)))) | (go_at_call 16; exact Calls.quiet_of_same (HP2.out _ (hbd4.new ((New.refl _).drewN _))))))
            go_wp2
            go_ret
            exact ⟨rfl, hfin.drewN _⟩

set_option maxRecDepth 100000 in
theorem splits_lifted (os : Os) (started : os.Started) (H : Type) (enc : TypeId × Value → H) :
    ReturnsInHanded {} Try.checked os 4 .any (Rows.fnSplitsSpec.pre6 enc Try.prog Try.f4 Rows.fnSplitsRow.domain false) (Rows.fnSplitsSpec.post enc Try.prog Try.f4 false true false false) := by
  refine returnsInHanded_of_change (C := Try.checked) own started (by kernel_rfl) Try.func4
    (ChangeSpec.witness6 (enc := enc) (C := Try.checked) false ⟨#[], #[.slice none 0 0], []⟩ 8 (by kernel_rfl) (by kernel_rfl) (by kernel_rfl) (by kernel_rfl)) ?_
  intro W base args ds gs before hval0 hW hcnd _
  have hval : ∀ (j : Nat) t v, Try.f4.params[j]? = some t → args[j]? = some v → Value.okWide Try.prog W .any base t v := hval0
  have hW' := hW
  obtain ⟨p, q, hA0, hV, rfl, hfz, hnd⟩ := hW
  have hA : DataW.TrodAll enc Try.prog W 0 (fun _ => true) true Try.f4.params.toList args.toList ds p := hA0
  rw [Try.params4] at hA hval
  obtain ⟨v0, vs0, d0, ds0, p0, q0, hargs, rfl, rfl, h0, r0⟩ := trodAll_cons hA
  obtain ⟨rfl, rfl, rfl⟩ := trodAll_nil r0
  obtain rfl : args = #[v0] := by cases args; simp_all
  obtain ⟨rfl, rfl⟩ := trodVars_none hV
  have k0 := h0
  have lt0 : ∀ x ∈ p0, x.block < W.heap.size := by obtain ⟨m, hm⟩ := k0; exact DataW.trod_lt m _ _ _ hm
  obtain ⟨a0, len0, cap0, rfl⟩ := okWide_slice Try.underlying22 (hval 0 22 v0 rfl rfl)
  have nil0 := open_nil h0
  obtain ⟨z0, b0, e0, m0⟩ := open_bytes h0
  clear hA0 hval0
  refine (splits_walk a0 len0 cap0 z0 W b0 e0 m0.2).mono fun e W' ⟨he, new⟩ => ?_
  have bel := new.below
  subst he
  exact ⟨_, rfl, _, _, _, [], _, [], hW', trodAll_mk1 (shut_bool Try.underlying4 _), (trodAll_cons_mk (Below.trod laidOut (by kernel_rfl) (of_decide_eq_true (by kernel_rfl)) k0 bel lt0) trodAll_mk0), rfl, bel.frame _, fun h => by cases h⟩

theorem splits_holds : Rows.FnSplitsSaid :=
  OpenClaim.holds_of_wide 4 Try.f4 rfl rfl rfl rfl rfl rfl rfl ⟨rfl, rfl, rfl, rfl, rfl⟩ rfl rfl rfl rfl rfl (by kernel_rfl) Try.func4 (by kernel_rfl)
    (of_decide_eq_true (by kernel_rfl)) (by unfold Func.isWrapper; first | (rw [if_pos (by decide +kernel)]; kernel_rfl) | (rw [if_neg (by decide +kernel)]; exact ⟨rfl, rfl⟩))
    (fun os started H enc _ => splits_lifted os started H enc)

end Go.Proofs.Ytopkihgdemcneaa
