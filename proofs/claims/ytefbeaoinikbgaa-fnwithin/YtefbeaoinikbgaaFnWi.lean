/- What is proved here: for every list of bytes the law on prefixes within each other returns true, and the bytes read as they did. No condition. -/
import Derived.Test.YtefbeaoinikbgaaDrawIn
import Derived.Test.YtefbeaoinikbgaaDrawLf
import Derived.Test.YtefbeaoinikbgaaLwAt
import Derived.Test.YtefbeaoinikbgaaLwBig
import Derived.Test.YtefbeaoinikbgaaLgImpl
import Derived.Test.YtefbeaoinikbgaaLgSpec
import Derived.Test.YtefbeaoinikbgaaOrImpl
import Derived.Test.YtefbeaoinikbgaaWiMath
import Derived.Test.YtefbeaoinikbgaaOpen
import Derived.Deep.RegionHeld3
namespace Go.Proofs.Ytefbeaoinikbgaa
open Go.ChangeShapes Go.WideShapes Go.ChangeAt Go.RowKit Go.Sort
set_option linter.unusedVariables false

theorem implHas_is (a l x : Int) (v : Bool) (w : World) (h : hasA a l x = v) : Calls Try.prog 8 #[.agg #[.int .i64 a, .int .i64 l], .int .i64 x] w fun e w' => e = .returned (.bool v) ∧ New w w' := h ▸ implHas a l x w
theorem implIn_is (a l b m : Int) (v : Bool) (w : World) (h : inP a l b m = v) : Calls Try.prog 6 #[.agg #[.int .i64 a, .int .i64 l], .agg #[.int .i64 b, .int .i64 m]] w fun e w' => e = .returned (.bool v) ∧ New w w' := h ▸ implIn a l b m w
theorem specIn_is (a l b m : Int) (v : Bool) (w : World) (h : inP a l b m = v) : Calls Try.prog 9 #[.agg #[.int .i64 a, .int .i64 l], .agg #[.int .i64 b, .int .i64 m]] w fun e w' => e = .returned (.bool v) ∧ New w w' := h ▸ specIn a l b m w

theorem specLg_is (a : Option Addr) (n c : Nat) (ps : List (Int × Int)) (x cd v : Int) (w : World) (h : PsAt w a ps) (hn : ps.length = n) (hm : n ≤ 1048576) (hL : Lg ps x cd v) :
    Calls Try.prog 12 #[.slice a n c, .int .i64 x] w fun e w' => e = .returned (.agg #[.int .i64 cd, .int .i64 v]) ∧ New w w' := by
  refine (specLg a n c ps x w h hn hm).mono ?_
  rintro e w' ⟨cd', v', rfl, hL', hn'⟩
  obtain ⟨rfl, rfl⟩ := Lg_one hL hL'
  exact ⟨rfl, hn'⟩

theorem implOr_pos (a : Option Addr) (n c : Nat) (ps : List (Int × Int)) (L : Nat) (w : World) (h : PsAt w a ps) (hn : ps.length = n) (hm : n ≤ 1048576) (hl : lf ps = 0) (hL : (sortP ps).length = L) (h0 : 0 < L) :
    Calls Try.prog 13 #[.slice a n c] w fun e w' => ∃ g d, e = .returned (.agg #[.int .i64 0, .slice (some ⟨g, 0, none⟩) L d]) ∧ w.heap.size ≤ g ∧ OwP w' g L d (sortP ps) ∧ New w w' := by
  refine (implOr a n c ps w h hn hm).mono ?_
  rintro e w' ⟨v, rfl, ho, hn'⟩
  rw [if_pos hl] at ho
  rcases ho with ⟨_, e⟩ | ⟨g, d, rfl, hg, ho⟩
  · rw [e] at hL; simp at hL; omega
  · rw [hL] at ho
    exact ⟨g, d, by rw [hl, hL], hg, ho, hn'⟩

theorem keep4 {w w' : World} {A g k cap O b : Nat} {cs ds : Array Value} {t u : TypeId} {ps : List (Int × Int)} {q1 q2 : Int} (hA : Blk w A t cs) (ho : OwP w g k cap ps) (hq : ps[b]? = some (q1, q2)) (hO : Blk w O u ds) (hb : b < k) (N : New w w') :
    (∀ j, w'.cell? ⟨A, j, none⟩ = cs[j]?) ∧ w'.cell? ⟨g, b * 2, none⟩ = some (Value.int .i64 q1) ∧ w'.cell? ⟨g, b * 2 + 1, none⟩ = some (Value.int .i64 q2) ∧ (∀ j, w'.cell? ⟨O, j, none⟩ = ds[j]?) := by
  obtain ⟨z1, z2, hz, c1, c2⟩ := (ho.new N).both b hb
  obtain ⟨rfl, rfl⟩ : q1 = z1 ∧ q2 = z2 := by simpa using Option.some.inj (hq.symm.trans hz)
  exact ⟨(hA.new N).cells, c1, c2, (hO.new N).cells⟩

set_option maxRecDepth 100000 in
set_option maxHeartbeats 3200000 in
theorem fwi_walk (a : Option Addr) (n c : Nat) (zs : List Int) (w : World) (h : BsAt w a zs) (hn : zs.length = n) (hm : n ≤ maxLen) :
    Calls Try.prog 3 #[.slice a n c] w fun e w' => e = .returned (.bool true) ∧ New w w' := by
  by_cases hbig : 1048576 < n
  · go_enter Try.func3, Try.ntmps3
    go_wp2_with fail
    refine (lbig_yes a n c _ hbig).mono ?_
    rintro e w1 ⟨rfl, rfl⟩
    go_wp2
    go_ret
    exact ⟨rfl, New.refl _⟩
  have hm' : n ≤ 2097152 := by omega
  have ha : ∀ x, zs ≠ [] → a = some x → x.block < w.heap.size := by
    intro x hz hx
    obtain ⟨b, off, e, hlt⟩ := h.block_lt hz
    rw [e] at hx
    obtain rfl := Option.some.inj hx
    exact hlt
  have HN : Hid (zs.length = n) := hn
  clear hn hm
  go_enter Try.func3, Try.ntmps3
  go_wp2_with fail
  refine (lbig_no a n c _ hbig).mono ?_
  rintro e w0 ⟨rfl, hw0⟩
  rw [hw0]
  clear hw0
  go_wp2_with fail
  refine (drawIn_any a n c zs _ h HN.out hm' ha).mono ?_
  rintro e w1 ⟨x, l, y, m, rfl, hn1⟩
  have hal1 := ((New.refl w1).alloc (.cells #[.int .i64 x, .int .i64 l] 25)).alloc (.cells #[.int .i64 y, .int .i64 m] 25)
  have bP : Blk ((w1.alloc (.cells #[.int .i64 x, .int .i64 l] 25)).alloc (.cells #[.int .i64 y, .int .i64 m] 25)) w1.heap.size 25 #[.int .i64 x, .int .i64 l] := (Blk.mk _ _ _ _ rfl).alloc _
  have bQ : Blk ((w1.alloc (.cells #[.int .i64 x, .int .i64 l] 25)).alloc (.cells #[.int .i64 y, .int .i64 m] 25)) (w1.heap.size + 1) 25 #[.int .i64 y, .int .i64 m] := Blk.mk _ _ _ _ (by simp)
  have hw1 := hn1.trans hal1
  obtain ⟨i, hi⟩ : ∃ i, inP x l y m = i := ⟨_, rfl⟩
  have HI : Hid (inP x l y m = i) := hi
  clear hi
  go_wp2_with fail
  refine (implIn_is x l y m i _ HI.out).mono ?_
  rintro e w2 ⟨rfl, hn2⟩
  have hw2 := hw1.trans hn2
  have bP2 := bP.new hn2
  have bQ2 := bQ.new hn2
  clear bP bQ hn1 hal1 hn2 hw1
  go_wp2_with fail
  go_loopw [6] (fun k wr => ∃ t : Nat, t ≤ 12 ∧ k = .int .i64 t ∧ New w wr ∧ Blk wr w1.heap.size 25 #[.int .i64 x, .int .i64 l] ∧ Blk wr (w1.heap.size + 1) 25 #[.int .i64 y, .int .i64 m]) (fun k _ => 12 - (intOf k).toNat)
  case atStart => exact ⟨0, by omega, rfl, hw2, bP2, bQ2⟩
  case round =>
    obtain ⟨t, ht, rfl, hwr, bPr, bQr⟩ := hrel
    by_cases hlt : t < 12
    · go_wp2_with fail
      refine (lwAt_any a n c t 65536 zs _ (h.new hwr) HN.out hm' (by omega) (by omega) (by omega)).mono ?_
      rintro e w3 ⟨r, rfl, hr0, hr1, hn3⟩
      have hw3 := hwr.trans hn3
      have bP3 := bPr.new hn3
      have bQ3 := bQr.new hn3
      have cP := bP3.cells
      cases i with
      | false =>
        go_wp2
        go_roundw
        case rel => exact ⟨t + 1, by omega, by go_num, hw3, bP3, bQ3⟩
        case measure => simp [intOf]; omega
      | true =>
        obtain ⟨j, hj⟩ : ∃ j, hasA x l r = j := ⟨_, rfl⟩
        cases j with
        | false =>
          go_wp2_with fail
          refine (implHas_is x l r false _ hj).mono ?_
          rintro e w4 ⟨rfl, hn4⟩
          clear hj
          go_wp2
          go_roundw
          case rel => exact ⟨t + 1, by omega, by go_num, hw3.trans hn4, bP3.new hn4, bQ3.new hn4⟩
          case measure => simp [intOf]; omega
        | true =>
          have hq : Hid (hasA y m r = true) := in_has HI.out hj
          go_wp2_with fail
          refine (implHas_is x l r true _ hj).mono ?_
          rintro e w4 ⟨rfl, hn4⟩
          clear hj
          have cQ := (bQ3.new hn4).cells
          go_wp2_with fail
          refine (implHas_is y m r true _ hq.out).mono ?_
          rintro e w5 ⟨rfl, hn5⟩
          go_wp2
          go_roundw
          case rel => exact ⟨t + 1, by omega, by go_num, (hw3.trans hn4).trans hn5, (bP3.new hn4).new hn5, (bQ3.new hn4).new hn5⟩
          case measure => simp [intOf]; omega
    · have cP := bPr.cells
      have cQ := bQr.cells
      clear hw2 bP2 bQ2
      cases i with
      | false =>
        go_wp2_with fail
        refine (specIn_is x l y m false _ HI.out).mono ?_
        rintro e w9 ⟨rfl, hn9⟩
        have fP := bPr.new hn9
        have fQ := bQr.new hn9
        have fW := hwr.trans hn9
        clear bPr bQr hwr hn9 cP cQ HI
        obtain ⟨bP, bQ, hw9⟩ : Blk w9 w1.heap.size 25 #[.int .i64 x, .int .i64 l] ∧ Blk w9 (w1.heap.size + 1) 25 #[.int .i64 y, .int .i64 m] ∧ New w w9 := ⟨fP, fQ, fW⟩
        clear fP fQ fW bP bQ
        go_wp2_with fail
        refine (drawLf_any a n c zs _ (h.new hw9) HN.out hm' (fun x hz hx => Nat.lt_of_lt_of_le (ha x hz hx) hw9.size)).mono ?_
        rintro e w10 ⟨g, k, cap, ps, ad, rfl, hk7, ho, hdr, hn10⟩
        have hbd : Hid (∀ p ∈ ps, In6 p.1 ∧ In6 p.2) := fun p hp => by obtain ⟨⟨d1, d2⟩, d3, d4⟩ := hdr p hp; unfold In6; omega
        have hw10 := hw9.trans hn10
        have hlen := ho.len
        have HL : Hid (ps.length = k) := hlen
        clear hdr hlen hn10
        go_wp2_with fail
        refine (implLg _ k cap ps ad _ (ho.ps hbd.out) HL.out (by omega)).mono ?_
        rintro e w11 ⟨cd, v, rfl, hLg, hn11⟩
        have HLG : Hid (Lg ps ad cd v) := hLg
        clear hLg
        have hal := (New.refl w11).alloc (.cells #[.int .i64 cd, .int .i64 v] 35)
        have bR := Blk.mk w11 w11.heap.size 35 #[.int .i64 cd, .int .i64 v] rfl
        have hw11 := (hw10.trans hn11).trans hal
        have ho11 := (ho.new hn11).new hal
        clear hn11 ho hw10
        by_cases hcd : cd = 0
        case neg =>
          have hb : (cd != 0) = true := by simpa using hcd
          have hbb : (cd == cd) = true := by simp
          have cR := bR.cells
          have cRr := blk_regrown bR
          have hps := ho11.ps hbd.out
          have hfd : ∀ (x y : Int) (W : World), (Instr.field 35 (.agg #[.int .i64 x, .int .i64 y]) 0).run Try.prog W = .ok (.int .i64 x) W := fun _ _ _ => by kernel_rfl
          go_wp2_with fail
          refine wp_region_quiet_below (by kernel_rfl) (by kernel_rfl) ?_
          repeat (go_big_quiet_step ((go_at_call 12; exact calls_regrown (specLg_is _ k cap ps ad cd v _ (hps.new (new_regrown _ _ _)) HL.out (by omega) HLG.out))))
          refine wpQuiet_nil ?_
          rintro w12 hn12
          replace hn12 := new_of_regrown hn12
          go_wp2
          go_ret
          exact ⟨rfl, hw11.trans hn12⟩
        subst hcd
        have hBest : Hid (lf ps = 0 ∧ (0 ≤ ad ∧ ad ≤ 65535) ∧ ∃ b : Nat, v = b ∧ BestTo ps ad ps.length b) := by
          rcases HLG.out with ⟨h0, e, _⟩ | ⟨_, _, e, _⟩ | ⟨h0, hx, ⟨_, e, _⟩ | ⟨b, e, _, hb⟩⟩
          · exact absurd e.symm h0
          · cases e
          · cases e
          · exact ⟨h0, hx, b, e, hb⟩
        obtain ⟨hlf, hadr, b, rfl, hbest⟩ := hBest.out
        have HB : Hid (BestTo ps ad ps.length b) := hbest
        have HF : Hid (lf ps = 0) := hlf
        obtain ⟨hbk, q, hq, hsq, -⟩ := hbest
        have hbk' : b < k := by rw [HL.out] at hbk; exact hbk
        have hpq := (lf_ok hlf).2 q (List.mem_of_getElem? hq)
        have HQ : Hid (hasA q.1 q.2 ad = true) := has_of_hs hsq hpq hadr.1 hadr.2
        have HBQ : Hid (ps[b]? = some q) := hq
        obtain ⟨q1, q2⟩ := q
        clear hbk hsq hpq hq hlf hadr hBest HLG
        have cR := bR.cells
        go_wp2_with fail
        go_loopw [11] (fun s wr => ∃ t : Nat, t ≤ k ∧ s = .int .i64 t ∧ New w wr ∧ Blk wr w11.heap.size 35 #[.int .i64 0, .int .i64 (b : Int)] ∧ OwP wr g k cap ps) (fun s _ => k - (intOf s).toNat)
        case atStart => exact ⟨0, Nat.zero_le _, rfl, hw11, bR, ho11⟩
        case round =>
          clear cR bR ho11 hw11 hal
          obtain ⟨t, ht, rfl, hwr, bR, hor⟩ := hrel
          obtain ⟨z1, z2, hz, cz1, cz2⟩ := hor.both b hbk'
          obtain ⟨rfl, rfl⟩ : q1 = z1 ∧ q2 = z2 := by simpa using Option.some.inj (HBQ.out.symm.trans hz)
          clear hz
          by_cases hlt : t < k
          · obtain ⟨y1, y2, hy, cy1, cy2⟩ := hor.both t hlt
            have X1 := cell_regrown cz1
            have X2 := cell_regrown cz2
            have Y1 := cell_regrown cy1
            have Y2 := cell_regrown cy2
            have cRr := blk_regrown bR
            obtain ⟨j, hj⟩ : ∃ j, hasA y1 y2 ad = j := ⟨_, rfl⟩
            cases j with
            | false =>
              clear hy
              go_wp2_with fail
              refine wp_region_quiet_below (by kernel_rfl) (by kernel_rfl) ?_
              repeat (go_big_quiet_step ((go_at_call 8; exact calls_regrown (implHas_is y1 y2 ad false _ hj))))
              refine wpQuiet_nil ?_
              rintro w12 hn12
              replace hn12 := new_of_regrown hn12
              go_wp2
              go_roundw
              case rel => exact ⟨t + 1, by omega, by go_num, hwr.trans hn12, bR.new hn12, hor.new hn12⟩
              case measure => simp [intOf]; omega
            | true =>
              have hin : Hid (inP q1 q2 y1 y2 = true) := best_in (p := (y1, y2)) HB.out HF.out HBQ.out hy hj
              clear hy
              go_wp2_with fail
              refine wp_region_quiet_below (by kernel_rfl) (by kernel_rfl) ?_
              repeat (go_big_quiet_step (first | (go_at_call 8; exact calls_regrown (implHas_is y1 y2 ad true _ hj)) | (go_at_call 6; exact calls_regrown (implIn_is q1 q2 y1 y2 true _ hin.out))))
              refine wpQuiet_nil ?_
              rintro w12 hn12
              replace hn12 := new_of_regrown hn12
              go_wp2
              go_roundw
              case rel => exact ⟨t + 1, by omega, by go_num, hwr.trans hn12, bR.new hn12, hor.new hn12⟩
              case measure => simp [intOf]; omega
          · obtain ⟨L, hL⟩ : ∃ L, (sortP ps).length = L := ⟨_, rfl⟩
            have HS : Hid ((sortP ps).length = L) := hL
            have hLk : L ≤ k := by rw [← hL, ← HL.out]; exact sort_le ps
            have hL0 : 0 < L := by rw [← hL]; exact sort_pos (by rw [HL.out]; omega)
            clear hL
            have hfd : ∀ (x : Int) (v : Value) (W : World), (Instr.field 38 (.agg #[.int .i64 x, v]) 1).run Try.prog W = .ok v W := fun _ _ _ => by kernel_rfl
            go_wp2_with fail
            refine (implOr_pos _ k cap ps L _ (hor.ps hbd.out) HL.out (by omega) HF.out HS.out hL0).mono ?_
            rintro e w13 ⟨g2, c2, rfl, hg2, ho2, hn13⟩
            have hal3 := (New.refl w13).alloc (.cells #[.int .i64 0, .slice (some ⟨g2, 0, none⟩) L c2] 38)
            have bO := Blk.mk w13 w13.heap.size 38 #[.int .i64 0, .slice (some ⟨g2, 0, none⟩) L c2] rfl
            have hw13 := (hwr.trans hn13).trans hal3
            have bR3 := (bR.new hn13).new hal3
            have ho3 := (hor.new hn13).new hal3
            have ho23 := ho2.new hal3
            clear bR hor ho2 hn13 hwr cz1 cz2
            obtain ⟨z1, z2, hz, cz1, cz2⟩ := ho3.both b hbk'
            obtain ⟨rfl, rfl⟩ : q1 = z1 ∧ q2 = z2 := by simpa using Option.some.inj (HBQ.out.symm.trans hz)
            clear hz
            have cR := bR3.cells
            have cO := bO.cells
            have hbs : Hid (∀ p ∈ sortP ps, In6 p.1 ∧ In6 p.2) := fun p hp => hbd.out p (mem_sortP.1 hp)
            have HT : Hid ((sortP (sortP ps)).length = L) := (sort_twice ps).trans HS.out
            have HSF : Hid (lf (sortP ps) = 0) := sort_lf HF.out
            have d1 : decide ((L : Int) ≤ (k : Int)) = true := by simp; omega
            have d2 : decide ((0 : Int) < (L : Int)) = true := by simp; omega
            have d3 : ((L : Int) == (L : Int)) = true := by simp
            go_wp2_with fail
            go_region_held3 (fun W => (∀ j, W.cell? ⟨w11.heap.size, j, none⟩ = #[Value.int .i64 0, .int .i64 (b : Int)][j]?) ∧ W.cell? ⟨g, b * 2, none⟩ = some (Value.int .i64 q1) ∧ W.cell? ⟨g, b * 2 + 1, none⟩ = some (Value.int .i64 q2) ∧ (∀ j, W.cell? ⟨w13.heap.size, j, none⟩ = #[Value.int .i64 0, .slice (some ⟨g2, 0, none⟩) L c2][j]?)) (first | exact ⟨cR, cz1, cz2, cO⟩ | exact hK14 | exact hK15)
              (first
                | (go_at_call 8; refine (implHas_is q1 q2 ad true _ HQ.out).mono ?_; rintro e w14 ⟨rfl, hn14⟩; have N14 := ((New.refl _).drew).trans hn14; have hK14 := keep4 bR3 ho3 HBQ.out bO hbk' N14)
                | (go_at_call 13; refine (implOr_pos _ L c2 (sortP ps) L _ ?_ HS.out ?_ HSF.out HT.out hL0).mono ?_; exact (ho23.ps hbs.out).new N14; omega; rintro e w15 ⟨g5, c5, rfl, hg5, ho5, hn15⟩; have N15 := N14.trans hn15; have hK15 := keep4 bR3 ho3 HBQ.out bO hbk' N15))
            go_wp2
            go_ret
            exact ⟨rfl, hw13.trans N15⟩
      | true =>
        obtain ⟨j, hj⟩ : ∃ j, inP y m x l = j := ⟨_, rfl⟩
        cases j with
        | false =>
          go_wp2_with fail
          refine (implIn_is y m x l false _ hj).mono ?_
          rintro e w8 ⟨rfl, hn8⟩
          clear hj
          have cP8 := (bPr.new hn8).cells
          have cQ8 := (bQr.new hn8).cells
          go_wp2_with fail
          refine (specIn_is x l y m true _ HI.out).mono ?_
          rintro e w9 ⟨rfl, hn9⟩
          have fP := (bPr.new hn8).new hn9
          have fQ := (bQr.new hn8).new hn9
          have fW := (hwr.trans hn8).trans hn9
          clear bPr bQr hwr hn8 hn9 cP cQ cP8 cQ8 HI
          obtain ⟨bP, bQ, hw9⟩ : Blk w9 w1.heap.size 25 #[.int .i64 x, .int .i64 l] ∧ Blk w9 (w1.heap.size + 1) 25 #[.int .i64 y, .int .i64 m] ∧ New w w9 := ⟨fP, fQ, fW⟩
          clear fP fQ fW bP bQ
          go_wp2_with fail
          refine (drawLf_any a n c zs _ (h.new hw9) HN.out hm' (fun x hz hx => Nat.lt_of_lt_of_le (ha x hz hx) hw9.size)).mono ?_
          rintro e w10 ⟨g, k, cap, ps, ad, rfl, hk7, ho, hdr, hn10⟩
          have hbd : Hid (∀ p ∈ ps, In6 p.1 ∧ In6 p.2) := fun p hp => by obtain ⟨⟨d1, d2⟩, d3, d4⟩ := hdr p hp; unfold In6; omega
          have hw10 := hw9.trans hn10
          have hlen := ho.len
          have HL : Hid (ps.length = k) := hlen
          clear hdr hlen hn10
          go_wp2_with fail
          refine (implLg _ k cap ps ad _ (ho.ps hbd.out) HL.out (by omega)).mono ?_
          rintro e w11 ⟨cd, v, rfl, hLg, hn11⟩
          have HLG : Hid (Lg ps ad cd v) := hLg
          clear hLg
          have hal := (New.refl w11).alloc (.cells #[.int .i64 cd, .int .i64 v] 35)
          have bR := Blk.mk w11 w11.heap.size 35 #[.int .i64 cd, .int .i64 v] rfl
          have hw11 := (hw10.trans hn11).trans hal
          have ho11 := (ho.new hn11).new hal
          clear hn11 ho hw10
          by_cases hcd : cd = 0
          case neg =>
            have hb : (cd != 0) = true := by simpa using hcd
            have hbb : (cd == cd) = true := by simp
            have cR := bR.cells
            have cRr := blk_regrown bR
            have hps := ho11.ps hbd.out
            have hfd : ∀ (x y : Int) (W : World), (Instr.field 35 (.agg #[.int .i64 x, .int .i64 y]) 0).run Try.prog W = .ok (.int .i64 x) W := fun _ _ _ => by kernel_rfl
            go_wp2_with fail
            refine wp_region_quiet_below (by kernel_rfl) (by kernel_rfl) ?_
            repeat (go_big_quiet_step ((go_at_call 12; exact calls_regrown (specLg_is _ k cap ps ad cd v _ (hps.new (new_regrown _ _ _)) HL.out (by omega) HLG.out))))
            refine wpQuiet_nil ?_
            rintro w12 hn12
            replace hn12 := new_of_regrown hn12
            go_wp2
            go_ret
            exact ⟨rfl, hw11.trans hn12⟩
          subst hcd
          have hBest : Hid (lf ps = 0 ∧ (0 ≤ ad ∧ ad ≤ 65535) ∧ ∃ b : Nat, v = b ∧ BestTo ps ad ps.length b) := by
            rcases HLG.out with ⟨h0, e, _⟩ | ⟨_, _, e, _⟩ | ⟨h0, hx, ⟨_, e, _⟩ | ⟨b, e, _, hb⟩⟩
            · exact absurd e.symm h0
            · cases e
            · cases e
            · exact ⟨h0, hx, b, e, hb⟩
          obtain ⟨hlf, hadr, b, rfl, hbest⟩ := hBest.out
          have HB : Hid (BestTo ps ad ps.length b) := hbest
          have HF : Hid (lf ps = 0) := hlf
          obtain ⟨hbk, q, hq, hsq, -⟩ := hbest
          have hbk' : b < k := by rw [HL.out] at hbk; exact hbk
          have hpq := (lf_ok hlf).2 q (List.mem_of_getElem? hq)
          have HQ : Hid (hasA q.1 q.2 ad = true) := has_of_hs hsq hpq hadr.1 hadr.2
          have HBQ : Hid (ps[b]? = some q) := hq
          obtain ⟨q1, q2⟩ := q
          clear hbk hsq hpq hq hlf hadr hBest HLG
          have cR := bR.cells
          go_wp2_with fail
          go_loopw [11] (fun s wr => ∃ t : Nat, t ≤ k ∧ s = .int .i64 t ∧ New w wr ∧ Blk wr w11.heap.size 35 #[.int .i64 0, .int .i64 (b : Int)] ∧ OwP wr g k cap ps) (fun s _ => k - (intOf s).toNat)
          case atStart => exact ⟨0, Nat.zero_le _, rfl, hw11, bR, ho11⟩
          case round =>
            clear cR bR ho11 hw11 hal
            obtain ⟨t, ht, rfl, hwr, bR, hor⟩ := hrel
            obtain ⟨z1, z2, hz, cz1, cz2⟩ := hor.both b hbk'
            obtain ⟨rfl, rfl⟩ : q1 = z1 ∧ q2 = z2 := by simpa using Option.some.inj (HBQ.out.symm.trans hz)
            clear hz
            by_cases hlt : t < k
            · obtain ⟨y1, y2, hy, cy1, cy2⟩ := hor.both t hlt
              have X1 := cell_regrown cz1
              have X2 := cell_regrown cz2
              have Y1 := cell_regrown cy1
              have Y2 := cell_regrown cy2
              have cRr := blk_regrown bR
              obtain ⟨j, hj⟩ : ∃ j, hasA y1 y2 ad = j := ⟨_, rfl⟩
              cases j with
              | false =>
                clear hy
                go_wp2_with fail
                refine wp_region_quiet_below (by kernel_rfl) (by kernel_rfl) ?_
                repeat (go_big_quiet_step ((go_at_call 8; exact calls_regrown (implHas_is y1 y2 ad false _ hj))))
                refine wpQuiet_nil ?_
                rintro w12 hn12
                replace hn12 := new_of_regrown hn12
                go_wp2
                go_roundw
                case rel => exact ⟨t + 1, by omega, by go_num, hwr.trans hn12, bR.new hn12, hor.new hn12⟩
                case measure => simp [intOf]; omega
              | true =>
                have hin : Hid (inP q1 q2 y1 y2 = true) := best_in (p := (y1, y2)) HB.out HF.out HBQ.out hy hj
                clear hy
                go_wp2_with fail
                refine wp_region_quiet_below (by kernel_rfl) (by kernel_rfl) ?_
                repeat (go_big_quiet_step (first | (go_at_call 8; exact calls_regrown (implHas_is y1 y2 ad true _ hj)) | (go_at_call 6; exact calls_regrown (implIn_is q1 q2 y1 y2 true _ hin.out))))
                refine wpQuiet_nil ?_
                rintro w12 hn12
                replace hn12 := new_of_regrown hn12
                go_wp2
                go_roundw
                case rel => exact ⟨t + 1, by omega, by go_num, hwr.trans hn12, bR.new hn12, hor.new hn12⟩
                case measure => simp [intOf]; omega
            · obtain ⟨L, hL⟩ : ∃ L, (sortP ps).length = L := ⟨_, rfl⟩
              have HS : Hid ((sortP ps).length = L) := hL
              have hLk : L ≤ k := by rw [← hL, ← HL.out]; exact sort_le ps
              have hL0 : 0 < L := by rw [← hL]; exact sort_pos (by rw [HL.out]; omega)
              clear hL
              have hfd : ∀ (x : Int) (v : Value) (W : World), (Instr.field 38 (.agg #[.int .i64 x, v]) 1).run Try.prog W = .ok v W := fun _ _ _ => by kernel_rfl
              go_wp2_with fail
              refine (implOr_pos _ k cap ps L _ (hor.ps hbd.out) HL.out (by omega) HF.out HS.out hL0).mono ?_
              rintro e w13 ⟨g2, c2, rfl, hg2, ho2, hn13⟩
              have hal3 := (New.refl w13).alloc (.cells #[.int .i64 0, .slice (some ⟨g2, 0, none⟩) L c2] 38)
              have bO := Blk.mk w13 w13.heap.size 38 #[.int .i64 0, .slice (some ⟨g2, 0, none⟩) L c2] rfl
              have hw13 := (hwr.trans hn13).trans hal3
              have bR3 := (bR.new hn13).new hal3
              have ho3 := (hor.new hn13).new hal3
              have ho23 := ho2.new hal3
              clear bR hor ho2 hn13 hwr cz1 cz2
              obtain ⟨z1, z2, hz, cz1, cz2⟩ := ho3.both b hbk'
              obtain ⟨rfl, rfl⟩ : q1 = z1 ∧ q2 = z2 := by simpa using Option.some.inj (HBQ.out.symm.trans hz)
              clear hz
              have cR := bR3.cells
              have cO := bO.cells
              have hbs : Hid (∀ p ∈ sortP ps, In6 p.1 ∧ In6 p.2) := fun p hp => hbd.out p (mem_sortP.1 hp)
              have HT : Hid ((sortP (sortP ps)).length = L) := (sort_twice ps).trans HS.out
              have HSF : Hid (lf (sortP ps) = 0) := sort_lf HF.out
              have d1 : decide ((L : Int) ≤ (k : Int)) = true := by simp; omega
              have d2 : decide ((0 : Int) < (L : Int)) = true := by simp; omega
              have d3 : ((L : Int) == (L : Int)) = true := by simp
              go_wp2_with fail
              go_region_held3 (fun W => (∀ j, W.cell? ⟨w11.heap.size, j, none⟩ = #[Value.int .i64 0, .int .i64 (b : Int)][j]?) ∧ W.cell? ⟨g, b * 2, none⟩ = some (Value.int .i64 q1) ∧ W.cell? ⟨g, b * 2 + 1, none⟩ = some (Value.int .i64 q2) ∧ (∀ j, W.cell? ⟨w13.heap.size, j, none⟩ = #[Value.int .i64 0, .slice (some ⟨g2, 0, none⟩) L c2][j]?)) (first | exact ⟨cR, cz1, cz2, cO⟩ | exact hK14 | exact hK15)
                (first
                  | (go_at_call 8; refine (implHas_is q1 q2 ad true _ HQ.out).mono ?_; rintro e w14 ⟨rfl, hn14⟩; have N14 := ((New.refl _).drew).trans hn14; have hK14 := keep4 bR3 ho3 HBQ.out bO hbk' N14)
                  | (go_at_call 13; refine (implOr_pos _ L c2 (sortP ps) L _ ?_ HS.out ?_ HSF.out HT.out hL0).mono ?_; exact (ho23.ps hbs.out).new N14; omega; rintro e w15 ⟨g5, c5, rfl, hg5, ho5, hn15⟩; have N15 := N14.trans hn15; have hK15 := keep4 bR3 ho3 HBQ.out bO hbk' N15))
              go_wp2
              go_ret
              exact ⟨rfl, hw13.trans N15⟩
        | true =>
          obtain ⟨rfl, rfl⟩ := in_both HI.out hj
          go_wp2_with fail
          refine (implIn_is x l x l true _ hj).mono ?_
          rintro e w8 ⟨rfl, hn8⟩
          clear hj
          have cP8 := (bPr.new hn8).cells
          have cQ8 := (bQr.new hn8).cells
          go_wp2_with fail
          refine (specIn_is x l x l true _ HI.out).mono ?_
          rintro e w9 ⟨rfl, hn9⟩
          have fP := (bPr.new hn8).new hn9
          have fQ := (bQr.new hn8).new hn9
          have fW := (hwr.trans hn8).trans hn9
          clear bPr bQr hwr hn8 hn9 cP cQ cP8 cQ8 HI
          obtain ⟨bP, bQ, hw9⟩ : Blk w9 w1.heap.size 25 #[.int .i64 x, .int .i64 l] ∧ Blk w9 (w1.heap.size + 1) 25 #[.int .i64 x, .int .i64 l] ∧ New w w9 := ⟨fP, fQ, fW⟩
          clear fP fQ fW bP bQ
          go_wp2_with fail
          refine (drawLf_any a n c zs _ (h.new hw9) HN.out hm' (fun x hz hx => Nat.lt_of_lt_of_le (ha x hz hx) hw9.size)).mono ?_
          rintro e w10 ⟨g, k, cap, ps, ad, rfl, hk7, ho, hdr, hn10⟩
          have hbd : Hid (∀ p ∈ ps, In6 p.1 ∧ In6 p.2) := fun p hp => by obtain ⟨⟨d1, d2⟩, d3, d4⟩ := hdr p hp; unfold In6; omega
          have hw10 := hw9.trans hn10
          have hlen := ho.len
          have HL : Hid (ps.length = k) := hlen
          clear hdr hlen hn10
          go_wp2_with fail
          refine (implLg _ k cap ps ad _ (ho.ps hbd.out) HL.out (by omega)).mono ?_
          rintro e w11 ⟨cd, v, rfl, hLg, hn11⟩
          have HLG : Hid (Lg ps ad cd v) := hLg
          clear hLg
          have hal := (New.refl w11).alloc (.cells #[.int .i64 cd, .int .i64 v] 35)
          have bR := Blk.mk w11 w11.heap.size 35 #[.int .i64 cd, .int .i64 v] rfl
          have hw11 := (hw10.trans hn11).trans hal
          have ho11 := (ho.new hn11).new hal
          clear hn11 ho hw10
          by_cases hcd : cd = 0
          case neg =>
            have hb : (cd != 0) = true := by simpa using hcd
            have hbb : (cd == cd) = true := by simp
            have cR := bR.cells
            have cRr := blk_regrown bR
            have hps := ho11.ps hbd.out
            have hfd : ∀ (x y : Int) (W : World), (Instr.field 35 (.agg #[.int .i64 x, .int .i64 y]) 0).run Try.prog W = .ok (.int .i64 x) W := fun _ _ _ => by kernel_rfl
            go_wp2_with fail
            refine wp_region_quiet_below (by kernel_rfl) (by kernel_rfl) ?_
            repeat (go_big_quiet_step ((go_at_call 12; exact calls_regrown (specLg_is _ k cap ps ad cd v _ (hps.new (new_regrown _ _ _)) HL.out (by omega) HLG.out))))
            refine wpQuiet_nil ?_
            rintro w12 hn12
            replace hn12 := new_of_regrown hn12
            go_wp2
            go_ret
            exact ⟨rfl, hw11.trans hn12⟩
          subst hcd
          have hBest : Hid (lf ps = 0 ∧ (0 ≤ ad ∧ ad ≤ 65535) ∧ ∃ b : Nat, v = b ∧ BestTo ps ad ps.length b) := by
            rcases HLG.out with ⟨h0, e, _⟩ | ⟨_, _, e, _⟩ | ⟨h0, hx, ⟨_, e, _⟩ | ⟨b, e, _, hb⟩⟩
            · exact absurd e.symm h0
            · cases e
            · cases e
            · exact ⟨h0, hx, b, e, hb⟩
          obtain ⟨hlf, hadr, b, rfl, hbest⟩ := hBest.out
          have HB : Hid (BestTo ps ad ps.length b) := hbest
          have HF : Hid (lf ps = 0) := hlf
          obtain ⟨hbk, q, hq, hsq, -⟩ := hbest
          have hbk' : b < k := by rw [HL.out] at hbk; exact hbk
          have hpq := (lf_ok hlf).2 q (List.mem_of_getElem? hq)
          have HQ : Hid (hasA q.1 q.2 ad = true) := has_of_hs hsq hpq hadr.1 hadr.2
          have HBQ : Hid (ps[b]? = some q) := hq
          obtain ⟨q1, q2⟩ := q
          clear hbk hsq hpq hq hlf hadr hBest HLG
          have cR := bR.cells
          go_wp2_with fail
          go_loopw [11] (fun s wr => ∃ t : Nat, t ≤ k ∧ s = .int .i64 t ∧ New w wr ∧ Blk wr w11.heap.size 35 #[.int .i64 0, .int .i64 (b : Int)] ∧ OwP wr g k cap ps) (fun s _ => k - (intOf s).toNat)
          case atStart => exact ⟨0, Nat.zero_le _, rfl, hw11, bR, ho11⟩
          case round =>
            clear cR bR ho11 hw11 hal
            obtain ⟨t, ht, rfl, hwr, bR, hor⟩ := hrel
            obtain ⟨z1, z2, hz, cz1, cz2⟩ := hor.both b hbk'
            obtain ⟨rfl, rfl⟩ : q1 = z1 ∧ q2 = z2 := by simpa using Option.some.inj (HBQ.out.symm.trans hz)
            clear hz
            by_cases hlt : t < k
            · obtain ⟨y1, y2, hy, cy1, cy2⟩ := hor.both t hlt
              have X1 := cell_regrown cz1
              have X2 := cell_regrown cz2
              have Y1 := cell_regrown cy1
              have Y2 := cell_regrown cy2
              have cRr := blk_regrown bR
              obtain ⟨j, hj⟩ : ∃ j, hasA y1 y2 ad = j := ⟨_, rfl⟩
              cases j with
              | false =>
                clear hy
                go_wp2_with fail
                refine wp_region_quiet_below (by kernel_rfl) (by kernel_rfl) ?_
                repeat (go_big_quiet_step ((go_at_call 8; exact calls_regrown (implHas_is y1 y2 ad false _ hj))))
                refine wpQuiet_nil ?_
                rintro w12 hn12
                replace hn12 := new_of_regrown hn12
                go_wp2
                go_roundw
                case rel => exact ⟨t + 1, by omega, by go_num, hwr.trans hn12, bR.new hn12, hor.new hn12⟩
                case measure => simp [intOf]; omega
              | true =>
                have hin : Hid (inP q1 q2 y1 y2 = true) := best_in (p := (y1, y2)) HB.out HF.out HBQ.out hy hj
                clear hy
                go_wp2_with fail
                refine wp_region_quiet_below (by kernel_rfl) (by kernel_rfl) ?_
                repeat (go_big_quiet_step (first | (go_at_call 8; exact calls_regrown (implHas_is y1 y2 ad true _ hj)) | (go_at_call 6; exact calls_regrown (implIn_is q1 q2 y1 y2 true _ hin.out))))
                refine wpQuiet_nil ?_
                rintro w12 hn12
                replace hn12 := new_of_regrown hn12
                go_wp2
                go_roundw
                case rel => exact ⟨t + 1, by omega, by go_num, hwr.trans hn12, bR.new hn12, hor.new hn12⟩
                case measure => simp [intOf]; omega
            · obtain ⟨L, hL⟩ : ∃ L, (sortP ps).length = L := ⟨_, rfl⟩
              have HS : Hid ((sortP ps).length = L) := hL
              have hLk : L ≤ k := by rw [← hL, ← HL.out]; exact sort_le ps
              have hL0 : 0 < L := by rw [← hL]; exact sort_pos (by rw [HL.out]; omega)
              clear hL
              have hfd : ∀ (x : Int) (v : Value) (W : World), (Instr.field 38 (.agg #[.int .i64 x, v]) 1).run Try.prog W = .ok v W := fun _ _ _ => by kernel_rfl
              go_wp2_with fail
              refine (implOr_pos _ k cap ps L _ (hor.ps hbd.out) HL.out (by omega) HF.out HS.out hL0).mono ?_
              rintro e w13 ⟨g2, c2, rfl, hg2, ho2, hn13⟩
              have hal3 := (New.refl w13).alloc (.cells #[.int .i64 0, .slice (some ⟨g2, 0, none⟩) L c2] 38)
              have bO := Blk.mk w13 w13.heap.size 38 #[.int .i64 0, .slice (some ⟨g2, 0, none⟩) L c2] rfl
              have hw13 := (hwr.trans hn13).trans hal3
              have bR3 := (bR.new hn13).new hal3
              have ho3 := (hor.new hn13).new hal3
              have ho23 := ho2.new hal3
              clear bR hor ho2 hn13 hwr cz1 cz2
              obtain ⟨z1, z2, hz, cz1, cz2⟩ := ho3.both b hbk'
              obtain ⟨rfl, rfl⟩ : q1 = z1 ∧ q2 = z2 := by simpa using Option.some.inj (HBQ.out.symm.trans hz)
              clear hz
              have cR := bR3.cells
              have cO := bO.cells
              have hbs : Hid (∀ p ∈ sortP ps, In6 p.1 ∧ In6 p.2) := fun p hp => hbd.out p (mem_sortP.1 hp)
              have HT : Hid ((sortP (sortP ps)).length = L) := (sort_twice ps).trans HS.out
              have HSF : Hid (lf (sortP ps) = 0) := sort_lf HF.out
              have d1 : decide ((L : Int) ≤ (k : Int)) = true := by simp; omega
              have d2 : decide ((0 : Int) < (L : Int)) = true := by simp; omega
              have d3 : ((L : Int) == (L : Int)) = true := by simp
              go_wp2_with fail
              go_region_held3 (fun W => (∀ j, W.cell? ⟨w11.heap.size, j, none⟩ = #[Value.int .i64 0, .int .i64 (b : Int)][j]?) ∧ W.cell? ⟨g, b * 2, none⟩ = some (Value.int .i64 q1) ∧ W.cell? ⟨g, b * 2 + 1, none⟩ = some (Value.int .i64 q2) ∧ (∀ j, W.cell? ⟨w13.heap.size, j, none⟩ = #[Value.int .i64 0, .slice (some ⟨g2, 0, none⟩) L c2][j]?)) (first | exact ⟨cR, cz1, cz2, cO⟩ | exact hK14 | exact hK15)
                (first
                  | (go_at_call 8; refine (implHas_is q1 q2 ad true _ HQ.out).mono ?_; rintro e w14 ⟨rfl, hn14⟩; have N14 := ((New.refl _).drew).trans hn14; have hK14 := keep4 bR3 ho3 HBQ.out bO hbk' N14)
                  | (go_at_call 13; refine (implOr_pos _ L c2 (sortP ps) L _ ?_ HS.out ?_ HSF.out HT.out hL0).mono ?_; exact (ho23.ps hbs.out).new N14; omega; rintro e w15 ⟨g5, c5, rfl, hg5, ho5, hn15⟩; have N15 := N14.trans hn15; have hK15 := keep4 bR3 ho3 HBQ.out bO hbk' N15))
              go_wp2
              go_ret
              exact ⟨rfl, hw13.trans N15⟩

set_option maxRecDepth 100000 in
theorem fwi_lifted (os : Os) (started : os.Started) (H : Type) (enc : TypeId × Value → H) :
    ReturnsInHanded {} Try.checked os 3 .any (Rows.fnWithinSpec.pre6 enc Try.prog Try.f3 Rows.fnWithinRow.domain false) (Rows.fnWithinSpec.post enc Try.prog Try.f3 false true false false) := by
  refine returnsInHanded_of_change (C := Try.checked) own started (by kernel_rfl) Try.func3
    (ChangeSpec.witness6 (enc := enc) (C := Try.checked) false ⟨#[], #[.slice none 0 0], []⟩ 8 (by kernel_rfl) (by kernel_rfl) (by kernel_rfl) (by kernel_rfl)) ?_
  intro W base args ds gs before hval0 hW hcnd _
  have hval : ∀ (j : Nat) t v, Try.f3.params[j]? = some t → args[j]? = some v → Value.okWide Try.prog W .any base t v := hval0
  have hW' := hW
  obtain ⟨p, q, hA0, hV, rfl, hfz, hnd⟩ := hW
  have hA : DataW.TrodAll enc Try.prog W 0 (fun _ => true) true Try.f3.params.toList args.toList ds p := hA0
  rw [Try.params3] at hA hval
  obtain ⟨v0, vs0, d0, ds0, p0, q0, hargs, rfl, rfl, h0, r0⟩ := trodAll_cons hA
  obtain ⟨rfl, rfl, rfl⟩ := trodAll_nil r0
  obtain rfl : args = #[v0] := by cases args; simp_all
  obtain ⟨rfl, rfl⟩ := trodVars_none hV
  have k0 := h0
  have lt0 : ∀ x ∈ p0, x.block < W.heap.size := by obtain ⟨m, hm⟩ := k0; exact DataW.trod_lt m _ _ _ hm
  obtain ⟨a0, len0, cap0, rfl⟩ := okWide_slice Try.underlying22 (hval 0 22 v0 rfl rfl)
  have nil0 := open_nil h0
  obtain ⟨z0, b0, e0, m0⟩ := open_bytes h0
  clear hA0 hval0
  refine (fwi_walk a0 len0 cap0 z0 W b0 e0 m0.2).mono fun e W' ⟨he, new⟩ => ?_
  have bel := new.below
  subst he
  exact ⟨_, rfl, _, _, _, [], _, [], hW', trodAll_mk1 (shut_bool Try.underlying4 _), (trodAll_cons_mk (Below.trod laidOut (by kernel_rfl) (of_decide_eq_true (by kernel_rfl)) k0 bel lt0) trodAll_mk0), rfl, bel.frame _, fun h => by cases h⟩

theorem fwi_holds : Rows.FnWithinSaid :=
  OpenClaim.holds_of_wide 3 Try.f3 rfl rfl rfl rfl rfl rfl rfl ⟨rfl, rfl, rfl, rfl, rfl⟩ rfl rfl rfl rfl rfl (by kernel_rfl) Try.func3 (by kernel_rfl)
    (of_decide_eq_true (by kernel_rfl)) (by unfold Func.isWrapper; first | (rw [if_pos (by decide +kernel)]; kernel_rfl) | (rw [if_neg (by decide +kernel)]; exact ⟨rfl, rfl⟩))
    (fun os started H enc _ => fwi_lifted os started H enc)

end Go.Proofs.Ytefbeaoinikbgaa
