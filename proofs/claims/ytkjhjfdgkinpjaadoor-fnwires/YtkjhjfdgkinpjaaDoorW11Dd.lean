/- What is proved here: what the drawing of a wire with an epoch, a place and bytes leaves. -/
import Derived.Test.YtkjhjfdgkinpjaaDoorW11Df
import Derived.Test.YtkjhjfdgkinpjaaDoorW11Ti
namespace Go.Proofs.YtkjhjfdgkinpjaaDoor
open Go.RowKit
set_option linter.unusedVariables false
set_option linter.unusedSimpArgs false
set_option maxRecDepth 100000

set_option maxHeartbeats 6400000 in
theorem drawDeliver_any (a : Option Addr) (n c : Nat) (zs : List Int) (w : World) (h : BsAt w a zs) (hn : zs.length = n) (hm : n ≤ 2097152) (ha : ∀ x, zs ≠ [] → a = some x → x.block < w.heap.size) :
    Calls Tryd.prog 6 #[.slice a n c] w fun e w' => ∃ (E T ep at9 : Int) (g1 c1 g2 c2 : Nat) (q : Option Addr) (f : Nat) (xs ys us : List Int), e = .returned (.tuple #[.agg #[.int .i64 E, .slice (some ⟨g1, 0, none⟩) xs.length c1, .int .i64 T, .slice (some ⟨g2, 0, none⟩) ys.length c2], .int .i64 ep, .int .i64 at9, .slice q us.length f]) ∧ WirAt w' w.heap.size E T g1 c1 g2 c2 xs ys ∧
      BsAt w' q us ∧ ((q = none ∧ us.length = 0 ∧ f = 0) ∨ ∃ g o, q = some ⟨g, o, none⟩) ∧ us.length ≤ f ∧ us.length ≤ 100 ∧ (-1 ≤ at9 ∧ at9 ≤ 3000) ∧ New w w' := by
  obtain ⟨i0, hi, hz0, hz1, hz2⟩ := info_parts Tryd.infoU8
  have HN : Hid (zs.length = n) := hn
  clear hn
  have hw := (New.refl w).alloc (.cells #[.int .i64 0, .slice none 0 0, .int .i64 0, .slice none 0 0] 25)
  have bR := Blk.mk w w.heap.size 25 #[.int .i64 0, .slice none 0 0, .int .i64 0, .slice none 0 0] rfl
  go_enter Tryd.func6, Tryd.ntmps6
  go_wp2_with fail
  refine (source_any a n c zs _ (h.new hw) HN.out hm (by intro x hz hx; have := ha x hz hx; simp; omega)).mono ?_
  rintro e w1 ⟨B, rfl, hB, hs1, hn1⟩
  simp at hB
  have N1 := hw.trans hn1
  have bR1 := bR.new hn1
  have lB := hs1.blk.lt
  have lR := bR1.lt
  have s1 := N1.size
  go_wp2_with fail
  refine (l11Wire_sc hs1 (by omega) (by intro x hz hx; have := ha x hz hx; omega)).mono ?_
  rintro e w2 ⟨E, T, g1, c1, g2, c2, t2, xs, ys, rfl, hW, ht2, hs2, tn2⟩
  have N2 := N1.before tn2 (fun i hi e => by omega)
  have bR2 := bR1.turn tn2 (by omega)
  have s2 := tn2.size
  have al := (New.refl w2).alloc (.cells #[.int .i64 E, .slice (some ⟨g1, 0, none⟩) xs.length c1, .int .i64 T, .slice (some ⟨g2, 0, none⟩) ys.length c2] 25)
  have bV := Blk.mk w2 w2.heap.size 25 #[.int .i64 E, .slice (some ⟨g1, 0, none⟩) xs.length c1, .int .i64 T, .slice (some ⟨g2, 0, none⟩) ys.length c2] rfl
  go_upto_region 3 with fail
  have N3 := N2.trans al
  have bR3 := bR2.new al
  have hs3 := hs2.new al
  have hW3 := hW.new al
  have s3 := al.size
  generalize w2.alloc (.cells #[.int .i64 E, .slice (some ⟨g1, 0, none⟩) xs.length c1, .int .i64 T, .slice (some ⟨g2, 0, none⟩) ys.length c2] 25) = w3 at *
  have cV := bV.cells
  have hne : ¬ w.heap.size = w2.heap.size := by omega
  have ly := hW3.n2
  clear hs1 hs2 hW bR bR1 bR2 N1 N2 al hn1 tn2 h
  go_wp2_with fail
  refine (next_sc hs3 ((ys.length : Int) + 1) (by omega) (by omega)).mono ?_
  rintro e w4 ⟨r4, rfl, dr4, hs4, tn4⟩
  have hr4 : 0 ≤ r4 ∧ r4 < (ys.length : Int) + 1 := ⟨dr4.1, dr4.2.1 (by omega)⟩
  have N4 := N3.before tn4 (fun i hi e => by omega)
  have bR4 := bR3.turn tn4 (by omega)
  have bV4 := bV.turn tn4 (by omega)
  have hW4 := hW3.turn tn4 (fun k hk e => by omega)
  have s4 := tn4.size
  have al := (New.refl w4).alloc (.cells #[.int .i64 (ys.length : Int), .int .i64 r4, .int .i64 (ys.length : Int), .int .i64 ((ys.length : Int) + 1), .int .i64 (-1)] 2)
  have bL := Blk.mk w4 w4.heap.size 2 #[.int .i64 (ys.length : Int), .int .i64 r4, .int .i64 (ys.length : Int), .int .i64 ((ys.length : Int) + 1), .int .i64 (-1)] rfl
  clear hs3 N3 bR3 bV hW3 tn4 cV dr4
  go_wp2_with fail
  refine (pick_sc (hs4.new al) [(ys.length : Int), r4, (ys.length : Int), (ys.length : Int) + 1, -1] bL 5 rfl (by omega) (by omega) (by omega)).mono ?_
  rintro e w5 ⟨at9, rfl, hat, hs5, tn5⟩
  have HAT : Hid (-1 ≤ at9 ∧ at9 ≤ 3000) := by
    unfold Hid
    simp at hat
    omega
  have hat1 := HAT.out.1
  have hat2 := HAT.out.2
  have N5 := (N4.trans al).before tn5 (fun i hi e => by omega)
  have bR5 := (bR4.new al).turn tn5 (by omega)
  have bV5 := (bV4.new al).turn tn5 (by omega)
  have hW5 := (hW4.new al).turn tn5 (fun k hk e => by omega)
  have s5 := (al.turn (S := fun k => k = B)).trans tn5 (fun _ _ e => e) |>.size
  clear hs4 N4 bR4 bV4 hW4 al bL hat tn5
  go_wp2_with fail
  refine (next_sc hs5 9 (by omega) (by omega)).mono ?_
  rintro e w6 ⟨r6, rfl, dr6, hs6, tn6⟩
  have N6 := N5.before tn6 (fun i hi e => by omega)
  have bR6 := bR5.turn tn6 (by omega)
  have bV6 := bV5.turn tn6 (by omega)
  have hW6 := hW5.turn tn6 (fun k hk e => by omega)
  have s6 := tn6.size
  obtain ⟨k6, rfl⟩ : ∃ k6 : Nat, r6 = k6 := ⟨r6.toNat, by have := dr6.1; omega⟩
  have hk6 : k6 < 9 := by have := dr6.2.1 (by omega); omega
  clear hs5 N5 bR5 bV5 hW5 tn6 dr6
  go_wp2_with fail
  refine (some_sc hs6 k6 (by omega) (by omega) (by intro x hz hx; have := ha x hz hx; omega)).mono ?_
  rintro e w7 ⟨g3, f, t7, us, rfl, hg3, ht7, o3, hub, hs7, tn7⟩
  have N7 := N6.before tn7 (fun i hi e => by omega)
  have bR7 := bR6.turn tn7 (by omega)
  have bV7 := bV6.turn tn7 (by omega)
  have hW7 := hW6.turn tn7 (fun k hk e => by omega)
  have s7 := tn7.size
  have hul : us.length = k6 := by simpa using o3.1
  subst hul
  have hcu : us.length ≤ f := by
    rcases o3.2 with ⟨h', _⟩ | ⟨g', cap', cur, h', _, _, hc', _⟩
    · cases h'
    · simp at h'; omega
  have Q7 : BsAt w7 (some ⟨g3, 0, none⟩) us := BsAt.of_own o3 hub
  have HT7 : Hid (t7 ≤ 100000) := by unfold Hid; omega
  have HG3 : Hid (w.heap.size < g3 ∧ B < g3) := ⟨by omega, by omega⟩
  clear hs6 N6 bR6 bV6 hW6 tn7 o3
  by_cases hin : 0 ≤ at9 ∧ at9 ≤ (ys.length : Int)
  · go_wp2_with fail
    refine (in_yes at9 0 ys.length _ hin).mono ?_
    rintro e wq ⟨rfl, hq'⟩
    obtain rfl := hq'.symm
    go_wp2_with fail
    refine (chance_sc hs7 2 (by omega) (by omega)).mono ?_
    rintro e w8 ⟨bb, rfl, hs8, tn8⟩
    have N8 := N7.before tn8 (fun i hi e => by omega)
    have bR8 := bR7.turn tn8 (by omega)
    have bV8 := bV7.turn tn8 (by omega)
    have hW8 := hW7.turn tn8 (fun k hk e => by omega)
    have Q8 := Q7.turn tn8 (fun x hx e => by cases hx; have := HG3.out; simp at e; omega)
    have s8 := tn8.size
    clear hs7 N7 bR7 bV7 hW7 tn8 Q7
    cases bb with
    | true =>
      obtain ⟨an, rfl⟩ : ∃ an : Nat, at9 = an := ⟨at9.toNat, by omega⟩
      obtain ⟨en, hen⟩ : ∃ en : Nat, en = min ys.length (an + 5) := ⟨_, rfl⟩
      obtain ⟨b2, d2, hcut, hbs, hno⟩ := cutM (some ⟨g2, 0, none⟩) c2 an en ys (.inr ⟨g2, 0, rfl⟩) hW8.l2 (by omega) (by omega)
      obtain ⟨vs, hvs⟩ : ∃ vs, (ys.drop an).take (en - an) = vs := ⟨_, rfl⟩
      have hvl : vs.length = en - an := by rw [← hvs, List.length_take, List.length_drop]; omega
      have hvb : ∀ z ∈ vs, 0 ≤ z ∧ z ≤ 255 := by rw [← hvs]; exact fun z hz => hW8.b2.lt z (List.mem_of_mem_drop (List.mem_of_mem_take hz))
      have HEN : Hid (min (ys.length : Int) ((an : Int) + 5) = (en : Int)) := by unfold Hid; omega
      rw [hvs] at hbs
      rw [← hvl] at hcut hno
      have hv5 : vs.length ≤ 5 := by omega
      have HNO : Hid (b2 = none → vs.length = 0 ∧ d2 = 0) := hno
      have HBS : Hid (∀ W, BsAt W (some ⟨g2, 0, none⟩) ys → BsAt W b2 vs) := hbs
      have hes : en ≤ 2001 := by omega
      have hwr : IntKind.i64.wrap ((an : Int) + 5) = (an : Int) + 5 := by simp [IntKind.wrap, IntKind.signed, IntKind.bits]; omega
      clear hvs hbs hno hvl hen hin
      have N0 : New w8 (w8.alloc (.cells #[] 5)).drew := ((New.refl _).alloc _).drew
      have L0 : OvB (w8.alloc (.cells #[] 5)).drew w8.heap.size (.slice (some ⟨w8.heap.size, 0, none⟩) 0 0) [] := (lit_ovW w8).new ((New.refl _).drew)
      have L0b := L0.blk
      have cV := bV8.cells
      have cVd := (bV8.new ((New.refl _).drew)).cells
      have cVa := (bV8.new N0).cells
      go_upto_region 7 with fail
      go_region_held3 (fun X => ∀ j, X.cell? ⟨w2.heap.size, j, none⟩ = (#[.int .i64 E, .slice (some ⟨g1, 0, none⟩) xs.length c1, .int .i64 T, .slice (some ⟨g2, 0, none⟩) ys.length c2] : Array Value)[j]?) (first | (with_reducible exact cV) | (with_reducible exact cVd) | (with_reducible exact cVa) | (with_reducible exact cV10) | (with_reducible exact cV11))
        (first
          | (go_at_call 23; refine (l1Min_any (ys.length : Int) ((an : Int) + 5) _).mono ?_; rw [HEN.out]; rintro e wq ⟨rfl, rfl⟩)
          | (refine step_apB _ rfl (.tmp 40) (.tmp 48) rfl w8.heap.size Tryd.underlying22 hi hz0 hz1 hz2 _ [] rfl L0 b2 vs.length d2 vs rfl (HBS.out _ (hW8.b2.new N0)) rfl HNO.out (by simp; omega) N0.size ?_; intro v10 w10 ho10 hg10; have n10 : New w8 w10 := N0.grow hg10 (fun k hk => L0b k hk); have o10 : OvB w10 w8.heap.size v10 vs := (by first | exact ho10 | (unfold OvB; simpa using ho10)); have o10b := o10.blk; have cV10 := (bV8.new n10).cells)
          | (refine step_apB _ rfl (.tmp 49) (.tmp 50) rfl w8.heap.size Tryd.underlying22 hi hz0 hz1 hz2 v10 vs rfl o10 (some ⟨g3, 0, none⟩) us.length f us rfl (Q8.new n10) rfl (by intro h; cases h) (by omega) n10.size ?_; intro v11 w11 ho11 hg11; have n11 : New w8 w11 := n10.grow hg11 (fun k hk => o10b k hk); have o11 : OvB w11 w8.heap.size v11 (vs ++ us) := (by first | exact ho11 | (unfold OvB; simpa using ho11)); have cV11 := (bV8.new n11).cells))
      all_goals
        clear cV cVd cVa cV10 cV11
        obtain ⟨US, hUS⟩ : ∃ US, vs ++ us = US := ⟨_, rfl⟩
        have hUb : ∀ z ∈ US, 0 ≤ z ∧ z ≤ 255 := by rw [← hUS]; exact fun z hz => (List.mem_append.1 hz).elim (hvb z) (hub z)
        have HQL : Hid (US.length ≤ 100) := by unfold Hid; rw [← hUS, List.length_append]; omega
        rw [hUS] at o11
        obtain ⟨q, f9, rfl, hq9, hc9, hs9', -⟩ := o11.bs hUb
        have HQS : Hid ((q = none ∧ US.length = 0 ∧ f9 = 0) ∨ ∃ g o, q = some ⟨g, o, none⟩) := by
          rcases hs9' with h | ⟨g, h, _⟩
          · exact .inl h
          · exact .inr ⟨g, 0, h⟩
        have HQC : Hid (US.length ≤ f9) := hc9
        have HQB : Hid (∀ x, q = some x → ¬ x.block = B) := by
          rintro x rfl e
          rcases hs9' with ⟨h, _⟩ | ⟨g, h, h1, _⟩
          · cases h
          · obtain rfl := Option.some.inj h
            simp at e
            omega
        have HQR : Hid (∀ x, q = some x → ¬ x.block = w.heap.size) := by
          rintro x rfl e
          rcases hs9' with ⟨h, _⟩ | ⟨g, h, h1, _⟩
          · cases h
          · obtain rfl := Option.some.inj h
            simp at e
            omega
        have HQx : Hid (BsAt w11 q US) := hq9
        have bVx := bV8.new n11
        have bRx := bR8.new n11
        have hsx := hs8.new n11
        have hWx := hW8.new n11
        have Nx := N8.trans n11
        have HTX : Hid (t7 + 1 ≤ 100000) := by have := HT7.out; unfold Hid; omega
        clear hs9' hUS hq9 hc9 o11 hcu
        have sx := n11.size
        have cV := bVx.cells
        have cVd := (bVx.new ((New.refl _).drew)).cells
        have e0 := hWx.e0
        have e1 := hWx.e1
        go_upto_region 8 with fail
        go_region_held3 (fun X => ∀ j, X.cell? ⟨w2.heap.size, j, none⟩ = (#[.int .i64 E, .slice (some ⟨g1, 0, none⟩) xs.length c1, .int .i64 T, .slice (some ⟨g2, 0, none⟩) ys.length c2] : Array Value)[j]?) (first | (with_reducible exact cV) | (with_reducible exact cVd) | (with_reducible exact cV9) | (intro j; rw [cellW hne, cellW hne, cellW hne, cellW hne]; with_reducible exact cV9 j))
          (first
            | (go_at_call 24; refine (l11Epoch_sc (hsx.new ((New.refl _).drew)) HTX.out E T _ _ _ _ _ _ e0 e1).mono ?_; rintro e w9 ⟨ep, rfl, hs9, tn9⟩; have cV9 := ((bVx.new ((New.refl _).drew)).turn tn9 (by omega)).cells; have bR9 := (bRx.new ((New.refl _).drew)).turn tn9 (by omega); have N9 := (Nx.drew).before tn9 (fun i hi e => by omega); have hW9 := (hWx.new ((New.refl _).drew)).turn tn9 (fun k hk e => by omega); have Q9 := (HQx.out.new ((New.refl _).drew)).turn tn9 (fun x hx e => HQB.out x hx e); have cR := bR9.cells; have fR := bR9.frees))
        all_goals
          clear cV cVd cV9
          go_wp2
          refine bodyPost_ret (v := .tuple #[.agg #[.int .i64 E, .slice (some ⟨g1, 0, none⟩) xs.length c1, .int .i64 T, .slice (some ⟨g2, 0, none⟩) ys.length c2], .int .i64 ep, .int .i64 an, .slice q US.length f9]) (by simp [results, Tryd.results6, go_sem, cR]) rfl ?_
          have tr := fin4 w9 w.heap.size (.int .i64 E) (.slice (some ⟨g1, 0, none⟩) xs.length c1) (.int .i64 T) (.slice (some ⟨g2, 0, none⟩) ys.length c2)
          have hWf := hW9.turn tr (fun k hk e => by omega)
          exact ⟨E, T, ep, an, g1, c1, g2, c2, q, f9, xs, ys, US, rfl, ⟨hWf.e0, hWf.e1, hWf.b1, hWf.b2, hWf.l1, hWf.l2, hWf.n1, hWf.n2, by have := hWf.h1; omega, by have := hWf.h2; omega⟩, Q9.turn tr (fun x hx e => HQR.out x hx e), HQS.out, HQC.out, HQL.out, HAT.out, N9.before tr (fun i hi e => by omega)⟩
    | false =>
      have bVx := bV8
      have bRx := bR8
      have hsx := hs8
      have hWx := hW8
      have Nx := N8
      have HTX : Hid (t7 + 1 ≤ 100000) := by have := HT7.out; unfold Hid; omega
      have HQx : Hid (BsAt _ (some ⟨g3, 0, none⟩) us) := Q8
      have HQS : Hid (((some ⟨g3, 0, none⟩ : Option Addr) = none ∧ us.length = 0 ∧ f = 0) ∨ ∃ g o, (some ⟨g3, 0, none⟩ : Option Addr) = some ⟨g, o, none⟩) := .inr ⟨g3, 0, rfl⟩
      have HQC : Hid (us.length ≤ f) := hcu
      have HQL : Hid (us.length ≤ 100) := by unfold Hid; omega
      have HQB : Hid (∀ x, (some ⟨g3, 0, none⟩ : Option Addr) = some x → ¬ x.block = B) := by rintro x hx e; cases hx; have := HG3.out; simp at e; omega
      have HQR : Hid (∀ x, (some ⟨g3, 0, none⟩ : Option Addr) = some x → ¬ x.block = w.heap.size) := by rintro x hx e; cases hx; have := HG3.out; simp at e; omega
      have cV := bVx.cells
      have cVd := (bVx.new ((New.refl _).drew)).cells
      have e0 := hWx.e0
      have e1 := hWx.e1
      go_upto_region 8 with fail
      go_region_held3 (fun X => ∀ j, X.cell? ⟨w2.heap.size, j, none⟩ = (#[.int .i64 E, .slice (some ⟨g1, 0, none⟩) xs.length c1, .int .i64 T, .slice (some ⟨g2, 0, none⟩) ys.length c2] : Array Value)[j]?) (first | (with_reducible exact cV) | (with_reducible exact cVd) | (with_reducible exact cV9) | (intro j; rw [cellW hne, cellW hne, cellW hne, cellW hne]; with_reducible exact cV9 j))
        (first
          | (go_at_call 24; refine (l11Epoch_sc (hsx.new ((New.refl _).drew)) HTX.out E T _ _ _ _ _ _ e0 e1).mono ?_; rintro e w9 ⟨ep, rfl, hs9, tn9⟩; have cV9 := ((bVx.new ((New.refl _).drew)).turn tn9 (by omega)).cells; have bR9 := (bRx.new ((New.refl _).drew)).turn tn9 (by omega); have N9 := (Nx.drew).before tn9 (fun i hi e => by omega); have hW9 := (hWx.new ((New.refl _).drew)).turn tn9 (fun k hk e => by omega); have Q9 := (HQx.out.new ((New.refl _).drew)).turn tn9 (fun x hx e => HQB.out x hx e); have cR := bR9.cells; have fR := bR9.frees))
      all_goals
        clear cV cVd cV9
        go_wp2
        refine bodyPost_ret (v := .tuple #[.agg #[.int .i64 E, .slice (some ⟨g1, 0, none⟩) xs.length c1, .int .i64 T, .slice (some ⟨g2, 0, none⟩) ys.length c2], .int .i64 ep, .int .i64 at9, .slice (some ⟨g3, 0, none⟩) us.length f]) (by simp [results, Tryd.results6, go_sem, cR]) rfl ?_
        have tr := fin4 w9 w.heap.size (.int .i64 E) (.slice (some ⟨g1, 0, none⟩) xs.length c1) (.int .i64 T) (.slice (some ⟨g2, 0, none⟩) ys.length c2)
        have hWf := hW9.turn tr (fun k hk e => by omega)
        exact ⟨E, T, ep, at9, g1, c1, g2, c2, some ⟨g3, 0, none⟩, f, xs, ys, us, rfl, ⟨hWf.e0, hWf.e1, hWf.b1, hWf.b2, hWf.l1, hWf.l2, hWf.n1, hWf.n2, by have := hWf.h1; omega, by have := hWf.h2; omega⟩, Q9.turn tr (fun x hx e => HQR.out x hx e), HQS.out, HQC.out, HQL.out, HAT.out, N9.before tr (fun i hi e => by omega)⟩
  · go_wp2_with fail
    refine (in_no at9 0 ys.length _ (by omega)).mono ?_
    rintro e wq ⟨rfl, hq'⟩
    obtain rfl := hq'.symm
    have bVx := bV7
    have bRx := bR7
    have hsx := hs7
    have hWx := hW7
    have Nx := N7
    have HTX : Hid (t7 ≤ 100000) := HT7.out
    have Q8 := Q7
    have HQx : Hid (BsAt _ (some ⟨g3, 0, none⟩) us) := Q8
    have HQS : Hid (((some ⟨g3, 0, none⟩ : Option Addr) = none ∧ us.length = 0 ∧ f = 0) ∨ ∃ g o, (some ⟨g3, 0, none⟩ : Option Addr) = some ⟨g, o, none⟩) := .inr ⟨g3, 0, rfl⟩
    have HQC : Hid (us.length ≤ f) := hcu
    have HQL : Hid (us.length ≤ 100) := by unfold Hid; omega
    have HQB : Hid (∀ x, (some ⟨g3, 0, none⟩ : Option Addr) = some x → ¬ x.block = B) := by rintro x hx e; cases hx; have := HG3.out; simp at e; omega
    have HQR : Hid (∀ x, (some ⟨g3, 0, none⟩ : Option Addr) = some x → ¬ x.block = w.heap.size) := by rintro x hx e; cases hx; have := HG3.out; simp at e; omega
    have cV := bVx.cells
    have cVd := (bVx.new ((New.refl _).drew)).cells
    have e0 := hWx.e0
    have e1 := hWx.e1
    go_upto_region 8 with fail
    go_region_held3 (fun X => ∀ j, X.cell? ⟨w2.heap.size, j, none⟩ = (#[.int .i64 E, .slice (some ⟨g1, 0, none⟩) xs.length c1, .int .i64 T, .slice (some ⟨g2, 0, none⟩) ys.length c2] : Array Value)[j]?) (first | (with_reducible exact cV) | (with_reducible exact cVd) | (with_reducible exact cV9) | (intro j; rw [cellW hne, cellW hne, cellW hne, cellW hne]; with_reducible exact cV9 j))
      (first
        | (go_at_call 24; refine (l11Epoch_sc (hsx.new ((New.refl _).drew)) HTX.out E T _ _ _ _ _ _ e0 e1).mono ?_; rintro e w9 ⟨ep, rfl, hs9, tn9⟩; have cV9 := ((bVx.new ((New.refl _).drew)).turn tn9 (by omega)).cells; have bR9 := (bRx.new ((New.refl _).drew)).turn tn9 (by omega); have N9 := (Nx.drew).before tn9 (fun i hi e => by omega); have hW9 := (hWx.new ((New.refl _).drew)).turn tn9 (fun k hk e => by omega); have Q9 := (HQx.out.new ((New.refl _).drew)).turn tn9 (fun x hx e => HQB.out x hx e); have cR := bR9.cells; have fR := bR9.frees))
    all_goals
      clear cV cVd cV9
      go_wp2
      refine bodyPost_ret (v := .tuple #[.agg #[.int .i64 E, .slice (some ⟨g1, 0, none⟩) xs.length c1, .int .i64 T, .slice (some ⟨g2, 0, none⟩) ys.length c2], .int .i64 ep, .int .i64 at9, .slice (some ⟨g3, 0, none⟩) us.length f]) (by simp [results, Tryd.results6, go_sem, cR]) rfl ?_
      have tr := fin4 w9 w.heap.size (.int .i64 E) (.slice (some ⟨g1, 0, none⟩) xs.length c1) (.int .i64 T) (.slice (some ⟨g2, 0, none⟩) ys.length c2)
      have hWf := hW9.turn tr (fun k hk e => by omega)
      exact ⟨E, T, ep, at9, g1, c1, g2, c2, some ⟨g3, 0, none⟩, f, xs, ys, us, rfl, ⟨hWf.e0, hWf.e1, hWf.b1, hWf.b2, hWf.l1, hWf.l2, hWf.n1, hWf.n2, by have := hWf.h1; omega, by have := hWf.h2; omega⟩, Q9.turn tr (fun x hx e => HQR.out x hx e), HQS.out, HQC.out, HQL.out, HAT.out, N9.before tr (fun i hi e => by omega)⟩

end Go.Proofs.YtkjhjfdgkinpjaaDoor
