/- What is proved here: for every list of bytes the law on frames returns true, and the list reads as it did. No condition. -/
import Derived.Test.YtopkihgdemcneaaOpen
import Derived.Test.YtopkihgdemcneaaFnFrLib
import Derived.Deep.RegionHeld3
namespace Go.Proofs.Ytopkihgdemcneaa
open Go.ChangeShapes Go.WideShapes Go.ChangeAt Go.RowKit
set_option linter.unusedVariables false

set_option maxHeartbeats 6400000 in
set_option maxRecDepth 100000 in
theorem frames_walk (a : Option Addr) (n c : Nat) (zs : List Int) (w : World) (h : BsAt w a zs) (hn : zs.length = n) (hm : n ≤ maxLen) (hnone : a = none → n = 0 ∧ c = 0) :
    Calls Try.prog 3 #[.slice a n c] w fun e w' => e = .returned (.bool true) ∧ New w w' := by
  by_cases hbig : 1048576 < n
  · go_enter Try.func3, Try.ntmps3
    go_wp2_with fail
    refine (big_yes a n c _ hbig).mono ?_
    rintro e w1 ⟨rfl, rfl⟩
    go_wp2
    go_ret
    exact ⟨rfl, New.refl _⟩
  · have hz := h.lt
    have hm' : n ≤ 1048576 := by omega
    clear hm
    have HN : Hid (zs.length = n) := hn
    clear hn
    obtain ⟨i0, hi, hz0, hz1, hz2⟩ := info_parts Try.infoU8
    obtain ⟨iF, hiF, hF0, hF1, hF2⟩ := info_parts Try.infoFr
    go_enter Try.func3, Try.ntmps3
    go_wp2_with fail
    refine (big_no a n c _ hbig).mono ?_
    rintro e w ⟨rfl, rfl⟩
    go_wp2_with fail
    go_loopw [3, 4, 5] (fun s3 s4 s5 wr => ∃ (j ga na ca gl nl cl : Nat) (F : List Fr), j ≤ 3 ∧ s5 = .int .u8 j ∧ s3 = .slice (some ⟨ga, 0, none⟩) na ca ∧ s4 = .slice (some ⟨gl, 0, none⟩) nl cl ∧ L1 w wr j ga na ca gl nl cl F) (fun _ _ s5 _ => 3 - (intOf s5).toNat)
    case atStart =>
      refine ⟨0, w.heap.size, 0, 0, w.heap.size + 1, 0, 0, [], by omega, rfl, rfl, rfl, ⟨?_, Nat.le_refl _, OwF.lit _ _ _ _ (by simp) (by omega) (by simp), by simp, Nat.le_refl _, ((New.refl w).alloc _).alloc _, (by intro i f x hf; simp at hf)⟩⟩
      exact own_new (New.lit (w := w) 0 [] w.heap.size rfl rfl (by omega) #[] rfl) ((New.refl _).alloc _)
    case round =>
      obtain ⟨j, ga, na, ca, gl, nl, cl, F, hj, rfl, rfl, rfl, hL⟩ := hrel
      by_cases hlt : j < 3
      · have hbs := h.new hL.new
        have hA0 := (New.refl wr).alloc (.cells #[.int .u8 j] 5)
        have ho0 := New.lit (w := wr) 1 [(j : Int)] wr.heap.size rfl rfl (by omega) #[.int .u8 j] rfl
        have hs0 := hL.new.size
        go_wp2_with (at_builtin; refine wpList_ap _ rfl (.tmp 21) (.tmp 22) rfl 0 Try.underlying22 hi hz0 hz1 hz2 (.slice (some ⟨wr.heap.size, 0, none⟩) 1 1) 1 [(j : Int)] rfl ho0 a n c zs rfl (hbs.new hA0) HN.out hnone (by omega) (by omega) (Nat.zero_le _) (wr.heap.size + 1) (by simp) ?_)
        intro g1 cap1 w1 ho1 hgr1 hat1
        have hn1 : New wr w1 := hA0.grow hgr1 (by intro k hk; simp [Value.ownBlock] at hk; omega)
        have hb1 : BsAt w1 (some ⟨g1, 0, none⟩) ([(j : Int)] ++ zs) := BsAt.of_own ho1 (by intro y hy; rcases List.mem_append.1 hy with h' | h'; (simp at h'; omega); exact hz y h')
        have hlt1 := (ho1.lt g1 rfl).2
        clear hgr1 hat1 ho1 ho0
        go_wp2_with fail
        refine (drawPack_any g1 0 (1 + n) cap1 ([(j : Int)] ++ zs) _ hb1 (by have := HN.out; simp; omega) (by omega) hlt1).mono ?_
        rintro e w2 ⟨k2, g2, m2, cap2, ys2, rfl, hk0, hk5, hm121, hg2, ho2, hys2, hn2⟩
        have hl2 : ys2.length = m2 := by simpa using ho2.1
        have HL2 : Hid (ys2.length = m2) := hl2
        have hA2 := (New.refl w2).alloc (.cells #[.int .i64 k2, .slice (some ⟨g2, 0, none⟩) m2 cap2] 26)
        have b6 := Blk.mk w2 w2.heap.size 26 #[.int .i64 k2, .slice (some ⟨g2, 0, none⟩) m2 cap2] rfl
        have hn12 := (hn1.trans hn2).trans hA2
        have ho22 := own_new ho2 hA2
        have z1 := hn1.size
        have z2 := hn2.size
        have hlt2 := (ho2.lt g2 rfl).2
        have c6 := b6.cells
        clear hl2 hb1 ho2 hn1 hn2
        go_wp2_with fail
        refine (implPackFrame_any k2 _ m2 cap2 ys2 _ (BsAt.of_own ho22 hys2) HL2.out (by omega) (by intro h; cases h)).mono ?_
        rintro e w3 ⟨a3, m3, cap3, ys3, rfl, ho3, hys3, hp3, hn3, HY, hnil3⟩
        rw [HL2.out] at HY
        have hfl : ff k2 ys2.length = ff k2 m2 := by rw [HL2.out]
        simp only [hfl]
        have hA3 := (New.refl w3).alloc (.cells #[.int .i64 (ff k2 m2), .slice a3 m3 cap3] 29)
        have b7 := Blk.mk w3 w3.heap.size 29 #[.int .i64 (ff k2 m2), .slice a3 m3 cap3] rfl
        have b67 := b6.new (hn3.trans hA3)
        have hn13 := hn12.trans (hn3.trans hA3)
        have z3 := hn3.size
        simp at z3
        have c6 := b67.cells
        have c7 := b7.cells
        have l67 : w2.heap.size < w3.heap.size := by omega
        clear b6 hfl
        by_cases hff : ff k2 m2 = 0
        · obtain ⟨k1, k4, kl⟩ := ff_zero hff
          rw [if_pos hff] at HY
          have hf0 : (ff k2 m2 != 0) = false := by simp [hff]
          have hl3 : ys3.length = m3 := ho3.1
          have hm3 : m3 = m2 + 5 := by rw [← hl3, HY, packOf_length, HL2.out]
          subst hm3
          have HL3 : Hid (ys3.length = m2 + 5) := hl3
          have HY3 : Hid (ys3 = packOf k2 ys2) := HY
          have hgood : Good (k2, ys2) := ⟨k1, k4, by simp only; have := HL2.out; omega, hys2⟩
          have hL3 := hL.later hn13
          have hbs3 := (ho3.bs hys3).new hA3
          have ho23 := own_new ho22 (hn3.trans hA3)
          have hna : na ≤ 375 := by
            have h1 : (flatP (F.map Fr.out)).length = na := by simpa using hL.all.1
            have h2 := flat_len (fs := F.map Fr.out) (by intro x hx; obtain ⟨f, hf, rfl⟩ := List.mem_map.1 hx; exact hL.good f hf)
            have h3 := hL.few
            simp only [List.length_map] at h2
            omega
          have hnl : nl ≤ 3 := by have := hL.lst.len; have := hL.few; omega
          have HG : Hid (Good (k2, ys2)) := hgood
          have hga6 : w2.heap.size ≠ ga := b67.ne_own hL3.all (by decide)
          clear HY hff hl3 ho3 hys3 ho22 hgood
          go_wp2_with (at_builtin; refine wpList_ap _ rfl (.tmp 42) (.tmp 44) rfl 0 Try.underlying22 hi hz0 hz1 hz2 (.slice (some ⟨ga, 0, none⟩) na ca) na (flatP (F.map Fr.out)) rfl hL3.all a3 (m2 + 5) cap3 ys3 rfl hbs3 HL3.out hnil3 (by omega) (by omega) (Nat.zero_le _) (w3.heap.size + 1) (by simp) ?_)
          intro g4 cap4 w4 ho4 hgr4 hat4
          have b64 := b67.grow hgr4 (by simp [Value.ownBlock]; omega)
          have c64 := b64.cells
          have t4 : Turn (fun k => k = ga) (w3.alloc (.cells #[.int .i64 (ff k2 m2), .slice a3 (m2 + 5) cap3] 29)) w4 := Turn.of_grown hgr4
          have hl4 := hL3.lst.turnF t4 (fun x hx => by obtain rfl := Option.some.inj hx; exact fun e => hL3.lst.ne hL3.all e.symm) (fun i f x hf hx => hL3.far i f x hf hx)
          clear c6 c7 b67 b7
          go_wp2_with (at_builtin; refine wpList_append_lies _ rfl (.tmp 46) (.tmp 48) 24 rfl 0 26 iF (.agg #[.int .i64 0, .slice none 0 0]) 2 32 Try.underlying24 hiF hF0 hF1 hF2 rfl (by decide) (.slice (some ⟨gl, 0, none⟩) nl cl) nl (cellsF F) rfl (hl4.value.alloc _) ⟨w4.heap.size, 0, none⟩ 1 1 [.int .i64 k2, .slice (some ⟨g2, 0, none⟩) m2 cap2] rfl rfl (World.news_of_block (heap_alloc_new _ _)) (by intro v hv; simp at hv; rcases hv with rfl | rfl <;> rfl) (by omega) (by unfold maxLen; omega) (by omega) (Nat.zero_le _) (w4.heap.size + 1) (by simp) ?_)
          intro g5 cap5 w5 ho5 hgr5 hat5 hlt5
          have hfin := L1.more hL hn13 (by omega) ho23 hys2 HG.out (by rw [HY3.out] at ho4; simpa using ho4) hgr4 (by rcases hat4 with e | e; (left; simpa [Value.ownBlock] using e); (right; simpa using e)) ho5 hgr5 (by rcases hat5 with e | e; (left; simpa [Value.ownBlock] using e); (right; exact e))
          clear ho4 hgr4 hat4 ho5 hgr5 hat5 hlt5 hl4 t4 c64 b64 hL hL3
          go_wp2
          go_roundw
          case rel => exact ⟨j + 1, g4, _, cap4, g5, _, cap5, _, by omega, by go_num, rfl, rfl, hfin⟩
          case measure => simp [intOf]; omega
        · have hf1 : (ff k2 m2 != 0) = true := by simp [hff]
          have hqq : (ff k2 m2 != ff k2 m2) = false := by simp
          clear hff HY
          go_wp2_with fail
          go_region_held3 (fun W => (∀ i, W.cell? ⟨w2.heap.size, i, none⟩ = #[Value.int .i64 k2, .slice (some ⟨g2, 0, none⟩) m2 cap2][i]?) ∧ (∀ i, W.cell? ⟨w3.heap.size, i, none⟩ = #[Value.int .i64 (ff k2 m2), .slice a3 m3 cap3][i]?)) (first | exact ⟨c6, c7⟩ | exact ⟨c6a, c7a⟩ | exact ⟨c6b, c7b⟩)
            (first
              | (go_at_call 8; refine (implFF k2 _ m2 cap2 _ (by omega)).mono ?_; rintro e w4 ⟨rfl, hn4⟩; have hd4 := ((New.refl _).drew).trans hn4; have c6a := (b67.new hd4).cells; have c7a := (b7.new hd4).cells)
              | (go_at_call 9; refine (specFF k2 _ m2 cap2 _ (by omega)).mono ?_; rintro e w5 ⟨rfl, hn5⟩; have c6b := (b67.new (hd4.trans hn5)).cells; have c7b := (b7.new (hd4.trans hn5)).cells))
          have hfin := hL.later (hn13.trans (hd4.trans hn5))
          go_wp2
          go_roundw
          case rel => exact ⟨j + 1, ga, na, ca, gl, nl, cl, F, by omega, by go_num, rfl, rfl, ⟨hfin.all, hfin.agt, hfin.lst, hfin.good, by have := hfin.few; omega, hfin.new, hfin.far⟩⟩
          case measure => simp [intOf]; omega
      · obtain rfl : j = 3 := by omega
        have hgd : ∀ x ∈ F.map Fr.out, Good x := by intro x hx; obtain ⟨f, hf, rfl⟩ := List.mem_map.1 hx; exact hL.good f hf
        have hna : (flatP (F.map Fr.out)).length = na := by simpa using hL.all.1
        have hF3 : (F.map Fr.out).length ≤ 3 := by rw [List.length_map]; exact hL.few
        have hfl := flat_len hgd
        have hRu := splitR_all hgd hF3
        rw [hna] at hRu hfl
        have hnl : (F.map Fr.out).length = nl := by rw [List.length_map]; exact hL.lst.len
        have hnac : na ≤ ca := by
          rcases hL.all.2 with ⟨h', _⟩ | ⟨_, _, _, h', _, _, hle, _⟩
          · simp at h'
          · simp only [Value.slice.injEq, Option.some.injEq, Addr.mk.injEq, and_true, true_and] at h'
            omega
        have hbs := h.new hL.new
        have hab : BsAt wr (some ⟨ga, 0, none⟩) (flatP (F.map Fr.out)) := BsAt.of_own hL.all (flat_bd hgd)
        have hRv := fun c hc => splitR_cut hgd hF3 c hc
        have HRv : Hid _ := hRv
        have HGd : Hid _ := hgd
        have HNa : Hid ((flatP (F.map Fr.out)).length = na) := hna
        have HNl : Hid ((F.map Fr.out).length = nl) := hnl
        have hIu := fun W hW => implSplit_any ga 0 na ca (flatP (F.map Fr.out)) W hW HNa.out hnac (by omega)
        rw [hRu] at hIu
        have HIu : Hid _ := hIu
        have hn375 : na ≤ 375 := by omega
        have hnl3 : nl ≤ 3 := by omega
        clear hRv hgd hna hnl hIu hRu hF3 hfl
        go_wp2_with fail
        refine (lwAt_any a n c 1 ((na : Int) + 1) zs _ hbs HN.out (by omega) (by omega) (by omega) (by omega)).mono ?_
        rintro e w1 ⟨r, rfl, hr0, hr1, hn1⟩
        obtain ⟨cut, rfl⟩ := Int.eq_ofNat_of_zero_le hr0
        obtain ⟨jv, hjv, hRv, hlv⟩ := HRv.out cut (by have := HNa.out; omega)
        have hab1 := hab.new hn1
        have hcc : cut ≤ ca := by omega
        go_wp2_with fail
        refine (HIu.out _ hab1).mono ?_
        rintro e w2 ⟨au, nu, cu, Fu, rfl, hFu, hn2, hfu⟩
        simp only at hfu
        have hA2 := (New.refl w2).alloc (.cells #[.int .i64 0, .int .i64 na, .slice au nu cu] 34)
        have b9 := Blk.mk w2 w2.heap.size 34 #[.int .i64 0, .int .i64 na, .slice au nu cu] rfl
        obtain rfl : nu = nl := by rw [← hFu.len, ← HNl.out, hfu, List.length_map]
        have hab2 := hab1.new (hn2.trans hA2)
        have HLc : Hid (((flatP (F.map Fr.out)).take cut).length = cut) := by unfold Hid; rw [List.length_take, HNa.out]; omega
        have hIv := fun W hW => implSplit_any ga 0 cut ca ((flatP (F.map Fr.out)).take cut) W hW HLc.out hcc (by omega)
        rw [hRv] at hIv
        generalize (flatP ((F.map Fr.out).take jv)).length = lv at *
        have HIv : Hid _ := hIv
        have HFu : Hid (F.map Fr.out = Fu.map Fr.out) := hfu
        clear hRv hIv hfu hab hab1 hbs
        go_wp2_with fail
        refine (HIv.out _ (hab2.take cut)).mono ?_
        rintro e w3 ⟨av, nv, cv, Fv, rfl, hFv, hn3, hfv⟩
        simp only at hfv
        have HFv : Hid ((F.map Fr.out).take jv = Fv.map Fr.out) := hfv
        have hnv : nv ≤ nu := by
          have h1 := congrArg List.length hfv
          have h2 := hFv.len
          have h3 := HNl.out
          simp only [List.length_take, List.length_map] at h1 h3
          omega
        have hA3 := (New.refl w3).alloc (.cells #[.int .i64 0, .int .i64 lv, .slice av nv cv] 34)
        have b10 := Blk.mk w3 w3.heap.size 34 #[.int .i64 0, .int .i64 lv, .slice av nv cv] rfl
        have b9' := b9.new (hn3.trans hA3)
        have hFu' := (hFu.new hA2).new (hn3.trans hA3)
        have hFv' := hFv.new hA3
        have hLs := hL.lst.new ((hn1.trans (hn2.trans hA2)).trans (hn3.trans hA3))
        have hnw := hL.new.trans ((hn1.trans (hn2.trans hA2)).trans (hn3.trans hA3))
        have c9 := b9'.cells
        have c10 := b10.cells
        have q1 : ((na : Int) != (na : Int)) = false := by simp
        have q2 : ((nu : Int) != (nu : Int)) = false := by simp
        clear hfv b9 hFu hFv hL hab2 hn1 hn2 hn3 hA2 hA3 hnone
        go_wp2_with fail
        go_loopw [11] (fun s wq => ∃ (k : Nat), k ≤ nu ∧ s = .int .i64 k ∧ New (w3.alloc (.cells #[.int .i64 0, .int .i64 lv, .slice av nv cv] 34)) wq) (fun s _ => nu - (intOf s).toNat)
        case atStart => exact ⟨0, Nat.zero_le _, rfl, New.refl _⟩
        case round =>
          obtain ⟨k, hk, rfl, hq⟩ := hrel
          by_cases hlk : k < nu
          · obtain ⟨g1, f1, rfl, hf1, x0, x1, bs1, -, -⟩ := (hFu'.new hq).at k hlk
            obtain ⟨g2, f2, e2, hf2, y0, y1, bs2, -, -⟩ := (hLs.new hq).at k hlk
            simp only [Option.some.injEq, Addr.mk.injEq, and_true] at e2
            subst e2
            have hff : f1.out = f2.out := by
              have h1 : (Fu.map Fr.out)[k]? = some f1.out := by rw [List.getElem?_map, hf1]; rfl
              have h2 : (F.map Fr.out)[k]? = some f2.out := by rw [List.getElem?_map, hf2]; rfl
              rw [← HFu.out, h2] at h1
              exact (Option.some.inj h1).symm
            have n1 := (hFu'.new hq).bnil k f1 hf1
            have n2 := (hLs.new hq).bnil k f2 hf2
            have c9q := (b9'.new hq).cells
            have c10q := (b10.new hq).cells
            obtain ⟨k1, z1, a1, d1⟩ := f1
            obtain ⟨k2, z2, a2, d2⟩ := f2
            simp only [Fr.out, Prod.mk.injEq] at hff
            obtain ⟨rfl, rfl⟩ := hff
            simp only at x0 x1 y0 y1 bs1 bs2 n1 n2
            have r1 : ∀ i, (convert 22 9 (.slice a1 z1.length d1)).run Try.prog (wr.drewN i) = .ok (.string (strOf z1)) (wr.drewN i) := fun i => run_str a1 _ d1 z1 _ (bs1.new ((New.refl _).drewN i)) rfl n1
            have r2 : ∀ i, (convert 22 9 (.slice a2 z1.length d2)).run Try.prog (wr.drewN i) = .ok (.string (strOf z1)) (wr.drewN i) := fun i => run_str a2 _ d2 z1 _ (bs2.new ((New.refl _).drewN i)) rfl n2
            have kk : (k1 != k1) = false := by simp
            generalize hSS : strOf z1 = S at *
            have ss : (S.toList == S.toList) = true := by simp
            clear hf1 c9 c10 bs1 bs2 n1 n2
            by_cases hkv : k < nv
            · obtain ⟨g3, f3, rfl, hf3, v0, v1, bs3, -, -⟩ := (hFv'.new hq).at k hkv
              have hf3o : f3.out = (k1, z1) := by
                have h1 : (Fv.map Fr.out)[k]? = some f3.out := by rw [List.getElem?_map, hf3]; rfl
                have h2 : (F.map Fr.out)[k]? = some (k1, z1) := by rw [List.getElem?_map, hf2]; rfl
                rw [← HFv.out, List.getElem?_take] at h1
                split at h1
                · rw [h2] at h1; exact (Option.some.inj h1).symm
                · cases h1
              have n3 := (hFv'.new hq).bnil k f3 hf3
              obtain ⟨k3, z3, a3, d3⟩ := f3
              simp only [Fr.out, Prod.mk.injEq] at hf3o
              obtain ⟨rfl, rfl⟩ := hf3o
              simp only at v0 v1 bs3 n3
              have r3 : ∀ i, (convert 22 9 (.slice a3 z3.length d3)).run Try.prog (wr.drewN i) = .ok (.string (strOf z3)) (wr.drewN i) := fun i => run_str a3 _ d3 z3 _ (bs3.new ((New.refl _).drewN i)) rfl n3
              have hki : (k : Int) < (nv : Int) := by omega
              have hsS : strOf z3 = S := hSS
              simp only [hsS] at r3
              clear hf2 hf3 bs3 n3 hSS hsS
              go_wp2_with fail
              go_quiet (fail)
              go_wp2
              go_roundw
              case rel => exact ⟨k + 1, by omega, by go_num, hq.drewN _⟩
              case measure => simp [intOf]; omega
            · have hkv' : decide ((k : Int) < (nv : Int)) = false := by simp; omega
              clear hf2 hSS
              go_wp2_with fail
              go_quiet (fail)
              go_wp2
              go_roundw
              case rel => exact ⟨k + 1, by omega, by go_num, hq.drewN _⟩
              case measure => simp [intOf]; omega
          · go_wp2
            go_ret
            exact ⟨rfl, hnw.trans hq⟩

set_option maxRecDepth 100000 in
theorem frames_lifted (os : Os) (started : os.Started) (H : Type) (enc : TypeId × Value → H) :
    ReturnsInHanded {} Try.checked os 3 .any (Rows.fnFramesSpec.pre6 enc Try.prog Try.f3 Rows.fnFramesRow.domain false) (Rows.fnFramesSpec.post enc Try.prog Try.f3 false true false false) := by
  refine returnsInHanded_of_change (C := Try.checked) own started (by kernel_rfl) Try.func3
    (ChangeSpec.witness6 (enc := enc) (C := Try.checked) false ⟨#[], #[.slice none 0 0], []⟩ 8 (by kernel_rfl) (by kernel_rfl) (by kernel_rfl) (by kernel_rfl)) ?_
  intro W base args ds gs before hval0 hW hcnd _
  have hval : ∀ (j : Nat) t v, Try.f3.params[j]? = some t → args[j]? = some v → Value.okWide Try.prog W .any base t v := hval0
  have hW' := hW
  obtain ⟨p, q, hA0, hV, rfl, hfz, hnd⟩ := hW
  have hA : DataW.TrodAll enc Try.prog W 0 (fun _ => true) true Try.f3.params.toList args.toList ds p := hA0
  rw [Try.params3] at hA hval
  obtain ⟨v0, vs0, d0, ds0, p0, q0, hargs, rfl, rfl, h0, r0⟩ := trodAll_cons hA
  obtain ⟨rfl, rfl, rfl⟩ := trodAll_nil r0
  obtain rfl : args = #[v0] := by cases args; simp_all
  obtain ⟨rfl, rfl⟩ := trodVars_none hV
  have k0 := h0
  have lt0 : ∀ x ∈ p0, x.block < W.heap.size := by obtain ⟨m, hm⟩ := k0; exact DataW.trod_lt m _ _ _ hm
  obtain ⟨a0, len0, cap0, rfl⟩ := okWide_slice Try.underlying22 (hval 0 22 v0 rfl rfl)
  have nil0 := open_nil h0
  obtain ⟨z0, b0, e0, m0⟩ := open_bytes h0
  clear hA0 hval0
  refine (frames_walk a0 len0 cap0 z0 W b0 e0 m0.2 nil0).mono fun e W' ⟨he, new⟩ => ?_
  have bel := new.below
  subst he
  exact ⟨_, rfl, _, _, _, [], _, [], hW', trodAll_mk1 (shut_bool Try.underlying4 _), (trodAll_cons_mk (Below.trod laidOut (by kernel_rfl) (of_decide_eq_true (by kernel_rfl)) k0 bel lt0) trodAll_mk0), rfl, bel.frame _, fun h => by cases h⟩

theorem frames_holds : Rows.FnFramesSaid :=
  OpenClaim.holds_of_wide 3 Try.f3 rfl rfl rfl rfl rfl rfl rfl ⟨rfl, rfl, rfl, rfl, rfl⟩ rfl rfl rfl rfl rfl (by kernel_rfl) Try.func3 (by kernel_rfl)
    (of_decide_eq_true (by kernel_rfl)) (by unfold Func.isWrapper; first | (rw [if_pos (by decide +kernel)]; kernel_rfl) | (rw [if_neg (by decide +kernel)]; exact ⟨rfl, rfl⟩))
    (fun os started H enc _ => frames_lifted os started H enc)

end Go.Proofs.Ytopkihgdemcneaa
