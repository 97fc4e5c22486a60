/- What is proved here: what the reader of frames answers, for every list of at most 400 bytes. -/
import Derived.Test.YtopkihgdemcneaaReadLib
namespace Go.Proofs.Ytopkihgdemcneaa
open Go.RowKit
attribute [local go_sem] jumps_normal jumps_ret

set_option maxHeartbeats 6400000 in
set_option maxRecDepth 100000 in
theorem read_any (b off n c : Nat) (zs : List Int) (w : World) (h : BsAt w (some ⟨b, off, none⟩) zs) (hn : zs.length = n) (hc : n ≤ c) (hm : n ≤ 400) :
    Calls Try.prog 22 #[.slice (some ⟨b, off, none⟩) n c] w fun e w' => SplitAns w (splitF (n + 1) zs) e w' := by
  have hfd : ∀ (x y : Int) (w : World), (Instr.field 38 (.agg #[.int .i64 x, .int .i64 y]) 1).run Try.prog w = .ok (.int .i64 y) w := fun _ _ _ => by kernel_rfl
  have HN : Hid (zs.length = n) := hn
  have hs0 : SplitAt zs 0 [] (splitF (n + 1) zs) := by have := SplitAt.start zs; rw [hn] at this; exact this
  clear hn
  generalize splitF (n + 1) zs = R at *
  go_enter Try.func22, Try.ntmps22
  go_wp2
  refine wp_scope_many (ReadJ w b off n c zs R) ?pass ?first
  case first =>
    intro hrest
    have HR : Hid _ := hrest
    clear hrest
    go_wp2
    go_step3
    rename_i hK
    apply hK
    refine HR.out 0 (n + 1) _ _ _ ⟨_, _, _, _, _, _, _, _, _, _, _, _, _, _, _, _, _, _, _, _, _, _, _, _, _, _, _, _, _, _, _, _, _, _, _, _, _, _, _, _, _, _, _, _, _, _, _, _, _, _, _, 0, 0, none, 0, 0, [], rfl, ⟨((New.refl w).alloc _).alloc _, (Blk.mk w w.heap.size _ _ rfl).alloc _, Blk.mk _ _ _ _ (by simp), OwF.empty _ _ _⟩, Nat.zero_le _, by simp, .inl ⟨rfl, rfl, rfl, hs0⟩⟩ rfl
  case pass =>
    clear hs0
    intro l m x wr hx
    obtain ⟨u4, u5, u6, u7, u8, u9, u10, u11, u12, u13, u14, u15, u16, u17, u18, u19, u20, u21, u22, u23, u24, u25, u26, u27, u28, u29, u30, u31, u32, u33, u34, u35, u36, u37, u38, u39, u40, u41, u42, u43, u44, u45, u46, u47, u48, u49, u50, u51, u52, u53, u54, code, u, a', n', c', F, rfl, hrw, hu, h5F, hJ⟩ := hx
    rcases hJ with ⟨rfl, rfl, rfl, hsp⟩ | ⟨rfl, rfl, hR⟩
    · refine ⟨_, rfl, ?_⟩
      have c3 := hrw.b3.cells
      have f3 := hrw.b3.frees
      have hz := h.lt
      by_cases hun : u = n
      · have HD : Hid (zs.drop u = []) := List.drop_of_length_le (by have := HN.out; omega)
        have HR : Hid (R = (0, u, F.map Fr.out)) := hsp.done (by have := HN.out; omega) (by rw [HD.out]; rfl) (by rw [HD.out]; simp)
        subst hun
        clear hsp
        by_cases hcu : u = c
        all_goals first | subst hcu | (have hcu' : ¬ c = u := fun e => hcu e.symm)
        all_goals
          go_wp2_with fail
          refine (wrong_any _ 0 _ [] _ (BsAt.nil _ _) rfl (Nat.zero_le _) (by omega)).mono ?_
          rintro e w1 ⟨rfl, rfl⟩
          have hwb : wrongB [] = false := rfl
          go_wp2
          go_step3
          exact ⟨0, by omega, _, _, _, _, _, _, _, _, _, _, _, _, _, _, _, _, _, _, _, _, _, _, _, _, _, _, _, _, _, _, _, _, _, _, _, _, _, _, _, _, _, _, _, _, _, _, _, _, _, _, _, 0, u, a', n', c', F, rfl, hrw, hu, h5F, .inr ⟨rfl, rfl, HR.out⟩⟩
      · have hlt : u < n := by omega
        have hcu : ¬ c = u := by omega
        have hl : (zs.drop u).length = n - u := by rw [List.length_drop, HN.out]
        have HL : Hid ((zs.drop u).length = n - u) := hl
        have hbs := (h.new hrw.new).drop u
        have hzl : ∀ z ∈ zs.drop u, 0 ≤ z ∧ z ≤ 255 := fun z hz' => hz z (List.mem_of_mem_drop hz')
        have hun' : u ≤ zs.length := by rw [HN.out]; omega
        have c3 := hrw.b3.cells
        have f3 := hrw.b3.frees
        have HS : Hid (SplitAt zs u (F.map Fr.out) R) := hsp
        have HU : Hid (u ≤ zs.length) := hun'
        have HZ : Hid (∀ z ∈ zs.drop u, 0 ≤ z ∧ z ≤ 255) := hzl
        have hnl : ((n - u : Nat) : Int) = (n : Int) - (u : Int) := by omega
        clear hsp hl hun hun' hzl hz
        have hstop : ∀ x, headM (zs.drop u) = x → x ≠ 0 → R = (x, u, F.map Fr.out) := fun x hx h0 => by rw [← hx]; exact HS.out.stop HU.out (by rw [hx]; exact h0)
        have hdone : headM (zs.drop u) = 0 → ((zs.drop u).length < 5 ∨ (zs.drop u).length < szM (zs.drop u)) → R = (0, u, F.map Fr.out) := fun h0 h1 => HS.out.done HU.out h0 h1
        have hnext : headM (zs.drop u) = 0 → 5 ≤ (zs.drop u).length → szM (zs.drop u) ≤ (zs.drop u).length → SplitAt zs (u + szM (zs.drop u)) (F.map Fr.out ++ [((zs.drop u).getD 4 0, ((zs.drop u).take (szM (zs.drop u))).drop 5)]) R := fun h0 h5 h1 => HS.out.next HU.out h0 h5 h1
        clear HS HU
        generalize zs.drop u = l at *
        have HSt : Hid _ := hstop
        have HDo : Hid _ := hdone
        have HNx : Hid _ := hnext
        clear hstop hdone hnext
        by_cases hwb : wrongB l = true
        · have HH : Hid (R = (1, u, F.map Fr.out)) := HSt.out 1 (head_wrong hwb) (by omega)
          go_wp2_with fail
          refine (wrong_any _ (n - u) _ l _ hbs HL.out (by omega) (by omega)).mono ?_
          rintro e w1 ⟨rfl, rfl⟩
          go_wp2
          go_step3
          exact ⟨0, by omega, _, _, _, _, _, _, _, _, _, _, _, _, _, _, _, _, _, _, _, _, _, _, _, _, _, _, _, _, _, _, _, _, _, _, _, _, _, _, _, _, _, _, _, _, _, _, _, _, _, _, _, 1, u, a', n', c', F, rfl, hrw.put 1, hu, h5F, .inr ⟨rfl, rfl, HH.out⟩⟩
        · have hwf : wrongB l = false := by simpa using hwb
          have hhd := head_right hwf
          rw [HL.out] at hhd
          have HHd : Hid _ := hhd
          clear hwb hhd
          by_cases h4 : n - u < 4
          · have HH : Hid (R = (0, u, F.map Fr.out)) := HDo.out (by rw [HHd.out, if_neg (by omega), if_neg (by omega)]) (.inl (by rw [HL.out]; omega))
            go_wp2_with fail
            refine (wrong_any _ (n - u) _ l _ hbs HL.out (by omega) (by omega)).mono ?_
            rintro e w1 ⟨rfl, rfl⟩
            go_wp2
            go_step3
            exact ⟨0, by omega, _, _, _, _, _, _, _, _, _, _, _, _, _, _, _, _, _, _, _, _, _, _, _, _, _, _, _, _, _, _, _, _, _, _, _, _, _, _, _, _, _, _, _, _, _, _, _, _, _, _, _, 0, u, a', n', c', F, rfl, hrw, hu, h5F, .inr ⟨rfl, rfl, HH.out⟩⟩
          · have hN := fun W hW => implNum_good (some ⟨b, off + u, none⟩) (n - u) (c - u) 2 2 l W hW HL.out (by omega) (by omega) (by omega) (by omega) (by omega)
            by_cases hv : numAt l 2 2 < 5 ∨ 125 < numAt l 2 2
            · have HH : Hid (R = (2, u, F.map Fr.out)) := HSt.out 2 (by rw [HHd.out, if_pos ⟨by omega, hv⟩]) (by omega)
              have HNu : Hid _ := hN
              clear hN
              by_cases hv5 : numAt l 2 2 < 5
              all_goals
                go_wp2_with fail
                refine (wrong_any _ (n - u) _ l _ hbs HL.out (by omega) (by omega)).mono ?_
                rintro e w1 ⟨rfl, rfl⟩
                go_wp2_with fail
                refine (HNu.out _ hbs).mono ?_
                rintro e w2 ⟨rfl, hn2⟩
                have hrw2 := hrw.later hn2
                have c3 := hrw2.b3.cells
                have f3 := hrw2.b3.frees
                go_wp2
                go_step3
                exact ⟨0, by omega, _, _, _, _, _, _, _, _, _, _, _, _, _, _, _, _, _, _, _, _, _, _, _, _, _, _, _, _, _, _, _, _, _, _, _, _, _, _, _, _, _, _, _, _, _, _, _, _, _, _, _, 2, u, a', n', c', F, rfl, hrw2.put 2, hu, h5F, .inr ⟨rfl, rfl, HH.out⟩⟩
            · obtain ⟨sz, hsz⟩ : ∃ sz : Nat, numAt l 2 2 = sz := ⟨(numAt l 2 2).toNat, by omega⟩
              have hszM : szM l = sz := by unfold szM; omega
              have hs5 : 5 ≤ sz := by omega
              have hs125 : sz ≤ 125 := by omega
              simp only [hsz] at hN
              have HNu : Hid _ := hN
              have HSz : Hid (szM l = sz) := hszM
              have HV : Hid (¬ (3 < n - u ∧ (numAt l 2 2 < 5 ∨ 125 < numAt l 2 2))) := fun x => hv x.2
              clear hN hszM hsz hv
              by_cases h5 : n - u < 5
              · have HH : Hid (R = (0, u, F.map Fr.out)) := HDo.out (by rw [HHd.out, if_neg HV.out, if_neg (by omega)]) (.inl (by rw [HL.out]; omega))
                go_wp2_with fail
                refine (wrong_any _ (n - u) _ l _ hbs HL.out (by omega) (by omega)).mono ?_
                rintro e w1 ⟨rfl, rfl⟩
                go_wp2_with fail
                refine (HNu.out _ hbs).mono ?_
                rintro e w2 ⟨rfl, hn2⟩
                have hrw2 := hrw.later hn2
                go_wp2
                go_step3
                exact ⟨0, by omega, _, _, _, _, _, _, _, _, _, _, _, _, _, _, _, _, _, _, _, _, _, _, _, _, _, _, _, _, _, _, _, _, _, _, _, _, _, _, _, _, _, _, _, _, _, _, _, _, _, _, _, 0, u, a', n', c', F, rfl, hrw2, hu, h5F, .inr ⟨rfl, rfl, HH.out⟩⟩
              · obtain ⟨b', off', z4, e', hz4, c4, y4, y4'⟩ := hbs.at 4 (by have := HL.out; omega)
                simp only [Option.some.injEq, Addr.mk.injEq, and_true] at e'
                obtain ⟨rfl, rfl⟩ := e'
                have HG : Hid (l.getD 4 0 = z4) := getD_of hz4
                clear hz4
                by_cases hk : z4 < 1 ∨ 4 < z4
                · have HH : Hid (R = (3, u, F.map Fr.out)) := HSt.out 3 (by rw [HHd.out, if_neg HV.out, if_pos ⟨by omega, by rw [HG.out]; exact hk⟩]) (by omega)
                  go_wp2_with fail
                  refine (wrong_any _ (n - u) _ l _ hbs HL.out (by omega) (by omega)).mono ?_
                  rintro e w1 ⟨rfl, rfl⟩
                  go_wp2_with fail
                  refine (HNu.out _ hbs).mono ?_
                  rintro e w2 ⟨rfl, hn2⟩
                  have hrw2 := hrw.later hn2
                  have hbs2 := hbs.new hn2
                  have c4 := (hn2.cells _ _ (World.block_lt_of_cell? _ _ c4)).trans c4
                  have c3 := hrw2.b3.cells
                  have f3 := hrw2.b3.frees
                  go_wp2_with fail
                  refine (isKind_no _ _ hk).mono ?_
                  rintro e w3 ⟨rfl, rfl⟩
                  go_wp2
                  go_step3
                  exact ⟨0, by omega, _, _, _, _, _, _, _, _, _, _, _, _, _, _, _, _, _, _, _, _, _, _, _, _, _, _, _, _, _, _, _, _, _, _, _, _, _, _, _, _, _, _, _, _, _, _, _, _, _, _, _, 3, u, a', n', c', F, rfl, hrw2.put 3, hu, h5F, .inr ⟨rfl, rfl, HH.out⟩⟩
                · have hk' : 1 ≤ z4 ∧ z4 ≤ 4 := by omega
                  have HH0 : Hid (headM l = 0) := by unfold Hid; rw [HHd.out, if_neg HV.out, if_neg (by rw [HG.out]; omega)]
                  clear hk
                  by_cases hls : n - u < sz
                  · have HH : Hid (R = (0, u, F.map Fr.out)) := HDo.out HH0.out (.inr (by rw [HL.out, HSz.out]; omega))
                    go_wp2_with fail
                    refine (wrong_any _ (n - u) _ l _ hbs HL.out (by omega) (by omega)).mono ?_
                    rintro e w1 ⟨rfl, rfl⟩
                    go_wp2_with fail
                    refine (HNu.out _ hbs).mono ?_
                    rintro e w2 ⟨rfl, hn2⟩
                    have hrw2 := hrw.later hn2
                    have hbs2 := hbs.new hn2
                    have c4 := (hn2.cells _ _ (World.block_lt_of_cell? _ _ c4)).trans c4
                    have c3 := hrw2.b3.cells
                    have f3 := hrw2.b3.frees
                    go_wp2_with fail
                    refine (isKind_yes _ _ hk').mono ?_
                    rintro e w3 ⟨rfl, rfl⟩
                    go_wp2
                    go_step3
                    exact ⟨0, by omega, _, _, _, _, _, _, _, _, _, _, _, _, _, _, _, _, _, _, _, _, _, _, _, _, _, _, _, _, _, _, _, _, _, _, _, _, _, _, _, _, _, _, _, _, _, _, _, _, _, _, _, 0, u, a', n', c', F, rfl, hrw2, hu, h5F, .inr ⟨rfl, rfl, HH.out⟩⟩
                  · have hsp := HNx.out HH0.out (by rw [HL.out]; omega) (by rw [HL.out, HSz.out]; omega)
                    rw [HSz.out, HG.out] at hsp
                    have HSp : Hid _ := hsp
                    clear hsp
                    have hlt' : (l.take sz).length = sz := by rw [List.length_take, HL.out]; omega
                    have hk4 : (l.take sz).getD 4 0 = z4 := by
                      rw [← HG.out]
                      simp only [List.getD_eq_getElem?_getD]
                      rw [List.getElem?_take_of_lt (by omega)]
                    have hfo := fun W hW => frameOf_any b (off + u) sz (c - u) (l.take sz) W hW hlt' hs5 (by omega) (by omega)
                    simp only [hk4] at hfo
                    have HFo : Hid _ := hfo
                    have hld : ((l.take sz).drop 5).length = sz - 5 := by rw [List.length_drop, hlt']
                    have HLd : Hid (((l.take sz).drop 5).length = sz - 5) := hld
                    have hzd : ∀ z ∈ (l.take sz).drop 5, 0 ≤ z ∧ z ≤ 255 := fun z hz => HZ.out z (List.mem_of_mem_take (List.mem_of_mem_drop hz))
                    have HZd : Hid (∀ z ∈ (l.take sz).drop 5, 0 ≤ z ∧ z ≤ 255) := hzd
                    have hn'F := hrw.own.len
                    have hn100 : n' ≤ 80 := by omega
                    clear hlt' hk4 hfo hld hzd hn'F
                    generalize (l.take sz).drop 5 = body at *
                    go_wp2_with fail
                    refine (wrong_any _ (n - u) _ l _ hbs HL.out (by omega) (by omega)).mono ?_
                    rintro e w1 ⟨rfl, rfl⟩
                    go_wp2_with fail
                    refine (HNu.out _ hbs).mono ?_
                    rintro e w2 ⟨rfl, hn2⟩
                    have hrw2 := hrw.later hn2
                    have hbs2 := hbs.new hn2
                    have c4 := (hn2.cells _ _ (World.block_lt_of_cell? _ _ c4)).trans c4
                    have c3 := hrw2.b3.cells
                    have f3 := hrw2.b3.frees
                    go_wp2_with fail
                    refine (isKind_yes _ _ hk').mono ?_
                    rintro e w2 ⟨rfl, rfl⟩
                    have hszc : sz ≤ c - u := by omega
                    have hrow := hrw2.own.block_ge
                    have HRow : Hid _ := hrow
                    obtain ⟨iF, hiF, hF0, hF1, hF2⟩ := info_parts Try.infoFr
                    clear hrow
                    go_wp2_with fail
                    go_region_law (first
                      | (refine step_append_lies _ rfl (.tmp 41) (.tmp 46) 24 rfl 0 26 iF (.agg #[.int .i64 0, .slice none 0 0]) 2 32 Try.underlying24 hiF hF0 hF1 hF2 rfl (by decide) (.slice a' n' c') n' (cellsF F) rfl (hrw3.own.value.alloc _) ⟨w3.heap.size, 0, none⟩ 1 1 [.int .i64 z4, .slice a3 (sz - 5) c3'] rfl rfl (World.news_of_block (heap_alloc_new _ _)) (by intro v hv; simp at hv; rcases hv with rfl | rfl <;> rfl) (by omega) (by unfold maxLen; omega) (by omega) (Nat.zero_le _) (w3.heap.size + 1) (by simp) ?_; intro g4 cap4 w4 ho4 hgr4 hat4 hlt4; have b34 := (hrw3.b3.alloc (.cells #[.int .i64 z4, .slice a3 (sz - 5) c3'] 26)).grow hgr4 (fun e => by have := HRow.out _ e; omega); have c34 := b34.cells; have f34 := b34.frees)
                      | (go_simp; go_at_call 32; refine (HFo.out _ ?_).mono ?_; exact (hbs2.take sz).new ((New.refl _).drew); rintro e w3 ⟨a3, c3', rfl, ho3, hp3, hnil3, hn3⟩; have hrw3 := hrw2.later (((New.refl _).drew).trans hn3); have c33 := hrw3.b3.cells; have f33 := hrw3.b3.frees; have l33 := hrw3.b3.lt))
                    all_goals
                      go_wp2
                      go_step3
                      have hF3 : OwF (w3.alloc (.cells #[.int .i64 z4, .slice a3 (sz - 5) c3'] 26)) (w.heap.size + 2) w2.heap.size a' n' c' F := hrw2.own.new ((((New.refl _).drew).trans hn3).alloc _)
                      have hs3 := hn3.size
                      have hs2 := hrw2.b3.lt
                      have e : cellsF [⟨z4, body, a3, c3'⟩] = [.int .i64 z4, .slice a3 (sz - 5) c3'] := by simp [cellsF, HLd.out]
                      have hsn := OwF.snoc (f := ⟨z4, body, a3, c3'⟩) hF3 hgr4 rfl (by rw [e]; exact ho4) (by simpa using hat4) (by simp; simp at hs3; omega) (by simp; simp at hs3; omega) (by show OwAt _ a3 body.length c3' body; rw [HLd.out]; exact ho3.new ((New.refl _).alloc _)) HZd.out (by intro x hx; have := hp3 x hx; simp at this ⊢; simp at hs3; omega) (by intro x hx; have := (hp3 x hx).1; simpa using this) (by intro hx; have := hnil3 hx; rw [HLd.out]; exact this)
                      have hrw4 := RW.more (hrw3.later ((New.refl _).alloc (.cells #[.int .i64 z4, .slice a3 (sz - 5) c3'] 26))) hgr4 HRow.out hsn
                      have hrw5 := hrw4.used ((u : Int) + sz)
                      have ec : ((u + sz : Nat) : Int) = (u : Int) + sz := by omega
                      refine ⟨n - (u + sz) + 1, by omega, _, _, _, _, _, _, _, _, _, _, _, _, _, _, _, _, _, _, _, _, _, _, _, _, _, _, _, _, _, _, _, _, _, _, _, _, _, _, _, _, _, _, _, _, _, _, _, _, _, _, _, 0, u + sz, some ⟨g4, 0, none⟩, n' + 1, cap4, F ++ [⟨z4, body, a3, c3'⟩], rfl, by rw [ec]; exact hrw5, by omega, by simp; omega, .inl ⟨rfl, rfl, rfl, ?_⟩⟩
                      rw [List.map_append]
                      exact HSp.out
    · refine ⟨_, rfl, ?_⟩
      have c3 := hrw.b3.cells
      have c2 := hrw.b2.cells
      have f2 := hrw.b2.frees
      go_wp2
      rw [jumps_ret]
      refine bodyPost_ret (v := .agg #[.int .i64 code, .int .i64 u, .slice a' n' c']) (by simp [results, Try.results22, go_sem, c2]) rfl ?_
      have t : Turn (fun k => k = w.heap.size) wr (((wr.setCell ⟨w.heap.size, 0, none⟩ (.int .i64 code)).setCell ⟨w.heap.size, 1, none⟩ (.int .i64 u)).setCell ⟨w.heap.size, 2, none⟩ (.slice a' n' c')) :=
        Turn.set (S := fun k => k = w.heap.size) (Turn.set (S := fun k => k = w.heap.size) (Turn.set (S := fun k => k = w.heap.size) (Turn.refl _ _) rfl _) rfl _) rfl _
      refine ⟨a', n', c', F, by rw [hR], ((hrw.own.turn t (by omega)).wide t.size).lower (by omega), ?_, by rw [hR]⟩
      exact ((hrw.new.setCell (Nat.le_refl _) _).setCell (Nat.le_refl _) _).setCell (Nat.le_refl _) _

end Go.Proofs.Ytopkihgdemcneaa
