/- What is proved here: what the two splittings into frames answer, for every list of at most 1048576 bytes. -/
import Derived.Test.YtopkihgdemcneaaRead
import Derived.Deep.LoopGhost
namespace Go.Proofs.Ytopkihgdemcneaa
open Go.RowKit

theorem RW.answer {w wr : World} {code : Int} {u : Nat} {a' : Option Addr} {n' c' : Nat} {F : List Fr} (h : RW w wr code u a' n' c' F) {R : Int × Nat × List (Int × List Int)} (hR : R = (code, u, F.map Fr.out)) :
    SplitAns w R (.returned (.agg #[.int .i64 code, .int .i64 u, .slice a' n' c'])) (((wr.setCell ⟨w.heap.size, 0, none⟩ (.int .i64 code)).setCell ⟨w.heap.size, 1, none⟩ (.int .i64 u)).setCell ⟨w.heap.size, 2, none⟩ (.slice a' n' c')) := by
  have t : Turn (fun k => k = w.heap.size) wr (((wr.setCell ⟨w.heap.size, 0, none⟩ (.int .i64 code)).setCell ⟨w.heap.size, 1, none⟩ (.int .i64 u)).setCell ⟨w.heap.size, 2, none⟩ (.slice a' n' c')) :=
    Turn.set (S := fun k => k = w.heap.size) (Turn.set (S := fun k => k = w.heap.size) (Turn.set (S := fun k => k = w.heap.size) (Turn.refl _ _) rfl _) rfl _) rfl _
  subst hR
  exact ⟨a', n', c', F, rfl, ((h.own.turn t (by omega)).wide t.size).lower (by omega), ((h.new.setCell (Nat.le_refl _) _).setCell (Nat.le_refl _) _).setCell (Nat.le_refl _) _, rfl⟩

theorem RW.next {w wr w3 w4 : World} {u z4 zk : Int} {a' a3 : Option Addr} {n' c' n3 c3 g4 cap4 : Nat} {F : List Fr} {body : List Int} (hrw : RW w wr 0 u a' n' c' F) (hn3 : New wr w3) (ho3 : OwAt w3 a3 n3 c3 body) (hlen : body.length = n3) (hzk : zk = z4)
    (hz : ∀ z ∈ body, 0 ≤ z ∧ z ≤ 255) (hl3 : ∀ x, a3 = some x → wr.heap.size ≤ x.block ∧ x.block < w3.heap.size) (hnil3 : a3 = none → n3 = 0 ∧ c3 = 0)
    (ho4 : w4.ownsRow 0 26 2 (.slice (some ⟨g4, 0, none⟩) (n' + 1) cap4) (n' + 1) (cellsF F ++ [.int .i64 zk, .slice a3 n3 c3])) (hgr4 : (w3.alloc (.cells #[.int .i64 zk, .slice a3 n3 c3] 26)).grownBy w4 (Value.slice a' n' c').ownBlock)
    (hat4 : (Value.slice a' n' c').ownBlock = some g4 ∨ g4 = w3.heap.size + 1) :
    RW w (w4.setCell ⟨w.heap.size + 1, 2, none⟩ (.slice (some ⟨g4, 0, none⟩) (n' + 1) cap4)) 0 u (some ⟨g4, 0, none⟩) (n' + 1) cap4 (F ++ [⟨z4, body, a3, c3⟩]) := by
  subst hzk
  subst hlen
  have hF3 : OwF (w3.alloc (.cells #[.int .i64 zk, .slice a3 body.length c3] 26)) (w.heap.size + 2) wr.heap.size a' n' c' F := hrw.own.new (hn3.alloc _)
  have hs3 := hn3.size
  have hs2 := hrw.b3.lt
  have hsn := OwF.snoc (f := ⟨zk, body, a3, c3⟩) hF3 hgr4 rfl (by simpa [cellsF] using ho4) (by simpa using hat4) (by simp; omega) (by simp; omega) (ho3.new ((New.refl _).alloc _)) hz (by intro x hx; have := hl3 x hx; simp; omega) (by intro x hx; exact (hl3 x hx).1) hnil3
  exact RW.more ((hrw.later hn3).later ((New.refl _).alloc _)) hgr4 hrw.own.block_ge hsn

/-- What SplitFrames answers. -/
def splitR (zs : List Int) : Int × Nat × List (Int × List Int) := if 400 < zs.length then (2, 0, []) else splitF (zs.length + 1) zs

set_option maxHeartbeats 800000 in
theorem implSplit_any (b off n c : Nat) (zs : List Int) (w : World) (h : BsAt w (some ⟨b, off, none⟩) zs) (hn : zs.length = n) (hc : n ≤ c) (hm : n ≤ 1048576) :
    Calls Try.prog 11 #[.slice (some ⟨b, off, none⟩) n c] w fun e w' => SplitAns w (splitR zs) e w' := by
  have hw := (New.refl w).alloc (.cells #[.int .i64 0, .int .i64 0, .slice none 0 0] 34)
  have b1 := Blk.mk w w.heap.size 34 #[.int .i64 0, .int .i64 0, .slice none 0 0] rfl
  by_cases hbig : 400 < n
  · have HR : Hid (splitR zs = (2, 0, [])) := by unfold Hid splitR; rw [if_pos (by omega)]
    clear hn
    go_enter Try.func11, Try.ntmps11
    go_wp2
    refine bodyPost_ret (v := .agg #[.int .i64 2, .int .i64 0, .slice none 0 0]) (by simp [results, Try.results11, go_sem]) rfl ?_
    rw [HR.out]
    exact ⟨none, 0, 0, [], rfl, OwF.empty _ _ _, (New.refl _).alloc _, rfl⟩
  · have HR : Hid (splitR zs = splitF (n + 1) zs) := by unfold Hid splitR; rw [if_neg (by omega), hn]
    have HN : Hid (zs.length = n) := hn
    clear hn
    go_enter Try.func11, Try.ntmps11
    go_wp2_with fail
    refine (read_any b off n c zs _ (h.new hw) HN.out hc (by omega)).mono ?_
    rintro e w1 ⟨a', n', c', F, rfl, ho, hn1, hF⟩
    have b2 := b1.new hn1
    have c2 := b2.cells
    have f2 := b2.frees
    have hw1 := hw.trans hn1
    generalize splitF (n + 1) zs = R at *
    obtain ⟨x, y, fs⟩ := R
    simp only at hF
    subst hF
    clear b1
    go_wp2
    have t : Turn (fun k => k = w.heap.size) w1 (((w1.setCell ⟨w.heap.size, 0, none⟩ (.int .i64 x)).setCell ⟨w.heap.size, 1, none⟩ (.int .i64 y)).setCell ⟨w.heap.size, 2, none⟩ (.slice a' n' c')) :=
      Turn.set (S := fun k => k = w.heap.size) (Turn.set (S := fun k => k = w.heap.size) (Turn.set (S := fun k => k = w.heap.size) (Turn.refl _ _) rfl _) rfl _) rfl _
    refine bodyPost_ret (v := .agg #[.int .i64 x, .int .i64 y, .slice a' n' c']) (by simp [results, Try.results11, go_sem, c2]) rfl ?_
    rw [HR.out]
    refine ⟨a', n', c', F, rfl, ((ho.turn t (by simp; omega)).wide t.size).lower (by simp), ?_, rfl⟩
    exact ((hw1.setCell (Nat.le_refl _) _).setCell (Nat.le_refl _) _).setCell (Nat.le_refl _) _

set_option maxHeartbeats 3200000 in
theorem specSplit_any (b off n c : Nat) (zs : List Int) (w : World) (h : BsAt w (some ⟨b, off, none⟩) zs) (hn : zs.length = n) (hc : n ≤ c) (hm : n ≤ 1048576) :
    Calls Try.prog 13 #[.slice (some ⟨b, off, none⟩) n c] w fun e w' => SplitAns w (splitR zs) e w' := by
  by_cases hbig : 400 < n
  · have HR : Hid (splitR zs = (2, 0, [])) := by unfold Hid splitR; rw [if_pos (by omega)]
    clear hn
    go_enter Try.func13, Try.ntmps13
    go_wp2
    refine bodyPost_ret (v := .agg #[.int .i64 2, .int .i64 0, .slice none 0 0]) (by simp [results, Try.results13, go_sem]) rfl ?_
    rw [HR.out]
    exact ⟨none, 0, 0, [], rfl, OwF.empty _ _ _, (New.refl _).alloc _, rfl⟩
  · have HR : Hid (splitR zs = splitF (n + 1) zs) := by unfold Hid splitR; rw [if_neg (by omega), hn]
    have HN : Hid (zs.length = n) := hn
    have hs0 : SplitAt zs 0 [] (splitF (n + 1) zs) := by have := SplitAt.start zs; rw [hn] at this; exact this
    rw [HR.out]
    clear hn HR
    generalize splitF (n + 1) zs = R at *
    have HS0 : Hid _ := hs0
    clear hs0
    go_enter Try.func13, Try.ntmps13
    go_wp2
    go_loopg [4] (n + 1) (fun k _ wr => ∃ (u : Nat) (a' : Option Addr) (n' c' : Nat) (F : List Fr), k = n - u + 1 ∧ RW w wr 0 u a' n' c' F ∧ u ≤ n ∧ 5 * F.length ≤ u ∧ SplitAt zs u (F.map Fr.out) R)
    case atStart => exact ⟨0, none, 0, 0, [], rfl, ⟨((New.refl w).alloc _).alloc _, (Blk.mk w w.heap.size _ _ rfl).alloc _, Blk.mk _ _ _ _ (by simp), OwF.empty _ _ _⟩, Nat.zero_le _, by simp, HS0.out⟩
    case round =>
      obtain ⟨u, a', n', c', F, HK, hrw, hu, h5F, hsp⟩ := hrel
      have HKk : Hid (gk = n - u + 1) := HK
      clear HK
      have c3 := hrw.b3.cells
      have f3 := hrw.b3.frees
      have c2 := hrw.b2.cells
      have f2 := hrw.b2.frees
      by_cases hun : u = n
      · have HD : Hid (zs.drop u = []) := List.drop_of_length_le (by have := HN.out; omega)
        have HH : Hid (R = (0, u, F.map Fr.out)) := hsp.done (by have := HN.out; omega) (by rw [HD.out]; rfl) (by rw [HD.out]; simp)
        have hh0 : headM [] = 0 := rfl
        have hA := fun a c W => head_any a 0 c [] W (BsAt.nil _ _) rfl (Nat.zero_le _)
        simp only [hh0] at hA
        have HA : Hid _ := hA
        subst hun
        clear hsp hA hh0
        by_cases hcu : u = c
        all_goals first | subst hcu | (have hcu' : ¬ c = u := fun e => hcu e.symm)
        all_goals
          go_wp2_with fail
          refine (HA.out _ _ _).mono ?_
          rintro e w1 ⟨rfl, rfl⟩
          go_wp2
          refine bodyPost_ret (v := .agg #[.int .i64 0, .int .i64 u, .slice a' n' c']) (by simp [results, Try.results13, go_sem, c2]) rfl ?_
          exact RW.answer hrw HH.out
      · have hlt : u < n := by omega
        have hcu : ¬ c = u := by omega
        have hl : (zs.drop u).length = n - u := by rw [List.length_drop, HN.out]
        have HL : Hid ((zs.drop u).length = n - u) := hl
        have hbs := (h.new hrw.new).drop u
        have hz := h.lt
        have hzl : ∀ z ∈ zs.drop u, 0 ≤ z ∧ z ≤ 255 := fun z hz' => hz z (List.mem_of_mem_drop hz')
        have hun' : u ≤ zs.length := by rw [HN.out]; omega
        have HZ : Hid (∀ z ∈ zs.drop u, 0 ≤ z ∧ z ≤ 255) := hzl
        have hnl : ((n - u : Nat) : Int) = (n : Int) - (u : Int) := by omega
        have hstop : headM (zs.drop u) ≠ 0 → R = (headM (zs.drop u), u, F.map Fr.out) := fun h0 => hsp.stop hun' h0
        have hdone : headM (zs.drop u) = 0 → ((zs.drop u).length < 5 ∨ (zs.drop u).length < szM (zs.drop u)) → R = (0, u, F.map Fr.out) := fun h0 h1 => hsp.done hun' h0 h1
        have hnext : headM (zs.drop u) = 0 → 5 ≤ (zs.drop u).length → szM (zs.drop u) ≤ (zs.drop u).length → SplitAt zs (u + szM (zs.drop u)) (F.map Fr.out ++ [((zs.drop u).getD 4 0, ((zs.drop u).take (szM (zs.drop u))).drop 5)]) R := fun h0 h5 h1 => hsp.next hun' h0 h5 h1
        have hhok : headM (zs.drop u) = 0 → 5 ≤ (zs.drop u).length → _ := fun h0 h5 => head_ok h0 h5
        have HSt : Hid _ := hstop
        have HDo : Hid _ := hdone
        have HNx : Hid _ := hnext
        have HOk : Hid _ := hhok
        clear hsp hl hun hun' hzl hz hstop hdone hnext hhok
        generalize zs.drop u = l at *
        have hA := fun W hW => head_any (some ⟨b, off + u, none⟩) (n - u) (c - u) l W hW HL.out (by omega)
        by_cases hh : headM l = 0
        · simp only [hh] at hA
          have HA : Hid _ := hA
          have HH0 : Hid (headM l = 0) := hh
          clear hA hh
          by_cases h5 : n - u < 5
          · have HH : Hid (R = (0, u, F.map Fr.out)) := HDo.out HH0.out (.inl (by rw [HL.out]; omega))
            go_wp2_with fail
            refine (HA.out _ hbs).mono ?_
            rintro e w1 ⟨rfl, rfl⟩
            go_wp2
            refine bodyPost_ret (v := .agg #[.int .i64 0, .int .i64 u, .slice a' n' c']) (by simp [results, Try.results13, go_sem, c2]) rfl ?_
            exact RW.answer hrw HH.out
          · have hok := HOk.out HH0.out (by rw [HL.out]; omega)
            obtain ⟨hs5, hs125, hk1, hk4, -, -, hsz⟩ := hok
            obtain ⟨sz, hszM⟩ : ∃ sz : Nat, szM l = sz := ⟨_, rfl⟩
            rw [hszM] at hs5 hs125 hsz
            have hT := fun W hW => take_any (some ⟨b, off + u, none⟩) (n - u) (c - u) 2 2 l W hW HL.out (by omega) (by omega) (by omega)
            simp only [← hsz] at hT
            have HT : Hid _ := hT
            have HSz : Hid (szM l = sz) := hszM
            obtain ⟨b', off', z4, e', hz4, c4, y4, y4'⟩ := hbs.at 4 (by have := HL.out; omega)
            simp only [Option.some.injEq, Addr.mk.injEq, and_true] at e'
            obtain ⟨rfl, rfl⟩ := e'
            have hg4 := getD_of hz4
            rw [hg4] at hk1 hk4
            have HG : Hid (l.getD 4 0 = z4) := hg4
            clear hT hszM hsz hz4 hg4
            by_cases hls : n - u < sz
            · have HH : Hid (R = (0, u, F.map Fr.out)) := HDo.out HH0.out (.inr (by rw [HL.out, HSz.out]; omega))
              go_wp2_with fail
              refine (HA.out _ hbs).mono ?_
              rintro e w1 ⟨rfl, rfl⟩
              go_wp2_with fail
              refine (HT.out _ hbs).mono ?_
              rintro e w1 ⟨rfl, rfl⟩
              go_wp2
              refine bodyPost_ret (v := .agg #[.int .i64 0, .int .i64 u, .slice a' n' c']) (by simp [results, Try.results13, go_sem, c2]) rfl ?_
              exact RW.answer hrw HH.out
            · have hsp := HNx.out HH0.out (by rw [HL.out]; omega) (by rw [HL.out, HSz.out]; omega)
              rw [HSz.out, HG.out] at hsp
              have HSp : Hid _ := hsp
              have hld : ((l.take sz).drop 5).length = sz - 5 := by rw [List.length_drop, List.length_take, HL.out]; omega
              have HLd : Hid (((l.take sz).drop 5).length = sz - 5) := hld
              have hzd : ∀ z ∈ (l.take sz).drop 5, 0 ≤ z ∧ z ≤ 255 := fun z hz => HZ.out z (List.mem_of_mem_take (List.mem_of_mem_drop hz))
              have HZd : Hid (∀ z ∈ (l.take sz).drop 5, 0 ≤ z ∧ z ≤ 255) := hzd
              have hn'F := hrw.own.len
              have hn100 : n' ≤ 80 := by omega
              have hsb : BsAt wr (some ⟨b, off + u + 5, none⟩) ((l.take sz).drop 5) := (hbs.take sz).drop 5
              have HB : Hid (BsAt wr (some ⟨b, off + u + 5, none⟩) ((l.take sz).drop 5)) := hsb
              clear hsp hld hzd hn'F hsb
              generalize (l.take sz).drop 5 = body at *
              have hszc : sz ≤ c - u := by omega
              have hblt : b < wr.heap.size := World.block_lt_of_cell? _ _ c4
              have HRow : Hid _ := hrw.own.block_ge
              obtain ⟨iF, hiF, hF0, hF1, hF2⟩ := info_parts Try.infoFr
              obtain ⟨i0, hi, hz0, hz1, hz2⟩ := info_parts Try.infoU8
              go_wp2_with fail
              refine (HA.out _ hbs).mono ?_
              rintro e wr ⟨rfl, rfl⟩
              go_wp2_with fail
              refine (HT.out _ hbs).mono ?_
              rintro e wr ⟨rfl, rfl⟩
              have l3 := hrw.b3.lt
              have h4n : (4 : Int) < (n : Int) - (u : Int) := by omega
              have h5i : (5 : Int) ≤ (sz : Int) := by omega
              have HW : Hid (IntKind.i64.wrap z4 = z4) := by unfold Hid; simp [IntKind.wrap, IntKind.signed, IntKind.bits]; omega
              have HO : Hid ((wr.alloc (.cells #[] 5)).drew.ownsRow 0 5 1 (.slice (some ⟨wr.heap.size, 0, none⟩) 0 0) 0 (([] : List Int).map (Value.int .u8))) := New.lit (w := wr) 0 [] wr.heap.size rfl rfl (by omega) #[] rfl
              have H1 : Hid ((wr.alloc (.cells #[] 5)).drew.heap.size = wr.heap.size + 1) := by unfold Hid; simp
              by_cases hc5 : c - u = 5
              · obtain rfl : sz = 5 := by omega
                have hb0 : body = [] := List.eq_nil_of_length_eq_zero (by have := HLd.out; omega)
                have HB2 : Hid (BsAt (wr.alloc (.cells #[] 5)).drew (some ⟨b, off + u, none⟩) body) := by rw [hb0]; exact BsAt.nil _ _
                clear hb0
                go_wp2_with fail
                go_region_law (first
                  | (refine step_ap2 _ rfl (.tmp 40) (.tmp 43) rfl 0 Try.underlying22 hi hz0 hz1 hz2 wr.heap.size 0 0 [] rfl HO.out ⟨b, off + u, none⟩ 0 0 body rfl HB2.out HLd.out (by omega) (Nat.zero_le _) (wr.heap.size + 1) H1.out ?_; intro g3 cap3 w3 ho3 hgr3 hat3; simp only [Nat.zero_add, List.nil_append] at ho3; have hn3 : New wr w3 := (((New.refl _).alloc _).drew).grow hgr3 (by intro j hj; have := Option.some.inj hj; omega); have hrw3 := hrw.later hn3; have c33 := hrw3.b3.cells; have f33 := hrw3.b3.frees; have l33 := hrw3.b3.lt; have c43 := (hn3.cells _ _ hblt).trans c4)
                  | (refine step_append_lies _ rfl (.tmp 35) (.tmp 46) 24 rfl 0 26 iF (.agg #[.int .i64 0, .slice none 0 0]) 2 32 Try.underlying24 hiF hF0 hF1 hF2 rfl (by decide) (.slice a' n' c') n' (cellsF F) rfl (hrw3.own.value.alloc _) ⟨w3.heap.size, 0, none⟩ 1 1 [.int .i64 (IntKind.i64.wrap z4), .slice (some ⟨g3, 0, none⟩) 0 cap3] rfl rfl (World.news_of_block (heap_alloc_new _ _)) (by intro v hv; simp at hv; rcases hv with rfl | rfl <;> rfl) (by omega) (by unfold maxLen; omega) (by omega) (Nat.zero_le _) (w3.heap.size + 1) (by simp) ?_; intro g4 cap4 w4 ho4 hgr4 hat4 hlt4; have b34 := (hrw3.b3.alloc _).grow hgr4 (fun e => by have := HRow.out _ e; omega); have c34 := b34.cells; have f34 := b34.frees))
                all_goals
                  go_wp2
                  go_roundg (n - (u + 5) + 1)
                  case measure => have := HKk.out; omega
                  case rel =>
                    have hg3 : wr.heap.size ≤ g3 := by omega
                    have hlt3 := (ho3.lt g3 rfl).2
                    have hrw4 := (RW.next (z4 := z4) hrw hn3 (OwAt.of_own ho3) HLd.out HW.out HZd.out (by intro x hx; obtain rfl := Option.some.inj hx; exact ⟨hg3, hlt3⟩) (by intro hx; cases hx) ho4 hgr4 hat4).used ((u : Int) + 5)
                    have ec : ((u + 5 : Nat) : Int) = (u : Int) + 5 := by omega
                    exact ⟨u + 5, _, _, _, _, rfl, by rw [ec]; exact hrw4, by omega, by simp; omega, by rw [List.map_append]; exact HSp.out⟩
              · have HB2 : Hid (BsAt (wr.alloc (.cells #[] 5)).drew (some ⟨b, off + u + 5, none⟩) body) := BsAt.new HB.out (((New.refl _).alloc _).drew)
                go_wp2_with fail
                go_region_law (first
                  | (refine step_ap2 _ rfl (.tmp 40) (.tmp 43) rfl 0 Try.underlying22 hi hz0 hz1 hz2 wr.heap.size 0 0 [] rfl HO.out ⟨b, off + u + 5, none⟩ (sz - 5) (c - u - 5) body rfl HB2.out HLd.out (by omega) (Nat.zero_le _) (wr.heap.size + 1) H1.out ?_; intro g3 cap3 w3 ho3 hgr3 hat3; simp only [Nat.zero_add, List.nil_append] at ho3; have hn3 : New wr w3 := (((New.refl _).alloc _).drew).grow hgr3 (by intro j hj; have := Option.some.inj hj; omega); have hrw3 := hrw.later hn3; have c33 := hrw3.b3.cells; have f33 := hrw3.b3.frees; have l33 := hrw3.b3.lt; have c43 := (hn3.cells _ _ hblt).trans c4)
                  | (refine step_append_lies _ rfl (.tmp 35) (.tmp 46) 24 rfl 0 26 iF (.agg #[.int .i64 0, .slice none 0 0]) 2 32 Try.underlying24 hiF hF0 hF1 hF2 rfl (by decide) (.slice a' n' c') n' (cellsF F) rfl (hrw3.own.value.alloc _) ⟨w3.heap.size, 0, none⟩ 1 1 [.int .i64 (IntKind.i64.wrap z4), .slice (some ⟨g3, 0, none⟩) (sz - 5) cap3] rfl rfl (World.news_of_block (heap_alloc_new _ _)) (by intro v hv; simp at hv; rcases hv with rfl | rfl <;> rfl) (by omega) (by unfold maxLen; omega) (by omega) (Nat.zero_le _) (w3.heap.size + 1) (by simp) ?_; intro g4 cap4 w4 ho4 hgr4 hat4 hlt4; have b34 := (hrw3.b3.alloc _).grow hgr4 (fun e => by have := HRow.out _ e; omega); have c34 := b34.cells; have f34 := b34.frees))
                all_goals
                  go_wp2
                  go_roundg (n - (u + sz) + 1)
                  case measure => have := HKk.out; omega
                  case rel =>
                    have hg3 : wr.heap.size ≤ g3 := by omega
                    have hlt3 := (ho3.lt g3 rfl).2
                    have hrw4 := (RW.next (z4 := z4) hrw hn3 (OwAt.of_own ho3) HLd.out HW.out HZd.out (by intro x hx; obtain rfl := Option.some.inj hx; exact ⟨hg3, hlt3⟩) (by intro hx; cases hx) ho4 hgr4 hat4).used ((u : Int) + sz)
                    have ec : ((u + sz : Nat) : Int) = (u : Int) + sz := by omega
                    exact ⟨u + sz, _, _, _, _, rfl, by rw [ec]; exact hrw4, by omega, by simp; omega, by rw [List.map_append]; exact HSp.out⟩
        · have HH : Hid (R = (headM l, u, F.map Fr.out)) := HSt.out hh
          have hne : (headM l != 0) = true := by simp [hh]
          have HA : Hid _ := hA
          clear hA hh
          generalize headM l = x at *
          go_wp2_with fail
          refine (HA.out _ hbs).mono ?_
          rintro e w1 ⟨rfl, rfl⟩
          go_wp2
          refine bodyPost_ret (v := .agg #[.int .i64 x, .int .i64 u, .slice a' n' c']) (by simp [results, Try.results13, go_sem, c2]) rfl ?_
          exact RW.answer (hrw.put x) HH.out

end Go.Proofs.Ytopkihgdemcneaa
