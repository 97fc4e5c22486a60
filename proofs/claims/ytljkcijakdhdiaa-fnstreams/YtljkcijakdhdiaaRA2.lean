/- What is proved here: what the two splittings into frames answer, for every list of at most 1048576 bytes. What is proved here: plain facts on frames that are packed and split again; no run of the program. What is proved here: what is told of a stream of messages, as one function; no run of the program. No condition. What is proved here: what the comparing, the marking of lists of frames and the looking for marks answer. What is proved here: how structs that lie in blocks are loaded and stored, whole, in a region that draws its order. No condition. What is proved here: what the program's ReadMessages answers, for every list of at most 1048576 bytes. -/
import Derived.Test.YtljkcijakdhdiaaRA1
import Derived.Deep.LoopGhost
import Derived.Deep.RegionHeld3
import Derived.Test.YtljkcijakdhdiaaBytes
import Derived.Laws.Tables
import Derived.Laws.Rows
import Derived.Test.YtljkcijakdhdiaaMpIm
import Derived.Deep.CutRange
namespace Go.Proofs.Ytljkcijakdhdiaa
open Go.RowKit

theorem RW.answer {w wr : World} {code : Int} {u : Nat} {a' : Option Addr} {n' c' : Nat} {F : List Fr} (h : RW w wr code u a' n' c' F) {R : Int × Nat × List (Int × List Int)} (hR : R = (code, u, F.map Fr.out)) :
    SplitAns w R (.returned (.agg #[.int .i64 code, .int .i64 u, .slice a' n' c'])) (((wr.setCell ⟨w.heap.size, 0, none⟩ (.int .i64 code)).setCell ⟨w.heap.size, 1, none⟩ (.int .i64 u)).setCell ⟨w.heap.size, 2, none⟩ (.slice a' n' c')) := by
  have t : Turn (fun k => k = w.heap.size) wr (((wr.setCell ⟨w.heap.size, 0, none⟩ (.int .i64 code)).setCell ⟨w.heap.size, 1, none⟩ (.int .i64 u)).setCell ⟨w.heap.size, 2, none⟩ (.slice a' n' c')) :=
    Turn.set (S := fun k => k = w.heap.size) (Turn.set (S := fun k => k = w.heap.size) (Turn.set (S := fun k => k = w.heap.size) (Turn.refl _ _) rfl _) rfl _) rfl _
  subst hR
  exact ⟨a', n', c', F, rfl, ((h.own.turn t (by omega)).wide t.size).lower (by omega), ((h.new.setCell (Nat.le_refl _) _).setCell (Nat.le_refl _) _).setCell (Nat.le_refl _) _, rfl⟩

theorem RW.next {w wr w3 w4 : World} {u z4 zk : Int} {a' a3 : Option Addr} {n' c' n3 c3 g4 cap4 : Nat} {F : List Fr} {body : List Int} (hrw : RW w wr 0 u a' n' c' F) (hn3 : New wr w3) (ho3 : OwAt w3 a3 n3 c3 body) (hlen : body.length = n3) (hzk : zk = z4)
    (hz : ∀ z ∈ body, 0 ≤ z ∧ z ≤ 255) (hl3 : ∀ x, a3 = some x → wr.heap.size ≤ x.block ∧ x.block < w3.heap.size) (hnil3 : a3 = none → n3 = 0 ∧ c3 = 0)
    (ho4 : w4.ownsRow 0 43 2 (.slice (some ⟨g4, 0, none⟩) (n' + 1) cap4) (n' + 1) (cellsF F ++ [.int .i64 zk, .slice a3 n3 c3])) (hgr4 : (w3.alloc (.cells #[.int .i64 zk, .slice a3 n3 c3] 43)).grownBy w4 (Value.slice a' n' c').ownBlock)
    (hat4 : (Value.slice a' n' c').ownBlock = some g4 ∨ g4 = w3.heap.size + 1) :
    RW w (w4.setCell ⟨w.heap.size + 1, 2, none⟩ (.slice (some ⟨g4, 0, none⟩) (n' + 1) cap4)) 0 u (some ⟨g4, 0, none⟩) (n' + 1) cap4 (F ++ [⟨z4, body, a3, c3⟩]) := by
  subst hzk
  subst hlen
  have hF3 : OwF (w3.alloc (.cells #[.int .i64 zk, .slice a3 body.length c3] 43)) (w.heap.size + 2) wr.heap.size a' n' c' F := hrw.own.new (hn3.alloc _)
  have hs3 := hn3.size
  have hs2 := hrw.b3.lt
  have hsn := OwF.snoc (f := ⟨zk, body, a3, c3⟩) hF3 hgr4 rfl (by simpa [cellsF] using ho4) (by simpa using hat4) (by simp; omega) (by simp; omega) (ho3.new ((New.refl _).alloc _)) hz (by intro x hx; have := hl3 x hx; simp; omega) (by intro x hx; exact (hl3 x hx).1) hnil3
  exact RW.more ((hrw.later hn3).later ((New.refl _).alloc _)) hgr4 hrw.own.block_ge hsn

/-- What SplitFrames answers. -/
def splitR (zs : List Int) : Int × Nat × List (Int × List Int) := if 400 < zs.length then (2, 0, []) else splitF (zs.length + 1) zs

set_option maxHeartbeats 800000 in
theorem implSplit_any (b off n c : Nat) (zs : List Int) (w : World) (h : BsAt w (some ⟨b, off, none⟩) zs) (hn : zs.length = n) (hc : n ≤ c) (hm : n ≤ 1048576) :
    Calls Try.prog 19 #[.slice (some ⟨b, off, none⟩) n c] w fun e w' => SplitAns w (splitR zs) e w' := by
  have hw := (New.refl w).alloc (.cells #[.int .i64 0, .int .i64 0, .slice none 0 0] 40)
  have b1 := Blk.mk w w.heap.size 40 #[.int .i64 0, .int .i64 0, .slice none 0 0] rfl
  by_cases hbig : 400 < n
  · have HR : Hid (splitR zs = (2, 0, [])) := by unfold Hid splitR; rw [if_pos (by omega)]
    clear hn
    go_enter Try.func19, Try.ntmps19
    go_wp2
    refine bodyPost_ret (v := .agg #[.int .i64 2, .int .i64 0, .slice none 0 0]) (by simp [results, Try.results19, go_sem]) rfl ?_
    rw [HR.out]
    exact ⟨none, 0, 0, [], rfl, OwF.empty _ _ _, (New.refl _).alloc _, rfl⟩
  · have HR : Hid (splitR zs = splitF (n + 1) zs) := by unfold Hid splitR; rw [if_neg (by omega), hn]
    have HN : Hid (zs.length = n) := hn
    clear hn
    go_enter Try.func19, Try.ntmps19
    go_wp2_with fail
    refine (read_any b off n c zs _ (h.new hw) HN.out hc (by omega)).mono ?_
    rintro e w1 ⟨a', n', c', F, rfl, ho, hn1, hF⟩
    have b2 := b1.new hn1
    have c2 := b2.cells
    have f2 := b2.frees
    have hw1 := hw.trans hn1
    generalize splitF (n + 1) zs = R at *
    obtain ⟨x, y, fs⟩ := R
    simp only at hF
    subst hF
    clear b1
    go_wp2
    have t : Turn (fun k => k = w.heap.size) w1 (((w1.setCell ⟨w.heap.size, 0, none⟩ (.int .i64 x)).setCell ⟨w.heap.size, 1, none⟩ (.int .i64 y)).setCell ⟨w.heap.size, 2, none⟩ (.slice a' n' c')) :=
      Turn.set (S := fun k => k = w.heap.size) (Turn.set (S := fun k => k = w.heap.size) (Turn.set (S := fun k => k = w.heap.size) (Turn.refl _ _) rfl _) rfl _) rfl _
    refine bodyPost_ret (v := .agg #[.int .i64 x, .int .i64 y, .slice a' n' c']) (by simp [results, Try.results19, go_sem, c2]) rfl ?_
    rw [HR.out]
    refine ⟨a', n', c', F, rfl, ((ho.turn t (by simp; omega)).wide t.size).lower (by simp), ?_, rfl⟩
    exact ((hw1.setCell (Nat.le_refl _) _).setCell (Nat.le_refl _) _).setCell (Nat.le_refl _) _

set_option maxRecDepth 100000 in
set_option maxHeartbeats 3200000 in
theorem specSplit_any (b off n c : Nat) (zs : List Int) (w : World) (h : BsAt w (some ⟨b, off, none⟩) zs) (hn : zs.length = n) (hc : n ≤ c) (hm : n ≤ 1048576) :
    Calls Try.prog 22 #[.slice (some ⟨b, off, none⟩) n c] w fun e w' => SplitAns w (splitR zs) e w' := by
  by_cases hbig : 400 < n
  · have HR : Hid (splitR zs = (2, 0, [])) := by unfold Hid splitR; rw [if_pos (by omega)]
    clear hn
    go_enter Try.func22, Try.ntmps22
    go_wp2
    refine bodyPost_ret (v := .agg #[.int .i64 2, .int .i64 0, .slice none 0 0]) (by simp [results, Try.results22, go_sem]) rfl ?_
    rw [HR.out]
    exact ⟨none, 0, 0, [], rfl, OwF.empty _ _ _, (New.refl _).alloc _, rfl⟩
  · have HR : Hid (splitR zs = splitF (n + 1) zs) := by unfold Hid splitR; rw [if_neg (by omega), hn]
    have HN : Hid (zs.length = n) := hn
    have hs0 : SplitAt zs 0 [] (splitF (n + 1) zs) := by have := SplitAt.start zs; rw [hn] at this; exact this
    rw [HR.out]
    clear hn HR
    generalize splitF (n + 1) zs = R at *
    have HS0 : Hid _ := hs0
    clear hs0
    go_enter Try.func22, Try.ntmps22
    go_wp2
    go_loopg [4] (n + 1) (fun k _ wr => ∃ (u : Nat) (a' : Option Addr) (n' c' : Nat) (F : List Fr), k = n - u + 1 ∧ RW w wr 0 u a' n' c' F ∧ u ≤ n ∧ 5 * F.length ≤ u ∧ SplitAt zs u (F.map Fr.out) R)
    case atStart => exact ⟨0, none, 0, 0, [], rfl, ⟨((New.refl w).alloc _).alloc _, (Blk.mk w w.heap.size _ _ rfl).alloc _, Blk.mk _ _ _ _ (by simp), OwF.empty _ _ _⟩, Nat.zero_le _, by simp, HS0.out⟩
    case round =>
      obtain ⟨u, a', n', c', F, HK, hrw, hu, h5F, hsp⟩ := hrel
      have HKk : Hid (gk = n - u + 1) := HK
      clear HK
      have c3 := hrw.b3.cells
      have f3 := hrw.b3.frees
      have c2 := hrw.b2.cells
      have f2 := hrw.b2.frees
      by_cases hun : u = n
      · have HD : Hid (zs.drop u = []) := List.drop_of_length_le (by have := HN.out; omega)
        have HH : Hid (R = (0, u, F.map Fr.out)) := hsp.done (by have := HN.out; omega) (by rw [HD.out]; rfl) (by rw [HD.out]; simp)
        have hh0 : headM [] = 0 := rfl
        have hA := fun a c W => head_any a 0 c [] W (BsAt.nil _ _) rfl (Nat.zero_le _)
        simp only [hh0] at hA
        have HA : Hid _ := hA
        subst hun
        clear hsp hA hh0
        by_cases hcu : u = c
        all_goals first | subst hcu | (have hcu' : ¬ c = u := fun e => hcu e.symm)
        all_goals
          go_wp2_with fail
          refine (HA.out _ _ _).mono ?_
          rintro e w1 ⟨rfl, rfl⟩
          go_wp2
          refine bodyPost_ret (v := .agg #[.int .i64 0, .int .i64 u, .slice a' n' c']) (by simp [results, Try.results22, go_sem, c2]) rfl ?_
          exact RW.answer hrw HH.out
      · have hlt : u < n := by omega
        have hcu : ¬ c = u := by omega
        have hl : (zs.drop u).length = n - u := by rw [List.length_drop, HN.out]
        have HL : Hid ((zs.drop u).length = n - u) := hl
        have hbs := (h.new hrw.new).drop u
        have hz := h.lt
        have hzl : ∀ z ∈ zs.drop u, 0 ≤ z ∧ z ≤ 255 := fun z hz' => hz z (List.mem_of_mem_drop hz')
        have hun' : u ≤ zs.length := by rw [HN.out]; omega
        have HZ : Hid (∀ z ∈ zs.drop u, 0 ≤ z ∧ z ≤ 255) := hzl
        have hnl : ((n - u : Nat) : Int) = (n : Int) - (u : Int) := by omega
        have hstop : headM (zs.drop u) ≠ 0 → R = (headM (zs.drop u), u, F.map Fr.out) := fun h0 => hsp.stop hun' h0
        have hdone : headM (zs.drop u) = 0 → ((zs.drop u).length < 5 ∨ (zs.drop u).length < szM (zs.drop u)) → R = (0, u, F.map Fr.out) := fun h0 h1 => hsp.done hun' h0 h1
        have hnext : headM (zs.drop u) = 0 → 5 ≤ (zs.drop u).length → szM (zs.drop u) ≤ (zs.drop u).length → SplitAt zs (u + szM (zs.drop u)) (F.map Fr.out ++ [((zs.drop u).getD 4 0, ((zs.drop u).take (szM (zs.drop u))).drop 5)]) R := fun h0 h5 h1 => hsp.next hun' h0 h5 h1
        have hhok : headM (zs.drop u) = 0 → 5 ≤ (zs.drop u).length → _ := fun h0 h5 => head_ok h0 h5
        have HSt : Hid _ := hstop
        have HDo : Hid _ := hdone
        have HNx : Hid _ := hnext
        have HOk : Hid _ := hhok
        clear hsp hl hun hun' hzl hz hstop hdone hnext hhok
        generalize zs.drop u = l at *
        have hA := fun W hW => head_any (some ⟨b, off + u, none⟩) (n - u) (c - u) l W hW HL.out (by omega)
        by_cases hh : headM l = 0
        · simp only [hh] at hA
          have HA : Hid _ := hA
          have HH0 : Hid (headM l = 0) := hh
          clear hA hh
          by_cases h5 : n - u < 5
          · have HH : Hid (R = (0, u, F.map Fr.out)) := HDo.out HH0.out (.inl (by rw [HL.out]; omega))
            go_wp2_with fail
            refine (HA.out _ hbs).mono ?_
            rintro e w1 ⟨rfl, rfl⟩
            go_wp2
            refine bodyPost_ret (v := .agg #[.int .i64 0, .int .i64 u, .slice a' n' c']) (by simp [results, Try.results22, go_sem, c2]) rfl ?_
            exact RW.answer hrw HH.out
          · have hok := HOk.out HH0.out (by rw [HL.out]; omega)
            obtain ⟨hs5, hs125, hk1, hk4, -, -, hsz⟩ := hok
            obtain ⟨sz, hszM⟩ : ∃ sz : Nat, szM l = sz := ⟨_, rfl⟩
            rw [hszM] at hs5 hs125 hsz
            have hT := fun W hW => take_any (some ⟨b, off + u, none⟩) (n - u) (c - u) 2 2 l W hW HL.out (by omega) (by omega) (by omega)
            simp only [← hsz] at hT
            have HT : Hid _ := hT
            have HSz : Hid (szM l = sz) := hszM
            obtain ⟨b', off', z4, e', hz4, c4, y4, y4'⟩ := hbs.at 4 (by have := HL.out; omega)
            simp only [Option.some.injEq, Addr.mk.injEq, and_true] at e'
            obtain ⟨rfl, rfl⟩ := e'
            have hg4 := getD_of hz4
            rw [hg4] at hk1 hk4
            have HG : Hid (l.getD 4 0 = z4) := hg4
            clear hT hszM hsz hz4 hg4
            by_cases hls : n - u < sz
            · have HH : Hid (R = (0, u, F.map Fr.out)) := HDo.out HH0.out (.inr (by rw [HL.out, HSz.out]; omega))
              go_wp2_with fail
              refine (HA.out _ hbs).mono ?_
              rintro e w1 ⟨rfl, rfl⟩
              go_wp2_with fail
              refine (HT.out _ hbs).mono ?_
              rintro e w1 ⟨rfl, rfl⟩
              go_wp2
              refine bodyPost_ret (v := .agg #[.int .i64 0, .int .i64 u, .slice a' n' c']) (by simp [results, Try.results22, go_sem, c2]) rfl ?_
              exact RW.answer hrw HH.out
            · have hsp := HNx.out HH0.out (by rw [HL.out]; omega) (by rw [HL.out, HSz.out]; omega)
              rw [HSz.out, HG.out] at hsp
              have HSp : Hid _ := hsp
              have hld : ((l.take sz).drop 5).length = sz - 5 := by rw [List.length_drop, List.length_take, HL.out]; omega
              have HLd : Hid (((l.take sz).drop 5).length = sz - 5) := hld
              have hzd : ∀ z ∈ (l.take sz).drop 5, 0 ≤ z ∧ z ≤ 255 := fun z hz => HZ.out z (List.mem_of_mem_take (List.mem_of_mem_drop hz))
              have HZd : Hid (∀ z ∈ (l.take sz).drop 5, 0 ≤ z ∧ z ≤ 255) := hzd
              have hn'F := hrw.own.len
              have hn100 : n' ≤ 80 := by omega
              have hsb : BsAt wr (some ⟨b, off + u + 5, none⟩) ((l.take sz).drop 5) := (hbs.take sz).drop 5
              have HB : Hid (BsAt wr (some ⟨b, off + u + 5, none⟩) ((l.take sz).drop 5)) := hsb
              clear hsp hld hzd hn'F hsb
              generalize (l.take sz).drop 5 = body at *
              have hszc : sz ≤ c - u := by omega
              have hblt : b < wr.heap.size := World.block_lt_of_cell? _ _ c4
              have HRow : Hid _ := hrw.own.block_ge
              obtain ⟨iF, hiF, hF0, hF1, hF2⟩ := info_parts Try.infoFr
              obtain ⟨i0, hi, hz0, hz1, hz2⟩ := info_parts Try.infoU8
              go_wp2_with fail
              refine (HA.out _ hbs).mono ?_
              rintro e wr ⟨rfl, rfl⟩
              go_wp2_with fail
              refine (HT.out _ hbs).mono ?_
              rintro e wr ⟨rfl, rfl⟩
              have l3 := hrw.b3.lt
              have h4n : (4 : Int) < (n : Int) - (u : Int) := by omega
              have h5i : (5 : Int) ≤ (sz : Int) := by omega
              have HW : Hid (IntKind.i64.wrap z4 = z4) := by unfold Hid; simp [IntKind.wrap, IntKind.signed, IntKind.bits]; omega
              have HO : Hid ((wr.alloc (.cells #[] 5)).drew.ownsRow 0 5 1 (.slice (some ⟨wr.heap.size, 0, none⟩) 0 0) 0 (([] : List Int).map (Value.int .u8))) := New.lit (w := wr) 0 [] wr.heap.size rfl rfl (by omega) #[] rfl
              have H1 : Hid ((wr.alloc (.cells #[] 5)).drew.heap.size = wr.heap.size + 1) := by unfold Hid; simp
              by_cases hc5 : c - u = 5
              · obtain rfl : sz = 5 := by omega
                have hb0 : body = [] := List.eq_nil_of_length_eq_zero (by have := HLd.out; omega)
                have HB2 : Hid (BsAt (wr.alloc (.cells #[] 5)).drew (some ⟨b, off + u, none⟩) body) := by rw [hb0]; exact BsAt.nil _ _
                clear hb0
                go_wp2_with fail
                go_region_law (first
                  | (refine step_ap2 _ rfl (.tmp 40) (.tmp 43) rfl 0 Try.underlying22 hi hz0 hz1 hz2 wr.heap.size 0 0 [] rfl HO.out ⟨b, off + u, none⟩ 0 0 body rfl HB2.out HLd.out (by omega) (Nat.zero_le _) (wr.heap.size + 1) H1.out ?_; intro g3 cap3 w3 ho3 hgr3 hat3; simp only [Nat.zero_add, List.nil_append] at ho3; have hn3 : New wr w3 := (((New.refl _).alloc _).drew).grow hgr3 (by intro j hj; have := Option.some.inj hj; omega); have hrw3 := hrw.later hn3; have c33 := hrw3.b3.cells; have f33 := hrw3.b3.frees; have l33 := hrw3.b3.lt; have c43 := (hn3.cells _ _ hblt).trans c4)
                  | (refine step_append_lies _ rfl (.tmp 35) (.tmp 46) 38 rfl 0 43 iF (.agg #[.int .i64 0, .slice none 0 0]) 2 32 Try.underlying38 hiF hF0 hF1 hF2 rfl (by decide) (.slice a' n' c') n' (cellsF F) rfl (hrw3.own.value.alloc _) ⟨w3.heap.size, 0, none⟩ 1 1 [.int .i64 (IntKind.i64.wrap z4), .slice (some ⟨g3, 0, none⟩) 0 cap3] rfl rfl (World.news_of_block (heap_alloc_new _ _)) (by intro v hv; simp at hv; rcases hv with rfl | rfl <;> rfl) (by omega) (by unfold maxLen; omega) (by omega) (Nat.zero_le _) (w3.heap.size + 1) (by simp) ?_; intro g4 cap4 w4 ho4 hgr4 hat4 hlt4; have b34 := (hrw3.b3.alloc _).grow hgr4 (fun e => by have := HRow.out _ e; omega); have c34 := b34.cells; have f34 := b34.frees))
                all_goals
                  go_wp2
                  go_roundg (n - (u + 5) + 1)
                  case measure => have := HKk.out; omega
                  case rel =>
                    have hg3 : wr.heap.size ≤ g3 := by omega
                    have hlt3 := (ho3.lt g3 rfl).2
                    have hrw4 := (RW.next (z4 := z4) hrw hn3 (OwAt.of_own ho3) HLd.out HW.out HZd.out (by intro x hx; obtain rfl := Option.some.inj hx; exact ⟨hg3, hlt3⟩) (by intro hx; cases hx) ho4 hgr4 hat4).used ((u : Int) + 5)
                    have ec : ((u + 5 : Nat) : Int) = (u : Int) + 5 := by omega
                    exact ⟨u + 5, _, _, _, _, rfl, by rw [ec]; exact hrw4, by omega, by simp; omega, by rw [List.map_append]; exact HSp.out⟩
              · have HB2 : Hid (BsAt (wr.alloc (.cells #[] 5)).drew (some ⟨b, off + u + 5, none⟩) body) := BsAt.new HB.out (((New.refl _).alloc _).drew)
                go_wp2_with fail
                go_region_law (first
                  | (refine step_ap2 _ rfl (.tmp 40) (.tmp 43) rfl 0 Try.underlying22 hi hz0 hz1 hz2 wr.heap.size 0 0 [] rfl HO.out ⟨b, off + u + 5, none⟩ (sz - 5) (c - u - 5) body rfl HB2.out HLd.out (by omega) (Nat.zero_le _) (wr.heap.size + 1) H1.out ?_; intro g3 cap3 w3 ho3 hgr3 hat3; simp only [Nat.zero_add, List.nil_append] at ho3; have hn3 : New wr w3 := (((New.refl _).alloc _).drew).grow hgr3 (by intro j hj; have := Option.some.inj hj; omega); have hrw3 := hrw.later hn3; have c33 := hrw3.b3.cells; have f33 := hrw3.b3.frees; have l33 := hrw3.b3.lt; have c43 := (hn3.cells _ _ hblt).trans c4)
                  | (refine step_append_lies _ rfl (.tmp 35) (.tmp 46) 38 rfl 0 43 iF (.agg #[.int .i64 0, .slice none 0 0]) 2 32 Try.underlying38 hiF hF0 hF1 hF2 rfl (by decide) (.slice a' n' c') n' (cellsF F) rfl (hrw3.own.value.alloc _) ⟨w3.heap.size, 0, none⟩ 1 1 [.int .i64 (IntKind.i64.wrap z4), .slice (some ⟨g3, 0, none⟩) (sz - 5) cap3] rfl rfl (World.news_of_block (heap_alloc_new _ _)) (by intro v hv; simp at hv; rcases hv with rfl | rfl <;> rfl) (by omega) (by unfold maxLen; omega) (by omega) (Nat.zero_le _) (w3.heap.size + 1) (by simp) ?_; intro g4 cap4 w4 ho4 hgr4 hat4 hlt4; have b34 := (hrw3.b3.alloc _).grow hgr4 (fun e => by have := HRow.out _ e; omega); have c34 := b34.cells; have f34 := b34.frees))
                all_goals
                  go_wp2
                  go_roundg (n - (u + sz) + 1)
                  case measure => have := HKk.out; omega
                  case rel =>
                    have hg3 : wr.heap.size ≤ g3 := by omega
                    have hlt3 := (ho3.lt g3 rfl).2
                    have hrw4 := (RW.next (z4 := z4) hrw hn3 (OwAt.of_own ho3) HLd.out HW.out HZd.out (by intro x hx; obtain rfl := Option.some.inj hx; exact ⟨hg3, hlt3⟩) (by intro hx; cases hx) ho4 hgr4 hat4).used ((u : Int) + sz)
                    have ec : ((u + sz : Nat) : Int) = (u : Int) + sz := by omega
                    exact ⟨u + sz, _, _, _, _, rfl, by rw [ec]; exact hrw4, by omega, by simp; omega, by rw [List.map_append]; exact HSp.out⟩
        · have HH : Hid (R = (headM l, u, F.map Fr.out)) := HSt.out hh
          have hne : (headM l != 0) = true := by simp [hh]
          have HA : Hid _ := hA
          clear hA hh
          generalize headM l = x at *
          go_wp2_with fail
          refine (HA.out _ hbs).mono ?_
          rintro e w1 ⟨rfl, rfl⟩
          go_wp2
          refine bodyPost_ret (v := .agg #[.int .i64 x, .int .i64 u, .slice a' n' c']) (by simp [results, Try.results22, go_sem, c2]) rfl ?_
          exact RW.answer (hrw.put x) HH.out

end Go.Proofs.Ytljkcijakdhdiaa

namespace Go.Proofs.Ytljkcijakdhdiaa

/-- A frame that can be packed. -/
def Good (x : Int × List Int) : Prop := 1 ≤ x.1 ∧ x.1 ≤ 4 ∧ x.2.length ≤ 120 ∧ ∀ z ∈ x.2, 0 ≤ z ∧ z ≤ 255
def flatP (fs : List (Int × List Int)) : List Int := fs.flatMap (fun x => packOf x.1 x.2)
theorem flatP_cons (x : Int × List Int) (fs : List (Int × List Int)) : flatP (x :: fs) = packOf x.1 x.2 ++ flatP fs := rfl
theorem flatP_snoc (fs : List (Int × List Int)) (x : Int × List Int) : flatP (fs ++ [x]) = flatP fs ++ packOf x.1 x.2 := by simp [flatP]
theorem packOf_cons (k : Int) (zs r : List Int) : packOf k zs ++ r = 255 :: 255 :: (((zs.length : Int) + 5) / 256) :: (((zs.length : Int) + 5) % 256) :: k :: (zs ++ r) := by simp [packOf]

theorem num_two (a b : Int) : num [a, b] = a * 256 + b := by simp [num]
theorem numAt_pack (a b p q : Int) (r : List Int) : numAt (p :: q :: a :: b :: r) 2 2 = a * 256 + b := by
  unfold numAt
  simp only [List.drop_succ_cons, List.drop_zero, List.take_succ_cons, List.take_zero]
  exact num_two a b

theorem head_pack {k : Int} {zs : List Int} (h : Good (k, zs)) (r : List Int) : headM (packOf k zs ++ r) = 0 ∧ szM (packOf k zs ++ r) = zs.length + 5 ∧ (packOf k zs ++ r).getD 4 0 = k ∧ ((packOf k zs ++ r).take (zs.length + 5)).drop 5 = zs ∧ (packOf k zs ++ r).drop (zs.length + 5) = r := by
  obtain ⟨h1, h2, h3, _⟩ := h
  simp only at h1 h2 h3
  have hn : ((zs.length : Int) + 5) / 256 * 256 + ((zs.length : Int) + 5) % 256 = (zs.length : Int) + 5 := by omega
  refine ⟨?_, ?_, ?_, ?_, ?_⟩
  · rw [packOf_cons]
    unfold headM
    rw [numAt_pack, hn, if_neg (by simp), if_neg (by simp), if_neg (by omega), if_neg (by simp; omega)]
  · rw [packOf_cons]
    unfold szM
    rw [numAt_pack, hn]
    omega
  · rw [packOf_cons]; rfl
  · rw [List.take_left' (by rw [packOf_length])]
    simp [packOf]
  · exact List.drop_left' (by rw [packOf_length])

theorem split_nil (f : Nat) : splitF f [] = (0, 0, []) := by
  cases f with
  | zero => rfl
  | succ f => unfold splitF; rw [if_neg (by decide), if_pos (by left; simp)]

theorem split_pack {k : Int} {zs : List Int} (h : Good (k, zs)) (r : List Int) (f : Nat) : splitF (f + 1) (packOf k zs ++ r) = ((splitF f r).1, zs.length + 5 + (splitF f r).2.1, (k, zs) :: (splitF f r).2.2) := by
  obtain ⟨a1, a2, a3, a4, a5⟩ := head_pack h r
  have hl : (packOf k zs ++ r).length = zs.length + 5 + r.length := by rw [List.length_append, packOf_length]
  rw [splitF, if_neg (by simp [a1]), if_neg (by rw [a2, hl]; omega), a2, a3, a4, a5]

/-- All frames that stand one behind the other are told. -/
theorem split_all (fs : List (Int × List Int)) : ∀ f, fs.length < f → (∀ x ∈ fs, Good x) → splitF f (flatP fs) = (0, (flatP fs).length, fs) := by
  induction fs with
  | nil => intro f _ _; exact split_nil f
  | cons x fs ih =>
    intro f hf hg
    obtain ⟨k, zs⟩ := x
    cases f with
    | zero => omega
    | succ f =>
      rw [flatP_cons, split_pack (hg _ (by simp)), ih f (by simpa using hf) (fun y hy => hg y (by simp [hy]))]
      simp [packOf_length]

theorem headM_short {l r : List Int} (h : headM (l ++ r) = 0) : headM l = 0 := by
  have n22 : 4 ≤ l.length → numAt (l ++ r) 2 2 = numAt l 2 2 := by
    intro h4
    unfold numAt
    rw [List.drop_append_of_le_length (by omega), List.take_append_of_le_length (by rw [List.length_drop]; omega)]
  have g : ∀ i, i < l.length → (l ++ r).getD i 0 = l.getD i 0 := by
    intro i hi
    simp only [List.getD_eq_getElem?_getD]
    rw [List.getElem?_append_left hi]
  unfold headM at h ⊢
  have hlen : (l ++ r).length = l.length + r.length := List.length_append
  by_cases c0 : 0 < l.length ∧ l.getD 0 0 ≠ 255
  · rw [if_pos ⟨by omega, by rw [g 0 c0.1]; exact c0.2⟩] at h; omega
  · by_cases d0 : 0 < (l ++ r).length ∧ (l ++ r).getD 0 0 ≠ 255
    · rw [if_pos d0] at h; omega
    · rw [if_neg d0] at h
      rw [if_neg c0]
      by_cases c1 : 1 < l.length ∧ l.getD 1 0 ≠ 255
      · rw [if_pos ⟨by omega, by rw [g 1 c1.1]; exact c1.2⟩] at h; omega
      · by_cases d1 : 1 < (l ++ r).length ∧ (l ++ r).getD 1 0 ≠ 255
        · rw [if_pos d1] at h; omega
        · rw [if_neg d1] at h
          rw [if_neg c1]
          by_cases d2 : 3 < (l ++ r).length ∧ (numAt (l ++ r) 2 2 < 5 ∨ 125 < numAt (l ++ r) 2 2)
          · rw [if_pos d2] at h; omega
          · rw [if_neg d2] at h
            have c2 : ¬ (3 < l.length ∧ (numAt l 2 2 < 5 ∨ 125 < numAt l 2 2)) := by
              rintro ⟨x1, x2⟩
              exact d2 ⟨by omega, by rw [n22 (by omega)]; exact x2⟩
            rw [if_neg c2]
            by_cases d3 : 4 < (l ++ r).length ∧ ((l ++ r).getD 4 0 < 1 ∨ 4 < (l ++ r).getD 4 0)
            · rw [if_pos d3] at h; omega
            · have c3 : ¬ (4 < l.length ∧ (l.getD 4 0 < 1 ∨ 4 < l.getD 4 0)) := by
                rintro ⟨x1, x2⟩
                exact d3 ⟨by omega, by rw [g 4 x1]; exact x2⟩
              rw [if_neg c3]

/-- Of a beginning the first frames are told. -/
theorem split_cut (fs : List (Int × List Int)) : ∀ f c, fs.length < f → (∀ x ∈ fs, Good x) → ∃ j, j ≤ fs.length ∧ splitF f ((flatP fs).take c) = (0, (flatP (fs.take j)).length, fs.take j) ∧ (flatP (fs.take j)).length ≤ c := by
  induction fs with
  | nil => intro f c _ _; exact ⟨0, Nat.le_refl _, by simp [flatP, split_nil], by simp [flatP]⟩
  | cons x fs ih =>
    intro f c hf hg
    obtain ⟨k, zs⟩ := x
    have hx := hg (k, zs) (by simp)
    cases f with
    | zero => omega
    | succ f =>
      by_cases hc : zs.length + 5 ≤ c
      · have e : (flatP ((k, zs) :: fs)).take c = packOf k zs ++ (flatP fs).take (c - (zs.length + 5)) := by
          rw [flatP_cons, List.take_append, packOf_length, List.take_of_length_le (by rw [packOf_length]; omega)]
        obtain ⟨j, hj, h1, h2⟩ := ih f (c - (zs.length + 5)) (by simpa using hf) (fun y hy => hg y (by simp [hy]))
        refine ⟨j + 1, by simp; omega, ?_, ?_⟩
        · rw [e, split_pack hx, h1]
          simp [flatP_cons, packOf_length]
        · simp only [List.take_succ_cons, flatP_cons, List.length_append, packOf_length]; omega
      · refine ⟨0, Nat.zero_le _, ?_, by simp [flatP]⟩
        have e : (flatP ((k, zs) :: fs)).take c = (packOf k zs).take c := by
          rw [flatP_cons]
          exact List.take_append_of_le_length (by rw [packOf_length]; show c ≤ zs.length + 5; omega)
        obtain ⟨a1, a2, _⟩ := head_pack hx []
        rw [List.append_nil] at a1 a2
        have hlen : ((packOf k zs).take c).length = c := by rw [List.length_take, packOf_length]; omega
        have hh : headM ((packOf k zs).take c) = 0 := headM_short (r := (packOf k zs).drop c) (by rw [List.take_append_drop]; exact a1)
        have hs : ((packOf k zs).take c).length < 5 ∨ ((packOf k zs).take c).length < szM ((packOf k zs).take c) := by
          by_cases h5 : c < 5
          · left; omega
          · right
            have : szM ((packOf k zs).take c) = zs.length + 5 := by
              rw [← a2]
              unfold szM numAt
              have : ((packOf k zs).take c).drop 2 = ((packOf k zs).drop 2).take (c - 2) := by rw [List.drop_take]
              rw [this, List.take_take, Nat.min_eq_left (by omega)]
            omega
        rw [e, splitF, if_neg (by simp [hh]), if_pos hs]
        simp [flatP]

/-- What is used is just the frames that are told. -/
theorem split_back (f : Nat) : ∀ l : List Int, (∀ z ∈ l, 0 ≤ z ∧ z ≤ 255) → flatP (splitF f l).2.2 = l.take (splitF f l).2.1 ∧ ∀ x ∈ (splitF f l).2.2, Good x := by
  induction f with
  | zero => intro l _; simp [splitF, flatP]
  | succ f ih =>
    intro l hz
    by_cases h1 : headM l ≠ 0
    · rw [splitF, if_pos h1]; simp [flatP]
    · by_cases h2 : l.length < 5 ∨ l.length < szM l
      · rw [splitF, if_neg h1, if_pos h2]; simp [flatP]
      · rw [splitF, if_neg h1, if_neg h2]
        have hk := head_ok (l := l) (by omega) (by omega)
        obtain ⟨k1, k2, k3, k4, k5, k6, k7⟩ := hk
        obtain ⟨i1, i2⟩ := ih (l.drop (szM l)) (fun z hz' => hz z (List.mem_of_mem_drop hz'))
        have hpk : packOf (l.getD 4 0) ((l.take (szM l)).drop 5) = l.take (szM l) := by
          have hn : numAt l 2 2 = (szM l : Int) := k7.symm
          generalize hs : szM l = s at *
          match l, h2 with
          | z0 :: z1 :: z2 :: z3 :: z4 :: r, h2 =>
            have e2 := hz z2 (by simp)
            have e3 := hz z3 (by simp)
            rw [numAt_pack] at hn
            simp only [List.getD_cons_zero, List.getD_cons_succ] at k5 k6 ⊢
            obtain ⟨m, rfl⟩ : ∃ m, s = m + 5 := ⟨s - 5, by omega⟩
            have hl : (List.take m r).length = m := by rw [List.length_take]; simp only [List.length_cons] at h2; omega
            simp only [List.take_succ_cons, List.drop_succ_cons, List.drop_zero, packOf, hl, List.cons_append, List.nil_append]
            have f2 : ((m : Int) + 5) / 256 = z2 := by omega
            have f3 : ((m : Int) + 5) % 256 = z3 := by omega
            rw [f2, f3, k5, k6]
          | [], h2 => simp at h2
          | [_], h2 => simp at h2
          | [_, _], h2 => simp at h2
          | [_, _, _], h2 => simp at h2
          | [_, _, _, _], h2 => simp at h2
        refine ⟨?_, ?_⟩
        · simp only
          rw [flatP_cons, hpk, i1, ← List.take_add]
        · intro x hx
          simp only [List.mem_cons] at hx
          rcases hx with rfl | hx
          · refine ⟨k3, k4, by simp only [List.length_drop, List.length_take]; omega, fun z hz' => hz z (List.mem_of_mem_take (List.mem_of_mem_drop hz'))⟩
          · exact i2 x hx

end Go.Proofs.Ytljkcijakdhdiaa

namespace Go.Proofs.Ytljkcijakdhdiaa
open Go.RowKit Go.Sort
set_option linter.unusedVariables false
set_option linter.unusedSimpArgs false
set_option maxRecDepth 100000

/-- What is told of a stream. -/
structure Rm where
  z : Int
  us : Int
  wy : Int
  sb : Int
  D : List (MH × PU)
def subS (c : Int) : Int := if c = 1 then 1 else if c = 2 then 2 else 3
def rmG (c : Int) : List (Int × List Int) → Int → List (MH × PU) → Rm
  | [], u, L => if c = 0 then ⟨0, u, 0, 0, L⟩ else ⟨c, u, 1, subS c, L⟩
  | x :: F, u, L => if (mh x.1 x.2).code = 0 then rmG c F (u + 5 + x.2.length) (L ++ [(mh x.1 x.2, mp x.1 x.2)]) else ⟨(mh x.1 x.2).code, u, (mh x.1 x.2).why, (mh x.1 x.2).sub, L⟩
def rmF (zs : List Int) : Rm := if 400 < zs.length then ⟨2, 0, 0, 0, []⟩ else rmG (splitR zs).1 (splitR zs).2.2 0 []

theorem rmG_end {c u : Int} {L : List (MH × PU)} {F : List Fr} {i : Nat} (h : F.length ≤ i) : rmG c ((F.map Fr.out).drop i) u L = if c = 0 then ⟨0, u, 0, 0, L⟩ else ⟨c, u, 1, subS c, L⟩ := by
  rw [List.drop_eq_nil_of_le (by rw [List.length_map]; exact h)]
  rfl
theorem rmG_drop {F : List Fr} {i : Nat} {f : Fr} (h : F[i]? = some f) : (F.map Fr.out).drop i = Fr.out f :: (F.map Fr.out).drop (i + 1) := by
  obtain ⟨hi, rfl⟩ := List.getElem?_eq_some_iff.1 h
  rw [List.drop_eq_getElem_cons (by rw [List.length_map]; exact hi), List.getElem_map]
theorem rmG_next {c u : Int} {L : List (MH × PU)} {F : List Fr} {i : Nat} {f : Fr} (h : F[i]? = some f) (hc : (mh f.k f.zs).code = 0) : rmG c ((F.map Fr.out).drop i) u L = rmG c ((F.map Fr.out).drop (i + 1)) (u + 5 + f.zs.length) (L ++ [(mh f.k f.zs, mp f.k f.zs)]) := by
  rw [rmG_drop h]
  show (if (mh f.k f.zs).code = 0 then _ else _) = _
  rw [if_pos hc]
  rfl
theorem rmG_bad {c u : Int} {L : List (MH × PU)} {F : List Fr} {i : Nat} {f : Fr} (h : F[i]? = some f) (hc : ¬ (mh f.k f.zs).code = 0) : rmG c ((F.map Fr.out).drop i) u L = ⟨(mh f.k f.zs).code, u, (mh f.k f.zs).why, (mh f.k f.zs).sub, L⟩ := by
  rw [rmG_drop h]
  show (if (mh f.k f.zs).code = 0 then _ else _) = _
  rw [if_neg hc]
  rfl
theorem rmG_len (c : Int) : ∀ (F : List (Int × List Int)) (u : Int) (L : List (MH × PU)), (rmG c F u L).D.length ≤ L.length + F.length
  | [], u, L => by
    unfold rmG
    split <;> simp
  | x :: F, u, L => by
    by_cases hc : (mh x.1 x.2).code = 0
    · have e : rmG c (x :: F) u L = rmG c F (u + 5 + x.2.length) (L ++ [(mh x.1 x.2, mp x.1 x.2)]) := if_pos hc
      have k := rmG_len c F (u + 5 + x.2.length) (L ++ [(mh x.1 x.2, mp x.1 x.2)])
      rw [← e] at k
      have h1 : (L ++ [(mh x.1 x.2, mp x.1 x.2)]).length = L.length + 1 := by simp
      rw [h1] at k
      rw [List.length_cons]
      omega
    · have e : rmG c (x :: F) u L = ⟨(mh x.1 x.2).code, u, (mh x.1 x.2).why, (mh x.1 x.2).sub, L⟩ := if_neg hc
      rw [e, List.length_cons]
      simp only
      omega
theorem flat_len : ∀ fs : List (Int × List Int), 5 * fs.length ≤ (flatP fs).length
  | [] => by simp [flatP]
  | x :: fs => by
    have := flat_len fs
    rw [flatP_cons, List.length_append, List.length_cons]
    have h2 : (packOf x.1 x.2).length = x.2.length + 5 := by simp [packOf]
    omega
theorem splitR_len {zs : List Int} (hz : ∀ z ∈ zs, 0 ≤ z ∧ z ≤ 255) (h : ¬ 400 < zs.length) : (splitR zs).2.2.length ≤ 80 := by
  unfold splitR
  rw [if_neg h]
  have h1 := (split_back (zs.length + 1) zs hz).1
  have h2 := flat_len (splitF (zs.length + 1) zs).2.2
  rw [h1] at h2
  rw [List.length_take] at h2
  omega
theorem rmF_len {zs : List Int} (hz : ∀ z ∈ zs, 0 ≤ z ∧ z ≤ 255) : (rmF zs).D.length ≤ 100 := by
  unfold rmF
  by_cases h : 400 < zs.length
  · rw [if_pos h]; simp
  · rw [if_neg h]
    have h1 := rmG_len (splitR zs).1 (splitR zs).2.2 0 []
    have h2 := splitR_len hz h
    simp only [List.length_nil] at h1
    omega
theorem headM_rng (l : List Int) : headM l = 0 ∨ headM l = 1 ∨ headM l = 2 ∨ headM l = 3 := by
  unfold headM
  repeat' split
  all_goals omega
theorem splitF_rng : ∀ (f : Nat) (l : List Int), (splitF f l).1 = 0 ∨ (splitF f l).1 = 1 ∨ (splitF f l).1 = 2 ∨ (splitF f l).1 = 3
  | 0, l => by simp [splitF]
  | f + 1, l => by
    unfold splitF
    repeat' split
    all_goals first | exact headM_rng _ | exact splitF_rng f _ | simp
theorem splitR_rng {zs : List Int} : (splitR zs).1 = 0 ∨ (splitR zs).1 = 1 ∨ (splitR zs).1 = 2 ∨ (splitR zs).1 = 3 := by
  unfold splitR
  split
  · exact .inr (.inr (.inl rfl))
  · exact splitF_rng _ _
theorem subS_id {c : Int} (h : c = 0 ∨ c = 1 ∨ c = 2 ∨ c = 3) (h0 : ¬ c = 0) : subS c = c := by
  rcases h with rfl | rfl | rfl | rfl
  · exact absurd rfl h0
  · rfl
  · rfl
  · rfl

end Go.Proofs.Ytljkcijakdhdiaa

namespace Go.Proofs.Ytljkcijakdhdiaa
open Go.RowKit

theorem OwF.at {w : World} {lo hi n c : Nat} {a : Option Addr} {F : List Fr} (h : OwF w lo hi a n c F) (i : Nat) (hi' : i < n) :
    ∃ (g : Nat) (f : Fr), a = some ⟨g, 0, none⟩ ∧ F[i]? = some f ∧ w.cell? ⟨g, i * 2, none⟩ = some (.int .i64 f.k) ∧ w.cell? ⟨g, i * 2 + 1, none⟩ = some (.slice f.a f.zs.length f.c) ∧ BsAt w f.a f.zs ∧ OwAt w f.a f.zs.length f.c f.zs ∧ w.frozen? ⟨g, i * 2, none⟩ = false := by
  have hl : i < F.length := by rw [h.len]; exact hi'
  have hf := List.getElem?_eq_getElem hl
  cases a with
  | none => have := (h.anil rfl).1; omega
  | some x =>
    obtain ⟨g, rfl, _, _, ho⟩ := h.row x rfl
    exact ⟨g, _, rfl, hf, by rw [ho.cellAt (i * 2) (by omega)]; exact cellsF_get0 hf, by rw [ho.cellAt (i * 2 + 1) (by omega)]; exact cellsF_get1 hf, (h.body i _ hf).bs (h.bd i _ hf), h.body i _ hf, ho.frozenAt _⟩

end Go.Proofs.Ytljkcijakdhdiaa

namespace Go.Proofs.Ytljkcijakdhdiaa
open Go.RowKit

theorem Turn.rowW {a w : World} {B : Nat} {S : Nat → Prop} (h : Turn S a w) (hS : S B) (cs : Array Value) : Turn S a (w.setRow B cs) :=
  ⟨h.os, h.tape, h.output, by simpa [World.setRow] using h.size, fun k hk hs => (setRow_other w B k cs (fun e => hs (e ▸ hS))).trans (h.block k hk hs)⟩
theorem Blk.rowW {w : World} {B : Nat} {t : TypeId} {old : Array Value} (h : Blk w B t old) (cs : Array Value) : Blk (w.setRow B cs) B t cs := setRow_heap w B old cs t (0, 0) h
theorem Blk.rowO {w : World} {B C : Nat} {t : TypeId} {cs : Array Value} (h : Blk w C t cs) (hne : ¬ C = B) (ds : Array Value) : Blk (w.setRow B ds) C t cs := (setRow_other w B C ds hne).trans h
theorem Turn.drewW {S : Nat → Prop} {a w : World} (h : Turn S a w) : Turn S a w.drew := ⟨h.os, h.tape, h.output, h.size, h.block⟩

/-- A struct that lies in a block is loaded, whole, wherever the block is known. -/
theorem yields_load_blk {P : Program} {ops : Array Oper} {S : World → Prop} {op : Oper} {a : Act} (hw : Region.wanted op (yielded ops a.tmps) = true) (ty : TypeId) (x : Operand) (ho : op.op = .load ty x)
    (B : Nat) (hx : a.eval x = .pointer (some ⟨B, 0, none⟩)) (cs : Array Value) (d : TypeDesc) (hS : ∀ w, S w → Blk w B ty cs)
    (hu : P.underlying ty = some d) (hd : (match d with | .struct _ | .array _ _ => true | _ => false) = true) (hi : (P.info? ty).map (·.size) = some cs.size) : YieldsIf P ops S op (.agg cs) a :=
  .inl ⟨hw, fun w hw' => by
    unfold execOp
    simp only [ho, hx, Instr.loadAt, Instr.sureAddr, Sem.run_bind, Sem.run_pure, Result.andThen_ok, run_loadVar_row w B ty ty cs (0, 0) d (hS w hw') hu hd hi]⟩

/-- What is walked under more is walked under less. -/
theorem wpAnyH_more {P : Program} {md : Region.Mode} {ops : Array Oper} {Q : Exit → Act → World → Prop} {S S' : World → Prop} (hs : ∀ w, S' w → S w) : ∀ (fuel : Nat) (listed : Array Bool) (a : Act) (w : World), wpAnyH P md ops Q S' fuel listed a w → wpAnyH P md ops Q S fuel listed a w
  | 0, _, _, _, h => h
  | fuel + 1, _, _, _, h => ⟨h.1, fun i hi => wpOp_mono (fun a' w' h3 => ⟨hs _ h3.1, wpAnyH_more hs fuel _ a' w' h3.2⟩) (h.2 i hi)⟩

/-- A struct that lies in a block is loaded, whole. -/
theorem run_load_blk {P : Program} {op : Oper} {a : Act} {w : World} (ty : TypeId) (x : Operand) (ho : op.op = .load ty x) (B : Nat) (hx : a.eval x = .pointer (some ⟨B, 0, none⟩)) (cs : Array Value) (d : TypeDesc) (hb : Blk w B ty cs)
    (hu : P.underlying ty = some d) (hd : (match d with | .struct _ | .array _ _ => true | _ => false) = true) (hi : (P.info? ty).map (·.size) = some cs.size) : (execOp a.eval op).run P w = .ok (.value (.agg cs)) w := by
  unfold execOp
  simp only [ho, hx, Instr.loadAt, Instr.sureAddr, Sem.run_bind, Sem.run_pure, Result.andThen_ok, run_loadVar_row w B ty ty cs (0, 0) d hb hu hd hi]

section
variable {P : Program} {ops : Array Oper} {Q : Exit → Act → World → Prop} {md : Region.Mode} {S : World → Prop}
/-- The beginning of a walk by hand through a region that draws its order. -/
theorem hw_start {id n : Nat} {a : Act} {w : World} (hn : ops.size = n) (hm : P.follows .mixedOrders = true) (hS : S w.drew) (h : S w.drew → wpAnyH P .any ops Q S n (Array.replicate n false) a w.drew) : (Code.region id ops true).wp P Q a w := by
  subst hn
  exact wp_region_held_drew hm hS h
/-- An operation that only yields is taken first. -/
theorem hw_take {fuel : Nat} {listed : Array Bool} {a : Act} {w : World} (i : Nat) (d : Option Tmp) (v : Value) {oi : Oper} (hi : ops[i]? = some oi) (hd : oi.dst = d)
    (hs : Region.noSelect ops = true) (hf : Region.free md ops listed i = true) (hr : (Region.ready md ops listed).contains i = true)
    (hQ : ∀ c a w, Q (.panic c) (a.put d v) w → Q (.panic c) a w) (hw : Region.wanted oi (yielded ops a.tmps) = true) (hS : S w) (hy : ∀ w, S w → (execOp a.eval oi).run P w = .ok (.value v) w)
    (h : wpAnyH P md ops Q S fuel (listed.setIfInBounds i true) (a.put d v) w) : wpAnyH P md ops Q S (fuel + 1) listed a w := by
  subst hd
  exact wpAnyH_take hi hs hf hr hQ (.inl ⟨hw, hy⟩) hS h
/-- The one operation that may come up is run. -/
theorem hw_call {fuel : Nat} {listed : Array Bool} {a : Act} {w : World} (i : Nat) (d : Option Tmp) {oi : Oper} (hi : ops[i]? = some oi) (hd : oi.dst = d) (hr : Region.ready md ops listed = [i]) (hw : Region.wanted oi (yielded ops a.tmps) = true)
    (h : ∀ K' : Act → World → Prop, Shut (∀ u w', S w' → (S w' → wpAnyH P md ops Q S fuel (listed.setIfInBounds i true) (a.put d u) w') → K' (a.put d u) w') → Oper.wp P oi a w K' Q) : wpAnyH P md ops Q S (fuel + 1) listed a w := by
  subst hd
  refine wpAnyH_ready hr (by simp) ?_
  intro j hj
  obtain rfl := List.mem_singleton.1 hj
  refine wpOp_step hi (fun K' hK => ?_)
  rw [if_pos hw]
  exact h K' (fun u w' hS' hW => hK _ _ ⟨hS', hW hS'⟩)
/-- One of those that may come up is run. -/
theorem hw_step {fuel : Nat} {listed : Array Bool} {a : Act} {w : World} {rs : List Nat} (i : Nat) (d : Option Tmp) {oi : Oper} (hi : ops[i]? = some oi) (hd : oi.dst = d) (hw : Region.wanted oi (yielded ops a.tmps) = true)
    (h : ∀ K' : Act → World → Prop, Shut (∀ u w', S w' → (S w' → wpAnyH P md ops Q S fuel (listed.setIfInBounds i true) (a.put d u) w') → K' (a.put d u) w') → Oper.wp P oi a w K' Q) (hs : AllReadyH P md ops Q S fuel listed a w rs) : AllReadyH P md ops Q S fuel listed a w (i :: rs) := by
  subst hd
  intro j hj
  rcases List.mem_cons.1 hj with rfl | hj
  · refine wpOp_step hi (fun K' hK => ?_)
    rw [if_pos hw]
    exact h K' (fun u w' hS' hW => hK _ _ ⟨hS', hW hS'⟩)
  · exact hs j hj
/-- A struct is stored, whole, into a block that is known. -/
theorem hw_store {a : Act} {w : World} {K : Act → World → Prop} (ty : TypeId) (x y : Operand) {oi : Oper} (ho : oi.op = .store ty x y) (hd : oi.dst = none) (B : Nat) (cs old : Array Value) (hx : a.eval x = .pointer (some ⟨B, 0, none⟩)) (hy : a.eval y = .agg cs)
    (hb : Blk w B ty old) (hi : (P.info? ty).map (·.size) = some cs.size) (hold : old.size = cs.size) (h1 : cs.all (·.oneCell') = true) (h : K (a.put none undef) (w.setRow B cs)) : Oper.wp P oi a w K Q := by
  refine wp_store_row ty x y ho B cs hx hy ty old hb hi hold h1 ?_
  rw [hd]
  exact h
end

theorem results_row3 {fn : Func} {t0 t1 t2 : Tmp} {ty0 ty1 ty2 : TypeId} {P : Program} {w : World} {tmps : Array Value} {B0 B1 B2 : Nat} {cs0 cs1 cs2 : Array Value} (h : fn.results = #[.cell t0 ty0, .cell t1 ty1, .cell t2 ty2])
    (ht0 : tmps[t0]? = some (.pointer (some ⟨B0, 0, none⟩))) (ht1 : tmps[t1]? = some (.pointer (some ⟨B1, 0, none⟩))) (ht2 : tmps[t2]? = some (.pointer (some ⟨B2, 0, none⟩)))
    (hb0 : Blk w B0 ty0 cs0) (hb1 : Blk w B1 ty1 cs1) (hb2 : Blk w B2 ty2 cs2)
    (hu0 : ∃ fs, P.underlying ty0 = some (.struct fs)) (hu1 : ∃ fs, P.underlying ty1 = some (.struct fs)) (hu2 : ∃ fs, P.underlying ty2 = some (.struct fs))
    (hi0 : (P.info? ty0).map (·.size) = some cs0.size) (hi1 : (P.info? ty1).map (·.size) = some cs1.size) (hi2 : (P.info? ty2).map (·.size) = some cs2.size) :
    (results fn tmps).run P w = .ok (.tuple #[.agg cs0, .agg cs1, .agg cs2]) w := by
  obtain ⟨f0, hu0⟩ := hu0
  obtain ⟨f1, hu1⟩ := hu1
  obtain ⟨f2, hu2⟩ := hu2
  have hl0 := run_loadVar_row (P := P) w B0 ty0 ty0 cs0 (0, 0) (.struct f0) hb0 hu0 rfl hi0
  have hl1 := run_loadVar_row (P := P) w B1 ty1 ty1 cs1 (0, 0) (.struct f1) hb1 hu1 rfl hi1
  have hl2 := run_loadVar_row (P := P) w B2 ty2 ty2 cs2 (0, 0) (.struct f2) hb2 hu2 rfl hi2
  simp [results, h, ht0, ht1, ht2, asAddr, hl0, hl1, hl2]

end Go.Proofs.Ytljkcijakdhdiaa

namespace Go.Proofs.Ytljkcijakdhdiaa
open Go.RowKit Go.Sort
set_option linter.unusedVariables false
set_option linter.unusedSimpArgs false
set_option maxRecDepth 100000


theorem fit18 {w : World} {a : Option Addr} {n c : Nat} {zs : List Int} (h : OwAt w a n c zs) : n ≤ c := by
  rcases Nat.eq_zero_or_pos n with rfl | hn
  · exact Nat.zero_le _
  · obtain ⟨g, rfl, ho⟩ := h.2 hn
    rcases ho.2 with ⟨h1, h2⟩ | ⟨g', cap, cur, h1, h2, h3, h4, r⟩
    · omega
    · simp only [Value.slice.injEq] at h1
      omega
theorem Try.infoMg : (Try.prog.info? 51).map (fun i => (i.zero, i.size, i.bytes)) = some (some (.agg #[.int .i64 0, .int .i64 0, .int .i64 0, .int .i64 0, .int .i64 0, .int .i64 0, .slice none 0 0, .bool false, .int .i64 0, .slice none 0 0, .int .i64 0, .int .i64 0, .int .i64 0, .slice none 0 0]), 14, 160) := by kernel_rfl
/-- What stands between two rounds. -/
structure RmIn (w wr : World) (B : Nat) (x y : Int) (a : Option Addr) (n c : Nat) (F : List Fr) (u : Int) (v : Value) (U : List Mg) (k : Nat) : Prop where
  new : New w wr
  b0 : Blk wr w.heap.size 27 #[.int .i64 0, .int .i64 0, .int .i64 0, .int .i64 0, .slice none 0 0]
  bS : Blk wr B 40 #[.int .i64 x, .int .i64 y, .slice a n c]
  bT : Blk wr (B + 1) 27 #[.int .i64 0, .int .i64 u, .int .i64 0, .int .i64 0, v]
  own : OvG wr (B + 2) v U
  fr : OwF wr (w.heap.size + 1) B a n c F
  lt : w.heap.size < B
  u0 : 0 ≤ u ∧ u ≤ 1048576 * k
  ln : U.length ≤ k
theorem frame_at {F : List Fr} {k : Nat} {f : Fr} {Q : List (Int × List Int)} (h : F[k]? = some f) (hq : F.map Fr.out = Q) (hQ : ∀ x ∈ Q, x.2.length ≤ 400 ∧ ∀ z ∈ x.2, 0 ≤ z ∧ z ≤ 255) : f.zs.length ≤ 400 ∧ ∀ z ∈ f.zs, 0 ≤ z ∧ z ≤ 255 := by
  have := hQ (Fr.out f) (by rw [← hq]; exact List.mem_map_of_mem (List.mem_of_getElem? h))
  exact this

theorem subOf_any (c : Int) (w : World) : Calls Try.prog 21 #[.int .i64 c] w fun e w' => e = .returned (.int .i64 (subS c)) ∧ w' = w := by
  by_cases h1 : c = 1
  · subst h1
    go_enter Try.func21, Try.ntmps21
    go_wp2
    go_ret
    exact ⟨rfl, rfl⟩
  · by_cases h2 : c = 2
    · subst h2
      go_enter Try.func21, Try.ntmps21
      go_wp2
      go_ret
      exact ⟨rfl, rfl⟩
    · have HS : Hid (subS c = 3) := by unfold Hid subS; rw [if_neg h1, if_neg h2]
      have e1 : (c == 1) = false := by simpa using h1
      have e2 : (c == 2) = false := by simpa using h2
      go_enter Try.func21, Try.ntmps21
      go_wp2
      go_ret
      exact ⟨ret_i64 HS.out.symm, rfl⟩

set_option maxHeartbeats 12800000 in
theorem implRM (b off n c : Nat) (zs : List Int) (w : World) (h : BsAt w (some ⟨b, off, none⟩) zs) (hn : zs.length = n) (hcc : n ≤ c) (hm : n ≤ 1048576) :
    Calls Try.prog 7 #[.slice (some ⟨b, off, none⟩) n c] w (RmAns w (rmF zs).z (rmF zs).us (rmF zs).wy (rmF zs).sb (rmF zs).D) := by
  have hw := (New.refl w).alloc (.cells #[.int .i64 0, .int .i64 0, .int .i64 0, .int .i64 0, .slice none 0 0] 27)
  have b0 := Blk.mk w w.heap.size 27 #[.int .i64 0, .int .i64 0, .int .i64 0, .int .i64 0, .slice none 0 0] rfl
  by_cases hbig : 400 < n
  · have hbi : (400 : Int) < (n : Int) := by omega
    have HR : Hid (rmF zs = ⟨2, 0, 0, 0, []⟩) := by unfold Hid rmF; rw [if_pos (by omega)]
    rw [HR.out]
    clear hn
    go_enter Try.func7, Try.ntmps7
    go_wp2
    refine bodyPost_ret (v := .agg #[.int .i64 2, .int .i64 0, .int .i64 0, .int .i64 0, .slice none 0 0]) (by simp [results, Try.results7, go_sem]) rfl ?_
    refine RmAns.of (lo := w.heap.size) (v := .slice none 0 0) (U := []) (OvG.nil _ _) (Nat.le_refl _) ?_ rfl
    first | exact hw | exact (((((New.refl w).alloc _).setCell (Nat.le_refl _) _).setCell (Nat.le_refl _) _).setCell (Nat.le_refl _) _).setCell (Nat.le_refl _) _ | exact (New.refl w).alloc _
  have hbi : ¬ (400 : Int) < (n : Int) := by omega
  have hz := h.lt
  have HR0 : Hid (rmF zs = rmG (splitR zs).1 (splitR zs).2.2 0 []) := by unfold Hid rmF; rw [if_neg (by omega)]
  have HRG : Hid ((splitR zs).1 = 0 ∨ (splitR zs).1 = 1 ∨ (splitR zs).1 = 2 ∨ (splitR zs).1 = 3) := splitR_rng
  have HFL : Hid ((splitR zs).2.2.length ≤ 80) := splitR_len hz (by omega)
  have HGD : Hid (∀ x ∈ (splitR zs).2.2, x.2.length ≤ 400 ∧ ∀ z ∈ x.2, 0 ≤ z ∧ z ≤ 255) := by
    intro x hx
    unfold splitR at hx
    rw [if_neg (by omega)] at hx
    have := (split_back (zs.length + 1) zs hz).2 x hx
    exact ⟨by have := this.2.2.1; omega, this.2.2.2⟩
  generalize rmF zs = R at *
  have HSP : Hid (∀ W, New w W → Calls Try.prog 19 #[.slice (some ⟨b, off, none⟩) n c] W fun e w' => SplitAns W (splitR zs) e w') := fun W hW => implSplit_any b off n c zs W (h.new hW) hn hcc hm
  generalize splitR zs = Q at *
  obtain ⟨qc, qu, qf⟩ := Q
  simp only at HR0 HRG HFL HGD
  obtain ⟨i0, hi, hzi0, hzi1, hzi2⟩ := info_parts Try.infoMg
  clear h hn hz hbig hcc
  go_enter Try.func7, Try.ntmps7
  go_wp2_with fail
  refine (HSP.out _ hw).mono ?_
  rintro e w1 ⟨a, nF, cF, F, he, oF, hn1, hQ⟩
  obtain rfl : e = .returned (.agg #[.int .i64 qc, .int .i64 (qu : Int), .slice a nF cF]) := he
  have hqf : F.map Fr.out = qf := hQ.symm
  have s1 := hn1.size
  simp at s1
  have oF' := oF.lower (lo' := w.heap.size + 1) (by simp)
  have al2 := ((New.refl w1).alloc (.cells #[.int .i64 qc, .int .i64 (qu : Int), .slice a nF cF] 40)).alloc (.cells #[.int .i64 0, .int .i64 0, .int .i64 0, .int .i64 0, .slice none 0 0] 27)
  have hI0 : RmIn w ((w1.alloc (.cells #[.int .i64 qc, .int .i64 (qu : Int), .slice a nF cF] 40)).alloc (.cells #[.int .i64 0, .int .i64 0, .int .i64 0, .int .i64 0, .slice none 0 0] 27)) w1.heap.size qc qu a nF cF F 0 (.slice none 0 0) [] 0 :=
    ⟨(hw.trans hn1).trans al2, (b0.new hn1).new al2, (Blk.mk w1 w1.heap.size 40 _ rfl).alloc _, Blk.mk _ _ _ _ (by simp), OvG.nil _ _, oF'.new al2, by omega, by omega, Nat.zero_le _⟩
  have HFn : Hid (F.length = nF) := oF.len
  have hnF : nF ≤ 80 := by
    have h1 := HFL.out
    have h2 : F.length = nF := oF.len
    rw [← hqf, List.length_map] at h1
    omega
  have HQF : Hid (F.map Fr.out = qf) := hqf
  have HRE : Hid (R = rmG qc ((F.map Fr.out).drop 0) 0 (([] : List Mg).map Mg.r)) := by unfold Hid; rw [hqf]; exact HR0.out
  obtain ⟨qU, HqU⟩ : ∃ qU : Int, qU = qu := ⟨_, rfl⟩
  rw [← HqU] at hI0 ⊢
  clear HR0 hn1 oF oF' al2 hw b0 HSP hQ hqf HqU HFL
  obtain ⟨B, hB⟩ : ∃ B, B = w1.heap.size := ⟨_, rfl⟩
  rw [← hB] at hI0
  have c3 := hI0.bS.cells
  go_wp2
  try rw [← hB]
  clear c3
  go_loopw [17] (fun i wr => ∃ (k : Nat) (u : Int) (v : Value) (U : List Mg), i = .int .i64 k ∧ k ≤ nF ∧ RmIn w wr B qc qU a nF cF F u v U k ∧ Hid (R = rmG qc ((F.map Fr.out).drop k) u (U.map Mg.r))) (fun i _ => nF - (intOf i).toNat)
  case atStart => exact ⟨0, 0, .slice none 0 0, [], rfl, Nat.zero_le _, hI0, HRE⟩
  clear hI0 HRE hB
  case round =>
    obtain ⟨k, u, v, U, rfl, hk, hI, HR⟩ := hrel
    obtain ⟨y0, d0, rfl, hny0, hby0⟩ := row9_form hI.own.row
    have cS := hI.bS.cells
    have cT := hI.bT.cells
    have hu0 := hI.u0
    have hln := hI.ln
    have hltB := hI.lt
    have ltT := hI.bT.lt
    by_cases hlt : k < nF
    · obtain ⟨g, f, ea, hfk, x0, x1, bf, of, -⟩ := hI.fr.at k hlt
      obtain ⟨lf, bzf⟩ := frame_at hfk HQF.out HGD.out
      have cf := fit18 of
      subst ea
      have HFK : Hid (F[k]? = some f) := hfk
      obtain ⟨fk, fz, fa, fc⟩ := f
      simp only at x0 x1 bf lf cf bzf
      have HP : Hid (∀ W, New wr W → Calls Try.prog 20 #[.agg #[.int .i64 fk, .slice fa fz.length fc]] W fun e w' => ∃ x y z, e = .returned (mrV (mh fk fz) (mp fk fz) x y z) ∧ Got w' W.heap.size (mp fk fz) x y z ∧ New W w') := fun W hW => implPMsg fk fa fz.length fc fz W (bf.new hW) rfl cf (by omega)
      have HBD : Hid (Bd (mp fk fz)) := mp_bd fk fz bzf (by omega)
      have HNX : Hid ((mh fk fz).code = 0 → R = rmG qc ((F.map Fr.out).drop (k + 1)) (u + 5 + fz.length) (U.map Mg.r ++ [(mh fk fz, mp fk fz)])) := fun hc => HR.out.trans (rmG_next hfk hc)
      have HBA : Hid (¬ (mh fk fz).code = 0 → R = ⟨(mh fk fz).code, u, (mh fk fz).why, (mh fk fz).sub, U.map Mg.r⟩) := fun hc => HR.out.trans (rmG_bad hfk hc)
      generalize mh fk fz = H at *
      generalize mp fk fz = p at *
      have hlx : (fz.length : Int) ≤ 400 := by omega
      generalize fz.length = fn at *
      clear hfk of bf bzf HR
      have alF := (New.refl wr).alloc (.cells #[.int .i64 fk, .slice fa fn fc] 43)
      go_wp2_with fail
      refine (HP.out _ alF).mono ?_
      rintro e w3 ⟨x, y, z, rfl, hG, hn3⟩
      obtain ⟨ga, gc, ex⟩ := hG.g.slice
      obtain ⟨xa, xc, ey⟩ := hG.n.slice
      obtain ⟨ra, rc, ez⟩ := hG.r.slice
      subst ex
      subst ey
      subst ez
      obtain ⟨code, why, sub, kd, sa, ho, si, wh, su⟩ := H
      obtain ⟨pc, soft, gs, has, o, xs, nx, md, lc, rs⟩ := p
      unfold mrV
      simp only at HNX HBA hG ⊢
      have n13 : New wr w3 := alF.trans hn3
      have s13 := n13.size
      have al4 := (New.refl w3).alloc (.cells #[.int .i64 code, .int .i64 why, .int .i64 sub, .int .i64 kd, .int .i64 sa, .int .i64 ho, .int .i64 si, .int .i64 wh, .int .i64 su, .slice ga gs.length gc, .bool has, .int .i64 o, .slice xa xs.length xc, .int .i64 nx, .int .i64 md, .int .i64 lc, .slice ra rs.length rc] 53)
      have n14 := n13.trans al4
      have b7 := Blk.mk w3 w3.heap.size 53 #[.int .i64 code, .int .i64 why, .int .i64 sub, .int .i64 kd, .int .i64 sa, .int .i64 ho, .int .i64 si, .int .i64 wh, .int .i64 su, .slice ga gs.length gc, .bool has, .int .i64 o, .slice xa xs.length xc, .int .i64 nx, .int .i64 md, .int .i64 lc, .slice ra rs.length rc] rfl
      have bT4 := hI.bT.new n14
      have bS4 := hI.bS.new n14
      have b04 := hI.b0.new n14
      have oU4 := hI.own.new n14
      have oF4 := hI.fr.new n14
      have hG4 := hG.new al4
      have hGlo : wr.heap.size ≤ (wr.alloc (.cells #[.int .i64 fk, .slice fa fn fc] 43)).heap.size := by simp
      have N4 := hI.new.trans n14
      have HUB : Hid (∀ u ∈ U, ∀ k, u.bl k → k < wr.heap.size) := fun u hu k hk => (hI.own.blk.2 u hu k hk).1.2
      have vB : ∀ k, (Value.slice y0 U.length d0).ownBlock = some k → B + 2 ≤ k ∧ k < wr.heap.size := fun k hk => hI.own.blk.1 k hk
      have sz4 : (w3.alloc (.cells #[.int .i64 code, .int .i64 why, .int .i64 sub, .int .i64 kd, .int .i64 sa, .int .i64 ho, .int .i64 si, .int .i64 wh, .int .i64 su, .slice ga gs.length gc, .bool has, .int .i64 o, .slice xa xs.length xc, .int .i64 nx, .int .i64 md, .int .i64 lc, .slice ra rs.length rc] 53)).heap.size = w3.heap.size + 1 := by simp
      have b6 := (Blk.mk wr wr.heap.size 43 #[.int .i64 fk, .slice fa fn fc] rfl).new (hn3.trans al4)
      clear cS cT hG HP hI n13 al4 alF
      by_cases hc : code = 0
      · subst hc
        have e1 : ((0 : Int) != 0) = false := rfl
        have bT5 := bT4.alloc (.cells #[.int .i64 kd, .int .i64 sa, .int .i64 ho, .int .i64 si, .int .i64 wh, .int .i64 su, .slice ga gs.length gc, .bool has, .int .i64 o, .slice xa xs.length xc, .int .i64 nx, .int .i64 md, .int .i64 lc, .slice ra rs.length rc] 51)
        have b75 := b7.alloc (.cells #[.int .i64 kd, .int .i64 sa, .int .i64 ho, .int .i64 si, .int .i64 wh, .int .i64 su, .slice ga gs.length gc, .bool has, .int .i64 o, .slice xa xs.length xc, .int .i64 nx, .int .i64 md, .int .i64 lc, .slice ra rs.length rc] 51)
        have al5 := (New.refl (w3.alloc (.cells #[.int .i64 0, .int .i64 why, .int .i64 sub, .int .i64 kd, .int .i64 sa, .int .i64 ho, .int .i64 si, .int .i64 wh, .int .i64 su, .slice ga gs.length gc, .bool has, .int .i64 o, .slice xa xs.length xc, .int .i64 nx, .int .i64 md, .int .i64 lc, .slice ra rs.length rc] 53))).alloc (.cells #[.int .i64 kd, .int .i64 sa, .int .i64 ho, .int .i64 si, .int .i64 wh, .int .i64 su, .slice ga gs.length gc, .bool has, .int .i64 o, .slice xa xs.length xc, .int .i64 nx, .int .i64 md, .int .i64 lc, .slice ra rs.length rc] 51)
        have bL := Blk.mk (w3.alloc (.cells #[.int .i64 0, .int .i64 why, .int .i64 sub, .int .i64 kd, .int .i64 sa, .int .i64 ho, .int .i64 si, .int .i64 wh, .int .i64 su, .slice ga gs.length gc, .bool has, .int .i64 o, .slice xa xs.length xc, .int .i64 nx, .int .i64 md, .int .i64 lc, .slice ra rs.length rc] 53)) (w3.heap.size + 1) 51 #[.int .i64 kd, .int .i64 sa, .int .i64 ho, .int .i64 si, .int .i64 wh, .int .i64 su, .slice ga gs.length gc, .bool has, .int .i64 o, .slice xa xs.length xc, .int .i64 nx, .int .i64 md, .int .i64 lc, .slice ra rs.length rc] (by simp)
        have cL := bL.cells
        have cT := bT4.cells
        have c7 := b7.cells
        have hrow := row9_new oU4.row al5
        go_wp2_with (at_builtin; refine wpList_apV _ rfl (.tmp 37) (.tmp 40) rfl (B + 2) 14 160 (.agg #[.int .i64 0, .int .i64 0, .int .i64 0, .int .i64 0, .int .i64 0, .int .i64 0, .slice none 0 0, .bool false, .int .i64 0, .slice none 0 0, .int .i64 0, .int .i64 0, .int .i64 0, .slice none 0 0]) Try.underlying25 hi hzi0 hzi1 hzi2 rfl (by omega) (by omega) (.slice y0 U.length d0) U.length _ rfl hrow (w3.heap.size + 1) [.int .i64 kd, .int .i64 sa, .int .i64 ho, .int .i64 si, .int .i64 wh, .int .i64 su, .slice ga gs.length gc, .bool has, .int .i64 o, .slice xa xs.length xc, .int .i64 nx, .int .i64 md, .int .i64 lc, .slice ra rs.length rc] rfl (by simp [Value.oneCell']) rfl (by intro j u hu; rw [cL j, List.getElem?_toArray]; exact hu) (by omega) (by simp; omega) ?_)
        intro v6 w6 hrow6 hgr6 hat6
        have t6 := turn_of_grown hgr6
        have s6 := t6.size
        simp at s6
        have bT6 := bT5.turn t6 (fun e => by have := vB _ e; omega)
        have oF6 := (oF4.new al5).turn t6 (fun i h1 h2 e => by have := vB _ e; omega)
        have bS6 := (bS4.new al5).turn t6 (fun e => by have := vB _ e; omega)
        have b06 := (b04.new al5).turn t6 (fun e => by have := vB _ e; omega)
        have N6 : New w w6 := (N4.trans al5).before t6 (fun i hi e => by have := vB _ e; omega)
        have hb6 : ∀ k, v6.ownBlock = some k → B + 2 ≤ k := by
          intro k hk
          obtain ⟨_, _, _, _, hb⟩ := row9_form hrow6
          exact (hb k hk).1
        have oV6 : OvG w6 (B + 2) v6 (U ++ [⟨⟨0, why, sub, kd, sa, ho, si, wh, su⟩, ⟨pc, soft, gs, has, o, xs, nx, md, lc, rs⟩, .slice ga gs.length gc, .slice xa xs.length xc, .slice ra rs.length rc⟩]) :=
          (oU4.new al5).snoc (lo2 := (wr.alloc (.cells #[.int .i64 fk, .slice fa fn fc] 43)).heap.size) (hG4.new al5) HBD.out (by omega) (fun u hu k hk => by have := HUB.out u hu k hk; omega) hrow6 hgr6
        have b66 := (b6.new al5).turn t6 (fun e => by have := vB _ e; omega)
        have c66 := b66.cells
        obtain ⟨y6, d6, e6, -, -⟩ := row9_form hrow6
        subst e6
        have t7 : Turn (fun i => i = B + 1) w6 (w6.setCell ⟨B + 1, 4, none⟩ (.slice y6 (U.length + 1) d6)) := (Turn.refl (fun i => i = B + 1) w6).set (p := ⟨B + 1, 4, none⟩) rfl _
        have bT7 := bT6.set 4 (.slice y6 (U.length + 1) d6)
        have cT6 := bT6.cells
        have fT6 := bT6.frees
        have lt6 := bT6.lt
        clear cL cT c7 hrow bL bT5 b75 bT4 bS4 b04 oU4 oF4 hG4 b7 hgr6 hat6 t6
        have bT8 := bT7.set 1 (.int .i64 (u + (5 + (fn : Int))))
        have t8 : Turn (fun i => i = B + 1) w6 ((w6.setCell ⟨B + 1, 4, none⟩ (.slice y6 (U.length + 1) d6)).setCell ⟨B + 1, 1, none⟩ (.int .i64 (u + (5 + (fn : Int))))) := t7.set (p := ⟨B + 1, 1, none⟩) rfl _
        go_wp2
        go_roundw
        case rel =>
          refine ⟨k + 1, u + (5 + (fn : Int)), .slice y6 (U.length + 1) d6, U ++ [⟨⟨0, why, sub, kd, sa, ho, si, wh, su⟩, ⟨pc, soft, gs, has, o, xs, nx, md, lc, rs⟩, .slice ga gs.length gc, .slice xa xs.length xc, .slice ra rs.length rc⟩], by go_num, by omega, ⟨?_, ?_, ?_, ?_, ?_, ?_, hltB, ?_, ?_⟩, ?_⟩
          · exact N6.before t8 (fun i hi e => by omega)
          · exact b06.turn t8 (by omega)
          · exact bS6.turn t8 (by omega)
          · exact bT8
          · exact oV6.turnL t8 (fun i hi e => by omega)
          · exact oF6.turn t8 (fun i h1 h2 e => by omega)
          · constructor <;> (push_cast; omega)
          · rw [List.length_append, List.length_singleton]; omega
          · unfold Hid
            rw [List.map_append, HNX.out (by first | rfl | trivial), show u + 5 + (fn : Int) = u + (5 + (fn : Int)) by omega]
            rfl
        case measure => simp [intOf]; omega
      · have e1 : (code != 0) = true := by simpa using hc
        have HRF := HBA.out hc
        subst HRF
        have cT := bT4.cells
        have c7 := b7.cells
        clear HNX HBA
        go_upto_region 10 with fail
        generalize w3.alloc (.cells #[.int .i64 code, .int .i64 why, .int .i64 sub, .int .i64 kd, .int .i64 sa, .int .i64 ho, .int .i64 si, .int .i64 wh, .int .i64 su, .slice ga gs.length gc, .bool has, .int .i64 o, .slice xa xs.length xc, .int .i64 nx, .int .i64 md, .int .i64 lc, .slice ra rs.length rc] 53) = w4 at *
        clear cT c7
        refine hw_start (n := 12) (S := fun X => Blk X w3.heap.size 53 #[.int .i64 code, .int .i64 why, .int .i64 sub, .int .i64 kd, .int .i64 sa, .int .i64 ho, .int .i64 si, .int .i64 wh, .int .i64 su, .slice ga gs.length gc, .bool has, .int .i64 o, .slice xa xs.length xc, .int .i64 nx, .int .i64 md, .int .i64 lc, .slice ra rs.length rc]) rfl (by kernel_rfl) (b7.new ((New.refl _).drew)) (fun hH => ?_)
        have n4 := (New.refl w4).drew
        have bT5 := bT4.new n4
        have cT5 := bT5.cells
        have fT5 := bT5.frees
        have tA := n4.turn (S := fun i => i = B + 1)
        generalize w4.drew = u0 at *
        refine' hw_take 0 (some 26) _ rfl rfl (by kernel_rfl) (by kernel_rfl) (by kernel_rfl) (fun _ _ _ h => h) (by rfl) hH ?hy1 ?rest1
        case hy1 =>
          intro X hX
          go_simp
          try rfl
        simp only [Act.put, List.setIfInBounds_toArray, List.set_cons_zero, List.set_cons_succ]
        refine' hw_take 1 (some 27) _ rfl rfl (by kernel_rfl) (by kernel_rfl) (by kernel_rfl) (fun _ _ _ h => h) (by rfl) hH ?hy2 ?rest2
        case hy2 =>
          intro X hX
          have q7 := hX.cells
          go_simp
          try rfl
        simp only [Act.put, List.setIfInBounds_toArray, List.set_cons_zero, List.set_cons_succ]
        refine' hw_take 2 (some 28) _ rfl rfl (by kernel_rfl) (by kernel_rfl) (by kernel_rfl) (fun _ _ _ h => h) (by rfl) hH ?hy3 ?rest3
        case hy3 =>
          intro X hX
          go_simp
          try rfl
        simp only [Act.put, List.setIfInBounds_toArray, List.set_cons_zero, List.set_cons_succ]
        refine' hw_take 3 (some 29) _ rfl rfl (by kernel_rfl) (by kernel_rfl) (by kernel_rfl) (fun _ _ _ h => h) (by rfl) hH ?hy4 ?rest4
        case hy4 =>
          intro X hX
          have q7 := hX.cells
          go_simp
          try rfl
        simp only [Act.put, List.setIfInBounds_toArray, List.set_cons_zero, List.set_cons_succ]
        refine' hw_take 4 (some 30) _ rfl rfl (by kernel_rfl) (by kernel_rfl) (by kernel_rfl) (fun _ _ _ h => h) (by rfl) hH ?hy5 ?rest5
        case hy5 =>
          intro X hX
          go_simp
          try rfl
        simp only [Act.put, List.setIfInBounds_toArray, List.set_cons_zero, List.set_cons_succ]
        refine' hw_take 5 (some 31) _ rfl rfl (by kernel_rfl) (by kernel_rfl) (by kernel_rfl) (fun _ _ _ h => h) (by rfl) hH ?hy6 ?rest6
        case hy6 =>
          intro X hX
          have q7 := hX.cells
          go_simp
          try rfl
        simp only [Act.put, List.setIfInBounds_toArray, List.set_cons_zero, List.set_cons_succ]
        refine' hw_take 6 (some 32) _ rfl rfl (by kernel_rfl) (by kernel_rfl) (by kernel_rfl) (fun _ _ _ h => h) (by rfl) hH ?hy7 ?rest7
        case hy7 =>
          intro X hX
          go_simp
          try rfl
        simp only [Act.put, List.setIfInBounds_toArray, List.set_cons_zero, List.set_cons_succ]
        refine hw_call 7 none rfl rfl (by kernel_rfl) (by rfl) (fun K hK => ?_)
        go_simp
        have tq0 : Turn (fun i => i = B + 1) u0 (u0.setCell ⟨B + 1, 0, none⟩ (.int .i64 code)) := (Turn.refl (fun i => i = B + 1) u0).set (p := ⟨B + 1, 0, none⟩) rfl _
        have bq0 := bT5.set 0 (.int .i64 code)
        have hq0 := hH.turn tq0 (by omega)
        have tb0 := Turn.trans tA tq0 (fun _ _ e => e)
        generalize u0.setCell ⟨B + 1, 0, none⟩ (.int .i64 code) = u1 at *
        refine hK.out undef _ hq0 (fun hH => ?_)
        try simp only [Act.put, List.setIfInBounds_toArray, List.set_cons_zero, List.set_cons_succ]
        clear tA cT5 fT5
        have tA := tb0
        have cT5 := bq0.cells
        have fT5 := bq0.frees
        refine' hw_take 8 (some 33) _ rfl rfl (by kernel_rfl) (by kernel_rfl) (by kernel_rfl) (fun _ _ _ h => h) (by rfl) hH ?hy8 ?rest8
        case hy8 =>
          intro X hX
          go_simp
          try rfl
        simp only [Act.put, List.setIfInBounds_toArray, List.set_cons_zero, List.set_cons_succ]
        refine hw_call 9 none rfl rfl (by kernel_rfl) (by rfl) (fun K hK => ?_)
        go_simp
        have tq1 : Turn (fun i => i = B + 1) u1 (u1.setCell ⟨B + 1, 2, none⟩ (.int .i64 why)) := (Turn.refl (fun i => i = B + 1) u1).set (p := ⟨B + 1, 2, none⟩) rfl _
        have bq1 := bq0.set 2 (.int .i64 why)
        have hq1 := hH.turn tq1 (by omega)
        have tb1 := Turn.trans tA tq1 (fun _ _ e => e)
        generalize u1.setCell ⟨B + 1, 2, none⟩ (.int .i64 why) = u2 at *
        refine hK.out undef _ hq1 (fun hH => ?_)
        try simp only [Act.put, List.setIfInBounds_toArray, List.set_cons_zero, List.set_cons_succ]
        clear tA cT5 fT5
        have tA := tb1
        have cT5 := bq1.cells
        have fT5 := bq1.frees
        refine' hw_take 10 (some 34) _ rfl rfl (by kernel_rfl) (by kernel_rfl) (by kernel_rfl) (fun _ _ _ h => h) (by rfl) hH ?hy9 ?rest9
        case hy9 =>
          intro X hX
          go_simp
          try rfl
        simp only [Act.put, List.setIfInBounds_toArray, List.set_cons_zero, List.set_cons_succ]
        refine hw_call 11 none rfl rfl (by kernel_rfl) (by rfl) (fun K hK => ?_)
        go_simp
        have tq2 : Turn (fun i => i = B + 1) u2 (u2.setCell ⟨B + 1, 3, none⟩ (.int .i64 sub)) := (Turn.refl (fun i => i = B + 1) u2).set (p := ⟨B + 1, 3, none⟩) rfl _
        have bq2 := bq1.set 3 (.int .i64 sub)
        have hq2 := hH.turn tq2 (by omega)
        have tb2 := Turn.trans tA tq2 (fun _ _ e => e)
        generalize u2.setCell ⟨B + 1, 3, none⟩ (.int .i64 sub) = u3 at *
        refine hK.out undef _ hq2 (fun hH => ?_)
        try simp only [Act.put, List.setIfInBounds_toArray, List.set_cons_zero, List.set_cons_succ]
        clear tA cT5 fT5
        have tA := tb2
        have cT5 := bq2.cells
        have fT5 := bq2.frees
        refine wpAnyH_done (by kernel_rfl) ?_ _
        have b05 := b04.turn tA (by omega)
        have oU5 := oU4.turnL tA (fun i hi e => by omega)
        have N5 : New w u3 := N4.before tA (fun i hi e => by omega)
        have c0 := b05.cells
        have f0 := b05.frees
        go_wp2
        have tR : Turn (fun i => i = w.heap.size) u3 (((((u3.setCell ⟨w.heap.size, 0, none⟩ (.int .i64 code)).setCell ⟨w.heap.size, 1, none⟩ (.int .i64 u)).setCell ⟨w.heap.size, 2, none⟩ (.int .i64 why)).setCell ⟨w.heap.size, 3, none⟩ (.int .i64 sub)).setCell ⟨w.heap.size, 4, none⟩ (.slice y0 U.length d0)) := (((((Turn.refl (fun i => i = w.heap.size) u3).set (p := ⟨w.heap.size, 0, none⟩) rfl _).set (p := ⟨w.heap.size, 1, none⟩) rfl _).set (p := ⟨w.heap.size, 2, none⟩) rfl _).set (p := ⟨w.heap.size, 3, none⟩) rfl _).set (p := ⟨w.heap.size, 4, none⟩) rfl _
        refine bodyPost_ret (v := .agg #[.int .i64 code, .int .i64 u, .int .i64 why, .int .i64 sub, .slice y0 U.length d0]) (by simp [results, Try.results7, go_sem, c0]) rfl ?_
        exact RmAns.of (lo := B + 2) (v := .slice y0 U.length d0) (U := U) (oU5.turnL tR (fun i hi e => by omega)) (by omega) (N5.before tR (fun i hi e => by omega)) rfl
    · obtain rfl : k = nF := by omega
      have HE : Hid (R = if qc = 0 then ⟨0, u, 0, 0, U.map Mg.r⟩ else ⟨qc, u, 1, subS qc, U.map Mg.r⟩) := HR.out.trans (rmG_end (by have := HFn.out; omega))
      have hfin : ∀ (W : World) (z wy sb : Int), New w W → OvG W (B + 2) (.slice y0 U.length d0) U → R = ⟨z, u, wy, sb, U.map Mg.r⟩ → RmAns w R.z R.us R.wy R.sb R.D (.returned (.agg #[.int .i64 z, .int .i64 u, .int .i64 wy, .int .i64 sb, .slice y0 U.length d0])) W := by
        intro W z wy sb h1 h2 h3
        rw [h3]
        exact RmAns.of (lo := B + 2) h2 (by omega) h1 rfl
      have HFI : Hid _ := hfin
      have b0 := hI.b0
      have bT := hI.bT
      have oU := hI.own
      have N := hI.new
      have c0 := b0.cells
      have f0 := b0.frees
      clear HR hfin
      by_cases hq : qc = 0
      · have HE2 := HE.out
        rw [if_pos hq] at HE2
        have HE3 : Hid (R = ⟨0, u, 0, 0, U.map Mg.r⟩) := HE2
        have e1 : (qc != 0) = false := by simpa using hq
        clear HE HE2 hI hq
        go_wp2
        have tR : Turn (fun i => i = w.heap.size) wr (((((wr.setCell ⟨w.heap.size, 0, none⟩ (.int .i64 0)).setCell ⟨w.heap.size, 1, none⟩ (.int .i64 u)).setCell ⟨w.heap.size, 2, none⟩ (.int .i64 0)).setCell ⟨w.heap.size, 3, none⟩ (.int .i64 0)).setCell ⟨w.heap.size, 4, none⟩ (.slice y0 U.length d0)) := (((((Turn.refl (fun i => i = w.heap.size) wr).set (p := ⟨w.heap.size, 0, none⟩) rfl _).set (p := ⟨w.heap.size, 1, none⟩) rfl _).set (p := ⟨w.heap.size, 2, none⟩) rfl _).set (p := ⟨w.heap.size, 3, none⟩) rfl _).set (p := ⟨w.heap.size, 4, none⟩) rfl _
        refine bodyPost_ret (v := .agg #[.int .i64 0, .int .i64 u, .int .i64 0, .int .i64 0, .slice y0 U.length d0]) (by simp [results, Try.results7, go_sem, c0]) rfl ?_
        exact HFI.out _ 0 0 0 (N.before tR (fun i hi e => by omega)) (oU.turnL tR (fun i hi e => by omega)) HE3.out
      · have HE2 := HE.out
        rw [if_neg hq] at HE2
        have HE3 : Hid (R = ⟨qc, u, 1, subS qc, U.map Mg.r⟩) := HE2
        have e1 : (qc != 0) = true := by simpa using hq
        have HQ1 : Hid (¬ qc = 0) := hq
        have bS := hI.bS
        clear HE HE2 hI hq c0 f0 cS cT
        have cS := bS.cells
        have cT := bT.cells
        go_upto_region 16 with fail
        clear cS cT
        refine hw_start (n := 11) (S := fun X => Blk X B 40 #[.int .i64 qc, .int .i64 qU, .slice a k cF]) rfl (by kernel_rfl) (bS.new ((New.refl _).drew)) (fun hH => ?_)
        have n4 := (New.refl wr).drew
        have bT5 := bT.new n4
        have tA := n4.turn (S := fun i => i = B + 1)
        generalize wr.drew = u0 at *
        refine' hw_take 0 (some 55) _ rfl rfl (by kernel_rfl) (by kernel_rfl) (by kernel_rfl) (fun _ _ _ h => h) (by rfl) hH ?hy10 ?rest10
        case hy10 =>
          intro X hX
          go_simp
          try rfl
        simp only [Act.put, List.setIfInBounds_toArray, List.set_cons_zero, List.set_cons_succ]
        refine' hw_take 1 (some 56) _ rfl rfl (by kernel_rfl) (by kernel_rfl) (by kernel_rfl) (fun _ _ _ h => h) (by rfl) hH ?hy11 ?rest11
        case hy11 =>
          intro X hX
          have q7 := hX.cells
          go_simp
          try rfl
        simp only [Act.put, List.setIfInBounds_toArray, List.set_cons_zero, List.set_cons_succ]
        refine' hw_take 2 (some 57) _ rfl rfl (by kernel_rfl) (by kernel_rfl) (by kernel_rfl) (fun _ _ _ h => h) (by rfl) hH ?hy12 ?rest12
        case hy12 =>
          intro X hX
          go_simp
          try rfl
        simp only [Act.put, List.setIfInBounds_toArray, List.set_cons_zero, List.set_cons_succ]
        refine' hw_take 3 (some 58) _ rfl rfl (by kernel_rfl) (by kernel_rfl) (by kernel_rfl) (fun _ _ _ h => h) (by rfl) hH ?hy13 ?rest13
        case hy13 =>
          intro X hX
          have q7 := hX.cells
          go_simp
          try rfl
        simp only [Act.put, List.setIfInBounds_toArray, List.set_cons_zero, List.set_cons_succ]
        refine' hw_take 5 (some 60) _ rfl rfl (by kernel_rfl) (by kernel_rfl) (by kernel_rfl) (fun _ _ _ h => h) (by rfl) hH ?hy14 ?rest14
        case hy14 =>
          intro X hX
          go_simp
          try rfl
        simp only [Act.put, List.setIfInBounds_toArray, List.set_cons_zero, List.set_cons_succ]
        refine hw_call 4 (some 59) rfl rfl (by kernel_rfl) (by rfl) (fun K hK => ?_)
        go_simp
        refine (subOf_any qc _).mono ?_
        rintro e u4 ⟨rfl, rfl⟩
        refine hK.out _ _ hH (fun hH => ?_)
        simp only [Act.put, List.setIfInBounds_toArray, List.set_cons_zero, List.set_cons_succ]
        have cT5 := bT5.cells
        have fT5 := bT5.frees
        refine hw_call 6 none rfl rfl (by kernel_rfl) (by rfl) (fun K hK => ?_)
        go_simp
        have tq0 : Turn (fun i => i = B + 1) u4 (u4.setCell ⟨B + 1, 0, none⟩ (.int .i64 qc)) := (Turn.refl (fun i => i = B + 1) u4).set (p := ⟨B + 1, 0, none⟩) rfl _
        have bq0 := bT5.set 0 (.int .i64 qc)
        have hq0 := hH.turn tq0 (by omega)
        have tb0 := Turn.trans tA tq0 (fun _ _ e => e)
        generalize u4.setCell ⟨B + 1, 0, none⟩ (.int .i64 qc) = v1 at *
        refine hK.out undef _ hq0 (fun hH => ?_)
        try simp only [Act.put, List.setIfInBounds_toArray, List.set_cons_zero, List.set_cons_succ]
        clear tA cT5 fT5
        have tA := tb0
        have cT5 := bq0.cells
        have fT5 := bq0.frees
        refine' hw_take 7 (some 61) _ rfl rfl (by kernel_rfl) (by kernel_rfl) (by kernel_rfl) (fun _ _ _ h => h) (by rfl) hH ?hy15 ?rest15
        case hy15 =>
          intro X hX
          go_simp
          try rfl
        simp only [Act.put, List.setIfInBounds_toArray, List.set_cons_zero, List.set_cons_succ]
        refine hw_call 8 none rfl rfl (by kernel_rfl) (by rfl) (fun K hK => ?_)
        go_simp
        have tq1 : Turn (fun i => i = B + 1) v1 (v1.setCell ⟨B + 1, 2, none⟩ (.int .i64 1)) := (Turn.refl (fun i => i = B + 1) v1).set (p := ⟨B + 1, 2, none⟩) rfl _
        have bq1 := bq0.set 2 (.int .i64 1)
        have hq1 := hH.turn tq1 (by omega)
        have tb1 := Turn.trans tA tq1 (fun _ _ e => e)
        generalize v1.setCell ⟨B + 1, 2, none⟩ (.int .i64 1) = v2 at *
        refine hK.out undef _ hq1 (fun hH => ?_)
        try simp only [Act.put, List.setIfInBounds_toArray, List.set_cons_zero, List.set_cons_succ]
        clear tA cT5 fT5
        have tA := tb1
        have cT5 := bq1.cells
        have fT5 := bq1.frees
        refine' hw_take 9 (some 62) _ rfl rfl (by kernel_rfl) (by kernel_rfl) (by kernel_rfl) (fun _ _ _ h => h) (by rfl) hH ?hy16 ?rest16
        case hy16 =>
          intro X hX
          go_simp
          try rfl
        simp only [Act.put, List.setIfInBounds_toArray, List.set_cons_zero, List.set_cons_succ]
        refine hw_call 10 none rfl rfl (by kernel_rfl) (by rfl) (fun K hK => ?_)
        go_simp
        have tq2 : Turn (fun i => i = B + 1) v2 (v2.setCell ⟨B + 1, 3, none⟩ (.int .i64 (subS qc))) := (Turn.refl (fun i => i = B + 1) v2).set (p := ⟨B + 1, 3, none⟩) rfl _
        have bq2 := bq1.set 3 (.int .i64 (subS qc))
        have hq2 := hH.turn tq2 (by omega)
        have tb2 := Turn.trans tA tq2 (fun _ _ e => e)
        generalize v2.setCell ⟨B + 1, 3, none⟩ (.int .i64 (subS qc)) = v3 at *
        refine hK.out undef _ hq2 (fun hH => ?_)
        try simp only [Act.put, List.setIfInBounds_toArray, List.set_cons_zero, List.set_cons_succ]
        clear tA cT5 fT5
        have tA := tb2
        have cT5 := bq2.cells
        have fT5 := bq2.frees
        refine wpAnyH_done (by kernel_rfl) ?_ _
        have b05 := b0.turn tA (by omega)
        have oU5 := oU.turnL tA (fun i hi e => by omega)
        have N5 : New w v3 := N.before tA (fun i hi e => by omega)
        have c0 := b05.cells
        have f0 := b05.frees
        go_wp2
        have tR : Turn (fun i => i = w.heap.size) v3 (((((v3.setCell ⟨w.heap.size, 0, none⟩ (.int .i64 qc)).setCell ⟨w.heap.size, 1, none⟩ (.int .i64 u)).setCell ⟨w.heap.size, 2, none⟩ (.int .i64 1)).setCell ⟨w.heap.size, 3, none⟩ (.int .i64 (subS qc))).setCell ⟨w.heap.size, 4, none⟩ (.slice y0 U.length d0)) := (((((Turn.refl (fun i => i = w.heap.size) v3).set (p := ⟨w.heap.size, 0, none⟩) rfl _).set (p := ⟨w.heap.size, 1, none⟩) rfl _).set (p := ⟨w.heap.size, 2, none⟩) rfl _).set (p := ⟨w.heap.size, 3, none⟩) rfl _).set (p := ⟨w.heap.size, 4, none⟩) rfl _
        refine bodyPost_ret (v := .agg #[.int .i64 qc, .int .i64 u, .int .i64 1, .int .i64 (subS qc), .slice y0 U.length d0]) (by simp [results, Try.results7, go_sem, c0]) rfl ?_
        exact HFI.out _ qc 1 (subS qc) (N5.before tR (fun i hi e => by omega)) (oU5.turnL tR (fun i hi e => by omega)) HE3.out

end Go.Proofs.Ytljkcijakdhdiaa
