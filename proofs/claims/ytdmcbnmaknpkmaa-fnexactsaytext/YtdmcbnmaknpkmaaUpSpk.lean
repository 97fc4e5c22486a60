/- What is proved here: what the model's packing of prefixes answers, for prefixes without a fault. -/
import Derived.Test.YtdmcbnmaknpkmaaUpPack3
namespace Go.Proofs.Ytdmcbnmaknpkmaa
open Go.RowKit Go.Sort
set_option linter.unusedVariables false
set_option maxRecDepth 100000

theorem PsAt.get {w : World} {b off : Nat} {ps : List (Int × Int)} {i : Nat} {x y : Int} (h : PsAt w (some ⟨b, off, none⟩) ps) (hz : ps[i]? = some (x, y)) : w.cell? ⟨b, off + i * 2, none⟩ = some (.int .i64 x) ∧ w.cell? ⟨b, off + i * 2 + 1, none⟩ = some (.int .i64 y) := by
  obtain ⟨b', off', e, h1, h2, _⟩ := h i _ hz
  simp only [Option.some.injEq, Addr.mk.injEq, and_true] at e
  obtain ⟨rfl, rfl⟩ := e
  exact ⟨h1, h2⟩
theorem NsAt.get {w : World} {b off : Nat} {xs : List Int} {i : Nat} {x : Int} (h : NsAt w (some ⟨b, off, none⟩) xs) (hz : xs[i]? = some x) : w.cell? ⟨b, off + i, none⟩ = some (.int .i64 x) := by
  obtain ⟨b', off', e, h1, _⟩ := h i _ hz
  simp only [Option.some.injEq, Addr.mk.injEq, and_true] at e
  obtain ⟨rfl, rfl⟩ := e
  exact h1

/-- A row of bytes made behind the block base. -/
def RowB (w : World) (base g n c : Nat) (ys : List Int) : Prop := w.ownsRow base 5 1 (.slice (some ⟨g, 0, none⟩) n c) n (ys.map (Value.int .u8))
theorem RowB.new {w w' : World} {base g n c : Nat} {ys : List Int} (h : RowB w base g n c ys) (t : New w w') : RowB w' base g n c ys := own_new h t
theorem RowB.ge {w : World} {base g n c : Nat} {ys : List Int} (h : RowB w base g n c ys) : base ≤ g := (World.ownsRow.lt h g rfl).1
theorem RowB.lt {w : World} {base g n c : Nat} {ys : List Int} (h : RowB w base g n c ys) : g < w.heap.size := (World.ownsRow.lt h g rfl).2
theorem RowB.low {w : World} {base base' g n c : Nat} {ys : List Int} (h : RowB w base g n c ys) (hb : base' ≤ base) : RowB w base' g n c ys := Joins.ownsRow_le h hb

theorem src_old {w w1 w2 : World} {g : Nat} {y : Int} {t : TypeId} (hb : 0 ≤ y ∧ y ≤ 255) (N : New (w.alloc (.cells #[.int .u8 y] t)) w1) (hg : w1.grownBy w2 (some g)) (hne : ¬ w.heap.size = g) : BsAt w2 (some ⟨w.heap.size, 0, none⟩) [y] :=
  ((BsAt.of_block (heap_alloc_new w (.cells #[.int .u8 y] t)) [y] rfl (by simpa using hb)).new N).turn (Turn.of_grown (g := g) hg) (by rintro x hx; obtain rfl := Option.some.inj hx; exact hne)

set_option maxHeartbeats 3200000 in
theorem l3Px_any (a : Option Addr) (k c : Nat) (ps : List (Int × Int)) (w : World) (hp : PsAt w a ps) (hk : ps.length = k) (hk8 : k ≤ 100) (hok : ∀ p ∈ ps, pf p.1 p.2 = 0) :
    Calls Try.prog 59 #[.slice a k c] w fun e w' => ∃ g cap, e = .returned (.slice (some ⟨g, 0, none⟩) (k * 3) cap) ∧ RowB w' w.heap.size g (k * 3) cap (pxB ps) ∧ New w w' := by
  obtain ⟨i0, hi, hz0, hz1, hz2⟩ := info_parts Try.infoU8
  have HK : Hid (ps.length = k) := hk
  have HOK : Hid (∀ p ∈ ps, pf p.1 p.2 = 0) := hok
  clear hk hok
  have hlit : RowB (w.alloc (.cells #[] 5)) w.heap.size w.heap.size 0 0 [] := World.ownsRow_lit (base := w.heap.size) (size := 1) (e := 5) w #[] 0 (Nat.le_refl _) (Nat.zero_le _) rfl
  go_enter Try.func59, Try.ntmps59
  go_wp2
  go_loopw [3, 4] (fun s i wr => ∃ (j g cap : Nat), j ≤ k ∧ i = .int .i64 j ∧ s = .slice (some ⟨g, 0, none⟩) (j * 3) cap ∧ RowB wr w.heap.size g (j * 3) cap (pxB (ps.take j)) ∧ New w wr) (fun _ i _ => k - (intOf i).toNat)
  case atStart => exact ⟨0, w.heap.size, 0, Nat.zero_le _, rfl, rfl, hlit, (New.refl _).alloc _⟩
  case round =>
    obtain ⟨j, g, cap, hj, rfl, rfl, hrow, hnw⟩ := hrel
    by_cases hlt : j < k
    · obtain ⟨b, off, x, y, ha, hz, hc0, hc1⟩ := (hp.new hnw).at j (by rw [HK.out]; exact hlt)
      have ha' := ha
      subst ha'
      have HZ : Hid (ps[j]? = some (x, y)) := hz
      have hpf := HOK.out (x, y) (List.mem_of_getElem? hz)
      obtain ⟨hx0, hx1, hy0, hy1, -⟩ := pf_ok hpf
      have hxu : x < 65536 := by simp at hx1; omega
      simp at hx0 hx1 hy0 hy1
      have hwy : IntKind.u8.wrap y = y := by simp [IntKind.wrap, IntKind.signed, IntKind.bits]; omega
      have hT : Hid (pxB (ps.take (j + 1)) = pxB (ps.take j) ++ [x / 256, x % 256, y]) := by unfold Hid; rw [takeP_snoc hz]; exact pxB_snoc _ _ _
      have hsz := hnw.size
      have hgg := hrow.ge
      have hgl := hrow.lt
      have hyb : 0 ≤ y ∧ y ≤ 255 := by omega
      have h2b : ∀ z ∈ [x / 256, x % 256], 0 ≤ z ∧ z ≤ 255 := by simp; omega
      have e1 : ¬ wr.heap.size = g := by omega
      obtain ⟨dA0, dA1⟩ := (hp.new (hnw.alloc (.cells #[.int .u8 y] 5))).get HZ.out
      clear hz hpf
      go_wp2_with fail
      go_region_law (first
        | (refine step_ap2 _ rfl (.tmp 12) (.tmp 18) rfl w.heap.size Try.underlying31 hi hz0 hz1 hz2 g (j * 3) cap _ rfl (by first | exact hrow.new N1 | exact (hrow.new N1).new ((New.refl _).alloc _)) ⟨g1, 0, none⟩ 2 cap1 [x / 256, x % 256] rfl (by first | exact BsAt.of_own ho1 h2b | exact (BsAt.of_own ho1 h2b).new ((New.refl _).alloc _)) rfl (by omega) (by first | omega | (simp; omega)) _ rfl ?_; intro g2 cap2 w2 ho2 hgr2 hat2; have hgr2' := hgr2; have N2 : New w w2 := (by first | exact (hnw.trans N1).grow hgr2 (by intro k hk; obtain rfl := Option.some.inj hk; exact hgg) | exact ((hnw.trans N1).alloc _).grow hgr2 (by intro k hk; obtain rfl := Option.some.inj hk; exact hgg)); obtain ⟨d20, d21⟩ := (hp.new N2).get HZ.out; have s2 := N2.size)
        | (refine step_ap2 _ rfl (.tmp 19) (.tmp 26) rfl w.heap.size Try.underlying31 hi hz0 hz1 hz2 g2 (j * 3 + 2) cap2 _ rfl (by first | exact ho2 | exact ho2.alloc _) ⟨_, 0, none⟩ 1 1 [y] rfl (by first | exact BsAt.of_block (heap_alloc_new _ _) [y] rfl (by simpa using hyb) | exact src_old hyb (New.refl _) hgr2 (by omega) | exact src_old hyb (((New.refl _).drew).trans hn1) hgr2 e1) rfl (by omega) (by first | omega | (simp; omega)) _ rfl ?_; intro g3 cap3 w3 ho3 hgr3 hat3)
        | (go_simp; go_at_call 41; refine (twoBytes_any x _ hx0 hxu).mono ?_; rintro e w1 ⟨g1, cap1, rfl, hg1, ho1, hn1⟩; have N1 : New wr w1 := (by first | exact ((New.refl _).drew).trans hn1 | exact (((New.refl _).alloc _).drew).trans hn1); obtain ⟨d10, d11⟩ := (hp.new (hnw.trans N1)).get HZ.out; obtain ⟨d1a0, d1a1⟩ := (hp.new ((hnw.trans N1).alloc (.cells #[.int .u8 y] 5))).get HZ.out; have s1 := N1.size))
      all_goals
        have hge2 := (World.ownsRow.lt ho2 g2 rfl).1
        have N3 : New w w3 := (by first | exact N2.grow hgr3 (by intro k hk; obtain rfl := Option.some.inj hk; exact hge2) | exact (N2.alloc _).grow hgr3 (by intro k hk; obtain rfl := Option.some.inj hk; exact hge2))
        have hrow3 : RowB w3 w.heap.size g3 ((j + 1) * 3) cap3 (pxB (ps.take (j + 1))) := by
          rw [hT.out, show (j + 1) * 3 = j * 3 + 2 + 1 by omega]
          unfold RowB
          simpa using ho3
        have hlen : j * 3 + 2 + 1 = (j + 1) * 3 := by omega
        clear ho3 hgr3 hat3 ho2 hgr2 hgr2' hat2 N2 ho1 hn1 N1 d10 d11 d1a0 d1a1 d20 d21 dA0 dA1 hc0 hc1 hg1 hrow
        go_wp2
        go_roundw
        case rel => exact ⟨j + 1, g3, cap3, by omega, by go_num, by rw [← hlen], hrow3, N3⟩
        case measure => simp [intOf]; omega
    · obtain rfl : j = k := by omega
      go_wp2
      go_ret
      rw [List.take_of_length_le (by rw [HK.out]; omega)] at hrow
      exact ⟨g, cap, rfl, hrow, hnw⟩

end Go.Proofs.Ytdmcbnmaknpkmaa
