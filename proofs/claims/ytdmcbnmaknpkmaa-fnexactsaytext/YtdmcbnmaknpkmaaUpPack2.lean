/- What is proved here: what the program's packing of attributes answers, for attributes without a fault. -/
import Derived.Test.YtdmcbnmaknpkmaaUpPack
namespace Go.Proofs.Ytdmcbnmaknpkmaa
open Go.RowKit Go.Sort
set_option linter.unusedVariables false

/-- The bytes of attributes. -/
def atB (o : Int) (xs : List Int) (nx md lc : Int) : List Int := [(xs.length : Int)] ++ nsB xs ++ [o] ++ [nx / 256, nx % 256, md / 256, md % 256, lc / 256, lc % 256]
theorem atB_len (o : Int) (xs : List Int) (nx md lc : Int) : (atB o xs nx md lc).length = xs.length * 2 + 8 := by
  simp [atB, nsB_len]

theorem afc_all : ∀ {xs : List Int}, afc xs = 0 → ∀ x ∈ xs, 1 ≤ x ∧ x ≤ 65535
  | [], _ => by simp
  | y :: r, h => by
    unfold afc at h
    split at h
    · rename_i hy
      intro x hx
      rcases List.mem_cons.1 hx with rfl | hx
      · exact hy
      · exact afc_all h x hx
    · cases h
theorem af_ok {o nx md lc : Int} {xs : List Int} (h : af o xs nx md lc = 0) : Ao o nx md lc ∧ xs.length ≤ 6 ∧ ∀ x ∈ xs, 1 ≤ x ∧ x ≤ 65535 := by
  unfold af at h
  split at h
  · rename_i ho
    split at h
    · cases h
    · exact ⟨ho, by omega, afc_all h⟩
  · cases h

/-- Where bytes that are appended lie: at their old place, or in new memory. -/
theorem grow_at {w w1 : World} {g g1 g2 H : Nat} {v : Value} (h1 : g1 = g ∨ w.heap.size ≤ g1) (hv : v.ownBlock = some g1) (hH : w.heap.size ≤ H) (h : v.ownBlock = some g2 ∨ g2 = H) : g2 = g ∨ w.heap.size ≤ g2 := by
  rcases h with h' | h'
  · rw [hv] at h'
    obtain rfl := Option.some.inj h'
    exact h1
  · right; omega

set_option maxHeartbeats 3200000 in
theorem apAt_any (g n cap k : Nat) (a : Option Addr) (c : Nat) (o nx md lc : Int) (ys xs : List Int) (w : World) (ho : Row8 w g n cap ys) (hp : NsAt w a xs) (hk : xs.length = k) (hn : n ≤ 1000) (hf : af o xs nx md lc = 0) (hne : ∀ x, xs ≠ [] → a = some x → x.block ≠ g) :
    Calls Try.prog 71 #[.slice (some ⟨g, 0, none⟩) n cap, .agg #[.int .i64 o, .slice a k c, .int .i64 nx, .int .i64 md, .int .i64 lc]] w fun e w' => ∃ g' cap', e = .returned (.slice (some ⟨g', 0, none⟩) (n + (k * 2 + 8)) cap') ∧ (g' = g ∨ w.heap.size ≤ g') ∧ Row8 w' g' (n + (k * 2 + 8)) cap' (ys ++ atB o xs nx md lc) ∧ Turn (fun i => i = g) w w' := by
  obtain ⟨i0, hi, hz0, hz1, hz2⟩ := info_parts Try.infoU8
  obtain ⟨⟨⟨ho0, ho2⟩, ⟨hx0, hx1⟩, ⟨hm0, hm1⟩, ⟨hl0, hl1⟩⟩, hk6, hall⟩ := af_ok hf
  rw [hk] at hk6
  have HK : Hid (xs.length = k) := hk
  have HA : Hid (∀ x ∈ xs, 1 ≤ x ∧ x ≤ 65535) := hall
  have hglt := ho.lt
  clear hk hall hf
  have hal := (New.refl w).alloc (.cells #[.int .i64 o, .slice a k c, .int .i64 nx, .int .i64 md, .int .i64 lc] 36)
  have bA := Blk.mk w w.heap.size 36 #[.int .i64 o, .slice a k c, .int .i64 nx, .int .i64 md, .int .i64 lc] rfl
  have hwk : IntKind.u8.wrap (k : Int) = (k : Int) := by simp [IntKind.wrap, IntKind.signed, IntKind.bits]; omega
  have hwo : IntKind.u8.wrap o = o := by simp [IntKind.wrap, IntKind.signed, IntKind.bits]; omega
  have hal1 := hal.alloc (.cells #[.int .u8 (k : Int)] 5)
  have bA1 := bA.alloc (.cells #[.int .u8 (k : Int)] 5)
  have hbs : BsAt ((w.alloc (.cells #[.int .i64 o, .slice a k c, .int .i64 nx, .int .i64 md, .int .i64 lc] 36)).alloc (.cells #[.int .u8 (k : Int)] 5)) (some ⟨w.heap.size + 1, 0, none⟩) [(k : Int)] := BsAt.of_block (B := w.heap.size + 1) (by rw [show w.heap.size + 1 = (w.alloc (.cells #[.int .i64 o, .slice a k c, .int .i64 nx, .int .i64 md, .int .i64 lc] 36)).heap.size by simp]; exact heap_alloc_new _ _) _ rfl (by simp; omega)
  have hrow1 := ho.new hal1
  go_enter Try.func71, Try.ntmps71
  go_wp2_with (at_builtin; refine wpList_ap _ rfl (.tmp 9) (.tmp 14) rfl 0 Try.underlying31 hi hz0 hz1 hz2 (.slice (some ⟨g, 0, none⟩) n cap) n ys rfl hrow1 (some ⟨w.heap.size + 1, 0, none⟩) 1 1 _ rfl hbs rfl (by intro h; cases h) (by omega) (by omega) (Nat.zero_le _) (w.heap.size + 2) (by simp) ?_)
  intro g1 cap1 w1 ho1 hgr1 hat1
  have hg1 := grow_at (w := w) (w1 := w1) (g := g) (.inl rfl) rfl (by omega) hat1
  have t1 : Turn (fun i => i = g) w w1 := Turn.trans hal1.turn (Turn.of_grown (g := g) hgr1) (fun i hi e => e)
  have bA2 := bA1.turn (Turn.of_grown (g := g) hgr1) (by omega)
  have hr1 : Row8 w1 g1 (n + 1) cap1 (ys ++ [(k : Int)]) := by unfold Row8; simpa using ho1
  have cA := bA2.cells
  have hs1 := t1.size
  clear ho1 hgr1 hat1 hrow1 hbs bA1 hal1 bA hal ho
  go_wp2_with fail
  go_loopw [0, 19] (fun s i wr => ∃ (j g' cap' : Nat), j ≤ k ∧ i = .int .i64 j ∧ s = .slice (some ⟨g', 0, none⟩) (n + 1 + j * 2) cap' ∧ (g' = g ∨ w.heap.size ≤ g') ∧ Row8 wr g' (n + 1 + j * 2) cap' (ys ++ [(k : Int)] ++ nsB (xs.take j)) ∧ Turn (fun i => i = g) w wr ∧ Blk wr w.heap.size 36 #[.int .i64 o, .slice a k c, .int .i64 nx, .int .i64 md, .int .i64 lc]) (fun _ i _ => k - (intOf i).toNat)
  case atStart => exact ⟨0, g1, cap1, Nat.zero_le _, rfl, by simp, hg1, by simpa [nsB] using hr1, t1, bA2⟩
  case round =>
    clear cA bA2 hr1 t1 hs1 hg1
    obtain ⟨j, g', cap', hj, rfl, rfl, hg', hrow, htn, bAr⟩ := hrel
    have hsz := htn.size
    have hbl := bAr.lt
    have hglt' := hrow.lt
    have hgne : ¬ g' = w.heap.size := fun e => bAr.ne_own hrow (by decide) e.symm
    by_cases hlt : j < k
    · obtain ⟨b, off, x, ha, hz, hc0, -⟩ := (hp.turn htn hne).at j (by rw [HK.out]; exact hlt)
      have ha' := ha
      subst ha'
      obtain ⟨q0, q1⟩ := HA.out x (List.mem_of_getElem? hz)
      have q2 : 0 ≤ x := by omega
      have q3 : x < 65536 := by omega
      have hT : Hid (nsB (xs.take (j + 1)) = nsB (xs.take j) ++ [x / 256, x % 256]) := by unfold Hid; rw [take_snoc hz]; exact nsB_snoc _ _
      clear hz
      go_wp2_with fail
      refine (appendPair_any g' (n + 1 + j * 2) cap' x _ _ hrow (by omega) q2 q3).mono ?_
      rintro e w2 ⟨g2, cap2, rfl, hg2, ho2, ht2⟩
      have bA2 := bAr.turn ht2 (fun e => hgne e.symm)
      have t2 : Turn (fun i => i = g) w w2 := Turn.trans htn ht2 (fun i hi e => by omega)
      have hg2' : g2 = g ∨ w.heap.size ≤ g2 := by
        rcases hg2 with h' | h'
        · subst h'; exact hg'
        · right; omega
      have hrow2 : Row8 w2 g2 (n + 1 + (j + 1) * 2) cap2 (ys ++ [(k : Int)] ++ nsB (xs.take (j + 1))) := by
        rw [hT.out, show n + 1 + (j + 1) * 2 = n + 1 + j * 2 + 2 by omega]
        unfold Row8
        simpa using ho2
      have hlen2 : n + 1 + j * 2 + 2 = n + 1 + (j + 1) * 2 := by omega
      clear hg2 ht2 ho2 hrow htn bAr hc0
      go_wp2
      go_roundw
      case rel => exact ⟨j + 1, g2, cap2, by omega, by go_num, by rw [← hlen2], hg2', hrow2, t2, bA2⟩
      case measure => simp [intOf]; omega
    · obtain rfl : j = k := by omega
      rw [List.take_of_length_le (by rw [HK.out]; omega)] at hrow
      have cA := bAr.cells
      have hal3 := (New.refl wr).alloc (.cells #[.int .u8 o] 5)
      have hbs : BsAt (wr.alloc (.cells #[.int .u8 o] 5)) (some ⟨wr.heap.size, 0, none⟩) [o] := BsAt.of_block (heap_alloc_new _ _) _ rfl (by simp; omega)
      go_wp2_with (at_builtin; refine wpList_ap _ rfl (.tmp 27) (.tmp 31) rfl 0 Try.underlying31 hi hz0 hz1 hz2 (.slice (some ⟨g', 0, none⟩) (n + 1 + j * 2) cap') (n + 1 + j * 2) _ rfl (hrow.new hal3) (some ⟨wr.heap.size, 0, none⟩) 1 1 _ rfl hbs rfl (by intro h; cases h) (by omega) (by omega) (Nat.zero_le _) (wr.heap.size + 1) (by simp) ?_)
      intro g3 cap3 w3 ho3 hgr3 hat3
      have hg3 := grow_at (w := w) (w1 := w3) (g := g) hg' rfl (by omega) hat3
      have t3 : Turn (fun i => i = g) w w3 := Turn.trans (Turn.trans htn hal3.turn (fun _ _ f => f)) (Turn.of_grown (g := g') hgr3) (fun i hi e => by omega)
      have bA3 := (bAr.new hal3).turn (Turn.of_grown (g := g') hgr3) (fun e => hgne e.symm)
      have hr3 : Row8 w3 g3 (n + 1 + j * 2 + 1) cap3 (ys ++ [(j : Int)] ++ nsB xs ++ [o]) := by unfold Row8; simpa using ho3
      clear ho3 hgr3 hat3 hbs hal3 cA hrow htn bAr
      have cA := bA3.cells
      have hal4 := (New.refl w3).alloc (.cells #[.int .i64 nx, .int .i64 md, .int .i64 lc] 2)
      have bL := Blk.mk w3 w3.heap.size 2 #[.int .i64 nx, .int .i64 md, .int .i64 lc] rfl
      have t4 : Turn (fun i => i = g) w (w3.alloc (.cells #[.int .i64 nx, .int .i64 md, .int .i64 lc] 2)) := Turn.trans t3 hal4.turn (fun _ _ f => f)
      have hs3 := t3.size
      have hr4 := hr3.new hal4
      go_wp2_with fail
      go_loopw [0, 41] (fun s i wq => ∃ (m g' cap' : Nat), m ≤ 3 ∧ i = .int .i64 m ∧ s = .slice (some ⟨g', 0, none⟩) (n + 1 + j * 2 + 1 + m * 2) cap' ∧ (g' = g ∨ w.heap.size ≤ g') ∧ Row8 wq g' (n + 1 + j * 2 + 1 + m * 2) cap' (ys ++ [(j : Int)] ++ nsB xs ++ [o] ++ nsB ([nx, md, lc].take m)) ∧ Turn (fun i => i = g) w wq ∧ Blk wq w3.heap.size 2 #[.int .i64 nx, .int .i64 md, .int .i64 lc]) (fun _ i _ => 3 - (intOf i).toNat)
      case atStart => exact ⟨0, g3, cap3, Nat.zero_le _, rfl, by simp, hg3, by simpa [nsB] using hr4, t4, bL⟩
      case round =>
        clear cA bA3 hr3 hr4 t3 t4 bL hg3 hal4
        obtain ⟨m, g', cap', hm, rfl, rfl, hg', hrow, htn, bLr⟩ := hrel
        have hsz := htn.size
        have hgne : ¬ g' = w3.heap.size := fun e => bLr.ne_own hrow (by decide) e.symm
        have cL := bLr.cells
        rcases (show m = 0 ∨ m = 1 ∨ m = 2 ∨ m = 3 by omega) with rfl | rfl | rfl | rfl
        · go_wp2_with fail
          refine (appendPair_any g' (n + 1 + j * 2 + 1 + 0 * 2) cap' nx _ _ hrow (by omega) hx0 (by omega)).mono ?_
          rintro e w5 ⟨g5, cap5, rfl, hg5, ho5, ht5⟩
          have bL5 := bLr.turn ht5 (fun e => hgne e.symm)
          have t5 : Turn (fun i => i = g) w w5 := Turn.trans htn ht5 (fun i hi e => by omega)
          have hg5' : g5 = g ∨ w.heap.size ≤ g5 := by
            rcases hg5 with h' | h'
            · subst h'; exact hg'
            · right; omega
          have hrow5 : Row8 w5 g5 (n + 1 + j * 2 + 1 + 1 * 2) cap5 (ys ++ [(j : Int)] ++ nsB xs ++ [o] ++ nsB ([nx, md, lc].take 1)) := by
            unfold Row8
            simpa [nsB] using ho5
          clear hg5 ht5 ho5 hrow htn bLr cL
          go_wp2
          go_roundw
          case rel => exact ⟨1, g5, cap5, by omega, by go_num, by go_num, hg5', hrow5, t5, bL5⟩
          case measure => simp [intOf]
        · go_wp2_with fail
          refine (appendPair_any g' (n + 1 + j * 2 + 1 + 1 * 2) cap' md _ _ hrow (by omega) hm0 (by omega)).mono ?_
          rintro e w5 ⟨g5, cap5, rfl, hg5, ho5, ht5⟩
          have bL5 := bLr.turn ht5 (fun e => hgne e.symm)
          have t5 : Turn (fun i => i = g) w w5 := Turn.trans htn ht5 (fun i hi e => by omega)
          have hg5' : g5 = g ∨ w.heap.size ≤ g5 := by
            rcases hg5 with h' | h'
            · subst h'; exact hg'
            · right; omega
          have hrow5 : Row8 w5 g5 (n + 1 + j * 2 + 1 + 2 * 2) cap5 (ys ++ [(j : Int)] ++ nsB xs ++ [o] ++ nsB ([nx, md, lc].take 2)) := by
            unfold Row8
            simpa [nsB] using ho5
          clear hg5 ht5 ho5 hrow htn bLr cL
          go_wp2
          go_roundw
          case rel => exact ⟨2, g5, cap5, by omega, by go_num, by go_num, hg5', hrow5, t5, bL5⟩
          case measure => simp [intOf]
        · go_wp2_with fail
          refine (appendPair_any g' (n + 1 + j * 2 + 1 + 2 * 2) cap' lc _ _ hrow (by omega) hl0 (by omega)).mono ?_
          rintro e w5 ⟨g5, cap5, rfl, hg5, ho5, ht5⟩
          have bL5 := bLr.turn ht5 (fun e => hgne e.symm)
          have t5 : Turn (fun i => i = g) w w5 := Turn.trans htn ht5 (fun i hi e => by omega)
          have hg5' : g5 = g ∨ w.heap.size ≤ g5 := by
            rcases hg5 with h' | h'
            · subst h'; exact hg'
            · right; omega
          have hrow5 : Row8 w5 g5 (n + 1 + j * 2 + 1 + 3 * 2) cap5 (ys ++ [(j : Int)] ++ nsB xs ++ [o] ++ nsB ([nx, md, lc].take 3)) := by
            unfold Row8
            simpa [nsB] using ho5
          clear hg5 ht5 ho5 hrow htn bLr cL
          go_wp2
          go_roundw
          case rel => exact ⟨3, g5, cap5, by omega, by go_num, by go_num, hg5', hrow5, t5, bL5⟩
          case measure => simp [intOf]
        · go_wp2
          go_ret
          have e1 : n + 1 + j * 2 + 1 + 3 * 2 = n + (j * 2 + 8) := by omega
          have e2 : ys ++ [(j : Int)] ++ nsB xs ++ [o] ++ nsB ([nx, md, lc].take 3) = ys ++ atB o xs nx md lc := by simp [atB, nsB, HK.out]
          rw [e1, e2] at hrow
          exact ⟨g', cap', ret_slice e1, hg', hrow, htn⟩

end Go.Proofs.Ytdmcbnmaknpkmaa
