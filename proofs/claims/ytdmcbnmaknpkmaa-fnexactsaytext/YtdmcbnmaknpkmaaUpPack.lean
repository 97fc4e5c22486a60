/- What is proved here: what the program's packing of an update answers, for every update with lists of at most 1048576 elements. -/
import Derived.Test.YtdmcbnmaknpkmaaUpFn
import Derived.Test.YtdmcbnmaknpkmaaPackFn
namespace Go.Proofs.Ytdmcbnmaknpkmaa
open Go.RowKit Go.Sort
set_option linter.unusedVariables false

/-- The block g is a row of bytes that a call has made. -/
def Row8 (w : World) (g n c : Nat) (ys : List Int) : Prop := w.ownsRow 0 5 1 (.slice (some ⟨g, 0, none⟩) n c) n (ys.map (Value.int .u8))
theorem Row8.len {w : World} {g n c : Nat} {ys : List Int} (h : Row8 w g n c ys) : ys.length = n := by simpa using h.1
theorem Row8.lt {w : World} {g n c : Nat} {ys : List Int} (h : Row8 w g n c ys) : g < w.heap.size := (World.ownsRow.lt h g rfl).2
theorem Row8.turn {w w' : World} {g n c : Nat} {ys : List Int} {S : Nat → Prop} (h : Row8 w g n c ys) (t : Turn S w w') (hS : ¬ S g) : Row8 w' g n c ys := own_turn h t hS
theorem Row8.new {w w' : World} {g n c : Nat} {ys : List Int} (h : Row8 w g n c ys) (t : New w w') : Row8 w' g n c ys := own_new h t

/-- The bytes of prefixes. -/
def pxB (ps : List (Int × Int)) : List Int := ps.flatMap fun p => [p.1 / 256, p.1 % 256, p.2]
theorem pxB_snoc (ps : List (Int × Int)) (x y : Int) : pxB (ps ++ [(x, y)]) = pxB ps ++ [x / 256, x % 256, y] := by simp [pxB]
theorem pxB_len : ∀ ps : List (Int × Int), (pxB ps).length = ps.length * 3
  | [] => rfl
  | p :: r => by
    have := pxB_len r
    simp only [pxB, List.flatMap_cons, List.length_append, List.length_cons, List.length_nil] at this ⊢
    omega
/-- The bytes of numbers, two each. -/
def nsB (xs : List Int) : List Int := xs.flatMap fun x => [x / 256, x % 256]
theorem nsB_snoc (xs : List Int) (x : Int) : nsB (xs ++ [x]) = nsB xs ++ [x / 256, x % 256] := by simp [nsB]
theorem nsB_len : ∀ xs : List Int, (nsB xs).length = xs.length * 2
  | [] => rfl
  | p :: r => by
    have := nsB_len r
    simp only [nsB, List.flatMap_cons, List.length_append, List.length_cons, List.length_nil] at this ⊢
    omega

theorem takeP_snoc {ps : List (Int × Int)} {k : Nat} {p : Int × Int} (h : ps[k]? = some p) : ps.take (k + 1) = ps.take k ++ [p] := by
  obtain ⟨hk, rfl⟩ := List.getElem?_eq_some_iff.1 h
  exact List.take_succ_eq_append_getElem hk

set_option maxHeartbeats 1600000 in
theorem apPs_any (g n cap k : Nat) (a : Option Addr) (c : Nat) (ys : List Int) (ps : List (Int × Int)) (w : World) (ho : Row8 w g n cap ys) (hp : PsAt w a ps) (hk : ps.length = k) (hk8 : k ≤ 8) (hn : n ≤ 1000) (hok : ∀ p ∈ ps, pf p.1 p.2 = 0) (hne : ∀ x, ps ≠ [] → a = some x → x.block ≠ g) :
    Calls Try.prog 70 #[.slice (some ⟨g, 0, none⟩) n cap, .slice a k c] w fun e w' => ∃ g' cap', e = .returned (.slice (some ⟨g', 0, none⟩) (n + k * 3) cap') ∧ (g' = g ∨ w.heap.size ≤ g') ∧ Row8 w' g' (n + k * 3) cap' (ys ++ pxB ps) ∧ Turn (fun i => i = g) w w' := by
  obtain ⟨i0, hi, hz0, hz1, hz2⟩ := info_parts Try.infoU8
  have HK : Hid (ps.length = k) := hk
  have HOK : Hid (∀ p ∈ ps, pf p.1 p.2 = 0) := hok
  have hglt := ho.lt
  clear hk hok
  go_enter Try.func70, Try.ntmps70
  go_wp2
  go_loopw [0, 9] (fun s i wr => ∃ (j g' cap' : Nat), j ≤ k ∧ i = .int .i64 j ∧ s = .slice (some ⟨g', 0, none⟩) (n + j * 3) cap' ∧ (g' = g ∨ w.heap.size ≤ g') ∧ Row8 wr g' (n + j * 3) cap' (ys ++ pxB (ps.take j)) ∧ Turn (fun i => i = g) w wr) (fun _ i _ => k - (intOf i).toNat)
  case atStart => exact ⟨0, g, cap, Nat.zero_le _, rfl, by simp, .inl rfl, by simpa [pxB] using ho, Turn.refl _ _⟩
  case round =>
    obtain ⟨j, g', cap', hj, rfl, rfl, hg', hrow, htn⟩ := hrel
    by_cases hlt : j < k
    · obtain ⟨b, off, x, y, ha, hz, hc0, hc1⟩ := (hp.turn htn hne).at j (by rw [HK.out]; exact hlt)
      have ha' := ha
      subst ha'
      have hpf := HOK.out (x, y) (List.mem_of_getElem? hz)
      obtain ⟨hx0, hx1, hy0, hy1, -⟩ := pf_ok hpf
      have hxu : x < 65536 := by simp at hx1; omega
      simp at hx0 hx1 hy0 hy1
      have hwy : IntKind.u8.wrap y = y := by simp [IntKind.wrap, IntKind.signed, IntKind.bits]; omega
      have hT : Hid (pxB (ps.take (j + 1)) = pxB (ps.take j) ++ [x / 256, x % 256, y]) := by unfold Hid; rw [takeP_snoc hz]; exact pxB_snoc _ _ _
      have hsz := htn.size
      have hglt' := hrow.lt
      clear hz hpf
      have hal := (New.refl wr).alloc (.cells #[.int .i64 x, .int .i64 y] 79)
      have bP := Blk.mk wr wr.heap.size 79 #[.int .i64 x, .int .i64 y] rfl
      go_wp2_with fail
      refine (appendPair_any g' (n + j * 3) cap' x _ _ (hrow.new hal) (by omega) hx0 hxu).mono ?_
      rintro e w1 ⟨g1, cap1, rfl, hg1, ho1, ht1⟩
      have bP1 := bP.turn ht1 (by omega)
      have cP := bP1.cells
      have t1 : Turn (fun i => i = g) w w1 := Turn.trans (Turn.trans htn hal.turn (fun _ _ f => f)) ht1 (fun i hi e => by omega)
      have hs1 := ht1.size
      simp at hs1
      have hg1' : g1 = g ∨ w.heap.size ≤ g1 := by
        rcases hg1 with h' | h'
        · subst h'; exact hg'
        · right; simp at h'; omega
      have hbs : BsAt (w1.alloc (.cells #[.int .u8 y] 5)) (some ⟨w1.heap.size, 0, none⟩) [y] := BsAt.of_block (heap_alloc_new _ _) _ rfl (by simp; omega)
      clear hg1 ht1 hal bP hc0 hc1 hrow
      go_wp2_with (at_builtin; refine wpList_ap _ rfl (.tmp 17) (.tmp 21) rfl 0 Try.underlying31 hi hz0 hz1 hz2 (.slice (some ⟨g1, 0, none⟩) (n + j * 3 + 2) cap1) (n + j * 3 + 2) _ rfl (ho1.alloc _) (some ⟨w1.heap.size, 0, none⟩) 1 1 _ rfl hbs rfl (by intro h; cases h) (by omega) (by omega) (Nat.zero_le _) (w1.heap.size + 1) (by simp) ?_)
      intro g2 cap2 w2 ho2 hgr2 hat2
      have hg2 : g2 = g ∨ w.heap.size ≤ g2 := by
        rcases hat2 with h' | h'
        · simp [Value.ownBlock] at h'; subst h'; exact hg1'
        · right; omega
      have t2 : Turn (fun i => i = g) w w2 := Turn.trans (Turn.trans t1 (New.turn (S := fun _ => False) ((New.refl w1).alloc (.cells #[.int .u8 y] 5))) (fun _ _ f => f.elim)) (Turn.of_grown (g := g1) hgr2) (fun i hi e => by omega)
      have hrow2 : Row8 w2 g2 (n + (j + 1) * 3) cap2 (ys ++ pxB (ps.take (j + 1))) := by
        rw [hT.out, show n + (j + 1) * 3 = n + j * 3 + 2 + 1 by omega]
        unfold Row8
        simpa using ho2
      have hlen2 : n + j * 3 + 2 + 1 = n + (j + 1) * 3 := by omega
      clear hat2 hgr2 ho1 ho2 hbs t1 hg1' cP bP1
      go_wp2
      go_roundw
      case rel => exact ⟨j + 1, g2, cap2, by omega, by go_num, by rw [← hlen2], hg2, hrow2, t2⟩
      case measure => simp [intOf]; omega
    · obtain rfl : j = k := by omega
      go_wp2
      go_ret
      rw [List.take_of_length_le (by rw [HK.out]; omega)] at hrow
      exact ⟨g', cap', rfl, hg', hrow, htn⟩

end Go.Proofs.Ytdmcbnmaknpkmaa
