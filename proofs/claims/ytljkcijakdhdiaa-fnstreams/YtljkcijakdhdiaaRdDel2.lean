/- What is proved here: what the library's cutting out of those with a fault answers, for a row of prefixes that the call owns. -/
import Derived.Test.YtljkcijakdhdiaaRdDel
namespace Go.Proofs.Ytljkcijakdhdiaa
open Go.RowKit Go.Sort
set_option linter.unusedVariables false

theorem delete_nil (w : World) : Calls Try.prog 101 #[.slice none 0 0, .func (.func 86) #[] #[]] w fun e w' => e = .returned (.slice none 0 0) ∧ New w w' := by
  go_enter Try.func101, Try.ntmps101
  go_wp2_with fail
  refine (index_any none 0 0 [] _ (PsAt.nil _ _) rfl (by omega)).mono ?_
  rintro e w1 ⟨rfl, hn1⟩
  simp only [ixF]
  go_wp2
  go_ret
  exact ⟨rfl, hn1⟩

set_option maxRecDepth 100000 in
set_option maxHeartbeats 1600000 in
theorem delete_row (g n c : Nat) (ps : List (Int × Int)) (w : World) (h : OwP w g n c ps) (hb : ∀ p ∈ ps, In6 p.1 ∧ In6 p.2) (hm : n ≤ 1048576) :
    Calls Try.prog 101 #[.slice (some ⟨g, 0, none⟩) n c, .func (.func 86) #[] #[]] w fun e w' => ∃ m, e = .returned (.slice (some ⟨g, 0, none⟩) m c) ∧ (okL ps).length = m ∧ OwP w' g m c (okL ps) ∧ Turn (fun k => k = g) w w' := by
  have HL : Hid (ps.length = n) := h.len
  have hnc : n ≤ c := by
    rcases h.2 with ⟨h', _⟩ | ⟨g', cap', cur, h', r1, r2, r3, _⟩
    · simp at h'
    · simp only [Value.slice.injEq, Option.some.injEq, Addr.mk.injEq, and_true, true_and] at h'
      obtain ⟨rfl, rfl⟩ := h'
      exact r3
  by_cases hix : ixF ps < 0
  · have ha := okL_all ((ixF_neg ps).1 hix)
    obtain hi1 : ixF ps = -1 := by rcases ixF_bd ps with h | ⟨_, h⟩ <;> omega
    go_enter Try.func101, Try.ntmps101
    go_wp2_with fail
    refine (index_any (some ⟨g, 0, none⟩) n c ps _ (h.ps hb) HL.out hm).mono ?_
    rintro e w1 ⟨rfl, hn1⟩
    rw [hi1]
    go_wp2
    go_ret
    exact ⟨n, rfl, by rw [ha]; exact HL.out, by rw [ha]; exact h.new hn1, hn1.turn⟩
  · obtain ⟨k0, p0, e0, hp0, hbad, hall⟩ := ixF_at ps (by omega)
    have hk0 : k0 < n := by rw [← HL.out]; exact (List.getElem?_eq_some_iff.1 hp0).1
    have K0 : Hid (KI ps (k0 + 1) k0 ps) := KI.start hp0 hbad hall
    have HX : Hid (ixF ps = (k0 : Int)) := e0
    have hne1 : ((k0 : Int) == -1) = false := beq_eq_false_iff_ne.2 (by omega)
    have HB : Hid (∀ p ∈ ps, In6 p.1 ∧ In6 p.2) := hb
    clear hp0 hbad hall e0 hix hb
    go_enter Try.func101, Try.ntmps101
    go_wp2_with fail
    refine (index_any (some ⟨g, 0, none⟩) n c ps _ (h.ps HB.out) HL.out hm).mono ?_
    rintro e w1 ⟨rfl, hn1⟩
    rw [HX.out]
    go_wp2_with fail
    go_loopw [5, 6, 7] (fun s5 s6 _ wr => ∃ (i j : Nat) (L : List (Int × Int)), s5 = .int .i64 i ∧ s6 = .int .i64 j ∧ j ≤ n ∧ i < j ∧ Hid (KI ps j i L) ∧ OwP wr g n c L ∧ Turn (fun k => k = g) w wr) (fun _ j _ _ => n - (intOf j).toNat)
    case atStart => exact ⟨k0, k0 + 1, ps, rfl, by go_num, by omega, by omega, K0, h.new hn1, hn1.turn⟩
    case round =>
      obtain ⟨i, j, L, rfl, rfl, hj, hij, hK, ho, ht⟩ := hrel
      by_cases hlt : j < n
      · obtain ⟨p, hp⟩ : ∃ p, ps[j]? = some p := ⟨_, List.getElem?_eq_getElem (by rw [HL.out]; exact hlt)⟩
        obtain ⟨x, y⟩ := p
        have hLj : L[j]? = some (x, y) := (hK.out.high j (Nat.le_refl _)).trans hp
        obtain ⟨e0, e1⟩ := cellsP_get L j (x, y) hLj
        have c0 : wr.cell? ⟨g, j * 2, none⟩ = some (.int .i64 x) := (World.ownsRow.cellAt ho (j * 2) (by omega)).trans e0
        have c1 : wr.cell? ⟨g, j * 2 + 1, none⟩ = some (.int .i64 y) := (World.ownsRow.cellAt ho (j * 2 + 1) (by omega)).trans e1
        have HP : Hid (ps[j]? = some (x, y)) := hp
        have hal := (New.refl wr).alloc (.cells #[.int .i64 x, .int .i64 y] 88)
        have bV := Blk.mk wr wr.heap.size 88 #[.int .i64 x, .int .i64 y] rfl
        have hgl := ho.lt
        clear hp hLj e0 e1
        by_cases hz : pf x y = 0
        · have hv : decide (pf x y ≠ 0) = false := by simp [hz]
          have HK : Hid (KI ps (j + 1) (i + 1) (L.set i (x, y))) := hK.out.keep HP.out hz
          clear hz hK
          go_wp2_with fail
          refine (hasF_is x y false _ hv).mono ?_
          rintro e w2 ⟨rfl, hn2⟩
          have N2 := hal.trans hn2
          have ho2 := ho.new N2
          have cV := (bV.new hn2).cells
          obtain ⟨v0, d0⟩ := ho2.cell (i * 2) (by omega)
          obtain ⟨v1, d1⟩ := ho2.cell (i * 2 + 1) (by omega)
          have f0 := fun j => World.ownsRow.frozenAt ho2 j
          have hput := ho2.put i x y
          have ht2 := Turn.trans ht (N2.turn (S := fun k => k = g)) (fun _ _ e => e)
          have hin : (i : Int) < (n : Int) := by omega
          go_wp2
          go_roundw
          case rel => exact ⟨i + 1, j + 1, L.set i (x, y), by go_num, by go_num, by omega, by omega, HK, hput, (ht2.set rfl _).set rfl _⟩
          case measure => simp [intOf]; omega
        · have hv : decide (pf x y ≠ 0) = true := by simp [hz]
          have HK : Hid (KI ps (j + 1) i L) := hK.out.skip HP.out hz
          clear hz hK
          go_wp2_with fail
          refine (hasF_is x y true _ hv).mono ?_
          rintro e w2 ⟨rfl, hn2⟩
          have N2 := hal.trans hn2
          have ho2 := ho.new N2
          have ht2 := Turn.trans ht (N2.turn (S := fun k => k = g)) (fun _ _ e => e)
          go_wp2
          go_roundw
          case rel => exact ⟨i, j + 1, L, rfl, by go_num, by omega, by omega, HK, ho2, ht2⟩
          case measure => simp [intOf]; omega
      · obtain rfl : j = n := by omega
        have hci : ¬ c = i := by omega
        have hzv : ∀ w, (zeroValue 88).run Try.prog w = .ok (.agg #[.int .i64 0, .int .i64 0]) w := fun w => by kernel_rfl
        have hcl : ∀ ty, (Builtin.clear_ #[44] ty #[.slice (some ⟨g, i * 2, none⟩) (j - i) (c - i)]).run Try.prog wr = .ok (.tuple #[]) (wr.setCells g (i * 2) (List.replicate ((j - i) * 2) (.int .i64 0))) := fun ty =>
          run_clear_two wr _ _ ty Try.underlying44 hzv g (i * 2) (j - i) (c - i) (by omega) (fun t ht => by obtain ⟨v, hv⟩ := ho.cell (i * 2 + t) (by omega); rw [hv]; rfl) (fun t ht => World.ownsRow.frozenAt ho _)
        have hcut := ho.cut i (by omega)
        rw [hK.out.low, List.take_of_length_le (by rw [HL.out]; exact Nat.le_refl _)] at hcut
        obtain ⟨hcut2, htc⟩ := OwP.clears (List.replicate ((j - i) * 2) (.int .i64 0)) (i * 2) wr hcut (Nat.le_refl _)
        have HNum : Hid ((okL ps).length = i) := by
          have := hK.out.num
          rw [List.take_of_length_le (by rw [HL.out]; exact Nat.le_refl _)] at this
          exact this
        have htt := Turn.trans ht htc (fun _ _ e => e)
        clear hK hcut ho htc ht
        go_wp2
        go_ret
        exact ⟨i, rfl, HNum.out, hcut2, htt⟩

end Go.Proofs.Ytljkcijakdhdiaa
