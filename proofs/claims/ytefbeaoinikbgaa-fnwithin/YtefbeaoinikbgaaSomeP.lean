/- What is proved here: what the drawing of a list of prefixes answers, for every source of numbers. -/
import Derived.Test.YtefbeaoinikbgaaPxDraw
import Derived.Test.YtefbeaoinikbgaaPsFn
import Derived.Maps.AppendAt
namespace Go.Proofs.Ytefbeaoinikbgaa
open Go.RowKit Go.Sort
set_option linter.unusedVariables false

/-- What is drawn as a prefix, with or without a fault. -/
def Drp (p : Int × Int) : Prop := (-1 ≤ p.1 ∧ p.1 ≤ 65536) ∧ (-1 ≤ p.2 ∧ p.2 ≤ 17)
theorem drp_of_pf {x l : Int} (h : pf x l = 0) : Drp (x, l) := by
  obtain ⟨h0, h1, h2, h3, -⟩ := pf_ok h
  exact ⟨⟨by omega, by omega⟩, by omega, by omega⟩

theorem cell_two_new' (w : World) (x y : Value) (t : TypeId) : ∀ j u, [x, y][j]? = some u → (w.alloc (.cells #[x, y] t)).cell? ((⟨w.heap.size, 0, none⟩ : Addr).add j) = some u := by
  intro j u hj
  match j, hj with
  | 0, hj => simp at hj; subst hj; simp [Addr.add]
  | 1, hj => simp at hj; subst hj; simp [Addr.add]

theorem own_turnP {w w' : World} {base g n c : Nat} {xs : List Value} {S : Nat → Prop} (h : w.ownsRow base 25 2 (.slice (some ⟨g, 0, none⟩) n c) n xs) (t : Turn S w w') (hS : ¬ S g) : w'.ownsRow base 25 2 (.slice (some ⟨g, 0, none⟩) n c) n xs := by
  refine ⟨h.1, ?_⟩
  rcases h.2 with ⟨h', _⟩ | ⟨g', cap', cur, h', hb, hh, r⟩
  · simp at h'
  · simp only [Value.slice.injEq, Option.some.injEq, Addr.mk.injEq, and_true, true_and] at h'
    obtain ⟨rfl, rfl⟩ := h'
    have hlt : g < w.heap.size := (Array.getElem?_eq_some_iff.1 hh).1
    exact .inr ⟨g, c, cur, rfl, hb, (t.block g hlt hS).trans hh, r⟩

set_option maxRecDepth 100000 in
set_option maxHeartbeats 1600000 in
theorem l2Some_sc {B n c t : Nat} {a : Option Addr} {zs : List Int} {w : World} (h : Sc w B a n c zs t) (ht : t ≤ 10000) :
    Calls Try.prog 25 #[.pointer (some ⟨B, 0, none⟩)] w fun e w' => ∃ (g m cap t' : Nat) (ps : List (Int × Int)), e = .returned (.slice (some ⟨g, 0, none⟩) m cap) ∧ w.heap.size ≤ g ∧ m ≤ 7 ∧ t' ≤ t + 200 ∧
      OwP w' g m cap ps ∧ (∀ p ∈ ps, Drp p) ∧ Sc w' B a n c zs t' ∧ Turn (fun k => k = B) w w' := by
  obtain ⟨iP, hi, hz0, hz1, hz2⟩ := info_parts Try.infoPx
  have hblt := h.blk.lt
  have hA := h.lt_of
  have hw0 := (New.refl w).alloc (.cells #[] 25)
  have ho0 : (w.alloc (.cells #[] 25)).ownsRow w.heap.size 25 2 (.slice (some ⟨w.heap.size, 0, none⟩) 0 0) 0 (cellsP []) :=
    ⟨rfl, .inr ⟨w.heap.size, 0, #[], rfl, Nat.le_refl _, heap_alloc_new _ _, Nat.le_refl _, by decide, rfl, rfl⟩⟩
  go_enter Try.func25, Try.ntmps25
  go_wp2_with fail
  refine (next_sc (h.new hw0) 8 (by omega) (by omega)).mono ?_
  rintro e w1 ⟨r, rfl, hd, hs1, ht1⟩
  obtain ⟨hr0, hr1, -⟩ := hd
  have hr1 := hr1 (by omega)
  obtain ⟨k0, rfl⟩ := Int.eq_ofNat_of_zero_le hr0
  have t1 : Turn (fun k => k = B) w w1 := Turn.trans hw0.turn ht1 (fun _ _ e => e)
  have hBz : ¬ w.heap.size = B := by omega
  go_wp2_with fail
  go_loopw [3, 4] (fun o s wr => ∃ (j g cap t' : Nat) (ps : List (Int × Int)), j ≤ k0 ∧ s = .int .i64 ((k0 : Int) - j) ∧ o = .slice (some ⟨g, 0, none⟩) j cap ∧ w.heap.size ≤ g ∧ t' ≤ t + 1 + 20 * j ∧
      wr.ownsRow w.heap.size 25 2 (.slice (some ⟨g, 0, none⟩) j cap) j (cellsP ps) ∧ (∀ p ∈ ps, Drp p) ∧ Sc wr B a n c zs t' ∧ Turn (fun k => k = B) w wr) (fun _ s _ => (intOf s).toNat)
  case atStart => exact ⟨0, w.heap.size, 0, t + 1, [], Nat.zero_le _, by simp, rfl, Nat.le_refl _, by omega, own_turnP ho0 ht1 (by omega), by simp, hs1, t1⟩
  case round =>
    obtain ⟨j, g, cap, t', ps, hj, rfl, rfl, hg, htt, ho, hps, hsc, htn⟩ := hrel
    have hglt := (ho.lt g rfl).2
    have hgB : ¬ g = B := by omega
    by_cases hlt : j < k0
    · have hpos : ((k0 : Int) - (j : Int) > 0) := by omega
      go_wp2_with fail
      refine (l2Prefix_sc hsc (by omega)).mono ?_
      rintro e w2 ⟨x, l, t2, rfl, hp, htt2, hs2, ht2⟩
      have ho2 := own_turnP ho ht2 hgB
      have t2' := htn.both ht2
      have hdr := drp_of_pf hp
      have hsz := t2'.size
      clear hp
      go_wp2_with (at_builtin; refine wpList_append_own_at _ rfl _ _ 31 rfl w.heap.size 25 iP (.agg #[.int .i64 0, .int .i64 0]) 2 16 Try.underlying31 hi hz0 hz1 hz2 rfl (by decide) _ _ _ rfl (ho2.alloc _) ⟨w2.heap.size, 0, none⟩ 1 1 [.int .i64 x, .int .i64 l] rfl rfl (cell_two_new' _ _ _ _) (by simp [Value.oneCell']) (by unfold maxLen; omega) (by omega) (by simp; omega) ?_; intro v' w3 hown' hgrow hnil hloc)
      obtain ⟨g', cap', rfl⟩ := Joins.ownsRow_form hown' (by omega)
      have hA2 := (New.refl w2).alloc (.cells #[.int .i64 x, .int .i64 l] 25)
      have hg3 : Turn (fun k => k = g) (w2.alloc (.cells #[.int .i64 x, .int .i64 l] 25)) w3 := Turn.of_grown hgrow
      have hs3 := (hs2.new hA2).turn hg3 (fun e => hgB e.symm) (fun y hy hay e => by have := hA y hy hay; omega)
      have t3 : Turn (fun k => k = B) w w3 := Turn.trans (t2'.andNew hA2) hg3 (fun i hi e => by omega)
      have hc : cellsP (ps ++ [(x, l)]) = cellsP ps ++ [.int .i64 x, .int .i64 l] := by rw [cellsP_append]; rfl
      go_wp2
      go_roundw
      case rel => exact ⟨j + 1, g', cap', t2, ps ++ [(x, l)], by omega, by go_num, rfl, (hown'.lt g' rfl).1, by omega, by rw [hc]; exact hown', by intro p hp; rcases List.mem_append.1 hp with h' | h'; exact hps p h'; simp at h'; subst h'; exact hdr, hs3, t3⟩
      case measure => simp [intOf]; omega
    · obtain rfl : j = k0 := by omega
      have hk7 : j ≤ 7 := by omega
      have hno : ¬ ((j : Int) - (j : Int) > 0) := by omega
      by_cases hj0 : j = 0
      · have HR : Hid (∃ (t2 : Nat) (qs : List (Int × Int)), t2 ≤ t + 200 ∧ OwP wr g j cap qs ∧ (∀ p ∈ qs, Drp p) ∧ Sc wr B a n c zs t2 ∧ Turn (fun k => k = B) w wr) := ⟨t', ps, by omega, own_base ho, hps, hsc, htn⟩
        have hj1 : ¬ ((j : Int) > 0) := by omega
        have HJ : Hid (j = 0) := hj0
        clear hj0 ho hps hsc htn
        go_wp2
        go_ret
        obtain ⟨t2, qs, q1, q2, q3, q4, q5⟩ := HR.out
        exact ⟨g, j, cap, rfl, hg, hk7, t2, q1, qs, q2, fun x y h => q3 (x, y) h, q4, q5⟩
      · have hj1 : ((j : Int) > 0) := by omega
        go_wp2_with fail
        refine (chance_sc hsc 12 (by omega) (by omega)).mono ?_
        rintro e w2 ⟨r2, rfl, hs2, ht2⟩
        have ho2 := own_turnP ho ht2 hgB
        have t2' := htn.both ht2
        cases r2 with
        | false =>
          go_wp2
          go_ret
          exact ⟨g, j, cap, t' + 1, ps, rfl, hg, hk7, by omega, own_base ho2, hps, hs2, t2'⟩
        | true =>
          go_wp2_with fail
          refine (l2Bent_sc hs2 (by omega)).mono ?_
          rintro e w3 ⟨x, l, t3, rfl, hx, hl, htt3, hs3, ht3⟩
          have ho3 : OwP w3 g j cap ps := own_base (own_turnP ho2 ht3 hgB)
          have t3' := t2'.both ht3
          have hlen := ho3.len
          obtain ⟨v0, c0⟩ := ho3.cell 0 (by omega)
          obtain ⟨v1, c1⟩ := ho3.cell 1 (by omega)
          have f0 := fun q => World.ownsRow.frozenAt ho3 q
          have hput := ho3.put 0 x l
          have hjn : 0 < j := by omega
          have HS : Hid (Sc w3 B a n c zs t3) := hs3
          go_wp2
          go_ret
          refine ⟨g, j, cap, t3, ps.set 0 (x, l), rfl, hg, hk7, by omega, hput, ?_, ?_, ?_⟩
          · intro p hp
            rcases List.mem_or_eq_of_mem_set hp with h' | rfl
            · exact hps p h'
            · exact ⟨hx, hl⟩
          · exact (HS.out.setN hA hblt _ _ hg).setN hA hblt _ _ hg
          · exact Turn.andSet (Turn.andSet t3' _ _ hg) _ _ hg

end Go.Proofs.Ytefbeaoinikbgaa
