/- What is proved here: what the drawing of a list and a number answers: a list of at most seven prefixes, whatever the number. -/
import Derived.Test.YtefbeaoinikbgaaSomeP
namespace Go.Proofs.Ytefbeaoinikbgaa
open Go.RowKit Go.Sort
set_option linter.unusedVariables false

theorem OwP.both {w : World} {g n c : Nat} {ps : List (Int × Int)} (h : OwP w g n c ps) (i : Nat) (hi : i < n) : ∃ x y, ps[i]? = some (x, y) ∧ w.cell? ⟨g, i * 2, none⟩ = some (.int .i64 x) ∧ w.cell? ⟨g, i * 2 + 1, none⟩ = some (.int .i64 y) := by
  have hl := h.len
  have hg := cellsP_get ps i _ (List.getElem?_eq_getElem (by omega))
  exact ⟨_, _, List.getElem?_eq_getElem (by omega), (World.ownsRow.cellAt h (i * 2) (by omega)).trans hg.1, (World.ownsRow.cellAt h (i * 2 + 1) (by omega)).trans hg.2⟩

set_option maxRecDepth 100000 in
set_option maxHeartbeats 3200000 in
theorem drawLf_any (a : Option Addr) (n c : Nat) (zs : List Int) (w : World) (h : BsAt w a zs) (hn : zs.length = n) (hm : n ≤ 2097152) (ha : ∀ x, zs ≠ [] → a = some x → x.block < w.heap.size) :
    Calls Try.prog 10 #[.slice a n c] w fun e w' => ∃ (g m cap : Nat) (ps : List (Int × Int)) (x : Int), e = .returned (.tuple #[.slice (some ⟨g, 0, none⟩) m cap, .int .i64 x]) ∧ m ≤ 7 ∧ OwP w' g m cap ps ∧ (∀ p ∈ ps, Drp p) ∧ New w w' := by
  go_enter Try.func10, Try.ntmps10
  go_wp2_with fail
  refine (source_any a n c zs _ h hn hm ha).mono ?_
  rintro e w1 ⟨B, rfl, hB, hs1, n1⟩
  have hlt1 := hs1.blk.lt
  go_wp2_with fail
  refine (l2Some_sc hs1 (by omega)).mono ?_
  rintro e w2 ⟨g, m, cap, t2, ps, rfl, hg, hm7, htt2, ho2, hps, hs2, ht2⟩
  have n2 : New w w2 := n1.before ht2 (fun i hi e => by omega)
  have hgB : ¬ g = B := by omega
  have HPS : Hid (∀ p ∈ ps, Drp p) := hps
  clear hps
  go_wp2_with fail
  refine (next_sc hs2 65536 (by omega) (by omega)).mono ?_
  rintro e w3 ⟨r3, rfl, hd3, hs3, ht3⟩
  have n3 : New w w3 := n2.before ht3 (fun i hi e => by omega)
  have ho3 := ho2.turn ht3 hgB
  have hz2 := ht2.size
  have hz3 := ht3.size
  obtain ⟨p3, q3, -⟩ := hd3
  have q3 := q3 (by omega)
  by_cases hm0 : m = 0
  · subst hm0
    go_wp2_with fail
    have hbl := Blk.mk w3 w3.heap.size 2 #[.int .i64 r3, .int .i64 r3, .int .i64 r3, .int .i64 65536, .int .i64 (-1)] rfl
    have hal := (New.refl w3).alloc (.cells #[.int .i64 r3, .int .i64 r3, .int .i64 r3, .int .i64 65536, .int .i64 (-1)] 2)
    refine (pick_sc (hs3.new hal) [r3, r3, r3, 65536, -1] hbl 5 rfl (by omega) (by omega) (by omega)).mono ?_
    rintro e w5 ⟨y, rfl, hy, hs5, ht5⟩
    have n5 : New w w5 := (n3.trans hal).before ht5 (fun i hi e => by omega)
    have ho5 := (ho3.new hal).turn ht5 hgB
    go_wp2
    refine bodyPost_ret (v := .tuple #[.slice (some ⟨g, 0, none⟩) 0 cap, .int .i64 y]) (by simp [results, Try.results10, go_sem]) rfl ⟨g, 0, cap, ps, y, rfl, by omega, ho5, HPS.out, n5⟩
  · have hmp : ((m : Int) > 0) := by omega
    go_wp2_with fail
    refine (chance_sc hs3 4 (by omega) (by omega)).mono ?_
    rintro e w4 ⟨r4, rfl, hs4, ht4⟩
    have n4 : New w w4 := n3.before ht4 (fun i hi e => by omega)
    have ho4 := ho3.turn ht4 hgB
    have hz4 := ht4.size
    cases r4 with
    | true =>
      go_wp2_with fail
      have hbl := Blk.mk w4 w4.heap.size 2 #[.int .i64 r3, .int .i64 r3, .int .i64 r3, .int .i64 65536, .int .i64 (-1)] rfl
      have hal := (New.refl w4).alloc (.cells #[.int .i64 r3, .int .i64 r3, .int .i64 r3, .int .i64 65536, .int .i64 (-1)] 2)
      refine (pick_sc (hs4.new hal) [r3, r3, r3, 65536, -1] hbl 5 rfl (by omega) (by omega) (by omega)).mono ?_
      rintro e w5 ⟨y, rfl, hy, hs5, ht5⟩
      have n5 : New w w5 := (n4.trans hal).before ht5 (fun i hi e => by omega)
      have ho5 := (ho4.new hal).turn ht5 hgB
      go_wp2
      refine bodyPost_ret (v := .tuple #[.slice (some ⟨g, 0, none⟩) m cap, .int .i64 y]) (by simp [results, Try.results10, go_sem]) rfl ⟨g, m, cap, ps, y, rfl, hm7, ho5, HPS.out, n5⟩
    | false =>
      have hwm : IntKind.i64.wrap ((m : Nat) : Int) = (m : Int) := wrap_in (by omega)
      have hlen := ho4.len
      go_wp2_with fail
      go_region_with (first
        | (go_at_call_of 18 (m : Int); refine (next_sc (hs4.new ((New.refl _).drew)) (m : Int) (by omega) (by omega)).mono ?_; rintro e w5 ⟨r5, rfl, hd5, hs5, ht5⟩; obtain ⟨p5, q5, -⟩ := hd5; have q5 := q5 (by omega); obtain ⟨i5, rfl⟩ := Int.eq_ofNat_of_zero_le p5; have ho5 := (ho4.new ((New.refl _).drew)).turn ht5 hgB; obtain ⟨x5, y5, hp5, c50, c51⟩ := ho5.both i5 (by omega))
        | (go_at_call 18; refine (next_sc hs5 9 (by omega) (by omega)).mono ?_; rintro e w6 ⟨r6, rfl, hd6, hs6, ht6⟩; have ho6 := ho5.turn ht6 hgB; obtain ⟨x6, y6, hp6, c60, c61⟩ := ho6.both i5 (by omega); obtain ⟨rfl, rfl⟩ : x5 = x6 ∧ y5 = y6 := by (simpa using Option.some.inj (hp5.symm.trans hp6))))
      all_goals
        obtain ⟨p6, q6, -⟩ := hd6
        have q6 := q6 (by omega)
        have hdr := HPS.out (x5, y5) (List.mem_of_getElem? hp6)
        obtain ⟨⟨d1, d2⟩, -⟩ := hdr
        have n5 : New w w5 := n4.drew.before ht5 (fun i hi e => by omega)
        have n6 : New w w6 := n5.before ht6 (fun i hi e => by omega)
        have hwx : IntKind.i64.wrap (x5 + r6) = x5 + r6 := wrap_in (by simp at d1 d2; omega)
        have ho7 := ho6
        clear c50 c51 c60 c61 hp5 hp6
        generalize x5 + r6 = y at *
        go_wp2_with fail
        have hbl := Blk.mk w6 w6.heap.size 2 #[.int .i64 y, .int .i64 y, .int .i64 y, .int .i64 65536, .int .i64 (-1)] rfl
        have hal := (New.refl w6).alloc (.cells #[.int .i64 y, .int .i64 y, .int .i64 y, .int .i64 65536, .int .i64 (-1)] 2)
        refine (pick_sc (hs6.new hal) [y, y, y, 65536, -1] hbl 5 rfl (by omega) (by omega) (by omega)).mono ?_
        rintro e w7 ⟨z, rfl, hz, hs7, ht7⟩
        have n7 : New w w7 := (n6.trans hal).before ht7 (fun i hi e => by omega)
        have ho8 := (ho7.new hal).turn ht7 hgB
        go_wp2
        refine bodyPost_ret (v := .tuple #[.slice (some ⟨g, 0, none⟩) m cap, .int .i64 z]) (by simp [results, Try.results10, go_sem]) rfl ⟨g, m, cap, ps, z, rfl, hm7, ho8, HPS.out, n7⟩

end Go.Proofs.Ytefbeaoinikbgaa
