/- What is proved here: what the program's ordering of a list of prefixes answers, for every list of at most 1048576 prefixes. -/
import Derived.Test.YtefbeaoinikbgaaSortLib
import Derived.Maps.AppendAt
namespace Go.Proofs.Ytefbeaoinikbgaa
open Go.RowKit Go.Sort Go.Shelf

theorem MapP.look {w : World} {M m : Nat} {f : Int → Int → Option Int} (h : MapP w M m f) (x y : Int) (hx : In6 x) (hy : In6 y) : (Instr.lookup 53 (.map (some M)) (.agg #[.int .i64 x, .int .i64 y]) false).run Try.prog w = .ok (.int .i64 ((f x y).getD 0)) w := by
  obtain ⟨D, hown, hfD⟩ := h
  obtain ⟨c, hr, hat, _⟩ := hown.lookup_int Try.keyed Try.underlying53 Try.underlying2 (Try.zeroI _) (key_is x y hx hy)
  rw [(hfD x y hx hy).2] at hat
  have hcc : (f x y).getD 0 = c := by simpa using hat
  rw [hcc]
  exact hr

/-- A list that the call has made from block lo on: nil, or a row of its own. -/
def OwL (w : World) (lo : Nat) (v : Value) (L : List (Int × Int)) : Prop := (v = .slice none 0 0 ∧ L = []) ∨ ∃ g c, v = .slice (some ⟨g, 0, none⟩) L.length c ∧ lo ≤ g ∧ OwP w g L.length c L

theorem OwL.turn {w w' : World} {lo : Nat} {v : Value} {L : List (Int × Int)} {S : Nat → Prop} (h : OwL w lo v L) (t : Turn S w w') (hS : ∀ k, lo ≤ k → ¬ S k) : OwL w' lo v L := by
  rcases h with h | ⟨g, c, rfl, hg, ho⟩
  · exact .inl h
  · exact .inr ⟨g, c, rfl, hg, ho.turn t (hS g hg)⟩
theorem OwL.own {w : World} {lo : Nat} {v : Value} {L : List (Int × Int)} (h : OwL w lo v L) : w.ownsRow lo 25 2 v L.length (cellsP L) := by
  rcases h with ⟨rfl, rfl⟩ | ⟨g, c, rfl, hg, ho⟩
  · exact World.ownsRow_nil _ _ _ _
  · obtain ⟨cur, hb, h1, h2, h3, h4⟩ := ho.block
    exact ⟨ho.1, .inr ⟨g, c, cur, rfl, hg, hb, h1, h2, h3, h4⟩⟩
theorem OwL.of_own {w : World} {lo : Nat} {v : Value} {L : List (Int × Int)} (h : w.ownsRow lo 25 2 v L.length (cellsP L)) (hp : 0 < L.length) : OwL w lo v L := by
  obtain ⟨g, c, rfl⟩ := Joins.ownsRow_form h hp
  exact .inr ⟨g, c, rfl, (h.lt g rfl).1, own_base h⟩

theorem take_next {ps : List (Int × Int)} {k : Nat} {p : Int × Int} (h : ps[k]? = some p) : ps.take (k + 1) = ps.take k ++ [p] := by
  obtain ⟨hk, rfl⟩ := List.getElem?_eq_some_iff.1 h
  exact List.take_succ_eq_append_getElem hk

theorem count_le (ps : List (Int × Int)) (k : Nat) (q : Int × Int) : (ps.take k).count q ≤ k := by
  have h1 := List.count_le_length (a := q) (l := ps.take k)
  rw [List.length_take] at h1
  omega

theorem cell_two_new (w : World) (x y : Value) (t : TypeId) : ∀ j u, [x, y][j]? = some u → (w.alloc (.cells #[x, y] t)).cell? ((⟨w.heap.size, 0, none⟩ : Addr).add j) = some u := by
  intro j u hj
  match j, hj with
  | 0, hj => simp at hj; subst hj; simp [Addr.add]
  | 1, hj => simp at hj; subst hj; simp [Addr.add]

theorem Turn.of_grownO {w w' : World} {o : Option Nat} (h : w.grownBy w' o) : Turn (fun k => some k = o) w w' := ⟨h.os, h.tape, h.output, h.size, fun k hk hs => h.block k hk hs⟩
theorem OwL.blk {w : World} {lo k : Nat} {v : Value} {L : List (Int × Int)} (h : OwL w lo v L) (hk : some k = v.ownBlock) : lo ≤ k := by
  rcases h with ⟨rfl, _⟩ | ⟨g, c, rfl, hg, _⟩
  · simp [Value.ownBlock] at hk
  · simp [Value.ownBlock] at hk
    omega

theorem once_new {ps : List (Int × Int)} {k : Nat} {p : Int × Int} (h : ps[k]? = some p) (hc : (ps.take k).count p = 0) : once (ps.take (k + 1)) = once (ps.take k) ++ [p] := by
  rw [take_next h, once_snoc]
  unfold add1
  rw [if_neg]
  rw [mem_once]
  exact List.count_eq_zero.1 hc
theorem once_old {ps : List (Int × Int)} {k : Nat} {p : Int × Int} (h : ps[k]? = some p) (hc : (ps.take k).count p ≠ 0) : once (ps.take (k + 1)) = once (ps.take k) := by
  rw [take_next h, once_snoc]
  unfold add1
  rw [if_pos]
  rw [mem_once]
  exact List.count_pos_iff.1 (by omega)

set_option maxRecDepth 100000 in
set_option maxHeartbeats 3200000 in
theorem implOr (a : Option Addr) (n c : Nat) (ps : List (Int × Int)) (w : World) (h : PsAt w a ps) (hn : ps.length = n) (hm : n ≤ 1048576) :
    Calls Try.prog 13 #[.slice a n c] w fun e w' => ∃ v, e = .returned (.agg #[.int .i64 (lf ps), v]) ∧ OwL w' w.heap.size v (if lf ps = 0 then sortP ps else []) ∧ New w w' := by
  have hw := (New.refl w).alloc (.cells #[.int .i64 0, .slice none 0 0] 38)
  have hB : Blk (w.alloc (.cells #[.int .i64 0, .slice none 0 0] 38)) w.heap.size 38 #[.int .i64 0, .slice none 0 0] := Blk.mk _ _ _ _ rfl
  have hBge := Nat.le_refl w.heap.size
  have hmm := run_makeHint
  by_cases hc : lf ps = 0
  · obtain ⟨h200, hall⟩ := lf_ok hc
    have HN : Hid (ps.length = n) := hn
    have HC : Hid (lf ps = 0) := hc
    obtain ⟨iP, hi, hz0, hz1, hz2⟩ := info_parts Try.infoPx
    have hn200 : n ≤ 200 := by omega
    clear hn hall
    go_enter Try.func13, Try.ntmps13
    go_wp2_with fail
    refine (listFault_any a n c ps _ (h.new hw) HN.out hm).mono ?_
    rintro e w1 ⟨rfl, hn1⟩
    rw [hc]
    have hw1 := hw.trans hn1
    have hB1 := (hB.new hn1).alloc (.map #[] 0)
    have s1 := hw1.size
    have hlt1 := (hB.new hn1).lt
    clear hc
    go_wp2_with fail
    go_loopw [4, 19] (fun v i wr => ∃ (k : Nat) (f : Int → Int → Option Int), k ≤ n ∧ i = .int .i64 k ∧ OwL wr (w1.heap.size + 1) v (once (ps.take k)) ∧ New w wr ∧ Blk wr w.heap.size 38 #[.int .i64 0, .slice none 0 0] ∧ MapP wr w1.heap.size k f ∧ CN (ps.take k) f ∧ w1.heap.size + 1 ≤ wr.heap.size) (fun _ i _ => n - (intOf i).toNat)
    case atStart => exact ⟨0, _, Nat.zero_le _, rfl, .inl ⟨rfl, rfl⟩, hw1.alloc _, hB1, MapP.made w1, CN.start, by simp⟩
    case round =>
      obtain ⟨k, f, hk, rfl, hL, hnw, hBr, hM, hCN, hsz⟩ := hrel
      by_cases hlt : k < n
      · obtain ⟨g1, o1, x, y, rfl, hp1, x0, x1⟩ := (h.new hnw).at k (by rw [HN.out]; exact hlt)
        obtain ⟨b0, b1⟩ := h.bd (x, y) (List.mem_of_getElem? hp1)
        have hcnt := hCN x y
        have hcl := count_le ps k (x, y)
        have hA := (New.refl wr).alloc (.cells #[.int .i64 x, .int .i64 y] 25)
        have hP : Blk (wr.alloc (.cells #[.int .i64 x, .int .i64 y] 25)) wr.heap.size 25 #[.int .i64 x, .int .i64 y] := Blk.mk _ _ _ _ rfl
        have hMA := hM.new (hA.drew)
        obtain ⟨v0, st, w2, w3, hl1, he1, hl2, hs3, hM3, ht3⟩ := hMA.inc x y b0 b1 (by unfold maxLen; omega) ⟨by omega, by omega⟩
        have hCN' := hCN.next x y
        rw [← take_next hp1] at hCN'
        have hlk := hM3.look x y b0 b1
        have hup : (upd f x y ((f x y).getD 0 + 1) x y).getD 0 = (f x y).getD 0 + 1 := by simp [upd]
        rw [hup] at hlk
        have hne : ∀ q, q ≠ w1.heap.size → ¬ (q = w1.heap.size) := fun _ h => h
        have hP3 := (hP.new (New.refl _).drew).turn ht3 (by omega)
        have hB3 := (hBr.new hA.drew).turn ht3 (by omega)
        have hL3 := (hL.turn hA.drew (fun _ _ f => f)).turn ht3 (fun k hk e => by omega)
        have hn3 : New w w3 := (hnw.trans hA.drew).before ht3 (fun i hi e => by omega)
        have hs3z := ht3.size
        simp at hs3z
        have hcp := hP3.cells
        have HW : Hid (wrap64 ((f x y).getD 0 + 1) = (f x y).getD 0 + 1) := by unfold Hid wrap64; omega
        have HW2 := HW.out
        generalize hcv : (f x y).getD 0 = cv at *
        have HCT : Hid (cv = (List.count (x, y) (List.take k ps) : Int)) := hcnt
        have hcv0 : 0 ≤ cv := by omega
        clear hcnt
        simp only [goInt] at he1 hs3
        have hsz3 : w1.heap.size + 1 ≤ w3.heap.size := by omega
        go_wp2_with fail
        go_region
        by_cases hz : cv = 0
        · have hb1 : (cv + 1 == 1) = true := by rw [beq_iff_eq]; omega
          have HO : Hid (once (ps.take (k + 1)) = once (ps.take k) ++ [(x, y)]) := once_new hp1 (by have := HCT.out; omega)
          have hle := len_once (ps.take k)
          have hle2 : (ps.take k).length ≤ k := by rw [List.length_take]; omega
          go_wp2_with (at_builtin; refine wpList_append_own_at _ rfl _ _ 31 rfl (w1.heap.size + 1) 25 iP (.agg #[.int .i64 0, .int .i64 0]) 2 16 Try.underlying31 hi hz0 hz1 hz2 rfl (by decide) _ _ _ rfl (hL3.turn ((New.refl w3).alloc (.cells #[.int .i64 x, .int .i64 y] 25)) (fun _ _ f => f)).own ⟨w3.heap.size, 0, none⟩ 1 1 [.int .i64 x, .int .i64 y] rfl rfl (cell_two_new _ _ _ _) (by simp [Value.oneCell']) (by unfold maxLen; omega) (by omega) (by simp; omega) ?_; intro v' w4 hown' hgrow hnil hloc)
          have hg4 : Turn (fun q => some q = u4.ownBlock) (w3.alloc (.cells #[.int .i64 x, .int .i64 y] 25)) w4 := Turn.of_grownO hgrow
          have hnb : ∀ q, q < w1.heap.size + 1 → ¬ some q = u4.ownBlock := fun q hq e => by have := hL3.blk e; omega
          have hA4 := (New.refl w3).alloc (.cells #[.int .i64 x, .int .i64 y] 25)
          have hn4 : New w w4 := (hn3.trans hA4).before hg4 (fun q hq => hnb q (by omega))
          have hs4 := hg4.size
          simp at hs4
          have hlen : (once (ps.take k) ++ [(x, y)]).length = (once (ps.take k)).length + 1 := by simp
          have hcl4 : cellsP (once (ps.take k) ++ [(x, y)]) = cellsP (once (ps.take k)) ++ [.int .i64 x, .int .i64 y] := by rw [cellsP_append]; rfl
          refine ⟨⟨k + 1, _, by omega, by go_num, ?_, hn4, (hB3.new hA4).turn hg4 (hnb _ (by omega)), (hM3.new hA4).turn hg4 (hnb _ (by omega)), hCN', by omega⟩, by simp [intOf]; omega⟩
          rw [HO.out]
          exact OwL.of_own (by rw [hlen, hcl4]; exact hown') (by simp)
        · have hb1 : (cv + 1 == 1) = false := by rw [beq_eq_false_iff_ne]; omega
          have HO : Hid (once (ps.take (k + 1)) = once (ps.take k)) := once_old hp1 (by have := HCT.out; omega)
          go_wp2
          go_roundw
          case rel => exact ⟨k + 1, _, by omega, by go_num, by rw [HO.out]; exact hL3, hn3, hB3, hM3, hCN', hsz3⟩
          case measure => simp [intOf]; omega
      · obtain rfl : k = n := by omega
        have htk : ps.take k = ps := by rw [← HN.out]; exact List.take_length
        rw [htk] at hL
        have hle := len_once ps
        rcases hL with ⟨rfl, h0⟩ | ⟨g, c', rfl, hg, ho⟩
        · have hs0 : Hid (sortP ps = []) := by
            apply List.eq_nil_of_length_eq_zero
            rw [len_sortP, h0]; rfl
          have hcs := hBr.cells
          have hfs := hBr.frees
          go_wp2_with fail
          refine (AnyF.slices_SortFunc_none Try.sortL none 0 _ _).mono ?_
          rintro e w5 ⟨rfl, rfl⟩
          go_wp2
          refine bodyPost_ret (v := .agg #[.int .i64 0, .slice none 0 0]) (by simp [results, Try.results13, go_sem, hcs]) rfl ⟨_, rfl, .inl ⟨rfl, hs0.out⟩, ?_⟩
          exact (hnw.setCell hBge _).setCell hBge _
        · generalize hLL : (once ps).length = m at *
          go_wp2_with fail
          refine (sort_any ho (by omega)).mono ?_
          rintro e w5 ⟨rfl, ho5, ht5⟩
          have hB5 := hBr.turn ht5 (by omega)
          have hn5 : New w w5 := hnw.before ht5 (fun i hi e => by omega)
          have hcs := hB5.cells
          have hfs := hB5.frees
          go_wp2
          refine bodyPost_ret (v := .agg #[.int .i64 0, .slice (some ⟨g, 0, none⟩) m c']) (by simp [results, Try.results13, go_sem, hcs]) rfl ⟨_, rfl, .inr ⟨g, c', ?_, by omega, ?_⟩, ?_⟩
          · rw [len_sortP, hLL]
          · rw [len_sortP, hLL]
            exact ho5.turn (((Turn.refl (fun q => q = w.heap.size) w5).set rfl _).set rfl _) (by omega)
          · exact (hn5.setCell hBge _).setCell hBge _
  · have hl : (if lf ps = 0 then sortP ps else []) = [] := by rw [if_neg hc]
    rw [hl]
    clear hl
    go_enter Try.func13, Try.ntmps13
    go_wp2_with fail
    refine (listFault_any a n c ps _ (h.new hw) hn hm).mono ?_
    rintro e w1 ⟨rfl, hn1⟩
    have hcs := (hB.new hn1).cells
    have hfs := (hB.new hn1).frees
    go_wp2
    refine bodyPost_ret (v := .agg #[.int .i64 (lf ps), .slice none 0 0]) (by simp [results, Try.results13, go_sem, hcs]) rfl ⟨_, rfl, .inl ⟨rfl, rfl⟩, ?_⟩
    exact ((hw.trans hn1).setCell hBge _).setCell hBge _

end Go.Proofs.Ytefbeaoinikbgaa
