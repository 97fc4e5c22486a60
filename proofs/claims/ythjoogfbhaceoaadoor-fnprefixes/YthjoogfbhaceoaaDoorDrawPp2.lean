/- What is proved here: what the drawing of a text and of a prefix out of a list of bytes answer. -/
import Derived.Test.YthjoogfbhaceoaaDoorDrawPp
import Derived.Test.YthjoogfbhaceoaaDoorRtLib
namespace Go.Proofs.YthjoogfbhaceoaaDoor
open Go.RowKit Go.Sort

theorem tx_size (a l : Int) : (tx a l).2.size ≤ 11 := by
  unfold tx
  split
  · rename_i h
    obtain ⟨h0, h1, h2, h3, _⟩ := pf_ok h
    rw [txt_list, size_l]
    exact txL_len (by omega) (by omega) (by omega)
  · exact Nat.zero_le _

theorem str_of {w : World} {g m cap : Nat} {ys : List Int} (h : BsAt w (some ⟨g, 0, none⟩) ys) (hm : ys.length = m) : ∃ s : ByteArray, (convert 22 9 (.slice (some ⟨g, 0, none⟩) m cap)).run Tryd.prog w = .ok (.string s) w ∧ s.size = m := by
  have hl : (ys.map fun z => UInt8.ofNat z.toNat).length = m := by simp [hm]
  have hr := run_convert_bytes_back w 22 9 5 ⟨g, 0, none⟩ cap (ys.map fun z => UInt8.ofNat z.toNat) Tryd.underlying22 Tryd.underlying5 Tryd.underlying9 (by
    intro j hj
    have hj' : j < ys.length := by simpa using hj
    obtain ⟨b, off, e, hc, h0, h1⟩ := h j _ (List.getElem?_eq_getElem hj')
    simp only [Option.some.injEq, Addr.mk.injEq, and_true] at e
    obtain ⟨rfl, rfl⟩ := e
    rw [Addr.add_lit, hc, List.getElem_map, UInt8.toNat_ofNat']
    congr 2
    omega)
  rw [hl] at hr
  exact ⟨_, hr, by rw [size_l, hl]⟩

theorem drawText_any (a : Option Addr) (n c : Nat) (zs : List Int) (w : World) (h : BsAt w a zs) (hn : zs.length = n) (hm : n ≤ 2097152) (ha : ∀ x, zs ≠ [] → a = some x → x.block < w.heap.size) :
    Calls Tryd.prog 9 #[.slice a n c] w fun e w' => ∃ x l : Int, e = .returned (.agg #[.int .i64 x, .int .i64 l]) ∧ New w w' := by
  have hw0 := (New.refl w).alloc (.cells #[.int .i64 0, .int .i64 0] 26)
  have hR : Blk (w.alloc (.cells #[.int .i64 0, .int .i64 0] 26)) w.heap.size 26 #[.int .i64 0, .int .i64 0] := Blk.mk _ _ _ _ rfl
  have hge := Nat.le_refl w.heap.size
  go_enter Tryd.func9, Tryd.ntmps9
  go_wp2_with fail
  refine (source_any a n c zs _ (h.new hw0) hn hm (fun x hz hx => by have := ha x hz hx; simp; omega)).mono ?_
  rintro e w1 ⟨B, rfl, hB, hs1, hn1⟩
  simp at hB
  go_wp2_with fail
  refine (l2Bent_sc hs1 (by omega)).mono ?_
  rintro e w2 ⟨x, l, t', rfl, -, -, -, hs2, ht2⟩
  have hR2 := (hR.new hn1).turn ht2 (by omega)
  have hcs := hR2.cells
  have hfs := hR2.frees
  have hn2 : New w w2 := (hw0.trans hn1).before ht2 (fun i hi e => by omega)
  go_wp2
  refine bodyPost_ret (v := .agg #[.int .i64 x, .int .i64 l]) (by simp [results, Tryd.results9, go_sem, hcs]) rfl ⟨x, l, rfl, ?_⟩
  exact New.setCell (New.setCell hn2 hge _) hge _

set_option maxHeartbeats 3200000 in
theorem drawParse_any (a : Option Addr) (n c : Nat) (zs : List Int) (w : World) (h : BsAt w a zs) (hn : zs.length = n) (hm : n ≤ 2097152) (ha : ∀ x, zs ≠ [] → a = some x → x.block < w.heap.size) :
    Calls Tryd.prog 5 #[.slice a n c] w fun e w' => ∃ s : ByteArray, e = .returned (.string s) ∧ s.size ≤ 1000 ∧ New w w' := by
  have hfd : ∀ (x : Int) (v : Value) (W : World), (Instr.field 31 (.agg #[.int .i64 x, v]) 1).run Tryd.prog W = .ok v W := fun _ _ _ => by kernel_rfl
  go_enter Tryd.func5, Tryd.ntmps5
  go_wp2_with fail
  refine (source_any a n c zs _ h hn hm ha).mono ?_
  rintro e w1 ⟨B, rfl, hB, hs1, hn1⟩
  go_wp2_with fail
  refine (l2Bent_sc hs1 (by omega)).mono ?_
  rintro e w2 ⟨x, l, t', rfl, -, -, htt, hs2, ht2⟩
  have hn2 : New w w2 := hn1.before ht2 (fun i hi e => by omega)
  go_wp2_with fail
  refine (specTx x l _).mono ?_
  rintro e w3 ⟨rfl, hn3⟩
  have hs3 := hs2.new hn3
  have hn3' := hn2.trans hn3
  have hts := tx_size x l
  generalize (tx x l).1 = cd at *
  generalize (tx x l).2 = S at *
  clear hs1 hs2 hn1 hn2 ht2 hn3
  go_wp2_with fail
  refine (chance_sc hs3 3 (by omega) (by omega)).mono ?_
  rintro e w4 ⟨r4, rfl, hs4, ht4⟩
  have hn4 : New w w4 := hn3'.before ht4 (fun i hi e => by omega)
  clear hs3 hn3' ht4
  cases r4 with
  | false =>
    go_wp2_with fail
    refine (chance_sc hs4 6 (by omega) (by omega)).mono ?_
    rintro e w5 ⟨r5, rfl, hs5, ht5⟩
    have hn5 : New w w5 := hn4.before ht5 (fun i hi e => by omega)
    cases r5 with
    | false =>
      go_wp2
      go_ret
      exact ⟨S, rfl, by omega, hn5⟩
    | true =>
      go_wp2_with fail
      refine (next_sc (hs5.new ((New.refl _).alloc _)) 8 (by omega) (by omega)).mono ?_
      rintro e w7 ⟨r7, rfl, hd7, hs7, ht7⟩
      obtain ⟨hr0, hr1, -⟩ := hd7
      have hr1 := hr1 (by omega)
      obtain ⟨i, rfl⟩ := Int.eq_ofNat_of_zero_le hr0
      have hi8 : i < 8 := by omega
      have hlt5 := hs5.blk.lt
      have hbl := Blk.turn (Blk.mk _ w5.heap.size _ _ rfl) ht7 (by omega)
      have hcell : ∃ s : ByteArray, w7.cell? ⟨w5.heap.size, i, none⟩ = some (.string s) ∧ s.size ≤ 1000 := by
        rw [hbl.cells i]
        match i, hi8 with
        | 0, _ => exact ⟨_, rfl, by decide⟩
        | 1, _ => exact ⟨_, rfl, by decide⟩
        | 2, _ => exact ⟨_, rfl, by decide⟩
        | 3, _ => exact ⟨_, rfl, by decide⟩
        | 4, _ => exact ⟨_, rfl, by decide⟩
        | 5, _ => exact ⟨_, rfl, by decide⟩
        | 6, _ => exact ⟨_, rfl, by decide⟩
        | 7, _ => exact ⟨_, rfl, by decide⟩
      obtain ⟨s, hc, hss⟩ := hcell
      have hn7 : New w w7 := (hn5.alloc _).before ht7 (fun i hi e => by omega)
      clear hbl hs7 ht7 hs5 ht5 hn5 hs4 hn4
      go_wp2
      go_ret
      exact ⟨s, rfl, hss, hn7⟩
  | true =>
    obtain ⟨w5, cap, hrun, hn5, hrb⟩ := bytes_of S w4
    have hlt4 := hs4.blk.lt
    have hA4 := hs4.lt_of
    go_wp2_with fail
    refine (bent_sc (hs4.new hn5) (by omega) hA4 hrb (by omega) (by omega)).mono ?_
    rintro e w6 ⟨⟨g6, m6, cap6, t6, ys6, rfl, hm6, hl6, ht6, hb6, hs6⟩, htn6⟩
    obtain ⟨S6, hstr, hsz6⟩ := str_of (cap := cap6) hb6 hl6
    have z4 := hn4.size
    have hn6 : New w w6 := (hn4.trans hn5).before htn6 (fun i hi e => by omega)
    clear hrun hrb hb6 htn6 hn5 hs4 hn4
    go_wp2_with fail
    refine (chance_sc hs6 6 (by omega) (by omega)).mono ?_
    rintro e w8 ⟨r8, rfl, hs8, ht8⟩
    have hn8 : New w w8 := hn6.before ht8 (fun i hi e => by omega)
    cases r8 with
    | false =>
      go_wp2
      go_ret
      exact ⟨S6, rfl, by omega, hn8⟩
    | true =>
      go_wp2_with fail
      refine (next_sc (hs8.new ((New.refl _).alloc _)) 8 (by omega) (by omega)).mono ?_
      rintro e w7 ⟨r7, rfl, hd7, hs7, ht7⟩
      obtain ⟨hr0, hr1, -⟩ := hd7
      have hr1 := hr1 (by omega)
      obtain ⟨i, rfl⟩ := Int.eq_ofNat_of_zero_le hr0
      have hi8 : i < 8 := by omega
      have hlt8 := hs8.blk.lt
      have hbl := Blk.turn (Blk.mk _ w8.heap.size _ _ rfl) ht7 (by omega)
      have hcell : ∃ s : ByteArray, w7.cell? ⟨w8.heap.size, i, none⟩ = some (.string s) ∧ s.size ≤ 1000 := by
        rw [hbl.cells i]
        match i, hi8 with
        | 0, _ => exact ⟨_, rfl, by decide⟩
        | 1, _ => exact ⟨_, rfl, by decide⟩
        | 2, _ => exact ⟨_, rfl, by decide⟩
        | 3, _ => exact ⟨_, rfl, by decide⟩
        | 4, _ => exact ⟨_, rfl, by decide⟩
        | 5, _ => exact ⟨_, rfl, by decide⟩
        | 6, _ => exact ⟨_, rfl, by decide⟩
        | 7, _ => exact ⟨_, rfl, by decide⟩
      obtain ⟨s, hc, hss⟩ := hcell
      have hn7 : New w w7 := (hn8.alloc _).before ht7 (fun i hi e => by omega)
      clear hbl hs7 ht7 hs8 ht8 hn8 hs6 hn6
      go_wp2
      go_ret
      exact ⟨s, rfl, hss, hn7⟩

end Go.Proofs.YthjoogfbhaceoaaDoor
