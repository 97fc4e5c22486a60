/- What is proved here: what the writing of attributes as a text answers, in the program and in its model, for attributes without a fault, where the library's table of powers of ten lies as it is laid. -/
import Derived.Test.YtljkcijakdhdiaaDoorDg5
import Derived.Test.YtljkcijakdhdiaaDoorAtLaw
import Derived.Maps.AppendAt
namespace Go.Proofs.YtljkcijakdhdiaaDoor
open Go.RowKit Go.Sort
set_option linter.unusedVariables false

/-- A number in decimal. -/
def dg (x : Int) : List UInt8 := Lib.decDigits x.toNat
theorem dg_len {x : Int} (h0 : 0 ≤ x) (h1 : x ≤ 65535) : (dg x).length ≤ 5 := dd_len5 (by omega)
/-- A path as a text. -/
def pt (xs : List Int) : List UInt8 := if xs = [] then [45] else Lib.join (xs.map dg) [44]
/-- Attributes as a text. -/
def att (o : Int) (xs : List Int) (nx md lc : Int) : List UInt8 := pt xs ++ [32] ++ dg o ++ [32] ++ dg nx ++ [32] ++ dg md ++ [32] ++ dg lc

theorem join_snoc {L : List (List UInt8)} (x sep : List UInt8) (h : L ≠ []) : Lib.join (L ++ [x]) sep = Lib.join L sep ++ sep ++ x := by
  match L, h with
  | y :: r, _ => simp [Lib.join_cons, Lib.joinTail]
theorem pt_one (x : Int) : pt [x] = dg x := by simp [pt, Lib.join_one]
theorem pt_snoc {xs : List Int} (x : Int) (h : xs ≠ []) : pt (xs ++ [x]) = pt xs ++ [44] ++ dg x := by
  unfold pt
  rw [if_neg (by simp), if_neg h, List.map_append, List.map_cons, List.map_nil]
  exact join_snoc _ _ (by simpa using h)
theorem att_join (o : Int) (xs : List Int) (nx md lc : Int) : Lib.join [pt xs, dg o, dg nx, dg md, dg lc] [32] = att o xs nx md lc := by
  simp [Lib.join_cons, Lib.joinTail, att]

theorem pt_len : ∀ (n : Nat) (xs : List Int), xs.length = n → (∀ x ∈ xs, 1 ≤ x ∧ x ≤ 65535) → (pt xs).length ≤ 6 * n + 1
  | 0, xs, h, _ => by
    obtain rfl : xs = [] := List.eq_nil_of_length_eq_zero h
    simp [pt]
  | n + 1, xs, h, hall => by
    obtain ⟨ys, x, rfl⟩ : ∃ ys x, xs = ys ++ [x] := ⟨xs.dropLast, xs.getLast (by intro e; subst e; simp at h), (List.dropLast_concat_getLast _).symm⟩
    have hx := hall x (by simp)
    have hl := dg_len (show 0 ≤ x by omega) hx.2
    by_cases he : ys = []
    · subst he
      simp only [List.nil_append]
      rw [pt_one]
      omega
    · rw [pt_snoc x he]
      have := pt_len n ys (by simpa using h) (fun y hy => hall y (by simp [hy]))
      simp
      omega

theorem ret_str {a b : List UInt8} (h : a = b) : Ending.returned (.string ⟨a.toArray⟩) = .returned (.string ⟨b.toArray⟩) := by rw [h]

theorem Tryd.infoStr : (Tryd.prog.info? 9).map (fun i => (i.zero, i.size, i.bytes)) = some (some (.string ⟨#[]⟩), 1, 16) := by kernel_rfl

/-- Texts as values. -/
def strV (L : List (List UInt8)) : List Value := L.map fun l => .string ⟨l.toArray⟩
theorem strV_snoc (L : List (List UInt8)) (l : List UInt8) : strV (L ++ [l]) = strV L ++ [.string ⟨l.toArray⟩] := by simp [strV]

theorem cell_one_s (w : World) (x : Value) (t : TypeId) : ∀ j u, [x][j]? = some u → (w.alloc (.cells #[x] t)).cell? ((⟨w.heap.size, 0, none⟩ : Addr).add j) = some u := by
  intro j u hj
  match j, hj with
  | 0, hj => simp at hj; subst hj; simp [Addr.add]

theorem own_newS {w w' : World} {base n : Nat} {v : Value} {xs : List Value} (h : w.ownsRow base 9 1 v n xs) (t : New w w') : w'.ownsRow base 9 1 v n xs := by
  refine ⟨h.1, ?_⟩
  rcases h.2 with h' | ⟨g', cap', cur, h', hb, hh, r⟩
  · exact .inl h'
  · have hlt : g' < w.heap.size := (Array.getElem?_eq_some_iff.1 hh).1
    exact .inr ⟨g', cap', cur, h', hb, (t.block g' hlt (fun f => f)).trans hh, r⟩
theorem own_blkS {w : World} {base n : Nat} {v : Value} {xs : List Value} (h : w.ownsRow base 9 1 v n xs) : ∀ k, v.ownBlock = some k → base ≤ k := by
  intro k hk
  rcases Joins.ownsRow_forms h with ⟨rfl, _⟩ | ⟨g, cap, rfl⟩
  · simp [Value.ownBlock] at hk
  · simp [Value.ownBlock] at hk
    subst hk
    exact (World.ownsRow.lt h g rfl).1
theorem own_capS {w : World} {base g n cap : Nat} {xs : List Value} (h : w.ownsRow base 9 1 (.slice (some ⟨g, 0, none⟩) n cap) n xs) : n ≤ cap := by
  rcases h.2 with ⟨h', _⟩ | ⟨g', cap', cur, h', r⟩
  · simp at h'
  · simp only [Value.slice.injEq, Option.some.injEq, Addr.mk.injEq, and_true, true_and] at h'
    obtain ⟨rfl, rfl⟩ := h'
    exact r.2.2.1
theorem New.growS {a w w' : World} {row : Option Nat} (h : New a w) (hg : w.grownBy w' row) (hr : ∀ k, row = some k → a.heap.size ≤ k) : New a w' :=
  ⟨hg.os.trans h.os, hg.tape.trans h.tape, hg.output.trans h.output, Nat.le_trans h.size hg.size,
    fun k hk hs => (hg.block k (Nat.lt_of_lt_of_le hk h.size) (fun e => by have := hr k e.symm; omega)).trans (h.block k hk hs)⟩

theorem own_neS {w : World} {base n B : Nat} {v : Value} {xs : List Value} {t : TypeId} {cs : Array Value} (h : w.ownsRow base 9 1 v n xs) (hb : Blk w B t cs) (hne : t ≠ 9) : ∀ k, v.ownBlock = some k → ¬ B = k := by
  intro k hk e
  subst e
  rcases h.2 with ⟨rfl, _⟩ | ⟨g, cap, cur, rfl, _, hh, _⟩
  · simp [Value.ownBlock] at hk
  · simp [Value.ownBlock] at hk
    subst hk
    unfold Blk at hb
    rw [hb] at hh
    simp only [Option.some.injEq, Obj.cells.injEq] at hh
    exact hne hh.2.1
theorem Blk.growNe {w w' : World} {B : Nat} {t : TypeId} {cs : Array Value} {row : Option Nat} (h : Blk w B t cs) (k : w.grownBy w' row) (hr : ∀ k, row = some k → ¬ B = k) : Blk w' B t cs := (k.block B h.lt (fun e => hr B e.symm rfl)).trans h

theorem fmtI (x : Int) (w : World) (h0 : 0 ≤ x) (h1 : x ≤ 65535) (ht : Tab w) : Calls Tryd.prog 58 #[.int .i64 x, .int .i64 10] w fun e w' => e = .returned (.string ⟨(dg x).toArray⟩) ∧ New w w' := by
  obtain ⟨n, rfl⟩ := Int.eq_ofNat_of_zero_le h0
  exact fmt5 n w (by omega) ht

theorem digI (x : Int) (w : World) (h0 : 0 ≤ x) (h1 : x ≤ 65535) : Calls Tryd.prog 25 #[.int .i64 x] w fun e w' => e = .returned (.string ⟨(dg x).toArray⟩) ∧ New w w' := by
  obtain ⟨n, rfl⟩ := Int.eq_ofNat_of_zero_le h0
  exact digits5 n w (by omega)

/-- Joining texts that the call owns. -/
theorem joinR (base g m cap : Nat) (L : List (List UInt8)) (sep : List UInt8) (w : World) (ho : w.ownsRow base 9 1 (.slice (some ⟨g, 0, none⟩) m cap) m (strV L)) (hm : m ≤ 1000) (hlen : (Lib.join L sep).length ≤ 100000) :
    Calls Tryd.prog 15 #[.slice (some ⟨g, 0, none⟩) m cap, .string ⟨sep.toArray⟩] w fun e w' => e = .returned (.string ⟨(Lib.join L sep).toArray⟩) ∧ New w w' := by
  have hl : L.length = m := by have := ho.1; simpa [strV] using this
  have e1 : (L.map (fun l => (⟨l.toArray⟩ : ByteArray))).map (·.data.toList) = L := by simp [Function.comp_def]
  have hc := joinS g cap (L.map fun l => ⟨l.toArray⟩) m ⟨sep.toArray⟩ w (by simpa using hl) (by
    intro j x hx
    rw [List.getElem?_map] at hx
    obtain ⟨l, hl', rfl⟩ := Option.map_eq_some_iff.1 hx
    have hj : j < L.length := (List.getElem?_eq_some_iff.1 hl').1
    rw [World.ownsRow.cellAt ho j (by omega)]
    simp [strV, hl']) ((World.ownsRow.lt ho g rfl).2) (own_capS ho) hm (by rw [e1]; exact hlen)
  rw [e1] at hc
  exact hc

set_option maxRecDepth 100000 in
set_option maxHeartbeats 1600000 in
theorem pathText_any (a : Option Addr) (k c : Nat) (xs : List Int) (w : World) (h : NsAt w a xs) (hk : xs.length = k) (hk6 : k ≤ 6) (hall : ∀ x ∈ xs, 1 ≤ x ∧ x ≤ 65535) (ht : Tab w) :
    Calls Tryd.prog 73 #[.slice a k c] w fun e w' => e = .returned (.string ⟨(pt xs).toArray⟩) ∧ New w w' := by
  by_cases h0 : k = 0
  · subst h0
    obtain rfl : xs = [] := List.eq_nil_of_length_eq_zero hk
    have e : Hid (pt [] = [45]) := by simp [Hid, pt]
    go_enter Tryd.func73, Tryd.ntmps73
    go_wp2
    go_ret
    exact ⟨ret_str (a := [45]) e.out.symm, New.refl _⟩
  obtain ⟨iS, hi, hz0, hz1, hz2⟩ := info_parts Tryd.infoStr
  have hne0 : ((k : Int) == 0) = false := by simp; omega
  have HK : Hid (xs.length = k) := hk
  have HA : Hid (∀ x ∈ xs, 1 ≤ x ∧ x ≤ 65535) := hall
  have HP : Hid (pt xs = Lib.join (xs.map dg) [44]) := by unfold Hid pt; rw [if_neg (by intro e; subst e; simp at hk; omega)]
  have HL : Hid ((pt xs).length ≤ 6 * k + 1) := pt_len k xs hk hall
  clear hk hall
  go_enter Tryd.func73, Tryd.ntmps73
  go_wp2
  go_loopw [3, 11] (fun s i wr => ∃ j : Nat, j ≤ k ∧ i = .int .i64 j ∧ wr.ownsRow w.heap.size 9 1 s j (strV ((xs.take j).map dg)) ∧ New w wr) (fun _ i _ => k - (intOf i).toNat)
  case atStart => exact ⟨0, Nat.zero_le _, rfl, ⟨rfl, .inl ⟨rfl, rfl⟩⟩, New.refl _⟩
  case round =>
    obtain ⟨j, hj, rfl, ho, hnw⟩ := hrel
    by_cases hlt : j < k
    · obtain ⟨b, off, x, ha, hz, hc0, -⟩ := (h.new hnw).at j (by rw [HK.out]; exact hlt)
      have ha' := ha
      subst ha'
      obtain ⟨q0, q1⟩ := HA.out x (List.mem_of_getElem? hz)
      have hT : Hid (strV ((xs.take (j + 1)).map dg) = strV ((xs.take j).map dg) ++ [.string ⟨(dg x).toArray⟩]) := by unfold Hid; rw [take_snoc hz, List.map_append, List.map_cons, List.map_nil, strV_snoc]
      clear hz
      go_wp2_with fail
      refine (fmtI x _ (by omega) q1 (ht.new hnw)).mono ?_
      rintro e w1 ⟨rfl, hn1⟩
      have hw1 := hnw.trans hn1
      have hsz := hw1.size
      have ho1 := own_newS ho hn1
      have hblk := own_blkS ho1
      generalize dg x = D at *
      go_wp2_with (at_builtin; refine wpList_append_own_at _ rfl _ _ 49 rfl w.heap.size 9 iS (.string ⟨#[]⟩) 1 16 Tryd.underlying49 hi hz0 hz1 hz2 rfl (by decide) _ _ _ rfl (ho1.alloc _) ⟨w1.heap.size, 0, none⟩ 1 1 [.string ⟨D.toArray⟩] rfl rfl (cell_one_s _ _ _) (by simp [Value.oneCell']) (by unfold maxLen; omega) (by omega) (by simp; omega) ?_; intro v' w3 hown' hgrow hnil hloc)
      obtain ⟨g', cap', rfl⟩ := Joins.ownsRow_form hown' (by omega)
      have N3 : New w w3 := (hw1.alloc (.cells #[.string ⟨D.toArray⟩] 9)).growS hgrow hblk
      have hrow : w3.ownsRow w.heap.size 9 1 (.slice (some ⟨g', 0, none⟩) (j + 1) cap') (j + 1) (strV ((xs.take (j + 1)).map dg)) := by rw [hT.out]; exact hown'
      clear hown' hgrow hnil hloc ho ho1
      go_wp2
      go_roundw
      case rel => exact ⟨j + 1, by omega, by go_num, hrow, N3⟩
      case measure => simp [intOf]; omega
    · obtain rfl : j = k := by omega
      obtain ⟨g, cap, rfl⟩ := Joins.ownsRow_form ho (by omega)
      rw [List.take_of_length_le (by rw [HK.out]; omega)] at ho
      have hjl : (Lib.join (xs.map dg) [44]).length ≤ 100000 := by rw [← HP.out]; have := HL.out; omega
      go_wp2_with fail
      refine (joinR w.heap.size g j cap (xs.map dg) [44] _ ho (by omega) hjl).mono ?_
      rintro e w4 ⟨rfl, hn4⟩
      go_wp2
      go_ret
      exact ⟨ret_str HP.out.symm, hnw.trans hn4⟩

set_option maxRecDepth 100000 in
set_option maxHeartbeats 3200000 in
theorem implAT_ok (o nx md lc : Int) (a : Option Addr) (n c : Nat) (xs : List Int) (w : World) (h : NsAt w a xs) (hn : xs.length = n) (ho : 0 ≤ o ∧ o ≤ 2) (hx : Wd nx) (hm : Wd md) (hl : Wd lc) (hk6 : n ≤ 6) (hall : ∀ x ∈ xs, 1 ≤ x ∧ x ≤ 65535) (hf : af o xs nx md lc = 0) (ht : Tab w) :
    Calls Tryd.prog 60 #[.agg #[.int .i64 o, .slice a n c, .int .i64 nx, .int .i64 md, .int .i64 lc]] w fun e w' => e = .returned (.agg #[.int .i64 0, .string ⟨(att o xs nx md lc).toArray⟩]) ∧ New w w' := by
  obtain ⟨iS, hi, hz0, hz1, hz2⟩ := info_parts Tryd.infoStr
  obtain ⟨o0, o1⟩ := ho
  obtain ⟨x0, x1⟩ := hx
  obtain ⟨m0, m1⟩ := hm
  obtain ⟨l0, l1⟩ := hl
  have HN : Hid (xs.length = n) := hn
  have HF : Hid (af o xs nx md lc = 0) := hf
  have HA : Hid (∀ x ∈ xs, 1 ≤ x ∧ x ≤ 65535) := hall
  have HPL : Hid ((pt xs).length ≤ 6 * n + 1) := pt_len n xs hn hall
  clear hn hf hall
  have hw := ((New.refl w).alloc (.cells #[.int .i64 o, .slice a n c, .int .i64 nx, .int .i64 md, .int .i64 lc] 35)).alloc (.cells #[.int .i64 0, .string ⟨#[]⟩] 32)
  have bA : Blk ((w.alloc (.cells #[.int .i64 o, .slice a n c, .int .i64 nx, .int .i64 md, .int .i64 lc] 35)).alloc (.cells #[.int .i64 0, .string ⟨#[]⟩] 32)) w.heap.size 35 #[.int .i64 o, .slice a n c, .int .i64 nx, .int .i64 md, .int .i64 lc] := (Blk.mk _ _ _ _ rfl).alloc _
  have bR : Blk ((w.alloc (.cells #[.int .i64 o, .slice a n c, .int .i64 nx, .int .i64 md, .int .i64 lc] 35)).alloc (.cells #[.int .i64 0, .string ⟨#[]⟩] 32)) (w.heap.size + 1) 32 #[.int .i64 0, .string ⟨#[]⟩] := Blk.mk _ _ _ _ (by simp)
  have ge1 : w.heap.size ≤ w.heap.size + 1 := by omega
  have hz : ((0 : Int) != 0) = false := rfl
  go_enter Tryd.func60, Tryd.ntmps60
  go_wp2_with fail
  refine (implAF o nx md lc a n c xs _ (h.new hw) HN.out (by omega)).mono ?_
  rintro e w1 ⟨rfl, hn1⟩
  rw [HF.out]
  have hw1 := hw.trans hn1
  have bA1 := bA.new hn1
  have bR1 := bR.new hn1
  have cA := bA1.cells
  clear bA bR hn1 hw
  go_wp2_with fail
  refine (pathText_any a n c xs _ (h.new hw1) HN.out hk6 HA.out (ht.new hw1)).mono ?_
  rintro e w2 ⟨rfl, hn2⟩
  have hw2 := hw1.trans hn2
  have bA2 := bA1.new hn2
  have bR2 := bR1.new hn2
  generalize hpt : pt xs = P at *
  have HPT : Hid (pt xs = P) := hpt
  clear hpt
  have hal3 := (New.refl w2).alloc (.cells #[.string ⟨P.toArray⟩] 9)
  have bA3 := bA2.new hal3
  have bR3 := bR2.new hal3
  have cA3 := bA3.cells
  have hs2 := hw2.size
  have hb2 := bR2.lt
  have ho3 : (w2.alloc (.cells #[.string ⟨P.toArray⟩] 9)).ownsRow (w.heap.size + 2) 9 1 (.slice (some ⟨w2.heap.size, 0, none⟩) 1 1) 1 (strV [P]) := World.ownsRow_lit (base := w.heap.size + 2) (size := 1) (e := 9) w2 #[.string ⟨P.toArray⟩] 1 (by omega) (by decide) rfl
  have hw3 := hw2.trans hal3
  clear cA bA1 bR1 bA2 bR2 hn2
  have hal4 := (New.refl (w2.alloc (.cells #[.string ⟨P.toArray⟩] 9))).alloc (.cells #[.int .i64 o, .int .i64 nx, .int .i64 md, .int .i64 lc] 2)
  have bL : Blk ((w2.alloc (.cells #[.string ⟨P.toArray⟩] 9)).alloc (.cells #[.int .i64 o, .int .i64 nx, .int .i64 md, .int .i64 lc] 2)) (w2.heap.size + 1) 2 #[.int .i64 o, .int .i64 nx, .int .i64 md, .int .i64 lc] := Blk.mk _ _ _ _ (by simp)
  go_wp2_with fail
  go_loopw [4, 27] (fun s i wr => ∃ j : Nat, j ≤ 4 ∧ i = .int .i64 j ∧ wr.ownsRow (w.heap.size + 2) 9 1 s (1 + j) (strV ([P] ++ ([o, nx, md, lc].take j).map dg)) ∧ New w wr ∧ Blk wr (w2.heap.size + 1) 2 #[.int .i64 o, .int .i64 nx, .int .i64 md, .int .i64 lc] ∧ Blk wr (w.heap.size + 1) 32 #[.int .i64 0, .string ⟨#[]⟩]) (fun _ i _ => 4 - (intOf i).toNat)
  case atStart => exact ⟨0, by omega, rfl, by simpa using own_newS ho3 hal4, hw3.trans hal4, bL, bR3.new hal4⟩
  case round =>
    clear bL bR3 bA3 cA3 ho3 hw3 hal3 hal4
    obtain ⟨j, hj, rfl, hos, hnw, bL, bR⟩ := hrel
    have cL := bL.cells
    have hsz := hnw.size
    have hrl := bR.lt
    rcases (show j = 0 ∨ j = 1 ∨ j = 2 ∨ j = 3 ∨ j = 4 by omega) with rfl | rfl | rfl | rfl | rfl
    · go_wp2_with fail
      refine (fmtI o _ o0 (by omega) (ht.new hnw)).mono ?_
      rintro e w4 ⟨rfl, hn4⟩
      have hw4 := hnw.trans hn4
      have hs4 := hw4.size
      have ho4 := own_newS hos hn4
      have hblk := own_blkS ho4
      have bL4 := bL.new hn4
      have bR4 := bR.new hn4
      have hT : strV ([P] ++ ([o, nx, md, lc].take 1).map dg) = strV ([P] ++ ([o, nx, md, lc].take 0).map dg) ++ [.string ⟨(dg o).toArray⟩] := rfl
      have HT : Hid (strV ([P] ++ ([o, nx, md, lc].take 1).map dg) = strV ([P] ++ ([o, nx, md, lc].take 0).map dg) ++ [.string ⟨(dg o).toArray⟩]) := hT
      have hb4 := bR4.lt
      clear hT
      generalize dg o = D at HT ⊢
      go_wp2_with (at_builtin; refine wpList_append_own_at _ rfl _ _ 49 rfl (w.heap.size + 2) 9 iS (.string ⟨#[]⟩) 1 16 Tryd.underlying49 hi hz0 hz1 hz2 rfl (by decide) _ _ _ rfl (ho4.alloc _) ⟨w4.heap.size, 0, none⟩ 1 1 [.string ⟨D.toArray⟩] rfl rfl (cell_one_s _ _ _) (by simp [Value.oneCell']) (by unfold maxLen; omega) (by omega) (by simp; omega) ?_; intro v' w5 hown' hgrow hnil hloc)
      have hal := (New.refl w4).alloc (.cells #[.string ⟨D.toArray⟩] 9)
      obtain ⟨g', cap', rfl⟩ := Joins.ownsRow_form hown' (by omega)
      have N5 : New w w5 := (hw4.trans hal).growS hgrow (fun k hk => by have := hblk k hk; omega)
      have bL5 : Blk w5 (w2.heap.size + 1) 2 #[.int .i64 o, .int .i64 nx, .int .i64 md, .int .i64 lc] := (bL4.new hal).growNe hgrow (own_neS ho4 bL4 (by decide))
      have bR5 : Blk w5 (w.heap.size + 1) 32 #[.int .i64 0, .string ⟨#[]⟩] := (bR4.new hal).growNe hgrow (own_neS ho4 bR4 (by decide))
      have hrow : w5.ownsRow (w.heap.size + 2) 9 1 (.slice (some ⟨g', 0, none⟩) (1 + 1) cap') (1 + 1) (strV ([P] ++ ([o, nx, md, lc].take 1).map dg)) := by rw [HT.out]; exact hown'
      clear hown' hgrow hnil hloc hos ho4
      go_wp2
      go_roundw
      case rel => exact ⟨1, by omega, by go_num, hrow, N5, bL5, bR5⟩
      case measure => simp [intOf]
    · go_wp2_with fail
      refine (fmtI nx _ x0 x1 (ht.new hnw)).mono ?_
      rintro e w4 ⟨rfl, hn4⟩
      have hw4 := hnw.trans hn4
      have hs4 := hw4.size
      have ho4 := own_newS hos hn4
      have hblk := own_blkS ho4
      have bL4 := bL.new hn4
      have bR4 := bR.new hn4
      have hT : strV ([P] ++ ([o, nx, md, lc].take 2).map dg) = strV ([P] ++ ([o, nx, md, lc].take 1).map dg) ++ [.string ⟨(dg nx).toArray⟩] := rfl
      have HT : Hid (strV ([P] ++ ([o, nx, md, lc].take 2).map dg) = strV ([P] ++ ([o, nx, md, lc].take 1).map dg) ++ [.string ⟨(dg nx).toArray⟩]) := hT
      have hb4 := bR4.lt
      clear hT
      generalize dg nx = D at HT ⊢
      go_wp2_with (at_builtin; refine wpList_append_own_at _ rfl _ _ 49 rfl (w.heap.size + 2) 9 iS (.string ⟨#[]⟩) 1 16 Tryd.underlying49 hi hz0 hz1 hz2 rfl (by decide) _ _ _ rfl (ho4.alloc _) ⟨w4.heap.size, 0, none⟩ 1 1 [.string ⟨D.toArray⟩] rfl rfl (cell_one_s _ _ _) (by simp [Value.oneCell']) (by unfold maxLen; omega) (by omega) (by simp; omega) ?_; intro v' w5 hown' hgrow hnil hloc)
      have hal := (New.refl w4).alloc (.cells #[.string ⟨D.toArray⟩] 9)
      obtain ⟨g', cap', rfl⟩ := Joins.ownsRow_form hown' (by omega)
      have N5 : New w w5 := (hw4.trans hal).growS hgrow (fun k hk => by have := hblk k hk; omega)
      have bL5 : Blk w5 (w2.heap.size + 1) 2 #[.int .i64 o, .int .i64 nx, .int .i64 md, .int .i64 lc] := (bL4.new hal).growNe hgrow (own_neS ho4 bL4 (by decide))
      have bR5 : Blk w5 (w.heap.size + 1) 32 #[.int .i64 0, .string ⟨#[]⟩] := (bR4.new hal).growNe hgrow (own_neS ho4 bR4 (by decide))
      have hrow : w5.ownsRow (w.heap.size + 2) 9 1 (.slice (some ⟨g', 0, none⟩) (1 + 2) cap') (1 + 2) (strV ([P] ++ ([o, nx, md, lc].take 2).map dg)) := by rw [HT.out]; exact hown'
      clear hown' hgrow hnil hloc hos ho4
      go_wp2
      go_roundw
      case rel => exact ⟨2, by omega, by go_num, hrow, N5, bL5, bR5⟩
      case measure => simp [intOf]
    · go_wp2_with fail
      refine (fmtI md _ m0 m1 (ht.new hnw)).mono ?_
      rintro e w4 ⟨rfl, hn4⟩
      have hw4 := hnw.trans hn4
      have hs4 := hw4.size
      have ho4 := own_newS hos hn4
      have hblk := own_blkS ho4
      have bL4 := bL.new hn4
      have bR4 := bR.new hn4
      have hT : strV ([P] ++ ([o, nx, md, lc].take 3).map dg) = strV ([P] ++ ([o, nx, md, lc].take 2).map dg) ++ [.string ⟨(dg md).toArray⟩] := rfl
      have HT : Hid (strV ([P] ++ ([o, nx, md, lc].take 3).map dg) = strV ([P] ++ ([o, nx, md, lc].take 2).map dg) ++ [.string ⟨(dg md).toArray⟩]) := hT
      have hb4 := bR4.lt
      clear hT
      generalize dg md = D at HT ⊢
      go_wp2_with (at_builtin; refine wpList_append_own_at _ rfl _ _ 49 rfl (w.heap.size + 2) 9 iS (.string ⟨#[]⟩) 1 16 Tryd.underlying49 hi hz0 hz1 hz2 rfl (by decide) _ _ _ rfl (ho4.alloc _) ⟨w4.heap.size, 0, none⟩ 1 1 [.string ⟨D.toArray⟩] rfl rfl (cell_one_s _ _ _) (by simp [Value.oneCell']) (by unfold maxLen; omega) (by omega) (by simp; omega) ?_; intro v' w5 hown' hgrow hnil hloc)
      have hal := (New.refl w4).alloc (.cells #[.string ⟨D.toArray⟩] 9)
      obtain ⟨g', cap', rfl⟩ := Joins.ownsRow_form hown' (by omega)
      have N5 : New w w5 := (hw4.trans hal).growS hgrow (fun k hk => by have := hblk k hk; omega)
      have bL5 : Blk w5 (w2.heap.size + 1) 2 #[.int .i64 o, .int .i64 nx, .int .i64 md, .int .i64 lc] := (bL4.new hal).growNe hgrow (own_neS ho4 bL4 (by decide))
      have bR5 : Blk w5 (w.heap.size + 1) 32 #[.int .i64 0, .string ⟨#[]⟩] := (bR4.new hal).growNe hgrow (own_neS ho4 bR4 (by decide))
      have hrow : w5.ownsRow (w.heap.size + 2) 9 1 (.slice (some ⟨g', 0, none⟩) (1 + 3) cap') (1 + 3) (strV ([P] ++ ([o, nx, md, lc].take 3).map dg)) := by rw [HT.out]; exact hown'
      clear hown' hgrow hnil hloc hos ho4
      go_wp2
      go_roundw
      case rel => exact ⟨3, by omega, by go_num, hrow, N5, bL5, bR5⟩
      case measure => simp [intOf]
    · go_wp2_with fail
      refine (fmtI lc _ l0 l1 (ht.new hnw)).mono ?_
      rintro e w4 ⟨rfl, hn4⟩
      have hw4 := hnw.trans hn4
      have hs4 := hw4.size
      have ho4 := own_newS hos hn4
      have hblk := own_blkS ho4
      have bL4 := bL.new hn4
      have bR4 := bR.new hn4
      have hT : strV ([P] ++ ([o, nx, md, lc].take 4).map dg) = strV ([P] ++ ([o, nx, md, lc].take 3).map dg) ++ [.string ⟨(dg lc).toArray⟩] := rfl
      have HT : Hid (strV ([P] ++ ([o, nx, md, lc].take 4).map dg) = strV ([P] ++ ([o, nx, md, lc].take 3).map dg) ++ [.string ⟨(dg lc).toArray⟩]) := hT
      have hb4 := bR4.lt
      clear hT
      generalize dg lc = D at HT ⊢
      go_wp2_with (at_builtin; refine wpList_append_own_at _ rfl _ _ 49 rfl (w.heap.size + 2) 9 iS (.string ⟨#[]⟩) 1 16 Tryd.underlying49 hi hz0 hz1 hz2 rfl (by decide) _ _ _ rfl (ho4.alloc _) ⟨w4.heap.size, 0, none⟩ 1 1 [.string ⟨D.toArray⟩] rfl rfl (cell_one_s _ _ _) (by simp [Value.oneCell']) (by unfold maxLen; omega) (by omega) (by simp; omega) ?_; intro v' w5 hown' hgrow hnil hloc)
      have hal := (New.refl w4).alloc (.cells #[.string ⟨D.toArray⟩] 9)
      obtain ⟨g', cap', rfl⟩ := Joins.ownsRow_form hown' (by omega)
      have N5 : New w w5 := (hw4.trans hal).growS hgrow (fun k hk => by have := hblk k hk; omega)
      have bL5 : Blk w5 (w2.heap.size + 1) 2 #[.int .i64 o, .int .i64 nx, .int .i64 md, .int .i64 lc] := (bL4.new hal).growNe hgrow (own_neS ho4 bL4 (by decide))
      have bR5 : Blk w5 (w.heap.size + 1) 32 #[.int .i64 0, .string ⟨#[]⟩] := (bR4.new hal).growNe hgrow (own_neS ho4 bR4 (by decide))
      have hrow : w5.ownsRow (w.heap.size + 2) 9 1 (.slice (some ⟨g', 0, none⟩) (1 + 4) cap') (1 + 4) (strV ([P] ++ ([o, nx, md, lc].take 4).map dg)) := by rw [HT.out]; exact hown'
      clear hown' hgrow hnil hloc hos ho4
      go_wp2
      go_roundw
      case rel => exact ⟨4, by omega, by go_num, hrow, N5, bL5, bR5⟩
      case measure => simp [intOf]
    · obtain ⟨g, cap, rfl⟩ := Joins.ownsRow_form hos (by omega)
      have hgne := (World.ownsRow.lt hos g rfl).1
      have hja : strV ([P] ++ ([o, nx, md, lc].take 4).map dg) = strV [P, dg o, dg nx, dg md, dg lc] := rfl
      rw [hja] at hos
      have e2 : Lib.join [P, dg o, dg nx, dg md, dg lc] [32] = att o xs nx md lc := by rw [← HPT.out]; exact att_join o xs nx md lc
      have hlen : (Lib.join [P, dg o, dg nx, dg md, dg lc] [32]).length ≤ 100000 := by
        have q1 := dg_len o0 (show o ≤ 65535 by omega)
        have q2 := dg_len x0 x1
        have q3 := dg_len m0 m1
        have q4 := dg_len l0 l1
        have q5 := HPL.out
        rw [e2]
        unfold att
        rw [HPT.out]
        simp only [List.length_append, List.length_cons, List.length_nil]
        omega
      go_wp2_with fail
      refine (joinR (w.heap.size + 2) g (1 + 4) cap [P, dg o, dg nx, dg md, dg lc] [32] _ hos (by omega) hlen).mono ?_
      rintro e w6 ⟨rfl, hn6⟩
      obtain ⟨Z, hZ⟩ : ∃ Z, att o xs nx md lc = Z := ⟨_, rfl⟩
      have HZ : Hid (att o xs nx md lc = Z) := hZ
      rw [e2, hZ]
      clear hZ
      have bR6 := bR.new hn6
      have c6 := bR6.cells
      have f6 := bR6.frees
      have hw6 := hnw.trans hn6
      go_wp2
      refine bodyPost_ret (v := .agg #[.int .i64 0, .string ⟨Z.toArray⟩]) (by simp [results, Tryd.results60, go_sem, c6]) rfl ⟨by rw [HZ.out], ?_⟩
      simp (disch := exact ge1) only [New.set_iff, hw6]

/-- What is told of attributes: a code and a text. -/
def tat (o : Int) (xs : List Int) (nx md lc : Int) : Int × List UInt8 := if af o xs nx md lc = 0 then (0, att o xs nx md lc) else (af o xs nx md lc, [])

theorem af_ok5 {o nx md lc : Int} {xs : List Int} (h : af o xs nx md lc = 0) : Ao o nx md lc ∧ xs.length ≤ 6 ∧ ∀ x ∈ xs, 1 ≤ x ∧ x ≤ 65535 := by
  have afc_all5 : ∀ {xs : List Int}, afc xs = 0 → ∀ x ∈ xs, 1 ≤ x ∧ x ≤ 65535 := by
    intro xs
    induction xs with
    | nil => intro _ x hx; simp at hx
    | cons y r ih =>
      intro h x hx
      unfold afc at h
      split at h
      · rename_i hy
        rcases List.mem_cons.1 hx with rfl | hx
        · exact hy
        · exact ih h x hx
      · cases h
  unfold af at h
  split at h
  · rename_i ho
    split at h
    · cases h
    · exact ⟨ho, by omega, afc_all5 h⟩
  · cases h

set_option maxHeartbeats 1600000 in
theorem implAT (o nx md lc : Int) (a : Option Addr) (n c : Nat) (xs : List Int) (w : World) (h : NsAt w a xs) (hn : xs.length = n) (hm : n ≤ 1048576) (ht : Tab w) :
    Calls Tryd.prog 60 #[.agg #[.int .i64 o, .slice a n c, .int .i64 nx, .int .i64 md, .int .i64 lc]] w fun e w' => e = .returned (.agg #[.int .i64 (tat o xs nx md lc).1, .string ⟨(tat o xs nx md lc).2.toArray⟩]) ∧ New w w' := by
  by_cases hf : af o xs nx md lc = 0
  · obtain ⟨⟨h1, h2, h3, h4⟩, h5, h6⟩ := af_ok5 hf
    refine (implAT_ok o nx md lc a n c xs w h hn h1 h2 h3 h4 (by omega) h6 hf ht).mono ?_
    rintro e w' ⟨rfl, hn'⟩
    exact ⟨by unfold tat; rw [if_pos hf], hn'⟩
  · have hb : (af o xs nx md lc != 0) = true := by simpa using hf
    have HF : Hid (tat o xs nx md lc = (af o xs nx md lc, [])) := if_neg hf
    have hw := ((New.refl w).alloc (.cells #[.int .i64 o, .slice a n c, .int .i64 nx, .int .i64 md, .int .i64 lc] 35)).alloc (.cells #[.int .i64 0, .string ⟨#[]⟩] 32)
    have bR : Blk ((w.alloc (.cells #[.int .i64 o, .slice a n c, .int .i64 nx, .int .i64 md, .int .i64 lc] 35)).alloc (.cells #[.int .i64 0, .string ⟨#[]⟩] 32)) (w.heap.size + 1) 32 #[.int .i64 0, .string ⟨#[]⟩] := Blk.mk _ _ _ _ (by simp)
    have ge1 : w.heap.size ≤ w.heap.size + 1 := by omega
    have HN : Hid (xs.length = n) := hn
    clear hf hn
    go_enter Tryd.func60, Tryd.ntmps60
    go_wp2_with fail
    refine (implAF o nx md lc a n c xs _ (h.new hw) HN.out hm).mono ?_
    rintro e w1 ⟨rfl, hn1⟩
    obtain ⟨q, hq⟩ : ∃ q, af o xs nx md lc = q := ⟨_, rfl⟩
    have HQ : Hid (af o xs nx md lc = q) := hq
    rw [hq] at hb ⊢
    clear hq
    have hw1 := hw.trans hn1
    have c1 := (bR.new hn1).cells
    have f1 := (bR.new hn1).frees
    go_wp2
    refine bodyPost_ret (v := .agg #[.int .i64 q, .string ⟨#[]⟩]) (by simp [results, Tryd.results60, go_sem, c1]) rfl ⟨by rw [HF.out, HQ.out], ?_⟩
    simp (disch := exact ge1) only [New.set_iff, hw1]

end Go.Proofs.YtljkcijakdhdiaaDoor
