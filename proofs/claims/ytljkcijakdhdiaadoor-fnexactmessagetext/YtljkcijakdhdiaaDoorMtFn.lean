/- What is proved here: what the words of a message and its text are, in the program, for every lists of at most 1048576 elements, where the library's table of powers of ten lies as it is laid. -/
import Derived.Test.YtljkcijakdhdiaaDoorMtLib
import Derived.Maps.AppendAt
namespace Go.Proofs.YtljkcijakdhdiaaDoor
open Go.RowKit Go.Sort
set_option linter.unusedVariables false
set_option linter.unusedSimpArgs false

/-- What the words of a message answer. -/
def WdAns (w : World) (L : List (List UInt8)) (e : Ending) (w' : World) : Prop := ∃ g m cap, e = .returned (.slice (some ⟨g, 0, none⟩) m cap) ∧ m ≤ 18 ∧ w'.ownsRow w.heap.size 9 1 (.slice (some ⟨g, 0, none⟩) m cap) m (strV L) ∧ New w w'
theorem nsAt_blk {w : World} {B : Nat} {t : TypeId} {cs : Array Value} {xs : List Int} (h : Blk w B t cs) (hc : ∀ (i : Nat) (z : Int), xs[i]? = some z → cs[i]? = some (Value.int .i64 z)) (h6 : ∀ z ∈ xs, In6 z) : NsAt w (some ⟨B, 0, none⟩) xs := fun i z hz => ⟨B, 0, rfl, by rw [Nat.zero_add, h.cells i]; exact hc i z hz, h6 z (List.mem_of_getElem? hz)⟩

set_option maxRecDepth 100000 in
set_option maxHeartbeats 1600000 in
theorem wordNum (wd : List UInt8) (a : Option Addr) (k c : Nat) (xs : List Int) (w : World) (h : NsAt w a xs) (hk : xs.length = k) (hk6 : k ≤ 6) (hall : ∀ x ∈ xs, 0 ≤ x ∧ x ≤ 65535) (ht : Tab w) :
    Calls Tryd.prog 36 #[.string ⟨wd.toArray⟩, .slice a k c] w fun e w' => ∃ g cap, e = .returned (.slice (some ⟨g, 0, none⟩) (1 + k) cap) ∧ w'.ownsRow w.heap.size 9 1 (.slice (some ⟨g, 0, none⟩) (1 + k) cap) (1 + k) (strV (wd :: xs.map dg)) ∧ New w w' := by
  obtain ⟨iS, hi, hz0, hz1, hz2⟩ := info_parts Tryd.infoStr
  have HK : Hid (xs.length = k) := hk
  have HA : Hid (∀ x ∈ xs, 0 ≤ x ∧ x ≤ 65535) := hall
  clear hk hall
  have hal := (New.refl w).alloc (.cells #[.string ⟨wd.toArray⟩] 9)
  have ho0 : (w.alloc (.cells #[.string ⟨wd.toArray⟩] 9)).ownsRow w.heap.size 9 1 (.slice (some ⟨w.heap.size, 0, none⟩) 1 1) 1 (strV [wd]) := World.ownsRow_lit (base := w.heap.size) (size := 1) (e := 9) w #[.string ⟨wd.toArray⟩] 1 (by omega) (by decide) rfl
  go_enter Tryd.func36, Tryd.ntmps36
  go_wp2
  go_loopw [5, 12] (fun s i wr => ∃ j : Nat, j ≤ k ∧ i = .int .i64 j ∧ wr.ownsRow w.heap.size 9 1 s (1 + j) (strV (wd :: (xs.take j).map dg)) ∧ New w wr) (fun _ i _ => k - (intOf i).toNat)
  case atStart => exact ⟨0, Nat.zero_le _, rfl, by simpa using ho0, hal⟩
  case round =>
    obtain ⟨j, hj, rfl, ho, hnw⟩ := hrel
    by_cases hlt : j < k
    · obtain ⟨b, off, x, ha, hz, hc0, -⟩ := (h.new hnw).at j (by rw [HK.out]; exact hlt)
      have ha' := ha
      subst ha'
      obtain ⟨q0, q1⟩ := HA.out x (List.mem_of_getElem? hz)
      have hT : Hid (strV (wd :: (xs.take (j + 1)).map dg) = strV (wd :: (xs.take j).map dg) ++ [.string ⟨(dg x).toArray⟩]) := by unfold Hid; rw [take_snoc hz, List.map_append, List.map_cons, List.map_nil, ← List.cons_append, strV_snoc]
      clear hz
      go_wp2_with fail
      refine (fmtI x _ (by omega) q1 (ht.new hnw)).mono ?_
      rintro e w1 ⟨rfl, hn1⟩
      have hw1 := hnw.trans hn1
      have hsz := hw1.size
      have ho1 := own_newS ho hn1
      have hblk := own_blkS ho1
      generalize dg x = D at *
      go_wp2_with (at_builtin; refine wpList_append_own_at _ rfl _ _ 49 rfl (w.heap.size) 9 iS (.string ⟨#[]⟩) 1 16 Tryd.underlying49 hi hz0 hz1 hz2 rfl (by decide) _ _ _ rfl (ho1.alloc _) ⟨w1.heap.size, 0, none⟩ 1 1 [.string ⟨D.toArray⟩] rfl rfl (cell_one_s _ _ _) (by simp [Value.oneCell']) (by unfold maxLen; omega) (by omega) (by simp; omega) ?_; intro v' w3 hown' hgrow hnil hloc)
      obtain ⟨g', cap', rfl⟩ := Joins.ownsRow_form hown' (by omega)
      have N3 : New w w3 := (hw1.alloc (.cells #[.string ⟨D.toArray⟩] 9)).growS hgrow hblk
      have hrow : w3.ownsRow w.heap.size 9 1 (.slice (some ⟨g', 0, none⟩) (1 + (j + 1)) cap') (1 + (j + 1)) (strV (wd :: (xs.take (j + 1)).map dg)) := by rw [hT.out]; exact hown'
      clear hown' hgrow hnil hloc ho ho1
      go_wp2
      go_roundw
      case rel => exact ⟨j + 1, by omega, by go_num, hrow, N3⟩
      case measure => simp [intOf]; omega
    · obtain rfl : j = k := by omega
      obtain ⟨g, cap, rfl⟩ := Joins.ownsRow_form ho (by omega)
      rw [List.take_of_length_le (by rw [HK.out]; omega)] at ho
      go_wp2
      go_ret
      exact ⟨g, cap, rfl, ho, hnw⟩

set_option maxRecDepth 100000 in
set_option maxHeartbeats 3200000 in
theorem updWords (ga a ra : Option Addr) (gn gc n c rn rc : Nat) (has : Bool) (o nx md lc : Int) (gs rs : List (Int × Int)) (xs : List Int) (w : World) (hg : PsAt w ga gs) (hx : NsAt w a xs) (hr : PsAt w ra rs) (hgn : gs.length = gn) (hn : xs.length = n) (hrn : rs.length = rn) (hm : n ≤ 1048576) (hf : uf gs has o xs nx md lc rs = 0) (ht : Tab w) :
    Calls Tryd.prog 37 #[.agg #[.slice ga gn gc, .bool has, .int .i64 o, .slice a n c, .int .i64 nx, .int .i64 md, .int .i64 lc, .slice ra rn rc]] w fun e w' => ∃ g m cap, e = .returned (.slice (some ⟨g, 0, none⟩) m cap) ∧ m ≤ 18 ∧ w'.ownsRow w.heap.size 9 1 (.slice (some ⟨g, 0, none⟩) m cap) m (strV (wUp gs has o xs nx md lc rs)) ∧ New w w' := by
  have hfd : ∀ (x : Int) (v : Value) (W : World), (Instr.field 32 (.agg #[.int .i64 x, v]) 1).run Tryd.prog W = .ok v W := fun _ _ _ => by kernel_rfl
  obtain ⟨iS, hi, hz0, hz1, hz2⟩ := info_parts Tryd.infoStr
  obtain ⟨u1, u2, u3, u4, u5⟩ := uf_ok5 hf
  have HG : Hid (gs.length = gn) := hgn
  have HN : Hid (xs.length = n) := hn
  have HR : Hid (rs.length = rn) := hrn
  have P1 : Hid (∀ p ∈ gs, pf p.1 p.2 = 0) := u3
  have P2 : Hid (∀ p ∈ rs, pf p.1 p.2 = 0) := u4
  have P3 : Hid (has = true → af o xs nx md lc = 0) := u5
  have g8 : gn ≤ 8 := by omega
  have r8 : rn ≤ 8 := by omega
  clear hgn hn hrn hf u1 u2 u3 u4 u5
  have hal := ((New.refl w).alloc (.cells #[.slice ga gn gc, .bool has, .int .i64 o, .slice a n c, .int .i64 nx, .int .i64 md, .int .i64 lc, .slice ra rn rc] 37)).alloc (.cells #[.string ⟨#[117, 112, 100, 97, 116, 101]⟩] 9)
  have bU0 : Blk ((w.alloc (.cells #[.slice ga gn gc, .bool has, .int .i64 o, .slice a n c, .int .i64 nx, .int .i64 md, .int .i64 lc, .slice ra rn rc] 37)).alloc (.cells #[.string ⟨#[117, 112, 100, 97, 116, 101]⟩] 9)) w.heap.size 37 #[.slice ga gn gc, .bool has, .int .i64 o, .slice a n c, .int .i64 nx, .int .i64 md, .int .i64 lc, .slice ra rn rc] := (Blk.mk _ _ _ _ rfl).alloc _
  have ho0 : ((w.alloc (.cells #[.slice ga gn gc, .bool has, .int .i64 o, .slice a n c, .int .i64 nx, .int .i64 md, .int .i64 lc, .slice ra rn rc] 37)).alloc (.cells #[.string ⟨#[117, 112, 100, 97, 116, 101]⟩] 9)).ownsRow (w.heap.size + 1) 9 1 (.slice (some ⟨w.heap.size + 1, 0, none⟩) 1 1) 1 (strV [[117, 112, 100, 97, 116, 101]]) := by
    have h1 := World.ownsRow_lit (base := w.heap.size + 1) (size := 1) (e := 9) (w.alloc (.cells #[.slice ga gn gc, .bool has, .int .i64 o, .slice a n c, .int .i64 nx, .int .i64 md, .int .i64 lc, .slice ra rn rc] 37)) #[.string ⟨#[117, 112, 100, 97, 116, 101]⟩] 1 (by simp) (by decide) rfl
    simpa [strV] using h1
  have cU0 := bU0.cells
  go_enter Tryd.func37, Tryd.ntmps37
  go_wp2
  go_loopw [3, 12] (fun s i wr => ∃ j : Nat, j ≤ gn ∧ i = .int .i64 j ∧ wr.ownsRow (w.heap.size + 1) 9 1 s (1 + j) (strV ([[117, 112, 100, 97, 116, 101]] ++ wG (gs.take j))) ∧ New w wr ∧ Blk wr w.heap.size 37 #[.slice ga gn gc, .bool has, .int .i64 o, .slice a n c, .int .i64 nx, .int .i64 md, .int .i64 lc, .slice ra rn rc]) (fun _ i _ => gn - (intOf i).toNat)
  case atStart => exact ⟨0, Nat.zero_le _, rfl, by simpa [wG] using ho0, hal, bU0⟩
  case round =>
    obtain ⟨j, hj, rfl, ho, hnw, bU⟩ := hrel
    have ltU := bU.lt
    have cU := bU.cells
    by_cases hlt : j < gn
    · obtain ⟨b, off, x, y, ha, hz, hc0, hc1⟩ := (hg.new hnw).at j (by rw [HG.out]; exact hlt)
      have hp := P1.out (x, y) (List.mem_of_getElem? hz)
      have hD := txl_len hp
      have hT : Hid (strV ([[117, 112, 100, 97, 116, 101]] ++ wG (gs.take (j + 1))) = strV ([[117, 112, 100, 97, 116, 101]] ++ wG (gs.take j)) ++ [.string (⟨#[45]⟩ ++ ⟨(txl x y).toArray⟩)]) := by
        unfold Hid
        rw [wG_snoc hz, ← List.append_assoc, strV_snoc]
        congr 2
      subst ha
      clear hz
      go_wp2_with fail
      refine (implTxl x y _ hp (ht.new (hnw.trans (New.of_below (B := wr.heap.size) (by go_grown) (Nat.le_refl _))))).mono ?_
      rintro e w1 ⟨rfl, hn1⟩
      have hn01 : New wr w1 := (New.of_below (B := wr.heap.size) (by go_grown) (Nat.le_refl _)).trans hn1
      have hw1 := hnw.trans hn01
      have hsz := hn01.size
      have ho1 := own_newS ho hn01
      have hblk := own_blkS ho1
      have bU1 := bU.new hn01
      have ss : ((⟨#[45]⟩ : ByteArray).size + (⟨(txl x y).toArray⟩ : ByteArray).size ≤ 9223372036854775807) := by simp [ByteArray.size]; omega
      generalize txl x y = D at *
      go_wp2_with (at_builtin; refine wpList_append_own_at _ rfl _ _ 49 rfl (w.heap.size + 1) 9 iS (.string ⟨#[]⟩) 1 16 Tryd.underlying49 hi hz0 hz1 hz2 rfl (by decide) _ _ _ rfl (ho1.alloc _) ⟨w1.heap.size, 0, none⟩ 1 1 [.string (⟨#[45]⟩ ++ ⟨D.toArray⟩)] rfl rfl (cell_one_s _ _ _) (by simp [Value.oneCell']) (by unfold maxLen; omega) (by omega) (by simp; omega) ?_; intro v' w3 hown' hgrow hnil hloc)
      have hal := (New.refl w1).alloc (.cells #[.string (⟨#[45]⟩ ++ ⟨D.toArray⟩)] 9)
      obtain ⟨g', cap', rfl⟩ := Joins.ownsRow_form hown' (by omega)
      have N3 : New w w3 := (hw1.trans hal).growS hgrow (fun k hk => by have := hblk k hk; omega)
      have bU3 := (bU1.new hal).growNe hgrow (own_neS ho1 bU1 (by decide))
      have hrow : w3.ownsRow (w.heap.size + 1) 9 1 (.slice (some ⟨g', 0, none⟩) (1 + (j + 1)) cap') (1 + (j + 1)) (strV ([[117, 112, 100, 97, 116, 101]] ++ wG (gs.take (j + 1)))) := by rw [hT.out]; exact hown'
      clear hown' hgrow hnil hloc ho ho1
      go_wp2
      go_roundw
      case rel => exact ⟨j + 1, by omega, by go_num, hrow, N3, bU3⟩
      case measure => simp [intOf]; omega
    · have HJ : Hid (j = gn) := by unfold Hid; omega
      rw [List.take_of_length_le (by rw [HG.out]; omega)] at ho
      obtain ⟨wA, rfl⟩ : ∃ W0, W0 = wr := ⟨_, rfl⟩
      clear bU0 ho0 cU0 hal
      go_wp2
      go_loopw [3, 27] (fun s i wr => ∃ q : Nat, q ≤ rn ∧ i = .int .i64 q ∧ wr.ownsRow (w.heap.size + 1) 9 1 s ((1 + j) + q) (strV ([[117, 112, 100, 97, 116, 101]] ++ wG gs ++ wR (rs.take q))) ∧ New w wr ∧ Blk wr w.heap.size 37 #[.slice ga gn gc, .bool has, .int .i64 o, .slice a n c, .int .i64 nx, .int .i64 md, .int .i64 lc, .slice ra rn rc]) (fun _ i _ => rn - (intOf i).toNat)
      case atStart => exact ⟨0, Nat.zero_le _, rfl, by simpa [wR] using ho, hnw, bU⟩
      case round =>
        obtain ⟨q, hq, rfl, ho, hnw, bU⟩ := hrel
        have ltU := bU.lt
        have cU := bU.cells
        by_cases hlt : q < rn
        · obtain ⟨b, off, x, y, ha, hz, hc0, hc1⟩ := (hr.new hnw).at q (by rw [HR.out]; exact hlt)
          have hp := P2.out (x, y) (List.mem_of_getElem? hz)
          have hD := txl_len hp
          have hT : Hid (strV ([[117, 112, 100, 97, 116, 101]] ++ wG gs ++ wR (rs.take (q + 1))) = strV ([[117, 112, 100, 97, 116, 101]] ++ wG gs ++ wR (rs.take q)) ++ [.string (⟨#[43]⟩ ++ ⟨(txl x y).toArray⟩)]) := by
            unfold Hid
            rw [wR_snoc hz, ← List.append_assoc, strV_snoc]
            congr 2
          subst ha
          clear hz
          go_wp2_with fail
          refine (implTxl x y _ hp (ht.new (hnw.trans (New.of_below (B := wr.heap.size) (by go_grown) (Nat.le_refl _))))).mono ?_
          rintro e w1 ⟨rfl, hn1⟩
          have hn01 : New wr w1 := (New.of_below (B := wr.heap.size) (by go_grown) (Nat.le_refl _)).trans hn1
          have hw1 := hnw.trans hn01
          have hsz := hn01.size
          have ho1 := own_newS ho hn01
          have hblk := own_blkS ho1
          have bU1 := bU.new hn01
          have ss : ((⟨#[43]⟩ : ByteArray).size + (⟨(txl x y).toArray⟩ : ByteArray).size ≤ 9223372036854775807) := by simp [ByteArray.size]; omega
          generalize txl x y = D at *
          go_wp2_with (at_builtin; refine wpList_append_own_at _ rfl _ _ 49 rfl (w.heap.size + 1) 9 iS (.string ⟨#[]⟩) 1 16 Tryd.underlying49 hi hz0 hz1 hz2 rfl (by decide) _ _ _ rfl (ho1.alloc _) ⟨w1.heap.size, 0, none⟩ 1 1 [.string (⟨#[43]⟩ ++ ⟨D.toArray⟩)] rfl rfl (cell_one_s _ _ _) (by simp [Value.oneCell']) (by unfold maxLen; omega) (by omega) (by simp; omega) ?_; intro v' w3 hown' hgrow hnil hloc)
          have hal := (New.refl w1).alloc (.cells #[.string (⟨#[43]⟩ ++ ⟨D.toArray⟩)] 9)
          obtain ⟨g', cap', rfl⟩ := Joins.ownsRow_form hown' (by omega)
          have N3 : New w w3 := (hw1.trans hal).growS hgrow (fun k hk => by have := hblk k hk; omega)
          have bU3 := (bU1.new hal).growNe hgrow (own_neS ho1 bU1 (by decide))
          have hrow : w3.ownsRow (w.heap.size + 1) 9 1 (.slice (some ⟨g', 0, none⟩) ((1 + j) + (q + 1)) cap') ((1 + j) + (q + 1)) (strV ([[117, 112, 100, 97, 116, 101]] ++ wG gs ++ wR (rs.take (q + 1)))) := by rw [hT.out]; exact hown'
          clear hown' hgrow hnil hloc ho ho1
          go_wp2
          go_roundw
          case rel => exact ⟨q + 1, by omega, by go_num, hrow, N3, bU3⟩
          case measure => simp [intOf]; omega
        · obtain rfl : q = rn := by omega
          have hcU := bU.cells
          rw [List.take_of_length_le (by rw [HR.out]; omega)] at ho
          by_cases hh : has = true
          · subst hh
            have haf := P3.out rfl
            have hDl := att_len haf
            have HT : Hid (wUp gs true o xs nx md lc rs = [[117, 112, 100, 97, 116, 101]] ++ wG gs ++ wR rs ++ [att o xs nx md lc]) := by unfold Hid wUp; simp
            go_wp2_with fail
            refine (implAT o nx md lc a n c xs _ (hx.new hnw) HN.out hm (ht.new hnw)).mono ?_
            rintro e w1 ⟨rfl, hn1⟩
            have e1 : tat o xs nx md lc = (0, att o xs nx md lc) := by unfold tat; rw [if_pos haf]
            rw [e1]
            have hw1 := hnw.trans hn1
            have hsz := hn1.size
            have ho1 := own_newS ho hn1
            have hblk := own_blkS ho1
            generalize att o xs nx md lc = D at *
            go_wp2_with (at_builtin; refine wpList_append_own_at _ rfl _ _ 49 rfl (w.heap.size + 1) 9 iS (.string ⟨#[]⟩) 1 16 Tryd.underlying49 hi hz0 hz1 hz2 rfl (by decide) _ _ _ rfl (ho1.alloc _) ⟨w1.heap.size, 0, none⟩ 1 1 [.string ⟨D.toArray⟩] rfl rfl (cell_one_s _ _ _) (by simp [Value.oneCell']) (by unfold maxLen; omega) (by omega) (by simp; omega) ?_; intro v' w3 hown' hgrow hnil hloc)
            have hal := (New.refl w1).alloc (.cells #[.string ⟨D.toArray⟩] 9)
            obtain ⟨g', cap', rfl⟩ := Joins.ownsRow_form hown' (by omega)
            have N3 : New w w3 := (hw1.trans hal).growS hgrow (fun k hk => by have := hblk k hk; omega)
            have hrow : w3.ownsRow w.heap.size 9 1 (.slice (some ⟨g', 0, none⟩) (1 + j + q + 1) cap') (1 + j + q + 1) (strV (wUp gs true o xs nx md lc rs)) := by rw [HT.out, strV_snoc]; exact Joins.ownsRow_le hown' (by omega)
            clear hown' hgrow hnil hloc ho ho1
            go_wp2
            go_ret
            exact ⟨g', _, cap', rfl, by omega, hrow, N3⟩
          · have hb : has = false := by cases has; rfl; exact absurd rfl hh
            subst hb
            obtain ⟨g, cap, rfl⟩ := Joins.ownsRow_form ho (by omega)
            have hrow : wr.ownsRow w.heap.size 9 1 (.slice (some ⟨g, 0, none⟩) (1 + j + q) cap) (1 + j + q) (strV (wUp gs false o xs nx md lc rs)) := by
              have e : wUp gs false o xs nx md lc rs = [[117, 112, 100, 97, 116, 101]] ++ wG gs ++ wR rs := by unfold wUp; simp
              rw [e]; exact Joins.ownsRow_le ho (by omega)
            go_wp2
            go_ret
            exact ⟨g, _, cap, rfl, by omega, hrow, hnw⟩

set_option maxHeartbeats 1600000 in
theorem mw_open (sa ho si : Int) (w : World) (h : Opn sa ho si) (ht : Tab w) : Calls Tryd.prog 16 #[.iface 81 (.agg #[.int .i64 sa, .int .i64 ho, .int .i64 si])] w (WdAns w [[111, 112, 101, 110], dg sa, dg ho, dg si]) := by
  obtain ⟨⟨a0, a1⟩, hh, ⟨s0, s1⟩⟩ := h
  have h0 : 0 ≤ ho ∧ ho ≤ 65535 := by rcases hh with hh | hh <;> omega
  clear hh
  have ha0 := Tryd.as_open_open
  have hw := ((New.refl w).alloc (.cells #[.int .i64 sa, .int .i64 ho, .int .i64 si] 81)).alloc (.cells #[.int .i64 sa, .int .i64 ho, .int .i64 si] 2)
  have bN : Blk ((w.alloc (.cells #[.int .i64 sa, .int .i64 ho, .int .i64 si] 81)).alloc (.cells #[.int .i64 sa, .int .i64 ho, .int .i64 si] 2)) (w.heap.size + 1) 2 #[.int .i64 sa, .int .i64 ho, .int .i64 si] := Blk.mk _ _ _ _ (by simp)
  have hN : NsAt ((w.alloc (.cells #[.int .i64 sa, .int .i64 ho, .int .i64 si] 81)).alloc (.cells #[.int .i64 sa, .int .i64 ho, .int .i64 si] 2)) (some ⟨w.heap.size + 1, 0, none⟩) [sa, ho, si] := nsAt_blk bN (by
    intro i z hz
    match i, hz with
    | 0, hz => simp at hz; subst hz; rfl
    | 1, hz => simp at hz; subst hz; rfl
    | 2, hz => simp at hz; subst hz; rfl
    | i + 3, hz => simp at hz) (by intro z hz; simp only [List.mem_cons, List.not_mem_nil, or_false] at hz; unfold In6; omega)
  go_enter Tryd.func16, Tryd.ntmps16
  go_wp2_with fail
  refine (wordNum [111, 112, 101, 110] (some ⟨w.heap.size + 1, 0, none⟩) 3 3 [sa, ho, si] _ hN rfl (by omega) (by intro z hz; simp only [List.mem_cons, List.not_mem_nil, or_false] at hz; omega) (ht.new hw)).mono ?_
  rintro e w1 ⟨g, cap, rfl, hr, hn⟩
  go_wp2
  go_ret
  exact ⟨g, 4, cap, rfl, by omega, Joins.ownsRow_le hr (by simp; omega), hw.trans hn⟩

set_option maxHeartbeats 1600000 in
theorem mw_not (wh su : Int) (w : World) (h : Nty wh su) (ht : Tab w) : Calls Tryd.prog 16 #[.iface 87 (.agg #[.int .i64 wh, .int .i64 su])] w (WdAns w [[110, 111, 116, 105, 102, 121], dg wh, dg su]) := by
  obtain ⟨⟨a0, a1⟩, ⟨s0, s1⟩⟩ := h
  have ha0 := Tryd.as_not_open
  have ha1 := Tryd.as_not_upd
  have ha2 := Tryd.as_not_not
  have hw := ((New.refl w).alloc (.cells #[.int .i64 wh, .int .i64 su] 87)).alloc (.cells #[.int .i64 wh, .int .i64 su] 2)
  have bN : Blk ((w.alloc (.cells #[.int .i64 wh, .int .i64 su] 87)).alloc (.cells #[.int .i64 wh, .int .i64 su] 2)) (w.heap.size + 1) 2 #[.int .i64 wh, .int .i64 su] := Blk.mk _ _ _ _ (by simp)
  have hN : NsAt ((w.alloc (.cells #[.int .i64 wh, .int .i64 su] 87)).alloc (.cells #[.int .i64 wh, .int .i64 su] 2)) (some ⟨w.heap.size + 1, 0, none⟩) [wh, su] := nsAt_blk bN (by
    intro i z hz
    match i, hz with
    | 0, hz => simp at hz; subst hz; rfl
    | 1, hz => simp at hz; subst hz; rfl
    | i + 2, hz => simp at hz) (by intro z hz; simp only [List.mem_cons, List.not_mem_nil, or_false] at hz; unfold In6; omega)
  go_enter Tryd.func16, Tryd.ntmps16
  go_wp2_with fail
  refine (wordNum [110, 111, 116, 105, 102, 121] (some ⟨w.heap.size + 1, 0, none⟩) 2 2 [wh, su] _ hN rfl (by omega) (by intro z hz; simp only [List.mem_cons, List.not_mem_nil, or_false] at hz; omega) (ht.new hw)).mono ?_
  rintro e w1 ⟨g, cap, rfl, hr, hn⟩
  go_wp2
  go_ret
  exact ⟨g, 3, cap, rfl, by omega, Joins.ownsRow_le hr (by simp; omega), hw.trans hn⟩

set_option maxHeartbeats 1600000 in
theorem mw_keep (w : World) : Calls Tryd.prog 16 #[.iface 89 (.agg #[])] w (WdAns w [[107, 101, 101, 112]]) := by
  have ha0 := Tryd.as_keep_open
  have ha1 := Tryd.as_keep_upd
  have ha2 := Tryd.as_keep_not
  have hr := World.ownsRow_lit (base := w.heap.size) (size := 1) (e := 9) w #[.string ⟨#[107, 101, 101, 112]⟩] 1 (by omega) (by decide) rfl
  go_enter Tryd.func16, Tryd.ntmps16
  go_wp2
  go_ret
  exact ⟨_, 1, _, rfl, by omega, hr, (New.refl w).alloc _⟩

set_option maxHeartbeats 1600000 in
theorem mw_upd (ga a ra : Option Addr) (gn gc n c rn rc : Nat) (has : Bool) (o nx md lc : Int) (gs rs : List (Int × Int)) (xs : List Int) (w : World) (hg : PsAt w ga gs) (hx : NsAt w a xs) (hr : PsAt w ra rs) (hgn : gs.length = gn) (hn : xs.length = n) (hrn : rs.length = rn) (hm : n ≤ 1048576) (hf : uf gs has o xs nx md lc rs = 0) (ht : Tab w) : Calls Tryd.prog 16 #[.iface 84 (.agg #[.slice ga gn gc, .bool has, .int .i64 o, .slice a n c, .int .i64 nx, .int .i64 md, .int .i64 lc, .slice ra rn rc])] w (WdAns w (wUp gs has o xs nx md lc rs)) := by
  have ha0 := Tryd.as_upd_open
  have ha1 := Tryd.as_upd_upd
  have hw := (New.refl w).alloc (.cells #[.slice ga gn gc, .bool has, .int .i64 o, .slice a n c, .int .i64 nx, .int .i64 md, .int .i64 lc, .slice ra rn rc] 84)
  go_enter Tryd.func16, Tryd.ntmps16
  go_wp2_with fail
  refine (updWords ga a ra gn gc n c rn rc has o nx md lc gs rs xs _ (hg.new hw) (hx.new hw) (hr.new hw) hgn hn hrn hm hf (ht.new hw)).mono ?_
  rintro e w1 ⟨g, m, cap, rfl, hm2, hrow, hn2⟩
  go_wp2
  go_ret
  exact ⟨g, m, cap, rfl, hm2, Joins.ownsRow_le hrow (by simp), hw.trans hn2⟩

end Go.Proofs.YtljkcijakdhdiaaDoor
