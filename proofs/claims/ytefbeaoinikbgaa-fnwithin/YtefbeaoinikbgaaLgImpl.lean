/- What is proved here: what the program's function on the longest prefix answers, for every list of at most 1048576 prefixes. -/
import Derived.Test.YtefbeaoinikbgaaLgSpec
import Derived.Test.YtefbeaoinikbgaaMpLib
namespace Go.Proofs.Ytefbeaoinikbgaa
open Go.RowKit Go.Sort Go.Maps

/-- f tells of each prefix its first place from j on. -/
def FP (ps : List (Int × Int)) (j : Nat) (f : Int → Int → Option Int) : Prop :=
  ∀ a l, (f a l = none ∧ ∀ i : Nat, j ≤ i → ps[i]? ≠ some (a, l)) ∨ ∃ i : Nat, f a l = some (i : Int) ∧ j ≤ i ∧ ps[i]? = some (a, l) ∧ ∀ i' : Nat, j ≤ i' → i' < i → ps[i']? ≠ some (a, l)

theorem FP.start (ps : List (Int × Int)) : FP ps ps.length (fun _ _ => none) := fun a l => .inl ⟨rfl, fun i hi h => by rw [List.getElem?_eq_none hi] at h; cases h⟩
theorem FP.step {ps : List (Int × Int)} {j : Nat} {f : Int → Int → Option Int} (h : FP ps (j + 1) f) {x y : Int} (hp : ps[j]? = some (x, y)) : FP ps j (upd f x y j) := by
  intro a l
  by_cases e : a = x ∧ l = y
  · obtain ⟨rfl, rfl⟩ := e
    exact .inr ⟨j, by simp [upd], Nat.le_refl _, hp, fun i' h1 h2 => by omega⟩
  · have e' : ps[j]? ≠ some (a, l) := by rw [hp]; intro h'; simp only [Option.some.injEq, Prod.mk.injEq] at h'; exact e ⟨h'.1.symm, h'.2.symm⟩
    rcases h a l with ⟨h0, hno⟩ | ⟨i, h0, hi, hpi, hno⟩
    · refine .inl ⟨by simp [upd, e, h0], fun i hi => ?_⟩
      rcases Nat.lt_or_ge j i with hlt | hge
      · exact hno i hlt
      · obtain rfl : i = j := by omega
        exact e'
    · refine .inr ⟨i, by simp [upd, e, h0], by omega, hpi, fun i' h1 h2 => ?_⟩
      rcases Nat.lt_or_ge j i' with hlt | hge
      · exact hno i' hlt h2
      · obtain rfl : i' = j := by omega
        exact e'

theorem Turn.of_map {w w' : World} {g : Nat} (h : w.grownBy w' (some g)) : Turn (fun k => k = g) w w' := Turn.of_grown h

set_option maxHeartbeats 1600000 in
theorem firstPlaces_any (a : Option Addr) (n c : Nat) (ps : List (Int × Int)) (w : World) (h : PsAt w a ps) (hn : ps.length = n) (hm : n ≤ 1048576) :
    Calls Try.prog 28 #[.slice a n c] w fun e w' => ∃ B f, e = .returned (.map (some B)) ∧ w.heap.size ≤ B ∧ MapP w' B n f ∧ FP ps 0 f ∧ New w w' := by
  have hmm := run_makeHint
  have HN : Hid (ps.length = n) := hn
  have hst : Hid (FP ps n (fun _ _ => none)) := hn ▸ FP.start ps
  clear hn
  go_enter Try.func28, Try.ntmps28
  go_wp2
  go_loopw [4] (fun i wr => ∃ (j : Nat) (f : Int → Int → Option Int), j ≤ n ∧ i = .int .i64 ((j : Int) - 1) ∧ New w wr ∧ MapP wr w.heap.size (n - j) f ∧ FP ps j f) (fun i _ => (intOf i + 1).toNat)
  case atStart => exact ⟨n, _, Nat.le_refl _, by go_num, (New.refl _).alloc _, by rw [Nat.sub_self]; exact MapP.made w, hst.out⟩
  case round =>
    obtain ⟨j, f, hj, rfl, hnw, hM, hF⟩ := hrel
    cases j with
    | zero =>
      go_wp2
      go_ret
      exact ⟨_, f, rfl, Nat.le_refl _, hM, hF, hnw⟩
    | succ j =>
      have hji : (((j + 1 : Nat) : Int) - 1) = (j : Int) := by omega
      have hlt : j < n := by omega
      obtain ⟨g1, o1, x, y, rfl, hp1, x0, x1⟩ := (h.new hnw).at j (by rw [HN.out]; omega)
      obtain ⟨b0, b1⟩ := h.bd (x, y) (List.mem_of_getElem? hp1)
      have hkey := key_is x y b0 b1
      have hF' := hF.step hp1
      obtain ⟨D, hown, hfD⟩ := hM
      have hput := put_told hown.isMap hfD x y j b0 b1
      have hwf : (Lit.int .i64 (j : Int)).wf = true := In6.wf ⟨by omega, by omega⟩
      clear hF hp1 hfD
      rw [hji]
      go_wp2_with (at_mapUpdate; refine wpList_mapUpdate_own _ rfl _ _ _ 53 rfl 25 2 Try.keyed Try.underlying53 _ w.heap.size (n - (j + 1)) D rfl hown (by unfold maxLen; omega) _ _ _ rfl rfl hkey _ [] (plainElem_int Try.underlying2 hwf) ?_)
      intro w1 hown1 hgrow1
      go_wp2
      go_roundw
      case rel => exact ⟨j, _, by omega, by go_num, hnw.before (Turn.of_grown hgrow1) (fun i hi e => by omega), ⟨_, by rw [show n - j = n - (j + 1) + 1 by omega]; exact hown1, hput⟩, hF'⟩
      case measure => simp [intOf]

/-- The number under the mask. -/
def fb (x l : Int) : Int := x - x % szp l

theorem fb_bd {x l : Int} (hx : 0 ≤ x) (hx1 : x ≤ 65535) (h0 : 0 ≤ l) (h1 : l ≤ 16) : In6 (fb x l) := by
  have hb := szp_bd h0 h1
  have hm0 := Int.emod_nonneg x (show szp l ≠ 0 by omega)
  have hm2 := Int.emod_lt_of_pos x (show 0 < szp l by omega)
  unfold fb In6
  omega

/-- What the program's loop has found of the lengths above L. -/
def NotAbove (f : Int → Int → Option Int) (x L : Int) : Prop := ∀ l, L < l → l ≤ 16 → f (fb x l) l = none

theorem FP_best {ps : List (Int × Int)} {f : Int → Int → Option Int} (hF : FP ps 0 f) (hall : ∀ p ∈ ps, pf p.1 p.2 = 0) {x L : Int} (hL : L ≤ 16) (hN : NotAbove f x L) {v : Int} (hv : f (fb x L) L = some v) : ∃ b : Nat, v = b ∧ BestTo ps x ps.length b := by
  rcases hF (fb x L) L with ⟨h0, _⟩ | ⟨i, h0, _, hpi, hno⟩
  · rw [h0] at hv; cases hv
  · rw [h0] at hv
    obtain rfl := Option.some.inj hv
    refine ⟨i, rfl, (List.getElem?_eq_some_iff.1 hpi).1, _, hpi, rfl, ?_⟩
    intro j p hj hp hsp
    obtain ⟨a, l⟩ := p
    have hl := pf_ok (hall (a, l) (List.mem_of_getElem? hp))
    have ha : a = fb x l := hsp.symm
    subst ha
    have hle : l ≤ L := by
      rcases Int.lt_or_le L l with hlt | hle
      · have h1 := hN l hlt hl.2.2.2.1
        rcases hF (fb x l) l with ⟨_, h3⟩ | ⟨i', h3, _⟩
        · exact absurd hp (h3 j (Nat.zero_le _))
        · rw [h3] at h1; cases h1
      · exact hle
    refine ⟨hle, fun hji => ?_⟩
    rcases Int.lt_or_le l L with hlt | hge
    · exact hlt
    · obtain rfl : l = L := Int.le_antisymm hle hge
      exact absurd hp (hno j (Nat.zero_le _) hji)

theorem FP_none {ps : List (Int × Int)} {f : Int → Int → Option Int} (hF : FP ps 0 f) (hall : ∀ p ∈ ps, pf p.1 p.2 = 0) {x : Int} (hN : NotAbove f x (-1)) : NoneTo ps x ps.length := by
  intro j p hj hp hsp
  obtain ⟨a, l⟩ := p
  have hl := pf_ok (hall (a, l) (List.mem_of_getElem? hp))
  have ha : a = fb x l := hsp.symm
  subst ha
  have h1 := hN l (by omega) hl.2.2.2.1
  rcases hF (fb x l) l with ⟨_, h3⟩ | ⟨i', h3, _⟩
  · exact absurd hp (h3 j (Nat.zero_le _))
  · rw [h3] at h1; cases h1

set_option maxHeartbeats 1600000 in
theorem implLg (a : Option Addr) (n c : Nat) (ps : List (Int × Int)) (x : Int) (w : World) (h : PsAt w a ps) (hn : ps.length = n) (hm : n ≤ 1048576) :
    Calls Try.prog 11 #[.slice a n c, .int .i64 x] w fun e w' => ∃ cd v, e = .returned (.agg #[.int .i64 cd, .int .i64 v]) ∧ Lg ps x cd v ∧ New w w' := by
  have hw := (New.refl w).alloc (.cells #[.int .i64 0, .int .i64 0] 35)
  have hB : Blk (w.alloc (.cells #[.int .i64 0, .int .i64 0] 35)) w.heap.size 35 #[.int .i64 0, .int .i64 0] := Blk.mk _ _ _ _ rfl
  have hBge := Nat.le_refl w.heap.size
  by_cases hc : lf ps = 0
  · by_cases hx : x < 0 ∨ 65535 < x
    · have hf : Hid (Lg ps x 3 0) := .inr (.inl ⟨hc, hx, rfl, rfl⟩)
      go_enter Try.func11, Try.ntmps11
      go_wp2_with fail
      refine (listFault_any a n c ps _ (h.new hw) hn hm).mono ?_
      rintro e w1 ⟨rfl, hn1⟩
      go_wp2_with fail
      refine (isAddr_no _ _ hx).mono ?_
      rintro e w2 ⟨rfl, rfl⟩
      have hcs := (hB.new hn1).cells
      have hfs := (hB.new hn1).frees
      go_wp2
      refine bodyPost_ret (v := .agg #[.int .i64 3, .int .i64 0]) (by simp [results, Try.results11, go_sem, hcs]) rfl ⟨3, 0, rfl, hf.out, ?_⟩
      exact ((hw.trans hn1).setCell hBge _).setCell hBge _
    · have hx0 : 0 ≤ x := by omega
      have hx1 : x ≤ 65535 := by omega
      obtain ⟨h200, hall⟩ := lf_ok hc
      have HN : Hid (ps.length = n) := hn
      clear hn
      go_enter Try.func11, Try.ntmps11
      go_wp2_with fail
      refine (listFault_any a n c ps _ (h.new hw) HN.out hm).mono ?_
      rintro e w1 ⟨rfl, hn1⟩
      go_wp2_with fail
      refine (isAddr_yes _ _ ⟨hx0, hx1⟩).mono ?_
      rintro e w2 ⟨rfl, rfl⟩
      have hB1 := hB.new hn1
      have hw1 := hw.trans hn1
      go_wp2_with fail
      refine (firstPlaces_any a n c ps _ (h.new hw1) HN.out hm).mono ?_
      rintro e w3 ⟨M, f, rfl, hMge, hM, hF, hn3⟩
      have hB3 := hB1.new hn3
      have hw3 := hw1.trans hn3
      have HF : Hid (FP ps 0 f) := hF
      have HA : Hid (∀ p ∈ ps, pf p.1 p.2 = 0) := hall
      clear hF hall
      go_wp2
      go_loopw [7] (fun i wr => ∃ L : Int, -1 ≤ L ∧ L ≤ 16 ∧ i = .int .i64 L ∧ New w wr ∧ Blk wr w.heap.size 35 #[.int .i64 0, .int .i64 0] ∧ MapP wr M n f ∧ NotAbove f x L) (fun i _ => (intOf i + 1).toNat)
      case atStart => exact ⟨16, by omega, by omega, rfl, hw3, hB3, hM, fun l h1 h2 => by omega⟩
      case round =>
        obtain ⟨L, hL0, hL1, rfl, hnw, hBr, hMr, hNA⟩ := hrel
        have hcs := hBr.cells
        have hfs := hBr.frees
        by_cases hL : 0 ≤ L
        · have hk6 := fb_bd hx0 hx1 hL hL1
          have hl6 : In6 L := ⟨by omega, by omega⟩
          have hkey := key_is (fb x L) L hk6 hl6
          obtain ⟨D, hown, hfD⟩ := hMr
          obtain ⟨q1, q2⟩ := hfD (fb x L) L hk6 hl6
          have HM : Hid (MapP wr M n f) := ⟨D, hown, hfD⟩
          clear hfD
          cases hv : f (fb x L) L with
          | none =>
            rw [hv] at q1 q2
            have q1' : Maps.has D (klp (fb x L) L) = false := q1
            have hNA' : Hid (NotAbove f x (L - 1)) := by
              intro l h1 h2
              rcases Int.lt_or_le L l with hlt | hge
              · exact hNA l hlt h2
              · obtain rfl : l = L := by omega
                exact hv
            clear hNA hv q1
            go_wp2_with fail
            refine (firstBits_any x L _ hx0 hx1 hL hL1).mono ?_
            rintro e w4 ⟨rfl, rfl⟩
            go_wp2_with (at_lookup; refine wpList_lookup_own_ok_int _ rfl _ _ 53 rfl 25 2 .i64 Try.keyed Try.underlying53 Try.underlying2 (Try.zeroI _) M n D rfl hown _ _ rfl hkey ?_; intro cc hat hwc)
            go_roundw
            case rel => exact ⟨L - 1, by omega, by omega, by go_num, hnw, hBr, HM.out, hNA'.out⟩
            case measure => simp [intOf]; omega
          | some v =>
            rw [hv] at q1 q2
            have q1' : Maps.has D (klp (fb x L) L) = true := q1
            have q2' : Hid (D.atKey (klp (fb x L) L) (.lit (.int .i64 0)) = .lit (.int .i64 v)) := q2
            obtain ⟨b, hvb, hbt⟩ := FP_best HF.out HA.out hL1 hNA hv
            have hf : Hid (Lg ps x 0 v) := .inr (.inr ⟨hc, ⟨hx0, hx1⟩, .inr ⟨b, hvb, rfl, hbt⟩⟩)
            clear hNA hv q1 q2 hvb hbt
            go_wp2_with fail
            refine (firstBits_any x L _ hx0 hx1 hL hL1).mono ?_
            rintro e w4 ⟨rfl, rfl⟩
            go_wp2_with (at_lookup; refine wpList_lookup_own_ok_int _ rfl _ _ 53 rfl 25 2 .i64 Try.keyed Try.underlying53 Try.underlying2 (Try.zeroI _) M n D rfl hown _ _ rfl hkey ?_; intro cc hat hwc)
            obtain rfl : cc = v := by have := hat.symm.trans q2'.out; simpa using this
            refine bodyPost_ret (v := .agg #[.int .i64 0, .int .i64 cc]) (by simp [results, Try.results11, go_sem, hcs]) rfl ⟨0, cc, rfl, hf.out, ?_⟩
            exact (hnw.setCell hBge _).setCell hBge _
        · obtain rfl : L = -1 := by omega
          have hf : Hid (Lg ps x 4 0) := .inr (.inr ⟨hc, ⟨hx0, hx1⟩, .inl ⟨FP_none HF.out HA.out hNA, rfl, rfl⟩⟩)
          clear hNA
          go_wp2
          refine bodyPost_ret (v := .agg #[.int .i64 4, .int .i64 0]) (by simp [results, Try.results11, go_sem, hcs]) rfl ⟨4, 0, rfl, hf.out, ?_⟩
          exact (hnw.setCell hBge _).setCell hBge _
  · have hf : Hid (Lg ps x (lf ps) 0) := .inl ⟨hc, rfl, rfl⟩
    go_enter Try.func11, Try.ntmps11
    go_wp2_with fail
    refine (listFault_any a n c ps _ (h.new hw) hn hm).mono ?_
    rintro e w1 ⟨rfl, hn1⟩
    have hcs := (hB.new hn1).cells
    have hfs := (hB.new hn1).frees
    go_wp2
    refine bodyPost_ret (v := .agg #[.int .i64 (lf ps), .int .i64 0]) (by simp [results, Try.results11, go_sem, hcs]) rfl ⟨lf ps, 0, rfl, hf.out, ?_⟩
    exact ((hw.trans hn1).setCell hBge _).setCell hBge _

end Go.Proofs.Ytefbeaoinikbgaa
