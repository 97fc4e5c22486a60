/- What is proved here: what the judging of an update answers, in the program and in its model, for every lists of at most 1048576 elements. -/
import Derived.Test.YtljkcijakdhdiaaAtFn
namespace Go.Proofs.Ytljkcijakdhdiaa
open Go.RowKit Go.Sort
set_option linter.unusedVariables false

/-- The fault of an update. -/
def uf (gs : List (Int × Int)) (has : Bool) (o : Int) (xs : List Int) (nx md lc : Int) (rs : List (Int × Int)) : Int :=
  if 8 < gs.length ∨ 8 < rs.length then 2 else if lf gs ≠ 0 then lf gs else if lf rs ≠ 0 then lf rs
  else if has ≠ decide (0 < rs.length) then 1 else if has then af o xs nx md lc else if ZaP o xs nx md lc then 0 else 1

theorem lfc_three : ∀ ps : List (Int × Int), lfc ps = 0 ∨ lfc ps = 1 ∨ lfc ps = 3
  | [] => .inl rfl
  | p :: r => by
    unfold lfc
    split
    · exact lfc_three r
    · rcases pf_three p.1 p.2 with h | h | h
      · contradiction
      · exact .inr (.inl h)
      · exact .inr (.inr h)
theorem lf_four (ps : List (Int × Int)) : lf ps = 0 ∨ lf ps = 1 ∨ lf ps = 2 ∨ lf ps = 3 := by
  unfold lf
  split
  · exact .inr (.inr (.inl rfl))
  · rcases lfc_three ps with h | h | h
    · exact .inl h
    · exact .inr (.inl h)
    · exact .inr (.inr (.inr h))

theorem uf_many {gs rs : List (Int × Int)} {has : Bool} {o nx md lc : Int} {xs : List Int} (h : 8 < gs.length ∨ 8 < rs.length) : uf gs has o xs nx md lc rs = 2 := if_pos h
theorem uf_gone {gs rs : List (Int × Int)} {has : Bool} {o nx md lc : Int} {xs : List Int} (h : ¬ (8 < gs.length ∨ 8 < rs.length)) (h1 : lf gs ≠ 0) : uf gs has o xs nx md lc rs = lf gs := by
  unfold uf; rw [if_neg h, if_pos h1]
theorem uf_reach {gs rs : List (Int × Int)} {has : Bool} {o nx md lc : Int} {xs : List Int} (h : ¬ (8 < gs.length ∨ 8 < rs.length)) (h1 : lf gs = 0) (h2 : lf rs ≠ 0) : uf gs has o xs nx md lc rs = lf rs := by
  unfold uf; rw [if_neg h, if_neg (by simpa using h1), if_pos h2]
theorem uf_rest {gs rs : List (Int × Int)} {has : Bool} {o nx md lc : Int} {xs : List Int} (h : ¬ (8 < gs.length ∨ 8 < rs.length)) (h1 : lf gs = 0) (h2 : lf rs = 0) : uf gs has o xs nx md lc rs = if has ≠ decide (0 < rs.length) then 1 else if has then af o xs nx md lc else if ZaP o xs nx md lc then 0 else 1 := by
  unfold uf; rw [if_neg h, if_neg (by simpa using h1), if_neg (by simpa using h2)]

theorem lf_is (a : Option Addr) (n c : Nat) (ps : List (Int × Int)) (r : Int) (w : World) (h : PsAt w a ps) (hn : ps.length = n) (hm : n ≤ 1048576) (hr : lf ps = r) :
    Calls Try.prog 103 #[.slice a n c] w fun e w' => e = .returned (.int .i64 r) ∧ New w w' := hr ▸ listFault_any a n c ps w h hn hm
theorem l2_is (a : Option Addr) (n c : Nat) (ps : List (Int × Int)) (r : Int) (w : World) (h : PsAt w a ps) (hn : ps.length = n) (hm : n ≤ 1048576) (hr : lf ps = r) :
    Calls Try.prog 92 #[.slice a n c] w fun e w' => e = .returned (.int .i64 r) ∧ New w w' := hr ▸ l2List_any a n c ps w h hn hm

/-- The cells of an update. -/
def upC (ga : Option Addr) (gn gc : Nat) (has : Bool) (o : Int) (a : Option Addr) (n c : Nat) (nx md lc : Int) (ra : Option Addr) (rn rc : Nat) : Array Value :=
  #[.slice ga gn gc, .bool has, .int .i64 o, .slice a n c, .int .i64 nx, .int .i64 md, .int .i64 lc, .slice ra rn rc]

theorem SaZ {o nx md lc : Int} {xs : List Int} : decide (SaP o xs nx md lc 0 [] 0 0 0) = decide (ZaP o xs nx md lc) := by
  unfold SaP ZaP
  simp only [List.length_eq_zero_iff]
  congr 1
  apply propext
  constructor
  · rintro ⟨h1, h2, h3, h4, h5⟩; exact ⟨h1, h5, h2, h3, h4⟩
  · rintro ⟨h1, h5, h2, h3, h4⟩; exact ⟨h1, h2, h3, h4, h5⟩

set_option maxHeartbeats 3200000 in
theorem implUF (ga a ra : Option Addr) (gn gc n c rn rc : Nat) (has : Bool) (o nx md lc : Int) (gs rs : List (Int × Int)) (xs : List Int) (w : World)
    (hg : PsAt w ga gs) (hx : NsAt w a xs) (hr : PsAt w ra rs) (hgn : gs.length = gn) (hn : xs.length = n) (hrn : rs.length = rn) (hm1 : gn ≤ 1048576) (hm2 : n ≤ 1048576) (hm3 : rn ≤ 1048576) :
    Calls Try.prog 90 #[.agg #[.slice ga gn gc, .bool has, .int .i64 o, .slice a n c, .int .i64 nx, .int .i64 md, .int .i64 lc, .slice ra rn rc]] w fun e w' => e = .returned (.int .i64 (uf gs has o xs nx md lc rs)) ∧ New w w' := by
  have hw := (New.refl w).alloc (.cells #[.slice ga gn gc, .bool has, .int .i64 o, .slice a n c, .int .i64 nx, .int .i64 md, .int .i64 lc, .slice ra rn rc] 49)
  have hU : Blk (w.alloc (.cells #[.slice ga gn gc, .bool has, .int .i64 o, .slice a n c, .int .i64 nx, .int .i64 md, .int .i64 lc, .slice ra rn rc] 49)) w.heap.size 49 #[.slice ga gn gc, .bool has, .int .i64 o, .slice a n c, .int .i64 nx, .int .i64 md, .int .i64 lc, .slice ra rn rc] := Blk.mk _ _ _ _ rfl
  have HG : Hid (gs.length = gn) := hgn
  have HX : Hid (xs.length = n) := hn
  have HR : Hid (rs.length = rn) := hrn
  clear hgn hn hrn
  by_cases g1 : 8 < gn
  · have hf : Hid (uf gs has o xs nx md lc rs = 2) := uf_many (.inl (by rw [HG.out]; exact g1))
    go_enter Try.func90, Try.ntmps90
    go_wp2
    go_ret
    exact ⟨ret_i64 hf.out.symm, hw⟩
  by_cases g2 : 8 < rn
  · have hf : Hid (uf gs has o xs nx md lc rs = 2) := uf_many (.inr (by rw [HR.out]; exact g2))
    go_enter Try.func90, Try.ntmps90
    go_wp2
    go_ret
    exact ⟨ret_i64 hf.out.symm, hw⟩
  have g0 : Hid (¬ (8 < gs.length ∨ 8 < rs.length)) := by unfold Hid; rw [HG.out, HR.out]; omega
  have hw2 := hw.alloc (.cells #[.slice ga gn gc, .slice ra rn rc] 44)
  have hU2 := hU.alloc (.cells #[.slice ga gn gc, .slice ra rn rc] 44)
  have hL2 : Blk ((w.alloc (.cells #[.slice ga gn gc, .bool has, .int .i64 o, .slice a n c, .int .i64 nx, .int .i64 md, .int .i64 lc, .slice ra rn rc] 49)).alloc (.cells #[.slice ga gn gc, .slice ra rn rc] 44)) (w.heap.size + 1) 44 #[.slice ga gn gc, .slice ra rn rc] := Blk.mk _ _ _ _ (by simp)
  go_enter Try.func90, Try.ntmps90
  go_wp2
  go_loopw [22] (fun i wr => ∃ k : Nat, k ≤ 2 ∧ i = .int .i64 k ∧ New w wr ∧ Blk wr w.heap.size 49 #[.slice ga gn gc, .bool has, .int .i64 o, .slice a n c, .int .i64 nx, .int .i64 md, .int .i64 lc, .slice ra rn rc] ∧ Blk wr (w.heap.size + 1) 44 #[.slice ga gn gc, .slice ra rn rc] ∧ Hid (1 ≤ k → lf gs = 0) ∧ Hid (2 ≤ k → lf rs = 0)) (fun i _ => 2 - (intOf i).toNat)
  case atStart => exact ⟨0, Nat.zero_le _, rfl, hw2, hU2, hL2, by unfold Hid; omega, by unfold Hid; omega⟩
  case round =>
    obtain ⟨k, hk, rfl, hnw, hUr, hLr, k1, k2⟩ := hrel
    have cU := hUr.cells
    have cL := hLr.cells
    rcases (show k = 0 ∨ k = 1 ∨ k = 2 by omega) with rfl | rfl | rfl
    · by_cases hz : lf gs = 0
      · have HZ : Hid (lf gs = 0) := hz
        go_wp2_with fail
        refine (lf_is ga gn gc gs 0 _ (hg.new hnw) HG.out hm1 hz).mono ?_
        rintro e w1 ⟨rfl, hn1⟩
        clear hz
        go_wp2
        go_roundw
        case rel => exact ⟨1, by omega, by go_num, hnw.trans hn1, hUr.new hn1, hLr.new hn1, fun _ => HZ.out, by unfold Hid; omega⟩
        case measure => simp [intOf]
      · have hf : Hid (uf gs has o xs nx md lc rs = lf gs) := uf_gone g0.out hz
        have hb : (lf gs != 0) = true := by simpa using hz
        go_wp2_with fail
        refine (listFault_any ga gn gc gs _ (hg.new hnw) HG.out hm1).mono ?_
        rintro e w1 ⟨rfl, hn1⟩
        generalize lf gs = q at *
        go_wp2
        go_ret
        exact ⟨ret_i64 hf.out.symm, hnw.trans hn1⟩
    · by_cases hz : lf rs = 0
      · have HZ : Hid (lf rs = 0) := hz
        go_wp2_with fail
        refine (lf_is ra rn rc rs 0 _ (hr.new hnw) HR.out hm3 hz).mono ?_
        rintro e w1 ⟨rfl, hn1⟩
        clear hz
        go_wp2
        go_roundw
        case rel => exact ⟨2, by omega, by go_num, hnw.trans hn1, hUr.new hn1, hLr.new hn1, fun _ => k1.out (by omega), fun _ => HZ.out⟩
        case measure => simp [intOf]
      · have hf : Hid (uf gs has o xs nx md lc rs = lf rs) := uf_reach g0.out (k1.out (by omega)) hz
        have hb : (lf rs != 0) = true := by simpa using hz
        go_wp2_with fail
        refine (listFault_any ra rn rc rs _ (hr.new hnw) HR.out hm3).mono ?_
        rintro e w1 ⟨rfl, hn1⟩
        generalize lf rs = q at *
        go_wp2
        go_ret
        exact ⟨ret_i64 hf.out.symm, hnw.trans hn1⟩
    · have hf : Hid (uf gs has o xs nx md lc rs = if has ≠ decide (0 < rs.length) then 1 else if has then af o xs nx md lc else if ZaP o xs nx md lc then 0 else 1) := uf_rest g0.out (k1.out (by omega)) (k2.out (by omega))
      clear k1 k2
      by_cases hr0 : rn = 0
      · subst hr0
        have hd : decide ((0 : Int) < ((0 : Nat) : Int)) = false := rfl
        cases has with
        | true =>
          have hf' : Hid (uf gs true o xs nx md lc rs = 1) := by unfold Hid; rw [hf.out, HR.out]; simp
          go_wp2
          go_ret
          exact ⟨ret_i64 hf'.out.symm, hnw⟩
        | false =>
          by_cases hz : ZaP o xs nx md lc
          · have hf' : Hid (uf gs false o xs nx md lc rs = 0) := by unfold Hid; rw [hf.out, HR.out]; simp [hz]
            have hv : decide (SaP o xs nx md lc 0 [] 0 0 0) = true := by rw [SaZ]; simp [hz]
            clear hz
            go_wp2_with fail
            refine (implSA o nx md lc 0 0 0 0 a none n 0 c 0 xs [] true _ (hx.new hnw) (NsAt.nil _ _) HX.out rfl hm2 (by omega) hv).mono ?_
            rintro e w1 ⟨rfl, hn1⟩
            go_wp2
            go_ret
            exact ⟨ret_i64 hf'.out.symm, hnw.trans hn1⟩
          · have hf' : Hid (uf gs false o xs nx md lc rs = 1) := by unfold Hid; rw [hf.out, HR.out]; simp [hz]
            have hv : decide (SaP o xs nx md lc 0 [] 0 0 0) = false := by rw [SaZ]; simp [hz]
            clear hz
            go_wp2_with fail
            refine (implSA o nx md lc 0 0 0 0 a none n 0 c 0 xs [] false _ (hx.new hnw) (NsAt.nil _ _) HX.out rfl hm2 (by omega) hv).mono ?_
            rintro e w1 ⟨rfl, hn1⟩
            go_wp2
            go_ret
            exact ⟨ret_i64 hf'.out.symm, hnw.trans hn1⟩
      · have hd : decide ((0 : Int) < (rn : Int)) = true := by simp; omega
        have hp : 0 < rn := by omega
        cases has with
        | true =>
          have hf' : Hid (uf gs true o xs nx md lc rs = af o xs nx md lc) := by unfold Hid; rw [hf.out, HR.out]; simp [hp]
          go_wp2_with fail
          refine (implAF o nx md lc a n c xs _ (hx.new hnw) HX.out hm2).mono ?_
          rintro e w1 ⟨rfl, hn1⟩
          go_wp2
          go_ret
          exact ⟨ret_i64 hf'.out.symm, hnw.trans hn1⟩
        | false =>
          have hf' : Hid (uf gs false o xs nx md lc rs = 1) := by unfold Hid; rw [hf.out, HR.out]; simp [hp]
          go_wp2
          go_ret
          exact ⟨ret_i64 hf'.out.symm, hnw⟩

set_option maxHeartbeats 3200000 in
theorem specUF (ga a ra : Option Addr) (gn gc n c rn rc : Nat) (has : Bool) (o nx md lc : Int) (gs rs : List (Int × Int)) (xs : List Int) (w : World)
    (hg : PsAt w ga gs) (hx : NsAt w a xs) (hr : PsAt w ra rs) (hgn : gs.length = gn) (hn : xs.length = n) (hrn : rs.length = rn) (hm1 : gn ≤ 1048576) (hm2 : n ≤ 1048576) (hm3 : rn ≤ 1048576) :
    Calls Try.prog 76 #[.agg #[.slice ga gn gc, .bool has, .int .i64 o, .slice a n c, .int .i64 nx, .int .i64 md, .int .i64 lc, .slice ra rn rc]] w fun e w' => e = .returned (.int .i64 (uf gs has o xs nx md lc rs)) ∧ New w w' := by
  have hw := (New.refl w).alloc (.cells #[.slice ga gn gc, .bool has, .int .i64 o, .slice a n c, .int .i64 nx, .int .i64 md, .int .i64 lc, .slice ra rn rc] 49)
  have hU : Blk (w.alloc (.cells #[.slice ga gn gc, .bool has, .int .i64 o, .slice a n c, .int .i64 nx, .int .i64 md, .int .i64 lc, .slice ra rn rc] 49)) w.heap.size 49 #[.slice ga gn gc, .bool has, .int .i64 o, .slice a n c, .int .i64 nx, .int .i64 md, .int .i64 lc, .slice ra rn rc] := Blk.mk _ _ _ _ rfl
  have HG : Hid (gs.length = gn) := hgn
  have HX : Hid (xs.length = n) := hn
  have HR : Hid (rs.length = rn) := hrn
  clear hgn hn hrn
  by_cases g1 : 8 < gn
  · have hf : Hid (uf gs has o xs nx md lc rs = 2) := uf_many (.inl (by rw [HG.out]; exact g1))
    go_enter Try.func76, Try.ntmps76
    go_wp2
    go_ret
    exact ⟨ret_i64 hf.out.symm, hw⟩
  by_cases g2 : 8 < rn
  · have hf : Hid (uf gs has o xs nx md lc rs = 2) := uf_many (.inr (by rw [HR.out]; exact g2))
    go_enter Try.func76, Try.ntmps76
    go_wp2
    go_ret
    exact ⟨ret_i64 hf.out.symm, hw⟩
  have g0 : Hid (¬ (8 < gs.length ∨ 8 < rs.length)) := by unfold Hid; rw [HG.out, HR.out]; omega
  by_cases hz : lf gs = 0
  case neg =>
    have hf : Hid (uf gs has o xs nx md lc rs = lf gs) := uf_gone g0.out hz
    have hb : (lf gs != 0) = true := by simpa using hz
    go_enter Try.func76, Try.ntmps76
    go_wp2_with fail
    refine (l2List_any ga gn gc gs _ (hg.new hw) HG.out hm1).mono ?_
    rintro e w1 ⟨rfl, hn1⟩
    generalize lf gs = q at *
    go_wp2
    go_ret
    exact ⟨ret_i64 hf.out.symm, hw.trans hn1⟩
  by_cases hzr : lf rs = 0
  case neg =>
    have hf : Hid (uf gs has o xs nx md lc rs = lf rs) := uf_reach g0.out hz hzr
    have hb : (lf rs != 0) = true := by simpa using hzr
    go_enter Try.func76, Try.ntmps76
    go_wp2_with fail
    refine (l2_is ga gn gc gs 0 _ (hg.new hw) HG.out hm1 hz).mono ?_
    rintro e w1 ⟨rfl, hn1⟩
    have cU := (hU.new hn1).cells
    clear hz
    go_wp2_with fail
    refine (l2List_any ra rn rc rs _ (hr.new (hw.trans hn1)) HR.out hm3).mono ?_
    rintro e w2 ⟨rfl, hn2⟩
    generalize lf rs = q at *
    go_wp2
    go_ret
    exact ⟨ret_i64 hf.out.symm, (hw.trans hn1).trans hn2⟩
  have hf : Hid (uf gs has o xs nx md lc rs = if has ≠ decide (0 < rs.length) then 1 else if has then af o xs nx md lc else if ZaP o xs nx md lc then 0 else 1) := uf_rest g0.out hz hzr
  go_enter Try.func76, Try.ntmps76
  go_wp2_with fail
  refine (l2_is ga gn gc gs 0 _ (hg.new hw) HG.out hm1 hz).mono ?_
  rintro e w1 ⟨rfl, hn1⟩
  have cU1 := (hU.new hn1).cells
  clear hz
  go_wp2_with fail
  refine (l2_is ra rn rc rs 0 _ (hr.new (hw.trans hn1)) HR.out hm3 hzr).mono ?_
  rintro e w2 ⟨rfl, hn2⟩
  have hnw := (hw.trans hn1).trans hn2
  have hU2 := (hU.new hn1).new hn2
  have cU := hU2.cells
  clear hzr cU1
  by_cases hr0 : rn = 0
  · subst hr0
    have hd : decide ((0 : Int) < ((0 : Nat) : Int)) = false := rfl
    have hd2 : (((0 : Nat) : Int) == 0) = true := rfl
    cases has with
    | true =>
      have hf' : Hid (uf gs true o xs nx md lc rs = 1) := by unfold Hid; rw [hf.out, HR.out]; simp
      go_wp2
      go_ret
      exact ⟨ret_i64 hf'.out.symm, hnw⟩
    | false =>
      by_cases hz : ZaP o xs nx md lc
      · have hf' : Hid (uf gs false o xs nx md lc rs = 0) := by unfold Hid; rw [hf.out, HR.out]; simp [hz]
        have hv : decide (ZaP o xs nx md lc) = true := by simp [hz]
        clear hz
        go_wp2_with fail
        refine (zero_any o nx md lc a n c xs true _ HX.out hm2 hv).mono ?_
        rintro e w3 ⟨rfl, hn3⟩
        have cU3 := (hU2.new hn3).cells
        go_wp2
        go_ret
        exact ⟨ret_i64 hf'.out.symm, hnw.trans hn3⟩
      · have hf' : Hid (uf gs false o xs nx md lc rs = 1) := by unfold Hid; rw [hf.out, HR.out]; simp [hz]
        have hv : decide (ZaP o xs nx md lc) = false := by simp [hz]
        clear hz
        go_wp2_with fail
        refine (zero_any o nx md lc a n c xs false _ HX.out hm2 hv).mono ?_
        rintro e w3 ⟨rfl, hn3⟩
        have cU3 := (hU2.new hn3).cells
        go_wp2
        go_ret
        exact ⟨ret_i64 hf'.out.symm, hnw.trans hn3⟩
  · have hd : decide ((0 : Int) < (rn : Int)) = true := by simp; omega
    have hd2 : ((rn : Int) == 0) = false := by simp; omega
    have hp : 0 < rn := by omega
    cases has with
    | true =>
      have hf' : Hid (uf gs true o xs nx md lc rs = af o xs nx md lc) := by unfold Hid; rw [hf.out, HR.out]; simp [hp]
      go_wp2_with fail
      refine (specAF o nx md lc a n c xs _ (hx.new hnw) HX.out hm2).mono ?_
      rintro e w3 ⟨rfl, hn3⟩
      go_wp2
      go_ret
      exact ⟨ret_i64 hf'.out.symm, hnw.trans hn3⟩
    | false =>
      have hf' : Hid (uf gs false o xs nx md lc rs = 1) := by unfold Hid; rw [hf.out, HR.out]; simp [hp]
      go_wp2
      go_ret
      exact ⟨ret_i64 hf'.out.symm, hnw⟩

end Go.Proofs.Ytljkcijakdhdiaa
