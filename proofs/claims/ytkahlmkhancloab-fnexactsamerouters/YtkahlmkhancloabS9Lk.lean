/- What is proved here: what the program's comparing of links answers, for lists of at most 1048576 things. -/
import Derived.Test.YtkahlmkhancloabS9Se
import Derived.Test.YtkahlmkhancloabL9Lib
import Derived.Test.YtkahlmkhancloabT8Sm
import Derived.Deep.CutRange
namespace Go.Proofs.Ytkahlmkhancloab
open Go.RowKit Go.Sort
set_option linter.unusedVariables false

set_option maxHeartbeats 3200000 in
theorem same_lk (st pe ho si sp : Int) (b t : Option Addr) (n c m d : Nat) (bs : List Int) (V : List Tv) (st' pe' ho' si' sp' : Int) (b' t' : Option Addr) (n' c' m' d' : Nat) (bs' : List Int) (U : List Tv) (v : Bool) (w : World) (hb : BsAt w b bs) (ht : TdAt w t V) (hb' : BsAt w b' bs') (ht' : TdAt w t' U) (hn : bs.length = n) (hm : V.length = m) (hn' : bs'.length = n') (hm' : U.length = m') (q1 : n ≤ 1048576) (q2 : m ≤ 1048576) (q3 : n' ≤ 1048576) (q4 : m' ≤ 1048576) (hv : v = true ↔ (Lk.mk st pe ho si sp bs (V.map Tv.r) = Lk.mk st' pe' ho' si' sp' bs' (U.map Tv.r))) :
    Calls Try.prog 43 #[.agg #[.int .i64 st, .int .i64 pe, .int .i64 ho, .int .i64 si, .int .i64 sp, .slice b n c, .slice t m d], .agg #[.int .i64 st', .int .i64 pe', .int .i64 ho', .int .i64 si', .int .i64 sp', .slice b' n' c', .slice t' m' d']] w fun e w' => e = .returned (.bool v) ∧ New w w' := by
  have N0 : New w ((w.alloc (.cells #[.int .i64 st, .int .i64 pe, .int .i64 ho, .int .i64 si, .int .i64 sp, .slice b n c, .slice t m d] 67)).alloc (.cells #[.int .i64 st', .int .i64 pe', .int .i64 ho', .int .i64 si', .int .i64 sp', .slice b' n' c', .slice t' m' d'] 67)) := ((New.refl w).alloc _).alloc _
  have bA : Blk ((w.alloc (.cells #[.int .i64 st, .int .i64 pe, .int .i64 ho, .int .i64 si, .int .i64 sp, .slice b n c, .slice t m d] 67)).alloc (.cells #[.int .i64 st', .int .i64 pe', .int .i64 ho', .int .i64 si', .int .i64 sp', .slice b' n' c', .slice t' m' d'] 67)) w.heap.size 67 #[.int .i64 st, .int .i64 pe, .int .i64 ho, .int .i64 si, .int .i64 sp, .slice b n c, .slice t m d] := (Blk.mk _ _ _ _ rfl).alloc _
  have bB : Blk ((w.alloc (.cells #[.int .i64 st, .int .i64 pe, .int .i64 ho, .int .i64 si, .int .i64 sp, .slice b n c, .slice t m d] 67)).alloc (.cells #[.int .i64 st', .int .i64 pe', .int .i64 ho', .int .i64 si', .int .i64 sp', .slice b' n' c', .slice t' m' d'] 67)) (w.heap.size + 1) 67 #[.int .i64 st', .int .i64 pe', .int .i64 ho', .int .i64 si', .int .i64 sp', .slice b' n' c', .slice t' m' d'] := Blk.mk _ _ _ _ (by simp)
  have HN : Hid (bs.length = n) := hn
  have HM : Hid (V.length = m) := hm
  have HN' : Hid (bs'.length = n') := hn'
  have HM' : Hid (U.length = m') := hm'
  have HV : Hid (v = true ↔ (Lk.mk st pe ho si sp bs (V.map Tv.r) = Lk.mk st' pe' ho' si' sp' bs' (U.map Tv.r))) := hv
  have HX : Hid (¬ (Lk.mk st pe ho si sp bs (V.map Tv.r) = Lk.mk st' pe' ho' si' sp' bs' (U.map Tv.r)) → false = v) := by
    intro e
    cases v
    · rfl
    · exact absurd (HV.out.1 rfl) e
  have cA := bA.cells
  have cB := bB.cells
  clear hn hm hn' hm' hv
  by_cases g0 : st = st'
  · subst g0
    by_cases g1 : pe = pe'
    · subst g1
      by_cases g2 : ho = ho'
      · subst g2
        by_cases g3 : si = si'
        · subst g3
          by_cases g4 : sp = sp'
          · subst g4
            by_cases g5 : bs = bs'
            · have HB : Hid (decide (bs = bs') = true) := decide_eq_true g5
              have V2 : Hid (v = true ↔ V.map Tv.r = U.map Tv.r) := by
                constructor
                · intro e; have := HV.out.1 e; simp only [Lk.mk.injEq] at this; exact this.2.2.2.2.2.2
                · intro e; exact HV.out.2 (by rw [g5, e])
              clear HX HV g5
              go_enter Try.func43, Try.ntmps43
              go_wp2_with fail
              refine (equalU8 b b' n n' c c' bs bs' true _ (hb.new N0) (hb'.new N0) HN.out HN'.out q1 q3 HB.out).mono ?_
              rintro e w1 ⟨rfl, i1⟩
              have N1 := N0.trans i1
              have bA1 := bA.new i1
              have bB1 := bB.new i1
              clear cA cB
              have cA := bA1.cells
              have cB := bB1.cells
              go_wp2_with fail
              refine (implST t t' m m' d d' V U v _ (ht.new N1) (ht'.new N1) HM.out HM'.out q2 q4 V2.out).mono ?_
              rintro e w2 ⟨rfl, i2⟩
              go_wp2
              go_ret
              exact ⟨ret_bool (by cases v <;> rfl), N1.trans i2⟩
            · have HB : Hid (decide (bs = bs') = false) := decide_eq_false g5
              have hx : Hid (false = v) := HX.out (by simp [g5])
              clear HX HV g5
              go_enter Try.func43, Try.ntmps43
              go_wp2_with fail
              refine (equalU8 b b' n n' c c' bs bs' false _ (hb.new N0) (hb'.new N0) HN.out HN'.out q1 q3 HB.out).mono ?_
              rintro e w1 ⟨rfl, i1⟩
              go_wp2
              go_ret
              exact ⟨ret_bool hx.out, N0.trans i1⟩
          · have hx : Hid (false = v) := HX.out (by simp [g4])
            have g4' : (sp == sp') = false := by simpa using g4
            clear HX HV
            go_enter Try.func43, Try.ntmps43
            go_wp2
            go_ret
            exact ⟨ret_bool hx.out, N0⟩
        · have hx : Hid (false = v) := HX.out (by simp [g3])
          have g3' : (si == si') = false := by simpa using g3
          clear HX HV
          go_enter Try.func43, Try.ntmps43
          go_wp2
          go_ret
          exact ⟨ret_bool hx.out, N0⟩
      · have hx : Hid (false = v) := HX.out (by simp [g2])
        have g2' : (ho == ho') = false := by simpa using g2
        clear HX HV
        go_enter Try.func43, Try.ntmps43
        go_wp2
        go_ret
        exact ⟨ret_bool hx.out, N0⟩
    · have hx : Hid (false = v) := HX.out (by simp [g1])
      have g1' : (pe == pe') = false := by simpa using g1
      clear HX HV
      go_enter Try.func43, Try.ntmps43
      go_wp2
      go_ret
      exact ⟨ret_bool hx.out, N0⟩
  · have hx : Hid (false = v) := HX.out (by simp [g0])
    have g0' : (st == st') = false := by simpa using g0
    clear HX HV
    go_enter Try.func43, Try.ntmps43
    go_wp2
    go_ret
    exact ⟨ret_bool hx.out, N0⟩

set_option maxHeartbeats 6400000 in
theorem equal_lk (A B : Option Addr) (n m c d0 : Nat) (V U : List Lv) (v : Bool) (w : World) (hA : LkAt w A V) (hB : LkAt w B U) (hn : V.length = n) (hm : U.length = m) (hn1 : n ≤ 1048576) (hm1 : m ≤ 1048576) (hv : v = true ↔ V.map Lv.r = U.map Lv.r) :
    Calls Try.prog 42 #[.slice A n c, .slice B m d0, .func (.func 43) #[] #[]] w fun e w' => e = .returned (.bool v) ∧ New w w' := by
  have HN : Hid (V.length = n) := hn
  have HM : Hid (U.length = m) := hm
  have HV : Hid (v = true ↔ V.map Lv.r = U.map Lv.r) := hv
  clear hn hm hv
  by_cases hnm : n = m
  · subst hnm
    have hnn : ((n : Int) != (n : Int)) = false := by simp
    go_enter Try.func42, Try.ntmps42
    go_wp2
    go_loopw [17] (fun i wr => ∃ k : Nat, k ≤ n ∧ i = .int .i64 k ∧ New w wr ∧ (V.map Lv.r).take k = (U.map Lv.r).take k) (fun i _ => n - (intOf i).toNat)
    case atStart => exact ⟨0, Nat.zero_le _, rfl, New.refl _, rfl⟩
    case round =>
      obtain ⟨k, hk, rfl, hnw, ht⟩ := hrel
      have HT : Hid _ := ht
      clear ht
      by_cases hlt : k < n
      · obtain ⟨b, off, st, pe, ho, si, sp, bs, y, c2, V1, t, d2, p, q, rfl, hp, hlen, hlen2, hns, htd, hmx, hmq, q0, q1, q2, q3, q4, q5, q6⟩ := (hA.new hnw).at k (by have := HN.out; omega)
        have HL : Hid (bs.length = p) := hlen
        have HQ : Hid (V1.length = q) := hlen2
        have HR : Hid ((V.map Lv.r)[k]? = some ⟨st, pe, ho, si, sp, bs, V1.map Tv.r⟩) := by show _ = _; rw [List.getElem?_map, hp]; rfl
        clear hp hlen hlen2 hA
        have NA1 : New wr (wr.alloc (.cells #[.int .i64 st, .int .i64 pe, .int .i64 ho, .int .i64 si, .int .i64 sp, .slice y p c2, .slice t q d2] 67)) := (New.refl wr).alloc _
        have bA : Blk (wr.alloc (.cells #[.int .i64 st, .int .i64 pe, .int .i64 ho, .int .i64 si, .int .i64 sp, .slice y p c2, .slice t q d2] 67)) wr.heap.size 67 #[.int .i64 st, .int .i64 pe, .int .i64 ho, .int .i64 si, .int .i64 sp, .slice y p c2, .slice t q d2] := Blk.mk _ _ _ _ rfl
        go_upto_region 6 with fail
        generalize (wr.alloc (.cells #[.int .i64 st, .int .i64 pe, .int .i64 ho, .int .i64 si, .int .i64 sp, .slice y p c2, .slice t q d2] 67)) = wq at *
        obtain ⟨b', off', st', pe', ho', si', sp', bs', y', c2', U1, t', d2', p', q', rfl, hp', hlen', hlen2', hns', htd', hmx', hmq', y0, y1, y2, y3, y4, y5, y6⟩ := (hB.new (hnw.trans NA1)).at k (by have := HM.out; omega)
        have HL' : Hid (bs'.length = p') := hlen'
        have HQ' : Hid (U1.length = q') := hlen2'
        have HR' : Hid ((U.map Lv.r)[k]? = some ⟨st', pe', ho', si', sp', bs', U1.map Tv.r⟩) := by show _ = _; rw [List.getElem?_map, hp']; rfl
        clear hp' hlen' hlen2' hB q0 q1 q2 q3 q4 q5 q6
        have NA2 : New wq (wq.alloc (.cells #[.int .i64 st', .int .i64 pe', .int .i64 ho', .int .i64 si', .int .i64 sp', .slice y' p' c2', .slice t' q' d2'] 67)) := (New.refl wq).alloc _
        have bB : Blk (wq.alloc (.cells #[.int .i64 st', .int .i64 pe', .int .i64 ho', .int .i64 si', .int .i64 sp', .slice y' p' c2', .slice t' q' d2'] 67)) wq.heap.size 67 #[.int .i64 st', .int .i64 pe', .int .i64 ho', .int .i64 si', .int .i64 sp', .slice y' p' c2', .slice t' q' d2'] := Blk.mk _ _ _ _ rfl
        have bA := bA.new NA2
        go_upto_region 7 with fail
        have NA : New wr (wq.alloc (.cells #[.int .i64 st', .int .i64 pe', .int .i64 ho', .int .i64 si', .int .i64 sp', .slice y' p' c2', .slice t' q' d2'] 67)) := NA1.trans NA2
        generalize (wq.alloc (.cells #[.int .i64 st', .int .i64 pe', .int .i64 ho', .int .i64 si', .int .i64 sp', .slice y' p' c2', .slice t' q' d2'] 67)) = wa at *
        have cA := bA.cells
        have cB := bB.cells
        clear y0 y1 y2 y3 y4 y5 y6
        by_cases heq : (Lk.mk st pe ho si sp bs (V1.map Tv.r)) = Lk.mk st' pe' ho' si' sp' bs' (U1.map Tv.r)
        · have HB : Hid ((Lk.mk st pe ho si sp bs (V1.map Tv.r)) = Lk.mk st' pe' ho' si' sp' bs' (U1.map Tv.r)) := heq
          have HR'' : Hid ((U.map Lv.r)[k]? = some ⟨st, pe, ho, si, sp, bs, V1.map Tv.r⟩) := by show _ = _; rw [heq]; exact HR'.out
          clear heq
          go_wp2_with fail
          refine (same_lk st pe ho si sp y t p c2 q d2 bs V1 st' pe' ho' si' sp' y' t' p' c2' q' d2' bs' U1 true _ (hns.new NA) (htd.new NA) (hns'.new NA2) (htd'.new NA2) HL.out HQ.out HL'.out HQ'.out hmx hmq hmx' hmq' ⟨fun _ => HB.out, fun _ => rfl⟩).mono ?_
          rintro e w1 ⟨rfl, hn1⟩
          go_wp2
          go_roundw
          case rel => exact ⟨k + 1, by omega, by go_num, (hnw.trans NA).trans hn1, take_next9 HT.out HR.out HR''.out⟩
          case measure => simp [intOf]; omega
        · have HB : Hid (¬ (Lk.mk st pe ho si sp bs (V1.map Tv.r)) = Lk.mk st' pe' ho' si' sp' bs' (U1.map Tv.r)) := heq
          have HF : Hid (false = v) := by
            cases v
            · rfl
            · have e := HV.out.1 rfl
              have e1 := HR.out
              rw [e, HR'.out] at e1
              exact absurd (Option.some.inj e1).symm heq
          clear heq
          go_wp2_with fail
          refine (same_lk st pe ho si sp y t p c2 q d2 bs V1 st' pe' ho' si' sp' y' t' p' c2' q' d2' bs' U1 false _ (hns.new NA) (htd.new NA) (hns'.new NA2) (htd'.new NA2) HL.out HQ.out HL'.out HQ'.out hmx hmq hmx' hmq' ⟨(fun e => by cases e), fun e => absurd e HB.out⟩).mono ?_
          rintro e w1 ⟨rfl, hn1⟩
          go_wp2
          go_ret
          exact ⟨ret_bool HF.out, (hnw.trans NA).trans hn1⟩
      · obtain rfl : k = n := by omega
        have HF : Hid (true = v) := by
          have e := HT.out
          rw [List.take_of_length_le (by simp [HN.out]), List.take_of_length_le (by simp [HM.out])] at e
          exact (HV.out.2 e).symm
        go_wp2
        go_ret
        exact ⟨ret_bool HF.out, hnw⟩
  · have hnn : ((n : Int) != (m : Int)) = true := by simp; omega
    have HF : Hid (false = v) := by
      cases v
      · rfl
      · have e := congrArg List.length (HV.out.1 rfl)
        simp [HN.out, HM.out] at e
        exact absurd e hnm
    clear hnm
    go_enter Try.func42, Try.ntmps42
    go_wp2
    go_ret
    exact ⟨ret_bool HF.out, New.refl _⟩

end Go.Proofs.Ytkahlmkhancloab
