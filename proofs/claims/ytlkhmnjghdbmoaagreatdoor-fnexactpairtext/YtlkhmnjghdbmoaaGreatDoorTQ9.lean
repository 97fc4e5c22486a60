/- What is proved here: the fault of a pair as lists. No condition. What is proved here: what the program's judging of a pair answers, for every pair of at most 1048576 rules, nodes, wires, mails, entries and bytes. What is proved here: what the model's judging of a pair answers, for every pair of at most 1048576 rules, nodes, wires, mails, entries and bytes. -/
import Derived.Test.YtlkhmnjghdbmoaaGreatDoorTQ8
import Derived.Test.YtlkhmnjghdbmoaaGreatDoorK12Ng
import Derived.Test.YtlkhmnjghdbmoaaGreatDoorTQ4
namespace Go.Proofs.YtlkhmnjghdbmoaaGreatDoor
open Go.RowKit Go.Sort Go.Deep
set_option linter.unusedVariables false
set_option linter.unusedSimpArgs false

/-- The first that is not 0. -/
def ffF {α : Type} (g : α → Int) : List α → Int
  | [] => 0
  | x :: L => if g x ≠ 0 then g x else ffF g L
theorem ffF_at {α : Type} {g : α → Int} {L : List α} {k : Nat} {x : α} (h : L[k]? = some x) : ffF g (L.drop k) = if g x ≠ 0 then g x else ffF g (L.drop (k + 1)) := by
  obtain ⟨hk, e⟩ := List.getElem?_eq_some_iff.1 h
  rw [List.drop_eq_getElem_cons hk, ffF, e]
theorem ffF_end {α : Type} {g : α → Int} {L : List α} {k : Nat} (h : L.length ≤ k) : ffF g (L.drop k) = 0 := by
  rw [List.drop_eq_nil_of_le h]; rfl
/-- The fault of a node at a place. -/
def n1F (k : Int) (x : Int × Bool × Int × Int × Int × Int × Int × Int × List Ek) : Int :=
  match x with
  | (id, up, ro, ep, su, ma, ot, co, L) => if nF id up ro ep su ma ot co L.length L ≠ 0 then nF id up ro ep su ma ot co L.length L else if id ≠ k then 1 else 0
def ndF (L : List (Int × Bool × Int × Int × Int × Int × Int × Int × List Ek)) : Int :=
  match L with
  | [x, y] => if n1F 0 x ≠ 0 then n1F 0 x else n1F 1 y
  | _ => 0
def w1F (x : Int × Int × List Int × List Int) : Int := match x with | (E, T, xs, ys) => wF E T xs.length ys.length
def m1F (x : Ml) : Int := if ¬ (x.tgt = 0 ∨ x.tgt = 1) then 1 else mlF x.tgt x.kd x.tgt x.ep x.at1 x.pr x.has x.e.ep x.e.ki x.e.pe x.e.xs.length
def e1F (x : Ek) : Int := enF x.ep x.ki x.pe x.xs.length
def msF (L : List Ml) : Int := if 40 < L.length then 2 else ffF m1F L
def seF (L : List Ek) : Int := if 100 < L.length then 2 else ffF e1F L
theorem pick1 {f r v : Int} (h : (if f ≠ 0 then f else r) = v) : (f ≠ 0 → f = v) ∧ (f = 0 → r = v) := by
  refine ⟨fun a => ?_, fun a => ?_⟩ <;> simp_all
theorem pick2 {f id k v : Int} (h : (if f ≠ 0 then f else if id ≠ k then 1 else 0) = v) : (f ≠ 0 → f = v) ∧ (f = 0 → id ≠ k → 1 = v) ∧ (f = 0 → id = k → 0 = v) := by
  refine ⟨fun a => ?_, fun a b => ?_, fun a b => ?_⟩ <;> simp_all
theorem pick3 {f id k r v : Int} (h : (if (if f ≠ 0 then f else if id ≠ k then 1 else 0) ≠ 0 then (if f ≠ 0 then f else if id ≠ k then 1 else 0) else r) = v) : (f ≠ 0 → f = v) ∧ (f = 0 → id ≠ k → 1 = v) ∧ (f = 0 → id = k → r = v) := by
  refine ⟨fun a => ?_, fun a b => ?_, fun a b => ?_⟩ <;> simp_all
/-- What is asked of mails and of what is sealed. -/
def q1F (a b : Int) : Int := if a ≠ 0 then a else b
theorem pickq {a b v : Int} (h : q1F a b = v) : (a ≠ 0 → a = v) ∧ (a = 0 → b = v) := pick1 h
/-- The fault of a pair. -/
def pF (sa si ho nx : Int) (r1 r2 : List Ru) (N : List (Int × Bool × Int × Int × Int × Int × Int × Int × List Ek)) (W : List (Int × Int × List Int × List Int)) (M : List Ml) (S : List Ek) : Int :=
  q1F (stF sa si ho nx r1 r2) (if ¬ (N.length = 2 ∧ W.length = 3) then 1 else q1F (ndF N) (q1F (ffF w1F W) (q1F (msF M) (seF S))))

end Go.Proofs.YtlkhmnjghdbmoaaGreatDoor

namespace Go.Proofs.YtlkhmnjghdbmoaaGreatDoor
open Go.RowKit Go.Sort Go.Deep
set_option linter.unusedVariables false
set_option linter.unusedSimpArgs false

/-- The fault of the nodes from a place on. -/
def nkF : Int → List (Int × Bool × Int × Int × Int × Int × Int × Int × List Ek) → Int
  | _, [] => 0
  | k, x :: L => if n1F k x ≠ 0 then n1F k x else nkF (k + 1) L
theorem nkF_two {L : List (Int × Bool × Int × Int × Int × Int × Int × Int × List Ek)} (h : L.length = 2) : nkF 0 L = ndF L := by
  match L, h with
  | [x, y], _ =>
    simp only [nkF, ndF]
    by_cases h1 : n1F 0 x = 0
    · simp only [h1]
      by_cases h2 : n1F 1 y = 0
      · simp [h2]
      · simp [h2]
    · simp [h1]
theorem nkF_at {L : List (Int × Bool × Int × Int × Int × Int × Int × Int × List Ek)} {k : Nat} {x : Int × Bool × Int × Int × Int × Int × Int × Int × List Ek} (h : L[k]? = some x) : nkF k (L.drop k) = if n1F k x ≠ 0 then n1F k x else nkF ((k + 1 : Nat) : Int) (L.drop (k + 1)) := by
  obtain ⟨hk, e⟩ := List.getElem?_eq_some_iff.1 h
  rw [List.drop_eq_getElem_cons hk, nkF, e]
  rfl

set_option maxHeartbeats 3200000 in
theorem nodesI (sa si ho nx : Int) (a1 a2 aN aW aM aS : Option Addr) (n1 c1 n2 c2 nN cN nW cW nM cM nS cS : Nat) (r1 r2 : List Ru) (B : Nat) (V : List NdV) (w : World) (hb : Blk w B 46 #[.int .i64 sa, .int .i64 si, .int .i64 ho, .int .i64 nx, .slice a1 n1 c1, .slice a2 n2 c2, .slice aN nN cN, .slice aW nW cW, .slice aM nM cM, .slice aS nS cS]) (h : NdAt w aN V) (hn : V.length = nN) (hm : nN ≤ 1048576) (v : Int) (hv : nkF 0 (V.map NdV.r) = v) :
    Calls Tryz.prog 50 #[.pointer (some ⟨B, 0, none⟩)] w fun e w' => e = .returned (.int .i64 v) ∧ New w w' := by
  have HN : Hid (V.length = nN) := hn
  have HF : Hid (nkF ((0 : Nat) : Int) ((V.map NdV.r).drop 0) = v) := hv
  have cB := hb.cells
  clear hn hv
  go_enter Tryz.func50, Tryz.ntmps50
  go_wp2
  go_loopw [11] (fun i wr => ∃ (k : Nat), k ≤ nN ∧ i = .int .i64 k ∧ New w wr ∧ Hid (nkF (k : Int) ((V.map NdV.r).drop k) = v)) (fun i _ => nN - (intOf i).toNat)
  case atStart => exact ⟨0, Nat.zero_le _, rfl, New.refl _, HF⟩
  case round =>
    obtain ⟨k, hk, rfl, hnw, hL⟩ := hrel
    by_cases hlt : k < nN
    · obtain ⟨g, id, up, ro, ep, su, ma, ot, co, x, m, d, xs, hg, hv, hl, hx, hmx, q0, q1, q2, q3, q4, q5, q6, q7, q8⟩ := (h.new hnw).at k (by have := HN.out; omega)
      subst hg
      have HD : Hid ((if (if nF id up ro ep su ma ot co m (xs.map EkV.r) ≠ 0 then nF id up ro ep su ma ot co m (xs.map EkV.r) else if id ≠ (k : Int) then 1 else 0) ≠ 0 then (if nF id up ro ep su ma ot co m (xs.map EkV.r) ≠ 0 then nF id up ro ep su ma ot co m (xs.map EkV.r) else if id ≠ (k : Int) then 1 else 0) else nkF ((k + 1 : Nat) : Int) ((V.map NdV.r).drop (k + 1))) = v) := by
        unfold Hid
        have h1 := nkF_at (x := (id, up, ro, ep, su, ma, ot, co, xs.map EkV.r)) (L := (V.map NdV.r)) (k := k) (by rw [List.getElem?_map, hv]; rfl)
        have h2 := hL.out
        rw [h1] at h2
        simp only [n1F, List.length_map, hl] at h2
        exact h2
      have HL : Hid (xs.length = m) := hl
      have hm1 : m ≤ 1048576 := by have := totK_len xs; omega
      have hw1 := hnw.alloc (.cells #[.int .i64 id, .bool up, .int .i64 ro, .int .i64 ep, .slice x m d, .int .i64 su, .int .i64 ma, .int .i64 ot, .int .i64 co] 107)
      have bx := Blk.mk wr wr.heap.size 107 #[.int .i64 id, .bool up, .int .i64 ro, .int .i64 ep, .slice x m d, .int .i64 su, .int .i64 ma, .int .i64 ot, .int .i64 co] rfl
      clear hv hl h hL cB hmx
      go_wp2_with fail
      refine (implNF id up ro ep su ma ot co x m d xs _ (hx.new ((New.refl _).alloc _)) HL.out (by omega)).mono ?_
      rintro e w2 ⟨rfl, hn2⟩
      have hw2 := hw1.trans hn2
      have cx := (bx.new hn2).cells
      clear q0 q1 q2 q3 q4 q5 q6 q7 q8 bx hx
      generalize nF id up ro ep su ma ot co m (xs.map EkV.r) = f at *
      by_cases hf : f = 0
      · by_cases hi : id = (k : Int)
        · have HR : Hid (nkF ((k + 1 : Nat) : Int) ((V.map NdV.r).drop (k + 1)) = v) := (pick3 HD.out).2.2 hf hi
          clear HD
          subst hf
          subst hi
          have hne : ((k : Int) != (k : Int)) = false := by simp
          go_wp2
          go_roundw
          case rel => exact ⟨k + 1, by omega, by go_num, hw2, HR⟩
          case measure => simp [intOf]; omega
        · obtain rfl : (1 : Int) = v := (pick3 HD.out).2.1 hf hi
          clear HD
          subst hf
          have hne : (id != (k : Int)) = true := by simpa using hi
          go_wp2
          go_ret
          exact ⟨rfl, hw2⟩
      · obtain rfl : f = v := (pick3 HD.out).1 hf
        go_wp2
        go_ret
        exact ⟨rfl, hw2⟩
    · have HR : Hid ((0 : Int) = v) := by unfold Hid; rw [← hL.out, List.drop_eq_nil_of_le (by have := HN.out; simp; omega)]; rfl
      obtain rfl := HR.out
      go_wp2
      go_ret
      exact ⟨rfl, hnw⟩

set_option maxHeartbeats 3200000 in
theorem mailsI (sa si ho nx : Int) (a1 a2 aN aW aM aS : Option Addr) (n1 c1 n2 c2 nN cN nW cW nM cM nS cS : Nat) (r1 r2 : List Ru) (B : Nat) (V : List MlV) (w : World) (hb : Blk w B 46 #[.int .i64 sa, .int .i64 si, .int .i64 ho, .int .i64 nx, .slice a1 n1 c1, .slice a2 n2 c2, .slice aN nN cN, .slice aW nW cW, .slice aM nM cM, .slice aS nS cS]) (h : MqAt w aM V) (hn : V.length = nM) (hm : nM ≤ 1048576) (v : Int) (hv : msF (V.map MlV.r) = v) :
    Calls Tryz.prog 52 #[.pointer (some ⟨B, 0, none⟩)] w fun e w' => e = .returned (.int .i64 v) ∧ New w w' := by
  have HN : Hid (V.length = nM) := hn
  have HV : Hid ((if 40 < nM then 2 else ffF m1F (V.map MlV.r)) = v) := by unfold Hid; rw [← hv, ← hn]; simp [msF]
  have cB := hb.cells
  clear hn hv
  by_cases hbig : 40 < nM
  · obtain rfl : (2 : Int) = v := by have := HV.out; rw [if_pos hbig] at this; exact this
    go_enter Tryz.func52, Tryz.ntmps52
    go_wp2
    go_ret
    exact ⟨rfl, New.refl _⟩
  have HF : Hid (ffF m1F ((V.map MlV.r).drop 0) = v) := by unfold Hid; have := HV.out; rw [if_neg hbig] at this; simpa using this
  clear HV
  go_enter Tryz.func52, Tryz.ntmps52
  go_wp2
  go_loopw [17] (fun i wr => ∃ (k : Nat), k ≤ nM ∧ i = .int .i64 k ∧ New w wr ∧ Hid (ffF m1F ((V.map MlV.r).drop k) = v)) (fun i _ => nM - (intOf i).toNat)
  case atStart => exact ⟨0, Nat.zero_le _, rfl, New.refl _, HF⟩
  case round =>
    obtain ⟨k, hk, rfl, hnw, hL⟩ := hrel
    by_cases hlt : k < nM
    · obtain ⟨g, kd, tgt, me, at1, pr, has, ee, ki, pe, x, m, d, xs, hg, hv, hl, hx, hmx, q0, q1, q2, q3, q4, q5, q6, q7, q8, q9⟩ := (h.new hnw).at k (by have := HN.out; omega)
      subst hg
      have HD : Hid ((if (if ¬ (tgt = 0 ∨ tgt = 1) then 1 else mlF tgt kd tgt me at1 pr has ee ki pe m) ≠ 0 then (if ¬ (tgt = 0 ∨ tgt = 1) then 1 else mlF tgt kd tgt me at1 pr has ee ki pe m) else ffF m1F ((V.map MlV.r).drop (k + 1))) = v) := by
        unfold Hid
        have h1 := ffF_at (g := m1F) (x := ⟨kd, tgt, me, at1, pr, has, ⟨ee, ki, pe, xs⟩⟩) (L := (V.map MlV.r)) (k := k) (by rw [List.getElem?_map, hv]; rfl)
        have h2 := hL.out
        rw [h1] at h2
        simp only [m1F, hl] at h2
        exact h2
      have hw1 := hnw.alloc (.cells #[.int .i64 kd, .int .i64 tgt, .int .i64 me, .int .i64 at1, .int .i64 pr, .bool has, .int .i64 ee, .int .i64 ki, .int .i64 pe, .slice x m d] 115)
      have bx := Blk.mk wr wr.heap.size 115 #[.int .i64 kd, .int .i64 tgt, .int .i64 me, .int .i64 at1, .int .i64 pr, .bool has, .int .i64 ee, .int .i64 ki, .int .i64 pe, .slice x m d] rfl
      have cx := bx.cells
      clear hv hl h hL cB
      by_cases ht : tgt = 0 ∨ tgt = 1
      · rw [if_neg (not_not_intro ht)] at HD
        go_wp2_with fail
        refine (isNode_yes tgt _ ht).mono ?_
        rintro e w2 ⟨rfl, hw2⟩
        obtain rfl := hw2.symm
        go_wp2_with fail
        refine (fFor_any tgt wr.heap.size kd tgt me at1 pr has ee ki pe x m d _ bx hmx).mono ?_
        rintro e w3 ⟨rfl, hn3⟩
        have hw3 := hw1.trans hn3
        clear q0 q1 q2 q3 q4 q5 q6 q7 q8 q9 cx bx
        generalize mlF tgt kd tgt me at1 pr has ee ki pe m = f at *
        by_cases hf : f = 0
        · have HR : Hid (ffF m1F ((V.map MlV.r).drop (k + 1)) = v) := (pick1 HD.out).2 hf
          subst hf
          clear HD
          go_wp2
          go_roundw
          case rel => exact ⟨k + 1, by omega, by go_num, hw3, HR⟩
          case measure => simp [intOf]; omega
        · obtain rfl : f = v := (pick1 HD.out).1 hf
          go_wp2
          go_ret
          exact ⟨rfl, hw3⟩
      · rw [if_pos ht] at HD
        obtain rfl : (1 : Int) = v := by have := HD.out; rw [if_pos (by decide)] at this; exact this
        go_wp2_with fail
        refine (isNode_no tgt _ ht).mono ?_
        rintro e w2 ⟨rfl, hw2⟩
        obtain rfl := hw2.symm
        go_wp2
        go_ret
        exact ⟨rfl, hw1⟩
    · have HR : Hid ((0 : Int) = v) := by unfold Hid; rw [← hL.out, ffF_end (by have := HN.out; simp; omega)]
      obtain rfl := HR.out
      go_wp2
      go_ret
      exact ⟨rfl, hnw⟩

set_option maxHeartbeats 3200000 in
theorem sealedI (sa si ho nx : Int) (a1 a2 aN aW aM aS : Option Addr) (n1 c1 n2 c2 nN cN nW cW nM cM nS cS : Nat) (r1 r2 : List Ru) (B : Nat) (V : List EkV) (w : World) (hb : Blk w B 46 #[.int .i64 sa, .int .i64 si, .int .i64 ho, .int .i64 nx, .slice a1 n1 c1, .slice a2 n2 c2, .slice aN nN cN, .slice aW nW cW, .slice aM nM cM, .slice aS nS cS]) (h : LgAt w aS V) (hn : V.length = nS) (hm : nS ≤ 1048576) (v : Int) (hv : seF (V.map EkV.r) = v) :
    Calls Tryz.prog 53 #[.pointer (some ⟨B, 0, none⟩)] w fun e w' => e = .returned (.int .i64 v) ∧ New w w' := by
  have HN : Hid (V.length = nS) := hn
  have HV : Hid ((if 100 < nS then 2 else ffF e1F (V.map EkV.r)) = v) := by unfold Hid; rw [← hv, ← hn]; simp [seF]
  have cB := hb.cells
  clear hn hv
  by_cases hbig : 100 < nS
  · obtain rfl : (2 : Int) = v := by have := HV.out; rw [if_pos hbig] at this; exact this
    go_enter Tryz.func53, Tryz.ntmps53
    go_wp2
    go_ret
    exact ⟨rfl, New.refl _⟩
  have HF : Hid (ffF e1F ((V.map EkV.r).drop 0) = v) := by unfold Hid; have := HV.out; rw [if_neg hbig] at this; simpa using this
  clear HV
  go_enter Tryz.func53, Tryz.ntmps53
  go_wp2
  go_loopw [17] (fun i wr => ∃ (k : Nat), k ≤ nS ∧ i = .int .i64 k ∧ New w wr ∧ Hid (ffF e1F ((V.map EkV.r).drop k) = v)) (fun i _ => nS - (intOf i).toNat)
  case atStart => exact ⟨0, Nat.zero_le _, rfl, New.refl _, HF⟩
  case round =>
    obtain ⟨k, hk, rfl, hnw, hL⟩ := hrel
    by_cases hlt : k < nS
    · obtain ⟨g, ep, ki, pe, x, m, d, xs, hg, hv, hl, hx, hmx, x0, x1, x2, x3⟩ := (h.new hnw).at k (by have := HN.out; omega)
      subst hg
      have HD : Hid ((if enF ep ki pe m ≠ 0 then enF ep ki pe m else ffF e1F ((V.map EkV.r).drop (k + 1))) = v) := by
        unfold Hid
        have h1 := ffF_at (g := e1F) (x := ⟨ep, ki, pe, xs⟩) (L := (V.map EkV.r)) (k := k) (by rw [List.getElem?_map, hv]; rfl)
        have h2 := hL.out
        rw [h1] at h2
        simp only [e1F, hl] at h2
        exact h2
      have hw1 := hnw.alloc (.cells #[.int .i64 ep, .int .i64 ki, .int .i64 pe, .slice x m d] 104)
      have bx := Blk.mk wr wr.heap.size 104 #[.int .i64 ep, .int .i64 ki, .int .i64 pe, .slice x m d] rfl
      clear hv hl h hL cB
      go_wp2_with fail
      refine (implEN ep ki pe x m d _ (by omega)).mono ?_
      rintro e w2 ⟨rfl, hn2⟩
      have hw2 := hw1.trans hn2
      clear x0 x1 x2 x3
      generalize enF ep ki pe m = f at *
      by_cases hf : f = 0
      · have HR : Hid (ffF e1F ((V.map EkV.r).drop (k + 1)) = v) := (pick1 HD.out).2 hf
        subst hf
        clear HD
        go_wp2
        go_roundw
        case rel => exact ⟨k + 1, by omega, by go_num, hw2, HR⟩
        case measure => simp [intOf]; omega
      · obtain rfl : f = v := (pick1 HD.out).1 hf
        go_wp2
        go_ret
        exact ⟨rfl, hw2⟩
    · have HR : Hid ((0 : Int) = v) := by unfold Hid; rw [← hL.out, ffF_end (by have := HN.out; simp; omega)]
      obtain rfl := HR.out
      go_wp2
      go_ret
      exact ⟨rfl, hnw⟩

set_option maxHeartbeats 6400000 in
theorem implPaF (sa si ho nx : Int) (a1 a2 aN aW aM aS : Option Addr) (n1 c1 n2 c2 nN cN nW cW nM cM nS cS : Nat) (r1 r2 : List Ru) (LN : List NdV) (LW : List WiV) (LM : List MlV) (LS : List EkV) (w : World) (h : PAt w a1 a2 aN aW aM aS r1 r2 LN LW LM LS) (l1 : r1.length = n1) (l2 : r2.length = n2) (lN : LN.length = nN) (lW : LW.length = nW) (lM : LM.length = nM) (lS : LS.length = nS) (m1 : n1 ≤ 1048576) (m2 : n2 ≤ 1048576) (mN : nN ≤ 1048576) (mW : nW ≤ 1048576) (mM : nM ≤ 1048576) (mS : nS ≤ 1048576) (v : Int) (hv : pF sa si ho nx r1 r2 (LN.map NdV.r) (LW.map WiV.r) (LM.map MlV.r) (LS.map EkV.r) = v) :
    Calls Tryz.prog 22 #[.agg #[.int .i64 sa, .int .i64 si, .int .i64 ho, .int .i64 nx, .slice a1 n1 c1, .slice a2 n2 c2, .slice aN nN cN, .slice aW nW cW, .slice aM nM cM, .slice aS nS cS]] w fun e w' => e = .returned (.int .i64 v) ∧ New w w' := by
  have hw := (New.refl w).alloc (.cells #[.int .i64 sa, .int .i64 si, .int .i64 ho, .int .i64 nx, .slice a1 n1 c1, .slice a2 n2 c2, .slice aN nN cN, .slice aW nW cW, .slice aM nM cM, .slice aS nS cS] 46)
  have b0 := Blk.mk w w.heap.size 46 #[.int .i64 sa, .int .i64 si, .int .i64 ho, .int .i64 nx, .slice a1 n1 c1, .slice a2 n2 c2, .slice aN nN cN, .slice aW nW cW, .slice aM nM cM, .slice aS nS cS] rfl
  have HV : Hid (q1F (stF sa si ho nx r1 r2) (if ¬ (nN = 2 ∧ nW = 3) then 1 else q1F (ndF (LN.map NdV.r)) (q1F (ffF w1F (LW.map WiV.r)) (q1F (msF (LM.map MlV.r)) (seF (LS.map EkV.r))))) = v) := by
    unfold Hid; rw [← hv]; simp only [pF, List.length_map, lN, lW]
  have LNh : Hid (LN.length = nN) := lN
  have LWh : Hid (LW.length = nW) := lW
  clear hv lN lW
  go_enter Tryz.func22, Tryz.ntmps22
  go_wp2_with fail
  refine (implSE sa si ho nx a1 a2 n1 c1 n2 c2 r1 r2 (stF sa si ho nx r1 r2) _ (h.s1.new hw) (h.s2.new hw) l1 l2 m1 m2 rfl).mono ?_
  rintro e w1 ⟨rfl, hn1⟩
  have hw1 := hw.trans hn1
  have b1 := b0.new hn1
  clear hw b0 hn1 l1 l2
  generalize stF sa si ho nx r1 r2 = f at *
  by_cases hf : f = 0
  case neg =>
    obtain rfl : f = v := (pickq HV.out).1 hf
    go_wp2
    go_ret
    exact ⟨rfl, hw1⟩
  subst hf
  have HV1 : Hid ((if ¬ (nN = 2 ∧ nW = 3) then 1 else q1F (ndF (LN.map NdV.r)) (q1F (ffF w1F (LW.map WiV.r)) (q1F (msF (LM.map MlV.r)) (seF (LS.map EkV.r))))) = v) := (pickq HV.out).2 rfl
  clear HV
  have c1' := b1.cells
  by_cases hl : nN = 2 ∧ nW = 3
  case neg =>
    obtain rfl : (1 : Int) = v := by have := HV1.out; rw [if_pos hl] at this; exact this
    by_cases hN : nN = 2
    · have hW : ¬ nW = 3 := fun e => hl ⟨hN, e⟩
      have e1 : ((nN : Int) != 2) = false := by simp; omega
      have e2 : ((nW : Int) != 3) = true := by simp; omega
      go_wp2
      go_ret
      exact ⟨rfl, hw1⟩
    · have e1 : ((nN : Int) != 2) = true := by simp; omega
      go_wp2
      go_ret
      exact ⟨rfl, hw1⟩
  obtain ⟨rfl, rfl⟩ := hl
  have HV2 : Hid (q1F (ndF (LN.map NdV.r)) (q1F (ffF w1F (LW.map WiV.r)) (q1F (msF (LM.map MlV.r)) (seF (LS.map EkV.r)))) = v) := by have := HV1.out; rw [if_neg (by simp)] at this; exact this
  clear HV1
  go_wp2_with fail
  refine (nodesI sa si ho nx a1 a2 aN aW aM aS n1 c1 n2 c2 2 cN 3 cW nM cM nS cS r1 r2 w.heap.size LN _ b1 (h.nd.new hw1) LNh.out mN _ (nkF_two (by simp [LNh.out]))).mono ?_
  rintro e w2 ⟨rfl, hn2⟩
  have hw2 := hw1.trans hn2
  have b2 := b1.new hn2
  clear c1' hw1 b1 hn2
  generalize ndF (LN.map NdV.r) = f at *
  by_cases hf : f = 0
  case neg =>
    obtain rfl : f = v := (pickq HV2.out).1 hf
    go_wp2
    go_ret
    exact ⟨rfl, hw2⟩
  subst hf
  have HV3 : Hid (q1F (ffF w1F ((LW.map WiV.r).drop 0)) (q1F (msF (LM.map MlV.r)) (seF (LS.map EkV.r))) = v) := (pickq HV2.out).2 rfl
  clear HV2
  have c2' := b2.cells
  go_wp2
  go_loopw [32] (fun i wr => ∃ (k : Nat), k ≤ 3 ∧ i = .int .i64 k ∧ New w2 wr ∧ Hid (q1F (ffF w1F ((LW.map WiV.r).drop k)) (q1F (msF (LM.map MlV.r)) (seF (LS.map EkV.r))) = v)) (fun i _ => 3 - (intOf i).toNat)
  case atStart => exact ⟨0, Nat.zero_le _, rfl, New.refl _, HV3⟩
  case round =>
    obtain ⟨k, hk, rfl, hnw, hL⟩ := hrel
    have hw3 := hw2.trans hnw
    by_cases hlt : k < 3
    · obtain ⟨g, E, T, x, x2, m, d, m2, d2, xs, ys, hg, hv, hl1, hl2, hx, hx2, hmx, hmx2, q0, q1, q2, q3⟩ := (h.wi.new hw3).at k (by have := LWh.out; omega)
      subst hg
      have HD : Hid (q1F (if wF E T m m2 ≠ 0 then wF E T m m2 else ffF w1F ((LW.map WiV.r).drop (k + 1))) (q1F (msF (LM.map MlV.r)) (seF (LS.map EkV.r))) = v) := by
        unfold Hid
        have h1 := ffF_at (g := w1F) (x := (E, T, xs, ys)) (L := (LW.map WiV.r)) (k := k) (by rw [List.getElem?_map, hv]; rfl)
        have h2 := hL.out
        rw [h1] at h2
        simp only [w1F, hl1, hl2] at h2
        exact h2
      have al := (New.refl wr).alloc (.cells #[.int .i64 E, .slice x m d, .int .i64 T, .slice x2 m2 d2] 100)
      have bx := Blk.mk wr wr.heap.size 100 #[.int .i64 E, .slice x m d, .int .i64 T, .slice x2 m2 d2] rfl
      clear hv hl1 hl2 hL c2'
      go_wp2_with fail
      refine (implWF E T x x2 m d m2 d2 _ (by omega) (by omega)).mono ?_
      rintro e w4 ⟨rfl, hn4⟩
      have hw4 := hnw.trans (al.trans hn4)
      clear q0 q1 q2 q3 bx
      generalize wF E T m m2 = f at *
      by_cases hf : f = 0
      · have HR : Hid (q1F (ffF w1F ((LW.map WiV.r).drop (k + 1))) (q1F (msF (LM.map MlV.r)) (seF (LS.map EkV.r))) = v) := by have h1 := HD.out; rw [if_neg (not_not_intro hf)] at h1; exact h1
        subst hf
        clear HD
        go_wp2
        go_roundw
        case rel => exact ⟨k + 1, by omega, by go_num, hw4, HR⟩
        case measure => simp [intOf]; omega
      · obtain rfl : f = v := by have h1 := HD.out; rw [if_pos hf] at h1; exact (pickq h1).1 hf
        go_wp2
        go_ret
        exact ⟨rfl, hw2.trans hw4⟩
    · have HR : Hid (q1F (msF (LM.map MlV.r)) (seF (LS.map EkV.r)) = v) := by
        unfold Hid
        have := hL.out
        rw [ffF_end (by have := LWh.out; simp; omega)] at this
        exact (pickq this).2 rfl
      have b3 := b2.new hnw
      clear hL
      go_wp2_with fail
      refine (mailsI sa si ho nx a1 a2 aN aW aM aS n1 c1 n2 c2 2 cN 3 cW nM cM nS cS r1 r2 w.heap.size LM _ b3 (h.mq.new hw3) lM mM _ rfl).mono ?_
      rintro e w4 ⟨rfl, hn4⟩
      have hw4 := hw3.trans hn4
      have b4 := b3.new hn4
      generalize msF (LM.map MlV.r) = f at *
      by_cases hf : f = 0
      · subst hf
        go_wp2_with fail
        refine (sealedI sa si ho nx a1 a2 aN aW aM aS n1 c1 n2 c2 2 cN 3 cW nM cM nS cS r1 r2 w.heap.size LS _ b4 (h.se.new hw4) lS mS v ((pickq HR.out).2 rfl)).mono ?_
        rintro e w5 ⟨rfl, hn5⟩
        go_wp2
        go_ret
        exact ⟨rfl, hw4.trans hn5⟩
      · obtain rfl : f = v := (pickq HR.out).1 hf
        go_wp2
        go_ret
        exact ⟨rfl, hw4⟩

end Go.Proofs.YtlkhmnjghdbmoaaGreatDoor

namespace Go.Proofs.YtlkhmnjghdbmoaaGreatDoor
open Go.RowKit Go.Sort Go.Deep
set_option linter.unusedVariables false
set_option linter.unusedSimpArgs false

theorem specNFw {o : Nat} (v : Int) (B : Nat) (id : Int) (up : Bool) (ro ep su ma ot co : Int) (A : Option Addr) (n c : Nat) (V : List EkV) (w : World) (hb : NdC w B o #[.int .i64 id, .bool up, .int .i64 ro, .int .i64 ep, .slice A n c, .int .i64 su, .int .i64 ma, .int .i64 ot, .int .i64 co]) (h : LgAt w A V) (hn : V.length = n) (hm : n ≤ 2097152) (hv : nF id up ro ep su ma ot co n (V.map EkV.r) = v) :
    Calls Tryz.prog 69 #[.pointer (some ⟨B, o, none⟩)] w fun e w' => e = .returned (.int .i64 v) ∧ New w w' := by
  rw [← hv]; exact specNFx B id up ro ep su ma ot co A n c V w hb h hn hm

theorem l1In_yes01 (x : Int) (w : World) (h : x = 0 ∨ x = 1) : Calls Tryz.prog 70 #[.int .i64 x, .int .i64 0, .int .i64 1] w fun e w' => e = .returned (.bool true) ∧ w' = w := in_yes x 0 1 w (by omega)
theorem l1In_no01 (x : Int) (w : World) (h : ¬ (x = 0 ∨ x = 1)) : Calls Tryz.prog 70 #[.int .i64 x, .int .i64 0, .int .i64 1] w fun e w' => e = .returned (.bool false) ∧ w' = w := in_no x 0 1 w (by omega)

set_option maxHeartbeats 3200000 in
theorem nodesS (sa si ho nx : Int) (a1 a2 aW aM aS : Option Addr) (n1 c1 n2 c2 cN nW cW nM cM nS cS : Nat) (r1 r2 : List Ru) (id0 : Int) (up0 : Bool) (ro0 ep0 su0 ma0 ot0 co0 : Int) (x0 : Option Addr) (m0 d0 : Nat) (xs0 : List EkV) (id1 : Int) (up1 : Bool) (ro1 ep1 su1 ma1 ot1 co1 : Int) (x1 : Option Addr) (m1 d1 : Nat) (xs1 : List EkV) (g B : Nat) (w : World) (hb : Blk w B 46 #[.int .i64 sa, .int .i64 si, .int .i64 ho, .int .i64 nx, .slice a1 n1 c1, .slice a2 n2 c2, .slice (some ⟨g, 0, none⟩) 2 cN, .slice aW nW cW, .slice aM nM cM, .slice aS nS cS]) (hg : Blk w g 107 #[.int .i64 id0, .bool up0, .int .i64 ro0, .int .i64 ep0, .slice x0 m0 d0, .int .i64 su0, .int .i64 ma0, .int .i64 ot0, .int .i64 co0, .int .i64 id1, .bool up1, .int .i64 ro1, .int .i64 ep1, .slice x1 m1 d1, .int .i64 su1, .int .i64 ma1, .int .i64 ot1, .int .i64 co1]) (h0 : LgAt w x0 xs0) (h1 : LgAt w x1 xs1) (e0 : xs0.length = m0) (e1 : xs1.length = m1) (k0 : m0 ≤ 1048576) (k1 : m1 ≤ 1048576) (v : Int) (hv : (if (if nF id0 up0 ro0 ep0 su0 ma0 ot0 co0 m0 (xs0.map EkV.r) ≠ 0 then nF id0 up0 ro0 ep0 su0 ma0 ot0 co0 m0 (xs0.map EkV.r) else if id0 ≠ 0 then 1 else 0) ≠ 0 then (if nF id0 up0 ro0 ep0 su0 ma0 ot0 co0 m0 (xs0.map EkV.r) ≠ 0 then nF id0 up0 ro0 ep0 su0 ma0 ot0 co0 m0 (xs0.map EkV.r) else if id0 ≠ 0 then 1 else 0) else (if nF id1 up1 ro1 ep1 su1 ma1 ot1 co1 m1 (xs1.map EkV.r) ≠ 0 then nF id1 up1 ro1 ep1 su1 ma1 ot1 co1 m1 (xs1.map EkV.r) else if id1 ≠ 1 then 1 else 0)) = v) :
    Calls Tryz.prog 38 #[.pointer (some ⟨B, 0, none⟩)] w fun e w' => e = .returned (.int .i64 v) ∧ New w w' := by
  have cB := hb.cells
  go_enter Tryz.func38, Tryz.ntmps38
  go_wp2
  refine wp_loop_rounds 3 ?_
  rw [rounds_succ]
  go_wp2_with fail
  refine (specNFw _ g id0 up0 ro0 ep0 su0 ma0 ot0 co0 x0 m0 d0 xs0 _ (NdC.blkA hg) h0 e0 (by omega) rfl).mono ?_
  rintro e w1 ⟨rfl, hn1⟩
  have cB1 := (hb.new hn1).cells
  have cG1 := (hg.new hn1).cells
  clear cB
  generalize nF id0 up0 ro0 ep0 su0 ma0 ot0 co0 m0 (xs0.map EkV.r) = f at *
  by_cases hf : f = 0
  case neg =>
    obtain rfl : f = v := (pick3 hv).1 hf
    go_wp2
    go_ret
    exact ⟨rfl, hn1⟩
  by_cases hi : id0 = 0
  case neg =>
    obtain rfl : (1 : Int) = v := (pick3 hv).2.1 hf hi
    subst hf
    have hne : (id0 != 0) = true := by simpa using hi
    go_wp2
    go_ret
    exact ⟨rfl, hn1⟩
  replace hv := (pick3 hv).2.2 hf hi
  subst hf
  subst hi
  have hne : ((0 : Int) != 0) = false := by simp
  go_wp2_with fail
  rw [rounds_succ]
  go_wp2_with fail
  refine (specNFw _ g id1 up1 ro1 ep1 su1 ma1 ot1 co1 x1 m1 d1 xs1 _ (NdC.blkB (hg.new hn1)) (h1.new hn1) e1 (by omega) rfl).mono ?_
  rintro e w2 ⟨rfl, hn2⟩
  have hw2 := hn1.trans hn2
  have cB2 := (hb.new hw2).cells
  have cG2 := (hg.new hw2).cells
  clear cB1 cG1
  generalize nF id1 up1 ro1 ep1 su1 ma1 ot1 co1 m1 (xs1.map EkV.r) = f at *
  by_cases hf : f = 0
  case neg =>
    obtain rfl : f = v := (pick2 hv).1 hf
    go_wp2
    go_ret
    exact ⟨rfl, hw2⟩
  by_cases hi : id1 = 1
  case neg =>
    obtain rfl : (1 : Int) = v := (pick2 hv).2.1 hf hi
    subst hf
    have hne : (id1 != 1) = true := by simpa using hi
    go_wp2
    go_ret
    exact ⟨rfl, hw2⟩
  obtain rfl : (0 : Int) = v := (pick2 hv).2.2 hf hi
  subst hf
  subst hi
  have hne : ((1 : Int) != 1) = false := by simp
  go_wp2_with fail
  rw [rounds_succ]
  go_wp2
  go_ret
  exact ⟨rfl, hw2⟩

set_option maxHeartbeats 6400000 in
theorem mailsS (sa si ho nx : Int) (a1 a2 aW aM aS : Option Addr) (n1 c1 n2 c2 cN nW cW nM cM nS cS : Nat) (r1 r2 : List Ru) (up0 : Bool) (ro0 ep0 su0 ma0 ot0 co0 : Int) (x0 : Option Addr) (m0 d0 : Nat) (xs0 : List EkV) (up1 : Bool) (ro1 ep1 su1 ma1 ot1 co1 : Int) (x1 : Option Addr) (m1 d1 : Nat) (xs1 : List EkV) (g B : Nat) (V : List MlV) (w : World) (hb : Blk w B 46 #[.int .i64 sa, .int .i64 si, .int .i64 ho, .int .i64 nx, .slice a1 n1 c1, .slice a2 n2 c2, .slice (some ⟨g, 0, none⟩) 2 cN, .slice aW nW cW, .slice aM nM cM, .slice aS nS cS]) (hg : Blk w g 107 #[.int .i64 0, .bool up0, .int .i64 ro0, .int .i64 ep0, .slice x0 m0 d0, .int .i64 su0, .int .i64 ma0, .int .i64 ot0, .int .i64 co0, .int .i64 1, .bool up1, .int .i64 ro1, .int .i64 ep1, .slice x1 m1 d1, .int .i64 su1, .int .i64 ma1, .int .i64 ot1, .int .i64 co1]) (h : MqAt w aM V) (hn : V.length = nM) (hm : nM ≤ 1048576) (v : Int) (hv : msF (V.map MlV.r) = v) :
    Calls Tryz.prog 40 #[.pointer (some ⟨B, 0, none⟩)] w fun e w' => e = .returned (.int .i64 v) ∧ New w w' := by
  have HN : Hid (V.length = nM) := hn
  have HV : Hid ((if 40 < nM then 2 else ffF m1F (V.map MlV.r)) = v) := by unfold Hid; rw [← hv, ← hn]; simp [msF]
  have cB := hb.cells
  clear hn hv
  by_cases hbig : 40 < nM
  · obtain rfl : (2 : Int) = v := by have := HV.out; rw [if_pos hbig] at this; exact this
    go_enter Tryz.func40, Tryz.ntmps40
    go_wp2
    go_ret
    exact ⟨rfl, New.refl _⟩
  have HF : Hid (ffF m1F ((V.map MlV.r).drop 0) = v) := by unfold Hid; have := HV.out; rw [if_neg hbig] at this; simpa using this
  clear HV
  go_enter Tryz.func40, Tryz.ntmps40
  go_wp2
  go_loopw [3] (fun i wr => ∃ (k : Nat), k ≤ nM ∧ i = .int .i64 k ∧ New w wr ∧ Hid (ffF m1F ((V.map MlV.r).drop k) = v)) (fun i _ => nM - (intOf i).toNat)
  case atStart => exact ⟨0, Nat.zero_le _, rfl, New.refl _, HF⟩
  case round =>
    obtain ⟨k, hk, rfl, hnw, hL⟩ := hrel
    clear cB
    have cB := (hb.new hnw).cells
    by_cases hlt : k < nM
    · obtain ⟨g2, kd, tgt, me, at1, pr, has, ee, ki, pe, x, m, d, xs, hg2, hv, hl, hx, hmx, q0, q1, q2, q3, q4, q5, q6, q7, q8, q9⟩ := (h.new hnw).at k (by have := HN.out; omega)
      subst hg2
      have HD : Hid ((if (if ¬ (tgt = 0 ∨ tgt = 1) then 1 else mlF tgt kd tgt me at1 pr has ee ki pe m) ≠ 0 then (if ¬ (tgt = 0 ∨ tgt = 1) then 1 else mlF tgt kd tgt me at1 pr has ee ki pe m) else ffF m1F ((V.map MlV.r).drop (k + 1))) = v) := by
        unfold Hid
        have h1 := ffF_at (g := m1F) (x := ⟨kd, tgt, me, at1, pr, has, ⟨ee, ki, pe, xs⟩⟩) (L := (V.map MlV.r)) (k := k) (by rw [List.getElem?_map, hv]; rfl)
        have h2 := hL.out
        rw [h1] at h2
        simp only [m1F, hl] at h2
        exact h2
      clear hv hl h hL
      by_cases ht : tgt = 0 ∨ tgt = 1
      case neg =>
        rw [if_pos ht] at HD
        obtain rfl : (1 : Int) = v := by have := HD.out; rw [if_pos (by decide)] at this; exact this
        go_wp2_with fail
        refine (l1In_no01 tgt _ ht).mono ?_
        rintro e w2 ⟨rfl, hw2⟩
        obtain rfl := hw2.symm
        go_wp2
        go_ret
        exact ⟨rfl, hnw⟩
      rw [if_neg (not_not_intro ht)] at HD
      go_wp2_with fail
      refine (l1In_yes01 tgt _ ht).mono ?_
      rintro e w2 ⟨rfl, hw2⟩
      obtain rfl := hw2.symm
      have bB := blk_regrown (hb.new hnw)
      have r1 := cell_regrown q1
      have r0 := cell_regrown q0
      have r2 := cell_regrown q2
      have r3 := cell_regrown q3
      have r4 := cell_regrown q4
      have r5 := cell_regrown q5
      have r6 := cell_regrown q6
      have r7 := cell_regrown q7
      have r8 := cell_regrown q8
      have r9 := cell_regrown q9
      have hP : Hid (∀ W, New wr W → Calls Tryz.prog 71 #[.pointer (some ⟨g, tgt.toNat * 9, none⟩), .agg #[.int .i64 kd, .int .i64 tgt, .int .i64 me, .int .i64 at1, .int .i64 pr, .bool has, .int .i64 ee, .int .i64 ki, .int .i64 pe, .slice x m d]] W fun e w' => e = .returned (.int .i64 (mlF tgt kd tgt me at1 pr has ee ki pe m)) ∧ New W w') := by
        intro W hW
        rcases ht with rfl | rfl
        · exact l12M_x g 0 up0 ro0 ep0 su0 ma0 ot0 co0 x0 m0 d0 kd 0 me at1 pr has ee ki pe x m d W (NdC.blkA ((hg.new hnw).new hW)) hmx
        · exact l12M_x g 1 up1 ro1 ep1 su1 ma1 ot1 co1 x1 m1 d1 kd 1 me at1 pr has ee ki pe x m d W (NdC.blkB ((hg.new hnw).new hW)) hmx
      generalize mlF tgt kd tgt me at1 pr has ee ki pe m = f at *
      have tb : 0 ≤ tgt ∧ tgt ≤ 1 := by omega
      have key : ∀ (t : Int), t = tgt → True := fun _ _ => trivial
      rcases ht with rfl | rfl
      · have hP' : ∀ W, New wr W → Calls Tryz.prog 71 #[.pointer (some ⟨g, 0, none⟩), .agg #[.int .i64 kd, .int .i64 0, .int .i64 me, .int .i64 at1, .int .i64 pr, .bool has, .int .i64 ee, .int .i64 ki, .int .i64 pe, .slice x m d]] W fun e w' => e = .returned (.int .i64 f) ∧ New W w' := hP.out
        go_wp2_with fail
        refine wp_region_quiet_below (by kernel_rfl) (by kernel_rfl) ?_
        repeat (go_big_quiet_step ((go_at_call 71; exact calls_regrown (hP' _ (new_regrown _ _ _)))))
        refine wpQuiet_nil ?_
        rintro w3 hn3
        replace hn3 := new_of_regrown hn3
        have hw3 := hnw.trans hn3
        clear q0 q1 q2 q3 q4 q5 q6 q7 q8 q9 bB r0 r1 r2 r3 r4 r5 r6 r7 r8 r9 hP hP'
        by_cases hf : f = 0
        · have HR : Hid (ffF m1F ((V.map MlV.r).drop (k + 1)) = v) := (pick1 HD.out).2 hf
          subst hf
          clear HD
          go_wp2
          go_roundw
          case rel => exact ⟨k + 1, by omega, by go_num, hw3, HR⟩
          case measure => simp [intOf]; omega
        · obtain rfl : f = v := (pick1 HD.out).1 hf
          go_wp2
          go_ret
          exact ⟨rfl, hw3⟩
      · have hP' : ∀ W, New wr W → Calls Tryz.prog 71 #[.pointer (some ⟨g, 9, none⟩), .agg #[.int .i64 kd, .int .i64 1, .int .i64 me, .int .i64 at1, .int .i64 pr, .bool has, .int .i64 ee, .int .i64 ki, .int .i64 pe, .slice x m d]] W fun e w' => e = .returned (.int .i64 f) ∧ New W w' := hP.out
        go_wp2_with fail
        refine wp_region_quiet_below (by kernel_rfl) (by kernel_rfl) ?_
        repeat (go_big_quiet_step ((go_at_call 71; exact calls_regrown (hP' _ (new_regrown _ _ _)))))
        refine wpQuiet_nil ?_
        rintro w3 hn3
        replace hn3 := new_of_regrown hn3
        have hw3 := hnw.trans hn3
        clear q0 q1 q2 q3 q4 q5 q6 q7 q8 q9 bB r0 r1 r2 r3 r4 r5 r6 r7 r8 r9 hP hP'
        by_cases hf : f = 0
        · have HR : Hid (ffF m1F ((V.map MlV.r).drop (k + 1)) = v) := (pick1 HD.out).2 hf
          subst hf
          clear HD
          go_wp2
          go_roundw
          case rel => exact ⟨k + 1, by omega, by go_num, hw3, HR⟩
          case measure => simp [intOf]; omega
        · obtain rfl : f = v := (pick1 HD.out).1 hf
          go_wp2
          go_ret
          exact ⟨rfl, hw3⟩
    · have HR : Hid ((0 : Int) = v) := by unfold Hid; rw [← hL.out, ffF_end (by have := HN.out; simp; omega)]
      obtain rfl := HR.out
      go_wp2
      go_ret
      exact ⟨rfl, hnw⟩

theorem row_blk14 {w : World} {g n size : Nat} {e : TypeId} {xs : List Value} (h : w.ownsRow 0 e size (.slice (some ⟨g, 0, none⟩) n n) n xs) : Blk w g e xs.toArray := by
  rcases h.2 with ⟨h1, -⟩ | ⟨g', cap, cur, h1, -, h3, -, -, h6, h7⟩
  · simp at h1
  · simp only [Value.slice.injEq, Option.some.injEq, Addr.mk.injEq, true_and, and_true] at h1
    obtain ⟨rfl, rfl⟩ := h1
    unfold Blk
    rw [h3, ← h7, ← h6, List.take_of_length_le (by simp)]
/-- The Ids of two nodes without a fault. -/
theorem nd_ids {x y : Int × Bool × Int × Int × Int × Int × Int × Int × List Ek} (h : ndF [x, y] = 0) : x.1 = 0 ∧ y.1 = 1 := by
  obtain ⟨i, u, ro, ep, su, ma, ot, co, L⟩ := x
  obtain ⟨i', u', ro', ep', su', ma', ot', co', L'⟩ := y
  have h1 : n1F 0 (i, u, ro, ep, su, ma, ot, co, L) = 0 := by
    simp only [ndF] at h
    by_cases hx : n1F 0 (i, u, ro, ep, su, ma, ot, co, L) = 0
    · exact hx
    · rw [if_pos hx] at h; exact h
  have h2 : n1F 1 (i', u', ro', ep', su', ma', ot', co', L') = 0 := by
    simp only [ndF] at h
    rw [if_neg (by simp [h1])] at h
    exact h
  simp only [n1F] at h1 h2
  constructor
  · show i = 0
    split at h1
    · rename_i hx; exact absurd h1 hx
    · split at h1
      · exact absurd h1 (by decide)
      · rename_i hi; exact Classical.not_not.1 hi
  · show i' = 1
    split at h2
    · rename_i hx; exact absurd h2 hx
    · split at h2
      · exact absurd h2 (by decide)
      · rename_i hi; exact Classical.not_not.1 hi

set_option maxHeartbeats 6400000 in
theorem specPaFp (sa si ho nx : Int) (a1 a2 aN aW aM aS : Option Addr) (n1 c1 n2 c2 nN cN nW cW nM cM nS cS : Nat) (r1 r2 : List Ru) (LN : List NdV) (LW : List WiV) (LM : List MlV) (LS : List EkV) (B : Nat) (w : World) (hb : Blk w B 46 #[.int .i64 sa, .int .i64 si, .int .i64 ho, .int .i64 nx, .slice a1 n1 c1, .slice a2 n2 c2, .slice aN nN cN, .slice aW nW cW, .slice aM nM cM, .slice aS nS cS]) (h : PAt w a1 a2 aN aW aM aS r1 r2 LN LW LM LS) (l1 : r1.length = n1) (l2 : r2.length = n2) (lN : LN.length = nN) (lW : LW.length = nW) (lM : LM.length = nM) (lS : LS.length = nS) (m1 : n1 ≤ 1048576) (m2 : n2 ≤ 1048576) (mN : nN ≤ 1048576) (mW : nW ≤ 1048576) (mM : nM ≤ 1048576) (mS : nS ≤ 1048576) (v : Int) (hv : pF sa si ho nx r1 r2 (LN.map NdV.r) (LW.map WiV.r) (LM.map MlV.r) (LS.map EkV.r) = v) :
    Calls Tryz.prog 15 #[.pointer (some ⟨B, 0, none⟩)] w fun e w' => e = .returned (.int .i64 v) ∧ New w w' := by
  have HV : Hid (q1F (stF sa si ho nx r1 r2) (if ¬ (nN = 2 ∧ nW = 3) then 1 else q1F (ndF (LN.map NdV.r)) (q1F (ffF w1F (LW.map WiV.r)) (q1F (msF (LM.map MlV.r)) (seF (LS.map EkV.r))))) = v) := by
    unfold Hid; rw [← hv]; simp only [pF, List.length_map, lN, lW]
  have LNh : Hid (LN.length = nN) := lN
  have LWh : Hid (LW.length = nW) := lW
  have LSh : Hid (LS.length = nS) := lS
  have c0 := hb.cells
  clear hv lN lW lS
  go_enter Tryz.func15, Tryz.ntmps15
  go_wp2_with fail
  refine (specSE sa si ho nx a1 a2 n1 c1 n2 c2 r1 r2 (stF sa si ho nx r1 r2) _ h.s1 h.s2 l1 l2 m1 m2 rfl).mono ?_
  rintro e w1 ⟨rfl, hn1⟩
  have b1 := hb.new hn1
  clear l1 l2 c0
  generalize stF sa si ho nx r1 r2 = f at *
  by_cases hf : f = 0
  case neg =>
    obtain rfl : f = v := (pickq HV.out).1 hf
    go_wp2
    go_ret
    exact ⟨rfl, hn1⟩
  subst hf
  have HV1 : Hid ((if ¬ (nN = 2 ∧ nW = 3) then 1 else q1F (ndF (LN.map NdV.r)) (q1F (ffF w1F (LW.map WiV.r)) (q1F (msF (LM.map MlV.r)) (seF (LS.map EkV.r))))) = v) := (pickq HV.out).2 rfl
  clear HV
  have c1' := b1.cells
  by_cases hl : nN = 2 ∧ nW = 3
  case neg =>
    obtain rfl : (1 : Int) = v := by have := HV1.out; rw [if_pos hl] at this; exact this
    by_cases hN : nN = 2
    · have hW : ¬ nW = 3 := fun e => hl ⟨hN, e⟩
      have e1 : ((nN : Int) != 2) = false := by simp; omega
      have e2 : ((nW : Int) != 3) = true := by simp; omega
      go_wp2
      go_ret
      exact ⟨rfl, hn1⟩
    · have e1 : ((nN : Int) != 2) = true := by simp; omega
      go_wp2
      go_ret
      exact ⟨rfl, hn1⟩
  obtain ⟨rfl, rfl⟩ := hl
  have HV2 : Hid (q1F (ndF (LN.map NdV.r)) (q1F (ffF w1F (LW.map WiV.r)) (q1F (msF (LM.map MlV.r)) (seF (LS.map EkV.r)))) = v) := by have := HV1.out; rw [if_neg (by simp)] at this; exact this
  clear HV1
  obtain ⟨v0, v1, rfl⟩ : ∃ v0 v1, LN = [v0, v1] := by
    have := LNh.out
    match LN, this with
    | [a, b], _ => exact ⟨a, b, rfl⟩
  obtain ⟨g, rfl, hrw⟩ := h.rowN
  have hg : Blk w g 107 #[.int .i64 v0.id, .bool v0.up, .int .i64 v0.ro, .int .i64 v0.ep, .slice v0.A v0.V.length v0.c, .int .i64 v0.su, .int .i64 v0.ma, .int .i64 v0.ot, .int .i64 v0.co, .int .i64 v1.id, .bool v1.up, .int .i64 v1.ro, .int .i64 v1.ep, .slice v1.A v1.V.length v1.c, .int .i64 v1.su, .int .i64 v1.ma, .int .i64 v1.ot, .int .i64 v1.co] := row_blk14 hrw
  obtain ⟨-, hA0, hT0⟩ := h.nd 0 v0 rfl
  obtain ⟨-, hA1, hT1⟩ := h.nd 1 v1 rfl
  have hE0 := totK_len v0.V
  have hE1 := totK_len v1.V
  have hID : Hid (ndF ([v0, v1].map NdV.r) = 0 → v0.id = 0 ∧ v1.id = 1) := fun e => nd_ids e
  have hND : Hid (ndF ([v0, v1].map NdV.r) = _) := rfl
  go_wp2_with fail
  refine (nodesS sa si ho nx a1 a2 aW aM aS n1 c1 n2 c2 cN 3 cW nM cM nS cS r1 r2 v0.id v0.up v0.ro v0.ep v0.su v0.ma v0.ot v0.co v0.A v0.V.length v0.c v0.V v1.id v1.up v1.ro v1.ep v1.su v1.ma v1.ot v1.co v1.A v1.V.length v1.c v1.V g B w1 b1 (hg.new hn1) (hA0.new hn1) (hA1.new hn1) rfl rfl (by omega) (by omega) (ndF ([v0, v1].map NdV.r)) (by simp only [ndF, List.map_cons, List.map_nil, NdV.r, n1F, List.length_map])).mono ?_
  rintro e w2 ⟨rfl, hn2⟩
  have hw2 := hn1.trans hn2
  have b2 := hb.new hw2
  clear c1' b1 hn2 hn1
  clear hND
  generalize ndF ([v0, v1].map NdV.r) = f at *
  by_cases hf : f = 0
  case neg =>
    obtain rfl : f = v := (pickq HV2.out).1 hf
    go_wp2
    go_ret
    exact ⟨rfl, hw2⟩
  obtain ⟨i0, i1⟩ := hID.out hf
  rw [i0, i1] at hg
  subst hf
  have HV3 : Hid (q1F (ffF w1F ((LW.map WiV.r).drop 0)) (q1F (msF (LM.map MlV.r)) (seF (LS.map EkV.r))) = v) := (pickq HV2.out).2 rfl
  clear HV2 hID
  have c2' := b2.cells
  go_wp2
  go_loopw [5] (fun i wr => ∃ (k : Nat), k ≤ 3 ∧ i = .int .i64 k ∧ New w2 wr ∧ Hid (q1F (ffF w1F ((LW.map WiV.r).drop k)) (q1F (msF (LM.map MlV.r)) (seF (LS.map EkV.r))) = v)) (fun i _ => 3 - (intOf i).toNat)
  case atStart => exact ⟨0, Nat.zero_le _, rfl, New.refl _, HV3⟩
  case round =>
    obtain ⟨k, hk, rfl, hnw, hL⟩ := hrel
    have hw3 := hw2.trans hnw
    have b3 := hb.new hw3
    clear c2'
    have c3 := b3.cells
    by_cases hlt : k < 3
    · obtain ⟨g2, E, T, x, x2, m, d, m2, d2, xs, ys, hg2, hv, hl1, hl2, hx, hx2, hmx, hmx2, q0, q1, q2, q3⟩ := (h.wi.new hw3).at k (by have := LWh.out; omega)
      subst hg2
      have HD : Hid (q1F (if wF E T m m2 ≠ 0 then wF E T m m2 else ffF w1F ((LW.map WiV.r).drop (k + 1))) (q1F (msF (LM.map MlV.r)) (seF (LS.map EkV.r))) = v) := by
        unfold Hid
        have h1 := ffF_at (g := w1F) (x := (E, T, xs, ys)) (L := (LW.map WiV.r)) (k := k) (by rw [List.getElem?_map, hv]; rfl)
        have h2 := hL.out
        rw [h1] at h2
        simp only [w1F, hl1, hl2] at h2
        exact h2
      clear hv hl1 hl2 hL
      go_wp2_with fail
      refine (specWF E T x x2 m d m2 d2 _ (by omega) (by omega)).mono ?_
      rintro e w4 ⟨rfl, hn4⟩
      have hw4 := hnw.trans hn4
      clear q0 q1 q2 q3
      generalize wF E T m m2 = f at *
      by_cases hf : f = 0
      · have HR : Hid (q1F (ffF w1F ((LW.map WiV.r).drop (k + 1))) (q1F (msF (LM.map MlV.r)) (seF (LS.map EkV.r))) = v) := by have h1 := HD.out; rw [if_neg (not_not_intro hf)] at h1; exact h1
        subst hf
        clear HD
        go_wp2
        go_roundw
        case rel => exact ⟨k + 1, by omega, by go_num, hw4, HR⟩
        case measure => simp [intOf]; omega
      · obtain rfl : f = v := by have h1 := HD.out; rw [if_pos hf] at h1; exact (pickq h1).1 hf
        go_wp2
        go_ret
        exact ⟨rfl, hw2.trans hw4⟩
    · have HR : Hid (q1F (msF (LM.map MlV.r)) (seF (LS.map EkV.r)) = v) := by
        unfold Hid
        have := hL.out
        rw [ffF_end (by have := LWh.out; simp; omega)] at this
        exact (pickq this).2 rfl
      clear hL
      go_wp2_with fail
      refine (mailsS sa si ho nx a1 a2 aW aM aS n1 c1 n2 c2 cN 3 cW nM cM nS cS r1 r2 v0.up v0.ro v0.ep v0.su v0.ma v0.ot v0.co v0.A v0.V.length v0.c v0.V v1.up v1.ro v1.ep v1.su v1.ma v1.ot v1.co v1.A v1.V.length v1.c v1.V g B LM _ b3 (hg.new hw3) (h.mq.new hw3) lM mM _ rfl).mono ?_
      rintro e w4 ⟨rfl, hn4⟩
      have hw4 := hw3.trans hn4
      have b4 := b3.new hn4
      clear c3 b3
      generalize msF (LM.map MlV.r) = f at *
      by_cases hf : f = 0
      case neg =>
        obtain rfl : f = v := (pickq HR.out).1 hf
        go_wp2
        go_ret
        exact ⟨rfl, hw4⟩
      subst hf
      have HS : Hid ((if 100 < nS then 2 else ffF e1F ((LS.map EkV.r).drop 0)) = v) := by have h1 := (pickq HR.out).2 rfl; unfold seF at h1; rw [List.length_map, LSh.out] at h1; exact h1
      clear HR
      have c4 := b4.cells
      by_cases hbig : 100 < nS
      · obtain rfl : (2 : Int) = v := by have := HS.out; rw [if_pos hbig] at this; exact this
        go_wp2
        go_ret
        exact ⟨rfl, hw4⟩
      have HF : Hid (ffF e1F ((LS.map EkV.r).drop 0) = v) := by have := HS.out; rw [if_neg hbig] at this; exact this
      clear HS
      go_wp2
      go_loopw [8] (fun i wr => ∃ (k : Nat), k ≤ nS ∧ i = .int .i64 k ∧ New w4 wr ∧ Hid (ffF e1F ((LS.map EkV.r).drop k) = v)) (fun i _ => nS - (intOf i).toNat)
      case atStart => exact ⟨0, Nat.zero_le _, rfl, New.refl _, HF⟩
      case round =>
        obtain ⟨k, hk, rfl, hnw, hL⟩ := hrel
        have hw5 := hw4.trans hnw
        have b5 := hb.new hw5
        clear c4
        have c5 := b5.cells
        by_cases hlt : k < nS
        · obtain ⟨g2, ep, ki, pe, x, m, d, xs, hg2, hv, hl, hx, hmx, x0, x1, x2, x3⟩ := (h.se.new hw5).at k (by have := LSh.out; omega)
          subst hg2
          have HD : Hid ((if enF ep ki pe m ≠ 0 then enF ep ki pe m else ffF e1F ((LS.map EkV.r).drop (k + 1))) = v) := by
            unfold Hid
            have h1 := ffF_at (g := e1F) (x := ⟨ep, ki, pe, xs⟩) (L := (LS.map EkV.r)) (k := k) (by rw [List.getElem?_map, hv]; rfl)
            have h2 := hL.out
            rw [h1] at h2
            simp only [e1F, hl] at h2
            exact h2
          clear hv hl hL
          go_wp2_with fail
          refine (specEN ep ki pe x m d _ (by omega)).mono ?_
          rintro e w6 ⟨rfl, hn6⟩
          have hw6 := hnw.trans hn6
          clear x0 x1 x2 x3
          generalize enF ep ki pe m = f at *
          by_cases hf : f = 0
          · have HR : Hid (ffF e1F ((LS.map EkV.r).drop (k + 1)) = v) := (pick1 HD.out).2 hf
            subst hf
            clear HD
            go_wp2
            go_roundw
            case rel => exact ⟨k + 1, by omega, by go_num, hw6, HR⟩
            case measure => simp [intOf]; omega
          · obtain rfl : f = v := (pick1 HD.out).1 hf
            go_wp2
            go_ret
            exact ⟨rfl, hw4.trans hw6⟩
        · have HR : Hid ((0 : Int) = v) := by unfold Hid; rw [← hL.out, ffF_end (by have := LSh.out; simp; omega)]
          obtain rfl := HR.out
          go_wp2
          go_ret
          exact ⟨rfl, hw5⟩

end Go.Proofs.YtlkhmnjghdbmoaaGreatDoor
