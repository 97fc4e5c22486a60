/- Lemmas and contracts of one law. -/
import Derived.Test.YtdbnmkffinhdjaaGreatLV27
import Derived.Lib.AppendZeros
import Derived.LoopN
import Derived.Test.YtdbnmkffinhdjaaGreatLV23
import Derived.Test.YtdbnmkffinhdjaaGreatLV20
namespace Go.Proofs.YtdbnmkffinhdjaaGreat
open Go.RowKit Go.Sort
set_option linter.unusedVariables false
set_option linter.unusedSimpArgs false
set_option maxHeartbeats 25600000

section
variable {P : Program} {t e : TypeId} {i : TypeInfo}
end
end Go.Proofs.YtdbnmkffinhdjaaGreat

namespace Go.Proofs.YtdbnmkffinhdjaaGreat
open Go.ChangeShapes Go.WideShapes Go.ChangeAt Go.RowKit Go.Deep Go.Sort
set_option linter.unusedVariables false
set_option linter.unusedSimpArgs false
set_option maxRecDepth 100000
set_option maxHeartbeats 25600000

theorem totNd_alike : ∀ {V U : List NdV}, V.map NdV.r = U.map NdV.r → totNd V = totNd U
  | [], [], _ => rfl
  | [], _ :: _, h => by simp at h
  | _ :: _, [], h => by simp at h
  | v :: V, u :: U, h => by
    simp only [List.map_cons, List.cons.injEq] at h
    have ih := totNd_alike h.2
    have e : v.V.map EkV.r = u.V.map EkV.r := by
      have := h.1
      simp only [NdV.r, Prod.mk.injEq] at this
      exact this.2.2.2.2.2.2.2.2
    have := totK_alike e
    simp only [totNd, NdV.tot, ih, this]
theorem totWi_alike : ∀ {V U : List WiV}, V.map WiV.r = U.map WiV.r → totWi V = totWi U
  | [], [], _ => rfl
  | [], _ :: _, h => by simp at h
  | _ :: _, [], h => by simp at h
  | v :: V, u :: U, h => by
    simp only [List.map_cons, List.cons.injEq] at h
    have ih := totWi_alike h.2
    have e := h.1
    simp only [WiV.r, Prod.mk.injEq] at e
    simp only [totWi, WiV.tot, ih, e.2.2.1, e.2.2.2]
theorem totMq_alike : ∀ {V U : List MlV}, V.map MlV.r = U.map MlV.r → totMq V = totMq U
  | [], [], _ => rfl
  | [], _ :: _, h => by simp at h
  | _ :: _, [], h => by simp at h
  | v :: V, u :: U, h => by
    simp only [List.map_cons, List.cons.injEq] at h
    have ih := totMq_alike h.2
    have e : v.m = u.m := h.1
    simp only [totMq, MlV.tot, ih, e]
theorem PrE.lim {P Q : PrV} (l : PrL P) (h : PrE Q P) : PrL Q := by
  have hN := congrArg List.length h.nd
  have hW := congrArg List.length h.wi
  have hM := congrArg List.length h.mq
  have hS := congrArg List.length h.se
  simp only [List.length_map] at hN hW hM hS
  refine ⟨?_, ?_, ?_, ?_, ?_, ?_, ?_, ?_, ?_, ?_, ?_, ?_, ?_, ?_, ?_, ?_⟩
  · rw [h.r1, h.n1]; exact l.l1
  · rw [h.r2, h.n2]; exact l.l2
  · rw [hN, h.nN]; exact l.lN
  · rw [hW, h.nW]; exact l.lW
  · rw [hM, h.nM]; exact l.lM
  · rw [hS, h.nS]; exact l.lS
  · rw [h.n1]; exact l.m1
  · rw [h.n2]; exact l.m2
  · rw [h.nN]; exact l.mN
  · rw [h.nW]; exact l.mW
  · rw [h.nM]; exact l.mM
  · rw [h.nS]; exact l.mS
  · rw [totNd_alike h.nd]; exact l.tN
  · rw [totWi_alike h.wi]; exact l.tW
  · rw [totMq_alike h.mq]; exact l.tM
  · rw [totK_alike h.se]; exact l.tS
theorem PrE.refl (P : PrV) : PrE P P := ⟨rfl, rfl, rfl, rfl, rfl, rfl, rfl, rfl, rfl, rfl, rfl, rfl, rfl, rfl, rfl, rfl⟩
theorem owl_fit {w : World} {lo hi n c : Nat} {A : Option Addr} {V : List EkV} (h : OwL w lo hi (.slice A n c) V) : FitK A n c := by
  obtain ⟨A', c', e, -, h2⟩ := h.form
  simp only [Value.slice.injEq] at e
  obtain ⟨rfl, rfl, rfl⟩ := e
  rcases h2 with ⟨h3, h4, h5⟩ | ⟨g, h3, h4, -⟩
  · subst h4 h5; exact ⟨by simp, .inl ⟨h3, rfl, rfl⟩⟩
  · exact ⟨h4, .inr ⟨g, h3⟩⟩
/-- What PairFault's contracts ask of a pair. -/
theorem PrOw.pat {w : World} {b0 b1 : Nat} {col : Nat → Nat} {P : PrV} (h : PrOw w b0 b1 col P) (l : PrL P) (hN : ∃ g, P.aN = some ⟨g, 0, none⟩) (hc : P.cN = P.nN) (hW : SomW P.VW) : PAt w P.a1 P.a2 P.aN P.aW P.aM P.aS P.r1 P.r2 P.VN P.VW P.VM P.VS := by
  have hr := h.rd
  have hn := h.nl
  refine ⟨hr.s1, hr.s2, hr.nd, hr.wi, hr.mq, hr.se, ?_, ?_, ?_, hn.2, hn.1⟩
  · rcases h.oN with ⟨e, -⟩ | ⟨g, A, B, e, k⟩
    · obtain ⟨g, e'⟩ := hN; rw [e] at e'; cases e'
    · refine ⟨g, e, ?_⟩
      have := k.row
      rw [hc, ← l.lN] at this
      exact this
  · intro v hv
    rcases h.oN with ⟨-, -, -, e⟩ | ⟨g, A, B, -, k⟩
    · rw [e] at hv; cases hv
    · obtain ⟨i, hi⟩ := List.getElem?_of_mem hv
      exact owl_fit (k.own i v hi)
  · intro v hv
    obtain ⟨h1, h2, h3, h4⟩ := hW v hv
    exact ⟨⟨h3, .inr h1⟩, ⟨h4, .inr h2⟩⟩
theorem SomW.nl {V : List WiV} (h : SomW V) : ∀ v ∈ V, (v.a = none → v.xs.length = 0 ∧ v.c = 0) ∧ (v.b = none → v.ys.length = 0 ∧ v.d = 0) := by
  intro v hv
  obtain ⟨⟨g, e1⟩, ⟨g', e2⟩, -⟩ := h v hv
  exact ⟨fun e => (by rw [e] at e1; cases e1), fun e => (by rw [e] at e2; cases e2)⟩
theorem SomM.nl {V : List MlV} (h : SomM V) : ∀ v ∈ V, v.a = none → v.m.e.xs.length = 0 ∧ v.c = 0 := by
  intro v hv e
  obtain ⟨g, e1⟩ := h v hv
  rw [e] at e1; cases e1

/-- A pair without its mail k. -/
def PrV.drop (P : PrV) (k : Nat) (a : Option Addr) (c : Nat) : PrV := { P with aM := a, nM := P.nM - 1, cM := c, VM := P.VM.take k ++ P.VM.drop (k + 1) }
theorem drop_len {V : List MlV} {k : Nat} (hk : k < V.length) : (V.take k ++ V.drop (k + 1)).length = V.length - 1 := by
  rw [← List.eraseIdx_eq_take_drop_succ, List.length_eraseIdx]
  simp [hk]
theorem PrE.drop {P Q : PrV} (h : PrE Q P) (k : Nat) (a a' : Option Addr) (c c' : Nat) : PrE (Q.drop k a c) (P.drop k a' c') := by
  refine ⟨h.sa, h.si, h.ho, h.nx, h.n1, h.n2, h.nN, h.nW, ?_, h.nS, h.r1, h.r2, h.nd, h.wi, ?_, h.se⟩
  · show Q.nM - 1 = P.nM - 1
    rw [h.nM]
  · show (Q.VM.take k ++ Q.VM.drop (k + 1)).map MlV.r = (P.VM.take k ++ P.VM.drop (k + 1)).map MlV.r
    rw [List.map_append, List.map_append, List.map_take, List.map_take, List.map_drop, List.map_drop, h.mq]
theorem totMq_app (V U : List MlV) : totMq (V ++ U) = totMq V + totMq U := by
  induction V with
  | nil => simp [totMq]
  | cons v V ih => simp [totMq, ih, Nat.add_assoc]
theorem totMq_cut (V : List MlV) (k : Nat) : totMq (V.take k ++ V.drop (k + 1)) ≤ totMq V := by
  have h1 := totMq_app (V.take k) (V.drop k)
  rw [List.take_append_drop] at h1
  have h2 : totMq (V.drop (k + 1)) ≤ totMq (V.drop k) := by
    rw [show V.drop (k + 1) = (V.drop k).drop 1 by rw [List.drop_drop]]
    cases V.drop k with
    | nil => exact Nat.le_refl _
    | cons v U => simp [totMq]
  rw [totMq_app, h1]; omega
theorem PrL.drop {P : PrV} (l : PrL P) {k : Nat} (hk : k < P.nM) (a : Option Addr) (c : Nat) : PrL (P.drop k a c) := by
  have h1 := l.lM
  have h2 := l.mM
  refine ⟨l.l1, l.l2, l.lN, l.lW, ?_, l.lS, l.m1, l.m2, l.mN, l.mW, ?_, l.mS, l.tN, l.tW, Nat.le_trans (totMq_cut _ _) l.tM, l.tS⟩
  · show (P.VM.take k ++ P.VM.drop (k + 1)).length = P.nM - 1
    rw [drop_len (by omega), h1]
  · show P.nM - 1 ≤ 1048576
    omega
theorem PrOw.up {w : World} {b0 b1 b2 : Nat} {col : Nat → Nat} {P : PrV} (h : PrOw w b0 b1 col P) (hb : b1 ≤ b2) : PrOw w b0 b2 col P := by
  obtain ⟨lo, hi, hS, hcS⟩ := h.oS
  have hc : ∀ i x, Cl col b0 b1 i x → Cl col b0 b2 i x := fun i x hx => ⟨hx.1, hx.2.1, Nat.lt_of_lt_of_le hx.2.2 hb⟩
  exact ⟨h.o1, h.o2, fun j hj => hc _ _ (h.k1 j hj), fun j hj => hc _ _ (h.k2 j hj), h.oN.mono (hc _), h.oW.mono (hc _), h.oQ.mono (hc _), ⟨lo, hi, hS, fun x h1 h2 => hc _ _ (hcS x h1 h2)⟩, h.bW, h.bM⟩
/-- The pair with nothing. -/
def zPr : PrV := ⟨0, 0, 0, 0, none, 0, 0, none, 0, 0, none, 0, 0, none, 0, 0, none, 0, 0, none, 0, 0, [], [], [], [], [], []⟩
theorem zPr_ow (w : World) (b0 b1 : Nat) (col : Nat → Nat) : PrOw w b0 b1 col zPr := by
  refine ⟨⟨rfl, .inl ⟨rfl, rfl⟩⟩, ⟨rfl, .inl ⟨rfl, rfl⟩⟩, fun j hj => by simp [Value.ownBlock, zPr] at hj, fun j hj => by simp [Value.ownBlock, zPr] at hj, .inl ⟨rfl, rfl, rfl, rfl⟩, .inl ⟨rfl, rfl, rfl, rfl⟩, .inl ⟨rfl, rfl, rfl, rfl⟩, ⟨0, 0, OwL.nil _ _ _, fun x _ h => by omega⟩, (fun u hu => by cases hu), (fun u hu => by cases hu)⟩
theorem zPr_l : PrL zPr := ⟨rfl, rfl, rfl, rfl, rfl, rfl, by decide, by decide, by decide, by decide, by decide, by decide, by decide, by decide, by decide, by decide⟩

end Go.Proofs.YtdbnmkffinhdjaaGreat

namespace Go.Proofs.YtdbnmkffinhdjaaGreat
open Go.RowKit Go.Sort Go.Deep
set_option linter.unusedVariables false
set_option linter.unusedSimpArgs false
set_option maxHeartbeats 25600000

/-- The first that is not 0. -/
def ffF {α : Type} (g : α → Int) : List α → Int
  | [] => 0
  | x :: L => if g x ≠ 0 then g x else ffF g L
theorem ffF_at {α : Type} {g : α → Int} {L : List α} {k : Nat} {x : α} (h : L[k]? = some x) : ffF g (L.drop k) = if g x ≠ 0 then g x else ffF g (L.drop (k + 1)) := by
  obtain ⟨hk, e⟩ := List.getElem?_eq_some_iff.1 h
  rw [List.drop_eq_getElem_cons hk, ffF, e]
theorem ffF_end {α : Type} {g : α → Int} {L : List α} {k : Nat} (h : L.length ≤ k) : ffF g (L.drop k) = 0 := by
  rw [List.drop_eq_nil_of_le h]; rfl
/-- The fault of a node at a place. -/
def n1F (k : Int) (x : Int × Bool × Int × Int × Int × Int × Int × Int × List Ek) : Int :=
  match x with
  | (id, up, ro, ep, su, ma, ot, co, L) => if nF id up ro ep su ma ot co L.length L ≠ 0 then nF id up ro ep su ma ot co L.length L else if id ≠ k then 1 else 0
def ndF (L : List (Int × Bool × Int × Int × Int × Int × Int × Int × List Ek)) : Int :=
  match L with
  | [x, y] => if n1F 0 x ≠ 0 then n1F 0 x else n1F 1 y
  | _ => 0
def w1F (x : Int × Int × List Int × List Int) : Int := match x with | (E, T, xs, ys) => wF E T xs.length ys.length
def m1F (x : Ml) : Int := if ¬ (x.tgt = 0 ∨ x.tgt = 1) then 1 else mlF x.tgt x.kd x.tgt x.ep x.at1 x.pr x.has x.e.ep x.e.ki x.e.pe x.e.xs.length
def e1F (x : Ek) : Int := enF x.ep x.ki x.pe x.xs.length
def msF (L : List Ml) : Int := if 40 < L.length then 2 else ffF m1F L
def seF (L : List Ek) : Int := if 100 < L.length then 2 else ffF e1F L
theorem pick1 {f r v : Int} (h : (if f ≠ 0 then f else r) = v) : (f ≠ 0 → f = v) ∧ (f = 0 → r = v) := by
  refine ⟨fun a => ?_, fun a => ?_⟩ <;> simp_all
theorem pick2 {f id k v : Int} (h : (if f ≠ 0 then f else if id ≠ k then 1 else 0) = v) : (f ≠ 0 → f = v) ∧ (f = 0 → id ≠ k → 1 = v) ∧ (f = 0 → id = k → 0 = v) := by
  refine ⟨fun a => ?_, fun a b => ?_, fun a b => ?_⟩ <;> simp_all
theorem pick3 {f id k r v : Int} (h : (if (if f ≠ 0 then f else if id ≠ k then 1 else 0) ≠ 0 then (if f ≠ 0 then f else if id ≠ k then 1 else 0) else r) = v) : (f ≠ 0 → f = v) ∧ (f = 0 → id ≠ k → 1 = v) ∧ (f = 0 → id = k → r = v) := by
  refine ⟨fun a => ?_, fun a b => ?_, fun a b => ?_⟩ <;> simp_all
/-- What is asked of mails and of what is sealed. -/
def q1F (a b : Int) : Int := if a ≠ 0 then a else b
theorem pickq {a b v : Int} (h : q1F a b = v) : (a ≠ 0 → a = v) ∧ (a = 0 → b = v) := pick1 h
/-- The fault of a pair. -/
def pF (sa si ho nx : Int) (r1 r2 : List Ru) (N : List (Int × Bool × Int × Int × Int × Int × Int × Int × List Ek)) (W : List (Int × Int × List Int × List Int)) (M : List Ml) (S : List Ek) : Int :=
  q1F (stF sa si ho nx r1 r2) (if ¬ (N.length = 2 ∧ W.length = 3) then 1 else q1F (ndF N) (q1F (ffF w1F W) (q1F (msF M) (seF S))))


/-- The fault of the nodes from a place on. -/
def nkF : Int → List (Int × Bool × Int × Int × Int × Int × Int × Int × List Ek) → Int
  | _, [] => 0
  | k, x :: L => if n1F k x ≠ 0 then n1F k x else nkF (k + 1) L
theorem nkF_two {L : List (Int × Bool × Int × Int × Int × Int × Int × Int × List Ek)} (h : L.length = 2) : nkF 0 L = ndF L := by
  match L, h with
  | [x, y], _ =>
    simp only [nkF, ndF]
    by_cases h1 : n1F 0 x = 0
    · simp only [h1]
      by_cases h2 : n1F 1 y = 0
      · simp [h2]
      · simp [h2]
    · simp [h1]
theorem nkF_at {L : List (Int × Bool × Int × Int × Int × Int × Int × Int × List Ek)} {k : Nat} {x : Int × Bool × Int × Int × Int × Int × Int × Int × List Ek} (h : L[k]? = some x) : nkF k (L.drop k) = if n1F k x ≠ 0 then n1F k x else nkF ((k + 1 : Nat) : Int) (L.drop (k + 1)) := by
  obtain ⟨hk, e⟩ := List.getElem?_eq_some_iff.1 h
  rw [List.drop_eq_getElem_cons hk, nkF, e]
  rfl

theorem nodesI (sa si ho nx : Int) (a1 a2 aN aW aM aS : Option Addr) (n1 c1 n2 c2 nN cN nW cW nM cM nS cS : Nat) (r1 r2 : List Ru) (B : Nat) (V : List NdV) (w : World) (hb : Blk w B 47 #[.int .i64 sa, .int .i64 si, .int .i64 ho, .int .i64 nx, .slice a1 n1 c1, .slice a2 n2 c2, .slice aN nN cN, .slice aW nW cW, .slice aM nM cM, .slice aS nS cS]) (h : NdAt w aN V) (hn : V.length = nN) (hm : nN ≤ 1048576) (v : Int) (hv : nkF 0 (V.map NdV.r) = v) :
    Calls Tryz.prog 112 #[.pointer (some ⟨B, 0, none⟩)] w fun e w' => e = .returned (.int .i64 v) ∧ New w w' := by
  have HN : Hid (V.length = nN) := hn
  have HF : Hid (nkF ((0 : Nat) : Int) ((V.map NdV.r).drop 0) = v) := hv
  have cB := hb.cells
  clear hn hv
  go_enter Tryz.func112, Tryz.ntmps112
  go_wp2
  go_loopw [11] (fun i wr => ∃ (k : Nat), k ≤ nN ∧ i = .int .i64 k ∧ New w wr ∧ Hid (nkF (k : Int) ((V.map NdV.r).drop k) = v)) (fun i _ => nN - (intOf i).toNat)
  case atStart => exact ⟨0, Nat.zero_le _, rfl, New.refl _, HF⟩
  case round =>
    obtain ⟨k, hk, rfl, hnw, hL⟩ := hrel
    by_cases hlt : k < nN
    · obtain ⟨g, id, up, ro, ep, su, ma, ot, co, x, m, d, xs, hg, hv, hl, hx, hmx, q0, q1, q2, q3, q4, q5, q6, q7, q8⟩ := (h.new hnw).at k (by have := HN.out; omega)
      subst hg
      have HD : Hid ((if (if nF id up ro ep su ma ot co m (xs.map EkV.r) ≠ 0 then nF id up ro ep su ma ot co m (xs.map EkV.r) else if id ≠ (k : Int) then 1 else 0) ≠ 0 then (if nF id up ro ep su ma ot co m (xs.map EkV.r) ≠ 0 then nF id up ro ep su ma ot co m (xs.map EkV.r) else if id ≠ (k : Int) then 1 else 0) else nkF ((k + 1 : Nat) : Int) ((V.map NdV.r).drop (k + 1))) = v) := by
        unfold Hid
        have h1 := nkF_at (x := (id, up, ro, ep, su, ma, ot, co, xs.map EkV.r)) (L := (V.map NdV.r)) (k := k) (by rw [List.getElem?_map, hv]; rfl)
        have h2 := hL.out
        rw [h1] at h2
        simp only [n1F, List.length_map, hl] at h2
        exact h2
      have HL : Hid (xs.length = m) := hl
      have hm1 : m ≤ 1048576 := by have := totK_len xs; omega
      have hw1 := hnw.alloc (.cells #[.int .i64 id, .bool up, .int .i64 ro, .int .i64 ep, .slice x m d, .int .i64 su, .int .i64 ma, .int .i64 ot, .int .i64 co] 74)
      have bx := Blk.mk wr wr.heap.size 74 #[.int .i64 id, .bool up, .int .i64 ro, .int .i64 ep, .slice x m d, .int .i64 su, .int .i64 ma, .int .i64 ot, .int .i64 co] rfl
      clear hv hl h hL cB hmx
      go_wp2_with fail
      refine (implNF id up ro ep su ma ot co x m d xs _ (hx.new ((New.refl _).alloc _)) HL.out (by omega)).mono ?_
      rintro e w2 ⟨rfl, hn2⟩
      have hw2 := hw1.trans hn2
      have cx := (bx.new hn2).cells
      clear q0 q1 q2 q3 q4 q5 q6 q7 q8 bx hx
      generalize nF id up ro ep su ma ot co m (xs.map EkV.r) = f at *
      by_cases hf : f = 0
      · by_cases hi : id = (k : Int)
        · have HR : Hid (nkF ((k + 1 : Nat) : Int) ((V.map NdV.r).drop (k + 1)) = v) := (pick3 HD.out).2.2 hf hi
          clear HD
          subst hf
          subst hi
          have hne : ((k : Int) != (k : Int)) = false := by simp
          go_wp2
          go_roundw
          case rel => exact ⟨k + 1, by omega, by go_num, hw2, HR⟩
          case measure => simp [intOf]; omega
        · obtain rfl : (1 : Int) = v := (pick3 HD.out).2.1 hf hi
          clear HD
          subst hf
          have hne : (id != (k : Int)) = true := by simpa using hi
          go_wp2
          go_ret
          exact ⟨rfl, hw2⟩
      · obtain rfl : f = v := (pick3 HD.out).1 hf
        go_wp2
        go_ret
        exact ⟨rfl, hw2⟩
    · have HR : Hid ((0 : Int) = v) := by unfold Hid; rw [← hL.out, List.drop_eq_nil_of_le (by have := HN.out; simp; omega)]; rfl
      obtain rfl := HR.out
      go_wp2
      go_ret
      exact ⟨rfl, hnw⟩

theorem mailsI (sa si ho nx : Int) (a1 a2 aN aW aM aS : Option Addr) (n1 c1 n2 c2 nN cN nW cW nM cM nS cS : Nat) (r1 r2 : List Ru) (B : Nat) (V : List MlV) (w : World) (hb : Blk w B 47 #[.int .i64 sa, .int .i64 si, .int .i64 ho, .int .i64 nx, .slice a1 n1 c1, .slice a2 n2 c2, .slice aN nN cN, .slice aW nW cW, .slice aM nM cM, .slice aS nS cS]) (h : MqAt w aM V) (hn : V.length = nM) (hm : nM ≤ 1048576) (v : Int) (hv : msF (V.map MlV.r) = v) :
    Calls Tryz.prog 114 #[.pointer (some ⟨B, 0, none⟩)] w fun e w' => e = .returned (.int .i64 v) ∧ New w w' := by
  have HN : Hid (V.length = nM) := hn
  have HV : Hid ((if 40 < nM then 2 else ffF m1F (V.map MlV.r)) = v) := by unfold Hid; rw [← hv, ← hn]; simp [msF]
  have cB := hb.cells
  clear hn hv
  by_cases hbig : 40 < nM
  · obtain rfl : (2 : Int) = v := by have := HV.out; rw [if_pos hbig] at this; exact this
    go_enter Tryz.func114, Tryz.ntmps114
    go_wp2
    go_ret
    exact ⟨rfl, New.refl _⟩
  have HF : Hid (ffF m1F ((V.map MlV.r).drop 0) = v) := by unfold Hid; have := HV.out; rw [if_neg hbig] at this; simpa using this
  clear HV
  go_enter Tryz.func114, Tryz.ntmps114
  go_wp2
  go_loopw [17] (fun i wr => ∃ (k : Nat), k ≤ nM ∧ i = .int .i64 k ∧ New w wr ∧ Hid (ffF m1F ((V.map MlV.r).drop k) = v)) (fun i _ => nM - (intOf i).toNat)
  case atStart => exact ⟨0, Nat.zero_le _, rfl, New.refl _, HF⟩
  case round =>
    obtain ⟨k, hk, rfl, hnw, hL⟩ := hrel
    by_cases hlt : k < nM
    · obtain ⟨g, kd, tgt, me, at1, pr, has, ee, ki, pe, x, m, d, xs, hg, hv, hl, hx, hmx, q0, q1, q2, q3, q4, q5, q6, q7, q8, q9⟩ := (h.new hnw).at k (by have := HN.out; omega)
      subst hg
      have HD : Hid ((if (if ¬ (tgt = 0 ∨ tgt = 1) then 1 else mlF tgt kd tgt me at1 pr has ee ki pe m) ≠ 0 then (if ¬ (tgt = 0 ∨ tgt = 1) then 1 else mlF tgt kd tgt me at1 pr has ee ki pe m) else ffF m1F ((V.map MlV.r).drop (k + 1))) = v) := by
        unfold Hid
        have h1 := ffF_at (g := m1F) (x := ⟨kd, tgt, me, at1, pr, has, ⟨ee, ki, pe, xs⟩⟩) (L := (V.map MlV.r)) (k := k) (by rw [List.getElem?_map, hv]; rfl)
        have h2 := hL.out
        rw [h1] at h2
        simp only [m1F, hl] at h2
        exact h2
      have hw1 := hnw.alloc (.cells #[.int .i64 kd, .int .i64 tgt, .int .i64 me, .int .i64 at1, .int .i64 pr, .bool has, .int .i64 ee, .int .i64 ki, .int .i64 pe, .slice x m d] 120)
      have bx := Blk.mk wr wr.heap.size 120 #[.int .i64 kd, .int .i64 tgt, .int .i64 me, .int .i64 at1, .int .i64 pr, .bool has, .int .i64 ee, .int .i64 ki, .int .i64 pe, .slice x m d] rfl
      have cx := bx.cells
      clear hv hl h hL cB
      by_cases ht : tgt = 0 ∨ tgt = 1
      · rw [if_neg (not_not_intro ht)] at HD
        go_wp2_with fail
        refine (isNode_yes tgt _ ht).mono ?_
        rintro e w2 ⟨rfl, hw2⟩
        obtain rfl := hw2.symm
        go_wp2_with fail
        refine (fFor_any tgt wr.heap.size kd tgt me at1 pr has ee ki pe x m d _ bx hmx).mono ?_
        rintro e w3 ⟨rfl, hn3⟩
        have hw3 := hw1.trans hn3
        clear q0 q1 q2 q3 q4 q5 q6 q7 q8 q9 cx bx
        generalize mlF tgt kd tgt me at1 pr has ee ki pe m = f at *
        by_cases hf : f = 0
        · have HR : Hid (ffF m1F ((V.map MlV.r).drop (k + 1)) = v) := (pick1 HD.out).2 hf
          subst hf
          clear HD
          go_wp2
          go_roundw
          case rel => exact ⟨k + 1, by omega, by go_num, hw3, HR⟩
          case measure => simp [intOf]; omega
        · obtain rfl : f = v := (pick1 HD.out).1 hf
          go_wp2
          go_ret
          exact ⟨rfl, hw3⟩
      · rw [if_pos ht] at HD
        obtain rfl : (1 : Int) = v := by have := HD.out; rw [if_pos (by decide)] at this; exact this
        go_wp2_with fail
        refine (isNode_no tgt _ ht).mono ?_
        rintro e w2 ⟨rfl, hw2⟩
        obtain rfl := hw2.symm
        go_wp2
        go_ret
        exact ⟨rfl, hw1⟩
    · have HR : Hid ((0 : Int) = v) := by unfold Hid; rw [← hL.out, ffF_end (by have := HN.out; simp; omega)]
      obtain rfl := HR.out
      go_wp2
      go_ret
      exact ⟨rfl, hnw⟩

theorem sealedI (sa si ho nx : Int) (a1 a2 aN aW aM aS : Option Addr) (n1 c1 n2 c2 nN cN nW cW nM cM nS cS : Nat) (r1 r2 : List Ru) (B : Nat) (V : List EkV) (w : World) (hb : Blk w B 47 #[.int .i64 sa, .int .i64 si, .int .i64 ho, .int .i64 nx, .slice a1 n1 c1, .slice a2 n2 c2, .slice aN nN cN, .slice aW nW cW, .slice aM nM cM, .slice aS nS cS]) (h : LgAt w aS V) (hn : V.length = nS) (hm : nS ≤ 1048576) (v : Int) (hv : seF (V.map EkV.r) = v) :
    Calls Tryz.prog 115 #[.pointer (some ⟨B, 0, none⟩)] w fun e w' => e = .returned (.int .i64 v) ∧ New w w' := by
  have HN : Hid (V.length = nS) := hn
  have HV : Hid ((if 100 < nS then 2 else ffF e1F (V.map EkV.r)) = v) := by unfold Hid; rw [← hv, ← hn]; simp [seF]
  have cB := hb.cells
  clear hn hv
  by_cases hbig : 100 < nS
  · obtain rfl : (2 : Int) = v := by have := HV.out; rw [if_pos hbig] at this; exact this
    go_enter Tryz.func115, Tryz.ntmps115
    go_wp2
    go_ret
    exact ⟨rfl, New.refl _⟩
  have HF : Hid (ffF e1F ((V.map EkV.r).drop 0) = v) := by unfold Hid; have := HV.out; rw [if_neg hbig] at this; simpa using this
  clear HV
  go_enter Tryz.func115, Tryz.ntmps115
  go_wp2
  go_loopw [17] (fun i wr => ∃ (k : Nat), k ≤ nS ∧ i = .int .i64 k ∧ New w wr ∧ Hid (ffF e1F ((V.map EkV.r).drop k) = v)) (fun i _ => nS - (intOf i).toNat)
  case atStart => exact ⟨0, Nat.zero_le _, rfl, New.refl _, HF⟩
  case round =>
    obtain ⟨k, hk, rfl, hnw, hL⟩ := hrel
    by_cases hlt : k < nS
    · obtain ⟨g, ep, ki, pe, x, m, d, xs, hg, hv, hl, hx, hmx, x0, x1, x2, x3⟩ := (h.new hnw).at k (by have := HN.out; omega)
      subst hg
      have HD : Hid ((if enF ep ki pe m ≠ 0 then enF ep ki pe m else ffF e1F ((V.map EkV.r).drop (k + 1))) = v) := by
        unfold Hid
        have h1 := ffF_at (g := e1F) (x := ⟨ep, ki, pe, xs⟩) (L := (V.map EkV.r)) (k := k) (by rw [List.getElem?_map, hv]; rfl)
        have h2 := hL.out
        rw [h1] at h2
        simp only [e1F, hl] at h2
        exact h2
      have hw1 := hnw.alloc (.cells #[.int .i64 ep, .int .i64 ki, .int .i64 pe, .slice x m d] 118)
      have bx := Blk.mk wr wr.heap.size 118 #[.int .i64 ep, .int .i64 ki, .int .i64 pe, .slice x m d] rfl
      clear hv hl h hL cB
      go_wp2_with fail
      refine (implEN ep ki pe x m d _ (by omega)).mono ?_
      rintro e w2 ⟨rfl, hn2⟩
      have hw2 := hw1.trans hn2
      clear x0 x1 x2 x3
      generalize enF ep ki pe m = f at *
      by_cases hf : f = 0
      · have HR : Hid (ffF e1F ((V.map EkV.r).drop (k + 1)) = v) := (pick1 HD.out).2 hf
        subst hf
        clear HD
        go_wp2
        go_roundw
        case rel => exact ⟨k + 1, by omega, by go_num, hw2, HR⟩
        case measure => simp [intOf]; omega
      · obtain rfl : f = v := (pick1 HD.out).1 hf
        go_wp2
        go_ret
        exact ⟨rfl, hw2⟩
    · have HR : Hid ((0 : Int) = v) := by unfold Hid; rw [← hL.out, ffF_end (by have := HN.out; simp; omega)]
      obtain rfl := HR.out
      go_wp2
      go_ret
      exact ⟨rfl, hnw⟩

theorem implPaF (sa si ho nx : Int) (a1 a2 aN aW aM aS : Option Addr) (n1 c1 n2 c2 nN cN nW cW nM cM nS cS : Nat) (r1 r2 : List Ru) (LN : List NdV) (LW : List WiV) (LM : List MlV) (LS : List EkV) (w : World) (h : PAt w a1 a2 aN aW aM aS r1 r2 LN LW LM LS) (l1 : r1.length = n1) (l2 : r2.length = n2) (lN : LN.length = nN) (lW : LW.length = nW) (lM : LM.length = nM) (lS : LS.length = nS) (m1 : n1 ≤ 1048576) (m2 : n2 ≤ 1048576) (mN : nN ≤ 1048576) (mW : nW ≤ 1048576) (mM : nM ≤ 1048576) (mS : nS ≤ 1048576) (v : Int) (hv : pF sa si ho nx r1 r2 (LN.map NdV.r) (LW.map WiV.r) (LM.map MlV.r) (LS.map EkV.r) = v) :
    Calls Tryz.prog 76 #[.agg #[.int .i64 sa, .int .i64 si, .int .i64 ho, .int .i64 nx, .slice a1 n1 c1, .slice a2 n2 c2, .slice aN nN cN, .slice aW nW cW, .slice aM nM cM, .slice aS nS cS]] w fun e w' => e = .returned (.int .i64 v) ∧ New w w' := by
  have hw := (New.refl w).alloc (.cells #[.int .i64 sa, .int .i64 si, .int .i64 ho, .int .i64 nx, .slice a1 n1 c1, .slice a2 n2 c2, .slice aN nN cN, .slice aW nW cW, .slice aM nM cM, .slice aS nS cS] 47)
  have b0 := Blk.mk w w.heap.size 47 #[.int .i64 sa, .int .i64 si, .int .i64 ho, .int .i64 nx, .slice a1 n1 c1, .slice a2 n2 c2, .slice aN nN cN, .slice aW nW cW, .slice aM nM cM, .slice aS nS cS] rfl
  have HV : Hid (q1F (stF sa si ho nx r1 r2) (if ¬ (nN = 2 ∧ nW = 3) then 1 else q1F (ndF (LN.map NdV.r)) (q1F (ffF w1F (LW.map WiV.r)) (q1F (msF (LM.map MlV.r)) (seF (LS.map EkV.r))))) = v) := by
    unfold Hid; rw [← hv]; simp only [pF, List.length_map, lN, lW]
  have LNh : Hid (LN.length = nN) := lN
  have LWh : Hid (LW.length = nW) := lW
  clear hv lN lW
  go_enter Tryz.func76, Tryz.ntmps76
  go_wp2_with fail
  refine (implSE sa si ho nx a1 a2 n1 c1 n2 c2 r1 r2 (stF sa si ho nx r1 r2) _ (h.s1.new hw) (h.s2.new hw) l1 l2 m1 m2 rfl).mono ?_
  rintro e w1 ⟨rfl, hn1⟩
  have hw1 := hw.trans hn1
  have b1 := b0.new hn1
  clear hw b0 hn1 l1 l2
  generalize stF sa si ho nx r1 r2 = f at *
  by_cases hf : f = 0
  case neg =>
    obtain rfl : f = v := (pickq HV.out).1 hf
    go_wp2
    go_ret
    exact ⟨rfl, hw1⟩
  subst hf
  have HV1 : Hid ((if ¬ (nN = 2 ∧ nW = 3) then 1 else q1F (ndF (LN.map NdV.r)) (q1F (ffF w1F (LW.map WiV.r)) (q1F (msF (LM.map MlV.r)) (seF (LS.map EkV.r))))) = v) := (pickq HV.out).2 rfl
  clear HV
  have c1' := b1.cells
  by_cases hl : nN = 2 ∧ nW = 3
  case neg =>
    obtain rfl : (1 : Int) = v := by have := HV1.out; rw [if_pos hl] at this; exact this
    by_cases hN : nN = 2
    · have hW : ¬ nW = 3 := fun e => hl ⟨hN, e⟩
      have e1 : ((nN : Int) != 2) = false := by simp; omega
      have e2 : ((nW : Int) != 3) = true := by simp; omega
      go_wp2
      go_ret
      exact ⟨rfl, hw1⟩
    · have e1 : ((nN : Int) != 2) = true := by simp; omega
      go_wp2
      go_ret
      exact ⟨rfl, hw1⟩
  obtain ⟨rfl, rfl⟩ := hl
  have HV2 : Hid (q1F (ndF (LN.map NdV.r)) (q1F (ffF w1F (LW.map WiV.r)) (q1F (msF (LM.map MlV.r)) (seF (LS.map EkV.r)))) = v) := by have := HV1.out; rw [if_neg (by simp)] at this; exact this
  clear HV1
  go_wp2_with fail
  refine (nodesI sa si ho nx a1 a2 aN aW aM aS n1 c1 n2 c2 2 cN 3 cW nM cM nS cS r1 r2 w.heap.size LN _ b1 (h.nd.new hw1) LNh.out mN _ (nkF_two (by simp [LNh.out]))).mono ?_
  rintro e w2 ⟨rfl, hn2⟩
  have hw2 := hw1.trans hn2
  have b2 := b1.new hn2
  clear c1' hw1 b1 hn2
  generalize ndF (LN.map NdV.r) = f at *
  by_cases hf : f = 0
  case neg =>
    obtain rfl : f = v := (pickq HV2.out).1 hf
    go_wp2
    go_ret
    exact ⟨rfl, hw2⟩
  subst hf
  have HV3 : Hid (q1F (ffF w1F ((LW.map WiV.r).drop 0)) (q1F (msF (LM.map MlV.r)) (seF (LS.map EkV.r))) = v) := (pickq HV2.out).2 rfl
  clear HV2
  have c2' := b2.cells
  go_wp2
  go_loopw [32] (fun i wr => ∃ (k : Nat), k ≤ 3 ∧ i = .int .i64 k ∧ New w2 wr ∧ Hid (q1F (ffF w1F ((LW.map WiV.r).drop k)) (q1F (msF (LM.map MlV.r)) (seF (LS.map EkV.r))) = v)) (fun i _ => 3 - (intOf i).toNat)
  case atStart => exact ⟨0, Nat.zero_le _, rfl, New.refl _, HV3⟩
  case round =>
    obtain ⟨k, hk, rfl, hnw, hL⟩ := hrel
    have hw3 := hw2.trans hnw
    by_cases hlt : k < 3
    · obtain ⟨g, E, T, x, x2, m, d, m2, d2, xs, ys, hg, hv, hl1, hl2, hx, hx2, hmx, hmx2, q0, q1, q2, q3⟩ := (h.wi.new hw3).at k (by have := LWh.out; omega)
      subst hg
      have HD : Hid (q1F (if wF E T m m2 ≠ 0 then wF E T m m2 else ffF w1F ((LW.map WiV.r).drop (k + 1))) (q1F (msF (LM.map MlV.r)) (seF (LS.map EkV.r))) = v) := by
        unfold Hid
        have h1 := ffF_at (g := w1F) (x := (E, T, xs, ys)) (L := (LW.map WiV.r)) (k := k) (by rw [List.getElem?_map, hv]; rfl)
        have h2 := hL.out
        rw [h1] at h2
        simp only [w1F, hl1, hl2] at h2
        exact h2
      have al := (New.refl wr).alloc (.cells #[.int .i64 E, .slice x m d, .int .i64 T, .slice x2 m2 d2] 132)
      have bx := Blk.mk wr wr.heap.size 132 #[.int .i64 E, .slice x m d, .int .i64 T, .slice x2 m2 d2] rfl
      clear hv hl1 hl2 hL c2'
      go_wp2_with fail
      refine (implWF E T x x2 m d m2 d2 _ (by omega) (by omega)).mono ?_
      rintro e w4 ⟨rfl, hn4⟩
      have hw4 := hnw.trans (al.trans hn4)
      clear q0 q1 q2 q3 bx
      generalize wF E T m m2 = f at *
      by_cases hf : f = 0
      · have HR : Hid (q1F (ffF w1F ((LW.map WiV.r).drop (k + 1))) (q1F (msF (LM.map MlV.r)) (seF (LS.map EkV.r))) = v) := by have h1 := HD.out; rw [if_neg (not_not_intro hf)] at h1; exact h1
        subst hf
        clear HD
        go_wp2
        go_roundw
        case rel => exact ⟨k + 1, by omega, by go_num, hw4, HR⟩
        case measure => simp [intOf]; omega
      · obtain rfl : f = v := by have h1 := HD.out; rw [if_pos hf] at h1; exact (pickq h1).1 hf
        go_wp2
        go_ret
        exact ⟨rfl, hw2.trans hw4⟩
    · have HR : Hid (q1F (msF (LM.map MlV.r)) (seF (LS.map EkV.r)) = v) := by
        unfold Hid
        have := hL.out
        rw [ffF_end (by have := LWh.out; simp; omega)] at this
        exact (pickq this).2 rfl
      have b3 := b2.new hnw
      clear hL
      go_wp2_with fail
      refine (mailsI sa si ho nx a1 a2 aN aW aM aS n1 c1 n2 c2 2 cN 3 cW nM cM nS cS r1 r2 w.heap.size LM _ b3 (h.mq.new hw3) lM mM _ rfl).mono ?_
      rintro e w4 ⟨rfl, hn4⟩
      have hw4 := hw3.trans hn4
      have b4 := b3.new hn4
      generalize msF (LM.map MlV.r) = f at *
      by_cases hf : f = 0
      · subst hf
        go_wp2_with fail
        refine (sealedI sa si ho nx a1 a2 aN aW aM aS n1 c1 n2 c2 2 cN 3 cW nM cM nS cS r1 r2 w.heap.size LS _ b4 (h.se.new hw4) lS mS v ((pickq HR.out).2 rfl)).mono ?_
        rintro e w5 ⟨rfl, hn5⟩
        go_wp2
        go_ret
        exact ⟨rfl, hw4.trans hn5⟩
      · obtain rfl : f = v := (pickq HR.out).1 hf
        go_wp2
        go_ret
        exact ⟨rfl, hw4⟩

end Go.Proofs.YtdbnmkffinhdjaaGreat
