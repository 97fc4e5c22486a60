/- Lemmas and contracts of one law. -/
import Derived.Test.YtdbnmkffinhdjaaGreatLV21
import Derived.Test.YtdbnmkffinhdjaaGreatLV13
import Derived.Test.YtdbnmkffinhdjaaGreatLV14
import Derived.Test.YtdbnmkffinhdjaaGreatLV16
import Derived.Test.YtdbnmkffinhdjaaGreatLV17
import Derived.Test.YtdbnmkffinhdjaaGreatLV20
namespace Go.Proofs.YtdbnmkffinhdjaaGreat
open Go.RowKit Go.Sort
set_option linter.unusedVariables false
set_option maxHeartbeats 25600000

set_option maxRecDepth 100000 in
theorem heldRu (x : Option Addr) (n c : Nat) (k : Int) (w : World) (h : RsAt w x (mkRs k n)) (hm : n ≤ 1048576) (hk0 : 0 ≤ k) (hk : k ≤ 16777216) :
    Calls Tryz.prog 126 #[.slice x n c, .int .i64 k] w fun e w' => e = .returned (.int .i64 (k + 8 * (n : Int))) ∧ New w w' := by
  go_enter Tryz.func126, Tryz.ntmps126
  go_wp2
  go_loopw [1, 5] (fun t i wr => ∃ (j : Nat) (z : Int), j ≤ n ∧ z = k + 8 * (j : Int) ∧ t = .int .i64 z ∧ i = .int .i64 j ∧ New w wr) (fun _ i _ => n - (intOf i).toNat)
  case atStart => exact ⟨0, k, Nat.zero_le _, by omega, rfl, rfl, New.refl _⟩
  case round =>
    obtain ⟨j, z, hj, hz, rfl, rfl, hnw⟩ := hrel
    by_cases hlt : j < n
    · obtain ⟨b, off, f0, f1, f2, f3, f4, f5, f6, f7, rfl, hv, q0, q1, q2, q3, q4, q5, q6, q7⟩ := (h.new hnw).at j (by rw [mkRs_length]; exact hlt)
      rw [mkRs_get k n j hlt, ← hz] at hv
      have hv' := Option.some.inj hv
      simp only [mkR1, Ru.mk.injEq] at hv'
      obtain ⟨rfl, rfl, rfl, rfl, rfl, rfl, rfl, rfl⟩ := hv'
      have hz1 : 0 ≤ z := by omega
      have hz2 : z ≤ 25165824 := by omega
      have HZ : Hid (z = k + 8 * (j : Int)) := hz
      have d0 : (z != z) = false := by simp
      have d1 : (z + 1 != z + 1) = false := by simp
      have d2 : (z + 1 + 1 != z + 1 + 1) = false := by simp
      have d3 : (z + 1 + 1 + 1 != z + 1 + 1 + 1) = false := by simp
      have d4 : (z + 1 + 1 + 1 + 1 != z + 1 + 1 + 1 + 1) = false := by simp
      have d6 : (z + 1 + 1 + 1 + 1 + 1 + 1 != z + 1 + 1 + 1 + 1 + 1 + 1) = false := by simp
      have d7 : (z + 1 + 1 + 1 + 1 + 1 + 1 + 1 != z + 1 + 1 + 1 + 1 + 1 + 1 + 1) = false := by simp
      have d5 : (((z + 1 + 1 + 1 + 1 + 1) % 3 == 0) != ((z + 1 + 1 + 1 + 1 + 1) % 3 == 0)) = false := by simp
      clear hv hz h
      go_wp2
      go_roundw
      case rel => exact ⟨j + 1, z + 1 + 1 + 1 + 1 + 1 + 1 + 1 + 1, by omega, by have := HZ.out; omega, rfl, by go_num, hnw⟩
      case measure => simp [intOf]; omega
    · obtain rfl : j = n := by omega
      go_wp2
      go_ret
      exact ⟨by subst hz; rfl, hnw⟩

theorem markB0 (k : Int) (w : World) : Calls Tryz.prog 49 #[.slice none 0 0, .int .i64 k] w fun e w' => e = .returned (.int .i64 k) ∧ w' = w := by
  go_enter Tryz.func49, Tryz.ntmps49
  go_wp2
  refine wp_loop_rounds 1 ?_
  rw [rounds_succ]
  go_wp2
  go_ret
  exact ⟨rfl, rfl⟩

theorem heldB0 (k : Int) (w : World) : Calls Tryz.prog 50 #[.slice none 0 0, .int .i64 k] w fun e w' => e = .returned (.int .i64 k) ∧ w' = w := by
  go_enter Tryz.func50, Tryz.ntmps50
  go_wp2
  refine wp_loop_rounds 1 ?_
  rw [rounds_succ]
  go_wp2
  go_ret
  exact ⟨rfl, rfl⟩



theorem OwR.ov {w : World} {g n c : Nat} {rs : List Ru} (h : OwR w g n c rs) : OvR w g (.slice (some ⟨g, 0, none⟩) n c) rs := by
  have hn := h.len
  subst hn
  refine ⟨h.1, ?_⟩
  rcases h.2 with h' | ⟨g', cap', cur, h', r⟩
  · exact .inl h'
  · have e3 : g = g' := by simpa [Value.ownBlock] using congrArg Value.ownBlock h'
    exact .inr ⟨g', cap', cur, h', by omega, r.2⟩

/-- A list of rules of the call's own, nil or not, is marked. -/
theorem markOv (x : Option Addr) (n d lo : Nat) (k : Int) (rs : List Ru) (w : World) (h : OvR w lo (.slice x n d) rs) (hm : n ≤ 1048576) (hk0 : 0 ≤ k) (hk : k ≤ 16777216) :
    Calls Tryz.prog 89 #[.slice x n d, .int .i64 k] w fun e w' => e = .returned (.int .i64 (k + 8 * (n : Int))) ∧ OvR w' lo (.slice x n d) (mkRs k n) ∧ Turn (fun j => (Value.slice x n d).ownBlock = some j) w w' := by
  rcases h.form with ⟨e, rfl⟩ | ⟨g, c, e, hl, hlt, ho⟩
  · simp only [Value.slice.injEq] at e
    obtain ⟨rfl, rfl, rfl⟩ := e
    go_enter Tryz.func89, Tryz.ntmps89
    go_wp2
    refine wp_loop_rounds 1 ?_
    rw [rounds_succ]
    go_wp2
    go_ret
    exact ⟨by simp, OvR.nil _ _, Turn.refl _ _⟩
  · simp only [Value.slice.injEq] at e
    obtain ⟨rfl, rfl, rfl⟩ := e
    refine (markRu g rs.length d k rs w ho hm hk0 hk).mono ?_
    rintro e w' ⟨rfl, o, t⟩
    refine ⟨rfl, ?_, ?_⟩
    · exact o.ov.low hl
    · exact ⟨t.os, t.tape, t.output, t.size, fun b hb hs => t.block b hb (fun e => hs (by rw [e]; rfl))⟩

theorem markSe (sa si ho nx : Int) (x1 x2 : Option Addr) (n1 d1 n2 d2 lo : Nat) (k : Int) (r1 r2 : List Ru) (w : World) (h1 : OvR w lo (.slice x1 n1 d1) r1) (h2 : OvR w lo (.slice x2 n2 d2) r2) (ap : ∀ j, (Value.slice x1 n1 d1).ownBlock = some j → (Value.slice x2 n2 d2).ownBlock ≠ some j) (m1 : n1 ≤ 1048576) (m2 : n2 ≤ 1048576) (hk0 : 0 ≤ k) (hk : k ≤ 1000) :
    Calls Tryz.prog 44 #[.agg #[.int .i64 sa, .int .i64 si, .int .i64 ho, .int .i64 nx, .slice x1 n1 d1, .slice x2 n2 d2], .int .i64 k] w fun e w' => e = .returned (.int .i64 (k + 8 * (n1 : Int) + 8 * (n2 : Int))) ∧ OvR w' lo (.slice x1 n1 d1) (mkRs k n1) ∧ OvR w' lo (.slice x2 n2 d2) (mkRs (k + 8 * (n1 : Int)) n2) ∧ Turn (fun j => (Value.slice x1 n1 d1).ownBlock = some j ∨ (Value.slice x2 n2 d2).ownBlock = some j) w w' := by
  have al : New w (w.alloc (.cells #[.int .i64 sa, .int .i64 si, .int .i64 ho, .int .i64 nx, .slice x1 n1 d1, .slice x2 n2 d2] 41)) := (New.refl w).alloc _
  have bA := Blk.mk w w.heap.size 41 #[.int .i64 sa, .int .i64 si, .int .i64 ho, .int .i64 nx, .slice x1 n1 d1, .slice x2 n2 d2] rfl
  have f1 := h1.blk
  have f2 := h2.blk
  have F1 : Hid _ := f1
  have F2 : Hid _ := f2
  have AP : Hid _ := ap
  have p1 := h1.new al
  have p2 := h2.new al
  clear h1 h2 f1 f2 ap
  go_enter Tryz.func44, Tryz.ntmps44
  go_upto_region 1 with fail
  generalize w.alloc (.cells #[.int .i64 sa, .int .i64 si, .int .i64 ho, .int .i64 nx, .slice x1 n1 d1, .slice x2 n2 d2] 41) = w0 at *
  have cA := bA.cells
  go_wp2_with fail
  refine (markOv x1 n1 d1 lo k r1 _ p1 m1 hk0 (by omega)).mono ?_
  rintro e w1 ⟨rfl, q1, t1⟩
  have bA1 := bA.turn t1 (fun e => by have := (F1.out _ e).2; omega)
  have q2 := p2.turn t1 (fun j hj e => AP.out j e hj)
  have hz1 : 0 ≤ k + 8 * (n1 : Int) := by omega
  have hz2 : k + 8 * (n1 : Int) ≤ 16777216 := by omega
  clear cA bA p1 p2
  have cA := bA1.cells
  obtain ⟨z, hz⟩ : ∃ z, Hid (k + 8 * (n1 : Int) = z) := ⟨_, rfl⟩
  rw [hz.out] at hz1 hz2
  simp only [hz.out]
  go_wp2_with fail
  refine (markOv x2 n2 d2 lo z r2 _ q2 m2 hz1 hz2).mono ?_
  rintro e w2 ⟨rfl, q3, t2⟩
  have q4 := q1.turn t2 (fun j hj e => AP.out j hj e)
  have Q3 : Hid _ := q3
  have Q4 : Hid _ := q4
  have TT : Hid (Turn (fun j => (Value.slice x1 n1 d1).ownBlock = some j ∨ (Value.slice x2 n2 d2).ownBlock = some j) w w2) := by
    have a1 : Turn (fun j => (Value.slice x1 n1 d1).ownBlock = some j ∨ (Value.slice x2 n2 d2).ownBlock = some j) w w1 := Turn.trans (⟨al.os, al.tape, al.output, al.size, fun b hb hs => al.block b hb (fun f => f)⟩ : Turn (fun j => (Value.slice x1 n1 d1).ownBlock = some j ∨ (Value.slice x2 n2 d2).ownBlock = some j) w w0) t1 (fun i _ e => Or.inl e)
    exact Turn.trans a1 t2 (fun i _ e => Or.inr e)
  clear q1 q2 q3 q4 t1 t2 cA bA1
  go_wp2
  go_ret
  exact ⟨ret_i64 (by rw [hz.out]), Q4.out, hz.out.symm ▸ Q3.out, TT.out⟩

theorem heldSe (sa si ho nx : Int) (x1 x2 : Option Addr) (n1 d1 n2 d2 : Nat) (k : Int) (w : World) (h1 : RsAt w x1 (mkRs k n1)) (h2 : RsAt w x2 (mkRs (k + 8 * (n1 : Int)) n2)) (m1 : n1 ≤ 1048576) (m2 : n2 ≤ 1048576) (hk0 : 0 ≤ k) (hk : k ≤ 1000) :
    Calls Tryz.prog 90 #[.agg #[.int .i64 sa, .int .i64 si, .int .i64 ho, .int .i64 nx, .slice x1 n1 d1, .slice x2 n2 d2], .int .i64 k] w fun e w' => e = .returned (.int .i64 (k + 8 * (n1 : Int) + 8 * (n2 : Int))) ∧ New w w' := by
  have al : New w (w.alloc (.cells #[.int .i64 sa, .int .i64 si, .int .i64 ho, .int .i64 nx, .slice x1 n1 d1, .slice x2 n2 d2] 41)) := (New.refl w).alloc _
  have bA := Blk.mk w w.heap.size 41 #[.int .i64 sa, .int .i64 si, .int .i64 ho, .int .i64 nx, .slice x1 n1 d1, .slice x2 n2 d2] rfl
  go_enter Tryz.func90, Tryz.ntmps90
  go_upto_region 1 with fail
  generalize w.alloc (.cells #[.int .i64 sa, .int .i64 si, .int .i64 ho, .int .i64 nx, .slice x1 n1 d1, .slice x2 n2 d2] 41) = w0 at *
  have cA := bA.cells
  go_wp2_with fail
  refine (heldRu x1 n1 d1 k _ (h1.new al) m1 hk0 (by omega)).mono ?_
  rintro e w1 ⟨rfl, t1⟩
  have bA1 := bA.new t1
  have h2' := (h2.new al).new t1
  have hz1 : 0 ≤ k + 8 * (n1 : Int) := by omega
  have hz2 : k + 8 * (n1 : Int) ≤ 16777216 := by omega
  clear cA bA h1 h2
  have cA := bA1.cells
  generalize hzz : k + 8 * (n1 : Int) = z at *
  have HZ : Hid (k + 8 * (n1 : Int) = z) := hzz
  clear hzz
  go_wp2_with fail
  refine (heldRu x2 n2 d2 z _ h2' m2 hz1 hz2).mono ?_
  rintro e w2 ⟨rfl, t2⟩
  have hz3 : 0 ≤ z + 8 * (n2 : Int) := by omega
  go_wp2
  go_ret
  exact ⟨ret_i64 (by rw [HZ.out]), (al.trans t1).trans t2⟩

end Go.Proofs.YtdbnmkffinhdjaaGreat

namespace Go.Proofs.YtdbnmkffinhdjaaGreat
open Go.ChangeShapes Go.WideShapes Go.ChangeAt Go.RowKit Go.Deep Go.Sort
set_option linter.unusedVariables false
set_option linter.unusedSimpArgs false
set_option maxRecDepth 100000
set_option maxHeartbeats 25600000

/-- A pair in memory. -/
structure PrV where
  sa : Int
  si : Int
  ho : Int
  nx : Int
  a1 : Option Addr
  n1 : Nat
  c1 : Nat
  a2 : Option Addr
  n2 : Nat
  c2 : Nat
  aN : Option Addr
  nN : Nat
  cN : Nat
  aW : Option Addr
  nW : Nat
  cW : Nat
  aM : Option Addr
  nM : Nat
  cM : Nat
  aS : Option Addr
  nS : Nat
  cS : Nat
  r1 : List Ru
  r2 : List Ru
  VN : List NdV
  VW : List WiV
  VM : List MlV
  VS : List EkV
/-- Two pairs read alike. -/
structure PrE (P Q : PrV) : Prop where
  sa : P.sa = Q.sa
  si : P.si = Q.si
  ho : P.ho = Q.ho
  nx : P.nx = Q.nx
  n1 : P.n1 = Q.n1
  n2 : P.n2 = Q.n2
  nN : P.nN = Q.nN
  nW : P.nW = Q.nW
  nM : P.nM = Q.nM
  nS : P.nS = Q.nS
  r1 : P.r1 = Q.r1
  r2 : P.r2 = Q.r2
  nd : P.VN.map NdV.r = Q.VN.map NdV.r
  wi : P.VW.map WiV.r = Q.VW.map WiV.r
  mq : P.VM.map MlV.r = Q.VM.map MlV.r
  se : P.VS.map EkV.r = Q.VS.map EkV.r
theorem PrE.symm {P Q : PrV} (h : PrE P Q) : PrE Q P := ⟨h.sa.symm, h.si.symm, h.ho.symm, h.nx.symm, h.n1.symm, h.n2.symm, h.nN.symm, h.nW.symm, h.nM.symm, h.nS.symm, h.r1.symm, h.r2.symm, h.nd.symm, h.wi.symm, h.mq.symm, h.se.symm⟩
theorem PrE.trans {P Q R : PrV} (h : PrE P Q) (k : PrE Q R) : PrE P R := ⟨h.sa.trans k.sa, h.si.trans k.si, h.ho.trans k.ho, h.nx.trans k.nx, h.n1.trans k.n1, h.n2.trans k.n2, h.nN.trans k.nN, h.nW.trans k.nW, h.nM.trans k.nM, h.nS.trans k.nS, h.r1.trans k.r1, h.r2.trans k.r2, h.nd.trans k.nd, h.wi.trans k.wi, h.mq.trans k.mq, h.se.trans k.se⟩
/-- How many things a pair has, and that they are not too many. -/
structure PrL (P : PrV) : Prop where
  l1 : P.r1.length = P.n1
  l2 : P.r2.length = P.n2
  lN : P.VN.length = P.nN
  lW : P.VW.length = P.nW
  lM : P.VM.length = P.nM
  lS : P.VS.length = P.nS
  m1 : P.n1 ≤ 1048576
  m2 : P.n2 ≤ 1048576
  mN : P.nN ≤ 1048576
  mW : P.nW ≤ 1048576
  mM : P.nM ≤ 1048576
  mS : P.nS ≤ 1048576
  tN : totNd P.VN ≤ 2097152
  tW : totWi P.VW ≤ 2097152
  tM : totMq P.VM ≤ 2097152
  tS : totK P.VS ≤ 2097152
/-- A pair that can be read. -/
structure PrRd (w : World) (P : PrV) : Prop where
  s1 : RsAt w P.a1 P.r1
  s2 : RsAt w P.a2 P.r2
  nd : NdAt w P.aN P.VN
  wi : WiAt w P.aW P.VW
  mq : MqAt w P.aM P.VM
  se : LgAt w P.aS P.VS
theorem PrRd.new {w w' : World} {P : PrV} (h : PrRd w P) (t : New w w') : PrRd w' P := ⟨h.s1.new t, h.s2.new t, h.nd.new t, h.wi.new t, h.mq.new t, h.se.new t⟩

theorem OwN1.turn {w w' : World} {F : Nat → Prop} {g n c : Nat} {P Q : Nat → Nat} {U : List NdV} {S : Nat → Prop} (h : OwN1 w F g n c P Q U) (t : Turn S w w') (hS : ∀ x, F x → ¬ S x) : OwN1 w' F g n c P Q U :=
  ⟨row_turnN h.row t (hS g h.glo), fun i u hu => (h.own i u hu).turn t (fun k a b => hS k ((h.inn i (List.getElem?_eq_some_iff.1 hu).1).1 k a b)), h.tot, h.inn, h.glo, h.apart⟩
theorem OwW1.turn {w w' : World} {F : Nat → Prop} {g n c : Nat} {U : List WiV} {S : Nat → Prop} (h : OwW1 w F g n c U) (t : Turn S w w') (hS : ∀ x, F x → ¬ S x) : OwW1 w' F g n c U :=
  ⟨row_turnW h.row t (hS g h.glo), fun i u hu => ⟨(h.own i u hu).1.turn t (fun x hx => hS _ (h.inn u (List.mem_of_getElem? hu) x (.inl hx)).1), (h.own i u hu).2.turn t (fun x hx => hS _ (h.inn u (List.mem_of_getElem? hu) x (.inr hx)).1)⟩, h.len, h.inn, h.glo, h.self, h.apart⟩
theorem OwQ1.turn {w w' : World} {F : Nat → Prop} {g n c : Nat} {U : List MlV} {S : Nat → Prop} (h : OwQ1 w F g n c U) (t : Turn S w w') (hS : ∀ x, F x → ¬ S x) : OwQ1 w' F g n c U :=
  ⟨row_turnQ h.row t (hS g h.glo), fun i u hu => (h.own i u hu).turn t (fun x hx => hS _ (h.inn u (List.mem_of_getElem? hu) x hx).1), h.len, h.inn, h.glo, h.apart⟩
theorem OwN1.new {w w' : World} {F : Nat → Prop} {g n c : Nat} {P Q : Nat → Nat} {U : List NdV} (h : OwN1 w F g n c P Q U) (t : New w w') : OwN1 w' F g n c P Q U := h.turn t (fun _ _ f => f)
theorem OwW1.new {w w' : World} {F : Nat → Prop} {g n c : Nat} {U : List WiV} (h : OwW1 w F g n c U) (t : New w w') : OwW1 w' F g n c U := h.turn t (fun _ _ f => f)
theorem OwQ1.new {w w' : World} {F : Nat → Prop} {g n c : Nat} {U : List MlV} (h : OwQ1 w F g n c U) (t : New w w') : OwQ1 w' F g n c U := h.turn t (fun _ _ f => f)
theorem OwN1.mono {w : World} {F G : Nat → Prop} {g n c : Nat} {P Q : Nat → Nat} {U : List NdV} (h : OwN1 w F g n c P Q U) (hF : ∀ x, F x → G x) : OwN1 w G g n c P Q U := ⟨h.row, h.own, h.tot, fun i hi => ⟨fun x a b => hF x ((h.inn i hi).1 x a b), (h.inn i hi).2⟩, hF g h.glo, h.apart⟩
theorem OwW1.mono {w : World} {F G : Nat → Prop} {g n c : Nat} {U : List WiV} (h : OwW1 w F g n c U) (hF : ∀ x, F x → G x) : OwW1 w G g n c U := ⟨h.row, h.own, h.len, fun u hu x hx => ⟨hF _ (h.inn u hu x hx).1, (h.inn u hu x hx).2⟩, hF g h.glo, h.self, h.apart⟩
theorem OwQ1.mono {w : World} {F G : Nat → Prop} {g n c : Nat} {U : List MlV} (h : OwQ1 w F g n c U) (hF : ∀ x, F x → G x) : OwQ1 w G g n c U := ⟨h.row, h.own, h.len, fun u hu x hx => ⟨hF _ (h.inn u hu x hx).1, (h.inn u hu x hx).2⟩, hF g h.glo, h.apart⟩

/-- Lists of the call's own, or nil. -/
def OwNn (w : World) (F : Nat → Prop) (A : Option Addr) (n c : Nat) (U : List NdV) : Prop := (A = none ∧ n = 0 ∧ c = 0 ∧ U = []) ∨ ∃ g P Q, A = some ⟨g, 0, none⟩ ∧ OwN1 w F g n c P Q U
def OwWn (w : World) (F : Nat → Prop) (A : Option Addr) (n c : Nat) (U : List WiV) : Prop := (A = none ∧ n = 0 ∧ c = 0 ∧ U = []) ∨ ∃ g, A = some ⟨g, 0, none⟩ ∧ OwW1 w F g n c U
def OwQn (w : World) (F : Nat → Prop) (A : Option Addr) (n c : Nat) (U : List MlV) : Prop := (A = none ∧ n = 0 ∧ c = 0 ∧ U = []) ∨ ∃ g, A = some ⟨g, 0, none⟩ ∧ OwQ1 w F g n c U
theorem OwNn.turn {w w' : World} {F : Nat → Prop} {A : Option Addr} {n c : Nat} {U : List NdV} {S : Nat → Prop} (h : OwNn w F A n c U) (t : Turn S w w') (hS : ∀ x, F x → ¬ S x) : OwNn w' F A n c U := by
  rcases h with h | ⟨g, P, Q, e, h⟩
  · exact .inl h
  · exact .inr ⟨g, P, Q, e, h.turn t hS⟩
theorem OwWn.turn {w w' : World} {F : Nat → Prop} {A : Option Addr} {n c : Nat} {U : List WiV} {S : Nat → Prop} (h : OwWn w F A n c U) (t : Turn S w w') (hS : ∀ x, F x → ¬ S x) : OwWn w' F A n c U := by
  rcases h with h | ⟨g, e, h⟩
  · exact .inl h
  · exact .inr ⟨g, e, h.turn t hS⟩
theorem OwQn.turn {w w' : World} {F : Nat → Prop} {A : Option Addr} {n c : Nat} {U : List MlV} {S : Nat → Prop} (h : OwQn w F A n c U) (t : Turn S w w') (hS : ∀ x, F x → ¬ S x) : OwQn w' F A n c U := by
  rcases h with h | ⟨g, e, h⟩
  · exact .inl h
  · exact .inr ⟨g, e, h.turn t hS⟩
theorem OwNn.mono {w : World} {F G : Nat → Prop} {A : Option Addr} {n c : Nat} {U : List NdV} (h : OwNn w F A n c U) (hF : ∀ x, F x → G x) : OwNn w G A n c U := by
  rcases h with h | ⟨g, P, Q, e, h⟩
  · exact .inl h
  · exact .inr ⟨g, P, Q, e, h.mono hF⟩
theorem OwWn.mono {w : World} {F G : Nat → Prop} {A : Option Addr} {n c : Nat} {U : List WiV} (h : OwWn w F A n c U) (hF : ∀ x, F x → G x) : OwWn w G A n c U := by
  rcases h with h | ⟨g, e, h⟩
  · exact .inl h
  · exact .inr ⟨g, e, h.mono hF⟩
theorem OwQn.mono {w : World} {F G : Nat → Prop} {A : Option Addr} {n c : Nat} {U : List MlV} (h : OwQn w F A n c U) (hF : ∀ x, F x → G x) : OwQn w G A n c U := by
  rcases h with h | ⟨g, e, h⟩
  · exact .inl h
  · exact .inr ⟨g, e, h.mono hF⟩
theorem OwNn.rd {w : World} {F : Nat → Prop} {A : Option Addr} {n c : Nat} {U : List NdV} (h : OwNn w F A n c U) : NdAt w A U := by
  rcases h with ⟨rfl, -, -, rfl⟩ | ⟨g, P, Q, rfl, h⟩
  · intro i v hv; simp at hv
  · intro i v hv
    have hi : i < U.length := (List.getElem?_eq_some_iff.1 hv).1
    refine ⟨⟨g, rfl, fun j hj => ?_⟩, (h.own i v hv).lg.1, h.tot v (List.mem_of_getElem? hv)⟩
    have hl := h.row.1
    rw [cellsNd_len] at hl
    rw [World.ownsRow.cellAt h.row (i * 9 + j) (by omega)]
    exact cellsNd_get U i v hv j hj
theorem OwWn.rd {w : World} {F : Nat → Prop} {A : Option Addr} {n c : Nat} {U : List WiV} (h : OwWn w F A n c U) (hb : ∀ u ∈ U, (∀ z ∈ u.xs, By z) ∧ ∀ z ∈ u.ys, By z) : WiAt w A U := by
  rcases h with ⟨rfl, -, -, rfl⟩ | ⟨g, rfl, h⟩
  · intro i v hv; simp at hv
  · intro i v hv
    have hi : i < U.length := (List.getElem?_eq_some_iff.1 hv).1
    refine ⟨⟨g, rfl, fun j hj => ?_⟩, (h.own i v hv).1.bs (hb v (List.mem_of_getElem? hv)).1, (h.own i v hv).2.bs (hb v (List.mem_of_getElem? hv)).2, (h.len v (List.mem_of_getElem? hv)).1, (h.len v (List.mem_of_getElem? hv)).2⟩
    have hl := h.row.1
    rw [cellsWi_len] at hl
    rw [World.ownsRow.cellAt h.row (i * 4 + j) (by omega)]
    exact cellsWi_get U i v hv j hj
theorem OwQn.rd {w : World} {F : Nat → Prop} {A : Option Addr} {n c : Nat} {U : List MlV} (h : OwQn w F A n c U) (hb : ∀ u ∈ U, ∀ z ∈ u.m.e.xs, By z) : MqAt w A U := by
  rcases h with ⟨rfl, -, -, rfl⟩ | ⟨g, rfl, h⟩
  · intro i v hv; simp at hv
  · intro i v hv
    have hi : i < U.length := (List.getElem?_eq_some_iff.1 hv).1
    refine ⟨⟨g, rfl, fun j hj => ?_⟩, (h.own i v hv).bs (hb v (List.mem_of_getElem? hv)), h.len v (List.mem_of_getElem? hv)⟩
    have hl := h.row.1
    rw [cellsMq_len] at hl
    rw [World.ownsRow.cellAt h.row (i * 10 + j) (by omega)]
    exact cellsMq_get U i v hv j hj

theorem OvR.rd16 {w : World} {lo n d : Nat} {x : Option Addr} {rs : List Ru} (h : OvR w lo (.slice x n d) rs) : RsAt w x rs := by
  obtain ⟨a, c, e, h1, -⟩ := h.rs
  simp only [Value.slice.injEq] at e
  obtain ⟨rfl, -, -⟩ := e
  exact h1
/-- Blocks of a colour, from b0 up to b1. -/
def Cl (col : Nat → Nat) (b0 b1 k : Nat) (x : Nat) : Prop := col x = k ∧ b0 ≤ x ∧ x < b1
/-- A pair of the call's own, from b0 up to b1. -/
structure PrOw (w : World) (b0 b1 : Nat) (col : Nat → Nat) (P : PrV) : Prop where
  o1 : OvR w b0 (.slice P.a1 P.n1 P.c1) P.r1
  o2 : OvR w b0 (.slice P.a2 P.n2 P.c2) P.r2
  k1 : ∀ j, (Value.slice P.a1 P.n1 P.c1).ownBlock = some j → Cl col b0 b1 5 j
  k2 : ∀ j, (Value.slice P.a2 P.n2 P.c2).ownBlock = some j → Cl col b0 b1 6 j
  oN : OwNn w (Cl col b0 b1 1) P.aN P.nN P.cN P.VN
  oW : OwWn w (Cl col b0 b1 2) P.aW P.nW P.cW P.VW
  oQ : OwQn w (Cl col b0 b1 3) P.aM P.nM P.cM P.VM
  oS : ∃ lo hi, OwL w lo hi (.slice P.aS P.nS P.cS) P.VS ∧ ∀ x, lo ≤ x → x < hi → Cl col b0 b1 4 x
  bW : ∀ u ∈ P.VW, (∀ z ∈ u.xs, By z) ∧ ∀ z ∈ u.ys, By z
  bM : ∀ u ∈ P.VM, ∀ z ∈ u.m.e.xs, By z
theorem PrOw.turn {w w' : World} {b0 b1 : Nat} {col : Nat → Nat} {P : PrV} {S : Nat → Prop} (h : PrOw w b0 b1 col P) (t : Turn S w w') (hS : ∀ x, b0 ≤ x → x < b1 → ¬ S x) : PrOw w' b0 b1 col P := by
  obtain ⟨lo, hi, hs, hc⟩ := h.oS
  exact ⟨h.o1.turn t (fun k hk => hS k (h.k1 k hk).2.1 (h.k1 k hk).2.2), h.o2.turn t (fun k hk => hS k (h.k2 k hk).2.1 (h.k2 k hk).2.2), h.k1, h.k2, h.oN.turn t (fun x hx => hS x hx.2.1 hx.2.2), h.oW.turn t (fun x hx => hS x hx.2.1 hx.2.2), h.oQ.turn t (fun x hx => hS x hx.2.1 hx.2.2), ⟨lo, hi, hs.turn t (fun k a b => hS k (hc k a b).2.1 (hc k a b).2.2), hc⟩, h.bW, h.bM⟩
theorem PrOw.new {w w' : World} {b0 b1 : Nat} {col : Nat → Nat} {P : PrV} (h : PrOw w b0 b1 col P) (t : New w w') : PrOw w' b0 b1 col P := h.turn t (fun _ _ _ f => f)
theorem PrOw.rd {w : World} {b0 b1 : Nat} {col : Nat → Nat} {P : PrV} (h : PrOw w b0 b1 col P) : PrRd w P := by
  obtain ⟨lo, hi, hs, hc⟩ := h.oS
  exact ⟨h.o1.rd16, h.o2.rd16, h.oN.rd, h.oW.rd h.bW, h.oQ.rd h.bM, hs.lg.1⟩
theorem PrOw.nl {w : World} {b0 b1 : Nat} {col : Nat → Nat} {P : PrV} (h : PrOw w b0 b1 col P) : NlK P.VS ∧ ∀ v ∈ P.VN, NlK v.V := by
  obtain ⟨lo, hi, hs, hc⟩ := h.oS
  refine ⟨hs.nl, fun v hv => ?_⟩
  rcases h.oN with ⟨-, -, -, e⟩ | ⟨g, A, B, -, k⟩
  · rw [e] at hv; cases hv
  · obtain ⟨i, hi'⟩ := List.getElem?_of_mem hv
    exact (k.own i v hi').nl

end Go.Proofs.YtdbnmkffinhdjaaGreat

namespace Go.Proofs.YtdbnmkffinhdjaaGreat
open Go.ChangeShapes Go.WideShapes Go.ChangeAt Go.RowKit Go.Deep Go.Sort
set_option linter.unusedVariables false
set_option linter.unusedSimpArgs false
set_option maxHeartbeats 25600000

def SomW (V : List WiV) : Prop := ∀ v ∈ V, (∃ g, v.a = some ⟨g, 0, none⟩) ∧ (∃ g, v.b = some ⟨g, 0, none⟩) ∧ v.xs.length ≤ v.c ∧ v.ys.length ≤ v.d
def SomM (V : List MlV) : Prop := ∀ v ∈ V, ∃ g, v.a = some ⟨g, 0, none⟩

theorem toWiS_som (A : Option Addr) (n c : Nat) (V : List WiV) (w : World) (h : WiCame w A V) (hn : V.length = n) (hm : totWi V ≤ 1048576) :
    Calls Tryz.prog 32 #[.slice A n c] w fun e w' => ∃ g V', e = .returned (.slice (some ⟨g, 0, none⟩) n n) ∧ V'.map WiV.r = V.map WiV.r ∧ RwWi w' g n n V' ∧ w.heap.size = g ∧ ApW w' (w.heap.size + 1) V' ∧ SomW V' ∧ New w w' := by
  have HN : Hid (V.length = n) := hn
  have hn1 : n ≤ 1048576 := by have := totWi_len V; omega
  have HM : Hid (∀ v ∈ V, v.tot ≤ 1048576) := fun v hv => Nat.le_trans (totWi_mem V v hv) hm
  clear hn hm
  obtain ⟨i0, hi, hz0, hz1, hz2⟩ := info_parts Tryz.infoWi
  go_enter Tryz.func32, Tryz.ntmps32
  go_wp2_with (at_make; refine wpList_make_full _ rfl _ _ 43 rfl w.heap.size 132 i0 (.agg #[.int .i64 0, .slice none 0 0, .int .i64 0, .slice none 0 0]) 4 Tryz.underlying43 hi hz0 hz1 _ _ _ _ n rfl rfl rfl rfl ?b2 ?b3 (Nat.le_refl _) ?_)
  case b2 => rw [hz2]; omega
  case b3 => unfold maxLen; omega
  intro w0 hown0 hgrow0
  have hown : RwWi w0 w.heap.size n n ([] ++ List.replicate (n - 0) zWi) := by
    have := own_base hown0
    have e8 := madeWi n
    simp only [RwWi, List.nil_append, Nat.sub_zero]
    rw [← e8]
    exact this
  have hnew := New.of_grown hgrow0
  clear hown0 hgrow0
  go_wp2
  go_loopw [4] (fun i wr => ∃ (k : Nat) (V' : List WiV), k ≤ n ∧ i = .int .i64 k ∧ V'.length = k ∧ V'.map WiV.r = (V.take k).map WiV.r ∧ New w wr ∧ RwWi wr w.heap.size n n (V' ++ List.replicate (n - k) zWi) ∧ ApW wr (w.heap.size + 1) V' ∧ SomW V') (fun i _ => n - (intOf i).toNat)
  case atStart => exact ⟨0, [], Nat.zero_le _, rfl, rfl, rfl, hnew, hown, ⟨fun i v hv => by simp at hv, fun i j u v x y hi => by simp at hi⟩, fun v hv => by cases hv⟩
  case round =>
    obtain ⟨k, V', hk, rfl, hl', hmap, hnw, how, hpa, hso⟩ := hrel
    have HL' : Hid (V'.length = k) := hl'
    clear hl'
    by_cases hlt : k < n
    · obtain ⟨b, off, E, T, x, x2, m, d, m2, d2, xs, ys, rfl, hv, hlen, hlen2, hns, hns2, hmx, hmx2, q0, q1, q2, q3⟩ := (h.new hnw).at k (by have := HN.out; omega)
      have HL : Hid (xs.length = m) := hlen
      have HL2 : Hid (ys.length = m2) := hlen2
      clear hlen hlen2
      have hmm := HM.out _ (List.mem_of_getElem? hv)
      simp only [WiV.tot, HL.out, HL2.out] at hmm
      have hbd : Hid (∀ z ∈ xs, By z) := hns.lt
      have hbd2 : Hid (∀ z ∈ ys, By z) := hns2.lt
      have HMp : Hid (∀ u : WiV, u.r = WiV.r ⟨E, T, x, x2, d, d2, xs, ys⟩ → (V' ++ [u]).map WiV.r = (V.take (k + 1)).map WiV.r) := by
        intro u hu
        obtain ⟨hk', e⟩ := List.getElem?_eq_some_iff.1 hv
        rw [List.take_succ_eq_append_getElem hk', e, List.map_append, List.map_append, hmap]
        simp [hu]
      have hgl : w.heap.size < wr.heap.size := how.lt
      clear hv hmap
      go_wp2_with fail
      refine (toW_any E T x x2 m d m2 d2 xs ys _ hns hns2 HL.out HL2.out (by omega) (by omega)).mono ?_
      rintro e w1 ⟨g, g2, rfl, hg, hg2, ho, ho2, hn1'⟩
      have how1 := how.new hn1'
      have hput := how1.put k (WiV.mk E T (some (Addr.mk g 0 none)) (some (Addr.mk g2 0 none)) m m2 xs ys)
      rw [set_fillWi V' k n HL'.out hlt] at hput
      simp only [HL.out, HL2.out] at hput
      have HPU : Hid _ := hput
      have hn2 := hnw.trans hn1'
      have HPA : Hid (ApW w1 (w.heap.size + 1) (V' ++ [(WiV.mk E T (some (Addr.mk g 0 none)) (some (Addr.mk g2 0 none)) m m2 xs ys)])) := by
        refine (hpa.new hn1').snoc (l := wr.heap.size) (WiV.mk E T (some (Addr.mk g 0 none)) (some (Addr.mk g2 0 none)) m m2 xs ys) (by simp only [HL.out, HL2.out]; exact ⟨OwAt.of_own ho, OwAt.of_own ho2⟩) (by simp only [HL.out, HL2.out]; exact ⟨by omega, by omega⟩) (by intro x hx; have z1 := (ho.lt g rfl).2; have z2 := (ho2.lt g2 rfl).2; rcases hx with hx | hx; (cases hx; exact ⟨(by show wr.heap.size ≤ g; omega), z1⟩); (cases hx; exact ⟨(by show wr.heap.size ≤ g2; omega), z2⟩)) (by intro x y hx hy; cases hx; cases hy; show ¬ g = g2; omega) (by omega) ?_
        intro u hu x hx
        obtain ⟨i, hi'⟩ := List.getElem?_of_mem hu
        exact ((hpa.1 i u hi').2.2.1 x hx).2
      have HR : Hid (WiV.r (WiV.mk E T (some (Addr.mk g 0 none)) (some (Addr.mk g2 0 none)) m m2 xs ys) = WiV.r ⟨E, T, x, x2, d, d2, xs, ys⟩) := by
        rfl
      have HSO : Hid (SomW (V' ++ [(WiV.mk E T (some (Addr.mk g 0 none)) (some (Addr.mk g2 0 none)) m m2 xs ys)])) := by
        intro v hv
        rcases List.mem_append.1 hv with hv | hv
        · exact hso v hv
        · obtain rfl := List.mem_singleton.1 hv
          exact ⟨⟨g, rfl⟩, ⟨g2, rfl⟩, Nat.le_of_eq HL.out, Nat.le_of_eq HL2.out⟩
      clear hso
      have f0 := fun j => World.ownsRow.frozenAt how1 j
      obtain ⟨v0, c0⟩ := how1.cell (k * 4) (by omega)
      obtain ⟨v1, c1⟩ := how1.cell (k * 4 + 1) (by omega)
      obtain ⟨v2, c2⟩ := how1.cell (k * 4 + 2) (by omega)
      obtain ⟨v3, c3⟩ := how1.cell (k * 4 + 3) (by omega)
      clear h how how1 q0 q1 q2 q3 hnw hpa hput hns hns2 ho ho2
      go_wp2
      go_roundw
      case rel =>
        have tt : Turn (fun j => j = w.heap.size) w1 ((((w1.setCell ⟨w.heap.size, k * 4, none⟩ (.int .i64 E)).setCell ⟨w.heap.size, k * 4 + 1, none⟩ (.slice (some ⟨g, 0, none⟩) m m)).setCell ⟨w.heap.size, k * 4 + 2, none⟩ (.int .i64 T)).setCell ⟨w.heap.size, k * 4 + 3, none⟩ (.slice (some ⟨g2, 0, none⟩) m2 m2)) := setWik w1 w.heap.size (k * 4) _ _ _ _
        refine ⟨k + 1, V' ++ [(WiV.mk E T (some (Addr.mk g 0 none)) (some (Addr.mk g2 0 none)) m m2 xs ys)], by omega, by go_num, by simp [HL'.out], HMp.out _ HR.out, ?_, HPU.out, ?_, HSO.out⟩
        · exact hn2.before tt (by intro i hi e; omega)
        · exact HPA.out.turn tt (by intro j h1 h2 e; omega)
      case measure => simp [intOf]; omega
    · go_wp2
      go_ret
      have hkn : k = n := by omega
      subst hkn
      rw [List.take_of_length_le (by have := HN.out; omega)] at hmap
      simp only [Nat.sub_self, List.replicate_zero, List.append_nil] at how
      exact ⟨_, V', rfl, hmap, how, rfl, hpa, hso, hnw⟩


theorem toMqS_som (A : Option Addr) (n c : Nat) (V : List MlV) (w : World) (h : MqCame w A V) (hn : V.length = n) (hm : totMq V ≤ 1048576) :
    Calls Tryz.prog 33 #[.slice A n c] w fun e w' => ∃ g V', e = .returned (.slice (some ⟨g, 0, none⟩) n n) ∧ V'.map MlV.r = V.map MlV.r ∧ RwMq w' g n n V' ∧ w.heap.size = g ∧ ApM w' (w.heap.size + 1) V' ∧ SomM V' ∧ New w w' := by
  have HN : Hid (V.length = n) := hn
  have hn1 : n ≤ 1048576 := by have := totMq_len V; omega
  have HM : Hid (∀ v ∈ V, v.tot ≤ 1048576) := fun v hv => Nat.le_trans (totMq_mem V v hv) hm
  clear hn hm
  obtain ⟨i0, hi, hz0, hz1, hz2⟩ := info_parts Tryz.infoMq
  go_enter Tryz.func33, Tryz.ntmps33
  go_wp2_with (at_make; refine wpList_make_full _ rfl _ _ 44 rfl w.heap.size 120 i0 (.agg #[.int .i64 0, .int .i64 0, .int .i64 0, .int .i64 0, .int .i64 0, .bool false, .int .i64 0, .int .i64 0, .int .i64 0, .slice none 0 0]) 10 Tryz.underlying44 hi hz0 hz1 _ _ _ _ n rfl rfl rfl rfl ?b2 ?b3 (Nat.le_refl _) ?_)
  case b2 => rw [hz2]; omega
  case b3 => unfold maxLen; omega
  intro w0 hown0 hgrow0
  have hown : RwMq w0 w.heap.size n n ([] ++ List.replicate (n - 0) zMq) := by
    have := own_base hown0
    have e8 := madeMq n
    simp only [RwMq, List.nil_append, Nat.sub_zero]
    rw [← e8]
    exact this
  have hnew := New.of_grown hgrow0
  clear hown0 hgrow0
  go_wp2
  go_loopw [4] (fun i wr => ∃ (k : Nat) (V' : List MlV), k ≤ n ∧ i = .int .i64 k ∧ V'.length = k ∧ V'.map MlV.r = (V.take k).map MlV.r ∧ New w wr ∧ RwMq wr w.heap.size n n (V' ++ List.replicate (n - k) zMq) ∧ ApM wr (w.heap.size + 1) V' ∧ SomM V') (fun i _ => n - (intOf i).toNat)
  case atStart => exact ⟨0, [], Nat.zero_le _, rfl, rfl, rfl, hnew, hown, ⟨fun i v hv => by simp at hv, fun i j u v x y hi => by simp at hi⟩, fun v hv => by cases hv⟩
  case round =>
    obtain ⟨k, V', hk, rfl, hl', hmap, hnw, how, hpa, hso⟩ := hrel
    have HL' : Hid (V'.length = k) := hl'
    clear hl'
    by_cases hlt : k < n
    · obtain ⟨b, off, kd, tgt, me, at1, pr, has, ee, ki, pe, x, m, d, xs, rfl, hv, hlen, hns, hmx, q0, q1, q2, q3, q4, q5, q6, q7, q8, q9⟩ := (h.new hnw).at k (by have := HN.out; omega)
      have HL : Hid (xs.length = m) := hlen
      clear hlen
      have hmm := HM.out _ (List.mem_of_getElem? hv)
      simp only [MlV.tot, HL.out] at hmm
      have hbd : Hid (∀ z ∈ xs, By z) := hns.lt
      have HMp : Hid (∀ u : MlV, u.r = MlV.r ⟨⟨kd, tgt, me, at1, pr, has, ⟨ee, ki, pe, xs⟩⟩, x, d⟩ → (V' ++ [u]).map MlV.r = (V.take (k + 1)).map MlV.r) := by
        intro u hu
        obtain ⟨hk', e⟩ := List.getElem?_eq_some_iff.1 hv
        rw [List.take_succ_eq_append_getElem hk', e, List.map_append, List.map_append, hmap]
        simp [hu]
      have hgl : w.heap.size < wr.heap.size := how.lt
      clear hv hmap
      go_wp2_with fail
      refine (toMl_any kd tgt me at1 pr has ee ki pe x m d xs _ hns HL.out (by omega)).mono ?_
      rintro e w1 ⟨g, rfl, hg, ho, hn1'⟩
      have how1 := how.new hn1'
      have hput := how1.put k (MlV.mk (Ml.mk kd tgt me at1 pr has (Ek.mk ee ki pe xs)) (some (Addr.mk g 0 none)) m)
      rw [set_fillMq V' k n HL'.out hlt] at hput
      simp only [HL.out] at hput
      have HPU : Hid _ := hput
      have hn2 := hnw.trans hn1'
      have HPA : Hid (ApM w1 (w.heap.size + 1) (V' ++ [(MlV.mk (Ml.mk kd tgt me at1 pr has (Ek.mk ee ki pe xs)) (some (Addr.mk g 0 none)) m)])) := by
        refine (hpa.new hn1').snoc (l := wr.heap.size) (MlV.mk (Ml.mk kd tgt me at1 pr has (Ek.mk ee ki pe xs)) (some (Addr.mk g 0 none)) m) (by simp only [HL.out]; exact OwAt.of_own ho) (by simp only [HL.out]; omega) (by intro x hx; have z1 := (ho.lt g rfl).2; cases hx; exact ⟨by omega, z1⟩) (by omega) ?_
        intro u hu x hx
        obtain ⟨i, hi'⟩ := List.getElem?_of_mem hu
        exact ((hpa.1 i u hi').2.2 x hx).2
      have HR : Hid (MlV.r (MlV.mk (Ml.mk kd tgt me at1 pr has (Ek.mk ee ki pe xs)) (some (Addr.mk g 0 none)) m) = MlV.r ⟨⟨kd, tgt, me, at1, pr, has, ⟨ee, ki, pe, xs⟩⟩, x, d⟩) := by
        rfl
      have HSO : Hid (SomM (V' ++ [(MlV.mk (Ml.mk kd tgt me at1 pr has (Ek.mk ee ki pe xs)) (some (Addr.mk g 0 none)) m)])) := by
        intro v hv
        rcases List.mem_append.1 hv with hv | hv
        · exact hso v hv
        · obtain rfl := List.mem_singleton.1 hv
          exact ⟨g, rfl⟩
      clear hso
      have f0 := fun j => World.ownsRow.frozenAt how1 j
      obtain ⟨v0, c0⟩ := how1.cell (k * 10) (by omega)
      obtain ⟨v1, c1⟩ := how1.cell (k * 10 + 1) (by omega)
      obtain ⟨v2, c2⟩ := how1.cell (k * 10 + 2) (by omega)
      obtain ⟨v3, c3⟩ := how1.cell (k * 10 + 3) (by omega)
      obtain ⟨v4, c4⟩ := how1.cell (k * 10 + 4) (by omega)
      obtain ⟨v5, c5⟩ := how1.cell (k * 10 + 5) (by omega)
      obtain ⟨v6, c6⟩ := how1.cell (k * 10 + 6) (by omega)
      obtain ⟨v7, c7⟩ := how1.cell (k * 10 + 7) (by omega)
      obtain ⟨v8, c8⟩ := how1.cell (k * 10 + 8) (by omega)
      obtain ⟨v9, c9⟩ := how1.cell (k * 10 + 9) (by omega)
      clear h how how1 q0 q1 q2 q3 q4 q5 q6 q7 q8 q9 hnw hpa hput hns ho
      go_wp2
      go_roundw
      case rel =>
        have tt : Turn (fun j => j = w.heap.size) w1 ((((((((((w1.setCell ⟨w.heap.size, k * 10, none⟩ (.int .i64 kd)).setCell ⟨w.heap.size, k * 10 + 1, none⟩ (.int .i64 tgt)).setCell ⟨w.heap.size, k * 10 + 2, none⟩ (.int .i64 me)).setCell ⟨w.heap.size, k * 10 + 3, none⟩ (.int .i64 at1)).setCell ⟨w.heap.size, k * 10 + 4, none⟩ (.int .i64 pr)).setCell ⟨w.heap.size, k * 10 + 5, none⟩ (.bool has)).setCell ⟨w.heap.size, k * 10 + 6, none⟩ (.int .i64 ee)).setCell ⟨w.heap.size, k * 10 + 7, none⟩ (.int .i64 ki)).setCell ⟨w.heap.size, k * 10 + 8, none⟩ (.int .i64 pe)).setCell ⟨w.heap.size, k * 10 + 9, none⟩ (.slice (some ⟨g, 0, none⟩) m m)) := setMqk w1 w.heap.size (k * 10) _ _ _ _ _ _ _ _ _ _
        refine ⟨k + 1, V' ++ [(MlV.mk (Ml.mk kd tgt me at1 pr has (Ek.mk ee ki pe xs)) (some (Addr.mk g 0 none)) m)], by omega, by go_num, by simp [HL'.out], HMp.out _ HR.out, ?_, HPU.out, ?_, HSO.out⟩
        · exact hn2.before tt (by intro i hi e; omega)
        · exact HPA.out.turn tt (by intro j h1 h2 e; omega)
      case measure => simp [intOf]; omega
    · go_wp2
      go_ret
      have hkn : k = n := by omega
      subst hkn
      rw [List.take_of_length_le (by have := HN.out; omega)] at hmap
      simp only [Nat.sub_self, List.replicate_zero, List.append_nil] at how
      exact ⟨_, V', rfl, hmap, how, rfl, hpa, hso, hnw⟩


end Go.Proofs.YtdbnmkffinhdjaaGreat
