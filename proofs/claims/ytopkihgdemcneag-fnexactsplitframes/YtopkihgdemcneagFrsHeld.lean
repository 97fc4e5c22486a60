/- What is proved here: what the marking of lists of frames and of results leaves and what the looking for marks answers. -/
import Derived.Test.YtopkihgdemcneagFrsMark
namespace Go.Proofs.Ytopkihgdemcneag
open Go.RowKit

theorem step_get {F : List Fr} {j : Nat} {f : Fr} (h : F[j]? = some f) (k : Int) : (markF k (F.take j) ++ F.drop j)[j]? = some f := by
  obtain ⟨hj, rfl⟩ := List.getElem?_eq_some_iff.1 h
  have hl : (markF k (F.take j)).length = j := by rw [markF_length, List.length_take]; omega
  rw [List.getElem?_append_right (by omega), hl, Nat.sub_self, List.getElem?_drop]
  exact h
theorem step_set {F : List Fr} {j : Nat} {f : Fr} (h : F[j]? = some f) (k : Int) :
    (markF k (F.take j) ++ F.drop j).set j ⟨endF k (F.take j), marks (endF k (F.take j) + 1) f.zs.length, f.a, f.c⟩ = markF k (F.take (j + 1)) ++ F.drop (j + 1) := by
  have hf := take_snocF h
  obtain ⟨hj, rfl⟩ := List.getElem?_eq_some_iff.1 h
  have hl : (markF k (F.take j)).length = j := by rw [markF_length, List.length_take]; omega
  rw [hf, markF_snoc, List.set_append_right _ _ (by omega), hl, Nat.sub_self, List.drop_eq_getElem_cons hj, List.set_cons_zero]
  simp
theorem endF_take {F : List Fr} {j : Nat} {f : Fr} (h : F[j]? = some f) (k : Int) : endF k (F.take (j + 1)) = endF k (F.take j) + 1 + f.zs.length := by rw [take_snocF h, endF_snoc]

set_option maxHeartbeats 1600000 in
theorem markFrs_any (a : Option Addr) (n c lo hi : Nat) (k : Int) (F : List Fr) (w : World) (hF : OwF w lo hi a n c F) (hm : n ≤ 1000) (hl : ∀ f ∈ F, f.zs.length ≤ 1000) (hk0 : 0 ≤ k) (hk : k ≤ 1048576) :
    Calls Try.prog 42 #[.slice a n c, .int .i64 k] w fun e w' => e = .returned (.int .i64 (endF k F)) ∧ OwF w' lo hi a n c (markF k F) ∧ Turn (fun x => lo ≤ x ∧ x < hi) w w' := by
  have hlen := hF.len
  have HLn : Hid (F.length = n) := hlen
  have hbd : ∀ j, j ≤ n → k ≤ endF k (F.take j) ∧ endF k (F.take j) ≤ k + 1001000 := by
    intro j hj
    have h1 := endF_bd (F.take j) 1000 k (fun f hf => hl f (List.mem_of_mem_take hf))
    have h2 : ((F.take j).length : Int) * (1 + (1000 : Nat)) ≤ 1000 * 1001 := by
      have : (F.take j).length ≤ 1000 := by rw [List.length_take]; omega
      omega
    omega
  have HBd : Hid (∀ j, j ≤ n → k ≤ endF k (F.take j) ∧ endF k (F.take j) ≤ k + 1001000) := hbd
  clear hlen hbd
  go_enter Try.func42, Try.ntmps42
  go_wp2
  go_loopw [1, 5] (fun s i wr => ∃ j : Nat, j ≤ n ∧ i = .int .i64 j ∧ s = .int .i64 (endF k (F.take j)) ∧ OwF wr lo hi a n c (markF k (F.take j) ++ F.drop j) ∧ Turn (fun x => lo ≤ x ∧ x < hi) w wr) (fun _ i _ => n - (intOf i).toNat)
  case atStart => exact ⟨0, Nat.zero_le _, rfl, rfl, by simpa [markF] using hF, Turn.refl _ _⟩
  case round =>
    obtain ⟨j, hj, rfl, rfl, hC, htn⟩ := hrel
    by_cases hlt : j < n
    · obtain ⟨f, hfj⟩ : ∃ f, F[j]? = some f := ⟨_, List.getElem?_eq_getElem (by have := HLn.out; omega)⟩
      obtain ⟨g, f', rfl, hf', x0, x1, bs, oa, fz⟩ := hC.at j hlt
      obtain rfl : f' = f := Option.some.inj (hf'.symm.trans (step_get hfj k))
      have hlf := hl f' (List.mem_of_getElem? hfj)
      have he := HBd.out j hj
      have HE : Hid (endF k (F.take (j + 1)) = endF k (F.take j) + 1 + f'.zs.length) := endF_take hfj k
      have HST := step_set hfj k
      generalize hCC : markF k (F.take j) ++ F.drop j = C at *
      generalize endF k (F.take j) = kc at *
      have HS2 : Hid _ := HST
      clear hCC HST
      obtain ⟨fk, fz', fa, fc⟩ := f'
      simp only at x0 x1 bs oa hlf
      have hrow := (hC.row _ rfl)
      obtain ⟨g', eg, hg1, hg2, hor⟩ := hrow
      simp only [Addr.mk.injEq, and_true] at eg
      subst eg
      have hst := hor.stored (j * 2) (.int .i64 kc)
      have hC1 : OwF (wr.setCell ⟨g, j * 2, none⟩ (.int .i64 kc)) lo hi (some ⟨g, 0, none⟩) n c (C.set j ⟨kc, fz', fa, fc⟩) := by
        refine OwF.put (f' := ⟨kc, fz', fa, fc⟩) hC hf' rfl rfl rfl ?_ ?_ (show ∀ z ∈ fz', 0 ≤ z ∧ z ≤ 255 from hC.bd j ⟨fk, fz', fa, fc⟩ hf') (Turn.of_grown hst.2) ?_
        · intro g2 e2
          simp only [Option.some.injEq, Addr.mk.injEq, and_true] at e2
          subst e2
          rw [cellsF_set hf' kc]
          exact hst.1
        · refine ⟨oa.1, fun h0 => ?_⟩
          obtain ⟨g1, e1, ho1⟩ := oa.2 h0
          exact ⟨g1, e1, own_turn ho1 (Turn.of_grown hst.2) (hC.ne ho1)⟩
        · intro i f2 x hne hfi hx h0
          obtain ⟨g1, e1, ho1⟩ := (hC.body i f2 hfi).2 h0
          rw [hx] at e1
          obtain rfl := Option.some.inj e1
          exact hC.ne ho1
      have hf1 : (C.set j ⟨kc, fz', fa, fc⟩)[j]? = some ⟨kc, fz', fa, fc⟩ := by
        rw [List.getElem?_set_self]
        exact (List.getElem?_eq_some_iff.1 hf').1
      have ht1 : Turn (fun x => lo ≤ x ∧ x < hi) w (wr.setCell ⟨g, j * 2, none⟩ (.int .i64 kc)) := Turn.trans htn (Turn.of_grown hst.2) (by rintro i - rfl; exact ⟨hg1, hg2⟩)
      have HC1 : Hid _ := hC1
      clear hC hst hor bs
      go_wp2_with fail
      by_cases hz0 : fz'.length = 0
      · obtain rfl := List.eq_nil_of_length_eq_zero hz0
        refine (mark_zero fa fc (kc + 1) _).mono ?_
        rintro e w1 ⟨rfl, rfl⟩
        go_wp2
        go_roundw
        case rel =>
          have e1 := HE.out
          have e2 := HS2.out
          simp only [List.length_nil, marks, List.range_zero, List.map_nil] at e1 e2
          refine ⟨j + 1, by omega, by go_num, by rw [e1]; go_num, ?_, ht1⟩
          rw [← e2]
          exact hC1
        case measure => simp [intOf]; omega
      · refine (mark_any fa fz'.length fc (kc + 1) fz' _ (hC1.body j _ hf1) (by omega) (by omega) (by omega)).mono ?_
        rintro e w1 ⟨rfl, ho1, htm⟩
        go_wp2
        go_roundw
        case rel =>
          obtain ⟨g1, e1, hob⟩ := (hC1.body j _ hf1).2 (by simp only; omega)
          simp only at e1 hob
          refine ⟨j + 1, by omega, by go_num, by rw [HE.out], ?_, ?_⟩
          · rw [← HS2.out]
            have hp := OwF.put (f' := ⟨kc, marks (kc + 1) fz'.length, fa, fc⟩) hC1 hf1 rfl rfl (marks_length _ _) (S := inA fa) ?_ ho1 (marks_bd _ _) htm ?_
            · rw [List.set_set] at hp
              exact hp
            · intro g2 e2
              obtain ⟨g3, e3, _, _, ho3⟩ := hC1.row _ e2
              simp only [Addr.mk.injEq, and_true] at e3
              subst e3
              rw [cellsF_body hf1 (marks_length _ _)]
              refine ownG_turn ho3 htm ?_
              rintro ⟨x, hx, hb⟩
              rw [e1] at hx
              obtain rfl := Option.some.inj hx
              have hne := hC1.ne hob
              simp only [Option.some.injEq, Addr.mk.injEq, and_true] at e2
              simp only at hb
              omega
            · rintro i f2 x hne hfi hx h0 ⟨y, hy, hb⟩
              exact hC1.apart i j f2 _ x y hfi hf1 hne hx hy hb
          · refine Turn.trans ht1 htm ?_
            rintro i - ⟨x, hx, rfl⟩
            exact hC1.lies j _ x hf1 hx
        case measure => simp [intOf]; omega
    · go_wp2
      go_ret
      have hjn : j = n := by omega
      subst hjn
      have hlen := HLn.out
      rw [List.take_of_length_le (by omega), List.drop_of_length_le (by omega), List.append_nil] at hC
      exact ⟨ret_i64 (by rw [List.take_of_length_le (by omega)]), hC, htn⟩

theorem ends_bd {F : List Fr} {n : Nat} {k : Int} (hlen : F.length = n) (hm : n ≤ 1000) (hl : ∀ f ∈ F, f.zs.length ≤ 1000) : ∀ j, j ≤ n → k ≤ endF k (F.take j) ∧ endF k (F.take j) ≤ k + 1001000 := by
  intro j hj
  have h1 := endF_bd (F.take j) 1000 k (fun f hf => hl f (List.mem_of_mem_take hf))
  have h2 : ((F.take j).length : Int) * (1 + (1000 : Nat)) ≤ 1000 * 1001 := by
    have : (F.take j).length ≤ 1000 := by rw [List.length_take]; omega
    omega
  omega

set_option maxHeartbeats 1600000 in
theorem heldFrs_any (a : Option Addr) (n c lo hi : Nat) (k : Int) (F : List Fr) (w : World) (hF : OwF w lo hi a n c (markF k F)) (hm : n ≤ 1000) (hl : ∀ f ∈ F, f.zs.length ≤ 1000) (hk0 : 0 ≤ k) (hk : k ≤ 1048576) :
    Calls Try.prog 43 #[.slice a n c, .int .i64 k] w fun e w' => e = .returned (.int .i64 (endF k F)) ∧ w' = w := by
  have hlen : F.length = n := by have := hF.len; rw [markF_length] at this; exact this
  have HLn : Hid (F.length = n) := hlen
  have HBd : Hid (∀ j, j ≤ n → k ≤ endF k (F.take j) ∧ endF k (F.take j) ≤ k + 1001000) := ends_bd hlen hm hl
  clear hlen
  go_enter Try.func43, Try.ntmps43
  go_wp2
  go_loopw [1, 5] (fun s i wr => ∃ j : Nat, j ≤ n ∧ i = .int .i64 j ∧ s = .int .i64 (endF k (F.take j)) ∧ w = wr) (fun _ i _ => n - (intOf i).toNat)
  case atStart => exact ⟨0, Nat.zero_le _, rfl, rfl, rfl⟩
  case round =>
    obtain ⟨j, hj, rfl, rfl, rfl⟩ := hrel
    by_cases hlt : j < n
    · obtain ⟨f, hfj⟩ : ∃ f, F[j]? = some f := ⟨_, List.getElem?_eq_getElem (by have := HLn.out; omega)⟩
      obtain ⟨g, f', rfl, hf', x0, x1, bs, -, -⟩ := hF.at j hlt
      rw [markF_get F hfj k] at hf'
      obtain rfl := Option.some.inj hf'
      simp only [marks_length] at x0 x1 bs
      have hlf := hl f (List.mem_of_getElem? hfj)
      have he := HBd.out j hj
      have HE : Hid (endF k (F.take (j + 1)) = endF k (F.take j) + 1 + f.zs.length) := endF_take hfj k
      generalize endF k (F.take j) = kc at *
      have hkk : (kc != kc) = false := by simp
      clear hf'
      go_wp2_with fail
      refine (held_any f.a f.zs.length f.c (kc + 1) _ bs (by omega) (by omega) (by omega)).mono ?_
      rintro e w1 ⟨rfl, rfl⟩
      go_wp2
      go_roundw
      case rel => exact ⟨j + 1, by omega, by go_num, by rw [HE.out], by first | trivial | rfl⟩
      case measure => simp [intOf]; omega
    · go_wp2
      go_ret
      have hjn : j = n := by omega
      subst hjn
      have hlen := HLn.out
      exact ⟨ret_i64 (by rw [List.take_of_length_le (by omega)]), rfl⟩

set_option maxHeartbeats 800000 in
theorem eqFR_any (x y : Int) (a b : Option Addr) (n c d lo hi lo' hi' : Nat) (F G : List Fr) (w : World) (hF : OwF w lo hi a n c F) (hG : OwF w lo' hi' b n d G) (hFG : F.map Fr.out = G.map Fr.out) (hm : n ≤ 1048576) (hl : ∀ (i : Nat) (f : Fr), F[i]? = some f → f.zs.length ≤ 1048576) :
    Calls Try.prog 22 #[.agg #[.int .i64 x, .int .i64 y, .slice a n c], .agg #[.int .i64 x, .int .i64 y, .slice b n d]] w fun e w' => e = .returned (.bool true) ∧ New w w' := by
  have hx : (x != x) = false := by simp
  have hy : (y != y) = false := by simp
  have HFG : Hid (F.map Fr.out = G.map Fr.out) := hFG
  clear hFG
  have hw := ((New.refl w).alloc (.cells #[.int .i64 x, .int .i64 y, .slice a n c] 39)).alloc (.cells #[.int .i64 x, .int .i64 y, .slice b n d] 39)
  go_enter Try.func22, Try.ntmps22
  go_wp2_with fail
  refine (eqFrs_any a b n c d lo hi lo' hi' F G _ (hF.new hw) (hG.new hw) HFG.out hm hl).mono ?_
  rintro e w1 ⟨rfl, hn1⟩
  go_wp2
  go_ret
  exact ⟨rfl, hw.trans hn1⟩

set_option maxHeartbeats 800000 in
theorem markFR_any (x y : Int) (a : Option Addr) (n c lo hi : Nat) (k : Int) (F : List Fr) (w : World) (hF : OwF w lo hi a n c F) (hm : n ≤ 1000) (hl : ∀ f ∈ F, f.zs.length ≤ 1000) (hk0 : 0 ≤ k) (hk : k ≤ 1048576) :
    Calls Try.prog 25 #[.agg #[.int .i64 x, .int .i64 y, .slice a n c], .int .i64 k] w fun e w' => e = .returned (.int .i64 (endF k F)) ∧ OwF w' lo hi a n c (markF k F) ∧ Turn (fun x => lo ≤ x ∧ x < hi) w w' := by
  have hw := (New.refl w).alloc (.cells #[.int .i64 x, .int .i64 y, .slice a n c] 39)
  go_enter Try.func25, Try.ntmps25
  go_wp2_with fail
  refine (markFrs_any a n c lo hi k F _ (hF.new hw) hm hl hk0 hk).mono ?_
  rintro e w1 ⟨rfl, ho1, ht1⟩
  go_wp2
  go_ret
  exact ⟨rfl, ho1, Turn.trans hw.turn ht1 (fun _ _ h => h)⟩

set_option maxHeartbeats 800000 in
theorem heldFR_any (x y : Int) (a : Option Addr) (n c lo hi : Nat) (k : Int) (F : List Fr) (w : World) (hF : OwF w lo hi a n c (markF k F)) (hm : n ≤ 1000) (hl : ∀ f ∈ F, f.zs.length ≤ 1000) (hk0 : 0 ≤ k) (hk : k ≤ 1048576) :
    Calls Try.prog 26 #[.agg #[.int .i64 x, .int .i64 y, .slice a n c], .int .i64 k] w fun e w' => e = .returned (.int .i64 (endF k F)) ∧ New w w' := by
  have hw := (New.refl w).alloc (.cells #[.int .i64 x, .int .i64 y, .slice a n c] 39)
  have he := ends_bd (k := k) (F := F) (n := n) (by have := hF.len; rw [markF_length] at this; exact this) hm hl n (Nat.le_refl _)
  have hen : F.take n = F := List.take_of_length_le (by have := hF.len; rw [markF_length] at this; omega)
  rw [hen] at he
  clear hen
  go_enter Try.func26, Try.ntmps26
  go_wp2_with fail
  refine (heldFrs_any a n c lo hi k F _ (hF.new hw) hm hl hk0 hk).mono ?_
  rintro e w1 ⟨rfl, rfl⟩
  generalize hq : endF k F = q at *
  have HQ : Hid (endF k F = q) := hq
  clear hq
  go_wp2
  go_ret
  exact ⟨ret_i64 HQ.out.symm, hw⟩

end Go.Proofs.Ytopkihgdemcneag
