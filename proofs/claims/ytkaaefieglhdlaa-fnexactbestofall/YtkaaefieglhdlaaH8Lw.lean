/- What is proved here: that answers of BestFor are one, and how laws compare, mark and hold them. -/
import Derived.Test.YtkaaefieglhdlaaH8Bs
import Derived.Test.YtkaaefieglhdlaaR7Bs
import Derived.Test.YtkaaefieglhdlaaR7Mk
namespace Go.Proofs.Ytkaaefieglhdlaa
open Go.RowKit Go.Sort
set_option linter.unusedVariables false
set_option linter.unusedSimpArgs false

theorem BfOk.det {R : List Rt} {a0 l0 z z' : Int} {r r' : Rt} (hR : ribF R = 0) (h : BfOk R a0 l0 z r) (k : BfOk R a0 l0 z' r') : z = z' ∧ r = r' := by
  rcases h with ⟨h1, h2, h3⟩ | ⟨h1, h2, h3, h4⟩
  · rcases k with ⟨k1, k2, k3⟩ | ⟨k1, k2, k3, k4⟩
    · exact ⟨by omega, by rw [h2, k2]⟩
    · rw [h3 _ k2] at k3; cases k3
  · rcases k with ⟨k1, k2, k3⟩ | ⟨k1, k2, k3, k4⟩
    · rw [k3 _ h2] at h3; cases h3
    · refine ⟨by omega, ?_⟩
      have e1 := h4 r' k2 k3
      have e2 := k4 r h2 h3
      have u1 := of_decide_eq_true h3
      have u2 := of_decide_eq_true k3
      have hp : r.p = r'.p ∧ r.a = r'.a ∧ r.l = r'.l := by
        rcases Classical.em (r.p = r'.p ∧ r.a = r'.a ∧ r.l = r'.l) with e | e
        · exact e
        · exact absurd (hlt_tot ⟨r, none, 0⟩ ⟨r', none, 0⟩ e e2) e1
      have ho := (ribF_ok hR).2.1
      obtain ⟨i, hi⟩ := List.getElem?_of_mem h2
      obtain ⟨j, hj⟩ := List.getElem?_of_mem k2
      obtain ⟨hiL, hie⟩ := List.getElem?_eq_some_iff.1 hi
      obtain ⟨hjL, hje⟩ := List.getElem?_eq_some_iff.1 hj
      rcases Nat.lt_trichotomy i j with e | e | e
      · have := List.pairwise_iff_getElem.1 ho i j hiL hjL e
        rw [hie, hje, Rt.lt_iff] at this
        omega
      · subst e
        rw [hi] at hj
        exact Option.some.inj hj
      · have := List.pairwise_iff_getElem.1 ho j i hjL hiL e
        rw [hie, hje, Rt.lt_iff] at this
        omega
theorem BfA.det {R : List Rt} {a0 l0 z z' : Int} {r r' : Rt} (h : BfA R a0 l0 z r) (k : BfA R a0 l0 z' r') : z = z' ∧ r = r' := by
  rcases h with ⟨h1, h2, h3⟩ | ⟨h1, h2, h3, h4⟩ | ⟨h1, h2, h3⟩
  · rcases k with ⟨k1, k2, k3⟩ | ⟨k1, k2, k3, k4⟩ | ⟨k1, k2, k3⟩
    · exact ⟨by omega, by rw [h3, k3]⟩
    · exact absurd k1 h1
    · exact absurd k1 h1
  · rcases k with ⟨k1, k2, k3⟩ | ⟨k1, k2, k3, k4⟩ | ⟨k1, k2, k3⟩
    · exact absurd h1 k1
    · exact ⟨by omega, by rw [h4, k4]⟩
    · exact absurd k2 h2
  · rcases k with ⟨k1, k2, k3⟩ | ⟨k1, k2, k3, k4⟩ | ⟨k1, k2, k3⟩
    · exact absurd h1 k1
    · exact absurd h2 k2
    · exact BfOk.det h1 h3 k3

theorem nine9t (W : World) (B : Nat) (v0 v1 v2 v3 v4 v5 v6 v7 v8 : Value) : Turn (fun k => k = B) W (((((((((W.setCell ⟨B, 0, none⟩ v0).setCell ⟨B, 1, none⟩ v1).setCell ⟨B, 2, none⟩ v2).setCell ⟨B, 3, none⟩ v3).setCell ⟨B, 4, none⟩ v4).setCell ⟨B, 5, none⟩ v5).setCell ⟨B, 6, none⟩ v6).setCell ⟨B, 7, none⟩ v7).setCell ⟨B, 8, none⟩ v8) := Turn.set (S := fun k => k = B) (Turn.set (S := fun k => k = B) (Turn.set (S := fun k => k = B) (Turn.set (S := fun k => k = B) (Turn.set (S := fun k => k = B) (Turn.set (S := fun k => k = B) (Turn.set (S := fun k => k = B) (Turn.set (S := fun k => k = B) (Turn.set (S := fun k => k = B) (Turn.refl (fun k => k = B) W) rfl v0) rfl v1) rfl v2) rfl v3) rfl v4) rfl v5) rfl v6) rfl v7) rfl v8
theorem stored9 {W : World} {B lo n d : Nat} {x : Option Addr} {xs : List Int} {v0 v1 v2 v3 v4 v5 v6 v7 v8 : Value} (o : OvN W lo (.slice x n d) xs) (hb : ∀ z ∈ xs, In6 z) (hB : B < lo) : NsAt (((((((((W.setCell ⟨B, 0, none⟩ v0).setCell ⟨B, 1, none⟩ v1).setCell ⟨B, 2, none⟩ v2).setCell ⟨B, 3, none⟩ v3).setCell ⟨B, 4, none⟩ v4).setCell ⟨B, 5, none⟩ v5).setCell ⟨B, 6, none⟩ v6).setCell ⟨B, 7, none⟩ v7).setCell ⟨B, 8, none⟩ v8) x xs :=
  (o.turn7 (nine9t W B v0 v1 v2 v3 v4 v5 v6 v7 v8) (fun k hk e => by have := o.rng7 k hk; omega)).nsAt7 hb
theorem blk9 {W : World} {B : Nat} {t : TypeId} {o0 o1 o2 o3 o4 o5 o6 o7 o8 v0 v1 v2 v3 v4 v5 v6 v7 v8 : Value} (h : Blk W B t #[o0, o1, o2, o3, o4, o5, o6, o7, o8]) : Blk (((((((((W.setCell ⟨B, 0, none⟩ v0).setCell ⟨B, 1, none⟩ v1).setCell ⟨B, 2, none⟩ v2).setCell ⟨B, 3, none⟩ v3).setCell ⟨B, 4, none⟩ v4).setCell ⟨B, 5, none⟩ v5).setCell ⟨B, 6, none⟩ v6).setCell ⟨B, 7, none⟩ v7).setCell ⟨B, 8, none⟩ v8) B t #[v0, v1, v2, v3, v4, v5, v6, v7, v8] := (nine8 W B t o0 o1 o2 o3 o4 o5 o6 o7 o8 v0 v1 v2 v3 v4 v5 v6 v7 v8 h).1

set_option maxHeartbeats 3200000 in
theorem eqBR (z p a l o nx md lc : Int) (x y : Option Addr) (d f : Nat) (xs : List Int) (w : World) (ha : NsAt w x xs) (hb : NsAt w y xs) (hm : xs.length ≤ 1048576) :
    Calls Try.prog 10 #[.agg #[.int .i64 z, .int .i64 p, .int .i64 a, .int .i64 l, .int .i64 o, .slice x xs.length d, .int .i64 nx, .int .i64 md, .int .i64 lc], .agg #[.int .i64 z, .int .i64 p, .int .i64 a, .int .i64 l, .int .i64 o, .slice y xs.length f, .int .i64 nx, .int .i64 md, .int .i64 lc]] w fun e w' => e = .returned (.bool true) ∧ New w w' := by
  have hw := ((New.refl w).alloc (.cells #[.int .i64 z, .int .i64 p, .int .i64 a, .int .i64 l, .int .i64 o, .slice x xs.length d, .int .i64 nx, .int .i64 md, .int .i64 lc] 33)).alloc (.cells #[.int .i64 z, .int .i64 p, .int .i64 a, .int .i64 l, .int .i64 o, .slice y xs.length f, .int .i64 nx, .int .i64 md, .int .i64 lc] 33)
  have hzz : (z != z) = false := by simp
  go_enter Try.func10, Try.ntmps10
  go_wp2_with fail
  refine (eqRt_any p a l o nx md lc x y xs.length d f xs _ (ha.new hw) (hb.new hw) rfl hm).mono ?_
  rintro e w1 ⟨rfl, h1⟩
  go_wp2
  go_ret
  exact ⟨rfl, hw.trans h1⟩

set_option maxHeartbeats 3200000 in
theorem markBR (z p a l o nx md lc : Int) (lo : Nat) (x : Option Addr) (d : Nat) (xs : List Int) (s : Int) (w : World) (h : OvN w lo (.slice x xs.length d) xs) (hm : xs.length ≤ 1048576) (hs0 : 0 ≤ s) (hs1 : s ≤ 1048576) :
    Calls Try.prog 13 #[.agg #[.int .i64 z, .int .i64 p, .int .i64 a, .int .i64 l, .int .i64 o, .slice x xs.length d, .int .i64 nx, .int .i64 md, .int .i64 lc], .int .i64 s] w fun e w' => e = .returned (.int .i64 (s + (xs.length : Int))) ∧ OvN w' lo (.slice x xs.length d) (mkN7 s xs.length) ∧ Turn (fun j => (Value.slice x xs.length d).ownBlock = some j) w w' := by
  have h1 : ∀ (w : World), OvN w lo (.slice x xs.length d) xs → Calls Try.prog 58 #[.agg #[.int .i64 o, .slice x xs.length d, .int .i64 nx, .int .i64 md, .int .i64 lc], .int .i64 s] w fun e w' => e = .returned (.int .i64 (s + (xs.length : Int))) ∧ OvN w' lo (.slice x xs.length d) (mkN7 s xs.length) ∧ Turn (fun j => (Value.slice x xs.length d).ownBlock = some j) w w' := by
    intro w h
    have hw := (New.refl w).alloc (.cells #[.int .i64 o, .slice x xs.length d, .int .i64 nx, .int .i64 md, .int .i64 lc] 29)
    have hc := markOv7 lo x xs.length d xs s _ (h.new hw) rfl hm hs0 (by omega)
    clear h
    go_enter Try.func58, Try.ntmps58
    go_wp2_with fail
    refine hc.mono ?_
    rintro e w1 ⟨rfl, ho1, ht1⟩
    go_wp2
    go_ret
    exact ⟨rfl, ho1, Turn.trans hw.turn ht1 (fun _ _ e => e)⟩
  have h2 : ∀ (w : World), OvN w lo (.slice x xs.length d) xs → Calls Try.prog 34 #[.agg #[.int .i64 p, .int .i64 a, .int .i64 l, .int .i64 o, .slice x xs.length d, .int .i64 nx, .int .i64 md, .int .i64 lc], .int .i64 s] w fun e w' => e = .returned (.int .i64 (s + (xs.length : Int))) ∧ OvN w' lo (.slice x xs.length d) (mkN7 s xs.length) ∧ Turn (fun j => (Value.slice x xs.length d).ownBlock = some j) w w' := by
    intro w h
    have hw := (New.refl w).alloc (.cells #[.int .i64 p, .int .i64 a, .int .i64 l, .int .i64 o, .slice x xs.length d, .int .i64 nx, .int .i64 md, .int .i64 lc] 31)
    have hc := h1 _ (h.new hw)
    clear h h1
    go_enter Try.func34, Try.ntmps34
    go_wp2_with fail
    refine hc.mono ?_
    rintro e w1 ⟨rfl, ho1, ht1⟩
    go_wp2
    go_ret
    exact ⟨rfl, ho1, Turn.trans hw.turn ht1 (fun _ _ e => e)⟩
  have hw := (New.refl w).alloc (.cells #[.int .i64 z, .int .i64 p, .int .i64 a, .int .i64 l, .int .i64 o, .slice x xs.length d, .int .i64 nx, .int .i64 md, .int .i64 lc] 33)
  have hc := h2 _ (h.new hw)
  clear h h1 h2
  go_enter Try.func13, Try.ntmps13
  go_wp2_with fail
  refine hc.mono ?_
  rintro e w1 ⟨rfl, ho1, ht1⟩
  go_wp2
  go_ret
  exact ⟨rfl, ho1, Turn.trans hw.turn ht1 (fun _ _ e => e)⟩

set_option maxHeartbeats 3200000 in
theorem heldBR (z p a l o nx md lc : Int) (x : Option Addr) (d : Nat) (xs : List Int) (s : Int) (w : World) (h : NsAt w x (mkN7 s xs.length)) (hm : xs.length ≤ 1048576) (hs0 : 0 ≤ s) (hs1 : s ≤ 1048576) :
    Calls Try.prog 14 #[.agg #[.int .i64 z, .int .i64 p, .int .i64 a, .int .i64 l, .int .i64 o, .slice x xs.length d, .int .i64 nx, .int .i64 md, .int .i64 lc], .int .i64 s] w fun e w' => e = .returned (.int .i64 (s + (xs.length : Int))) ∧ New w w' := by
  have hnn : ¬ s + (xs.length : Int) < 0 := by omega
  have h1 : ∀ (w : World), NsAt w x (mkN7 s xs.length) → Calls Try.prog 59 #[.agg #[.int .i64 o, .slice x xs.length d, .int .i64 nx, .int .i64 md, .int .i64 lc], .int .i64 s] w fun e w' => e = .returned (.int .i64 (s + (xs.length : Int))) ∧ New w w' := by
    intro w h
    have hw := (New.refl w).alloc (.cells #[.int .i64 o, .slice x xs.length d, .int .i64 nx, .int .i64 md, .int .i64 lc] 29)
    have hc := heldNs7 x xs.length d s _ (h.new hw) hm hs0 (by omega)
    clear h
    go_enter Try.func59, Try.ntmps59
    go_wp2_with fail
    refine hc.mono ?_
    rintro e w1 ⟨rfl, rfl⟩
    go_wp2
    go_ret
    exact ⟨rfl, hw⟩
  have h2 : ∀ (w : World), NsAt w x (mkN7 s xs.length) → Calls Try.prog 35 #[.agg #[.int .i64 p, .int .i64 a, .int .i64 l, .int .i64 o, .slice x xs.length d, .int .i64 nx, .int .i64 md, .int .i64 lc], .int .i64 s] w fun e w' => e = .returned (.int .i64 (s + (xs.length : Int))) ∧ New w w' := by
    intro w h
    have hw := (New.refl w).alloc (.cells #[.int .i64 p, .int .i64 a, .int .i64 l, .int .i64 o, .slice x xs.length d, .int .i64 nx, .int .i64 md, .int .i64 lc] 31)
    have hc := h1 _ (h.new hw)
    clear h h1
    go_enter Try.func35, Try.ntmps35
    go_wp2_with fail
    refine hc.mono ?_
    rintro e w1 ⟨rfl, hn1⟩
    go_wp2
    go_ret
    exact ⟨rfl, hw.trans hn1⟩
  have hw := (New.refl w).alloc (.cells #[.int .i64 z, .int .i64 p, .int .i64 a, .int .i64 l, .int .i64 o, .slice x xs.length d, .int .i64 nx, .int .i64 md, .int .i64 lc] 33)
  have hc := h2 _ (h.new hw)
  clear h h1 h2
  go_enter Try.func14, Try.ntmps14
  go_wp2_with fail
  refine hc.mono ?_
  rintro e w1 ⟨rfl, hn1⟩
  go_wp2
  go_ret
  exact ⟨rfl, hw.trans hn1⟩

end Go.Proofs.Ytkaaefieglhdlaa
