/- What is proved here: what the marking and holding of mails and of answers with nodes leave. -/
import Derived.Test.YthnigcalboobgaaK12Mr
namespace Go.Proofs.Ythnigcalboobgaa
open Go.RowKit Go.Sort
set_option linter.unusedVariables false
set_option linter.unusedSimpArgs false
set_option maxRecDepth 100000

/-- What the mark says of Has. -/
def bq (k : Int) : Bool := ((k + 1 + 1 + 1 + 1 + 1) % 3 == 0)
/-- A mail, marked from k on. -/
def MlV.mk9 (k : Int) (v : MlV) : MlV := ⟨⟨k, k + 1, k + 1 + 1, k + 1 + 1 + 1, k + 1 + 1 + 1 + 1, bq k, ⟨k + 1 + 1 + 1 + 1 + 1 + 1, k + 1 + 1 + 1 + 1 + 1 + 1 + 1, k + 1 + 1 + 1 + 1 + 1 + 1 + 1 + 1, marks (k + 1 + 1 + 1 + 1 + 1 + 1 + 1 + 1 + 1) v.m.e.xs.length⟩⟩, v.a, v.c⟩
def markM (k : Int) (M : List MlV) : List MlV := M.map (MlV.mk9 k)
def endM (k : Int) : List MlV → Int
  | [] => k
  | v :: _ => k + 1 + 1 + 1 + 1 + 1 + 1 + 1 + 1 + 1 + v.m.e.xs.length
theorem endM_bd (k : Int) (M : List MlV) : k ≤ endM k M := by
  cases M with
  | nil => exact Int.le_refl _
  | cons v M => show k ≤ k + 1 + 1 + 1 + 1 + 1 + 1 + 1 + 1 + 1 + (v.m.e.xs.length : Int); omega

theorem markMls_nil (S : Option Addr) (c : Nat) (k : Int) (w : World) : Calls Try.prog 36 #[.slice S 0 c, .int .i64 k] w fun e w' => e = .returned (.int .i64 k) ∧ w' = w := by
  go_enter Try.func36, Try.ntmps36
  go_wp2
  refine wp_loop_rounds 1 ?_
  rw [rounds_succ]
  go_wp2
  go_ret
  exact ⟨rfl, rfl⟩
theorem heldMls_nil (S : Option Addr) (c : Nat) (k : Int) (w : World) : Calls Try.prog 38 #[.slice S 0 c, .int .i64 k] w fun e w' => e = .returned (.int .i64 k) ∧ w' = w := by
  go_enter Try.func38, Try.ntmps38
  go_wp2
  refine wp_loop_rounds 1 ?_
  rw [rounds_succ]
  go_wp2
  go_ret
  exact ⟨rfl, rfl⟩

set_option maxHeartbeats 3200000 in
theorem markMls_one (g cs : Nat) (k : Int) (kd tgt ep at1 pr : Int) (has : Bool) (ee ki pe : Int) (xs : List Int) (a : Option Addr) (ca : Nat) (w : World) (hC : w.ownsRow 0 46 10 (.slice (some ⟨g, 0, none⟩) 1 cs) 1 [.int .i64 kd, .int .i64 tgt, .int .i64 ep, .int .i64 at1, .int .i64 pr, .bool has, .int .i64 ee, .int .i64 ki, .int .i64 pe, .slice a xs.length ca])
    (ho : OwAt w a xs.length ca xs) (hl : xs.length ≤ 1048576) (ha : ∀ x, a = some x → ¬ x.block = g) (hk0 : 0 ≤ k) (hk : k ≤ 16777216) :
    Calls Try.prog 36 #[.slice (some ⟨g, 0, none⟩) 1 cs, .int .i64 k] w fun e w' => e = .returned (.int .i64 (k + 1 + 1 + 1 + 1 + 1 + 1 + 1 + 1 + 1 + xs.length)) ∧ w'.ownsRow 0 46 10 (.slice (some ⟨g, 0, none⟩) 1 cs) 1 [.int .i64 k, .int .i64 (k + 1), .int .i64 (k + 1 + 1), .int .i64 (k + 1 + 1 + 1), .int .i64 (k + 1 + 1 + 1 + 1), .bool (bq k), .int .i64 (k + 1 + 1 + 1 + 1 + 1 + 1), .int .i64 (k + 1 + 1 + 1 + 1 + 1 + 1 + 1), .int .i64 (k + 1 + 1 + 1 + 1 + 1 + 1 + 1 + 1), .slice a xs.length ca] ∧ BsAt w' a (marks (k + 1 + 1 + 1 + 1 + 1 + 1 + 1 + 1 + 1) xs.length) ∧ Turn (fun i => i = g ∨ inA a i) w w' := by
  have c0 := World.ownsRow.cellAt hC 0 (by omega)
  have c1 := World.ownsRow.cellAt hC 1 (by omega)
  have c2 := World.ownsRow.cellAt hC 2 (by omega)
  have c3 := World.ownsRow.cellAt hC 3 (by omega)
  have c4 := World.ownsRow.cellAt hC 4 (by omega)
  have c5 := World.ownsRow.cellAt hC 5 (by omega)
  have c6 := World.ownsRow.cellAt hC 6 (by omega)
  have c7 := World.ownsRow.cellAt hC 7 (by omega)
  have c8 := World.ownsRow.cellAt hC 8 (by omega)
  have c9 := World.ownsRow.cellAt hC 9 (by omega)
  have f0 := fun j => World.ownsRow.frozenAt hC j
  simp only [List.getElem?_cons_zero, List.getElem?_cons_succ] at c0 c1 c2 c3 c4 c5 c6 c7 c8 c9
  have g0 := hC
  have g1 := (World.ownsRow.stored g0 0 (.int .i64 k)).1
  have g2 := (World.ownsRow.stored g1 1 (.int .i64 (k + 1))).1
  have g3 := (World.ownsRow.stored g2 2 (.int .i64 (k + 1 + 1))).1
  have g4 := (World.ownsRow.stored g3 3 (.int .i64 (k + 1 + 1 + 1))).1
  have g5 := (World.ownsRow.stored g4 4 (.int .i64 (k + 1 + 1 + 1 + 1))).1
  have g6 := (World.ownsRow.stored g5 5 (.bool (bq k))).1
  have g7 := (World.ownsRow.stored g6 6 (.int .i64 (k + 1 + 1 + 1 + 1 + 1 + 1))).1
  have g8 := (World.ownsRow.stored g7 7 (.int .i64 (k + 1 + 1 + 1 + 1 + 1 + 1 + 1))).1
  have g9 := (World.ownsRow.stored g8 8 (.int .i64 (k + 1 + 1 + 1 + 1 + 1 + 1 + 1 + 1))).1
  simp only [List.set_cons_zero, List.set_cons_succ] at g9
  have t9 : Turn (fun i => i = g) w (((((((((w.setCell ⟨g, 0, none⟩ (.int .i64 k)).setCell ⟨g, 1, none⟩ (.int .i64 (k + 1))).setCell ⟨g, 2, none⟩ (.int .i64 (k + 1 + 1))).setCell ⟨g, 3, none⟩ (.int .i64 (k + 1 + 1 + 1))).setCell ⟨g, 4, none⟩ (.int .i64 (k + 1 + 1 + 1 + 1))).setCell ⟨g, 5, none⟩ (.bool (bq k))).setCell ⟨g, 6, none⟩ (.int .i64 (k + 1 + 1 + 1 + 1 + 1 + 1))).setCell ⟨g, 7, none⟩ (.int .i64 (k + 1 + 1 + 1 + 1 + 1 + 1 + 1))).setCell ⟨g, 8, none⟩ (.int .i64 (k + 1 + 1 + 1 + 1 + 1 + 1 + 1 + 1))) := (((((((((Turn.refl (fun i => i = g) w).set (p := ⟨g, 0, none⟩) rfl (.int .i64 k)).set (p := ⟨g, 1, none⟩) rfl (.int .i64 (k + 1))).set (p := ⟨g, 2, none⟩) rfl (.int .i64 (k + 1 + 1))).set (p := ⟨g, 3, none⟩) rfl (.int .i64 (k + 1 + 1 + 1))).set (p := ⟨g, 4, none⟩) rfl (.int .i64 (k + 1 + 1 + 1 + 1))).set (p := ⟨g, 5, none⟩) rfl (.bool (bq k))).set (p := ⟨g, 6, none⟩) rfl (.int .i64 (k + 1 + 1 + 1 + 1 + 1 + 1))).set (p := ⟨g, 7, none⟩) rfl (.int .i64 (k + 1 + 1 + 1 + 1 + 1 + 1 + 1))).set (p := ⟨g, 8, none⟩) rfl (.int .i64 (k + 1 + 1 + 1 + 1 + 1 + 1 + 1 + 1))
  have ho9 := ho.turn t9 (fun x hx e => ha x hx e)
  have d9 := World.ownsRow.cellAt g9 9 (by omega)
  simp only [List.getElem?_cons_zero, List.getElem?_cons_succ] at d9
  have HB : Hid (bq k = ((k + 1 + 1 + 1 + 1 + 1) % 3 == 0)) := rfl
  clear g0 g1 g2 g3 g4 g5 g6 g7 g8 ho
  go_enter Try.func36, Try.ntmps36
  go_wp2
  refine wp_loop_rounds 2 ?_
  rw [rounds_succ]
  go_upto_region 22 with fail
  rw [← HB.out]
  generalize (((((((((w.setCell ⟨g, 0, none⟩ (.int .i64 k)).setCell ⟨g, 1, none⟩ (.int .i64 (k + 1))).setCell ⟨g, 2, none⟩ (.int .i64 (k + 1 + 1))).setCell ⟨g, 3, none⟩ (.int .i64 (k + 1 + 1 + 1))).setCell ⟨g, 4, none⟩ (.int .i64 (k + 1 + 1 + 1 + 1))).setCell ⟨g, 5, none⟩ (.bool (bq k))).setCell ⟨g, 6, none⟩ (.int .i64 (k + 1 + 1 + 1 + 1 + 1 + 1))).setCell ⟨g, 7, none⟩ (.int .i64 (k + 1 + 1 + 1 + 1 + 1 + 1 + 1))).setCell ⟨g, 8, none⟩ (.int .i64 (k + 1 + 1 + 1 + 1 + 1 + 1 + 1 + 1))) = w9 at *
  clear c0 c1 c2 c3 c4 c5 c6 c7 c8 c9 f0
  go_wp2_with fail
  refine (mark_any a xs.length ca (k + 1 + 1 + 1 + 1 + 1 + 1 + 1 + 1 + 1) xs _ ho9 (by omega) (by omega) (by omega)).mono ?_
  rintro e w5 ⟨rfl, ho5, t5⟩
  have hr5 := row9_turn g9 t5 (by intro j hj; simp [Value.ownBlock] at hj; subst hj; rintro ⟨x, hx, e⟩; exact ha x hx e.symm)
  clear d9
  go_wp2
  rw [rounds_succ]
  go_wp2
  go_ret
  exact ⟨rfl, hr5, ho5.bs (marks_bd _ _), Turn.trans (t9.mono (fun i _ e => .inl e)) t5 (fun i _ e => .inr e)⟩

set_option maxHeartbeats 3200000 in
theorem heldMls_one (g cs : Nat) (k : Int) (n ca : Nat) (a : Option Addr) (w : World) (hC : ∀ j, j < 10 → w.cell? ⟨g, j, none⟩ = ([.int .i64 k, .int .i64 (k + 1), .int .i64 (k + 1 + 1), .int .i64 (k + 1 + 1 + 1), .int .i64 (k + 1 + 1 + 1 + 1), .bool (bq k), .int .i64 (k + 1 + 1 + 1 + 1 + 1 + 1), .int .i64 (k + 1 + 1 + 1 + 1 + 1 + 1 + 1), .int .i64 (k + 1 + 1 + 1 + 1 + 1 + 1 + 1 + 1), .slice a n ca] : List Value)[j]?)
    (hb : BsAt w a (marks (k + 1 + 1 + 1 + 1 + 1 + 1 + 1 + 1 + 1) n)) (hl : n ≤ 1048576) (hk0 : 0 ≤ k) (hk : k ≤ 16777216) :
    Calls Try.prog 38 #[.slice (some ⟨g, 0, none⟩) 1 cs, .int .i64 k] w fun e w' => e = .returned (.int .i64 (k + 1 + 1 + 1 + 1 + 1 + 1 + 1 + 1 + 1 + n)) ∧ w' = w := by
  have c0 := hC 0 (by omega)
  have c1 := hC 1 (by omega)
  have c2 := hC 2 (by omega)
  have c3 := hC 3 (by omega)
  have c4 := hC 4 (by omega)
  have c5 := hC 5 (by omega)
  have c6 := hC 6 (by omega)
  have c7 := hC 7 (by omega)
  have c8 := hC 8 (by omega)
  have c9 := hC 9 (by omega)
  simp only [List.getElem?_cons_zero, List.getElem?_cons_succ] at c0 c1 c2 c3 c4 c5 c6 c7 c8 c9
  unfold bq at c5
  have hq : (((k + 1 + 1 + 1 + 1 + 1) % 3 == 0) != ((k + 1 + 1 + 1 + 1 + 1) % 3 == 0)) = false := by simp
  have e0 : (k != k) = false := by simp
  have e1 : ((k + 1) != (k + 1)) = false := by simp
  have e2 : ((k + 1 + 1) != (k + 1 + 1)) = false := by simp
  have e3 : ((k + 1 + 1 + 1) != (k + 1 + 1 + 1)) = false := by simp
  have e4 : ((k + 1 + 1 + 1 + 1) != (k + 1 + 1 + 1 + 1)) = false := by simp
  have e6 : ((k + 1 + 1 + 1 + 1 + 1 + 1) != (k + 1 + 1 + 1 + 1 + 1 + 1)) = false := by simp
  have e7 : ((k + 1 + 1 + 1 + 1 + 1 + 1 + 1) != (k + 1 + 1 + 1 + 1 + 1 + 1 + 1)) = false := by simp
  have e8 : ((k + 1 + 1 + 1 + 1 + 1 + 1 + 1 + 1) != (k + 1 + 1 + 1 + 1 + 1 + 1 + 1 + 1)) = false := by simp
  clear hC
  go_enter Try.func38, Try.ntmps38
  go_wp2
  refine wp_loop_rounds 2 ?_
  rw [rounds_succ]
  go_wp2_with fail
  refine (held_any a n ca (k + 1 + 1 + 1 + 1 + 1 + 1 + 1 + 1 + 1) _ hb (by omega) (by omega) (by omega)).mono ?_
  rintro e w5 ⟨rfl, rfl⟩
  go_wp2
  rw [rounds_succ]
  go_wp2
  go_ret
  exact ⟨rfl, rfl⟩

theorem markMls_any (S : Option Addr) (q cs : Nat) (P : Nat → Prop) (k : Int) (M : List MlV) (w : World) (h : SdOw w P S q cs M) (hk0 : 0 ≤ k) (hk : k ≤ 16777216) :
    Calls Try.prog 36 #[.slice S q cs, .int .i64 k] w fun e w' => e = .returned (.int .i64 (endM k M)) ∧ SdAt w' S (markM k M) ∧ Turn P w w' := by
  rcases h with ⟨rfl, rfl, rfl, rfl⟩ | ⟨v, g, rfl, rfl, rfl, hg, hr, ho, hb, hl, ha⟩
  · refine (markMls_nil none 0 k w).mono ?_
    rintro e w1 ⟨rfl, rfl⟩
    exact ⟨rfl, .inl rfl, Turn.refl _ _⟩
  · obtain ⟨⟨kd, tgt, ep, at1, pr, has, ⟨ee, ki, pe, xs⟩⟩, a, ca⟩ := v
    refine (markMls_one g cs k kd tgt ep at1 pr has ee ki pe xs a ca w hr ho hl (fun x hx => (ha x hx).2) hk0 hk).mono ?_
    rintro e w1 ⟨rfl, hr1, hb1, ht⟩
    refine ⟨rfl, .inr ⟨MlV.mk9 k ⟨⟨kd, tgt, ep, at1, pr, has, ⟨ee, ki, pe, xs⟩⟩, a, ca⟩, g, rfl, rfl, fun j hj => ?_, hb1, ?_⟩, ht.mono ?_⟩
    · rw [World.ownsRow.cellAt hr1 j (by omega)]
      simp only [MlV.cs, MlV.mk9, marks_length]
    · simp only [MlV.mk9, marks_length]; exact hl
    · rintro i _ (e | ⟨x, hx, e⟩)
      · rw [e]; exact hg
      · rw [e]; exact (ha x hx).1

theorem heldMls_any (S : Option Addr) (q cs : Nat) (k : Int) (M : List MlV) (w : World) (h : SdAt w S (markM k M)) (hq : M.length = q) (hk0 : 0 ≤ k) (hk : k ≤ 16777216) :
    Calls Try.prog 38 #[.slice S q cs, .int .i64 k] w fun e w' => e = .returned (.int .i64 (endM k M)) ∧ w' = w := by
  rcases h with h | ⟨v, g, hv, rfl, hc, hb, hl⟩
  · obtain rfl : M = [] := by simpa [markM] using h
    subst hq
    exact heldMls_nil S cs k w
  · obtain ⟨u, rfl, rfl⟩ : ∃ u, M = [u] ∧ v = u.mk9 k := by
      unfold markM at hv
      match M, hv with
      | [u], hv => simp at hv; exact ⟨u, rfl, hv.symm⟩
    simp only [List.length_cons, List.length_nil] at hq
    subst hq
    obtain ⟨⟨kd, tgt, ep, at1, pr, has, ⟨ee, ki, pe, xs⟩⟩, a, ca⟩ := u
    have hl' : xs.length ≤ 1048576 := by simpa [MlV.mk9, marks_length] using hl
    refine heldMls_one g cs k xs.length ca a w (fun j hj => ?_) hb hl' hk0 hk
    rw [hc j hj]
    simp only [MlV.cs, MlV.mk9, marks_length]

set_option maxHeartbeats 1600000 in
theorem markNR_any (z id : Int) (up : Bool) (ro ep su ma ot co : Int) (A S : Option Addr) (n c q cs lo hi : Nat) (P : Nat → Prop) (U : List EkV) (M : List MlV) (w : World) (h : OwL w lo hi (.slice A n c) U) (hT : totK U ≤ 2097152) (k : SdOw w P S q cs M) (hP : ∀ i, P i → ¬ (lo ≤ i ∧ i < hi)) (hPs : ∀ i, P i → i < w.heap.size) (hhi : hi ≤ w.heap.size) :
    Calls Try.prog 15 #[.agg #[.int .i64 z, .int .i64 id, .bool up, .int .i64 ro, .int .i64 ep, .slice A n c, .int .i64 su, .int .i64 ma, .int .i64 ot, .int .i64 co, .slice S q cs], .int .i64 1] w fun e w' => e = .returned (.int .i64 (endM (endK 1 U) M)) ∧ LgAt w' A (markK 1 U) ∧ SdAt w' S (markM (endK 1 U) M) ∧ Turn (fun x => (lo ≤ x ∧ x < hi) ∨ P x) w w' := by
  have hw := (New.refl w).alloc (.cells #[.int .i64 z, .int .i64 id, .bool up, .int .i64 ro, .int .i64 ep, .slice A n c, .int .i64 su, .int .i64 ma, .int .i64 ot, .int .i64 co, .slice S q cs] 39)
  have bA := Blk.mk w w.heap.size 39 #[.int .i64 z, .int .i64 id, .bool up, .int .i64 ro, .int .i64 ep, .slice A n c, .int .i64 su, .int .i64 ma, .int .i64 ot, .int .i64 co, .slice S q cs] rfl
  have he := endK_bd U 1
  have hout := h.lg.1
  generalize hkk : endK 1 U = kk at *
  go_enter Try.func15, Try.ntmps15
  go_wp2_with fail
  refine (markNd_any id up ro ep su ma ot co A n c lo hi 1 U _ (h.new hw) hT (by omega) (by omega)).mono ?_
  rintro e w1 ⟨rfl, hL1, ht1⟩
  have bA1 := bA.turn ht1 (by omega)
  have cA := bA1.cells
  have k1 := (k.new hw).turn ht1 hP
  have tt := Turn.trans (S := fun x => lo ≤ x ∧ x < hi) hw.turn ht1 (fun i _ e => e)
  rw [hkk]
  go_wp2_with fail
  refine (markMls_any S q cs P kk M _ k1 (by omega) (by omega)).mono ?_
  rintro e w2 ⟨rfl, hS2, ht2⟩
  go_wp2
  go_ret
  refine ⟨rfl, hL1.turn ht2 ?_ ?_, hS2, Turn.trans (tt.mono (fun i _ e => .inl e)) ht2 (fun i _ e => .inr e)⟩
  · intro x hx e hp
    obtain ⟨A', c', ef, -, h2⟩ := h.form
    simp only [Value.slice.injEq] at ef
    obtain ⟨rfl, rfl, rfl⟩ := ef
    rcases h2 with ⟨rfl, -, -⟩ | ⟨g, rfl, -, h3, h4, -, -⟩
    · cases e
    · cases e; exact hP _ hp ⟨h3, h4⟩
  · intro u hu x hx e hp
    obtain ⟨i, hi', hu'⟩ := List.mem_iff_getElem.1 hu
    have hu2 : (markK 1 U)[i]? = some u := by rw [List.getElem?_eq_getElem hi', hu']
    have hi2 : i < U.length := by rw [markK_length] at hi'; exact hi'
    have hm := markK_get U (List.getElem?_eq_getElem hi2) 1
    rw [hu2] at hm
    have e2 : u.a = (U[i]).a := by rw [Option.some.inj hm]; rfl
    rw [e2] at e
    have hob : (U[i]).pv.ownBlock = some x.block := by unfold EkV.pv; rw [e]; rfl
    exact hP _ hp ⟨((h.path.own _ (List.getElem_mem hi2)).rngK _ hob).1, h.path.lies _ (List.getElem_mem hi2) _ hob⟩

set_option maxHeartbeats 1600000 in
theorem heldNR_any (z id : Int) (up : Bool) (ro ep su ma ot co : Int) (A S : Option Addr) (n c q cs : Nat) (U : List EkV) (M : List MlV) (w : World) (h : LgAt w A (markK 1 U)) (hn : U.length = n) (hT : totK U ≤ 2097152) (hl : ∀ u ∈ U, u.r.xs.length ≤ 1048576) (k : SdAt w S (markM (endK 1 U) M)) (hq : M.length = q) :
    Calls Try.prog 16 #[.agg #[.int .i64 z, .int .i64 id, .bool up, .int .i64 ro, .int .i64 ep, .slice A n c, .int .i64 su, .int .i64 ma, .int .i64 ot, .int .i64 co, .slice S q cs], .int .i64 1] w fun e w' => e = .returned (.int .i64 (endM (endK 1 U) M)) ∧ New w w' := by
  have hw := (New.refl w).alloc (.cells #[.int .i64 z, .int .i64 id, .bool up, .int .i64 ro, .int .i64 ep, .slice A n c, .int .i64 su, .int .i64 ma, .int .i64 ot, .int .i64 co, .slice S q cs] 39)
  have bA := Blk.mk w w.heap.size 39 #[.int .i64 z, .int .i64 id, .bool up, .int .i64 ro, .int .i64 ep, .slice A n c, .int .i64 su, .int .i64 ma, .int .i64 ot, .int .i64 co, .slice S q cs] rfl
  have he := endK_bd U 1
  have hem := endM_bd (endK 1 U) M
  generalize hkk : endK 1 U = kk at *
  generalize hE : endM kk M = ee at *
  go_enter Try.func16, Try.ntmps16
  go_wp2_with fail
  refine (heldNd_any id up ro ep su ma ot co A n c 1 U _ (h.new hw) hn hT hl (by omega) (by omega)).mono ?_
  rintro e w1 ⟨rfl, hn1⟩
  have cA := (bA.new hn1).cells
  have hw1 := hw.trans hn1
  rw [hkk]
  go_wp2_with fail
  refine (heldMls_any S q cs kk M _ (k.new hw1) hq (by omega) (by omega)).mono ?_
  rintro e w2 ⟨rfl, rfl⟩
  rw [hE]
  go_wp2
  go_ret
  exact ⟨rfl, hw1⟩

end Go.Proofs.Ythnigcalboobgaa
