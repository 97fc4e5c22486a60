/- Lemmas and contracts of one law. -/
import Derived.Test.YtdbnmkffinhdjaaGreatLV7
namespace Go.Proofs.YtdbnmkffinhdjaaGreat
open Go.RowKit Go.Sort
set_option linter.unusedVariables false
set_option linter.unusedSimpArgs false
set_option maxRecDepth 100000
set_option maxHeartbeats 25600000


/-- An answer can be read there, all in blocks below b. -/
structure NrRd (w : World) (b : Nat) (A : Option Addr) (U : List EkV) (S : Option Addr) (Ms : List MlV) : Prop where
  lg : LgAt w A U
  sd : SdAt w S Ms
  l1 : ∀ x, A = some x → x.block < b
  l2 : ∀ u ∈ U, ∀ x, u.a = some x → x.block < b
  l3 : ∀ x, S = some x → x.block < b
  l4 : ∀ v ∈ Ms, ∀ x, v.a = some x → x.block < b
theorem NrRd.turn {w w' : World} {b : Nat} {A S : Option Addr} {U : List EkV} {Ms : List MlV} {T : Nat → Prop} (h : NrRd w b A U S Ms) (t : Turn T w w') (hT : ∀ k, k < b → ¬ T k) : NrRd w' b A U S Ms :=
  ⟨h.lg.turn t (fun x _ hx => hT _ (h.l1 x hx)) (fun u hu x _ hx => hT _ (h.l2 u hu x hx)), h.sd.turn t (fun x hx => hT _ (h.l3 x hx)) (fun v hv x hx => hT _ (h.l4 v hv x hx)), h.l1, h.l2, h.l3, h.l4⟩
theorem NrRd.new {w w' : World} {b : Nat} {A S : Option Addr} {U : List EkV} {Ms : List MlV} (h : NrRd w b A U S Ms) (t : New w w') : NrRd w' b A U S Ms := h.turn t (fun _ _ f => f)

/-- All of an answer is the call's own, from b0 to b1. -/
def NrOw (w : World) (b0 b1 : Nat) (A : Option Addr) (n c : Nat) (U : List EkV) (S : Option Addr) (q cs : Nat) (Ms : List MlV) : Prop :=
  ∃ (lo hi : Nat) (P : Nat → Prop), OwL w lo hi (.slice A n c) U ∧ SdOw w P S q cs Ms ∧ (∀ i, P i → ¬ (lo ≤ i ∧ i < hi)) ∧ (∀ i, P i → b0 ≤ i ∧ i < b1) ∧ b0 ≤ lo ∧ hi ≤ b1
theorem NrOw.turn {w w' : World} {b0 b1 n c q cs : Nat} {A S : Option Addr} {U : List EkV} {Ms : List MlV} {T : Nat → Prop} (h : NrOw w b0 b1 A n c U S q cs Ms) (t : Turn T w w') (hT : ∀ k, b0 ≤ k → k < b1 → ¬ T k) : NrOw w' b0 b1 A n c U S q cs Ms := by
  obtain ⟨lo, hi, P, h1, h2, h3, h4, h5, h6⟩ := h
  exact ⟨lo, hi, P, h1.turn t (fun k k1 k2 => hT k (by omega) (by omega)), h2.turn t (fun k hk => hT k (h4 k hk).1 (h4 k hk).2), h3, h4, h5, h6⟩
theorem NrOw.new {w w' : World} {b0 b1 n c q cs : Nat} {A S : Option Addr} {U : List EkV} {Ms : List MlV} (h : NrOw w b0 b1 A n c U S q cs Ms) (t : New w w') : NrOw w' b0 b1 A n c U S q cs Ms := h.turn t (fun _ _ _ f => f)
theorem OwL.blocks {w : World} {lo hi n c : Nat} {A : Option Addr} {U : List EkV} (h : OwL w lo hi (.slice A n c) U) : (∀ x, A = some x → lo ≤ x.block ∧ x.block < hi) ∧ (∀ u ∈ U, ∀ x, u.a = some x → lo ≤ x.block ∧ x.block < hi) := by
  refine ⟨fun x hx => ?_, fun u hu x hx => ?_⟩
  · obtain ⟨A', c', ef, -, h2⟩ := h.form
    simp only [Value.slice.injEq] at ef
    obtain ⟨rfl, rfl, rfl⟩ := ef
    rcases h2 with ⟨rfl, -, -⟩ | ⟨g, rfl, -, h3, h4, -, -⟩
    · cases hx
    · cases hx; exact ⟨h3, h4⟩
  · have hob : u.pv.ownBlock = some x.block := by unfold EkV.pv; rw [hx]; rfl
    exact ⟨((h.path.own u hu).rngK _ hob).1, h.path.lies u hu _ hob⟩
theorem NrOw.rd {w : World} {b0 b1 n c q cs : Nat} {A S : Option Addr} {U : List EkV} {Ms : List MlV} (h : NrOw w b0 b1 A n c U S q cs Ms) : NrRd w b1 A U S Ms ∧ U.length = n ∧ Ms.length = q ∧ NlK U := by
  obtain ⟨lo, hi, P, h1, h2, h3, h4, h5, h6⟩ := h
  have k1 := h1.blocks
  have k2 := h2.sd
  exact ⟨⟨h1.lg.1, k2.1, fun x hx => Nat.lt_of_lt_of_le (k1.1 x hx).2 h6, fun u hu x hx => Nat.lt_of_lt_of_le (k1.2 u hu x hx).2 h6, fun x hx => (h4 _ (k2.2.2.1 x hx)).2, fun v hv x hx => (h4 _ (k2.2.2.2 v hv x hx)).2⟩, h1.lg.2, k2.2.1, h1.nl⟩

/-- An answer with a node and mails. -/
def NrAns (w : World) (z1 id1 : Int) (up1 : Bool) (ro1 ep1 su1 ma1 ot1 co1 : Int) (L : List Ek) (M : List Ml) (e : Ending) (w' : World) : Prop :=
  ∃ (A : Option Addr) (c : Nat) (U : List EkV) (S : Option Addr) (cs : Nat) (Ms : List MlV), e = .returned (.agg #[.int .i64 z1, .int .i64 id1, .bool up1, .int .i64 ro1, .int .i64 ep1, .slice A L.length c, .int .i64 su1, .int .i64 ma1, .int .i64 ot1, .int .i64 co1, .slice S M.length cs]) ∧ U.map EkV.r = L ∧ Ms.map MlV.m = M ∧ NrOw w' w.heap.size w'.heap.size A L.length c U S M.length cs Ms ∧ New w w'


/-- The fault of a node, or that it is not up. -/
def uF (up : Bool) (f : Int) : Int := if f ≠ 0 then f else if up = false then 10 else 0
/-- The fault of a node, or that it is not up, or that it is not active. -/
def aF (up : Bool) (ro f : Int) : Int := if uF up f ≠ 0 then uF up f else if ro ≠ 1 then 10 else 0

theorem implNFv (v : Int) (id : Int) (up : Bool) (ro ep su ma ot co : Int) (A : Option Addr) (n c : Nat) (V : List EkV) (w : World) (h : LgAt w A V) (hn : V.length = n) (hm : n ≤ 2097152) (hv : nF id up ro ep su ma ot co n (V.map EkV.r) = v) :
    Calls Tryz.prog 144 #[.agg #[.int .i64 id, .bool up, .int .i64 ro, .int .i64 ep, .slice A n c, .int .i64 su, .int .i64 ma, .int .i64 ot, .int .i64 co]] w fun e w' => e = .returned (.int .i64 v) ∧ New w w' := by
  rw [← hv]; exact implNF id up ro ep su ma ot co A n c V w h hn hm
theorem specNFv (v : Int) (B : Nat) (id : Int) (up : Bool) (ro ep su ma ot co : Int) (A : Option Addr) (n c : Nat) (V : List EkV) (w : World) (hb : Blk w B 74 #[.int .i64 id, .bool up, .int .i64 ro, .int .i64 ep, .slice A n c, .int .i64 su, .int .i64 ma, .int .i64 ot, .int .i64 co]) (h : LgAt w A V) (hn : V.length = n) (hm : n ≤ 2097152) (hv : nF id up ro ep su ma ot co n (V.map EkV.r) = v) :
    Calls Tryz.prog 138 #[.pointer (some ⟨B, 0, none⟩)] w fun e w' => e = .returned (.int .i64 v) ∧ New w w' := by
  rw [← hv]; exact specNFp B id up ro ep su ma ot co A n c V w hb h hn hm

theorem upF_any (v : Int) (B : Nat) (id : Int) (up : Bool) (ro ep su ma ot co : Int) (A : Option Addr) (n c : Nat) (V : List EkV) (w : World) (hb : Blk w B 74 #[.int .i64 id, .bool up, .int .i64 ro, .int .i64 ep, .slice A n c, .int .i64 su, .int .i64 ma, .int .i64 ot, .int .i64 co]) (h : LgAt w A V) (hn : V.length = n) (hm : n ≤ 2097152) (hv : uF up (nF id up ro ep su ma ot co n (V.map EkV.r)) = v) :
    Calls Tryz.prog 129 #[.pointer (some ⟨B, 0, none⟩)] w fun e w' => e = .returned (.int .i64 v) ∧ New w w' := by
  have cB := hb.cells
  unfold uF at hv
  by_cases hf : nF id up ro ep su ma ot co n (V.map EkV.r) = 0
  · rw [if_neg (fun k => k hf)] at hv
    cases up with
    | false =>
      obtain rfl : 10 = v := by simpa using hv
      go_enter Tryz.func129, Tryz.ntmps129
      go_wp2_with fail
      refine (implNFv 0 id false ro ep su ma ot co A n c V _ h hn hm hf).mono ?_
      rintro e w1 ⟨rfl, hn1⟩
      have c1 := (hb.new hn1).cells
      clear cB
      go_wp2
      go_ret
      exact ⟨rfl, hn1⟩
    | true =>
      obtain rfl : 0 = v := by simpa using hv
      go_enter Tryz.func129, Tryz.ntmps129
      go_wp2_with fail
      refine (implNFv 0 id true ro ep su ma ot co A n c V _ h hn hm hf).mono ?_
      rintro e w1 ⟨rfl, hn1⟩
      have c1 := (hb.new hn1).cells
      clear cB
      go_wp2
      go_ret
      exact ⟨rfl, hn1⟩
  · rw [if_pos hf] at hv
    have hv0 : ¬ v = 0 := by rw [← hv]; exact hf
    go_enter Tryz.func129, Tryz.ntmps129
    go_wp2_with fail
    refine (implNFv v id up ro ep su ma ot co A n c V _ h hn hm hv).mono ?_
    rintro e w1 ⟨rfl, hn1⟩
    clear cB
    go_wp2
    go_ret
    exact ⟨rfl, hn1⟩

theorem asked_any (v : Int) (B : Nat) (id : Int) (up : Bool) (ro ep su ma ot co : Int) (A : Option Addr) (n c : Nat) (V : List EkV) (w : World) (hb : Blk w B 74 #[.int .i64 id, .bool up, .int .i64 ro, .int .i64 ep, .slice A n c, .int .i64 su, .int .i64 ma, .int .i64 ot, .int .i64 co]) (h : LgAt w A V) (hn : V.length = n) (hm : n ≤ 2097152) (hv : uF up (nF id up ro ep su ma ot co n (V.map EkV.r)) = v) :
    Calls Tryz.prog 108 #[.pointer (some ⟨B, 0, none⟩)] w fun e w' => e = .returned (.int .i64 v) ∧ New w w' := by
  have cB := hb.cells
  unfold uF at hv
  by_cases hf : nF id up ro ep su ma ot co n (V.map EkV.r) = 0
  · rw [if_neg (fun k => k hf)] at hv
    cases up with
    | false =>
      obtain rfl : 10 = v := by simpa using hv
      go_enter Tryz.func108, Tryz.ntmps108
      go_wp2_with fail
      refine (specNFv 0 B id false ro ep su ma ot co A n c V _ hb h hn hm hf).mono ?_
      rintro e w1 ⟨rfl, hn1⟩
      have c1 := (hb.new hn1).cells
      clear cB
      go_wp2
      go_ret
      exact ⟨rfl, hn1⟩
    | true =>
      obtain rfl : 0 = v := by simpa using hv
      go_enter Tryz.func108, Tryz.ntmps108
      go_wp2_with fail
      refine (specNFv 0 B id true ro ep su ma ot co A n c V _ hb h hn hm hf).mono ?_
      rintro e w1 ⟨rfl, hn1⟩
      have c1 := (hb.new hn1).cells
      clear cB
      go_wp2
      go_ret
      exact ⟨rfl, hn1⟩
  · rw [if_pos hf] at hv
    have hv0 : ¬ v = 0 := by rw [← hv]; exact hf
    go_enter Tryz.func108, Tryz.ntmps108
    go_wp2_with fail
    refine (specNFv v B id up ro ep su ma ot co A n c V _ hb h hn hm hv).mono ?_
    rintro e w1 ⟨rfl, hn1⟩
    clear cB
    go_wp2
    go_ret
    exact ⟨rfl, hn1⟩

theorem actF_any (v : Int) (B : Nat) (id : Int) (up : Bool) (ro ep su ma ot co : Int) (A : Option Addr) (n c : Nat) (V : List EkV) (w : World) (hb : Blk w B 74 #[.int .i64 id, .bool up, .int .i64 ro, .int .i64 ep, .slice A n c, .int .i64 su, .int .i64 ma, .int .i64 ot, .int .i64 co]) (h : LgAt w A V) (hn : V.length = n) (hm : n ≤ 2097152) (hv : aF up ro (nF id up ro ep su ma ot co n (V.map EkV.r)) = v) :
    Calls Tryz.prog 122 #[.pointer (some ⟨B, 0, none⟩)] w fun e w' => e = .returned (.int .i64 v) ∧ New w w' := by
  unfold aF at hv
  by_cases hf : uF up (nF id up ro ep su ma ot co n (V.map EkV.r)) = 0
  · rw [if_neg (fun k => k hf)] at hv
    by_cases hr : ro = 1
    · obtain rfl : 0 = v := by simpa [hr] using hv
      subst hr
      go_enter Tryz.func122, Tryz.ntmps122
      go_wp2_with fail
      refine (upF_any 0 B id up 1 ep su ma ot co A n c V _ hb h hn hm hf).mono ?_
      rintro e w1 ⟨rfl, hn1⟩
      go_wp2_with fail
      refine (active_yes B id up ep su ma ot co A n c _ (hb.new hn1)).mono ?_
      rintro e w2 ⟨rfl, rfl⟩
      go_wp2
      go_ret
      exact ⟨rfl, hn1⟩
    · obtain rfl : 10 = v := by simpa [hr] using hv
      go_enter Tryz.func122, Tryz.ntmps122
      go_wp2_with fail
      refine (upF_any 0 B id up ro ep su ma ot co A n c V _ hb h hn hm hf).mono ?_
      rintro e w1 ⟨rfl, hn1⟩
      go_wp2_with fail
      refine (active_no B id up ro ep su ma ot co A n c _ (hb.new hn1) hr).mono ?_
      rintro e w2 ⟨rfl, rfl⟩
      go_wp2
      go_ret
      exact ⟨rfl, hn1⟩
  · rw [if_pos hf] at hv
    have hv0 : ¬ v = 0 := by rw [← hv]; exact hf
    go_enter Tryz.func122, Tryz.ntmps122
    go_wp2_with fail
    refine (upF_any v B id up ro ep su ma ot co A n c V _ hb h hn hm hv).mono ?_
    rintro e w1 ⟨rfl, hn1⟩
    go_wp2
    go_ret
    exact ⟨rfl, hn1⟩

theorem sactF_any (v : Int) (B : Nat) (id : Int) (up : Bool) (ro ep su ma ot co : Int) (A : Option Addr) (n c : Nat) (V : List EkV) (w : World) (hb : Blk w B 74 #[.int .i64 id, .bool up, .int .i64 ro, .int .i64 ep, .slice A n c, .int .i64 su, .int .i64 ma, .int .i64 ot, .int .i64 co]) (h : LgAt w A V) (hn : V.length = n) (hm : n ≤ 2097152) (hv : aF up ro (nF id up ro ep su ma ot co n (V.map EkV.r)) = v) :
    Calls Tryz.prog 65 #[.pointer (some ⟨B, 0, none⟩)] w fun e w' => e = .returned (.int .i64 v) ∧ New w w' := by
  unfold aF at hv
  by_cases hf : uF up (nF id up ro ep su ma ot co n (V.map EkV.r)) = 0
  · rw [if_neg (fun k => k hf)] at hv
    by_cases hr : ro = 1
    · obtain rfl : 0 = v := by simpa [hr] using hv
      subst hr
      go_enter Tryz.func65, Tryz.ntmps65
      go_wp2_with fail
      refine (asked_any 0 B id up 1 ep su ma ot co A n c V _ hb h hn hm hf).mono ?_
      rintro e w1 ⟨rfl, hn1⟩
      have c1 := (hb.new hn1).cells
      go_wp2
      go_ret
      exact ⟨rfl, hn1⟩
    · obtain rfl : 10 = v := by simpa [hr] using hv
      have g : (ro != 1) = true := by simp [hr]
      go_enter Tryz.func65, Tryz.ntmps65
      go_wp2_with fail
      refine (asked_any 0 B id up ro ep su ma ot co A n c V _ hb h hn hm hf).mono ?_
      rintro e w1 ⟨rfl, hn1⟩
      have c1 := (hb.new hn1).cells
      go_wp2
      go_ret
      exact ⟨rfl, hn1⟩
  · rw [if_pos hf] at hv
    have hv0 : ¬ v = 0 := by rw [← hv]; exact hf
    go_enter Tryz.func65, Tryz.ntmps65
    go_wp2_with fail
    refine (asked_any v B id up ro ep su ma ot co A n c V _ hb h hn hm hv).mono ?_
    rintro e w1 ⟨rfl, hn1⟩
    go_wp2
    go_ret
    exact ⟨rfl, hn1⟩

theorem bad12 (z : Int) (w : World) : Calls Tryz.prog 66 #[.int .i64 z] w fun e w' => e = .returned (.agg #[.int .i64 z, .int .i64 0, .bool false, .int .i64 0, .int .i64 0, .slice none 0 0, .int .i64 0, .int .i64 0, .int .i64 0, .int .i64 0, .slice none 0 0]) ∧ New w w' := by
  go_enter Tryz.func66, Tryz.ntmps66
  go_wp2
  exact bodyPost_ret (v := .agg #[.int .i64 z, .int .i64 0, .bool false, .int .i64 0, .int .i64 0, .slice none 0 0, .int .i64 0, .int .i64 0, .int .i64 0, .int .i64 0, .slice none 0 0]) (by simp [results, Tryz.results66, go_sem]) rfl ⟨rfl, (New.refl w).alloc _⟩

theorem nrAns_mk {w w' : World} {z1 id1 : Int} {up1 : Bool} {ro1 ep1 su1 ma1 ot1 co1 : Int} {L : List Ek} {M : List Ml} {A S : Option Addr} {n c q cs : Nat} {U : List EkV} {Ms : List MlV} (hL : L.length = n) (hQ : M.length = q) (hU : U.map EkV.r = L) (hM : Ms.map MlV.m = M) (ho : NrOw w' w.heap.size w'.heap.size A n c U S q cs Ms) (hn : New w w') :
    NrAns w z1 id1 up1 ro1 ep1 su1 ma1 ot1 co1 L M (.returned (.agg #[.int .i64 z1, .int .i64 id1, .bool up1, .int .i64 ro1, .int .i64 ep1, .slice A n c, .int .i64 su1, .int .i64 ma1, .int .i64 ot1, .int .i64 co1, .slice S q cs])) w' := by
  subst hL hQ
  exact ⟨A, c, U, S, cs, Ms, rfl, hU, hM, ho, hn⟩
theorem nrAns_bad {w w' : World} (z : Int) (hn : New w w') : NrAns w z 0 false 0 0 0 0 0 0 [] [] (.returned (.agg #[.int .i64 z, .int .i64 0, .bool false, .int .i64 0, .int .i64 0, .slice none 0 0, .int .i64 0, .int .i64 0, .int .i64 0, .int .i64 0, .slice none 0 0])) w' :=
  nrAns_mk (n := 0) (q := 0) (U := []) (Ms := []) rfl rfl rfl rfl ⟨w.heap.size, w'.heap.size, fun _ => False, OwL.nil _ _ _, SdOw.nil _ _, fun _ f => f.elim, fun _ f => f.elim, Nat.le_refl _, Nat.le_refl _⟩ hn
/-- A log alone, of the call's own. -/
theorem NrOw.log {w : World} {b0 b1 lo hi n c : Nat} {A : Option Addr} {U : List EkV} (h : OwL w lo hi (.slice A n c) U) (h0 : b0 ≤ lo) (h1 : hi ≤ b1) : NrOw w b0 b1 A n c U none 0 0 [] :=
  ⟨lo, hi, fun _ => False, h, SdOw.nil _ _, fun _ f => f.elim, fun _ f => f.elim, h0, h1⟩
theorem set11 {S : Nat → Prop} (w : World) (B : Nat) (hS : S B) (v0 v1 v2 v3 v4 v5 v6 v7 v8 v9 v10 : Value) : Turn S w (((((((((((w.setCell ⟨B, 0, none⟩ v0).setCell ⟨B, 1, none⟩ v1).setCell ⟨B, 2, none⟩ v2).setCell ⟨B, 3, none⟩ v3).setCell ⟨B, 4, none⟩ v4).setCell ⟨B, 5, none⟩ v5).setCell ⟨B, 6, none⟩ v6).setCell ⟨B, 7, none⟩ v7).setCell ⟨B, 8, none⟩ v8).setCell ⟨B, 9, none⟩ v9).setCell ⟨B, 10, none⟩ v10) :=
  (((((((((((Turn.refl S w).set (p := ⟨B, 0, none⟩) hS v0).set (p := ⟨B, 1, none⟩) hS v1).set (p := ⟨B, 2, none⟩) hS v2).set (p := ⟨B, 3, none⟩) hS v3).set (p := ⟨B, 4, none⟩) hS v4).set (p := ⟨B, 5, none⟩) hS v5).set (p := ⟨B, 6, none⟩) hS v6).set (p := ⟨B, 7, none⟩) hS v7).set (p := ⟨B, 8, none⟩) hS v8).set (p := ⟨B, 9, none⟩) hS v9).set (p := ⟨B, 10, none⟩) hS v10


theorem nF_ok (id : Int) (up : Bool) (ro ep su ma ot co : Int) (n : Nat) (L : List Ek) (h : nF id up ro ep su ma ot co n L = 0) : Hd id ro ep ∧ n ≤ 100 ∧ lgF ep 0 L = 0 ∧ Cn su ma ot co n ∧ Ft up ro ep ma ot ∧ (up = false → Rs su ma co n) := by
  unfold nF at h
  by_cases h1 : (id = 0 ∨ id = 1) ∧ (ro = 0 ∨ ro = 1) ∧ 0 ≤ ep ∧ ep ≤ 1000
  case neg => rw [if_pos h1] at h; omega
  rw [if_neg (fun k => k h1)] at h
  by_cases h2 : 100 < n
  case pos => rw [if_pos h2] at h; omega
  rw [if_neg h2] at h
  by_cases h3 : lgF ep 0 L = 0
  case neg => rw [if_pos h3] at h; exact absurd h h3
  rw [if_neg (fun k => k h3)] at h
  by_cases h4 : (0 ≤ su ∧ su ≤ n) ∧ (0 ≤ ma ∧ ma ≤ n) ∧ (0 ≤ ot ∧ ot ≤ n) ∧ 0 ≤ co ∧ co ≤ su
  case neg => rw [if_pos h4] at h; omega
  rw [if_neg (fun k => k h4)] at h
  by_cases h5 : (ro = 1 → up = true ∧ 0 < ep ∧ ma = 0) ∧ (ro ≠ 1 → ot = 0)
  case neg => rw [if_pos h5] at h; omega
  rw [if_neg (fun k => k h5)] at h
  by_cases h6 : up = false ∧ ¬ (su = n ∧ ma = 0 ∧ co = 0)
  · rw [if_pos h6] at h; omega
  · exact ⟨h1, by omega, h3, h4, h5, fun hu => Classical.byContradiction fun hr => h6 ⟨hu, hr⟩⟩
end Go.Proofs.YtdbnmkffinhdjaaGreat
