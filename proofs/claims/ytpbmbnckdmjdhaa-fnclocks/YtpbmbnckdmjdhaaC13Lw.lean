/- What is proved here: what copying, counting, comparing and marking clocks and answers of clocks, and looking for the marks, answer; for lists of at most 1048576 numbers. -/
import Derived.Test.YtpbmbnckdmjdhaaC13An
import Derived.Test.YtpbmbnckdmjdhaaL13Op
namespace Go.Proofs.Ytpbmbnckdmjdhaa
open Go.RowKit
set_option linter.unusedVariables false
set_option linter.unusedSimpArgs false

set_option maxHeartbeats 400000 in
theorem szCk_ok (nw : Int) (a : Option Addr) (n c l : Nat) (w : World) (hl : l ≤ 1048576) (h : n ≤ l) : Calls Try.prog 30 #[.agg #[.int .i64 nw, .slice a n c], .int .i64 l] w fun e w' => e = .returned (.int .i64 ((l : Int) - n)) ∧ New w w' := by
  go_enter Try.func30, Try.ntmps30
  go_wp2_with fail
  refine (szNs_ok a n c l _ hl h).mono ?_
  rintro e w1 ⟨rfl, rfl⟩
  go_wp2
  go_ret
  exact ⟨rfl, (New.refl w).alloc _⟩

set_option maxHeartbeats 400000 in
theorem szCk_big (nw : Int) (a : Option Addr) (n c l : Nat) (w : World) (hl : l ≤ 1048576) (hn : n ≤ maxLen) (h : l < n) : Calls Try.prog 30 #[.agg #[.int .i64 nw, .slice a n c], .int .i64 l] w fun e w' => e = .returned (.int .i64 (-1)) ∧ New w w' := by
  go_enter Try.func30, Try.ntmps30
  go_wp2_with fail
  refine (szNs_big a n c l _ hl hn h).mono ?_
  rintro e w1 ⟨rfl, rfl⟩
  go_wp2
  go_ret
  exact ⟨rfl, (New.refl w).alloc _⟩

set_option maxHeartbeats 800000 in
theorem toCk_any (nw : Int) (a : Option Addr) (n c : Nat) (xs : List Int) (w : World) (h : NsAt w a xs) (hn : xs.length = n) (hm : n ≤ 1048576) :
    Calls Try.prog 32 #[.agg #[.int .i64 nw, .slice a n c]] w fun e w' => ∃ g, e = .returned (.agg #[.int .i64 nw, .slice (some ⟨g, 0, none⟩) n n]) ∧ w.heap.size ≤ g ∧ OwN w' g n n xs ∧ New w w' := by
  have N0 : New w (((w.alloc (.cells #[.int .i64 nw, .slice a n c] 49)).alloc (.cells #[.int .i64 0, .slice none 0 0] 26)).alloc (.cells #[.int .i64 nw, .slice none 0 0] 26)) := (((New.refl w).alloc _).alloc _).alloc _
  have bR0 : Blk (((w.alloc (.cells #[.int .i64 nw, .slice a n c] 49)).alloc (.cells #[.int .i64 0, .slice none 0 0] 26)).alloc (.cells #[.int .i64 nw, .slice none 0 0] 26)) (w.heap.size + 1) 26 #[.int .i64 0, .slice none 0 0] := (Blk.mk _ _ _ _ (by simp)).alloc _
  have bC0 : Blk (((w.alloc (.cells #[.int .i64 nw, .slice a n c] 49)).alloc (.cells #[.int .i64 0, .slice none 0 0] 26)).alloc (.cells #[.int .i64 nw, .slice none 0 0] 26)) (w.heap.size + 1 + 1) 26 #[.int .i64 nw, .slice none 0 0] := Blk.mk _ _ _ _ (by simp)
  go_enter Try.func32, Try.ntmps32
  go_wp2_with fail
  refine (toNs_any a n c xs _ (h.new N0) hn hm).mono ?_
  rintro e w1 ⟨g, rfl, hg, ho, hn1⟩
  have bR1 := bR0.new hn1
  have bC1 := bC0.new hn1
  have N1 := N0.trans hn1
  have z0 := N0.size
  have cR := bR1.cells
  have fR := bR1.frees
  have lR := bR1.lt
  have cC := bC1.cells
  have fC := bC1.frees
  have lC := bC1.lt
  have gR : ¬ w.heap.size + 1 = g := Blk.ne_own bR1 ho (by decide)
  have gC : ¬ w.heap.size + 1 + 1 = g := Blk.ne_own bC1 ho (by decide)
  clear bR0 bC0 N0 hn1
  go_wp2
  refine bodyPost_ret (v := .agg #[.int .i64 nw, .slice (some ⟨g, 0, none⟩) n n]) (by simp [results, Try.results32, go_sem, cR, cC]) rfl ⟨g, rfl, by omega, ?_, ?_⟩
  · simp (disch := first | exact gR | exact gC) only [OwN.set_iff]
    exact ho
  · simp (disch := first | (show w.heap.size ≤ w.heap.size + 1 + 1; omega) | (show w.heap.size ≤ w.heap.size + 1; omega)) only [New.set13]
    exact N1

set_option maxHeartbeats 800000 in
theorem eqCk_any (nw : Int) (a b : Option Addr) (n c d : Nat) (xs : List Int) (w : World) (ha : NsAt w a xs) (hb : NsAt w b xs) (hn : xs.length = n) (hm : n ≤ 1048576) :
    Calls Try.prog 33 #[.agg #[.int .i64 nw, .slice a n c], .agg #[.int .i64 nw, .slice b n d]] w fun e w' => e = .returned (.bool true) ∧ New w w' := by
  have h0 : (nw != nw) = false := by simp
  have N0 : New w ((w.alloc (.cells #[.int .i64 nw, .slice a n c] 26)).alloc (.cells #[.int .i64 nw, .slice b n d] 26)) := ((New.refl w).alloc _).alloc _
  go_enter Try.func33, Try.ntmps33
  go_wp2_with fail
  refine (eqNs_any a b n c d xs _ (ha.new N0) (hb.new N0) hn hm).mono ?_
  rintro e w1 ⟨rfl, hn1⟩
  go_wp2
  go_ret
  exact ⟨rfl, N0.trans hn1⟩

set_option maxHeartbeats 800000 in
theorem eqCr_any (cd nw : Int) (a b : Option Addr) (n c d : Nat) (xs : List Int) (w : World) (ha : NsAt w a xs) (hb : NsAt w b xs) (hn : xs.length = n) (hm : n ≤ 1048576) :
    Calls Try.prog 36 #[.agg #[.int .i64 cd, .int .i64 nw, .slice a n c], .agg #[.int .i64 cd, .int .i64 nw, .slice b n d]] w fun e w' => e = .returned (.bool true) ∧ New w w' := by
  have h0 : (cd != cd) = false := by simp
  have N0 : New w ((w.alloc (.cells #[.int .i64 cd, .int .i64 nw, .slice a n c] 30)).alloc (.cells #[.int .i64 cd, .int .i64 nw, .slice b n d] 30)) := ((New.refl w).alloc _).alloc _
  go_enter Try.func36, Try.ntmps36
  go_wp2_with fail
  refine (eqCk_any nw a b n c d xs _ (ha.new N0) (hb.new N0) hn hm).mono ?_
  rintro e w1 ⟨rfl, hn1⟩
  go_wp2
  go_ret
  exact ⟨rfl, N0.trans hn1⟩

/-- A list of the call's own between two bounds, or nil. -/
structure OvS (w : World) (lo hi : Nat) (a : Option Addr) (m k : Nat) (xs : List Int) : Prop where
  or : (a = none ∧ m = 0 ∧ k = 0 ∧ xs = []) ∨ ∃ g, a = some ⟨g, 0, none⟩ ∧ lo ≤ g ∧ g < hi ∧ OwN w g m k xs

theorem OvC.open {w : World} {lo : Nat} {v : Value} {xs : List Int} {m : Nat} (h : OvC w lo v xs) (hm : xs.length = m) : ∃ a k, v = .slice a m k ∧ OvS w lo w.heap.size a m k xs := by
  subst hm
  rcases h with ⟨rfl, rfl⟩ | ⟨g, k, rfl, hg, ho⟩
  · exact ⟨none, 0, rfl, ⟨.inl ⟨rfl, rfl, rfl, rfl⟩⟩⟩
  · exact ⟨_, k, rfl, ⟨.inr ⟨g, rfl, hg, ho.lt, ho⟩⟩⟩

theorem OvS.turn {w w' : World} {lo hi m k : Nat} {a : Option Addr} {xs : List Int} {S : Nat → Prop} (h : OvS w lo hi a m k xs) (t : Turn S w w') (hS : ∀ i, lo ≤ i → i < hi → ¬ S i) : OvS w' lo hi a m k xs := by
  rcases h.or with h | ⟨g, h1, h2, h3, h4⟩
  · exact ⟨.inl h⟩
  · exact ⟨.inr ⟨g, h1, h2, h3, h4.turn t (hS g h2 h3)⟩⟩

theorem OvS.new {w w' : World} {lo hi m k : Nat} {a : Option Addr} {xs : List Int} (h : OvS w lo hi a m k xs) (t : New w w') : OvS w' lo hi a m k xs := h.turn t (fun _ _ _ f => f)

theorem OvS.ns {w : World} {lo hi m k : Nat} {a : Option Addr} {xs : List Int} (h : OvS w lo hi a m k xs) (hb : ∀ z ∈ xs, In6 z) : NsAt w a xs := by
  rcases h.or with ⟨_, _, _, rfl⟩ | ⟨g, rfl, _, _, h4⟩
  · exact NsAt.nil _ _
  · exact h4.ns hb

set_option maxHeartbeats 400000 in
theorem markCk_t (nw : Int) (g m c : Nat) (xs : List Int) (s : Int) (w : World) (h : OwN w g m c xs) (hm : m ≤ 1048576) (hs0 : 0 ≤ s) (hs1 : s ≤ 1125899906842624) :
    Calls Try.prog 38 #[.agg #[.int .i64 nw, .slice (some ⟨g, 0, none⟩) m c], .int .i64 s] w fun e w' => e = .returned (.int .i64 (s + (m : Int))) ∧ OwN w' g m c (mkN7 s m) ∧ Turn (fun k => k = g) w w' := by
  have N0 : New w (w.alloc (.cells #[.int .i64 nw, .slice (some ⟨g, 0, none⟩) m c] 26)) := (New.refl w).alloc _
  go_enter Try.func38, Try.ntmps38
  go_wp2_with fail
  refine (markNs7 g m c xs s _ (h.new N0) hm hs0 hs1).mono ?_
  rintro e w1 ⟨rfl, ho, ht⟩
  go_wp2
  go_ret
  exact ⟨rfl, ho, Turn.trans N0.turn ht (fun i _ e => e)⟩

set_option maxHeartbeats 400000 in
theorem markCk_0 (nw : Int) (s : Int) (w : World) :
    Calls Try.prog 38 #[.agg #[.int .i64 nw, .slice none 0 0], .int .i64 s] w fun e w' => e = .returned (.int .i64 s) ∧ New w w' := by
  go_enter Try.func38, Try.ntmps38
  go_wp2_with fail
  refine (markNs70 s _).mono ?_
  rintro e w1 ⟨rfl, rfl⟩
  go_wp2
  go_ret
  exact ⟨rfl, (New.refl w).alloc _⟩

set_option maxHeartbeats 400000 in
theorem markCr_t (cd nw : Int) (lo hi : Nat) (a : Option Addr) (m c : Nat) (xs : List Int) (s : Int) (w : World) (h : OvS w lo hi a m c xs) (hm : m ≤ 1048576) (hs0 : 0 ≤ s) (hs1 : s ≤ 1125899906842624) :
    Calls Try.prog 40 #[.agg #[.int .i64 cd, .int .i64 nw, .slice a m c], .int .i64 s] w fun e w' => e = .returned (.int .i64 (s + (m : Int))) ∧ OvS w' lo hi a m c (mkN7 s m) ∧ Turn (fun k => lo ≤ k ∧ k < hi) w w' := by
  have N0 : New w (w.alloc (.cells #[.int .i64 cd, .int .i64 nw, .slice a m c] 30)) := (New.refl w).alloc _
  rcases h.or with ⟨rfl, rfl, rfl, rfl⟩ | ⟨g, rfl, hg0, hg1, ho⟩
  all_goals clear h
  · go_enter Try.func40, Try.ntmps40
    go_wp2_with fail
    refine (markCk_0 nw s _).mono ?_
    rintro e w1 ⟨rfl, hn1⟩
    go_wp2
    go_ret
    exact ⟨ret_i64 (by simp), ⟨.inl ⟨rfl, rfl, rfl, rfl⟩⟩, (N0.trans hn1).turn⟩
  · go_enter Try.func40, Try.ntmps40
    go_wp2_with fail
    refine (markCk_t nw g m c xs s _ (ho.new N0) hm hs0 hs1).mono ?_
    rintro e w1 ⟨rfl, ho1, ht⟩
    go_wp2
    go_ret
    exact ⟨rfl, ⟨.inr ⟨g, rfl, hg0, hg1, ho1⟩⟩, Turn.trans N0.turn ht (fun i _ e => by subst e; exact ⟨hg0, hg1⟩)⟩

set_option maxHeartbeats 400000 in
theorem heldCk (nw : Int) (a : Option Addr) (n c : Nat) (s : Int) (w : World) (h : NsAt w a (mkN7 s n)) (hm : n ≤ 1048576) (hs0 : 0 ≤ s) (hs1 : s ≤ 1125899906842624) :
    Calls Try.prog 62 #[.agg #[.int .i64 nw, .slice a n c], .int .i64 s] w fun e w' => e = .returned (.int .i64 (s + (n : Int))) ∧ New w w' := by
  have N0 : New w (w.alloc (.cells #[.int .i64 nw, .slice a n c] 26)) := (New.refl w).alloc _
  have hnn : ¬ s + (n : Int) < 0 := by omega
  go_enter Try.func62, Try.ntmps62
  go_wp2_with fail
  refine (heldNs7 a n c s _ (h.new N0) hm hs0 hs1).mono ?_
  rintro e w1 ⟨rfl, rfl⟩
  go_wp2
  go_ret
  exact ⟨rfl, N0⟩

set_option maxHeartbeats 400000 in
theorem heldCr (cd nw : Int) (a : Option Addr) (n c : Nat) (s : Int) (w : World) (h : NsAt w a (mkN7 s n)) (hm : n ≤ 1048576) (hs0 : 0 ≤ s) (hs1 : s ≤ 1125899906842624) :
    Calls Try.prog 41 #[.agg #[.int .i64 cd, .int .i64 nw, .slice a n c], .int .i64 s] w fun e w' => e = .returned (.int .i64 (s + (n : Int))) ∧ New w w' := by
  have N0 : New w (w.alloc (.cells #[.int .i64 cd, .int .i64 nw, .slice a n c] 30)) := (New.refl w).alloc _
  have hnn : ¬ s + (n : Int) < 0 := by omega
  go_enter Try.func41, Try.ntmps41
  go_wp2_with fail
  refine (heldCk nw a n c s _ (h.new N0) hm hs0 hs1).mono ?_
  rintro e w1 ⟨rfl, hn1⟩
  go_wp2
  go_ret
  exact ⟨rfl, N0.trans hn1⟩

theorem ti_len (nw t : Int) (xs os : List Int) : (tiR nw xs t os).xs.length ≤ 2 := by
  unfold tiR
  split
  · split
    · split
      · split <;> simp
      · simp
    · simp
  · simp

theorem ti_in (nw t : Int) (xs os : List Int) (hx : ∀ z ∈ xs, In6 z) : ∀ z ∈ (tiR nw xs t os).xs, In6 z := by
  unfold tiR
  split
  · rename_i h0
    obtain ⟨⟨h1, h2⟩, x, y, rfl, ⟨a0, a1, a2⟩, ⟨b0, b1, b2⟩⟩ := ckF_zero h0
    split
    · rename_i h3
      obtain ⟨⟨c0, c1⟩, c2⟩ := h3
      split
      · rename_i p q e
        cases e
        split
        · rename_i h4
          obtain ⟨⟨d0, d1⟩, ⟨d2, d3⟩⟩ := h4
          intro z hz
          simp only [List.mem_cons, List.not_mem_nil, or_false] at hz
          unfold In6
          rcases hz with rfl | rfl <;> omega
        · intro z hz; cases hz
      · intro z hz; cases hz
    · intro z hz; cases hz
  · intro z hz; cases hz

end Go.Proofs.Ytpbmbnckdmjdhaa
