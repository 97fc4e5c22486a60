/- What is proved here: for every list of prefixes the law on OrderPrefixes returns true, and the list reads as it did. No condition. -/
import Derived.Test.YtgjdjafldogecaaPsOpen
import Derived.Test.YtgjdjafldogecaaOrFn
import Derived.Test.YtgjdjafldogecaaOrMark
namespace Go.Proofs.Ytgjdjafldogecaa
open Go.ChangeShapes Go.WideShapes Go.ChangeAt Go.RowKit Go.Sort Go.Shelf
set_option linter.unusedVariables false

theorem OwL.turnO {w w' : World} {lo : Nat} {v : Value} {L : List (Int × Int)} {S : Nat → Prop} (h : OwL w lo v L) (t : Turn S w w') (hS : ∀ k, some k = v.ownBlock → ¬ S k) : OwL w' lo v L := by
  rcases h with h | ⟨g, c, rfl, hg, ho⟩
  · exact .inl h
  · exact .inr ⟨g, c, rfl, hg, ho.turn t (hS g rfl)⟩
theorem OwL.lt {w : World} {lo : Nat} {v : Value} {L : List (Int × Int)} (h : OwL w lo v L) : ∀ k, some k = v.ownBlock → lo ≤ k ∧ k < w.heap.size := by
  intro k hk
  refine ⟨h.blk hk, ?_⟩
  rcases h with ⟨rfl, _⟩ | ⟨g, c, rfl, hg, ho⟩
  · simp [Value.ownBlock] at hk
  · simp [Value.ownBlock] at hk
    subst hk
    exact ho.lt
theorem OwL.new {w w' : World} {lo : Nat} {v : Value} {L : List (Int × Int)} (h : OwL w lo v L) (t : New w w') : OwL w' lo v L := h.turn t (fun _ _ f => f)

/-- What the answer holds. -/
def ansP (ps : List (Int × Int)) : List (Int × Int) := if lf ps = 0 then sortP ps else []
theorem ansP_bd {ps : List (Int × Int)} (h : ∀ p ∈ ps, In6 p.1 ∧ In6 p.2) : ∀ p ∈ ansP ps, In6 p.1 ∧ In6 p.2 := by
  intro p hp
  unfold ansP at hp
  split at hp
  · exact h p (mem_sortP.1 hp)
  · cases hp
theorem ansP_len (ps : List (Int × Int)) : (ansP ps).length ≤ ps.length := by
  unfold ansP
  split
  · rw [len_sortP]; exact len_once ps
  · simp

set_option maxRecDepth 100000 in
set_option maxHeartbeats 1600000 in
theorem por_walk (a : Option Addr) (n c : Nat) (ps : List (Int × Int)) (w : World) (h : PsAt w a ps) (hn : ps.length = n) (hm : n ≤ maxLen) :
    Calls Try.prog 8 #[.slice a n c] w fun e w' => e = .returned (.bool true) ∧ New w w' := by
  by_cases hbig : 1048576 < n
  · go_enter Try.func8, Try.ntmps8
    go_wp2_with fail
    refine (szPs_big a n c 1048576 _ (Nat.le_refl _) hm hbig).mono ?_
    rintro e w1 ⟨rfl, rfl⟩
    go_wp2
    go_ret
    exact ⟨rfl, New.refl _⟩
  · have hm' : n ≤ 1048576 := by omega
    have hbd : Hid (∀ p ∈ ps, In6 p.1 ∧ In6 p.2) := h.bd
    have hab : Hid (∀ p ∈ ansP ps, In6 p.1 ∧ In6 p.2) := ansP_bd h.bd
    have hal : (ansP ps).length ≤ 1048576 := by have := ansP_len ps; omega
    clear hm
    go_enter Try.func8, Try.ntmps8
    go_wp2_with fail
    refine (szPs_ok a n c 1048576 _ (Nat.le_refl _) hm').mono ?_
    rintro e w1 ⟨rfl, rfl⟩
    go_wp2_with fail
    refine (toPs_any a n c ps _ h hn hm').mono ?_
    rintro e w2 ⟨g2, rfl, hg2, ho2, hn2⟩
    go_wp2_with fail
    refine (specOr _ n n ps _ (ho2.ps hbd.out) hn hm').mono ?_
    rintro e w3 ⟨v0, rfl, hL0, hn3⟩
    change OwL w3 _ v0 (ansP ps) at hL0
    obtain ⟨a0, l0, c0, rfl⟩ := hL0.form
    have hn13 := hn2.trans hn3
    have hlt3 := hn13.size
    obtain ⟨cd, HCD⟩ : ∃ cd, Hid (lf ps = cd) := ⟨_, rfl⟩
    rw [HCD.out]
    have L0lt : Hid (∀ k, some k = Value.ownBlock (.slice a0 l0 c0) → w2.heap.size ≤ k ∧ k < w3.heap.size) := hL0.lt
    have hB : Blk (w3.alloc (.cells #[.int .i64 cd, .slice a0 l0 c0] 59)) w3.heap.size 59 #[.int .i64 cd, .slice a0 l0 c0] := Blk.mk _ _ _ _ rfl
    have hn14 := hn13.alloc (.cells #[.int .i64 cd, .slice a0 l0 c0] 59)
    go_wp2_with fail
    refine (toPs_any a n c ps _ (h.new hn14) hn hm').mono ?_
    rintro e w4 ⟨g4, rfl, hg4, ho4, hn4⟩
    have hn15 := hn14.trans hn4
    have hs4 : w3.heap.size + 1 ≤ w4.heap.size := by have := hn4.size; simpa using this
    have hlt4 := ho4.lt
    go_wp2_with fail
    refine (implOr _ n n ps _ (ho4.ps hbd.out) hn hm').mono ?_
    rintro e w5 ⟨v1, rfl, hL1, hn5⟩
    change OwL w5 _ v1 (ansP ps) at hL1
    obtain ⟨a1, l1, c1, rfl⟩ := hL1.form
    rw [HCD.out]
    have L1lt : Hid (∀ k, some k = Value.ownBlock (.slice a1 l1 c1) → w4.heap.size ≤ k ∧ k < w5.heap.size) := hL1.lt
    have hs5 := hn5.size
    have hn16 := hn15.trans hn5
    have hA5 := (New.refl w5).alloc (.cells #[.int .i64 cd, .slice a1 l1 c1] 59)
    have hG : Blk (w5.alloc (.cells #[.int .i64 cd, .slice a1 l1 c1] 59)) w5.heap.size 59 #[.int .i64 cd, .slice a1 l1 c1] := Blk.mk _ _ _ _ rfl
    have hB5 := ((hB.new hn4).new hn5).new hA5
    have hL1a := hL1.new hA5
    have hL0a := ((((hL0.new ((New.refl w3).alloc (.cells #[.int .i64 cd, .slice a0 l0 c0] 59))).new hn4).new hn5).new hA5)
    have hcs := hB5.cells
    have hcg := hG.cells
    go_wp2_with fail
    refine (eqPR_any _ _ cd _ _ (ansP ps) _ hL1a hL0a hab.out hal).mono ?_
    rintro e w6 ⟨rfl, hn6⟩
    have hn17 := (hn16.trans hA5).trans hn6
    have hn46 : New w4 w6 := (hn5.trans hA5).trans hn6
    clear hcs hcg
    go_wp2_with fail
    refine (toPs_any a n c ps _ (h.new hn17) hn hm').mono ?_
    rintro e w7 ⟨g7, rfl, hg7, ho7, hn7⟩
    go_wp2_with fail
    refine (eqPs_any _ _ n n n ps _ ((ho4.new (hn46.trans hn7)).ps hbd.out) (ho7.ps hbd.out) hn hm').mono ?_
    rintro e w8 ⟨rfl, hn8⟩
    have hn68 : New w6 w8 := hn7.trans hn8
    have hn18 := hn17.trans hn68
    have hB8 := (hB5.new hn6).new hn68
    have hG8 := (hG.new hn6).new hn68
    have hL18 := (hL1a.new hn6).new hn68
    have hL08 := (hL0a.new hn6).new hn68
    go_wp2_with fail
    refine (markP_row g4 n n ps _ (ho4.new (hn46.trans hn68)) hm').mono ?_
    rintro e w9 ⟨rfl, ho9, ht9⟩
    have hg4' : w3.heap.size + 1 ≤ g4 := by simpa using hg4
    have hs1 := hn13.size
    have hn19 : New w1 w9 := hn18.before ht9 (fun q hq e => by omega)
    have hB9 := hB8.turn ht9 (by omega)
    have hG9 := hG8.turn ht9 (by omega)
    have hL19 := hL18.turnO ht9 (fun k hk e => by have := L1lt.out k hk; omega)
    have hL09 := hL08.turnO ht9 (fun k hk e => by have := L0lt.out k hk; omega)
    have hcs := hB9.cells
    have hcg := hG9.cells
    have h0 : ¬ (1 + 2 * (n : Int) < 0) := by omega
    go_wp2_with fail
    refine (eqPR_any _ _ cd _ _ (ansP ps) _ hL19 hL09 hab.out hal).mono ?_
    rintro e w10 ⟨rfl, hn10⟩
    clear hcs hcg
    have hn110 := hn19.trans hn10
    have hB10 := hB9.new hn10
    have hG10 := hG9.new hn10
    have hL110 := hL19.new hn10
    have hL010 := hL09.new hn10
    have hcg := hG10.cells
    go_wp2_with fail
    refine (markPR_any _ cd _ (ansP ps) _ hL110 hal).mono ?_
    rintro e w11 ⟨rfl, hL111, ht11⟩
    clear hcg
    have hn111 : New w1 w11 := hn110.before ht11 (fun q hq e => by have := L1lt.out q e; omega)
    have hB11 := hB10.turn ht11 (fun e => by have := L1lt.out _ e; omega)
    have hG11 := hG10.turn ht11 (fun e => by have := L1lt.out _ e; omega)
    have hL011 := hL010.turnO ht11 (fun k hk e => by have := L0lt.out k hk; have := L1lt.out k e; omega)
    have hcg := hG11.cells
    generalize hml : (ansP ps).length = m at *
    have h1 : ¬ (1 + 2 * (m : Int) < 0) := by omega
    have h2 : ((1 + 2 * (m : Int)) != (1 + 2 * (m : Int))) = false := by simp
    go_wp2_with fail
    refine (heldPR_any _ cd _ m _ hL111 hal).mono ?_
    rintro e w12 ⟨rfl, hn12⟩
    clear hcg
    have hn112 := hn111.trans hn12
    go_wp2_with fail
    refine (toPs_any a n c ps _ (h.new hn112) hn hm').mono ?_
    rintro e w13 ⟨g13, rfl, hg13, ho13, hn13'⟩
    go_wp2_with fail
    refine (implOr _ n n ps _ (ho13.ps hbd.out) hn hm').mono ?_
    rintro e w14 ⟨v2, rfl, hL2, hn14'⟩
    change OwL w14 _ v2 (ansP ps) at hL2
    obtain ⟨a2, l2, c2, rfl⟩ := hL2.form
    rw [HCD.out]
    have hA14 := (New.refl w14).alloc (.cells #[.int .i64 cd, .slice a2 l2 c2] 59)
    have hn1214 : New w11 (w14.alloc (.cells #[.int .i64 cd, .slice a2 l2 c2] 59)) := ((hn12.trans hn13').trans hn14').trans hA14
    have hH : Blk (w14.alloc (.cells #[.int .i64 cd, .slice a2 l2 c2] 59)) w14.heap.size 59 #[.int .i64 cd, .slice a2 l2 c2] := Blk.mk _ _ _ _ rfl
    have hB14 := hB11.new hn1214
    have hG14 := hG11.new hn1214
    have hcs := hB14.cells
    have hch := hH.cells
    go_wp2_with fail
    refine (eqPR_any _ _ cd _ _ (ansP ps) _ (hL2.new hA14) (hL011.new hn1214) hab.out (by omega)).mono ?_
    rintro e w15 ⟨rfl, hn15'⟩
    clear hcs hch
    have hcg := (hG14.new hn15').cells
    go_wp2_with fail
    refine (heldPR_any _ cd _ m _ ((hL111.new hn1214).new hn15') hal).mono ?_
    rintro e w16 ⟨rfl, hn16'⟩
    go_wp2
    go_ret
    exact ⟨rfl, ((hn111.trans hn1214).trans hn15').trans hn16'⟩


set_option maxRecDepth 100000 in
theorem por_lifted (os : Os) (started : os.Started) (H : Type) (enc : TypeId × Value → H) :
    ReturnsInHanded {} Try.checked os 8 .any (Rows.fnExactOrderPrefixesSpec.pre6 enc Try.prog Try.f8 Rows.fnExactOrderPrefixesRow.domain false) (Rows.fnExactOrderPrefixesSpec.post enc Try.prog Try.f8 false true false false) := by
  refine returnsInHanded_of_change (C := Try.checked) own started (by kernel_rfl) Try.func8
    (ChangeSpec.witness6 (enc := enc) (C := Try.checked) false ⟨#[], #[.slice none 0 0], []⟩ 8 (by kernel_rfl) (by kernel_rfl) (by kernel_rfl) (by kernel_rfl)) ?_
  intro W base args ds gs before hval0 hW hcnd _
  have hval : ∀ (j : Nat) t v, Try.f8.params[j]? = some t → args[j]? = some v → Value.okWide Try.prog W .any base t v := hval0
  have hW' := hW
  obtain ⟨p, q, hA0, hV, rfl, hfz, hnd⟩ := hW
  have hA : DataW.TrodAll enc Try.prog W 0 (fun _ => true) true Try.f8.params.toList args.toList ds p := hA0
  rw [Try.params8] at hA hval
  obtain ⟨v0, vs0, d0, ds0, p0, q0, hargs, rfl, rfl, h0, r0⟩ := trodAll_cons hA
  obtain ⟨rfl, rfl, rfl⟩ := trodAll_nil r0
  obtain rfl : args = #[v0] := by cases args; simp_all
  obtain ⟨rfl, rfl⟩ := trodVars_none hV
  have k0 := h0
  have lt0 : ∀ x ∈ p0, x.block < W.heap.size := by obtain ⟨m, hm⟩ := k0; exact DataW.trod_lt m _ _ _ hm
  obtain ⟨a0, len0, cap0, rfl⟩ := okWide_slice Try.underlying32 (hval 0 32 v0 rfl rfl)
  obtain ⟨z0, b0, e0, m0⟩ := open_prefixes h0
  clear hA0 hval0
  refine (por_walk a0 len0 cap0 z0 W b0 e0 m0).mono fun e W' ⟨he, new⟩ => ?_
  have bel := new.below
  subst he
  exact ⟨_, rfl, _, _, _, [], _, [], hW', trodAll_mk1 (shut_bool Try.underlying4 _), (trodAll_cons_mk (Below.trod laidOut (by kernel_rfl) (of_decide_eq_true (by kernel_rfl)) k0 bel lt0) trodAll_mk0), rfl, bel.frame _, fun h => by cases h⟩

theorem por_holds : Rows.FnExactOrderPrefixesSaid :=
  OpenClaim.holds_of_wide 8 Try.f8 rfl rfl rfl rfl rfl rfl rfl ⟨rfl, rfl, rfl, rfl, rfl⟩ rfl rfl rfl rfl rfl (by kernel_rfl) Try.func8 (by kernel_rfl)
    (of_decide_eq_true (by kernel_rfl)) (by unfold Func.isWrapper; first | (rw [if_pos (by decide +kernel)]; kernel_rfl) | (rw [if_neg (by decide +kernel)]; exact ⟨rfl, rfl⟩))
    (fun os started H enc _ => por_lifted os started H enc)

end Go.Proofs.Ytgjdjafldogecaa
