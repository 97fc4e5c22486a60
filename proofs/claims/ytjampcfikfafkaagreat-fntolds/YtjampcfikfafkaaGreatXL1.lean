/- What is proved here: small facts on lists of numbers of the call's own, for the draws of attributes. No condition. What is proved here: what the drawing of attributes answers: attributes without a fault. What is proved here: what the bending of attributes answers: attributes within bounds. -/
import Derived.Test.YtjampcfikfafkaaGreatAtLaw
import Derived.Test.YtjampcfikfafkaaGreatAp
import Derived.Lib.SmallJoins
import Derived.Test.YtjampcfikfafkaaGreatPxDraw
import Derived.Test.YtjampcfikfafkaaGreatAtFn
import Derived.Deep.RegionLaw
namespace Go.Proofs.YtjampcfikfafkaaGreat
open Go.RowKit Go.Sort
set_option linter.unusedVariables false

section
variable {P : Program} {t e : TypeId} {i : TypeInfo}
/-- Appending, at a drawn step, onto a list that the call owns. -/
theorem step_apV (w : World) {ops : Array Oper} {o : Oper} {a : Act} {K : Act → World → Prop} {Q : Exit → Act → World → Prop} {E : Prop} (hgd : o.guard = none) (s x : Operand)
    (ho : o.op = .call { callee := .builtin .append, args := #[s, x], argTypes := #[t, t] }) (base : Nat) (zero : Value) (ht : P.underlying t = some (.slice e)) (hi : P.info? e = some i) (hz : i.zero = some zero) (hs : i.size = 1) (hb : i.bytes = 8) (hz1 : zero.cells.size = 1)
    (v : Value) (n : Nat) (xs : List Value) (hsv : a.eval s = v) (hown : w.ownsRow base e 1 v n xs)
    (ad : Addr) (u : Value) (hxv : a.eval x = .slice (some ad) 1 1) (hsrc : w.cell? (ad.add 0) = some u) (hu : u.oneCell' = true)
    (hle : n + 1 ≤ 4194304) (hbase : base ≤ w.heap.size)
    (h : ∀ v' w', w'.ownsRow base e 1 v' (n + 1) (xs ++ [u]) → w.grownBy w' v.ownBlock → K (a.put o.dst v') w') :
    if Region.wanted o (yielded ops a.tmps) = true then Oper.wp P o a w K Q else E := by
  have hw : Region.wanted o (yielded ops a.tmps) = true := by simp [Region.wanted, hgd]
  rw [if_pos hw]
  have hnews : ∀ j y, [u][j]? = some y → w.cell? (ad.add j) = some y := by
    intro j y hy
    match j, hy with
    | 0, hy => simp at hy; subst hy; exact hsrc
  obtain ⟨v', w', hr, h2, h3, _, _⟩ := run_append_own_at (P := P) w base t o.type e i zero 1 8 ht hi hz hs hb hz1 (by decide) v n xs hown ad 1 1 [u] rfl hnews (by simpa using hu) (by unfold maxLen; omega) (by omega) hbase
  unfold Oper.wp execOp
  simp only [ho, resolve, invoke, builtin, Sem.run_bind, Sem.run_pure, Result.andThen_ok, List.map_toArray, List.map_cons, List.map_nil, hsv, hxv, hr]
  exact h v' w' h2 h3
end

/-- A list of numbers in memory of the call's own, or nil for none. -/
def OwM (w : World) (lo : Nat) (v : Value) (L : List Int) : Prop := (v = .slice none 0 0 ∧ L = []) ∨ ∃ g c, v = .slice (some ⟨g, 0, none⟩) L.length c ∧ lo ≤ g ∧ OwN w g L.length c L
theorem OwM.new {w w' : World} {lo : Nat} {v : Value} {L : List Int} (h : OwM w lo v L) (t : New w w') : OwM w' lo v L := by
  rcases h with h | ⟨g, c, h1, h2, h3⟩
  · exact .inl h
  · exact .inr ⟨g, c, h1, h2, h3.new t⟩
theorem OwM.of_own {w : World} {lo n : Nat} {v : Value} {L : List Int} (h : w.ownsRow lo 2 1 v n (L.map (Value.int .i64))) (hn : L.length = n) : OwM w lo v L := by
  subst hn
  rcases Joins.ownsRow_forms h with ⟨rfl, h0⟩ | ⟨g, cap, rfl⟩
  · exact .inl ⟨rfl, List.eq_nil_of_length_eq_zero h0⟩
  · exact .inr ⟨g, cap, rfl, (World.ownsRow.lt h g rfl).1, own_base h⟩
theorem OwM.ns {w : World} {lo : Nat} {v : Value} {L : List Int} (h : OwM w lo v L) (hb : ∀ z ∈ L, In6 z) : ∃ a c, v = .slice a L.length c ∧ NsAt w a L ∧ (∀ x, a = some x → lo ≤ x.block ∧ x.block < w.heap.size) := by
  rcases h with ⟨rfl, rfl⟩ | ⟨g, c, rfl, hg, ho⟩
  · exact ⟨none, 0, rfl, NsAt.nil _ _, by intro x hx; cases hx⟩
  · exact ⟨_, c, rfl, ho.ns hb, by intro x hx; obtain rfl := Option.some.inj hx; exact ⟨hg, ho.lt⟩⟩

theorem own_newN {w w' : World} {base n : Nat} {v : Value} {xs : List Value} (h : w.ownsRow base 2 1 v n xs) (t : New w w') : w'.ownsRow base 2 1 v n xs := by
  refine ⟨h.1, ?_⟩
  rcases h.2 with h' | ⟨g', cap', cur, h', hb, hh, r⟩
  · exact .inl h'
  · have hlt : g' < w.heap.size := (Array.getElem?_eq_some_iff.1 hh).1
    exact .inr ⟨g', cap', cur, h', hb, (t.block g' hlt (fun f => f)).trans hh, r⟩
theorem own_blkN {w : World} {base n : Nat} {v : Value} {xs : List Value} (h : w.ownsRow base 2 1 v n xs) : ∀ k, v.ownBlock = some k → base ≤ k := by
  intro k hk
  rcases Joins.ownsRow_forms h with ⟨rfl, _⟩ | ⟨g, cap, rfl⟩
  · simp [Value.ownBlock] at hk
  · simp [Value.ownBlock] at hk
    subst hk
    exact (World.ownsRow.lt h g rfl).1
theorem own_setN {w : World} {base n : Nat} {v : Value} {xs : List Value} {p : Addr} {u : Value} (h : w.ownsRow base 2 1 v n xs) (hp : p.block < base) : (w.setCell p u).ownsRow base 2 1 v n xs := by
  refine ⟨h.1, ?_⟩
  rcases h.2 with h' | ⟨g', cap', cur, h', hb, hh, r⟩
  · exact .inl h'
  · exact .inr ⟨g', cap', cur, h', hb, (Below.heap_setCell w p u g' (by omega)).trans hh, r⟩

theorem own_setN_iff {w : World} {base n : Nat} {v : Value} {xs : List Value} {p : Addr} {u : Value} (hp : p.block < base) : (w.setCell p u).ownsRow base 2 1 v n xs ↔ w.ownsRow base 2 1 v n xs := by
  refine ⟨fun h => ⟨h.1, ?_⟩, fun h => own_setN h hp⟩
  rcases h.2 with h' | ⟨g', cap', cur, h', hb, hh, r⟩
  · exact .inl h'
  · exact .inr ⟨g', cap', cur, h', hb, (Below.heap_setCell w p u g' (by omega)).symm.trans hh, r⟩

theorem own_sliceN {w : World} {base n : Nat} {v : Value} {xs : List Value} (h : w.ownsRow base 2 1 v n xs) : ∃ a c, v = .slice a n c := by
  rcases h.2 with ⟨rfl, rfl⟩ | ⟨g, cap, cur, rfl, _⟩
  · exact ⟨none, 0, rfl⟩
  · exact ⟨_, cap, rfl⟩

theorem Turn.here {a w : World} {B j : Nat} (h : Turn (fun k => k = B) a w) (u : Value) : Turn (fun k => k = B) a (w.setCell ⟨B, j, none⟩ u) := Turn.set (S := fun k => k = B) h rfl u

theorem afc_all : ∀ {xs : List Int}, afc xs = 0 → ∀ x ∈ xs, 1 ≤ x ∧ x ≤ 65535
  | [], _ => by simp
  | y :: r, h => by
    unfold afc at h
    split at h
    · rename_i hy
      intro x hx
      rcases List.mem_cons.1 hx with rfl | hx
      · exact hy
      · exact afc_all h x hx
    · cases h

theorem af_ok {o nx md lc : Int} {xs : List Int} (h : af o xs nx md lc = 0) : Ao o nx md lc ∧ xs.length ≤ 6 ∧ ∀ x ∈ xs, 1 ≤ x ∧ x ≤ 65535 := by
  unfold af at h
  split at h
  · rename_i ho
    split at h
    · cases h
    · exact ⟨ho, by omega, afc_all h⟩
  · cases h

theorem OwM.low {w : World} {lo lo' : Nat} {v : Value} {L : List Int} (h : OwM w lo v L) (hb : lo' ≤ lo) : OwM w lo' v L := by
  rcases h with h | ⟨g, c, h1, h2, h3⟩
  · exact .inl h
  · exact .inr ⟨g, c, h1, by omega, h3⟩
theorem OwM.turn {w w' : World} {lo : Nat} {v : Value} {L : List Int} {S : Nat → Prop} (h : OwM w lo v L) (t : Turn S w w') (hS : ∀ g, lo ≤ g → ¬ S g) : OwM w' lo v L := by
  rcases h with h | ⟨g, c, h1, h2, h3⟩
  · exact .inl h
  · exact .inr ⟨g, c, h1, h2, h3.turn t (hS g h2)⟩

/-- Three lists of the call's own, in memory that they do not share. -/
theorem OwM.blk {w : World} {lo : Nat} {v : Value} {L : List Int} (h : OwM w lo v L) : ∀ b, v.ownBlock = some b → lo ≤ b ∧ b < w.heap.size := by
  intro b hb
  rcases h with ⟨rfl, _⟩ | ⟨g, c, rfl, h2, h3⟩
  · cases hb
  · obtain rfl := Option.some.inj hb
    exact ⟨h2, h3.lt⟩

theorem OwM.slice {w : World} {lo : Nat} {v : Value} {L : List Int} (h : OwM w lo v L) : ∃ a c, v = .slice a L.length c := by
  rcases h with ⟨rfl, rfl⟩ | ⟨g, c, rfl, _⟩
  · exact ⟨none, 0, rfl⟩
  · exact ⟨_, c, rfl⟩

theorem OwM.turnB' {w w' : World} {lo : Nat} {v : Value} {L : List Int} {S : Nat → Prop} (h : OwM w lo v L) (t : Turn S w w') (hS : ∀ g, v.ownBlock = some g → ¬ S g) : OwM w' lo v L := by
  rcases h with h | ⟨g, c, h1, h2, h3⟩
  · exact .inl h
  · exact .inr ⟨g, c, h1, h2, h3.turn t (hS g (by rw [h1]; rfl))⟩

end Go.Proofs.YtjampcfikfafkaaGreat

namespace Go.Proofs.YtjampcfikfafkaaGreat
open Go.RowKit Go.Sort
set_option linter.unusedVariables false

theorem afc_of : ∀ {xs : List Int}, (∀ x ∈ xs, 1 ≤ x ∧ x ≤ 65535) → afc xs = 0
  | [], _ => rfl
  | x :: r, h => by
    unfold afc
    rw [if_pos (h x (by simp))]
    exact afc_of (fun y hy => h y (by simp [hy]))
theorem af_of {o nx md lc : Int} {xs : List Int} (ho : Ao o nx md lc) (hl : xs.length ≤ 6) (hx : ∀ x ∈ xs, 1 ≤ x ∧ x ≤ 65535) : af o xs nx md lc = 0 := by
  unfold af
  rw [if_pos ho, if_neg (by omega)]
  exact afc_of hx
theorem own_turnN {w w' : World} {base n : Nat} {v : Value} {xs : List Value} {S : Nat → Prop} (h : w.ownsRow base 2 1 v n xs) (t : Turn S w w') (hS : ∀ g, v.ownBlock = some g → ¬ S g) : w'.ownsRow base 2 1 v n xs := by
  refine ⟨h.1, ?_⟩
  rcases h.2 with h' | ⟨g', cap', cur, h', hb, hh, r⟩
  · exact .inl h'
  · have hlt : g' < w.heap.size := (Array.getElem?_eq_some_iff.1 hh).1
    exact .inr ⟨g', cap', cur, h', hb, (t.block g' hlt (hS g' (by rw [h']; rfl))).trans hh, r⟩

set_option maxRecDepth 100000 in
set_option maxHeartbeats 3200000 in
theorem l3DrawAttrs_sc {B n c t : Nat} {a : Option Addr} {zs : List Int} {w : World} (h : Sc w B a n c zs t) (ht : t ≤ 100000) :
    Calls Tryz.prog 94 #[.pointer (some ⟨B, 0, none⟩)] w fun e w' => ∃ (o nx md lc : Int) (xs : List Int) (xa : Option Addr) (xc t' : Nat), e = .returned (.agg #[.int .i64 o, .slice xa xs.length xc, .int .i64 nx, .int .i64 md, .int .i64 lc]) ∧ af o xs nx md lc = 0 ∧ xs.length ≤ 3 ∧ t' ≤ t + 30 ∧ OwM w' w.heap.size (.slice xa xs.length xc) xs ∧ Sc w' B a n c zs t' ∧ Turn (fun k => k = B) w w' := by
  obtain ⟨iN, hi, hz0, hz1, hz2⟩ := info_parts Tryz.infoI64
  have hlt := h.blk.lt
  have hA := h.lt_of
  have hw0 := (New.refl w).alloc (.cells #[.int .i64 0, .slice none 0 0, .int .i64 0, .int .i64 0, .int .i64 0] 36)
  have bR0 := Blk.mk w w.heap.size 36 #[.int .i64 0, .slice none 0 0, .int .i64 0, .int .i64 0, .int .i64 0] rfl
  have hRB : ¬ w.heap.size = B := by omega
  go_enter Tryz.func94, Tryz.ntmps94
  go_wp2_with fail
  refine (next_sc (h.new hw0) 3 (by omega) (by omega)).mono ?_
  rintro e w1 ⟨r1, rfl, ⟨p1, q1, -⟩, hs1, ht1⟩
  have q1 := q1 (by omega)
  go_wp2_with fail
  refine (next_sc hs1 9 (by omega) (by omega)).mono ?_
  rintro e w2 ⟨r2, rfl, ⟨p2, q2, -⟩, hs2, ht2⟩
  have q2 := q2 (by omega)
  go_wp2_with fail
  refine (next_sc hs2 5 (by omega) (by omega)).mono ?_
  rintro e w3 ⟨r3, rfl, ⟨p3, q3, -⟩, hs3, ht3⟩
  have q3 := q3 (by omega)
  have hal3 := (New.refl w3).alloc (.cells #[.int .i64 0, .int .i64 r3] 2)
  have hbl3 := Blk.mk w3 w3.heap.size 2 #[.int .i64 0, .int .i64 r3] rfl
  go_wp2_with fail
  refine (pick_sc (hs3.new hal3) [0, r3] hbl3 2 rfl (by omega) (by omega) (by omega)).mono ?_
  rintro e w4 ⟨x4, rfl, hx4, hs4, ht4⟩
  have hx4' : 0 ≤ x4 ∧ x4 ≤ 4 := by
    simp only [List.mem_cons, List.not_mem_nil, or_false] at hx4
    rcases hx4 with rfl | rfl <;> omega
  have t14 := Turn.both (Turn.both (Turn.both (hw0.turn (S := fun k => k = B)) ht1) (Turn.both ht2 ht3)) (Turn.both (hal3.turn (S := fun k => k = B)) ht4)
  clear hx4 hal3 hbl3 hs1 hs2 hs3
  go_wp2_with fail
  refine (next_sc hs4 20 (by omega) (by omega)).mono ?_
  rintro e w5 ⟨r5, rfl, ⟨p5, q5, -⟩, hs5, ht5⟩
  have q5 := q5 (by omega)
  have hal5 := (New.refl w5).alloc (.cells #[.int .i64 100, .int .i64 100, .int .i64 (90 + r5)] 2)
  have hbl5 := Blk.mk w5 w5.heap.size 2 #[.int .i64 100, .int .i64 100, .int .i64 (90 + r5)] rfl
  go_wp2_with fail
  refine (pick_sc (hs5.new hal5) [100, 100, 90 + r5] hbl5 3 rfl (by omega) (by omega) (by omega)).mono ?_
  rintro e w6 ⟨x6, rfl, hx6, hs6, ht6⟩
  have hx6' : 0 ≤ x6 ∧ x6 ≤ 200 := by
    simp only [List.mem_cons, List.not_mem_nil, or_false] at hx6
    rcases hx6 with rfl | rfl | rfl <;> omega
  have t16 := Turn.both t14 (Turn.both ht5 (Turn.both (hal5.turn (S := fun k => k = B)) ht6))
  have tR := Turn.both (Turn.both ht1 (Turn.both ht2 ht3)) (Turn.both (((New.refl w3).alloc (.cells #[.int .i64 0, .int .i64 r3] 2)).turn (S := fun k => k = B)) ht4)
  have bR6 := ((((bR0.turn tR hRB).turn ht5 hRB).new hal5).turn ht6 hRB)
  clear hx6 hal5 hbl5 hs4 hs5 ht1 ht2 ht3 ht4 ht5 ht6 t14 bR0 tR hw0
  have s6 := t16.size
  have hal6 := (New.refl w6).alloc (.cells #[.int .i64 r1, .slice none 0 0, .int .i64 r2, .int .i64 x4, .int .i64 x6] 36)
  have bA6 := Blk.mk w6 w6.heap.size 36 #[.int .i64 r1, .slice none 0 0, .int .i64 r2, .int .i64 x4, .int .i64 x6] rfl
  have lR6 := bR6.lt
  have lB6 := hs6.blk.lt
  go_wp2_with fail
  refine (next_sc (hs6.new hal6) 4 (by omega) (by omega)).mono ?_
  rintro e w7 ⟨r7, rfl, ⟨p7, q7, -⟩, hs7, ht7⟩
  have q7 := q7 (by omega)
  obtain ⟨k0, rfl⟩ := Int.eq_ofNat_of_zero_le p7
  have bA7 := bA6.turn ht7 (by omega)
  have bR7 := (bR6.new hal6).turn ht7 hRB
  have t17 := Turn.both t16 (Turn.both (hal6.turn (S := fun k => k = B)) ht7)
  clear bA6 bR6 hs6 t16 hal6 ht7
  go_wp2_with fail
  go_loopw [4] (fun s wr => ∃ (k t' m : Nat) (v : Value) (xs : List Int), s = .int .i64 (k : Int) ∧ k ≤ 3 ∧ m + k ≤ 3 ∧ (∀ x ∈ xs, 1 ≤ x ∧ x ≤ 65535) ∧ t' + 3 * k ≤ t + 30 ∧ wr.ownsRow (w6.heap.size + 1) 2 1 v m (xs.map (Value.int .i64)) ∧ Blk wr w.heap.size 36 #[.int .i64 0, .slice none 0 0, .int .i64 0, .int .i64 0, .int .i64 0] ∧ Blk wr w6.heap.size 36 #[.int .i64 r1, v, .int .i64 r2, .int .i64 x4, .int .i64 x6] ∧ Sc wr B a n c zs t' ∧ Turn (fun k => k = B) w wr) (fun s _ => (intOf s).toNat)
  case atStart => exact ⟨k0, _, 0, .slice none 0 0, [], rfl, by omega, by omega, by simp, by omega, ⟨rfl, .inl ⟨rfl, rfl⟩⟩, bR7, bA7, hs7, t17⟩
  case round =>
    clear bR7 bA7 hs7 t17
    obtain ⟨k, t', m, v, xs, rfl, hk, hmk, hxs, ht', hown, bR, bA, hsc, htn⟩ := hrel
    have hblk := own_blkN hown
    obtain ⟨va, vc, rfl⟩ := own_sliceN hown
    have cA := bA.cells
    have fA := bA.frees
    have hal := bA.lt
    have hml : xs.length = m := by simpa using hown.1
    have HML : Hid (xs.length = m) := hml
    clear hml
    by_cases hlt0 : 0 < k
    · have hd0 := hsc.new ((New.refl _).drew)
      go_wp2_with fail
      go_region_law (first
        | (refine step_apV _ rfl (.tmp 28) (.tmp 38) rfl (w6.heap.size + 1) (.int .i64 0) Tryz.underlying34 hi hz0 hz1 hz2 rfl (.slice va m vc) m _ rfl (own3.alloc _) ⟨_, 0, none⟩ (.int .i64 x3) rfl (by simp [Addr.add]) rfl (by omega) (by first | omega | (simp; omega)) ?_; intro v' w4' ho4 hgr4; obtain ⟨g4, c4, rfl⟩ := Joins.ownsRow_form ho4 (by omega); have bA4 := (bA3.alloc (.cells #[.int .i64 x3] 2)).grow hgr4 (fun e => by have := hblk _ e; omega); have cA4 := bA4.cells; have fA4 := bA4.frees)
        | (go_simp; go_at_call 26; refine (pick_sc (hsB.new ((New.refl _).alloc (.cells #[.int .i64 (1 + y1), .int .i64 (1 + y2), .int .i64 65535] 2))) [1 + y1, 1 + y2, 65535] (Blk.mk v2 v2.heap.size 2 #[.int .i64 (1 + y1), .int .i64 (1 + y2), .int .i64 65535] rfl) 3 rfl (by omega) (by omega) (by omega)).mono ?_; rintro e v3 ⟨x3, rfl, hx3, hsC, htC⟩; have bA3 := (bA2.alloc (.cells #[.int .i64 (1 + y1), .int .i64 (1 + y2), .int .i64 65535] 2)).turn htC (by omega); have cA3 := bA3.cells; have cA3a := (bA3.alloc (.cells #[.int .i64 x3] 2)).cells; have own3 := own_turnN (own2.alloc (.cells #[.int .i64 (1 + y1), .int .i64 (1 + y2), .int .i64 65535] 2)) htC (fun g hg e => by have := hblk g hg; omega); have s3 : v2.heap.size ≤ v3.heap.size := (by have := htC.size; simp at this; omega))
        | (go_simp; go_at_call 27; refine (next_sc hsA 5 (by omega) (by omega)).mono ?_; rintro e v2 ⟨y2, rfl, ⟨py2, qy2, -⟩, hsB, htB⟩; have qy2 := qy2 (by omega); have hwy2 : IntKind.i64.wrap (1 + y2) = 1 + y2 := wrap_in (by omega); have bA2 := bA1.turn htB (by omega); have cA2 := bA2.cells; have cA2a := (bA2.alloc (.cells #[.int .i64 (1 + y1), .int .i64 (1 + y2), .int .i64 65535] 2)).cells; have own2 := own_turnN own1 htB (fun g hg e => by have := hblk g hg; omega); have s2 := htB.size)
        | (go_simp; go_at_call 27; refine (next_sc hd0 5 (by omega) (by omega)).mono ?_; rintro e v1 ⟨y1, rfl, ⟨py1, qy1, -⟩, hsA, htA⟩; have qy1 := qy1 (by omega); have hwy1 : IntKind.i64.wrap (1 + y1) = 1 + y1 := wrap_in (by omega); have bA1 := (bA.new ((New.refl _).drew)).turn htA (by omega); have cA1 := bA1.cells; have own1 := own_turnN (own_newN hown ((New.refl _).drew)) htA (fun g hg e => by have := hblk g hg; omega); have s1 : wr.heap.size ≤ v1.heap.size := htA.size))
      all_goals
        have hx3' : 1 ≤ x3 ∧ x3 ≤ 65535 := by
          simp only [List.mem_cons, List.not_mem_nil, or_false] at hx3
          rcases hx3 with rfl | rfl | rfl <;> omega
        have tABC : Turn (fun k => k = B) wr v3 := Turn.both (Turn.both (Turn.both (((New.refl wr).drew).turn (S := fun k => k = B)) htA) htB) (Turn.both (((New.refl v2).alloc (.cells #[.int .i64 (1 + y1), .int .i64 (1 + y2), .int .i64 65535] 2)).turn (S := fun k => k = B)) htC)
        have hal3 := (New.refl v3).alloc (.cells #[.int .i64 x3] 2)
        have bR3 := ((bR.turn tABC hRB).new hal3).grow hgr4 (fun e => by have := hblk _ e; omega)
        have tg : Turn (fun k => (Value.slice va m vc).ownBlock = some k) (v3.alloc (.cells #[.int .i64 x3] 2)) w4' := ⟨hgr4.os, hgr4.tape, hgr4.output, hgr4.size, fun k hk hs => hgr4.block k hk (fun e => hs e.symm)⟩
        have sc4 := (hsC.new hal3).turn tg (fun e => by have := hblk _ e; omega) (fun x hz hx e => by have := hA x hz hx; have := hblk _ e; omega)
        have T5 := Turn.here (B := w6.heap.size) (j := 1) (Turn.refl _ w4') (.slice (some ⟨g4, 0, none⟩) (m + 1) c4)
        have sc5 := sc4.turn T5 (by omega) (fun x hz hx e => by have := hA x hz hx; omega)
        have bR5 := bR3.turn T5 (by omega)
        have bA5 := bA4.set 1 (.slice (some ⟨g4, 0, none⟩) (m + 1) c4)
        simp only [List.setIfInBounds_toArray, List.set_cons_zero, List.set_cons_succ] at bA5
        have ho5 : (w4'.setCell ⟨w6.heap.size, 1, none⟩ (.slice (some ⟨g4, 0, none⟩) (m + 1) c4)).ownsRow (w6.heap.size + 1) 2 1 (.slice (some ⟨g4, 0, none⟩) (m + 1) c4) (m + 1) ((xs ++ [x3]).map (Value.int .i64)) := own_setN (by simpa using ho4) (by simp)
        have t5 : Turn (fun k => k = B) w (w4'.setCell ⟨w6.heap.size, 1, none⟩ (.slice (some ⟨g4, 0, none⟩) (m + 1) c4)) := Turn.trans (Turn.trans (Turn.both (Turn.both htn tABC) (hal3.turn (S := fun k => k = B))) tg (fun i hi e => by have := hblk _ e; omega)) T5 (fun i hi e => by omega)
        have hxs5 : ∀ x ∈ xs ++ [x3], 1 ≤ x ∧ x ≤ 65535 := by
          intro x hx
          rcases List.mem_append.1 hx with h | h
          · exact hxs x h
          · simp at h; subst h; exact hx3'
        clear ho4 hgr4 hown bA bR bA1 bA2 bA3 bA4 bR3 cA fA cA1 cA2 cA2a cA3 cA3a cA4 fA4 own1 own2 own3 hsA hsB hsC htA htB htC tABC tg sc4 T5 hal3 hx3 hd0 hsc htn
        go_wp2
        go_roundw
        case rel => exact ⟨k - 1, _, m + 1, _, xs ++ [x3], by go_num, by omega, by omega, hxs5, by omega, ho5, bR5, bA5, sc5, t5⟩
        case measure => simp [intOf]; omega
    · obtain rfl : k = 0 := by omega
      have hM : OwM wr (w6.heap.size + 1) (.slice va m vc) xs := OwM.of_own hown HML.out
      have cR := bR.cells
      have fR := bR.frees
      have lR := bR.lt
      have haf : Hid (af r1 xs r2 x4 x6 = 0) := af_of ⟨by omega, ⟨by omega, by omega⟩, ⟨by omega, by omega⟩, ⟨by omega, by omega⟩⟩ (by rw [HML.out]; omega) hxs
      clear hown
      go_wp2
      refine bodyPost_ret (v := .agg #[.int .i64 r1, .slice va m vc, .int .i64 r2, .int .i64 x4, .int .i64 x6]) (by simp [results, Tryz.results94, go_sem, cR]) rfl ?_
      refine (fun (hT : Turn (fun k => k = w.heap.size) wr _) => ⟨r1, r2, x4, x6, xs, va, vc, t', by rw [HML.out], haf.out, by rw [HML.out]; omega, by omega, by rw [HML.out]; exact (hM.turn hT (fun g hg e => by omega)).low (by omega), hsc.turn hT (by omega) (fun x hz hx e => by have := hA x hz hx; omega), Turn.trans htn hT (fun i hi e => by omega)⟩) ?_
      exact Turn.here (Turn.here (Turn.here (Turn.here (Turn.here (Turn.refl _ _) _) _) _) _) _

end Go.Proofs.YtjampcfikfafkaaGreat

namespace Go.Proofs.YtjampcfikfafkaaGreat
open Go.RowKit Go.Sort
set_option linter.unusedVariables false

theorem OwM.own {w : World} {lo n : Nat} {v : Value} {L : List Int} (h : OwM w lo v L) (hn : L.length = n) : w.ownsRow lo 2 1 v n (L.map (Value.int .i64)) := by
  subst hn
  rcases h with ⟨rfl, rfl⟩ | ⟨g, c, rfl, hg, ho⟩
  · exact ⟨rfl, .inl ⟨rfl, rfl⟩⟩
  · refine ⟨ho.1, ?_⟩
    rcases ho.2 with ⟨h', _⟩ | ⟨g', cap', cur, h', r⟩
    · simp at h'
    · simp only [Value.slice.injEq, Option.some.injEq, Addr.mk.injEq, and_true, true_and] at h'
      obtain ⟨rfl, rfl⟩ := h'
      exact .inr ⟨g, c, cur, rfl, hg, r.2⟩

section
variable {P : Program} {t e : TypeId} {i : TypeInfo}
/-- Appending, at a drawn step, onto a list that the call owns. -/
theorem step_apW (w : World) {ops : Array Oper} {o : Oper} {a : Act} {K : Act → World → Prop} {Q : Exit → Act → World → Prop} {E : Prop} (hgd : o.guard = none) (s x : Operand)
    (ho : o.op = .call { callee := .builtin .append, args := #[s, x], argTypes := #[t, t] }) (base : Nat) (zero : Value) (ht : P.underlying t = some (.slice e)) (hi : P.info? e = some i) (hz : i.zero = some zero) (hs : i.size = 1) (hb : i.bytes = 8) (hz1 : zero.cells.size = 1)
    (v : Value) (n : Nat) (xs : List Value) (hsv : a.eval s = v) (hown : w.ownsRow base e 1 v n xs)
    (ad : Addr) (u : Value) (hxv : a.eval x = .slice (some ad) 1 1) (hsrc : w.cell? (ad.add 0) = some u) (hu : u.oneCell' = true)
    (hle : n + 1 ≤ 4194304) (hbase : base ≤ w.heap.size)
    (h : ∀ v' w', w'.ownsRow base e 1 v' (n + 1) (xs ++ [u]) → w.grownBy w' v.ownBlock → (v'.ownBlock = v.ownBlock ∨ v'.ownBlock = some w.heap.size) → K (a.put o.dst v') w') :
    if Region.wanted o (yielded ops a.tmps) = true then Oper.wp P o a w K Q else E := by
  have hw : Region.wanted o (yielded ops a.tmps) = true := by simp [Region.wanted, hgd]
  rw [if_pos hw]
  have hnews : ∀ j y, [u][j]? = some y → w.cell? (ad.add j) = some y := by
    intro j y hy
    match j, hy with
    | 0, hy => simp at hy; subst hy; exact hsrc
  obtain ⟨v', w', hr, h2, h3, _, h5⟩ := run_append_own_at (P := P) w base t o.type e i zero 1 8 ht hi hz hs hb hz1 (by decide) v n xs hown ad 1 1 [u] rfl hnews (by simpa using hu) (by unfold maxLen; omega) (by omega) hbase
  unfold Oper.wp execOp
  simp only [ho, resolve, invoke, builtin, Sem.run_bind, Sem.run_pure, Result.andThen_ok, List.map_toArray, List.map_cons, List.map_nil, hsv, hxv, hr]
  exact h v' w' h2 h3 h5
end

set_option maxRecDepth 100000 in
set_option maxHeartbeats 3200000 in
theorem l3BentAttrs_sc {B n c t : Nat} {a : Option Addr} {zs : List Int} {w : World} (h : Sc w B a n c zs t) (ht : t ≤ 10000) :
    Calls Tryz.prog 57 #[.pointer (some ⟨B, 0, none⟩)] w fun e w' => ∃ (o nx md lc : Int) (xs : List Int) (xa : Option Addr) (xc m t' : Nat), e = .returned (.agg #[.int .i64 o, .slice xa m xc, .int .i64 nx, .int .i64 md, .int .i64 lc]) ∧ xs.length = m ∧ m ≤ 7 ∧ (-1 ≤ o ∧ -1 ≤ nx ∧ -1 ≤ md ∧ -1 ≤ lc) ∧ (o ≤ 65536 ∧ nx ≤ 65536 ∧ md ≤ 65536 ∧ lc ≤ 65536) ∧ (∀ x ∈ xs, -1 ≤ x ∧ x ≤ 65536) ∧ t' ≤ t + 60 ∧ OwM w' w.heap.size (.slice xa m xc) xs ∧ Sc w' B a n c zs t' ∧ Turn (fun k => k = B) w w' := by
  obtain ⟨iN, hi, hz0, hz1, hz2⟩ := info_parts Tryz.infoI64
  have hlt := h.blk.lt
  have hA := h.lt_of
  have hw0 := (New.refl w).alloc (.cells #[.int .i64 0, .slice none 0 0, .int .i64 0, .int .i64 0, .int .i64 0] 36)
  have bR0 := Blk.mk w w.heap.size 36 #[.int .i64 0, .slice none 0 0, .int .i64 0, .int .i64 0, .int .i64 0] rfl
  have hRB : ¬ w.heap.size = B := by omega
  go_enter Tryz.func57, Tryz.ntmps57
  go_wp2_with fail
  refine (l3DrawAttrs_sc (h.new hw0) (by omega)).mono ?_
  rintro e w2 ⟨o, nx, md, lc, xs, xa, xc, t2, rfl, haf, hxl, ht2, hM2, hs2, htn2⟩
  obtain ⟨⟨⟨ho0, ho1⟩, ⟨hx0, hx1⟩, ⟨hm0, hm1⟩, ⟨hl0, hl1⟩⟩, -, hall⟩ := af_ok haf
  have HXS : Hid (∀ x ∈ xs, -1 ≤ x ∧ x ≤ 65536) := fun x hx => by have := hall x hx; omega
  generalize hXe : xs.length = xn at *
  have HX : Hid (xs.length = xn) := hXe
  have hM2' : OwM w2 (w.heap.size + 1) (.slice xa xn xc) xs := hM2.low (by simp)
  have hMb := hM2'.blk
  have bR2 := bR0.turn htn2 hRB
  have t02 := Turn.both (hw0.turn (S := fun k => k = B)) htn2
  have s2 := bR2.lt
  have lB2 := hs2.blk.lt
  clear hXe hall haf hM2 bR0 hw0 htn2
  have hal2 := (New.refl w2).alloc (.cells #[.int .i64 o, .slice xa xn xc, .int .i64 nx, .int .i64 md, .int .i64 lc] 36)
  have bA2 := Blk.mk w2 w2.heap.size 36 #[.int .i64 o, .slice xa xn xc, .int .i64 nx, .int .i64 md, .int .i64 lc] rfl
  go_wp2_with fail
  refine (next_sc (hs2.new hal2) 14 (by omega) (by omega)).mono ?_
  rintro e w4 ⟨r4, rfl, ⟨p4, q4, -⟩, hs4, ht4⟩
  have q4 := q4 (by omega)
  have bA4 := bA2.turn ht4 (by omega)
  have bR4 := (bR2.new hal2).turn ht4 hRB
  have hM4 := (hM2'.new hal2).turnB' ht4 (fun g hg e => by have := hMb g hg; omega)
  have t04 := Turn.both t02 (Turn.both (hal2.turn (S := fun k => k = B)) ht4)
  have s4 : w2.heap.size < w4.heap.size := bA4.lt
  clear bA2 bR2 hM2' t02 hs2 hal2 ht4
  by_cases e0 : r4 = 0
  · subst e0
    have n0 : ((0 : Int) == 0) = true := rfl
    have hal5 := (New.refl w4).alloc (.cells #[.int .i64 (-1), .int .i64 3] 2)
    have hbl5 := Blk.mk w4 w4.heap.size 2 #[.int .i64 (-1), .int .i64 3] rfl
    go_wp2_with fail
    refine (pick_sc (hs4.new hal5) [-1, 3] hbl5 2 rfl (by omega) (by omega) (by omega)).mono ?_
    rintro e w5 ⟨x5, rfl, hx5, hs5, ht5⟩
    have hx5' : -1 ≤ x5 ∧ x5 ≤ 65536 := by
      simp only [List.mem_cons, List.not_mem_nil, or_false] at hx5
      rcases hx5 with rfl | rfl <;> omega
    have bA5 := (bA4.new hal5).turn ht5 (by omega)
    have bR5 := (bR4.new hal5).turn ht5 hRB
    have hM5 := (hM4.new hal5).turnB' ht5 (fun g hg e => by have := hMb g hg; omega)
    have t05 := Turn.both t04 (Turn.both (hal5.turn (S := fun k => k = B)) ht5)
    clear hx5 hbl5 hal5 hs4 ht5 bA4 bR4 hM4 t04
    have cA5 := bA5.cells
    have fA5 := bA5.frees
    have lA5 := bA5.lt
    have T9 := Turn.here (B := w2.heap.size) (j := 0) (Turn.refl _ w5) (.int .i64 x5)
    have bA9 := bA5.set 0 (.int .i64 x5)
    simp only [List.setIfInBounds_toArray, List.set_cons_zero] at bA9
    have bR9 := bR5.turn T9 (by omega)
    have hM9 := hM5.turnB' T9 (fun g hg e => by have := hMb g hg; omega)
    have hs9 := hs5.turn T9 (by omega) (fun x hz hx e => by have := hA x hz hx; omega)
    have t09 := Turn.trans t05 T9 (fun i hi e => by omega)
    clear bA5 bR5 hM5 hs5 t05
    have cA9 := bA9.cells
    have cR9 := bR9.cells
    have fR9 := bR9.frees
    have lR9 := bR9.lt
    go_wp2
    refine bodyPost_ret (v := .agg #[.int .i64 x5, .slice xa xn xc, .int .i64 nx, .int .i64 md, .int .i64 lc]) (by simp [results, Tryz.results57, go_sem, cR9]) rfl ?_
    refine (fun (hT : Turn (fun k => k = w.heap.size) (w5.setCell ⟨w2.heap.size, 0, none⟩ (.int .i64 x5)) _) => ⟨x5, nx, md, lc, xs, _, _, xn, _, rfl, HX.out, by omega, ⟨by omega, by omega, by omega, by omega⟩, ⟨by omega, by omega, by omega, by omega⟩, HXS.out, by omega, (hM9.turn hT (fun g hg e => by omega)).low (by omega), hs9.turn hT (by omega) (fun x hz hx e => by have := hA x hz hx; omega), Turn.trans t09 hT (fun i hi e => by omega)⟩) ?_
    exact Turn.here (Turn.here (Turn.here (Turn.here (Turn.here (Turn.refl _ _) _) _) _) _) _
  by_cases e1 : r4 = 1
  · subst e1
    have n0 : ((1 : Int) == 0) = false := rfl
    have n1 : ((1 : Int) == 1) = true := rfl
    have hal5 := (New.refl w4).alloc (.cells #[.int .i64 (-1), .int .i64 65536] 2)
    have hbl5 := Blk.mk w4 w4.heap.size 2 #[.int .i64 (-1), .int .i64 65536] rfl
    go_wp2_with fail
    refine (pick_sc (hs4.new hal5) [-1, 65536] hbl5 2 rfl (by omega) (by omega) (by omega)).mono ?_
    rintro e w5 ⟨x5, rfl, hx5, hs5, ht5⟩
    have hx5' : -1 ≤ x5 ∧ x5 ≤ 65536 := by
      simp only [List.mem_cons, List.not_mem_nil, or_false] at hx5
      rcases hx5 with rfl | rfl <;> omega
    have bA5 := (bA4.new hal5).turn ht5 (by omega)
    have bR5 := (bR4.new hal5).turn ht5 hRB
    have hM5 := (hM4.new hal5).turnB' ht5 (fun g hg e => by have := hMb g hg; omega)
    have t05 := Turn.both t04 (Turn.both (hal5.turn (S := fun k => k = B)) ht5)
    clear hx5 hbl5 hal5 hs4 ht5 bA4 bR4 hM4 t04
    have cA5 := bA5.cells
    have fA5 := bA5.frees
    have lA5 := bA5.lt
    have T9 := Turn.here (B := w2.heap.size) (j := 2) (Turn.refl _ w5) (.int .i64 x5)
    have bA9 := bA5.set 2 (.int .i64 x5)
    simp only [List.setIfInBounds_toArray, List.set_cons_zero, List.set_cons_succ] at bA9
    have bR9 := bR5.turn T9 (by omega)
    have hM9 := hM5.turnB' T9 (fun g hg e => by have := hMb g hg; omega)
    have hs9 := hs5.turn T9 (by omega) (fun x hz hx e => by have := hA x hz hx; omega)
    have t09 := Turn.trans t05 T9 (fun i hi e => by omega)
    clear bA5 bR5 hM5 hs5 t05
    have cA9 := bA9.cells
    have cR9 := bR9.cells
    have fR9 := bR9.frees
    have lR9 := bR9.lt
    go_wp2
    refine bodyPost_ret (v := .agg #[.int .i64 o, .slice xa xn xc, .int .i64 x5, .int .i64 md, .int .i64 lc]) (by simp [results, Tryz.results57, go_sem, cR9]) rfl ?_
    refine (fun (hT : Turn (fun k => k = w.heap.size) (w5.setCell ⟨w2.heap.size, 2, none⟩ (.int .i64 x5)) _) => ⟨o, x5, md, lc, xs, _, _, xn, _, rfl, HX.out, by omega, ⟨by omega, by omega, by omega, by omega⟩, ⟨by omega, by omega, by omega, by omega⟩, HXS.out, by omega, (hM9.turn hT (fun g hg e => by omega)).low (by omega), hs9.turn hT (by omega) (fun x hz hx e => by have := hA x hz hx; omega), Turn.trans t09 hT (fun i hi e => by omega)⟩) ?_
    exact Turn.here (Turn.here (Turn.here (Turn.here (Turn.here (Turn.refl _ _) _) _) _) _) _
  by_cases e2 : r4 = 2
  · subst e2
    have n0 : ((2 : Int) == 0) = false := rfl
    have n1 : ((2 : Int) == 1) = false := rfl
    have n2 : ((2 : Int) == 2) = true := rfl
    have cA4 := bA4.cells
    have fA4 := bA4.frees
    have lA4 := bA4.lt
    have cA4a := (bA4.alloc (.cells #[.int .i64 0, .int .i64 65536] 2)).cells
    have hsd := hs4.new ((New.refl _).drew)
    have hown := hM4.own HX.out
    have hblk := own_blkN hown
    go_wp2_with fail
    go_region_law (first
      | (refine step_apW _ rfl (.tmp 23) (.tmp 27) rfl (w.heap.size + 1) (.int .i64 0) Tryz.underlying34 hi hz0 hz1 hz2 rfl (.slice xa xn xc) xn _ rfl (own5.alloc _) ⟨_, 0, none⟩ (.int .i64 x5) rfl (by simp [Addr.add]) rfl (by omega) (by first | omega | (simp; omega)) ?_; intro v' w6 ho6 hgr6 hat6; obtain ⟨g6, c6, rfl⟩ := Joins.ownsRow_form ho6 (by omega); have bA6 := (bA5.alloc (.cells #[.int .i64 x5] 2)).grow hgr6 (fun e => by have := hMb _ e; omega); have cA6 := bA6.cells; have fA6 := bA6.frees)
      | (go_simp; go_at_call 26; refine (pick_sc (hs4.new (by first | exact ((New.refl _).drew).alloc (.cells #[.int .i64 0, .int .i64 65536] 2) | exact ((New.refl _).alloc (.cells #[.int .i64 0, .int .i64 65536] 2)).drew)) [0, 65536] (Blk.mk w4.drew w4.heap.size 2 #[.int .i64 0, .int .i64 65536] rfl) 2 rfl (by omega) (by omega) (by omega)).mono ?_; rintro e w5 ⟨x5, rfl, hx5, hs5, ht5⟩; have bA5 := ((bA4.new ((New.refl _).drew)).alloc (.cells #[.int .i64 0, .int .i64 65536] 2)).turn ht5 (by omega); have cA5 := bA5.cells; have cA5a := (bA5.alloc (.cells #[.int .i64 x5] 2)).cells; have own5 := own_turnN ((own_newN hown ((New.refl _).drew)).alloc (.cells #[.int .i64 0, .int .i64 65536] 2)) ht5 (fun g hg e => by have := hMb g hg; omega); have s5 : w4.heap.size ≤ w5.heap.size := (by have := ht5.size; simp at this; omega)))
    all_goals
      have hx5' : -1 ≤ x5 ∧ x5 ≤ 65536 := by
        simp only [List.mem_cons, List.not_mem_nil, or_false] at hx5
        rcases hx5 with rfl | rfl <;> omega
      have hn45 : New w4 (w4.drew.alloc (.cells #[.int .i64 0, .int .i64 65536] 2)) := ((New.refl _).drew).alloc _
      have hal5 := (New.refl w5).alloc (.cells #[.int .i64 x5] 2)
      have bR6 := (((bR4.new hn45).turn ht5 hRB).new hal5).grow hgr6 (fun e => by have := hMb _ e; omega)
      have tg : Turn (fun k => (Value.slice xa xn xc).ownBlock = some k) (w5.alloc (.cells #[.int .i64 x5] 2)) w6 := ⟨hgr6.os, hgr6.tape, hgr6.output, hgr6.size, fun k hk hs => hgr6.block k hk (fun e => hs e.symm)⟩
      have sc6 := (hs5.new hal5).turn tg (fun e => by have := hMb _ e; omega) (fun x hz hx e => by have := hA x hz hx; have := hMb _ e; omega)
      have t06 := Turn.trans (Turn.both t04 (Turn.both (hn45.turn (S := fun k => k = B)) (Turn.both ht5 (hal5.turn (S := fun k => k = B))))) tg (fun i hi e => by have := hMb _ e; omega)
      have T9 := Turn.here (B := w2.heap.size) (j := 1) (Turn.refl _ w6) (.slice (some ⟨g6, 0, none⟩) (xn + 1) c6)
      have bA9 := bA6.set 1 (.slice (some ⟨g6, 0, none⟩) (xn + 1) c6)
      simp only [List.setIfInBounds_toArray, List.set_cons_zero, List.set_cons_succ] at bA9
      have bR9 := bR6.turn T9 (by omega)
      have hbk6 : g6 ≠ w2.heap.size := fun e => by
        have k6 := ho6.lt g6 rfl
        rcases hat6 with h' | h'
        · have := hMb g6 (by rw [← h']; rfl); omega
        · simp [Value.ownBlock] at h'; omega
      have hM9 : OwM (w6.setCell ⟨w2.heap.size, 1, none⟩ (.slice (some ⟨g6, 0, none⟩) (xn + 1) c6)) (w.heap.size + 1) (.slice (some ⟨g6, 0, none⟩) (xn + 1) c6) (xs ++ [x5]) := (OwM.of_own (L := xs ++ [x5]) (by simpa using ho6) (by rw [List.length_append, HX.out]; rfl)).turnB' T9 (fun g hg e => by obtain rfl := Option.some.inj hg; exact hbk6 e)
      have hs9 := sc6.turn T9 (by omega) (fun x hz hx e => by have := hA x hz hx; omega)
      have t09 := Turn.trans t06 T9 (fun i hi e => by omega)
      have hxs9 : ∀ x ∈ xs ++ [x5], -1 ≤ x ∧ x ≤ 65536 := by
        intro x hx
        rcases List.mem_append.1 hx with h | h
        · exact HXS.out x h
        · simp at h; subst h; exact hx5'
      clear ho6 hgr6 hat6 bA6 bR6 cA6 fA6 own5 bA5 cA5 cA5a hs5 ht5 sc6 t06 tg hown hblk hsd
      have cA9 := bA9.cells
      have cR9 := bR9.cells
      have fR9 := bR9.frees
      have lR9 := bR9.lt
      go_wp2
      refine bodyPost_ret (v := .agg #[.int .i64 o, .slice (some ⟨g6, 0, none⟩) (xn + 1) c6, .int .i64 nx, .int .i64 md, .int .i64 lc]) (by simp [results, Tryz.results57, go_sem, cR9]) rfl ?_
      refine (fun (hT : Turn (fun k => k = w.heap.size) (w6.setCell ⟨w2.heap.size, 1, none⟩ (.slice (some ⟨g6, 0, none⟩) (xn + 1) c6)) _) => ⟨o, nx, md, lc, (xs ++ [x5]), _, _, xn + 1, _, rfl, by rw [List.length_append, HX.out]; rfl, by omega, ⟨by omega, by omega, by omega, by omega⟩, ⟨by omega, by omega, by omega, by omega⟩, hxs9, by omega, (hM9.turn hT (fun g hg e => by omega)).low (by omega), hs9.turn hT (by omega) (fun x hz hx e => by have := hA x hz hx; omega), Turn.trans t09 hT (fun i hi e => by omega)⟩) ?_
      exact Turn.here (Turn.here (Turn.here (Turn.here (Turn.here (Turn.refl _ _) _) _) _) _) _
  by_cases e3 : r4 = 3
  · subst e3
    have n0 : ((3 : Int) == 0) = false := rfl
    have n1 : ((3 : Int) == 1) = false := rfl
    have n2 : ((3 : Int) == 2) = false := rfl
    have n3 : ((3 : Int) == 3) = true := rfl
    have cA4 := bA4.cells
    have fA4 := bA4.frees
    have lA4 := bA4.lt
    have cR4 := bR4.cells
    have fR4 := bR4.frees
    have lR4 := bR4.lt
    have T1 := Turn.here (B := w2.heap.size) (j := 1) (Turn.refl _ w4) (.slice (some ⟨w4.heap.size, 0, none⟩) 7 7)
    have TR := Turn.here (B := w.heap.size) (j := 4) (Turn.here (j := 3) (Turn.here (j := 2) (Turn.here (j := 1) (Turn.here (j := 0) (Turn.refl _ (w4.setCell ⟨w2.heap.size, 1, none⟩ (.slice (some ⟨w4.heap.size, 0, none⟩) 7 7))) (.int .i64 o)) (.slice (some ⟨w4.heap.size, 0, none⟩) 7 7)) (.int .i64 nx)) (.int .i64 md)) (.int .i64 lc)
    have bRf := ((((((bR4.turn T1 (by omega)).set 0 (.int .i64 o)).set 1 (.slice (some ⟨w4.heap.size, 0, none⟩) 7 7)).set 2 (.int .i64 nx)).set 3 (.int .i64 md)).set 4 (.int .i64 lc)).alloc (.cells #[.int .i64 1, .int .i64 1, .int .i64 1, .int .i64 1, .int .i64 1, .int .i64 1, .int .i64 1] 2)
    simp only [List.setIfInBounds_toArray, List.set_cons_zero, List.set_cons_succ] at bRf
    have hszW : ((((((w4.setCell ⟨w2.heap.size, 1, none⟩ (.slice (some ⟨w4.heap.size, 0, none⟩) 7 7)).setCell ⟨w.heap.size, 0, none⟩ (.int .i64 o)).setCell ⟨w.heap.size, 1, none⟩ (.slice (some ⟨w4.heap.size, 0, none⟩) 7 7)).setCell ⟨w.heap.size, 2, none⟩ (.int .i64 nx)).setCell ⟨w.heap.size, 3, none⟩ (.int .i64 md)).setCell ⟨w.heap.size, 4, none⟩ (.int .i64 lc)).heap.size = w4.heap.size := by simp [World.setCell]
    have hlit := World.ownsRow_lit (base := w4.heap.size) (size := 1) (e := 2) ((((((w4.setCell ⟨w2.heap.size, 1, none⟩ (.slice (some ⟨w4.heap.size, 0, none⟩) 7 7)).setCell ⟨w.heap.size, 0, none⟩ (.int .i64 o)).setCell ⟨w.heap.size, 1, none⟩ (.slice (some ⟨w4.heap.size, 0, none⟩) 7 7)).setCell ⟨w.heap.size, 2, none⟩ (.int .i64 nx)).setCell ⟨w.heap.size, 3, none⟩ (.int .i64 md)).setCell ⟨w.heap.size, 4, none⟩ (.int .i64 lc)) #[.int .i64 1, .int .i64 1, .int .i64 1, .int .i64 1, .int .i64 1, .int .i64 1, .int .i64 1] 7 (by rw [hszW]; exact Nat.le_refl _) (by decide) rfl
    rw [hszW] at hlit
    have halF := (New.refl ((((((w4.setCell ⟨w2.heap.size, 1, none⟩ (.slice (some ⟨w4.heap.size, 0, none⟩) 7 7)).setCell ⟨w.heap.size, 0, none⟩ (.int .i64 o)).setCell ⟨w.heap.size, 1, none⟩ (.slice (some ⟨w4.heap.size, 0, none⟩) 7 7)).setCell ⟨w.heap.size, 2, none⟩ (.int .i64 nx)).setCell ⟨w.heap.size, 3, none⟩ (.int .i64 md)).setCell ⟨w.heap.size, 4, none⟩ (.int .i64 lc))).alloc (.cells #[.int .i64 1, .int .i64 1, .int .i64 1, .int .i64 1, .int .i64 1, .int .i64 1, .int .i64 1] 2)
    have hs9 := ((hs4.turn T1 (by omega) (fun x hz hx e => by have := hA x hz hx; omega)).turn TR (by omega) (fun x hz hx e => by have := hA x hz hx; omega)).new halF
    have t09 := Turn.both (Turn.trans (Turn.trans t04 T1 (fun i hi e => by omega)) TR (fun i hi e => by omega)) (halF.turn (S := fun k => k = B))
    have hM9 := (OwM.of_own (L := [1, 1, 1, 1, 1, 1, 1]) hlit rfl).low (lo' := w.heap.size) (by omega)
    clear bA4 bR4 hM4 t04 hs4 hlit T1 TR halF hszW
    go_wp2
    have cRf := bRf.cells
    refine bodyPost_ret (v := .agg #[.int .i64 o, .slice (some ⟨w4.heap.size, 0, none⟩) 7 7, .int .i64 nx, .int .i64 md, .int .i64 lc]) (by simp [results, Tryz.results57, go_sem, cRf]) rfl ?_
    exact ⟨o, nx, md, lc, [1, 1, 1, 1, 1, 1, 1], _, _, 7, _, rfl, rfl, by omega, ⟨by omega, by omega, by omega, by omega⟩, ⟨by omega, by omega, by omega, by omega⟩, (by intro x hx; simp at hx; omega), by omega, hM9, hs9, t09⟩
  by_cases e4 : r4 = 4
  · subst e4
    have n0 : ((4 : Int) == 0) = false := rfl
    have n1 : ((4 : Int) == 1) = false := rfl
    have n2 : ((4 : Int) == 2) = false := rfl
    have n3 : ((4 : Int) == 3) = false := rfl
    have n4 : ((4 : Int) == 4) = true := rfl
    have hal5 := (New.refl w4).alloc (.cells #[.int .i64 (-1), .int .i64 65536] 2)
    have hbl5 := Blk.mk w4 w4.heap.size 2 #[.int .i64 (-1), .int .i64 65536] rfl
    go_wp2_with fail
    refine (pick_sc (hs4.new hal5) [-1, 65536] hbl5 2 rfl (by omega) (by omega) (by omega)).mono ?_
    rintro e w5 ⟨x5, rfl, hx5, hs5, ht5⟩
    have hx5' : -1 ≤ x5 ∧ x5 ≤ 65536 := by
      simp only [List.mem_cons, List.not_mem_nil, or_false] at hx5
      rcases hx5 with rfl | rfl <;> omega
    have bA5 := (bA4.new hal5).turn ht5 (by omega)
    have bR5 := (bR4.new hal5).turn ht5 hRB
    have hM5 := (hM4.new hal5).turnB' ht5 (fun g hg e => by have := hMb g hg; omega)
    have t05 := Turn.both t04 (Turn.both (hal5.turn (S := fun k => k = B)) ht5)
    clear hx5 hbl5 hal5 hs4 ht5 bA4 bR4 hM4 t04
    have cA5 := bA5.cells
    have fA5 := bA5.frees
    have lA5 := bA5.lt
    have T9 := Turn.here (B := w2.heap.size) (j := 4) (Turn.refl _ w5) (.int .i64 x5)
    have bA9 := bA5.set 4 (.int .i64 x5)
    simp only [List.setIfInBounds_toArray, List.set_cons_zero, List.set_cons_succ] at bA9
    have bR9 := bR5.turn T9 (by omega)
    have hM9 := hM5.turnB' T9 (fun g hg e => by have := hMb g hg; omega)
    have hs9 := hs5.turn T9 (by omega) (fun x hz hx e => by have := hA x hz hx; omega)
    have t09 := Turn.trans t05 T9 (fun i hi e => by omega)
    clear bA5 bR5 hM5 hs5 t05
    have cA9 := bA9.cells
    have cR9 := bR9.cells
    have fR9 := bR9.frees
    have lR9 := bR9.lt
    go_wp2
    refine bodyPost_ret (v := .agg #[.int .i64 o, .slice xa xn xc, .int .i64 nx, .int .i64 md, .int .i64 x5]) (by simp [results, Tryz.results57, go_sem, cR9]) rfl ?_
    refine (fun (hT : Turn (fun k => k = w.heap.size) (w5.setCell ⟨w2.heap.size, 4, none⟩ (.int .i64 x5)) _) => ⟨o, nx, md, x5, xs, _, _, xn, _, rfl, HX.out, by omega, ⟨by omega, by omega, by omega, by omega⟩, ⟨by omega, by omega, by omega, by omega⟩, HXS.out, by omega, (hM9.turn hT (fun g hg e => by omega)).low (by omega), hs9.turn hT (by omega) (fun x hz hx e => by have := hA x hz hx; omega), Turn.trans t09 hT (fun i hi e => by omega)⟩) ?_
    exact Turn.here (Turn.here (Turn.here (Turn.here (Turn.here (Turn.refl _ _) _) _) _) _) _
  · have n0 : (r4 == 0) = false := by simpa using e0
    have n1 : (r4 == 1) = false := by simpa using e1
    have n2 : (r4 == 2) = false := by simpa using e2
    have n3 : (r4 == 3) = false := by simpa using e3
    have n4 : (r4 == 4) = false := by simpa using e4
    have cA4 := bA4.cells
    have bA9 := bA4
    have bR9 := bR4
    have cA9 := bA9.cells
    have cR9 := bR9.cells
    have fR9 := bR9.frees
    have lR9 := bR9.lt
    go_wp2
    refine bodyPost_ret (v := .agg #[.int .i64 o, .slice xa xn xc, .int .i64 nx, .int .i64 md, .int .i64 lc]) (by simp [results, Tryz.results57, go_sem, cR9]) rfl ?_
    refine (fun (hT : Turn (fun k => k = w.heap.size) w4 _) => ⟨o, nx, md, lc, xs, _, _, xn, _, rfl, HX.out, by omega, ⟨by omega, by omega, by omega, by omega⟩, ⟨by omega, by omega, by omega, by omega⟩, HXS.out, by omega, (hM4.turn hT (fun g hg e => by omega)).low (by omega), hs4.turn hT (by omega) (fun x hz hx e => by have := hA x hz hx; omega), Turn.trans t04 hT (fun i hi e => by omega)⟩) ?_
    exact Turn.here (Turn.here (Turn.here (Turn.here (Turn.here (Turn.refl _ _) _) _) _) _) _

end Go.Proofs.YtjampcfikfafkaaGreat
