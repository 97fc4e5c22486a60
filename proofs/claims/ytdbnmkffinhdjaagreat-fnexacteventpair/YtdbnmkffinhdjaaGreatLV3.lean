/- Lemmas and contracts of one law. -/
import Derived.Test.YtdbnmkffinhdjaaGreatLV2
import Derived.Lib.AppendZeros
import Derived.Lib.SmallJoins
import Derived.LoopN
import Derived.Test.YtdbnmkffinhdjaaGreatLV1
import Derived.ProofKit
import Derived.OpenShut
import Derived.ShutString
import Derived.ChangeOld
namespace Go.Proofs.YtdbnmkffinhdjaaGreat
open Go.RowKit Go.Sort
set_option linter.unusedVariables false
set_option maxHeartbeats 25600000

/-- A list of bytes in memory of the call's own, from lo on, or nil for none. -/
def OvB (w : World) (lo : Nat) (v : Value) (xs : List Int) : Prop := w.ownsRow lo 5 1 v xs.length (xs.map (Value.int .u8))

theorem OvB.form {w : World} {lo : Nat} {v : Value} {xs : List Int} (h : OvB w lo v xs) : (v = .slice none 0 0 ∧ xs = []) ∨ ∃ g c, v = .slice (some ⟨g, 0, none⟩) xs.length c ∧ lo ≤ g ∧ xs.length ≤ c ∧ w.ownsRow 0 5 1 (.slice (some ⟨g, 0, none⟩) xs.length c) xs.length (xs.map (Value.int .u8)) := by
  rcases Joins.ownsRow_forms h with ⟨rfl, h0⟩ | ⟨g, cap, rfl⟩
  · exact .inl ⟨rfl, List.eq_nil_of_length_eq_zero h0⟩
  · refine .inr ⟨g, cap, rfl, (World.ownsRow.lt h g rfl).1, ?_, own_base h⟩
    rcases h.2 with ⟨h1, _⟩ | ⟨g', cap', cur, h', hb, hh, hc, r⟩
    · cases h1
    · simp at h'
      omega
theorem OvB.turn {w w' : World} {lo : Nat} {v : Value} {xs : List Int} {S : Nat → Prop} (h : OvB w lo v xs) (t : Turn S w w') (hS : ∀ k, lo ≤ k → k < w.heap.size → ¬ S k) : OvB w' lo v xs := by
  refine ⟨h.1, ?_⟩
  rcases h.2 with h' | ⟨g', cap', cur, h', hb, hh, r⟩
  · exact .inl h'
  · have hlt : g' < w.heap.size := (Array.getElem?_eq_some_iff.1 hh).1
    exact .inr ⟨g', cap', cur, h', hb, (t.block g' hlt (hS g' hb hlt)).trans hh, r⟩
theorem OvB.new {w w' : World} {lo : Nat} {v : Value} {xs : List Int} (h : OvB w lo v xs) (t : New w w') : OvB w' lo v xs := h.turn t (fun _ _ _ f => f)
theorem OvB.blk {w : World} {lo : Nat} {v : Value} {xs : List Int} (h : OvB w lo v xs) : ∀ k, v.ownBlock = some k → lo ≤ k := by
  intro k hk
  rcases h.form with ⟨rfl, _⟩ | ⟨g, cap, rfl, hg, _, _⟩
  · simp [Value.ownBlock] at hk
  · simp [Value.ownBlock] at hk
    subst hk
    exact hg
theorem OvB.low {w : World} {lo lo' : Nat} {v : Value} {xs : List Int} (h : OvB w lo v xs) (hl : lo' ≤ lo) : OvB w lo' v xs := by
  refine ⟨h.1, ?_⟩
  rcases h.2 with h' | ⟨g', cap', cur, h', hb, hh, r⟩
  · exact .inl h'
  · exact .inr ⟨g', cap', cur, h', by omega, hh, r⟩
theorem OvB.bs {w : World} {lo : Nat} {v : Value} {xs : List Int} (h : OvB w lo v xs) (hb : ∀ z ∈ xs, 0 ≤ z ∧ z ≤ 255) : ∃ a c, v = .slice a xs.length c ∧ BsAt w a xs ∧ xs.length ≤ c ∧ ((a = none ∧ xs.length = 0 ∧ c = 0) ∨ ∃ g, a = some ⟨g, 0, none⟩ ∧ lo ≤ g ∧ g < w.heap.size) ∧ OwAt w a xs.length c xs := by
  rcases h.form with ⟨rfl, rfl⟩ | ⟨g, c, rfl, hg, hc, ho⟩
  · exact ⟨none, 0, rfl, BsAt.nil _ _, Nat.le_refl _, .inl ⟨rfl, rfl, rfl⟩, ⟨rfl, fun h => by simp at h⟩⟩
  · exact ⟨_, c, rfl, BsAt.of_own ho hb, hc, .inr ⟨g, rfl, hg, (ho.lt g rfl).2⟩, OwAt.of_own ho⟩

section
variable {P : Program} {t e : TypeId} {i : TypeInfo}
/-- Appending bytes, whatever their make, to a list that the call owns. -/
theorem run_apB (w : World) (ty : TypeId) (base : Nat) (ht : P.underlying t = some (.slice e)) (hi : P.info? e = some i) (hz : i.zero = some (.int .u8 0)) (hs : i.size = 1) (hb : i.bytes = 1)
    (v : Value) (xs : List Int) (hown : w.ownsRow base e 1 v xs.length (xs.map (Value.int .u8)))
    (a : Option Addr) (m c : Nat) (zs : List Int) (hsrc : BsAt w a zs) (hm : zs.length = m) (hnone : a = none → m = 0 ∧ c = 0) (hle : xs.length + m ≤ 4194304) (hbase : base ≤ w.heap.size) :
    ∃ v' w', (Builtin.append_ #[t, t] ty #[v, .slice a m c]).run P w = .ok v' w' ∧ w'.ownsRow base e 1 v' (xs ++ zs).length ((xs ++ zs).map (Value.int .u8)) ∧ w.grownBy w' v.ownBlock := by
  cases a with
  | none =>
    obtain ⟨rfl, rfl⟩ := hnone rfl
    obtain rfl : zs = [] := List.eq_nil_of_length_eq_zero hm
    have hrun := run_append_owned_none (P := P) w base t ty e i 1 ht hi v xs.length _ hown
    exact ⟨v, w, by simpa using hrun, by simpa using hown, World.grownBy.refl _ _⟩
  | some ad =>
    have hnews : ∀ j u, (zs.map (Value.int .u8))[j]? = some u → w.cell? (ad.add j) = some u := by
      intro j u hu
      rw [List.getElem?_map] at hu
      obtain ⟨z, hz', rfl⟩ := Option.map_eq_some_iff.1 hu
      obtain ⟨b, off, ha, hc, _⟩ := hsrc j z hz'
      obtain rfl := Option.some.inj ha
      rw [Addr.add_lit]
      exact hc
    obtain ⟨v', w', hr, h2, h3, _, h5⟩ := run_append_own_at (P := P) w base t ty e i (.int .u8 0) 1 1 ht hi hz hs hb rfl (by decide) v xs.length _ hown ad m c (zs.map (Value.int .u8)) (by simp [hm]) hnews (ints_oneCell _ _) (by unfold maxLen; omega) (by omega) hbase
    exact ⟨v', w', hr, by simpa [hm] using h2, h3⟩

theorem wp_apB (w : World) {o : Oper} {a : Act} {K : Act → World → Prop} {Q : Exit → Act → World → Prop} (s x : Operand)
    (ho : o.op = .call { callee := .builtin .append, args := #[s, x], argTypes := #[t, t] }) (base : Nat) (ht : P.underlying t = some (.slice e)) (hi : P.info? e = some i) (hz : i.zero = some (.int .u8 0)) (hs : i.size = 1) (hb : i.bytes = 1)
    (v : Value) (xs : List Int) (hsv : a.eval s = v) (hown : w.ownsRow base e 1 v xs.length (xs.map (Value.int .u8)))
    (ao : Option Addr) (m c : Nat) (zs : List Int) (hxv : a.eval x = .slice ao m c) (hsrc : BsAt w ao zs) (hm : zs.length = m) (hnone : ao = none → m = 0 ∧ c = 0) (hle : xs.length + m ≤ 4194304) (hbase : base ≤ w.heap.size)
    (h : ∀ v' w', w'.ownsRow base e 1 v' (xs ++ zs).length ((xs ++ zs).map (Value.int .u8)) → w.grownBy w' v.ownBlock → K (a.put o.dst v') w') : o.wp P a w K Q := by
  obtain ⟨v', w', hr, h2, h3⟩ := run_apB (P := P) w o.type base ht hi hz hs hb v xs hown ao m c zs hsrc hm hnone hle hbase
  unfold Oper.wp execOp
  simp only [ho, resolve, invoke, builtin, Sem.run_bind, Sem.run_pure, Result.andThen_ok, List.map_toArray, List.map_cons, List.map_nil, hsv, hxv, hr]
  exact h v' w' h2 h3

theorem wpList_apB (w : World) {ops : Array Oper} {rest : List Oper} {o : Oper} {a : Act} {Q : Exit → Act → World → Prop} (hgd : o.guard = none) (s x : Operand)
    (ho : o.op = .call { callee := .builtin .append, args := #[s, x], argTypes := #[t, t] }) (base : Nat) (ht : P.underlying t = some (.slice e)) (hi : P.info? e = some i) (hz : i.zero = some (.int .u8 0)) (hs : i.size = 1) (hb : i.bytes = 1)
    (v : Value) (xs : List Int) (hsv : a.eval s = v) (hown : w.ownsRow base e 1 v xs.length (xs.map (Value.int .u8)))
    (ao : Option Addr) (m c : Nat) (zs : List Int) (hxv : a.eval x = .slice ao m c) (hsrc : BsAt w ao zs) (hm : zs.length = m) (hnone : ao = none → m = 0 ∧ c = 0) (hle : xs.length + m ≤ 4194304) (hbase : base ≤ w.heap.size)
    (h : ∀ v' w', w'.ownsRow base e 1 v' (xs ++ zs).length ((xs ++ zs).map (Value.int .u8)) → w.grownBy w' v.ownBlock → wpList P ops Q rest (a.put o.dst v') w') : wpList P ops Q (o :: rest) a w :=
  wpList_plain hgd fun _ hK => wp_apB w s x ho base ht hi hz hs hb v xs hsv hown ao m c zs hxv hsrc hm hnone hle hbase fun v' w' h2 h3 => hK _ _ (h v' w' h2 h3)

end

set_option maxRecDepth 100000 in
theorem grow8 (N : Nat) (hN : N ≤ 4194304) (w : World) : Calls Tryz.prog 178 #[.slice none 0 0, .int .i64 N] w fun e w' => ∃ v, e = .returned v ∧ OvB w' w.heap.size v [] ∧ New w w' := by
  obtain ⟨i0, hi, hz0, hz1, hz2⟩ := info_parts Tryz.infoU8
  by_cases h0 : N = 0
  · subst h0
    go_enter Tryz.func178, Tryz.ntmps178
    go_wp2
    go_ret
    exact ⟨_, rfl, ⟨rfl, .inl ⟨rfl, rfl⟩⟩, New.refl _⟩
  · have hr := Lib.run_append_nil_zeros (P := Tryz.prog) w 33 3 33 5 i0 (.int .u8 0) .i64 .i64 Tryz.underlying33 Tryz.underlying3 hi hz0 N (by omega) (by omega) (by omega) (by rw [hz2]; omega)
    have hge := grownCap_ge w N 0 5
    have hle := grownCap_le_maxLen w N 0 5 (by unfold maxLen; omega)
    go_enter Tryz.func178, Tryz.ntmps178
    go_wp2_with (at_builtin; refine Lib.wpList_append_run _ rfl (.tmp 20) (.tmp 21) 33 3 rfl _ _ rfl rfl _ _ hr ?_)
    generalize hcap : grownCap w N 0 5 = cap at *
    go_wp2
    go_ret
    refine ⟨_, rfl, ⟨rfl, .inr ⟨w.heap.size, cap, _, rfl, Nat.le_refl _, heap_alloc_new _ _, Nat.zero_le _, hle, ?_, by simp⟩⟩, ((New.refl w).drew).alloc _⟩
    simp [Builtin.zeroCells]
    omega

theorem grow8z (z : Int) (h0 : 0 ≤ z) (h1 : z ≤ 4194304) (w : World) : Calls Tryz.prog 178 #[.slice none 0 0, .int .i64 z] w fun e w' => ∃ v, e = .returned v ∧ OvB w' w.heap.size v [] ∧ New w w' := by
  obtain ⟨N, rfl⟩ : ∃ N : Nat, z = N := ⟨z.toNat, by omega⟩
  exact grow8 N (by omega) w

set_option maxRecDepth 100000 in
theorem concat1 (G : Nat) (x : Option Addr) (n c : Nat) (xs : List Int) (w : World) (g0 : w.cell? ⟨G, 0, none⟩ = some (.slice x n c)) (hx : BsAt w x xs) (hn : xs.length = n) (hnx : x = none → n = 0 ∧ c = 0) (hn1 : n ≤ 1048576) :
    Calls Tryz.prog 149 #[.slice (some ⟨G, 0, none⟩) 1 1] w fun e w' => ∃ v, e = .returned v ∧ OvB w' w.heap.size v xs ∧ New w w' := by
  obtain ⟨i0, hi, hz0, hz1, hz2⟩ := info_parts Tryz.infoU8
  have HX : Hid (xs.length = n) := hn
  have HNX : Hid (x = none → n = 0 ∧ c = 0) := hnx
  have hG : G < w.heap.size := World.block_lt_of_cell? w _ g0
  clear hn hnx
  go_enter Tryz.func149, Tryz.ntmps149
  go_wp2
  refine wp_loop_rounds 2 ?_
  rw [rounds_succ]
  go_wp2
  rw [rounds_succ]
  go_wp2_with fail
  refine (grow8z _ (by omega) (by omega) _).mono ?_
  rintro e w1 ⟨v1, rfl, ho1, hn1'⟩
  have G0 : w1.cell? ⟨G, 0, none⟩ = some (.slice x n c) := (World.cell?_of_block (hn1'.block G hG (fun f => f))).trans g0
  have sz1 := hn1'.size
  have lt1 : G < w1.heap.size := by omega
  clear g0
  go_wp2_with fail
  refine wp_loop_rounds 2 ?_
  rw [rounds_succ]
  go_wp2_with (at_builtin; refine wpList_apB _ rfl (.tmp 31) (.tmp 32) rfl w.heap.size Tryz.underlying33 hi hz0 hz1 hz2 v1 [] rfl ho1 x n c xs rfl (hx.new hn1') HX.out HNX.out (by simp; omega) sz1 ?_)
  intro v2 w2 ho2 hg2
  replace ho2 : OvB w2 w.heap.size v2 xs := by simpa [OvB] using ho2
  have N2 : New w w2 := hn1'.grow hg2 (fun k hk => ho1.blk k hk)
  go_wp2_with fail
  rw [rounds_succ]
  go_wp2
  go_ret
  exact ⟨v2, rfl, ho2, N2⟩

end Go.Proofs.YtdbnmkffinhdjaaGreat

namespace Go.Proofs.YtdbnmkffinhdjaaGreat
open Go.RowKit
set_option linter.unusedVariables false
set_option linter.unusedSimpArgs false
set_option maxRecDepth 100000
set_option maxHeartbeats 25600000

theorem copyE (ep ki pe : Int) (x : Option Addr) (n c : Nat) (zs : List Int) (w : World) (hx : BsAt w x zs) (hn : zs.length = n) (hnx : x = none → n = 0 ∧ c = 0) (hn1 : n ≤ 1048576) :
    Calls Tryz.prog 148 #[.agg #[.int .i64 ep, .int .i64 ki, .int .i64 pe, .slice x n c]] w fun e w' => ∃ (a' : Option Addr) (c' : Nat), e = .returned (.agg #[.int .i64 ep, .int .i64 ki, .int .i64 pe, .slice a' n c']) ∧ OvB w' w.heap.size (.slice a' n c') zs ∧ New w w' := by
  have hw := (((New.refl w).alloc (.cells #[.int .i64 ep, .int .i64 ki, .int .i64 pe, .slice x n c] 118)).alloc (.cells #[.int .i64 0, .int .i64 0, .int .i64 0, .slice none 0 0] 118)).alloc (.cells #[.slice x n c] 33)
  have b0 := ((Blk.mk w w.heap.size 118 #[.int .i64 ep, .int .i64 ki, .int .i64 pe, .slice x n c] rfl).alloc (.cells #[.int .i64 0, .int .i64 0, .int .i64 0, .slice none 0 0] 118)).alloc (.cells #[.slice x n c] 33)
  have b1 := (Blk.mk (w.alloc (.cells #[.int .i64 ep, .int .i64 ki, .int .i64 pe, .slice x n c] 118)) (w.heap.size + 1) 118 #[.int .i64 0, .int .i64 0, .int .i64 0, .slice none 0 0] (by simp)).alloc (.cells #[.slice x n c] 33)
  have b2 := Blk.mk ((w.alloc (.cells #[.int .i64 ep, .int .i64 ki, .int .i64 pe, .slice x n c] 118)).alloc (.cells #[.int .i64 0, .int .i64 0, .int .i64 0, .slice none 0 0] 118)) (w.heap.size + 1 + 1) 33 #[.slice x n c] (by simp)
  have hz := hx.lt
  go_enter Tryz.func148, Tryz.ntmps148
  go_wp2_with fail
  refine (concat1 (w.heap.size + 1 + 1) x n c zs _ (b2.cells 0) (hx.new hw) hn hnx hn1).mono ?_
  rintro e w1 ⟨v, rfl, ho, hn1'⟩
  obtain ⟨a', c', rfl, -, -, -, -⟩ := ho.bs hz
  rw [hn] at ho ⊢
  have b01 := b0.new hn1'
  have b11 := b1.new hn1'
  have c0 := b01.cells
  have f0 := b01.frees
  have c1 := b11.cells
  have f1 := b11.frees
  have hw1 := hw.trans hn1'
  go_wp2
  refine bodyPost_ret (v := .agg #[.int .i64 ep, .int .i64 ki, .int .i64 pe, .slice a' n c']) (by simp [results, Tryz.results148, go_sem, c1]) rfl ⟨a', c', rfl, ?_, ?_⟩
  · refine (OvB.turn (S := fun i => i = w.heap.size + 1 ∨ i = w.heap.size) ho ?_ (by intro k hk _ e; simp at hk; omega)).low (by simp; omega)
    exact Turn.set (S := fun i => i = w.heap.size + 1 ∨ i = w.heap.size) (Turn.set (S := fun i => i = w.heap.size + 1 ∨ i = w.heap.size) (Turn.set (S := fun i => i = w.heap.size + 1 ∨ i = w.heap.size) (Turn.set (S := fun i => i = w.heap.size + 1 ∨ i = w.heap.size) (Turn.set (S := fun i => i = w.heap.size + 1 ∨ i = w.heap.size) (Turn.refl _ _) (Or.inr rfl) _) (Or.inl rfl) _) (Or.inl rfl) _) (Or.inl rfl) _) (Or.inl rfl) _
  · exact ((((hw1.setCell (by simp) _).setCell (by simp) _).setCell (by simp) _).setCell (by simp) _).setCell (by simp) _

end Go.Proofs.YtdbnmkffinhdjaaGreat

namespace Go.Proofs.YtdbnmkffinhdjaaGreat
open Go.RowKit Go.Sort
set_option linter.unusedVariables false
set_option maxHeartbeats 25600000

/-- The bytes of an entry, as a value. -/
def EkV.pv (v : EkV) : Value := .slice v.a v.r.xs.length v.c
/-- Numbers that are bytes. -/
def By (z : Int) : Prop := 0 ≤ z ∧ z ≤ 255

theorem OvB.turnK {w w' : World} {lo : Nat} {v : Value} {xs : List Int} {S : Nat → Prop} (h : OvB w lo v xs) (t : Turn S w w') (hS : ∀ k, v.ownBlock = some k → ¬ S k) : OvB w' lo v xs := by
  refine ⟨h.1, ?_⟩
  rcases h.2 with h' | ⟨g', cap', cur, h', hb, hh, r⟩
  · exact .inl h'
  · have hlt : g' < w.heap.size := (Array.getElem?_eq_some_iff.1 hh).1
    exact .inr ⟨g', cap', cur, h', hb, (t.block g' hlt (hS g' (by rw [h']; rfl))).trans hh, r⟩
theorem OvB.rngK {w : World} {lo : Nat} {v : Value} {xs : List Int} (h : OvB w lo v xs) : ∀ j, v.ownBlock = some j → lo ≤ j ∧ j < w.heap.size := by
  intro j hj
  rcases h.2 with ⟨h', _⟩ | ⟨g', cap', cur, h', hb, hh, r⟩
  · rw [h'] at hj; simp [Value.ownBlock] at hj
  · have hlt : g' < w.heap.size := (Array.getElem?_eq_some_iff.1 hh).1
    rw [h'] at hj
    simp [Value.ownBlock] at hj
    omega
theorem OvB.ofK {w : World} {g n c : Nat} {xs : List Int} (h : w.ownsRow 0 5 1 (.slice (some ⟨g, 0, none⟩) n c) n (xs.map (Value.int .u8))) : OvB w g (.slice (some ⟨g, 0, none⟩) n c) xs := by
  have hl : xs.length = n := by simpa using h.1
  subst hl
  refine ⟨h.1, ?_⟩
  rcases h.2 with h' | ⟨g', cap', cur, h', r⟩
  · exact .inl h'
  · have e2 := congrArg Value.ownBlock h'
    have e3 : g = g' := by simpa [Value.ownBlock] using e2
    exact .inr ⟨g', cap', cur, h', by omega, r.2⟩

/-- The bytes of the entries lie in memory of the call's own, from lo to hi, each in a block of its own. -/
structure PaK (w : World) (lo hi : Nat) (V : List EkV) : Prop where
  own : ∀ v ∈ V, OvB w lo v.pv v.r.xs
  bd : ∀ v ∈ V, (∀ z ∈ v.r.xs, By z) ∧ v.r.xs.length ≤ 1048576
  lies : ∀ v ∈ V, ∀ k, v.pv.ownBlock = some k → k < hi
  apart : ∀ (i j : Nat) (u v : EkV) (k : Nat), V[i]? = some u → V[j]? = some v → i ≠ j → u.pv.ownBlock = some k → v.pv.ownBlock ≠ some k

theorem PaK.nil (w : World) (lo hi : Nat) : PaK w lo hi [] := ⟨by simp, by simp, by simp, by intro i j u v k h; simp at h⟩
theorem PaK.turn {w w' : World} {lo hi : Nat} {V : List EkV} {S : Nat → Prop} (h : PaK w lo hi V) (t : Turn S w w') (hS : ∀ k, lo ≤ k → k < hi → ¬ S k) : PaK w' lo hi V :=
  ⟨fun v hv => (h.own v hv).turnK t (fun k hk => hS k ((h.own v hv).rngK k hk).1 (h.lies v hv k hk)), h.bd, h.lies, h.apart⟩
/-- Where a row of entries alone has turned, the bytes have not. -/
theorem PaK.new {w w' : World} {lo hi : Nat} {V : List EkV} (h : PaK w lo hi V) (t : New w w') : PaK w' lo hi V := h.turn t (fun _ _ _ f => f)
theorem PaK.here {w : World} {lo hi : Nat} {V : List EkV} (h : PaK w lo hi V) : ∀ v ∈ V, BsAt w v.a v.r.xs ∧ (v.a = none → v.r.xs.length = 0 ∧ v.c = 0) ∧ v.r.xs.length ≤ 1048576 := by
  intro v hv
  obtain ⟨a, c, e, h1, h2, h3, -⟩ := (h.own v hv).bs (h.bd v hv).1
  simp only [EkV.pv, Value.slice.injEq, true_and] at e
  obtain ⟨rfl, rfl⟩ := e
  refine ⟨h1, ?_, (h.bd v hv).2⟩
  intro hn
  rcases h3 with ⟨-, h4, h5⟩ | ⟨g, h4, -⟩
  · exact ⟨h4, h5⟩
  · rw [hn] at h4; cases h4
theorem PaK.snoc {w : World} {lo hi hi' : Nat} {V : List EkV} (h : PaK w lo hi V) (v : EkV) (ho : OvB w hi v.pv v.r.xs) (hb : ∀ z ∈ v.r.xs, By z) (hm : v.r.xs.length ≤ 1048576) (hlo : lo ≤ hi) (hhi : hi ≤ hi') (hw : w.heap.size ≤ hi') : PaK w lo hi' (V ++ [v]) := by
  have key : ∀ (i : Nat) (u : EkV), (V ++ [v])[i]? = some u → (V[i]? = some u) ∨ (i = V.length ∧ u = v) := by
    intro i u hu
    rw [List.getElem?_append] at hu
    split at hu
    · exact .inl hu
    · right
      have : i - V.length = 0 := by
        rcases Nat.eq_zero_or_pos (i - V.length) with e | e
        · exact e
        · rw [List.getElem?_eq_none (by simp; omega)] at hu; cases hu
      rw [this] at hu
      simp at hu
      exact ⟨by omega, hu.symm⟩
  refine ⟨?_, ?_, ?_, ?_⟩
  · intro u hu
    rcases List.mem_append.1 hu with hu | hu
    · exact h.own u hu
    · obtain rfl := List.mem_singleton.1 hu; exact ho.low hlo
  · intro u hu
    rcases List.mem_append.1 hu with hu | hu
    · exact h.bd u hu
    · obtain rfl := List.mem_singleton.1 hu; exact ⟨hb, hm⟩
  · intro u hu k hk
    rcases List.mem_append.1 hu with hu | hu
    · have := h.lies u hu k hk; omega
    · obtain rfl := List.mem_singleton.1 hu; have := (ho.rngK k hk).2; omega
  · intro i j u q k hi hj hne hu hq
    rcases key i u hi with h1 | ⟨h1, rfl⟩
    · rcases key j q hj with h2 | ⟨h2, rfl⟩
      · exact h.apart i j u q k h1 h2 hne hu hq
      · have := h.lies u (List.mem_of_getElem? h1) k hu; have := (ho.rngK k hq).1; omega
    · rcases key j q hj with h2 | ⟨h2, rfl⟩
      · have := h.lies q (List.mem_of_getElem? h2) k hq; have := (ho.rngK k hu).1; omega
      · omega
theorem PaK.up {w : World} {lo hi hi' : Nat} {V : List EkV} (h : PaK w lo hi V) (hh : hi ≤ hi') : PaK w lo hi' V := ⟨h.own, h.bd, fun v hv k hk => Nat.lt_of_lt_of_le (h.lies v hv k hk) hh, h.apart⟩
theorem PaK.low {w : World} {lo lo' hi : Nat} {V : List EkV} (h : PaK w lo hi V) (hh : lo' ≤ lo) : PaK w lo' hi V := ⟨fun v hv => (h.own v hv).low hh, h.bd, h.lies, h.apart⟩
theorem PaK.take {w : World} {lo hi : Nat} {V : List EkV} (h : PaK w lo hi V) (m : Nat) : PaK w lo hi (V.take m) :=
  ⟨fun v hv => h.own v (List.mem_of_mem_take hv), fun v hv => h.bd v (List.mem_of_mem_take hv), fun v hv => h.lies v (List.mem_of_mem_take hv),
    fun i j u v k hi hj hne => h.apart i j u v k (by rw [List.getElem?_take] at hi; split at hi; exact hi; cases hi) (by rw [List.getElem?_take] at hj; split at hj; exact hj; cases hj) hne⟩

/-- The row of the entries and their bytes are the call's own, from lo to hi. -/
structure OwL (w : World) (lo hi : Nat) (u : Value) (V : List EkV) : Prop where
  row : w.ownsRow lo 118 4 u V.length (cellsK V)
  rhi : ∀ k, u.ownBlock = some k → k < hi
  path : PaK w lo hi V

theorem OwL.turn {w w' : World} {lo hi : Nat} {u : Value} {V : List EkV} {S : Nat → Prop} (h : OwL w lo hi u V) (t : Turn S w w') (hS : ∀ k, lo ≤ k → k < hi → ¬ S k) : OwL w' lo hi u V := by
  obtain ⟨y, d, -, -, hr⟩ := row9_form h.row
  exact ⟨row9_turn h.row t (fun k hk => hS k (hr k hk).1 (h.rhi k hk)), h.rhi, h.path.turn t hS⟩
theorem OwL.new {w w' : World} {lo hi : Nat} {u : Value} {V : List EkV} (h : OwL w lo hi u V) (t : New w w') : OwL w' lo hi u V := h.turn t (fun _ _ _ f => f)
theorem OwL.up {w : World} {lo hi hi' : Nat} {u : Value} {V : List EkV} (h : OwL w lo hi u V) (hh : hi ≤ hi') : OwL w lo hi' u V := ⟨h.row, fun k hk => Nat.lt_of_lt_of_le (h.rhi k hk) hh, h.path.up hh⟩
theorem OwL.low {w : World} {lo lo' hi : Nat} {u : Value} {V : List EkV} (h : OwL w lo hi u V) (hh : lo' ≤ lo) : OwL w lo' hi u V := ⟨Joins.ownsRow_le h.row hh, h.rhi, h.path.low hh⟩
theorem LgAt.nil (w : World) (A : Option Addr) : LgAt w A [] := by intro i u h; simp at h
theorem OwL.form {w : World} {lo hi : Nat} {u : Value} {V : List EkV} (h : OwL w lo hi u V) : ∃ A c, u = .slice A V.length c ∧ LgAt w A V ∧ ((A = none ∧ V = [] ∧ c = 0) ∨ ∃ g, A = some ⟨g, 0, none⟩ ∧ V.length ≤ c ∧ lo ≤ g ∧ g < hi ∧ g < w.heap.size ∧ OwK w lo hi g V.length c V) := by
  rcases h.row.2 with ⟨h1, h2⟩ | ⟨g, c, cur, h1, h2, h3, h4, r⟩
  · obtain rfl : V = [] := List.eq_nil_of_length_eq_zero h2
    exact ⟨none, 0, h1, LgAt.nil _ _, .inl ⟨rfl, rfl, rfl⟩⟩
  · have hlt : g < w.heap.size := (Array.getElem?_eq_some_iff.1 h3).1
    subst h1
    have hrow := own_base h.row
    have hne : ∀ v ∈ V, ∀ x, v.a = some x → lo ≤ x.block ∧ x.block < hi ∧ ¬ x.block = g := by
      intro v hv x hx
      have hob : v.pv.ownBlock = some x.block := by unfold EkV.pv; rw [hx]; rfl
      refine ⟨((h.path.own v hv).rngK _ hob).1, h.path.lies v hv _ hob, ?_⟩
      intro e
      rcases (h.path.own v hv).2 with ⟨h', _⟩ | ⟨g', cap', cur', h', hb', hh', r'⟩
      · rw [h'] at hob; simp [Value.ownBlock] at hob
      · rw [h'] at hob
        simp [Value.ownBlock] at hob
        rw [hob, e, h3] at hh'
        simp only [Option.some.injEq, Obj.cells.injEq] at hh'
        exact absurd hh'.2.1 (by decide)
    refine ⟨_, c, rfl, ?_, .inr ⟨g, rfl, h4, h2, h.rhi g rfl, hlt, ⟨hrow, ?_, fun v hv => (h.path.bd v hv).2, hne, ⟨h2, h.rhi g rfl⟩, ?_⟩⟩⟩
    · intro i v hv
      have hi' : i < V.length := (List.getElem?_eq_some_iff.1 hv).1
      refine ⟨⟨g, rfl, fun j hj => ?_⟩, (h.path.here v (List.mem_of_getElem? hv)).1, (h.path.bd v (List.mem_of_getElem? hv)).2⟩
      rw [World.ownsRow.cellAt hrow (i * 4 + j) (by omega)]
      exact cellsK_get V i v hv j hj
    · intro i v hv
      obtain ⟨a, c', e, -, -, -, h9⟩ := (h.path.own v (List.mem_of_getElem? hv)).bs (h.path.bd v (List.mem_of_getElem? hv)).1
      simp only [EkV.pv, Value.slice.injEq, true_and] at e
      obtain ⟨rfl, rfl⟩ := e
      exact h9
    · intro i j u v x y hu hv hij hx hy e
      refine h.path.apart i j u v x.block hu hv hij ?_ ?_
      · unfold EkV.pv; rw [hx]; rfl
      · unfold EkV.pv; rw [hy, e]; rfl
theorem OwL.lg {w : World} {lo hi n c : Nat} {A : Option Addr} {V : List EkV} (h : OwL w lo hi (.slice A n c) V) : LgAt w A V ∧ V.length = n := by
  obtain ⟨A', c', e, h1, -⟩ := h.form
  simp only [Value.slice.injEq] at e
  obtain ⟨rfl, rfl, rfl⟩ := e
  exact ⟨h1, rfl⟩
theorem OwL.nil (w : World) (lo hi : Nat) : OwL w lo hi (.slice none 0 0) [] := ⟨⟨rfl, .inl ⟨rfl, rfl⟩⟩, by intro k hk; simp [Value.ownBlock] at hk, PaK.nil _ _ _⟩
theorem cellsK_snoc (V : List EkV) (v : EkV) : cellsK (V ++ [v]) = cellsK V ++ v.cs := by simp [cellsK]
theorem cellsK_take (V : List EkV) (m : Nat) : (cellsK V).take (m * 4) = cellsK (V.take m) := by
  induction V generalizing m with
  | nil => simp [cellsK]
  | cons v V ih =>
    cases m with
    | zero => simp [cellsK]
    | succ m =>
      have := ih m
      unfold cellsK at this ⊢
      rw [List.flatMap_cons, List.take_succ_cons, List.flatMap_cons, List.take_append]
      have e1 : (EkV.cs v).length = 4 := rfl
      rw [List.take_of_length_le (by rw [e1]; omega), e1, show (m + 1) * 4 - 4 = m * 4 by omega, this]
/-- The first ones of a list of the call's own. -/
theorem OwL.take {w : World} {lo hi n c : Nat} {A : Option Addr} {V : List EkV} (h : OwL w lo hi (.slice A n c) V) (m : Nat) (hm : m ≤ n) (hA : A ≠ none) : OwL w lo hi (.slice A m c) (V.take m) := by
  have hl := h.lg.2
  refine ⟨⟨by rw [cellsK_len], ?_⟩, fun k hk => h.rhi k (by cases A with | none => simp [Value.ownBlock] at hk | some x => simpa [Value.ownBlock] using hk), h.path.take m⟩
  rcases h.row.2 with ⟨h1, h2⟩ | ⟨g, cc, cur, h1, h2, h3, h4, h5, h6, h7⟩
  · simp at h1; exact absurd h1.1 hA
  · simp at h1
    obtain ⟨rfl, -, rfl⟩ := h1
    have e : (V.take m).length = m := by rw [List.length_take]; omega
    refine .inr ⟨g, c, cur, by rw [e], h2, h3, by omega, h5, h6, ?_⟩
    rw [e, ← cellsK_take, ← h7, List.take_take]
    congr 1
    omega

end Go.Proofs.YtdbnmkffinhdjaaGreat

namespace Go.Proofs.YtdbnmkffinhdjaaGreat
open Go.ChangeShapes Go.WideShapes Go.ChangeAt Go.RowKit
set_option maxHeartbeats 25600000

theorem own : ownKnob Tryz.prog.godebug = none := by kernel_rfl
theorem laidOut : laidOutB Tryz.prog = true := by kernel_rfl

theorem open_bytes {H : Type} {enc : TypeId × Value → H} {W : World} {base : Nat} {t1 : Nat → Bool} {t2 : Bool} {a : Option Addr} {n c : Nat} {d : DataW H} {p : List MemPlace}
    (h0 : DataW.Trod enc Tryz.prog W base t1 t2 33 (.slice a n c) d p) : ∃ zs, BsAt W a zs ∧ zs.length = n ∧ n ≤ c ∧ n ≤ maxLen := by
  obtain ⟨fuel, hf⟩ := h0
  rcases open_ints Tryz.underlying33 Tryz.underlying5 (by kernel_rfl) hf with ⟨hcs, _⟩ | ⟨x, l, c, zs, hcs, _, hl, hm, hz, _, hcell, hwz⟩
  · simp [Value.cells] at hcs
    obtain ⟨rfl, rfl, rfl⟩ := hcs
    exact ⟨[], BsAt.nil _ _, rfl, Nat.le_refl _, Nat.zero_le _⟩
  · simp [Value.cells] at hcs
    obtain ⟨rfl, rfl, rfl⟩ := hcs
    have hz' : n ≤ zs.length := by rw [hz]; split <;> omega
    exact ⟨zs.take n, BsAt.of_cells n hcell hwz, by rw [List.length_take]; omega, hl, Nat.le_trans hl hm⟩

end Go.Proofs.YtdbnmkffinhdjaaGreat

namespace Go.Proofs.YtdbnmkffinhdjaaGreat
open Go.ChangeShapes Go.WideShapes Go.ChangeAt Go.RowKit Go.Deep
set_option linter.unusedVariables false
set_option maxHeartbeats 25600000

theorem arr3e {α : Type} {cs : Array α} (h : cs.size = 3) : ∃ c0 c1 c2, cs = #[c0, c1, c2] := by
  obtain ⟨l⟩ := cs
  match l, h with
  | [c0, c1, c2], _ => exact ⟨c0, c1, c2, rfl⟩
theorem Tryz.cEv9 : Tryz.prog.cellsOf 35 = 3 := by kernel_rfl
theorem Tryz.cI9 : Tryz.prog.cellsOf 2 = 1 := by kernel_rfl
theorem Tryz.cBs9 : Tryz.prog.cellsOf 33 = 1 := by kernel_rfl

set_option maxRecDepth 100000 in
theorem open_event {H : Type} {enc : TypeId × Value → H} {W : World} {base b0 : Nat} {r : Reach} {t1 : Nat → Bool} {t2 : Bool} {v : Value} {d : DataW H} {p : List MemPlace}
    (hv : Value.okWide Tryz.prog W r b0 35 v) (h0 : DataW.Trod enc Tryz.prog W base t1 t2 35 v d p) :
    ∃ (k q : Int) (a : Option Addr) (n c : Nat) (zs : List Int), v = .agg #[.int .i64 k, .int .i64 q, .slice a n c] ∧ BsAt W a zs ∧ zs.length = n ∧ n ≤ maxLen := by
  obtain ⟨cs, rfl, hsz⟩ := okWide_struct Tryz.underlying35 hv
  obtain ⟨c0, c1, c2, rfl⟩ := arr3e (hsz.trans Tryz.cEv9)
  obtain ⟨fuel, hf⟩ := h0
  obtain ⟨y, hf'⟩ : ∃ y, DataW.trod enc Tryz.prog W base t1 t2 fuel 35 [c0, c1, c2] = some y := ⟨(d, p), by simpa [Value.cells] using hf⟩
  obtain ⟨ys, m, _, rfl, hl, hlen, hq⟩ := DataW.trod_struct Tryz.underlying35 hf'
  match ys, hlen with
  | [y0, y1, y2], _ =>
    have k0 := hq 0 _ rfl
    have k1 := hq 1 _ rfl
    have k2 := hq 2 _ rfl
    simp [Tryz.cI9, Tryz.cBs9] at k0 k1 k2
    obtain ⟨k, e0, -, w0⟩ := DataW.trod_int Tryz.underlying2 k0
    obtain ⟨q, e1, -, w1⟩ := DataW.trod_int Tryz.underlying2 k1
    simp only [List.cons.injEq, and_true] at e0 e1
    subst e0 e1
    have hb : ∃ (a : Option Addr) (n c : Nat), c2 = .slice a n c := by
      rcases open_ints Tryz.underlying33 Tryz.underlying5 (by kernel_rfl) k2 with ⟨hcs, _⟩ | ⟨x, l, c, zs, hcs, _⟩
      · simp only [List.cons.injEq, and_true] at hcs
        exact ⟨none, 0, 0, hcs⟩
      · simp only [List.cons.injEq, and_true] at hcs
        exact ⟨some x, l, c, hcs⟩
    obtain ⟨a, n, c, rfl⟩ := hb
    obtain ⟨zs, h1, h2, h3, h4⟩ := open_bytes (enc := enc) (W := W) (base := base) (t1 := t1) (t2 := t2) (a := a) (n := n) (c := c) (d := y2.1) (p := y2.2) ⟨m, by simpa [Value.cells] using k2⟩
    exact ⟨k, q, a, n, c, zs, rfl, h1, h2, h4⟩


theorem Tryz.cEn10 : Tryz.prog.cellsOf 110 = 4 := by kernel_rfl

end Go.Proofs.YtdbnmkffinhdjaaGreat
