/- Lemmas and contracts of one law. -/
import Derived.Test.YtdbnmkffinhdjaaGreatLV1
import Derived.Deep.AppendLies
import Derived.Deep.RegionLaw
import Derived.Maps.AppendAt
import Derived.Lib.QuietBelow
import Derived.Deep.CutRange
namespace Go.Proofs.YtdbnmkffinhdjaaGreat
open Go.RowKit
set_option linter.unusedVariables false
set_option maxHeartbeats 25600000

theorem szEntry_ok (ep k p : Int) (a : Option Addr) (n c l : Nat) (w : World) (hl : l ≤ 1048576) (h : n ≤ l) : Calls Tryz.prog 59 #[.agg #[.int .i64 ep, .int .i64 k, .int .i64 p, .slice a n c], .int .i64 l] w fun e w' => e = .returned (.int .i64 ((l : Int) - n)) ∧ New w w' := by
  go_enter Tryz.func59, Tryz.ntmps59
  go_wp2_with fail
  refine (szEvent_ok k p a n c l _ hl h).mono ?_
  rintro e w1 ⟨rfl, hn1⟩
  go_wp2
  go_ret
  exact ⟨rfl, ((New.refl _).alloc _).trans hn1⟩

theorem szEntry_big (ep k p : Int) (a : Option Addr) (n c l : Nat) (w : World) (hl : l ≤ 1048576) (hn : n ≤ maxLen) (h : l < n) : Calls Tryz.prog 59 #[.agg #[.int .i64 ep, .int .i64 k, .int .i64 p, .slice a n c], .int .i64 l] w fun e w' => e = .returned (.int .i64 (-1)) ∧ New w w' := by
  go_enter Tryz.func59, Tryz.ntmps59
  go_wp2_with fail
  refine (szEvent_big k p a n c l _ hl hn h).mono ?_
  rintro e w1 ⟨rfl, hn1⟩
  go_wp2
  go_ret
  exact ⟨rfl, ((New.refl _).alloc _).trans hn1⟩

/-- The fault of an entry. -/
def enF (ep k p : Int) (n : Nat) : Int := if ep < 1 ∨ 1000 < ep then 3 else evF k p n

theorem epoch_yes (ep : Int) (w : World) (h : 1 ≤ ep ∧ ep ≤ 1000) : Calls Tryz.prog 155 #[.int .i64 ep] w fun e w' => e = .returned (.bool true) ∧ w' = w := by
  obtain ⟨h0, h1⟩ := h
  go_enter Tryz.func155, Tryz.ntmps155
  go_wp2
  go_ret
  exact ⟨rfl, rfl⟩

theorem epoch_no (ep : Int) (w : World) (h : ep < 1 ∨ 1000 < ep) : Calls Tryz.prog 155 #[.int .i64 ep] w fun e w' => e = .returned (.bool false) ∧ w' = w := by
  by_cases h0 : 1 ≤ ep
  · have h1 : ¬ ep ≤ 1000 := by omega
    clear h
    go_enter Tryz.func155, Tryz.ntmps155
    go_wp2
    go_ret
    exact ⟨rfl, rfl⟩
  · clear h
    go_enter Tryz.func155, Tryz.ntmps155
    go_wp2
    go_ret
    exact ⟨rfl, rfl⟩

theorem sepoch_yes (ep : Int) (w : World) (h : 1 ≤ ep ∧ ep ≤ 1000) : Calls Tryz.prog 139 #[.int .i64 ep] w fun e w' => e = .returned (.bool true) ∧ w' = w := by
  go_enter Tryz.func139, Tryz.ntmps139
  go_wp2_with fail
  refine (in_yes _ _ _ _ h).mono ?_
  rintro e w1 ⟨rfl, rfl⟩
  go_wp2
  go_ret
  exact ⟨rfl, rfl⟩

theorem sepoch_no (ep : Int) (w : World) (h : ep < 1 ∨ 1000 < ep) : Calls Tryz.prog 139 #[.int .i64 ep] w fun e w' => e = .returned (.bool false) ∧ w' = w := by
  go_enter Tryz.func139, Tryz.ntmps139
  go_wp2_with fail
  refine (in_no _ _ _ _ h).mono ?_
  rintro e w1 ⟨rfl, rfl⟩
  go_wp2
  go_ret
  exact ⟨rfl, rfl⟩

theorem implEN (ep k p : Int) (a : Option Addr) (n c : Nat) (w : World) (hm : n ≤ 1048576) : Calls Tryz.prog 146 #[.agg #[.int .i64 ep, .int .i64 k, .int .i64 p, .slice a n c]] w fun e w' => e = .returned (.int .i64 (enF ep k p n)) ∧ New w w' := by
  have b0 := Blk.mk w w.heap.size 118 #[.int .i64 ep, .int .i64 k, .int .i64 p, .slice a n c] rfl
  have hw := (New.refl w).alloc (.cells #[.int .i64 ep, .int .i64 k, .int .i64 p, .slice a n c] 118)
  by_cases he : ep < 1 ∨ 1000 < ep
  · have hf : Hid (enF ep k p n = 3) := by unfold enF Hid; rw [if_pos he]
    go_enter Tryz.func146, Tryz.ntmps146
    go_wp2_with fail
    refine (epoch_no _ _ he).mono ?_
    rintro e w1 ⟨rfl, rfl⟩
    go_wp2
    go_ret
    exact ⟨ret_i64 hf.out.symm, hw⟩
  · have hf : Hid (enF ep k p n = evF k p n) := by unfold enF Hid; rw [if_neg he]
    go_enter Tryz.func146, Tryz.ntmps146
    go_wp2_with fail
    refine (epoch_yes _ _ (by omega)).mono ?_
    rintro e w1 ⟨rfl, rfl⟩
    go_wp2_with fail
    refine (implEV k p a n c _ hm).mono ?_
    rintro e w2 ⟨rfl, hn2⟩
    go_wp2
    go_ret
    exact ⟨ret_i64 hf.out.symm, hw.trans hn2⟩

theorem specEN (ep k p : Int) (a : Option Addr) (n c : Nat) (w : World) (hm : n ≤ 1048576) : Calls Tryz.prog 105 #[.agg #[.int .i64 ep, .int .i64 k, .int .i64 p, .slice a n c]] w fun e w' => e = .returned (.int .i64 (enF ep k p n)) ∧ New w w' := by
  have b0 := Blk.mk w w.heap.size 118 #[.int .i64 ep, .int .i64 k, .int .i64 p, .slice a n c] rfl
  have hw := (New.refl w).alloc (.cells #[.int .i64 ep, .int .i64 k, .int .i64 p, .slice a n c] 118)
  by_cases he : ep < 1 ∨ 1000 < ep
  · have hf : Hid (enF ep k p n = 3) := by unfold enF Hid; rw [if_pos he]
    go_enter Tryz.func105, Tryz.ntmps105
    go_wp2_with fail
    refine (sepoch_no _ _ he).mono ?_
    rintro e w1 ⟨rfl, rfl⟩
    go_wp2
    go_ret
    exact ⟨ret_i64 hf.out.symm, hw⟩
  · have hf : Hid (enF ep k p n = evF k p n) := by unfold enF Hid; rw [if_neg he]
    go_enter Tryz.func105, Tryz.ntmps105
    go_wp2_with fail
    refine (sepoch_yes _ _ (by omega)).mono ?_
    rintro e w1 ⟨rfl, rfl⟩
    go_wp2_with fail
    refine (specEV k p a n c _ hm).mono ?_
    rintro e w2 ⟨rfl, hn2⟩
    go_wp2
    go_ret
    exact ⟨ret_i64 hf.out.symm, hw.trans hn2⟩

theorem toEntry_any (ep k p : Int) (a : Option Addr) (n c : Nat) (zs : List Int) (w : World) (h : BsAt w a zs) (hn : zs.length = n) (hm : n ≤ 1048576) :
    Calls Tryz.prog 75 #[.agg #[.int .i64 ep, .int .i64 k, .int .i64 p, .slice a n c]] w fun e w' => ∃ g, e = .returned (.agg #[.int .i64 ep, .int .i64 k, .int .i64 p, .slice (some ⟨g, 0, none⟩) n n]) ∧ w.heap.size ≤ g ∧
      w'.ownsRow 0 5 1 (.slice (some ⟨g, 0, none⟩) n n) n (zs.map (Value.int .u8)) ∧ New w w' := by
  go_enter Tryz.func75, Tryz.ntmps75
  go_wp2_with fail
  have hn0 := (((New.refl w).alloc (.cells #[.int .i64 ep, .int .i64 k, .int .i64 p, .slice a n c] 110)).alloc (.cells #[.int .i64 0, .int .i64 0, .int .i64 0, .slice none 0 0] 118)).alloc (.cells #[.int .i64 ep, .int .i64 0, .int .i64 0, .slice none 0 0] 118)
  refine (toEvent_any k p a n c zs _ (h.new hn0) hn hm).mono ?_
  rintro e w1 ⟨g, rfl, hg, ho, hn1⟩
  simp at hg
  have s1 := hn1.size
  simp at s1
  have c0 : w1.cell? ⟨w.heap.size + 1 + 1, 0, none⟩ = some (.int .i64 ep) := by rw [hn1.cells _ _ (by simp)]; go_simp
  have c1 : w1.cell? ⟨w.heap.size + 1 + 1, 1, none⟩ = some (.int .i64 0) := by rw [hn1.cells _ _ (by simp)]; go_simp
  have c2 : w1.cell? ⟨w.heap.size + 1 + 1, 2, none⟩ = some (.int .i64 0) := by rw [hn1.cells _ _ (by simp)]; go_simp
  have c3 : w1.cell? ⟨w.heap.size + 1 + 1, 3, none⟩ = some (.slice none 0 0) := by rw [hn1.cells _ _ (by simp)]; go_simp
  have d0 : w1.cell? ⟨w.heap.size + 1, 0, none⟩ = some (.int .i64 0) := by rw [hn1.cells _ _ (by simp)]; go_simp
  have d1 : w1.cell? ⟨w.heap.size + 1, 1, none⟩ = some (.int .i64 0) := by rw [hn1.cells _ _ (by simp)]; go_simp
  have d2 : w1.cell? ⟨w.heap.size + 1, 2, none⟩ = some (.int .i64 0) := by rw [hn1.cells _ _ (by simp)]; go_simp
  have d3 : w1.cell? ⟨w.heap.size + 1, 3, none⟩ = some (.slice none 0 0) := by rw [hn1.cells _ _ (by simp)]; go_simp
  have f1 : w1.frozen? ⟨w.heap.size + 1 + 1, 1, none⟩ = false := by rw [hn1.frozens _ _ (by simp)]; go_simp
  have f2 : w1.frozen? ⟨w.heap.size + 1 + 1, 2, none⟩ = false := by rw [hn1.frozens _ _ (by simp)]; go_simp
  have f3 : w1.frozen? ⟨w.heap.size + 1 + 1, 3, none⟩ = false := by rw [hn1.frozens _ _ (by simp)]; go_simp
  have e0 : w1.frozen? ⟨w.heap.size + 1, 0, none⟩ = false := by rw [hn1.frozens _ _ (by simp)]; go_simp
  have e1 : w1.frozen? ⟨w.heap.size + 1, 1, none⟩ = false := by rw [hn1.frozens _ _ (by simp)]; go_simp
  have e2 : w1.frozen? ⟨w.heap.size + 1, 2, none⟩ = false := by rw [hn1.frozens _ _ (by simp)]; go_simp
  have e3 : w1.frozen? ⟨w.heap.size + 1, 3, none⟩ = false := by rw [hn1.frozens _ _ (by simp)]; go_simp
  have hn2 : New w w1 := hn0.trans hn1
  go_wp2
  refine bodyPost_ret (v := .agg #[.int .i64 ep, .int .i64 k, .int .i64 p, .slice (some ⟨g, 0, none⟩) n n]) (by simp [results, Tryz.results75, go_sem, d0, d1, d2, d3]) rfl ⟨g, rfl, by omega, ?_, ?_⟩
  · refine own_turn (S := fun i => i = w.heap.size + 1 ∨ i = w.heap.size + 1 + 1) ho ?_ (by omega)
    exact Turn.set (Turn.set (Turn.set (Turn.set (Turn.set (Turn.set (Turn.set (Turn.refl _ _) (Or.inr rfl) _) (Or.inr rfl) _) (Or.inr rfl) _) (Or.inl rfl) _) (Or.inl rfl) _) (Or.inl rfl) _) (Or.inl rfl) _
  · exact ((((((hn2.setCell (by simp; omega) _).setCell (by simp; omega) _).setCell (by simp; omega) _).setCell (by simp) _).setCell (by simp) _).setCell (by simp) _).setCell (by simp) _

theorem eqEntry_any (ep k p : Int) (a b : Option Addr) (n c d : Nat) (zs : List Int) (w : World) (ha : BsAt w a zs) (hb : BsAt w b zs) (hn : zs.length = n) (hm : n ≤ 1048576) :
    Calls Tryz.prog 88 #[.agg #[.int .i64 ep, .int .i64 k, .int .i64 p, .slice a n c], .agg #[.int .i64 ep, .int .i64 k, .int .i64 p, .slice b n d]] w fun e w' => e = .returned (.bool true) ∧ New w w' := by
  have hk : (ep != ep) = false := by simp
  have hw := ((New.refl w).alloc (.cells #[.int .i64 ep, .int .i64 k, .int .i64 p, .slice a n c] 118)).alloc (.cells #[.int .i64 ep, .int .i64 k, .int .i64 p, .slice b n d] 118)
  go_enter Tryz.func88, Tryz.ntmps88
  go_wp2_with fail
  refine (eqEvent_any k p a b n c d zs _ (ha.new hw) (hb.new hw) hn hm).mono ?_
  rintro e w1 ⟨rfl, hn1⟩
  go_wp2
  go_ret
  exact ⟨rfl, hw.trans hn1⟩

end Go.Proofs.YtdbnmkffinhdjaaGreat

namespace Go.Proofs.YtdbnmkffinhdjaaGreat
open Go.RowKit
set_option maxHeartbeats 25600000

section
variable {P : Program} {t e : TypeId} {i : TypeInfo}

end

section
variable {P : Program} {t e : TypeId} {i : TypeInfo}
end

theorem New.grow {a w w' : World} {row : Option Nat} (h : New a w) (hg : w.grownBy w' row) (hr : ∀ k, row = some k → a.heap.size ≤ k) : New a w' :=
  ⟨hg.os.trans h.os, hg.tape.trans h.tape, hg.output.trans h.output, Nat.le_trans h.size hg.size,
    fun k hk hs => (hg.block k (Nat.lt_of_lt_of_le hk h.size) (fun e => by have := hr k e.symm; omega)).trans (h.block k hk hs)⟩

end Go.Proofs.YtdbnmkffinhdjaaGreat

namespace Go.Proofs.YtdbnmkffinhdjaaGreat
open Go.RowKit
set_option linter.unusedVariables false
set_option maxHeartbeats 25600000

theorem row9_form {w : World} {lo sz n : Nat} {e : TypeId} {u : Value} {xs : List Value} (h : w.ownsRow lo e sz u n xs) : ∃ y d, u = .slice y n d ∧ (y = none → n = 0 ∧ d = 0) ∧ ∀ k, u.ownBlock = some k → lo ≤ k ∧ k < w.heap.size := by
  rcases h.2 with ⟨h1, h2⟩ | ⟨g, c, cur, h1, h2, h3, r⟩
  · subst h1; subst h2
    exact ⟨none, 0, rfl, fun _ => ⟨rfl, rfl⟩, by intro k hk; simp [Value.ownBlock] at hk⟩
  · have hlt : g < w.heap.size := (Array.getElem?_eq_some_iff.1 h3).1
    subst h1
    refine ⟨some ⟨g, 0, none⟩, c, rfl, (by intro e; cases e), ?_⟩
    intro k hk
    simp [Value.ownBlock] at hk
    omega
theorem row9_turn {w w' : World} {lo sz n : Nat} {e : TypeId} {u : Value} {xs : List Value} {S : Nat → Prop} (h : w.ownsRow lo e sz u n xs) (t : Turn S w w') (hS : ∀ k, u.ownBlock = some k → ¬ S k) : w'.ownsRow lo e sz u n xs := by
  refine ⟨h.1, ?_⟩
  rcases h.2 with h' | ⟨g', cap', cur, h', hb, hh, r⟩
  · exact .inl h'
  · have hlt : g' < w.heap.size := (Array.getElem?_eq_some_iff.1 hh).1
    exact .inr ⟨g', cap', cur, h', hb, (t.block g' hlt (hS g' (by rw [h']; rfl))).trans hh, r⟩
theorem row9_new {w w' : World} {lo sz n : Nat} {e : TypeId} {u : Value} {xs : List Value} (h : w.ownsRow lo e sz u n xs) (t : New w w') : w'.ownsRow lo e sz u n xs := row9_turn h t (fun _ _ f => f)
theorem turn_of_grown {w w' : World} {b : Option Nat} (h : w.grownBy w' b) : Turn (fun k => b = some k) w w' := ⟨h.os, h.tape, h.output, h.size, fun k hk hs => h.block k hk (fun e => hs e.symm)⟩

section
variable {P : Program} {t e : TypeId} {i : TypeInfo}
theorem wpList_apV (w : World) {ops : Array Oper} {rest : List Oper} {o : Oper} {a : Act} {Q : Exit → Act → World → Prop} (hgd : o.guard = none) (s x : Operand)
    (ho : o.op = .call { callee := .builtin .append, args := #[s, x], argTypes := #[t, t] }) (base sz by' : Nat) (zero : Value) (ht : P.underlying t = some (.slice e)) (hi : P.info? e = some i) (hz : i.zero = some zero) (hs : i.size = sz) (hb : i.bytes = by') (hz1 : zero.cells.size = sz) (hsz : 0 < sz) (hby : by' ≤ 1000)
    (v : Value) (n : Nat) (xs : List Value) (hsv : a.eval s = v) (hown : w.ownsRow base e sz v n xs)
    (L : Nat) (r : List Value) (hr : r.length = sz) (h1 : ∀ u ∈ r, u.oneCell' = true) (hxv : a.eval x = .slice (some ⟨L, 0, none⟩) 1 1) (hsrc : ∀ j u, r[j]? = some u → w.cell? ⟨L, j, none⟩ = some u) (hle : n + 1 ≤ 4194304) (hbase : base ≤ w.heap.size)
    (h : ∀ v' w', w'.ownsRow base e sz v' (n + 1) (xs ++ r) → w.grownBy w' v.ownBlock → (v'.ownBlock = v.ownBlock ∨ v'.ownBlock = some w.heap.size) → wpList P ops Q rest (a.put o.dst v') w') : wpList P ops Q (o :: rest) a w := by
  refine wpList_plain hgd fun _ hK => ?_
  have hnews : ∀ j u, r[j]? = some u → w.cell? ((⟨L, 0, none⟩ : Addr).add j) = some u := by
    intro j u hu
    rw [Addr.add_lit, Nat.zero_add]
    exact hsrc j u hu
  have hbb : (n + 1) * by' ≤ 140737488355328 := Nat.le_trans (Nat.mul_le_mul hle hby) (by decide)
  obtain ⟨v', w', hr, h2, h3, _, h5⟩ := run_append_own_at (P := P) w base t o.type e i zero sz by' ht hi hz hs hb hz1 hsz v n xs hown ⟨L, 0, none⟩ 1 1 r (by omega) hnews h1 (by unfold maxLen; omega) hbb hbase
  unfold Oper.wp execOp
  simp only [ho, resolve, invoke, builtin, Sem.run_bind, Sem.run_pure, Result.andThen_ok, List.map_toArray, List.map_cons, List.map_nil, hsv, hxv, hr]
  exact hK _ _ (h v' w' h2 h3 h5)
end

end Go.Proofs.YtdbnmkffinhdjaaGreat

namespace Go.Proofs.YtdbnmkffinhdjaaGreat
open Go.RowKit
set_option maxHeartbeats 25600000

/-- The marks from k on. -/
def marks (k : Int) (n : Nat) : List Int := (List.range n).map (fun i : Nat => (k + i) % 256)
theorem marks_length (k : Int) (n : Nat) : (marks k n).length = n := by simp [marks]
theorem marks_bd (k : Int) (n : Nat) : ∀ z ∈ marks k n, 0 ≤ z ∧ z ≤ 255 := by
  intro z hz
  obtain ⟨i, _, rfl⟩ := List.mem_map.1 hz
  omega
theorem marks_succ (k : Int) (n : Nat) : marks k (n + 1) = marks k n ++ [(k + n) % 256] := by simp [marks, List.range_succ]
theorem marks_get (k : Int) (n j : Nat) (hj : j < n) : (marks k n)[j]? = some ((k + j) % 256) := by simp [marks, hj]

/-- The call owns the bytes zs at this address. -/
def OwAt (w : World) (a : Option Addr) (n c : Nat) (zs : List Int) : Prop :=
  zs.length = n ∧ (0 < n → ∃ g, a = some ⟨g, 0, none⟩ ∧ w.ownsRow 0 5 1 (.slice (some ⟨g, 0, none⟩) n c) n (zs.map (Value.int .u8)))
/-- The blocks that the address leads to. -/
def inA (a : Option Addr) : Nat → Prop := fun k => ∃ x : Addr, a = some x ∧ k = x.block

theorem OwAt.bs {w : World} {a : Option Addr} {n c : Nat} {zs : List Int} (h : OwAt w a n c zs) (hz : ∀ z ∈ zs, 0 ≤ z ∧ z ≤ 255) : BsAt w a zs := by
  by_cases h0 : 0 < n
  · obtain ⟨g, rfl, ho⟩ := h.2 h0
    exact BsAt.of_own ho hz
  · obtain rfl : zs = [] := List.eq_nil_of_length_eq_zero (by have := h.1; omega)
    exact BsAt.nil _ _
theorem OwAt.of_own {w : World} {g n c base : Nat} {zs : List Int} (h : w.ownsRow base 5 1 (.slice (some ⟨g, 0, none⟩) n c) n (zs.map (Value.int .u8))) : OwAt w (some ⟨g, 0, none⟩) n c zs :=
  ⟨by simpa using h.1, fun _ => ⟨g, rfl, own_base h⟩⟩
theorem OwAt.turn {w w' : World} {a : Option Addr} {n c : Nat} {zs : List Int} {S : Nat → Prop} (h : OwAt w a n c zs) (t : Turn S w w') (hS : ∀ x, a = some x → ¬ S x.block) : OwAt w' a n c zs :=
  ⟨h.1, fun h0 => by obtain ⟨g, rfl, ho⟩ := h.2 h0; exact ⟨g, rfl, own_turn ho t (hS _ rfl)⟩⟩
theorem OwAt.new {w w' : World} {a : Option Addr} {n c : Nat} {zs : List Int} (h : OwAt w a n c zs) (t : New w w') : OwAt w' a n c zs := h.turn t (fun _ _ f => f)

theorem mark_ob (zs : List Int) (k : Int) (j n : Nat) (hn : zs.length = n) (hj : j < n) :
    ((marks k j ++ zs.drop j).map (Value.int .u8)).set j (.int .u8 ((k + j) % 256)) = (marks k (j + 1) ++ zs.drop (j + 1)).map (Value.int .u8) := by
  rw [← List.map_set, List.set_append_right _ _ (by rw [marks_length]; omega), marks_length, Nat.sub_self, marks_succ, List.drop_eq_getElem_cons (by omega), List.set_cons_zero]
  simp

theorem mark_any (a : Option Addr) (n c : Nat) (k : Int) (zs : List Int) (w : World) (h : OwAt w a n c zs) (hm : n ≤ 4194304) (hk0 : 0 ≤ k) (hk : k ≤ 1073741824) :
    Calls Tryz.prog 49 #[.slice a n c, .int .i64 k] w fun e w' => e = .returned (.int .i64 (k + n)) ∧ OwAt w' a n c (marks k n) ∧ Turn (inA a) w w' := by
  have hn := h.1
  go_enter Tryz.func49, Tryz.ntmps49
  go_wp2
  go_loopw [1, 5] (fun s i wr => ∃ j : Nat, j ≤ n ∧ i = .int .i64 j ∧ s = .int .i64 (k + j) ∧ OwAt wr a n c (marks k j ++ zs.drop j) ∧ Turn (inA a) w wr) (fun _ i _ => n - (intOf i).toNat)
  case atStart => exact ⟨0, Nat.zero_le _, rfl, by simp, by simpa [marks] using h, Turn.refl _ _⟩
  case round =>
    obtain ⟨j, hj, rfl, rfl, how, htn⟩ := hrel
    by_cases hlt : j < n
    · obtain ⟨g, rfl, ho⟩ := how.2 (by omega)
      have hfz := ho.frozenAt j
      have hst := ho.stored j (.int .u8 ((k + j) % 256))
      rw [mark_ob zs k j n hn hlt] at hst
      obtain ⟨HS, hgr⟩ := hst
      have hcw : ∃ v, wr.cell? ⟨g, j, none⟩ = some v := by
        rw [ho.cellAt j (by omega)]
        exact ⟨_, List.getElem?_eq_getElem (by have := ho.1; omega)⟩
      obtain ⟨v, hv⟩ := hcw
      clear h how ho
      go_wp2
      go_roundw
      case rel => exact ⟨j + 1, by omega, by go_num, by go_num, ⟨by rw [List.length_append, marks_length, List.length_drop]; omega, fun _ => ⟨g, rfl, HS⟩⟩, Turn.trans htn (Turn.of_grown hgr) (fun i _ e => ⟨_, rfl, e⟩)⟩
      case measure => simp [intOf]; omega
    · go_wp2
      go_ret
      have hjn : j = n := by omega
      subst hjn
      rw [List.drop_of_length_le (by omega), List.append_nil] at how
      exact ⟨rfl, how, htn⟩

theorem held_any (a : Option Addr) (n c : Nat) (k : Int) (w : World) (h : BsAt w a (marks k n)) (hm : n ≤ 4194304) (hk0 : 0 ≤ k) (hk : k ≤ 1073741824) :
    Calls Tryz.prog 50 #[.slice a n c, .int .i64 k] w fun e w' => e = .returned (.int .i64 (k + n)) ∧ w' = w := by
  go_enter Tryz.func50, Tryz.ntmps50
  go_wp2
  go_loop [1, 5] (fun s i => ∃ j : Nat, j ≤ n ∧ i = .int .i64 j ∧ s = .int .i64 (k + j)) (fun _ i => n - (intOf i).toNat)
  case atStart => exact ⟨0, Nat.zero_le _, rfl, by simp⟩
  case round =>
    obtain ⟨j, hj, rfl, rfl⟩ := hrel
    by_cases hlt : j < n
    · obtain ⟨b, off, z, rfl, hz, hc, _, _⟩ := h.at j (by rw [marks_length]; exact hlt)
      rw [marks_get k n j hlt] at hz
      obtain rfl := Option.some.inj hz
      clear h hz
      go_wp2
      go_round
      case rel => exact ⟨j + 1, by omega, by go_num, by go_num⟩
      case measure => simp [intOf]; omega
    · go_wp2
      go_ret
      have hjn : j = n := by omega
      subst hjn
      exact ⟨rfl, rfl⟩

end Go.Proofs.YtdbnmkffinhdjaaGreat

namespace Go.Proofs.YtdbnmkffinhdjaaGreat
open Go.RowKit Go.Sort
set_option maxHeartbeats 25600000

theorem new_of_regrown {w w' : World} (h : ∃ p : Regrown, w' = grow (redrawn w p.d) p.os) : New w w' := by
  obtain ⟨p, rfl⟩ := h
  exact New.of_below (below_regrown w p.d p.os) (Nat.le_refl _)

theorem new_regrown (w : World) (d : Nat) (os : Array Obj) : New w (grow (redrawn w d) os) := new_of_regrown ⟨⟨d, os⟩, rfl⟩

/-- A callee that lays new memory alone, met in a world of the class. -/
theorem calls_regrown {P : Program} {f : FuncId} {args : Array Value} {w : World} {d : Nat} {os : Array Obj} {v : Value}
    (h : Calls P f args (grow (redrawn w d) os) fun e w' => e = .returned v ∧ New (grow (redrawn w d) os) w') : Calls P f args (grow (redrawn w d) os) fun e w'' => e = .returned v ∧ ∃ p : Regrown, w'' = grow (redrawn w p.d) p.os :=
  Calls.regrown_of (h.mono fun _ _ ⟨he, hb⟩ => ⟨he, hb.below⟩)
theorem calls_regrown_same {P : Program} {f : FuncId} {args : Array Value} {w : World} {d : Nat} {os : Array Obj} {v : Value}
    (h : Calls P f args (grow (redrawn w d) os) fun e w' => e = .returned v ∧ w' = grow (redrawn w d) os) : Calls P f args (grow (redrawn w d) os) fun e w'' => e = .returned v ∧ ∃ p : Regrown, w'' = grow (redrawn w p.d) p.os :=
  calls_regrown (h.mono fun _ _ ⟨he, hb⟩ => ⟨he, by rw [hb]; exact New.refl _⟩)

/-- A block's cells, in every world of the class. -/
theorem blk_regrown {w : World} {B : Nat} {t : TypeId} {cs : Array Value} (h : Blk w B t cs) : ∀ (d : Nat) (os : Array Obj) (j : Nat), (grow (redrawn w d) os).cell? ⟨B, j, none⟩ = cs[j]? :=
  fun d os j => (h.new (new_regrown w d os)).cells j

end Go.Proofs.YtdbnmkffinhdjaaGreat

namespace Go.Proofs.YtdbnmkffinhdjaaGreat
open Go.RowKit Go.Sort
set_option linter.unusedVariables false
set_option linter.unusedSimpArgs false
set_option maxHeartbeats 25600000

/-- An entry. -/
structure Ek where
  ep : Int
  ki : Int
  pe : Int
  xs : List Int
/-- An entry in memory. -/
structure EkV where
  r : Ek
  a : Option Addr
  c : Nat
def EkV.cs (v : EkV) : List Value := [.int .i64 v.r.ep, .int .i64 v.r.ki, .int .i64 v.r.pe, .slice v.a v.r.xs.length v.c]
def cellsK (U : List EkV) : List Value := U.flatMap EkV.cs
theorem cellsK_len : ∀ U : List EkV, (cellsK U).length = U.length * 4
  | [] => rfl
  | x :: U => by
    have := cellsK_len U
    unfold cellsK at this ⊢
    rw [List.flatMap_cons, List.length_append, this]
    simp only [EkV.cs, List.length_cons, List.length_nil]
    omega
theorem cellsK_get : ∀ (U : List EkV) (i : Nat) (u : EkV), U[i]? = some u → ∀ j, j < 4 → (cellsK U)[i * 4 + j]? = u.cs[j]?
  | [], i, u, h, _, _ => by simp at h
  | x :: U, 0, u, h, j, hj => by
    simp at h
    subst h
    unfold cellsK
    rw [List.flatMap_cons, Nat.zero_mul, Nat.zero_add, List.getElem?_append_left (by simpa [EkV.cs] using hj)]
  | x :: U, i + 1, u, h, j, hj => by
    have ih := cellsK_get U i u (by simpa using h) j hj
    unfold cellsK at ih ⊢
    rw [List.flatMap_cons, List.getElem?_append_right (by simp [EkV.cs]; omega)]
    have e : (i + 1) * 4 + j - (EkV.cs x).length = i * 4 + j := by simp [EkV.cs]; omega
    rw [e]
    exact ih
theorem cellsK_set3 : ∀ (U : List EkV) (i : Nat) (u v : EkV), U[i]? = some u → (Value.slice v.a v.r.xs.length v.c) = .slice u.a u.r.xs.length u.c → (((cellsK U).set (i * 4) (.int .i64 v.r.ep)).set (i * 4 + 1) (.int .i64 v.r.ki)).set (i * 4 + 2) (.int .i64 v.r.pe) = cellsK (U.set i v)
  | [], i, u, v, h, _ => by simp at h
  | q :: U, 0, u, v, h, e => by
    simp at h
    subst h
    unfold cellsK
    simp only [List.set_cons_zero, List.flatMap_cons, Nat.zero_mul, Nat.zero_add, EkV.cs, List.cons_append, List.nil_append, List.set_cons_succ, e]
  | q :: U, i + 1, u, v, h, e => by
    have ih := cellsK_set3 U i u v (by simpa using h) e
    unfold cellsK at ih ⊢
    simp only [List.set_cons_succ, List.flatMap_cons]
    rw [← ih]
    have el : (EkV.cs q).length = 4 := rfl
    rw [List.set_append_right _ _ (by rw [el]; omega), List.set_append_right _ _ (by rw [el]; omega), List.set_append_right _ _ (by rw [el]; omega), el]
    rw [show (i + 1) * 4 - 4 = i * 4 by omega, show (i + 1) * 4 + 1 - 4 = i * 4 + 1 by omega, show (i + 1) * 4 + 2 - 4 = i * 4 + 2 by omega]

/-- The entries can be read there. -/
def LgAt (w : World) (A : Option Addr) (U : List EkV) : Prop := ∀ i u, U[i]? = some u → (∃ g, A = some ⟨g, 0, none⟩ ∧ ∀ j, j < 4 → w.cell? ⟨g, i * 4 + j, none⟩ = u.cs[j]?) ∧ BsAt w u.a u.r.xs ∧ u.r.xs.length ≤ 1048576
theorem LgAt.turn {w w' : World} {A : Option Addr} {U : List EkV} {S : Nat → Prop} (h : LgAt w A U) (t : Turn S w w') (hA : ∀ x, U ≠ [] → A = some x → ¬ S x.block) (hU : ∀ u ∈ U, ∀ x, u.r.xs ≠ [] → u.a = some x → ¬ S x.block) : LgAt w' A U := by
  intro i u hu
  obtain ⟨⟨g, hg, hc⟩, hb, hl⟩ := h i u hu
  have hne : U ≠ [] := by rintro rfl; simp at hu
  have h0 : w.cell? ⟨g, i * 4, none⟩ = some (.int .i64 u.r.ep) := hc 0 (by omega)
  exact ⟨⟨g, hg, fun j hj => (World.cell?_of_block (t.block g (World.block_lt_of_cell? w _ h0) (hA _ hne hg))).trans (hc j hj)⟩, hb.turnZ t (fun x hx => hU u (List.mem_of_getElem? hu) x hx), hl⟩
theorem LgAt.new {w w' : World} {A : Option Addr} {U : List EkV} (h : LgAt w A U) (t : New w w') : LgAt w' A U := h.turn t (fun _ _ _ f => f) (fun _ _ _ _ _ f => f)
theorem LgAt.at {w : World} {A : Option Addr} {U : List EkV} (h : LgAt w A U) (i : Nat) (hi : i < U.length) :
    ∃ (g : Nat) (ep ki pe : Int) (a : Option Addr) (n c : Nat) (xs : List Int), A = some ⟨g, 0, none⟩ ∧ U[i]? = some ⟨⟨ep, ki, pe, xs⟩, a, c⟩ ∧ xs.length = n ∧ BsAt w a xs ∧ n ≤ 1048576 ∧ w.cell? ⟨g, i * 4, none⟩ = some (.int .i64 ep) ∧ w.cell? ⟨g, i * 4 + 1, none⟩ = some (.int .i64 ki) ∧ w.cell? ⟨g, i * 4 + 2, none⟩ = some (.int .i64 pe) ∧ w.cell? ⟨g, i * 4 + 3, none⟩ = some (.slice a n c) := by
  obtain ⟨⟨g, hg, hc⟩, hb, hl⟩ := h i _ (List.getElem?_eq_getElem hi)
  exact ⟨g, _, _, _, _, _, _, _, hg, List.getElem?_eq_getElem hi, rfl, hb, hl, hc 0 (by omega), hc 1 (by omega), hc 2 (by omega), hc 3 (by omega)⟩

theorem eqEkS_any (A B : Option Addr) (n c d : Nat) (V U : List EkV) (w : World) (hF : LgAt w A V) (hG : LgAt w B U) (hVU : V.map EkV.r = U.map EkV.r) (hn : V.length = n) (hm : n ≤ 2097152) :
    Calls Tryz.prog 43 #[.slice A n c, .slice B n d] w fun e w' => e = .returned (.bool true) ∧ New w w' := by
  have hnn : ((n : Int) != (n : Int)) = false := by simp
  have HN : Hid (V.length = n) := hn
  have HU : Hid (V.map EkV.r = U.map EkV.r) := hVU
  have HUN : Hid (U.length = n) := by
    have := congrArg List.length hVU
    simp at this
    show U.length = n
    omega
  clear hn hVU
  go_enter Tryz.func43, Tryz.ntmps43
  go_wp2
  go_loopw [5] (fun i wr => ∃ k : Nat, k ≤ n ∧ i = .int .i64 k ∧ New w wr) (fun i _ => n - (intOf i).toNat)
  case atStart => exact ⟨0, Nat.zero_le _, rfl, New.refl _⟩
  case round =>
    obtain ⟨k, hk, rfl, hnw⟩ := hrel
    by_cases hlt : k < n
    · obtain ⟨g1, ep, ki, pe, a, m, c1, xs, rfl, hp1, hl1, hx1, hmx, x0, x1, x2, x3⟩ := (hF.new hnw).at k (by have := HN.out; omega)
      obtain ⟨g2, ep', ki', pe', a', m', c1', xs', rfl, hp2, hl2, hx2, hmx', y0, y1, y2, y3⟩ := (hG.new hnw).at k (by have := HUN.out; omega)
      have hh : (⟨ep, ki, pe, xs⟩ : Ek) = ⟨ep', ki', pe', xs'⟩ := by
        have h1 : (V.map EkV.r)[k]? = some ⟨ep, ki, pe, xs⟩ := by rw [List.getElem?_map, hp1]; rfl
        have h2 : (U.map EkV.r)[k]? = some ⟨ep', ki', pe', xs'⟩ := by rw [List.getElem?_map, hp2]; rfl
        rw [HU.out, h2] at h1
        exact (Option.some.inj h1).symm
      simp only [Ek.mk.injEq] at hh
      obtain ⟨rfl, rfl, rfl, rfl⟩ := hh
      obtain rfl : m = m' := hl1.symm.trans hl2
      have HL : Hid (xs.length = m) := hl1
      clear hp1 hp2 hF hG hl1 hl2
      have X0 := cell_regrown x0
      have X1 := cell_regrown x1
      have X2 := cell_regrown x2
      have X3 := cell_regrown x3
      have Y0 := cell_regrown y0
      have Y1 := cell_regrown y1
      have Y2 := cell_regrown y2
      have Y3 := cell_regrown y3
      go_wp2_with fail
      refine wp_region_quiet_below (by kernel_rfl) (by kernel_rfl) ?_
      repeat (go_big_quiet_step ((go_at_call 88; exact calls_regrown (eqEntry_any ep ki pe a a' m c1 c1' xs _ (hx1.new (new_regrown _ _ _)) (hx2.new (new_regrown _ _ _)) HL.out (by omega)))))
      refine wpQuiet_nil ?_
      rintro w1 hn1
      replace hn1 := new_of_regrown hn1
      go_wp2
      go_roundw
      case rel => exact ⟨k + 1, by omega, by go_num, hnw.trans hn1⟩
      case measure => simp [intOf]; omega
    · go_wp2
      go_ret
      exact ⟨rfl, hnw⟩

/-- An entry, marked from k on; the next mark. -/
def EkV.mkK (k : Int) (v : EkV) : EkV := ⟨⟨k, k + 1, k + 1 + 1, marks (k + 1 + 1 + 1) v.r.xs.length⟩, v.a, v.c⟩
def EkV.nxK (k : Int) (v : EkV) : Int := k + 1 + 1 + 1 + v.r.xs.length
def markK : Int → List EkV → List EkV
  | _, [] => []
  | k, v :: V => v.mkK k :: markK (v.nxK k) V
def endK : Int → List EkV → Int
  | k, [] => k
  | k, v :: V => endK (v.nxK k) V
theorem markK_length (V : List EkV) : ∀ k, (markK k V).length = V.length := by
  induction V with
  | nil => intro k; rfl
  | cons f F ih => intro k; simp [markK, ih]
theorem endK_snoc (V : List EkV) (v : EkV) : ∀ k, endK k (V ++ [v]) = v.nxK (endK k V) := by
  induction V with
  | nil => intro k; rfl
  | cons g F ih => intro k; simp only [List.cons_append, endK]; exact ih _
theorem markK_snoc (V : List EkV) (v : EkV) : ∀ k, markK k (V ++ [v]) = markK k V ++ [v.mkK (endK k V)] := by
  induction V with
  | nil => intro k; rfl
  | cons g F ih => intro k; simp only [List.cons_append, markK, endK, ih]
/-- How much there is to copy of a list. -/
def totK : List EkV → Nat
  | [] => 0
  | v :: V => v.r.xs.length + 1 + totK V
theorem totK_len : ∀ V : List EkV, V.length ≤ totK V
  | [] => Nat.le_refl _
  | v :: V => by have := totK_len V; simp only [totK, List.length_cons]; omega
theorem totK_mem : ∀ (V : List EkV) (v : EkV), v ∈ V → v.r.xs.length ≤ totK V
  | [], v, h => by simp at h
  | u :: V, v, h => by
    simp only [totK]
    rcases List.mem_cons.1 h with rfl | h
    · omega
    · have := totK_mem V v h; omega
theorem totK_take : ∀ (V : List EkV) (j : Nat), totK (V.take j) ≤ totK V
  | [], j => by simp
  | v :: V, 0 => by simp [totK]
  | v :: V, j + 1 => by have := totK_take V j; simp only [List.take_succ_cons, totK]; omega
theorem totK_snoc (V : List EkV) (v : EkV) : totK (V ++ [v]) = totK V + v.r.xs.length + 1 := by
  induction V with
  | nil => simp [totK]
  | cons f F ih => simp only [List.cons_append, totK, ih]; omega
theorem totK_map : ∀ (V U : List EkV), V.map EkV.r = U.map EkV.r → totK V = totK U
  | [], [], _ => rfl
  | [], u :: U, h => by simp at h
  | v :: V, [], h => by simp at h
  | v :: V, u :: U, h => by
    simp only [List.map_cons, List.cons.injEq] at h
    have := totK_map V U h.2
    simp only [totK, this, h.1]
theorem endK_bd (V : List EkV) : ∀ k, k ≤ endK k V ∧ endK k V ≤ k + 3 * totK V := by
  induction V with
  | nil => intro k; simp [endK, totK]
  | cons f F ih =>
    intro k
    have h2 := ih (f.nxK k)
    simp only [endK, totK]
    unfold EkV.nxK at h2 ⊢
    omega
theorem take_snocK {V : List EkV} {k : Nat} {f : EkV} (h : V[k]? = some f) : V.take (k + 1) = V.take k ++ [f] := by
  obtain ⟨hk, rfl⟩ := List.getElem?_eq_some_iff.1 h
  exact List.take_succ_eq_append_getElem hk
theorem markK_get (V : List EkV) {j : Nat} {f : EkV} (h : V[j]? = some f) (k : Int) : (markK k V)[j]? = some (f.mkK (endK k (V.take j))) := by
  induction V generalizing j k with
  | nil => simp at h
  | cons g F ih =>
    cases j with
    | zero => simp at h; subst h; simp [markK, endK]
    | succ j => simp at h; simp only [markK, List.getElem?_cons_succ, List.take_succ_cons, endK]; exact ih h _
theorem endK_take {V : List EkV} {j : Nat} {f : EkV} (h : V[j]? = some f) (k : Int) : endK k (V.take (j + 1)) = f.nxK (endK k (V.take j)) := by rw [take_snocK h, endK_snoc]
theorem stepK_get {V : List EkV} {j : Nat} {f : EkV} (h : V[j]? = some f) (k : Int) : (markK k (V.take j) ++ V.drop j)[j]? = some f := by
  obtain ⟨hj, rfl⟩ := List.getElem?_eq_some_iff.1 h
  have hl : (markK k (V.take j)).length = j := by rw [markK_length, List.length_take]; omega
  rw [List.getElem?_append_right (by omega), hl, Nat.sub_self, List.getElem?_drop]
  exact h
theorem stepK_set {V : List EkV} {j : Nat} {f : EkV} (h : V[j]? = some f) (k : Int) : (markK k (V.take j) ++ V.drop j).set j (f.mkK (endK k (V.take j))) = markK k (V.take (j + 1)) ++ V.drop (j + 1) := by
  have hf := take_snocK h
  obtain ⟨hj, rfl⟩ := List.getElem?_eq_some_iff.1 h
  have hl : (markK k (V.take j)).length = j := by rw [markK_length, List.length_take]; omega
  rw [hf, markK_snoc, List.set_append_right _ _ (by omega), hl, Nat.sub_self, List.drop_eq_getElem_cons hj, List.set_cons_zero]
  simp

/-- What the marking needs of a list: the row and each entry's bytes, of the call's own, from lo up to hi, each in a block of its own. -/
structure OwK (w : World) (lo hi g n c : Nat) (U : List EkV) : Prop where
  row : w.ownsRow 0 118 4 (.slice (some ⟨g, 0, none⟩) n c) n (cellsK U)
  own : ∀ (i : Nat) (u : EkV), U[i]? = some u → OwAt w u.a u.r.xs.length u.c u.r.xs
  len : ∀ u ∈ U, u.r.xs.length ≤ 1048576
  inn : ∀ u ∈ U, ∀ x, u.a = some x → lo ≤ x.block ∧ x.block < hi ∧ ¬ x.block = g
  glo : lo ≤ g ∧ g < hi
  apart : ∀ (i j : Nat) (u v : EkV) (x y : Addr), U[i]? = some u → U[j]? = some v → i ≠ j → u.a = some x → v.a = some y → ¬ x.block = y.block

theorem row_turnK {w w' : World} {g n c : Nat} {xs : List Value} {S : Nat → Prop} (h : w.ownsRow 0 118 4 (.slice (some ⟨g, 0, none⟩) n c) n xs) (t : Turn S w w') (hS : ¬ S g) : w'.ownsRow 0 118 4 (.slice (some ⟨g, 0, none⟩) n c) n xs := row9_turn h t (by intro k hk; simp [Value.ownBlock] at hk; subst hk; exact hS)
theorem set3k (w : World) (B j : Nat) (v0 v1 v2 : Value) : Turn (fun k => k = B) w (((w.setCell ⟨B, j, none⟩ v0).setCell ⟨B, j + 1, none⟩ v1).setCell ⟨B, j + 2, none⟩ v2) :=
  (((Turn.refl (fun k => k = B) w).set (p := ⟨B, j, none⟩) rfl v0).set (p := ⟨B, j + 1, none⟩) rfl v1).set (p := ⟨B, j + 2, none⟩) rfl v2

end Go.Proofs.YtdbnmkffinhdjaaGreat
