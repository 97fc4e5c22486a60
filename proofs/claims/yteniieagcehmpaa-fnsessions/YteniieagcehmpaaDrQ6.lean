/- What is proved here: small facts on lists of prefixes of the call's own, for the draws of updates. No condition. -/
import Derived.Test.YteniieagcehmpaaDrB6
import Derived.Test.YteniieagcehmpaaUpFn
import Derived.Deep.RegionLaw
namespace Go.Proofs.Yteniieagcehmpaa
open Go.RowKit Go.Sort
set_option linter.unusedVariables false

/-- A list of prefixes in memory of the call's own, or nil for none. -/
def OwQ (w : World) (lo : Nat) (v : Value) (L : List (Int × Int)) : Prop := (v = .slice none 0 0 ∧ L = []) ∨ ∃ g c, v = .slice (some ⟨g, 0, none⟩) L.length c ∧ lo ≤ g ∧ OwP w g L.length c L
theorem OwQ.new {w w' : World} {lo : Nat} {v : Value} {L : List (Int × Int)} (h : OwQ w lo v L) (t : New w w') : OwQ w' lo v L := by
  rcases h with h | ⟨g, c, h1, h2, h3⟩
  · exact .inl h
  · exact .inr ⟨g, c, h1, h2, h3.new t⟩
theorem OwQ.low {w : World} {lo lo' : Nat} {v : Value} {L : List (Int × Int)} (h : OwQ w lo v L) (hb : lo' ≤ lo) : OwQ w lo' v L := by
  rcases h with h | ⟨g, c, h1, h2, h3⟩
  · exact .inl h
  · exact .inr ⟨g, c, h1, by omega, h3⟩
/-- Its form, and how it reads. -/
theorem OwQ.ps {w : World} {lo : Nat} {v : Value} {L : List (Int × Int)} (h : OwQ w lo v L) (hb : ∀ p ∈ L, In6 p.1 ∧ In6 p.2) : ∃ a c, v = .slice a L.length c ∧ PsAt w a L ∧ (∀ x, a = some x → lo ≤ x.block ∧ x.block < w.heap.size) := by
  rcases h with ⟨rfl, rfl⟩ | ⟨g, c, rfl, hg, ho⟩
  · exact ⟨none, 0, rfl, PsAt.nil _ _, by intro x hx; cases hx⟩
  · exact ⟨_, c, rfl, ho.ps hb, by intro x hx; obtain rfl := Option.some.inj hx; exact ⟨hg, ho.lt⟩⟩
theorem OwQ.of_own {w : World} {lo n : Nat} {v : Value} {L : List (Int × Int)} (h : w.ownsRow lo 94 2 v n (cellsP L)) (hn : L.length = n) : OwQ w lo v L := by
  subst hn
  rcases Joins.ownsRow_forms h with ⟨rfl, h0⟩ | ⟨g, cap, rfl⟩
  · exact .inl ⟨rfl, List.eq_nil_of_length_eq_zero h0⟩
  · exact .inr ⟨g, cap, rfl, (World.ownsRow.lt h g rfl).1, own_base h⟩

theorem own_turnQ {w w' : World} {base n : Nat} {v : Value} {xs : List Value} (h : w.ownsRow base 94 2 v n xs) (t : New w w') : w'.ownsRow base 94 2 v n xs := by
  refine ⟨h.1, ?_⟩
  rcases h.2 with h' | ⟨g', cap', cur, h', hb, hh, r⟩
  · exact .inl h'
  · have hlt : g' < w.heap.size := (Array.getElem?_eq_some_iff.1 hh).1
    exact .inr ⟨g', cap', cur, h', hb, (t.block g' hlt (fun f => f)).trans hh, r⟩

theorem own_blk {w : World} {base n : Nat} {v : Value} {xs : List Value} (h : w.ownsRow base 94 2 v n xs) : ∀ k, v.ownBlock = some k → base ≤ k := by
  intro k hk
  rcases Joins.ownsRow_forms h with ⟨rfl, _⟩ | ⟨g, cap, rfl⟩
  · simp [Value.ownBlock] at hk
  · simp [Value.ownBlock] at hk
    subst hk
    exact (World.ownsRow.lt h g rfl).1

theorem OwQ.turn {w w' : World} {lo : Nat} {v : Value} {L : List (Int × Int)} {S : Nat → Prop} (h : OwQ w lo v L) (t : Turn S w w') (hS : ∀ g, lo ≤ g → ¬ S g) : OwQ w' lo v L := by
  rcases h with h | ⟨g, c, h1, h2, h3⟩
  · exact .inl h
  · exact .inr ⟨g, c, h1, h2, h3.turn t (hS g h2)⟩

/-- Three lists of the call's own, in memory that they do not share. -/
theorem OwQ.nil (w : World) (lo : Nat) : OwQ w lo (.slice none 0 0) [] := .inl ⟨rfl, rfl⟩
theorem OwM.nil (w : World) (lo : Nat) : OwM w lo (.slice none 0 0) [] := .inl ⟨rfl, rfl⟩
theorem OwQ.blk {w : World} {lo : Nat} {v : Value} {L : List (Int × Int)} (h : OwQ w lo v L) : ∀ b, v.ownBlock = some b → lo ≤ b ∧ b < w.heap.size := by
  intro b hb
  rcases h with ⟨rfl, _⟩ | ⟨g, c, rfl, h2, h3⟩
  · cases hb
  · obtain rfl := Option.some.inj hb
    exact ⟨h2, h3.lt⟩

theorem OwQ.slice {w : World} {lo : Nat} {v : Value} {L : List (Int × Int)} (h : OwQ w lo v L) : ∃ a c, v = .slice a L.length c := by
  rcases h with ⟨rfl, rfl⟩ | ⟨g, c, rfl, _⟩
  · exact ⟨none, 0, rfl⟩
  · exact ⟨_, c, rfl⟩

theorem own_slice {w : World} {base n : Nat} {v : Value} {xs : List Value} (h : w.ownsRow base 94 2 v n xs) : ∃ a c, v = .slice a n c ∧ (∀ x, a = some x → base ≤ x.block ∧ x.block < w.heap.size) := by
  rcases h.2 with ⟨rfl, rfl⟩ | ⟨g, cap, cur, rfl, hb, hh, _⟩
  · exact ⟨none, 0, rfl, (by intro x hx; cases hx)⟩
  · refine ⟨_, cap, rfl, ?_⟩
    intro x hx
    obtain rfl := Option.some.inj hx
    exact ⟨hb, (Array.getElem?_eq_some_iff.1 hh).1⟩

theorem own_setQ {w : World} {base n : Nat} {v : Value} {xs : List Value} {p : Addr} {u : Value} (h : w.ownsRow base 94 2 v n xs) (hp : p.block < base) : (w.setCell p u).ownsRow base 94 2 v n xs := by
  refine ⟨h.1, ?_⟩
  rcases h.2 with h' | ⟨g', cap', cur, h', hb, hh, r⟩
  · exact .inl h'
  · exact .inr ⟨g', cap', cur, h', hb, (Below.heap_setCell w p u g' (by omega)).trans hh, r⟩

section
variable {P : Program} {t e : TypeId} {i : TypeInfo}
/-- Appending one prefix, at a drawn step, onto a list that the call owns. -/
theorem step_apR (w : World) {ops : Array Oper} {o : Oper} {a : Act} {K : Act → World → Prop} {Q : Exit → Act → World → Prop} {E : Prop} (hgd : o.guard = none) (s x : Operand)
    (ho : o.op = .call { callee := .builtin .append, args := #[s, x], argTypes := #[t, t] }) (base : Nat) (ht : P.underlying t = some (.slice e)) (hi : P.info? e = some i) (hz : i.zero = some (.agg #[.int .i64 0, .int .i64 0])) (hs : i.size = 2) (hb : i.bytes = 16)
    (v : Value) (n : Nat) (xs : List Value) (hsv : a.eval s = v) (hown : w.ownsRow base e 2 v n xs)
    (ad : Addr) (p q : Int) (hxv : a.eval x = .slice (some ad) 1 1) (h0 : w.cell? (ad.add 0) = some (.int .i64 p)) (h1 : w.cell? (ad.add 1) = some (.int .i64 q))
    (hle : n + 1 ≤ 4194304) (hbase : base ≤ w.heap.size)
    (h : ∀ v' w', w'.ownsRow base e 2 v' (n + 1) (xs ++ [.int .i64 p, .int .i64 q]) → w.grownBy w' v.ownBlock → K (a.put o.dst v') w') :
    if Region.wanted o (yielded ops a.tmps) = true then Oper.wp P o a w K Q else E := by
  have hw : Region.wanted o (yielded ops a.tmps) = true := by simp [Region.wanted, hgd]
  rw [if_pos hw]
  have hnews : ∀ j y, [Value.int .i64 p, Value.int .i64 q][j]? = some y → w.cell? (ad.add j) = some y := by
    intro j y hy
    match j, hy with
    | 0, hy => simp at hy; subst hy; exact h0
    | 1, hy => simp at hy; subst hy; exact h1
  obtain ⟨v', w', hr, h2, h3, _, _⟩ := run_append_own_at (P := P) w base t o.type e i (.agg #[.int .i64 0, .int .i64 0]) 2 16 ht hi hz hs hb rfl (by decide) v n xs hown ad 1 1 [.int .i64 p, .int .i64 q] rfl hnews (by simp [Value.oneCell']) (by unfold maxLen; omega) (by omega) hbase
  unfold Oper.wp execOp
  simp only [ho, resolve, invoke, builtin, Sem.run_bind, Sem.run_pure, Result.andThen_ok, List.map_toArray, List.map_cons, List.map_nil, hsv, hxv, hr]
  exact h v' w' h2 h3
end

theorem lfc_nought : ∀ {ps : List (Int × Int)}, (∀ p ∈ ps, pf p.1 p.2 = 0) → lfc ps = 0
  | [], _ => rfl
  | p :: r, h => by
    unfold lfc
    rw [if_pos (h p (by simp))]
    exact lfc_nought (fun q hq => h q (by simp [hq]))
theorem uf_gs {gs : List (Int × Int)} (h : ∀ p ∈ gs, pf p.1 p.2 = 0) (hl : gs.length ≤ 8) : uf gs false 0 [] 0 0 0 [] = 0 := by
  have h0 : lf gs = 0 := by unfold lf; rw [if_neg (by omega), lfc_nought h]
  unfold uf
  rw [if_neg (by simp; omega), h0]
  simp [lf, lfc, ZaP]

theorem uf_ok {gs rs : List (Int × Int)} {has : Bool} {o nx md lc : Int} {xs : List Int} (h : uf gs has o xs nx md lc rs = 0) :
    gs.length ≤ 8 ∧ rs.length ≤ 8 ∧ lf gs = 0 ∧ lf rs = 0 ∧ (has = true → 0 < rs.length ∧ af o xs nx md lc = 0) ∧ (has = false → rs.length = 0 ∧ ZaP o xs nx md lc) := by
  unfold uf at h
  split at h
  · cases h
  · rename_i h8
    split at h
    · contradiction
    · rename_i hg
      split at h
      · contradiction
      · rename_i hr
        split at h
        · cases h
        · rename_i hh
          simp only [ne_eq, Decidable.not_not] at hg hr hh
          refine ⟨by omega, by omega, hg, hr, ?_, ?_⟩
          · intro ht
            subst ht
            simp at h hh
            exact ⟨hh, h⟩
          · intro ht
            subst ht
            have h' := h
            simp at hh
            refine ⟨by simpa using hh, ?_⟩
            by_cases hz : ZaP o xs nx md lc
            · exact hz
            · rw [if_neg (by simp), if_neg hz] at h'
              cases h'

theorem OwM.slice' {w : World} {lo : Nat} {v : Value} {L : List Int} (h : OwM w lo v L) : ∃ a c, v = .slice a L.length c := by
  rcases h with ⟨rfl, rfl⟩ | ⟨g, c, rfl, _⟩
  · exact ⟨none, 0, rfl⟩
  · exact ⟨_, c, rfl⟩
theorem OwQ.slice' {w : World} {lo : Nat} {v : Value} {L : List (Int × Int)} (h : OwQ w lo v L) : ∃ a c, v = .slice a L.length c := by
  rcases h with ⟨rfl, rfl⟩ | ⟨g, c, rfl, _⟩
  · exact ⟨none, 0, rfl⟩
  · exact ⟨_, c, rfl⟩
theorem OwQ.psB {w : World} {lo n c : Nat} {a : Option Addr} {L : List (Int × Int)} (h : OwQ w lo (.slice a n c) L) (hb : ∀ p ∈ L, In6 p.1 ∧ In6 p.2) : PsAt w a L := by
  obtain ⟨a', c', e, hp, -⟩ := h.ps hb
  simp only [Value.slice.injEq] at e
  obtain ⟨rfl, -, rfl⟩ := e
  exact hp
theorem OwM.nsB' {w : World} {lo n c : Nat} {a : Option Addr} {L : List Int} (h : OwM w lo (.slice a n c) L) (hb : ∀ z ∈ L, In6 z) : NsAt w a L := by
  obtain ⟨a', c', e, hp, -⟩ := h.ns hb
  simp only [Value.slice.injEq] at e
  obtain ⟨rfl, -, rfl⟩ := e
  exact hp
theorem pf_in {p : Int × Int} (h : pf p.1 p.2 = 0) : In6 p.1 ∧ In6 p.2 := by
  unfold pf at h
  split at h
  · omega
  · rename_i hh
    unfold In6
    omega

end Go.Proofs.Yteniieagcehmpaa
