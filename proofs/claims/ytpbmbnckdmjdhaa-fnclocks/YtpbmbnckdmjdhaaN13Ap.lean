/- What is proved here: what appending one number to a list of the call's own leaves. No condition. -/
import Derived.Test.YtpbmbnckdmjdhaaN13Ls
import Derived.Test.YtpbmbnckdmjdhaaRwLib
import Derived.Maps.AppendAt
namespace Go.Proofs.Ytpbmbnckdmjdhaa
open Go.RowKit
set_option linter.unusedVariables false

section
variable {P : Program} {t e : TypeId} {i : TypeInfo}
theorem wp_apV (w : World) {o : Oper} {a : Act} {K : Act → World → Prop} {Q : Exit → Act → World → Prop} (s x : Operand)
    (ho : o.op = .call { callee := .builtin .append, args := #[s, x], argTypes := #[t, t] }) (base sz by' : Nat) (zero : Value) (ht : P.underlying t = some (.slice e)) (hi : P.info? e = some i) (hz : i.zero = some zero) (hs : i.size = sz) (hb : i.bytes = by') (hz1 : zero.cells.size = sz) (hsz : 0 < sz) (hby : by' ≤ 1000)
    (v : Value) (n : Nat) (xs : List Value) (hsv : a.eval s = v) (hown : w.ownsRow base e sz v n xs)
    (L : Nat) (r : List Value) (hr : r.length = sz) (h1 : ∀ u ∈ r, u.oneCell' = true) (hxv : a.eval x = .slice (some ⟨L, 0, none⟩) 1 1) (hsrc : ∀ j u, r[j]? = some u → w.cell? ⟨L, j, none⟩ = some u) (hle : n + 1 ≤ 4194304) (hbase : base ≤ w.heap.size)
    (h : ∀ v' w', w'.ownsRow base e sz v' (n + 1) (xs ++ r) → w.grownBy w' v.ownBlock → (v'.ownBlock = v.ownBlock ∨ v'.ownBlock = some w.heap.size) → K (a.put o.dst v') w') : o.wp P a w K Q := by
  have hnews : ∀ j u, r[j]? = some u → w.cell? ((⟨L, 0, none⟩ : Addr).add j) = some u := by
    intro j u hu
    rw [Addr.add_lit, Nat.zero_add]
    exact hsrc j u hu
  have hbb : (n + 1) * by' ≤ 140737488355328 := Nat.le_trans (Nat.mul_le_mul hle hby) (by decide)
  obtain ⟨v', w', hr, h2, h3, _, h5⟩ := run_append_own_at (P := P) w base t o.type e i zero sz by' ht hi hz hs hb hz1 hsz v n xs hown ⟨L, 0, none⟩ 1 1 r (by omega) hnews h1 (by unfold maxLen; omega) hbb hbase
  unfold Oper.wp execOp
  simp only [ho, resolve, invoke, builtin, Sem.run_bind, Sem.run_pure, Result.andThen_ok, List.map_toArray, List.map_cons, List.map_nil, hsv, hxv, hr]
  exact h v' w' h2 h3 h5
end

theorem gr13 {w w' : World} {b : Option Nat} (h : w.grownBy w' b) : Turn (fun k => b = some k) w w' := ⟨h.os, h.tape, h.output, h.size, fun k hk hs => h.block k hk (fun e => hs e.symm)⟩

theorem ap13 (w : World) {o : Oper} {a : Act} {K : Act → World → Prop} {Q : Exit → Act → World → Prop} (s x : Operand)
    (ho : o.op = .call { callee := .builtin .append, args := #[s, x], argTypes := #[24, 24] }) (v : Value) (n : Nat) (xs : List Int) (hsv : a.eval s = v) (hown : w.ownsRow 0 2 1 v n (xs.map (Value.int .i64)))
    (L : Nat) (z : Int) (hxv : a.eval x = .slice (some ⟨L, 0, none⟩) 1 1) (hsrc : Blk w L 2 #[.int .i64 z]) (hle : n ≤ 1000)
    (h : ∀ g c w', OwN w' g (n + 1) c (xs ++ [z]) → Turn (fun k => v.ownBlock = some k) w w' → (v.ownBlock = some g ∨ g = w.heap.size) → K (a.put o.dst (.slice (some ⟨g, 0, none⟩) (n + 1) c)) w') : o.wp Try.prog a w K Q := by
  obtain ⟨i0, hi, hz0, hz1, hz2⟩ := info_parts Try.infoI64
  refine wp_apV w s x ho 0 1 8 (.int .i64 0) Try.underlying24 hi hz0 hz1 hz2 rfl (by decide) (by decide) v n _ hsv hown L [.int .i64 z] rfl (by simp [Value.oneCell']) hxv ?_ (by omega) (Nat.zero_le _) ?_
  · intro j u hu
    rw [hsrc.cells j]
    simpa using hu
  · intro v' w' ho' hg hb
    have ht := gr13 hg
    rcases ho'.2 with ⟨h1, h2⟩ | ⟨g, c, cur, h1, r⟩
    · exact absurd h2 (by omega)
    · subst h1
      refine h g c w' ?_ ht ?_
      · unfold OwN
        rw [List.map_append]
        exact ho'
      · rcases hb with hb | hb
        · exact .inl hb.symm
        · exact .inr (by simpa [Value.ownBlock] using hb)

theorem nil13 (w : World) : w.ownsRow 0 2 1 (.slice none 0 0) 0 (([] : List Int).map (Value.int .i64)) := ⟨rfl, .inl ⟨rfl, rfl⟩⟩

end Go.Proofs.Ytpbmbnckdmjdhaa
