/- What is proved here: small facts for the law on ApplyRules. No condition. -/
import Derived.Test.YtidibaknahfmmaaR6ApL
namespace Go.Proofs.Ytidibaknahfmmaa
open Go.RowKit Go.Sort
set_option linter.unusedVariables false

theorem ne6a {a b c : Nat} (h : b ≤ c) (h' : a + 2 ≤ b) : ¬ c = a := by omega
theorem ne6b {a b c : Nat} (h : b ≤ c) (h' : a + 2 ≤ b) : ¬ c = a + 1 := by omega
theorem ne6c {a b c : Nat} (h : b ≤ c) (h' : a < b) : ¬ c = a := by omega
/-- Nothing old has turned since the block was laid. -/
def NewA6 (X : World) (o : Obj) (Y : World) : Prop := New (X.alloc o) Y
theorem New.alloc_mark6 {X Y : World} {o : Obj} : New (X.alloc o) Y ↔ (New X Y ∧ NewA6 X o Y) := ⟨fun h => ⟨((New.refl X).alloc o).trans h, h⟩, fun h => h.2⟩
theorem Blk.laid6 {X Y : World} {t : TypeId} {cs : Array Value} (h : NewA6 X (.cells cs t) Y) : Blk Y X.heap.size t cs := (Blk.mk X _ t cs rfl).new h
theorem blk7 {w : World} {B : Nat} {t : TypeId} {u0 u1 u2 u3 u4 u5 u6 : Value} (v0 v1 v2 v3 v4 v5 v6 : Value) (h : Blk w B t #[u0, u1, u2, u3, u4, u5, u6]) : Blk (((((((w.setCell ⟨B, 0, none⟩ v0).setCell ⟨B, 1, none⟩ v1).setCell ⟨B, 2, none⟩ v2).setCell ⟨B, 3, none⟩ v3).setCell ⟨B, 4, none⟩ v4).setCell ⟨B, 5, none⟩ v5).setCell ⟨B, 6, none⟩ v6) B t #[v0, v1, v2, v3, v4, v5, v6] := by
  have h9 := ((((((h.set 0 v0).set 1 v1).set 2 v2).set 3 v3).set 4 v4).set 5 v5).set 6 v6
  simp only [List.setIfInBounds_toArray, List.set_cons_zero, List.set_cons_succ] at h9
  exact h9
theorem OvN.ne_blk {w : World} {lo B : Nat} {v : Value} {xs : List Int} {t : TypeId} {cs : Array Value} (h : OvN w lo v xs) (b : Blk w B t cs) (hne : t ≠ 2) : ∀ j, v.ownBlock = some j → ¬ j = B := by
  intro j hj e
  subst e
  rcases h.form with ⟨rfl, _⟩ | ⟨g, c, rfl, _, ho⟩
  · simp [Value.ownBlock] at hj
  · have hg : g = j := by simpa [Value.ownBlock] using hj
    subst hg
    exact Blk.ne_own b ho hne rfl
theorem apF_ok {z p q o : Int} {xs : List Int} {nx md lo : Int} (hb : ∀ u ∈ xs, In6 u) (hz : In6 z) : ∀ (rs : List Ru) (i : Int), (∀ r ∈ rs, r.f = 0) → (∀ u ∈ (apF z p q o xs nx md lo i rs).ns, In6 u) ∧ (apF z p q o xs nx md lo i rs).ns.length ≤ xs.length + 3
  | [], i, _ => ⟨hb, by simp [apF]⟩
  | r :: rs, i, hf => by
    have hr := hf r (by simp)
    obtain ⟨⟨h0, h3⟩, _⟩ := rf_pp (show rf r.a r.l r.ls r.ms r.s r.d r.lc r.pp = 0 from hr)
    unfold apF
    split
    · unfold ap1
      split
      · simp [arC]
      · split
        · simp [arC]
        · refine ⟨?_, by simp; omega⟩
          intro u hu
          rcases List.mem_append.1 hu with hu | hu
          · exact rep_in hz u hu
          · exact hb u hu
    · exact apF_ok hb hz rs (i + 1) (fun r hr => hf r (by simp [hr]))
theorem apF_len {z p q o : Int} {xs : List Int} {nx md lo : Int} : ∀ (rs : List Ru) (i : Int), (∀ r ∈ rs, r.f = 0) → (apF z p q o xs nx md lo i rs).ns.length ≤ xs.length + 3
  | [], i, _ => by simp [apF]
  | r :: rs, i, hf => by
    have hr := hf r (by simp)
    obtain ⟨⟨h0, h3⟩, _⟩ := rf_pp (show rf r.a r.l r.ls r.ms r.s r.d r.lc r.pp = 0 from hr)
    unfold apF
    split
    · unfold ap1
      split
      · simp [arC]
      · split
        · simp [arC]
        · simp; omega
    · exact apF_len rs (i + 1) (fun r hr => hf r (by simp [hr]))
theorem apA_in {rs : List Ru} {z p q o : Int} {xs : List Int} {nx md lo : Int} (hb : ∀ u ∈ xs, In6 u) : ∀ u ∈ (apA rs z p q o xs nx md lo).ns, In6 u := by
  unfold apA
  split
  · rename_i h0
    obtain ⟨h1, h2, _⟩ := apc_ok h0
    exact (apF_ok hb (by unfold In6; omega) rs 0 (rsf_ok h1).2).1
  · simp [arC]
theorem apA_len {rs : List Ru} {z p q o : Int} {xs : List Int} {nx md lo : Int}  : (apA rs z p q o xs nx md lo).ns.length ≤ 9 := by
  unfold apA
  split
  · rename_i h0
    obtain ⟨h1, h2, _, h4⟩ := apc_ok h0
    have h6 := af_len h4
    have hall := (rsf_ok h1).2
    have := apF_len (z := z) (p := p) (q := q) (o := o) (xs := xs) (nx := nx) (md := md) (lo := lo) rs 0 hall
    omega
  · simp [arC]

end Go.Proofs.Ytidibaknahfmmaa
