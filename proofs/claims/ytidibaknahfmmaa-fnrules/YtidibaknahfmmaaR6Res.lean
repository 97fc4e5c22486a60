/- What is proved here: what the comparing, the marking and the looking for marks of an answer with attributes answer, for paths of at most 1048576 numbers. -/
import Derived.Test.YtidibaknahfmmaaR6Pa
import Derived.Test.YtidibaknahfmmaaR6Ex
namespace Go.Proofs.Ytidibaknahfmmaa
open Go.RowKit Go.Sort
set_option linter.unusedVariables false

/-- n numbers, marked from s on. -/
def mkN6 (s : Int) (n : Nat) : List Int := (List.range n).map (fun i : Nat => s + i)
theorem mkN6_len (s : Int) (n : Nat) : (mkN6 s n).length = n := by simp [mkN6]
theorem mkN6_succ (s : Int) (n : Nat) : mkN6 s (n + 1) = mkN6 s n ++ [s + n] := by simp [mkN6, List.range_succ]
theorem mkN6_get (s : Int) (n j : Nat) (hj : j < n) : (mkN6 s n)[j]? = some (s + j) := by simp [mkN6, hj]
theorem mkN6_in (s : Int) (n : Nat) (h0 : 0 ≤ s) (h1 : s ≤ 1073741824) (h2 : n ≤ 1048576) : ∀ z ∈ mkN6 s n, In6 z := by
  intro z hz
  simp only [mkN6, List.mem_map, List.mem_range] at hz
  obtain ⟨i, hi, rfl⟩ := hz
  unfold In6
  omega
theorem mkN6_ob (xs : List Int) (k : Int) (j n : Nat) (hn : xs.length = n) (hj : j < n) :
    ((mkN6 k j ++ xs.drop j).map (Value.int .i64)).set j (.int .i64 (k + j)) = (mkN6 k (j + 1) ++ xs.drop (j + 1)).map (Value.int .i64) := by
  rw [← List.map_set, List.set_append_right _ _ (by rw [mkN6_len]; omega), mkN6_len, Nat.sub_self, mkN6_succ, List.drop_eq_getElem_cons (by omega), List.set_cons_zero]
  simp

theorem OvN.nsAt {w : World} {lo n k : Nat} {a : Option Addr} {xs : List Int} (h : OvN w lo (.slice a n k) xs) (hb : ∀ z ∈ xs, In6 z) : NsAt w a xs := by
  obtain ⟨a', c, e, h1, _⟩ := h.ns hb
  cases e
  exact h1

/-- An answer of the call's own, laid open. -/
theorem AAns.opened {w w' : World} {rc rr ro : Int} {ns : List Int} {rx rd rl : Int} {e : Ending} {n : Nat} (h : AAns w ⟨rc, rr, ro, ns, rx, rd, rl⟩ e w') (hn : ns.length = n) :
    ∃ a k, e = .returned (.agg #[.int .i64 rc, .int .i64 rr, .int .i64 ro, .slice a n k, .int .i64 rx, .int .i64 rd, .int .i64 rl]) ∧ OvN w' w.heap.size (.slice a n k) ns ∧ New w w' := by
  obtain ⟨v, he, ho, hw⟩ := h
  rcases ho.form with ⟨rfl, h0⟩ | ⟨g, c, rfl, hg, _⟩
  · have h0' : ns = [] := h0
    subst h0'
    subst hn
    exact ⟨none, 0, he, ho, hw⟩
  · subst hn
    exact ⟨_, c, he, ho, hw⟩

theorem OvN.rng {w : World} {lo : Nat} {v : Value} {xs : List Int} (h : OvN w lo v xs) : ∀ j, v.ownBlock = some j → lo ≤ j ∧ j < w.heap.size := by
  intro j hj
  rcases h.form with ⟨rfl, _⟩ | ⟨g, cap, rfl, hg, ho⟩
  · simp [Value.ownBlock] at hj
  · simp [Value.ownBlock] at hj
    subst hj
    exact ⟨hg, ho.lt⟩
theorem OwN.ov {w : World} {g n c : Nat} {xs : List Int} (h : OwN w g n c xs) : OvN w g (.slice (some ⟨g, 0, none⟩) n c) xs := by
  have hl := h.len
  subst hl
  refine ⟨h.1, ?_⟩
  rcases h.2 with h' | ⟨g', cap', cur, h', r⟩
  · exact .inl h'
  · have e2 := congrArg Value.ownBlock h'
    have e3 : g = g' := by simpa [Value.ownBlock] using e2
    exact .inr ⟨g', cap', cur, h', by omega, r.2⟩

end Go.Proofs.Ytidibaknahfmmaa
