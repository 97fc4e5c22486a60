/- What is proved here: what the words of a message are, their lengths, and what a right update tells. No condition. -/
import Derived.Test.YtljkcijakdhdiaaDoorTxPx
import Derived.Test.YtljkcijakdhdiaaDoorTxAt
import Derived.Test.YtljkcijakdhdiaaDoorSpAt
import Derived.Test.YtljkcijakdhdiaaDoorMsMf
import Derived.Test.YtljkcijakdhdiaaDoorMsSp2
namespace Go.Proofs.YtljkcijakdhdiaaDoor
open Go.RowKit Go.Sort
set_option linter.unusedVariables false
set_option linter.unusedSimpArgs false

/-- The text of a prefix, as bytes. -/
def txl (x l : Int) : List UInt8 := (tx x l).2.data.toList
theorem txl_eq {x l : Int} (h : pf x l = 0) : tx x l = (0, ⟨(txl x l).toArray⟩) := by
  have h1 : (tx x l).1 = 0 := by unfold tx; rw [if_pos h]
  have h2 : (tx x l).2 = ⟨(txl x l).toArray⟩ := by unfold txl; simp
  rw [← h1, ← h2]
theorem txl_len {x l : Int} (h : pf x l = 0) : (txl x l).length ≤ 11 := by
  obtain ⟨a, o, m, ha, ho, hm, rfl, rfl⟩ := pf_parts h
  have l1 := dd_len (show a < 1000 by omega)
  have l2 := dd_len (show o < 1000 by omega)
  have l3 := dd_len (show m < 1000 by omega)
  unfold txl
  rw [tx_ok ha ho h]
  have e : txt a o m = ⟨(Lib.decDigits a ++ [46] ++ Lib.decDigits o ++ [47] ++ Lib.decDigits m).toArray⟩ := by
    unfold txt
    rw [← app_bytes, ← app_bytes, ← app_bytes, ← app_bytes]
  rw [e]
  simp only [List.length_append, List.length_cons, List.length_nil]
  omega
theorem implTxl (x l : Int) (w : World) (h : pf x l = 0) (ht : Tab w) : Calls Tryd.prog 59 #[.agg #[.int .i64 x, .int .i64 l]] w fun e w' => e = .returned (.agg #[.int .i64 0, .string ⟨(txl x l).toArray⟩]) ∧ New w w' := by
  refine (implTx x l w ht).mono ?_
  rintro e w' ⟨rfl, hn⟩
  rw [txl_eq h]
  exact ⟨rfl, hn⟩
theorem specTxl (x l : Int) (w : World) (h : pf x l = 0) : Calls Tryd.prog 26 #[.agg #[.int .i64 x, .int .i64 l]] w fun e w' => e = .returned (.string ⟨(txl x l).toArray⟩) ∧ New w w' := by
  have h2 := txl_eq h
  obtain ⟨a, o, m, ha, ho, hm, rfl, rfl⟩ := pf_parts h
  refine (l2Text_any a o m w ha ho (by omega)).mono ?_
  rintro e w' ⟨rfl, hn⟩
  rw [tx_ok ha ho h] at h2
  rw [(Prod.mk.inj h2).2]
  exact ⟨rfl, hn⟩
/-- The words of what is gone, and of what is reached. -/
def wG (gs : List (Int × Int)) : List (List UInt8) := gs.map fun p => 45 :: txl p.1 p.2
def wR (gs : List (Int × Int)) : List (List UInt8) := gs.map fun p => 43 :: txl p.1 p.2
def wUp (gs : List (Int × Int)) (has : Bool) (o : Int) (xs : List Int) (nx md lc : Int) (rs : List (Int × Int)) : List (List UInt8) := [[117, 112, 100, 97, 116, 101]] ++ wG gs ++ wR rs ++ if has = true then [att o xs nx md lc] else []
/-- The words of a message. -/
def wMs (kd sa ho si wh su : Int) (gs : List (Int × Int)) (has : Bool) (o : Int) (xs : List Int) (nx md lc : Int) (rs : List (Int × Int)) : List (List UInt8) :=
  if kd = 1 then [[111, 112, 101, 110], dg sa, dg ho, dg si] else if kd = 2 then wUp gs has o xs nx md lc rs else if kd = 3 then [[110, 111, 116, 105, 102, 121], dg wh, dg su] else [[107, 101, 101, 112]]
/-- What is told of a message. -/
def mt (kd sa ho si wh su : Int) (gs : List (Int × Int)) (has : Bool) (o : Int) (xs : List Int) (nx md lc : Int) (rs : List (Int × Int)) : Int × List UInt8 :=
  if mf kd sa ho si wh su gs has o xs nx md lc rs = 0 then (0, Lib.join (wMs kd sa ho si wh su gs has o xs nx md lc rs) [32]) else (mf kd sa ho si wh su gs has o xs nx md lc rs, [])
theorem wG_snoc {gs : List (Int × Int)} {j : Nat} {x y : Int} (h : gs[j]? = some (x, y)) : wG (gs.take (j + 1)) = wG (gs.take j) ++ [45 :: txl x y] := by
  obtain ⟨hj, e⟩ := List.getElem?_eq_some_iff.1 h
  rw [List.take_succ_eq_append_getElem hj, e]; simp [wG]
theorem wR_snoc {gs : List (Int × Int)} {j : Nat} {x y : Int} (h : gs[j]? = some (x, y)) : wR (gs.take (j + 1)) = wR (gs.take j) ++ [43 :: txl x y] := by
  obtain ⟨hj, e⟩ := List.getElem?_eq_some_iff.1 h
  rw [List.take_succ_eq_append_getElem hj, e]; simp [wR]
theorem uf_ok5 {gs rs : List (Int × Int)} {has : Bool} {o nx md lc : Int} {xs : List Int} (h : uf gs has o xs nx md lc rs = 0) : gs.length ≤ 8 ∧ rs.length ≤ 8 ∧ (∀ p ∈ gs, pf p.1 p.2 = 0) ∧ (∀ p ∈ rs, pf p.1 p.2 = 0) ∧ (has = true → af o xs nx md lc = 0) := by
  by_cases h1 : 8 < gs.length ∨ 8 < rs.length
  · rw [uf_many h1] at h; cases h
  by_cases h2 : lf gs = 0
  · by_cases h3 : lf rs = 0
    · rw [uf_rest h1 h2 h3] at h
      refine ⟨by omega, by omega, (lf_ok h2).2, (lf_ok h3).2, fun hh => ?_⟩
      subst hh
      split at h
      · cases h
      · simpa using h
    · rw [uf_reach h1 h2 h3] at h; exact absurd h h3
  · rw [uf_gone h1 h2] at h; exact absurd h h2
theorem join_len (sep : List UInt8) (b : Nat) : ∀ L : List (List UInt8), (∀ l ∈ L, l.length ≤ b) → (Lib.join L sep).length ≤ L.length * (b + sep.length) := by
  intro L
  generalize hn : L.length = n
  induction n generalizing L with
  | zero => intro _; obtain rfl := List.eq_nil_of_length_eq_zero hn; simp [Lib.join]
  | succ n ih =>
    intro h
    have hne : L ≠ [] := by intro e; subst e; simp at hn
    obtain ⟨M, x, rfl⟩ : ∃ M x, L = M ++ [x] := ⟨L.dropLast, L.getLast hne, (List.dropLast_concat_getLast hne).symm⟩
    have hM : M.length = n := by simpa using hn
    have h1 := h x (by simp)
    have h2 := ih M hM (fun l hl => h l (by simp [hl]))
    have h3 : (n + 1) * (b + sep.length) = n * (b + sep.length) + (b + sep.length) := by rw [Nat.add_mul, Nat.one_mul]
    by_cases e : M = []
    · subst e
      simp only [List.nil_append]
      rw [Lib.join_one]
      omega
    · rw [join_snoc x sep e]
      simp only [List.length_append, List.length_cons, List.length_nil]
      omega
theorem att_len {o nx md lc : Int} {xs : List Int} (h : af o xs nx md lc = 0) : (att o xs nx md lc).length ≤ 100 := by
  obtain ⟨⟨h1, h2, h3, h4⟩, h5, h6⟩ := af_ok5 h
  have p := pt_len xs.length xs rfl h6
  have d1 := dg_len (x := o) (by omega) (by omega)
  have d2 := dg_len (x := nx) h2.1 h2.2
  have d3 := dg_len (x := md) h3.1 h3.2
  have d4 := dg_len (x := lc) h4.1 h4.2
  unfold att
  simp only [List.length_append, List.length_cons, List.length_nil]
  omega
theorem wUp_len {gs rs : List (Int × Int)} {has : Bool} {o nx md lc : Int} {xs : List Int} (h : uf gs has o xs nx md lc rs = 0) : (wUp gs has o xs nx md lc rs).length ≤ 18 ∧ ∀ l ∈ wUp gs has o xs nx md lc rs, l.length ≤ 100 := by
  obtain ⟨h1, h2, h3, h4, h5⟩ := uf_ok5 h
  constructor
  · unfold wUp wG wR
    simp only [List.length_append, List.length_map, List.length_cons, List.length_nil]
    split
    · simp only [List.length_cons, List.length_nil]; omega
    · simp only [List.length_nil]; omega
  · intro l hl
    unfold wUp wG wR at hl
    rcases List.mem_append.1 hl with hl | hl
    · rcases List.mem_append.1 hl with hl | hl
      · rcases List.mem_append.1 hl with hl | hl
        · obtain rfl := List.mem_singleton.1 hl; decide
        · obtain ⟨p, hp, rfl⟩ := List.mem_map.1 hl
          have := txl_len (h3 p hp)
          simp only [List.length_cons]; omega
      · obtain ⟨p, hp, rfl⟩ := List.mem_map.1 hl
        have := txl_len (h4 p hp)
        simp only [List.length_cons]; omega
    · split at hl
      · rename_i hh
        obtain rfl := List.mem_singleton.1 hl
        exact att_len (h5 hh)
      · cases hl

end Go.Proofs.YtljkcijakdhdiaaDoor
