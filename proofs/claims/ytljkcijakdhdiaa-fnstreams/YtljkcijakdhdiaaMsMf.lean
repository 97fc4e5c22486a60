/- What is proved here: what the judging of a message answers, in the program and in its model, for every lists of at most 1048576 elements. -/
import Derived.Test.YtljkcijakdhdiaaMsFn2
namespace Go.Proofs.Ytljkcijakdhdiaa
open Go.RowKit Go.Sort
set_option linter.unusedVariables false

/-- The fault of a message. -/
def mf (kd sa ho si wh su : Int) (gs : List (Int × Int)) (has : Bool) (o : Int) (xs : List Int) (nx md lc : Int) (rs : List (Int × Int)) : Int :=
  if kd < 1 ∨ 4 < kd then 1 else if kd = 1 ∧ ¬ Opn sa ho si then 3 else if kd = 3 ∧ ¬ Nty wh su then 3
  else if ¬ ((kd ≠ 1 → sa = 0 ∧ ho = 0 ∧ si = 0) ∧ (kd ≠ 3 → wh = 0 ∧ su = 0) ∧ (kd ≠ 2 → ZuP gs has o xs nx md lc rs)) then 1
  else if kd = 2 then uf gs has o xs nx md lc rs else 0

theorem SuZ (gs : List (Int × Int)) (has : Bool) (o : Int) (xs : List Int) (nx md lc : Int) (rs : List (Int × Int)) : SuP gs has o xs nx md lc rs [] false 0 [] 0 0 0 [] ↔ ZuP gs has o xs nx md lc rs := by
  unfold SuP ZuP SaP ZaP
  simp only [List.length_eq_zero_iff]
  constructor
  · rintro ⟨h1, h2, ⟨h3, h4, h5, h6, h7⟩, h8⟩; exact ⟨h1, h8, h2, h3, h7, h4, h5, h6⟩
  · rintro ⟨h1, h8, h2, h3, h7, h4, h5, h6⟩; exact ⟨h1, h2, ⟨h3, h4, h5, h6, h7⟩, h8⟩
theorem uf_zero {gs rs : List (Int × Int)} {has : Bool} {o nx md lc : Int} {xs : List Int} (h : ZuP gs has o xs nx md lc rs) : uf gs has o xs nx md lc rs = 0 := by
  obtain ⟨h1, h8, rfl, rfl, h7, rfl, rfl, rfl⟩ := h
  obtain rfl := List.length_eq_zero_iff.1 h1
  obtain rfl := List.length_eq_zero_iff.1 h8
  obtain rfl := List.length_eq_zero_iff.1 h7
  rfl

theorem mf_none {gs rs : List (Int × Int)} {has : Bool} {o nx md lc : Int} {xs : List Int} {kd sa ho si wh su : Int} (h : kd < 1 ∨ 4 < kd) : mf kd sa ho si wh su gs has o xs nx md lc rs = 1 := if_pos h
theorem mf1_bad {gs rs : List (Int × Int)} {has : Bool} {o nx md lc : Int} {xs : List Int} {sa ho si wh su : Int} (h : ¬ Opn sa ho si) : mf 1 sa ho si wh su gs has o xs nx md lc rs = 3 := by
  unfold mf; rw [if_neg (by omega), if_pos ⟨rfl, h⟩]
theorem mf1_form {gs rs : List (Int × Int)} {has : Bool} {o nx md lc : Int} {xs : List Int} {sa ho si wh su : Int} (h : Opn sa ho si) (h2 : ¬ (wh = 0 ∧ su = 0 ∧ ZuP gs has o xs nx md lc rs)) : mf 1 sa ho si wh su gs has o xs nx md lc rs = 1 := by
  unfold mf
  rw [if_neg (by omega), if_neg (fun q => q.2 h), if_neg (by omega), if_pos (fun q => h2 ⟨(q.2.1 (by omega)).1, (q.2.1 (by omega)).2, q.2.2 (by omega)⟩)]
theorem mf1_ok {gs rs : List (Int × Int)} {has : Bool} {o nx md lc : Int} {xs : List Int} {sa ho si wh su : Int} (h : Opn sa ho si) (h2 : wh = 0 ∧ su = 0 ∧ ZuP gs has o xs nx md lc rs) : mf 1 sa ho si wh su gs has o xs nx md lc rs = 0 := by
  unfold mf
  rw [if_neg (by omega), if_neg (fun q => q.2 h), if_neg (by omega), if_neg (fun q => q ⟨fun e => absurd rfl e, fun _ => ⟨h2.1, h2.2.1⟩, fun _ => h2.2.2⟩), if_neg (by omega)]
theorem mf2_form {gs rs : List (Int × Int)} {has : Bool} {o nx md lc : Int} {xs : List Int} {sa ho si wh su : Int} (h2 : ¬ (sa = 0 ∧ ho = 0 ∧ si = 0 ∧ wh = 0 ∧ su = 0)) : mf 2 sa ho si wh su gs has o xs nx md lc rs = 1 := by
  unfold mf
  rw [if_neg (by omega), if_neg (by omega), if_neg (by omega), if_pos (fun q => h2 ⟨(q.1 (by omega)).1, (q.1 (by omega)).2.1, (q.1 (by omega)).2.2, (q.2.1 (by omega)).1, (q.2.1 (by omega)).2⟩)]
theorem mf2_ok {gs rs : List (Int × Int)} {has : Bool} {o nx md lc : Int} {xs : List Int} {sa ho si wh su : Int} (h2 : sa = 0 ∧ ho = 0 ∧ si = 0 ∧ wh = 0 ∧ su = 0) : mf 2 sa ho si wh su gs has o xs nx md lc rs = uf gs has o xs nx md lc rs := by
  unfold mf
  rw [if_neg (by omega), if_neg (by omega), if_neg (by omega), if_neg (fun q => q ⟨fun _ => ⟨h2.1, h2.2.1, h2.2.2.1⟩, fun _ => ⟨h2.2.2.2.1, h2.2.2.2.2⟩, fun e => absurd rfl e⟩), if_pos rfl]
theorem mf3_bad {gs rs : List (Int × Int)} {has : Bool} {o nx md lc : Int} {xs : List Int} {sa ho si wh su : Int} (h : ¬ Nty wh su) : mf 3 sa ho si wh su gs has o xs nx md lc rs = 3 := by
  unfold mf; rw [if_neg (by omega), if_neg (by omega), if_pos ⟨rfl, h⟩]
theorem mf3_form {gs rs : List (Int × Int)} {has : Bool} {o nx md lc : Int} {xs : List Int} {sa ho si wh su : Int} (h : Nty wh su) (h2 : ¬ (sa = 0 ∧ ho = 0 ∧ si = 0 ∧ ZuP gs has o xs nx md lc rs)) : mf 3 sa ho si wh su gs has o xs nx md lc rs = 1 := by
  unfold mf
  rw [if_neg (by omega), if_neg (by omega), if_neg (fun q => q.2 h), if_pos (fun q => h2 ⟨(q.1 (by omega)).1, (q.1 (by omega)).2.1, (q.1 (by omega)).2.2, q.2.2 (by omega)⟩)]
theorem mf3_ok {gs rs : List (Int × Int)} {has : Bool} {o nx md lc : Int} {xs : List Int} {sa ho si wh su : Int} (h : Nty wh su) (h2 : sa = 0 ∧ ho = 0 ∧ si = 0 ∧ ZuP gs has o xs nx md lc rs) : mf 3 sa ho si wh su gs has o xs nx md lc rs = 0 := by
  unfold mf
  rw [if_neg (by omega), if_neg (by omega), if_neg (fun q => q.2 h), if_neg (fun q => q ⟨fun _ => ⟨h2.1, h2.2.1, h2.2.2.1⟩, fun e => absurd rfl e, fun _ => h2.2.2.2⟩), if_neg (by omega)]
theorem mf4_form {gs rs : List (Int × Int)} {has : Bool} {o nx md lc : Int} {xs : List Int} {sa ho si wh su : Int} (h2 : ¬ (sa = 0 ∧ ho = 0 ∧ si = 0 ∧ wh = 0 ∧ su = 0 ∧ ZuP gs has o xs nx md lc rs)) : mf 4 sa ho si wh su gs has o xs nx md lc rs = 1 := by
  unfold mf
  rw [if_neg (by omega), if_neg (by omega), if_neg (by omega), if_pos (fun q => h2 ⟨(q.1 (by omega)).1, (q.1 (by omega)).2.1, (q.1 (by omega)).2.2, (q.2.1 (by omega)).1, (q.2.1 (by omega)).2, q.2.2 (by omega)⟩)]
theorem mf4_ok {gs rs : List (Int × Int)} {has : Bool} {o nx md lc : Int} {xs : List Int} {sa ho si wh su : Int} (h2 : sa = 0 ∧ ho = 0 ∧ si = 0 ∧ wh = 0 ∧ su = 0 ∧ ZuP gs has o xs nx md lc rs) : mf 4 sa ho si wh su gs has o xs nx md lc rs = 0 := by
  unfold mf
  rw [if_neg (by omega), if_neg (by omega), if_neg (by omega), if_neg (fun q => q ⟨fun _ => ⟨h2.1, h2.2.1, h2.2.2.1⟩, fun _ => ⟨h2.2.2.2.1, h2.2.2.2.2.1⟩, fun _ => h2.2.2.2.2.2⟩), if_neg (by omega)]

end Go.Proofs.Ytljkcijakdhdiaa
