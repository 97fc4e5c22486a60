/- What is proved here: that a prefix within another one has no address that this has not; that two within each other are one; that the longest one that has an address is within all others that have it; that putting in order what is in order keeps its length. No condition. -/
import Derived.Test.YtefbeaoinikbgaaLgLib
import Derived.Test.YtefbeaoinikbgaaOrLib
namespace Go.Proofs.Ytefbeaoinikbgaa
open Go.RowKit Go.Sort

theorem szp_dvd {l m : Int} (h1 : m ≤ l) : ∃ k : Int, 0 < k ∧ szp m = szp l * k := by
  unfold szp
  refine ⟨2 ^ ((16 - m).toNat - (16 - l).toNat), Int.pow_pos (by omega), ?_⟩
  rw [← Int.pow_add]
  congr 1
  omega

/-- What a multiple leaves of what the part leaves. -/
theorem sub_mod_mul {x a b k : Int} (ha : 0 < a) (hb : b = a * k) : (x - x % a) - (x - x % a) % b = x - x % b := by
  subst hb
  have e1 := Int.mul_ediv_add_emod x a
  have e2 : x - x % a = a * (x / a) := by omega
  rw [e2, Int.mul_emod_mul_of_pos _ _ ha]
  have e3 := Int.mul_ediv_add_emod (x / a) k
  have e4 := Int.mul_ediv_add_emod x (a * k)
  have e5 : x / (a * k) = x / a / k := by rw [Int.ediv_ediv_of_nonneg (by omega)]
  rw [e5] at e4
  have e6 : a * (x / a) = a * (k * (x / a / k)) + a * (x / a % k) := by rw [← Int.mul_add, e3]
  have e7 : a * k * (x / a / k) = a * (k * (x / a / k)) := Int.mul_assoc _ _ _
  omega

theorem hasA_iff {a l x : Int} : hasA a l x = true ↔ pf a l = 0 ∧ 0 ≤ x ∧ x ≤ 65535 ∧ x - x % szp l = a := by simp [hasA, and_assoc]
theorem inP_iff {a l b m : Int} : inP a l b m = true ↔ pf a l = 0 ∧ m ≤ l ∧ hasA b m a = true := by simp [inP, and_assoc]
theorem szp_pos {a l : Int} (h : pf a l = 0) : 0 < szp l := by
  obtain ⟨_, _, h0, h1, _⟩ := pf_ok h
  have := szp_bd h0 h1
  omega

theorem in_has {a l b m x : Int} (h : inP a l b m = true) (hx : hasA a l x = true) : hasA b m x = true := by
  obtain ⟨hp, hm, hb⟩ := inP_iff.1 h
  obtain ⟨hq, _, _, e⟩ := hasA_iff.1 hb
  obtain ⟨_, x0, x1, ex⟩ := hasA_iff.1 hx
  obtain ⟨k, _, hk⟩ := szp_dvd hm
  refine hasA_iff.2 ⟨hq, x0, x1, ?_⟩
  rw [← sub_mod_mul (szp_pos hp) hk, ex, e]

theorem in_both {a l b m : Int} (h : inP a l b m = true) (k : inP b m a l = true) : a = b ∧ l = m := by
  obtain ⟨hp, hm, hb⟩ := inP_iff.1 h
  obtain ⟨_, hl, _⟩ := inP_iff.1 k
  obtain ⟨hq, _, _, e⟩ := hasA_iff.1 hb
  obtain rfl : l = m := by omega
  obtain ⟨_, _, _, _, hz⟩ := pf_ok hp
  exact ⟨by omega, rfl⟩

theorem hs_of_has {p : Int × Int} {x : Int} (h : hasA p.1 p.2 x = true) : hs p x := (hasA_iff.1 h).2.2.2
theorem has_of_hs {p : Int × Int} {x : Int} (h : hs p x) (hp : pf p.1 p.2 = 0) (h0 : 0 ≤ x) (h1 : x ≤ 65535) : hasA p.1 p.2 x = true := hasA_iff.2 ⟨hp, h0, h1, h⟩

theorem best_in {ps : List (Int × Int)} {x : Int} {b i : Nat} {p q : Int × Int} (h : BestTo ps x ps.length b) (hl : lf ps = 0) (hq : ps[b]? = some q) (hp : ps[i]? = some p) (hh : hasA p.1 p.2 x = true) : inP q.1 q.2 p.1 p.2 = true := by
  obtain ⟨hb, q', hq', hsq, hall⟩ := h
  rw [hq] at hq'
  obtain rfl := Option.some.inj hq'
  have hi : i < ps.length := (List.getElem?_eq_some_iff.1 hp).1
  have hle := (hall i p hi hp (hs_of_has hh)).1
  obtain ⟨hpf, x0, x1, ex⟩ := hasA_iff.1 hh
  have hqf := (lf_ok hl).2 q (List.mem_of_getElem? hq)
  obtain ⟨q0, q1, _⟩ := pf_ok hqf
  obtain ⟨k, _, hk⟩ := szp_dvd hle
  refine inP_iff.2 ⟨hqf, hle, hasA_iff.2 ⟨hpf, q0, q1, ?_⟩⟩
  unfold hs at hsq
  rw [← hsq, sub_mod_mul (szp_pos hqf) hk, ex]

theorem lfc_all : ∀ {ps : List (Int × Int)}, (∀ p ∈ ps, pf p.1 p.2 = 0) → lfc ps = 0
  | [], _ => rfl
  | p :: r, h => by
    unfold lfc
    rw [if_pos (h p (by simp))]
    exact lfc_all (fun q hq => h q (by simp [hq]))

theorem fold_nodup : ∀ (ps acc : List (Int × Int)), (acc ++ ps).Nodup → ps.foldl add1 acc = acc ++ ps
  | [], acc, _ => by simp
  | p :: r, acc, h => by
    have hn : p ∉ acc := by
      intro hm
      have := (List.nodup_append.1 h).2.2 p hm p (by simp)
      exact this rfl
    have e : add1 acc p = acc ++ [p] := by unfold add1; rw [if_neg hn]
    rw [List.foldl_cons, e, fold_nodup r (acc ++ [p]) (by simpa using h)]
    simp
theorem once_nodup {ps : List (Int × Int)} (h : ps.Nodup) : once ps = ps := by
  have := fold_nodup ps [] (by simpa using h)
  simpa [once] using this

theorem nodup_sortP (ps : List (Int × Int)) : (sortP ps).Nodup := by
  unfold sortP
  exact (List.mergeSort_perm _ _).nodup_iff.2 (nodup_once ps)

theorem sort_twice (ps : List (Int × Int)) : (sortP (sortP ps)).length = (sortP ps).length := by
  rw [len_sortP (sortP ps), once_nodup (nodup_sortP ps)]
theorem sort_le (ps : List (Int × Int)) : (sortP ps).length ≤ ps.length := by rw [len_sortP]; exact len_once ps
theorem sort_lf {ps : List (Int × Int)} (h : lf ps = 0) : lf (sortP ps) = 0 := by
  obtain ⟨h1, h2⟩ := lf_ok h
  have := sort_le ps
  unfold lf
  rw [if_neg (by omega)]
  exact lfc_all (fun p hp => h2 p (mem_sortP.1 hp))
theorem sort_pos {ps : List (Int × Int)} (h : 0 < ps.length) : 0 < (sortP ps).length := by
  have hm : ps[0] ∈ sortP ps := mem_sortP.2 (List.getElem_mem h)
  exact List.length_pos_of_mem hm

end Go.Proofs.Ytefbeaoinikbgaa
