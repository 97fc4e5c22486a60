/- What is proved here: what the comparing, the marking and the looking for marks in what the reading of an update told answer. What is proved here: what the comparing, the marking and the looking for marks in a whole answer of the reading of an update tell. What is proved here: bounds of what the reading of bytes as an update tells. What is proved here: what is read of bytes has no fault; what is read without a code packs to those bytes; what is packed without a fault reads as it was. -/
import Derived.Test.YtpamejefnegjhaaRdImpl
import Derived.Test.YtpamejefnegjhaaMkLaw
import Derived.Test.YtpamejefnegjhaaUpPack3
namespace Go.Proofs.Ytpamejefnegjhaa
open Go.RowKit Go.Sort
set_option linter.unusedVariables false

theorem In6.of {x : Int} (h0 : 0 ≤ x) (h1 : x ≤ 1099511627776) : In6 x := by unfold In6; omega
theorem mkP_bd (s : Int) (n : Nat) (h0 : 0 ≤ s) (h1 : s ≤ 1073741824) (hn : n ≤ 1048576) : ∀ p ∈ mkP s n, In6 p.1 ∧ In6 p.2 := by
  intro p hp
  obtain ⟨j, hj, rfl⟩ := List.mem_iff_getElem.1 hp
  rw [mkP_len] at hj
  have := mkP_get n s j hj
  rw [List.getElem?_eq_getElem (by rw [mkP_len]; exact hj)] at this
  rw [Option.some.inj this]
  exact ⟨In6.of (by show 0 ≤ s + 2 * (j : Int); omega) (by show s + 2 * (j : Int) ≤ _; omega), In6.of (by show 0 ≤ s + 2 * (j : Int) + 1; omega) (by show s + 2 * (j : Int) + 1 ≤ _; omega)⟩
theorem mkN_bd (s : Int) (n : Nat) (h0 : 0 ≤ s) (h1 : s ≤ 1073741824) (hn : n ≤ 1048576) : ∀ z ∈ mkN s n, In6 z := by
  intro z hz
  unfold mkN at hz
  obtain ⟨i, hi, rfl⟩ := List.mem_map.1 hz
  have := List.mem_range.1 hi
  exact In6.of (by omega) (by omega)

end Go.Proofs.Ytpamejefnegjhaa

namespace Go.Proofs.Ytpamejefnegjhaa
open Go.RowKit Go.Sort
set_option linter.unusedVariables false

theorem OwQ.psA {w : World} {lo n c : Nat} {a : Option Addr} {L : List (Int × Int)} (h : OwQ w lo (.slice a n c) L) (hb : ∀ p ∈ L, In6 p.1 ∧ In6 p.2) : PsAt w a L := by
  obtain ⟨a', c', e, hp, -⟩ := h.ps hb
  simp only [Value.slice.injEq] at e
  obtain ⟨rfl, -, rfl⟩ := e
  exact hp
theorem OwM.nsA {w : World} {lo n c : Nat} {a : Option Addr} {L : List Int} (h : OwM w lo (.slice a n c) L) (hb : ∀ z ∈ L, In6 z) : NsAt w a L := by
  obtain ⟨a', c', e, hp, -⟩ := h.ns hb
  simp only [Value.slice.injEq] at e
  obtain ⟨rfl, -, rfl⟩ := e
  exact hp
theorem OwQ.turnA {w w' : World} {lo : Nat} {v : Value} {L : List (Int × Int)} {S : Nat → Prop} (h : OwQ w lo v L) (t : Turn S w w') (hS : ∀ g, v.ownBlock = some g → ¬ S g) : OwQ w' lo v L := by
  rcases h with h | ⟨g, c, h1, h2, h3⟩
  · exact .inl h
  · exact .inr ⟨g, c, h1, h2, h3.turn t (hS g (by rw [h1]; rfl))⟩
theorem OwM.turnA {w w' : World} {lo : Nat} {v : Value} {L : List Int} {S : Nat → Prop} (h : OwM w lo v L) (t : Turn S w w') (hS : ∀ g, v.ownBlock = some g → ¬ S g) : OwM w' lo v L := by
  rcases h with h | ⟨g, c, h1, h2, h3⟩
  · exact .inl h
  · exact .inr ⟨g, c, h1, h2, h3.turn t (hS g (by rw [h1]; rfl))⟩
theorem OwM.slice {w : World} {lo : Nat} {v : Value} {L : List Int} (h : OwM w lo v L) : ∃ a c, v = .slice a L.length c := by
  rcases h with ⟨rfl, rfl⟩ | ⟨g, c, rfl, _⟩
  · exact ⟨none, 0, rfl⟩
  · exact ⟨_, c, rfl⟩
theorem OwQ.slice {w : World} {lo : Nat} {v : Value} {L : List (Int × Int)} (h : OwQ w lo v L) : ∃ a c, v = .slice a L.length c := by
  rcases h with ⟨rfl, rfl⟩ | ⟨g, c, rfl, _⟩
  · exact ⟨none, 0, rfl⟩
  · exact ⟨_, c, rfl⟩

/-- Bounds of what is told. -/
structure Bd (p : PU) : Prop where
  g : ∀ q ∈ p.gs, In6 q.1 ∧ In6 q.2
  n : ∀ z ∈ p.xs, In6 z
  r : ∀ q ∈ p.rs, In6 q.1 ∧ In6 q.2
  lg : p.gs.length ≤ 1048576
  ln : p.xs.length ≤ 1048576
  lr : p.rs.length ≤ 1048576

/-- What is told, with its lists marked. -/
def mkPU (p : PU) : PU := { p with gs := mkP 1 p.gs.length, xs := mkN (1 + 2 * (p.gs.length : Int)) p.xs.length, rs := mkP (1 + 2 * (p.gs.length : Int) + p.xs.length) p.rs.length }
theorem mkPU_bd {p : PU} (hb : Bd p) : Bd (mkPU p) := by
  have l1 := hb.lg
  have l2 := hb.ln
  have l3 := hb.lr
  refine ⟨mkP_bd _ _ (by omega) (by omega) l1, mkN_bd _ _ (by omega) (by omega) l2, mkP_bd _ _ (by omega) (by omega) l3, ?_, ?_, ?_⟩
  · show (mkP 1 p.gs.length).length ≤ _; rw [mkP_len]; exact l1
  · show (mkN _ p.xs.length).length ≤ _; rw [mkN_len]; exact l2
  · show (mkP _ p.rs.length).length ≤ _; rw [mkP_len]; exact l3
def mkE (p : PU) : Int := 1 + 2 * (p.gs.length : Int) + p.xs.length + 2 * (p.rs.length : Int)

end Go.Proofs.Ytpamejefnegjhaa

namespace Go.Proofs.Ytpamejefnegjhaa
open Go.RowKit Go.Sort
set_option linter.unusedVariables false

theorem rdP_le : ∀ zs : List Int, (rdP zs).length ≤ zs.length
  | a :: b :: c :: r => by have := rdP_le r; simp [rdP]; omega
  | [] => by simp [rdP]
  | [_] => by simp [rdP]
  | [_, _] => by simp [rdP]
theorem bdZ (c : Int) : Bd (puZ c) := ⟨by simp [puZ], by simp [puZ], by simp [puZ], by simp [puZ], by simp [puZ], by simp [puZ]⟩
theorem bdS {L : List (Int × Int)} (h : ∀ q ∈ L, In6 q.1 ∧ In6 q.2) (hl : L.length ≤ 1048576) : Bd (puS L) := ⟨h, by simp [puS], by simp [puS], hl, by simp [puS], by simp [puS]⟩
theorem bdU {L : List (Int × Int)} (h : ∀ q ∈ L, In6 q.1 ∧ In6 q.2) (hl : L.length ≤ 1048576) : Bd (puU L) := ⟨h, by simp [puU], by simp [puU], hl, by simp [puU], by simp [puU]⟩
theorem rdP_in {zs : List Int} (h : ∀ z ∈ zs, 0 ≤ z ∧ z ≤ 255) : ∀ p ∈ rdP zs, In6 p.1 ∧ In6 p.2 := by
  intro p hp
  have := rdP_bd zs h p hp
  unfold In6; omega
theorem rdU_bd (gs : List (Int × Int)) (ls : List Int) (hg : ∀ q ∈ gs, In6 q.1 ∧ In6 q.2) (hgl : gs.length ≤ 1048576) (hz : ∀ z ∈ ls, 0 ≤ z ∧ z ≤ 255) (hl : ls.length ≤ 1048576) : Bd (rdU gs ls) := by
  have ht : ∀ q ∈ gs.take 8, In6 q.1 ∧ In6 q.2 := fun q hq => hg q (List.mem_of_mem_take hq)
  have htl : (gs.take 8).length ≤ 1048576 := by rw [List.length_take]; omega
  unfold rdU
  split
  · split
    · exact bdU hg hgl
    · exact bdS ht htl
  · rename_i z h0
    have hb := hz z (List.mem_of_getElem? h0)
    split
    · exact bdS ht htl
    · have hr := rdP_in (zs := ls.drop (8 + 2 * z.toNat)) (fun x hx => hz x (List.mem_of_mem_drop hx))
      split
      · refine ⟨hg, ?_, hr, hgl, ?_, ?_⟩
        · intro x hx
          unfold puA nsR at hx
          obtain ⟨i, _, rfl⟩ := List.mem_map.1 hx
          have := numAt_bd2 ls hz (1 + 2 * i)
          unfold In6; omega
        · show (nsR ls z.toNat).length ≤ _
          rw [nsR_len]; omega
        · show (rdP (ls.drop (8 + 2 * z.toNat))).length ≤ _
          have := rdP_le (ls.drop (8 + 2 * z.toNat))
          rw [List.length_drop] at this
          omega
      · refine bdS ?_ ?_
        · intro q hq
          rcases List.mem_append.1 (List.mem_of_mem_take hq) with h | h
          · exact hg q h
          · exact hr q (List.mem_filter.1 h).1
        · rw [List.length_take]; omega
theorem pu_bd (zs : List Int) (hz : ∀ z ∈ zs, 0 ≤ z ∧ z ≤ 255) (hl : zs.length ≤ 1048576) : Bd (pu zs) := by
  unfold pu
  split
  · exact bdZ 5
  · rename_i z h0
    split
    · exact bdZ 5
    · split
      · exact bdZ 3
      · refine rdU_bd _ _ (rdP_in (fun x hx => hz x (List.mem_of_mem_drop (List.mem_of_mem_take hx)))) ?_ (fun x hx => hz x (List.mem_of_mem_drop hx)) (by rw [List.length_drop]; omega)
        have := rdP_le ((zs.drop 1).take (z.toNat * 3))
        rw [List.length_take, List.length_drop] at this
        show (rdP ((zs.drop 1).take (z.toNat * 3))).length ≤ _
        omega

end Go.Proofs.Ytpamejefnegjhaa

namespace Go.Proofs.Ytpamejefnegjhaa
open Go.RowKit Go.Sort
set_option linter.unusedVariables false

theorem lfc_nought : ∀ {ps : List (Int × Int)}, (∀ p ∈ ps, pf p.1 p.2 = 0) → lfc ps = 0
  | [], _ => rfl
  | p :: r, h => by
    unfold lfc
    rw [if_pos (h p (by simp))]
    exact lfc_nought (fun q hq => h q (by simp [hq]))
theorem uf_gs {gs : List (Int × Int)} (h : ∀ p ∈ gs, pf p.1 p.2 = 0) (hl : gs.length ≤ 8) : uf gs false 0 [] 0 0 0 [] = 0 := by
  have h0 : lf gs = 0 := by unfold lf; rw [if_neg (by omega), lfc_nought h]
  unfold uf
  rw [if_neg (by simp; omega), h0]
  simp [lf, lfc, ZaP]
theorem okL_ok (ps : List (Int × Int)) : ∀ p ∈ okL ps, pf p.1 p.2 = 0 := by
  intro p hp
  simpa using (List.mem_filter.1 hp).2
theorem ufS {L : List (Int × Int)} (h : ∀ p ∈ L, pf p.1 p.2 = 0) : ufU (puS (L.take 8)) = 0 :=
  uf_gs (gs := L.take 8) (fun p hp => h p (List.mem_of_mem_take hp)) (by rw [List.length_take]; omega)
theorem rdU_uf (gs : List (Int × Int)) (ls : List Int) (hg : ∀ p ∈ gs, pf p.1 p.2 = 0) : ufU (rdU gs ls) = 0 := by
  unfold rdU
  split
  · split
    · assumption
    · exact ufS hg
  · split
    · exact ufS hg
    · split
      · assumption
      · refine ufS ?_
        intro p hp
        rcases List.mem_append.1 hp with h | h
        · exact hg p h
        · exact okL_ok _ p h
/-- What is read of bytes has no fault. -/
theorem pu_uf (zs : List Int) : ufU (pu zs) = 0 := by
  unfold pu
  split
  · exact uf_gs (gs := []) (by simp) (by simp)
  · split
    · exact uf_gs (gs := []) (by simp) (by simp)
    · split
      · exact uf_gs (gs := []) (by simp) (by simp)
      · rename_i h
        exact rdU_uf _ _ ((ixF_neg _).1 (by omega))

theorem pxB_rdP : ∀ (k : Nat) (zs : List Int), zs.length = k * 3 → (∀ z ∈ zs, 0 ≤ z ∧ z ≤ 255) → pxB (rdP zs) = zs
  | 0, zs, h, _ => by
    obtain rfl : zs = [] := List.eq_nil_of_length_eq_zero (by omega)
    rfl
  | k + 1, zs, h, hb => by
    match zs, h, hb with
    | a :: b :: c :: r, h, hb =>
      have ih := pxB_rdP k r (by simp at h; omega) (fun z hz => hb z (by simp [hz]))
      have h1 := hb a (by simp)
      have h2 := hb b (by simp)
      have e1 : (a * 256 + b) / 256 = a := by omega
      have e2 : (a * 256 + b) % 256 = b := by omega
      simp only [rdP, pxB, List.flatMap_cons, e1, e2]
      rw [show (rdP r).flatMap (fun p => [p.1 / 256, p.1 % 256, p.2]) = pxB (rdP r) from rfl, ih]
      rfl
    | [_], h, _ => simp at h; omega
    | [_, _], h, _ => simp at h; omega
theorem rdP_pxB : ∀ (ps : List (Int × Int)), rdP (pxB ps) = ps
  | [] => rfl
  | (x, y) :: r => by
    have ih := rdP_pxB r
    have e : x / 256 * 256 + x % 256 = x := by omega
    show rdP (x / 256 :: x % 256 :: y :: pxB r) = _
    simp only [rdP, e, ih]
/-- Numbers of two bytes each, one behind the other. -/
theorem nsB_nsR : ∀ (k : Nat) (ls : List Int), (∀ z ∈ ls, 0 ≤ z ∧ z ≤ 255) → 1 + 2 * k ≤ ls.length → nsB (nsR ls k) = (ls.drop 1).take (k * 2)
  | 0, ls, _, _ => by simp [nsR, nsB]
  | k + 1, ls, hb, hl => by
    have ih := nsB_nsR k ls hb (by omega)
    obtain ⟨x, hx⟩ : ∃ x, ls[1 + 2 * k]? = some x := ⟨_, List.getElem?_eq_getElem (by omega)⟩
    obtain ⟨y, hy⟩ : ∃ y, ls[1 + 2 * k + 1]? = some y := ⟨_, List.getElem?_eq_getElem (by omega)⟩
    have h1 := hb x (List.mem_of_getElem? hx)
    have h2 := hb y (List.mem_of_getElem? hy)
    have e1 : (x * 256 + y) / 256 = x := by omega
    have e2 : (x * 256 + y) % 256 = y := by omega
    have d1 : (ls.drop 1)[k * 2]? = some x := by rw [List.getElem?_drop, show 1 + k * 2 = 1 + 2 * k by omega]; exact hx
    have d2 : (ls.drop 1)[k * 2 + 1]? = some y := by rw [List.getElem?_drop, show 1 + (k * 2 + 1) = 1 + 2 * k + 1 by omega]; exact hy
    rw [nsR_succ, nsB_snoc, ih, numAt_two hx hy, e1, e2, show (k + 1) * 2 = k * 2 + 1 + 1 by omega, take_snoc d2, take_snoc d1]
    simp
theorem take7 {ls : List Int} {t : Nat} {a b c d e f g : Int} (h0 : ls[t]? = some a) (h1 : ls[t + 1]? = some b) (h2 : ls[t + 2]? = some c) (h3 : ls[t + 3]? = some d) (h4 : ls[t + 4]? = some e) (h5 : ls[t + 5]? = some f) (h6 : ls[t + 6]? = some g) : ls.take (t + 7) = ls.take t ++ [a, b, c, d, e, f, g] := by
  rw [take_snoc h6, take_snoc h5, take_snoc h4, take_snoc h3, take_snoc h2, take_snoc h1, take_snoc h0]
  simp
/-- Attributes that are read pack to what they were read of. -/
theorem atB_rd {ls : List Int} {k : Nat} (hb : ∀ z ∈ ls, 0 ≤ z ∧ z ≤ 255) (h0 : ls[0]? = some (k : Int)) (hl : 8 + 2 * k ≤ ls.length) :
    atB (ls[1 + 2 * k]?.getD 0) (nsR ls k) (numAt ls (2 + 2 * k) 2) (numAt ls (4 + 2 * k) 2) (numAt ls (6 + 2 * k) 2) = ls.take (8 + 2 * k) := by
  have get : ∀ i, i < ls.length → ∃ x, ls[i]? = some x ∧ 0 ≤ x ∧ x ≤ 255 := fun i hi => ⟨_, List.getElem?_eq_getElem hi, hb _ (List.getElem_mem _)⟩
  obtain ⟨o, ho, -⟩ := get (1 + 2 * k) (by omega)
  obtain ⟨a, ha, a0, a1⟩ := get (1 + 2 * k + 1) (by omega)
  obtain ⟨b, hb', b0, b1⟩ := get (1 + 2 * k + 2) (by omega)
  obtain ⟨c, hc, c0, c1⟩ := get (1 + 2 * k + 3) (by omega)
  obtain ⟨d, hd, d0, d1⟩ := get (1 + 2 * k + 4) (by omega)
  obtain ⟨e, he, e0, e1⟩ := get (1 + 2 * k + 5) (by omega)
  obtain ⟨f, hf, f0, f1⟩ := get (1 + 2 * k + 6) (by omega)
  have n1 : numAt ls (2 + 2 * k) 2 = a * 256 + b := numAt_two (by rw [show 2 + 2 * k = 1 + 2 * k + 1 by omega]; exact ha) (by rw [show 2 + 2 * k + 1 = 1 + 2 * k + 2 by omega]; exact hb')
  have n2 : numAt ls (4 + 2 * k) 2 = c * 256 + d := numAt_two (by rw [show 4 + 2 * k = 1 + 2 * k + 3 by omega]; exact hc) (by rw [show 4 + 2 * k + 1 = 1 + 2 * k + 4 by omega]; exact hd)
  have n3 : numAt ls (6 + 2 * k) 2 = e * 256 + f := numAt_two (by rw [show 6 + 2 * k = 1 + 2 * k + 5 by omega]; exact he) (by rw [show 6 + 2 * k + 1 = 1 + 2 * k + 6 by omega]; exact hf)
  have x1 : (a * 256 + b) / 256 = a := by omega
  have x2 : (a * 256 + b) % 256 = b := by omega
  have y1 : (c * 256 + d) / 256 = c := by omega
  have y2 : (c * 256 + d) % 256 = d := by omega
  have z1 : (e * 256 + f) / 256 = e := by omega
  have z2 : (e * 256 + f) % 256 = f := by omega
  have t1 : ls.take (1 + 2 * k) = [(k : Int)] ++ (ls.drop 1).take (k * 2) := by
    rw [show 1 + 2 * k = 1 + k * 2 by omega, List.take_add]
    congr 1
    have := take_snoc (k := 0) h0
    simpa using this
  rw [show 8 + 2 * k = 1 + 2 * k + 7 by omega, take7 ho ha hb' hc hd he hf, t1]
  unfold atB
  rw [nsR_len, nsB_nsR k ls hb (by omega), ho, n1, n2, n3, x1, x2, y1, y2, z1, z2]
  simp
/-- What is read without a code packs to the bytes that it was read of. -/
theorem upB_pu (zs : List Int) (hb : ∀ z ∈ zs, 0 ≤ z ∧ z ≤ 255) (hc : (pu zs).code = 0) : upB (pu zs).gs (pu zs).has (pu zs).o (pu zs).xs (pu zs).nx (pu zs).md (pu zs).lc (pu zs).rs = zs := by
  cases h0 : zs[0]? with
  | none => simp [pu, h0, puZ] at hc
  | some z0 =>
    have hz := hb z0 (List.mem_of_getElem? h0)
    obtain ⟨k, rfl⟩ : ∃ k : Nat, z0 = (k : Int) := ⟨z0.toNat, by omega⟩
    have hpu := pu_some h0
    by_cases hs : zs.length < 1 + 3 * k
    · rw [hpu, if_pos hs] at hc
      simp [puZ] at hc
    · rw [if_neg hs] at hpu
      by_cases hx : 0 ≤ ixF (gnL zs k)
      · rw [hpu, if_pos hx] at hc
        simp [puZ] at hc
      · rw [if_neg hx] at hpu
        have hzl : ((zs.drop 1).take (k * 3)).length = k * 3 := by rw [List.length_take, List.length_drop]; omega
        have hgl : (gnL zs k).length = k := rdP_len k _ hzl
        have hgb : pxB (gnL zs k) = (zs.drop 1).take (k * 3) := pxB_rdP k _ hzl (fun z hz => hb z (List.mem_of_mem_drop (List.mem_of_mem_take hz)))
        have hhd : [(k : Int)] ++ (zs.drop 1).take (k * 3) = zs.take (1 + 3 * k) := by
          rw [show 1 + 3 * k = 1 + k * 3 by omega, List.take_add]
          congr 1
          have := take_snoc (k := 0) h0
          simpa using this.symm
        cases h1 : (zs.drop (1 + 3 * k))[0]? with
        | none =>
          have hnil : zs.drop (1 + 3 * k) = [] := by
            have := List.getElem?_eq_none_iff.1 h1
            exact List.eq_nil_of_length_eq_zero (by omega)
          rw [hnil] at hpu
          by_cases hu : ufU (puU (gnL zs k)) = 0
          · have hp : pu zs = puU (gnL zs k) := by rw [hpu]; show (if ufU (puU (gnL zs k)) = 0 then puU (gnL zs k) else puS ((gnL zs k).take 8)) = _; rw [if_pos hu]
            rw [hp]
            unfold upB puU
            simp only [hgl, hgb, Bool.false_eq_true, if_false, List.append_nil]
            rw [hhd]
            have := List.drop_eq_nil_iff.1 hnil
            exact List.take_of_length_le this
          · have hp : pu zs = puS ((gnL zs k).take 8) := by rw [hpu]; show (if ufU (puU (gnL zs k)) = 0 then puU (gnL zs k) else puS ((gnL zs k).take 8)) = _; rw [if_neg hu]
            rw [hp] at hc
            simp [puS] at hc
        | some z1 =>
          obtain ⟨ls, hls⟩ : ∃ ls, ls = zs.drop (1 + 3 * k) := ⟨_, rfl⟩
          rw [← hls] at h1 hpu
          have hlb : ∀ z ∈ ls, 0 ≤ z ∧ z ≤ 255 := fun z hz => hb z (List.mem_of_mem_drop (hls ▸ hz))
          have hz1 := hlb z1 (List.mem_of_getElem? h1)
          obtain ⟨k1, rfl⟩ : ∃ k1 : Nat, z1 = (k1 : Int) := ⟨z1.toNat, by omega⟩
          rw [rdU_some h1] at hpu
          by_cases hsh : ls.length < 8 + 2 * k1 + 3 ∨ (ls.length - (8 + 2 * k1)) % 3 ≠ 0
          · rw [hpu, if_pos hsh] at hc
            simp [puS] at hc
          · rw [if_neg hsh] at hpu
            by_cases hu : ufU (puA (gnL zs k) k1 ls) = 0
            · rw [if_pos hu] at hpu
              rw [hpu]
              have hdl : (ls.drop (8 + 2 * k1)).length = ((ls.length - (8 + 2 * k1)) / 3) * 3 := by rw [List.length_drop]; omega
              have hrp := pxB_rdP _ _ hdl (fun z hz => hlb z (List.mem_of_mem_drop hz))
              have hat := atB_rd hlb h1 (by omega)
              unfold upB puA
              simp only [if_true]
              rw [hgl, hgb, hat, hrp, hhd, List.take_append_drop, hls, List.take_append_drop]
            · rw [hpu, if_neg hu] at hc
              simp [puS] at hc

end Go.Proofs.Ytpamejefnegjhaa
