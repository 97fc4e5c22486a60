/- What is proved here: what the program's reading of the prefixes that are gone answers: a panic with a code, or the prefixes and the bytes behind them. -/
import Derived.Test.YtljkcijakdhdiaaRdAt
import Derived.Defers
import Derived.Recover
import Derived.WalkSmall
namespace Go.Proofs.Ytljkcijakdhdiaa
open Go.RowKit Go.Sort
set_option linter.unusedVariables false

/-- What the readers panic with where nothing can be taken back: a code alone. -/
def unrV (code : Int) : Value := .iface 93 (.agg #[.int .i64 code, .bool false, .slice none 0 0, .bool false, .int .i64 0, .slice none 0 0, .int .i64 0, .int .i64 0, .int .i64 0, .slice none 0 0])

theorem readGone_empty (a : Option Addr) (c : Nat) (w : World) :
    Calls Try.prog 73 #[.slice a 0 c] w fun e w' => e = .panicked [{ v := unrV 5, recovered := false }] ∧ w' = w := by
  go_enter Try.func73, Try.ntmps73
  go_wp2
  exact ⟨rfl, rfl, rfl⟩

theorem readGone_short (b off n c k : Nat) (w : World) (hc : w.cell? ⟨b, off, none⟩ = some (.int .u8 (k : Int))) (hk : k ≤ 255) (hn : 0 < n) (hm : n ≤ 1048576) (hs : n < 1 + 3 * k) :
    Calls Try.prog 73 #[.slice (some ⟨b, off, none⟩) n c] w fun e w' => e = .panicked [{ v := unrV 5, recovered := false }] ∧ w' = w := by
  have hne : ((n : Int) == 0) = false := by simp; omega
  have hwk : IntKind.i64.wrap (k : Int) = (k : Int) := by simp [IntKind.wrap, IntKind.signed, IntKind.bits]; omega
  have hn' : (0 : Int) < (n : Int) := by omega
  go_enter Try.func73, Try.ntmps73
  go_wp2
  exact ⟨rfl, rfl, rfl⟩

/-- What is read as gone. -/
def gnL (zs : List Int) (k : Nat) : List (Int × Int) := rdP ((zs.drop 1).take (k * 3))
theorem BsAt.drop {w : World} {b off : Nat} {zs : List Int} (h : BsAt w (some ⟨b, off, none⟩) zs) (t : Nat) : BsAt w (some ⟨b, off + t, none⟩) (zs.drop t) := by
  intro i z hz
  rw [List.getElem?_drop] at hz
  obtain ⟨b', off', e, hc, hb⟩ := h _ z hz
  simp only [Option.some.injEq, Addr.mk.injEq, and_true] at e
  obtain ⟨rfl, rfl⟩ := e
  exact ⟨b, off + t, rfl, by rw [Nat.add_assoc]; exact hc, hb⟩

set_option maxHeartbeats 1600000 in
theorem readGone_bad (b off n c k : Nat) (zs : List Int) (w : World) (h : BsAt w (some ⟨b, off, none⟩) zs) (hn : zs.length = n) (hcc : n ≤ c) (h0 : zs[0]? = some (k : Int)) (hk : k ≤ 255) (hm : n ≤ 1048576) (hs : 1 + 3 * k ≤ n) (hbad : ∃ p ∈ gnL zs k, pf p.1 p.2 ≠ 0) :
    Calls Try.prog 73 #[.slice (some ⟨b, off, none⟩) n c] w fun e w' => e = .panicked [{ v := unrV 3, recovered := false }] ∧ New w w' := by
  have hk0 : 0 < k := by
    rcases Nat.eq_zero_or_pos k with rfl | hp
    · simp [gnL, rdP] at hbad
    · exact hp
  have hne : ((n : Int) == 0) = false := by simp; omega
  have hwk : IntKind.i64.wrap (k : Int) = (k : Int) := by simp [IntKind.wrap, IntKind.signed, IntKind.bits]; omega
  have hn' : (0 : Int) < (n : Int) := by omega
  have hc : w.cell? ⟨b, off, none⟩ = some (.int .u8 (k : Int)) := by
    obtain ⟨b', off', e', h1', _⟩ := h 0 _ h0
    simp only [Option.some.injEq, Addr.mk.injEq, and_true] at e'
    obtain ⟨rfl, rfl⟩ := e'
    simpa using h1'
  have hzl : ((zs.drop 1).take (k * 3)).length = k * 3 := by rw [List.length_take, List.length_drop, hn]; omega
  have HB : Hid (∀ p ∈ gnL zs k, In6 p.1 ∧ In6 p.2) := fun p hp => by
    have := rdP_bd _ (fun z hz => h.lt z (List.mem_of_mem_drop (List.mem_of_mem_take hz))) p hp
    unfold In6; omega
  have HL : Hid ((gnL zs k).length = k) := rdP_len k _ hzl
  have HZ : Hid (((zs.drop 1).take (k * 3)).length = k * 3) := hzl
  have hbs : BsAt w (some ⟨b, off + 1, none⟩) ((zs.drop 1).take (k * 3)) := (h.drop 1).take (k * 3)
  have h3 : 3 * k = k * 3 := Nat.mul_comm _ _
  have hc1 : ¬ c = 1 := by omega
  have HV : Hid (decide (∃ p ∈ gnL zs k, pf p.1 p.2 ≠ 0) = true) := by unfold Hid; simpa using hbad
  clear hn hzl hbad
  go_enter Try.func73, Try.ntmps73
  go_wp2_with fail
  rw [h3]
  refine (prefixesOf_any _ k (c - 1) _ _ hbs HZ.out (by omega) (by omega)).mono ?_
  rintro e w1 ⟨v, rfl, hq, hn1⟩
  obtain ⟨a1, c1, rfl, hps, -⟩ := OwQ.ps (L := gnL zs k) hq HB.out
  rw [HL.out]
  go_wp2_with fail
  refine (contains_is a1 k c1 (gnL zs k) true _ hps HL.out (by omega) HV.out).mono ?_
  rintro e w2 ⟨rfl, hn2⟩
  go_wp2
  exact ⟨rfl, rfl, hn1.trans hn2⟩

set_option maxHeartbeats 1600000 in
theorem readGone_ok (b off n c k : Nat) (zs : List Int) (w : World) (h : BsAt w (some ⟨b, off, none⟩) zs) (hn : zs.length = n) (hcc : n ≤ c) (h0 : zs[0]? = some (k : Int)) (hk : k ≤ 255) (hm : n ≤ 1048576) (hs : 1 + 3 * k ≤ n) (hgood : ∀ p ∈ gnL zs k, pf p.1 p.2 = 0) :
    Calls Try.prog 73 #[.slice (some ⟨b, off, none⟩) n c] w fun e w' => ∃ (a1 : Option Addr) (c1 o2 : Nat), e = .returned (.tuple #[.slice a1 k c1, .slice (some ⟨b, o2, none⟩) (n - (1 + 3 * k)) (c - (1 + 3 * k))]) ∧ OwQ w' w.heap.size (.slice a1 k c1) (gnL zs k) ∧ (1 + 3 * k < c → o2 = off + (1 + 3 * k)) ∧ New w w' := by
  have hne : ((n : Int) == 0) = false := by simp; omega
  have hwk : IntKind.i64.wrap (k : Int) = (k : Int) := by simp [IntKind.wrap, IntKind.signed, IntKind.bits]; omega
  have hn' : (0 : Int) < (n : Int) := by omega
  have hc : w.cell? ⟨b, off, none⟩ = some (.int .u8 (k : Int)) := by
    obtain ⟨b', off', e', h1', _⟩ := h 0 _ h0
    simp only [Option.some.injEq, Addr.mk.injEq, and_true] at e'
    obtain ⟨rfl, rfl⟩ := e'
    simpa using h1'
  have hzl : ((zs.drop 1).take (k * 3)).length = k * 3 := by rw [List.length_take, List.length_drop, hn]; omega
  have HB : Hid (∀ p ∈ gnL zs k, In6 p.1 ∧ In6 p.2) := fun p hp => by
    have := rdP_bd _ (fun z hz => h.lt z (List.mem_of_mem_drop (List.mem_of_mem_take hz))) p hp
    unfold In6; omega
  have HL : Hid ((gnL zs k).length = k) := rdP_len k _ hzl
  have HZ : Hid (((zs.drop 1).take (k * 3)).length = k * 3) := hzl
  have hbs : BsAt w (some ⟨b, off + 1, none⟩) ((zs.drop 1).take (k * 3)) := (h.drop 1).take (k * 3)
  have h3 : 3 * k = k * 3 := Nat.mul_comm _ _
  have HV : Hid (decide (∃ p ∈ gnL zs k, pf p.1 p.2 ≠ 0) = false) := by
    unfold Hid
    simp only [decide_eq_false_iff_not]
    rintro ⟨p, hp, hq⟩
    exact hq (hgood p hp)
  clear hn hzl hgood
  by_cases hc1 : c = 1
  · subst hc1
    obtain rfl : k = 0 := by omega
    obtain rfl : n = 1 := by omega
    go_enter Try.func73, Try.ntmps73
    go_wp2_with fail
    refine (prefixesOf_any (some ⟨b, off, none⟩) 0 0 [] _ (BsAt.nil _ _) rfl (by omega) (by omega)).mono ?_
    rintro e w1 ⟨v, rfl, hq, hn1⟩
    have hq' : OwQ w1 w.heap.size v (gnL zs 0) := by simpa [gnL, rdP] using hq
    obtain ⟨a1, c1, rfl, hps, -⟩ := OwQ.ps (L := gnL zs 0) hq' HB.out
    rw [HL.out] at hq' ⊢
    go_wp2_with fail
    refine (contains_is a1 0 c1 (gnL zs 0) false _ hps HL.out (by omega) HV.out).mono ?_
    rintro e w2 ⟨rfl, hn2⟩
    have w2' : New w w2 := hn1.trans hn2
    have hq2 := hq'.new hn2
    clear hq hps hbs hq'
    go_wp2_with fail
    go_quiet (fail)
    go_wp2
    refine bodyPost_ret (v := .tuple #[.slice a1 0 c1, .slice (some ⟨b, off, none⟩) 0 0]) (by simp [results, Try.results73, go_sem]) rfl ⟨a1, c1, off, by simp, hq2.new ((New.refl _).drewN _), fun h => by omega, w2'.drewN _⟩
  · go_enter Try.func73, Try.ntmps73
    go_wp2_with fail
    rw [h3]
    refine (prefixesOf_any _ k (c - 1) _ _ hbs HZ.out (by omega) (by omega)).mono ?_
    rintro e w1 ⟨v, rfl, hq, hn1⟩
    have hq' := hq
    obtain ⟨a1, c1, rfl, hps, -⟩ := OwQ.ps (L := gnL zs k) hq HB.out
    rw [HL.out] at hq' ⊢
    go_wp2_with fail
    refine (contains_is a1 k c1 (gnL zs k) false _ hps HL.out (by omega) HV.out).mono ?_
    rintro e w2 ⟨rfl, hn2⟩
    have w2' : New w w2 := hn1.trans hn2
    have hq2 := hq'.new hn2
    clear hq hps hbs hq'
    by_cases hce : c = 1 + 3 * k
    · subst hce
      obtain rfl : n = 1 + 3 * k := by omega
      go_wp2_with fail
      go_quiet (fail)
      go_wp2
      refine bodyPost_ret (v := .tuple #[.slice a1 k c1, .slice (some ⟨b, off, none⟩) 0 0]) (by simp [results, Try.results73, go_sem]; omega) rfl ⟨a1, c1, off, by simp, hq2.new ((New.refl _).drewN _), fun h => by omega, w2'.drewN _⟩
    · go_wp2_with fail
      go_quiet (fail)
      go_wp2
      refine bodyPost_ret (v := .tuple #[.slice a1 k c1, .slice (some ⟨b, off + (1 + 3 * k), none⟩) (n - (1 + 3 * k)) (c - (1 + 3 * k))]) (by simp [results, Try.results73, go_sem]) rfl ⟨a1, c1, off + (1 + 3 * k), rfl, hq2.new ((New.refl _).drewN _), fun _ => rfl, w2'.drewN _⟩

end Go.Proofs.Ytljkcijakdhdiaa
