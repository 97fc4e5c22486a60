/- What is proved here: what the program's reading of prefixes out of bytes answers, for every list of at most 1048576 bytes, three a prefix. -/
import Derived.Test.YtljkcijakdhdiaaUpLaw
import Derived.Test.YtljkcijakdhdiaaAp
import Derived.Maps.AppendAt
namespace Go.Proofs.Ytljkcijakdhdiaa
open Go.RowKit Go.Sort
set_option linter.unusedVariables false

/-- Prefixes of bytes, three each. -/
def rdP : List Int → List (Int × Int)
  | a :: b :: c :: r => (a * 256 + b, c) :: rdP r
  | _ => []
theorem rdP_len : ∀ (k : Nat) (zs : List Int), zs.length = k * 3 → (rdP zs).length = k
  | 0, zs, h => by
    obtain rfl : zs = [] := List.eq_nil_of_length_eq_zero (by omega)
    rfl
  | k + 1, zs, h => by
    match zs, h with
    | a :: b :: c :: r, h =>
      have := rdP_len k r (by simp at h; omega)
      simp [rdP, this]
    | [_], h => simp at h; omega
    | [_, _], h => simp at h; omega
theorem rdP_snoc : ∀ (k : Nat) (zs : List Int) (a b c : Int), zs.length = k * 3 → rdP (zs ++ [a, b, c]) = rdP zs ++ [(a * 256 + b, c)]
  | 0, zs, a, b, c, h => by
    obtain rfl : zs = [] := List.eq_nil_of_length_eq_zero (by omega)
    rfl
  | k + 1, zs, a, b, c, h => by
    match zs, h with
    | x :: y :: z :: r, h =>
      have := rdP_snoc k r a b c (by simp at h; omega)
      simp [rdP, this]
    | [_], h => simp at h; omega
    | [_, _], h => simp at h; omega
theorem take3 {zs : List Int} {t : Nat} {a b c : Int} (h0 : zs[t]? = some a) (h1 : zs[t + 1]? = some b) (h2 : zs[t + 2]? = some c) : zs.take (t + 3) = zs.take t ++ [a, b, c] := by
  rw [take_snoc h2, take_snoc h1, take_snoc h0]
  simp
theorem numAt_two {zs : List Int} {t : Nat} {a b : Int} (h0 : zs[t]? = some a) (h1 : zs[t + 1]? = some b) : numAt zs t 2 = a * 256 + b := by
  have e1 : numAt zs t 1 = numAt zs t 0 * 256 + a := numAt_snoc (k := 0) (by simpa using h0)
  have e0 : numAt zs t 0 = 0 := by simp [numAt, num]
  have e2 : numAt zs t 2 = numAt zs t 1 * 256 + b := numAt_snoc (k := 1) h1
  rw [e2, e1, e0]
  omega
theorem rdP_bd : ∀ (zs : List Int), (∀ z ∈ zs, 0 ≤ z ∧ z ≤ 255) → ∀ p ∈ rdP zs, (0 ≤ p.1 ∧ p.1 ≤ 65535) ∧ (0 ≤ p.2 ∧ p.2 ≤ 255)
  | a :: b :: c :: r, h, p, hp => by
    simp only [rdP, List.mem_cons] at hp
    have ha := h a (by simp)
    have hb := h b (by simp)
    have hc := h c (by simp)
    rcases hp with rfl | hp
    · exact ⟨⟨by show 0 ≤ a * 256 + b; omega, by show a * 256 + b ≤ 65535; omega⟩, hc⟩
    · exact rdP_bd r (fun z hz => h z (by simp [hz])) p hp
  | [], _, p, hp => by simp [rdP] at hp
  | [_], _, p, hp => by simp [rdP] at hp
  | [_, _], _, p, hp => by simp [rdP] at hp

/-- A list of prefixes in memory of the call's own, or nil for none. -/
def OwQ (w : World) (lo : Nat) (v : Value) (L : List (Int × Int)) : Prop := (v = .slice none 0 0 ∧ L = []) ∨ ∃ g c, v = .slice (some ⟨g, 0, none⟩) L.length c ∧ lo ≤ g ∧ OwP w g L.length c L
theorem OwQ.new {w w' : World} {lo : Nat} {v : Value} {L : List (Int × Int)} (h : OwQ w lo v L) (t : New w w') : OwQ w' lo v L := by
  rcases h with h | ⟨g, c, h1, h2, h3⟩
  · exact .inl h
  · exact .inr ⟨g, c, h1, h2, h3.new t⟩
theorem OwQ.low {w : World} {lo lo' : Nat} {v : Value} {L : List (Int × Int)} (h : OwQ w lo v L) (hb : lo' ≤ lo) : OwQ w lo' v L := by
  rcases h with h | ⟨g, c, h1, h2, h3⟩
  · exact .inl h
  · exact .inr ⟨g, c, h1, by omega, h3⟩
/-- Its form, and how it reads. -/
theorem OwQ.ps {w : World} {lo : Nat} {v : Value} {L : List (Int × Int)} (h : OwQ w lo v L) (hb : ∀ p ∈ L, In6 p.1 ∧ In6 p.2) : ∃ a c, v = .slice a L.length c ∧ PsAt w a L ∧ (∀ x, a = some x → lo ≤ x.block ∧ x.block < w.heap.size) := by
  rcases h with ⟨rfl, rfl⟩ | ⟨g, c, rfl, hg, ho⟩
  · exact ⟨none, 0, rfl, PsAt.nil _ _, by intro x hx; cases hx⟩
  · exact ⟨_, c, rfl, ho.ps hb, by intro x hx; obtain rfl := Option.some.inj hx; exact ⟨hg, ho.lt⟩⟩
theorem OwQ.of_own {w : World} {lo n : Nat} {v : Value} {L : List (Int × Int)} (h : w.ownsRow lo 88 2 v n (cellsP L)) (hn : L.length = n) : OwQ w lo v L := by
  subst hn
  rcases Joins.ownsRow_forms h with ⟨rfl, h0⟩ | ⟨g, cap, rfl⟩
  · exact .inl ⟨rfl, List.eq_nil_of_length_eq_zero h0⟩
  · exact .inr ⟨g, cap, rfl, (World.ownsRow.lt h g rfl).1, own_base h⟩

theorem cell_two_q (w : World) (x y : Value) (t : TypeId) : ∀ j u, [x, y][j]? = some u → (w.alloc (.cells #[x, y] t)).cell? ((⟨w.heap.size, 0, none⟩ : Addr).add j) = some u := by
  intro j u hj
  match j, hj with
  | 0, hj => simp at hj; subst hj; simp [Addr.add]
  | 1, hj => simp at hj; subst hj; simp [Addr.add]

theorem own_turnQ {w w' : World} {base n : Nat} {v : Value} {xs : List Value} (h : w.ownsRow base 88 2 v n xs) (t : New w w') : w'.ownsRow base 88 2 v n xs := by
  refine ⟨h.1, ?_⟩
  rcases h.2 with h' | ⟨g', cap', cur, h', hb, hh, r⟩
  · exact .inl h'
  · have hlt : g' < w.heap.size := (Array.getElem?_eq_some_iff.1 hh).1
    exact .inr ⟨g', cap', cur, h', hb, (t.block g' hlt (fun f => f)).trans hh, r⟩

theorem own_blk {w : World} {base n : Nat} {v : Value} {xs : List Value} (h : w.ownsRow base 88 2 v n xs) : ∀ k, v.ownBlock = some k → base ≤ k := by
  intro k hk
  rcases Joins.ownsRow_forms h with ⟨rfl, _⟩ | ⟨g, cap, rfl⟩
  · simp [Value.ownBlock] at hk
  · simp [Value.ownBlock] at hk
    subst hk
    exact (World.ownsRow.lt h g rfl).1

set_option maxRecDepth 100000 in
set_option maxHeartbeats 1600000 in
theorem prefixesOf_any (a : Option Addr) (k c : Nat) (zs : List Int) (w : World) (h : BsAt w a zs) (hn : zs.length = k * 3) (hcc : k * 3 ≤ c) (hm : k * 3 ≤ 1048576) :
    Calls Try.prog 84 #[.slice a (k * 3) c] w fun e w' => ∃ v, e = .returned v ∧ OwQ w' w.heap.size v (rdP zs) ∧ New w w' := by
  obtain ⟨iP, hi, hz0, hz1, hz2⟩ := info_parts Try.infoPx
  have HN : Hid (zs.length = k * 3) := hn
  have HL : Hid ((rdP zs).length = k) := rdP_len k zs hn
  have hfd : ∀ (x y : Int) (W : World), (Instr.field 77 (.agg #[.int .i64 x, .int .i64 y]) 1).run Try.prog W = .ok (.int .i64 y) W := fun _ _ _ => by kernel_rfl
  clear hn
  go_enter Try.func84, Try.ntmps84
  go_wp2
  go_loopw [3, 4] (fun s i wr => ∃ j : Nat, j ≤ k ∧ i = .int .i64 ((j * 3 : Nat) : Int) ∧ wr.ownsRow w.heap.size 88 2 s j (cellsP (rdP (zs.take (j * 3)))) ∧ New w wr) (fun _ i _ => k * 3 - (intOf i).toNat)
  case atStart => exact ⟨0, Nat.zero_le _, rfl, ⟨rfl, .inl ⟨rfl, rfl⟩⟩, New.refl _⟩
  case round =>
    obtain ⟨j, hj, rfl, ho, hnw⟩ := hrel
    by_cases hlt : j < k
    · obtain ⟨b, off, z0, ha, e0, c0, l0, u0⟩ := (h.new hnw).at (j * 3) (by rw [HN.out]; omega)
      have ha' := ha
      subst ha'
      obtain ⟨b1, off1, z1, ha1, e1, c1, l1, u1⟩ := (h.new hnw).at (j * 3 + 1) (by rw [HN.out]; omega)
      obtain ⟨b2, off2, z2, ha2, e2, c2, l2, u2⟩ := h.at (j * 3 + 2) (by rw [HN.out]; omega)
      simp only [Option.some.injEq, Addr.mk.injEq, and_true] at ha2
      obtain ⟨rfl, rfl⟩ := ha2
      have hnum := numAt_two e0 e1
      have hT : Hid (rdP (zs.take ((j + 1) * 3)) = rdP (zs.take (j * 3)) ++ [(z0 * 256 + z1, z2)]) := by
        unfold Hid
        rw [show (j + 1) * 3 = j * 3 + 3 by omega, take3 e0 e1 e2]
        exact rdP_snoc j _ _ _ _ (by rw [List.length_take, HN.out]; omega)
      have E2 : Hid (zs[j * 3 + 2]? = some z2) := e2
      clear e0 e1 e2 ha ha1 c0 c1 c2
      go_wp2_with fail
      refine (implNum_good _ (k * 3) c (j * 3) 2 zs _ (h.new hnw) HN.out hcc hm (by omega) (by omega) (by omega)).mono ?_
      rintro e w1 ⟨rfl, hn1⟩
      rw [hnum]
      have hw1 := hnw.trans hn1
      have hsz := hw1.size
      have ho1 := own_turnQ ho hn1
      have hc2 : w1.cell? ⟨b, off + (j * 3 + 2), none⟩ = some (.int .u8 z2) := by
        obtain ⟨b', off', e', h1', _⟩ := (h.new hw1) (j * 3 + 2) z2 E2.out
        simp only [Option.some.injEq, Addr.mk.injEq, and_true] at e'
        obtain ⟨rfl, rfl⟩ := e'
        exact h1'
      have hwz : IntKind.i64.wrap z2 = z2 := by simp [IntKind.wrap, IntKind.signed, IntKind.bits]; omega
      have hca : ((j * 3 : Nat) : Int) + 2 = ((j * 3 + 2 : Nat) : Int) := by omega
      have hblk := own_blk ho1
      generalize hA : z0 * 256 + z1 = A at *
      have H3 : Hid ((j + 1) * 3 = j * 3 + 3) := by unfold Hid; omega
      go_wp2_with (at_builtin; refine wpList_append_own_at _ rfl _ _ 44 rfl w.heap.size 88 iP (.agg #[.int .i64 0, .int .i64 0]) 2 16 Try.underlying44 hi hz0 hz1 hz2 rfl (by decide) _ _ _ rfl (ho1.alloc _) ⟨w1.heap.size, 0, none⟩ 1 1 [.int .i64 A, .int .i64 z2] rfl rfl (cell_two_q _ _ _ _) (by simp [Value.oneCell']) (by unfold maxLen; omega) (by omega) (by simp; omega) ?_; intro v' w3 hown' hgrow hnil hloc)
      obtain ⟨g', cap', rfl⟩ := Joins.ownsRow_form hown' (by omega)
      have N3 : New w w3 := (hw1.alloc (.cells #[.int .i64 A, .int .i64 z2] 88)).grow hgrow hblk
      have hc : cellsP (rdP (zs.take ((j + 1) * 3))) = cellsP (rdP (zs.take (j * 3))) ++ [.int .i64 A, .int .i64 z2] := by rw [hT.out, cellsP_append]; rfl
      have hrow : w3.ownsRow w.heap.size 88 2 (.slice (some ⟨g', 0, none⟩) (j + 1) cap') (j + 1) (cellsP (rdP (zs.take ((j + 1) * 3)))) := by rw [hc]; exact hown'
      clear hown' hgrow hnil hloc ho ho1 hc
      go_wp2
      go_roundw
      case rel => exact ⟨j + 1, by omega, by go_num, hrow, N3⟩
      case measure => simp [intOf]; omega
    · obtain rfl : j = k := by omega
      go_wp2
      go_ret
      rw [List.take_of_length_le (by rw [HN.out]; omega)] at ho
      exact ⟨_, rfl, OwQ.of_own ho HL.out, hnw⟩

end Go.Proofs.Ytljkcijakdhdiaa
