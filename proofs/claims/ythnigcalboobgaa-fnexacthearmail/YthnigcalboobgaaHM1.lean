/- What is proved here: what the model's l12Append answers, all cases as one. -/
import Derived.Test.YthnigcalboobgaaK12Sc
import Derived.Test.YthnigcalboobgaaK12Sx
import Derived.Deep.RegionHeld3
namespace Go.Proofs.Ythnigcalboobgaa
open Go.ChangeShapes Go.WideShapes Go.ChangeAt Go.RowKit
set_option linter.unusedVariables false
set_option linter.unusedSimpArgs false
set_option maxRecDepth 100000

/-- The answer: a mail and a code; the node in its block. -/
def SaAns (w : World) (lo B : Nat) (r : Nr) (e : Ending) (w' : World) : Prop :=
  (∃ z : Int, r = .bad z ∧ ¬ z = 0 ∧ e = .returned (.tuple #[.agg #[.int .i64 0, .int .i64 0, .int .i64 0, .int .i64 0, .int .i64 0, .bool false, .int .i64 0, .int .i64 0, .int .i64 0, .slice none 0 0], .int .i64 z]) ∧ New w w') ∨
  (∃ (a : Int) (A2 : Option Addr) (c2 : Nat) (U : List EkV), r.z = 0 ∧ r.M = [tkM r.id r.ep a] ∧ e = .returned (.tuple #[.agg #[.int .i64 2, .int .i64 (1 - r.id), .int .i64 r.ep, .int .i64 a, .int .i64 0, .bool false, .int .i64 0, .int .i64 0, .int .i64 0, .slice none 0 0], .int .i64 0]) ∧ Blk w' B 39 #[.int .i64 0, .int .i64 r.id, .bool r.up, .int .i64 r.ro, .int .i64 r.ep, .slice A2 r.L.length c2, .int .i64 r.su, .int .i64 r.ma, .int .i64 r.ot, .int .i64 r.co, .slice none 0 0] ∧ U.map EkV.r = r.L ∧ OwL w' lo w'.heap.size (.slice A2 r.L.length c2) U ∧ Turn (fun i => i = B) w w')
theorem saAns_bad {w w' : World} {lo B : Nat} {z : Int} {e : Ending} (hz : ¬ z = 0) (h : e = .returned (.tuple #[.agg #[.int .i64 0, .int .i64 0, .int .i64 0, .int .i64 0, .int .i64 0, .bool false, .int .i64 0, .int .i64 0, .int .i64 0, .slice none 0 0], .int .i64 z]) ∧ New w w') : SaAns w lo B (.bad z) e w' := .inl ⟨z, rfl, hz, h.1, h.2⟩
theorem saAns_mk {w w' : World} {lo B : Nat} {id : Int} {up : Bool} {ro ep su ma ot co at2 : Int} {L : List Ek} {n : Nat} {e : Ending} (hl : L.length = n)
    (h : ∃ A2 c2 U, e = .returned (.tuple #[.agg #[.int .i64 2, .int .i64 (1 - id), .int .i64 ep, .int .i64 at2, .int .i64 0, .bool false, .int .i64 0, .int .i64 0, .int .i64 0, .slice none 0 0], .int .i64 0]) ∧ Blk w' B 39 #[.int .i64 0, .int .i64 id, .bool up, .int .i64 ro, .int .i64 ep, .slice A2 n c2, .int .i64 su, .int .i64 ma, .int .i64 ot, .int .i64 co, .slice none 0 0] ∧ U.map EkV.r = L ∧ OwL w' lo w'.heap.size (.slice A2 n c2) U ∧ Turn (fun i => i = B) w w') : SaAns w lo B ⟨0, id, up, ro, ep, su, ma, ot, co, L, [tkM id ep at2]⟩ e w' := by
  obtain ⟨A2, c2, U, h1, h2, h3, h4, h5⟩ := h
  subst hl
  exact .inr ⟨at2, A2, c2, U, rfl, rfl, h1, h2, h3, h4, h5⟩

theorem sa_any (B lo o : Nat) (id : Int) (up : Bool) (ro ep su ma ot co : Int) (A : Option Addr) (n c : Nat) (V1 : List EkV) (kd tgt me pr : Int) (has : Bool) (e1 k1 p1 : Int) (x : Option Addr) (m d : Nat) (xs : List Int) (w : World) (hb : Blk w B 39 #[.int .i64 0, .int .i64 id, .bool up, .int .i64 ro, .int .i64 ep, .slice A n c, .int .i64 su, .int .i64 ma, .int .i64 ot, .int .i64 co, .slice none 0 0]) (hoL0 : OwL w lo w.heap.size (.slice A n c) V1) (hlo0 : lo ≤ w.heap.size) (hid : id = 0 ∨ id = 1) (hn : n ≤ 100) (hma : 0 ≤ ma ∧ ma ≤ n) (hco : co ≤ n)  (hx : BsAt w x xs) (hX : xs.length = m) (hnx : x = none → m = 0 ∧ d = 0) (hm : m ≤ 1048576) :
    Calls Try.prog 47 #[.pointer (some ⟨B, 1, none⟩), .agg #[.int .i64 kd, .int .i64 tgt, .int .i64 me, .int .i64 (o : Int), .int .i64 pr, .bool has, .int .i64 e1, .int .i64 k1, .int .i64 p1, .slice x m d]] w (SaAns w lo B (haF id up ro ep su ma ot co (V1.map EkV.r) o pr has ⟨e1, k1, p1, xs⟩)) := by
  have hl : (V1.map EkV.r).length = n := by rw [List.length_map]; exact hoL0.lg.2
  unfold haF
  rw [hl]
  by_cases hr : ro = 1
  · subst hr
    rw [if_pos rfl]
    exact (sa_act B lo o id up ep su ma ot co A n c V1 kd tgt me pr has e1 k1 p1 x m d xs w hb hoL0 hlo0 hid hn).mono (fun e w' h => saAns_bad (by decide) h)
  rw [if_neg hr]
  by_cases h1 : n < o ∨ ¬ prevE (V1.map EkV.r) o = pr
  · rw [if_pos h1]
    by_cases h2 : n < o
    · exact (sa_far B lo o id up ro ep su ma ot co A n c V1 kd tgt me pr has e1 k1 p1 x m d xs w hb hoL0 hlo0 hid hn hr h2).mono (fun e w' h => saAns_mk hl h)
    · exact (sa_prev B lo o id up ro ep su ma ot co A n c V1 kd tgt me pr has e1 k1 p1 x m d xs w hb hoL0 hlo0 hid hn hr (by omega) _ rfl (by rcases h1 with h1 | h1; exact absurd h1 h2; exact h1)).mono (fun e w' h => saAns_mk hl h)
  rw [if_neg h1]
  have ho : o ≤ n := by omega
  have hq : prevE (V1.map EkV.r) o = pr := by
    by_cases h : prevE (V1.map EkV.r) o = pr
    · exact h
    · exact absurd (.inr h) h1
  cases has with
  | false =>
    rw [if_pos rfl]
    exact (sa_no B lo o id up ro ep su ma ot co A n c V1 kd tgt me pr e1 k1 p1 x m d xs w hb hoL0 hlo0 hid hn hr ho hq _ _ rfl rfl).mono (fun e w' h => saAns_mk hl h)
  | true =>
    rw [if_neg (by simp)]
    by_cases h3 : o < n ∧ prevE (V1.map EkV.r) (o + 1) = e1
    · rw [if_pos h3]
      exact (sa_same B lo o id up ro ep su ma ot co A n c V1 kd tgt me pr e1 k1 p1 x m d xs w hb hoL0 hlo0 hid hn hr ho hq h3.1 _ rfl h3.2 _ _ rfl rfl).mono (fun e w' h => saAns_mk hl h)
    rw [if_neg h3]
    by_cases h4 : (o : Int) < co
    · rw [if_pos h4]
      exact (sa_taken B lo o id up ro ep su ma ot co A n c V1 kd tgt me pr e1 k1 p1 x m d xs w hb hoL0 hlo0 hid hn hr ho hq (by omega) _ rfl (fun e => h3 ⟨by omega, e⟩) h4).mono (fun e w' h => saAns_bad (by decide) h)
    rw [if_neg h4]
    by_cases h5 : 100 ≤ o
    · rw [if_pos h5]
      exact (sa_full B lo o id up ro ep su ma ot co A n c V1 kd tgt me pr e1 k1 p1 x m d xs w hb hoL0 hlo0 hid hn hr ho hq (by omega) (by omega) h5).mono (fun e w' h => saAns_bad (by decide) h)
    rw [if_neg h5]
    have hl2 : ((V1.map EkV.r).take o ++ [(⟨e1, k1, p1, xs⟩ : Ek)]).length = o + 1 := by rw [List.length_append, List.length_take, hl]; simp; omega
    have hx2 : Hid (max (min ma (o : Int)) ((o : Int) + 1) = (o : Int) + 1) := by unfold Hid; omega
    by_cases h6 : o < n
    · exact (sa_mid B lo o id up ro ep su ma ot co A n c V1 kd tgt me pr e1 k1 p1 x m d xs w hb hoL0 hlo0 hid hn hr ho hq hx hX hnx hm h6 _ rfl (fun e => h3 ⟨h6, e⟩) (by omega) (by omega) _ _ _ rfl rfl hx2 rfl).mono (fun e w' h => saAns_mk hl2 h)
    · exact (sa_end B lo o id up ro ep su ma ot co A n c V1 kd tgt me pr e1 k1 p1 x m d xs w hb hoL0 hlo0 hid hn hr ho hq hx hX hnx hm (by omega) (by omega) (by omega) _ _ _ rfl rfl hx2 rfl).mono (fun e w' h => saAns_mk hl2 h)

end Go.Proofs.Ythnigcalboobgaa
