/- What is proved here: what the marking of a message leaves, for lists of the call's own of at most 1048576 elements. -/
import Derived.Test.YtdmcbnmaknpkmaaMkLaw
namespace Go.Proofs.Ytdmcbnmaknpkmaa
open Go.RowKit Go.Sort
set_option linter.unusedVariables false

set_option maxHeartbeats 1600000 in
theorem markMs_t (p q r gn gc n c rn rc : Nat) (has : Bool) (o nx md lc s : Int) (kd sa ho si wh su : Int) (gs rs : List (Int × Int)) (xs : List Int) (w : World) (hp : OwP w p gn gc gs) (hq : OwN w q n c xs) (hr : OwP w r rn rc rs) (hpq : ¬ p = q) (hpr : ¬ p = r) (hqr : ¬ q = r) (h1 : gn ≤ 1048576) (h2 : n ≤ 1048576) (h3 : rn ≤ 1048576) (hs0 : 0 ≤ s) (hs1 : s ≤ 1048576) :
    Calls Try.prog 10 #[.agg #[.int .i64 kd, .int .i64 sa, .int .i64 ho, .int .i64 si, .int .i64 wh, .int .i64 su, .slice (some ⟨p, 0, none⟩) gn gc, .bool has, .int .i64 o, .slice (some ⟨q, 0, none⟩) n c, .int .i64 nx, .int .i64 md, .int .i64 lc, .slice (some ⟨r, 0, none⟩) rn rc], .int .i64 s] w fun e w' => e = .returned (.int .i64 (s + 2 * (gn : Int) + n + 2 * (rn : Int))) ∧ OwP w' p gn gc (mkP s gn) ∧ OwN w' q n c (mkN (s + 2 * (gn : Int)) n) ∧ OwP w' r rn rc (mkP (s + 2 * (gn : Int) + n) rn) ∧ Turn (fun k => k = p ∨ k = q ∨ k = r) w w' := by
  have hw := (New.refl w).alloc (.cells #[.int .i64 kd, .int .i64 sa, .int .i64 ho, .int .i64 si, .int .i64 wh, .int .i64 su, .slice (some ⟨p, 0, none⟩) gn gc, .bool has, .int .i64 o, .slice (some ⟨q, 0, none⟩) n c, .int .i64 nx, .int .i64 md, .int .i64 lc, .slice (some ⟨r, 0, none⟩) rn rc] 40)
  go_enter Try.func10, Try.ntmps10
  go_wp2_with fail
  refine (markUp_t p q r gn gc n c rn rc has o nx md lc s gs rs xs _ (hp.new hw) (hq.new hw) (hr.new hw) hpq hpr hqr h1 h2 h3 hs0 hs1).mono ?_
  rintro e w1 ⟨rfl, o1, o2, o3, ht1⟩
  go_wp2
  go_ret
  exact ⟨rfl, o1, o2, o3, Turn.trans hw.turn ht1 (fun _ _ e => e)⟩

end Go.Proofs.Ytdmcbnmaknpkmaa
