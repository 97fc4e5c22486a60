/- What is proved here: what the marking of an entry leaves, for every entry of at most 4194304 bytes. -/
import Derived.Test.YthnigcalboobgaaE10En
import Derived.Test.YthnigcalboobgaaPackLib
namespace Go.Proofs.Ythnigcalboobgaa
open Go.RowKit
set_option linter.unusedVariables false

theorem markEv_any (x y : Int) (a : Option Addr) (n c : Nat) (k : Int) (zs : List Int) (w : World) (h : OwAt w a n c zs) (hm : n ≤ 4194304) (hk0 : 0 ≤ k) (hk : k ≤ 1073741824) :
    Calls Try.prog 63 #[.agg #[.int .i64 x, .int .i64 y, .slice a n c], .int .i64 k] w fun e w' => e = .returned (.int .i64 (k + n)) ∧ OwAt w' a n c (marks k n) ∧ Turn (inA a) w w' := by
  have hw := (New.refl w).alloc (.cells #[.int .i64 x, .int .i64 y, .slice a n c] 42)
  go_enter Try.func63, Try.ntmps63
  go_wp2_with fail
  refine (mark_any a n c k zs _ (h.new hw) hm hk0 hk).mono ?_
  rintro e w1 ⟨rfl, ho1, ht1⟩
  go_wp2
  go_ret
  exact ⟨rfl, ho1, Turn.trans hw.turn ht1 (fun _ _ h => h)⟩

theorem markEn_any (ep x y : Int) (a : Option Addr) (n c : Nat) (k : Int) (zs : List Int) (w : World) (h : OwAt w a n c zs) (hm : n ≤ 4194304) (hk0 : 0 ≤ k) (hk : k ≤ 1073741824) :
    Calls Try.prog 35 #[.agg #[.int .i64 ep, .int .i64 x, .int .i64 y, .slice a n c], .int .i64 k] w fun e w' => e = .returned (.int .i64 (k + n)) ∧ OwAt w' a n c (marks k n) ∧ Turn (inA a) w w' := by
  have hw := (New.refl w).alloc (.cells #[.int .i64 ep, .int .i64 x, .int .i64 y, .slice a n c] 44)
  go_enter Try.func35, Try.ntmps35
  go_wp2_with fail
  refine (markEv_any x y a n c k zs _ (h.new hw) hm hk0 hk).mono ?_
  rintro e w1 ⟨rfl, ho1, ht1⟩
  go_wp2
  go_ret
  exact ⟨rfl, ho1, Turn.trans hw.turn ht1 (fun _ _ h => h)⟩

end Go.Proofs.Ythnigcalboobgaa
