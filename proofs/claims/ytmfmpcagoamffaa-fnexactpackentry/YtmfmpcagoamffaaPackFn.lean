/- What is proved here: what the two packings of a frame answer, for every frame whose body has at most 1048576 bytes. -/
import Derived.Test.YtmfmpcagoamffaaPackLib
namespace Go.Proofs.Ytmfmpcagoamffaa
open Go.RowKit

/-- What PackFrame answers: the fault, or the frame's bytes in new memory. -/
def PackAns (w : World) (k : Int) (zs : List Int) (e : Ending) (w' : World) : Prop :=
  ∃ (a : Option Addr) (m cap : Nat) (ys : List Int), e = .returned (.agg #[.int .i64 (ff k zs.length), .slice a m cap]) ∧ OwAt w' a m cap ys ∧ (∀ z ∈ ys, 0 ≤ z ∧ z ≤ 255) ∧ (∀ x, a = some x → w.heap.size ≤ x.block ∧ x.block < w'.heap.size) ∧ New w w' ∧
    ys = (if ff k zs.length = 0 then packOf k zs else []) ∧ (a = none → m = 0 ∧ cap = 0)

theorem ff_zero {k : Int} {n : Nat} (h : ff k n = 0) : 1 ≤ k ∧ k ≤ 4 ∧ n ≤ 120 := by
  unfold ff at h
  split at h
  · omega
  · split at h
    · omega
    · omega

set_option maxHeartbeats 400000 in
theorem eqBR_any (x : Int) (a b : Option Addr) (n c d : Nat) (zs : List Int) (w : World) (ha : BsAt w a zs) (hb : BsAt w b zs) (hn : zs.length = n) (hm : n ≤ 1048576) :
    Calls Try.prog 29 #[.agg #[.int .i64 x, .slice a n c], .agg #[.int .i64 x, .slice b n d]] w fun e w' => e = .returned (.bool true) ∧ New w w' := by
  have hk : (x != x) = false := by simp
  have hw := ((New.refl w).alloc (.cells #[.int .i64 x, .slice a n c] 46)).alloc (.cells #[.int .i64 x, .slice b n d] 46)
  go_enter Try.func29, Try.ntmps29
  go_wp2_with fail
  refine (eqBytes_any a b n c d zs _ (ha.new hw) (hb.new hw) hn hm).mono ?_
  rintro e w1 ⟨rfl, hn1⟩
  go_wp2
  go_ret
  exact ⟨rfl, hw.trans hn1⟩

theorem markBR_any (x : Int) (a : Option Addr) (n c : Nat) (k : Int) (zs : List Int) (w : World) (h : OwAt w a n c zs) (hm : n ≤ 4194304) (hk0 : 0 ≤ k) (hk : k ≤ 1073741824) :
    Calls Try.prog 31 #[.agg #[.int .i64 x, .slice a n c], .int .i64 k] w fun e w' => e = .returned (.int .i64 (k + n)) ∧ OwAt w' a n c (marks k n) ∧ Turn (inA a) w w' := by
  have hw := (New.refl w).alloc (.cells #[.int .i64 x, .slice a n c] 46)
  go_enter Try.func31, Try.ntmps31
  go_wp2_with fail
  refine (mark_any a n c k zs _ (h.new hw) hm hk0 hk).mono ?_
  rintro e w1 ⟨rfl, ho1, ht1⟩
  go_wp2
  go_ret
  exact ⟨rfl, ho1, Turn.trans hw.turn ht1 (fun _ _ h => h)⟩

theorem heldBR_any (x : Int) (a : Option Addr) (n c : Nat) (k : Int) (w : World) (h : BsAt w a (marks k n)) (hm : n ≤ 4194304) (hk0 : 0 ≤ k) (hk : k ≤ 1073741824) :
    Calls Try.prog 32 #[.agg #[.int .i64 x, .slice a n c], .int .i64 k] w fun e w' => e = .returned (.int .i64 (k + n)) ∧ New w w' := by
  have hw := (New.refl w).alloc (.cells #[.int .i64 x, .slice a n c] 46)
  go_enter Try.func32, Try.ntmps32
  go_wp2_with fail
  refine (held_any a n c k _ (h.new hw) hm hk0 hk).mono ?_
  rintro e w1 ⟨rfl, rfl⟩
  go_wp2
  go_ret
  exact ⟨rfl, hw⟩

end Go.Proofs.Ytmfmpcagoamffaa
