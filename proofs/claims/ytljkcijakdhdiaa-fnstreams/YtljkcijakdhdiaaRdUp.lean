/- What is proved here: what the program's reading of what stands behind the prefixes that are gone answers. -/
import Derived.Test.YtljkcijakdhdiaaRdTake
import Derived.Test.YtljkcijakdhdiaaRdCatch
namespace Go.Proofs.Ytljkcijakdhdiaa
open Go.RowKit Go.Sort
set_option linter.unusedVariables false

/-- What the reading of an update tells. -/
structure PU where
  code : Int
  soft : Bool
  gs : List (Int × Int)
  has : Bool
  o : Int
  xs : List Int
  nx : Int
  md : Int
  lc : Int
  rs : List (Int × Int)
def puZ (c : Int) : PU := ⟨c, false, [], false, 0, [], 0, 0, 0, []⟩
def puS (L : List (Int × Int)) : PU := ⟨1, true, L, false, 0, [], 0, 0, 0, []⟩
def puU (L : List (Int × Int)) : PU := ⟨0, false, L, false, 0, [], 0, 0, 0, []⟩
/-- Attributes with a path of k, and prefixes. -/
def puA (gs : List (Int × Int)) (k : Nat) (ls : List Int) : PU := ⟨0, false, gs, true, ls[1 + 2 * k]?.getD 0, nsR ls k, numAt ls (2 + 2 * k) 2, numAt ls (4 + 2 * k) 2, numAt ls (6 + 2 * k) 2, rdP (ls.drop (8 + 2 * k))⟩
def ufU (p : PU) : Int := uf p.gs p.has p.o p.xs p.nx p.md p.lc p.rs
/-- What stands behind those that are gone. -/
def rdU (gs : List (Int × Int)) (ls : List Int) : PU :=
  match ls[0]? with
  | none => if ufU (puU gs) = 0 then puU gs else puS (gs.take 8)
  | some z => if ls.length < 8 + 2 * z.toNat + 3 ∨ (ls.length - (8 + 2 * z.toNat)) % 3 ≠ 0 then puS (gs.take 8)
    else if ufU (puA gs z.toNat ls) = 0 then puA gs z.toNat ls else puS ((gs ++ okL (rdP (ls.drop (8 + 2 * z.toNat)))).take 8)

theorem numAt_take (ls : List Int) (m t : Nat) (h : t + 2 ≤ m) : numAt (ls.take m) t 2 = numAt ls t 2 := by
  unfold numAt
  rw [List.drop_take, List.take_take, Nat.min_eq_left (by omega)]
theorem nsR_take (ls : List Int) (m k : Nat) (h : 1 + 2 * k ≤ m) : nsR (ls.take m) k = nsR ls k := by
  unfold nsR
  apply List.map_congr_left
  intro i hi
  exact numAt_take ls m _ (by have := List.mem_range.1 hi; omega)

theorem ufU_nil (gs : List (Int × Int)) (k : Nat) (ls : List Int) (h : rdP (ls.drop (8 + 2 * k)) = []) : ufU (puA gs k ls) ≠ 0 := by
  unfold ufU puA uf
  simp only [h]
  split
  · simp
  · split
    · assumption
    · split
      · assumption
      · simp

/-- The value that a soft panic bears. -/
def sfV (a : Option Addr) (m c : Nat) : Value := .iface 93 (.agg #[.int .i64 1, .bool true, .slice a m c, .bool false, .int .i64 0, .slice none 0 0, .int .i64 0, .int .i64 0, .int .i64 0, .slice none 0 0])

set_option maxHeartbeats 3200000 in
theorem readUp_none (ga ba : Option Addr) (gn gc lc : Nat) (gs : List (Int × Int)) (w : World) (hg : PsAt w ga gs) (hgn : gs.length = gn) (hga : ga = none → gn = 0 ∧ gc = 0) (hm : gn ≤ 1048576) (hu : ufU (puU gs) = 0) :
    Calls Try.prog 74 #[.slice ga gn gc, .slice ba 0 lc] w fun e w' => e = .returned (.agg #[.slice ga gn gc, .bool false, .int .i64 0, .slice none 0 0, .int .i64 0, .int .i64 0, .int .i64 0, .slice none 0 0]) ∧ New w w' := by
  have bZ := (Blk.mk w w.heap.size 49 #[.slice none 0 0, .bool false, .int .i64 0, .slice none 0 0, .int .i64 0, .int .i64 0, .int .i64 0, .slice none 0 0] rfl).alloc (.cells #[.slice ga gn gc, .bool false, .int .i64 0, .slice none 0 0, .int .i64 0, .int .i64 0, .int .i64 0, .slice none 0 0] 49)
  have bU := Blk.mk (w.alloc (.cells #[.slice none 0 0, .bool false, .int .i64 0, .slice none 0 0, .int .i64 0, .int .i64 0, .int .i64 0, .slice none 0 0] 49)) (w.heap.size + 1) 49 #[.slice ga gn gc, .bool false, .int .i64 0, .slice none 0 0, .int .i64 0, .int .i64 0, .int .i64 0, .slice none 0 0] (by simp)
  have hw := ((New.refl w).alloc (.cells #[.slice none 0 0, .bool false, .int .i64 0, .slice none 0 0, .int .i64 0, .int .i64 0, .int .i64 0, .slice none 0 0] 49)).alloc (.cells #[.slice ga gn gc, .bool false, .int .i64 0, .slice none 0 0, .int .i64 0, .int .i64 0, .int .i64 0, .slice none 0 0] 49)
  have HG : Hid (gs.length = gn) := hgn
  have HU : Hid (uf gs false 0 [] 0 0 0 [] = 0) := hu
  clear hgn hu
  go_enter Try.func74, Try.ntmps74
  go_wp2_with fail
  refine (implUF ga none none gn gc 0 0 0 0 false 0 0 0 0 gs [] [] _ (hg.new hw) (NsAt.nil _ _) (PsAt.nil _ _) HG.out rfl rfl hm (by omega) (by omega)).mono ?_
  rintro e w1 ⟨rfl, hn1⟩
  rw [HU.out]
  have cU := (bU.new hn1).cells
  have bZ1 := bZ.new hn1
  have cZ := bZ1.cells
  have fZ := bZ1.frees
  have lZ := bZ1.lt
  have M1 := hw.trans hn1
  clear hw hn1 bZ bU
  go_wp2
  refine bodyPost_ret (v := .agg #[.slice ga gn gc, .bool false, .int .i64 0, .slice none 0 0, .int .i64 0, .int .i64 0, .int .i64 0, .slice none 0 0]) (by simp [results, Try.results74, go_sem, cZ]) rfl ?_
  refine (fun (hT : Turn (fun k => k = w.heap.size) w1 _) => ⟨rfl, M1.before hT (fun i hi e => by omega)⟩) ?_
  exact Turn.here (Turn.here (Turn.here (Turn.here (Turn.here (Turn.here (Turn.here (Turn.here (Turn.refl _ _) _) _) _) _) _) _) _) _

set_option maxHeartbeats 3200000 in
theorem readUp_many (ga ba : Option Addr) (gn gc lc : Nat) (gs : List (Int × Int)) (w : World) (hg : PsAt w ga gs) (hgn : gs.length = gn) (hga : ga = none → gn = 0 ∧ gc = 0) (hm : gn ≤ 1048576) (hu : ¬ ufU (puU gs) = 0) :
    Calls Try.prog 74 #[.slice ga gn gc, .slice ba 0 lc] w fun e w' => (∃ a m c, e = .panicked [{ v := sfV a m c, recovered := false }] ∧ OwQ w' w.heap.size (.slice a m c) (gs.take 8)) ∧ New w w' := by
  have bU := Blk.mk (w.alloc (.cells #[.slice none 0 0, .bool false, .int .i64 0, .slice none 0 0, .int .i64 0, .int .i64 0, .int .i64 0, .slice none 0 0] 49)) (w.heap.size + 1) 49 #[.slice ga gn gc, .bool false, .int .i64 0, .slice none 0 0, .int .i64 0, .int .i64 0, .int .i64 0, .slice none 0 0] (by simp)
  have hw := ((New.refl w).alloc (.cells #[.slice none 0 0, .bool false, .int .i64 0, .slice none 0 0, .int .i64 0, .int .i64 0, .int .i64 0, .slice none 0 0] 49)).alloc (.cells #[.slice ga gn gc, .bool false, .int .i64 0, .slice none 0 0, .int .i64 0, .int .i64 0, .int .i64 0, .slice none 0 0] 49)
  have HG : Hid (gs.length = gn) := hgn
  have hu' : ¬ uf gs false 0 [] 0 0 0 [] = 0 := hu
  clear hgn hu
  generalize hq : uf gs false 0 [] 0 0 0 [] = q at *
  have HQ : Hid (uf gs false 0 [] 0 0 0 [] = q) := hq
  clear hq
  go_enter Try.func74, Try.ntmps74
  go_wp2_with fail
  refine (implUF ga none none gn gc 0 0 0 0 false 0 0 0 0 gs [] [] _ (hg.new hw) (NsAt.nil _ _) (PsAt.nil _ _) HG.out rfl rfl hm (by omega) (by omega)).mono ?_
  rintro e w1 ⟨rfl, hn1⟩
  rw [HQ.out]
  have cU := (bU.new hn1).cells
  have M1 := hw.trans hn1
  clear hw hn1 bU
  go_wp2_with fail
  refine (takenBack_any ga none gn gc 0 0 gs [] _ (hg.new M1) (PsAt.nil _ _) HG.out rfl hga (fun _ => ⟨rfl, rfl⟩) hm (by omega)).mono ?_
  rintro e w2 ⟨a, m, c, rfl, hq, hn2⟩
  have hs := M1.size
  have hq' : OwQ w2 w.heap.size (.slice a m c) (gs.take 8) := by simpa [okL] using hq.low hs
  go_wp2
  exact ⟨rfl, ⟨a, m, c, rfl, hq'⟩, M1.trans hn2⟩

end Go.Proofs.Ytljkcijakdhdiaa
