/- What is proved here: what the small functions of sessions answer, in the program and in the model: asking, ending, failing, saying a keep. No condition. -/
import Derived.Test.YteniieagcehmpaaS5Fn
namespace Go.Proofs.Yteniieagcehmpaa
open Go.RowKit
set_option linter.unusedVariables false

/-- The cells of a message that has no update. -/
abbrev msC (kd sa ho si wh su : Int) : Array Value := #[.int .i64 kd, .int .i64 sa, .int .i64 ho, .int .i64 si, .int .i64 wh, .int .i64 su, .slice none 0 0, .bool false, .int .i64 0, .slice none 0 0, .int .i64 0, .int .i64 0, .int .i64 0, .slice none 0 0]

/-- An answer: its code, the session, what is said (at most one message, with no update), and what is told. -/
structure Rs where
  c : Int
  st : Int
  pe : Int
  ho : Int
  si : Int
  sp : Int
  say : Option (Int × Int × Int × Int × Int × Int)
  up : Bool
  dn : Bool
  ud : Bool

/-- What is said: nothing, or one message that lies in the block g. -/
def SayAt (w : World) (g : Nat) (v : Value) : Option (Int × Int × Int × Int × Int × Int) → Prop
  | none => v = .slice none 0 0
  | some (kd, sa, ho, si, wh, su) => v = .slice (some ⟨g, 0, none⟩) 1 1 ∧ Blk w g 35 (msC kd sa ho si wh su)

theorem SayAt.turn {w w' : World} {g : Nat} {v : Value} {say : Option (Int × Int × Int × Int × Int × Int)} {P : Nat → Prop} (h : SayAt w g v say) (t : Turn P w w') (hP : ¬ P g) : SayAt w' g v say := by
  cases say with
  | none => exact h
  | some m => exact ⟨h.1, h.2.turn t hP⟩
theorem SayAt.new {w w' : World} {g : Nat} {v : Value} {say : Option (Int × Int × Int × Int × Int × Int)} (h : SayAt w g v say) (t : New w w') : SayAt w' g v say := h.turn t (fun f => f)

/-- How many messages are said. -/
def sayN : Option (Int × Int × Int × Int × Int × Int) → Nat
  | none => 0
  | some _ => 1
theorem SayAt.form {w : World} {g : Nat} {v : Value} {say : Option (Int × Int × Int × Int × Int × Int)} (h : SayAt w g v say) : ∃ a, v = .slice a (sayN say) (sayN say) := by
  cases say with
  | none => exact ⟨none, h⟩
  | some m => exact ⟨_, h.1⟩

/-- The cells of an answer. -/
abbrev srC (c st pe ho si sp : Int) (v : Value) (up dn ud : Bool) : Array Value := #[.int .i64 c, .int .i64 st, .int .i64 pe, .int .i64 ho, .int .i64 si, .int .i64 sp, v, .bool up, .bool dn, .bool ud]

/-- An answer of the call's own. -/
def Ans (w : World) (r : Rs) (e : Ending) (w' : World) : Prop :=
  ∃ g v, e = .returned (.agg (srC r.c r.st r.pe r.ho r.si r.sp v r.up r.dn r.ud)) ∧ w.heap.size ≤ g ∧ g < w'.heap.size ∧ SayAt w' g v r.say ∧ New w w'

theorem New.set5 {a w : World} {p : Addr} (hp : a.heap.size ≤ p.block) (u : Value) : New a (w.setCell p u) ↔ New a w := by
  refine ⟨fun h => ⟨h.os, h.tape, h.output, by simpa [World.setCell] using h.size, fun k hk hs => (Below.heap_setCell w p u k (by omega)).symm.trans (h.block k hk hs)⟩, fun h => h.setCell hp u⟩

theorem Ans.after {w w1 w' : World} {r : Rs} {e : Ending} (h : Ans w1 r e w') (hn : New w w1) : Ans w r e w' := by
  obtain ⟨g, v, he, h1, h2, h3, h4⟩ := h
  exact ⟨g, v, he, Nat.le_trans hn.size h1, h2, h3, hn.trans h4⟩

/-- An answer that has a code. -/
abbrev badR (c : Int) : Rs := ⟨c, 0, 0, 0, 0, 0, none, false, false, false⟩
/-- A session that says nothing. -/
abbrev sesR (st pe ho si sp : Int) : Rs := ⟨0, st, pe, ho, si, sp, none, false, false, false⟩
/-- A session that says a keep. -/
abbrev keepR (st pe ho si sp : Int) : Rs := ⟨0, st, pe, ho, si, sp, some (4, 0, 0, 0, 0, 0), false, false, false⟩
/-- A session that says a notify, and ends. -/
abbrev failR (st wh su : Int) : Rs := ⟨0, 0, 0, 0, 0, 0, some (3, 0, 0, 0, wh, su), false, st == 3, false⟩
/-- A session that ends. -/
abbrev endR (st : Int) : Rs := ⟨0, 0, 0, 0, 0, 0, none, false, st == 3, false⟩
/-- What all ask. -/
def ask (ca ci ch st pe ho si sp : Int) : Int := if cf ca ci ch = 0 then sf st pe ho si sp else cf ca ci ch
/-- A tick more. -/
def tk (x : Int) : Int := if x < 1000 then x + 1 else 1000
theorem tk_min (x : Int) : min (x + 1) 1000 = tk x := by unfold tk; split <;> omega
theorem tk_min' (x : Int) : min 1000 (x + 1) = tk x := by unfold tk; split <;> omega

set_option maxHeartbeats 800000 in
theorem implEnded (st pe ho si sp : Int) (w : World) : Calls Try.prog 66 #[.agg #[.int .i64 st, .int .i64 pe, .int .i64 ho, .int .i64 si, .int .i64 sp]] w (Ans w (endR st)) := by
  go_enter Try.func66, Try.ntmps66
  go_wp2
  refine bodyPost_ret (v := .agg (srC 0 0 0 0 0 0 (.slice none 0 0) false (st == 3) false)) (by simp [results, Try.results66, go_sem]) rfl ⟨w.heap.size, _, rfl, Nat.le_refl _, by simp; omega, rfl, ?_⟩
  exact ((New.refl w).alloc _).alloc _

set_option maxHeartbeats 800000 in
theorem implKeep (st pe ho si sp : Int) (w : World) : Calls Try.prog 65 #[.agg #[.int .i64 st, .int .i64 pe, .int .i64 ho, .int .i64 si, .int .i64 sp]] w (Ans w (keepR st pe ho si sp)) := by
  go_enter Try.func65, Try.ntmps65
  go_wp2
  refine bodyPost_ret (v := .agg (srC 0 st pe ho si sp (.slice (some ⟨w.heap.size + 1 + 1, 0, none⟩) 1 1) false false false)) (by simp [results, Try.results65, go_sem]) rfl ⟨w.heap.size + 1 + 1, _, rfl, by omega, by simp, ⟨rfl, Blk.mk _ _ _ _ (by simp)⟩, ?_⟩
  exact (((New.refl w).alloc _).alloc _).alloc _

set_option maxHeartbeats 800000 in
theorem implFailed (st pe ho si sp wh su : Int) (w : World) : Calls Try.prog 60 #[.agg #[.int .i64 st, .int .i64 pe, .int .i64 ho, .int .i64 si, .int .i64 sp], .int .i64 wh, .int .i64 su] w (Ans w (failR st wh su)) := by
  have hw := ((New.refl w).alloc (.cells #[.int .i64 st, .int .i64 pe, .int .i64 ho, .int .i64 si, .int .i64 sp] 27)).alloc (.cells #[.int .i64 0, .int .i64 0, .int .i64 0, .int .i64 0, .int .i64 0, .int .i64 0, .slice none 0 0, .bool false, .bool false, .bool false] 40)
  have hB : Blk ((w.alloc (.cells #[.int .i64 st, .int .i64 pe, .int .i64 ho, .int .i64 si, .int .i64 sp] 27)).alloc (.cells #[.int .i64 0, .int .i64 0, .int .i64 0, .int .i64 0, .int .i64 0, .int .i64 0, .slice none 0 0, .bool false, .bool false, .bool false] 40)) (w.heap.size + 1) 40 #[.int .i64 0, .int .i64 0, .int .i64 0, .int .i64 0, .int .i64 0, .int .i64 0, .slice none 0 0, .bool false, .bool false, .bool false] := Blk.mk _ _ _ _ (by simp)
  go_enter Try.func60, Try.ntmps60
  go_wp2_with fail
  refine (implEnded st pe ho si sp _).mono ?_
  rintro e w1 ⟨g1, v1, rfl, hg1, hl1, hs1, hn1⟩
  have hs1' : v1 = .slice none 0 0 := hs1
  subst hs1'
  have c1 := (hB.new hn1).cells
  have f1 := (hB.new hn1).frees
  have l1 := (hB.new hn1).lt
  have hn := hw.trans hn1
  have ne1 : ¬ w.heap.size + 1 = w1.heap.size := by omega
  have ne2 : ¬ w1.heap.size = w.heap.size + 1 := by omega
  have ne3 : ¬ w.heap.size + 1 = w1.heap.size + 1 := by omega
  have ne4 : ¬ w1.heap.size + 1 = w.heap.size + 1 := by omega
  have l2 : w.heap.size < w1.heap.size := by omega
  have l3 : w.heap.size + 1 < w1.heap.size + 1 := by omega
  have ge1 : w.heap.size ≤ w.heap.size + 1 := by omega
  clear hg1 hl1 hs1 hw
  go_wp2
  refine bodyPost_ret (v := .agg (srC 0 0 0 0 0 0 (.slice (some ⟨w1.heap.size + 1, 0, none⟩) 1 1) false (st == 3) false)) (by simp [results, Try.results60, go_sem, c1, l1, l2]) rfl ⟨w1.heap.size + 1, _, rfl, by omega, by simp [World.setCell], ⟨rfl, Blk.mk _ _ _ _ (by simp [World.setCell])⟩, ?_⟩
  refine New.alloc (New.alloc ?_ _) _
  simp (disch := exact ge1) only [New.set5, hn]

set_option maxHeartbeats 800000 in
theorem implIdleT (st pe ho si sp : Int) (w : World) : Calls Try.prog 38 #[.agg #[.int .i64 st, .int .i64 pe, .int .i64 ho, .int .i64 si, .int .i64 sp]] w (Ans w (sesR st pe ho si sp)) := by
  go_enter Try.func38, Try.ntmps38
  go_wp2
  refine bodyPost_ret (v := .agg (srC 0 st pe ho si sp (.slice none 0 0) false false false)) (by simp [results, Try.results38, go_sem]) rfl ⟨w.heap.size, _, rfl, Nat.le_refl _, by simp; omega, rfl, ?_⟩
  exact ((New.refl w).alloc _).alloc _

set_option maxHeartbeats 800000 in
theorem implOne (st pe ho si sp : Int) (w : World) (h1 : 0 ≤ si ∧ si ≤ 1000) (h2 : 0 ≤ sp ∧ sp ≤ 1000) : Calls Try.prog 67 #[.agg #[.int .i64 st, .int .i64 pe, .int .i64 ho, .int .i64 si, .int .i64 sp]] w fun e w' => e = .returned (.agg #[.int .i64 st, .int .i64 pe, .int .i64 ho, .int .i64 (tk si), .int .i64 (tk sp)]) ∧ New w w' := by
  by_cases a : 1000 < si + 1
  · have e1 : tk si = 1000 := by unfold tk; rw [if_neg (by omega)]
    by_cases b : 1000 < sp + 1
    · have e2 : tk sp = 1000 := by unfold tk; rw [if_neg (by omega)]
      rw [e1, e2]
      clear e1 e2
      go_enter Try.func67, Try.ntmps67
      go_wp2
      refine bodyPost_ret (v := .agg #[.int .i64 st, .int .i64 pe, .int .i64 ho, .int .i64 1000, .int .i64 1000]) (by simp [results, Try.results67, go_sem]) rfl ⟨rfl, ((New.refl w).alloc _).alloc _⟩
    · have e2 : tk sp = sp + 1 := by unfold tk; rw [if_pos (by omega)]
      rw [e1, e2]
      clear e1 e2
      go_enter Try.func67, Try.ntmps67
      go_wp2
      refine bodyPost_ret (v := .agg #[.int .i64 st, .int .i64 pe, .int .i64 ho, .int .i64 1000, .int .i64 (sp + 1)]) (by simp [results, Try.results67, go_sem]) rfl ⟨rfl, ((New.refl w).alloc _).alloc _⟩
  · have e1 : tk si = si + 1 := by unfold tk; rw [if_pos (by omega)]
    by_cases b : 1000 < sp + 1
    · have e2 : tk sp = 1000 := by unfold tk; rw [if_neg (by omega)]
      rw [e1, e2]
      clear e1 e2
      go_enter Try.func67, Try.ntmps67
      go_wp2
      refine bodyPost_ret (v := .agg #[.int .i64 st, .int .i64 pe, .int .i64 ho, .int .i64 (si + 1), .int .i64 1000]) (by simp [results, Try.results67, go_sem]) rfl ⟨rfl, ((New.refl w).alloc _).alloc _⟩
    · have e2 : tk sp = sp + 1 := by unfold tk; rw [if_pos (by omega)]
      rw [e1, e2]
      clear e1 e2
      go_enter Try.func67, Try.ntmps67
      go_wp2
      refine bodyPost_ret (v := .agg #[.int .i64 st, .int .i64 pe, .int .i64 ho, .int .i64 (si + 1), .int .i64 (sp + 1)]) (by simp [results, Try.results67, go_sem]) rfl ⟨rfl, ((New.refl w).alloc _).alloc _⟩

theorem implKt (ho : Int) (w : World) : Calls Try.prog 68 #[.int .i64 ho] w fun e w' => e = .returned (.int .i64 (if ho < 6 then 1 else 3)) ∧ w' = w := by
  by_cases h : ho < 6
  · go_enter Try.func68, Try.ntmps68
    go_wp2
    go_ret
    exact ⟨ret_i64 (by first | exact (if_pos h).symm | rfl), rfl⟩
  · go_enter Try.func68, Try.ntmps68
    go_wp2
    go_ret
    exact ⟨ret_i64 (by first | exact (if_neg h).symm | rfl), rfl⟩

set_option maxHeartbeats 800000 in
theorem specBad (c : Int) (w : World) : Calls Try.prog 20 #[.int .i64 c] w (Ans w (badR c)) := by
  go_enter Try.func20, Try.ntmps20
  go_wp2
  refine bodyPost_ret (v := .agg (srC c 0 0 0 0 0 (.slice none 0 0) false false false)) (by simp [results, Try.results20, go_sem]) rfl ⟨w.heap.size, _, rfl, Nat.le_refl _, by simp, rfl, ?_⟩
  exact (New.refl w).alloc _

set_option maxHeartbeats 800000 in
theorem specFail0 (pe ho si sp wh su : Int) (w : World) : Calls Try.prog 51 #[.agg #[.int .i64 0, .int .i64 pe, .int .i64 ho, .int .i64 si, .int .i64 sp], .int .i64 wh, .int .i64 su] w (Ans w (sesR 0 pe ho si sp)) := by
  go_enter Try.func51, Try.ntmps51
  go_wp2
  refine bodyPost_ret (v := .agg (srC 0 0 pe ho si sp (.slice none 0 0) false false false)) (by simp [results, Try.results51, go_sem]) rfl ⟨w.heap.size, _, rfl, Nat.le_refl _, by simp; omega, rfl, ?_⟩
  exact ((New.refl w).alloc _).alloc _

set_option maxHeartbeats 800000 in
theorem specFail (st pe ho si sp wh su : Int) (w : World) (h : ¬ st = 0) : Calls Try.prog 51 #[.agg #[.int .i64 st, .int .i64 pe, .int .i64 ho, .int .i64 si, .int .i64 sp], .int .i64 wh, .int .i64 su] w (Ans w (failR st wh su)) := by
  have h0 : (st == 0) = false := by simpa using h
  go_enter Try.func51, Try.ntmps51
  go_wp2
  refine bodyPost_ret (v := .agg (srC 0 0 0 0 0 0 (.slice (some ⟨w.heap.size + 1 + 1, 0, none⟩) 1 1) false (st == 3) false)) (by simp [results, Try.results51, go_sem]) rfl ⟨w.heap.size + 1 + 1, _, rfl, by omega, by simp, ⟨rfl, Blk.mk _ _ _ _ (by simp)⟩, ?_⟩
  exact (((New.refl w).alloc _).alloc _).alloc _

set_option maxHeartbeats 800000 in
theorem implAsk (ca ci ch st pe ho si sp : Int) (w : World) : Calls Try.prog 16 #[.agg #[.int .i64 ca, .int .i64 ci, .int .i64 ch], .agg #[.int .i64 st, .int .i64 pe, .int .i64 ho, .int .i64 si, .int .i64 sp]] w fun e w' => e = .returned (.int .i64 (ask ca ci ch st pe ho si sp)) ∧ New w w' := by
  have hw := ((New.refl w).alloc (.cells #[.int .i64 ca, .int .i64 ci, .int .i64 ch] 25)).alloc (.cells #[.int .i64 st, .int .i64 pe, .int .i64 ho, .int .i64 si, .int .i64 sp] 27)
  have hB : Blk ((w.alloc (.cells #[.int .i64 ca, .int .i64 ci, .int .i64 ch] 25)).alloc (.cells #[.int .i64 st, .int .i64 pe, .int .i64 ho, .int .i64 si, .int .i64 sp] 27)) (w.heap.size + 1) 27 #[.int .i64 st, .int .i64 pe, .int .i64 ho, .int .i64 si, .int .i64 sp] := Blk.mk _ _ _ _ (by simp)
  by_cases h0 : cf ca ci ch = 0
  · have hx : ask ca ci ch st pe ho si sp = sf st pe ho si sp := if_pos h0
    go_enter Try.func16, Try.ntmps16
    go_wp2_with fail
    refine (implCF ca ci ch _).mono ?_
    rintro e w1 ⟨rfl, hn1⟩
    have c1 := (hB.new hn1).cells
    rw [h0]
    clear h0
    go_wp2_with fail
    refine (implSF st pe ho si sp _).mono ?_
    rintro e w2 ⟨rfl, hn2⟩
    go_wp2
    go_ret
    exact ⟨ret_i64 (by first | exact hx.symm | rfl), (hw.trans hn1).trans hn2⟩
  · have hx : ask ca ci ch st pe ho si sp = cf ca ci ch := if_neg h0
    have h1 : (cf ca ci ch != 0) = true := by simpa using h0
    go_enter Try.func16, Try.ntmps16
    go_wp2_with fail
    refine (implCF ca ci ch _).mono ?_
    rintro e w1 ⟨rfl, hn1⟩
    generalize cf ca ci ch = k at *
    go_wp2
    go_ret
    exact ⟨ret_i64 (by first | exact hx.symm | rfl), hw.trans hn1⟩

set_option maxHeartbeats 800000 in
theorem specAsk (ca ci ch st pe ho si sp : Int) (w : World) : Calls Try.prog 19 #[.agg #[.int .i64 ca, .int .i64 ci, .int .i64 ch], .agg #[.int .i64 st, .int .i64 pe, .int .i64 ho, .int .i64 si, .int .i64 sp]] w fun e w' => e = .returned (.int .i64 (ask ca ci ch st pe ho si sp)) ∧ New w w' := by
  have hw := ((New.refl w).alloc (.cells #[.int .i64 ca, .int .i64 ci, .int .i64 ch] 25)).alloc (.cells #[.int .i64 st, .int .i64 pe, .int .i64 ho, .int .i64 si, .int .i64 sp] 27)
  have hB : Blk ((w.alloc (.cells #[.int .i64 ca, .int .i64 ci, .int .i64 ch] 25)).alloc (.cells #[.int .i64 st, .int .i64 pe, .int .i64 ho, .int .i64 si, .int .i64 sp] 27)) (w.heap.size + 1) 27 #[.int .i64 st, .int .i64 pe, .int .i64 ho, .int .i64 si, .int .i64 sp] := Blk.mk _ _ _ _ (by simp)
  by_cases h0 : cf ca ci ch = 0
  · have hx : ask ca ci ch st pe ho si sp = sf st pe ho si sp := if_pos h0
    go_enter Try.func19, Try.ntmps19
    go_wp2_with fail
    refine (specCF ca ci ch _).mono ?_
    rintro e w1 ⟨rfl, hn1⟩
    have c1 := (hB.new hn1).cells
    rw [h0]
    clear h0
    go_wp2_with fail
    refine (specSF st pe ho si sp _).mono ?_
    rintro e w2 ⟨rfl, hn2⟩
    go_wp2
    go_ret
    exact ⟨ret_i64 (by first | exact hx.symm | rfl), (hw.trans hn1).trans hn2⟩
  · have hx : ask ca ci ch st pe ho si sp = cf ca ci ch := if_neg h0
    have h1 : (cf ca ci ch != 0) = true := by simpa using h0
    go_enter Try.func19, Try.ntmps19
    go_wp2_with fail
    refine (specCF ca ci ch _).mono ?_
    rintro e w1 ⟨rfl, hn1⟩
    generalize cf ca ci ch = k at *
    go_wp2
    go_ret
    exact ⟨ret_i64 (by first | exact hx.symm | rfl), hw.trans hn1⟩

end Go.Proofs.Yteniieagcehmpaa
