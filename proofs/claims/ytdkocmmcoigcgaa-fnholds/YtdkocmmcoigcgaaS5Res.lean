/- What is proved here: what the comparing, the marking and the looking up of a whole answer of a session answer, where at most one message is said. No condition. -/
import Derived.Test.YtdkocmmcoigcgaaS5Law
namespace Go.Proofs.Ytdkocmmcoigcgaa
open Go.RowKit
set_option linter.unusedVariables false

/-- An answer of the call's own, laid open. -/
theorem Ans.opened {w w' : World} {c rt rp rh ri rs : Int} {say : Option (Int × Int × Int × Int × Int × Int)} {up dn ud : Bool} {e : Ending} {n : Nat} (h : Ans w ⟨c, rt, rp, rh, ri, rs, say, up, dn, ud⟩ e w') (hn : Hid (sayN say = n)) :
    ∃ g a, e = .returned (.agg #[.int .i64 c, .int .i64 rt, .int .i64 rp, .int .i64 rh, .int .i64 ri, .int .i64 rs, .slice a n n, .bool up, .bool dn, .bool ud]) ∧ w.heap.size ≤ g ∧ g < w'.heap.size ∧ SayAt w' g (.slice a n n) say ∧ New w w' := by
  obtain ⟨g, v, he, h1, h2, h3, h4⟩ := h
  obtain ⟨a, hv⟩ := h3.form
  have e1 : sayN say = n := hn
  dsimp only at hv he h3
  rw [e1] at hv
  subst hv
  exact ⟨g, a, he, h1, h2, h3, h4⟩

theorem ne5a {a b c : Nat} (h : b ≤ c) (h' : a + 2 ≤ b) : ¬ c = a := by omega
theorem ne5b {a b c : Nat} (h : b ≤ c) (h' : a + 2 ≤ b) : ¬ c = a + 1 := by omega
theorem neg5 {a b c : Nat} (h : a < b) (h' : b ≤ c) : ¬ a = c := by omega
theorem neg5' {a c : Nat} (h : a + 1 ≤ c) : ¬ a = c := by omega
theorem cell_set5 {w : World} {p : Addr} {u : Value} {B j : Nat} (h : ¬ p.block = B) : (w.setCell p u).cell? ⟨B, j, none⟩ = w.cell? ⟨B, j, none⟩ := World.cell?_of_block (Below.heap_setCell w p u B (fun e => h e.symm))

/-- Nothing old has turned since the block was laid. -/
def NewA (X : World) (o : Obj) (Y : World) : Prop := New (X.alloc o) Y
theorem NewA.out {X Y : World} {o : Obj} (h : NewA X o Y) : New (X.alloc o) Y := h
theorem New.alloc_mark {X Y : World} {o : Obj} : New (X.alloc o) Y ↔ (New X Y ∧ NewA X o Y) := ⟨fun h => ⟨((New.refl X).alloc o).trans h, h⟩, fun h => h.2⟩
theorem New.drew_mark {X Y : World} : New X.drew Y ↔ New X Y := ⟨fun h => ⟨h.os, h.tape, h.output, h.size, h.block⟩, fun h => ⟨h.os, h.tape, h.output, h.size, h.block⟩⟩
theorem Blk.laid {X Y : World} {t : TypeId} {cs : Array Value} (h : NewA X (.cells cs t) Y) : Blk Y X.heap.size t cs := (Blk.mk X _ t cs rfl).new h

/-- A block of ten cells that is stored whole. -/
theorem blk10 {w : World} {B : Nat} {t : TypeId} {z0 z1 z2 z3 z4 z5 z6 z7 z8 z9 : Value} (c0 c1 c2 c3 c4 c5 c6 c7 c8 c9 : Value) (h : Blk w B t #[z0, z1, z2, z3, z4, z5, z6, z7, z8, z9]) :
    Blk ((((((((((w.setCell ⟨B, 0, none⟩ c0).setCell ⟨B, 1, none⟩ c1).setCell ⟨B, 2, none⟩ c2).setCell ⟨B, 3, none⟩ c3).setCell ⟨B, 4, none⟩ c4).setCell ⟨B, 5, none⟩ c5).setCell ⟨B, 6, none⟩ c6).setCell ⟨B, 7, none⟩ c7).setCell ⟨B, 8, none⟩ c8).setCell ⟨B, 9, none⟩ c9) B t #[c0, c1, c2, c3, c4, c5, c6, c7, c8, c9] := by
  have h9 := (((((((((h.set 0 c0).set 1 c1).set 2 c2).set 3 c3).set 4 c4).set 5 c5).set 6 c6).set 7 c7).set 8 c8).set 9 c9
  simp only [List.setIfInBounds_toArray, List.set_cons_zero, List.set_cons_succ] at h9
  exact h9

set_option maxHeartbeats 1600000 in
theorem eqSR (r : Rs) (g h : Nat) (u v : Value) (w : World) (hu : SayAt w g u r.say) (hv : SayAt w h v r.say) :
    Calls Try.prog 32 #[.agg (srC r.c r.st r.pe r.ho r.si r.sp u r.up r.dn r.ud), .agg (srC r.c r.st r.pe r.ho r.si r.sp v r.up r.dn r.ud)] w fun e w' => e = .returned (.bool true) ∧ New w w' := by
  obtain ⟨c, st, pe, ho, si, sp, say, up, dn, ud⟩ := r
  dsimp only [srC] at *
  have hs : Hid (∀ W, New w W → Calls Try.prog 89 #[u, v] W fun e w' => e = .returned (.bool true) ∧ New W w') := by
    intro W hW
    cases say with
    | none =>
      have e1 : u = .slice none 0 0 := hu
      have e2 : v = .slice none 0 0 := hv
      subst e1 e2
      exact eqMgs0 W
    | some m =>
      obtain ⟨e1, b1⟩ := hu
      obtain ⟨e2, b2⟩ := hv
      subst e1 e2
      exact eqMgs1 g h _ _ _ _ _ _ W (b1.new hW) (b2.new hW)
  obtain ⟨x, rfl⟩ := hu.form
  obtain ⟨y, rfl⟩ := hv.form
  clear hu hv
  generalize sayN say = n at *
  have hw := ((New.refl w).alloc (.cells #[.int .i64 c, .int .i64 st, .int .i64 pe, .int .i64 ho, .int .i64 si, .int .i64 sp, .slice x n n, .bool up, .bool dn, .bool ud] 40)).alloc (.cells #[.int .i64 c, .int .i64 st, .int .i64 pe, .int .i64 ho, .int .i64 si, .int .i64 sp, .slice y n n, .bool up, .bool dn, .bool ud] 40)
  have b0 : Blk ((w.alloc (.cells #[.int .i64 c, .int .i64 st, .int .i64 pe, .int .i64 ho, .int .i64 si, .int .i64 sp, .slice x n n, .bool up, .bool dn, .bool ud] 40)).alloc (.cells #[.int .i64 c, .int .i64 st, .int .i64 pe, .int .i64 ho, .int .i64 si, .int .i64 sp, .slice y n n, .bool up, .bool dn, .bool ud] 40)) w.heap.size 40 #[.int .i64 c, .int .i64 st, .int .i64 pe, .int .i64 ho, .int .i64 si, .int .i64 sp, .slice x n n, .bool up, .bool dn, .bool ud] := (Blk.mk _ _ _ _ rfl).alloc _
  have b1 : Blk ((w.alloc (.cells #[.int .i64 c, .int .i64 st, .int .i64 pe, .int .i64 ho, .int .i64 si, .int .i64 sp, .slice x n n, .bool up, .bool dn, .bool ud] 40)).alloc (.cells #[.int .i64 c, .int .i64 st, .int .i64 pe, .int .i64 ho, .int .i64 si, .int .i64 sp, .slice y n n, .bool up, .bool dn, .bool ud] 40)) (w.heap.size + 1) 40 #[.int .i64 c, .int .i64 st, .int .i64 pe, .int .i64 ho, .int .i64 si, .int .i64 sp, .slice y n n, .bool up, .bool dn, .bool ud] := Blk.mk _ _ _ _ (by simp)
  have z1 : (c != c) = false := by simp
  have z2 : (up != up) = false := by simp
  have z3 : (dn != dn) = false := by simp
  have z4 : (ud != ud) = false := by simp
  go_enter Try.func32, Try.ntmps32
  go_wp2_with fail
  refine (eqSes st pe ho si sp _).mono ?_
  rintro e w1 ⟨rfl, hn1⟩
  have c0 := (b0.new hn1).cells
  have c1 := (b1.new hn1).cells
  go_wp2_with fail
  refine (hs.out _ (hw.trans hn1)).mono ?_
  rintro e w2 ⟨rfl, hn2⟩
  have c0' := ((b0.new hn1).new hn2).cells
  have c1' := ((b1.new hn1).new hn2).cells
  go_wp2
  go_ret
  exact ⟨rfl, (hw.trans hn1).trans hn2⟩

set_option maxHeartbeats 1600000 in
theorem mkSR (r : Rs) (g : Nat) (v : Value) (w : World) (hv : SayAt w g v r.say) :
    Calls Try.prog 33 #[.agg (srC r.c r.st r.pe r.ho r.si r.sp v r.up r.dn r.ud), .int .i64 1] w fun e w' => e = .returned (.int .i64 (mkC5 r.say)) ∧ MkAt w' g v r.say ∧ Turn (fun k => k = g) w w' := by
  obtain ⟨c, st, pe, ho, si, sp, say, up, dn, ud⟩ := r
  dsimp only [srC] at *
  have hs : Hid (∀ W, New w W → Calls Try.prog 90 #[v, .int .i64 1] W fun e w' => e = .returned (.int .i64 (mkC5 say)) ∧ MkAt w' g v say ∧ Turn (fun k => k = g) W w') := by
    intro W hW
    cases say with
    | none =>
      have e1 : v = .slice none 0 0 := hv
      subst e1
      exact (mkMgs0 W).mono (fun e w' ⟨h1, h2⟩ => ⟨h1, rfl, by subst h2; exact Turn.refl _ _⟩)
    | some m =>
      obtain ⟨e1, b1⟩ := hv
      subst e1
      exact (mkMgs1 g _ _ _ _ _ _ W (b1.new hW)).mono (fun e w' ⟨h1, h2, h3⟩ => ⟨h1, ⟨rfl, h2⟩, h3⟩)
  obtain ⟨x, hx⟩ := hv.form
  clear hv
  generalize hN : mkC5 say = N at *
  have HW : Hid (New w (w.alloc (.cells #[.int .i64 c, .int .i64 st, .int .i64 pe, .int .i64 ho, .int .i64 si, .int .i64 sp, v, .bool up, .bool dn, .bool ud] 40))) := (New.refl w).alloc _
  subst hx
  generalize sayN say = n at *
  go_enter Try.func33, Try.ntmps33
  go_wp2_with fail
  refine (hs.out _ HW.out).mono ?_
  rintro e w1 ⟨rfl, hm1, ht1⟩
  go_wp2
  go_ret
  exact ⟨rfl, hm1, Turn.trans (New.turn HW.out) ht1 (fun _ _ h => h)⟩

set_option maxHeartbeats 1600000 in
theorem hdSR (r : Rs) (g : Nat) (v : Value) (w : World) (hv : MkAt w g v r.say) :
    Calls Try.prog 34 #[.agg (srC r.c r.st r.pe r.ho r.si r.sp v r.up r.dn r.ud), .int .i64 1] w fun e w' => e = .returned (.int .i64 (mkC5 r.say)) ∧ New w w' := by
  obtain ⟨c, st, pe, ho, si, sp, say, up, dn, ud⟩ := r
  dsimp only [srC] at *
  have hs : Hid (∀ W, New w W → Calls Try.prog 91 #[v, .int .i64 1] W fun e w' => e = .returned (.int .i64 (mkC5 say)) ∧ New W w') := by
    intro W hW
    cases say with
    | none =>
      have e1 : v = .slice none 0 0 := hv
      subst e1
      exact (hdMgs0 W).mono (fun e w' ⟨h1, h2⟩ => ⟨h1, by subst h2; exact New.refl _⟩)
    | some m =>
      obtain ⟨e1, b1⟩ := hv
      subst e1
      exact hdMgs1 g W (b1.new hW)
  have hf : ∃ x n, v = .slice x n n := by
    cases say with
    | none => exact ⟨none, 0, hv⟩
    | some m => exact ⟨_, 1, hv.1⟩
  have hN0 : 0 ≤ mkC5 say := by cases say <;> simp [mkC5]
  obtain ⟨x, n, rfl⟩ := hf
  clear hv
  generalize mkC5 say = N at *
  have HW : Hid (New w (w.alloc (.cells #[.int .i64 c, .int .i64 st, .int .i64 pe, .int .i64 ho, .int .i64 si, .int .i64 sp, .slice x n n, .bool up, .bool dn, .bool ud] 40))) := (New.refl w).alloc _
  go_enter Try.func34, Try.ntmps34
  go_wp2_with fail
  refine (hs.out _ HW.out).mono ?_
  rintro e w1 ⟨rfl, hn1⟩
  go_wp2
  go_ret
  exact ⟨rfl, HW.out.trans hn1⟩

end Go.Proofs.Ytdkocmmcoigcgaa
