/- What is proved here: what the program's BestFor answers, for every list of at most 1048576 routes with paths of at most 1048576 numbers and every prefix. -/
import Derived.Test.YtkaaefieglhdlaaH8Lb
namespace Go.Proofs.Ytkaaefieglhdlaa
open Go.RowKit Go.Sort
set_option linter.unusedVariables false
set_option linter.unusedSimpArgs false
set_option maxRecDepth 100000

/-- The answer: the faults of list and prefix, or the best. -/
def BfA (R : List Rt) (a0 l0 z : Int) (r : Rt) : Prop := (¬ ribF R = 0 ∧ z = ribF R ∧ r = ⟨0, 0, 0, 0, [], 0, 0, 0⟩) ∨ (ribF R = 0 ∧ ¬ pf a0 l0 = 0 ∧ z = pf a0 l0 ∧ r = ⟨0, 0, 0, 0, [], 0, 0, 0⟩) ∨ (ribF R = 0 ∧ pf a0 l0 = 0 ∧ BfOk R a0 l0 z r)

/-- The answer as a value of the call's own. -/
def BAns (w : World) (R : List Rt) (a0 l0 : Int) (e : Ending) (w' : World) : Prop := ∃ z r x d, BfA R a0 l0 z r ∧ e = .returned (.agg #[.int .i64 z, .int .i64 r.p, .int .i64 r.a, .int .i64 r.l, .int .i64 r.o, .slice x r.xs.length d, .int .i64 r.nx, .int .i64 r.md, .int .i64 r.lc]) ∧ OvN w' w.heap.size (.slice x r.xs.length d) r.xs ∧ ((∀ q ∈ r.xs, In6 q) ∧ r.xs.length ≤ 1048576) ∧ New w w'

theorem BAns.bad {w w' : World} {R : List Rt} {a0 l0 z : Int} (h : BfA R a0 l0 z ⟨0, 0, 0, 0, [], 0, 0, 0⟩) (n : New w w') : BAns w R a0 l0 (.returned (.agg #[.int .i64 z, .int .i64 0, .int .i64 0, .int .i64 0, .int .i64 0, .slice none 0 0, .int .i64 0, .int .i64 0, .int .i64 0])) w' :=
  ⟨z, _, none, 0, h, rfl, ⟨rfl, .inl ⟨rfl, rfl⟩⟩, ⟨by simp, by simp⟩, n⟩

theorem nine_new {w W : World} {B : Nat} {W' : World} (hn : New w W) (t : Turn (fun k => k = B) W W') (hB : w.heap.size ≤ B) : New w W' :=
  Turn.mono (S := fun k => w.heap.size ≤ k) (Turn.trans hn.turn t (fun k _ e => by omega)) (fun k h1 h2 => by omega)

set_option maxHeartbeats 6400000 in
theorem implBF (a0 l0 : Int) (A : Option Addr) (N cc : Nat) (V : List Rv) (w : World) (h : RtAt w A V) (hn : V.length = N) (hm : N ≤ 1048576) :
    Calls Try.prog 9 #[.slice A N cc, .agg #[.int .i64 a0, .int .i64 l0]] w (BAns w (V.map Rv.r) a0 l0) := by
  by_cases hok : ribF (V.map Rv.r) = 0 ∧ pf a0 l0 = 0
  · refine (implBF_ok a0 l0 A N cc V w h hn hm hok.1 hok.2).mono fun e w' hh => ?_
    obtain ⟨z, r, x, d, h1, h2⟩ := hh
    exact ⟨z, r, x, d, .inr (.inr ⟨hok.1, hok.2, h1⟩), h2⟩
  have HN : Hid (V.length = N) := hn
  have N0 : New w ((w.alloc (.cells #[.int .i64 a0, .int .i64 l0] 26)).alloc (.cells #[.int .i64 0, .int .i64 0, .int .i64 0, .int .i64 0, .int .i64 0, .slice none 0 0, .int .i64 0, .int .i64 0, .int .i64 0] 33)) := ((New.refl w).alloc _).alloc _
  have bB : Blk ((w.alloc (.cells #[.int .i64 a0, .int .i64 l0] 26)).alloc (.cells #[.int .i64 0, .int .i64 0, .int .i64 0, .int .i64 0, .int .i64 0, .slice none 0 0, .int .i64 0, .int .i64 0, .int .i64 0] 33)) (w.heap.size + 1) 33 #[.int .i64 0, .int .i64 0, .int .i64 0, .int .i64 0, .int .i64 0, .slice none 0 0, .int .i64 0, .int .i64 0, .int .i64 0] := Blk.mk _ _ _ _ (by simp)
  have bP : Blk ((w.alloc (.cells #[.int .i64 a0, .int .i64 l0] 26)).alloc (.cells #[.int .i64 0, .int .i64 0, .int .i64 0, .int .i64 0, .int .i64 0, .slice none 0 0, .int .i64 0, .int .i64 0, .int .i64 0] 33)) w.heap.size 26 #[.int .i64 a0, .int .i64 l0] := (Blk.mk _ _ _ _ rfl).alloc _
  obtain ⟨f, hf⟩ : ∃ f, Hid (ribF (V.map Rv.r) = f) := ⟨_, rfl⟩
  obtain ⟨g, hg⟩ : ∃ g, Hid (pf a0 l0 = g) := ⟨_, rfl⟩
  have HOK : Hid (¬ (f = 0 ∧ g = 0)) := by unfold Hid; rw [← hf.out, ← hg.out]; exact hok
  clear hok hn
  go_enter Try.func9, Try.ntmps9
  go_upto_region 1 with fail
  generalize ((w.alloc (.cells #[.int .i64 a0, .int .i64 l0] 26)).alloc (.cells #[.int .i64 0, .int .i64 0, .int .i64 0, .int .i64 0, .int .i64 0, .slice none 0 0, .int .i64 0, .int .i64 0, .int .i64 0] 33)) = w0 at *
  go_wp2_with fail
  refine (implRib A N cc V f _ (h.new N0) HN.out hm hf.out).mono ?_
  rintro e w1 ⟨rfl, h1⟩
  have b1 := bB.new h1
  have p1 := bP.new h1
  have n1 := N0.trans h1
  have lt1 := b1.lt
  clear bB h1 N0 bP
  by_cases h0 : f = 0
  case neg =>
    have hne : (f != 0) = true := by simpa using h0
    have HB : Hid (BfA (V.map Rv.r) a0 l0 f ⟨0, 0, 0, 0, [], 0, 0, 0⟩) := .inl ⟨by rw [hf.out]; exact h0, hf.out.symm, rfl⟩
    have c1 := b1.cells
    have f1 := b1.frees
    clear hf hg
    go_wp2
    exact bodyPost_ret (v := .agg #[.int .i64 f, .int .i64 0, .int .i64 0, .int .i64 0, .int .i64 0, .slice none 0 0, .int .i64 0, .int .i64 0, .int .i64 0]) (by simp [results, Try.results9, go_sem, c1]) rfl (BAns.bad HB.out (nine_new n1 (nine8 w1 (w.heap.size + 1) 33 (.int .i64 0) (.int .i64 0) (.int .i64 0) (.int .i64 0) (.int .i64 0) (.slice none 0 0) (.int .i64 0) (.int .i64 0) (.int .i64 0) (.int .i64 f) (.int .i64 0) (.int .i64 0) (.int .i64 0) (.int .i64 0) (.slice none 0 0) (.int .i64 0) (.int .i64 0) (.int .i64 0) b1).2 (by omega)))
  subst h0
  have hg0 : ¬ g = 0 := fun e => HOK.out ⟨rfl, e⟩
  have hne : (g != 0) = true := by simpa using hg0
  have HB : Hid (BfA (V.map Rv.r) a0 l0 g ⟨0, 0, 0, 0, [], 0, 0, 0⟩) := .inr (.inl ⟨hf.out, by rw [hg.out]; exact hg0, hg.out.symm, rfl⟩)
  have pc := p1.cells
  go_wp2_with fail
  refine (implPF_is a0 l0 g _ hg.out).mono ?_
  rintro e w2 ⟨rfl, h2⟩
  have b2 := b1.new h2
  have n2 := n1.trans h2
  have lt2 := b2.lt
  have c2 := b2.cells
  have f2 := b2.frees
  clear hf hg b1 p1 pc n1 h2
  go_wp2
  exact bodyPost_ret (v := .agg #[.int .i64 g, .int .i64 0, .int .i64 0, .int .i64 0, .int .i64 0, .slice none 0 0, .int .i64 0, .int .i64 0, .int .i64 0]) (by simp [results, Try.results9, go_sem, c2]) rfl (BAns.bad HB.out (nine_new n2 (nine8 w2 (w.heap.size + 1) 33 (.int .i64 0) (.int .i64 0) (.int .i64 0) (.int .i64 0) (.int .i64 0) (.slice none 0 0) (.int .i64 0) (.int .i64 0) (.int .i64 0) (.int .i64 g) (.int .i64 0) (.int .i64 0) (.int .i64 0) (.int .i64 0) (.slice none 0 0) (.int .i64 0) (.int .i64 0) (.int .i64 0) b2).2 (by omega)))

end Go.Proofs.Ytkaaefieglhdlaa
