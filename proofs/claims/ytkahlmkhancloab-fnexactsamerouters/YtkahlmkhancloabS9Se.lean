/- What is proved here: what the program's comparing of settings answers, for rules of at most 1048576. -/
import Derived.Test.YtkahlmkhancloabS9Eq
namespace Go.Proofs.Ytkahlmkhancloab
open Go.RowKit Go.Sort
set_option linter.unusedVariables false

theorem bool_of9 (p : Prop) : ∃ v : Bool, v = true ↔ p := by
  by_cases h : p
  · exact ⟨true, fun _ => h, fun _ => rfl⟩
  · exact ⟨false, (fun e => by cases e), fun e => absurd e h⟩

set_option maxHeartbeats 3200000 in
theorem sameSe (sa si ho nx sa' si' ho' nx' : Int) (a1 a2 b1 b2 : Option Addr) (n1 c1 n2 c2 k1 d1 k2 d2 : Nat) (r1 r2 s1 s2 : List Ru) (v : Bool) (w : World) (h1 : RsAt w a1 r1) (h2 : RsAt w a2 r2) (j1 : RsAt w b1 s1) (j2 : RsAt w b2 s2) (e1 : r1.length = n1) (e2 : r2.length = n2) (f1 : s1.length = k1) (f2 : s2.length = k2) (m1 : n1 ≤ 1048576) (m2 : n2 ≤ 1048576) (p1 : k1 ≤ 1048576) (p2 : k2 ≤ 1048576) (hv : v = true ↔ (sa = sa' ∧ si = si' ∧ ho = ho' ∧ nx = nx' ∧ r1 = s1 ∧ r2 = s2)) :
    Calls Try.prog 41 #[.agg #[.int .i64 sa, .int .i64 si, .int .i64 ho, .int .i64 nx, .slice a1 n1 c1, .slice a2 n2 c2], .agg #[.int .i64 sa', .int .i64 si', .int .i64 ho', .int .i64 nx', .slice b1 k1 d1, .slice b2 k2 d2]] w fun e w' => e = .returned (.bool v) ∧ New w w' := by
  have N0 : New w ((w.alloc (.cells #[.int .i64 sa, .int .i64 si, .int .i64 ho, .int .i64 nx, .slice a1 n1 c1, .slice a2 n2 c2] 36)).alloc (.cells #[.int .i64 sa', .int .i64 si', .int .i64 ho', .int .i64 nx', .slice b1 k1 d1, .slice b2 k2 d2] 36)) := ((New.refl w).alloc _).alloc _
  have bA : Blk ((w.alloc (.cells #[.int .i64 sa, .int .i64 si, .int .i64 ho, .int .i64 nx, .slice a1 n1 c1, .slice a2 n2 c2] 36)).alloc (.cells #[.int .i64 sa', .int .i64 si', .int .i64 ho', .int .i64 nx', .slice b1 k1 d1, .slice b2 k2 d2] 36)) w.heap.size 36 #[.int .i64 sa, .int .i64 si, .int .i64 ho, .int .i64 nx, .slice a1 n1 c1, .slice a2 n2 c2] := (Blk.mk _ _ _ _ rfl).alloc _
  have bB : Blk ((w.alloc (.cells #[.int .i64 sa, .int .i64 si, .int .i64 ho, .int .i64 nx, .slice a1 n1 c1, .slice a2 n2 c2] 36)).alloc (.cells #[.int .i64 sa', .int .i64 si', .int .i64 ho', .int .i64 nx', .slice b1 k1 d1, .slice b2 k2 d2] 36)) (w.heap.size + 1) 36 #[.int .i64 sa', .int .i64 si', .int .i64 ho', .int .i64 nx', .slice b1 k1 d1, .slice b2 k2 d2] := Blk.mk _ _ _ _ (by simp)
  have E1 : Hid (r1.length = n1) := e1
  have E2 : Hid (r2.length = n2) := e2
  have F1 : Hid (s1.length = k1) := f1
  have F2 : Hid (s2.length = k2) := f2
  have HV : Hid (v = true ↔ (sa = sa' ∧ si = si' ∧ ho = ho' ∧ nx = nx' ∧ r1 = s1 ∧ r2 = s2)) := hv
  have HX : Hid (¬ (sa = sa' ∧ si = si' ∧ ho = ho' ∧ nx = nx' ∧ r1 = s1 ∧ r2 = s2) → false = v) := by
    intro e
    cases v
    · rfl
    · exact absurd (HV.out.1 rfl) e
  have cA := bA.cells
  have cB := bB.cells
  clear e1 e2 f1 f2 hv
  by_cases g0 : sa = sa'
  · subst g0
    by_cases g1 : si = si'
    · subst g1
      by_cases g2 : ho = ho'
      · subst g2
        by_cases g3 : nx = nx'
        · subst g3
          by_cases hr1 : r1 = s1
          rotate_left
          · have hx : Hid (false = v) := HX.out (fun e => hr1 e.2.2.2.2.1)
            have V1 : Hid (¬ r1 = s1) := hr1
            clear HX HV hr1
            go_enter Try.func41, Try.ntmps41
            go_wp2_with fail
            refine (equalRu a1 b1 n1 k1 c1 d1 r1 s1 false _ (h1.new N0) (j1.new N0) E1.out F1.out m1 p1 ⟨(fun e => by cases e), fun e => absurd e V1.out⟩).mono ?_
            rintro e w1 ⟨rfl, i1⟩
            go_wp2
            go_ret
            exact ⟨ret_bool hx.out, N0.trans i1⟩
          · have V2 : Hid (v = true ↔ r2 = s2) := by
              constructor
              · intro e; exact (HV.out.1 e).2.2.2.2.2
              · intro e; exact HV.out.2 ⟨rfl, rfl, rfl, rfl, hr1, e⟩
            have V1 : Hid (r1 = s1) := hr1
            clear HX HV hr1
            go_enter Try.func41, Try.ntmps41
            go_wp2_with fail
            refine (equalRu a1 b1 n1 k1 c1 d1 r1 s1 true _ (h1.new N0) (j1.new N0) E1.out F1.out m1 p1 ⟨fun _ => V1.out, fun _ => rfl⟩).mono ?_
            rintro e w1 ⟨rfl, i1⟩
            have N1 := N0.trans i1
            have bA1 := bA.new i1
            have bB1 := bB.new i1
            clear cA cB
            have cA := bA1.cells
            have cB := bB1.cells
            go_wp2_with fail
            refine (equalRu a2 b2 n2 k2 c2 d2 r2 s2 v _ (h2.new N1) (j2.new N1) E2.out F2.out m2 p2 V2.out).mono ?_
            rintro e w2 ⟨rfl, i2⟩
            go_wp2
            go_ret
            exact ⟨ret_bool (by cases v <;> rfl), N1.trans i2⟩
        · have hx : Hid (false = v) := HX.out (by simp [g3])
          have g3' : (nx == nx') = false := by simpa using g3
          clear HX HV
          go_enter Try.func41, Try.ntmps41
          go_wp2
          go_ret
          exact ⟨ret_bool hx.out, N0⟩
      · have hx : Hid (false = v) := HX.out (by simp [g2])
        have g2' : (ho == ho') = false := by simpa using g2
        clear HX HV
        go_enter Try.func41, Try.ntmps41
        go_wp2
        go_ret
        exact ⟨ret_bool hx.out, N0⟩
    · have hx : Hid (false = v) := HX.out (by simp [g1])
      have g1' : (si == si') = false := by simpa using g1
      clear HX HV
      go_enter Try.func41, Try.ntmps41
      go_wp2
      go_ret
      exact ⟨ret_bool hx.out, N0⟩
  · have hx : Hid (false = v) := HX.out (by simp [g0])
    have g0' : (sa == sa') = false := by simpa using g0
    clear HX HV
    go_enter Try.func41, Try.ntmps41
    go_wp2
    go_ret
    exact ⟨ret_bool hx.out, N0⟩

end Go.Proofs.Ytkahlmkhancloab
