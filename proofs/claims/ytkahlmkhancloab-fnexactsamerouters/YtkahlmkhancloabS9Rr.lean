/- What is proved here: what the program's comparing of routers answers, where all lists have at most 1048576 things. -/
import Derived.Test.YtkahlmkhancloabS9Lk
import Derived.Test.YtkahlmkhancloabS9Rt
namespace Go.Proofs.Ytkahlmkhancloab
open Go.RowKit Go.Sort
set_option linter.unusedVariables false

set_option maxHeartbeats 6400000 in
theorem implSR (sa si ho nx sa' si' ho' nx' : Int) (a1 a2 la ra b1 b2 lb rb : Option Addr) (n1 c1 n2 c2 ln lc rn rc k1 d1 k2 d2 lk ld rk rd : Nat) (r1 r2 s1 s2 : List Ru) (L L' : List Lv) (R R' : List Rv) (v : Bool) (w : World) (h1 : RsAt w a1 r1) (h2 : RsAt w a2 r2) (h3 : LkAt w la L) (h4 : RtAt w ra R) (j1 : RsAt w b1 s1) (j2 : RsAt w b2 s2) (j3 : LkAt w lb L') (j4 : RtAt w rb R') (e1 : r1.length = n1) (e2 : r2.length = n2) (e3 : L.length = ln) (e4 : R.length = rn) (f1 : s1.length = k1) (f2 : s2.length = k2) (f3 : L'.length = lk) (f4 : R'.length = rk) (m1 : n1 ≤ 1048576) (m2 : n2 ≤ 1048576) (m3 : ln ≤ 1048576) (m4 : rn ≤ 1048576) (p1 : k1 ≤ 1048576) (p2 : k2 ≤ 1048576) (p3 : lk ≤ 1048576) (p4 : rk ≤ 1048576) (hv : v = true ↔ ((sa = sa' ∧ si = si' ∧ ho = ho' ∧ nx = nx' ∧ r1 = s1 ∧ r2 = s2) ∧ L.map Lv.r = L'.map Lv.r ∧ R.map Rv.r = R'.map Rv.r)) :
    Calls Try.prog 17 #[.agg #[.int .i64 sa, .int .i64 si, .int .i64 ho, .int .i64 nx, .slice a1 n1 c1, .slice a2 n2 c2, .slice la ln lc, .slice ra rn rc], .agg #[.int .i64 sa', .int .i64 si', .int .i64 ho', .int .i64 nx', .slice b1 k1 d1, .slice b2 k2 d2, .slice lb lk ld, .slice rb rk rd]] w fun e w' => e = .returned (.bool v) ∧ New w w' := by
  have N0 : New w ((w.alloc (.cells #[.int .i64 sa, .int .i64 si, .int .i64 ho, .int .i64 nx, .slice a1 n1 c1, .slice a2 n2 c2, .slice la ln lc, .slice ra rn rc] 40)).alloc (.cells #[.int .i64 sa', .int .i64 si', .int .i64 ho', .int .i64 nx', .slice b1 k1 d1, .slice b2 k2 d2, .slice lb lk ld, .slice rb rk rd] 40)) := ((New.refl w).alloc _).alloc _
  have bA : Blk ((w.alloc (.cells #[.int .i64 sa, .int .i64 si, .int .i64 ho, .int .i64 nx, .slice a1 n1 c1, .slice a2 n2 c2, .slice la ln lc, .slice ra rn rc] 40)).alloc (.cells #[.int .i64 sa', .int .i64 si', .int .i64 ho', .int .i64 nx', .slice b1 k1 d1, .slice b2 k2 d2, .slice lb lk ld, .slice rb rk rd] 40)) w.heap.size 40 #[.int .i64 sa, .int .i64 si, .int .i64 ho, .int .i64 nx, .slice a1 n1 c1, .slice a2 n2 c2, .slice la ln lc, .slice ra rn rc] := (Blk.mk _ _ _ _ rfl).alloc _
  have bB : Blk ((w.alloc (.cells #[.int .i64 sa, .int .i64 si, .int .i64 ho, .int .i64 nx, .slice a1 n1 c1, .slice a2 n2 c2, .slice la ln lc, .slice ra rn rc] 40)).alloc (.cells #[.int .i64 sa', .int .i64 si', .int .i64 ho', .int .i64 nx', .slice b1 k1 d1, .slice b2 k2 d2, .slice lb lk ld, .slice rb rk rd] 40)) (w.heap.size + 1) 40 #[.int .i64 sa', .int .i64 si', .int .i64 ho', .int .i64 nx', .slice b1 k1 d1, .slice b2 k2 d2, .slice lb lk ld, .slice rb rk rd] := Blk.mk _ _ _ _ (by simp)
  have E1 : Hid (r1.length = n1) := e1
  have E2 : Hid (r2.length = n2) := e2
  have E3 : Hid (L.length = ln) := e3
  have E4 : Hid (R.length = rn) := e4
  have F1 : Hid (s1.length = k1) := f1
  have F2 : Hid (s2.length = k2) := f2
  have F3 : Hid (L'.length = lk) := f3
  have F4 : Hid (R'.length = rk) := f4
  have HX : Hid (¬ ((sa = sa' ∧ si = si' ∧ ho = ho' ∧ nx = nx' ∧ r1 = s1 ∧ r2 = s2) ∧ L.map Lv.r = L'.map Lv.r ∧ R.map Rv.r = R'.map Rv.r) → false = v) := by
    intro e
    cases v
    · rfl
    · exact absurd (hv.1 rfl) e
  have cA := bA.cells
  have cB := bB.cells
  clear e1 e2 e3 e4 f1 f2 f3 f4
  by_cases hs : sa = sa' ∧ si = si' ∧ ho = ho' ∧ nx = nx' ∧ r1 = s1 ∧ r2 = s2
  rotate_left
  · have hx : Hid (false = v) := HX.out (fun e => hs e.1)
    have V1 : Hid (¬ (sa = sa' ∧ si = si' ∧ ho = ho' ∧ nx = nx' ∧ r1 = s1 ∧ r2 = s2)) := hs
    clear HX hv hs
    go_enter Try.func17, Try.ntmps17
    go_wp2_with fail
    refine (sameSe sa si ho nx sa' si' ho' nx' a1 a2 b1 b2 n1 c1 n2 c2 k1 d1 k2 d2 r1 r2 s1 s2 false _ (h1.new N0) (h2.new N0) (j1.new N0) (j2.new N0) E1.out E2.out F1.out F2.out m1 m2 p1 p2 ⟨(fun e => by cases e), fun e => absurd e V1.out⟩).mono ?_
    rintro e w1 ⟨rfl, i1⟩
    have N1 := N0.trans i1
    have bA1 := bA.new i1
    have bB1 := bB.new i1
    clear cA cB
    have cA := bA1.cells
    have cB := bB1.cells
    go_wp2
    go_ret
    exact ⟨ret_bool hx.out, N1⟩
  · have V1 : Hid (sa = sa' ∧ si = si' ∧ ho = ho' ∧ nx = nx' ∧ r1 = s1 ∧ r2 = s2) := hs
    by_cases hl : L.map Lv.r = L'.map Lv.r
    rotate_left
    · have hx : Hid (false = v) := HX.out (fun e => hl e.2.1)
      have V2 : Hid (¬ L.map Lv.r = L'.map Lv.r) := hl
      clear HX hv hl hs
      go_enter Try.func17, Try.ntmps17
      go_wp2_with fail
      refine (sameSe sa si ho nx sa' si' ho' nx' a1 a2 b1 b2 n1 c1 n2 c2 k1 d1 k2 d2 r1 r2 s1 s2 true _ (h1.new N0) (h2.new N0) (j1.new N0) (j2.new N0) E1.out E2.out F1.out F2.out m1 m2 p1 p2 ⟨fun _ => V1.out, fun _ => rfl⟩).mono ?_
      rintro e w1 ⟨rfl, i1⟩
      have N1 := N0.trans i1
      have bA1 := bA.new i1
      have bB1 := bB.new i1
      clear cA cB
      have cA := bA1.cells
      have cB := bB1.cells
      go_wp2_with fail
      refine (equal_lk la lb ln lk lc ld L L' false _ (h3.new N1) (j3.new N1) E3.out F3.out m3 p3 ⟨(fun e => by cases e), fun e => absurd e V2.out⟩).mono ?_
      rintro e w2 ⟨rfl, i2⟩
      have N2 := N1.trans i2
      have bA2 := bA1.new i2
      have bB2 := bB1.new i2
      clear cA cB
      have cA := bA2.cells
      have cB := bB2.cells
      go_wp2
      go_ret
      exact ⟨ret_bool hx.out, N2⟩
    · have V3 : Hid (v = true ↔ R.map Rv.r = R'.map Rv.r) := by
        constructor
        · intro e; exact (hv.1 e).2.2
        · intro e; exact hv.2 ⟨hs, hl, e⟩
      have V2 : Hid (L.map Lv.r = L'.map Lv.r) := hl
      clear HX hv hl hs
      go_enter Try.func17, Try.ntmps17
      go_wp2_with fail
      refine (sameSe sa si ho nx sa' si' ho' nx' a1 a2 b1 b2 n1 c1 n2 c2 k1 d1 k2 d2 r1 r2 s1 s2 true _ (h1.new N0) (h2.new N0) (j1.new N0) (j2.new N0) E1.out E2.out F1.out F2.out m1 m2 p1 p2 ⟨fun _ => V1.out, fun _ => rfl⟩).mono ?_
      rintro e w1 ⟨rfl, i1⟩
      have N1 := N0.trans i1
      have bA1 := bA.new i1
      have bB1 := bB.new i1
      clear cA cB
      have cA := bA1.cells
      have cB := bB1.cells
      go_wp2_with fail
      refine (equal_lk la lb ln lk lc ld L L' true _ (h3.new N1) (j3.new N1) E3.out F3.out m3 p3 ⟨fun _ => V2.out, fun _ => rfl⟩).mono ?_
      rintro e w2 ⟨rfl, i2⟩
      have N2 := N1.trans i2
      have bA2 := bA1.new i2
      have bB2 := bB1.new i2
      clear cA cB
      have cA := bA2.cells
      have cB := bB2.cells
      go_wp2_with fail
      refine (equal_rt ra rb rn rk rc rd R R' v _ (h4.new N2) (j4.new N2) E4.out F4.out m4 p4 V3.out).mono ?_
      rintro e w3 ⟨rfl, i3⟩
      go_wp2
      go_ret
      exact ⟨ret_bool (by cases v <;> rfl), N2.trans i3⟩

end Go.Proofs.Ytkahlmkhancloab
