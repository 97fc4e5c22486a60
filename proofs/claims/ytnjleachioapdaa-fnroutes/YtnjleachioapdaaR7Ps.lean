/- What is proved here: what PutRoute answers in the model, for lists of at most 1048576 routes with paths of at most 1048576 numbers. -/
import Derived.Test.YtnjleachioapdaaR7Pu
import Derived.Deep.CutRange
namespace Go.Proofs.Ytnjleachioapdaa
open Go.RowKit Go.Sort
set_option linter.unusedVariables false

set_option maxRecDepth 100000 in
set_option maxHeartbeats 12800000 in
theorem specPT (p a l o nx md lc : Int) (x : Option Addr) (n c : Nat) (xs : List Int) (A : Option Addr) (N cc : Nat) (V : List Rv) (z : Int) (S : List Rt) (w : World) (h : RtAt w A V) (hn : V.length = N) (hm : N ≤ 1048576) (hx : NsAt w x xs) (hxn : xs.length = n) (hxm : n ≤ 1048576) (hxl : x = none → n = 0 ∧ c = 0) (hz : ptC (V.map Rv.r) (Rt.mk p a l o xs nx md lc) = z) (hS : ptR (V.map Rv.r) (Rt.mk p a l o xs nx md lc) = S) :
    Calls Try.prog 7 #[.slice A N cc, .agg #[.int .i64 p, .int .i64 a, .int .i64 l, .int .i64 o, .slice x n c, .int .i64 nx, .int .i64 md, .int .i64 lc]] w (RAns w z S) := by
  have HN : Hid (V.length = N) := hn
  have HX : Hid (xs.length = n) := hxn
  have HXL : Hid (x = none → n = 0 ∧ c = 0) := hxl
  have hbd : Hid (∀ z ∈ xs, In6 z) := hx.bd
  have HZ : Hid (ptC (V.map Rv.r) (Rt.mk p a l o xs nx md lc) = z) := hz
  have HS : Hid (ptR (V.map Rv.r) (Rt.mk p a l o xs nx md lc) = S) := hS
  have N0 : New w ((w.alloc (.cells #[.int .i64 p, .int .i64 a, .int .i64 l, .int .i64 o, .slice x n c, .int .i64 nx, .int .i64 md, .int .i64 lc] 31)).alloc (.cells #[.int .i64 0, .slice none 0 0] 35)) := ((New.refl w).alloc _).alloc _
  have bA : Blk ((w.alloc (.cells #[.int .i64 p, .int .i64 a, .int .i64 l, .int .i64 o, .slice x n c, .int .i64 nx, .int .i64 md, .int .i64 lc] 31)).alloc (.cells #[.int .i64 0, .slice none 0 0] 35)) w.heap.size 31 #[.int .i64 p, .int .i64 a, .int .i64 l, .int .i64 o, .slice x n c, .int .i64 nx, .int .i64 md, .int .i64 lc] := (Blk.mk _ _ _ _ rfl).alloc _
  have bB : Blk ((w.alloc (.cells #[.int .i64 p, .int .i64 a, .int .i64 l, .int .i64 o, .slice x n c, .int .i64 nx, .int .i64 md, .int .i64 lc] 31)).alloc (.cells #[.int .i64 0, .slice none 0 0] 35)) (w.heap.size + 1) 35 #[.int .i64 0, .slice none 0 0] := Blk.mk _ _ _ _ (by simp)
  obtain ⟨f, hf⟩ : ∃ f, Hid (ribF (V.map Rv.r) = f) := ⟨_, rfl⟩
  obtain ⟨g, hg⟩ : ∃ g, Hid (rtf p a l o xs nx md lc = g) := ⟨_, rfl⟩
  clear hn hxn hxl hz hS
  go_enter Try.func7, Try.ntmps7
  go_upto_region 1 with fail
  generalize ((w.alloc (.cells #[.int .i64 p, .int .i64 a, .int .i64 l, .int .i64 o, .slice x n c, .int .i64 nx, .int .i64 md, .int .i64 lc] 31)).alloc (.cells #[.int .i64 0, .slice none 0 0] 35)) = w0 at *
  go_wp2_with fail
  refine (specRib A N cc V f _ (h.new N0) HN.out hm hf.out).mono ?_
  rintro e w1 ⟨rfl, h1⟩
  have bA := bA.new h1
  have bB := bB.new h1
  have n1 := N0.trans h1
  have ltB := bB.lt
  clear h1 N0
  by_cases h0 : f = 0
  case neg =>
    have hne : (f != 0) = true := by simpa using h0
    have ez : z = f := by
      rw [← HZ.out]
      unfold ptC
      rw [hf.out, if_neg h0]
    have eS : S = [] := by
      rw [← HS.out]
      unfold ptR
      rw [HZ.out, ez, if_neg h0]
    subst ez
    subst eS
    have c1 := bB.cells
    have f1 := bB.frees
    clear HZ HS hf
    go_wp2
    exact bodyPost_ret (v := .agg #[.int .i64 z, .slice none 0 0]) (by simp [results, Try.results7, go_sem, c1]) rfl (RAns.bad n1 (by omega))
  subst h0
  have cA := bA.cells
  go_wp2_with fail
  refine (specRTF p a l o nx md lc x n c xs g _ (hx.new n1) HX.out hxm hg.out).mono ?_
  rintro e w2 ⟨rfl, h2⟩
  have bA := bA.new h2
  have bB := bB.new h2
  have n2 := n1.trans h2
  have ltB := bB.lt
  clear h2 n1
  by_cases h0 : g = 0
  case neg =>
    have hne : (g != 0) = true := by simpa using h0
    have ez : z = g := by
      rw [← HZ.out]
      unfold ptC
      rw [hf.out, if_pos rfl, show Rt.f (Rt.mk p a l o xs nx md lc) = g from hg.out, if_neg h0]
    have eS : S = [] := by
      rw [← HS.out]
      unfold ptR
      rw [HZ.out, ez, if_neg h0]
    subst ez
    subst eS
    have c1 := bB.cells
    have f1 := bB.frees
    clear HZ HS hf hg
    go_wp2
    exact bodyPost_ret (v := .agg #[.int .i64 z, .slice none 0 0]) (by simp [results, Try.results7, go_sem, c1]) rfl (RAns.bad n2 (by omega))
  subst h0
  have hN60 : N ≤ 60 := by
    have := (ribF_ok hf.out).1
    have h2 := HN.out
    simp at this
    omega
  have cA := bA.cells
  go_wp2_with fail
  refine (l7Put_any p a l o nx md lc x n c xs A N cc V _ (h.new n2) HN.out hN60 ⟨hx.new n2, by rw [show (Rv.mk (Rt.mk p a l o xs nx md lc) x c).r.xs.length = n from HX.out]; exact HXL.out, by rw [show (Rv.mk (Rt.mk p a l o xs nx md lc) x c).r.xs.length = n from HX.out]; exact hxm⟩ HX.out).mono ?_
  rintro e w3 ⟨B, d, U, rfl, hv3, hr3, h3, -, -⟩
  have bB := bB.new h3
  have n3 := n2.trans h3
  have ltB := bB.lt
  have l23 := h3.size
  have hlen3 : U.length = ((V.map Rv.r).filter (keepE p a l)).length + 1 := by
    have e1 := congrArg List.length hv3
    have e2 := tw_le (fun s => s.lt (Rt.mk p a l o xs nx md lc)) ((V.map Rv.r).filter (keepE p a l))
    unfold insR at e1
    simp at e1
    omega
  have hle3 : U.length ≤ N + 1 := by
    have h1 := List.length_filter_le (keepE p a l) (V.map Rv.r)
    have h2 := HN.out
    simp at h1
    omega
  have HL3 : Hid (U.length = ((V.map Rv.r).filter (keepE p a l)).length + 1) := hlen3
  have HV3 : Hid (U.map Rv.r = insR ((V.map Rv.r).filter (keepE p a l)) (Rt.mk p a l o xs nx md lc)) := hv3
  clear h3 n2 hv3 hlen3 cA bA
  by_cases h60 : 60 < U.length
  case pos =>
    have ez : z = 2 := by
      rw [← HZ.out]
      unfold ptC
      rw [hf.out, if_pos rfl, show Rt.f (Rt.mk p a l o xs nx md lc) = 0 from hg.out, if_pos rfl]
      exact if_pos (by have := HL3.out; show 60 ≤ ((V.map Rv.r).filter (keepE p a l)).length; omega)
    have eS : S = [] := by
      rw [← HS.out]
      unfold ptR
      rw [HZ.out, ez, if_neg (by omega)]
    subst ez
    subst eS
    have c1 := bB.cells
    have f1 := bB.frees
    clear HZ HS hf hg
    go_wp2
    exact bodyPost_ret (v := .agg #[.int .i64 2, .slice none 0 0]) (by simp [results, Try.results7, go_sem, c1]) rfl (RAns.bad n3 (by omega))
  have ez : z = 0 := by
    rw [← HZ.out]
    unfold ptC
    rw [hf.out, if_pos rfl, show Rt.f (Rt.mk p a l o xs nx md lc) = 0 from hg.out, if_pos rfl]
    exact if_neg (by have := HL3.out; show ¬ 60 ≤ ((V.map Rv.r).filter (keepE p a l)).length; omega)
  have eS : S = U.map Rv.r := by
    rw [← HS.out]
    unfold ptR
    rw [HZ.out, ez, if_pos rfl, HV3.out]
  subst ez
  have HSS : Hid (S = U.map Rv.r) := eS
  clear HZ HS hf hg eS
  go_wp2_with fail
  refine (l7Copy_any B U.length d U _ hr3 rfl (by omega)).mono ?_
  rintro e w4 ⟨u, V4, rfl, hv4, ho4, h4⟩
  obtain ⟨A4, c4, rfl, -, -⟩ := ho4.form
  have bB := bB.new h4
  have n4 := n3.trans h4
  have c1 := bB.cells
  have f1 := bB.frees
  go_wp2
  exact bodyPost_ret (v := .agg #[.int .i64 0, .slice A4 V4.length c4]) (by simp [results, Try.results7, go_sem, c1]) rfl (RAns.good n4 (by omega) ho4 (by omega) (by rw [hv4]; exact HSS.out.symm) rfl)

end Go.Proofs.Ytnjleachioapdaa
