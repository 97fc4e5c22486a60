/- What is proved here: what the model's BestFor answers, for every list of at most 1048576 routes with paths of at most 1048576 numbers and every prefix; and that answers are one. -/
import Derived.Test.YtkaaefieglhdlaaH8Bi
import Derived.Test.YtkaaefieglhdlaaH8Sc
namespace Go.Proofs.Ytkaaefieglhdlaa
open Go.RowKit Go.Sort
set_option linter.unusedVariables false
set_option linter.unusedSimpArgs false
set_option maxRecDepth 100000

theorem Try.htRl : Try.prog.underlying 35 = some (.slice (Try.prog.elem 35)) := by kernel_rfl
theorem Try.szRl (w : World) : (sizeOf (Try.prog.elem 35)).run Try.prog w = .ok 8 w := by kernel_rfl
/-- One route cut out of a list. -/
theorem cutR (b off N c t : Nat) (ht : t + 1 ≤ c) : ∀ X, (Instr.slice 35 (.slice (some ⟨b, off, none⟩) N c) (some (.int .i64 (t : Int))) (some (.int .i64 ((t : Int) + 1))) none).run Try.prog X = .ok (.slice (some ⟨b, off + t * 8, none⟩) 1 (c - t)) X := by
  intro X
  rw [run_slice_lh X 35 (some ⟨b, off, none⟩) N c Try.htRl .i64 .i64 t ((t : Int) + 1) (by omega) (by omega) (by omega), Try.szRl]
  have h1 : ¬ c = t := by omega
  have h2 : ((t : Int) + 1).toNat = t + 1 := by omega
  simp [Result.andThen, sliced, h1, h2, Addr.add]

set_option maxHeartbeats 6400000 in
theorem specBF (a0 l0 : Int) (A : Option Addr) (N cc : Nat) (V : List Rv) (w : World) (h : RtAt w A V) (hn : V.length = N) (hm : N ≤ 1048576) (hcc : N ≤ cc) :
    Calls Try.prog 6 #[.slice A N cc, .agg #[.int .i64 a0, .int .i64 l0]] w (BAns w (V.map Rv.r) a0 l0) := by
  have HN : Hid (V.length = N) := hn
  have N0 : New w ((w.alloc (.cells #[.int .i64 a0, .int .i64 l0] 26)).alloc (.cells #[.int .i64 0, .int .i64 0, .int .i64 0, .int .i64 0, .int .i64 0, .slice none 0 0, .int .i64 0, .int .i64 0, .int .i64 0] 33)) := ((New.refl w).alloc _).alloc _
  have bB : Blk ((w.alloc (.cells #[.int .i64 a0, .int .i64 l0] 26)).alloc (.cells #[.int .i64 0, .int .i64 0, .int .i64 0, .int .i64 0, .int .i64 0, .slice none 0 0, .int .i64 0, .int .i64 0, .int .i64 0] 33)) (w.heap.size + 1) 33 #[.int .i64 0, .int .i64 0, .int .i64 0, .int .i64 0, .int .i64 0, .slice none 0 0, .int .i64 0, .int .i64 0, .int .i64 0] := Blk.mk _ _ _ _ (by simp)
  have bP : Blk ((w.alloc (.cells #[.int .i64 a0, .int .i64 l0] 26)).alloc (.cells #[.int .i64 0, .int .i64 0, .int .i64 0, .int .i64 0, .int .i64 0, .slice none 0 0, .int .i64 0, .int .i64 0, .int .i64 0] 33)) w.heap.size 26 #[.int .i64 a0, .int .i64 l0] := (Blk.mk _ _ _ _ rfl).alloc _
  obtain ⟨f, hf⟩ : ∃ f, Hid (ribF (V.map Rv.r) = f) := ⟨_, rfl⟩
  obtain ⟨g, hg⟩ : ∃ g, Hid (pf a0 l0 = g) := ⟨_, rfl⟩
  have HA : Hid (∀ X, New w X → RtAt X A V) := fun X hX => h.new hX
  clear hn h
  go_enter Try.func6, Try.ntmps6
  go_upto_region 1 with fail
  generalize ((w.alloc (.cells #[.int .i64 a0, .int .i64 l0] 26)).alloc (.cells #[.int .i64 0, .int .i64 0, .int .i64 0, .int .i64 0, .int .i64 0, .slice none 0 0, .int .i64 0, .int .i64 0, .int .i64 0] 33)) = w0 at *
  go_wp2_with fail
  refine (specRib A N cc V f _ (HA.out _ N0) HN.out hm hf.out).mono ?_
  rintro e w1 ⟨rfl, h1⟩
  have b1 := bB.new h1
  have p1 := bP.new h1
  have n1 := N0.trans h1
  have lt1 := b1.lt
  clear bB h1 N0 bP
  by_cases h0 : f = 0
  case neg =>
    have hne : (f != 0) = true := by simpa using h0
    have HB : Hid (BfA (V.map Rv.r) a0 l0 f ⟨0, 0, 0, 0, [], 0, 0, 0⟩) := .inl ⟨by rw [hf.out]; exact h0, hf.out.symm, rfl⟩
    have c1 := b1.cells
    have f1 := b1.frees
    clear hf hg
    go_wp2
    exact bodyPost_ret (v := .agg #[.int .i64 f, .int .i64 0, .int .i64 0, .int .i64 0, .int .i64 0, .slice none 0 0, .int .i64 0, .int .i64 0, .int .i64 0]) (by simp [results, Try.results6, go_sem, c1]) rfl (BAns.bad HB.out (nine_new n1 (nine8 w1 (w.heap.size + 1) 33 (.int .i64 0) (.int .i64 0) (.int .i64 0) (.int .i64 0) (.int .i64 0) (.slice none 0 0) (.int .i64 0) (.int .i64 0) (.int .i64 0) (.int .i64 f) (.int .i64 0) (.int .i64 0) (.int .i64 0) (.int .i64 0) (.slice none 0 0) (.int .i64 0) (.int .i64 0) (.int .i64 0) b1).2 (by omega)))
  subst h0
  have pc := p1.cells
  go_wp2_with fail
  refine (specPF_is a0 l0 g _ hg.out).mono ?_
  rintro e w2 ⟨rfl, h2⟩
  have b2 := b1.new h2
  have p2 := p1.new h2
  have n2 := n1.trans h2
  have lt2 := b2.lt
  clear b1 p1 pc n1 h2
  by_cases hg0 : g = 0
  case neg =>
    have hne : (g != 0) = true := by simpa using hg0
    have HB : Hid (BfA (V.map Rv.r) a0 l0 g ⟨0, 0, 0, 0, [], 0, 0, 0⟩) := .inr (.inl ⟨hf.out, by rw [hg.out]; exact hg0, hg.out.symm, rfl⟩)
    have c2 := b2.cells
    have f2 := b2.frees
    clear hf hg
    go_wp2
    exact bodyPost_ret (v := .agg #[.int .i64 g, .int .i64 0, .int .i64 0, .int .i64 0, .int .i64 0, .slice none 0 0, .int .i64 0, .int .i64 0, .int .i64 0]) (by simp [results, Try.results6, go_sem, c2]) rfl (BAns.bad HB.out (nine_new n2 (nine8 w2 (w.heap.size + 1) 33 (.int .i64 0) (.int .i64 0) (.int .i64 0) (.int .i64 0) (.int .i64 0) (.slice none 0 0) (.int .i64 0) (.int .i64 0) (.int .i64 0) (.int .i64 g) (.int .i64 0) (.int .i64 0) (.int .i64 0) (.int .i64 0) (.slice none 0 0) (.int .i64 0) (.int .i64 0) (.int .i64 0) b2).2 (by omega)))
  subst hg0
  have pc := p2.cells
  go_wp2_with fail
  refine (l7Best_any a0 l0 A N cc V _ (HA.out _ n2) HN.out hm).mono ?_
  rintro e w3 ⟨tt, rfl, hL, h3⟩
  have b3 := b2.new h3
  have n3 := n2.trans h3
  have lt3 := b3.lt
  clear b2 p2 pc n2 h3
  rcases hL with ⟨rfl, hno⟩ | ⟨i, v, rfl, hv, hkv, hbst⟩
  · have HB : Hid (BfA (V.map Rv.r) a0 l0 4 ⟨0, 0, 0, 0, [], 0, 0, 0⟩) := by
      refine .inr (.inr ⟨hf.out, hg.out, .inl ⟨rfl, rfl, fun s hs => ?_⟩⟩)
      obtain ⟨u, hu, rfl⟩ := List.mem_map.1 hs
      obtain ⟨j, hj⟩ := List.getElem?_of_mem hu
      exact hno j u (by have := (List.getElem?_eq_some_iff.1 hj).1; have := HN.out; omega) hj
    have c3 := b3.cells
    have f3 := b3.frees
    clear hf hg hno
    go_wp2
    exact bodyPost_ret (v := .agg #[.int .i64 4, .int .i64 0, .int .i64 0, .int .i64 0, .int .i64 0, .slice none 0 0, .int .i64 0, .int .i64 0, .int .i64 0]) (by simp [results, Try.results6, go_sem, c3]) rfl (BAns.bad HB.out (nine_new n3 (nine8 w3 (w.heap.size + 1) 33 (.int .i64 0) (.int .i64 0) (.int .i64 0) (.int .i64 0) (.int .i64 0) (.slice none 0 0) (.int .i64 0) (.int .i64 0) (.int .i64 0) (.int .i64 4) (.int .i64 0) (.int .i64 0) (.int .i64 0) (.int .i64 0) (.slice none 0 0) (.int .i64 0) (.int .i64 0) (.int .i64 0) b3).2 (by omega)))
  · have HB : Hid (BfA (V.map Rv.r) a0 l0 0 v.r) := by
      refine .inr (.inr ⟨hf.out, hg.out, .inr ⟨rfl, List.mem_map_of_mem (List.mem_of_getElem? hv), hkv, fun s hs hks => ?_⟩⟩)
      obtain ⟨u, hu, rfl⟩ := List.mem_map.1 hs
      obtain ⟨j, hj⟩ := List.getElem?_of_mem hu
      have h1 := hbst j u (by have := (List.getElem?_eq_some_iff.1 hj).1; have := HN.out; omega) hj hks
      unfold cW at h1
      unfold keepS at hks hkv
      have h2 := of_decide_eq_true hks
      have h3 := of_decide_eq_true hkv
      rw [hcmp_lt]
      omega
    have hil := (List.getElem?_eq_some_iff.1 hv).1
    have hiN : i < N := by have := HN.out; omega
    obtain ⟨⟨b, off, rfl, hcl⟩, -⟩ := (HA.out w (New.refl w)) i v hv
    have hS := cutR b off N cc i (by omega)
    have hR : RtAt w3 (some ⟨b, off + i * 8, none⟩) [v] := by
      intro j u hu
      obtain rfl : j = 0 := by
        rcases Nat.eq_zero_or_pos j with e | e
        · exact e
        · rw [List.getElem?_eq_none (by simp; omega)] at hu; cases hu
      obtain rfl : v = u := by simpa using hu
      obtain ⟨⟨b', off', e, hc'⟩, hh⟩ := (HA.out _ n3) i v hv
      simp only [Option.some.injEq, Addr.mk.injEq, and_true] at e
      obtain ⟨rfl, rfl⟩ := e
      exact ⟨⟨b, off + i * 8, rfl, fun q hq => by rw [Nat.zero_mul, Nat.add_zero]; exact hc' q hq⟩, hh⟩
    have hwi : IntKind.i64.wrap ((i : Int) + 1) = (i : Int) + 1 := by rw [IntKind.wrap_i64]; omega
    have hi0 : ¬ (i : Int) < 0 := by omega
    clear hf hg hbst hkv hv hcl
    go_wp2_with fail
    refine (l7Copy_any (some ⟨b, off + i * 8, none⟩) 1 (cc - i) [v] _ hR rfl (by omega)).mono ?_
    rintro e w4 ⟨u, V4, rfl, hm4, ho4, h4⟩
    have b4 := b3.new h4
    have n4 := n3.trans h4
    obtain ⟨A4, c4, rfl, hr4, -⟩ := ho4.form
    obtain ⟨v4, rfl⟩ : ∃ v4, V4 = [v4] := by
      have e := congrArg List.length hm4
      simp at e
      exact List.length_eq_one_iff.1 e
    have hvr : v4.r = v.r := by simpa using hm4
    have HVR : Hid (v4.r = v.r) := hvr
    have HOW : Hid (OvN w4 w3.heap.size v4.pv v4.r.xs) := ho4.path.own _ (by simp)
    have HBD : Hid ((∀ q ∈ v4.r.xs, In6 q) ∧ v4.r.xs.length ≤ 1048576) := ho4.path.bd _ (by simp)
    obtain ⟨b5, off5, p, a, l, o, nx, md, lc, x, m, d, xs, hA5, hv5, hlen, -, -, -, q0, q1, q2, q3, q4, q5, q6, q7⟩ := hr4.at 0 (by simp)
    subst hA5
    obtain rfl : v4 = ⟨⟨p, a, l, o, xs, nx, md, lc⟩, x, d⟩ := by simpa using hv5
    subst hlen
    simp only [Nat.zero_mul, Nat.add_zero] at q0 q1 q2 q3 q4 q5 q6 q7
    clear hR hr4 hv5 hm4 hvr ho4 b3 hS
    have cB := b4.cells
    have fB := b4.frees
    have lt4 := b4.lt
    go_wp2
    have tN := (nine8 w4 (w.heap.size + 1) 33 (.int .i64 0) (.int .i64 0) (.int .i64 0) (.int .i64 0) (.int .i64 0) (.slice none 0 0) (.int .i64 0) (.int .i64 0) (.int .i64 0) (.int .i64 0) (.int .i64 p) (.int .i64 a) (.int .i64 l) (.int .i64 o) (.slice x xs.length d) (.int .i64 nx) (.int .i64 md) (.int .i64 lc) b4).2
    refine bodyPost_ret (v := .agg #[.int .i64 0, .int .i64 p, .int .i64 a, .int .i64 l, .int .i64 o, .slice x xs.length d, .int .i64 nx, .int .i64 md, .int .i64 lc]) (by simp [results, Try.results6, go_sem, cB]) rfl ?_
    refine ⟨0, ⟨p, a, l, o, xs, nx, md, lc⟩, x, d, by have e := HB.out; rw [← HVR.out] at e; exact e, rfl, (HOW.out.turn7 tN (fun k hk => ?_)).low (by omega), HBD.out, nine_new n4 tN (by omega)⟩
    have := HOW.out.rng7 k hk
    omega

end Go.Proofs.Ytkaaefieglhdlaa
