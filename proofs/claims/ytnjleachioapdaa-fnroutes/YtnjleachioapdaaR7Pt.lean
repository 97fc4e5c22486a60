/- What is proved here: what PutRoute answers in the program, for lists of at most 1048576 routes with paths of at most 1048576 numbers. -/
import Derived.Test.YtnjleachioapdaaR7In
import Derived.Test.YtnjleachioapdaaR7Bs
import Derived.Test.YtnjleachioapdaaR7Dp
import Derived.Deep.CutRange
namespace Go.Proofs.Ytnjleachioapdaa
open Go.RowKit Go.Sort
set_option linter.unusedVariables false

theorem apart_pw (V : List Rv) : (∀ (i j : Nat) (u v : Rv) (k : Nat), V[i]? = some u → V[j]? = some v → i ≠ j → u.pv.ownBlock = some k → v.pv.ownBlock ≠ some k) ↔ V.Pairwise (fun u v => ∀ k, u.pv.ownBlock = some k → v.pv.ownBlock ≠ some k) := by
  constructor
  · intro h
    rw [List.pairwise_iff_getElem]
    intro i j hi hj hij k
    exact h i j _ _ k (List.getElem?_eq_getElem hi) (List.getElem?_eq_getElem hj) (by omega)
  · intro h i j u v k hi hj hne hu hv
    obtain ⟨hi1, rfl⟩ := List.getElem?_eq_some_iff.1 hi
    obtain ⟨hj1, rfl⟩ := List.getElem?_eq_some_iff.1 hj
    rcases Nat.lt_or_gt_of_ne hne with e | e
    · exact List.pairwise_iff_getElem.1 h i j hi1 hj1 e k hu hv
    · exact List.pairwise_iff_getElem.1 h j i hj1 hi1 e k hv hu
theorem PathsT.perm {w : World} {lo hi : Nat} {V U : List Rv} (h : PathsT w lo hi V) (hp : V.Perm U) : PathsT w lo hi U :=
  ⟨fun v hv => h.own v (hp.mem_iff.2 hv), fun v hv => h.bd v (hp.mem_iff.2 hv), fun v hv => h.lies v (hp.mem_iff.2 hv),
    (apart_pw U).2 ((hp.pairwise_iff (fun {u v} hr k hv hu => hr k hu hv)).1 ((apart_pw V).1 h.apart))⟩
theorem perm_ins (V : List Rv) (v : Rv) (i : Nat) : (V ++ [v]).Perm (V.take i ++ [v] ++ V.drop i) := by
  have h1 : (V ++ [v]).Perm (v :: V) := List.perm_append_singleton v V
  have h2 : (V.take i ++ v :: V.drop i).Perm (v :: (V.take i ++ V.drop i)) := List.perm_middle
  rw [List.take_append_drop] at h2
  rw [List.append_assoc]
  exact h1.trans h2.symm

/-- The routes with one put into its place. -/
def insR (R : List Rt) (r : Rt) : List Rt := R.take (tw (fun s => s.lt r) R) ++ [r] ++ R.drop (tw (fun s => s.lt r) R)
/-- The code and the routes that PutRoute tells. -/
def ptC (R : List Rt) (r : Rt) : Int := if ribF R = 0 then (if r.f = 0 then (if 60 ≤ (R.filter (keepE r.p r.a r.l)).length then 2 else 0) else r.f) else ribF R
def ptR (R : List Rt) (r : Rt) : List Rt := if ptC R r = 0 then insR (R.filter (keepE r.p r.a r.l)) r else []
theorem tw_le (K : Rt → Bool) (R : List Rt) : tw K R ≤ R.length := by unfold tw; exact (List.takeWhile_sublist K).length_le

set_option maxHeartbeats 3200000 in
set_option maxRecDepth 100000 in
theorem ins_end (A : Option Addr) (n c L lo : Nat) (V : List Rv) (v : Rv) (w : World) (h : w.ownsRow lo 31 8 (.slice A n c) V.length (cellsT V)) (hn : V.length = n) (hm : n ≤ 1048576) (bL : Blk w L 31 v.cs.toArray) (hlo : lo ≤ w.heap.size) :
    Calls Try.prog 22 #[.slice A n c, .int .i64 n, .slice (some ⟨L, 0, none⟩) 1 1] w fun e w' => ∃ u', e = .returned u' ∧ w'.ownsRow lo 31 8 u' (V ++ [v]).length (cellsT (V ++ [v])) ∧ w.grownBy w' (Value.slice A n c).ownBlock := by
  obtain ⟨i0, hi, hz0, hz1, hz2⟩ := info_parts Try.infoRt
  have HN : Hid (V.length = n) := hn
  clear hn
  have hsrc : ∀ j, w.cell? ⟨L, j, none⟩ = v.cs[j]? := fun j => by rw [bL.cells j]; simp
  have hLE : V.length + 1 ≤ 4194304 := by have := HN.out; omega
  rcases h.2 with ⟨h1, h2⟩ | ⟨g, c', cur, h1, h2, h3, h4, h5, r⟩
  · simp only [Value.slice.injEq] at h1
    obtain ⟨rfl, rfl, rfl⟩ := h1
    obtain rfl := List.eq_nil_of_length_eq_zero h2
    go_enter Try.func22, Try.ntmps22
    go_wp2_with (at_builtin; refine wpList_apT _ rfl (.tmp 23) (.tmp 24) rfl lo _ Try.underlying24 hi hz0 hz1 hz2 rfl _ [] rfl h L v rfl hsrc hLE hlo ?_)
    intro v5 w5 hr5 hg5 _
    go_wp2
    go_ret
    exact ⟨v5, rfl, by simpa using hr5, hg5⟩
  · simp only [Value.slice.injEq] at h1
    obtain ⟨rfl, -, rfl⟩ := h1
    have hcn : n ≤ c := by have := HN.out; omega
    have hc63 : c ≤ 9223372036854775807 := by unfold maxLen at h5; omega
    clear h3 h4 h5 r
    go_enter Try.func22, Try.ntmps22
    go_wp2_with (at_builtin; refine wpList_apT _ rfl (.tmp 23) (.tmp 24) rfl lo _ Try.underlying24 hi hz0 hz1 hz2 rfl _ V rfl h L v rfl hsrc hLE hlo ?_)
    all_goals
      intro v5 w5 hr5 hg5 _
      go_wp2
      go_ret
      exact ⟨v5, rfl, by rw [List.length_append]; exact hr5, hg5⟩

theorem ins_any (A : Option Addr) (n c L lo i : Nat) (V : List Rv) (v : Rv) (w : World) (h : w.ownsRow lo 31 8 (.slice A n c) V.length (cellsT V)) (hn : V.length = n) (hi : i ≤ n) (hm : n ≤ 1048576) (bL : Blk w L 31 v.cs.toArray) (hL : (Value.slice A n c).ownBlock ≠ some L) (hlo : lo ≤ w.heap.size) :
    Calls Try.prog 22 #[.slice A n c, .int .i64 i, .slice (some ⟨L, 0, none⟩) 1 1] w fun e w' => ∃ u', e = .returned u' ∧ w'.ownsRow lo 31 8 u' (V.take i ++ [v] ++ V.drop i).length (cellsT (V.take i ++ [v] ++ V.drop i)) ∧ Turn (fun k => (Value.slice A n c).ownBlock = some k) w w' := by
  by_cases he : i = n
  · subst he
    refine (ins_end A i c L lo V v w h hn hm bL hlo).mono ?_
    rintro e w' ⟨u', rfl, h1, h2⟩
    refine ⟨u', rfl, ?_, Turn.grown7 h2⟩
    rw [List.take_of_length_le (by omega), List.drop_eq_nil_of_le (by omega), List.append_nil]
    exact h1
  · rcases h.2 with ⟨h1, h2⟩ | ⟨g, c', cur, h1, h2, h3, h4, h5, h6, h7⟩
    · have : V.length = 0 := h2
      omega
    · simp only [Value.slice.injEq] at h1
      obtain ⟨rfl, -, rfl⟩ := h1
      have hLg : L ≠ g := by
        intro e
        apply hL
        rw [e]
        rfl
      rw [hn] at h4 h7
      by_cases hr : n + 1 ≤ c
      · refine (ins_room g n c i L V v cur w h3 h6 h7 hn (by omega) hr h5 bL hLg).mono ?_
        rintro e w' ⟨rfl, ho, ht⟩
        exact ⟨_, rfl, row_of7 ho h2, ht.mono (fun j _ e => by rw [e]; rfl)⟩
      · refine (ins_grow g n c i L V v cur w h3 h6 h7 hn (by omega) h4 (by omega) hm bL hLg).mono ?_
        rintro e w' ⟨c2, rfl, ho, ht⟩
        exact ⟨_, rfl, row_of7 ho hlo, ht.turn⟩

set_option maxRecDepth 100000 in
set_option maxHeartbeats 12800000 in
theorem implPT (p a l o nx md lc : Int) (x : Option Addr) (n c : Nat) (xs : List Int) (A : Option Addr) (N cc : Nat) (V : List Rv) (z : Int) (S : List Rt) (w : World) (h : RtAt w A V) (hn : V.length = N) (hm : N ≤ 1048576) (hx : NsAt w x xs) (hxn : xs.length = n) (hxm : n ≤ 1048576) (hxl : x = none → n = 0 ∧ c = 0) (hz : ptC (V.map Rv.r) (Rt.mk p a l o xs nx md lc) = z) (hS : ptR (V.map Rv.r) (Rt.mk p a l o xs nx md lc) = S) :
    Calls Try.prog 6 #[.slice A N cc, .agg #[.int .i64 p, .int .i64 a, .int .i64 l, .int .i64 o, .slice x n c, .int .i64 nx, .int .i64 md, .int .i64 lc]] w (RAns w z S) := by
  have HN : Hid (V.length = N) := hn
  have HX : Hid (xs.length = n) := hxn
  have HXL : Hid (x = none → n = 0 ∧ c = 0) := hxl
  have hbd : Hid (∀ z ∈ xs, In6 z) := hx.bd
  have HZ : Hid (ptC (V.map Rv.r) (Rt.mk p a l o xs nx md lc) = z) := hz
  have HS : Hid (ptR (V.map Rv.r) (Rt.mk p a l o xs nx md lc) = S) := hS
  have N0 : New w ((w.alloc (.cells #[.int .i64 p, .int .i64 a, .int .i64 l, .int .i64 o, .slice x n c, .int .i64 nx, .int .i64 md, .int .i64 lc] 31)).alloc (.cells #[.int .i64 0, .slice none 0 0] 35)) := ((New.refl w).alloc _).alloc _
  have bA : Blk ((w.alloc (.cells #[.int .i64 p, .int .i64 a, .int .i64 l, .int .i64 o, .slice x n c, .int .i64 nx, .int .i64 md, .int .i64 lc] 31)).alloc (.cells #[.int .i64 0, .slice none 0 0] 35)) w.heap.size 31 #[.int .i64 p, .int .i64 a, .int .i64 l, .int .i64 o, .slice x n c, .int .i64 nx, .int .i64 md, .int .i64 lc] := (Blk.mk _ _ _ _ rfl).alloc _
  have bB : Blk ((w.alloc (.cells #[.int .i64 p, .int .i64 a, .int .i64 l, .int .i64 o, .slice x n c, .int .i64 nx, .int .i64 md, .int .i64 lc] 31)).alloc (.cells #[.int .i64 0, .slice none 0 0] 35)) (w.heap.size + 1) 35 #[.int .i64 0, .slice none 0 0] := Blk.mk _ _ _ _ (by simp)
  have hmf : ∀ (fn : Fn) (first cap : Array Value) (w : World), (Instr.makeFunc fn first cap).run Try.prog w = .ok (.func fn first cap) w := fun _ _ _ _ => rfl
  obtain ⟨f, hf⟩ : ∃ f, Hid (ribF (V.map Rv.r) = f) := ⟨_, rfl⟩
  obtain ⟨g, hg⟩ : ∃ g, Hid (rtf p a l o xs nx md lc = g) := ⟨_, rfl⟩
  clear hn hxn hxl hz hS
  go_enter Try.func6, Try.ntmps6
  go_upto_region 1 with fail
  generalize ((w.alloc (.cells #[.int .i64 p, .int .i64 a, .int .i64 l, .int .i64 o, .slice x n c, .int .i64 nx, .int .i64 md, .int .i64 lc] 31)).alloc (.cells #[.int .i64 0, .slice none 0 0] 35)) = w0 at *
  go_wp2_with fail
  refine (implRib A N cc V f _ (h.new N0) HN.out hm hf.out).mono ?_
  rintro e w1 ⟨rfl, h1⟩
  have bA := bA.new h1
  have bB := bB.new h1
  have n1 := N0.trans h1
  have ltB := bB.lt
  clear h1 N0
  by_cases h0 : f = 0
  case neg =>
    have hne : (f != 0) = true := by simpa using h0
    have ez : z = f := by
      rw [← HZ.out]
      unfold ptC
      rw [hf.out, if_neg h0]
    have eS : S = [] := by
      rw [← HS.out]
      unfold ptR
      rw [HZ.out, ez, if_neg h0]
    subst ez
    subst eS
    have c1 := bB.cells
    have f1 := bB.frees
    clear HZ HS hf
    go_wp2
    exact bodyPost_ret (v := .agg #[.int .i64 z, .slice none 0 0]) (by simp [results, Try.results6, go_sem, c1]) rfl (RAns.bad n1 (by omega))
  subst h0
  have cA := bA.cells
  go_wp2_with fail
  refine (implRTF p a l o nx md lc x n c xs g _ (hx.new n1) HX.out hxm hg.out).mono ?_
  rintro e w2 ⟨rfl, h2⟩
  have bA := bA.new h2
  have bB := bB.new h2
  have n2 := n1.trans h2
  have ltB := bB.lt
  clear h2 n1
  by_cases h0 : g = 0
  case neg =>
    have hne : (g != 0) = true := by simpa using h0
    have ez : z = g := by
      rw [← HZ.out]
      unfold ptC
      rw [hf.out, if_pos rfl, show Rt.f (Rt.mk p a l o xs nx md lc) = g from hg.out, if_neg h0]
    have eS : S = [] := by
      rw [← HS.out]
      unfold ptR
      rw [HZ.out, ez, if_neg h0]
    subst ez
    subst eS
    have c1 := bB.cells
    have f1 := bB.frees
    clear HZ HS hf hg
    go_wp2
    exact bodyPost_ret (v := .agg #[.int .i64 z, .slice none 0 0]) (by simp [results, Try.results6, go_sem, c1]) rfl (RAns.bad n2 (by omega))
  subst h0
  have cA := bA.cells
  go_wp2_with fail
  refine (thatE_any p a l o nx md lc x n c A N cc V _ (h.new n2) HN.out hm).mono ?_
  rintro e w3 ⟨u, V3, rfl, hv3, ho3, h3⟩
  obtain ⟨A3, c3, rfl, hr3, -⟩ := ho3.form
  have bA := bA.new h3
  have bB := bB.new h3
  have n3 := n2.trans h3
  have ltB := bB.lt
  have l23 := h3.size
  have hlen3 : V3.length = ((V.map Rv.r).filter (keepE p a l)).length := by rw [← hv3]; simp
  have hle3 : V3.length ≤ N := by
    have h1 := List.length_filter_le (keepE p a l) (V.map Rv.r)
    have h2 := HN.out
    simp at h1
    omega
  have hN60 : N ≤ 60 := by
    have := (ribF_ok hf.out).1
    have h2 := HN.out
    simp at this
    omega
  have HV3 : Hid (V3.map Rv.r = (V.map Rv.r).filter (keepE p a l)) := hv3
  have HL3 : Hid (V3.length = ((V.map Rv.r).filter (keepE p a l)).length) := hlen3
  clear h3 n2 hv3 hlen3
  by_cases h60 : V3.length = 60
  case pos =>
    have hq : ((V3.length : Int) == 60) = true := by simp [h60]
    have ez : z = 2 := by
      rw [← HZ.out]
      unfold ptC
      rw [hf.out, if_pos rfl, show Rt.f (Rt.mk p a l o xs nx md lc) = 0 from hg.out, if_pos rfl]
      exact if_pos (by have := HL3.out; show 60 ≤ ((V.map Rv.r).filter (keepE p a l)).length; omega)
    have eS : S = [] := by
      rw [← HS.out]
      unfold ptR
      rw [HZ.out, ez, if_neg (by omega)]
    subst ez
    subst eS
    have c1 := bB.cells
    have f1 := bB.frees
    clear HZ HS hf hg h60
    go_wp2
    exact bodyPost_ret (v := .agg #[.int .i64 2, .slice none 0 0]) (by simp [results, Try.results6, go_sem, c1]) rfl (RAns.bad n3 (by omega))
  have hq : ((V3.length : Int) == 60) = false := by simp; omega
  have ez : z = 0 := by
    rw [← HZ.out]
    unfold ptC
    rw [hf.out, if_pos rfl, show Rt.f (Rt.mk p a l o xs nx md lc) = 0 from hg.out, if_pos rfl]
    exact if_neg (by have := HL3.out; show ¬ 60 ≤ ((V.map Rv.r).filter (keepE p a l)).length; omega)
  have eS : S = insR (V3.map Rv.r) (Rt.mk p a l o xs nx md lc) := by
    rw [← HS.out]
    unfold ptR
    rw [HZ.out, ez, if_pos rfl, HV3.out]
  subst ez
  have HSS : Hid (S = insR (V3.map Rv.r) (Rt.mk p a l o xs nx md lc)) := eS
  have hord : Ord7 (V3.map Rv.r) := by
    rw [HV3.out]
    exact (ribF_ok hf.out).2.1.filter _
  obtain ⟨i, hi⟩ : ∃ i, Hid (tw (fun s => s.lt (Rt.mk p a l o xs nx md lc)) (V3.map Rv.r) = i) := ⟨_, rfl⟩
  have hiL : i ≤ V3.length := by
    have := tw_le (fun s => s.lt (Rt.mk p a l o xs nx md lc)) (V3.map Rv.r)
    rw [hi.out] at this
    simpa using this
  have hsea := search_any p a l o nx md lc x n c xs A3 V3.length c3 V3
  rw [hi.out] at hsea
  clear HZ HS hf hg eS h60
  have cA := bA.cells
  go_wp2_with fail
  refine (hsea _ hr3 (by first | trivial | rfl) (by omega) hord).mono ?_
  rintro e w4 ⟨⟨tb, rfl⟩, h4⟩
  have bA := bA.new h4
  have bB := bB.new h4
  have n4 := n3.trans h4
  have ho4 := ho3.new h4
  have l34 := h4.size
  have cA := bA.cells
  clear h4 hsea hord hr3
  go_wp2_with fail
  refine (copyRt_any p a l o nx md lc x n c xs _ (hx.new n4) HX.out hxm HXL.out).mono ?_
  rintro e w5 ⟨x2, c2, rfl, ho5, h5⟩
  have bB := (bB.new h5).alloc (.cells #[.int .i64 p, .int .i64 a, .int .i64 l, .int .i64 o, .slice x2 n c2, .int .i64 nx, .int .i64 md, .int .i64 lc] 31)
  have bL : Blk (w5.alloc (.cells #[.int .i64 p, .int .i64 a, .int .i64 l, .int .i64 o, .slice x2 n c2, .int .i64 nx, .int .i64 md, .int .i64 lc] 31)) w5.heap.size 31 (Rv.cs (Rv.mk (Rt.mk p a l o xs nx md lc) x2 c2)).toArray := by
    have := Blk.mk w5 w5.heap.size 31 #[.int .i64 p, .int .i64 a, .int .i64 l, .int .i64 o, .slice x2 n c2, .int .i64 nx, .int .i64 md, .int .i64 lc] rfl
    have e : (Rv.cs (Rv.mk (Rt.mk p a l o xs nx md lc) x2 c2)).toArray = #[.int .i64 p, .int .i64 a, .int .i64 l, .int .i64 o, .slice x2 n c2, .int .i64 nx, .int .i64 md, .int .i64 lc] := by unfold Rv.cs; simp only [HX.out]
    rw [e]
    exact this
  have l45 := h5.size
  have hal : New w5 (w5.alloc (.cells #[.int .i64 p, .int .i64 a, .int .i64 l, .int .i64 o, .slice x2 n c2, .int .i64 nx, .int .i64 md, .int .i64 lc] 31)) := (New.refl w5).alloc _
  have hrow := row_turn7 (row_turn7 ho4.row h5 (fun _ _ f => f)) hal (fun _ _ f => f)
  have hov : OvN w5 w4.heap.size (Rv.pv (Rv.mk (Rt.mk p a l o xs nx md lc) x2 c2)) xs := by
    unfold Rv.pv
    simp only [HX.out]
    exact ho5
  have P6 := (((ho4.path.new h5).up l34).snoc (Rv.mk (Rt.mk p a l o xs nx md lc) x2 c2) hov hbd.out (by simp only [HX.out]; exact hxm) (by omega) l45 (Nat.le_refl _)).new hal
  have hLne : (Value.slice A3 V3.length c3).ownBlock ≠ some w5.heap.size := by
    intro e
    have := ho4.rhi _ e
    omega
  have hlo6 : w2.heap.size ≤ (w5.alloc (.cells #[.int .i64 p, .int .i64 a, .int .i64 l, .int .i64 o, .slice x2 n c2, .int .i64 nx, .int .i64 md, .int .i64 lc] 31)).heap.size := by simp; omega
  have n6 := (n4.trans h5).trans hal
  have l56 : w5.heap.size < (w5.alloc (.cells #[.int .i64 p, .int .i64 a, .int .i64 l, .int .i64 o, .slice x2 n c2, .int .i64 nx, .int .i64 md, .int .i64 lc] 31)).heap.size := by simp
  go_wp2_with fail
  refine (ins_any A3 V3.length c3 w5.heap.size w2.heap.size i V3 (Rv.mk (Rt.mk p a l o xs nx md lc) x2 c2) _ hrow rfl hiL (by omega) bL hLne hlo6).mono ?_
  rintro e w7 ⟨u', rfl, hr7, t7⟩
  have P7 := (P6.turn7 t7 (fun q hq k hk e => rowv_ne7 hrow (P6.own q hq) e hk)).perm (perm_ins V3 (Rv.mk (Rt.mk p a l o xs nx md lc) x2 c2) i)
  have hO7 : OwT w7 w2.heap.size w7.heap.size u' (V3.take i ++ [Rv.mk (Rt.mk p a l o xs nx md lc) x2 c2] ++ V3.drop i) := ⟨hr7, fun k hk => (row_rng7 hr7 k hk).2, P7.up (by have := t7.size; omega)⟩
  have bB := bB.turn t7 (fun e => by have := (row_rng7 hrow _ e).1; omega)
  have n7 := n6.before t7 (fun j hj e => by have := (row_rng7 hrow _ e).1; omega)
  have HM : Hid ((V3.take i ++ [Rv.mk (Rt.mk p a l o xs nx md lc) x2 c2] ++ V3.drop i).map Rv.r = S) := by
    show _ = _
    rw [HSS.out]
    unfold insR
    rw [hi.out]
    simp [List.map_take, List.map_drop]
  clear P6 P7 hr7 hrow hov ho5 ho4 bL
  generalize V3.take i ++ [Rv.mk (Rt.mk p a l o xs nx md lc) x2 c2] ++ V3.drop i = V7 at *
  obtain ⟨A7, c7, rfl, -, -⟩ := hO7.form
  have c1 := bB.cells
  have f1 := bB.frees
  go_wp2
  exact bodyPost_ret (v := .agg #[.int .i64 0, .slice A7 V7.length c7]) (by simp [results, Try.results6, go_sem, c1]) rfl (RAns.good n7 (by omega) hO7 (by omega) HM.out rfl)

end Go.Proofs.Ytnjleachioapdaa
