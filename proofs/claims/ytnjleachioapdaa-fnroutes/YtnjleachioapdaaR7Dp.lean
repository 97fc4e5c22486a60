/- What is proved here: what DropPeer and DropRoute answer, in the program and in the model, for lists of at most 1048576 routes with paths of at most 1048576 numbers. -/
import Derived.Test.YtnjleachioapdaaR7Sc
import Derived.Test.YtnjleachioapdaaR7Rib
import Derived.Test.YtnjleachioapdaaR7Held
import Derived.Deep.CutRange
namespace Go.Proofs.Ytnjleachioapdaa
open Go.RowKit Go.Sort
set_option linter.unusedVariables false

theorem OwT.low {w : World} {lo lo' hi : Nat} {u : Value} {V : List Rv} (h : OwT w lo hi u V) (hl : lo' ≤ lo) : OwT w lo' hi u V := by
  refine ⟨⟨h.row.1, ?_⟩, h.rhi, h.path.low hl⟩
  rcases h.row.2 with h' | ⟨g', cap', cur, h', hb, r⟩
  · exact .inl h'
  · exact .inr ⟨g', cap', cur, h', by omega, r⟩

theorem RAns.bad {w w1 : World} {B j1 j2 : Nat} {z : Int} {v1 v2 : Value} (n1 : New w w1) (hB : w.heap.size ≤ B) : RAns w z [] (.returned (.agg #[.int .i64 z, .slice none 0 0])) ((w1.setCell ⟨B, j1, none⟩ v1).setCell ⟨B, j2, none⟩ v2) :=
  ⟨none, 0, 0, [], rfl, rfl, rfl, OwT.nil _ _ _, (n1.setCell hB v1).setCell hB v2⟩
theorem RAns.good {w w1 : World} {B j1 j2 lo n c : Nat} {z : Int} {A : Option Addr} {v1 v2 : Value} {V : List Rv} {S : List Rt} (n1 : New w w1) (hB : w.heap.size ≤ B) (ho : OwT w1 lo w1.heap.size (.slice A n c) V) (hlo : B < lo) (hV : V.map Rv.r = S) (hn : V.length = n) : RAns w z S (.returned (.agg #[.int .i64 z, .slice A n c])) ((w1.setCell ⟨B, j1, none⟩ v1).setCell ⟨B, j2, none⟩ v2) := by
  have t : Turn (fun k => k = B) w1 ((w1.setCell ⟨B, j1, none⟩ v1).setCell ⟨B, j2, none⟩ v2) := ((Turn.refl (fun k => k = B) w1).set (p := ⟨B, j1, none⟩) rfl v1).set (p := ⟨B, j2, none⟩) rfl v2
  exact ⟨A, n, c, V, rfl, hV, hn, ((ho.turn t (fun k hk _ e => by omega)).up t.size).low (by omega), n1.before t (fun i hi e => by omega)⟩

/-- The code and the routes that DropPeer tells. -/
def dpC (R : List Rt) (q : Int) : Int := if ribF R = 0 then (if Pe q then 0 else 3) else ribF R
def dpR (R : List Rt) (q : Int) : List Rt := if dpC R q = 0 then R.filter (keepP q) else []
/-- The code and the routes that DropRoute tells. -/
def drC (R : List Rt) (q a l : Int) : Int := if ribF R = 0 then (if Pe q then pf a l else 3) else ribF R
def drR (R : List Rt) (q a l : Int) : List Rt := if drC R q a l = 0 then R.filter (keepE q a l) else []

set_option maxHeartbeats 6400000 in
theorem implDP (q : Int) (A : Option Addr) (N cc : Nat) (V : List Rv) (z : Int) (S : List Rt) (w : World) (h : RtAt w A V) (hn : V.length = N) (hm : N ≤ 1048576) (hz : dpC (V.map Rv.r) q = z) (hS : dpR (V.map Rv.r) q = S) :
    Calls Try.prog 9 #[.slice A N cc, .int .i64 q] w (RAns w z S) := by
  have HN : Hid (V.length = N) := hn
  have HZ : Hid (dpC (V.map Rv.r) q = z) := hz
  have HS : Hid (dpR (V.map Rv.r) q = S) := hS
  have N0 : New w (w.alloc (.cells #[.int .i64 0, .slice none 0 0] 35)) := (New.refl w).alloc _
  have bB : Blk (w.alloc (.cells #[.int .i64 0, .slice none 0 0] 35)) (w.heap.size) 35 #[.int .i64 0, .slice none 0 0] := Blk.mk _ _ _ _ rfl
  have hmf : ∀ (fn : Fn) (first cap : Array Value) (w : World), (Instr.makeFunc fn first cap).run Try.prog w = .ok (.func fn first cap) w := fun _ _ _ _ => rfl
  obtain ⟨f, hf⟩ : ∃ f, Hid (ribF (V.map Rv.r) = f) := ⟨_, rfl⟩
  have ltB := bB.lt
  clear hn hz hS
  go_enter Try.func9, Try.ntmps9
  go_upto_region 1 with fail
  generalize (w.alloc (.cells #[.int .i64 0, .slice none 0 0] 35)) = w0 at *
  go_wp2_with fail
  refine (implRib A N cc V f _ (h.new N0) HN.out hm hf.out).mono ?_
  rintro e w1 ⟨rfl, h1⟩
  have b1 := bB.new h1
  have n1 := N0.trans h1
  have lt1 := b1.lt
  clear bB h1 N0
  by_cases h0 : f = 0
  case neg =>
    have hne : (f != 0) = true := by simpa using h0
    have ez : z = f := by
      rw [← HZ.out]
      unfold dpC
      rw [hf.out, if_neg h0]
    have eS : S = [] := by
      rw [← HS.out]
      unfold dpR
      rw [HZ.out, ez, if_neg h0]
    subst ez
    subst eS
    have c1 := b1.cells
    have f1 := b1.frees
    clear HZ HS hf
    go_wp2
    exact bodyPost_ret (v := .agg #[.int .i64 z, .slice none 0 0]) (by simp [results, Try.results9, go_sem, c1]) rfl (RAns.bad n1 (by omega))
  subst h0
  by_cases hp : Pe q
  case neg =>
    have ez : z = 3 := by
      rw [← HZ.out]
      unfold dpC
      rw [hf.out, if_pos rfl, if_neg hp]
    have eS : S = [] := by
      rw [← HS.out]
      unfold dpR
      rw [HZ.out, ez, if_neg (by omega)]
    subst ez
    subst eS
    have HP : Hid (¬ Pe q) := hp
    clear HZ HS hf hp
    have c1 := b1.cells
    have f1 := b1.frees
    go_wp2_with fail
    refine (peer_no q _ HP.out).mono ?_
    rintro e w2 ⟨rfl, rfl⟩
    go_wp2
    exact bodyPost_ret (v := .agg #[.int .i64 3, .slice none 0 0]) (by simp [results, Try.results9, go_sem, c1]) rfl (RAns.bad n1 (by omega))
  have HP : Hid (Pe q) := hp
  have ez : z = 0 := by
    rw [← HZ.out]
    unfold dpC
    rw [hf.out, if_pos rfl, if_pos hp]
  clear hp
  have eS : S = (V.map Rv.r).filter (keepP q) := by
    rw [← HS.out]
    unfold dpR
    rw [HZ.out, ez, if_pos rfl]
  subst ez
  have HSS : Hid (S = (V.map Rv.r).filter (keepP q)) := eS
  clear HZ HS hf eS
  go_wp2_with fail
  refine (peer_yes q _ HP.out).mono ?_
  rintro e w2 ⟨rfl, rfl⟩
  go_upto_region 7 with fail
  have bD := Blk.mk w2 w2.heap.size 31 #[.int .i64 q, .int .i64 0, .int .i64 0, .int .i64 0, .slice none 0 0, .int .i64 0, .int .i64 0, .int .i64 0] rfl
  have b2 := b1.alloc (.cells #[.int .i64 q, .int .i64 0, .int .i64 0, .int .i64 0, .slice none 0 0, .int .i64 0, .int .i64 0, .int .i64 0] 31)
  have n2 := n1.alloc (.cells #[.int .i64 q, .int .i64 0, .int .i64 0, .int .i64 0, .slice none 0 0, .int .i64 0, .int .i64 0, .int .i64 0] 31)
  clear b1 n1
  generalize w2.alloc (.cells #[.int .i64 q, .int .i64 0, .int .i64 0, .int .i64 0, .slice none 0 0, .int .i64 0, .int .i64 0, .int .i64 0] 31) = wa at *
  have lt2 := b2.lt
  have cD := bD.cells
  go_wp2_with fail
  refine (thatP_any q 0 0 0 0 0 0 none 0 0 A N cc V _ (h.new n2) HN.out hm).mono ?_
  rintro e w3 ⟨u, V', rfl, hv3, ho3, h3⟩
  obtain ⟨A3, c3, rfl, -, -⟩ := ho3.form
  have b3 := b2.new h3
  have n3 := n2.trans h3
  have c1 := b3.cells
  have f1 := b3.frees
  clear b2 bD cD
  go_wp2
  exact bodyPost_ret (v := .agg #[.int .i64 0, .slice A3 V'.length c3]) (by simp [results, Try.results9, go_sem, c1]) rfl (RAns.good n3 (by omega) ho3 (by omega) (by rw [hv3]; exact HSS.out.symm) rfl)

set_option maxHeartbeats 6400000 in
theorem implDR (q a0 l0 : Int) (A : Option Addr) (N cc : Nat) (V : List Rv) (z : Int) (S : List Rt) (w : World) (h : RtAt w A V) (hn : V.length = N) (hm : N ≤ 1048576) (hz : drC (V.map Rv.r) q a0 l0 = z) (hS : drR (V.map Rv.r) q a0 l0 = S) :
    Calls Try.prog 8 #[.slice A N cc, .int .i64 q, .agg #[.int .i64 a0, .int .i64 l0]] w (RAns w z S) := by
  have HN : Hid (V.length = N) := hn
  have HZ : Hid (drC (V.map Rv.r) q a0 l0 = z) := hz
  have HS : Hid (drR (V.map Rv.r) q a0 l0 = S) := hS
  have N0 : New w ((w.alloc (.cells #[.int .i64 a0, .int .i64 l0] 26)).alloc (.cells #[.int .i64 0, .slice none 0 0] 35)) := ((New.refl w).alloc _).alloc _
  have bB : Blk ((w.alloc (.cells #[.int .i64 a0, .int .i64 l0] 26)).alloc (.cells #[.int .i64 0, .slice none 0 0] 35)) (w.heap.size + 1) 35 #[.int .i64 0, .slice none 0 0] := Blk.mk _ _ _ _ (by simp)
  have bP : Blk ((w.alloc (.cells #[.int .i64 a0, .int .i64 l0] 26)).alloc (.cells #[.int .i64 0, .slice none 0 0] 35)) w.heap.size 26 #[.int .i64 a0, .int .i64 l0] := (Blk.mk _ _ _ _ rfl).alloc _
  have hmf : ∀ (fn : Fn) (first cap : Array Value) (w : World), (Instr.makeFunc fn first cap).run Try.prog w = .ok (.func fn first cap) w := fun _ _ _ _ => rfl
  obtain ⟨f, hf⟩ : ∃ f, Hid (ribF (V.map Rv.r) = f) := ⟨_, rfl⟩
  have ltB := bB.lt
  clear hn hz hS
  go_enter Try.func8, Try.ntmps8
  go_upto_region 1 with fail
  generalize ((w.alloc (.cells #[.int .i64 a0, .int .i64 l0] 26)).alloc (.cells #[.int .i64 0, .slice none 0 0] 35)) = w0 at *
  go_wp2_with fail
  refine (implRib A N cc V f _ (h.new N0) HN.out hm hf.out).mono ?_
  rintro e w1 ⟨rfl, h1⟩
  have b1 := bB.new h1
  have p1 := bP.new h1
  have n1 := N0.trans h1
  have lt1 := b1.lt
  clear bB h1 N0
  by_cases h0 : f = 0
  case neg =>
    have hne : (f != 0) = true := by simpa using h0
    have ez : z = f := by
      rw [← HZ.out]
      unfold drC
      rw [hf.out, if_neg h0]
    have eS : S = [] := by
      rw [← HS.out]
      unfold drR
      rw [HZ.out, ez, if_neg h0]
    subst ez
    subst eS
    have c1 := b1.cells
    have f1 := b1.frees
    clear HZ HS hf
    go_wp2
    exact bodyPost_ret (v := .agg #[.int .i64 z, .slice none 0 0]) (by simp [results, Try.results8, go_sem, c1]) rfl (RAns.bad n1 (by omega))
  subst h0
  by_cases hp : Pe q
  case neg =>
    have ez : z = 3 := by
      rw [← HZ.out]
      unfold drC
      rw [hf.out, if_pos rfl, if_neg hp]
    have eS : S = [] := by
      rw [← HS.out]
      unfold drR
      rw [HZ.out, ez, if_neg (by omega)]
    subst ez
    subst eS
    have HP : Hid (¬ Pe q) := hp
    clear HZ HS hf hp
    have c1 := b1.cells
    have f1 := b1.frees
    go_wp2_with fail
    refine (peer_no q _ HP.out).mono ?_
    rintro e w2 ⟨rfl, rfl⟩
    go_wp2
    exact bodyPost_ret (v := .agg #[.int .i64 3, .slice none 0 0]) (by simp [results, Try.results8, go_sem, c1]) rfl (RAns.bad n1 (by omega))
  have HP : Hid (Pe q) := hp
  obtain ⟨g, hg⟩ : ∃ g, Hid (pf a0 l0 = g) := ⟨_, rfl⟩
  have ez : z = g := by
    rw [← HZ.out]
    unfold drC
    rw [hf.out, if_pos rfl, if_pos hp, hg.out]
  clear hp
  have pc := p1.cells
  go_wp2_with fail
  refine (peer_yes q _ HP.out).mono ?_
  rintro e w2 ⟨rfl, rfl⟩
  go_wp2_with fail
  refine (implPF_is a0 l0 g _ hg.out).mono ?_
  rintro e w2 ⟨rfl, h2⟩
  have b1 := b1.new h2
  have p1 := p1.new h2
  have n1 := n1.trans h2
  have lt1 := b1.lt
  have pc := p1.cells
  clear h2
  by_cases h0 : g = 0
  case neg =>
    have hne : (g != 0) = true := by simpa using h0
    have eS : S = [] := by
      rw [← HS.out]
      unfold drR
      rw [HZ.out, ez, if_neg h0]
    subst ez
    subst eS
    have c1 := b1.cells
    have f1 := b1.frees
    clear HZ HS hf hg
    go_wp2
    exact bodyPost_ret (v := .agg #[.int .i64 z, .slice none 0 0]) (by simp [results, Try.results8, go_sem, c1]) rfl (RAns.bad n1 (by omega))
  subst h0
  have eS : S = (V.map Rv.r).filter (keepE q a0 l0) := by
    rw [← HS.out]
    unfold drR
    rw [HZ.out, ez, if_pos rfl]
  subst ez
  have HSS : Hid (S = (V.map Rv.r).filter (keepE q a0 l0)) := eS
  clear HZ HS hf eS
  go_upto_region 10 with fail
  have bD := Blk.mk w2 w2.heap.size 31 #[.int .i64 q, .int .i64 a0, .int .i64 l0, .int .i64 0, .slice none 0 0, .int .i64 0, .int .i64 0, .int .i64 0] rfl
  have b2 := b1.alloc (.cells #[.int .i64 q, .int .i64 a0, .int .i64 l0, .int .i64 0, .slice none 0 0, .int .i64 0, .int .i64 0, .int .i64 0] 31)
  have n2 := n1.alloc (.cells #[.int .i64 q, .int .i64 a0, .int .i64 l0, .int .i64 0, .slice none 0 0, .int .i64 0, .int .i64 0, .int .i64 0] 31)
  clear b1 n1
  generalize w2.alloc (.cells #[.int .i64 q, .int .i64 a0, .int .i64 l0, .int .i64 0, .slice none 0 0, .int .i64 0, .int .i64 0, .int .i64 0] 31) = wa at *
  have lt2 := b2.lt
  have cD := bD.cells
  go_wp2_with fail
  refine (thatE_any q a0 l0 0 0 0 0 none 0 0 A N cc V _ (h.new n2) HN.out hm).mono ?_
  rintro e w3 ⟨u, V', rfl, hv3, ho3, h3⟩
  obtain ⟨A3, c3, rfl, -, -⟩ := ho3.form
  have b3 := b2.new h3
  have n3 := n2.trans h3
  have c1 := b3.cells
  have f1 := b3.frees
  clear b2 bD cD
  go_wp2
  exact bodyPost_ret (v := .agg #[.int .i64 0, .slice A3 V'.length c3]) (by simp [results, Try.results8, go_sem, c1]) rfl (RAns.good n3 (by omega) ho3 (by omega) (by rw [hv3]; exact HSS.out.symm) rfl)

end Go.Proofs.Ytnjleachioapdaa
