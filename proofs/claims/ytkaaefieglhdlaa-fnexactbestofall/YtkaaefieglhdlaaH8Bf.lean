/- What is proved here: what the program's BestFor answers of a list without a fault. -/
import Derived.Test.YtkaaefieglhdlaaH8Rf
import Derived.Test.YtkaaefieglhdlaaH8Th
import Derived.Test.YtkaaefieglhdlaaR7Rib
namespace Go.Proofs.Ytkaaefieglhdlaa
open Go.RowKit Go.Sort Go.Shelf
set_option linter.unusedVariables false
set_option linter.unusedSimpArgs false
set_option maxRecDepth 100000
attribute [local go_sem] Oper.semAt_some

/-- The best of a prefix, or that there is none. -/
def BfOk (R : List Rt) (a0 l0 z : Int) (r : Rt) : Prop := (z = 4 ∧ r = ⟨0, 0, 0, 0, [], 0, 0, 0⟩ ∧ ∀ s ∈ R, keepS a0 l0 s = false) ∨ (z = 0 ∧ r ∈ R ∧ keepS a0 l0 r = true ∧ ∀ s ∈ R, keepS a0 l0 s = true → ¬ hcmp s r < 0)

theorem turn_of_grown8 {A B : World} {row : Option Nat} (h : A.grownBy B row) : Turn (fun k => row = some k) A B := ⟨h.os, h.tape, h.output, h.size, fun k hk hs => h.block k hk (fun e => hs e.symm)⟩

/-- Nine stores into one block. -/
theorem nine8 (W : World) (B : Nat) (t : TypeId) (o0 o1 o2 o3 o4 o5 o6 o7 o8 v0 v1 v2 v3 v4 v5 v6 v7 v8 : Value) (h : Blk W B t #[o0, o1, o2, o3, o4, o5, o6, o7, o8]) : Blk (((((((((W.setCell ⟨B, 0, none⟩ v0).setCell ⟨B, 1, none⟩ v1).setCell ⟨B, 2, none⟩ v2).setCell ⟨B, 3, none⟩ v3).setCell ⟨B, 4, none⟩ v4).setCell ⟨B, 5, none⟩ v5).setCell ⟨B, 6, none⟩ v6).setCell ⟨B, 7, none⟩ v7).setCell ⟨B, 8, none⟩ v8) B t #[v0, v1, v2, v3, v4, v5, v6, v7, v8] ∧ Turn (fun k => k = B) W (((((((((W.setCell ⟨B, 0, none⟩ v0).setCell ⟨B, 1, none⟩ v1).setCell ⟨B, 2, none⟩ v2).setCell ⟨B, 3, none⟩ v3).setCell ⟨B, 4, none⟩ v4).setCell ⟨B, 5, none⟩ v5).setCell ⟨B, 6, none⟩ v6).setCell ⟨B, 7, none⟩ v7).setCell ⟨B, 8, none⟩ v8) := by
  have b0 : Blk (W.setCell ⟨B, 0, none⟩ v0) B t #[v0, o1, o2, o3, o4, o5, o6, o7, o8] := h.set 0 v0
  have b1 : Blk ((W.setCell ⟨B, 0, none⟩ v0).setCell ⟨B, 1, none⟩ v1) B t #[v0, v1, o2, o3, o4, o5, o6, o7, o8] := b0.set 1 v1
  have b2 : Blk (((W.setCell ⟨B, 0, none⟩ v0).setCell ⟨B, 1, none⟩ v1).setCell ⟨B, 2, none⟩ v2) B t #[v0, v1, v2, o3, o4, o5, o6, o7, o8] := b1.set 2 v2
  have b3 : Blk ((((W.setCell ⟨B, 0, none⟩ v0).setCell ⟨B, 1, none⟩ v1).setCell ⟨B, 2, none⟩ v2).setCell ⟨B, 3, none⟩ v3) B t #[v0, v1, v2, v3, o4, o5, o6, o7, o8] := b2.set 3 v3
  have b4 : Blk (((((W.setCell ⟨B, 0, none⟩ v0).setCell ⟨B, 1, none⟩ v1).setCell ⟨B, 2, none⟩ v2).setCell ⟨B, 3, none⟩ v3).setCell ⟨B, 4, none⟩ v4) B t #[v0, v1, v2, v3, v4, o5, o6, o7, o8] := b3.set 4 v4
  have b5 : Blk ((((((W.setCell ⟨B, 0, none⟩ v0).setCell ⟨B, 1, none⟩ v1).setCell ⟨B, 2, none⟩ v2).setCell ⟨B, 3, none⟩ v3).setCell ⟨B, 4, none⟩ v4).setCell ⟨B, 5, none⟩ v5) B t #[v0, v1, v2, v3, v4, v5, o6, o7, o8] := b4.set 5 v5
  have b6 : Blk (((((((W.setCell ⟨B, 0, none⟩ v0).setCell ⟨B, 1, none⟩ v1).setCell ⟨B, 2, none⟩ v2).setCell ⟨B, 3, none⟩ v3).setCell ⟨B, 4, none⟩ v4).setCell ⟨B, 5, none⟩ v5).setCell ⟨B, 6, none⟩ v6) B t #[v0, v1, v2, v3, v4, v5, v6, o7, o8] := b5.set 6 v6
  have b7 : Blk ((((((((W.setCell ⟨B, 0, none⟩ v0).setCell ⟨B, 1, none⟩ v1).setCell ⟨B, 2, none⟩ v2).setCell ⟨B, 3, none⟩ v3).setCell ⟨B, 4, none⟩ v4).setCell ⟨B, 5, none⟩ v5).setCell ⟨B, 6, none⟩ v6).setCell ⟨B, 7, none⟩ v7) B t #[v0, v1, v2, v3, v4, v5, v6, v7, o8] := b6.set 7 v7
  have b8 : Blk (((((((((W.setCell ⟨B, 0, none⟩ v0).setCell ⟨B, 1, none⟩ v1).setCell ⟨B, 2, none⟩ v2).setCell ⟨B, 3, none⟩ v3).setCell ⟨B, 4, none⟩ v4).setCell ⟨B, 5, none⟩ v5).setCell ⟨B, 6, none⟩ v6).setCell ⟨B, 7, none⟩ v7).setCell ⟨B, 8, none⟩ v8) B t #[v0, v1, v2, v3, v4, v5, v6, v7, v8] := b7.set 8 v8
  exact ⟨b8, Turn.set (S := fun k => k = B) (Turn.set (S := fun k => k = B) (Turn.set (S := fun k => k = B) (Turn.set (S := fun k => k = B) (Turn.set (S := fun k => k = B) (Turn.set (S := fun k => k = B) (Turn.set (S := fun k => k = B) (Turn.set (S := fun k => k = B) (Turn.set (S := fun k => k = B) (Turn.refl (fun k => k = B) W) rfl v0) rfl v1) rfl v2) rfl v3) rfl v4) rfl v5) rfl v6) rfl v7) rfl v8⟩

set_option maxHeartbeats 6400000 in
theorem implBF_ok (a0 l0 : Int) (A : Option Addr) (N cc : Nat) (V : List Rv) (w : World) (h : RtAt w A V) (hn : V.length = N) (hm : N ≤ 1048576) (hf : ribF (V.map Rv.r) = 0) (hg : pf a0 l0 = 0) :
    Calls Try.prog 9 #[.slice A N cc, .agg #[.int .i64 a0, .int .i64 l0]] w fun e w' => ∃ z r x d, BfOk (V.map Rv.r) a0 l0 z r ∧ e = .returned (.agg #[.int .i64 z, .int .i64 r.p, .int .i64 r.a, .int .i64 r.l, .int .i64 r.o, .slice x r.xs.length d, .int .i64 r.nx, .int .i64 r.md, .int .i64 r.lc]) ∧ OvN w' w.heap.size (.slice x r.xs.length d) r.xs ∧ ((∀ q ∈ r.xs, In6 q) ∧ r.xs.length ≤ 1048576) ∧ New w w' := by
  have HN : Hid (V.length = N) := hn
  have HFA : Hid (ribF (V.map Rv.r) = 0) := hf
  have HG : Hid (pf a0 l0 = 0) := hg
  have HA : Hid (∀ X, New w X → RtAt X A V) := fun X hX => h.new hX
  have N0 : New w ((w.alloc (.cells #[.int .i64 a0, .int .i64 l0] 26)).alloc (.cells #[.int .i64 0, .int .i64 0, .int .i64 0, .int .i64 0, .int .i64 0, .slice none 0 0, .int .i64 0, .int .i64 0, .int .i64 0] 33)) := ((New.refl w).alloc _).alloc _
  have bB : Blk ((w.alloc (.cells #[.int .i64 a0, .int .i64 l0] 26)).alloc (.cells #[.int .i64 0, .int .i64 0, .int .i64 0, .int .i64 0, .int .i64 0, .slice none 0 0, .int .i64 0, .int .i64 0, .int .i64 0] 33)) (w.heap.size + 1) 33 #[.int .i64 0, .int .i64 0, .int .i64 0, .int .i64 0, .int .i64 0, .slice none 0 0, .int .i64 0, .int .i64 0, .int .i64 0] := Blk.mk _ _ _ _ (by simp)
  have bP : Blk ((w.alloc (.cells #[.int .i64 a0, .int .i64 l0] 26)).alloc (.cells #[.int .i64 0, .int .i64 0, .int .i64 0, .int .i64 0, .int .i64 0, .slice none 0 0, .int .i64 0, .int .i64 0, .int .i64 0] 33)) w.heap.size 26 #[.int .i64 a0, .int .i64 l0] := (Blk.mk _ _ _ _ rfl).alloc _
  have hmf : ∀ (fn : Fn) (first cap : Array Value) (w : World), (Instr.makeFunc fn first cap).run Try.prog w = .ok (.func fn first cap) w := fun _ _ _ _ => rfl
  have ltB := bB.lt
  clear h hn hf hg
  refine (callsIn_wide (n := 4)).1 ?_
  refine callsIn_of_wp_marks Try.func9 rfl trivial ?_ rfl
  simp only [Try.ntmps9, List.size_toArray, List.length_cons, List.length_nil, Nat.reduceAdd, Nat.reduceSub, Array.replicate_succ, Array.replicate_zero, List.push_toArray, List.append_toArray, List.nil_append, List.cons_append]
  gi_wp2_with fail
  refine ⟨trivial, ?_⟩
  refine (callsIn_wide.2 (implRib A N cc V 0 _ (HA.out _ N0) HN.out hm HFA.out)).mono ?_
  generalize ((w.alloc (.cells #[.int .i64 a0, .int .i64 l0] 26)).alloc (.cells #[.int .i64 0, .int .i64 0, .int .i64 0, .int .i64 0, .int .i64 0, .slice none 0 0, .int .i64 0, .int .i64 0, .int .i64 0] 33)) = w0 at *
  rintro e w1 ⟨rfl, h1⟩
  have b1 := bB.new h1
  have p1 := bP.new h1
  have n1 := N0.trans h1
  have lt1 := b1.lt
  have pc := p1.cells
  clear bB bP h1 N0
  gi_wp2_with fail
  refine ⟨trivial, ?_⟩
  refine (callsIn_wide.2 (implPF_is a0 l0 0 _ HG.out)).mono ?_
  rintro e w2 ⟨rfl, h2⟩
  have b2 := b1.new h2
  have p2 := p1.new h2
  have n2 := n1.trans h2
  have lt2 := b2.lt
  clear pc b1 p1 h2 n1
  have pc := p2.cells
  have bD := Blk.mk w2 w2.heap.size 31 #[.int .i64 0, .int .i64 a0, .int .i64 l0, .int .i64 0, .slice none 0 0, .int .i64 0, .int .i64 0, .int .i64 0] rfl
  have cD := bD.cells
  have a2 := (New.refl w2).alloc (.cells #[.int .i64 0, .int .i64 a0, .int .i64 l0, .int .i64 0, .slice none 0 0, .int .i64 0, .int .i64 0, .int .i64 0] 31)
  gi_wp2_with fail
  refine ⟨trivial, ?_⟩
  refine (callsIn_wide.2 (thatS_any 0 a0 l0 0 0 0 0 none 0 0 A N cc V _ (HA.out _ (n2.trans a2)) HN.out hm)).mono ?_
  rintro e w3 ⟨u, V', rfl, hv3, ho3, h3⟩
  obtain ⟨A3, c3, rfl, hr3, -⟩ := ho3.form
  have b3 := (b2.new a2).new h3
  have n3 := (n2.trans a2).trans h3
  have z3 := h3.size
  have z2 := a2.size
  clear b2 n2 bD cD pc p2 h3 a2
  have hl3 : V'.length ≤ N := by
    have e := congrArg List.length hv3
    rw [List.length_map] at e
    have e2 := List.length_filter_le (keepS a0 l0) (V.map Rv.r)
    rw [List.length_map, HN.out] at e2
    omega
  have HV3 : Hid (V'.map Rv.r = (V.map Rv.r).filter (keepS a0 l0)) := hv3
  clear hv3
  gi_wp2_with fail
  refine ⟨trivial, ?_⟩
  refine (callsIn_wide.2 (heapOf_any A3 V'.length c3 V' _ hr3 rfl (by omega))).mono ?_
  rintro e w4 ⟨H, V4, rfl, hs4, hp4, hk4, h4⟩
  gi_wp2_with fail
  have b4 := b3.new h4
  have n4 := n3.trans h4
  have z4 := h4.size
  have lt4 := b4.lt
  have lt3 := b3.lt
  have H4 : Hid (New w3 w4) := h4
  clear b3 h4
  obtain ⟨b, c, hp, hlb, hlH, hfar⟩ := hs4
  have ltb := hp.row.lt
  have ltH := hp.hd.lt
  have HB4 : Hid (Blk w4 (w.heap.size + 1) 33 #[.int .i64 0, .int .i64 0, .int .i64 0, .int .i64 0, .int .i64 0, .slice none 0 0, .int .i64 0, .int .i64 0, .int .i64 0]) := b4
  clear b4
  rcases Nat.eq_zero_or_pos V'.length with h0 | h0
  · have hV4 : V4 = [] := List.eq_nil_of_length_eq_zero (hp4.length_eq.trans h0)
    subst hV4
    refine wpIn_range8 (v0 := .pointer (some ⟨H, 0, none⟩)) rfl (by omega) (gf := 31) rfl trivial (enters_of Try.func31 (by kernel_rfl) rfl) ?_
    intro fn W1 rec hfn hN1 hsz hrec hl hd
    refine (top8_none (w4.heap.size + 1) H b c W1 (hp.new hN1)).mono ?_
    rintro e W2 ⟨he, rfl⟩
    refine ⟨he, .ready, none, by simp, by subst hrec; exact hl, hd, ?_⟩
    rintro W3 rfl
    have b5 : Blk (W2.putObj (w4.heap.size + 1) (.loop { rec with state := .exhausted, pending := none })) (w.heap.size + 1) 33 #[.int .i64 0, .int .i64 0, .int .i64 0, .int .i64 0, .int .i64 0, .slice none 0 0, .int .i64 0, .int .i64 0, .int .i64 0] := (World.putObj_heap_other (by omega)).trans (HB4.out.new hN1)
    have d5 : (W2.putObj (w4.heap.size + 1) (.loop { rec with state := .exhausted, pending := none })).heap[w4.heap.size]? = some (.deferred (some [])) := (World.putObj_heap_other (by omega)).trans hd
    have tl := turn_of_grown8 (grownBy_putObj' W2 (w4.heap.size + 1) (.loop { rec with state := .exhausted, pending := none }))
    generalize W2.putObj (w4.heap.size + 1) (.loop { rec with state := .exhausted, pending := none }) = W5 at *
    have c5 := b5.cells
    have f5 := b5.frees
    gi_wp2
    obtain ⟨b6, t6⟩ := nine8 W5 (w.heap.size + 1) 33 (.int .i64 0) (.int .i64 0) (.int .i64 0) (.int .i64 0) (.int .i64 0) (.slice none 0 0) (.int .i64 0) (.int .i64 0) (.int .i64 0) (.int .i64 4) (.int .i64 0) (.int .i64 0) (.int .i64 0) (.int .i64 0) (.slice none 0 0) (.int .i64 0) (.int .i64 0) (.int .i64 0) b5
    have lt5 : w4.heap.size < W5.heap.size := (Array.getElem?_eq_some_iff.1 d5).1
    have hK6 := (t6.block w4.heap.size lt5 (by omega)).trans d5
    generalize (((((((((W5.setCell ⟨w.heap.size + 1, 0, none⟩ (.int .i64 4)).setCell ⟨w.heap.size + 1, 1, none⟩ (.int .i64 0)).setCell ⟨w.heap.size + 1, 2, none⟩ (.int .i64 0)).setCell ⟨w.heap.size + 1, 3, none⟩ (.int .i64 0)).setCell ⟨w.heap.size + 1, 4, none⟩ (.int .i64 0)).setCell ⟨w.heap.size + 1, 5, none⟩ (.slice none 0 0)).setCell ⟨w.heap.size + 1, 6, none⟩ (.int .i64 0)).setCell ⟨w.heap.size + 1, 7, none⟩ (.int .i64 0)).setCell ⟨w.heap.size + 1, 8, none⟩ (.int .i64 0)) = W6 at *
    have tp := turn_of_grown8 (grownBy_putObj' W6 w4.heap.size (.deferred none))
    have b7 := b6.turn tp (by intro e; have := Option.some.inj e; omega)
    have cF := b7.cells
    refine ⟨by simp, .inl ⟨_, _, rfl, run_takeDeferred hK6, ?_⟩⟩
    refine ⟨.agg #[.int .i64 4, .int .i64 0, .int .i64 0, .int .i64 0, .int .i64 0, .slice none 0 0, .int .i64 0, .int .i64 0, .int .i64 0], by simp [results, Try.results9, go_sem, cF], ?_⟩
    refine ⟨4, ⟨0, 0, 0, 0, [], 0, 0, 0⟩, none, 0, .inl ⟨rfl, rfl, ?_⟩, rfl, ⟨rfl, .inl ⟨rfl, rfl⟩⟩, ⟨by simp, by simp⟩, ?_⟩
    · have e := HV3.out
      rw [List.eq_nil_of_length_eq_zero h0, List.map_nil] at e
      intro s hs
      have := List.filter_eq_nil_iff.1 e.symm s hs
      simpa using this
    · refine Turn.mono (Turn.trans (Turn.trans (Turn.trans (Turn.trans n4.turn hN1.turn (fun _ _ e => e)) tl (fun k _ e => ?_)) t6 (fun k _ e => ?_)) tp (fun k _ e => ?_)) (S := fun k => w.heap.size ≤ k) (fun k h1 h2 => by omega)
      · have := Option.some.inj e; omega
      · omega
      · have := Option.some.inj e; omega
  · obtain ⟨m, hm4⟩ : ∃ m, V4.length = m + 1 := ⟨V4.length - 1, by have := hp4.length_eq; omega⟩
    have hk5 : hpOK hlt (hf V4) (m + 1) := by rw [← hm4, hp4.length_eq]; exact hk4
    have hle : m + 1 ≤ 1048576 := by have := hp4.length_eq; omega
    have hv0 : V4[0]? = some (hf V4 0) := hf_at (by omega)
    have hvm : hf V4 0 ∈ V' := hp4.mem_iff.1 (List.mem_of_getElem? hv0)
    have hown := ho3.path.own _ hvm
    have hbd := ho3.path.bd _ hvm
    have hbest : BfOk (V.map Rv.r) a0 l0 0 (hf V4 0).r := by
      refine .inr ⟨rfl, ?_⟩
      have hin : (hf V4 0).r ∈ (V.map Rv.r).filter (keepS a0 l0) := by rw [← HV3.out]; exact List.mem_map_of_mem hvm
      obtain ⟨h1, h2⟩ := List.mem_filter.1 hin
      refine ⟨h1, h2, fun s hs hk => ?_⟩
      have h3 : s ∈ V'.map Rv.r := by rw [HV3.out]; exact List.mem_filter.2 ⟨hs, hk⟩
      obtain ⟨u, hu, rfl⟩ := List.mem_map.1 h3
      obtain ⟨i, hi⟩ := List.getElem?_of_mem (hp4.mem_iff.2 hu)
      have hil := (List.getElem?_eq_some_iff.1 hi).1
      have := hp_top hlt_tr hlt_irr hk5 i (by omega)
      rw [hf_get hi] at this
      exact this
    have HBEST : Hid (BfOk (V.map Rv.r) a0 l0 0 (hf V4 0).r) := hbest
    have HOWN : Hid (OvN w3 _ (hf V4 0).pv (hf V4 0).r.xs) := hown
    have HBD : Hid ((∀ z ∈ (hf V4 0).r.xs, In6 z) ∧ (hf V4 0).r.xs.length ≤ 1048576) := hbd
    have HRNG : Hid (∀ k, (hf V4 0).pv.ownBlock = some k → w.heap.size + 1 < k ∧ k < w3.heap.size) := fun k hk => by have := hown.rng7 k hk; omega
    clear hown hbd hbest hvm hv0 hr3 ho3
    obtain ⟨v, hv⟩ : ∃ v, hf V4 0 = v := ⟨_, rfl⟩
    rw [hv] at HBEST HOWN HBD HRNG
    refine wpIn_range8 (v0 := .pointer (some ⟨H, 0, none⟩)) rfl (by omega) (gf := 31) rfl trivial (enters_of Try.func31 (by kernel_rfl) rfl) ?_
    intro fn W1 rec hfn hN1 hsz hrec hl hd
    obtain ⟨rb, hrb⟩ : ∃ rb : Loop, rb = { rec with state := .busy } := ⟨_, rfl⟩
    obtain ⟨rd, hrd⟩ : ∃ rd : Loop, rd = { rec with state := .done, pending := some .ret } := ⟨_, rfl⟩
    refine (top8_first (w4.heap.size + 1) H b c V4 m W1 (fun W => W.heap[w4.heap.size + 1]? = some (.loop rd) ∧ W.heap[w4.heap.size]? = some (.deferred (some [])) ∧ Blk W (w.heap.size + 1) 33 #[.int .i64 0, .int .i64 v.r.p, .int .i64 v.r.a, .int .i64 v.r.l, .int .i64 v.r.o, .slice v.x v.r.xs.length v.c, .int .i64 v.r.nx, .int .i64 v.r.md, .int .i64 v.r.lc] ∧ Turn (fun k => k = b ∨ k = H ∨ k = w.heap.size + 1 ∨ k = w4.heap.size + 1) W1 W) (hp.new hN1) hm4 hle hk5 ?_).mono ?_
    · intro W2 t2
      rw [hv]
      obtain ⟨⟨p, a, l, o, xs, nx, md, lc⟩, x, d⟩ := v
      have hl2 := (t2.block (w4.heap.size + 1) (by omega) (by omega)).trans hl
      have hd2 := (t2.block w4.heap.size (by omega) (by omega)).trans hd
      have b2 := (HB4.out.new hN1).turn t2 (by omega)
      have sz2 := t2.size
      refine yield8 (rec := rec) (by subst hrec; exact hfn) hl2 (by subst hrec; rfl) ?_
      subst hrec
      dsimp only
      unfold Rv.val
      dsimp only
      gi_wp2
      have bR := Blk.mk W2 W2.heap.size 31 #[.int .i64 p, .int .i64 a, .int .i64 l, .int .i64 o, .slice x xs.length d, .int .i64 nx, .int .i64 md, .int .i64 lc] rfl
      have aR := (New.refl W2).alloc (.cells #[.int .i64 p, .int .i64 a, .int .i64 l, .int .i64 o, .slice x xs.length d, .int .i64 nx, .int .i64 md, .int .i64 lc] 31)
      have hl3 := (aR.block _ (by omega) (fun f => f)).trans hl2
      have hd3 := (aR.block _ (by omega) (fun f => f)).trans hd2
      have b3 := b2.new aR
      have hb : (Instr.beginRound (w4.heap.size + 1)).run Try.prog (W2.alloc (.cells #[.int .i64 p, .int .i64 a, .int .i64 l, .int .i64 o, .slice x xs.length d, .int .i64 nx, .int .i64 md, .int .i64 lc] 31)) = .ok () ((W2.alloc (.cells #[.int .i64 p, .int .i64 a, .int .i64 l, .int .i64 o, .slice x xs.length d, .int .i64 nx, .int .i64 md, .int .i64 lc] 31)).putObj (w4.heap.size + 1) (.loop rb)) := by rw [hrb]; exact run_beginRound hl3 rfl
      refine ⟨_, hb, ?_⟩
      clear hb
      have szR := aR.size
      have lt2 : w4.heap.size + 1 < W2.heap.size := (Array.getElem?_eq_some_iff.1 hl2).1
      have hl4 : ((W2.alloc (.cells #[.int .i64 p, .int .i64 a, .int .i64 l, .int .i64 o, .slice x xs.length d, .int .i64 nx, .int .i64 md, .int .i64 lc] 31)).putObj (w4.heap.size + 1) (.loop rb)).heap[w4.heap.size + 1]? = some (.loop rb) := World.putObj_heap_same (by omega)
      have hd4 : ((W2.alloc (.cells #[.int .i64 p, .int .i64 a, .int .i64 l, .int .i64 o, .slice x xs.length d, .int .i64 nx, .int .i64 md, .int .i64 lc] 31)).putObj (w4.heap.size + 1) (.loop rb)).heap[w4.heap.size]? = some (.deferred (some [])) := (World.putObj_heap_other (by omega)).trans hd3
      have b4 : Blk ((W2.alloc (.cells #[.int .i64 p, .int .i64 a, .int .i64 l, .int .i64 o, .slice x xs.length d, .int .i64 nx, .int .i64 md, .int .i64 lc] 31)).putObj (w4.heap.size + 1) (.loop rb)) (w.heap.size + 1) 33 #[.int .i64 0, .int .i64 0, .int .i64 0, .int .i64 0, .int .i64 0, .slice none 0 0, .int .i64 0, .int .i64 0, .int .i64 0] := (World.putObj_heap_other (by omega)).trans b3
      have bR4 : Blk ((W2.alloc (.cells #[.int .i64 p, .int .i64 a, .int .i64 l, .int .i64 o, .slice x xs.length d, .int .i64 nx, .int .i64 md, .int .i64 lc] 31)).putObj (w4.heap.size + 1) (.loop rb)) W2.heap.size 31 #[.int .i64 p, .int .i64 a, .int .i64 l, .int .i64 o, .slice x xs.length d, .int .i64 nx, .int .i64 md, .int .i64 lc] := (World.putObj_heap_other (by omega)).trans bR
      have tl := Turn.trans (aR.turn (S := fun k => k = b ∨ k = H ∨ k = w.heap.size + 1 ∨ k = w4.heap.size + 1)) ((turn_of_grown8 (grownBy_putObj' (W2.alloc (.cells #[.int .i64 p, .int .i64 a, .int .i64 l, .int .i64 o, .slice x xs.length d, .int .i64 nx, .int .i64 md, .int .i64 lc] 31)) (w4.heap.size + 1) (.loop rb))).mono (fun k _ e => by have := Option.some.inj e; omega)) (fun _ _ e => e)
      generalize (W2.alloc (.cells #[.int .i64 p, .int .i64 a, .int .i64 l, .int .i64 o, .slice x xs.length d, .int .i64 nx, .int .i64 md, .int .i64 lc] 31)).putObj (w4.heap.size + 1) (.loop rb) = W4 at *
      clear bR aR hl3 hd3 b3
      have cR := bR4.cells
      have c4 := b4.cells
      have f4 := b4.frees
      gi_wp2
      obtain ⟨b6, t6⟩ := nine8 W4 (w.heap.size + 1) 33 (.int .i64 0) (.int .i64 0) (.int .i64 0) (.int .i64 0) (.int .i64 0) (.slice none 0 0) (.int .i64 0) (.int .i64 0) (.int .i64 0) (.int .i64 0) (.int .i64 p) (.int .i64 a) (.int .i64 l) (.int .i64 o) (.slice x xs.length d) (.int .i64 nx) (.int .i64 md) (.int .i64 lc) b4
      have hl6 := (t6.block (w4.heap.size + 1) (Array.getElem?_eq_some_iff.1 hl4).1 (by omega)).trans hl4
      have hd6 := (t6.block w4.heap.size (Array.getElem?_eq_some_iff.1 hd4).1 (by omega)).trans hd4
      generalize (((((((((W4.setCell ⟨w.heap.size + 1, 0, none⟩ (.int .i64 0)).setCell ⟨w.heap.size + 1, 1, none⟩ (.int .i64 p)).setCell ⟨w.heap.size + 1, 2, none⟩ (.int .i64 a)).setCell ⟨w.heap.size + 1, 3, none⟩ (.int .i64 l)).setCell ⟨w.heap.size + 1, 4, none⟩ (.int .i64 o)).setCell ⟨w.heap.size + 1, 5, none⟩ (.slice x xs.length d)).setCell ⟨w.heap.size + 1, 6, none⟩ (.int .i64 nx)).setCell ⟨w.heap.size + 1, 7, none⟩ (.int .i64 md)).setCell ⟨w.heap.size + 1, 8, none⟩ (.int .i64 lc)) = W6 at *
      have he := run_endRound (P := Try.prog) (some .ret) hl6
      have hrd2 : ({ rb with state := .done, pending := some .ret } : Loop) = rd := by rw [hrb, hrd]
      have lt6 : w4.heap.size + 1 < W6.heap.size := (Array.getElem?_eq_some_iff.1 hl6).1
      refine ⟨_, _, he, rfl, ?_⟩
      have hrd3 : ({ rb with state := (if (some Code.ret).isNone then .ready else .done), pending := some .ret } : Loop) = rd := hrd2
      rw [hrd3]
      refine ⟨(World.putObj_heap_same lt6).trans (by rw [hrd]), (World.putObj_heap_other (by omega)).trans hd6, (World.putObj_heap_other (by omega)).trans b6, ?_⟩
      exact Turn.trans (Turn.trans (Turn.trans (t2.mono (fun k _ e => by omega)) tl (fun _ _ e => e)) t6 (fun k _ e => by omega)) (turn_of_grown8 (grownBy_putObj' W6 (w4.heap.size + 1) (.loop rd))) (fun k _ e => by have := Option.some.inj e; omega)
    · rintro e W2 ⟨he, hl2, hd2, b2, t2⟩
      refine ⟨he, .done, some .ret, by simp, by rw [← hrd]; exact hl2, hd2, ?_⟩
      rintro W3 rfl
      have b5 : Blk (W2.putObj (w4.heap.size + 1) (.loop { rec with state := .exhausted, pending := some .ret })) (w.heap.size + 1) 33 #[.int .i64 0, .int .i64 v.r.p, .int .i64 v.r.a, .int .i64 v.r.l, .int .i64 v.r.o, .slice v.x v.r.xs.length v.c, .int .i64 v.r.nx, .int .i64 v.r.md, .int .i64 v.r.lc] := (World.putObj_heap_other (by omega)).trans b2
      have d5 : (W2.putObj (w4.heap.size + 1) (.loop { rec with state := .exhausted, pending := some .ret })).heap[w4.heap.size]? = some (.deferred (some [])) := (World.putObj_heap_other (by omega)).trans hd2
      have t5 := turn_of_grown8 (grownBy_putObj' W2 (w4.heap.size + 1) (.loop { rec with state := .exhausted, pending := some .ret }))
      generalize W2.putObj (w4.heap.size + 1) (.loop { rec with state := .exhausted, pending := some .ret }) = W5 at *
      dsimp only
      gi_wp2
      have tp := turn_of_grown8 (grownBy_putObj' W5 w4.heap.size (.deferred none))
      have b7 := b5.turn tp (by intro e; have := Option.some.inj e; omega)
      have cF := b7.cells
      refine ⟨by simp, .inl ⟨_, _, rfl, run_takeDeferred d5, ?_⟩⟩
      refine ⟨.agg #[.int .i64 0, .int .i64 v.r.p, .int .i64 v.r.a, .int .i64 v.r.l, .int .i64 v.r.o, .slice v.x v.r.xs.length v.c, .int .i64 v.r.nx, .int .i64 v.r.md, .int .i64 v.r.lc], by simp [results, Try.results9, go_sem, cF], ?_⟩
      have TT : Turn (fun k => k = w.heap.size + 1 ∨ w3.heap.size ≤ k) w3 (W5.putObj w4.heap.size (.deferred none)) := by
        refine Turn.trans (Turn.trans (Turn.trans (Turn.trans H4.out.turn hN1.turn (fun _ _ e => e)) t2 (fun k _ e => ?_)) t5 (fun k _ e => ?_)) tp (fun k _ e => ?_)
        · omega
        · have := Option.some.inj e; omega
        · have := Option.some.inj e; omega
      refine ⟨0, v.r, HBEST.out, v.x, v.c, rfl, (HOWN.out.turn7 TT (fun k hk => by have := HRNG.out k hk; omega)).low (by omega), HBD.out, ?_⟩
      exact Turn.mono (Turn.trans n3.turn TT (fun _ _ e => e)) (fun k h1 h2 => by omega)

end Go.Proofs.Ytkaaefieglhdlaa
