/- What is proved here: what Pop of a heap of routes, and container/heap's Pop, answer, for a heap that can be read. -/
import Derived.Test.YtkaaefieglhdlaaH8Dn
namespace Go.Proofs.Ytkaaefieglhdlaa
open Go.RowKit Go.Sort
set_option linter.unusedVariables false
set_option linter.unusedSimpArgs false

theorem cellsT_take : ∀ (V : List Rv) (k : Nat), cellsT (V.take k) = (cellsT V).take (k * 8)
  | [], k => by simp [cellsT]
  | v :: V, 0 => by simp [cellsT]
  | v :: V, k + 1 => by
    have h8 : v.cs.length = 8 := rfl
    have e : v.cs.take ((k + 1) * 8) = v.cs := List.take_of_length_le (by rw [h8]; omega)
    rw [List.take_succ_cons, cellsT_app, cellsT_app, cellsT_take V k, List.take_append, e, h8, show (k + 1) * 8 - 8 = k * 8 by omega]
theorem OwRow.cut {w : World} {g n c : Nat} {V : List Rv} (h : OwRow w g n c V) (k : Nat) (hk : k ≤ n) : OwRow w g k c (V.take k) := by
  have hl := h.len
  refine ⟨by rw [cellsT_len, List.length_take]; omega, ?_⟩
  rcases h.2 with ⟨h', _⟩ | ⟨g', cap', cur, h', r1, r2, r3, r4, r5, r6⟩
  · simp at h'
  · simp only [Value.slice.injEq, Option.some.injEq, Addr.mk.injEq, and_true, true_and] at h'
    obtain ⟨rfl, rfl⟩ := h'
    refine .inr ⟨g, c, cur, rfl, r1, r2, by omega, r4, r5, ?_⟩
    rw [cellsT_take, ← r6, List.take_take, Nat.min_eq_left (by omega)]

theorem Try.htHp : Try.prog.underlying 76 = some (.slice (Try.prog.elem 76)) := by kernel_rfl
theorem Try.szHp (w : World) : (sizeOf (Try.prog.elem 76)).run Try.prog w = .ok 8 w := by kernel_rfl
theorem headH (b n c t : Nat) (ht : t ≤ c) : ∀ X, (Instr.slice 76 (.slice (some ⟨b, 0, none⟩) n c) none (some (.int .i64 (t : Int))) none).run Try.prog X = .ok (.slice (some ⟨b, 0, none⟩) t c) X := by
  intro X
  rw [run_slice_h X 76 (some ⟨b, 0, none⟩) n c Try.htHp .i64 t (by omega) (by omega), Try.szHp]
  by_cases hc : c = 0
  · simp [Result.andThen, sliced, hc]
  · simp [Result.andThen, sliced, hc, Addr.add]

/-- A route as a value. -/
def Rv.val (v : Rv) : Value := .agg #[.int .i64 v.r.p, .int .i64 v.r.a, .int .i64 v.r.l, .int .i64 v.r.o, .slice v.x v.r.xs.length v.c, .int .i64 v.r.nx, .int .i64 v.r.md, .int .i64 v.r.lc]

set_option maxRecDepth 100000 in
set_option maxHeartbeats 6400000 in
theorem popm_heap (H b c : Nat) (V : List Rv) (n : Nat) (w : World) (hp : HpAt w H b c V) (hn : V.length = n + 1) (hm : n + 1 ≤ 1048576) : Calls Try.prog 99 #[.pointer (some ⟨H, 0, none⟩)] w fun e w' => e = .returned (.iface 31 (hf V n).val) ∧ HpAt w' H b c (V.take n) ∧ Turn (fun k => k = H) w w' := by
  have hcap : n + 1 ≤ c := by
    rcases hp.row.2 with ⟨h', _⟩ | ⟨g', cap', cur, h', r1, r2, r3, r4, r5, r6⟩
    · simp at h'
    · simp only [Value.slice.injEq, Option.some.injEq, Addr.mk.injEq, and_true, true_and] at h'
      obtain ⟨rfl, rfl⟩ := h'
      omega
  have rt := hp.row.rt hp.here
  have hv0 := hf_at (V := V) (i := n) (by omega)
  obtain ⟨b1, off1, p, a, l, o, nx, md, lc, x, m, d, xs, hA1, hv1, hlen, -, -, -, q0, q1, q2, q3, q4, q5, q6, q7⟩ := rt.at n (by omega)
  simp only [Option.some.injEq, Addr.mk.injEq, and_true] at hA1
  obtain ⟨rfl, rfl⟩ := hA1
  rw [hv0] at hv1
  have HV : Hid (hf V n = ⟨⟨p, a, l, o, xs, nx, md, lc⟩, x, d⟩) := Option.some.inj hv1
  have HL : Hid (xs.length = m) := hlen
  simp only [Nat.zero_add] at q0 q1 q2 q3 q4 q5 q6 q7
  have hd := hp.hd
  rw [hn] at hd
  have HP : Hid (HpAt w H b c V) := hp
  have HN : Hid (V.length = n + 1) := hn
  have hS := headH b (n + 1) c n (by omega)
  have hw1 : IntKind.i64.wrap (((n + 1 : Nat) : Int) - 1) = (n : Int) := by rw [IntKind.wrap_i64]; omega
  have cH := hd.cells
  have hsz : H < w.heap.size := hd.lt
  have h0 : (0 : Int) ≤ (n : Int) := by omega
  have h1 : (n : Int) < ((n + 1 : Nat) : Int) := by omega
  have bR := Blk.mk w w.heap.size 31 #[.int .i64 p, .int .i64 a, .int .i64 l, .int .i64 o, .slice x m d, .int .i64 nx, .int .i64 md, .int .i64 lc] rfl
  have N1 : New w (w.alloc (.cells #[.int .i64 p, .int .i64 a, .int .i64 l, .int .i64 o, .slice x m d, .int .i64 nx, .int .i64 md, .int .i64 lc] 31)) := (New.refl w).alloc _
  have hd1 := hd.new N1
  have HB : Hid (¬ H = b) := hp.ne
  clear hv0 hv1 hlen rt hp hn hcap
  go_enter Try.func99, Try.ntmps99
  go_upto_region 3 with fail
  generalize w.alloc (.cells #[.int .i64 p, .int .i64 a, .int .i64 l, .int .i64 o, .slice x m d, .int .i64 nx, .int .i64 md, .int .i64 lc] 31) = w1 at *
  have cH1 := hd1.cells
  have fH1 := hd1.frees
  go_upto_region 4 with fail
  have T1 : Turn (fun k => k = H) w1 (w1.setCell ⟨H, 0, none⟩ (.slice (some ⟨b, 0, none⟩) n c)) := (Turn.refl (fun k => k = H) w1).set (p := ⟨H, 0, none⟩) rfl _
  have hd2 : Blk (w1.setCell ⟨H, 0, none⟩ (.slice (some ⟨b, 0, none⟩) n c)) H 76 #[.slice (some ⟨b, 0, none⟩) n c] := hd1.set 0 _
  generalize w1.setCell ⟨H, 0, none⟩ (.slice (some ⟨b, 0, none⟩) n c) = w2 at *
  have hb2 : Blk w2 w.heap.size 31 #[.int .i64 p, .int .i64 a, .int .i64 l, .int .i64 o, .slice x m d, .int .i64 nx, .int .i64 md, .int .i64 lc] := bR.turn T1 (by omega)
  have cR := hb2.cells
  clear cH1 fH1 cH q0 q1 q2 q3 q4 q5 q6 q7 hS
  go_wp2
  go_ret
  have TT : Turn (fun k => k = H) w w2 := Turn.trans N1.turn T1 (fun _ _ e => e)
  have hl : (V.take n).length = n := by rw [List.length_take, HN.out]; omega
  have hrow : OwRow w2 b n c (V.take n) := by
    have h := (HP.out.row.turn TT (fun e => HB.out e.symm)).cut n (by rw [HN.out]; omega)
    exact h
  refine ⟨?_, ⟨by rw [hl]; exact hd2, by rw [hl]; exact hrow, fun v hv => (HP.out.here v (List.mem_of_mem_take hv)).turn TT (fun y e1 e2 => (HP.out.far v (List.mem_of_mem_take hv) y e1 e2).2), HB.out, fun v hv => HP.out.far v (List.mem_of_mem_take hv)⟩, TT⟩
  rw [HV.out]
  unfold Rv.val
  simp only [HL.out]
  rfl

theorem hf_take {V : List Rv} {n k : Nat} (h : k < n) : hf (V.take n) k = hf V k := by unfold hf; rw [List.getElem?_take, if_pos h]
theorem take_snocH {V : List Rv} {n : Nat} (h : V.length = n + 1) : V = V.take n ++ [hf V n] := by
  have e := hf_at (V := V) (i := n) (by omega)
  obtain ⟨hk, e'⟩ := List.getElem?_eq_some_iff.1 e
  have h2 := List.take_succ_eq_append_getElem hk
  rw [e', List.take_of_length_le (by omega)] at h2
  exact h2

set_option maxRecDepth 100000 in
set_option maxHeartbeats 6400000 in
theorem pop_heap (H b c : Nat) (V : List Rv) (n : Nat) (w : World) (hp : HpAt w H b c V) (hn : V.length = n + 1) (hm : n + 1 ≤ 1048576) (hu : hpOK hlt (hf V) (n + 1)) : Calls Try.prog 55 #[.iface 59 (.pointer (some ⟨H, 0, none⟩))] w fun e w' => e = .returned (.iface 31 (hf V 0).val) ∧ ∃ V', HpAt w' H b c V' ∧ V'.length = n ∧ (hf V 0 :: V').Perm V ∧ hpOK hlt (hf V') n ∧ Turn (fun k => k = b ∨ k = H) w w' := by
  have HP : Hid (HpAt w H b c V) := hp
  have HN : Hid (V.length = n + 1) := hn
  have H0 : Hid (V[0]? = some (hf V 0)) := hf_at (by omega)
  have H1 : Hid (V[n]? = some (hf V n)) := hf_at (by omega)
  have HD : Hid (dnOK hlt (hf ((V.set 0 (hf V n)).set n (hf V 0))) n 0) := by
    have h := dn_pop hu
    rw [← hf_sw H0.out H1.out] at h
    exact h
  have HE : Hid (hf ((V.set 0 (hf V n)).set n (hf V 0)) n = hf V 0) := by
    unfold Hid
    rw [hf_sw H0.out H1.out, sw_j]
  have HM : Hid (((V.set 0 (hf V n)).set n (hf V 0)).Perm V) := perm_sw H0.out H1.out
  have HL1 : Hid (((V.set 0 (hf V n)).set n (hf V 0)).length = n + 1) := by unfold Hid; rw [List.length_set, List.length_set]; exact hn
  have hw1 : IntKind.i64.wrap (((n + 1 : Nat) : Int) - 1) = (n : Int) := by rw [IntKind.wrap_i64]; omega
  clear hp hn hu
  go_enter Try.func55, Try.ntmps55
  go_wp2_with fail
  refine (len_heap H b c V (n + 1) w HP.out HN.out).mono ?_
  rintro e w0 ⟨rfl, rfl⟩
  go_wp2_with fail
  refine (swap_heap H b c V (n + 1) 0 n _ _ _ HP.out HN.out hm H0.out H1.out).mono ?_
  rintro e w1 ⟨rfl, hp1, t1⟩
  generalize hV1 : (V.set 0 (hf V n)).set n (hf V 0) = V1 at hp1 HD HE HM HL1
  have HP1 : Hid (HpAt w1 H b c V1) := hp1
  clear hp1 hV1
  go_wp2_with fail
  refine (down_heap H b c V1 n (n + 1) w1 HP1.out HL1.out hm (by omega) HD.out).mono ?_
  rintro e w2 ⟨⟨z, rfl⟩, V2, hp2, m2, k2, f2, t2⟩
  have HP2 : Hid (HpAt w2 H b c V2) := hp2
  have HM2 : Hid (V2.Perm V1) := m2
  have HK2 : Hid (hpOK hlt (hf V2) n) := k2
  have HF2 : Hid (hf V2 n = hf V 0) := (f2 n (Nat.le_refl _)).trans HE.out
  have HL2 : Hid (V2.length = n + 1) := m2.length_eq.trans HL1.out
  clear hp2 m2 k2 f2
  go_wp2_with fail
  refine (popm_heap H b c V2 n w2 HP2.out HL2.out hm).mono ?_
  rintro e w3 ⟨rfl, hp3, t3⟩
  have HP3 : Hid (HpAt w3 H b c (V2.take n)) := hp3
  clear hp3
  rw [HF2.out]
  go_wp2
  go_ret
  refine ⟨rfl, V2.take n, HP3.out, by rw [List.length_take, HL2.out]; omega, ?_, fun k k0 kn => ?_, Turn.trans (Turn.trans (t1.mono (fun _ _ e => .inl e)) t2 (fun _ _ e => .inl e)) t3 (fun _ _ e => .inr e)⟩
  · refine List.Perm.trans ?_ (HM2.out.trans HM.out)
    have e := take_snocH HL2.out
    rw [HF2.out] at e
    refine List.Perm.trans ?_ (List.Perm.of_eq e.symm)
    exact (List.perm_append_singleton _ _).symm
  · rw [hf_take kn, hf_take (by omega)]
    exact HK2.out k k0 kn

end Go.Proofs.Ytkaaefieglhdlaa
