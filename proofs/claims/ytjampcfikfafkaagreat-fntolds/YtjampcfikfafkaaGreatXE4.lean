/- What is proved here: what the program's copying of a list of routes answers, for lists of at most 1048576 routes with paths of at most 1048576 numbers. What is proved here: what the program's BestOfAll answers of a list without a fault. What is proved here: what the program's BestOfAll answers of any list. What is proved here: what the program's ExportTo answers. What is proved here: what the model's export of a list of routes to a peer answers. What is proved here: what the model's ExportTo answers. -/
import Derived.Test.YtjampcfikfafkaaGreatXE3
import Derived.Test.YtjampcfikfafkaaGreatXE2
import Derived.Deep.CutRange
import Derived.Maps.OwnIn
import Derived.Test.YtjampcfikfafkaaGreatR6Ex
import Derived.Test.YtjampcfikfafkaaGreatR6Ex2
namespace Go.Proofs.YtjampcfikfafkaaGreat
open Go.RowKit Go.Sort
set_option linter.unusedVariables false
set_option maxRecDepth 100000

set_option maxHeartbeats 6400000 in
theorem copyRoutes_any (A : Option Addr) (N cc : Nat) (V : List Rv) (w : World) (h : RtAt w A V) (hn : V.length = N) (hm : N ≤ 1048576) :
    Calls Tryz.prog 65 #[.slice A N cc] w fun e w' => ∃ u V', e = .returned u ∧ V'.map Rv.r = V.map Rv.r ∧ OwT w' w.heap.size w'.heap.size u V' ∧ New w w' := by
  have HN : Hid (V.length = N) := hn
  clear hn
  obtain ⟨i0, hi, hz0, hz1, hz2⟩ := info_parts Tryz.infoRt
  go_enter Tryz.func65, Tryz.ntmps65
  go_wp2
  go_loopw [3, 8] (fun s i wr => ∃ (k : Nat) (V' : List Rv), k ≤ N ∧ i = .int .i64 k ∧ V'.length = k ∧ V'.map Rv.r = (V.take k).map Rv.r ∧ New w wr ∧ OwT wr w.heap.size wr.heap.size s V') (fun _ i _ => N - (intOf i).toNat)
  case atStart => exact ⟨0, [], Nat.zero_le _, rfl, rfl, rfl, New.refl _, OwT.nil _ _ _⟩
  case round =>
    obtain ⟨k, V', hk, rfl, hlk, hmap, hnw, how⟩ := hrel
    by_cases hlt : k < N
    · obtain ⟨b, off, p, a, l, o, nx, md, lc, x, m, d, xs, rfl, hv, hlen, hns, hnl, hmx, q0, q1, q2, q3, q4, q5, q6, q7⟩ := (h.new hnw).at k (by have := HN.out; omega)
      have HL : Hid (xs.length = m) := hlen
      have hbd : Hid (∀ z ∈ xs, In6 z) := hns.bd
      have HX : Hid (x = none → m = 0 ∧ d = 0) := hnl
      have HM : Hid (∀ u : Rv, u.r = ⟨p, a, l, o, xs, nx, md, lc⟩ → (V' ++ [u]).map Rv.r = (V.take (k + 1)).map Rv.r) := by
        intro u hu
        obtain ⟨hk', e⟩ := List.getElem?_eq_some_iff.1 hv
        rw [List.take_succ_eq_append_getElem hk', e, List.map_append, List.map_append, hmap]
        simp [hu]
      have HLK : Hid (V'.length = k) := hlk
      have N0 := (New.refl wr).alloc (.cells #[.int .i64 p, .int .i64 a, .int .i64 l, .int .i64 o, .slice x m d, .int .i64 nx, .int .i64 md, .int .i64 lc] 38)
      have bA := Blk.mk wr wr.heap.size 38 #[.int .i64 p, .int .i64 a, .int .i64 l, .int .i64 o, .slice x m d, .int .i64 nx, .int .i64 md, .int .i64 lc] rfl
      clear hv hlen hmap hnl hlk
      go_upto_region 5 with fail
      generalize wr.alloc (.cells #[.int .i64 p, .int .i64 a, .int .i64 l, .int .i64 o, .slice x m d, .int .i64 nx, .int .i64 md, .int .i64 lc] 38) = wa at *
      have hns1 := hns.new N0
      have how1 := how.new N0
      have hle := hnw.size
      clear q0 q1 q2 q3 q4 q5 q6 q7 hns how
      have cA := bA.cells
      go_wp2_with fail
      refine (copyRt_any p a l o nx md lc x m d xs _ hns1 HL.out hmx HX.out).mono ?_
      rintro e w2 ⟨x2, c2, rfl, ho2, h2⟩
      have how2 := how1.up N0.size
      have hB2 := bA.new h2
      clear cA
      have hrow3 : (w2.alloc (.cells #[.int .i64 p, .int .i64 a, .int .i64 l, .int .i64 o, .slice x2 m c2, .int .i64 nx, .int .i64 md, .int .i64 lc] 38)).ownsRow w.heap.size 38 8 _ V'.length (cellsT V') := row_turn7 (row_turn7 how1.row h2 (fun _ _ f => f)) ((New.refl w2).alloc _) (fun _ _ f => f)
      have bL := Blk.mk w2 w2.heap.size 38 #[.int .i64 p, .int .i64 a, .int .i64 l, .int .i64 o, .slice x2 m c2, .int .i64 nx, .int .i64 md, .int .i64 lc] rfl
      have hov : OvN w2 wa.heap.size (Rv.pv ⟨⟨p, a, l, o, xs, nx, md, lc⟩, x2, c2⟩) xs := by
        unfold Rv.pv
        simp only [HL.out]
        exact ho2
      have hsz : w.heap.size ≤ (w2.alloc (.cells #[.int .i64 p, .int .i64 a, .int .i64 l, .int .i64 o, .slice x2 m c2, .int .i64 nx, .int .i64 md, .int .i64 lc] 38)).heap.size := by have e1 := N0.size; have e2 := h2.size; simp; omega
      have hsrc : ∀ j, (w2.alloc (.cells #[.int .i64 p, .int .i64 a, .int .i64 l, .int .i64 o, .slice x2 m c2, .int .i64 nx, .int .i64 md, .int .i64 lc] 38)).cell? ⟨w2.heap.size, j, none⟩ = (Rv.mk (Rt.mk p a l o xs nx md lc) x2 c2).cs[j]? := by
        intro j
        rw [bL.cells j]
        unfold Rv.cs
        simp only [HL.out]
        simp
      go_wp2_with (at_builtin; refine wpList_apT _ rfl (.tmp 12) (.tmp 15) rfl w.heap.size _ Tryz.underlying24 hi hz0 hz1 hz2 rfl _ V' rfl hrow3 w2.heap.size (Rv.mk (Rt.mk p a l o xs nx md lc) x2 c2) rfl hsrc (by have := HLK.out; omega) hsz ?_)
      intro v5 w5 hr5 hg5 _
      replace hr5 : w5.ownsRow w.heap.size 38 8 v5 (V' ++ [Rv.mk (Rt.mk p a l o xs nx md lc) x2 c2]).length (cellsT (V' ++ [Rv.mk (Rt.mk p a l o xs nx md lc) x2 c2])) := by rw [List.length_append]; exact hr5
      have hO5 := OwT.appended how2 (by have e1 := N0.size; omega) h2 hov hbd.out (by simp only [HL.out]; exact hmx) ((New.refl w2).alloc _) hr5 hg5
      have N5 : New w w5 := ((((hnw.trans N0).trans h2).alloc _).grow hg5 (fun j hj => (row_rng7 how1.row j hj).1))
      clear hr5 hg5 hrow3 hsrc hov how2 how1 ho2
      go_wp2
      go_roundw
      case rel => exact ⟨k + 1, V' ++ [Rv.mk (Rt.mk p a l o xs nx md lc) x2 c2], by omega, by go_num, by rw [List.length_append, HLK.out]; rfl, HM.out _ rfl, N5, hO5⟩
      case measure => simp [intOf]; omega
    · go_wp2
      go_ret
      rw [List.take_of_length_le (by have := HN.out; omega)] at hmap
      exact ⟨_, V', rfl, hmap, how, hnw⟩

end Go.Proofs.YtjampcfikfafkaaGreat

namespace Go.Proofs.YtjampcfikfafkaaGreat
open Go.RowKit Go.Sort Go.Shelf
set_option linter.unusedVariables false
set_option linter.unusedSimpArgs false
set_option maxRecDepth 100000
attribute [local go_sem] Oper.semAt_some

theorem pair_len : ∀ (U R : List Rt), U.Pairwise pLt → (∀ x ∈ U, x ∈ R) → U.length ≤ R.length
  | [], R, _, _ => Nat.zero_le _
  | x :: xs, R, hp, hs => by
    rw [List.pairwise_cons] at hp
    obtain ⟨A, B, rfl⟩ := List.append_of_mem (hs x (List.mem_cons_self ..))
    have h := pair_len xs (A ++ B) hp.2 (fun y hy => by
      have h1 := hs y (List.mem_cons_of_mem _ hy)
      have h2 := hp.1 y hy
      rcases List.mem_append.1 h1 with h1 | h1
      · exact List.mem_append_left _ h1
      · rcases List.mem_cons.1 h1 with h1 | h1
        · subst h1
          unfold pLt at h2
          omega
        · exact List.mem_append_right _ h1)
    simp only [List.length_append, List.length_cons] at h ⊢
    omega
theorem TopOk.len {P : List Rv} {U : List Rt} (h : TopOk P U) : U.length ≤ P.length := by
  have := pair_len U (P.map Rv.r) h.srt (fun x hx => by obtain ⟨v, hv, rfl⟩ := h.mem x hx; exact List.mem_map_of_mem hv)
  simpa using this

theorem wpListIn_apT8 {F : Fence} {nF : Nat} {ops : Array Oper} {rest : List Oper} {o : Oper} {a : Act} {Q : Exit → Act → World → Prop} {t e : TypeId} {i : TypeInfo} (w : World) (hgd : o.guard = none) (s x : Operand)
    (ho : o.op = .call { callee := .builtin .append, args := #[s, x], argTypes := #[t, t] }) (base : Nat) (zero : Value) (ht : Tryz.prog.underlying t = some (.slice e)) (hi : Tryz.prog.info? e = some i) (hz : i.zero = some zero) (hs : i.size = 8) (hb : i.bytes = 80) (hz1 : zero.cells.size = 8)
    (v : Value) (rs : List Rv) (hsv : a.eval s = v) (hown : w.ownsRow base e 8 v rs.length (cellsT rs))
    (L : Nat) (r : Rv) (hxv : a.eval x = .slice (some ⟨L, 0, none⟩) 1 1) (hsrc : ∀ j, w.cell? ⟨L, j, none⟩ = r.cs[j]?) (hle : rs.length + 1 ≤ 4194304) (hbase : base ≤ w.heap.size)
    (h : ∀ v' w', w'.ownsRow base e 8 v' (rs ++ [r]).length (cellsT (rs ++ [r])) → w.grownBy w' v.ownBlock → (v'.ownBlock = v.ownBlock ∨ v'.ownBlock = some w.heap.size) → wpListIn F nF Tryz.prog ops Q rest (a.put o.dst v') w') : wpListIn F nF Tryz.prog ops Q (o :: rest) a w := by
  have hnews : ∀ j u, r.cs[j]? = some u → w.cell? ((⟨L, 0, none⟩ : Addr).add j) = some u := by
    intro j u hu
    rw [Addr.add_lit, Nat.zero_add, hsrc j, hu]
  refine wpListIn_append_own_at w hgd s x t ho base e i zero 8 80 ht hi hz hs hb hz1 (by decide) v rs.length (cellsT rs) hsv hown ⟨L, 0, none⟩ 1 1 r.cs hxv rfl hnews (by simp [Rv.cs, Value.oneCell']) (by unfold maxLen; omega) (by omega) hbase ?_
  intro v' w' h2 h3 _ h5
  exact h v' w' (by rw [cellsT_snoc]; simpa using h2) h3 h5

theorem HpAt.turn8 {w w' : World} {H b c : Nat} {V : List Rv} {S : Nat → Prop} (h : HpAt w H b c V) (t : Turn S w w') (hH : ¬ S H) (hb : ¬ S b) (hp : ∀ v ∈ V, ∀ x, v.r.xs ≠ [] → v.x = some x → ¬ S x.block) : HpAt w' H b c V :=
  ⟨h.hd.turn t hH, h.row.turn t hb, fun v hv => (h.here v hv).turn t (fun x h1 h2 => hp v hv x h1 h2), h.ne, h.far⟩

set_option maxHeartbeats 12800000 in
theorem implAll_ok (A : Option Addr) (N cc : Nat) (V : List Rv) (w : World) (h : RtAt w A V) (hn : V.length = N) (hm : N ≤ 1048576) (hf : ribF (V.map Rv.r) = 0) :
    Calls Tryz.prog 29 #[.slice A N cc] w (LAns8 w (V.map Rv.r)) := by
  have HN : Hid (V.length = N) := hn
  have HFA : Hid (ribF (V.map Rv.r) = 0) := hf
  have HA : Hid (∀ X, New w X → RtAt X A V) := fun X hX => h.new hX
  have N0 : New w (w.alloc (.cells #[.int .i64 0, .slice none 0 0] 67)) := (New.refl w).alloc _
  have bB := Blk.mk w w.heap.size 67 #[.int .i64 0, .slice none 0 0] rfl
  have hmf : ∀ (fn : Fn) (first cap : Array Value) (w : World), (Instr.makeFunc fn first cap).run Tryz.prog w = .ok (.func fn first cap) w := fun _ _ _ _ => rfl
  have ltB := bB.lt
  obtain ⟨i0, hi, hz0, hz1, hz2⟩ := info_parts Tryz.infoRt
  clear h hn hf
  refine (callsIn_wide (n := 4)).1 ?_
  refine callsIn_of_wp_marks Tryz.func29 rfl trivial ?_ rfl
  simp only [Tryz.ntmps29, List.size_toArray, List.length_cons, List.length_nil, Nat.reduceAdd, Nat.reduceSub, Array.replicate_succ, Array.replicate_zero, List.push_toArray, List.append_toArray, List.nil_append, List.cons_append]
  gi_wp2_with fail
  refine ⟨trivial, ?_⟩
  refine (callsIn_wide.2 (implRib A N cc V 0 _ (HA.out _ N0) HN.out hm HFA.out)).mono ?_
  generalize w.alloc (.cells #[.int .i64 0, .slice none 0 0] 67) = w0 at *
  rintro e w1 ⟨rfl, h1⟩
  have b1 := bB.new h1
  have n1 := N0.trans h1
  have lt1 := b1.lt
  clear bB h1 N0
  have bT := Blk.mk w1 w1.heap.size 24 #[.slice none 0 0] rfl
  have aT := (New.refl w1).alloc (.cells #[.slice none 0 0] 24)
  gi_wp2_with fail
  refine ⟨trivial, ?_⟩
  refine (callsIn_wide.2 (copyRoutes_any A N cc V _ (HA.out _ (n1.trans aT)) HN.out hm)).mono ?_
  rintro e w3 ⟨u3, V', rfl, hv3, ho3, h3⟩
  obtain ⟨A3, c3, rfl, hr3, -⟩ := ho3.form
  have b3 := (b1.new aT).new h3
  have bT3 := bT.new h3
  have n3 := (n1.trans aT).trans h3
  have z3 := h3.size
  have z2 := aT.size
  have ltT := bT.lt
  have hl3 : V'.length ≤ N := by
    have e := congrArg List.length hv3
    rw [List.length_map, List.length_map, HN.out] at e
    omega
  have HV3 : Hid (V'.map Rv.r = V.map Rv.r) := hv3
  clear hv3 b1 n1 bT aT h3
  gi_wp2_with fail
  refine ⟨trivial, ?_⟩
  refine (callsIn_wide.2 (heapOf_any A3 V'.length c3 V' _ hr3 rfl (by omega))).mono ?_
  rintro e w4 ⟨H, V4, rfl, hs4, hp4, hk4, h4⟩
  gi_wp2_with fail
  have b4 := b3.new h4
  have bT4' := bT3.new h4
  have n4 := n3.trans h4
  have z4 := h4.size
  have lt4 := b4.lt
  have ltT4 := bT4'.lt
  have ltT3 := bT3.lt
  have lt3 := b3.lt
  have H4 : Hid (New w3 w4) := h4
  clear b3 h4 bT3
  obtain ⟨b, c, hp, hlb, hlH, hfar⟩ := hs4
  have ltb := hp.row.lt
  have ltH := hp.hd.lt
  have HB4 : Hid (Blk w4 w.heap.size 67 #[.int .i64 0, .slice none 0 0]) := b4
  have HT4 : Hid (Blk w4 w1.heap.size 24 #[.slice none 0 0]) := bT4'
  clear b4 bT4'
  refine wpIn_range8 (v0 := .pointer (some ⟨H, 0, none⟩)) rfl (by omega) (gf := 42) rfl trivial (enters_of Tryz.func42 (by kernel_rfl) rfl) ?_
  intro fn W1 rec hfn hN1 hsz hrec hl hd
  have hl4 : V4.length ≤ 1048576 := by have := hp4.length_eq; omega
  refine (top8_all (w4.heap.size + 1) H b c V4 W1 (fun pre X => X.heap[w4.heap.size + 1]? = some (.loop rec) ∧ X.heap[w4.heap.size]? = some (.deferred (some [])) ∧ Blk X w.heap.size 67 #[.int .i64 0, .slice none 0 0] ∧ Turn (fun k => k = b ∨ k = H ∨ k = w1.heap.size ∨ w4.heap.size ≤ k) w4 X ∧ ∃ u U, Blk X w1.heap.size 24 #[u] ∧ X.ownsRow W1.heap.size 38 8 u U.length (cellsT U) ∧ TopOk pre (U.map Rv.r) ∧ (∀ v ∈ U, v ∈ V4) ∧ U.length ≤ V4.length) (hp.new hN1) hl4 (by rw [hp4.length_eq]; exact hk4) ?start ?turn ?round).mono ?behind
  case start => exact ⟨hl, hd, HB4.out.new hN1, hN1.turn, .slice none 0 0, [], HT4.out.new hN1, ⟨rfl, .inl ⟨rfl, rfl⟩⟩, TopOk.nil, (by intro v hv; cases hv), Nat.zero_le _⟩
  case turn =>
    rintro pre X Y ⟨j1, j2, j3, j4, u, U, j5, j6, j7, j8, j9⟩ t
    have s4 := j4.size
    have sT := j5.lt
    have s3 := j3.lt
    have g1 : w4.heap.size + 1 < X.heap.size := (Array.getElem?_eq_some_iff.1 j1).1
    refine ⟨(t.block _ g1 (by omega)).trans j1, (t.block _ (by omega) (by omega)).trans j2, j3.turn t (by omega), Turn.trans j4 t (fun k _ e => by omega), u, U, j5.turn t (by omega), row_turn7 j6 t (fun k hk e => by have := (row_rng7 j6 k hk).1; omega), j7, j8, j9⟩
  case round =>
    rintro pre xv RR X hperm hxy hpw ⟨j1, j2, j3, j4, u, U, j5, j6, j7, j8, j9⟩ hpR
    have HV4L : Hid (V4.length ≤ 1048576) := hl4
    obtain ⟨AU, cU, hu5⟩ : ∃ AU cU, u = .slice AU U.length cU := by
      rcases row_form7 j6 with ⟨e1, e2⟩ | ⟨g, c2, e1, -⟩
      · subst e2
        exact ⟨none, 0, e1⟩
      · exact ⟨_, _, e1⟩
    subst hu5
    have s4 := j4.size
    have g1 : w4.heap.size + 1 < X.heap.size := (Array.getElem?_eq_some_iff.1 j1).1
    have hxV : xv ∈ V4 := hperm.mem_iff.1 (by simp)
    have hRV : ∀ v ∈ RR, v ∈ V4 := fun v hv => hperm.mem_iff.1 (by simp [hv])
    have hUlen : U.length ≤ pre.length → U.length + 1 ≤ V4.length := fun e => by have := hperm.length_eq; rw [List.length_append, List.length_cons] at this; omega
    have HX : Hid (xv ∈ V4) := hxV
    have HJ7 : Hid (TopOk pre (U.map Rv.r)) := j7
    have HJ8 : Hid (∀ v ∈ U, v ∈ V4) := j8
    have HXY : Hid (∀ y ∈ pre, ¬ hlt xv y) := hxy
    have HFR : Hid (∀ v ∈ RR, ∀ x, v.r.xs ≠ [] → v.x = some x → w1.heap.size < x.block ∧ x.block < w3.heap.size) := fun v hv x h1 h2 => by
      have e1 := hfar v (hRV v hv) x h1 h2
      have e2 := (ho3.path.own v (hp4.mem_iff.1 (hRV v hv))).rng7 x.block (by unfold Rv.pv; rw [h2]; rfl)
      omega
    have HHX : Hid (H ≠ w1.heap.size ∧ b ≠ w1.heap.size) := ⟨by omega, by omega⟩
    obtain ⟨rb, hrb⟩ : ∃ rb : Loop, rb = { rec with state := .busy } := ⟨_, rfl⟩
    obtain ⟨rn, hrn⟩ : ∃ rn : Loop, Hid (rn = rec) := ⟨_, rfl⟩
    have hrb2 : Hid (({ rb with state := .ready, pending := none } : Loop) = rn) := by unfold Hid; rw [hrn.out, hrb, hrec]
    have HEND : Hid (∀ Y : World, Y.heap[w4.heap.size + 1]? = some (.loop rb) → (Instr.endRound (w4.heap.size + 1) none).run Tryz.prog Y = .ok (.bool true) (Y.putObj (w4.heap.size + 1) (.loop rn))) := fun Y hY => by
      have h := run_endRound (P := Tryz.prog) none hY
      rw [← hrb2.out]
      exact h
    have HRN : Hid (∀ Y : World, Y.heap[w4.heap.size + 1]? = some (.loop rn) → Y.heap[w4.heap.size + 1]? = some (.loop rec)) := fun Y h => by rw [← hrn.out]; exact h
    have HFIN : Hid (∀ (Y : World) (U2 : List Rv) (u2 : Value), Y.heap[w4.heap.size + 1]? = some (.loop rb) → Y.heap[w4.heap.size]? = some (.deferred (some [])) → Blk Y w.heap.size 67 #[.int .i64 0, .slice none 0 0] → Turn (fun k => k = w1.heap.size ∨ w4.heap.size ≤ k) X Y → Blk Y w1.heap.size 24 #[u2] → Y.ownsRow W1.heap.size 38 8 u2 U2.length (cellsT U2) → TopOk (pre ++ [xv]) (U2.map Rv.r) → (∀ v ∈ U2, v ∈ V4) → U2.length ≤ V4.length → HpAt Y H b c RR →
      ((Y.putObj (w4.heap.size + 1) (.loop rn)).heap[w4.heap.size + 1]? = some (.loop rec) ∧ (Y.putObj (w4.heap.size + 1) (.loop rn)).heap[w4.heap.size]? = some (.deferred (some [])) ∧ Blk (Y.putObj (w4.heap.size + 1) (.loop rn)) w.heap.size 67 #[.int .i64 0, .slice none 0 0] ∧ Turn (fun k => k = b ∨ k = H ∨ k = w1.heap.size ∨ w4.heap.size ≤ k) w4 (Y.putObj (w4.heap.size + 1) (.loop rn)) ∧ ∃ u U, Blk (Y.putObj (w4.heap.size + 1) (.loop rn)) w1.heap.size 24 #[u] ∧ (Y.putObj (w4.heap.size + 1) (.loop rn)).ownsRow W1.heap.size 38 8 u U.length (cellsT U) ∧ TopOk (pre ++ [xv]) (U.map Rv.r) ∧ (∀ v ∈ U, v ∈ V4) ∧ U.length ≤ V4.length) ∧ HpAt (Y.putObj (w4.heap.size + 1) (.loop rn)) H b c RR) := by
      intro Y U2 u2 k1 k2 k3 k4 k5 k6 k7 k8 k9 k10
      have ltY : w4.heap.size + 1 < Y.heap.size := (Array.getElem?_eq_some_iff.1 k1).1
      have tp : Turn (fun k => k = w4.heap.size + 1) Y (Y.putObj (w4.heap.size + 1) (.loop rn)) := (turn_of_grown8 (grownBy_putObj' Y (w4.heap.size + 1) (.loop rn))).mono (fun k _ e => (Option.some.inj e).symm)
      refine ⟨⟨HRN.out _ (World.putObj_heap_same ltY), (World.putObj_heap_other (by omega)).trans k2, k3.turn tp (by omega), Turn.trans (Turn.trans j4 k4 (fun k _ e => by omega)) tp (fun k _ e => by omega), u2, U2, k5.turn tp (by omega), row_turn7 k6 tp (fun k hk e => by have h1 := (row_rng7 k6 k hk).1; omega), k7, k8, k9⟩, k10.turn8 tp (by omega) (by omega) (fun v hv y h1 h2 e => by have := HFR.out v hv y h1 h2; omega)⟩
    obtain ⟨⟨p, a, l, o, xs, nx, md, lc⟩, x, d⟩ := xv
    refine yield8 (rec := rec) (by subst hrec; exact hfn) j1 (by subst hrec; rfl) ?_
    have HB' : Hid (rb = { rec with state := .busy }) := hrb
    have hbeg : ∀ (Y : World), Y.heap[w4.heap.size + 1]? = some (.loop rec) → (Instr.beginRound (w4.heap.size + 1)).run Tryz.prog Y = .ok () (Y.putObj (w4.heap.size + 1) (.loop rb)) := fun Y hY => by rw [hrb]; exact run_beginRound hY (by subst hrec; rfl)
    have HBEG := hbeg
    subst hrec
    dsimp only
    unfold Rv.val
    dsimp only
    gi_wp2
    have aR := (New.refl X).alloc (.cells #[.int .i64 p, .int .i64 a, .int .i64 l, .int .i64 o, .slice x xs.length d, .int .i64 nx, .int .i64 md, .int .i64 lc] 38)
    have bR := Blk.mk X X.heap.size 38 #[.int .i64 p, .int .i64 a, .int .i64 l, .int .i64 o, .slice x xs.length d, .int .i64 nx, .int .i64 md, .int .i64 lc] rfl
    have j1a := (aR.block _ g1 (fun f => f)).trans j1
    have hbx := HBEG _ j1a
    refine ⟨_, hbx, ?_⟩
    clear hbeg HBEG hrb hbx
    have hl4 : ((X.alloc (.cells #[.int .i64 p, .int .i64 a, .int .i64 l, .int .i64 o, .slice x xs.length d, .int .i64 nx, .int .i64 md, .int .i64 lc] 38)).putObj (w4.heap.size + 1) (.loop rb)).heap[w4.heap.size + 1]? = some (.loop rb) := World.putObj_heap_same (by have := aR.size; omega)
    have tl : Turn (fun k => k = w4.heap.size + 1) X ((X.alloc (.cells #[.int .i64 p, .int .i64 a, .int .i64 l, .int .i64 o, .slice x xs.length d, .int .i64 nx, .int .i64 md, .int .i64 lc] 38)).putObj (w4.heap.size + 1) (.loop rb)) := Turn.trans aR.turn ((turn_of_grown8 (grownBy_putObj' (X.alloc (.cells #[.int .i64 p, .int .i64 a, .int .i64 l, .int .i64 o, .slice x xs.length d, .int .i64 nx, .int .i64 md, .int .i64 lc] 38)) (w4.heap.size + 1) (.loop rb))).mono (fun k _ e => (Option.some.inj e).symm)) (fun _ _ e => e)
    have bR4 : Blk ((X.alloc (.cells #[.int .i64 p, .int .i64 a, .int .i64 l, .int .i64 o, .slice x xs.length d, .int .i64 nx, .int .i64 md, .int .i64 lc] 38)).putObj (w4.heap.size + 1) (.loop rb)) X.heap.size 38 #[.int .i64 p, .int .i64 a, .int .i64 l, .int .i64 o, .slice x xs.length d, .int .i64 nx, .int .i64 md, .int .i64 lc] := (World.putObj_heap_other (by omega)).trans bR
    generalize (X.alloc (.cells #[.int .i64 p, .int .i64 a, .int .i64 l, .int .i64 o, .slice x xs.length d, .int .i64 nx, .int .i64 md, .int .i64 lc] 38)).putObj (w4.heap.size + 1) (.loop rb) = W5 at *
    clear bR aR j1a
    have hd4 := (tl.block w4.heap.size (by omega) (by omega)).trans j2
    have b5 := j3.turn tl (by omega)
    have bT4 := j5.turn tl (by omega)
    have row5 := row_turn7 j6 tl (fun k hk e => by have h1 := (row_rng7 j6 k hk).1; omega)
    have hp5 := hpR.turn8 tl (by omega) (by omega) (fun v hv y h1 h2 e => by have := HFR.out v hv y h1 h2; omega)
    have lt5 : w4.heap.size + 1 < W5.heap.size := (Array.getElem?_eq_some_iff.1 hl4).1
    have tx : Turn (fun k => k = w1.heap.size ∨ w4.heap.size ≤ k) X W5 := tl.mono (fun k _ e => .inr (by omega))
    have HPL : Hid (pre.length + 1 ≤ V4.length) := by
      have e := hperm.length_eq
      rw [List.length_append, List.length_cons] at e
      show _ ≤ _
      omega
    clear j1 j2 j3 j5 j6 hpR hxV hRV hUlen hxy tl j4 hperm j7 j8 hpw
    have hmx : Tryz.prog.follows .mixedOrders = true := by kernel_rfl
    have dd : New W5 W5.drew := (New.refl W5).drew
    gi_wp2_with fail
    refine wpIn_region_round (S := fun Y => New W5 Y) hmx ?hd ?hQ ?_
    case hd =>
      intro i o ho c
      rcases i with _ | _ | _ | _ | _ | _ | _ | _ | _ | _ | _ | _ | _ | _ | _ | i <;> simp at ho <;> subst ho <;> simp
    case hQ =>
      rintro ⟨_, _, hh⟩
      exact hh
    have hH := dd
    rcases Nat.eq_zero_or_pos U.length with h0 | h0
    · obtain rfl := List.eq_nil_of_length_eq_zero h0
      refine' hw_take 0 (some 17) _ rfl rfl (by kernel_rfl) (by kernel_rfl) (by kernel_rfl) (fun _ _ _ h => h) (by rfl) hH ?hy1 ?rest1
      case hy1 =>
        intro X hX
        have cTX := (bT4.new hX).cells
        go_simp
        try rfl
      simp only [Act.put, List.setIfInBounds_toArray, List.set_cons_zero, List.set_cons_succ]
      refine' hw_take 1 (some 18) _ rfl rfl (by kernel_rfl) (by kernel_rfl) (by kernel_rfl) (fun _ _ _ h => h) (by rfl) hH ?hy2 ?rest2
      case hy2 =>
        intro X hX
        go_simp
        try rfl
      simp only [Act.put, List.setIfInBounds_toArray, List.set_cons_zero, List.set_cons_succ]
      refine' hw_take 2 (some 19) _ rfl rfl (by kernel_rfl) (by kernel_rfl) (by kernel_rfl) (fun _ _ _ h => h) (by rfl) hH ?hy3 ?rest3
      case hy3 =>
        intro X hX
        go_simp
        try rfl
      simp only [Act.put, List.setIfInBounds_toArray, List.set_cons_zero, List.set_cons_succ]
      refine' hw_take 3 (some 20) _ rfl rfl (by kernel_rfl) (by kernel_rfl) (by kernel_rfl) (fun _ _ _ h => h) (by rfl) hH ?hy4 ?rest4
      case hy4 =>
        intro X hX
        go_simp
        try rfl
      simp only [Act.put, List.setIfInBounds_toArray, List.set_cons_zero, List.set_cons_succ]
      refine hw_skip 4 (some 21) rfl rfl (by kernel_rfl) (by kernel_rfl) (by kernel_rfl) (fun _ _ _ h => h) (by rfl) hH ?_
      simp only [Act.put, List.setIfInBounds_toArray, List.set_cons_zero, List.set_cons_succ]
      refine hw_skip 5 (some 22) rfl rfl (by kernel_rfl) (by kernel_rfl) (by kernel_rfl) (fun _ _ _ h => h) (by rfl) hH ?_
      simp only [Act.put, List.setIfInBounds_toArray, List.set_cons_zero, List.set_cons_succ]
      refine hw_skip 6 (some 23) rfl rfl (by kernel_rfl) (by kernel_rfl) (by kernel_rfl) (fun _ _ _ h => h) (by rfl) hH ?_
      simp only [Act.put, List.setIfInBounds_toArray, List.set_cons_zero, List.set_cons_succ]
      refine hw_skip 7 (some 24) rfl rfl (by kernel_rfl) (by kernel_rfl) (by kernel_rfl) (fun _ _ _ h => h) (by rfl) hH ?_
      simp only [Act.put, List.setIfInBounds_toArray, List.set_cons_zero, List.set_cons_succ]
      refine hw_skip 8 (some 25) rfl rfl (by kernel_rfl) (by kernel_rfl) (by kernel_rfl) (fun _ _ _ h => h) (by rfl) hH ?_
      simp only [Act.put, List.setIfInBounds_toArray, List.set_cons_zero, List.set_cons_succ]
      refine hw_skip 9 (some 26) rfl rfl (by kernel_rfl) (by kernel_rfl) (by kernel_rfl) (fun _ _ _ h => h) (by rfl) hH ?_
      simp only [Act.put, List.setIfInBounds_toArray, List.set_cons_zero, List.set_cons_succ]
      refine hw_skip 10 (some 27) rfl rfl (by kernel_rfl) (by kernel_rfl) (by kernel_rfl) (fun _ _ _ h => h) (by rfl) hH ?_
      simp only [Act.put, List.setIfInBounds_toArray, List.set_cons_zero, List.set_cons_succ]
      refine hw_skip 11 (some 28) rfl rfl (by kernel_rfl) (by kernel_rfl) (by kernel_rfl) (fun _ _ _ h => h) (by rfl) hH ?_
      simp only [Act.put, List.setIfInBounds_toArray, List.set_cons_zero, List.set_cons_succ]
      refine hw_skip 12 (some 29) rfl rfl (by kernel_rfl) (by kernel_rfl) (by kernel_rfl) (fun _ _ _ h => h) (by rfl) hH ?_
      simp only [Act.put, List.setIfInBounds_toArray, List.set_cons_zero, List.set_cons_succ]
      refine hw_skip 13 (some 30) rfl rfl (by kernel_rfl) (by kernel_rfl) (by kernel_rfl) (fun _ _ _ h => h) (by rfl) hH ?_
      simp only [Act.put, List.setIfInBounds_toArray, List.set_cons_zero, List.set_cons_succ]
      refine' hw_take 14 (some 31) _ rfl rfl (by kernel_rfl) (by kernel_rfl) (by kernel_rfl) (fun _ _ _ h => h) (by rfl) hH ?hy5 ?rest5
      case hy5 =>
        intro X hX
        go_simp
        try rfl
      simp only [Act.put, List.setIfInBounds_toArray, List.set_cons_zero, List.set_cons_succ]
      refine wpAnyH_done (by kernel_rfl) ?_ _
      have HTOP : Hid (TopOk (pre ++ [Rv.mk (Rt.mk p a l o xs nx md lc) x d]) ((([] : List Rv) ++ [Rv.mk (Rt.mk p a l o xs nx md lc) x d]).map Rv.r)) := by
        unfold Hid
        rw [List.map_append]
        exact HJ7.out.new HXY.out (by intro r hr; simp at hr)
      have hform : (AU = none ∧ cU = 0) ∨ ∃ g, AU = some ⟨g, 0, none⟩ := by
        rcases row_form7 row5 with ⟨e1, -⟩ | ⟨g, c2, e1, -⟩
        · simp only [Value.slice.injEq] at e1
          exact .inl ⟨e1.1, e1.2.2⟩
        · simp only [Value.slice.injEq] at e1
          exact .inr ⟨g, e1.1⟩
      rcases hform with ⟨rfl, rfl⟩ | ⟨g, rfl⟩
      · skip
        generalize W5.drew = W6 at *
        have row6 := row_turn7 row5 dd (fun _ _ f => f)
        have b6 := b5.new dd
        have bT6 := bT4.new dd
        have bR6 := bR4.new dd
        have hp6 := hp5.new dd
        have lt6 : W5.heap.size ≤ W6.heap.size := dd.size
        have hl6 := (dd.block _ lt5 (fun f => f)).trans hl4
        have hd6 := (dd.block _ (by omega) (fun f => f)).trans hd4
        have bL := Blk.mk W6 W6.heap.size 38 #[.int .i64 p, .int .i64 a, .int .i64 l, .int .i64 o, .slice x xs.length d, .int .i64 nx, .int .i64 md, .int .i64 lc] rfl
        have aL := (New.refl W6).alloc (.cells #[.int .i64 p, .int .i64 a, .int .i64 l, .int .i64 o, .slice x xs.length d, .int .i64 nx, .int .i64 md, .int .i64 lc] 38)
        have row7 := row_turn7 row6 aL (fun _ _ f => f)
        have hszA : W1.heap.size ≤ (W6.alloc (.cells #[.int .i64 p, .int .i64 a, .int .i64 l, .int .i64 o, .slice x xs.length d, .int .i64 nx, .int .i64 md, .int .i64 lc] 38)).heap.size := by have := aL.size; omega
        have hsrc : ∀ j, (W6.alloc (.cells #[.int .i64 p, .int .i64 a, .int .i64 l, .int .i64 o, .slice x xs.length d, .int .i64 nx, .int .i64 md, .int .i64 lc] 38)).cell? ⟨W6.heap.size, j, none⟩ = (Rv.mk (Rt.mk p a l o xs nx md lc) x d).cs[j]? := by
          intro j
          rw [bL.cells j]
          unfold Rv.cs
          simp
        have hle8 : ([] : List Rv).length + 1 ≤ 4194304 := by have e1 := HTOP.out.len; have e2 := HPL.out; have e3 := HV4L.out; simp only [List.length_map, List.length_append, List.length_singleton] at e1; omega
        have cT6 := bT6.cells
        have cR6 := bR6.cells
        have own7 : ∀ k, (Value.slice none ([] : List Rv).length 0).ownBlock = some k → W1.heap.size ≤ k := fun k hk => (row_rng7 row7 k hk).1
        gi_wp2_with (gi_at_builtin; refine wpListIn_apT8 _ rfl (.tmp 32) (.tmp 34) rfl W1.heap.size _ Tryz.underlying24 hi hz0 hz1 hz2 rfl _ [] rfl row7 W6.heap.size (Rv.mk (Rt.mk p a l o xs nx md lc) x d) rfl hsrc hle8 hszA ?_)
        intro v5 w5 hr5 hg5 _
        replace hr5 : w5.ownsRow W1.heap.size 38 8 v5 ([] ++ [Rv.mk (Rt.mk p a l o xs nx md lc) x d]).length (cellsT ([] ++ [Rv.mk (Rt.mk p a l o xs nx md lc) x d])) := by first | exact hr5 | (rw [hsz]; exact hr5) | (rw [List.length_append, hsz]; exact hr5) | (rw [hsz]; simpa using hr5)
        obtain ⟨g5, c5, rfl⟩ : ∃ g5 c5, v5 = (.slice (some ⟨g5, 0, none⟩) (1) c5) := by
          rcases row_form7 hr5 with ⟨-, e⟩ | ⟨g5, c5, e, -⟩
          · exact absurd e (by simp)
          · exact ⟨g5, c5, by rw [e]; simp⟩
        have tA := turn_of_grown8 hg5
        have ltA : W6.heap.size ≤ w5.heap.size := by have := aL.size; have := tA.size; omega
        have b8 := (b6.new aL).turn tA (fun e => by have := own7 _ e; omega)
        have bT8 := (bT6.new aL).turn tA (fun e => by have := own7 _ e; omega)
        have hl8 := (tA.block _ (by have := aL.size; omega) (fun e => by have := own7 _ e; omega)).trans ((aL.block _ (by omega) (fun f => f)).trans hl6)
        have hd8 := (tA.block _ (by have := aL.size; omega) (fun e => by have := own7 _ e; omega)).trans ((aL.block _ (by omega) (fun f => f)).trans hd6)
        have hp8 := (hp6.new aL).turn8 tA (fun e => by have := own7 _ e; omega) (fun e => by have := own7 _ e; omega) (fun v hv y h1 h2 e => by have := HFR.out v hv y h1 h2; have := own7 _ e; omega)
        have tY := Turn.trans (Turn.trans (Turn.trans tx dd.turn (fun _ _ e => e)) aL.turn (fun _ _ e => e)) tA (fun k _ e => .inr (by have := own7 _ e; omega))
        clear row7 hsrc own7 row6 row5 hg5
        have cT8 := bT8.cells
        have fT8 := bT8.frees
        gi_wp2
        have tS : Turn (fun k => k = w1.heap.size) w5 (w5.setCell ⟨w1.heap.size, 0, none⟩ (.slice (some ⟨g5, 0, none⟩) (1) c5)) := Turn.set (S := fun k => k = w1.heap.size) (Turn.refl (fun k => k = w1.heap.size) w5) rfl (.slice (some ⟨g5, 0, none⟩) (1) c5)
        have rng5 := row_rng7 hr5
        have hl9 := (tS.block _ (by omega) (by omega)).trans hl8
        have hfin := HFIN.out _ ([] ++ [Rv.mk (Rt.mk p a l o xs nx md lc) x d]) (.slice (some ⟨g5, 0, none⟩) (1) c5) hl9 ((tS.block _ (by omega) (by omega)).trans hd8) (b8.turn tS (by omega)) (Turn.trans tY tS (fun k _ e => .inl e)) (bT8.set 0 (.slice (some ⟨g5, 0, none⟩) (1) c5)) (row_turn7 hr5 tS (fun k hk e => by have := rng5 k hk; omega)) HTOP.out (fun v hv => (List.mem_append.1 hv).elim (fun hv => HJ8.out v hv) (fun hv => by obtain rfl := List.mem_singleton.1 hv; exact HX.out)) (by have e1 := HTOP.out.len; have e2 := HPL.out; simp only [List.length_map, List.length_append, List.length_singleton] at e1 ⊢; omega) (hp8.turn8 tS (fun e => HHX.out.1 e) (fun e => HHX.out.2 e) (fun v hv y h1 h2 e => by have := HFR.out v hv y h1 h2; omega))
        obtain ⟨⟨f1, f2, f3, f4, u9, U9, f5, f6, f7, f8, f9⟩, f10⟩ := hfin
        refine ⟨_, _, HEND.out _ hl9, rfl, ?_⟩
        exact ⟨⟨f1, f2, f3, f4, u9, f5, U9, (by first | exact f6 | (rw [← hsz]; exact f6)), f7, f8, f9⟩, f10⟩
      · skip
        generalize W5.drew = W6 at *
        have row6 := row_turn7 row5 dd (fun _ _ f => f)
        have b6 := b5.new dd
        have bT6 := bT4.new dd
        have bR6 := bR4.new dd
        have hp6 := hp5.new dd
        have lt6 : W5.heap.size ≤ W6.heap.size := dd.size
        have hl6 := (dd.block _ lt5 (fun f => f)).trans hl4
        have hd6 := (dd.block _ (by omega) (fun f => f)).trans hd4
        have bL := Blk.mk W6 W6.heap.size 38 #[.int .i64 p, .int .i64 a, .int .i64 l, .int .i64 o, .slice x xs.length d, .int .i64 nx, .int .i64 md, .int .i64 lc] rfl
        have aL := (New.refl W6).alloc (.cells #[.int .i64 p, .int .i64 a, .int .i64 l, .int .i64 o, .slice x xs.length d, .int .i64 nx, .int .i64 md, .int .i64 lc] 38)
        have row7 := row_turn7 row6 aL (fun _ _ f => f)
        have hszA : W1.heap.size ≤ (W6.alloc (.cells #[.int .i64 p, .int .i64 a, .int .i64 l, .int .i64 o, .slice x xs.length d, .int .i64 nx, .int .i64 md, .int .i64 lc] 38)).heap.size := by have := aL.size; omega
        have hsrc : ∀ j, (W6.alloc (.cells #[.int .i64 p, .int .i64 a, .int .i64 l, .int .i64 o, .slice x xs.length d, .int .i64 nx, .int .i64 md, .int .i64 lc] 38)).cell? ⟨W6.heap.size, j, none⟩ = (Rv.mk (Rt.mk p a l o xs nx md lc) x d).cs[j]? := by
          intro j
          rw [bL.cells j]
          unfold Rv.cs
          simp
        have hle8 : ([] : List Rv).length + 1 ≤ 4194304 := by have e1 := HTOP.out.len; have e2 := HPL.out; have e3 := HV4L.out; simp only [List.length_map, List.length_append, List.length_singleton] at e1; omega
        have cT6 := bT6.cells
        have cR6 := bR6.cells
        have own7 : ∀ k, (Value.slice (some ⟨g, 0, none⟩) ([] : List Rv).length cU).ownBlock = some k → W1.heap.size ≤ k := fun k hk => (row_rng7 row7 k hk).1
        gi_wp2_with (gi_at_builtin; refine wpListIn_apT8 _ rfl (.tmp 32) (.tmp 34) rfl W1.heap.size _ Tryz.underlying24 hi hz0 hz1 hz2 rfl _ [] rfl row7 W6.heap.size (Rv.mk (Rt.mk p a l o xs nx md lc) x d) rfl hsrc hle8 hszA ?_)
        intro v5 w5 hr5 hg5 _
        replace hr5 : w5.ownsRow W1.heap.size 38 8 v5 ([] ++ [Rv.mk (Rt.mk p a l o xs nx md lc) x d]).length (cellsT ([] ++ [Rv.mk (Rt.mk p a l o xs nx md lc) x d])) := by first | exact hr5 | (rw [hsz]; exact hr5) | (rw [List.length_append, hsz]; exact hr5) | (rw [hsz]; simpa using hr5)
        obtain ⟨g5, c5, rfl⟩ : ∃ g5 c5, v5 = (.slice (some ⟨g5, 0, none⟩) (1) c5) := by
          rcases row_form7 hr5 with ⟨-, e⟩ | ⟨g5, c5, e, -⟩
          · exact absurd e (by simp)
          · exact ⟨g5, c5, by rw [e]; simp⟩
        have tA := turn_of_grown8 hg5
        have ltA : W6.heap.size ≤ w5.heap.size := by have := aL.size; have := tA.size; omega
        have b8 := (b6.new aL).turn tA (fun e => by have := own7 _ e; omega)
        have bT8 := (bT6.new aL).turn tA (fun e => by have := own7 _ e; omega)
        have hl8 := (tA.block _ (by have := aL.size; omega) (fun e => by have := own7 _ e; omega)).trans ((aL.block _ (by omega) (fun f => f)).trans hl6)
        have hd8 := (tA.block _ (by have := aL.size; omega) (fun e => by have := own7 _ e; omega)).trans ((aL.block _ (by omega) (fun f => f)).trans hd6)
        have hp8 := (hp6.new aL).turn8 tA (fun e => by have := own7 _ e; omega) (fun e => by have := own7 _ e; omega) (fun v hv y h1 h2 e => by have := HFR.out v hv y h1 h2; have := own7 _ e; omega)
        have tY := Turn.trans (Turn.trans (Turn.trans tx dd.turn (fun _ _ e => e)) aL.turn (fun _ _ e => e)) tA (fun k _ e => .inr (by have := own7 _ e; omega))
        clear row7 hsrc own7 row6 row5 hg5
        have cT8 := bT8.cells
        have fT8 := bT8.frees
        gi_wp2
        have tS : Turn (fun k => k = w1.heap.size) w5 (w5.setCell ⟨w1.heap.size, 0, none⟩ (.slice (some ⟨g5, 0, none⟩) (1) c5)) := Turn.set (S := fun k => k = w1.heap.size) (Turn.refl (fun k => k = w1.heap.size) w5) rfl (.slice (some ⟨g5, 0, none⟩) (1) c5)
        have rng5 := row_rng7 hr5
        have hl9 := (tS.block _ (by omega) (by omega)).trans hl8
        have hfin := HFIN.out _ ([] ++ [Rv.mk (Rt.mk p a l o xs nx md lc) x d]) (.slice (some ⟨g5, 0, none⟩) (1) c5) hl9 ((tS.block _ (by omega) (by omega)).trans hd8) (b8.turn tS (by omega)) (Turn.trans tY tS (fun k _ e => .inl e)) (bT8.set 0 (.slice (some ⟨g5, 0, none⟩) (1) c5)) (row_turn7 hr5 tS (fun k hk e => by have := rng5 k hk; omega)) HTOP.out (fun v hv => (List.mem_append.1 hv).elim (fun hv => HJ8.out v hv) (fun hv => by obtain rfl := List.mem_singleton.1 hv; exact HX.out)) (by have e1 := HTOP.out.len; have e2 := HPL.out; simp only [List.length_map, List.length_append, List.length_singleton] at e1 ⊢; omega) (hp8.turn8 tS (fun e => HHX.out.1 e) (fun e => HHX.out.2 e) (fun v hv y h1 h2 e => by have := HFR.out v hv y h1 h2; omega))
        obtain ⟨⟨f1, f2, f3, f4, u9, U9, f5, f6, f7, f8, f9⟩, f10⟩ := hfin
        refine ⟨_, _, HEND.out _ hl9, rfl, ?_⟩
        exact ⟨⟨f1, f2, f3, f4, u9, f5, U9, (by first | exact f6 | (rw [← hsz]; exact f6)), f7, f8, f9⟩, f10⟩
    · obtain ⟨g, c2, hAU, hgl, hgr, hog⟩ : ∃ g c2, Value.slice AU U.length cU = .slice (some ⟨g, 0, none⟩) U.length c2 ∧ W1.heap.size ≤ g ∧ g < W5.heap.size ∧ OwRow W5 g U.length c2 U := by
        rcases row_form7 row5 with ⟨e1, e2⟩ | h
        · subst e2
          exact absurd h0 (by simp)
        · exact h
      simp only [Value.slice.injEq, true_and] at hAU
      obtain ⟨rfl, rfl⟩ := hAU
      obtain ⟨v', hv'⟩ : ∃ v', U[U.length - 1]? = some v' := ⟨_, List.getElem?_eq_getElem (by omega)⟩
      have HLAST : Hid (U.getLast? = some v') := by
        unfold Hid
        rw [List.getLast?_eq_getElem?]
        exact hv'
      have y1 : W5.cell? ⟨g, (U.length - 1) * 8 + 1, none⟩ = some (.int .i64 v'.r.a) := by
        rw [World.ownsRow.cellAt hog _ (by omega)]
        exact cellsT_get U _ v' hv' 1 (by omega)
      have y2 : W5.cell? ⟨g, (U.length - 1) * 8 + 2, none⟩ = some (.int .i64 v'.r.l) := by
        rw [World.ownsRow.cellAt hog _ (by omega)]
        exact cellsT_get U _ v' hv' 2 (by omega)
      have hj0 : (0 : Int) ≤ ((U.length - 1 : Nat) : Int) := by omega
      have hj1 : ((U.length - 1 : Nat) : Int) < (U.length : Int) := by omega
      have hul : U.length ≤ 1048576 := by have e1 := HJ7.out.len; have e2 := HPL.out; have e3 := HV4L.out; simp only [List.length_map] at e1; omega
      have hwk : IntKind.i64.wrap ((U.length : Int) - 1) = ((U.length - 1 : Nat) : Int) := by rw [IntKind.wrap_i64]; omega
      have hnz : ((U.length : Int) == 0) = false := by simp; intro e; subst e; simp at h0
      obtain ⟨⟨p', a', l', o', xs', nx', md', lc'⟩, x', d'⟩ := v'
      dsimp only at y1 y2
      by_cases ha : a = a'
      case neg =>
        have HTOP : Hid (TopOk (pre ++ [Rv.mk (Rt.mk p a l o xs nx md lc) x d]) ((U ++ [Rv.mk (Rt.mk p a l o xs nx md lc) x d]).map Rv.r)) := by
          unfold Hid
          rw [List.map_append]
          refine HJ7.out.new HXY.out (fun r hr e => ?_)
          rw [List.getLast?_map, HLAST.out] at hr
          obtain rfl := Option.some.inj hr
          exact ha e.1
        clear hog hv'
        refine' hw_take 0 (some 17) _ rfl rfl (by kernel_rfl) (by kernel_rfl) (by kernel_rfl) (fun _ _ _ h => h) (by rfl) hH ?hy6 ?rest6
        case hy6 =>
          intro X hX
          have cTX := (bT4.new hX).cells
          go_simp
          try rfl
        simp only [Act.put, List.setIfInBounds_toArray, List.set_cons_zero, List.set_cons_succ]
        refine' hw_take 1 (some 18) _ rfl rfl (by kernel_rfl) (by kernel_rfl) (by kernel_rfl) (fun _ _ _ h => h) (by rfl) hH ?hy7 ?rest7
        case hy7 =>
          intro X hX
          go_simp
          try rfl
        simp only [Act.put, List.setIfInBounds_toArray, List.set_cons_zero, List.set_cons_succ]
        refine' hw_take 2 (some 19) _ rfl rfl (by kernel_rfl) (by kernel_rfl) (by kernel_rfl) (fun _ _ _ h => h) (by rfl) hH ?hy8 ?rest8
        case hy8 =>
          intro X hX
          go_simp
          try rfl
        simp only [Act.put, List.setIfInBounds_toArray, List.set_cons_zero, List.set_cons_succ]
        refine' hw_take 3 (some 20) _ rfl rfl (by kernel_rfl) (by kernel_rfl) (by kernel_rfl) (fun _ _ _ h => h) (by rfl) hH ?hy9 ?rest9
        case hy9 =>
          intro X hX
          go_simp
          try rfl
        simp only [Act.put, List.setIfInBounds_toArray, List.set_cons_zero, List.set_cons_succ]
        refine' hw_take 4 (some 21) _ rfl rfl (by kernel_rfl) (by kernel_rfl) (by kernel_rfl) (fun _ _ _ h => h) (by rfl) hH ?hy10 ?rest10
        case hy10 =>
          intro X hX
          go_simp
          try rfl
        simp only [Act.put, List.setIfInBounds_toArray, List.set_cons_zero, List.set_cons_succ]
        refine' hw_take 5 (some 22) _ rfl rfl (by kernel_rfl) (by kernel_rfl) (by kernel_rfl) (fun _ _ _ h => h) (by rfl) hH ?hy11 ?rest11
        case hy11 =>
          intro X hX
          have cRX := (bR4.new hX).cells
          go_simp
          try rfl
        simp only [Act.put, List.setIfInBounds_toArray, List.set_cons_zero, List.set_cons_succ]
        refine' hw_take 6 (some 23) _ rfl rfl (by kernel_rfl) (by kernel_rfl) (by kernel_rfl) (fun _ _ _ h => h) (by rfl) hH ?hy12 ?rest12
        case hy12 =>
          intro X hX
          have cTX := (bT4.new hX).cells
          go_simp
          try rfl
        simp only [Act.put, List.setIfInBounds_toArray, List.set_cons_zero, List.set_cons_succ]
        refine' hw_take 7 (some 24) _ rfl rfl (by kernel_rfl) (by kernel_rfl) (by kernel_rfl) (fun _ _ _ h => h) (by rfl) hH ?hy13 ?rest13
        case hy13 =>
          intro X hX
          have cTX := (bT4.new hX).cells
          go_simp
          try rfl
        simp only [Act.put, List.setIfInBounds_toArray, List.set_cons_zero, List.set_cons_succ]
        refine' hw_take 8 (some 25) _ rfl rfl (by kernel_rfl) (by kernel_rfl) (by kernel_rfl) (fun _ _ _ h => h) (by rfl) hH ?hy14 ?rest14
        case hy14 =>
          intro X hX
          go_simp
          try rfl
        simp only [Act.put, List.setIfInBounds_toArray, List.set_cons_zero, List.set_cons_succ]
        refine' hw_take 9 (some 26) _ rfl rfl (by kernel_rfl) (by kernel_rfl) (by kernel_rfl) (fun _ _ _ h => h) (by rfl) hH ?hy15 ?rest15
        case hy15 =>
          intro X hX
          go_simp
          try rfl
        simp only [Act.put, List.setIfInBounds_toArray, List.set_cons_zero, List.set_cons_succ]
        refine' hw_take 10 (some 27) _ rfl rfl (by kernel_rfl) (by kernel_rfl) (by kernel_rfl) (fun _ _ _ h => h) (by rfl) hH ?hy16 ?rest16
        case hy16 =>
          intro X hX
          go_simp
          try rfl
        simp only [Act.put, List.setIfInBounds_toArray, List.set_cons_zero, List.set_cons_succ]
        refine' hw_take 11 (some 28) _ rfl rfl (by kernel_rfl) (by kernel_rfl) (by kernel_rfl) (fun _ _ _ h => h) (by rfl) hH ?hy17 ?rest17
        case hy17 =>
          intro X hX
          go_simp
          try rfl
        simp only [Act.put, List.setIfInBounds_toArray, List.set_cons_zero, List.set_cons_succ]
        refine' hw_take 12 (some 29) _ rfl rfl (by kernel_rfl) (by kernel_rfl) (by kernel_rfl) (fun _ _ _ h => h) (by rfl) hH ?hy18 ?rest18
        case hy18 =>
          intro X hX
          have y1X := (hX.below.cell (World.block_lt_of_cell? _ _ y1)).trans y1
          have y2X := (hX.below.cell (World.block_lt_of_cell? _ _ y2)).trans y2
          go_simp
          try rfl
        simp only [Act.put, List.setIfInBounds_toArray, List.set_cons_zero, List.set_cons_succ]
        refine' hw_take 13 (some 30) _ rfl rfl (by kernel_rfl) (by kernel_rfl) (by kernel_rfl) (fun _ _ _ h => h) (by rfl) hH ?hy19 ?rest19
        case hy19 =>
          intro X hX
          go_simp
          try rfl
        simp only [Act.put, List.setIfInBounds_toArray, List.set_cons_zero, List.set_cons_succ]
        refine' hw_take 14 (some 31) _ rfl rfl (by kernel_rfl) (by kernel_rfl) (by kernel_rfl) (fun _ _ _ h => h) (by rfl) hH ?hy20 ?rest20
        case hy20 =>
          intro X hX
          go_simp
          try rfl
        simp only [Act.put, List.setIfInBounds_toArray, List.set_cons_zero, List.set_cons_succ]
        refine wpAnyH_done (by kernel_rfl) ?_ _
        generalize W5.drew = W6 at *
        have row6 := row_turn7 row5 dd (fun _ _ f => f)
        have b6 := b5.new dd
        have bT6 := bT4.new dd
        have bR6 := bR4.new dd
        have hp6 := hp5.new dd
        have lt6 : W5.heap.size ≤ W6.heap.size := dd.size
        have hl6 := (dd.block _ lt5 (fun f => f)).trans hl4
        have hd6 := (dd.block _ (by omega) (fun f => f)).trans hd4
        have bL := Blk.mk W6 W6.heap.size 38 #[.int .i64 p, .int .i64 a, .int .i64 l, .int .i64 o, .slice x xs.length d, .int .i64 nx, .int .i64 md, .int .i64 lc] rfl
        have aL := (New.refl W6).alloc (.cells #[.int .i64 p, .int .i64 a, .int .i64 l, .int .i64 o, .slice x xs.length d, .int .i64 nx, .int .i64 md, .int .i64 lc] 38)
        have row7 := row_turn7 row6 aL (fun _ _ f => f)
        have hszA : W1.heap.size ≤ (W6.alloc (.cells #[.int .i64 p, .int .i64 a, .int .i64 l, .int .i64 o, .slice x xs.length d, .int .i64 nx, .int .i64 md, .int .i64 lc] 38)).heap.size := by have := aL.size; omega
        have hsrc : ∀ j, (W6.alloc (.cells #[.int .i64 p, .int .i64 a, .int .i64 l, .int .i64 o, .slice x xs.length d, .int .i64 nx, .int .i64 md, .int .i64 lc] 38)).cell? ⟨W6.heap.size, j, none⟩ = (Rv.mk (Rt.mk p a l o xs nx md lc) x d).cs[j]? := by
          intro j
          rw [bL.cells j]
          unfold Rv.cs
          simp
        have hle8 : (U : List Rv).length + 1 ≤ 4194304 := by have e1 := HTOP.out.len; have e2 := HPL.out; have e3 := HV4L.out; simp only [List.length_map, List.length_append, List.length_singleton] at e1; omega
        have cT6 := bT6.cells
        have cR6 := bR6.cells
        have own7 : ∀ k, (Value.slice (some ⟨g, 0, none⟩) (U : List Rv).length cU).ownBlock = some k → W1.heap.size ≤ k := fun k hk => (row_rng7 row7 k hk).1
        gi_wp2_with (gi_at_builtin; refine wpListIn_apT8 _ rfl (.tmp 32) (.tmp 34) rfl W1.heap.size _ Tryz.underlying24 hi hz0 hz1 hz2 rfl _ U rfl row7 W6.heap.size (Rv.mk (Rt.mk p a l o xs nx md lc) x d) rfl hsrc hle8 hszA ?_)
        intro v5 w5 hr5 hg5 _
        replace hr5 : w5.ownsRow W1.heap.size 38 8 v5 (U ++ [Rv.mk (Rt.mk p a l o xs nx md lc) x d]).length (cellsT (U ++ [Rv.mk (Rt.mk p a l o xs nx md lc) x d])) := by first | exact hr5 | (rw [hsz]; exact hr5) | (rw [List.length_append, hsz]; exact hr5) | (rw [hsz]; simpa using hr5)
        obtain ⟨g5, c5, rfl⟩ : ∃ g5 c5, v5 = (.slice (some ⟨g5, 0, none⟩) (U.length + 1) c5) := by
          rcases row_form7 hr5 with ⟨-, e⟩ | ⟨g5, c5, e, -⟩
          · exact absurd e (by simp)
          · exact ⟨g5, c5, by rw [e]; simp⟩
        have tA := turn_of_grown8 hg5
        have ltA : W6.heap.size ≤ w5.heap.size := by have := aL.size; have := tA.size; omega
        have b8 := (b6.new aL).turn tA (fun e => by have := own7 _ e; omega)
        have bT8 := (bT6.new aL).turn tA (fun e => by have := own7 _ e; omega)
        have hl8 := (tA.block _ (by have := aL.size; omega) (fun e => by have := own7 _ e; omega)).trans ((aL.block _ (by omega) (fun f => f)).trans hl6)
        have hd8 := (tA.block _ (by have := aL.size; omega) (fun e => by have := own7 _ e; omega)).trans ((aL.block _ (by omega) (fun f => f)).trans hd6)
        have hp8 := (hp6.new aL).turn8 tA (fun e => by have := own7 _ e; omega) (fun e => by have := own7 _ e; omega) (fun v hv y h1 h2 e => by have := HFR.out v hv y h1 h2; have := own7 _ e; omega)
        have tY := Turn.trans (Turn.trans (Turn.trans tx dd.turn (fun _ _ e => e)) aL.turn (fun _ _ e => e)) tA (fun k _ e => .inr (by have := own7 _ e; omega))
        clear row7 hsrc own7 row6 row5 hg5
        have cT8 := bT8.cells
        have fT8 := bT8.frees
        gi_wp2
        have tS : Turn (fun k => k = w1.heap.size) w5 (w5.setCell ⟨w1.heap.size, 0, none⟩ (.slice (some ⟨g5, 0, none⟩) (U.length + 1) c5)) := Turn.set (S := fun k => k = w1.heap.size) (Turn.refl (fun k => k = w1.heap.size) w5) rfl (.slice (some ⟨g5, 0, none⟩) (U.length + 1) c5)
        have rng5 := row_rng7 hr5
        have hl9 := (tS.block _ (by omega) (by omega)).trans hl8
        have hfin := HFIN.out _ (U ++ [Rv.mk (Rt.mk p a l o xs nx md lc) x d]) (.slice (some ⟨g5, 0, none⟩) (U.length + 1) c5) hl9 ((tS.block _ (by omega) (by omega)).trans hd8) (b8.turn tS (by omega)) (Turn.trans tY tS (fun k _ e => .inl e)) (bT8.set 0 (.slice (some ⟨g5, 0, none⟩) (U.length + 1) c5)) (row_turn7 hr5 tS (fun k hk e => by have := rng5 k hk; omega)) HTOP.out (fun v hv => (List.mem_append.1 hv).elim (fun hv => HJ8.out v hv) (fun hv => by obtain rfl := List.mem_singleton.1 hv; exact HX.out)) (by have e1 := HTOP.out.len; have e2 := HPL.out; simp only [List.length_map, List.length_append, List.length_singleton] at e1 ⊢; omega) (hp8.turn8 tS (fun e => HHX.out.1 e) (fun e => HHX.out.2 e) (fun v hv y h1 h2 e => by have := HFR.out v hv y h1 h2; omega))
        obtain ⟨⟨f1, f2, f3, f4, u9, U9, f5, f6, f7, f8, f9⟩, f10⟩ := hfin
        refine ⟨_, _, HEND.out _ hl9, rfl, ?_⟩
        exact ⟨⟨f1, f2, f3, f4, u9, f5, U9, (by first | exact f6 | (rw [← hsz]; exact f6)), f7, f8, f9⟩, f10⟩
      case pos =>
        subst ha
        by_cases hl : l = l'
        case neg =>
          have HTOP : Hid (TopOk (pre ++ [Rv.mk (Rt.mk p a l o xs nx md lc) x d]) ((U ++ [Rv.mk (Rt.mk p a l o xs nx md lc) x d]).map Rv.r)) := by
            unfold Hid
            rw [List.map_append]
            refine HJ7.out.new HXY.out (fun r hr e => ?_)
            rw [List.getLast?_map, HLAST.out] at hr
            obtain rfl := Option.some.inj hr
            exact hl e.2
          clear hog hv'
          refine' hw_take 0 (some 17) _ rfl rfl (by kernel_rfl) (by kernel_rfl) (by kernel_rfl) (fun _ _ _ h => h) (by rfl) hH ?hy21 ?rest21
          case hy21 =>
            intro X hX
            have cTX := (bT4.new hX).cells
            go_simp
            try rfl
          simp only [Act.put, List.setIfInBounds_toArray, List.set_cons_zero, List.set_cons_succ]
          refine' hw_take 1 (some 18) _ rfl rfl (by kernel_rfl) (by kernel_rfl) (by kernel_rfl) (fun _ _ _ h => h) (by rfl) hH ?hy22 ?rest22
          case hy22 =>
            intro X hX
            go_simp
            try rfl
          simp only [Act.put, List.setIfInBounds_toArray, List.set_cons_zero, List.set_cons_succ]
          refine' hw_take 2 (some 19) _ rfl rfl (by kernel_rfl) (by kernel_rfl) (by kernel_rfl) (fun _ _ _ h => h) (by rfl) hH ?hy23 ?rest23
          case hy23 =>
            intro X hX
            go_simp
            try rfl
          simp only [Act.put, List.setIfInBounds_toArray, List.set_cons_zero, List.set_cons_succ]
          refine' hw_take 3 (some 20) _ rfl rfl (by kernel_rfl) (by kernel_rfl) (by kernel_rfl) (fun _ _ _ h => h) (by rfl) hH ?hy24 ?rest24
          case hy24 =>
            intro X hX
            go_simp
            try rfl
          simp only [Act.put, List.setIfInBounds_toArray, List.set_cons_zero, List.set_cons_succ]
          refine' hw_take 4 (some 21) _ rfl rfl (by kernel_rfl) (by kernel_rfl) (by kernel_rfl) (fun _ _ _ h => h) (by rfl) hH ?hy25 ?rest25
          case hy25 =>
            intro X hX
            go_simp
            try rfl
          simp only [Act.put, List.setIfInBounds_toArray, List.set_cons_zero, List.set_cons_succ]
          refine' hw_take 5 (some 22) _ rfl rfl (by kernel_rfl) (by kernel_rfl) (by kernel_rfl) (fun _ _ _ h => h) (by rfl) hH ?hy26 ?rest26
          case hy26 =>
            intro X hX
            have cRX := (bR4.new hX).cells
            go_simp
            try rfl
          simp only [Act.put, List.setIfInBounds_toArray, List.set_cons_zero, List.set_cons_succ]
          refine' hw_take 6 (some 23) _ rfl rfl (by kernel_rfl) (by kernel_rfl) (by kernel_rfl) (fun _ _ _ h => h) (by rfl) hH ?hy27 ?rest27
          case hy27 =>
            intro X hX
            have cTX := (bT4.new hX).cells
            go_simp
            try rfl
          simp only [Act.put, List.setIfInBounds_toArray, List.set_cons_zero, List.set_cons_succ]
          refine' hw_take 7 (some 24) _ rfl rfl (by kernel_rfl) (by kernel_rfl) (by kernel_rfl) (fun _ _ _ h => h) (by rfl) hH ?hy28 ?rest28
          case hy28 =>
            intro X hX
            have cTX := (bT4.new hX).cells
            go_simp
            try rfl
          simp only [Act.put, List.setIfInBounds_toArray, List.set_cons_zero, List.set_cons_succ]
          refine' hw_take 8 (some 25) _ rfl rfl (by kernel_rfl) (by kernel_rfl) (by kernel_rfl) (fun _ _ _ h => h) (by rfl) hH ?hy29 ?rest29
          case hy29 =>
            intro X hX
            go_simp
            try rfl
          simp only [Act.put, List.setIfInBounds_toArray, List.set_cons_zero, List.set_cons_succ]
          refine' hw_take 9 (some 26) _ rfl rfl (by kernel_rfl) (by kernel_rfl) (by kernel_rfl) (fun _ _ _ h => h) (by rfl) hH ?hy30 ?rest30
          case hy30 =>
            intro X hX
            go_simp
            try rfl
          simp only [Act.put, List.setIfInBounds_toArray, List.set_cons_zero, List.set_cons_succ]
          refine' hw_take 10 (some 27) _ rfl rfl (by kernel_rfl) (by kernel_rfl) (by kernel_rfl) (fun _ _ _ h => h) (by rfl) hH ?hy31 ?rest31
          case hy31 =>
            intro X hX
            go_simp
            try rfl
          simp only [Act.put, List.setIfInBounds_toArray, List.set_cons_zero, List.set_cons_succ]
          refine' hw_take 11 (some 28) _ rfl rfl (by kernel_rfl) (by kernel_rfl) (by kernel_rfl) (fun _ _ _ h => h) (by rfl) hH ?hy32 ?rest32
          case hy32 =>
            intro X hX
            go_simp
            try rfl
          simp only [Act.put, List.setIfInBounds_toArray, List.set_cons_zero, List.set_cons_succ]
          refine' hw_take 12 (some 29) _ rfl rfl (by kernel_rfl) (by kernel_rfl) (by kernel_rfl) (fun _ _ _ h => h) (by rfl) hH ?hy33 ?rest33
          case hy33 =>
            intro X hX
            have y1X := (hX.below.cell (World.block_lt_of_cell? _ _ y1)).trans y1
            have y2X := (hX.below.cell (World.block_lt_of_cell? _ _ y2)).trans y2
            go_simp
            try rfl
          simp only [Act.put, List.setIfInBounds_toArray, List.set_cons_zero, List.set_cons_succ]
          refine' hw_take 13 (some 30) _ rfl rfl (by kernel_rfl) (by kernel_rfl) (by kernel_rfl) (fun _ _ _ h => h) (by rfl) hH ?hy34 ?rest34
          case hy34 =>
            intro X hX
            go_simp
            try rfl
          simp only [Act.put, List.setIfInBounds_toArray, List.set_cons_zero, List.set_cons_succ]
          refine' hw_take 14 (some 31) _ rfl rfl (by kernel_rfl) (by kernel_rfl) (by kernel_rfl) (fun _ _ _ h => h) (by rfl) hH ?hy35 ?rest35
          case hy35 =>
            intro X hX
            go_simp
            try rfl
          simp only [Act.put, List.setIfInBounds_toArray, List.set_cons_zero, List.set_cons_succ]
          refine wpAnyH_done (by kernel_rfl) ?_ _
          generalize W5.drew = W6 at *
          have row6 := row_turn7 row5 dd (fun _ _ f => f)
          have b6 := b5.new dd
          have bT6 := bT4.new dd
          have bR6 := bR4.new dd
          have hp6 := hp5.new dd
          have lt6 : W5.heap.size ≤ W6.heap.size := dd.size
          have hl6 := (dd.block _ lt5 (fun f => f)).trans hl4
          have hd6 := (dd.block _ (by omega) (fun f => f)).trans hd4
          have bL := Blk.mk W6 W6.heap.size 38 #[.int .i64 p, .int .i64 a, .int .i64 l, .int .i64 o, .slice x xs.length d, .int .i64 nx, .int .i64 md, .int .i64 lc] rfl
          have aL := (New.refl W6).alloc (.cells #[.int .i64 p, .int .i64 a, .int .i64 l, .int .i64 o, .slice x xs.length d, .int .i64 nx, .int .i64 md, .int .i64 lc] 38)
          have row7 := row_turn7 row6 aL (fun _ _ f => f)
          have hszA : W1.heap.size ≤ (W6.alloc (.cells #[.int .i64 p, .int .i64 a, .int .i64 l, .int .i64 o, .slice x xs.length d, .int .i64 nx, .int .i64 md, .int .i64 lc] 38)).heap.size := by have := aL.size; omega
          have hsrc : ∀ j, (W6.alloc (.cells #[.int .i64 p, .int .i64 a, .int .i64 l, .int .i64 o, .slice x xs.length d, .int .i64 nx, .int .i64 md, .int .i64 lc] 38)).cell? ⟨W6.heap.size, j, none⟩ = (Rv.mk (Rt.mk p a l o xs nx md lc) x d).cs[j]? := by
            intro j
            rw [bL.cells j]
            unfold Rv.cs
            simp
          have hle8 : (U : List Rv).length + 1 ≤ 4194304 := by have e1 := HTOP.out.len; have e2 := HPL.out; have e3 := HV4L.out; simp only [List.length_map, List.length_append, List.length_singleton] at e1; omega
          have cT6 := bT6.cells
          have cR6 := bR6.cells
          have own7 : ∀ k, (Value.slice (some ⟨g, 0, none⟩) (U : List Rv).length cU).ownBlock = some k → W1.heap.size ≤ k := fun k hk => (row_rng7 row7 k hk).1
          gi_wp2_with (gi_at_builtin; refine wpListIn_apT8 _ rfl (.tmp 32) (.tmp 34) rfl W1.heap.size _ Tryz.underlying24 hi hz0 hz1 hz2 rfl _ U rfl row7 W6.heap.size (Rv.mk (Rt.mk p a l o xs nx md lc) x d) rfl hsrc hle8 hszA ?_)
          intro v5 w5 hr5 hg5 _
          replace hr5 : w5.ownsRow W1.heap.size 38 8 v5 (U ++ [Rv.mk (Rt.mk p a l o xs nx md lc) x d]).length (cellsT (U ++ [Rv.mk (Rt.mk p a l o xs nx md lc) x d])) := by first | exact hr5 | (rw [hsz]; exact hr5) | (rw [List.length_append, hsz]; exact hr5) | (rw [hsz]; simpa using hr5)
          obtain ⟨g5, c5, rfl⟩ : ∃ g5 c5, v5 = (.slice (some ⟨g5, 0, none⟩) (U.length + 1) c5) := by
            rcases row_form7 hr5 with ⟨-, e⟩ | ⟨g5, c5, e, -⟩
            · exact absurd e (by simp)
            · exact ⟨g5, c5, by rw [e]; simp⟩
          have tA := turn_of_grown8 hg5
          have ltA : W6.heap.size ≤ w5.heap.size := by have := aL.size; have := tA.size; omega
          have b8 := (b6.new aL).turn tA (fun e => by have := own7 _ e; omega)
          have bT8 := (bT6.new aL).turn tA (fun e => by have := own7 _ e; omega)
          have hl8 := (tA.block _ (by have := aL.size; omega) (fun e => by have := own7 _ e; omega)).trans ((aL.block _ (by omega) (fun f => f)).trans hl6)
          have hd8 := (tA.block _ (by have := aL.size; omega) (fun e => by have := own7 _ e; omega)).trans ((aL.block _ (by omega) (fun f => f)).trans hd6)
          have hp8 := (hp6.new aL).turn8 tA (fun e => by have := own7 _ e; omega) (fun e => by have := own7 _ e; omega) (fun v hv y h1 h2 e => by have := HFR.out v hv y h1 h2; have := own7 _ e; omega)
          have tY := Turn.trans (Turn.trans (Turn.trans tx dd.turn (fun _ _ e => e)) aL.turn (fun _ _ e => e)) tA (fun k _ e => .inr (by have := own7 _ e; omega))
          clear row7 hsrc own7 row6 row5 hg5
          have cT8 := bT8.cells
          have fT8 := bT8.frees
          gi_wp2
          have tS : Turn (fun k => k = w1.heap.size) w5 (w5.setCell ⟨w1.heap.size, 0, none⟩ (.slice (some ⟨g5, 0, none⟩) (U.length + 1) c5)) := Turn.set (S := fun k => k = w1.heap.size) (Turn.refl (fun k => k = w1.heap.size) w5) rfl (.slice (some ⟨g5, 0, none⟩) (U.length + 1) c5)
          have rng5 := row_rng7 hr5
          have hl9 := (tS.block _ (by omega) (by omega)).trans hl8
          have hfin := HFIN.out _ (U ++ [Rv.mk (Rt.mk p a l o xs nx md lc) x d]) (.slice (some ⟨g5, 0, none⟩) (U.length + 1) c5) hl9 ((tS.block _ (by omega) (by omega)).trans hd8) (b8.turn tS (by omega)) (Turn.trans tY tS (fun k _ e => .inl e)) (bT8.set 0 (.slice (some ⟨g5, 0, none⟩) (U.length + 1) c5)) (row_turn7 hr5 tS (fun k hk e => by have := rng5 k hk; omega)) HTOP.out (fun v hv => (List.mem_append.1 hv).elim (fun hv => HJ8.out v hv) (fun hv => by obtain rfl := List.mem_singleton.1 hv; exact HX.out)) (by have e1 := HTOP.out.len; have e2 := HPL.out; simp only [List.length_map, List.length_append, List.length_singleton] at e1 ⊢; omega) (hp8.turn8 tS (fun e => HHX.out.1 e) (fun e => HHX.out.2 e) (fun v hv y h1 h2 e => by have := HFR.out v hv y h1 h2; omega))
          obtain ⟨⟨f1, f2, f3, f4, u9, U9, f5, f6, f7, f8, f9⟩, f10⟩ := hfin
          refine ⟨_, _, HEND.out _ hl9, rfl, ?_⟩
          exact ⟨⟨f1, f2, f3, f4, u9, f5, U9, (by first | exact f6 | (rw [← hsz]; exact f6)), f7, f8, f9⟩, f10⟩
        case pos =>
          subst hl
          have HSM : Hid (TopOk (pre ++ [Rv.mk (Rt.mk p a l o xs nx md lc) x d]) (U.map Rv.r)) := HJ7.out.same (r := ⟨p', a, l, o', xs', nx', md', lc'⟩) HXY.out (by rw [List.getLast?_map, HLAST.out]; rfl) rfl rfl
          clear hog hv'
          refine' hw_take 0 (some 17) _ rfl rfl (by kernel_rfl) (by kernel_rfl) (by kernel_rfl) (fun _ _ _ h => h) (by rfl) hH ?hy36 ?rest36
          case hy36 =>
            intro X hX
            have cTX := (bT4.new hX).cells
            go_simp
            try rfl
          simp only [Act.put, List.setIfInBounds_toArray, List.set_cons_zero, List.set_cons_succ]
          refine' hw_take 1 (some 18) _ rfl rfl (by kernel_rfl) (by kernel_rfl) (by kernel_rfl) (fun _ _ _ h => h) (by rfl) hH ?hy37 ?rest37
          case hy37 =>
            intro X hX
            go_simp
            try rfl
          simp only [Act.put, List.setIfInBounds_toArray, List.set_cons_zero, List.set_cons_succ]
          refine' hw_take 2 (some 19) _ rfl rfl (by kernel_rfl) (by kernel_rfl) (by kernel_rfl) (fun _ _ _ h => h) (by rfl) hH ?hy38 ?rest38
          case hy38 =>
            intro X hX
            go_simp
            try rfl
          simp only [Act.put, List.setIfInBounds_toArray, List.set_cons_zero, List.set_cons_succ]
          refine' hw_take 3 (some 20) _ rfl rfl (by kernel_rfl) (by kernel_rfl) (by kernel_rfl) (fun _ _ _ h => h) (by rfl) hH ?hy39 ?rest39
          case hy39 =>
            intro X hX
            go_simp
            try rfl
          simp only [Act.put, List.setIfInBounds_toArray, List.set_cons_zero, List.set_cons_succ]
          refine' hw_take 4 (some 21) _ rfl rfl (by kernel_rfl) (by kernel_rfl) (by kernel_rfl) (fun _ _ _ h => h) (by rfl) hH ?hy40 ?rest40
          case hy40 =>
            intro X hX
            go_simp
            try rfl
          simp only [Act.put, List.setIfInBounds_toArray, List.set_cons_zero, List.set_cons_succ]
          refine' hw_take 5 (some 22) _ rfl rfl (by kernel_rfl) (by kernel_rfl) (by kernel_rfl) (fun _ _ _ h => h) (by rfl) hH ?hy41 ?rest41
          case hy41 =>
            intro X hX
            have cRX := (bR4.new hX).cells
            go_simp
            try rfl
          simp only [Act.put, List.setIfInBounds_toArray, List.set_cons_zero, List.set_cons_succ]
          refine' hw_take 6 (some 23) _ rfl rfl (by kernel_rfl) (by kernel_rfl) (by kernel_rfl) (fun _ _ _ h => h) (by rfl) hH ?hy42 ?rest42
          case hy42 =>
            intro X hX
            have cTX := (bT4.new hX).cells
            go_simp
            try rfl
          simp only [Act.put, List.setIfInBounds_toArray, List.set_cons_zero, List.set_cons_succ]
          refine' hw_take 7 (some 24) _ rfl rfl (by kernel_rfl) (by kernel_rfl) (by kernel_rfl) (fun _ _ _ h => h) (by rfl) hH ?hy43 ?rest43
          case hy43 =>
            intro X hX
            have cTX := (bT4.new hX).cells
            go_simp
            try rfl
          simp only [Act.put, List.setIfInBounds_toArray, List.set_cons_zero, List.set_cons_succ]
          refine' hw_take 8 (some 25) _ rfl rfl (by kernel_rfl) (by kernel_rfl) (by kernel_rfl) (fun _ _ _ h => h) (by rfl) hH ?hy44 ?rest44
          case hy44 =>
            intro X hX
            go_simp
            try rfl
          simp only [Act.put, List.setIfInBounds_toArray, List.set_cons_zero, List.set_cons_succ]
          refine' hw_take 9 (some 26) _ rfl rfl (by kernel_rfl) (by kernel_rfl) (by kernel_rfl) (fun _ _ _ h => h) (by rfl) hH ?hy45 ?rest45
          case hy45 =>
            intro X hX
            go_simp
            try rfl
          simp only [Act.put, List.setIfInBounds_toArray, List.set_cons_zero, List.set_cons_succ]
          refine' hw_take 10 (some 27) _ rfl rfl (by kernel_rfl) (by kernel_rfl) (by kernel_rfl) (fun _ _ _ h => h) (by rfl) hH ?hy46 ?rest46
          case hy46 =>
            intro X hX
            go_simp
            try rfl
          simp only [Act.put, List.setIfInBounds_toArray, List.set_cons_zero, List.set_cons_succ]
          refine' hw_take 11 (some 28) _ rfl rfl (by kernel_rfl) (by kernel_rfl) (by kernel_rfl) (fun _ _ _ h => h) (by rfl) hH ?hy47 ?rest47
          case hy47 =>
            intro X hX
            go_simp
            try rfl
          simp only [Act.put, List.setIfInBounds_toArray, List.set_cons_zero, List.set_cons_succ]
          refine' hw_take 12 (some 29) _ rfl rfl (by kernel_rfl) (by kernel_rfl) (by kernel_rfl) (fun _ _ _ h => h) (by rfl) hH ?hy48 ?rest48
          case hy48 =>
            intro X hX
            have y1X := (hX.below.cell (World.block_lt_of_cell? _ _ y1)).trans y1
            have y2X := (hX.below.cell (World.block_lt_of_cell? _ _ y2)).trans y2
            go_simp
            try rfl
          simp only [Act.put, List.setIfInBounds_toArray, List.set_cons_zero, List.set_cons_succ]
          refine' hw_take 13 (some 30) _ rfl rfl (by kernel_rfl) (by kernel_rfl) (by kernel_rfl) (fun _ _ _ h => h) (by rfl) hH ?hy49 ?rest49
          case hy49 =>
            intro X hX
            go_simp
            try rfl
          simp only [Act.put, List.setIfInBounds_toArray, List.set_cons_zero, List.set_cons_succ]
          refine' hw_take 14 (some 31) _ rfl rfl (by kernel_rfl) (by kernel_rfl) (by kernel_rfl) (fun _ _ _ h => h) (by rfl) hH ?hy50 ?rest50
          case hy50 =>
            intro X hX
            go_simp
            try rfl
          simp only [Act.put, List.setIfInBounds_toArray, List.set_cons_zero, List.set_cons_succ]
          refine wpAnyH_done (by kernel_rfl) ?_ _
          generalize W5.drew = W6 at *
          have row6 := row_turn7 row5 dd (fun _ _ f => f)
          have lt6 : W5.heap.size ≤ W6.heap.size := dd.size
          have hl6 := (dd.block _ lt5 (fun f => f)).trans hl4
          have hd6 := (dd.block _ (by omega) (fun f => f)).trans hd4
          gi_wp2
          have hfin := HFIN.out _ U _ hl6 hd6 (b5.new dd) (Turn.trans tx dd.turn (fun _ _ e => e)) (bT4.new dd) row6 HSM.out HJ8.out j9 (hp5.new dd)
          obtain ⟨⟨f1, f2, f3, f4, u9, U9, f5, f6, f7, f8, f9⟩, f10⟩ := hfin
          refine ⟨_, _, HEND.out _ hl6, rfl, ?_⟩
          exact ⟨⟨f1, f2, f3, f4, u9, f5, U9, (by first | exact f6 | (rw [← hsz]; exact f6)), f7, f8, f9⟩, f10⟩
  case behind =>
    rintro e W2 ⟨he, ys, hys, hyp, j1, j2, j3, j4, u, U, j5, j6, j7, j8, j9⟩
    obtain ⟨A5, c5, hu5⟩ : ∃ A5 c5, u = .slice A5 U.length c5 := by
      rcases row_form7 j6 with ⟨e1, e2⟩ | ⟨g, c2, e1, -⟩
      · subst e2
        exact ⟨none, 0, e1⟩
      · exact ⟨_, _, e1⟩
    subst hu5
    have HALL : Hid (AllOk (V.map Rv.r) (U.map Rv.r)) := by
      have e1 := j7.done (hys.trans hp4)
      rw [HV3.out] at e1
      exact e1
    have HPK : Hid (∀ {lo hi : Nat} {X : World}, PathsT X lo hi V' → PathsT X lo hi U) := fun h => h.pick (fun v hv => hp4.mem_iff.1 (j8 v hv)) j7.srt
    have s4 := j4.size
    refine ⟨he, .ready, none, by simp, by subst hrec; exact j1, j2, ?_⟩
    rintro W3 rfl
    have g1 : w4.heap.size + 1 < W2.heap.size := (Array.getElem?_eq_some_iff.1 j1).1
    have b5 : Blk (W2.putObj (w4.heap.size + 1) (.loop { rec with state := .exhausted, pending := none })) w.heap.size 67 #[.int .i64 0, .slice none 0 0] := (World.putObj_heap_other (by omega)).trans j3
    have bT5 : Blk (W2.putObj (w4.heap.size + 1) (.loop { rec with state := .exhausted, pending := none })) w1.heap.size 24 #[.slice A5 U.length c5] := (World.putObj_heap_other (by omega)).trans j5
    have d5 : (W2.putObj (w4.heap.size + 1) (.loop { rec with state := .exhausted, pending := none })).heap[w4.heap.size]? = some (.deferred (some [])) := (World.putObj_heap_other (by omega)).trans j2
    have tl := turn_of_grown8 (grownBy_putObj' W2 (w4.heap.size + 1) (.loop { rec with state := .exhausted, pending := none }))
    have row5 := row_turn7 j6 tl (fun k hk e => by have h1 := (row_rng7 j6 k hk).1; have h2 := Option.some.inj e; omega)
    clear j1 j2 j3 j5 j6 j7 j8
    generalize W2.putObj (w4.heap.size + 1) (.loop { rec with state := .exhausted, pending := none }) = W5 at *
    have c5' := b5.cells
    have f5 := b5.frees
    have cT5 := bT5.cells
    gi_wp2
    have t6 := two8t W5 w.heap.size 0 1 (.int .i64 0) (.slice A5 U.length c5)
    have b6 : Blk ((W5.setCell ⟨w.heap.size, 0, none⟩ (.int .i64 0)).setCell ⟨w.heap.size, 1, none⟩ (.slice A5 U.length c5)) w.heap.size 67 #[.int .i64 0, .slice A5 U.length c5] := (b5.set 0 (.int .i64 0)).set 1 (.slice A5 U.length c5)
    have lt5 : w4.heap.size < W5.heap.size := (Array.getElem?_eq_some_iff.1 d5).1
    have hK6 := (t6.block w4.heap.size lt5 (by omega)).trans d5
    have row6 := row_turn7 row5 t6 (fun k hk e => by have h1 := (row_rng7 row5 k hk).1; omega)
    generalize ((W5.setCell ⟨w.heap.size, 0, none⟩ (.int .i64 0)).setCell ⟨w.heap.size, 1, none⟩ (.slice A5 U.length c5)) = W6 at *
    have tp := turn_of_grown8 (grownBy_putObj' W6 w4.heap.size (.deferred none))
    have b7 := b6.turn tp (by intro e; have := Option.some.inj e; omega)
    have row7 := row_turn7 row6 tp (fun k hk e => by have h1 := (row_rng7 row6 k hk).1; have h2 := Option.some.inj e; omega)
    have cF := b7.cells
    refine ⟨by simp, .inl ⟨_, _, rfl, run_takeDeferred hK6, ?_⟩⟩
    refine ⟨.agg #[.int .i64 0, .slice A5 U.length c5], by simp [results, Tryz.results29, go_sem, cF], ?_⟩
    have TT : Turn (fun k => k = w.heap.size ∨ k = w1.heap.size ∨ w3.heap.size ≤ k) w3 (W6.putObj w4.heap.size (.deferred none)) := by
      refine Turn.trans (Turn.trans (Turn.trans (Turn.trans H4.out.turn j4 (fun k _ e => ?_)) tl (fun k _ e => ?_)) t6 (fun k _ e => ?_)) tp (fun k _ e => ?_)
      · omega
      · have := Option.some.inj e; omega
      · omega
      · have := Option.some.inj e; omega
    have hpt := HPK.out (ho3.path.turn TT (fun k h1 h2 e => by omega))
    have sz7 := TT.size
    exact ⟨0, A5, U.length, c5, U, .inr ⟨HFA.out, rfl, HALL.out⟩, rfl, rfl, (OwT.of_row row7 (by omega) hpt sz7).low8 (by omega), Turn.mono (Turn.trans n3.turn TT (fun _ _ e => e)) (fun k h1 h2 => by omega)⟩

end Go.Proofs.YtjampcfikfafkaaGreat

namespace Go.Proofs.YtjampcfikfafkaaGreat
open Go.RowKit Go.Sort
set_option linter.unusedVariables false
set_option linter.unusedSimpArgs false
set_option maxRecDepth 100000

theorem AlA.len {R U : List Rt} {z : Int} (h : AlA R z U) : U.length ≤ R.length := by
  rcases h with ⟨-, -, rfl⟩ | ⟨-, -, h⟩
  · exact Nat.zero_le _
  · exact pair_len U R h.srt (fun x hx => (h.best x hx).mem)

set_option maxHeartbeats 6400000 in
theorem implAll (A : Option Addr) (N cc : Nat) (V : List Rv) (w : World) (h : RtAt w A V) (hn : V.length = N) (hm : N ≤ 1048576) :
    Calls Tryz.prog 29 #[.slice A N cc] w (LAns8 w (V.map Rv.r)) := by
  by_cases hok : ribF (V.map Rv.r) = 0
  · exact implAll_ok A N cc V w h hn hm hok
  have HN : Hid (V.length = N) := hn
  have HA : Hid (∀ X, New w X → RtAt X A V) := fun X hX => h.new hX
  have N0 : New w (w.alloc (.cells #[.int .i64 0, .slice none 0 0] 67)) := (New.refl w).alloc _
  have bB := Blk.mk w w.heap.size 67 #[.int .i64 0, .slice none 0 0] rfl
  obtain ⟨f, hf⟩ : ∃ f, Hid (ribF (V.map Rv.r) = f) := ⟨_, rfl⟩
  have h0 : ¬ f = 0 := by rw [← hf.out]; exact hok
  clear h hn hok
  go_enter Tryz.func29, Tryz.ntmps29
  go_upto_region 1 with fail
  generalize w.alloc (.cells #[.int .i64 0, .slice none 0 0] 67) = w0 at *
  go_wp2_with fail
  refine (implRib A N cc V f _ (HA.out _ N0) HN.out hm hf.out).mono ?_
  rintro e w1 ⟨rfl, h1⟩
  have b1 := bB.new h1
  have n1 := N0.trans h1
  have lt1 := b1.lt
  clear bB h1 N0
  have hne : (f != 0) = true := by simpa using h0
  have HB : Hid (¬ ribF (V.map Rv.r) = 0 ∧ f = ribF (V.map Rv.r)) := ⟨by rw [hf.out]; exact h0, hf.out.symm⟩
  have c1 := b1.cells
  have f1 := b1.frees
  clear hf
  go_wp2
  exact bodyPost_ret (v := .agg #[.int .i64 f, .slice none 0 0]) (by simp [results, Tryz.results29, go_sem, c1]) rfl (LAns8.bad HB.out n1 (by omega))

end Go.Proofs.YtjampcfikfafkaaGreat

namespace Go.Proofs.YtjampcfikfafkaaGreat
open Go.RowKit Go.Sort
set_option linter.unusedVariables false
set_option linter.unusedSimpArgs false
set_option maxRecDepth 100000

set_option maxHeartbeats 12800000 in
theorem implET (A : Option Addr) (N cc : Nat) (V : List Rv) (q : Int) (y : Option Addr) (rn rk : Nat) (rs : List Ru) (z t : Int) (w : World) (h : RtAt w A V) (hn : V.length = N) (hm : N ≤ 1048576) (hr : RsAt w y rs) (hrn : rs.length = rn) (hrm : rn ≤ 1048576) :
    Calls Tryz.prog 7 #[.slice A N cc, .int .i64 q, .slice y rn rk, .int .i64 z, .int .i64 t] w (XAns w (V.map Rv.r) q rs z t) := by
  have HN : Hid (V.length = N) := hn
  have HRN : Hid (rs.length = rn) := hrn
  have HA : Hid (∀ X, New w X → RtAt X A V) := fun X hX => h.new hX
  have HRS : Hid (∀ X, New w X → RsAt X y rs) := fun X hX => hr.new hX
  have N0 : New w (w.alloc (.cells #[.int .i64 0, .slice none 0 0] 30)) := (New.refl w).alloc _
  have bB := Blk.mk w w.heap.size 30 #[.int .i64 0, .slice none 0 0] rfl
  obtain ⟨f, hf⟩ : ∃ f, Hid (exf (V.map Rv.r) q rs z t = f) := ⟨_, rfl⟩
  obtain ⟨i0, hi, hz0, hz1, hz2⟩ := info_parts Tryz.infoTd
  clear h hn hr hrn
  go_enter Tryz.func7, Tryz.ntmps7
  go_upto_region 1 with fail
  generalize w.alloc (.cells #[.int .i64 0, .slice none 0 0] 30) = w0 at *
  go_wp2_with fail
  refine (implXF A N cc V q y rn rk rs z t _ (HA.out _ N0) HN.out hm (HRS.out _ N0) HRN.out hrm f hf.out).mono ?_
  rintro e w1 ⟨rfl, h1⟩
  have b1 := bB.new h1
  have n1 := N0.trans h1
  have lt1 := b1.lt
  clear bB h1 N0
  by_cases h0 : f = 0
  case neg =>
    have hne : (f != 0) = true := by simpa using h0
    have HB : Hid (¬ exf (V.map Rv.r) q rs z t = 0 ∧ f = exf (V.map Rv.r) q rs z t) := ⟨by rw [hf.out]; exact h0, hf.out.symm⟩
    have c1 := b1.cells
    have f1 := b1.frees
    clear hf
    go_wp2
    exact bodyPost_ret (v := .agg #[.int .i64 f, .slice none 0 0]) (by simp [results, Tryz.results7, go_sem, c1]) rfl (XAns.bad HB.out n1 (by omega))
  subst h0
  obtain ⟨g1, g2, g3, g4, g5⟩ := exf_ok hf.out
  have HG : Hid (ribF (V.map Rv.r) = 0 ∧ rsf rs = 0 ∧ (1 ≤ z ∧ z ≤ 65535) ∧ (0 ≤ t ∧ t ≤ 65535)) := ⟨g1, g3, g4, g5⟩
  clear g1 g2 g3 g4 g5
  go_wp2_with fail
  refine (implAll A N cc V _ (HA.out _ n1) HN.out hm).mono ?_
  rintro e w2 ⟨zz, A2, n2, c2, U, hal, rfl, hn2, ho2, h2⟩
  subst hn2
  obtain ⟨rfl, hAll⟩ : zz = 0 ∧ AllOk (V.map Rv.r) (U.map Rv.r) := by
    rcases hal with ⟨k1, -⟩ | ⟨-, k2, k3⟩
    · exact absurd HG.out.1 k1
    · exact ⟨k2, k3⟩
  have HALL : Hid (AllOk (V.map Rv.r) (U.map Rv.r)) := hAll
  have HUF : Hid (∀ v ∈ U, v.r.f = 0) := fun v hv => (ribF_ok HG.out.1).2.2 _ (hAll.best _ (List.mem_map_of_mem hv)).mem
  have hUm : U.length ≤ 1048576 := by
    have e := hal.len
    rw [List.length_map, List.length_map, HN.out] at e
    omega
  have rU := ho2.rt.1
  have b2 := b1.new h2
  have n2 := n1.trans h2
  have s2 := n2.size
  have lt2 := b2.lt
  clear hal ho2 h2 b1 n1 hAll
  have hfd : ∀ (c0 c1 : Value) (X : World), (Instr.field 67 (.agg #[c0, c1]) 1).run Tryz.prog X = .ok c1 X := fun _ _ _ => by kernel_rfl
  have HXR : Hid (∀ X, New w2 X → RsAt X y rs) := fun X hX => HRS.out X (n2.trans hX)
  go_wp2
  go_loopw [12, 30] (fun s i wr => ∃ (k : Nat) (T : List Tv), k ≤ U.length ∧ i = .int .i64 k ∧ T.length ≤ k ∧ T.map Tv.r = expT q rs z t ((U.take k).map Rv.r) ∧ New w2 wr ∧ Ow8 wr w2.heap.size wr.heap.size s T) (fun _ i _ => U.length - (intOf i).toNat)
  case atStart => exact ⟨0, [], Nat.zero_le _, rfl, Nat.le_refl _, rfl, New.refl _, Ow8.nil _ _ _⟩
  case round =>
    obtain ⟨k, T, hk, rfl, hlk, hmap, hnw, how⟩ := hrel
    have HLK : Hid (T.length ≤ k) := hlk
    have HMP : Hid (T.map Tv.r = expT q rs z t ((U.take k).map Rv.r)) := hmap
    clear hlk hmap
    by_cases hlt : k < U.length
    case neg =>
      obtain rfl : k = U.length := by omega
      have HFIN : Hid (T.map Tv.r = expT q rs z t (U.map Rv.r)) := by
        have e := HMP.out
        rw [List.take_of_length_le (Nat.le_refl _)] at e
        exact e
      have b3 := b2.new hnw
      have c3 := b3.cells
      have f3 := b3.frees
      have n3 := n2.trans hnw
      obtain ⟨A5, c5, rfl, -⟩ := how.form
      clear hi hz0 hz1 hz2
      go_wp2
      exact bodyPost_ret (v := .agg #[.int .i64 0, .slice A5 T.length c5]) (by simp [results, Tryz.results7, go_sem, c3]) rfl (XAns.good hf.out HALL.out HFIN.out n3 (by omega) how (by omega) rfl)
    case pos =>
      obtain ⟨b, off, p, a, l, o, nx, md, lc, x, m, d, xs, rfl, hv, hlen, hns, hnl, hmx, q0, q1, q2, q3, q4, q5, q6, q7⟩ := (rU.new hnw).at k hlt
      subst hlen
      have HV : Hid (U[k]? = some ⟨⟨p, a, l, o, xs, nx, md, lc⟩, x, d⟩) := hv
      have HF : Hid (Rt.f ⟨p, a, l, o, xs, nx, md, lc⟩ = 0) := HUF.out _ (List.mem_of_getElem? hv)
      have HX : Hid (x = none → xs.length = 0 ∧ d = 0) := hnl
      clear hv hnl
      have hk0 : (0 : Int) ≤ (k : Int) := by omega
      have hk1 : (k : Int) < (U.length : Int) := by omega
      have Na := (New.refl wr).alloc (.cells #[.int .i64 p, .int .i64 a, .int .i64 l, .int .i64 o, .slice x xs.length d, .int .i64 nx, .int .i64 md, .int .i64 lc] 38)
      have bA := Blk.mk wr wr.heap.size 38 #[.int .i64 p, .int .i64 a, .int .i64 l, .int .i64 o, .slice x xs.length d, .int .i64 nx, .int .i64 md, .int .i64 lc] rfl
      go_upto_region 8 with fail
      generalize wr.alloc (.cells #[.int .i64 p, .int .i64 a, .int .i64 l, .int .i64 o, .slice x xs.length d, .int .i64 nx, .int .i64 md, .int .i64 lc] 38) = wa at *
      have hns1 := hns.new Na
      have how1 := how.new Na
      have hnwa := hnw.trans Na
      have cA := bA.cells
      clear q0 q1 q2 q3 q4 q5 q6 q7 hns
      by_cases hp : p = q
      case pos =>
        have hpq : (p == q) = true := by simpa using hp
        have HM : Hid (T.map Tv.r = expT q rs z t ((U.take (k + 1)).map Rv.r)) := by
          show _ = _
          rw [expT_skip HV.out (.inl hp)]
          exact HMP.out
        clear hp how
        have how2 := how1.up Na.size
        go_wp2
        go_roundw
        case rel => exact ⟨k + 1, T, by omega, by go_num, by have := HLK.out; omega, HM.out, hnwa, how2⟩
        case measure => simp [intOf]; omega
      case neg =>
        have hpq : (p == q) = false := by simpa using hp
        have HP : Hid (¬ p = q) := hp
        clear hp
        obtain ⟨B, hB⟩ : ∃ B, Hid (exR rs z t ⟨p, a, l, o, xs, nx, md, lc⟩ = B) := ⟨_, rfl⟩
        have hcx := implXR p a l o nx md lc x xs.length d xs y rn rk rs z t wa (HXR.out _ hnwa) HRN.out hrm hns1 rfl hmx HX.out
        rw [hB.out] at hcx
        have HY : Hid (B.c = 0 → expO rs z t ⟨p, a, l, o, xs, nx, md, lc⟩ = some ⟨a, l, B.o, B.ns, B.nx, B.md, B.lo⟩ ∧ (∀ u ∈ B.ns, In6 u) ∧ B.ns.length ≤ 7) := fun e => by
          have e1 := exR_yes (t := t) HG.out.2.1 HG.out.2.2.1 HG.out.2.2.2 HF.out (by rw [hB.out]; exact e)
          rw [hB.out] at e1
          exact e1
        have HNO : Hid (¬ B.c = 0 → expO rs z t ⟨p, a, l, o, xs, nx, md, lc⟩ = none) := fun e => exR_no (t := t) HG.out.2.1 HG.out.2.2.1 HG.out.2.2.2 HF.out (by rw [hB.out]; exact e)
        obtain ⟨bc, br, bo, bns, bnx, bmd, blo⟩ := B
        go_wp2_with fail
        refine hcx.mono ?_
        rintro e w3 ⟨v3, rfl, ho3, h3⟩
        dsimp only at ho3 HY HNO ⊢
        obtain ⟨x3, c3, rfl, -⟩ : ∃ x3 c3, v3 = .slice x3 bns.length c3 ∧ (x3 = none → bns.length = 0 ∧ c3 = 0) := ho3.sl rfl
        have bA3 := bA.new h3
        have bX := Blk.mk w3 w3.heap.size 70 #[.int .i64 bc, .int .i64 br, .int .i64 bo, .slice x3 bns.length c3, .int .i64 bnx, .int .i64 bmd, .int .i64 blo] rfl
        have Nx := (New.refl w3).alloc (.cells #[.int .i64 bc, .int .i64 br, .int .i64 bo, .slice x3 bns.length c3, .int .i64 bnx, .int .i64 bmd, .int .i64 blo] 70)
        have bA4 := bA3.new Nx
        have Ny := h3.trans Nx
        have ho4 := ho3.new Nx
        have ltA := bA3.lt
        clear hcx cA how
        go_upto_region 10 with fail
        generalize w3.alloc (.cells #[.int .i64 bc, .int .i64 br, .int .i64 bo, .slice x3 bns.length c3, .int .i64 bnx, .int .i64 bmd, .int .i64 blo] 70) = w4 at *
        have cA := bA4.cells
        have cX := bX.cells
        by_cases h0 : bc = 0
        case neg =>
          have hne : (bc == 0) = false := by simpa using h0
          have HM : Hid (T.map Tv.r = expT q rs z t ((U.take (k + 1)).map Rv.r)) := by
            show _ = _
            rw [expT_skip HV.out (.inr (HNO.out h0))]
            exact HMP.out
          have how2 := (how1.new Ny).up (Nat.le_trans Na.size Ny.size)
          have nwf := hnwa.trans Ny
          clear h0
          go_wp2
          go_roundw
          case rel => exact ⟨k + 1, T, by omega, by go_num, by have := HLK.out; omega, HM.out, nwf, how2⟩
          case measure => simp [intOf]; omega
        case pos =>
          subst h0
          obtain ⟨y1, y2, y3⟩ := HY.out rfl
          have HM : Hid (∀ u : Tv, u.r = ⟨a, l, bo, bns, bnx, bmd, blo⟩ → (T ++ [u]).map Tv.r = expT q rs z t ((U.take (k + 1)).map Rv.r)) := by
            intro u hu
            rw [expT_put HV.out HP.out y1, List.map_append, HMP.out]
            simp [hu]
          have HB2 : Hid ((∀ u ∈ bns, In6 u) ∧ bns.length ≤ 1048576) := ⟨y2, by omega⟩
          clear y1 y2 y3
          have bL := Blk.mk w4 w4.heap.size 43 #[.int .i64 a, .int .i64 l, .int .i64 bo, .slice x3 bns.length c3, .int .i64 bnx, .int .i64 bmd, .int .i64 blo] rfl
          have hrow3 : (w4.alloc (.cells #[.int .i64 a, .int .i64 l, .int .i64 bo, .slice x3 bns.length c3, .int .i64 bnx, .int .i64 bmd, .int .i64 blo] 43)).ownsRow w2.heap.size 43 7 _ T.length (cells8 T) := row_turn8 (row_turn8 how1.row Ny (fun _ _ f => f)) ((New.refl w4).alloc _) (fun _ _ f => f)
          have hsz : w2.heap.size ≤ (w4.alloc (.cells #[.int .i64 a, .int .i64 l, .int .i64 bo, .slice x3 bns.length c3, .int .i64 bnx, .int .i64 bmd, .int .i64 blo] 43)).heap.size := by have e1 := hnwa.size; have e2 := Ny.size; simp; omega
          have hsrc : ∀ j, (w4.alloc (.cells #[.int .i64 a, .int .i64 l, .int .i64 bo, .slice x3 bns.length c3, .int .i64 bnx, .int .i64 bmd, .int .i64 blo] 43)).cell? ⟨w4.heap.size, j, none⟩ = (Tv.mk (Td.mk a l bo bns bnx bmd blo) x3 c3).cs[j]? := by
            intro j
            rw [bL.cells j]
            unfold Tv.cs
            simp
          have how2 := how1.up Na.size
          have hov : OvN w4 wa.heap.size (Tv.pv (Tv.mk (Td.mk a l bo bns bnx bmd blo) x3 c3)) bns := ho4
          go_wp2_with (at_builtin; refine wpList_ap8 _ rfl (.tmp 46) (.tmp 52) rfl w2.heap.size _ Tryz.underlying28 hi hz0 hz1 hz2 rfl _ T rfl hrow3 w4.heap.size (Tv.mk (Td.mk a l bo bns bnx bmd blo) x3 c3) rfl hsrc (by have := HLK.out; omega) hsz ?_)
          intro v5 w5 hr5 hg5 _
          replace hr5 : w5.ownsRow w2.heap.size 43 7 v5 (T ++ [Tv.mk (Td.mk a l bo bns bnx bmd blo) x3 c3]).length (cells8 (T ++ [Tv.mk (Td.mk a l bo bns bnx bmd blo) x3 c3])) := by rw [List.length_append]; exact hr5
          have hO5 := Ow8.appended how2 hnwa.size Ny hov HB2.out.1 HB2.out.2 ((New.refl w4).alloc _) hr5 hg5
          have N5 : New w2 w5 := (((hnwa.trans Ny).alloc _).grow hg5 (fun j hj => (row_rng8 how1.row j hj).1))
          clear hr5 hg5 hrow3 hsrc hov how1 how2 ho4 ho3
          go_wp2
          go_roundw
          case rel => exact ⟨k + 1, T ++ [Tv.mk (Td.mk a l bo bns bnx bmd blo) x3 c3], by omega, by go_num, by rw [List.length_append]; have := HLK.out; simp; omega, HM.out _ rfl, N5, hO5⟩
          case measure => simp [intOf]; omega

end Go.Proofs.YtjampcfikfafkaaGreat

namespace Go.Proofs.YtjampcfikfafkaaGreat
open Go.RowKit Go.Sort
set_option linter.unusedVariables false
set_option linter.unusedSimpArgs false
set_option maxRecDepth 100000

section
variable {P : Program} {ops : Array Oper} {t e : TypeId} {i : TypeInfo}
theorem hw_ap8 (w : World) {oi : Oper} {a : Act} {K : Act → World → Prop} {Q : Exit → Act → World → Prop} {dt : Option Tmp} (s x : Operand) (hdt : oi.dst = dt)
    (ho : oi.op = .call { callee := .builtin .append, args := #[s, x], argTypes := #[t, t] }) (base : Nat) (zero : Value) (ht : P.underlying t = some (.slice e)) (hi : P.info? e = some i) (hz : i.zero = some zero) (hs : i.size = 7) (hb : i.bytes = 72) (hz1 : zero.cells.size = 7)
    (v : Value) (rs : List Tv) (hsv : a.eval s = v) (hown : w.ownsRow base e 7 v rs.length (cells8 rs))
    (L : Nat) (r : Tv) (hxv : a.eval x = .slice (some ⟨L, 0, none⟩) 1 1) (hsrc : ∀ j, w.cell? ⟨L, j, none⟩ = r.cs[j]?) (hle : rs.length + 1 ≤ 4194304) (hbase : base ≤ w.heap.size)
    (h : ∀ v' w', w'.ownsRow base e 7 v' (rs ++ [r]).length (cells8 (rs ++ [r])) → w.grownBy w' v.ownBlock → (v'.ownBlock = v.ownBlock ∨ v'.ownBlock = some w.heap.size) → K (a.put dt v') w') : Oper.wp P oi a w K Q := by
  have hnews : ∀ j u, r.cs[j]? = some u → w.cell? ((⟨L, 0, none⟩ : Addr).add j) = some u := by
    intro j u hu
    rw [Addr.add_lit, Nat.zero_add, hsrc j, hu]
  obtain ⟨v', w', hr, h2, h3, _, h5⟩ := run_append_own_at (P := P) w base t oi.type e i zero 7 72 ht hi hz hs hb hz1 (by decide) v rs.length (cells8 rs) hown ⟨L, 0, none⟩ 1 1 r.cs rfl hnews (by simp [Tv.cs, Value.oneCell']) (by unfold maxLen; omega) (by omega) hbase
  subst hdt
  unfold Oper.wp execOp
  simp only [ho, resolve, invoke, builtin, Sem.run_bind, Sem.run_pure, Result.andThen_ok, List.map_toArray, List.map_cons, List.map_nil, hsv, hxv, hr]
  exact h v' w' (by rw [cells8_snoc]; simpa using h2) h3 h5
end

/-- What a rule makes of a path can be read, and is not longer than what is there. -/
theorem apF_in {z p q o nx md lo : Int} {xs : List Int} (hz : 1 ≤ z ∧ z ≤ 65535) (ha : af o xs nx md lo = 0) {rs : List Ru} (hall : ∀ r ∈ rs, r.f = 0) : (∀ u ∈ (apF z p q o xs nx md lo 0 rs).ns, In6 u) ∧ (apF z p q o xs nx md lo 0 rs).ns.length ≤ 1048576 := by
  by_cases hc : (apF z p q o xs nx md lo 0 rs).c = 0
  · have h := af_ok8 (apF_af hz ha rs 0 hall hc)
    exact ⟨in6_of h.2.2, by omega⟩
  · have key : ∀ (rs : List Ru) (i : Int), ¬ (apF z p q o xs nx md lo i rs).c = 0 → (apF z p q o xs nx md lo i rs).ns = [] := by
      intro rs
      induction rs with
      | nil => intro i h; exact absurd rfl h
      | cons r rs ih =>
        intro i h
        unfold apF at h ⊢
        by_cases hm : mt r.a r.l r.ls r.ms r.s p q xs = true
        · rw [if_pos hm] at h ⊢
          unfold ap1 at h ⊢
          by_cases hd : r.d = true
          · rw [if_pos hd]
            rfl
          · rw [if_neg hd] at h ⊢
            by_cases hl : 6 < (xs.length : Int) + r.pp
            · rw [if_pos hl]
              rfl
            · rw [if_neg hl] at h
              exact absurd rfl h
        · rw [if_neg hm] at h ⊢
          exact ih (i + 1) h
    rw [key rs 0 hc]
    exact ⟨by intro u hu; simp at hu, by simp⟩

set_option maxHeartbeats 12800000 in
theorem l8E_any (A : Option Addr) (N cc : Nat) (V : List Rv) (q : Int) (y : Option Addr) (rn rk : Nat) (rs : List Ru) (z t : Int) (w : World) (h : RtAt w A V) (hn : V.length = N) (hm : N ≤ 1048576) (hr : RsAt w y rs) (hrn : rs.length = rn) (hrm : rn ≤ 1048576) (hf : exf (V.map Rv.r) q rs z t = 0) :
    Calls Tryz.prog 36 #[.slice A N cc, .int .i64 q, .slice y rn rk, .int .i64 z, .int .i64 t] w fun e w' => ∃ u T U, e = .returned u ∧ Ow8 w' w.heap.size w'.heap.size u T ∧ AllOk (V.map Rv.r) U ∧ T.map Tv.r = expT q rs z t U ∧ New w w' := by
  have HN : Hid (V.length = N) := hn
  have HRN : Hid (rs.length = rn) := hrn
  have HA : Hid (∀ X, New w X → RtAt X A V) := fun X hX => h.new hX
  have HRS : Hid (∀ X, New w X → RsAt X y rs) := fun X hX => hr.new hX
  obtain ⟨g1, g2, g3, g4, g5⟩ := exf_ok hf
  have HG : Hid (ribF (V.map Rv.r) = 0 ∧ rsf rs = 0 ∧ (1 ≤ z ∧ z ≤ 65535) ∧ (0 ≤ t ∧ t ≤ 65535)) := ⟨g1, g3, g4, g5⟩
  have HZ6 : Hid (In6 z) := by unfold Hid In6; omega
  obtain ⟨i0, hi, hz0, hz1, hz2⟩ := info_parts Tryz.infoTd
  have NL : New w (w.alloc (.cells #[] 43)) := (New.refl w).alloc _
  have hL : Ow8 (w.alloc (.cells #[] 43)) w.heap.size (w.alloc (.cells #[] 43)).heap.size (.slice (some ⟨w.heap.size, 0, none⟩) 0 0) [] :=
    ⟨row_lit8 (lo := w.heap.size) (Blk.mk w w.heap.size 43 #[] rfl) (Nat.le_refl _), by intro k hk; simp [Value.ownBlock] at hk; simp; omega, Paths8.nil _ _ _⟩
  have sL : (w.alloc (.cells #[] 43)).heap.size = w.heap.size + 1 := by simp
  clear h hn hr hrn g1 g2 g3 g4 g5 hf
  go_enter Tryz.func36, Tryz.ntmps36
  go_upto_region 2 with fail
  generalize w.alloc (.cells #[] 43) = wl at *
  go_wp2_with fail
  refine (l7All_any A N cc V _ (HA.out _ NL) HN.out hm HG.out.1).mono ?_
  rintro e w2 ⟨u, U, rfl, hrow, hsub, hall, hUN, h2⟩
  have HALL : Hid (AllOk (V.map Rv.r) (U.map Rv.r)) := hall
  have HUF : Hid (∀ v ∈ U, v.r.f = 0) := fun v hv => (ribF_ok HG.out.1).2.2 _ (hall.best _ (List.mem_map_of_mem hv)).mem
  have n2 := NL.trans h2
  have hh : Hid (∀ X, New w X → ∀ v ∈ U, v.here X) := fun X hX v hv => by
    obtain ⟨i, hi⟩ := List.getElem?_of_mem (hsub v hv)
    exact (HA.out X hX i v hi).2
  obtain ⟨A3, c3, hu3, hr3, hb3⟩ : ∃ A3 c3, u = .slice A3 U.length c3 ∧ (∀ X, New w X → Turn (fun k => k = w.heap.size ∨ w2.heap.size ≤ k) w2 X → RtAt X A3 U) ∧ (∀ b off, A3 = some ⟨b, off, none⟩ → b < w2.heap.size ∧ ¬ b = w.heap.size) := by
    rcases row_form7 hrow with ⟨e1, e2⟩ | ⟨g, c, e1, hg1, hg2, ho⟩
    · subst e2
      exact ⟨none, 0, e1, fun X _ _ => RtAt.nil _ _, by intro b off e; cases e⟩
    · refine ⟨_, c, e1, fun X hX hT => (ho.turn hT (by omega)).rt (hh.out X hX), ?_⟩
      intro b off e
      simp only [Option.some.injEq, Addr.mk.injEq, and_true] at e
      omega
  subst hu3
  have HR3 : Hid (∀ X, New w X → Turn (fun k => k = w.heap.size ∨ w2.heap.size ≤ k) w2 X → RtAt X A3 U) := hr3
  have HB : Hid (∀ b off, A3 = some ⟨b, off, none⟩ → b < w2.heap.size ∧ ¬ b = w.heap.size) := hb3
  have hUm : U.length ≤ 1048576 := by omega
  have hL2 := (hL.new h2).up h2.size
  have HRX : Hid (∀ X, New w X → RsAt X y rs) := HRS.out
  clear hrow hsub hall hh h2 hr3 hb3 hL NL hUN
  go_wp2
  go_loopw [11, 13] (fun s i wr => ∃ (k : Nat) (T : List Tv), k ≤ U.length ∧ i = .int .i64 k ∧ T.length ≤ k ∧ T.map Tv.r = expT q rs z t ((U.take k).map Rv.r) ∧ New w wr ∧ Turn (fun k => k = w.heap.size ∨ w2.heap.size ≤ k) w2 wr ∧ (∀ k, s.ownBlock = some k → k = w.heap.size ∨ w2.heap.size ≤ k) ∧ Ow8 wr w.heap.size wr.heap.size s T) (fun _ i _ => U.length - (intOf i).toNat)
  case atStart => exact ⟨0, [], Nat.zero_le _, rfl, Nat.le_refl _, rfl, n2, Turn.refl _ _, (by intro k hk; simp [Value.ownBlock] at hk; omega), hL2⟩
  case round =>
    obtain ⟨k, T, hk, rfl, hlk, hmap, hnw, htw, hob, how⟩ := hrel
    have HLK : Hid (T.length ≤ k) := hlk
    have HMP : Hid (T.map Tv.r = expT q rs z t ((U.take k).map Rv.r)) := hmap
    obtain ⟨A4, c4, hs4, -, -⟩ := how.form
    subst hs4
    have HOB : Hid (∀ k, (Value.slice A4 T.length c4).ownBlock = some k → k = w.heap.size ∨ w2.heap.size ≤ k) := hob
    clear hlk hmap hob hL2
    by_cases hlt : k < U.length
    case neg =>
      obtain rfl : k = U.length := by omega
      have HFIN : Hid (T.map Tv.r = expT q rs z t (U.map Rv.r)) := by
        have e := HMP.out
        rw [List.take_of_length_le (Nat.le_refl _)] at e
        exact e
      clear hi hz0 hz1 hz2
      go_wp2
      go_ret
      exact ⟨_, T, _, rfl, how, HALL.out, HFIN.out, hnw⟩
    case pos =>
      obtain ⟨b, off, p, a, l, o, nx, md, lc, x, m, d, xs, rfl, hv, hlen, hns, hnl, hmx, q0, q1, q2, q3, q4, q5, q6, q7⟩ := (HR3.out _ hnw htw).at k hlt
      subst hlen
      have HV : Hid (U[k]? = some ⟨⟨p, a, l, o, xs, nx, md, lc⟩, x, d⟩) := hv
      have HF : Hid (Rt.f ⟨p, a, l, o, xs, nx, md, lc⟩ = 0) := HUF.out _ (List.mem_of_getElem? hv)
      have HX : Hid (x = none → xs.length = 0 ∧ d = 0) := hnl
      have HB2b : Hid (∀ k, (Value.slice A4 T.length c4).ownBlock = some k → ¬ k = b) := fun k hk e => by have e1 := HOB.out k hk; have e2 := HB.out b off rfl; omega
      clear hv hnl
      have hk0 : (0 : Int) ≤ (k : Int) := by omega
      have hk1 : (k : Int) < (U.length : Int) := by omega
      by_cases hp : p = q
      case pos =>
        have hpq : (p == q) = true := by simpa using hp
        have HM : Hid (T.map Tv.r = expT q rs z t ((U.take (k + 1)).map Rv.r)) := by
          show _ = _
          rw [expT_skip HV.out (.inl hp)]
          exact HMP.out
        clear hp
        go_wp2
        go_roundw
        case rel => exact ⟨k + 1, T, by omega, by go_num, by have := HLK.out; omega, HM.out, hnw, htw, HOB.out, how⟩
        case measure => simp [intOf]; omega
      case neg =>
        have hpq : (p == q) = false := by simpa using hp
        have HP : Hid (¬ p = q) := hp
        clear hp
        obtain ⟨B, hB⟩ : ∃ B, Hid (apF z a l o xs nx md lc 0 rs = B) := ⟨_, rfl⟩
        have hap : Hid (∀ X, New wr X → Calls Tryz.prog 72 #[.slice y rn rk, .int .i64 z, .agg #[.int .i64 a, .int .i64 l], .agg #[.int .i64 o, .slice x xs.length d, .int .i64 nx, .int .i64 md, .int .i64 lc]] X (AAns X B)) := fun X hX => by
          rw [← hB.out]
          exact l6A_any y rn rk rs z a l o nx md lc x xs.length d xs X (HRX.out _ (hnw.trans hX)) HRN.out hrm (hns.new hX) rfl hmx HX.out HZ6.out (rsf_ok HG.out.2.1).2
        have HIN : Hid ((∀ u ∈ B.ns, In6 u) ∧ B.ns.length ≤ 1048576) := by
          have e := apF_in (p := a) (q := l) HG.out.2.2.1 (rt_af HF.out).2 (rsf_ok HG.out.2.1).2
          dsimp only at e
          rw [hB.out] at e
          exact e
        have HYES : Hid (B.c = 0 ∧ B.ns.length < 6 → expO rs z t ⟨p, a, l, o, xs, nx, md, lc⟩ = some ⟨a, l, B.o, z :: B.ns, t, 0, 0⟩) := fun e => by
          unfold expO
          dsimp only
          rw [hB.out, if_pos e]
        have HNO : Hid (¬ (B.c = 0 ∧ B.ns.length < 6) → expO rs z t ⟨p, a, l, o, xs, nx, md, lc⟩ = none) := fun e => by
          unfold expO
          dsimp only
          rw [hB.out, if_neg e]
        obtain ⟨ac, ar, ao, ans, anx, amd, alo⟩ := B
        dsimp only at HIN HYES HNO
        clear hB hns HRS
        go_upto_region 7 with fail
        clear q0
        refine hw_start (n := 15) (S := fun X => New wr X) rfl (by kernel_rfl) ((New.refl wr).drew) (fun hH => ?_)
        refine' hw_take 0 (some 33) _ rfl rfl (by kernel_rfl) (by kernel_rfl) (by kernel_rfl) (fun _ _ _ h => h) (by rfl) hH ?hy1 ?rest1
        case hy1 =>
          intro X hX
          go_simp
          try rfl
        simp only [Act.put, List.setIfInBounds_toArray, List.set_cons_zero, List.set_cons_succ]
        refine' hw_take 1 (some 34) _ rfl rfl (by kernel_rfl) (by kernel_rfl) (by kernel_rfl) (fun _ _ _ h => h) (by rfl) hH ?hy2 ?rest2
        case hy2 =>
          intro X hX
          go_simp
          try rfl
        simp only [Act.put, List.setIfInBounds_toArray, List.set_cons_zero, List.set_cons_succ]
        refine' hw_take 2 (some 35) _ rfl rfl (by kernel_rfl) (by kernel_rfl) (by kernel_rfl) (fun _ _ _ h => h) (by rfl) hH ?hy3 ?rest3
        case hy3 =>
          intro X hX
          go_simp
          try rfl
        simp only [Act.put, List.setIfInBounds_toArray, List.set_cons_zero, List.set_cons_succ]
        refine' hw_take 3 (some 36) _ rfl rfl (by kernel_rfl) (by kernel_rfl) (by kernel_rfl) (fun _ _ _ h => h) (by rfl) hH ?hy4 ?rest4
        case hy4 =>
          intro X hX
          go_simp
          try rfl
        simp only [Act.put, List.setIfInBounds_toArray, List.set_cons_zero, List.set_cons_succ]
        refine' hw_take 4 (some 37) _ rfl rfl (by kernel_rfl) (by kernel_rfl) (by kernel_rfl) (fun _ _ _ h => h) (by rfl) hH ?hy5 ?rest5
        case hy5 =>
          intro X hX
          go_simp
          try rfl
        simp only [Act.put, List.setIfInBounds_toArray, List.set_cons_zero, List.set_cons_succ]
        refine' hw_take 5 (some 38) _ rfl rfl (by kernel_rfl) (by kernel_rfl) (by kernel_rfl) (fun _ _ _ h => h) (by rfl) hH ?hy6 ?rest6
        case hy6 =>
          intro X hX
          go_simp
          try rfl
        simp only [Act.put, List.setIfInBounds_toArray, List.set_cons_zero, List.set_cons_succ]
        refine' hw_take 6 (some 39) _ rfl rfl (by kernel_rfl) (by kernel_rfl) (by kernel_rfl) (fun _ _ _ h => h) (by rfl) hH ?hy7 ?rest7
        case hy7 =>
          intro X hX
          have q1X := (hX.below.cell (World.block_lt_of_cell? _ _ q1)).trans q1
          have q2X := (hX.below.cell (World.block_lt_of_cell? _ _ q2)).trans q2
          go_simp
          try rfl
        simp only [Act.put, List.setIfInBounds_toArray, List.set_cons_zero, List.set_cons_succ]
        refine' hw_take 7 (some 40) _ rfl rfl (by kernel_rfl) (by kernel_rfl) (by kernel_rfl) (fun _ _ _ h => h) (by rfl) hH ?hy8 ?rest8
        case hy8 =>
          intro X hX
          go_simp
          try rfl
        simp only [Act.put, List.setIfInBounds_toArray, List.set_cons_zero, List.set_cons_succ]
        refine' hw_take 8 (some 41) _ rfl rfl (by kernel_rfl) (by kernel_rfl) (by kernel_rfl) (fun _ _ _ h => h) (by rfl) hH ?hy9 ?rest9
        case hy9 =>
          intro X hX
          go_simp
          try rfl
        simp only [Act.put, List.setIfInBounds_toArray, List.set_cons_zero, List.set_cons_succ]
        refine' hw_take 9 (some 42) _ rfl rfl (by kernel_rfl) (by kernel_rfl) (by kernel_rfl) (fun _ _ _ h => h) (by rfl) hH ?hy10 ?rest10
        case hy10 =>
          intro X hX
          go_simp
          try rfl
        simp only [Act.put, List.setIfInBounds_toArray, List.set_cons_zero, List.set_cons_succ]
        refine' hw_take 10 (some 43) _ rfl rfl (by kernel_rfl) (by kernel_rfl) (by kernel_rfl) (fun _ _ _ h => h) (by rfl) hH ?hy11 ?rest11
        case hy11 =>
          intro X hX
          go_simp
          try rfl
        simp only [Act.put, List.setIfInBounds_toArray, List.set_cons_zero, List.set_cons_succ]
        refine' hw_take 11 (some 44) _ rfl rfl (by kernel_rfl) (by kernel_rfl) (by kernel_rfl) (fun _ _ _ h => h) (by rfl) hH ?hy12 ?rest12
        case hy12 =>
          intro X hX
          have q3X := (hX.below.cell (World.block_lt_of_cell? _ _ q3)).trans q3
          have q4X := (hX.below.cell (World.block_lt_of_cell? _ _ q4)).trans q4
          have q5X := (hX.below.cell (World.block_lt_of_cell? _ _ q5)).trans q5
          have q6X := (hX.below.cell (World.block_lt_of_cell? _ _ q6)).trans q6
          have q7X := (hX.below.cell (World.block_lt_of_cell? _ _ q7)).trans q7
          go_simp
          try rfl
        simp only [Act.put, List.setIfInBounds_toArray, List.set_cons_zero, List.set_cons_succ]
        refine wpAnyH_ready (rs := [12, 13]) (by kernel_rfl) (by simp) (hw_step 12 (some 45) rfl rfl (by rfl) (fun K hK => ?ra) (hw_step 13 (some 14) rfl rfl (by rfl) (fun K hK => ?rb) (by intro j hj; cases hj)))
        case ra =>
          go_simp
          refine (hap.out _ hH).mono ?_
          rintro e w1 ⟨v1, rfl, ho1, h1⟩
          dsimp only at ho1 ⊢
          have hsl : ∃ x1 c1, v1 = .slice x1 ans.length c1 ∧ (x1 = none → ans.length = 0 ∧ c1 = 0) := ho1.sl rfl
          obtain ⟨x1, c1, rfl, hx1⟩ := hsl
          refine hK.out _ _ (hH.trans h1) (fun hH1 => ?_)
          simp only [Act.put, List.setIfInBounds_toArray, List.set_cons_zero, List.set_cons_succ]
          refine hw_call 13 (some 14) rfl rfl (by kernel_rfl) (by rfl) (fun K hK => ?_)
          go_simp
          have aB := (New.refl w1).alloc (.cells #[.int .i64 0, .int .i64 0, .int .i64 0, .slice none 0 0, .int .i64 0, .int .i64 0, .int .i64 0] 70)
          have bz := Blk.mk w1 w1.heap.size 70 #[.int .i64 0, .int .i64 0, .int .i64 0, .slice none 0 0, .int .i64 0, .int .i64 0, .int .i64 0] rfl
          have hN9 := (hH.trans h1).trans aB
          have ho9 := ho1.new aB
          have sz9 := (hH.trans h1).size
          have lo9 : ∀ k, (Value.slice x1 ans.length c1).ownBlock = some k → k < w1.heap.size := fun k hk => (ho1.rng7 k hk).2
          refine hK.out _ _ hN9 (fun _ => ?_)
          simp only [Act.put, List.setIfInBounds_toArray, List.set_cons_zero, List.set_cons_succ]
          generalize w1.alloc (.cells #[.int .i64 0, .int .i64 0, .int .i64 0, .slice none 0 0, .int .i64 0, .int .i64 0, .int .i64 0] 70) = w9 at *
          clear aB
          refine hw_call 14 none rfl rfl (by kernel_rfl) (by rfl) (fun K hK => ?_)
          refine hw_store 70 (.tmp 14) (.tmp 45) rfl rfl w1.heap.size #[.int .i64 ac, .int .i64 ar, .int .i64 ao, .slice x1 ans.length c1, .int .i64 anx, .int .i64 amd, .int .i64 alo] #[.int .i64 0, .int .i64 0, .int .i64 0, .slice none 0 0, .int .i64 0, .int .i64 0, .int .i64 0] rfl rfl bz (by kernel_rfl) rfl (by kernel_rfl) ?_
          have tR := Turn.rowW (Turn.refl (fun i => i = w1.heap.size) w9) rfl #[.int .i64 ac, .int .i64 ar, .int .i64 ao, .slice x1 ans.length c1, .int .i64 anx, .int .i64 amd, .int .i64 alo]
          have bX := bz.rowW #[.int .i64 ac, .int .i64 ar, .int .i64 ao, .slice x1 ans.length c1, .int .i64 anx, .int .i64 amd, .int .i64 alo]
          have hoX := ho9.turn7 tR (fun k hk e => by have := lo9 k hk; omega)
          have hnX := hN9.before tR (by intro i hi e; omega)
          refine hK.out undef _ hnX (fun _ => ?_)
          try simp only [Act.put, List.setIfInBounds_toArray, List.set_cons_zero, List.set_cons_succ]
          refine wpAnyH_done (by kernel_rfl) ?_ _
          generalize w9.setRow w1.heap.size #[.int .i64 ac, .int .i64 ar, .int .i64 ao, .slice x1 ans.length c1, .int .i64 anx, .int .i64 amd, .int .i64 alo] = wz at *
          clear tR
          have cX := bX.cells
          clear ho1 h1 hH
          by_cases h0 : ac = 0
          case neg =>
            have hne : (ac != 0) = true := by simpa using h0
            have HM : Hid (T.map Tv.r = expT q rs z t ((U.take (k + 1)).map Rv.r)) := by
              show _ = _
              rw [expT_skip HV.out (.inr (HNO.out (fun e => h0 e.1)))]
              exact HMP.out
            clear h0
            have nwZ := hnw.trans hnX
            have twZ := Turn.trans htw (hnX).turn (fun _ _ e => e)
            have howZ := (how.new (hnX)).up (hnX).size
            go_wp2
            go_roundw
            case rel => exact ⟨k + 1, T, by omega, by go_num, by have := HLK.out; omega, HM.out, nwZ, twZ, HOB.out, howZ⟩
            case measure => simp [intOf]; omega
          case pos =>
            subst h0
            obtain ⟨hin, hlm⟩ := HIN.out
            have hns1 := hoX.nsAt7 hin
            by_cases hfull : 6 ≤ ans.length
            case pos =>
              have HM : Hid (T.map Tv.r = expT q rs z t ((U.take (k + 1)).map Rv.r)) := by
                show _ = _
                rw [expT_skip HV.out (.inr (HNO.out (fun e => by omega)))]
                exact HMP.out
              go_wp2_with fail
              refine (l6E_full ao anx amd alo x1 ans.length c1 ans z t wz hfull hlm).mono ?_
              rintro e w5 ⟨rfl, hn5⟩
              have hn6 := (New.refl w5).alloc (.cells #[.int .i64 0, .slice none 0 0, .int .i64 0, .int .i64 0, .int .i64 0] 36)
              have nwz2 := (hnX.trans hn5).trans hn6
              go_upto_region 10 with fail
              generalize w5.alloc (.cells #[.int .i64 0, .slice none 0 0, .int .i64 0, .int .i64 0, .int .i64 0] 36) = w6 at *
              have nwZ := hnw.trans nwz2
              have twZ := Turn.trans htw (nwz2).turn (fun _ _ e => e)
              have howZ := (how.new (nwz2)).up (nwz2).size
              go_wp2
              go_roundw
              case rel => exact ⟨k + 1, T, by omega, by go_num, by have := HLK.out; omega, HM.out, nwZ, twZ, HOB.out, howZ⟩
              case measure => simp [intOf]; omega
            case neg =>
              have HMA : Hid (∀ u : Tv, u.r = ⟨a, l, ao, z :: ans, t, 0, 0⟩ → (T ++ [u]).map Tv.r = expT q rs z t ((U.take (k + 1)).map Rv.r)) := by
                intro u hu
                rw [expT_put HV.out HP.out (HYES.out ⟨rfl, by omega⟩), List.map_append, HMP.out]
                simp [hu]
              have HB2 : Hid ((∀ u ∈ z :: ans, In6 u) ∧ (z :: ans).length ≤ 1048576) := by
                refine ⟨fun u hu => ?_, by simp only [List.length_cons]; omega⟩
                rcases List.mem_cons.1 hu with e | hu
                · rw [e]
                  exact HZ6.out
                · exact hin u hu
              go_wp2_with fail
              refine (l6E_room ao anx amd alo x1 ans.length c1 ans z t wz hns1 rfl hlm hx1 HZ6.out (by omega)).mono ?_
              rintro e w5 ⟨g5, k5, rfl, ho5, hn5⟩
              have hn6b := (New.refl w5).alloc (.cells #[.int .i64 ao, .slice (some ⟨g5, 0, none⟩) (ans.length + 1) k5, .int .i64 t, .int .i64 0, .int .i64 0] 36)
              have b6 := Blk.mk w5 w5.heap.size 36 #[.int .i64 ao, .slice (some ⟨g5, 0, none⟩) (ans.length + 1) k5, .int .i64 t, .int .i64 0, .int .i64 0] rfl
              have hn6 := hn5.trans hn6b
              have hov : OvN (w5.alloc (.cells #[.int .i64 ao, .slice (some ⟨g5, 0, none⟩) (ans.length + 1) k5, .int .i64 t, .int .i64 0, .int .i64 0] 36)) wz.heap.size (Tv.pv (Tv.mk (Td.mk a l ao (z :: ans) t 0 0) (some ⟨g5, 0, none⟩) k5)) (z :: ans) := ho5.new hn6b
              clear cX hns1 hoX ho5
              go_upto_region 11 with fail
              generalize w5.alloc (.cells #[.int .i64 ao, .slice (some ⟨g5, 0, none⟩) (ans.length + 1) k5, .int .i64 t, .int .i64 0, .int .i64 0] 36) = w6 at *
              clear hfull hin
              have q1e := ((hnX.trans hn6).below.cell (World.block_lt_of_cell? _ _ q1)).trans q1
              have q2e := ((hnX.trans hn6).below.cell (World.block_lt_of_cell? _ _ q2)).trans q2
              have hne := hnX.trans hn6
              have how6 := how.new hne
              have htw6 := Turn.trans htw hne.turn (fun _ _ e => e)
              have hnw6 := hnw.trans hne
              have hD6 := how6.row
              have hbW : b < w2.heap.size ∧ ¬ b = w.heap.size := HB.out b off rfl
              have hrng : ∀ k, (Value.slice A4 T.length c4).ownBlock = some k → k < wr.heap.size := fun k hk => how.rhi k hk
              have hsz5 : wr.heap.size ≤ w5.heap.size := by have e1 := hnX.size; have e2 := hn5.size; omega
              have hsz6 := b6.lt
              have hwz : w.heap.size ≤ wr.heap.size := hnw.size
              have h2z : w2.heap.size ≤ wr.heap.size := htw.size
              clear how6
              refine hw_start (n := 11) (S := (fun X => X.cell? ⟨b, off + k * 8 + 1, none⟩ = some (.int .i64 a) ∧ X.cell? ⟨b, off + k * 8 + 2, none⟩ = some (.int .i64 l) ∧ Blk X w5.heap.size 36 #[.int .i64 ao, .slice (some ⟨g5, 0, none⟩) (ans.length + 1) k5, .int .i64 t, .int .i64 0, .int .i64 0])) rfl (by kernel_rfl) ⟨q1e, q2e, b6⟩ (fun hH => ?_)
              clear q1e q2e
              refine' hw_take 0 (some 58) _ rfl rfl (by kernel_rfl) (by kernel_rfl) (by kernel_rfl) (fun _ _ _ h => h) (by rfl) hH ?hy13 ?rest13
              case hy13 =>
                intro X hX
                go_simp
                try rfl
              simp only [Act.put, List.setIfInBounds_toArray, List.set_cons_zero, List.set_cons_succ]
              refine' hw_take 1 (some 59) _ rfl rfl (by kernel_rfl) (by kernel_rfl) (by kernel_rfl) (fun _ _ _ h => h) (by rfl) hH ?hy14 ?rest14
              case hy14 =>
                intro X hX
                go_simp
                try rfl
              simp only [Act.put, List.setIfInBounds_toArray, List.set_cons_zero, List.set_cons_succ]
              refine' hw_take 2 (some 60) _ rfl rfl (by kernel_rfl) (by kernel_rfl) (by kernel_rfl) (fun _ _ _ h => h) (by rfl) hH ?hy15 ?rest15
              case hy15 =>
                intro X hX
                go_simp
                try rfl
              simp only [Act.put, List.setIfInBounds_toArray, List.set_cons_zero, List.set_cons_succ]
              refine' hw_take 3 (some 61) _ rfl rfl (by kernel_rfl) (by kernel_rfl) (by kernel_rfl) (fun _ _ _ h => h) (by rfl) hH ?hy16 ?rest16
              case hy16 =>
                intro X hX
                go_simp
                try rfl
              simp only [Act.put, List.setIfInBounds_toArray, List.set_cons_zero, List.set_cons_succ]
              refine' hw_take 4 (some 62) _ rfl rfl (by kernel_rfl) (by kernel_rfl) (by kernel_rfl) (fun _ _ _ h => h) (by rfl) hH ?hy17 ?rest17
              case hy17 =>
                intro X hX
                go_simp
                try rfl
              simp only [Act.put, List.setIfInBounds_toArray, List.set_cons_zero, List.set_cons_succ]
              refine' hw_take 5 (some 63) _ rfl rfl (by kernel_rfl) (by kernel_rfl) (by kernel_rfl) (fun _ _ _ h => h) (by rfl) hH ?hy18 ?rest18
              case hy18 =>
                intro X hX
                obtain ⟨X1, X2, X3⟩ := hX
                go_simp
                try rfl
              simp only [Act.put, List.setIfInBounds_toArray, List.set_cons_zero, List.set_cons_succ]
              refine' hw_take 6 (some 64) _ rfl rfl (by kernel_rfl) (by kernel_rfl) (by kernel_rfl) (fun _ _ _ h => h) (by rfl) hH ?hy19 ?rest19
              case hy19 =>
                intro X hX
                obtain ⟨X1, X2, X3⟩ := hX
                have cX3 := X3.cells
                go_simp
                try rfl
              simp only [Act.put, List.setIfInBounds_toArray, List.set_cons_zero, List.set_cons_succ]
              refine' hw_take 7 (some 65) _ rfl rfl (by kernel_rfl) (by kernel_rfl) (by kernel_rfl) (fun _ _ _ h => h) (by rfl) hH ?hy20 ?rest20
              case hy20 =>
                intro X hX
                go_simp
                try rfl
              simp only [Act.put, List.setIfInBounds_toArray, List.set_cons_zero, List.set_cons_succ]
              refine hw_call 8 (some 66) rfl rfl (by kernel_rfl) (by rfl) (fun K hK => ?_)
              go_simp
              have aL := ((New.refl w6).alloc (.cells #[.int .i64 a, .int .i64 l, .int .i64 ao, .slice (some ⟨g5, 0, none⟩) (ans.length + 1) k5, .int .i64 t, .int .i64 0, .int .i64 0] 43)).drew
              have bL : Blk ((w6.alloc (.cells #[.int .i64 a, .int .i64 l, .int .i64 ao, .slice (some ⟨g5, 0, none⟩) (ans.length + 1) k5, .int .i64 t, .int .i64 0, .int .i64 0] 43)).drew) w6.heap.size 43 #[.int .i64 a, .int .i64 l, .int .i64 ao, .slice (some ⟨g5, 0, none⟩) (ans.length + 1) k5, .int .i64 t, .int .i64 0, .int .i64 0] := Blk.mk w6 w6.heap.size 43 #[.int .i64 a, .int .i64 l, .int .i64 ao, .slice (some ⟨g5, 0, none⟩) (ans.length + 1) k5, .int .i64 t, .int .i64 0, .int .i64 0] rfl
              generalize (w6.alloc (.cells #[.int .i64 a, .int .i64 l, .int .i64 ao, .slice (some ⟨g5, 0, none⟩) (ans.length + 1) k5, .int .i64 t, .int .i64 0, .int .i64 0] 43)).drew = wa9 at *
              have hrow3 := row_turn8 hD6 aL (fun _ _ f => f)
              have hH9 : (fun X => X.cell? ⟨b, off + k * 8 + 1, none⟩ = some (.int .i64 a) ∧ X.cell? ⟨b, off + k * 8 + 2, none⟩ = some (.int .i64 l) ∧ Blk X w5.heap.size 36 #[.int .i64 ao, .slice (some ⟨g5, 0, none⟩) (ans.length + 1) k5, .int .i64 t, .int .i64 0, .int .i64 0]) wa9 := ⟨(aL.below.cell (World.block_lt_of_cell? _ _ (show w6.cell? _ = _ from hH.1))).trans hH.1, (aL.below.cell (World.block_lt_of_cell? _ _ (show w6.cell? _ = _ from hH.2.1))).trans hH.2.1, (show Blk w6 w5.heap.size 36 #[.int .i64 ao, .slice (some ⟨g5, 0, none⟩) (ans.length + 1) k5, .int .i64 t, .int .i64 0, .int .i64 0] from hH.2.2).new aL⟩
              refine hK.out _ _ hH9 (fun hHb => ?_)
              simp only [Act.put, List.setIfInBounds_toArray, List.set_cons_zero, List.set_cons_succ]
              have hsz9 : w6.heap.size < wa9.heap.size := bL.lt
              have hsrc : ∀ j, wa9.cell? ⟨w6.heap.size, j, none⟩ = (Tv.mk (Td.mk a l ao (z :: ans) t 0 0) (some ⟨g5, 0, none⟩) k5).cs[j]? := by
                intro j
                have e := bL.cells j
                refine e.trans ?_
                unfold Tv.cs
                simp
              refine hw_call 9 (some 67) rfl rfl (by kernel_rfl) (by rfl) (fun K hK => ?_)
              refine hw_ap8 _ (.tmp 58) (.tmp 66) rfl rfl w.heap.size _ Tryz.underlying28 hi hz0 hz1 hz2 rfl _ T rfl hrow3 w6.heap.size (Tv.mk (Td.mk a l ao (z :: ans) t 0 0) (some ⟨g5, 0, none⟩) k5) rfl hsrc (by have := HLK.out; omega) (by omega) ?_
              intro v7 w7 hr7 hg7 hob
              have tA := Turn.grown7 hg7
              have how2 := (how.new hnX).up hnX.size
              have hO7 := Ow8.appended how2 (by have := hnX.size; omega) (hn5.trans hn6b) hov HB2.out.1 HB2.out.2 aL hr7 hg7
              have N7 : New w w7 := (hnw6.trans aL).grow hg7 (fun j hj => (row_rng8 hrow3 j hj).1)
              have tw7 := Turn.trans (Turn.trans htw6 aL.turn (fun _ _ e => e)) tA (fun k _ e => HOB.out k e)
              have HOB7 : Hid (∀ k, v7.ownBlock = some k → k = w.heap.size ∨ w2.heap.size ≤ k) := fun k hk => by
                rcases hob with e | e
                · rw [e] at hk
                  exact HOB.out k hk
                · rw [e] at hk
                  have e2 := Option.some.inj hk
                  have e3 : w6.heap.size ≤ k := by
                    have e4 : wa9.heap.size = k := e2
                    omega
                  omega
              have hH10 : (fun X => X.cell? ⟨b, off + k * 8 + 1, none⟩ = some (.int .i64 a) ∧ X.cell? ⟨b, off + k * 8 + 2, none⟩ = some (.int .i64 l) ∧ Blk X w5.heap.size 36 #[.int .i64 ao, .slice (some ⟨g5, 0, none⟩) (ans.length + 1) k5, .int .i64 t, .int .i64 0, .int .i64 0]) w7 := ⟨(World.cell?_of_block (tA.block b (World.block_lt_of_cell? _ _ hHb.1) (fun e => HB2b.out b e rfl))).trans hHb.1, (World.cell?_of_block (tA.block b (World.block_lt_of_cell? _ _ hHb.1) (fun e => HB2b.out b e rfl))).trans hHb.2.1, hHb.2.2.turn tA (fun e => by have := hrng _ e; omega)⟩
              clear hrow3 hsrc hD6 hg7
              refine hK.out _ _ hH10 (fun hHc => ?_)
              simp only [Act.put, List.setIfInBounds_toArray, List.set_cons_zero, List.set_cons_succ]
              refine' hw_take 10 (some 11) _ rfl rfl (by kernel_rfl) (by kernel_rfl) (by kernel_rfl) (fun _ _ _ h => h) (by rfl) hHc ?hy21 ?rest21
              case hy21 =>
                intro X hX
                go_simp
                try rfl
              simp only [Act.put, List.setIfInBounds_toArray, List.set_cons_zero, List.set_cons_succ]
              refine wpAnyH_done (by kernel_rfl) ?_ _
              clear hH hH9 hHb hH10 hHc bL tA
              go_wp2
              go_roundw
              case rel => exact ⟨k + 1, T ++ [(Tv.mk (Td.mk a l ao (z :: ans) t 0 0) (some ⟨g5, 0, none⟩) k5)], by omega, by go_num, by rw [List.length_append]; have := HLK.out; simp; omega, HMA.out _ rfl, N7, tw7, HOB7.out, hO7⟩
              case measure => simp [intOf]; omega
        case rb =>
          go_simp
          have hH0 := ((New.refl wr).alloc (.cells #[.int .i64 0, .int .i64 0, .int .i64 0, .slice none 0 0, .int .i64 0, .int .i64 0, .int .i64 0] 70)).drew
          have bz : Blk ((wr.alloc (.cells #[.int .i64 0, .int .i64 0, .int .i64 0, .slice none 0 0, .int .i64 0, .int .i64 0, .int .i64 0] 70)).drew) wr.heap.size 70 #[.int .i64 0, .int .i64 0, .int .i64 0, .slice none 0 0, .int .i64 0, .int .i64 0, .int .i64 0] := Blk.mk wr wr.heap.size 70 #[.int .i64 0, .int .i64 0, .int .i64 0, .slice none 0 0, .int .i64 0, .int .i64 0, .int .i64 0] rfl
          refine hK.out _ _ hH0 (fun hH => ?_)
          simp only [Act.put, List.setIfInBounds_toArray, List.set_cons_zero, List.set_cons_succ]
          generalize (wr.alloc (.cells #[.int .i64 0, .int .i64 0, .int .i64 0, .slice none 0 0, .int .i64 0, .int .i64 0, .int .i64 0] 70)).drew = w8 at *
          have bz8 := bz.lt
          refine hw_call 12 (some 45) rfl rfl (by kernel_rfl) (by rfl) (fun K hK => ?_)
          go_simp
          refine (hap.out _ hH).mono ?_
          rintro e w1 ⟨v1, rfl, ho1, h1⟩
          dsimp only at ho1 ⊢
          have hsl : ∃ x1 c1, v1 = .slice x1 ans.length c1 ∧ (x1 = none → ans.length = 0 ∧ c1 = 0) := ho1.sl rfl
          obtain ⟨x1, c1, rfl, hx1⟩ := hsl
          refine hK.out _ _ (hH.trans h1) (fun hH1 => ?_)
          simp only [Act.put, List.setIfInBounds_toArray, List.set_cons_zero, List.set_cons_succ]
          have bz1 := bz.new h1
          have hN9 := hH.trans h1
          have ho9 := ho1
          refine hw_call 14 none rfl rfl (by kernel_rfl) (by rfl) (fun K hK => ?_)
          refine hw_store 70 (.tmp 14) (.tmp 45) rfl rfl wr.heap.size #[.int .i64 ac, .int .i64 ar, .int .i64 ao, .slice x1 ans.length c1, .int .i64 anx, .int .i64 amd, .int .i64 alo] #[.int .i64 0, .int .i64 0, .int .i64 0, .slice none 0 0, .int .i64 0, .int .i64 0, .int .i64 0] rfl rfl bz1 (by kernel_rfl) rfl (by kernel_rfl) ?_
          have tR := Turn.rowW (Turn.refl (fun i => i = wr.heap.size) w1) rfl #[.int .i64 ac, .int .i64 ar, .int .i64 ao, .slice x1 ans.length c1, .int .i64 anx, .int .i64 amd, .int .i64 alo]
          have bX := bz1.rowW #[.int .i64 ac, .int .i64 ar, .int .i64 ao, .slice x1 ans.length c1, .int .i64 anx, .int .i64 amd, .int .i64 alo]
          have hoX := ho9.turn7 tR (fun k hk e => by have := ho9.rng7 k hk; omega)
          have hnX := hN9.before tR (by intro i hi e; omega)
          refine hK.out undef _ hnX (fun _ => ?_)
          try simp only [Act.put, List.setIfInBounds_toArray, List.set_cons_zero, List.set_cons_succ]
          refine wpAnyH_done (by kernel_rfl) ?_ _
          generalize w1.setRow wr.heap.size #[.int .i64 ac, .int .i64 ar, .int .i64 ao, .slice x1 ans.length c1, .int .i64 anx, .int .i64 amd, .int .i64 alo] = wz at *
          clear tR
          have cX := bX.cells
          clear ho1 h1 hH
          by_cases h0 : ac = 0
          case neg =>
            have hne : (ac != 0) = true := by simpa using h0
            have HM : Hid (T.map Tv.r = expT q rs z t ((U.take (k + 1)).map Rv.r)) := by
              show _ = _
              rw [expT_skip HV.out (.inr (HNO.out (fun e => h0 e.1)))]
              exact HMP.out
            clear h0
            have nwZ := hnw.trans hnX
            have twZ := Turn.trans htw (hnX).turn (fun _ _ e => e)
            have howZ := (how.new (hnX)).up (hnX).size
            go_wp2
            go_roundw
            case rel => exact ⟨k + 1, T, by omega, by go_num, by have := HLK.out; omega, HM.out, nwZ, twZ, HOB.out, howZ⟩
            case measure => simp [intOf]; omega
          case pos =>
            subst h0
            obtain ⟨hin, hlm⟩ := HIN.out
            have hns1 := hoX.nsAt7 hin
            by_cases hfull : 6 ≤ ans.length
            case pos =>
              have HM : Hid (T.map Tv.r = expT q rs z t ((U.take (k + 1)).map Rv.r)) := by
                show _ = _
                rw [expT_skip HV.out (.inr (HNO.out (fun e => by omega)))]
                exact HMP.out
              go_wp2_with fail
              refine (l6E_full ao anx amd alo x1 ans.length c1 ans z t wz hfull hlm).mono ?_
              rintro e w5 ⟨rfl, hn5⟩
              have hn6 := (New.refl w5).alloc (.cells #[.int .i64 0, .slice none 0 0, .int .i64 0, .int .i64 0, .int .i64 0] 36)
              have nwz2 := (hnX.trans hn5).trans hn6
              go_upto_region 10 with fail
              generalize w5.alloc (.cells #[.int .i64 0, .slice none 0 0, .int .i64 0, .int .i64 0, .int .i64 0] 36) = w6 at *
              have nwZ := hnw.trans nwz2
              have twZ := Turn.trans htw (nwz2).turn (fun _ _ e => e)
              have howZ := (how.new (nwz2)).up (nwz2).size
              go_wp2
              go_roundw
              case rel => exact ⟨k + 1, T, by omega, by go_num, by have := HLK.out; omega, HM.out, nwZ, twZ, HOB.out, howZ⟩
              case measure => simp [intOf]; omega
            case neg =>
              have HMA : Hid (∀ u : Tv, u.r = ⟨a, l, ao, z :: ans, t, 0, 0⟩ → (T ++ [u]).map Tv.r = expT q rs z t ((U.take (k + 1)).map Rv.r)) := by
                intro u hu
                rw [expT_put HV.out HP.out (HYES.out ⟨rfl, by omega⟩), List.map_append, HMP.out]
                simp [hu]
              have HB2 : Hid ((∀ u ∈ z :: ans, In6 u) ∧ (z :: ans).length ≤ 1048576) := by
                refine ⟨fun u hu => ?_, by simp only [List.length_cons]; omega⟩
                rcases List.mem_cons.1 hu with e | hu
                · rw [e]
                  exact HZ6.out
                · exact hin u hu
              go_wp2_with fail
              refine (l6E_room ao anx amd alo x1 ans.length c1 ans z t wz hns1 rfl hlm hx1 HZ6.out (by omega)).mono ?_
              rintro e w5 ⟨g5, k5, rfl, ho5, hn5⟩
              have hn6b := (New.refl w5).alloc (.cells #[.int .i64 ao, .slice (some ⟨g5, 0, none⟩) (ans.length + 1) k5, .int .i64 t, .int .i64 0, .int .i64 0] 36)
              have b6 := Blk.mk w5 w5.heap.size 36 #[.int .i64 ao, .slice (some ⟨g5, 0, none⟩) (ans.length + 1) k5, .int .i64 t, .int .i64 0, .int .i64 0] rfl
              have hn6 := hn5.trans hn6b
              have hov : OvN (w5.alloc (.cells #[.int .i64 ao, .slice (some ⟨g5, 0, none⟩) (ans.length + 1) k5, .int .i64 t, .int .i64 0, .int .i64 0] 36)) wz.heap.size (Tv.pv (Tv.mk (Td.mk a l ao (z :: ans) t 0 0) (some ⟨g5, 0, none⟩) k5)) (z :: ans) := ho5.new hn6b
              clear cX hns1 hoX ho5
              go_upto_region 11 with fail
              generalize w5.alloc (.cells #[.int .i64 ao, .slice (some ⟨g5, 0, none⟩) (ans.length + 1) k5, .int .i64 t, .int .i64 0, .int .i64 0] 36) = w6 at *
              clear hfull hin
              have q1e := ((hnX.trans hn6).below.cell (World.block_lt_of_cell? _ _ q1)).trans q1
              have q2e := ((hnX.trans hn6).below.cell (World.block_lt_of_cell? _ _ q2)).trans q2
              have hne := hnX.trans hn6
              have how6 := how.new hne
              have htw6 := Turn.trans htw hne.turn (fun _ _ e => e)
              have hnw6 := hnw.trans hne
              have hD6 := how6.row
              have hbW : b < w2.heap.size ∧ ¬ b = w.heap.size := HB.out b off rfl
              have hrng : ∀ k, (Value.slice A4 T.length c4).ownBlock = some k → k < wr.heap.size := fun k hk => how.rhi k hk
              have hsz5 : wr.heap.size ≤ w5.heap.size := by have e1 := hnX.size; have e2 := hn5.size; omega
              have hsz6 := b6.lt
              have hwz : w.heap.size ≤ wr.heap.size := hnw.size
              have h2z : w2.heap.size ≤ wr.heap.size := htw.size
              clear how6
              refine hw_start (n := 11) (S := (fun X => X.cell? ⟨b, off + k * 8 + 1, none⟩ = some (.int .i64 a) ∧ X.cell? ⟨b, off + k * 8 + 2, none⟩ = some (.int .i64 l) ∧ Blk X w5.heap.size 36 #[.int .i64 ao, .slice (some ⟨g5, 0, none⟩) (ans.length + 1) k5, .int .i64 t, .int .i64 0, .int .i64 0])) rfl (by kernel_rfl) ⟨q1e, q2e, b6⟩ (fun hH => ?_)
              clear q1e q2e
              refine' hw_take 0 (some 58) _ rfl rfl (by kernel_rfl) (by kernel_rfl) (by kernel_rfl) (fun _ _ _ h => h) (by rfl) hH ?hy22 ?rest22
              case hy22 =>
                intro X hX
                go_simp
                try rfl
              simp only [Act.put, List.setIfInBounds_toArray, List.set_cons_zero, List.set_cons_succ]
              refine' hw_take 1 (some 59) _ rfl rfl (by kernel_rfl) (by kernel_rfl) (by kernel_rfl) (fun _ _ _ h => h) (by rfl) hH ?hy23 ?rest23
              case hy23 =>
                intro X hX
                go_simp
                try rfl
              simp only [Act.put, List.setIfInBounds_toArray, List.set_cons_zero, List.set_cons_succ]
              refine' hw_take 2 (some 60) _ rfl rfl (by kernel_rfl) (by kernel_rfl) (by kernel_rfl) (fun _ _ _ h => h) (by rfl) hH ?hy24 ?rest24
              case hy24 =>
                intro X hX
                go_simp
                try rfl
              simp only [Act.put, List.setIfInBounds_toArray, List.set_cons_zero, List.set_cons_succ]
              refine' hw_take 3 (some 61) _ rfl rfl (by kernel_rfl) (by kernel_rfl) (by kernel_rfl) (fun _ _ _ h => h) (by rfl) hH ?hy25 ?rest25
              case hy25 =>
                intro X hX
                go_simp
                try rfl
              simp only [Act.put, List.setIfInBounds_toArray, List.set_cons_zero, List.set_cons_succ]
              refine' hw_take 4 (some 62) _ rfl rfl (by kernel_rfl) (by kernel_rfl) (by kernel_rfl) (fun _ _ _ h => h) (by rfl) hH ?hy26 ?rest26
              case hy26 =>
                intro X hX
                go_simp
                try rfl
              simp only [Act.put, List.setIfInBounds_toArray, List.set_cons_zero, List.set_cons_succ]
              refine' hw_take 5 (some 63) _ rfl rfl (by kernel_rfl) (by kernel_rfl) (by kernel_rfl) (fun _ _ _ h => h) (by rfl) hH ?hy27 ?rest27
              case hy27 =>
                intro X hX
                obtain ⟨X1, X2, X3⟩ := hX
                go_simp
                try rfl
              simp only [Act.put, List.setIfInBounds_toArray, List.set_cons_zero, List.set_cons_succ]
              refine' hw_take 6 (some 64) _ rfl rfl (by kernel_rfl) (by kernel_rfl) (by kernel_rfl) (fun _ _ _ h => h) (by rfl) hH ?hy28 ?rest28
              case hy28 =>
                intro X hX
                obtain ⟨X1, X2, X3⟩ := hX
                have cX3 := X3.cells
                go_simp
                try rfl
              simp only [Act.put, List.setIfInBounds_toArray, List.set_cons_zero, List.set_cons_succ]
              refine' hw_take 7 (some 65) _ rfl rfl (by kernel_rfl) (by kernel_rfl) (by kernel_rfl) (fun _ _ _ h => h) (by rfl) hH ?hy29 ?rest29
              case hy29 =>
                intro X hX
                go_simp
                try rfl
              simp only [Act.put, List.setIfInBounds_toArray, List.set_cons_zero, List.set_cons_succ]
              refine hw_call 8 (some 66) rfl rfl (by kernel_rfl) (by rfl) (fun K hK => ?_)
              go_simp
              have aL := ((New.refl w6).alloc (.cells #[.int .i64 a, .int .i64 l, .int .i64 ao, .slice (some ⟨g5, 0, none⟩) (ans.length + 1) k5, .int .i64 t, .int .i64 0, .int .i64 0] 43)).drew
              have bL : Blk ((w6.alloc (.cells #[.int .i64 a, .int .i64 l, .int .i64 ao, .slice (some ⟨g5, 0, none⟩) (ans.length + 1) k5, .int .i64 t, .int .i64 0, .int .i64 0] 43)).drew) w6.heap.size 43 #[.int .i64 a, .int .i64 l, .int .i64 ao, .slice (some ⟨g5, 0, none⟩) (ans.length + 1) k5, .int .i64 t, .int .i64 0, .int .i64 0] := Blk.mk w6 w6.heap.size 43 #[.int .i64 a, .int .i64 l, .int .i64 ao, .slice (some ⟨g5, 0, none⟩) (ans.length + 1) k5, .int .i64 t, .int .i64 0, .int .i64 0] rfl
              generalize (w6.alloc (.cells #[.int .i64 a, .int .i64 l, .int .i64 ao, .slice (some ⟨g5, 0, none⟩) (ans.length + 1) k5, .int .i64 t, .int .i64 0, .int .i64 0] 43)).drew = wa9 at *
              have hrow3 := row_turn8 hD6 aL (fun _ _ f => f)
              have hH9 : (fun X => X.cell? ⟨b, off + k * 8 + 1, none⟩ = some (.int .i64 a) ∧ X.cell? ⟨b, off + k * 8 + 2, none⟩ = some (.int .i64 l) ∧ Blk X w5.heap.size 36 #[.int .i64 ao, .slice (some ⟨g5, 0, none⟩) (ans.length + 1) k5, .int .i64 t, .int .i64 0, .int .i64 0]) wa9 := ⟨(aL.below.cell (World.block_lt_of_cell? _ _ (show w6.cell? _ = _ from hH.1))).trans hH.1, (aL.below.cell (World.block_lt_of_cell? _ _ (show w6.cell? _ = _ from hH.2.1))).trans hH.2.1, (show Blk w6 w5.heap.size 36 #[.int .i64 ao, .slice (some ⟨g5, 0, none⟩) (ans.length + 1) k5, .int .i64 t, .int .i64 0, .int .i64 0] from hH.2.2).new aL⟩
              refine hK.out _ _ hH9 (fun hHb => ?_)
              simp only [Act.put, List.setIfInBounds_toArray, List.set_cons_zero, List.set_cons_succ]
              have hsz9 : w6.heap.size < wa9.heap.size := bL.lt
              have hsrc : ∀ j, wa9.cell? ⟨w6.heap.size, j, none⟩ = (Tv.mk (Td.mk a l ao (z :: ans) t 0 0) (some ⟨g5, 0, none⟩) k5).cs[j]? := by
                intro j
                have e := bL.cells j
                refine e.trans ?_
                unfold Tv.cs
                simp
              refine hw_call 9 (some 67) rfl rfl (by kernel_rfl) (by rfl) (fun K hK => ?_)
              refine hw_ap8 _ (.tmp 58) (.tmp 66) rfl rfl w.heap.size _ Tryz.underlying28 hi hz0 hz1 hz2 rfl _ T rfl hrow3 w6.heap.size (Tv.mk (Td.mk a l ao (z :: ans) t 0 0) (some ⟨g5, 0, none⟩) k5) rfl hsrc (by have := HLK.out; omega) (by omega) ?_
              intro v7 w7 hr7 hg7 hob
              have tA := Turn.grown7 hg7
              have how2 := (how.new hnX).up hnX.size
              have hO7 := Ow8.appended how2 (by have := hnX.size; omega) (hn5.trans hn6b) hov HB2.out.1 HB2.out.2 aL hr7 hg7
              have N7 : New w w7 := (hnw6.trans aL).grow hg7 (fun j hj => (row_rng8 hrow3 j hj).1)
              have tw7 := Turn.trans (Turn.trans htw6 aL.turn (fun _ _ e => e)) tA (fun k _ e => HOB.out k e)
              have HOB7 : Hid (∀ k, v7.ownBlock = some k → k = w.heap.size ∨ w2.heap.size ≤ k) := fun k hk => by
                rcases hob with e | e
                · rw [e] at hk
                  exact HOB.out k hk
                · rw [e] at hk
                  have e2 := Option.some.inj hk
                  have e3 : w6.heap.size ≤ k := by
                    have e4 : wa9.heap.size = k := e2
                    omega
                  omega
              have hH10 : (fun X => X.cell? ⟨b, off + k * 8 + 1, none⟩ = some (.int .i64 a) ∧ X.cell? ⟨b, off + k * 8 + 2, none⟩ = some (.int .i64 l) ∧ Blk X w5.heap.size 36 #[.int .i64 ao, .slice (some ⟨g5, 0, none⟩) (ans.length + 1) k5, .int .i64 t, .int .i64 0, .int .i64 0]) w7 := ⟨(World.cell?_of_block (tA.block b (World.block_lt_of_cell? _ _ hHb.1) (fun e => HB2b.out b e rfl))).trans hHb.1, (World.cell?_of_block (tA.block b (World.block_lt_of_cell? _ _ hHb.1) (fun e => HB2b.out b e rfl))).trans hHb.2.1, hHb.2.2.turn tA (fun e => by have := hrng _ e; omega)⟩
              clear hrow3 hsrc hD6 hg7
              refine hK.out _ _ hH10 (fun hHc => ?_)
              simp only [Act.put, List.setIfInBounds_toArray, List.set_cons_zero, List.set_cons_succ]
              refine' hw_take 10 (some 11) _ rfl rfl (by kernel_rfl) (by kernel_rfl) (by kernel_rfl) (fun _ _ _ h => h) (by rfl) hHc ?hy30 ?rest30
              case hy30 =>
                intro X hX
                go_simp
                try rfl
              simp only [Act.put, List.setIfInBounds_toArray, List.set_cons_zero, List.set_cons_succ]
              refine wpAnyH_done (by kernel_rfl) ?_ _
              clear hH hH9 hHb hH10 hHc bL tA
              go_wp2
              go_roundw
              case rel => exact ⟨k + 1, T ++ [(Tv.mk (Td.mk a l ao (z :: ans) t 0 0) (some ⟨g5, 0, none⟩) k5)], by omega, by go_num, by rw [List.length_append]; have := HLK.out; simp; omega, HMA.out _ rfl, N7, tw7, HOB7.out, hO7⟩
              case measure => simp [intOf]; omega


end Go.Proofs.YtjampcfikfafkaaGreat

namespace Go.Proofs.YtjampcfikfafkaaGreat
open Go.RowKit Go.Sort
set_option linter.unusedVariables false
set_option linter.unusedSimpArgs false
set_option maxRecDepth 100000

set_option maxHeartbeats 12800000 in
theorem specET (A : Option Addr) (N cc : Nat) (V : List Rv) (q : Int) (y : Option Addr) (rn rk : Nat) (rs : List Ru) (z t : Int) (w : World) (h : RtAt w A V) (hn : V.length = N) (hm : N ≤ 1048576) (hr : RsAt w y rs) (hrn : rs.length = rn) (hrm : rn ≤ 1048576) :
    Calls Tryz.prog 8 #[.slice A N cc, .int .i64 q, .slice y rn rk, .int .i64 z, .int .i64 t] w (XAns w (V.map Rv.r) q rs z t) := by
  have HN : Hid (V.length = N) := hn
  have HRN : Hid (rs.length = rn) := hrn
  have HA : Hid (∀ X, New w X → RtAt X A V) := fun X hX => h.new hX
  have HRS : Hid (∀ X, New w X → RsAt X y rs) := fun X hX => hr.new hX
  have N0 : New w (w.alloc (.cells #[.int .i64 0, .slice none 0 0] 30)) := (New.refl w).alloc _
  have bB := Blk.mk w w.heap.size 30 #[.int .i64 0, .slice none 0 0] rfl
  obtain ⟨f, hf⟩ : ∃ f, Hid (ribF (V.map Rv.r) = f) := ⟨_, rfl⟩
  obtain ⟨f2, hf2⟩ : ∃ f2, Hid (rsf rs = f2) := ⟨_, rfl⟩
  clear h hn hr hrn
  go_enter Tryz.func8, Tryz.ntmps8
  go_upto_region 1 with fail
  generalize w.alloc (.cells #[.int .i64 0, .slice none 0 0] 30) = w0 at *
  go_wp2_with fail
  refine (specRib A N cc V f _ (HA.out _ N0) HN.out hm hf.out).mono ?_
  rintro e w1 ⟨rfl, h1⟩
  have b1 := bB.new h1
  have n1 := N0.trans h1
  have lt1 := b1.lt
  clear bB h1 N0
  by_cases h0 : f = 0
  case neg =>
    have hne : (f != 0) = true := by simpa using h0
    have e1 := (exf_1 (q := q) (rs := rs) (z := z) (t := t) (show ¬ ribF (V.map Rv.r) = 0 by rw [hf.out]; exact h0)).trans hf.out
    have HB : Hid (¬ exf (V.map Rv.r) q rs z t = 0 ∧ f = exf (V.map Rv.r) q rs z t) := ⟨by rw [e1]; first | exact h0 | decide, e1.symm⟩
    have c1 := b1.cells
    have f1 := b1.frees
    clear hf hf2
    go_wp2
    exact bodyPost_ret (v := .agg #[.int .i64 f, .slice none 0 0]) (by simp [results, Tryz.results8, go_sem, c1]) rfl (XAns.bad HB.out n1 (by omega))
  subst h0
  by_cases hq : Pe q
  case neg =>
    go_wp2_with fail
    refine (speer_no q _ hq).mono ?_
    rintro e w2 ⟨rfl, rfl⟩
    have e1 := exf_2 (rs := rs) (z := z) (t := t) hf.out hq
    have HB : Hid (¬ exf (V.map Rv.r) q rs z t = 0 ∧ 3 = exf (V.map Rv.r) q rs z t) := ⟨by rw [e1]; first | exact h0 | decide, e1.symm⟩
    have c1 := b1.cells
    have f1 := b1.frees
    clear hf hf2
    go_wp2
    exact bodyPost_ret (v := .agg #[.int .i64 3, .slice none 0 0]) (by simp [results, Tryz.results8, go_sem, c1]) rfl (XAns.bad HB.out n1 (by omega))
  go_wp2_with fail
  refine (speer_yes q _ hq).mono ?_
  rintro e w2 ⟨rfl, rfl⟩
  go_wp2_with fail
  have hcr := specRSF y rn rk rs _ (HRS.out _ n1) HRN.out hrm
  rw [hf2.out] at hcr
  refine hcr.mono ?_
  rintro e w3 ⟨rfl, h3⟩
  have b3 := b1.new h3
  have n3 := n1.trans h3
  have lt3 := b3.lt
  clear hcr b1 n1 h3
  by_cases h0 : f2 = 0
  case neg =>
    have hne : (f2 != 0) = true := by simpa using h0
    have e1 := (exf_3 (z := z) (t := t) hf.out hq (show ¬ rsf rs = 0 by rw [hf2.out]; exact h0)).trans hf2.out
    have HB : Hid (¬ exf (V.map Rv.r) q rs z t = 0 ∧ f2 = exf (V.map Rv.r) q rs z t) := ⟨by rw [e1]; first | exact h0 | decide, e1.symm⟩
    have c1 := b3.cells
    have f1 := b3.frees
    clear hf hf2
    go_wp2
    exact bodyPost_ret (v := .agg #[.int .i64 f2, .slice none 0 0]) (by simp [results, Tryz.results8, go_sem, c1]) rfl (XAns.bad HB.out n3 (by omega))
  subst h0
  by_cases hz : 1 ≤ z ∧ z ≤ 65535
  case neg =>
    go_wp2_with fail
    refine (in_no z 1 65535 _ (by omega)).mono ?_
    rintro e w4 ⟨rfl, rfl⟩
    have e1 := exf_4 hf.out hq hf2.out (fun hh : (1 ≤ z ∧ z ≤ 65535) ∧ (0 ≤ t ∧ t ≤ 65535) => hz hh.1)
    have HB : Hid (¬ exf (V.map Rv.r) q rs z t = 0 ∧ 3 = exf (V.map Rv.r) q rs z t) := ⟨by rw [e1]; first | exact h0 | decide, e1.symm⟩
    have c1 := b3.cells
    have f1 := b3.frees
    clear hf hf2
    go_wp2
    exact bodyPost_ret (v := .agg #[.int .i64 3, .slice none 0 0]) (by simp [results, Tryz.results8, go_sem, c1]) rfl (XAns.bad HB.out n3 (by omega))
  by_cases ht : 0 ≤ t ∧ t ≤ 65535
  case neg =>
    go_wp2_with fail
    refine (in_yes z 1 65535 _ hz).mono ?_
    rintro e w4 ⟨rfl, rfl⟩
    go_wp2_with fail
    refine (l2A_no t _ (by omega)).mono ?_
    rintro e w5 ⟨rfl, rfl⟩
    have e1 := exf_4 hf.out hq hf2.out (fun hh : (1 ≤ z ∧ z ≤ 65535) ∧ (0 ≤ t ∧ t ≤ 65535) => ht hh.2)
    have HB : Hid (¬ exf (V.map Rv.r) q rs z t = 0 ∧ 3 = exf (V.map Rv.r) q rs z t) := ⟨by rw [e1]; first | exact h0 | decide, e1.symm⟩
    have c1 := b3.cells
    have f1 := b3.frees
    clear hf hf2
    go_wp2
    exact bodyPost_ret (v := .agg #[.int .i64 3, .slice none 0 0]) (by simp [results, Tryz.results8, go_sem, c1]) rfl (XAns.bad HB.out n3 (by omega))
  have HF : Hid (exf (V.map Rv.r) q rs z t = 0) := exf_5 hf.out hq hf2.out ⟨hz, ht⟩
  go_wp2_with fail
  refine (in_yes z 1 65535 _ hz).mono ?_
  rintro e w4 ⟨rfl, rfl⟩
  go_wp2_with fail
  refine (l2A_yes t _ ht).mono ?_
  rintro e w5 ⟨rfl, rfl⟩
  go_wp2_with fail
  refine (l8E_any A N cc V q y rn rk rs z t _ (HA.out _ n3) HN.out hm (HRS.out _ n3) HRN.out hrm HF.out).mono ?_
  rintro e w6 ⟨u, T, U, rfl, how, hall, hmap, h6⟩
  have HALL : Hid (AllOk (V.map Rv.r) U) := hall
  have HMAP : Hid (T.map Tv.r = expT q rs z t U) := hmap
  have b6 := b3.new h6
  have n6 := n3.trans h6
  obtain ⟨A4, c4, rfl, -, -⟩ := how.form
  clear hall hmap h6 b3 n3 hf hf2
  have c1 := b6.cells
  have f1 := b6.frees
  go_wp2
  exact bodyPost_ret (v := .agg #[.int .i64 0, .slice A4 T.length c4]) (by simp [results, Tryz.results8, go_sem, c1]) rfl (XAns.good HF.out HALL.out HMAP.out n6 (Nat.le_refl _) how (by omega) rfl)

end Go.Proofs.YtjampcfikfafkaaGreat
