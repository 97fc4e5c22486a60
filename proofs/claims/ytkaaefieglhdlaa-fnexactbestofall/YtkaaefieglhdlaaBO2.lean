/- What is proved here: what the program's BestOfAll answers of a list without a fault. What is proved here: what the program's BestOfAll answers of any list. What is proved here: how an argument that is a list of prefixes comes in. No condition. What is proved here: how an argument that is attributes or an update comes in. No condition. What is proved here: how an argument that is a route or a list of routes comes in. No condition. What is proved here: what the counting, the copying and the comparing of lists of routes answer, for every list of at most 1048576 routes with paths of at most 1048576 numbers. What is proved here: what the marking of lists of routes leaves and what the looking for marks answers, for lists of at most 1048576 routes with paths of at most 1048576 numbers. What is proved here: what the looking for marks in lists of routes and what the comparing, the marking and the looking for marks of answers with routes answer, for lists of at most 1048576 routes with paths of at most 1048576 numbers. -/
import Derived.Test.YtkaaefieglhdlaaBO1
import Derived.Maps.OwnIn
import Derived.Test.YtkaaefieglhdlaaPsFn
import Derived.Deep.SlicePairs
import Derived.Test.YtkaaefieglhdlaaAtLaw
import Derived.Test.YtkaaefieglhdlaaR7Lib
import Derived.Test.YtkaaefieglhdlaaR7Own
import Derived.Deep.CutRange
namespace Go.Proofs.Ytkaaefieglhdlaa
open Go.RowKit Go.Sort Go.Shelf
set_option linter.unusedVariables false
set_option linter.unusedSimpArgs false
set_option maxRecDepth 100000
attribute [local go_sem] Oper.semAt_some

theorem pair_len : ∀ (U R : List Rt), U.Pairwise pLt → (∀ x ∈ U, x ∈ R) → U.length ≤ R.length
  | [], R, _, _ => Nat.zero_le _
  | x :: xs, R, hp, hs => by
    rw [List.pairwise_cons] at hp
    obtain ⟨A, B, rfl⟩ := List.append_of_mem (hs x (List.mem_cons_self ..))
    have h := pair_len xs (A ++ B) hp.2 (fun y hy => by
      have h1 := hs y (List.mem_cons_of_mem _ hy)
      have h2 := hp.1 y hy
      rcases List.mem_append.1 h1 with h1 | h1
      · exact List.mem_append_left _ h1
      · rcases List.mem_cons.1 h1 with h1 | h1
        · subst h1
          unfold pLt at h2
          omega
        · exact List.mem_append_right _ h1)
    simp only [List.length_append, List.length_cons] at h ⊢
    omega
theorem TopOk.len {P : List Rv} {U : List Rt} (h : TopOk P U) : U.length ≤ P.length := by
  have := pair_len U (P.map Rv.r) h.srt (fun x hx => by obtain ⟨v, hv, rfl⟩ := h.mem x hx; exact List.mem_map_of_mem hv)
  simpa using this

theorem wpListIn_apT8 {F : Fence} {nF : Nat} {ops : Array Oper} {rest : List Oper} {o : Oper} {a : Act} {Q : Exit → Act → World → Prop} {t e : TypeId} {i : TypeInfo} (w : World) (hgd : o.guard = none) (s x : Operand)
    (ho : o.op = .call { callee := .builtin .append, args := #[s, x], argTypes := #[t, t] }) (base : Nat) (zero : Value) (ht : Try.prog.underlying t = some (.slice e)) (hi : Try.prog.info? e = some i) (hz : i.zero = some zero) (hs : i.size = 8) (hb : i.bytes = 80) (hz1 : zero.cells.size = 8)
    (v : Value) (rs : List Rv) (hsv : a.eval s = v) (hown : w.ownsRow base e 8 v rs.length (cellsT rs))
    (L : Nat) (r : Rv) (hxv : a.eval x = .slice (some ⟨L, 0, none⟩) 1 1) (hsrc : ∀ j, w.cell? ⟨L, j, none⟩ = r.cs[j]?) (hle : rs.length + 1 ≤ 4194304) (hbase : base ≤ w.heap.size)
    (h : ∀ v' w', w'.ownsRow base e 8 v' (rs ++ [r]).length (cellsT (rs ++ [r])) → w.grownBy w' v.ownBlock → (v'.ownBlock = v.ownBlock ∨ v'.ownBlock = some w.heap.size) → wpListIn F nF Try.prog ops Q rest (a.put o.dst v') w') : wpListIn F nF Try.prog ops Q (o :: rest) a w := by
  have hnews : ∀ j u, r.cs[j]? = some u → w.cell? ((⟨L, 0, none⟩ : Addr).add j) = some u := by
    intro j u hu
    rw [Addr.add_lit, Nat.zero_add, hsrc j, hu]
  refine wpListIn_append_own_at w hgd s x t ho base e i zero 8 80 ht hi hz hs hb hz1 (by decide) v rs.length (cellsT rs) hsv hown ⟨L, 0, none⟩ 1 1 r.cs hxv rfl hnews (by simp [Rv.cs, Value.oneCell']) (by unfold maxLen; omega) (by omega) hbase ?_
  intro v' w' h2 h3 _ h5
  exact h v' w' (by rw [cellsT_snoc]; simpa using h2) h3 h5

theorem HpAt.turn8 {w w' : World} {H b c : Nat} {V : List Rv} {S : Nat → Prop} (h : HpAt w H b c V) (t : Turn S w w') (hH : ¬ S H) (hb : ¬ S b) (hp : ∀ v ∈ V, ∀ x, v.r.xs ≠ [] → v.x = some x → ¬ S x.block) : HpAt w' H b c V :=
  ⟨h.hd.turn t hH, h.row.turn t hb, fun v hv => (h.here v hv).turn t (fun x h1 h2 => hp v hv x h1 h2), h.ne, h.far⟩

set_option maxHeartbeats 12800000 in
theorem implAll_ok (A : Option Addr) (N cc : Nat) (V : List Rv) (w : World) (h : RtAt w A V) (hn : V.length = N) (hm : N ≤ 1048576) (hf : ribF (V.map Rv.r) = 0) :
    Calls Try.prog 16 #[.slice A N cc] w (AAns w (V.map Rv.r)) := by
  have HN : Hid (V.length = N) := hn
  have HFA : Hid (ribF (V.map Rv.r) = 0) := hf
  have HA : Hid (∀ X, New w X → RtAt X A V) := fun X hX => h.new hX
  have N0 : New w (w.alloc (.cells #[.int .i64 0, .slice none 0 0] 44)) := (New.refl w).alloc _
  have bB := Blk.mk w w.heap.size 44 #[.int .i64 0, .slice none 0 0] rfl
  have hmf : ∀ (fn : Fn) (first cap : Array Value) (w : World), (Instr.makeFunc fn first cap).run Try.prog w = .ok (.func fn first cap) w := fun _ _ _ _ => rfl
  have ltB := bB.lt
  obtain ⟨i0, hi, hz0, hz1, hz2⟩ := info_parts Try.infoRt
  clear h hn hf
  refine (callsIn_wide (n := 4)).1 ?_
  refine callsIn_of_wp_marks Try.func16 rfl trivial ?_ rfl
  simp only [Try.ntmps16, List.size_toArray, List.length_cons, List.length_nil, Nat.reduceAdd, Nat.reduceSub, Array.replicate_succ, Array.replicate_zero, List.push_toArray, List.append_toArray, List.nil_append, List.cons_append]
  gi_wp2_with fail
  refine ⟨trivial, ?_⟩
  refine (callsIn_wide.2 (implRib A N cc V 0 _ (HA.out _ N0) HN.out hm HFA.out)).mono ?_
  generalize w.alloc (.cells #[.int .i64 0, .slice none 0 0] 44) = w0 at *
  rintro e w1 ⟨rfl, h1⟩
  have b1 := bB.new h1
  have n1 := N0.trans h1
  have lt1 := b1.lt
  clear bB h1 N0
  have bT := Blk.mk w1 w1.heap.size 35 #[.slice none 0 0] rfl
  have aT := (New.refl w1).alloc (.cells #[.slice none 0 0] 35)
  gi_wp2_with fail
  refine ⟨trivial, ?_⟩
  refine (callsIn_wide.2 (copyRoutes_any A N cc V _ (HA.out _ (n1.trans aT)) HN.out hm)).mono ?_
  rintro e w3 ⟨u3, V', rfl, hv3, ho3, h3⟩
  obtain ⟨A3, c3, rfl, hr3, -⟩ := ho3.form
  have b3 := (b1.new aT).new h3
  have bT3 := bT.new h3
  have n3 := (n1.trans aT).trans h3
  have z3 := h3.size
  have z2 := aT.size
  have ltT := bT.lt
  have hl3 : V'.length ≤ N := by
    have e := congrArg List.length hv3
    rw [List.length_map, List.length_map, HN.out] at e
    omega
  have HV3 : Hid (V'.map Rv.r = V.map Rv.r) := hv3
  clear hv3 b1 n1 bT aT h3
  gi_wp2_with fail
  refine ⟨trivial, ?_⟩
  refine (callsIn_wide.2 (heapOf_any A3 V'.length c3 V' _ hr3 rfl (by omega))).mono ?_
  rintro e w4 ⟨H, V4, rfl, hs4, hp4, hk4, h4⟩
  gi_wp2_with fail
  have b4 := b3.new h4
  have bT4' := bT3.new h4
  have n4 := n3.trans h4
  have z4 := h4.size
  have lt4 := b4.lt
  have ltT4 := bT4'.lt
  have ltT3 := bT3.lt
  have lt3 := b3.lt
  have H4 : Hid (New w3 w4) := h4
  clear b3 h4 bT3
  obtain ⟨b, c, hp, hlb, hlH, hfar⟩ := hs4
  have ltb := hp.row.lt
  have ltH := hp.hd.lt
  have HB4 : Hid (Blk w4 w.heap.size 44 #[.int .i64 0, .slice none 0 0]) := b4
  have HT4 : Hid (Blk w4 w1.heap.size 35 #[.slice none 0 0]) := bT4'
  clear b4 bT4'
  refine wpIn_range8 (v0 := .pointer (some ⟨H, 0, none⟩)) rfl (by omega) (gf := 31) rfl trivial (enters_of Try.func31 (by kernel_rfl) rfl) ?_
  intro fn W1 rec hfn hN1 hsz hrec hl hd
  have hl4 : V4.length ≤ 1048576 := by have := hp4.length_eq; omega
  refine (top8_all (w4.heap.size + 1) H b c V4 W1 (fun pre X => X.heap[w4.heap.size + 1]? = some (.loop rec) ∧ X.heap[w4.heap.size]? = some (.deferred (some [])) ∧ Blk X w.heap.size 44 #[.int .i64 0, .slice none 0 0] ∧ Turn (fun k => k = b ∨ k = H ∨ k = w1.heap.size ∨ w4.heap.size ≤ k) w4 X ∧ ∃ u U, Blk X w1.heap.size 35 #[u] ∧ X.ownsRow W1.heap.size 31 8 u U.length (cellsT U) ∧ TopOk pre (U.map Rv.r) ∧ (∀ v ∈ U, v ∈ V4) ∧ U.length ≤ V4.length) (hp.new hN1) hl4 (by rw [hp4.length_eq]; exact hk4) ?start ?turn ?round).mono ?behind
  case start => exact ⟨hl, hd, HB4.out.new hN1, hN1.turn, .slice none 0 0, [], HT4.out.new hN1, ⟨rfl, .inl ⟨rfl, rfl⟩⟩, TopOk.nil, (by intro v hv; cases hv), Nat.zero_le _⟩
  case turn =>
    rintro pre X Y ⟨j1, j2, j3, j4, u, U, j5, j6, j7, j8, j9⟩ t
    have s4 := j4.size
    have sT := j5.lt
    have s3 := j3.lt
    have g1 : w4.heap.size + 1 < X.heap.size := (Array.getElem?_eq_some_iff.1 j1).1
    refine ⟨(t.block _ g1 (by omega)).trans j1, (t.block _ (by omega) (by omega)).trans j2, j3.turn t (by omega), Turn.trans j4 t (fun k _ e => by omega), u, U, j5.turn t (by omega), row_turn7 j6 t (fun k hk e => by have := (row_rng7 j6 k hk).1; omega), j7, j8, j9⟩
  case round =>
    rintro pre xv RR X hperm hxy hpw ⟨j1, j2, j3, j4, u, U, j5, j6, j7, j8, j9⟩ hpR
    have HV4L : Hid (V4.length ≤ 1048576) := hl4
    obtain ⟨AU, cU, hu5⟩ : ∃ AU cU, u = .slice AU U.length cU := by
      rcases row_form7 j6 with ⟨e1, e2⟩ | ⟨g, c2, e1, -⟩
      · subst e2
        exact ⟨none, 0, e1⟩
      · exact ⟨_, _, e1⟩
    subst hu5
    have s4 := j4.size
    have g1 : w4.heap.size + 1 < X.heap.size := (Array.getElem?_eq_some_iff.1 j1).1
    have hxV : xv ∈ V4 := hperm.mem_iff.1 (by simp)
    have hRV : ∀ v ∈ RR, v ∈ V4 := fun v hv => hperm.mem_iff.1 (by simp [hv])
    have hUlen : U.length ≤ pre.length → U.length + 1 ≤ V4.length := fun e => by have := hperm.length_eq; rw [List.length_append, List.length_cons] at this; omega
    have HX : Hid (xv ∈ V4) := hxV
    have HJ7 : Hid (TopOk pre (U.map Rv.r)) := j7
    have HJ8 : Hid (∀ v ∈ U, v ∈ V4) := j8
    have HXY : Hid (∀ y ∈ pre, ¬ hlt xv y) := hxy
    have HFR : Hid (∀ v ∈ RR, ∀ x, v.r.xs ≠ [] → v.x = some x → w1.heap.size < x.block ∧ x.block < w3.heap.size) := fun v hv x h1 h2 => by
      have e1 := hfar v (hRV v hv) x h1 h2
      have e2 := (ho3.path.own v (hp4.mem_iff.1 (hRV v hv))).rng7 x.block (by unfold Rv.pv; rw [h2]; rfl)
      omega
    have HHX : Hid (H ≠ w1.heap.size ∧ b ≠ w1.heap.size) := ⟨by omega, by omega⟩
    obtain ⟨rb, hrb⟩ : ∃ rb : Loop, rb = { rec with state := .busy } := ⟨_, rfl⟩
    obtain ⟨rn, hrn⟩ : ∃ rn : Loop, Hid (rn = rec) := ⟨_, rfl⟩
    have hrb2 : Hid (({ rb with state := .ready, pending := none } : Loop) = rn) := by unfold Hid; rw [hrn.out, hrb, hrec]
    have HEND : Hid (∀ Y : World, Y.heap[w4.heap.size + 1]? = some (.loop rb) → (Instr.endRound (w4.heap.size + 1) none).run Try.prog Y = .ok (.bool true) (Y.putObj (w4.heap.size + 1) (.loop rn))) := fun Y hY => by
      have h := run_endRound (P := Try.prog) none hY
      rw [← hrb2.out]
      exact h
    have HRN : Hid (∀ Y : World, Y.heap[w4.heap.size + 1]? = some (.loop rn) → Y.heap[w4.heap.size + 1]? = some (.loop rec)) := fun Y h => by rw [← hrn.out]; exact h
    have HFIN : Hid (∀ (Y : World) (U2 : List Rv) (u2 : Value), Y.heap[w4.heap.size + 1]? = some (.loop rb) → Y.heap[w4.heap.size]? = some (.deferred (some [])) → Blk Y w.heap.size 44 #[.int .i64 0, .slice none 0 0] → Turn (fun k => k = w1.heap.size ∨ w4.heap.size ≤ k) X Y → Blk Y w1.heap.size 35 #[u2] → Y.ownsRow W1.heap.size 31 8 u2 U2.length (cellsT U2) → TopOk (pre ++ [xv]) (U2.map Rv.r) → (∀ v ∈ U2, v ∈ V4) → U2.length ≤ V4.length → HpAt Y H b c RR →
      ((Y.putObj (w4.heap.size + 1) (.loop rn)).heap[w4.heap.size + 1]? = some (.loop rec) ∧ (Y.putObj (w4.heap.size + 1) (.loop rn)).heap[w4.heap.size]? = some (.deferred (some [])) ∧ Blk (Y.putObj (w4.heap.size + 1) (.loop rn)) w.heap.size 44 #[.int .i64 0, .slice none 0 0] ∧ Turn (fun k => k = b ∨ k = H ∨ k = w1.heap.size ∨ w4.heap.size ≤ k) w4 (Y.putObj (w4.heap.size + 1) (.loop rn)) ∧ ∃ u U, Blk (Y.putObj (w4.heap.size + 1) (.loop rn)) w1.heap.size 35 #[u] ∧ (Y.putObj (w4.heap.size + 1) (.loop rn)).ownsRow W1.heap.size 31 8 u U.length (cellsT U) ∧ TopOk (pre ++ [xv]) (U.map Rv.r) ∧ (∀ v ∈ U, v ∈ V4) ∧ U.length ≤ V4.length) ∧ HpAt (Y.putObj (w4.heap.size + 1) (.loop rn)) H b c RR) := by
      intro Y U2 u2 k1 k2 k3 k4 k5 k6 k7 k8 k9 k10
      have ltY : w4.heap.size + 1 < Y.heap.size := (Array.getElem?_eq_some_iff.1 k1).1
      have tp : Turn (fun k => k = w4.heap.size + 1) Y (Y.putObj (w4.heap.size + 1) (.loop rn)) := (turn_of_grown8 (grownBy_putObj' Y (w4.heap.size + 1) (.loop rn))).mono (fun k _ e => (Option.some.inj e).symm)
      refine ⟨⟨HRN.out _ (World.putObj_heap_same ltY), (World.putObj_heap_other (by omega)).trans k2, k3.turn tp (by omega), Turn.trans (Turn.trans j4 k4 (fun k _ e => by omega)) tp (fun k _ e => by omega), u2, U2, k5.turn tp (by omega), row_turn7 k6 tp (fun k hk e => by have h1 := (row_rng7 k6 k hk).1; omega), k7, k8, k9⟩, k10.turn8 tp (by omega) (by omega) (fun v hv y h1 h2 e => by have := HFR.out v hv y h1 h2; omega)⟩
    obtain ⟨⟨p, a, l, o, xs, nx, md, lc⟩, x, d⟩ := xv
    refine yield8 (rec := rec) (by subst hrec; exact hfn) j1 (by subst hrec; rfl) ?_
    have HB' : Hid (rb = { rec with state := .busy }) := hrb
    have hbeg : ∀ (Y : World), Y.heap[w4.heap.size + 1]? = some (.loop rec) → (Instr.beginRound (w4.heap.size + 1)).run Try.prog Y = .ok () (Y.putObj (w4.heap.size + 1) (.loop rb)) := fun Y hY => by rw [hrb]; exact run_beginRound hY (by subst hrec; rfl)
    have HBEG := hbeg
    subst hrec
    dsimp only
    unfold Rv.val
    dsimp only
    gi_wp2
    have aR := (New.refl X).alloc (.cells #[.int .i64 p, .int .i64 a, .int .i64 l, .int .i64 o, .slice x xs.length d, .int .i64 nx, .int .i64 md, .int .i64 lc] 31)
    have bR := Blk.mk X X.heap.size 31 #[.int .i64 p, .int .i64 a, .int .i64 l, .int .i64 o, .slice x xs.length d, .int .i64 nx, .int .i64 md, .int .i64 lc] rfl
    have j1a := (aR.block _ g1 (fun f => f)).trans j1
    have hbx := HBEG _ j1a
    refine ⟨_, hbx, ?_⟩
    clear hbeg HBEG hrb hbx
    have hl4 : ((X.alloc (.cells #[.int .i64 p, .int .i64 a, .int .i64 l, .int .i64 o, .slice x xs.length d, .int .i64 nx, .int .i64 md, .int .i64 lc] 31)).putObj (w4.heap.size + 1) (.loop rb)).heap[w4.heap.size + 1]? = some (.loop rb) := World.putObj_heap_same (by have := aR.size; omega)
    have tl : Turn (fun k => k = w4.heap.size + 1) X ((X.alloc (.cells #[.int .i64 p, .int .i64 a, .int .i64 l, .int .i64 o, .slice x xs.length d, .int .i64 nx, .int .i64 md, .int .i64 lc] 31)).putObj (w4.heap.size + 1) (.loop rb)) := Turn.trans aR.turn ((turn_of_grown8 (grownBy_putObj' (X.alloc (.cells #[.int .i64 p, .int .i64 a, .int .i64 l, .int .i64 o, .slice x xs.length d, .int .i64 nx, .int .i64 md, .int .i64 lc] 31)) (w4.heap.size + 1) (.loop rb))).mono (fun k _ e => (Option.some.inj e).symm)) (fun _ _ e => e)
    have bR4 : Blk ((X.alloc (.cells #[.int .i64 p, .int .i64 a, .int .i64 l, .int .i64 o, .slice x xs.length d, .int .i64 nx, .int .i64 md, .int .i64 lc] 31)).putObj (w4.heap.size + 1) (.loop rb)) X.heap.size 31 #[.int .i64 p, .int .i64 a, .int .i64 l, .int .i64 o, .slice x xs.length d, .int .i64 nx, .int .i64 md, .int .i64 lc] := (World.putObj_heap_other (by omega)).trans bR
    generalize (X.alloc (.cells #[.int .i64 p, .int .i64 a, .int .i64 l, .int .i64 o, .slice x xs.length d, .int .i64 nx, .int .i64 md, .int .i64 lc] 31)).putObj (w4.heap.size + 1) (.loop rb) = W5 at *
    clear bR aR j1a
    have hd4 := (tl.block w4.heap.size (by omega) (by omega)).trans j2
    have b5 := j3.turn tl (by omega)
    have bT4 := j5.turn tl (by omega)
    have row5 := row_turn7 j6 tl (fun k hk e => by have h1 := (row_rng7 j6 k hk).1; omega)
    have hp5 := hpR.turn8 tl (by omega) (by omega) (fun v hv y h1 h2 e => by have := HFR.out v hv y h1 h2; omega)
    have lt5 : w4.heap.size + 1 < W5.heap.size := (Array.getElem?_eq_some_iff.1 hl4).1
    have tx : Turn (fun k => k = w1.heap.size ∨ w4.heap.size ≤ k) X W5 := tl.mono (fun k _ e => .inr (by omega))
    have HPL : Hid (pre.length + 1 ≤ V4.length) := by
      have e := hperm.length_eq
      rw [List.length_append, List.length_cons] at e
      show _ ≤ _
      omega
    clear j1 j2 j3 j5 j6 hpR hxV hRV hUlen hxy tl j4 hperm j7 j8 hpw
    have hmx : Try.prog.follows .mixedOrders = true := by kernel_rfl
    have dd : New W5 W5.drew := (New.refl W5).drew
    gi_wp2_with fail
    refine wpIn_region_round (S := fun Y => New W5 Y) hmx ?hd ?hQ ?_
    case hd =>
      intro i o ho c
      rcases i with _ | _ | _ | _ | _ | _ | _ | _ | _ | _ | _ | _ | _ | _ | _ | i <;> simp at ho <;> subst ho <;> simp
    case hQ =>
      rintro ⟨_, _, hh⟩
      exact hh
    have hH := dd
    rcases Nat.eq_zero_or_pos U.length with h0 | h0
    · obtain rfl := List.eq_nil_of_length_eq_zero h0
      refine' hw_take 0 (some 17) _ rfl rfl (by kernel_rfl) (by kernel_rfl) (by kernel_rfl) (fun _ _ _ h => h) (by rfl) hH ?hy1 ?rest1
      case hy1 =>
        intro X hX
        have cTX := (bT4.new hX).cells
        go_simp
        try rfl
      simp only [Act.put, List.setIfInBounds_toArray, List.set_cons_zero, List.set_cons_succ]
      refine' hw_take 1 (some 18) _ rfl rfl (by kernel_rfl) (by kernel_rfl) (by kernel_rfl) (fun _ _ _ h => h) (by rfl) hH ?hy2 ?rest2
      case hy2 =>
        intro X hX
        go_simp
        try rfl
      simp only [Act.put, List.setIfInBounds_toArray, List.set_cons_zero, List.set_cons_succ]
      refine' hw_take 2 (some 19) _ rfl rfl (by kernel_rfl) (by kernel_rfl) (by kernel_rfl) (fun _ _ _ h => h) (by rfl) hH ?hy3 ?rest3
      case hy3 =>
        intro X hX
        go_simp
        try rfl
      simp only [Act.put, List.setIfInBounds_toArray, List.set_cons_zero, List.set_cons_succ]
      refine' hw_take 3 (some 20) _ rfl rfl (by kernel_rfl) (by kernel_rfl) (by kernel_rfl) (fun _ _ _ h => h) (by rfl) hH ?hy4 ?rest4
      case hy4 =>
        intro X hX
        go_simp
        try rfl
      simp only [Act.put, List.setIfInBounds_toArray, List.set_cons_zero, List.set_cons_succ]
      refine hw_skip 4 (some 21) rfl rfl (by kernel_rfl) (by kernel_rfl) (by kernel_rfl) (fun _ _ _ h => h) (by rfl) hH ?_
      simp only [Act.put, List.setIfInBounds_toArray, List.set_cons_zero, List.set_cons_succ]
      refine hw_skip 5 (some 22) rfl rfl (by kernel_rfl) (by kernel_rfl) (by kernel_rfl) (fun _ _ _ h => h) (by rfl) hH ?_
      simp only [Act.put, List.setIfInBounds_toArray, List.set_cons_zero, List.set_cons_succ]
      refine hw_skip 6 (some 23) rfl rfl (by kernel_rfl) (by kernel_rfl) (by kernel_rfl) (fun _ _ _ h => h) (by rfl) hH ?_
      simp only [Act.put, List.setIfInBounds_toArray, List.set_cons_zero, List.set_cons_succ]
      refine hw_skip 7 (some 24) rfl rfl (by kernel_rfl) (by kernel_rfl) (by kernel_rfl) (fun _ _ _ h => h) (by rfl) hH ?_
      simp only [Act.put, List.setIfInBounds_toArray, List.set_cons_zero, List.set_cons_succ]
      refine hw_skip 8 (some 25) rfl rfl (by kernel_rfl) (by kernel_rfl) (by kernel_rfl) (fun _ _ _ h => h) (by rfl) hH ?_
      simp only [Act.put, List.setIfInBounds_toArray, List.set_cons_zero, List.set_cons_succ]
      refine hw_skip 9 (some 26) rfl rfl (by kernel_rfl) (by kernel_rfl) (by kernel_rfl) (fun _ _ _ h => h) (by rfl) hH ?_
      simp only [Act.put, List.setIfInBounds_toArray, List.set_cons_zero, List.set_cons_succ]
      refine hw_skip 10 (some 27) rfl rfl (by kernel_rfl) (by kernel_rfl) (by kernel_rfl) (fun _ _ _ h => h) (by rfl) hH ?_
      simp only [Act.put, List.setIfInBounds_toArray, List.set_cons_zero, List.set_cons_succ]
      refine hw_skip 11 (some 28) rfl rfl (by kernel_rfl) (by kernel_rfl) (by kernel_rfl) (fun _ _ _ h => h) (by rfl) hH ?_
      simp only [Act.put, List.setIfInBounds_toArray, List.set_cons_zero, List.set_cons_succ]
      refine hw_skip 12 (some 29) rfl rfl (by kernel_rfl) (by kernel_rfl) (by kernel_rfl) (fun _ _ _ h => h) (by rfl) hH ?_
      simp only [Act.put, List.setIfInBounds_toArray, List.set_cons_zero, List.set_cons_succ]
      refine hw_skip 13 (some 30) rfl rfl (by kernel_rfl) (by kernel_rfl) (by kernel_rfl) (fun _ _ _ h => h) (by rfl) hH ?_
      simp only [Act.put, List.setIfInBounds_toArray, List.set_cons_zero, List.set_cons_succ]
      refine' hw_take 14 (some 31) _ rfl rfl (by kernel_rfl) (by kernel_rfl) (by kernel_rfl) (fun _ _ _ h => h) (by rfl) hH ?hy5 ?rest5
      case hy5 =>
        intro X hX
        go_simp
        try rfl
      simp only [Act.put, List.setIfInBounds_toArray, List.set_cons_zero, List.set_cons_succ]
      refine wpAnyH_done (by kernel_rfl) ?_ _
      have HTOP : Hid (TopOk (pre ++ [Rv.mk (Rt.mk p a l o xs nx md lc) x d]) ((([] : List Rv) ++ [Rv.mk (Rt.mk p a l o xs nx md lc) x d]).map Rv.r)) := by
        unfold Hid
        rw [List.map_append]
        exact HJ7.out.new HXY.out (by intro r hr; simp at hr)
      have hform : (AU = none ∧ cU = 0) ∨ ∃ g, AU = some ⟨g, 0, none⟩ := by
        rcases row_form7 row5 with ⟨e1, -⟩ | ⟨g, c2, e1, -⟩
        · simp only [Value.slice.injEq] at e1
          exact .inl ⟨e1.1, e1.2.2⟩
        · simp only [Value.slice.injEq] at e1
          exact .inr ⟨g, e1.1⟩
      rcases hform with ⟨rfl, rfl⟩ | ⟨g, rfl⟩
      · skip
        generalize W5.drew = W6 at *
        have row6 := row_turn7 row5 dd (fun _ _ f => f)
        have b6 := b5.new dd
        have bT6 := bT4.new dd
        have bR6 := bR4.new dd
        have hp6 := hp5.new dd
        have lt6 : W5.heap.size ≤ W6.heap.size := dd.size
        have hl6 := (dd.block _ lt5 (fun f => f)).trans hl4
        have hd6 := (dd.block _ (by omega) (fun f => f)).trans hd4
        have bL := Blk.mk W6 W6.heap.size 31 #[.int .i64 p, .int .i64 a, .int .i64 l, .int .i64 o, .slice x xs.length d, .int .i64 nx, .int .i64 md, .int .i64 lc] rfl
        have aL := (New.refl W6).alloc (.cells #[.int .i64 p, .int .i64 a, .int .i64 l, .int .i64 o, .slice x xs.length d, .int .i64 nx, .int .i64 md, .int .i64 lc] 31)
        have row7 := row_turn7 row6 aL (fun _ _ f => f)
        have hszA : W1.heap.size ≤ (W6.alloc (.cells #[.int .i64 p, .int .i64 a, .int .i64 l, .int .i64 o, .slice x xs.length d, .int .i64 nx, .int .i64 md, .int .i64 lc] 31)).heap.size := by have := aL.size; omega
        have hsrc : ∀ j, (W6.alloc (.cells #[.int .i64 p, .int .i64 a, .int .i64 l, .int .i64 o, .slice x xs.length d, .int .i64 nx, .int .i64 md, .int .i64 lc] 31)).cell? ⟨W6.heap.size, j, none⟩ = (Rv.mk (Rt.mk p a l o xs nx md lc) x d).cs[j]? := by
          intro j
          rw [bL.cells j]
          unfold Rv.cs
          simp
        have hle8 : ([] : List Rv).length + 1 ≤ 4194304 := by have e1 := HTOP.out.len; have e2 := HPL.out; have e3 := HV4L.out; simp only [List.length_map, List.length_append, List.length_singleton] at e1; omega
        have cT6 := bT6.cells
        have cR6 := bR6.cells
        have own7 : ∀ k, (Value.slice none ([] : List Rv).length 0).ownBlock = some k → W1.heap.size ≤ k := fun k hk => (row_rng7 row7 k hk).1
        gi_wp2_with (gi_at_builtin; refine wpListIn_apT8 _ rfl (.tmp 32) (.tmp 34) rfl W1.heap.size _ Try.underlying35 hi hz0 hz1 hz2 rfl _ [] rfl row7 W6.heap.size (Rv.mk (Rt.mk p a l o xs nx md lc) x d) rfl hsrc hle8 hszA ?_)
        intro v5 w5 hr5 hg5 _
        replace hr5 : w5.ownsRow W1.heap.size 31 8 v5 ([] ++ [Rv.mk (Rt.mk p a l o xs nx md lc) x d]).length (cellsT ([] ++ [Rv.mk (Rt.mk p a l o xs nx md lc) x d])) := by first | exact hr5 | (rw [hsz]; exact hr5) | (rw [List.length_append, hsz]; exact hr5) | (rw [hsz]; simpa using hr5)
        obtain ⟨g5, c5, rfl⟩ : ∃ g5 c5, v5 = (.slice (some ⟨g5, 0, none⟩) (1) c5) := by
          rcases row_form7 hr5 with ⟨-, e⟩ | ⟨g5, c5, e, -⟩
          · exact absurd e (by simp)
          · exact ⟨g5, c5, by rw [e]; simp⟩
        have tA := turn_of_grown8 hg5
        have ltA : W6.heap.size ≤ w5.heap.size := by have := aL.size; have := tA.size; omega
        have b8 := (b6.new aL).turn tA (fun e => by have := own7 _ e; omega)
        have bT8 := (bT6.new aL).turn tA (fun e => by have := own7 _ e; omega)
        have hl8 := (tA.block _ (by have := aL.size; omega) (fun e => by have := own7 _ e; omega)).trans ((aL.block _ (by omega) (fun f => f)).trans hl6)
        have hd8 := (tA.block _ (by have := aL.size; omega) (fun e => by have := own7 _ e; omega)).trans ((aL.block _ (by omega) (fun f => f)).trans hd6)
        have hp8 := (hp6.new aL).turn8 tA (fun e => by have := own7 _ e; omega) (fun e => by have := own7 _ e; omega) (fun v hv y h1 h2 e => by have := HFR.out v hv y h1 h2; have := own7 _ e; omega)
        have tY := Turn.trans (Turn.trans (Turn.trans tx dd.turn (fun _ _ e => e)) aL.turn (fun _ _ e => e)) tA (fun k _ e => .inr (by have := own7 _ e; omega))
        clear row7 hsrc own7 row6 row5 hg5
        have cT8 := bT8.cells
        have fT8 := bT8.frees
        gi_wp2
        have tS : Turn (fun k => k = w1.heap.size) w5 (w5.setCell ⟨w1.heap.size, 0, none⟩ (.slice (some ⟨g5, 0, none⟩) (1) c5)) := Turn.set (S := fun k => k = w1.heap.size) (Turn.refl (fun k => k = w1.heap.size) w5) rfl (.slice (some ⟨g5, 0, none⟩) (1) c5)
        have rng5 := row_rng7 hr5
        have hl9 := (tS.block _ (by omega) (by omega)).trans hl8
        have hfin := HFIN.out _ ([] ++ [Rv.mk (Rt.mk p a l o xs nx md lc) x d]) (.slice (some ⟨g5, 0, none⟩) (1) c5) hl9 ((tS.block _ (by omega) (by omega)).trans hd8) (b8.turn tS (by omega)) (Turn.trans tY tS (fun k _ e => .inl e)) (bT8.set 0 (.slice (some ⟨g5, 0, none⟩) (1) c5)) (row_turn7 hr5 tS (fun k hk e => by have := rng5 k hk; omega)) HTOP.out (fun v hv => (List.mem_append.1 hv).elim (fun hv => HJ8.out v hv) (fun hv => by obtain rfl := List.mem_singleton.1 hv; exact HX.out)) (by have e1 := HTOP.out.len; have e2 := HPL.out; simp only [List.length_map, List.length_append, List.length_singleton] at e1 ⊢; omega) (hp8.turn8 tS (fun e => HHX.out.1 e) (fun e => HHX.out.2 e) (fun v hv y h1 h2 e => by have := HFR.out v hv y h1 h2; omega))
        obtain ⟨⟨f1, f2, f3, f4, u9, U9, f5, f6, f7, f8, f9⟩, f10⟩ := hfin
        refine ⟨_, _, HEND.out _ hl9, rfl, ?_⟩
        exact ⟨⟨f1, f2, f3, f4, u9, f5, U9, (by first | exact f6 | (rw [← hsz]; exact f6)), f7, f8, f9⟩, f10⟩
      · skip
        generalize W5.drew = W6 at *
        have row6 := row_turn7 row5 dd (fun _ _ f => f)
        have b6 := b5.new dd
        have bT6 := bT4.new dd
        have bR6 := bR4.new dd
        have hp6 := hp5.new dd
        have lt6 : W5.heap.size ≤ W6.heap.size := dd.size
        have hl6 := (dd.block _ lt5 (fun f => f)).trans hl4
        have hd6 := (dd.block _ (by omega) (fun f => f)).trans hd4
        have bL := Blk.mk W6 W6.heap.size 31 #[.int .i64 p, .int .i64 a, .int .i64 l, .int .i64 o, .slice x xs.length d, .int .i64 nx, .int .i64 md, .int .i64 lc] rfl
        have aL := (New.refl W6).alloc (.cells #[.int .i64 p, .int .i64 a, .int .i64 l, .int .i64 o, .slice x xs.length d, .int .i64 nx, .int .i64 md, .int .i64 lc] 31)
        have row7 := row_turn7 row6 aL (fun _ _ f => f)
        have hszA : W1.heap.size ≤ (W6.alloc (.cells #[.int .i64 p, .int .i64 a, .int .i64 l, .int .i64 o, .slice x xs.length d, .int .i64 nx, .int .i64 md, .int .i64 lc] 31)).heap.size := by have := aL.size; omega
        have hsrc : ∀ j, (W6.alloc (.cells #[.int .i64 p, .int .i64 a, .int .i64 l, .int .i64 o, .slice x xs.length d, .int .i64 nx, .int .i64 md, .int .i64 lc] 31)).cell? ⟨W6.heap.size, j, none⟩ = (Rv.mk (Rt.mk p a l o xs nx md lc) x d).cs[j]? := by
          intro j
          rw [bL.cells j]
          unfold Rv.cs
          simp
        have hle8 : ([] : List Rv).length + 1 ≤ 4194304 := by have e1 := HTOP.out.len; have e2 := HPL.out; have e3 := HV4L.out; simp only [List.length_map, List.length_append, List.length_singleton] at e1; omega
        have cT6 := bT6.cells
        have cR6 := bR6.cells
        have own7 : ∀ k, (Value.slice (some ⟨g, 0, none⟩) ([] : List Rv).length cU).ownBlock = some k → W1.heap.size ≤ k := fun k hk => (row_rng7 row7 k hk).1
        gi_wp2_with (gi_at_builtin; refine wpListIn_apT8 _ rfl (.tmp 32) (.tmp 34) rfl W1.heap.size _ Try.underlying35 hi hz0 hz1 hz2 rfl _ [] rfl row7 W6.heap.size (Rv.mk (Rt.mk p a l o xs nx md lc) x d) rfl hsrc hle8 hszA ?_)
        intro v5 w5 hr5 hg5 _
        replace hr5 : w5.ownsRow W1.heap.size 31 8 v5 ([] ++ [Rv.mk (Rt.mk p a l o xs nx md lc) x d]).length (cellsT ([] ++ [Rv.mk (Rt.mk p a l o xs nx md lc) x d])) := by first | exact hr5 | (rw [hsz]; exact hr5) | (rw [List.length_append, hsz]; exact hr5) | (rw [hsz]; simpa using hr5)
        obtain ⟨g5, c5, rfl⟩ : ∃ g5 c5, v5 = (.slice (some ⟨g5, 0, none⟩) (1) c5) := by
          rcases row_form7 hr5 with ⟨-, e⟩ | ⟨g5, c5, e, -⟩
          · exact absurd e (by simp)
          · exact ⟨g5, c5, by rw [e]; simp⟩
        have tA := turn_of_grown8 hg5
        have ltA : W6.heap.size ≤ w5.heap.size := by have := aL.size; have := tA.size; omega
        have b8 := (b6.new aL).turn tA (fun e => by have := own7 _ e; omega)
        have bT8 := (bT6.new aL).turn tA (fun e => by have := own7 _ e; omega)
        have hl8 := (tA.block _ (by have := aL.size; omega) (fun e => by have := own7 _ e; omega)).trans ((aL.block _ (by omega) (fun f => f)).trans hl6)
        have hd8 := (tA.block _ (by have := aL.size; omega) (fun e => by have := own7 _ e; omega)).trans ((aL.block _ (by omega) (fun f => f)).trans hd6)
        have hp8 := (hp6.new aL).turn8 tA (fun e => by have := own7 _ e; omega) (fun e => by have := own7 _ e; omega) (fun v hv y h1 h2 e => by have := HFR.out v hv y h1 h2; have := own7 _ e; omega)
        have tY := Turn.trans (Turn.trans (Turn.trans tx dd.turn (fun _ _ e => e)) aL.turn (fun _ _ e => e)) tA (fun k _ e => .inr (by have := own7 _ e; omega))
        clear row7 hsrc own7 row6 row5 hg5
        have cT8 := bT8.cells
        have fT8 := bT8.frees
        gi_wp2
        have tS : Turn (fun k => k = w1.heap.size) w5 (w5.setCell ⟨w1.heap.size, 0, none⟩ (.slice (some ⟨g5, 0, none⟩) (1) c5)) := Turn.set (S := fun k => k = w1.heap.size) (Turn.refl (fun k => k = w1.heap.size) w5) rfl (.slice (some ⟨g5, 0, none⟩) (1) c5)
        have rng5 := row_rng7 hr5
        have hl9 := (tS.block _ (by omega) (by omega)).trans hl8
        have hfin := HFIN.out _ ([] ++ [Rv.mk (Rt.mk p a l o xs nx md lc) x d]) (.slice (some ⟨g5, 0, none⟩) (1) c5) hl9 ((tS.block _ (by omega) (by omega)).trans hd8) (b8.turn tS (by omega)) (Turn.trans tY tS (fun k _ e => .inl e)) (bT8.set 0 (.slice (some ⟨g5, 0, none⟩) (1) c5)) (row_turn7 hr5 tS (fun k hk e => by have := rng5 k hk; omega)) HTOP.out (fun v hv => (List.mem_append.1 hv).elim (fun hv => HJ8.out v hv) (fun hv => by obtain rfl := List.mem_singleton.1 hv; exact HX.out)) (by have e1 := HTOP.out.len; have e2 := HPL.out; simp only [List.length_map, List.length_append, List.length_singleton] at e1 ⊢; omega) (hp8.turn8 tS (fun e => HHX.out.1 e) (fun e => HHX.out.2 e) (fun v hv y h1 h2 e => by have := HFR.out v hv y h1 h2; omega))
        obtain ⟨⟨f1, f2, f3, f4, u9, U9, f5, f6, f7, f8, f9⟩, f10⟩ := hfin
        refine ⟨_, _, HEND.out _ hl9, rfl, ?_⟩
        exact ⟨⟨f1, f2, f3, f4, u9, f5, U9, (by first | exact f6 | (rw [← hsz]; exact f6)), f7, f8, f9⟩, f10⟩
    · obtain ⟨g, c2, hAU, hgl, hgr, hog⟩ : ∃ g c2, Value.slice AU U.length cU = .slice (some ⟨g, 0, none⟩) U.length c2 ∧ W1.heap.size ≤ g ∧ g < W5.heap.size ∧ OwRow W5 g U.length c2 U := by
        rcases row_form7 row5 with ⟨e1, e2⟩ | h
        · subst e2
          exact absurd h0 (by simp)
        · exact h
      simp only [Value.slice.injEq, true_and] at hAU
      obtain ⟨rfl, rfl⟩ := hAU
      obtain ⟨v', hv'⟩ : ∃ v', U[U.length - 1]? = some v' := ⟨_, List.getElem?_eq_getElem (by omega)⟩
      have HLAST : Hid (U.getLast? = some v') := by
        unfold Hid
        rw [List.getLast?_eq_getElem?]
        exact hv'
      have y1 : W5.cell? ⟨g, (U.length - 1) * 8 + 1, none⟩ = some (.int .i64 v'.r.a) := by
        rw [World.ownsRow.cellAt hog _ (by omega)]
        exact cellsT_get U _ v' hv' 1 (by omega)
      have y2 : W5.cell? ⟨g, (U.length - 1) * 8 + 2, none⟩ = some (.int .i64 v'.r.l) := by
        rw [World.ownsRow.cellAt hog _ (by omega)]
        exact cellsT_get U _ v' hv' 2 (by omega)
      have hj0 : (0 : Int) ≤ ((U.length - 1 : Nat) : Int) := by omega
      have hj1 : ((U.length - 1 : Nat) : Int) < (U.length : Int) := by omega
      have hul : U.length ≤ 1048576 := by have e1 := HJ7.out.len; have e2 := HPL.out; have e3 := HV4L.out; simp only [List.length_map] at e1; omega
      have hwk : IntKind.i64.wrap ((U.length : Int) - 1) = ((U.length - 1 : Nat) : Int) := by rw [IntKind.wrap_i64]; omega
      have hnz : ((U.length : Int) == 0) = false := by simp; intro e; subst e; simp at h0
      obtain ⟨⟨p', a', l', o', xs', nx', md', lc'⟩, x', d'⟩ := v'
      dsimp only at y1 y2
      by_cases ha : a = a'
      case neg =>
        have HTOP : Hid (TopOk (pre ++ [Rv.mk (Rt.mk p a l o xs nx md lc) x d]) ((U ++ [Rv.mk (Rt.mk p a l o xs nx md lc) x d]).map Rv.r)) := by
          unfold Hid
          rw [List.map_append]
          refine HJ7.out.new HXY.out (fun r hr e => ?_)
          rw [List.getLast?_map, HLAST.out] at hr
          obtain rfl := Option.some.inj hr
          exact ha e.1
        clear hog hv'
        refine' hw_take 0 (some 17) _ rfl rfl (by kernel_rfl) (by kernel_rfl) (by kernel_rfl) (fun _ _ _ h => h) (by rfl) hH ?hy6 ?rest6
        case hy6 =>
          intro X hX
          have cTX := (bT4.new hX).cells
          go_simp
          try rfl
        simp only [Act.put, List.setIfInBounds_toArray, List.set_cons_zero, List.set_cons_succ]
        refine' hw_take 1 (some 18) _ rfl rfl (by kernel_rfl) (by kernel_rfl) (by kernel_rfl) (fun _ _ _ h => h) (by rfl) hH ?hy7 ?rest7
        case hy7 =>
          intro X hX
          go_simp
          try rfl
        simp only [Act.put, List.setIfInBounds_toArray, List.set_cons_zero, List.set_cons_succ]
        refine' hw_take 2 (some 19) _ rfl rfl (by kernel_rfl) (by kernel_rfl) (by kernel_rfl) (fun _ _ _ h => h) (by rfl) hH ?hy8 ?rest8
        case hy8 =>
          intro X hX
          go_simp
          try rfl
        simp only [Act.put, List.setIfInBounds_toArray, List.set_cons_zero, List.set_cons_succ]
        refine' hw_take 3 (some 20) _ rfl rfl (by kernel_rfl) (by kernel_rfl) (by kernel_rfl) (fun _ _ _ h => h) (by rfl) hH ?hy9 ?rest9
        case hy9 =>
          intro X hX
          go_simp
          try rfl
        simp only [Act.put, List.setIfInBounds_toArray, List.set_cons_zero, List.set_cons_succ]
        refine' hw_take 4 (some 21) _ rfl rfl (by kernel_rfl) (by kernel_rfl) (by kernel_rfl) (fun _ _ _ h => h) (by rfl) hH ?hy10 ?rest10
        case hy10 =>
          intro X hX
          go_simp
          try rfl
        simp only [Act.put, List.setIfInBounds_toArray, List.set_cons_zero, List.set_cons_succ]
        refine' hw_take 5 (some 22) _ rfl rfl (by kernel_rfl) (by kernel_rfl) (by kernel_rfl) (fun _ _ _ h => h) (by rfl) hH ?hy11 ?rest11
        case hy11 =>
          intro X hX
          have cRX := (bR4.new hX).cells
          go_simp
          try rfl
        simp only [Act.put, List.setIfInBounds_toArray, List.set_cons_zero, List.set_cons_succ]
        refine' hw_take 6 (some 23) _ rfl rfl (by kernel_rfl) (by kernel_rfl) (by kernel_rfl) (fun _ _ _ h => h) (by rfl) hH ?hy12 ?rest12
        case hy12 =>
          intro X hX
          have cTX := (bT4.new hX).cells
          go_simp
          try rfl
        simp only [Act.put, List.setIfInBounds_toArray, List.set_cons_zero, List.set_cons_succ]
        refine' hw_take 7 (some 24) _ rfl rfl (by kernel_rfl) (by kernel_rfl) (by kernel_rfl) (fun _ _ _ h => h) (by rfl) hH ?hy13 ?rest13
        case hy13 =>
          intro X hX
          have cTX := (bT4.new hX).cells
          go_simp
          try rfl
        simp only [Act.put, List.setIfInBounds_toArray, List.set_cons_zero, List.set_cons_succ]
        refine' hw_take 8 (some 25) _ rfl rfl (by kernel_rfl) (by kernel_rfl) (by kernel_rfl) (fun _ _ _ h => h) (by rfl) hH ?hy14 ?rest14
        case hy14 =>
          intro X hX
          go_simp
          try rfl
        simp only [Act.put, List.setIfInBounds_toArray, List.set_cons_zero, List.set_cons_succ]
        refine' hw_take 9 (some 26) _ rfl rfl (by kernel_rfl) (by kernel_rfl) (by kernel_rfl) (fun _ _ _ h => h) (by rfl) hH ?hy15 ?rest15
        case hy15 =>
          intro X hX
          go_simp
          try rfl
        simp only [Act.put, List.setIfInBounds_toArray, List.set_cons_zero, List.set_cons_succ]
        refine' hw_take 10 (some 27) _ rfl rfl (by kernel_rfl) (by kernel_rfl) (by kernel_rfl) (fun _ _ _ h => h) (by rfl) hH ?hy16 ?rest16
        case hy16 =>
          intro X hX
          go_simp
          try rfl
        simp only [Act.put, List.setIfInBounds_toArray, List.set_cons_zero, List.set_cons_succ]
        refine' hw_take 11 (some 28) _ rfl rfl (by kernel_rfl) (by kernel_rfl) (by kernel_rfl) (fun _ _ _ h => h) (by rfl) hH ?hy17 ?rest17
        case hy17 =>
          intro X hX
          go_simp
          try rfl
        simp only [Act.put, List.setIfInBounds_toArray, List.set_cons_zero, List.set_cons_succ]
        refine' hw_take 12 (some 29) _ rfl rfl (by kernel_rfl) (by kernel_rfl) (by kernel_rfl) (fun _ _ _ h => h) (by rfl) hH ?hy18 ?rest18
        case hy18 =>
          intro X hX
          have y1X := (hX.below.cell (World.block_lt_of_cell? _ _ y1)).trans y1
          have y2X := (hX.below.cell (World.block_lt_of_cell? _ _ y2)).trans y2
          go_simp
          try rfl
        simp only [Act.put, List.setIfInBounds_toArray, List.set_cons_zero, List.set_cons_succ]
        refine' hw_take 13 (some 30) _ rfl rfl (by kernel_rfl) (by kernel_rfl) (by kernel_rfl) (fun _ _ _ h => h) (by rfl) hH ?hy19 ?rest19
        case hy19 =>
          intro X hX
          go_simp
          try rfl
        simp only [Act.put, List.setIfInBounds_toArray, List.set_cons_zero, List.set_cons_succ]
        refine' hw_take 14 (some 31) _ rfl rfl (by kernel_rfl) (by kernel_rfl) (by kernel_rfl) (fun _ _ _ h => h) (by rfl) hH ?hy20 ?rest20
        case hy20 =>
          intro X hX
          go_simp
          try rfl
        simp only [Act.put, List.setIfInBounds_toArray, List.set_cons_zero, List.set_cons_succ]
        refine wpAnyH_done (by kernel_rfl) ?_ _
        generalize W5.drew = W6 at *
        have row6 := row_turn7 row5 dd (fun _ _ f => f)
        have b6 := b5.new dd
        have bT6 := bT4.new dd
        have bR6 := bR4.new dd
        have hp6 := hp5.new dd
        have lt6 : W5.heap.size ≤ W6.heap.size := dd.size
        have hl6 := (dd.block _ lt5 (fun f => f)).trans hl4
        have hd6 := (dd.block _ (by omega) (fun f => f)).trans hd4
        have bL := Blk.mk W6 W6.heap.size 31 #[.int .i64 p, .int .i64 a, .int .i64 l, .int .i64 o, .slice x xs.length d, .int .i64 nx, .int .i64 md, .int .i64 lc] rfl
        have aL := (New.refl W6).alloc (.cells #[.int .i64 p, .int .i64 a, .int .i64 l, .int .i64 o, .slice x xs.length d, .int .i64 nx, .int .i64 md, .int .i64 lc] 31)
        have row7 := row_turn7 row6 aL (fun _ _ f => f)
        have hszA : W1.heap.size ≤ (W6.alloc (.cells #[.int .i64 p, .int .i64 a, .int .i64 l, .int .i64 o, .slice x xs.length d, .int .i64 nx, .int .i64 md, .int .i64 lc] 31)).heap.size := by have := aL.size; omega
        have hsrc : ∀ j, (W6.alloc (.cells #[.int .i64 p, .int .i64 a, .int .i64 l, .int .i64 o, .slice x xs.length d, .int .i64 nx, .int .i64 md, .int .i64 lc] 31)).cell? ⟨W6.heap.size, j, none⟩ = (Rv.mk (Rt.mk p a l o xs nx md lc) x d).cs[j]? := by
          intro j
          rw [bL.cells j]
          unfold Rv.cs
          simp
        have hle8 : (U : List Rv).length + 1 ≤ 4194304 := by have e1 := HTOP.out.len; have e2 := HPL.out; have e3 := HV4L.out; simp only [List.length_map, List.length_append, List.length_singleton] at e1; omega
        have cT6 := bT6.cells
        have cR6 := bR6.cells
        have own7 : ∀ k, (Value.slice (some ⟨g, 0, none⟩) (U : List Rv).length cU).ownBlock = some k → W1.heap.size ≤ k := fun k hk => (row_rng7 row7 k hk).1
        gi_wp2_with (gi_at_builtin; refine wpListIn_apT8 _ rfl (.tmp 32) (.tmp 34) rfl W1.heap.size _ Try.underlying35 hi hz0 hz1 hz2 rfl _ U rfl row7 W6.heap.size (Rv.mk (Rt.mk p a l o xs nx md lc) x d) rfl hsrc hle8 hszA ?_)
        intro v5 w5 hr5 hg5 _
        replace hr5 : w5.ownsRow W1.heap.size 31 8 v5 (U ++ [Rv.mk (Rt.mk p a l o xs nx md lc) x d]).length (cellsT (U ++ [Rv.mk (Rt.mk p a l o xs nx md lc) x d])) := by first | exact hr5 | (rw [hsz]; exact hr5) | (rw [List.length_append, hsz]; exact hr5) | (rw [hsz]; simpa using hr5)
        obtain ⟨g5, c5, rfl⟩ : ∃ g5 c5, v5 = (.slice (some ⟨g5, 0, none⟩) (U.length + 1) c5) := by
          rcases row_form7 hr5 with ⟨-, e⟩ | ⟨g5, c5, e, -⟩
          · exact absurd e (by simp)
          · exact ⟨g5, c5, by rw [e]; simp⟩
        have tA := turn_of_grown8 hg5
        have ltA : W6.heap.size ≤ w5.heap.size := by have := aL.size; have := tA.size; omega
        have b8 := (b6.new aL).turn tA (fun e => by have := own7 _ e; omega)
        have bT8 := (bT6.new aL).turn tA (fun e => by have := own7 _ e; omega)
        have hl8 := (tA.block _ (by have := aL.size; omega) (fun e => by have := own7 _ e; omega)).trans ((aL.block _ (by omega) (fun f => f)).trans hl6)
        have hd8 := (tA.block _ (by have := aL.size; omega) (fun e => by have := own7 _ e; omega)).trans ((aL.block _ (by omega) (fun f => f)).trans hd6)
        have hp8 := (hp6.new aL).turn8 tA (fun e => by have := own7 _ e; omega) (fun e => by have := own7 _ e; omega) (fun v hv y h1 h2 e => by have := HFR.out v hv y h1 h2; have := own7 _ e; omega)
        have tY := Turn.trans (Turn.trans (Turn.trans tx dd.turn (fun _ _ e => e)) aL.turn (fun _ _ e => e)) tA (fun k _ e => .inr (by have := own7 _ e; omega))
        clear row7 hsrc own7 row6 row5 hg5
        have cT8 := bT8.cells
        have fT8 := bT8.frees
        gi_wp2
        have tS : Turn (fun k => k = w1.heap.size) w5 (w5.setCell ⟨w1.heap.size, 0, none⟩ (.slice (some ⟨g5, 0, none⟩) (U.length + 1) c5)) := Turn.set (S := fun k => k = w1.heap.size) (Turn.refl (fun k => k = w1.heap.size) w5) rfl (.slice (some ⟨g5, 0, none⟩) (U.length + 1) c5)
        have rng5 := row_rng7 hr5
        have hl9 := (tS.block _ (by omega) (by omega)).trans hl8
        have hfin := HFIN.out _ (U ++ [Rv.mk (Rt.mk p a l o xs nx md lc) x d]) (.slice (some ⟨g5, 0, none⟩) (U.length + 1) c5) hl9 ((tS.block _ (by omega) (by omega)).trans hd8) (b8.turn tS (by omega)) (Turn.trans tY tS (fun k _ e => .inl e)) (bT8.set 0 (.slice (some ⟨g5, 0, none⟩) (U.length + 1) c5)) (row_turn7 hr5 tS (fun k hk e => by have := rng5 k hk; omega)) HTOP.out (fun v hv => (List.mem_append.1 hv).elim (fun hv => HJ8.out v hv) (fun hv => by obtain rfl := List.mem_singleton.1 hv; exact HX.out)) (by have e1 := HTOP.out.len; have e2 := HPL.out; simp only [List.length_map, List.length_append, List.length_singleton] at e1 ⊢; omega) (hp8.turn8 tS (fun e => HHX.out.1 e) (fun e => HHX.out.2 e) (fun v hv y h1 h2 e => by have := HFR.out v hv y h1 h2; omega))
        obtain ⟨⟨f1, f2, f3, f4, u9, U9, f5, f6, f7, f8, f9⟩, f10⟩ := hfin
        refine ⟨_, _, HEND.out _ hl9, rfl, ?_⟩
        exact ⟨⟨f1, f2, f3, f4, u9, f5, U9, (by first | exact f6 | (rw [← hsz]; exact f6)), f7, f8, f9⟩, f10⟩
      case pos =>
        subst ha
        by_cases hl : l = l'
        case neg =>
          have HTOP : Hid (TopOk (pre ++ [Rv.mk (Rt.mk p a l o xs nx md lc) x d]) ((U ++ [Rv.mk (Rt.mk p a l o xs nx md lc) x d]).map Rv.r)) := by
            unfold Hid
            rw [List.map_append]
            refine HJ7.out.new HXY.out (fun r hr e => ?_)
            rw [List.getLast?_map, HLAST.out] at hr
            obtain rfl := Option.some.inj hr
            exact hl e.2
          clear hog hv'
          refine' hw_take 0 (some 17) _ rfl rfl (by kernel_rfl) (by kernel_rfl) (by kernel_rfl) (fun _ _ _ h => h) (by rfl) hH ?hy21 ?rest21
          case hy21 =>
            intro X hX
            have cTX := (bT4.new hX).cells
            go_simp
            try rfl
          simp only [Act.put, List.setIfInBounds_toArray, List.set_cons_zero, List.set_cons_succ]
          refine' hw_take 1 (some 18) _ rfl rfl (by kernel_rfl) (by kernel_rfl) (by kernel_rfl) (fun _ _ _ h => h) (by rfl) hH ?hy22 ?rest22
          case hy22 =>
            intro X hX
            go_simp
            try rfl
          simp only [Act.put, List.setIfInBounds_toArray, List.set_cons_zero, List.set_cons_succ]
          refine' hw_take 2 (some 19) _ rfl rfl (by kernel_rfl) (by kernel_rfl) (by kernel_rfl) (fun _ _ _ h => h) (by rfl) hH ?hy23 ?rest23
          case hy23 =>
            intro X hX
            go_simp
            try rfl
          simp only [Act.put, List.setIfInBounds_toArray, List.set_cons_zero, List.set_cons_succ]
          refine' hw_take 3 (some 20) _ rfl rfl (by kernel_rfl) (by kernel_rfl) (by kernel_rfl) (fun _ _ _ h => h) (by rfl) hH ?hy24 ?rest24
          case hy24 =>
            intro X hX
            go_simp
            try rfl
          simp only [Act.put, List.setIfInBounds_toArray, List.set_cons_zero, List.set_cons_succ]
          refine' hw_take 4 (some 21) _ rfl rfl (by kernel_rfl) (by kernel_rfl) (by kernel_rfl) (fun _ _ _ h => h) (by rfl) hH ?hy25 ?rest25
          case hy25 =>
            intro X hX
            go_simp
            try rfl
          simp only [Act.put, List.setIfInBounds_toArray, List.set_cons_zero, List.set_cons_succ]
          refine' hw_take 5 (some 22) _ rfl rfl (by kernel_rfl) (by kernel_rfl) (by kernel_rfl) (fun _ _ _ h => h) (by rfl) hH ?hy26 ?rest26
          case hy26 =>
            intro X hX
            have cRX := (bR4.new hX).cells
            go_simp
            try rfl
          simp only [Act.put, List.setIfInBounds_toArray, List.set_cons_zero, List.set_cons_succ]
          refine' hw_take 6 (some 23) _ rfl rfl (by kernel_rfl) (by kernel_rfl) (by kernel_rfl) (fun _ _ _ h => h) (by rfl) hH ?hy27 ?rest27
          case hy27 =>
            intro X hX
            have cTX := (bT4.new hX).cells
            go_simp
            try rfl
          simp only [Act.put, List.setIfInBounds_toArray, List.set_cons_zero, List.set_cons_succ]
          refine' hw_take 7 (some 24) _ rfl rfl (by kernel_rfl) (by kernel_rfl) (by kernel_rfl) (fun _ _ _ h => h) (by rfl) hH ?hy28 ?rest28
          case hy28 =>
            intro X hX
            have cTX := (bT4.new hX).cells
            go_simp
            try rfl
          simp only [Act.put, List.setIfInBounds_toArray, List.set_cons_zero, List.set_cons_succ]
          refine' hw_take 8 (some 25) _ rfl rfl (by kernel_rfl) (by kernel_rfl) (by kernel_rfl) (fun _ _ _ h => h) (by rfl) hH ?hy29 ?rest29
          case hy29 =>
            intro X hX
            go_simp
            try rfl
          simp only [Act.put, List.setIfInBounds_toArray, List.set_cons_zero, List.set_cons_succ]
          refine' hw_take 9 (some 26) _ rfl rfl (by kernel_rfl) (by kernel_rfl) (by kernel_rfl) (fun _ _ _ h => h) (by rfl) hH ?hy30 ?rest30
          case hy30 =>
            intro X hX
            go_simp
            try rfl
          simp only [Act.put, List.setIfInBounds_toArray, List.set_cons_zero, List.set_cons_succ]
          refine' hw_take 10 (some 27) _ rfl rfl (by kernel_rfl) (by kernel_rfl) (by kernel_rfl) (fun _ _ _ h => h) (by rfl) hH ?hy31 ?rest31
          case hy31 =>
            intro X hX
            go_simp
            try rfl
          simp only [Act.put, List.setIfInBounds_toArray, List.set_cons_zero, List.set_cons_succ]
          refine' hw_take 11 (some 28) _ rfl rfl (by kernel_rfl) (by kernel_rfl) (by kernel_rfl) (fun _ _ _ h => h) (by rfl) hH ?hy32 ?rest32
          case hy32 =>
            intro X hX
            go_simp
            try rfl
          simp only [Act.put, List.setIfInBounds_toArray, List.set_cons_zero, List.set_cons_succ]
          refine' hw_take 12 (some 29) _ rfl rfl (by kernel_rfl) (by kernel_rfl) (by kernel_rfl) (fun _ _ _ h => h) (by rfl) hH ?hy33 ?rest33
          case hy33 =>
            intro X hX
            have y1X := (hX.below.cell (World.block_lt_of_cell? _ _ y1)).trans y1
            have y2X := (hX.below.cell (World.block_lt_of_cell? _ _ y2)).trans y2
            go_simp
            try rfl
          simp only [Act.put, List.setIfInBounds_toArray, List.set_cons_zero, List.set_cons_succ]
          refine' hw_take 13 (some 30) _ rfl rfl (by kernel_rfl) (by kernel_rfl) (by kernel_rfl) (fun _ _ _ h => h) (by rfl) hH ?hy34 ?rest34
          case hy34 =>
            intro X hX
            go_simp
            try rfl
          simp only [Act.put, List.setIfInBounds_toArray, List.set_cons_zero, List.set_cons_succ]
          refine' hw_take 14 (some 31) _ rfl rfl (by kernel_rfl) (by kernel_rfl) (by kernel_rfl) (fun _ _ _ h => h) (by rfl) hH ?hy35 ?rest35
          case hy35 =>
            intro X hX
            go_simp
            try rfl
          simp only [Act.put, List.setIfInBounds_toArray, List.set_cons_zero, List.set_cons_succ]
          refine wpAnyH_done (by kernel_rfl) ?_ _
          generalize W5.drew = W6 at *
          have row6 := row_turn7 row5 dd (fun _ _ f => f)
          have b6 := b5.new dd
          have bT6 := bT4.new dd
          have bR6 := bR4.new dd
          have hp6 := hp5.new dd
          have lt6 : W5.heap.size ≤ W6.heap.size := dd.size
          have hl6 := (dd.block _ lt5 (fun f => f)).trans hl4
          have hd6 := (dd.block _ (by omega) (fun f => f)).trans hd4
          have bL := Blk.mk W6 W6.heap.size 31 #[.int .i64 p, .int .i64 a, .int .i64 l, .int .i64 o, .slice x xs.length d, .int .i64 nx, .int .i64 md, .int .i64 lc] rfl
          have aL := (New.refl W6).alloc (.cells #[.int .i64 p, .int .i64 a, .int .i64 l, .int .i64 o, .slice x xs.length d, .int .i64 nx, .int .i64 md, .int .i64 lc] 31)
          have row7 := row_turn7 row6 aL (fun _ _ f => f)
          have hszA : W1.heap.size ≤ (W6.alloc (.cells #[.int .i64 p, .int .i64 a, .int .i64 l, .int .i64 o, .slice x xs.length d, .int .i64 nx, .int .i64 md, .int .i64 lc] 31)).heap.size := by have := aL.size; omega
          have hsrc : ∀ j, (W6.alloc (.cells #[.int .i64 p, .int .i64 a, .int .i64 l, .int .i64 o, .slice x xs.length d, .int .i64 nx, .int .i64 md, .int .i64 lc] 31)).cell? ⟨W6.heap.size, j, none⟩ = (Rv.mk (Rt.mk p a l o xs nx md lc) x d).cs[j]? := by
            intro j
            rw [bL.cells j]
            unfold Rv.cs
            simp
          have hle8 : (U : List Rv).length + 1 ≤ 4194304 := by have e1 := HTOP.out.len; have e2 := HPL.out; have e3 := HV4L.out; simp only [List.length_map, List.length_append, List.length_singleton] at e1; omega
          have cT6 := bT6.cells
          have cR6 := bR6.cells
          have own7 : ∀ k, (Value.slice (some ⟨g, 0, none⟩) (U : List Rv).length cU).ownBlock = some k → W1.heap.size ≤ k := fun k hk => (row_rng7 row7 k hk).1
          gi_wp2_with (gi_at_builtin; refine wpListIn_apT8 _ rfl (.tmp 32) (.tmp 34) rfl W1.heap.size _ Try.underlying35 hi hz0 hz1 hz2 rfl _ U rfl row7 W6.heap.size (Rv.mk (Rt.mk p a l o xs nx md lc) x d) rfl hsrc hle8 hszA ?_)
          intro v5 w5 hr5 hg5 _
          replace hr5 : w5.ownsRow W1.heap.size 31 8 v5 (U ++ [Rv.mk (Rt.mk p a l o xs nx md lc) x d]).length (cellsT (U ++ [Rv.mk (Rt.mk p a l o xs nx md lc) x d])) := by first | exact hr5 | (rw [hsz]; exact hr5) | (rw [List.length_append, hsz]; exact hr5) | (rw [hsz]; simpa using hr5)
          obtain ⟨g5, c5, rfl⟩ : ∃ g5 c5, v5 = (.slice (some ⟨g5, 0, none⟩) (U.length + 1) c5) := by
            rcases row_form7 hr5 with ⟨-, e⟩ | ⟨g5, c5, e, -⟩
            · exact absurd e (by simp)
            · exact ⟨g5, c5, by rw [e]; simp⟩
          have tA := turn_of_grown8 hg5
          have ltA : W6.heap.size ≤ w5.heap.size := by have := aL.size; have := tA.size; omega
          have b8 := (b6.new aL).turn tA (fun e => by have := own7 _ e; omega)
          have bT8 := (bT6.new aL).turn tA (fun e => by have := own7 _ e; omega)
          have hl8 := (tA.block _ (by have := aL.size; omega) (fun e => by have := own7 _ e; omega)).trans ((aL.block _ (by omega) (fun f => f)).trans hl6)
          have hd8 := (tA.block _ (by have := aL.size; omega) (fun e => by have := own7 _ e; omega)).trans ((aL.block _ (by omega) (fun f => f)).trans hd6)
          have hp8 := (hp6.new aL).turn8 tA (fun e => by have := own7 _ e; omega) (fun e => by have := own7 _ e; omega) (fun v hv y h1 h2 e => by have := HFR.out v hv y h1 h2; have := own7 _ e; omega)
          have tY := Turn.trans (Turn.trans (Turn.trans tx dd.turn (fun _ _ e => e)) aL.turn (fun _ _ e => e)) tA (fun k _ e => .inr (by have := own7 _ e; omega))
          clear row7 hsrc own7 row6 row5 hg5
          have cT8 := bT8.cells
          have fT8 := bT8.frees
          gi_wp2
          have tS : Turn (fun k => k = w1.heap.size) w5 (w5.setCell ⟨w1.heap.size, 0, none⟩ (.slice (some ⟨g5, 0, none⟩) (U.length + 1) c5)) := Turn.set (S := fun k => k = w1.heap.size) (Turn.refl (fun k => k = w1.heap.size) w5) rfl (.slice (some ⟨g5, 0, none⟩) (U.length + 1) c5)
          have rng5 := row_rng7 hr5
          have hl9 := (tS.block _ (by omega) (by omega)).trans hl8
          have hfin := HFIN.out _ (U ++ [Rv.mk (Rt.mk p a l o xs nx md lc) x d]) (.slice (some ⟨g5, 0, none⟩) (U.length + 1) c5) hl9 ((tS.block _ (by omega) (by omega)).trans hd8) (b8.turn tS (by omega)) (Turn.trans tY tS (fun k _ e => .inl e)) (bT8.set 0 (.slice (some ⟨g5, 0, none⟩) (U.length + 1) c5)) (row_turn7 hr5 tS (fun k hk e => by have := rng5 k hk; omega)) HTOP.out (fun v hv => (List.mem_append.1 hv).elim (fun hv => HJ8.out v hv) (fun hv => by obtain rfl := List.mem_singleton.1 hv; exact HX.out)) (by have e1 := HTOP.out.len; have e2 := HPL.out; simp only [List.length_map, List.length_append, List.length_singleton] at e1 ⊢; omega) (hp8.turn8 tS (fun e => HHX.out.1 e) (fun e => HHX.out.2 e) (fun v hv y h1 h2 e => by have := HFR.out v hv y h1 h2; omega))
          obtain ⟨⟨f1, f2, f3, f4, u9, U9, f5, f6, f7, f8, f9⟩, f10⟩ := hfin
          refine ⟨_, _, HEND.out _ hl9, rfl, ?_⟩
          exact ⟨⟨f1, f2, f3, f4, u9, f5, U9, (by first | exact f6 | (rw [← hsz]; exact f6)), f7, f8, f9⟩, f10⟩
        case pos =>
          subst hl
          have HSM : Hid (TopOk (pre ++ [Rv.mk (Rt.mk p a l o xs nx md lc) x d]) (U.map Rv.r)) := HJ7.out.same (r := ⟨p', a, l, o', xs', nx', md', lc'⟩) HXY.out (by rw [List.getLast?_map, HLAST.out]; rfl) rfl rfl
          clear hog hv'
          refine' hw_take 0 (some 17) _ rfl rfl (by kernel_rfl) (by kernel_rfl) (by kernel_rfl) (fun _ _ _ h => h) (by rfl) hH ?hy36 ?rest36
          case hy36 =>
            intro X hX
            have cTX := (bT4.new hX).cells
            go_simp
            try rfl
          simp only [Act.put, List.setIfInBounds_toArray, List.set_cons_zero, List.set_cons_succ]
          refine' hw_take 1 (some 18) _ rfl rfl (by kernel_rfl) (by kernel_rfl) (by kernel_rfl) (fun _ _ _ h => h) (by rfl) hH ?hy37 ?rest37
          case hy37 =>
            intro X hX
            go_simp
            try rfl
          simp only [Act.put, List.setIfInBounds_toArray, List.set_cons_zero, List.set_cons_succ]
          refine' hw_take 2 (some 19) _ rfl rfl (by kernel_rfl) (by kernel_rfl) (by kernel_rfl) (fun _ _ _ h => h) (by rfl) hH ?hy38 ?rest38
          case hy38 =>
            intro X hX
            go_simp
            try rfl
          simp only [Act.put, List.setIfInBounds_toArray, List.set_cons_zero, List.set_cons_succ]
          refine' hw_take 3 (some 20) _ rfl rfl (by kernel_rfl) (by kernel_rfl) (by kernel_rfl) (fun _ _ _ h => h) (by rfl) hH ?hy39 ?rest39
          case hy39 =>
            intro X hX
            go_simp
            try rfl
          simp only [Act.put, List.setIfInBounds_toArray, List.set_cons_zero, List.set_cons_succ]
          refine' hw_take 4 (some 21) _ rfl rfl (by kernel_rfl) (by kernel_rfl) (by kernel_rfl) (fun _ _ _ h => h) (by rfl) hH ?hy40 ?rest40
          case hy40 =>
            intro X hX
            go_simp
            try rfl
          simp only [Act.put, List.setIfInBounds_toArray, List.set_cons_zero, List.set_cons_succ]
          refine' hw_take 5 (some 22) _ rfl rfl (by kernel_rfl) (by kernel_rfl) (by kernel_rfl) (fun _ _ _ h => h) (by rfl) hH ?hy41 ?rest41
          case hy41 =>
            intro X hX
            have cRX := (bR4.new hX).cells
            go_simp
            try rfl
          simp only [Act.put, List.setIfInBounds_toArray, List.set_cons_zero, List.set_cons_succ]
          refine' hw_take 6 (some 23) _ rfl rfl (by kernel_rfl) (by kernel_rfl) (by kernel_rfl) (fun _ _ _ h => h) (by rfl) hH ?hy42 ?rest42
          case hy42 =>
            intro X hX
            have cTX := (bT4.new hX).cells
            go_simp
            try rfl
          simp only [Act.put, List.setIfInBounds_toArray, List.set_cons_zero, List.set_cons_succ]
          refine' hw_take 7 (some 24) _ rfl rfl (by kernel_rfl) (by kernel_rfl) (by kernel_rfl) (fun _ _ _ h => h) (by rfl) hH ?hy43 ?rest43
          case hy43 =>
            intro X hX
            have cTX := (bT4.new hX).cells
            go_simp
            try rfl
          simp only [Act.put, List.setIfInBounds_toArray, List.set_cons_zero, List.set_cons_succ]
          refine' hw_take 8 (some 25) _ rfl rfl (by kernel_rfl) (by kernel_rfl) (by kernel_rfl) (fun _ _ _ h => h) (by rfl) hH ?hy44 ?rest44
          case hy44 =>
            intro X hX
            go_simp
            try rfl
          simp only [Act.put, List.setIfInBounds_toArray, List.set_cons_zero, List.set_cons_succ]
          refine' hw_take 9 (some 26) _ rfl rfl (by kernel_rfl) (by kernel_rfl) (by kernel_rfl) (fun _ _ _ h => h) (by rfl) hH ?hy45 ?rest45
          case hy45 =>
            intro X hX
            go_simp
            try rfl
          simp only [Act.put, List.setIfInBounds_toArray, List.set_cons_zero, List.set_cons_succ]
          refine' hw_take 10 (some 27) _ rfl rfl (by kernel_rfl) (by kernel_rfl) (by kernel_rfl) (fun _ _ _ h => h) (by rfl) hH ?hy46 ?rest46
          case hy46 =>
            intro X hX
            go_simp
            try rfl
          simp only [Act.put, List.setIfInBounds_toArray, List.set_cons_zero, List.set_cons_succ]
          refine' hw_take 11 (some 28) _ rfl rfl (by kernel_rfl) (by kernel_rfl) (by kernel_rfl) (fun _ _ _ h => h) (by rfl) hH ?hy47 ?rest47
          case hy47 =>
            intro X hX
            go_simp
            try rfl
          simp only [Act.put, List.setIfInBounds_toArray, List.set_cons_zero, List.set_cons_succ]
          refine' hw_take 12 (some 29) _ rfl rfl (by kernel_rfl) (by kernel_rfl) (by kernel_rfl) (fun _ _ _ h => h) (by rfl) hH ?hy48 ?rest48
          case hy48 =>
            intro X hX
            have y1X := (hX.below.cell (World.block_lt_of_cell? _ _ y1)).trans y1
            have y2X := (hX.below.cell (World.block_lt_of_cell? _ _ y2)).trans y2
            go_simp
            try rfl
          simp only [Act.put, List.setIfInBounds_toArray, List.set_cons_zero, List.set_cons_succ]
          refine' hw_take 13 (some 30) _ rfl rfl (by kernel_rfl) (by kernel_rfl) (by kernel_rfl) (fun _ _ _ h => h) (by rfl) hH ?hy49 ?rest49
          case hy49 =>
            intro X hX
            go_simp
            try rfl
          simp only [Act.put, List.setIfInBounds_toArray, List.set_cons_zero, List.set_cons_succ]
          refine' hw_take 14 (some 31) _ rfl rfl (by kernel_rfl) (by kernel_rfl) (by kernel_rfl) (fun _ _ _ h => h) (by rfl) hH ?hy50 ?rest50
          case hy50 =>
            intro X hX
            go_simp
            try rfl
          simp only [Act.put, List.setIfInBounds_toArray, List.set_cons_zero, List.set_cons_succ]
          refine wpAnyH_done (by kernel_rfl) ?_ _
          generalize W5.drew = W6 at *
          have row6 := row_turn7 row5 dd (fun _ _ f => f)
          have lt6 : W5.heap.size ≤ W6.heap.size := dd.size
          have hl6 := (dd.block _ lt5 (fun f => f)).trans hl4
          have hd6 := (dd.block _ (by omega) (fun f => f)).trans hd4
          gi_wp2
          have hfin := HFIN.out _ U _ hl6 hd6 (b5.new dd) (Turn.trans tx dd.turn (fun _ _ e => e)) (bT4.new dd) row6 HSM.out HJ8.out j9 (hp5.new dd)
          obtain ⟨⟨f1, f2, f3, f4, u9, U9, f5, f6, f7, f8, f9⟩, f10⟩ := hfin
          refine ⟨_, _, HEND.out _ hl6, rfl, ?_⟩
          exact ⟨⟨f1, f2, f3, f4, u9, f5, U9, (by first | exact f6 | (rw [← hsz]; exact f6)), f7, f8, f9⟩, f10⟩
  case behind =>
    rintro e W2 ⟨he, ys, hys, hyp, j1, j2, j3, j4, u, U, j5, j6, j7, j8, j9⟩
    obtain ⟨A5, c5, hu5⟩ : ∃ A5 c5, u = .slice A5 U.length c5 := by
      rcases row_form7 j6 with ⟨e1, e2⟩ | ⟨g, c2, e1, -⟩
      · subst e2
        exact ⟨none, 0, e1⟩
      · exact ⟨_, _, e1⟩
    subst hu5
    have HALL : Hid (AllOk (V.map Rv.r) (U.map Rv.r)) := by
      have e1 := j7.done (hys.trans hp4)
      rw [HV3.out] at e1
      exact e1
    have HPK : Hid (∀ {lo hi : Nat} {X : World}, PathsT X lo hi V' → PathsT X lo hi U) := fun h => h.pick (fun v hv => hp4.mem_iff.1 (j8 v hv)) j7.srt
    have s4 := j4.size
    refine ⟨he, .ready, none, by simp, by subst hrec; exact j1, j2, ?_⟩
    rintro W3 rfl
    have g1 : w4.heap.size + 1 < W2.heap.size := (Array.getElem?_eq_some_iff.1 j1).1
    have b5 : Blk (W2.putObj (w4.heap.size + 1) (.loop { rec with state := .exhausted, pending := none })) w.heap.size 44 #[.int .i64 0, .slice none 0 0] := (World.putObj_heap_other (by omega)).trans j3
    have bT5 : Blk (W2.putObj (w4.heap.size + 1) (.loop { rec with state := .exhausted, pending := none })) w1.heap.size 35 #[.slice A5 U.length c5] := (World.putObj_heap_other (by omega)).trans j5
    have d5 : (W2.putObj (w4.heap.size + 1) (.loop { rec with state := .exhausted, pending := none })).heap[w4.heap.size]? = some (.deferred (some [])) := (World.putObj_heap_other (by omega)).trans j2
    have tl := turn_of_grown8 (grownBy_putObj' W2 (w4.heap.size + 1) (.loop { rec with state := .exhausted, pending := none }))
    have row5 := row_turn7 j6 tl (fun k hk e => by have h1 := (row_rng7 j6 k hk).1; have h2 := Option.some.inj e; omega)
    clear j1 j2 j3 j5 j6 j7 j8
    generalize W2.putObj (w4.heap.size + 1) (.loop { rec with state := .exhausted, pending := none }) = W5 at *
    have c5' := b5.cells
    have f5 := b5.frees
    have cT5 := bT5.cells
    gi_wp2
    have t6 := two8t W5 w.heap.size 0 1 (.int .i64 0) (.slice A5 U.length c5)
    have b6 : Blk ((W5.setCell ⟨w.heap.size, 0, none⟩ (.int .i64 0)).setCell ⟨w.heap.size, 1, none⟩ (.slice A5 U.length c5)) w.heap.size 44 #[.int .i64 0, .slice A5 U.length c5] := (b5.set 0 (.int .i64 0)).set 1 (.slice A5 U.length c5)
    have lt5 : w4.heap.size < W5.heap.size := (Array.getElem?_eq_some_iff.1 d5).1
    have hK6 := (t6.block w4.heap.size lt5 (by omega)).trans d5
    have row6 := row_turn7 row5 t6 (fun k hk e => by have h1 := (row_rng7 row5 k hk).1; omega)
    generalize ((W5.setCell ⟨w.heap.size, 0, none⟩ (.int .i64 0)).setCell ⟨w.heap.size, 1, none⟩ (.slice A5 U.length c5)) = W6 at *
    have tp := turn_of_grown8 (grownBy_putObj' W6 w4.heap.size (.deferred none))
    have b7 := b6.turn tp (by intro e; have := Option.some.inj e; omega)
    have row7 := row_turn7 row6 tp (fun k hk e => by have h1 := (row_rng7 row6 k hk).1; have h2 := Option.some.inj e; omega)
    have cF := b7.cells
    refine ⟨by simp, .inl ⟨_, _, rfl, run_takeDeferred hK6, ?_⟩⟩
    refine ⟨.agg #[.int .i64 0, .slice A5 U.length c5], by simp [results, Try.results16, go_sem, cF], ?_⟩
    have TT : Turn (fun k => k = w.heap.size ∨ k = w1.heap.size ∨ w3.heap.size ≤ k) w3 (W6.putObj w4.heap.size (.deferred none)) := by
      refine Turn.trans (Turn.trans (Turn.trans (Turn.trans H4.out.turn j4 (fun k _ e => ?_)) tl (fun k _ e => ?_)) t6 (fun k _ e => ?_)) tp (fun k _ e => ?_)
      · omega
      · have := Option.some.inj e; omega
      · omega
      · have := Option.some.inj e; omega
    have hpt := HPK.out (ho3.path.turn TT (fun k h1 h2 e => by omega))
    have sz7 := TT.size
    exact ⟨0, A5, U.length, c5, U, .inr ⟨HFA.out, rfl, HALL.out⟩, rfl, rfl, (OwT.of_row row7 (by omega) hpt sz7).low8 (by omega), Turn.mono (Turn.trans n3.turn TT (fun _ _ e => e)) (fun k h1 h2 => by omega)⟩

end Go.Proofs.Ytkaaefieglhdlaa

namespace Go.Proofs.Ytkaaefieglhdlaa
open Go.RowKit Go.Sort
set_option linter.unusedVariables false
set_option linter.unusedSimpArgs false
set_option maxRecDepth 100000

theorem AlA.len {R U : List Rt} {z : Int} (h : AlA R z U) : U.length ≤ R.length := by
  rcases h with ⟨-, -, rfl⟩ | ⟨-, -, h⟩
  · exact Nat.zero_le _
  · exact pair_len U R h.srt (fun x hx => (h.best x hx).mem)

set_option maxHeartbeats 6400000 in
theorem implAll (A : Option Addr) (N cc : Nat) (V : List Rv) (w : World) (h : RtAt w A V) (hn : V.length = N) (hm : N ≤ 1048576) :
    Calls Try.prog 16 #[.slice A N cc] w (AAns w (V.map Rv.r)) := by
  by_cases hok : ribF (V.map Rv.r) = 0
  · exact implAll_ok A N cc V w h hn hm hok
  have HN : Hid (V.length = N) := hn
  have HA : Hid (∀ X, New w X → RtAt X A V) := fun X hX => h.new hX
  have N0 : New w (w.alloc (.cells #[.int .i64 0, .slice none 0 0] 44)) := (New.refl w).alloc _
  have bB := Blk.mk w w.heap.size 44 #[.int .i64 0, .slice none 0 0] rfl
  obtain ⟨f, hf⟩ : ∃ f, Hid (ribF (V.map Rv.r) = f) := ⟨_, rfl⟩
  have h0 : ¬ f = 0 := by rw [← hf.out]; exact hok
  clear h hn hok
  go_enter Try.func16, Try.ntmps16
  go_upto_region 1 with fail
  generalize w.alloc (.cells #[.int .i64 0, .slice none 0 0] 44) = w0 at *
  go_wp2_with fail
  refine (implRib A N cc V f _ (HA.out _ N0) HN.out hm hf.out).mono ?_
  rintro e w1 ⟨rfl, h1⟩
  have b1 := bB.new h1
  have n1 := N0.trans h1
  have lt1 := b1.lt
  clear bB h1 N0
  have hne : (f != 0) = true := by simpa using h0
  have HB : Hid (¬ ribF (V.map Rv.r) = 0 ∧ f = ribF (V.map Rv.r)) := ⟨by rw [hf.out]; exact h0, hf.out.symm⟩
  have c1 := b1.cells
  have f1 := b1.frees
  clear hf
  go_wp2
  exact bodyPost_ret (v := .agg #[.int .i64 f, .slice none 0 0]) (by simp [results, Try.results16, go_sem, c1]) rfl (AAns.bad HB.out n1 (by omega))

end Go.Proofs.Ytkaaefieglhdlaa

namespace Go.Proofs.Ytkaaefieglhdlaa
open Go.ChangeShapes Go.WideShapes Go.ChangeAt Go.RowKit Go.Deep

theorem in6_of_wf {x : Int} (h : (Lit.int .i64 x).wf = true) : In6 x := by
  simpa [Lit.wf, IntKind.min, IntKind.max, IntKind.signed, IntKind.bits, In6] using h

end Go.Proofs.Ytkaaefieglhdlaa

namespace Go.Proofs.Ytkaaefieglhdlaa
open Go.ChangeShapes Go.WideShapes Go.ChangeAt Go.RowKit Go.Deep

theorem NsAt.of_cells {w : World} {x : Addr} {xs : List Int} (len : Nat) (hcell : ∀ i, i < xs.length → w.cell? (x.add i) = some (.int .i64 (xs.getD i 0))) (hw : ∀ n ∈ xs, (Lit.int .i64 n).wf = true) :
    NsAt w (some x) (xs.take len) := by
  intro i z hz
  rw [List.getElem?_take] at hz
  split at hz
  · obtain ⟨hi, rfl⟩ := List.getElem?_eq_some_iff.1 hz
    have hc := hcell i hi
    obtain ⟨b, off, spot⟩ := x
    have hspot : spot = none := by simpa [Addr.add] using World.cell?_spot (hcell 0 (by omega))
    subst hspot
    rw [Addr.add_lit] at hc
    exact ⟨b, off, rfl, by simpa [List.getD, hi] using hc, in6_of_wf (hw _ (List.getElem_mem hi))⟩
  · cases hz

set_option maxRecDepth 100000 in
theorem open_nums {H : Type} {enc : TypeId × Value → H} {W : World} {base fuel : Nat} {t1 : Nat → Bool} {t2 : Bool} {cs : List Value} {y : DataW H × List MemPlace}
    (hf : DataW.trod enc Try.prog W base t1 t2 fuel 27 cs = some y) : ∃ a n c xs, cs = [.slice a n c] ∧ NsAt W a xs ∧ xs.length = n ∧ n ≤ maxLen := by
  rcases open_ints Try.underlying27 Try.underlying2 (by kernel_rfl) hf with ⟨hcs, _⟩ | ⟨x, l, c, zs, hcs, _, hl, hm, hz, _, hcell, hwz⟩
  · exact ⟨none, 0, 0, [], hcs, NsAt.nil _ _, rfl, Nat.zero_le _⟩
  · have hz' : l ≤ zs.length := by rw [hz]; split <;> omega
    exact ⟨some x, l, c, zs.take l, hcs, NsAt.of_cells l hcell hwz, by rw [List.length_take]; omega, Nat.le_trans hl hm⟩

theorem array5 {α : Type} {cs : Array α} (h : cs.size = 5) : ∃ c0 c1 c2 c3 c4, cs = #[c0, c1, c2, c3, c4] := by
  obtain ⟨l⟩ := cs
  match l, h with
  | [c0, c1, c2, c3, c4], _ => exact ⟨c0, c1, c2, c3, c4, rfl⟩
theorem array8 {α : Type} {cs : Array α} (h : cs.size = 8) : ∃ c0 c1 c2 c3 c4 c5 c6 c7, cs = #[c0, c1, c2, c3, c4, c5, c6, c7] := by
  obtain ⟨l⟩ := cs
  match l, h with
  | [c0, c1, c2, c3, c4, c5, c6, c7], _ => exact ⟨c0, c1, c2, c3, c4, c5, c6, c7, rfl⟩

theorem Try.cI64 : Try.prog.cellsOf 2 = 1 := by kernel_rfl
theorem Try.cNs : Try.prog.cellsOf 27 = 1 := by kernel_rfl

set_option maxRecDepth 100000 in
theorem open_attrs_cells {H : Type} {enc : TypeId × Value → H} {W : World} {base fuel : Nat} {t1 : Nat → Bool} {t2 : Bool} {c0 c1 c2 c3 c4 : Value} {y : DataW H × List MemPlace}
    (h : DataW.trod enc Try.prog W base t1 t2 fuel 50 [c0, c1, c2, c3, c4] = some y) :
    ∃ (o nx md lc : Int) (a : Option Addr) (n c : Nat) (xs : List Int), c0 = .int .i64 o ∧ c1 = .slice a n c ∧ c2 = .int .i64 nx ∧ c3 = .int .i64 md ∧ c4 = .int .i64 lc ∧ NsAt W a xs ∧ xs.length = n ∧ n ≤ maxLen ∧ In6 o ∧ In6 nx ∧ In6 md ∧ In6 lc := by
  obtain ⟨xs, m, _, rfl, hl, hlen, hf⟩ := DataW.trod_struct Try.underlying50 h
  match xs, hlen with
  | [y0, y1, y2, y3, y4], _ =>
    have k0 := hf 0 _ rfl
    have k1 := hf 1 _ rfl
    have k2 := hf 2 _ rfl
    have k3 := hf 3 _ rfl
    have k4 := hf 4 _ rfl
    simp [Try.cI64, Try.cNs] at k0 k1 k2 k3 k4
    obtain ⟨o, e0, -, w0⟩ := DataW.trod_int Try.underlying2 k0
    obtain ⟨nx, e2, -, w2⟩ := DataW.trod_int Try.underlying2 k2
    obtain ⟨md, e3, -, w3⟩ := DataW.trod_int Try.underlying2 k3
    obtain ⟨lc, e4, -, w4⟩ := DataW.trod_int Try.underlying2 k4
    obtain ⟨a, n, c, xs, e1, h1, h2, h3⟩ := open_nums k1
    simp only [List.cons.injEq, and_true] at e0 e1 e2 e3 e4
    exact ⟨o, nx, md, lc, a, n, c, xs, e0, e1, e2, e3, e4, h1, h2, h3, in6_of_wf w0, in6_of_wf w2, in6_of_wf w3, in6_of_wf w4⟩

theorem Try.cAt : Try.prog.cellsOf 50 = 5 := by kernel_rfl

set_option maxRecDepth 100000 in
theorem open_attrs {H : Type} {enc : TypeId × Value → H} {W : World} {base b0 : Nat} {r : Reach} {t1 : Nat → Bool} {t2 : Bool} {v : Value} {d : DataW H} {p : List MemPlace}
    (hv : Value.okWide Try.prog W r b0 50 v) (h0 : DataW.Trod enc Try.prog W base t1 t2 50 v d p) :
    ∃ (o nx md lc : Int) (a : Option Addr) (n c : Nat) (xs : List Int), v = .agg #[.int .i64 o, .slice a n c, .int .i64 nx, .int .i64 md, .int .i64 lc] ∧ NsAt W a xs ∧ xs.length = n ∧ n ≤ maxLen ∧ In6 o ∧ In6 nx ∧ In6 md ∧ In6 lc := by
  obtain ⟨cs, rfl, hsz⟩ := okWide_struct Try.underlying50 hv
  obtain ⟨c0, c1, c2, c3, c4, rfl⟩ := array5 (hsz.trans Try.cAt)
  obtain ⟨fuel, hf⟩ := h0
  have hf' : DataW.trod enc Try.prog W base t1 t2 fuel 50 [c0, c1, c2, c3, c4] = some (d, p) := by simpa [Value.cells] using hf
  obtain ⟨o, nx, md, lc, a, n, c, xs, rfl, rfl, rfl, rfl, rfl, h1⟩ := open_attrs_cells hf'
  exact ⟨o, nx, md, lc, a, n, c, xs, rfl, h1⟩

end Go.Proofs.Ytkaaefieglhdlaa

namespace Go.Proofs.Ytkaaefieglhdlaa
open Go.ChangeShapes Go.WideShapes Go.ChangeAt Go.RowKit Go.Deep

theorem Try.cRt : Try.prog.cellsOf 52 = 8 := by kernel_rfl
theorem Try.cPx7 : Try.prog.cellsOf 24 = 2 := by kernel_rfl

set_option maxRecDepth 100000 in
theorem open_nums7 {H : Type} {enc : TypeId × Value → H} {W : World} {base fuel : Nat} {t1 : Nat → Bool} {t2 : Bool} {cs : List Value} {y : DataW H × List MemPlace}
    (hf : DataW.trod enc Try.prog W base t1 t2 fuel 27 cs = some y) : ∃ a n c xs, cs = [.slice a n c] ∧ NsAt W a xs ∧ xs.length = n ∧ n ≤ maxLen ∧ (a = none → n = 0 ∧ c = 0) := by
  rcases open_ints Try.underlying27 Try.underlying2 (by kernel_rfl) hf with ⟨hcs, _⟩ | ⟨x, l, c, zs, hcs, _, hl, hm, hz, _, hcell, hwz⟩
  · exact ⟨none, 0, 0, [], hcs, NsAt.nil _ _, rfl, Nat.zero_le _, fun _ => ⟨rfl, rfl⟩⟩
  · have hz' : l ≤ zs.length := by rw [hz]; split <;> omega
    exact ⟨some x, l, c, zs.take l, hcs, NsAt.of_cells l hcell hwz, by rw [List.length_take]; omega, Nat.le_trans hl hm, by intro e; cases e⟩

/-- A route that came in: its path is there. -/
def Rv.came (w : World) (v : Rv) : Prop := NsAt w v.x v.r.xs ∧ (v.x = none → v.r.xs.length = 0 ∧ v.c = 0) ∧ v.r.xs.length ≤ maxLen

set_option maxRecDepth 100000 in
theorem open_route_cells {H : Type} {enc : TypeId × Value → H} {W : World} {base fuel : Nat} {t1 : Nat → Bool} {t2 : Bool} {c0 c1 c2 c3 c4 c5 c6 c7 : Value} {y : DataW H × List MemPlace}
    (h : DataW.trod enc Try.prog W base t1 t2 fuel 52 [c0, c1, c2, c3, c4, c5, c6, c7] = some y) :
    ∃ (v : Rv), [c0, c1, c2, c3, c4, c5, c6, c7] = v.cs ∧ v.came W := by
  obtain ⟨xs, m, _, rfl, hl, hlen, hf⟩ := DataW.trod_struct Try.underlying52 h
  match xs, hlen with
  | [y0, y1, y2], _ =>
    have k0 := hf 0 _ rfl
    have k1 := hf 1 _ rfl
    have k2 := hf 2 _ rfl
    simp [Try.cI64, Try.cPx7, Try.cAt] at k0 k1 k2
    obtain ⟨p, e0, -, w0⟩ := DataW.trod_int Try.underlying2 k0
    obtain ⟨ys, m', _, rfl, hl', hlen', hf'⟩ := DataW.trod_struct Try.underlying24 k1
    obtain ⟨us, m2, _, rfl, hl2, hlen2, hf2⟩ := DataW.trod_struct Try.underlying50 k2
    match ys, hlen', us, hlen2 with
    | [z0, z1], _, [u0, u1, u2, u3, u4], _ =>
      have j0 := hf' 0 _ rfl
      have j1 := hf' 1 _ rfl
      have q0 := hf2 0 _ rfl
      have q1 := hf2 1 _ rfl
      have q2 := hf2 2 _ rfl
      have q3 := hf2 3 _ rfl
      have q4 := hf2 4 _ rfl
      simp [Try.cI64, Try.cNs] at j0 j1 q0 q1 q2 q3 q4
      obtain ⟨a, e1, -, w1⟩ := DataW.trod_int Try.underlying2 j0
      obtain ⟨l, e2, -, w2⟩ := DataW.trod_int Try.underlying2 j1
      obtain ⟨o, e3, -, w3⟩ := DataW.trod_int Try.underlying2 q0
      obtain ⟨x, n, c, zs, e4, hns, hln, hmx, hnl⟩ := open_nums7 q1
      obtain ⟨nx, e5, -, w5⟩ := DataW.trod_int Try.underlying2 q2
      obtain ⟨md, e6, -, w6⟩ := DataW.trod_int Try.underlying2 q3
      obtain ⟨lc, e7, -, w7⟩ := DataW.trod_int Try.underlying2 q4
      simp only [List.cons.injEq, and_true] at e0 e1 e2 e3 e4 e5 e6 e7
      subst e0 e1 e2 e3 e4 e5 e6 e7
      subst hln
      exact ⟨⟨⟨p, a, l, o, zs, nx, md, lc⟩, x, c⟩, rfl, hns, hnl, hmx⟩

set_option maxRecDepth 100000 in
theorem open_route {H : Type} {enc : TypeId × Value → H} {W : World} {base b0 : Nat} {r : Reach} {t1 : Nat → Bool} {t2 : Bool} {v : Value} {d : DataW H} {p : List MemPlace}
    (hv : Value.okWide Try.prog W r b0 52 v) (h0 : DataW.Trod enc Try.prog W base t1 t2 52 v d p) :
    ∃ (p a l o nx md lc : Int) (x : Option Addr) (n c : Nat) (xs : List Int), v = .agg #[.int .i64 p, .int .i64 a, .int .i64 l, .int .i64 o, .slice x n c, .int .i64 nx, .int .i64 md, .int .i64 lc] ∧ NsAt W x xs ∧ xs.length = n ∧ n ≤ maxLen ∧ (x = none → n = 0 ∧ c = 0) := by
  obtain ⟨cs, rfl, hsz⟩ := okWide_struct Try.underlying52 hv
  obtain ⟨c0, c1, c2, c3, c4, c5, c6, c7, rfl⟩ := array8 (hsz.trans Try.cRt)
  obtain ⟨fuel, hf⟩ := h0
  have hf' : DataW.trod enc Try.prog W base t1 t2 fuel 52 [c0, c1, c2, c3, c4, c5, c6, c7] = some (d, p) := by simpa [Value.cells] using hf
  obtain ⟨r, hr, h1, h2, h3⟩ := open_route_cells hf'
  simp only [Rv.cs, List.cons.injEq, and_true] at hr
  obtain ⟨rfl, rfl, rfl, rfl, rfl, rfl, rfl, rfl⟩ := hr
  exact ⟨_, _, _, _, _, _, _, _, _, _, _, rfl, h1, rfl, h3, h2⟩

/-- The address leads to the routes that came in. -/
def RtCame (w : World) (A : Option Addr) (V : List Rv) : Prop :=
  ∀ i v, V[i]? = some v → (∃ b off, A = some ⟨b, off, none⟩ ∧ ∀ j, j < 8 → w.cell? ⟨b, off + i * 8 + j, none⟩ = v.cs[j]?) ∧ v.came w

set_option maxRecDepth 100000 in
theorem open_routes {H : Type} {enc : TypeId × Value → H} {W : World} {base : Nat} {t1 : Nat → Bool} {t2 : Bool} {a : Option Addr} {n c : Nat} {d : DataW H} {p : List MemPlace}
    (h0 : DataW.Trod enc Try.prog W base t1 t2 22 (.slice a n c) d p) : ∃ V, RtCame W a V ∧ V.length = n ∧ n ≤ maxLen := by
  obtain ⟨fuel, hf⟩ := h0
  rcases open_slice Try.underlying22 hf with ⟨hcs, _⟩ | ⟨x, l, cc, m, k, D, Pl, hcs, _, hl, hm, hmm, _, hall⟩
  · simp [Value.cells] at hcs
    obtain ⟨rfl, rfl, rfl⟩ := hcs
    exact ⟨[], (by intro i v hv; simp at hv), rfl, Nat.zero_le _⟩
  · simp [Value.cells] at hcs
    obtain ⟨rfl, rfl, rfl⟩ := hcs
    have hlm : n ≤ m := by rw [hmm]; split <;> omega
    have each : ∀ i, i < n → ∃ r : Rv, (∀ j, j < 8 → W.cell? (x.add (i * 8 + j)) = r.cs[j]?) ∧ r.came W := by
      intro i hi
      obtain ⟨cs', h1, h2⟩ := hall i (by omega)
      rw [Try.cRt] at h1
      obtain ⟨_, hlen, hcell⟩ := World.cells?_some h1
      match cs', hlen with
      | [c0, c1, c2, c3, c4, c5, c6, c7], _ =>
        obtain ⟨r, hr, hcm⟩ := open_route_cells h2
        refine ⟨r, fun j hj => ?_, hcm⟩
        have hc := hcell j (by omega)
        rw [add_add] at hc
        rw [hc, hr]
    refine ⟨(List.range n).map (fun i => if h : i < n then (each i h).choose else rv0), ?_, by simp, Nat.le_trans hl hm⟩
    obtain ⟨b, off, spot⟩ := x
    intro i q hq
    have hi : i < n := by
      have := (List.getElem?_eq_some_iff.1 hq).1
      simpa using this
    have hq' : q = (each i hi).choose := by
      rw [List.getElem?_map, List.getElem?_range hi] at hq
      simpa [hi] using hq.symm
    have hs := (each i hi).choose_spec
    rw [← hq'] at hs
    have hspot : spot = none := by
      obtain ⟨r0, hr0, -⟩ := each 0 (by omega)
      have h2 : W.cell? (Addr.add ⟨b, off, spot⟩ (0 * 8 + 0)) = some (.int .i64 r0.r.p) := hr0 0 (by omega)
      simpa [Addr.add] using World.cell?_spot h2
    subst hspot
    refine ⟨⟨b, off, rfl, fun j hj => ?_⟩, hs.2⟩
    have := hs.1 j hj
    rw [Addr.add_lit] at this
    rw [Nat.add_assoc]
    exact this

end Go.Proofs.Ytkaaefieglhdlaa

namespace Go.Proofs.Ytkaaefieglhdlaa
open Go.RowKit Go.Sort
set_option linter.unusedVariables false

theorem set8 (w : World) (B j : Nat) (v0 v1 v2 v3 v4 v5 v6 v7 : Value) : Turn (fun k => k = B) w ((((((((w.setCell ⟨B, j, none⟩ v0).setCell ⟨B, j + 1, none⟩ v1).setCell ⟨B, j + 2, none⟩ v2).setCell ⟨B, j + 3, none⟩ v3).setCell ⟨B, j + 4, none⟩ v4).setCell ⟨B, j + 5, none⟩ v5).setCell ⟨B, j + 6, none⟩ v6).setCell ⟨B, j + 7, none⟩ v7) :=
  ((((((((Turn.refl (fun k => k = B) w).set (p := ⟨B, j, none⟩) rfl v0).set (p := ⟨B, j + 1, none⟩) rfl v1).set (p := ⟨B, j + 2, none⟩) rfl v2).set (p := ⟨B, j + 3, none⟩) rfl v3).set (p := ⟨B, j + 4, none⟩) rfl v4).set (p := ⟨B, j + 5, none⟩) rfl v5).set (p := ⟨B, j + 6, none⟩) rfl v6).set (p := ⟨B, j + 7, none⟩) rfl v7

theorem RtCame.new {w w' : World} {A : Option Addr} {V : List Rv} (h : RtCame w A V) (t : New w w') : RtCame w' A V := by
  intro i v hv
  obtain ⟨⟨b, off, ha, hc⟩, h1, h2⟩ := h i v hv
  have h0 : w.cell? ⟨b, off + i * 8, none⟩ = some (.int .i64 v.r.p) := hc 0 (by omega)
  have hb' := t.block b (World.block_lt_of_cell? w _ h0) (fun f => f)
  exact ⟨⟨b, off, ha, fun j hj => (World.cell?_of_block hb').trans (hc j hj)⟩, h1.new t, h2⟩
theorem RtCame.at {w : World} {A : Option Addr} {V : List Rv} (h : RtCame w A V) (i : Nat) (hi : i < V.length) :
    ∃ (b off : Nat) (p a l o nx md lc : Int) (x : Option Addr) (n c : Nat) (xs : List Int), A = some ⟨b, off, none⟩ ∧ V[i]? = some ⟨⟨p, a, l, o, xs, nx, md, lc⟩, x, c⟩ ∧ xs.length = n ∧ NsAt w x xs ∧ (x = none → n = 0 ∧ c = 0) ∧ n ≤ maxLen ∧ w.cell? ⟨b, off + i * 8, none⟩ = some (.int .i64 p) ∧ w.cell? ⟨b, off + i * 8 + 1, none⟩ = some (.int .i64 a) ∧ w.cell? ⟨b, off + i * 8 + 2, none⟩ = some (.int .i64 l) ∧ w.cell? ⟨b, off + i * 8 + 3, none⟩ = some (.int .i64 o) ∧ w.cell? ⟨b, off + i * 8 + 4, none⟩ = some (.slice x n c) ∧ w.cell? ⟨b, off + i * 8 + 5, none⟩ = some (.int .i64 nx) ∧ w.cell? ⟨b, off + i * 8 + 6, none⟩ = some (.int .i64 md) ∧ w.cell? ⟨b, off + i * 8 + 7, none⟩ = some (.int .i64 lc) := by
  obtain ⟨⟨b, off, h1, h2⟩, hh⟩ := h i _ (List.getElem?_eq_getElem hi)
  exact ⟨b, off, _, _, _, _, _, _, _, _, _, _, _, h1, List.getElem?_eq_getElem hi, rfl, hh.1, hh.2.1, hh.2.2, h2 0 (by omega), h2 1 (by omega), h2 2 (by omega), h2 3 (by omega), h2 4 (by omega), h2 5 (by omega), h2 6 (by omega), h2 7 (by omega)⟩
theorem RtCame.rt {w : World} {A : Option Addr} {V : List Rv} (h : RtCame w A V) (hb : ∀ v ∈ V, v.r.xs.length ≤ 1048576) : RtAt w A V := by
  intro i v hv
  obtain ⟨h1, h2, h3, -⟩ := h i v hv
  exact ⟨h1, h2, h3, hb v (List.mem_of_getElem? hv)⟩

set_option maxHeartbeats 3200000 in
theorem szRts_any (A : Option Addr) (n c : Nat) (V : List Rv) (w : World) (h : RtCame w A V) (hn : V.length = n) (hm : n ≤ maxLen) :
    Calls Try.prog 5 #[.slice A n c, .int .i64 1048576] w fun e w' => (∃ z : Int, e = .returned (.int .i64 z) ∧ (z = -1 ∨ (0 ≤ z ∧ z ≤ 1048576 ∧ n ≤ 1048576 ∧ ∀ v ∈ V, v.r.xs.length ≤ 1048576))) ∧ New w w' := by
  have HN : Hid (V.length = n) := hn
  unfold maxLen at hm
  clear hn
  by_cases hbig : 1048576 < n
  case pos =>
    go_enter Try.func5, Try.ntmps5
    go_wp2
    go_ret
    exact ⟨⟨_, rfl, .inl rfl⟩, New.refl _⟩
  have hm' : n ≤ 1048576 := by omega
  clear hm hbig
  go_enter Try.func5, Try.ntmps5
  go_wp2
  go_loopw [1, 5] (fun t i wr => ∃ (k : Nat) (z : Int), k ≤ n ∧ 0 ≤ z ∧ z ≤ 1048576 ∧ t = .int .i64 z ∧ i = .int .i64 k ∧ New w wr ∧ ∀ v ∈ V.take k, v.r.xs.length ≤ 1048576) (fun _ i _ => n - (intOf i).toNat)
  case atStart => exact ⟨0, _, Nat.zero_le _, by omega, by omega, rfl, rfl, New.refl _, by simp⟩
  case round =>
    obtain ⟨k, z, hk, hz0, hz1, rfl, rfl, hnw, hall⟩ := hrel
    by_cases hlt : k < n
    · obtain ⟨b, off, p, a, l, o, nx, md, lc, x, m, d, xs, rfl, hv, hlen, hns, hnl, hmx, q0, q1, q2, q3, q4, q5, q6, q7⟩ := (h.new hnw).at k (by have := HN.out; omega)
      have HL : Hid (xs.length = m) := hlen
      have hall' : m ≤ 1048576 → ∀ v ∈ V.take (k + 1), v.r.xs.length ≤ 1048576 := by
        intro hmm v hv'
        obtain ⟨hk', e⟩ := List.getElem?_eq_some_iff.1 hv
        rw [List.take_succ_eq_append_getElem hk', e] at hv'
        rcases List.mem_append.1 hv' with h1 | h1
        · exact hall v h1
        · obtain rfl := List.mem_singleton.1 h1
          rw [show (Rv.r ⟨⟨p, a, l, o, xs, nx, md, lc⟩, x, d⟩).xs.length = m from HL.out]; exact hmm
      clear hv hlen hns hnl h hall
      by_cases hfit : (m : Int) ≤ z
      · go_wp2_with fail
        refine (szRt_okZ p a l o nx md lc x m d z _ hz0 hz1 hfit).mono ?_
        rintro e w1 ⟨rfl, hn1⟩
        clear q0 q1 q2 q3 q4 q5 q6 q7
        go_wp2
        go_roundw
        case rel => exact ⟨k + 1, z - m, by omega, by omega, by omega, rfl, by go_num, hnw.trans hn1, hall' (by omega)⟩
        case measure => simp [intOf]; omega
      · go_wp2_with fail
        refine (szRt_bigZ p a l o nx md lc x m d z _ hz0 hz1 hmx (by omega)).mono ?_
        rintro e w1 ⟨rfl, hn1⟩
        clear q0 q1 q2 q3 q4 q5 q6 q7
        go_wp2
        go_ret
        exact ⟨⟨_, rfl, .inl rfl⟩, hnw.trans hn1⟩
    · go_wp2
      go_ret
      refine ⟨⟨_, rfl, .inr ⟨hz0, hz1, hm', ?_⟩⟩, hnw⟩
      rw [List.take_of_length_le (by have := HN.out; omega)] at hall
      exact hall

set_option maxHeartbeats 6400000 in
theorem toRts_any (A : Option Addr) (n c : Nat) (V : List Rv) (w : World) (h : RtAt w A V) (hn : V.length = n) (hm : n ≤ 1048576) :
    Calls Try.prog 7 #[.slice A n c] w fun e w' => ∃ g V', e = .returned (.slice (some ⟨g, 0, none⟩) n n) ∧ V'.map Rv.r = V.map Rv.r ∧ OwT w' w.heap.size w'.heap.size (.slice (some ⟨g, 0, none⟩) n n) V' ∧ New w w' := by
  have HN : Hid (V.length = n) := hn
  clear hn
  obtain ⟨i0, hi, hz0, hz1, hz2⟩ := info_parts Try.infoRt
  go_enter Try.func7, Try.ntmps7
  go_wp2_with (at_make; refine wpList_make_full _ rfl _ _ 35 rfl w.heap.size 31 i0 (.agg #[.int .i64 0, .int .i64 0, .int .i64 0, .int .i64 0, .slice none 0 0, .int .i64 0, .int .i64 0, .int .i64 0]) 8 Try.underlying35 hi hz0 hz1 _ _ _ _ n rfl rfl rfl rfl ?b2 ?b3 (Nat.le_refl _) ?_)
  case b2 => rw [hz2]; omega
  case b3 => unfold maxLen; omega
  intro w0 hown0 hgrow0
  have hown : OwRow w0 w.heap.size n n ([] ++ List.replicate (n - 0) rv0) := by
    have := own_base hown0
    have e8 := made_rv n
    simp only [OwRow, List.nil_append, Nat.sub_zero]
    rw [← e8]
    exact this
  have hnew := New.of_grown hgrow0
  clear hown0 hgrow0
  go_wp2
  go_loopw [4] (fun i wr => ∃ (k : Nat) (V' : List Rv), k ≤ n ∧ i = .int .i64 k ∧ V'.length = k ∧ V'.map Rv.r = (V.take k).map Rv.r ∧ New w wr ∧ OwRow wr w.heap.size n n (V' ++ List.replicate (n - k) rv0) ∧ PathsT wr (w.heap.size + 1) wr.heap.size V') (fun i _ => n - (intOf i).toNat)
  case atStart => exact ⟨0, [], Nat.zero_le _, rfl, rfl, rfl, hnew, hown, PathsT.nil _ _ _⟩
  case round =>
    obtain ⟨k, V', hk, rfl, hl', hmap, hnw, how, hpa⟩ := hrel
    have HL' : Hid (V'.length = k) := hl'
    clear hl'
    by_cases hlt : k < n
    · obtain ⟨b, off, p, a, l, o, nx, md, lc, x, m, d, xs, rfl, hv, hlen, hns, hnl, hmx, q0, q1, q2, q3, q4, q5, q6, q7⟩ := (h.new hnw).at k (by have := HN.out; omega)
      have HL : Hid (xs.length = m) := hlen
      have hbd : Hid (∀ z ∈ xs, In6 z) := hns.bd
      have HM : Hid (∀ u : Rv, u.r = ⟨p, a, l, o, xs, nx, md, lc⟩ → (V' ++ [u]).map Rv.r = (V.take (k + 1)).map Rv.r) := by
        intro u hu
        obtain ⟨hk', e⟩ := List.getElem?_eq_some_iff.1 hv
        rw [List.take_succ_eq_append_getElem hk', e, List.map_append, List.map_append, hmap]
        simp [hu]
      have hgl : w.heap.size < wr.heap.size := how.lt
      clear hv hlen hmap
      go_wp2_with fail
      refine (toRt_any p a l o nx md lc x m d xs _ hns HL.out hmx).mono ?_
      rintro e w1 ⟨g, rfl, hg, ho, hn1⟩
      have how1 := how.new hn1
      have hput := how1.put k ⟨⟨p, a, l, o, xs, nx, md, lc⟩, some ⟨g, 0, none⟩, m⟩
      rw [set_fillT V' k n HL'.out hlt] at hput
      simp only [HL.out] at hput
      have hov : OvN w1 wr.heap.size (Rv.pv ⟨⟨p, a, l, o, xs, nx, md, lc⟩, some ⟨g, 0, none⟩, m⟩) xs := by
        have := ho.ov7.low hg
        unfold Rv.pv
        simp only [HL.out]
        exact this
      have hpa1 := (hpa.new hn1).snoc ⟨⟨p, a, l, o, xs, nx, md, lc⟩, some ⟨g, 0, none⟩, m⟩ hov hbd.out (by simp only [HL.out]; exact hmx) (by omega) hn1.size (Nat.le_refl _)
      have hn2 := hnw.trans hn1
      have f0 := fun j => World.ownsRow.frozenAt how1 j
      obtain ⟨v0, c0⟩ := how1.cell (k * 8) (by omega)
      obtain ⟨v1, c1⟩ := how1.cell (k * 8 + 1) (by omega)
      obtain ⟨v2, c2⟩ := how1.cell (k * 8 + 2) (by omega)
      obtain ⟨v3, c3⟩ := how1.cell (k * 8 + 3) (by omega)
      obtain ⟨v4, c4⟩ := how1.cell (k * 8 + 4) (by omega)
      obtain ⟨v5, c5⟩ := how1.cell (k * 8 + 5) (by omega)
      obtain ⟨v6, c6⟩ := how1.cell (k * 8 + 6) (by omega)
      obtain ⟨v7, c7⟩ := how1.cell (k * 8 + 7) (by omega)
      have HPA : Hid _ := hpa1
      have HPU : Hid _ := hput
      clear h how how1 q0 q1 q2 q3 q4 q5 q6 q7 hnw hpa hns hnl hpa1 hput hov ho
      go_wp2
      go_roundw
      case rel =>
        have tt : Turn (fun j => j = w.heap.size) w1 ((((((((w1.setCell ⟨w.heap.size, k * 8, none⟩ (.int .i64 p)).setCell ⟨w.heap.size, k * 8 + 1, none⟩ (.int .i64 a)).setCell ⟨w.heap.size, k * 8 + 2, none⟩ (.int .i64 l)).setCell ⟨w.heap.size, k * 8 + 3, none⟩ (.int .i64 o)).setCell ⟨w.heap.size, k * 8 + 4, none⟩ (.slice (some ⟨g, 0, none⟩) m m)).setCell ⟨w.heap.size, k * 8 + 5, none⟩ (.int .i64 nx)).setCell ⟨w.heap.size, k * 8 + 6, none⟩ (.int .i64 md)).setCell ⟨w.heap.size, k * 8 + 7, none⟩ (.int .i64 lc)) := set8 w1 w.heap.size (k * 8) _ _ _ _ _ _ _ _
        refine ⟨k + 1, V' ++ [Rv.mk (Rt.mk p a l o xs nx md lc) (some (Addr.mk g 0 none)) m], by omega, by go_num, by simp [HL'.out], HM.out _ rfl, ?_, HPU.out, ?_⟩
        · exact hn2.before tt (by intro i hi e; omega)
        · exact (HPA.out.turn tt (by intro j h1 h2 e; omega)).up tt.size
      case measure => simp [intOf]; omega
    · go_wp2
      go_ret
      have hkn : k = n := by omega
      subst hkn
      rw [List.take_of_length_le (by have := HN.out; omega)] at hmap
      simp only [Nat.sub_self, List.replicate_zero, List.append_nil] at how
      refine ⟨_, V', rfl, hmap, ⟨row_of7 how (Nat.le_refl _), ?_, hpa.low (by omega)⟩, hnw⟩
      intro j hj
      simp [Value.ownBlock] at hj
      have := how.lt
      omega

set_option maxHeartbeats 3200000 in
theorem eqRts_any (A B : Option Addr) (n c e0 : Nat) (V U : List Rv) (w : World) (hF : RtAt w A V) (hG : RtAt w B U) (hVU : V.map Rv.r = U.map Rv.r) (hn : V.length = n) (hm : n ≤ 1048576) :
    Calls Try.prog 11 #[.slice A n c, .slice B n e0] w fun e w' => e = .returned (.bool true) ∧ New w w' := by
  have hnn : ((n : Int) != (n : Int)) = false := by simp
  have HN : Hid (V.length = n) := hn
  have HU : Hid (V.map Rv.r = U.map Rv.r) := hVU
  have HUN : Hid (U.length = n) := by
    have := congrArg List.length hVU
    simp at this
    show U.length = n
    omega
  clear hn hVU
  go_enter Try.func11, Try.ntmps11
  go_wp2
  go_loopw [5] (fun i wr => ∃ k : Nat, k ≤ n ∧ i = .int .i64 k ∧ New w wr) (fun i _ => n - (intOf i).toNat)
  case atStart => exact ⟨0, Nat.zero_le _, rfl, New.refl _⟩
  case round =>
    obtain ⟨k, hk, rfl, hnw⟩ := hrel
    by_cases hlt : k < n
    · obtain ⟨g1, o1, p, a, l, o, nx, md, lc, x, m, d, xs, rfl, hp1, hl1, hx1, -, hmx, x0, x1, x2, x3, x4, x5, x6, x7⟩ := (hF.new hnw).at k (by have := HN.out; omega)
      obtain ⟨g2, o2, p', a', l', o', nx', md', lc', x', m', d', xs', rfl, hp2, hl2, hx2, -, hmx', y0, y1, y2, y3, y4, y5, y6, y7⟩ := (hG.new hnw).at k (by have := HUN.out; omega)
      have hh : (⟨p, a, l, o, xs, nx, md, lc⟩ : Rt) = ⟨p', a', l', o', xs', nx', md', lc'⟩ := by
        have h1 : (V.map Rv.r)[k]? = some ⟨p, a, l, o, xs, nx, md, lc⟩ := by rw [List.getElem?_map, hp1]; rfl
        have h2 : (U.map Rv.r)[k]? = some ⟨p', a', l', o', xs', nx', md', lc'⟩ := by rw [List.getElem?_map, hp2]; rfl
        rw [HU.out, h2] at h1
        exact (Option.some.inj h1).symm
      simp only [Rt.mk.injEq] at hh
      obtain ⟨rfl, rfl, rfl, rfl, rfl, rfl, rfl, rfl⟩ := hh
      obtain rfl : m = m' := hl1.symm.trans hl2
      have HL : Hid (xs.length = m) := hl1
      clear hp1 hp2 hF hG hl1 hl2
      have X0 := cell_regrown x0
      have X1 := cell_regrown x1
      have X2 := cell_regrown x2
      have X3 := cell_regrown x3
      have X4 := cell_regrown x4
      have X5 := cell_regrown x5
      have X6 := cell_regrown x6
      have X7 := cell_regrown x7
      have Y0 := cell_regrown y0
      have Y1 := cell_regrown y1
      have Y2 := cell_regrown y2
      have Y3 := cell_regrown y3
      have Y4 := cell_regrown y4
      have Y5 := cell_regrown y5
      have Y6 := cell_regrown y6
      have Y7 := cell_regrown y7
      go_wp2_with fail
      refine wp_region_quiet_below (by kernel_rfl) (by kernel_rfl) ?_
      repeat (go_big_quiet_step ((go_at_call 32; exact calls_regrown (eqRt_any p a l o nx md lc x x' m d d' xs _ (hx1.new (new_regrown _ _ _)) (hx2.new (new_regrown _ _ _)) HL.out hmx))))
      refine wpQuiet_nil ?_
      rintro w1 hn1
      replace hn1 := new_of_regrown hn1
      go_wp2
      go_roundw
      case rel => exact ⟨k + 1, by omega, by go_num, hnw.trans hn1⟩
      case measure => simp [intOf]; omega
    · go_wp2
      go_ret
      exact ⟨rfl, hnw⟩

end Go.Proofs.Ytkaaefieglhdlaa

namespace Go.Proofs.Ytkaaefieglhdlaa
open Go.RowKit Go.Sort
set_option linter.unusedVariables false

/-- A route, marked from k on. -/
def Rv.mk7 (k : Int) (v : Rv) : Rv := ⟨⟨k, k + 1, k + 1 + 1, k + 1 + 1 + 1, mkN7 (k + 1 + 1 + 1 + 1) v.r.xs.length, k + 1 + 1 + 1 + 1 + v.r.xs.length, k + 1 + 1 + 1 + 1 + v.r.xs.length + 1, k + 1 + 1 + 1 + 1 + v.r.xs.length + 1 + 1⟩, v.x, v.c⟩
/-- The next mark. -/
def Rv.nx7 (k : Int) (v : Rv) : Int := k + 1 + 1 + 1 + 1 + v.r.xs.length + 1 + 1 + 1
/-- The routes, marked from k on; the next mark. -/
def markT : Int → List Rv → List Rv
  | _, [] => []
  | k, v :: V => v.mk7 k :: markT (v.nx7 k) V
def endT : Int → List Rv → Int
  | k, [] => k
  | k, v :: V => endT (v.nx7 k) V
theorem markT_length (V : List Rv) : ∀ k, (markT k V).length = V.length := by
  induction V with
  | nil => intro k; rfl
  | cons f F ih => intro k; simp [markT, ih]
theorem endT_snoc (V : List Rv) (v : Rv) : ∀ k, endT k (V ++ [v]) = v.nx7 (endT k V) := by
  induction V with
  | nil => intro k; rfl
  | cons g F ih => intro k; simp only [List.cons_append, endT]; exact ih _
theorem markT_snoc (V : List Rv) (v : Rv) : ∀ k, markT k (V ++ [v]) = markT k V ++ [v.mk7 (endT k V)] := by
  induction V with
  | nil => intro k; rfl
  | cons g F ih => intro k; simp only [List.cons_append, markT, endT, ih]
theorem endT_bd (V : List Rv) : ∀ k, (∀ v ∈ V, v.r.xs.length ≤ 1048576) → k ≤ endT k V ∧ endT k V ≤ k + V.length * 1048583 := by
  induction V with
  | nil => intro k _; simp [endT]
  | cons f F ih =>
    intro k h
    have h1 := h f (by simp)
    have h2 := ih (f.nx7 k) (fun g hg => h g (by simp [hg]))
    simp only [endT, List.length_cons]
    unfold Rv.nx7 at h2 ⊢
    omega
theorem take_snocT {V : List Rv} {k : Nat} {f : Rv} (h : V[k]? = some f) : V.take (k + 1) = V.take k ++ [f] := by
  obtain ⟨hk, rfl⟩ := List.getElem?_eq_some_iff.1 h
  exact List.take_succ_eq_append_getElem hk
theorem markT_get (V : List Rv) {j : Nat} {f : Rv} (h : V[j]? = some f) (k : Int) : (markT k V)[j]? = some (f.mk7 (endT k (V.take j))) := by
  induction V generalizing j k with
  | nil => simp at h
  | cons g F ih =>
    cases j with
    | zero => simp at h; subst h; simp [markT, endT]
    | succ j => simp at h; simp only [markT, List.getElem?_cons_succ, List.take_succ_cons, endT]; exact ih h _
theorem endT_take {V : List Rv} {j : Nat} {f : Rv} (h : V[j]? = some f) (k : Int) : endT k (V.take (j + 1)) = f.nx7 (endT k (V.take j)) := by rw [take_snocT h, endT_snoc]
theorem stepT_get {V : List Rv} {j : Nat} {f : Rv} (h : V[j]? = some f) (k : Int) : (markT k (V.take j) ++ V.drop j)[j]? = some f := by
  obtain ⟨hj, rfl⟩ := List.getElem?_eq_some_iff.1 h
  have hl : (markT k (V.take j)).length = j := by rw [markT_length, List.length_take]; omega
  rw [List.getElem?_append_right (by omega), hl, Nat.sub_self, List.getElem?_drop]
  exact h
theorem stepT_set {V : List Rv} {j : Nat} {f : Rv} (h : V[j]? = some f) (k : Int) : (markT k (V.take j) ++ V.drop j).set j (f.mk7 (endT k (V.take j))) = markT k (V.take (j + 1)) ++ V.drop (j + 1) := by
  have hf := take_snocT h
  obtain ⟨hj, rfl⟩ := List.getElem?_eq_some_iff.1 h
  have hl : (markT k (V.take j)).length = j := by rw [markT_length, List.length_take]; omega
  rw [hf, markT_snoc, List.set_append_right _ _ (by omega), hl, Nat.sub_self, List.drop_eq_getElem_cons hj, List.set_cons_zero]
  simp
theorem markT_eq : ∀ (V U : List Rv) (k : Int), V.map (fun v => v.r.xs.length) = U.map (fun v => v.r.xs.length) → endT k V = endT k U ∧ (markT k V).map Rv.r = (markT k U).map Rv.r
  | [], [], k, _ => ⟨rfl, rfl⟩
  | [], u :: U, k, h => by simp at h
  | v :: V, [], k, h => by simp at h
  | v :: V, u :: U, k, h => by
    simp only [List.map_cons, List.cons.injEq] at h
    have := markT_eq V U (v.nx7 k) h.2
    have e : u.nx7 k = v.nx7 k := by unfold Rv.nx7; rw [h.1]
    simp only [endT, markT, List.map_cons, e]
    exact ⟨this.1, by rw [this.2]; simp [Rv.mk7, h.1]⟩

theorem cellsT_set7 : ∀ (V : List Rv) (i : Nat) (u v : Rv), V[i]? = some u → v.pv = u.pv → (((((((cellsT V).set (i * 8) (.int .i64 v.r.p)).set (i * 8 + 1) (.int .i64 v.r.a)).set (i * 8 + 2) (.int .i64 v.r.l)).set (i * 8 + 3) (.int .i64 v.r.o)).set (i * 8 + 5) (.int .i64 v.r.nx)).set (i * 8 + 6) (.int .i64 v.r.md)).set (i * 8 + 7) (.int .i64 v.r.lc) = cellsT (V.set i v)
  | [], i, u, v, h, _ => by simp at h
  | q :: V, 0, u, v, h, e => by
    simp at h
    subst h
    have e' : Value.slice v.x v.r.xs.length v.c = .slice q.x q.r.xs.length q.c := e
    simp [cellsT_cons, e']
  | q :: V, i + 1, u, v, h, e => by
    have ih := cellsT_set7 V i u v (by simpa using h) e
    rw [show (i + 1) * 8 = i * 8 + 8 by omega, cellsT_cons, show (q :: V).set (i + 1) v = q :: V.set i v from rfl, cellsT_cons, ← ih]
    simp only [Nat.add_assoc, Nat.reduceAdd, List.set_cons_succ]

/-- One path in its place is marked. -/
theorem PathsT.put {w w' : World} {lo hi j : Nat} {V : List Rv} {u v : Rv} {S : Nat → Prop} (h : PathsT w lo hi V) (hj : V[j]? = some u) (hp : v.pv = u.pv) (hb : ∀ z ∈ v.r.xs, In6 z) (ho : OvN w' lo v.pv v.r.xs) (t : Turn S w w') (hS : ∀ (i : Nat) (q : Rv) (k : Nat), i ≠ j → V[i]? = some q → q.pv.ownBlock = some k → ¬ S k) : PathsT w' lo hi (V.set j v) := by
  have hl : v.r.xs.length = u.r.xs.length := by
    have : Value.slice v.x v.r.xs.length v.c = .slice u.x u.r.xs.length u.c := hp
    simp only [Value.slice.injEq] at this
    exact this.2.1
  have get : ∀ (i : Nat) (g : Rv), (V.set j v)[i]? = some g → (i = j ∧ g = v) ∨ (i ≠ j ∧ V[i]? = some g) := by
    intro i g hi
    rw [List.getElem?_set] at hi
    split at hi
    · split at hi
      · left; exact ⟨by omega, (Option.some.inj hi).symm⟩
      · cases hi
    · right; exact ⟨by omega, hi⟩
  have mem : ∀ g ∈ V.set j v, ∃ i : Nat, (i = j ∧ g = v) ∨ (i ≠ j ∧ V[i]? = some g) := by
    intro g hg
    obtain ⟨i, hi⟩ := List.getElem?_of_mem hg
    exact ⟨i, get i g hi⟩
  have hu := List.mem_of_getElem? hj
  refine ⟨?_, ?_, ?_, ?_⟩
  · intro g hg
    obtain ⟨i, ⟨-, rfl⟩ | ⟨hne, hi⟩⟩ := mem g hg
    · exact ho
    · exact (h.own g (List.mem_of_getElem? hi)).turn7 t (fun k hk => hS i g k hne hi hk)
  · intro g hg
    obtain ⟨i, ⟨-, rfl⟩ | ⟨hne, hi⟩⟩ := mem g hg
    · exact ⟨hb, by rw [hl]; exact (h.bd u hu).2⟩
    · exact h.bd g (List.mem_of_getElem? hi)
  · intro g hg k hk
    obtain ⟨i, ⟨-, rfl⟩ | ⟨hne, hi⟩⟩ := mem g hg
    · rw [hp] at hk; exact h.lies u hu k hk
    · exact h.lies g (List.mem_of_getElem? hi) k hk
  · intro i k g1 g2 b h1 h2 hne hx hy
    rcases get i g1 h1 with ⟨e1, q1⟩ | ⟨n1, k1⟩
    · rcases get k g2 h2 with ⟨e2, q2⟩ | ⟨n2, k2⟩
      · omega
      · rw [q1, hp] at hx; rw [e1] at hne; exact h.apart j k u g2 b hj k2 hne hx hy
    · rcases get k g2 h2 with ⟨e2, q2⟩ | ⟨n2, k2⟩
      · rw [q2, hp] at hy; rw [e2] at hne; exact h.apart i j g1 u b k1 hj hne hx hy
      · exact h.apart i k g1 g2 b k1 k2 hne hx hy

/-- The row of the routes and a path are two blocks. -/
theorem row_ne7 {w : World} {lo g n c : Nat} {V : List Rv} {v : Value} {xs : List Int} (h : OwRow w g n c V) (ho : OvN w lo v xs) : v.ownBlock ≠ some g := by
  intro e
  rcases ho.2 with ⟨h', _⟩ | ⟨g1, c1, cur1, h1, _, hb1, _⟩
  · rw [h'] at e; simp [Value.ownBlock] at e
  · rw [h1] at e
    simp [Value.ownBlock] at e
    subst e
    rcases h.2 with ⟨h', _⟩ | ⟨_, _, cur2, h2, _, hb2, _⟩
    · simp at h'
    · simp only [Value.slice.injEq, Option.some.injEq, Addr.mk.injEq, and_true, true_and] at h2
      rw [← h2.1, hb1] at hb2
      simp at hb2

theorem set4 (w : World) (B j : Nat) (v0 v1 v2 v3 : Value) : Turn (fun k => k = B) w ((((w.setCell ⟨B, j, none⟩ v0).setCell ⟨B, j + 1, none⟩ v1).setCell ⟨B, j + 2, none⟩ v2).setCell ⟨B, j + 3, none⟩ v3) :=
  ((((Turn.refl (fun k => k = B) w).set (p := ⟨B, j, none⟩) rfl v0).set (p := ⟨B, j + 1, none⟩) rfl v1).set (p := ⟨B, j + 2, none⟩) rfl v2).set (p := ⟨B, j + 3, none⟩) rfl v3
theorem set3 (w : World) (B j : Nat) (v0 v1 v2 : Value) : Turn (fun k => k = B) w (((w.setCell ⟨B, j + 5, none⟩ v0).setCell ⟨B, j + 6, none⟩ v1).setCell ⟨B, j + 7, none⟩ v2) :=
  (((Turn.refl (fun k => k = B) w).set (p := ⟨B, j + 5, none⟩) rfl v0).set (p := ⟨B, j + 6, none⟩) rfl v1).set (p := ⟨B, j + 7, none⟩) rfl v2

set_option maxHeartbeats 6400000 in
theorem markRow_any (g n c lo hi : Nat) (k : Int) (V : List Rv) (w : World) (hO : OwRow w g n c V) (hP : PathsT w lo hi V) (hg : lo ≤ g) (hgi : g < hi) (hm : n ≤ 1048576) (hk0 : 0 ≤ k) (hk : k ≤ 1048576) :
    Calls Try.prog 12 #[.slice (some ⟨g, 0, none⟩) n c, .int .i64 k] w fun e w' => e = .returned (.int .i64 (endT k V)) ∧ OwRow w' g n c (markT k V) ∧ PathsT w' lo hi (markT k V) ∧ Turn (fun x => lo ≤ x ∧ x < hi) w w' := by
  have HLn : Hid (V.length = n) := hO.len
  have hl : Hid (∀ v ∈ V, v.r.xs.length ≤ 1048576) := fun v hv => (hP.bd v hv).2
  have HBd : Hid (∀ j, j ≤ n → k ≤ endT k (V.take j) ∧ endT k (V.take j) ≤ k + 1099518967808) := by
    intro j hj
    have h1 := endT_bd (V.take j) k (fun f hf => hl.out f (List.mem_of_mem_take hf))
    have h2 : ((V.take j).length : Int) * 1048583 ≤ 1048576 * 1048583 := by
      have : (V.take j).length ≤ 1048576 := by rw [List.length_take]; omega
      omega
    omega
  go_enter Try.func12, Try.ntmps12
  go_wp2
  go_loopw [1, 5] (fun s i wr => ∃ j : Nat, j ≤ n ∧ i = .int .i64 j ∧ s = .int .i64 (endT k (V.take j)) ∧ OwRow wr g n c (markT k (V.take j) ++ V.drop j) ∧ PathsT wr lo hi (markT k (V.take j) ++ V.drop j) ∧ Turn (fun x => lo ≤ x ∧ x < hi) w wr) (fun _ i _ => n - (intOf i).toNat)
  case atStart => exact ⟨0, Nat.zero_le _, rfl, rfl, by simpa [markT] using hO, by simpa [markT] using hP, Turn.refl _ _⟩
  case round =>
    obtain ⟨j, hj, rfl, rfl, hC, hQ, htn⟩ := hrel
    by_cases hlt : j < n
    · obtain ⟨f, hfj⟩ : ∃ f, V[j]? = some f := ⟨_, List.getElem?_eq_getElem (by have := HLn.out; omega)⟩
      have hCj := stepT_get hfj k
      have he := HBd.out j hj
      have HE : Hid (endT k (V.take (j + 1)) = f.nx7 (endT k (V.take j))) := endT_take hfj k
      have HS2 : Hid _ := stepT_set hfj k
      generalize markT k (V.take j) ++ V.drop j = CC at *
      generalize endT k (V.take j) = kc at *
      have HCj : Hid (CC[j]? = some f) := hCj
      have hov := hQ.own f (List.mem_of_getElem? hCj)
      have hbf := (hQ.bd f (List.mem_of_getElem? hCj)).2
      have hCC := hC.len
      have HCC : Hid (CC.length = n) := hCC
      have x4 : wr.cell? ⟨g, j * 8 + 4, none⟩ = some (.slice f.x f.r.xs.length f.c) := by
        rw [World.ownsRow.cellAt hC (j * 8 + 4) (by omega)]
        exact cellsT_get CC j f hCj 4 (by omega)
      have f0 := fun q => World.ownsRow.frozenAt hC q
      obtain ⟨v0, c0⟩ := hC.cell (j * 8) (by omega)
      obtain ⟨v1, c1⟩ := hC.cell (j * 8 + 1) (by omega)
      obtain ⟨v2, c2⟩ := hC.cell (j * 8 + 2) (by omega)
      obtain ⟨v3, c3⟩ := hC.cell (j * 8 + 3) (by omega)
      obtain ⟨fr, fa, fc⟩ := f
      obtain ⟨p, a, l, o, xs, nx, md, lc⟩ := fr
      simp only [Rv.pv] at x4 hov hbf
      clear hfj hCj hCC
      have hg1 := (World.ownsRow.stored hC (j * 8) (.int .i64 kc)).1
      have hg2 := (World.ownsRow.stored hg1 (j * 8 + 1) (.int .i64 (kc + 1))).1
      have hg3 := (World.ownsRow.stored hg2 (j * 8 + 1 + 1) (.int .i64 (kc + 1 + 1))).1
      have hg4 := (World.ownsRow.stored hg3 (j * 8 + 3) (.int .i64 (kc + 1 + 1 + 1))).1
      have t4 : Turn (fun k => k = g) wr ((((wr.setCell ⟨g, j * 8, none⟩ (.int .i64 kc)).setCell ⟨g, j * 8 + 1, none⟩ (.int .i64 (kc + 1))).setCell ⟨g, j * 8 + 1 + 1, none⟩ (.int .i64 (kc + 1 + 1))).setCell ⟨g, j * 8 + 3, none⟩ (.int .i64 (kc + 1 + 1 + 1))) := set4 wr g (j * 8) (.int .i64 kc) (.int .i64 (kc + 1)) (.int .i64 (kc + 1 + 1)) (.int .i64 (kc + 1 + 1 + 1))
      have HNE : Hid (∀ b, (Value.slice fa xs.length fc).ownBlock = some b → ¬ b = g) := fun b hb e => row_ne7 hC hov (by rw [hb, e])
      have hov4 := hov.turn7 t4 HNE.out
      have HRN : Hid (∀ q ∈ CC, ∀ b, q.pv.ownBlock = some b → ¬ b = g) := fun q hq b hb e => row_ne7 hC (hQ.own q hq) (by rw [hb, e])
      clear hg1 hg2 hg3 hov
      go_upto_region 12 with fail
      have hs4 : ((((cellsT CC).set (j * 8) (.int .i64 kc)).set (j * 8 + 1) (.int .i64 (kc + 1))).set (j * 8 + 1 + 1) (.int .i64 (kc + 1 + 1))).set (j * 8 + 3) (.int .i64 (kc + 1 + 1 + 1)) = ((((cellsT CC).set (j * 8) (.int .i64 kc)).set (j * 8 + 1) (.int .i64 (kc + 1))).set (j * 8 + 2) (.int .i64 (kc + 1 + 1))).set (j * 8 + 3) (.int .i64 (kc + 1 + 1 + 1)) := rfl
      rw [hs4] at hg4
      have T4 := Turn.trans htn t4 (T := fun k => k = g) (by rintro i - rfl; exact ⟨hg, hgi⟩)
      generalize ((((wr.setCell ⟨g, j * 8, none⟩ (.int .i64 kc)).setCell ⟨g, j * 8 + 1, none⟩ (.int .i64 (kc + 1))).setCell ⟨g, j * 8 + 1 + 1, none⟩ (.int .i64 (kc + 1 + 1))).setCell ⟨g, j * 8 + 3, none⟩ (.int .i64 (kc + 1 + 1 + 1))) = w4 at *
      have hlen4 : (((((cellsT CC).set (j * 8) (.int .i64 kc)).set (j * 8 + 1) (.int .i64 (kc + 1))).set (j * 8 + 2) (.int .i64 (kc + 1 + 1))).set (j * 8 + 3) (.int .i64 (kc + 1 + 1 + 1))).length = n * 8 := by simp [cellsT_len, HCC.out]
      have x4' : w4.cell? ⟨g, j * 8 + 4, none⟩ = some (.slice fa xs.length fc) := by
        rw [World.ownsRow.cellAt hg4 (j * 8 + 4) (by omega), List.getElem?_set_ne (by omega), List.getElem?_set_ne (by omega), List.getElem?_set_ne (by omega), List.getElem?_set_ne (by omega)]
        exact cellsT_get CC j _ HCj.out 4 (by omega)
      clear hs4 x4 c0 c1 c2 c3 f0 hC
      generalize hD4 : ((((cellsT CC).set (j * 8) (.int .i64 kc)).set (j * 8 + 1) (.int .i64 (kc + 1))).set (j * 8 + 2) (.int .i64 (kc + 1 + 1))).set (j * 8 + 3) (.int .i64 (kc + 1 + 1 + 1)) = D4 at *
      have HD4 : Hid _ := hD4
      have HLD : Hid _ := hlen4
      clear hD4 hlen4
      go_wp2_with fail
      refine (markOv7 lo fa xs.length fc xs (kc + 1 + 1 + 1 + 1) _ hov4 rfl hbf (by omega) (by omega)).mono ?_
      rintro e w5 ⟨rfl, hov5, t5⟩
      have hg5 : w5.ownsRow 0 31 8 (.slice (some ⟨g, 0, none⟩) n c) n D4 := by
        refine ⟨hg4.1, ?_⟩
        rcases hg4.2 with ⟨h', _⟩ | ⟨g', cap', cur, h', r⟩
        · simp at h'
        · simp only [Value.slice.injEq, Option.some.injEq, Addr.mk.injEq, and_true, true_and] at h'
          obtain ⟨rfl, rfl⟩ := h'
          have hlt4 : g < w4.heap.size := (Array.getElem?_eq_some_iff.1 r.2.1).1
          exact .inr ⟨g, c, cur, rfl, r.1, (t5.block g hlt4 (fun e => HNE.out g e rfl)).trans r.2.1, r.2.2⟩
      have f5 := fun q => World.ownsRow.frozenAt hg5 q
      obtain ⟨v5, c5⟩ : ∃ v, w5.cell? ⟨g, j * 8 + 5, none⟩ = some v := ⟨_, (World.ownsRow.cellAt hg5 _ (by omega)).trans (List.getElem?_eq_getElem (by rw [HLD.out]; omega))⟩
      obtain ⟨v6, c6⟩ : ∃ v, w5.cell? ⟨g, j * 8 + 6, none⟩ = some v := ⟨_, (World.ownsRow.cellAt hg5 _ (by omega)).trans (List.getElem?_eq_getElem (by rw [HLD.out]; omega))⟩
      obtain ⟨v7, c7⟩ : ∃ v, w5.cell? ⟨g, j * 8 + 7, none⟩ = some v := ⟨_, (World.ownsRow.cellAt hg5 _ (by omega)).trans (List.getElem?_eq_getElem (by rw [HLD.out]; omega))⟩
      clear x4' hg4
      go_wp2
      go_roundw
      case rel =>
        have h1 := (World.ownsRow.stored hg5 (j * 8 + 5) (.int .i64 (kc + 1 + 1 + 1 + 1 + xs.length))).1
        have h2 := (World.ownsRow.stored h1 (j * 8 + 6) (.int .i64 (kc + 1 + 1 + 1 + 1 + xs.length + 1))).1
        have h3 := (World.ownsRow.stored h2 (j * 8 + 7) (.int .i64 (kc + 1 + 1 + 1 + 1 + xs.length + 1 + 1))).1
        have hcs := cellsT_set7 CC j _ (Rv.mk7 kc ⟨⟨p, a, l, o, xs, nx, md, lc⟩, fa, fc⟩) HCj.out (by simp [Rv.pv, Rv.mk7, mkN7_len])
        have t7 := set3 w5 g (j * 8) (.int .i64 (kc + 1 + 1 + 1 + 1 + xs.length)) (.int .i64 (kc + 1 + 1 + 1 + 1 + xs.length + 1)) (.int .i64 (kc + 1 + 1 + 1 + 1 + xs.length + 1 + 1))
        have hS5 : ∀ b, (Value.slice fa xs.length fc).ownBlock = some b → lo ≤ b ∧ b < hi := fun b hb => ⟨(hov4.rng7 b hb).1, hQ.lies _ (List.mem_of_getElem? HCj.out) b hb⟩
        have tA : Turn (fun k => k = g ∨ (Value.slice fa xs.length fc).ownBlock = some k) wr _ := Turn.trans (Turn.trans (Turn.mono t4 (fun i _ e => .inl e)) t5 (fun i _ e => .inr e)) t7 (fun i _ e => .inl e)
        refine ⟨j + 1, by omega, by go_num, by rw [HE.out]; rfl, ?_, ?_, ?_⟩
        · rw [← HS2.out]
          unfold OwRow
          rw [← hcs]
          rw [← HD4.out] at h3
          exact h3
        · rw [← HS2.out]
          refine PathsT.put hQ HCj.out (by simp [Rv.pv, Rv.mk7, mkN7_len]) (mkN7_in _ _ (by omega) (by omega) hbf) ?_ tA ?_
          · have := hov5.turn7 t7 HNE.out
            simpa [Rv.pv, Rv.mk7, mkN7_len] using this
          · intro i q b hne hi hb hor
            rcases hor with e | hor
            · exact HRN.out q (List.mem_of_getElem? hi) b hb e
            · exact hQ.apart i j q _ b hi HCj.out hne hb hor
        · exact Turn.trans (Turn.trans T4 t5 (fun i _ e => hS5 i e)) t7 (by rintro i - rfl; exact ⟨hg, hgi⟩)
      case measure => simp [intOf]; omega
    · go_wp2
      go_ret
      obtain rfl : j = n := by omega
      have e1 : V.take j = V := List.take_of_length_le (by rw [HLn.out]; omega)
      have e2 : V.drop j = [] := List.drop_eq_nil_of_le (by rw [HLn.out]; omega)
      rw [e1, e2, List.append_nil] at hC hQ
      rw [e1]
      exact ⟨rfl, hC, hQ, htn⟩

end Go.Proofs.Ytkaaefieglhdlaa

namespace Go.Proofs.Ytkaaefieglhdlaa
open Go.RowKit Go.Sort
set_option linter.unusedVariables false

theorem markRts_any (A : Option Addr) (n c lo hi : Nat) (k : Int) (V : List Rv) (w : World) (h : OwT w lo hi (.slice A n c) V) (hm : n ≤ 1048576) (hk0 : 0 ≤ k) (hk : k ≤ 1048576) :
    Calls Try.prog 12 #[.slice A n c, .int .i64 k] w fun e w' => e = .returned (.int .i64 (endT k V)) ∧ OwT w' lo hi (.slice A n c) (markT k V) ∧ Turn (fun x => lo ≤ x ∧ x < hi) w w' := by
  rcases row_form7 h.row with ⟨hv, rfl⟩ | ⟨g, c', hv, hlo, hlt, ho⟩
  · simp only [Value.slice.injEq] at hv
    obtain ⟨rfl, rfl, rfl⟩ := hv
    go_enter Try.func12, Try.ntmps12
    go_wp2
    refine wp_loop_rounds 1 ?_
    rw [rounds_succ]
    go_wp2
    go_ret
    exact ⟨rfl, h, Turn.refl _ _⟩
  · simp only [Value.slice.injEq] at hv
    obtain ⟨rfl, rfl, rfl⟩ := hv
    refine (markRow_any g V.length c lo hi k V w ho h.path hlo (h.rhi g rfl) hm hk0 hk).mono ?_
    rintro e w1 ⟨rfl, ho1, hp1, ht⟩
    exact ⟨rfl, ⟨row_of7 ho1 hlo, h.rhi, hp1⟩, ht⟩

set_option maxRecDepth 100000 in
set_option maxHeartbeats 3200000 in
theorem heldRts_any (A : Option Addr) (n c : Nat) (k : Int) (V : List Rv) (w : World) (h : RtAt w A (markT k V)) (hn : V.length = n) (hl : ∀ v ∈ V, v.r.xs.length ≤ 1048576) (hm : n ≤ 1048576) (hk0 : 0 ≤ k) (hk : k ≤ 1048576) :
    Calls Try.prog 38 #[.slice A n c, .int .i64 k] w fun e w' => e = .returned (.int .i64 (endT k V)) ∧ w' = w := by
  have HLn : Hid (V.length = n) := hn
  have HL : Hid (∀ v ∈ V, v.r.xs.length ≤ 1048576) := hl
  have HBd : Hid (∀ j, j ≤ n → k ≤ endT k (V.take j) ∧ endT k (V.take j) ≤ k + 1099518967808) := by
    intro j hj
    have h1 := endT_bd (V.take j) k (fun f hf => hl f (List.mem_of_mem_take hf))
    have h2 : ((V.take j).length : Int) * 1048583 ≤ 1048576 * 1048583 := by
      have : (V.take j).length ≤ 1048576 := by rw [List.length_take]; omega
      omega
    omega
  clear hn hl
  go_enter Try.func38, Try.ntmps38
  go_wp2
  go_loopw [1, 5] (fun s i wr => ∃ j : Nat, j ≤ n ∧ i = .int .i64 j ∧ s = .int .i64 (endT k (V.take j)) ∧ wr = w) (fun _ i _ => n - (intOf i).toNat)
  case atStart => exact ⟨0, Nat.zero_le _, rfl, rfl, rfl⟩
  case round =>
    obtain ⟨j, hj, rfl, rfl, rfl⟩ := hrel
    by_cases hlt : j < n
    · obtain ⟨f, hfj⟩ : ∃ f, V[j]? = some f := ⟨_, List.getElem?_eq_getElem (by have := HLn.out; omega)⟩
      obtain ⟨⟨b, off, rfl, hcell⟩, hns, -⟩ := h j _ (markT_get V hfj k)
      have he := HBd.out j hj
      have HE : Hid (endT k (V.take (j + 1)) = f.nx7 (endT k (V.take j))) := endT_take hfj k
      have hlf := HL.out f (List.mem_of_getElem? hfj)
      generalize endT k (V.take j) = kc at *
      obtain ⟨⟨p, a, l, o, xs, nx, md, lc⟩, fx, fc⟩ := f
      have x0 : wr.cell? ⟨b, off + j * 8, none⟩ = some (.int .i64 kc) := hcell 0 (by omega)
      have x1 : wr.cell? ⟨b, off + j * 8 + 1, none⟩ = some (.int .i64 (kc + 1)) := hcell 1 (by omega)
      have x2 : wr.cell? ⟨b, off + j * 8 + 2, none⟩ = some (.int .i64 (kc + 1 + 1)) := hcell 2 (by omega)
      have x3 : wr.cell? ⟨b, off + j * 8 + 3, none⟩ = some (.int .i64 (kc + 1 + 1 + 1)) := hcell 3 (by omega)
      have x4 : wr.cell? ⟨b, off + j * 8 + 4, none⟩ = some (.slice fx xs.length fc) := by
        have := hcell 4 (by omega)
        simp only [Rv.mk7, Rv.cs, mkN7_len] at this
        exact this
      have x5 : wr.cell? ⟨b, off + j * 8 + 5, none⟩ = some (.int .i64 (kc + 1 + 1 + 1 + 1 + xs.length)) := hcell 5 (by omega)
      have x6 : wr.cell? ⟨b, off + j * 8 + 6, none⟩ = some (.int .i64 (kc + 1 + 1 + 1 + 1 + xs.length + 1)) := hcell 6 (by omega)
      have x7 : wr.cell? ⟨b, off + j * 8 + 7, none⟩ = some (.int .i64 (kc + 1 + 1 + 1 + 1 + xs.length + 1 + 1)) := hcell 7 (by omega)
      have hns' : NsAt wr fx (mkN7 (kc + 1 + 1 + 1 + 1) xs.length) := hns
      clear hcell hfj hns h
      go_wp2_with fail
      refine (heldNs7 fx xs.length fc (kc + 1 + 1 + 1 + 1) _ hns' hlf (by omega) (by omega)).mono ?_
      rintro e w5 ⟨rfl, rfl⟩
      go_wp2
      go_roundw
      case rel => exact ⟨j + 1, by omega, by go_num, by rw [HE.out]; rfl, by trivial⟩
      case measure => simp [intOf]; omega
    · go_wp2
      go_ret
      obtain rfl : j = n := by omega
      have e1 : V.take j = V := List.take_of_length_le (by rw [HLn.out]; omega)
      rw [e1]
      exact ⟨rfl, rfl⟩

theorem eqRR_any (z : Int) (A B : Option Addr) (n c d : Nat) (V U : List Rv) (w : World) (hF : RtAt w A V) (hG : RtAt w B U) (hVU : V.map Rv.r = U.map Rv.r) (hn : V.length = n) (hm : n ≤ 1048576) :
    Calls Try.prog 17 #[.agg #[.int .i64 z, .slice A n c], .agg #[.int .i64 z, .slice B n d]] w fun e w' => e = .returned (.bool true) ∧ New w w' := by
  have hw := ((New.refl w).alloc (.cells #[.int .i64 z, .slice A n c] 44)).alloc (.cells #[.int .i64 z, .slice B n d] 44)
  have hz : (z != z) = false := by simp
  go_enter Try.func17, Try.ntmps17
  go_wp2_with fail
  refine (eqRts_any A B n c d V U _ (hF.new hw) (hG.new hw) hVU hn hm).mono ?_
  rintro e w1 ⟨rfl, hn1⟩
  go_wp2
  go_ret
  exact ⟨rfl, hw.trans hn1⟩

theorem markRR_any (z : Int) (A : Option Addr) (n c lo hi : Nat) (k : Int) (V : List Rv) (w : World) (h : OwT w lo hi (.slice A n c) V) (hm : n ≤ 1048576) (hk0 : 0 ≤ k) (hk : k ≤ 1048576) (hhi : hi ≤ w.heap.size) :
    Calls Try.prog 18 #[.agg #[.int .i64 z, .slice A n c], .int .i64 k] w fun e w' => e = .returned (.int .i64 (endT k V)) ∧ OwT w' lo hi (.slice A n c) (markT k V) ∧ Turn (fun x => lo ≤ x ∧ x < hi) w w' := by
  have hw := (New.refl w).alloc (.cells #[.int .i64 z, .slice A n c] 44)
  go_enter Try.func18, Try.ntmps18
  go_wp2_with fail
  refine (markRts_any A n c lo hi k V _ (h.new hw) hm hk0 hk).mono ?_
  rintro e w1 ⟨rfl, h1, ht⟩
  go_wp2
  go_ret
  exact ⟨rfl, h1, Turn.trans hw.turn ht (fun i _ e => e)⟩

theorem heldRR_any (z : Int) (A : Option Addr) (n c : Nat) (k : Int) (V : List Rv) (w : World) (h : RtAt w A (markT k V)) (hn : V.length = n) (hl : ∀ v ∈ V, v.r.xs.length ≤ 1048576) (hm : n ≤ 1048576) (hk0 : 0 ≤ k) (hk : k ≤ 1048576) :
    Calls Try.prog 19 #[.agg #[.int .i64 z, .slice A n c], .int .i64 k] w fun e w' => e = .returned (.int .i64 (endT k V)) ∧ New w w' := by
  have hw := (New.refl w).alloc (.cells #[.int .i64 z, .slice A n c] 44)
  have he := (endT_bd V k hl).1
  go_enter Try.func19, Try.ntmps19
  go_wp2_with fail
  refine (heldRts_any A n c k V _ (h.new hw) hn hl hm hk0 hk).mono ?_
  rintro e w1 ⟨rfl, rfl⟩
  go_wp2
  go_ret
  exact ⟨rfl, hw⟩

/-- An answer: a code, and routes that the call owns. -/
def RAns (w : World) (z : Int) (R : List Rt) (e : Ending) (w' : World) : Prop :=
  ∃ A n c V, e = .returned (.agg #[.int .i64 z, .slice A n c]) ∧ V.map Rv.r = R ∧ V.length = n ∧ OwT w' w.heap.size w'.heap.size (.slice A n c) V ∧ New w w'

end Go.Proofs.Ytkaaefieglhdlaa
