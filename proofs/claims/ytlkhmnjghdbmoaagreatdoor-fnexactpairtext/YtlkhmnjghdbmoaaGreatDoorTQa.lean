/- What is proved here: rows of texts in a row: what an append keeps. What is proved here: the words of a pair, in the program. -/
import Derived.Test.YtlkhmnjghdbmoaaGreatDoorTxCc
import Derived.Test.YtlkhmnjghdbmoaaGreatDoorTxNw
import Derived.Test.YtlkhmnjghdbmoaaGreatDoorTQ6
namespace Go.Proofs.YtlkhmnjghdbmoaaGreatDoor
open Go.RowKit Go.Sort Go.Deep
set_option linter.unusedVariables false
set_option linter.unusedSimpArgs false

theorem Tryz.infoSs : (Tryz.prog.info? 71).map (fun i => (i.zero, i.size, i.bytes)) = some (some (.slice none 0 0), 1, 24) := by kernel_rfl
/-- A row stays where its block stays. -/
theorem own_keepB {w w' : World} {base n sz : Nat} {e : TypeId} {v : Value} {xs : List Value} (h : w.ownsRow base e sz v n xs) (hk : ∀ k, v.ownBlock = some k → w'.heap[k]? = w.heap[k]?) : w'.ownsRow base e sz v n xs := by
  refine ⟨h.1, ?_⟩
  rcases h.2 with h' | ⟨g', cap', cur, h', hb, hh, r⟩
  · exact .inl h'
  · exact .inr ⟨g', cap', cur, h', hb, (hk g' (by rw [h']; rfl)).trans hh, r⟩
theorem own_newE {w w' : World} {base n sz : Nat} {e : TypeId} {v : Value} {xs : List Value} (h : w.ownsRow base e sz v n xs) (t : New w w') : w'.ownsRow base e sz v n xs := by
  refine ⟨h.1, ?_⟩
  rcases h.2 with h' | ⟨g', cap', cur, h', hb, hh, r⟩
  · exact .inl h'
  · have hlt : g' < w.heap.size := (Array.getElem?_eq_some_iff.1 hh).1
    exact .inr ⟨g', cap', cur, h', hb, (t.block g' hlt (fun f => f)).trans hh, r⟩
/-- Rows of unlike kinds lie in unlike blocks. -/
theorem own_own_ne {w : World} {b1 b2 n1 n2 s1 s2 : Nat} {e1 e2 : TypeId} {v1 v2 : Value} {x1 x2 : List Value} (h1 : w.ownsRow b1 e1 s1 v1 n1 x1) (h2 : w.ownsRow b2 e2 s2 v2 n2 x2) (hne : e1 ≠ e2) : ∀ k, v1.ownBlock = some k → ¬ v2.ownBlock = some k := by
  intro k hk hk2
  rcases h1.2 with ⟨rfl, _⟩ | ⟨g, cap, cur, rfl, _, hh, _⟩
  · simp [Value.ownBlock] at hk
  · rcases h2.2 with ⟨rfl, _⟩ | ⟨g2, cap2, cur2, rfl, _, hh2, _⟩
    · simp [Value.ownBlock] at hk2
    · simp [Value.ownBlock] at hk hk2
      subst hk hk2
      rw [hh2] at hh
      simp only [Option.some.injEq, Obj.cells.injEq] at hh
      exact hne hh.2.1.symm
theorem own_blkE {w : World} {base n sz : Nat} {e : TypeId} {v : Value} {xs : List Value} (h : w.ownsRow base e sz v n xs) : ∀ k, v.ownBlock = some k → base ≤ k := by
  intro k hk
  rcases h.2 with ⟨rfl, _⟩ | ⟨g, cap, cur, rfl, hb, _⟩
  · simp [Value.ownBlock] at hk
  · simp [Value.ownBlock] at hk
    subst hk
    exact hb
/-- A row of texts of the call's own. -/
def SRow (w : World) (lo : Nat) (v : Value) (l : List (List UInt8)) : Prop := ∃ g c, v = .slice (some ⟨g, 0, none⟩) l.length c ∧ w.ownsRow lo 9 1 v l.length (strV l)
theorem SRow.new {w w' : World} {lo : Nat} {v : Value} {l : List (List UInt8)} (h : SRow w lo v l) (t : New w w') : SRow w' lo v l := by
  obtain ⟨g, c, e, o⟩ := h
  exact ⟨g, c, e, own_newS o t⟩
/-- Rows of texts, in a row. -/
def SRowsV (w : World) (lo : Nat) (V : Value) (L : List (List (List UInt8))) (vs : List Value) : Prop := w.ownsRow lo 71 1 V L.length vs ∧ ∀ (i : Nat) l, L[i]? = some l → ∃ v, vs[i]? = some v ∧ SRow w lo v l
def SRows (w : World) (lo : Nat) (V : Value) (L : List (List (List UInt8))) : Prop := ∃ vs, SRowsV w lo V L vs
theorem SRows.nil (w : World) (lo : Nat) : SRows w lo (.slice none 0 0) [] := ⟨[], World.ownsRow_nil _ _ _ _, fun i l h => by cases h⟩
theorem SRowsV.new {w w' : World} {lo : Nat} {V : Value} {L : List (List (List UInt8))} {vs : List Value} (h : SRowsV w lo V L vs) (t : New w w') : SRowsV w' lo V L vs :=
  ⟨own_newE h.1 t, fun i l hl => by obtain ⟨v, e, r⟩ := h.2 i l hl; exact ⟨v, e, r.new t⟩⟩
theorem SRows.new {w w' : World} {lo : Nat} {V : Value} {L : List (List (List UInt8))} (h : SRows w lo V L) (t : New w w') : SRows w' lo V L := by
  obtain ⟨vs, h⟩ := h
  exact ⟨vs, h.new t⟩
theorem SRow.keep {w w' : World} {lo lo2 n : Nat} {v V : Value} {l : List (List UInt8)} {vs : List Value} (h : SRow w lo v l) (ho : w.ownsRow lo2 71 1 V n vs) (hg : w.grownBy w' V.ownBlock) : SRow w' lo v l := by
  obtain ⟨g, c, e, o⟩ := h
  refine ⟨g, c, e, own_keepB o (fun k hk => hg.block k ?_ ?_)⟩
  · rcases o.2 with ⟨h1, _⟩ | ⟨g2, cap, cur, h1, _, hh, _⟩
    · rw [h1] at hk; simp [Value.ownBlock] at hk
    · rw [h1] at hk; simp [Value.ownBlock] at hk; subst hk; exact (Array.getElem?_eq_some_iff.1 hh).1
  · exact fun e => own_own_ne o ho (by decide) k hk e.symm
theorem SRowsV.snoc {w w' : World} {lo : Nat} {V V' v : Value} {L : List (List (List UInt8))} {vs : List Value} {l : List (List UInt8)} (h : SRowsV w lo V L vs) (hv : SRow w lo v l) (h2 : w'.ownsRow lo 71 1 V' (L.length + 1) (vs ++ [v])) (hg : w.grownBy w' V.ownBlock) : SRows w' lo V' (L ++ [l]) := by
  have hlen : vs.length = L.length := by have := h.1.1; simpa using this
  refine ⟨vs ++ [v], by rw [List.length_append]; exact h2, fun i l' hl => ?_⟩
  by_cases hi : i < L.length
  · rw [List.getElem?_append_left hi] at hl
    obtain ⟨u, e, r⟩ := h.2 i l' hl
    exact ⟨u, by rw [List.getElem?_append_left (by omega)]; exact e, r.keep h.1 hg⟩
  · rw [List.getElem?_append_right (by omega)] at hl
    obtain ⟨e0, rfl⟩ : i - L.length = 0 ∧ l = l' := by
      match hz : i - L.length, hl with
      | 0, hl => exact ⟨rfl, by simpa using hl⟩
    exact ⟨v, by rw [List.getElem?_append_right (by omega), hlen, e0]; rfl, hv.keep h.1 hg⟩
theorem take_snocL {α : Type} {X : List α} {k : Nat} {x : α} (h : X[k]? = some x) : X.take (k + 1) = X.take k ++ [x] := by
  rw [List.take_add_one, h]; rfl

end Go.Proofs.YtlkhmnjghdbmoaaGreatDoor

namespace Go.Proofs.YtlkhmnjghdbmoaaGreatDoor
open Go.RowKit Go.Sort Go.Deep
set_option linter.unusedVariables false
set_option linter.unusedSimpArgs false

/-- The words of a node, a wire, the mails. -/
def ndW (v : NdV) : List (List UInt8) := nwL v.id v.up v.ro v.ep v.V.length v.su v.co
def wiW (k : Nat) (v : WiV) : List (List UInt8) := [119, 105, 114, 101] :: [(k : Int), v.E, (v.xs.length : Int), v.T, (v.ys.length : Int)].map dg
def mlW (m s : Nat) : List (List UInt8) := [109, 97, 105, 108, 115] :: [(m : Int), (s : Int)].map dg

set_option maxRecDepth 100000 in
set_option maxHeartbeats 12800000 in
theorem pairWordsT (sa si ho nx : Int) (a1 a2 aN aW aM aS : Option Addr) (n1 c1 n2 c2 nN cN nW cW nM cM nS cS : Nat) (LN : List NdV) (LW : List WiV) (B : Nat) (w : World) (hb : Blk w B 46 #[.int .i64 sa, .int .i64 si, .int .i64 ho, .int .i64 nx, .slice a1 n1 c1, .slice a2 n2 c2, .slice aN nN cN, .slice aW nW cW, .slice aM nM cM, .slice aS nS cS]) (hn : NdAt w aN LN) (hw : WiAt w aW LW) (lN : LN.length = nN) (lW : LW.length = nW) (mN : nN ≤ 2) (mW : nW ≤ 3) (mM : nM ≤ 65535) (mS : nS ≤ 65535) (sN : ∀ v ∈ LN, NdSm v) (sW : ∀ v ∈ LW, WiSm v) (ht : Tab w) :
    Calls Tryz.prog 23 #[.pointer (some ⟨B, 0, none⟩)] w fun e w' => ∃ V, e = .returned V ∧ SRows w' w.heap.size V (LN.map ndW ++ LW.mapIdx wiW ++ [mlW nM nS]) ∧ New w w' := by
  obtain ⟨iS, hi, hz0, hz1, hz2⟩ := info_parts Tryz.infoSs
  have LNh : Hid (LN.length = nN) := lN
  have LWh : Hid (LW.length = nW) := lW
  have HSN : Hid (∀ v ∈ LN, NdSm v) := sN
  have HSW : Hid (∀ v ∈ LW, WiSm v) := sW
  clear lN lW sN sW
  have c0 := hb.cells
  go_enter Tryz.func23, Tryz.ntmps23
  go_wp2
  go_loopw [3, 12] (fun s i wr => ∃ k : Nat, k ≤ nN ∧ i = .int .i64 k ∧ SRows wr w.heap.size s ((LN.map ndW).take k) ∧ New w wr) (fun _ i _ => nN - (intOf i).toNat)
  case atStart => exact ⟨0, Nat.zero_le _, rfl, by rw [List.take_zero]; exact SRows.nil _ _, New.refl w⟩
  case round =>
    obtain ⟨k, hk, rfl, ⟨vs, sr⟩, hnw⟩ := hrel
    clear c0
    have c0 := (hb.new hnw).cells
    by_cases hlt : k < nN
    case neg =>
      obtain rfl : k = nN := by omega
      rw [List.take_of_length_le (by rw [List.length_map, LNh.out]; omega)] at sr
      obtain ⟨N1, HN1⟩ := hex (LN.map ndW)
      have hN1 : N1.length ≤ 2 := by rw [← HN1.out, List.length_map, LNh.out]; exact mN
      rw [HN1.out] at sr ⊢
      rename World => wz
      go_wp2
      go_loopw [3, 31] (fun s i wr => ∃ k : Nat, k ≤ nW ∧ i = .int .i64 k ∧ SRows wr w.heap.size s (N1 ++ (LW.mapIdx wiW).take k) ∧ New w wr) (fun _ i _ => nW - (intOf i).toNat)
      case atStart => exact ⟨0, Nat.zero_le _, rfl, by rw [List.take_zero, List.append_nil]; exact ⟨vs, sr⟩, hnw⟩
      case round =>
        clear hnw sr vs
        obtain ⟨k, hk, rfl, ⟨vs, sr⟩, hnw⟩ := hrel
        clear c0
        have c0 := (hb.new hnw).cells
        by_cases hlt : k < nW
        case neg =>
          obtain rfl : k = nW := by omega
          rw [List.take_of_length_le (by rw [List.length_mapIdx, LWh.out]; omega)] at sr
          obtain ⟨QL, HQL⟩ := hex (N1 ++ LW.mapIdx wiW)
          rw [HQL.out] at sr
          have hQ5 : QL.length ≤ 5 := by rw [← HQL.out, List.length_append, List.length_mapIdx, LWh.out]; omega
          go_upto_region 12 with fail
          refine hw_start (n := 16) (S := fun X => New w X) rfl (by kernel_rfl) hnw.drew (fun hN => ?_)
          replace sr := sr.new ((New.refl wr).drew)
          clear hnw
          generalize wr.drew = c0 at *
          refine' hw_take 0 (some 53) _ rfl rfl (by kernel_rfl) (by kernel_rfl) (by kernel_rfl) (fun _ _ _ h => h) (by rfl) hN ?hy1 ?rest1
          case hy1 =>
            intro X hX
            go_simp
            try rfl
          simp only [Act.put, List.setIfInBounds_toArray, List.set_cons_zero, List.set_cons_succ]
          refine' hw_take 1 (some 54) _ rfl rfl (by kernel_rfl) (by kernel_rfl) (by kernel_rfl) (fun _ _ _ h => h) (by rfl) hN ?hy2 ?rest2
          case hy2 =>
            intro X hX
            go_simp
            try rfl
          simp only [Act.put, List.setIfInBounds_toArray, List.set_cons_zero, List.set_cons_succ]
          refine' hw_take 2 (some 55) _ rfl rfl (by kernel_rfl) (by kernel_rfl) (by kernel_rfl) (fun _ _ _ h => h) (by rfl) hN ?hy3 ?rest3
          case hy3 =>
            intro X hX
            go_simp
            try rfl
          simp only [Act.put, List.setIfInBounds_toArray, List.set_cons_zero, List.set_cons_succ]
          refine' hw_take 3 (some 56) _ rfl rfl (by kernel_rfl) (by kernel_rfl) (by kernel_rfl) (fun _ _ _ h => h) (by rfl) hN ?hy4 ?rest4
          case hy4 =>
            intro X hX
            go_simp
            try rfl
          simp only [Act.put, List.setIfInBounds_toArray, List.set_cons_zero, List.set_cons_succ]
          refine' hw_take 4 (some 57) _ rfl rfl (by kernel_rfl) (by kernel_rfl) (by kernel_rfl) (fun _ _ _ h => h) (by rfl) hN ?hy5 ?rest5
          case hy5 =>
            intro X hX
            have cX := (hb.new hX).cells
            go_simp
            try rfl
          simp only [Act.put, List.setIfInBounds_toArray, List.set_cons_zero, List.set_cons_succ]
          refine' hw_take 5 (some 58) _ rfl rfl (by kernel_rfl) (by kernel_rfl) (by kernel_rfl) (fun _ _ _ h => h) (by rfl) hN ?hy6 ?rest6
          case hy6 =>
            intro X hX
            go_simp
            try rfl
          simp only [Act.put, List.setIfInBounds_toArray, List.set_cons_zero, List.set_cons_succ]
          refine' hw_take 6 (some 59) _ rfl rfl (by kernel_rfl) (by kernel_rfl) (by kernel_rfl) (fun _ _ _ h => h) (by rfl) hN ?hy7 ?rest7
          case hy7 =>
            intro X hX
            go_simp
            try rfl
          simp only [Act.put, List.setIfInBounds_toArray, List.set_cons_zero, List.set_cons_succ]
          refine' hw_take 7 (some 60) _ rfl rfl (by kernel_rfl) (by kernel_rfl) (by kernel_rfl) (fun _ _ _ h => h) (by rfl) hN ?hy8 ?rest8
          case hy8 =>
            intro X hX
            go_simp
            try rfl
          simp only [Act.put, List.setIfInBounds_toArray, List.set_cons_zero, List.set_cons_succ]
          refine' hw_take 8 (some 61) _ rfl rfl (by kernel_rfl) (by kernel_rfl) (by kernel_rfl) (fun _ _ _ h => h) (by rfl) hN ?hy9 ?rest9
          case hy9 =>
            intro X hX
            go_simp
            try rfl
          simp only [Act.put, List.setIfInBounds_toArray, List.set_cons_zero, List.set_cons_succ]
          refine' hw_take 9 (some 62) _ rfl rfl (by kernel_rfl) (by kernel_rfl) (by kernel_rfl) (fun _ _ _ h => h) (by rfl) hN ?hy10 ?rest10
          case hy10 =>
            intro X hX
            have cX := (hb.new hX).cells
            go_simp
            try rfl
          simp only [Act.put, List.setIfInBounds_toArray, List.set_cons_zero, List.set_cons_succ]
          refine' hw_take 10 (some 63) _ rfl rfl (by kernel_rfl) (by kernel_rfl) (by kernel_rfl) (fun _ _ _ h => h) (by rfl) hN ?hy11 ?rest11
          case hy11 =>
            intro X hX
            go_simp
            try rfl
          simp only [Act.put, List.setIfInBounds_toArray, List.set_cons_zero, List.set_cons_succ]
          refine hw_call 11 (some 64) rfl rfl (by kernel_rfl) (by rfl) (fun K hK => ?_)
          go_simp
          have al := (New.refl c0).alloc (.cells #[.int .i64 nM, .int .i64 nS] 2)
          have b2 := Blk.mk c0 c0.heap.size 2 #[.int .i64 nM, .int .i64 nS] rfl
          have sr := sr.new al
          replace hN := hN.trans al
          refine hK.out _ _ hN (fun _ => ?_)
          simp only [Act.put, List.setIfInBounds_toArray, List.set_cons_zero, List.set_cons_succ]
          generalize c0.alloc (.cells #[.int .i64 nM, .int .i64 nS] 2) = c1 at *
          clear al
          refine hw_call 12 (some 65) rfl rfl (by kernel_rfl) (by rfl) (fun K hK => ?_)
          go_simp
          refine (wordNum [109, 97, 105, 108, 115] (some ⟨c0.heap.size, 0, none⟩) 2 2 [(nM : Int), (nS : Int)] c1 (nsAt_blk b2 (by intro i z hz; match i, hz with | 0, hz => simpa using hz | 1, hz => simpa using hz) (by intro z hz; simp only [List.mem_cons, List.not_mem_nil, or_false] at hz; unfold In6; omega)) rfl (by omega) (by intro z hz; simp only [List.mem_cons, List.not_mem_nil, or_false] at hz; omega) (ht.new hN)).mono ?_
          rintro e c2 ⟨g1, k1, rfl, own1, al⟩
          have hNz := hN.size
          have own2 : SRow c2 w.heap.size (.slice (some ⟨g1, 0, none⟩) (1 + 2) k1) (mlW nM nS) := ⟨g1, k1, rfl, Joins.ownsRow_le own1 hNz⟩
          clear b2 own1 hNz
          have sr := sr.new al
          replace hN := hN.trans al
          clear al
          refine hK.out _ _ hN (fun _ => ?_)
          simp only [Act.put, List.setIfInBounds_toArray, List.set_cons_zero, List.set_cons_succ]
          refine hw_call 13 (some 66) rfl rfl (by kernel_rfl) (by rfl) (fun K hK => ?_)
          go_simp
          have al := (New.refl c2).alloc (.cells #[.slice (some ⟨g1, 0, none⟩) (1 + 2) k1] 71)
          have b3 := Blk.mk c2 c2.heap.size 71 #[.slice (some ⟨g1, 0, none⟩) (1 + 2) k1] rfl
          have sr := sr.new al
          have own2 := own2.new al
          replace hN := hN.trans al
          refine hK.out _ _ hN (fun _ => ?_)
          simp only [Act.put, List.setIfInBounds_toArray, List.set_cons_zero, List.set_cons_succ]
          generalize c2.alloc (.cells #[.slice (some ⟨g1, 0, none⟩) (1 + 2) k1] 71) = c3 at *
          clear al
          refine hw_call 14 (some 67) rfl rfl (by kernel_rfl) (by rfl) (fun K hK => ?_)
          refine wp_apG _ (.tmp 53) (.tmp 66) rfl w.heap.size 1 24 _ Tryz.underlying69 hi hz0 hz1 hz2 rfl (by omega) (by omega) _ QL.length vs rfl sr.1 (some ⟨c2.heap.size, 0, none⟩) 1 1 [.slice (some ⟨g1, 0, none⟩) (1 + 2) k1] rfl rfl (by intro u hu; obtain rfl := List.mem_singleton.1 hu; rfl) (by intro e; cases e) ?hsrc (by omega) (by have := hN.size; omega) ?hrest
          case hsrc =>
            intro a ha j u hu
            obtain rfl := Option.some.inj ha
            rw [Addr.add_lit, Nat.zero_add, b3.cells j]
            simpa using hu
          case hrest =>
            intro v' c4 h2 hg
            have hNn : New w c4 := hN.growS hg (own_blkE sr.1)
            have hfin : SRows c4 w.heap.size v' (QL ++ [mlW nM nS]) := SRowsV.snoc sr own2 h2 hg
            clear b3 hN
            refine hK.out _ _ hNn (fun _ => ?_)
            simp only [Act.put, List.setIfInBounds_toArray, List.set_cons_zero, List.set_cons_succ]
            have hN := hNn
            refine' hw_take 15 (some 2) _ rfl rfl (by kernel_rfl) (by kernel_rfl) (by kernel_rfl) (fun _ _ _ h => h) (by rfl) hN ?hy12 ?rest12
            case hy12 =>
              intro X hX
              go_simp
              try rfl
            simp only [Act.put, List.setIfInBounds_toArray, List.set_cons_zero, List.set_cons_succ]
            refine wpAnyH_done (by kernel_rfl) ?_ _
            go_wp2
            go_ret
            exact ⟨_, rfl, by rw [← HQL.out] at hfin; first | exact hfin | (rw [← HN1.out] at hfin; exact hfin), hN⟩
        obtain ⟨g, E, T, x, x2, m, d, m2, d2, xs, ys, rfl, hv, hl1, hlb, hx, hx2, hmx, hmx2, q0, q1, q2, q3⟩ := (hw.new hnw).at k (by rw [LWh.out]; exact hlt)
        obtain ⟨⟨e0, e1⟩, t1, ⟨t2, t3⟩, t4⟩ := HSW.out _ (List.mem_of_getElem? hv)
        dsimp only at e0 e1 t1 t2 t3 t4
        rw [hl1] at t1
        rw [hlb] at t4
        have hT : Hid ((LW.mapIdx wiW).take (k + 1) = (LW.mapIdx wiW).take k ++ [wiW k ⟨E, T, x, x2, d, d2, xs, ys⟩]) := by
          unfold Hid
          rw [take_snocL (x := wiW k ⟨E, T, x, x2, d, d2, xs, ys⟩) (by rw [List.getElem?_mapIdx, hv]; rfl)]
        have hWW : Hid (wiW k ⟨E, T, x, x2, d, d2, xs, ys⟩ = [119, 105, 114, 101] :: [(k : Int), E, (m : Int), T, (m2 : Int)].map dg) := by unfold Hid wiW; rw [hl1, hlb]
        generalize wiW k ⟨E, T, x, x2, d, d2, xs, ys⟩ = WK at *
        clear hv hx hx2
        have hL5 : (N1 ++ (LW.mapIdx wiW).take k).length ≤ 5 := by rw [List.length_append, List.length_take, List.length_mapIdx, LWh.out]; omega
        obtain ⟨Lk, HLk⟩ := hex (N1 ++ (LW.mapIdx wiW).take k)
        have hT2 : Hid (N1 ++ (LW.mapIdx wiW).take (k + 1) = Lk ++ [WK]) := by unfold Hid; rw [hT.out, ← List.append_assoc, HLk.out]
        rw [HLk.out] at sr hL5
        have al := ((New.refl wr).alloc (.cells #[.int .i64 E, .slice x m d, .int .i64 T, .slice x2 m2 d2] 100)).alloc (.cells #[.int .i64 (k : Int), .int .i64 E, .int .i64 (m : Int), .int .i64 T, .int .i64 (m2 : Int)] 2)
        have b5 := Blk.mk (wr.alloc (.cells #[.int .i64 E, .slice x m d, .int .i64 T, .slice x2 m2 d2] 100)) (wr.heap.size + 1) 2 #[.int .i64 (k : Int), .int .i64 E, .int .i64 (m : Int), .int .i64 T, .int .i64 (m2 : Int)] (Array.size_push _)
        go_wp2_with fail
        generalize (wr.alloc (.cells #[.int .i64 E, .slice x m d, .int .i64 T, .slice x2 m2 d2] 100)).alloc (.cells #[.int .i64 (k : Int), .int .i64 E, .int .i64 (m : Int), .int .i64 T, .int .i64 (m2 : Int)] 2) = w0 at *
        refine (wordNum [119, 105, 114, 101] (some ⟨wr.heap.size + 1, 0, none⟩) 5 5 [(k : Int), E, (m : Int), T, (m2 : Int)] w0 (nsAt_blk b5 (by intro i z hz; match i, hz with | 0, hz => simpa using hz | 1, hz => simpa using hz | 2, hz => simpa using hz | 3, hz => simpa using hz | 4, hz => simpa using hz) (by intro z hz; simp only [List.mem_cons, List.not_mem_nil, or_false] at hz; unfold In6; omega)) rfl (by omega) (by intro z hz; simp only [List.mem_cons, List.not_mem_nil, or_false] at hz; omega) (ht.new (hnw.trans al))).mono ?_
        rintro e w1 ⟨g1, k1, rfl, own1, hn0⟩
        have hwz := (hnw.trans al).size
        have hn1 := al.trans hn0
        have hw1 := hnw.trans hn1
        have hrow : SRow w1 w.heap.size (.slice (some ⟨g1, 0, none⟩) (1 + 5) k1) WK := by
          rw [hWW.out]
          exact ⟨g1, k1, rfl, Joins.ownsRow_le own1 hwz⟩
        clear own1 q0 q1 q2 q3 b5 al hn0
        have sr1 := sr.new hn1
        have al := (New.refl w1).alloc (.cells #[.slice (some ⟨g1, 0, none⟩) (1 + 5) k1] 71)
        have bl := Blk.mk w1 w1.heap.size 71 #[.slice (some ⟨g1, 0, none⟩) (1 + 5) k1] rfl
        have sr2 := sr1.new al
        have hrow2 := hrow.new al
        go_wp2_with (at_builtin; refine wpList_apG _ rfl (.tmp 36) (.tmp 50) rfl w.heap.size 1 24 _ Tryz.underlying69 hi hz0 hz1 hz2 rfl (by omega) (by omega) _ Lk.length vs rfl sr2.1 (some ⟨w1.heap.size, 0, none⟩) 1 1 [.slice (some ⟨g1, 0, none⟩) (1 + 5) k1] rfl rfl (by intro u hu; obtain rfl := List.mem_singleton.1 hu; rfl) (by intro e; cases e) (by intro a ha j u hu; obtain rfl := Option.some.inj ha; rw [Addr.add_lit, Nat.zero_add, bl.cells j]; simpa using hu) (by omega) (by have := (hw1.trans al).size; exact this) ?_; intro v' w3 h2 hg)
        have hN3 : New w w3 := (hw1.trans al).growS hg (own_blkE sr2.1)
        have hfin : SRows w3 w.heap.size v' (Lk ++ [WK]) := SRowsV.snoc sr2 hrow2 h2 hg
        clear bl h2 hg sr2 hrow2 sr1 hrow al hn1
        go_wp2
        go_roundw
        case rel => exact ⟨k + 1, by omega, by go_num, by rw [hT2.out]; exact hfin, hN3⟩
        case measure => simp [intOf]; omega
    obtain ⟨g, id, up, ro, ep, su, ma, ot, co, x, m, d, xs, rfl, hv, hl, -, -, q0, q1, q2, q3, q4, q5, q6, q7, q8⟩ := (hn.new hnw).at k (by rw [LNh.out]; exact hlt)
    obtain ⟨hid, hep, hm, hsu, hco⟩ := HSN.out _ (List.mem_of_getElem? hv)
    dsimp only at hid hep hm hsu hco
    rw [hl] at hm
    have hT : Hid ((LN.map ndW).take (k + 1) = (LN.map ndW).take k ++ [nwL id up ro ep m su co]) := by
      unfold Hid
      rw [take_snocL (x := nwL id up ro ep m su co) (by rw [List.getElem?_map, hv]; simp [ndW, hl])]
    have hL : ((LN.map ndW).take k).length = k := by rw [List.length_take, List.length_map, LNh.out]; omega
    clear hv q6 q7
    obtain ⟨Lk, HLk⟩ := hex ((LN.map ndW).take k)
    rw [HLk.out] at sr hL
    go_wp2_with fail
    refine (nodeW g (k * 9) id up ro ep su co x m d _ _ wr rfl rfl q0 q1 q2 q3 q4 q5 q8 hid hep hsu hco hm (ht.new hnw)).mono ?_
    rintro e w1 ⟨v, rfl, own1, hn1⟩
    have hsz := hn1.size
    have hw1 := hnw.trans hn1
    have hwz := hnw.size
    obtain ⟨g1, k1, rfl⟩ := Joins.ownsRow_form own1 (by omega)
    have hrow : SRow w1 w.heap.size (.slice (some ⟨g1, 0, none⟩) 8 k1) (nwL id up ro ep m su co) := ⟨g1, k1, rfl, Joins.ownsRow_le own1 hwz⟩
    clear own1 q0 q1 q2 q3 q4 q5 q8
    have sr1 := sr.new hn1
    generalize nwL id up ro ep m su co = WN at *
    have al := (New.refl w1).alloc (.cells #[.slice (some ⟨g1, 0, none⟩) 8 k1] 71)
    have bl := Blk.mk w1 w1.heap.size 71 #[.slice (some ⟨g1, 0, none⟩) 8 k1] rfl
    have sr2 := sr1.new al
    have hrow2 := hrow.new al
    go_wp2_with (at_builtin; refine wpList_apG _ rfl (.tmp 15) (.tmp 23) rfl w.heap.size 1 24 _ Tryz.underlying69 hi hz0 hz1 hz2 rfl (by omega) (by omega) _ k vs rfl (by have := sr2.1; rw [hL] at this; exact this) (some ⟨w1.heap.size, 0, none⟩) 1 1 [.slice (some ⟨g1, 0, none⟩) 8 k1] rfl rfl (by intro u hu; obtain rfl := List.mem_singleton.1 hu; rfl) (by intro e; cases e) (by intro a ha j u hu; obtain rfl := Option.some.inj ha; rw [Addr.add_lit, Nat.zero_add, bl.cells j]; simpa using hu) (by omega) (by have := (hw1.trans al).size; exact this) ?_; intro v' w3 h2 hg)
    have hN3 : New w w3 := (hw1.trans al).growS hg (own_blkE sr2.1)
    have hfin : SRows w3 w.heap.size v' (Lk ++ [WN]) := SRowsV.snoc sr2 hrow2 (by rw [hL]; exact h2) hg
    clear bl h2 hg sr2 hrow2 sr1 hrow al hn1
    go_wp2
    go_roundw
    case rel => exact ⟨k + 1, by omega, by go_num, by rw [hT.out, HLk.out]; exact hfin, hN3⟩
    case measure => simp [intOf]; omega

end Go.Proofs.YtlkhmnjghdbmoaaGreatDoor
