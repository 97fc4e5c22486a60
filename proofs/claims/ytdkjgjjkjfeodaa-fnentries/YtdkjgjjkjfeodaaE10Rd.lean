/- What is proved here: what the model's reading of entries answers, for every list of at most 1048576 bytes. -/
import Derived.Test.YtdkjgjjkjfeodaaE10On
import Derived.Test.YtdkjgjjkjfeodaaE10Ev
import Derived.Laws.OwnMore
namespace Go.Proofs.Ytdkjgjjkjfeodaa
open Go.RowKit
set_option linter.unusedVariables false
set_option linter.unusedSimpArgs false
set_option maxRecDepth 100000

theorem Try.infoEn : (Try.prog.info? 40).map (fun i => (i.zero, i.size, i.bytes)) = some (some (.agg #[.int .i64 0, .int .i64 0, .int .i64 0, .slice none 0 0]), 4, 48) := by kernel_rfl

theorem cutTs {W : World} {b off c n t : Nat} {zs : List Int} (h : BsAt W (some ⟨b, off, none⟩) zs) (hn : zs.length = n) (hc : n ≤ c) (ht : t ≤ n) : BsAt W (if c = t then some ⟨b, off, none⟩ else some ⟨b, off + t, none⟩) (zs.drop t) := by
  intro i z hz
  have hi : i < (zs.drop t).length := by
    rcases Nat.lt_or_ge i (zs.drop t).length with h | h
    · exact h
    · rw [List.getElem?_eq_none h] at hz; cases hz
  simp only [List.length_drop] at hi
  rw [if_neg (by omega)]
  rw [List.getElem?_drop] at hz
  obtain ⟨b', o', e, hcell, hb⟩ := h (t + i) z hz
  simp only [Option.some.injEq, Addr.mk.injEq, and_true] at e
  obtain ⟨rfl, rfl⟩ := e
  exact ⟨b, off + t, rfl, by rw [Nat.add_assoc]; exact hcell, hb⟩

theorem own_lift {w : World} {lo g n c : Nat} {e : TypeId} {xs : List Value} (hl : lo ≤ g) (h : w.ownsRow 0 e 1 (.slice (some ⟨g, 0, none⟩) n c) n xs) : w.ownsRow lo e 1 (.slice (some ⟨g, 0, none⟩) n c) n xs := by
  refine ⟨h.1, ?_⟩
  rcases h.2 with h' | ⟨g', cap', cur, h', hb, r⟩
  · exact .inl h'
  · have e2 := congrArg Value.ownBlock h'
    have e3 : g = g' := by simpa [Value.ownBlock] using e2
    exact .inr ⟨g', cap', cur, h', by omega, r⟩

/-- What is read: the list of entries, of the call's own. -/
structure RdOwn (w0 w : World) (zs : List Int) (v : Value) (V : List EvM) (t : Nat) : Prop where
  come : Come zs (V.map EvM.t) t
  row : w.ownsRow w0.heap.size 40 4 v V.length (V.flatMap (EvM.cs zs))
  own : EvOwn w w0.heap.size zs V
  new : New w0 w

set_option maxHeartbeats 3200000 in
theorem specRead (b off n c : Nat) (zs : List Int) (w : World) (h : BsAt w (some ⟨b, off, none⟩) zs) (hn : zs.length = n) (hc : n ≤ c) (hm : n ≤ 1048576) :
    Calls Try.prog 38 #[.slice (some ⟨b, off, none⟩) n c] w fun e w' => ∃ v V, e = .returned (.tuple #[v, .int .i64 (eUse zs 0 : Int)]) ∧ RdOwn w w' zs v V (eUse zs 0) ∧ V.map EvM.t = eAts zs 0 := by
  obtain ⟨i0, hi, hzi0, hzi1, hzi2⟩ := info_parts Try.infoEn
  have hR0 : (w.alloc (.cells #[] 40)).ownsRow w.heap.size 40 4 (.slice (some ⟨w.heap.size, 0, none⟩) 0 0) 0 [] := by
    have h := World.ownsRow_lit (base := w.heap.size) (size := 4) (e := 40) w #[] 0 (Nat.le_refl _) (Nat.zero_le _) rfl
    simpa using h
  go_enter Try.func38, Try.ntmps38
  go_wp2
  go_loopw [4, 5] (fun v p wr => ∃ (V : List EvM) (t : Nat), p = .int .i64 t ∧ RdOwn w wr zs v V t) (fun _ p _ => n - (intOf p).toNat)
  case atStart => exact ⟨[], 0, rfl, ⟨Come.nil, hR0, EvOwn.nil _ _ _, (New.refl _).alloc _⟩⟩
  case round =>
    obtain ⟨V, t, rfl, hR⟩ := hrel
    have ht := hR.come.le
    rw [hn] at ht
    have hzr := h.new hR.new
    have ht0 : (0 : Int) ≤ (t : Int) := by omega
    have ht1 : (t : Int) ≤ (n : Int) := by omega
    have hcut := cutTs hzr hn hc ht
    have hdl : (zs.drop t).length = n - t := by simp [hn]
    by_cases hp : 0 < eSz (zs.drop t)
    · have h8 := eSz_ge hp
      have hle := eSz_le (zs.drop t)
      rw [hdl] at hle
      have hlen := hR.come.len
      simp only [List.length_map] at hlen
      rw [if_neg (by omega : ¬ c = t)] at hcut
      have hOne := specOne b (off + t) (n - t) (c - t) (zs.drop t) wr hcut hdl (by omega) (by omega)
      go_wp2_with fail
      refine hOne.mono ?_
      clear hOne
      rintro e w2 ⟨v2, rfl, hn2, -, hv⟩
      obtain ⟨g, cap, rfl, hg, ho⟩ := hv hp
      have al : New w2 ((w2.alloc (.cells #[.int .i64 (numAt (zs.drop t) 3 2), .int .i64 (zs[t + 5]?.getD 0), .int .i64 (zs[t + 6]?.getD 0), .slice (some ⟨g, 0, none⟩) (eSz (zs.drop t) - 8) cap] 40)).alloc (.cells #[.int .i64 (numAt (zs.drop t) 3 2), .int .i64 (zs[t + 5]?.getD 0), .int .i64 (zs[t + 6]?.getD 0), .slice (some ⟨g, 0, none⟩) (eSz (zs.drop t) - 8) cap] 40)) := ((New.refl _).alloc _).alloc _
      have hrow := row9_new hR.row (hn2.trans al)
      have bL := Blk.mk (w2.alloc (.cells #[.int .i64 (numAt (zs.drop t) 3 2), .int .i64 (zs[t + 5]?.getD 0), .int .i64 (zs[t + 6]?.getD 0), .slice (some ⟨g, 0, none⟩) (eSz (zs.drop t) - 8) cap] 40)) (w2.heap.size + 1) 40 #[.int .i64 (numAt (zs.drop t) 3 2), .int .i64 (zs[t + 5]?.getD 0), .int .i64 (zs[t + 6]?.getD 0), .slice (some ⟨g, 0, none⟩) (eSz (zs.drop t) - 8) cap] (by simp)
      have cL := bL.cells
      have s2 := (hR.new.trans hn2).size
      have nwr := hR.new.size
      clear hv
      go_wp2_with (at_builtin; refine wpList_apV _ rfl (.tmp 20) (.tmp 22) rfl w.heap.size 4 48 (.agg #[.int .i64 0, .int .i64 0, .int .i64 0, .slice none 0 0]) Try.underlying31 hi hzi0 hzi1 hzi2 rfl (by omega) (by omega) u4 V.length _ rfl hrow (w2.heap.size + 1) [.int .i64 (numAt (zs.drop t) 3 2), .int .i64 (zs[t + 5]?.getD 0), .int .i64 (zs[t + 6]?.getD 0), .slice (some ⟨g, 0, none⟩) (eSz (zs.drop t) - 8) cap] rfl (by simp [Value.oneCell']) rfl (by intro j u hu; rw [cL j, List.getElem?_toArray]; exact hu) (by omega) (by simp; omega) ?_)
      intro v3 w3 hrow3 hgr3 hat3
      go_wp2
      go_roundw
      case rel =>
        have hx : EvM.cs zs ⟨t, some ⟨g, 0, none⟩, cap⟩ = [.int .i64 (numAt (zs.drop t) 3 2), .int .i64 (zs[t + 5]?.getD 0), .int .i64 (zs[t + 6]?.getD 0), .slice (some ⟨g, 0, none⟩) (eSz (zs.drop t) - 8) cap] := rfl
        have tt := turn_of_grown hgr3
        have hon : w3.ownsRow w.heap.size 5 1 (EvM.pv zs ⟨t, some ⟨g, 0, none⟩, cap⟩) (eSz (zs.drop t) - 8) ((EvM.by zs ⟨t, some ⟨g, 0, none⟩, cap⟩).map (Value.int .u8)) := by
          have ho1 := own_lift (lo := w.heap.size) (by omega) (row9_new ho al)
          exact row9_turn ho1 tt (fun k hk hk' => row_ne_row hrow ho1 (by decide) k hk' hk)
        refine ⟨V ++ [⟨t, some ⟨g, 0, none⟩, cap⟩], t + eSz (zs.drop t), by push_cast; rfl, ⟨?_, ?_, ?_, ?_⟩⟩
        · rw [List.map_append]; exact hR.come.snoc hp
        · rw [List.flatMap_append, List.flatMap_cons, List.flatMap_nil, List.append_nil, hx, List.length_append]; exact hrow3
        · refine ((hR.own.new (hn2.trans al)).turn tt (fun x hx k hk hk' => row_ne_row hrow ((hR.own.new (hn2.trans al)).own x hx) (by decide) k hk' hk)).snoc _ hon ?_
          intro y hy k hk hk'
          obtain ⟨_, _, _, _, hb⟩ := row9_form (hR.own.own y hy)
          have := (hb k hk).2
          simp [EvM.pv, Value.ownBlock] at hk'
          omega
        · exact ((hR.new.trans hn2).trans al).before tt (by intro i hi hS; obtain ⟨_, _, _, _, hb⟩ := row9_form hR.row; have := (hb i hS).1; omega)
      case measure => simp [intOf]; omega
    · have hE : eSz (zs.drop t) = 0 := by omega
      have hE' : ((eSz (zs.drop t) : Nat) : Int) = 0 := by omega
      go_wp2_with fail
      · have hOne := specOne b off (n - t) 0 (zs.drop t) wr (by rw [List.drop_eq_nil_of_le (by omega)]; exact BsAt.nil _ _) hdl (by omega) (by omega)
        refine hOne.mono ?_
        clear hOne
        rintro e w2 ⟨v2, rfl, hn2, hv, -⟩
        obtain rfl := hv hE
        rw [hE']
        go_wp2
        have hall := hR.come.all hp
        refine bodyPost_ret (v := .tuple #[u4, .int .i64 (t : Int)]) (by simp [results, Try.results38, go_sem]) rfl ?_
        refine ⟨u4, V, by rw [hall.2], ?_, hall.1⟩
        rw [hall.2]
        exact ⟨hR.come, row9_new hR.row (hn2.alloc _), hR.own.new (hn2.alloc _), hR.new.trans (hn2.alloc _)⟩
      · rw [if_neg ‹¬ c = t›] at hcut
        have hOne := specOne b (off + t) (n - t) (c - t) (zs.drop t) wr hcut hdl (by omega) (by omega)
        refine hOne.mono ?_
        clear hOne
        rintro e w2 ⟨v2, rfl, hn2, hv, -⟩
        obtain rfl := hv hE
        rw [hE']
        go_wp2
        have hall := hR.come.all hp
        refine bodyPost_ret (v := .tuple #[u4, .int .i64 (t : Int)]) (by simp [results, Try.results38, go_sem]) rfl ?_
        refine ⟨u4, V, by rw [hall.2], ?_, hall.1⟩
        rw [hall.2]
        exact ⟨hR.come, row9_new hR.row (hn2.alloc _), hR.own.new (hn2.alloc _), hR.new.trans (hn2.alloc _)⟩


end Go.Proofs.Ytdkjgjjkjfeodaa
