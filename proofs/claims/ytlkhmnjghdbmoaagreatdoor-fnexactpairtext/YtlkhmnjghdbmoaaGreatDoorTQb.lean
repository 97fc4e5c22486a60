/- What is proved here: what a pair without fault is; its text out of its lines. What is proved here: a strings.Builder, and the rows beside it. What is proved here: what the text of a pair answers, in the program. What is proved here: what the model's text of a pair answers. -/
import Derived.Test.YtlkhmnjghdbmoaaGreatDoorTQa
import Derived.Test.YtlkhmnjghdbmoaaGreatDoorTQ7
import Derived.Test.YtlkhmnjghdbmoaaGreatDoorTQ9
import Derived.Test.YtlkhmnjghdbmoaaGreatDoorK12Nf
import Derived.Test.YtlkhmnjghdbmoaaGreatDoorTQ6
import Derived.Test.YtlkhmnjghdbmoaaGreatDoorTxAt
import Derived.Shelf.Strings.BuilderK
import Derived.Test.YtlkhmnjghdbmoaaGreatDoorTQ8
namespace Go.Proofs.YtlkhmnjghdbmoaaGreatDoor
open Go.RowKit Go.Sort Go.Deep
set_option linter.unusedVariables false
set_option linter.unusedSimpArgs false

theorem q1F_zero {a b : Int} (h : q1F a b = 0) : a = 0 ∧ b = 0 := by
  unfold q1F at h
  split at h
  · omega
  · exact ⟨by omega, h⟩
theorem ffF_zero {α : Type} {g : α → Int} : ∀ {L : List α}, ffF g L = 0 → ∀ x ∈ L, g x = 0
  | [], _, x, hx => by cases hx
  | y :: L, h, x, hx => by
      unfold ffF at h
      split at h
      · rename_i h1; exact absurd h h1
      · rename_i h1
        rcases List.mem_cons.1 hx with rfl | hx
        · simpa using h1
        · exact ffF_zero h x hx
theorem nd_sm {v : NdV} {k : Int} (hk : k = 0 ∨ k = 1) (h : n1F k v.r = 0) : NdSm v := by
  unfold n1F NdV.r at h
  dsimp only at h
  split at h
  · rename_i h1; exact absurd h h1
  · rename_i h1
    have h2 : v.id = k := by
      split at h
      · omega
      · omega
    have h1' := Classical.not_not.1 h1
    unfold nF at h1'
    rw [List.length_map] at h1'
    split at h1'
    · omega
    · rename_i a1
      split at h1'
      · omega
      · rename_i a2
        split at h1'
        · rename_i a3; exact absurd h1' a3
        · split at h1'
          · omega
          · rename_i a4
            have b1 := Classical.not_not.1 a1
            have b4 := Classical.not_not.1 a4
            exact ⟨by omega, by omega, by omega, by omega, by omega⟩
theorem pF_zero {sa si ho nx : Int} {r1 r2 : List Ru} {LN : List NdV} {LW : List WiV} {LM : List MlV} {LS : List EkV} (h : pF sa si ho nx r1 r2 (LN.map NdV.r) (LW.map WiV.r) (LM.map MlV.r) (LS.map EkV.r) = 0) :
    LN.length = 2 ∧ LW.length = 3 ∧ LM.length ≤ 65535 ∧ LS.length ≤ 65535 ∧ (∀ v ∈ LN, NdSm v) ∧ ∀ v ∈ LW, WiSm v := by
  unfold pF at h
  obtain ⟨-, h⟩ := q1F_zero h
  split at h
  · omega
  · rename_i hl
    obtain ⟨l1, l2⟩ := Classical.not_not.1 hl
    rw [List.length_map] at l1 l2
    obtain ⟨h1, h⟩ := q1F_zero h
    obtain ⟨h2, h⟩ := q1F_zero h
    obtain ⟨h3, h4⟩ := q1F_zero h
    refine ⟨l1, l2, ?_, ?_, ?_, ?_⟩
    · unfold msF at h3
      rw [List.length_map] at h3
      split at h3 <;> omega
    · unfold seF at h4
      rw [List.length_map] at h4
      split at h4 <;> omega
    · match LN, l1 with
      | [a, b], _ =>
        unfold ndF at h1
        dsimp only [List.map] at h1
        split at h1
        · rename_i h5; exact absurd h1 h5
        · rename_i h5
          intro v hv
          simp only [List.mem_cons, List.not_mem_nil, or_false] at hv
          rcases hv with rfl | rfl
          · exact nd_sm (.inl rfl) (Classical.not_not.1 h5)
          · exact nd_sm (.inr rfl) h1
    · intro v hv
      have h5 := ffF_zero h2 v.r (List.mem_map_of_mem hv)
      obtain ⟨a, ⟨b, c⟩, d, e⟩ := wF_zero (E := v.E) (T := v.T) (n := v.xs.length) (m := v.ys.length) h5
      exact ⟨by omega, by omega, by omega, by omega⟩
/-- A line out of its words. -/
def lnW (l : List (List UInt8)) : List UInt8 := Lib.join l [32] ++ [10]
theorem lnW_nd (v : NdV) : lnW (ndW v) = ndT v := by
  unfold lnW ndW nwL ndT lnF
  cases v.up <;> by_cases h : v.ro = 1 <;> simp [Lib.join, h]
theorem lnW_wi (k : Nat) (v : WiV) : lnW (wiW k v) = wiT k v := rfl
theorem lnW_ml (m s : Nat) : lnW (mlW m s) = mlT m s := rfl
theorem txt_all (LN : List NdV) (LW : List WiV) (m s : Nat) : ((LN.map ndW ++ LW.mapIdx wiW ++ [mlW m s]).map lnW).flatten = txF LN LW m s := by
  have h1 : (LN.map ndW).map lnW = LN.map ndT := by rw [List.map_map]; exact List.map_congr_left (fun v _ => lnW_nd v)
  have h2 : (LW.mapIdx wiW).map lnW = LW.mapIdx wiT := by
    apply List.ext_getElem?
    intro i
    rw [List.getElem?_map, List.getElem?_mapIdx, List.getElem?_mapIdx, Option.map_map]
    rfl
  unfold txF
  rw [List.map_append, List.map_append, h1, h2, List.flatten_append, List.flatten_append]
  simp [lnW_ml]

end Go.Proofs.YtlkhmnjghdbmoaaGreatDoor

namespace Go.Proofs.YtlkhmnjghdbmoaaGreatDoor
open Go.RowKit Go.Sort Go.Deep
set_option linter.unusedVariables false
set_option linter.unusedSimpArgs false

theorem byte_app (l s : List UInt8) : Lib.byteCells l ++ Lib.strCells (sB s) = Lib.byteCells (l ++ s) := by
  rw [Lib.strCells_eq]
  simp [Lib.byteCells, sB]
/-- A text is written behind what a builder holds. -/
theorem bW (B b : Nat) (l s : List UInt8) (w : World) (h : Lib.IsBuilderF 68 5 B b (Lib.byteCells l) w) (hlen : l.length + s.length ≤ 100000) (hB : B ≤ w.heap.size) :
    Calls Tryz.prog 24 #[.pointer (some ⟨b, 0, none⟩), .string (sB s)] w fun e w' => e = .returned (.tuple #[.int .i64 (sB s).size, .nilIface]) ∧ Lib.IsBuilderF 68 5 B b (Lib.byteCells (l ++ s)) w' ∧ Below B w w' ∧ Lib.OthersKept 5 (some b) w w' := by
  refine Calls.mono (Any.Builder_WriteString_k ({ Tryz.lays156 with } : Lays.n166 Tryz.prog Tryz.lays156_ren) Tryz.Builder_Extra_156 B b (Lib.byteCells l) (sB s) w h (by rw [Lib.byteCells_length, sB_size]; omega) hB) ?_
  rintro e w' ⟨rfl, h1, h2, h3⟩
  rw [byte_app] at h1
  exact ⟨rfl, .inr h1, h2, h3⟩
/-- What a builder holds is read. -/
theorem bS (B b : Nat) (l : List UInt8) (w : World) (h : Lib.IsBuilderF 68 5 B b (Lib.byteCells l) w) (hB : B ≤ w.heap.size) :
    Calls Tryz.prog 26 #[.pointer (some ⟨b, 0, none⟩)] w fun e w' => e = .returned (.string (sB l)) ∧ Below B w w' := by
  refine Calls.mono (Any.Builder_String_any_k ({ Tryz.lays156 with } : Lays.n169 Tryz.prog Tryz.lays156_ren) Tryz.Builder_Extra_156 B b l w h hB) ?_
  rintro e w' ⟨rfl, -, h2, -⟩
  exact ⟨rfl, h2⟩
theorem rowF_new {w w' : World} {base n sz : Nat} {e : TypeId} {v : Value} {xs : List Value} (h : w.ownsRowF base e sz v n xs) (t : New w w') : w'.ownsRowF base e sz v n xs := by
  refine ⟨h.1, ?_⟩
  rcases h.2 with h' | ⟨g', cap', cur, fz, h', hb, hh, r⟩
  · exact .inl h'
  · have hlt : g' < w.heap.size := (Array.getElem?_eq_some_iff.1 hh).1
    exact .inr ⟨g', cap', cur, fz, h', hb, (t.block g' hlt (fun f => f)).trans hh, r⟩
theorem builder_new {w w' : World} {T e : TypeId} {B b : Nat} {bs : List Value} (h : Lib.IsBuilderF T e B b bs w) (t : New w w') : Lib.IsBuilderF T e B b bs w' := by
  have one : ∀ p, Lib.BuilderAtF T e B b p bs w → Lib.BuilderAtF T e B b p bs w' := by
    rintro p ⟨hB, v, hb, ho, hne⟩
    have hlt : b < w.heap.size := (Array.getElem?_eq_some_iff.1 hb).1
    exact ⟨hB, v, (t.block b hlt (fun f => f)).trans hb, rowF_new ho t, hne⟩
  exact h.elim (fun x => .inl (one _ x)) (fun x => .inr (one _ x))
theorem builder_cells {w : World} {T e : TypeId} {B b : Nat} {bs : List Value} (h : Lib.IsBuilderF T e B b bs w) : ∃ cs, w.heap[b]? = some (.cells cs T (0, 0)) := by
  rcases h with ⟨_, v, hb, _⟩ | ⟨_, v, hb, _⟩ <;> exact ⟨_, hb⟩
theorem builder_zero {w : World} {T e : TypeId} {b : Nat} (h : Blk w b T #[.pointer none, .slice none 0 0]) : Lib.IsBuilderF T e b b (Lib.byteCells []) w :=
  .inl ⟨Nat.le_refl _, .slice none 0 0, h, World.ownsRowF_of (World.ownsRow_nil _ _ _ _), by simp [Value.ownBlock]⟩
theorem own_others {w w' : World} {base n sz b : Nat} {e T U : TypeId} {v : Value} {xs : List Value} (h : w.ownsRow base e sz v n xs) (k : Lib.OthersKept U (some b) w w') (hb : ∃ cs, w.heap[b]? = some (.cells cs T (0, 0))) (h1 : e ≠ U) (h2 : e ≠ T) : w'.ownsRow base e sz v n xs := by
  refine ⟨h.1, ?_⟩
  rcases h.2 with h' | ⟨g', cap', cur, h', hb', hh, r⟩
  · exact .inl h'
  · obtain ⟨cs, hb⟩ := hb
    refine .inr ⟨g', cap', cur, h', hb', k g' _ hh ?_ ?_, r⟩
    · intro e'
      obtain rfl := Option.some.inj e'
      rw [hb] at hh
      simp only [Option.some.injEq, Obj.cells.injEq] at hh
      exact h2 hh.2.1.symm
    · intro c fz e'
      simp only [Obj.cells.injEq] at e'
      exact h1 e'.2.1
theorem SRowsV.others {w w' : World} {lo b : Nat} {V : Value} {L : List (List (List UInt8))} {vs : List Value} (h : SRowsV w lo V L vs) (k : Lib.OthersKept 5 (some b) w w') (hb : ∃ cs, w.heap[b]? = some (.cells cs 68 (0, 0))) : SRowsV w' lo V L vs :=
  ⟨own_others h.1 k hb (by decide) (by decide), fun i l hl => by obtain ⟨v, e, g, c, e2, o⟩ := h.2 i l hl; exact ⟨v, e, g, c, e2, own_others o k hb (by decide) (by decide)⟩⟩

end Go.Proofs.YtlkhmnjghdbmoaaGreatDoor

namespace Go.Proofs.YtlkhmnjghdbmoaaGreatDoor
open Go.RowKit Go.Sort Go.Deep
set_option linter.unusedVariables false
set_option linter.unusedSimpArgs false

/-- What is answered: the fault, and the text where there is none. -/
def ptF (v : Int) (LN : List NdV) (LW : List WiV) (m s : Nat) : List UInt8 := if v = 0 then txF LN LW m s else []

set_option maxRecDepth 100000 in
set_option maxHeartbeats 6400000 in
theorem implPT (sa si ho nx : Int) (a1 a2 aN aW aM aS : Option Addr) (n1 c1 n2 c2 nN cN nW cW nM cM nS cS : Nat) (r1 r2 : List Ru) (LN : List NdV) (LW : List WiV) (LM : List MlV) (LS : List EkV) (w : World) (h : PAt w a1 a2 aN aW aM aS r1 r2 LN LW LM LS) (l1 : r1.length = n1) (l2 : r2.length = n2) (lN : LN.length = nN) (lW : LW.length = nW) (lM : LM.length = nM) (lS : LS.length = nS) (m1 : n1 ≤ 1048576) (m2 : n2 ≤ 1048576) (mN : nN ≤ 1048576) (mW : nW ≤ 1048576) (mM : nM ≤ 1048576) (mS : nS ≤ 1048576) (v : Int) (hv : pF sa si ho nx r1 r2 (LN.map NdV.r) (LW.map WiV.r) (LM.map MlV.r) (LS.map EkV.r) = v) (ht : Tab w) :
    Calls Tryz.prog 7 #[.agg #[.int .i64 sa, .int .i64 si, .int .i64 ho, .int .i64 nx, .slice a1 n1 c1, .slice a2 n2 c2, .slice aN nN cN, .slice aW nW cW, .slice aM nM cM, .slice aS nS cS]] w fun e w' => e = .returned (.agg #[.int .i64 v, .string (sB (ptF v LN LW nM nS))]) ∧ New w w' := by
  have hw0 := (New.refl w).alloc (.cells #[.int .i64 sa, .int .i64 si, .int .i64 ho, .int .i64 nx, .slice a1 n1 c1, .slice a2 n2 c2, .slice aN nN cN, .slice aW nW cW, .slice aM nM cM, .slice aS nS cS] 46)
  have bP0 := Blk.mk w w.heap.size 46 #[.int .i64 sa, .int .i64 si, .int .i64 ho, .int .i64 nx, .slice a1 n1 c1, .slice a2 n2 c2, .slice aN nN cN, .slice aW nW cW, .slice aM nM cM, .slice aS nS cS] rfl
  have hw1 := hw0.alloc (.cells #[.int .i64 0, .string ⟨#[]⟩] 35)
  have bP := bP0.new ((New.refl _).alloc (.cells #[.int .i64 0, .string ⟨#[]⟩] 35))
  have bR := Blk.mk (w.alloc (.cells #[.int .i64 sa, .int .i64 si, .int .i64 ho, .int .i64 nx, .slice a1 n1 c1, .slice a2 n2 c2, .slice aN nN cN, .slice aW nW cW, .slice aM nM cM, .slice aS nS cS] 46)) (w.heap.size + 1) 35 #[.int .i64 0, .string ⟨#[]⟩] (Array.size_push _)
  clear bP0 hw0
  have cP := bP.cells
  have HV : Hid (pF sa si ho nx r1 r2 (LN.map NdV.r) (LW.map WiV.r) (LM.map MlV.r) (LS.map EkV.r) = v) := hv
  have ge0 : w.heap.size ≤ w.heap.size + 1 := by omega
  by_cases hf : v = 0
  case neg =>
    have hfb : (v != 0) = true := by simpa using hf
    have HT : Hid (ptF v LN LW nM nS = []) := if_neg hf
    clear hf hv
    go_enter Tryz.func7, Tryz.ntmps7
    go_wp2_with fail
    generalize (w.alloc (.cells #[.int .i64 sa, .int .i64 si, .int .i64 ho, .int .i64 nx, .slice a1 n1 c1, .slice a2 n2 c2, .slice aN nN cN, .slice aW nW cW, .slice aM nM cM, .slice aS nS cS] 46)).alloc (.cells #[.int .i64 0, .string ⟨#[]⟩] 35) = w0 at *
    refine (implPaF sa si ho nx a1 a2 aN aW aM aS n1 c1 n2 c2 nN cN nW cW nM cM nS cS r1 r2 LN LW LM LS w0 (h.new hw1) l1 l2 lN lW lM lS m1 m2 mN mW mM mS v HV.out).mono ?_
    rintro e w1 ⟨rfl, hn1⟩
    have hcs := (bR.new hn1).cells
    have hfs := (bR.new hn1).frees
    clear cP HV
    go_wp2
    refine bodyPost_ret (v := .agg #[.int .i64 v, .string ⟨#[]⟩]) (by simp [results, Tryz.results7, go_sem, hcs]) rfl ⟨by rw [HT.out]; rfl, ?_⟩
    exact New.setCell (New.setCell (hw1.trans hn1) ge0 _) ge0 _
  subst hf
  obtain ⟨k1, k2, k3, k4, k5, k6⟩ := pF_zero hv
  have HT : Hid (ptF 0 LN LW nM nS = txF LN LW nM nS) := if_pos rfl
  have hz : ((0 : Int) != 0) = false := rfl
  clear hv
  go_enter Tryz.func7, Tryz.ntmps7
  go_wp2_with fail
  generalize (w.alloc (.cells #[.int .i64 sa, .int .i64 si, .int .i64 ho, .int .i64 nx, .slice a1 n1 c1, .slice a2 n2 c2, .slice aN nN cN, .slice aW nW cW, .slice aM nM cM, .slice aS nS cS] 46)).alloc (.cells #[.int .i64 0, .string ⟨#[]⟩] 35) = w0 at *
  refine (implPaF sa si ho nx a1 a2 aN aW aM aS n1 c1 n2 c2 nN cN nW cW nM cM nS cS r1 r2 LN LW LM LS w0 (h.new hw1) l1 l2 lN lW lM lS m1 m2 mN mW mM mS 0 HV.out).mono ?_
  rintro e w1 ⟨rfl, hn1⟩
  have hw2 := hw1.trans hn1
  have bP1 := bP.new hn1
  have bR1 := bR.new hn1
  have al := (New.refl w1).alloc (.cells #[.pointer none, .slice none 0 0] 68)
  have bB := Blk.mk w1 w1.heap.size 68 #[.pointer none, .slice none 0 0] rfl
  clear cP bP bR hn1
  have h1 := h.new (hw2.trans al)
  go_wp2_with fail
  generalize hw1e : w1.alloc (.cells #[.pointer none, .slice none 0 0] 68) = wb at *
  refine (pairWordsT sa si ho nx a1 a2 aN aW aM aS n1 c1 n2 c2 nN cN nW cW nM cM nS cS LN LW w.heap.size wb (bP1.new al) h1.nd h1.wi lN lW (by omega) (by omega) (by omega) (by omega) k5 k6 (ht.new (hw2.trans al))).mono ?_
  rintro e w2 ⟨V, rfl, ⟨vs, sr⟩, hn2⟩
  have hw3 := (hw2.trans al).trans hn2
  have bR2 := (bR1.new al).new hn2
  have bB2 := builder_zero (e := 5) (bB.new hn2)
  have hlo : w1.heap.size ≤ wb.heap.size := al.size
  have hB0 : w.heap.size ≤ w1.heap.size := hw2.size
  have hRB : w.heap.size + 1 < w1.heap.size := bR1.lt
  clear bP1 bR1 bB h1
  have HTX : Hid (ptF 0 LN LW nM nS = ((LN.map ndW ++ LW.mapIdx wiW ++ [mlW nM nS]).map lnW).flatten) := HT.out.trans (txt_all LN LW nM nS).symm
  have HXL : Hid (∀ x ∈ (LN.map ndW ++ LW.mapIdx wiW ++ [mlW nM nS]).map lnW, x.length ≤ 200) := by
    intro x hx
    rw [List.map_append, List.map_append] at hx
    rcases List.mem_append.1 hx with hx | hx
    · rcases List.mem_append.1 hx with hx | hx
      · obtain ⟨l, hl, rfl⟩ := List.mem_map.1 hx
        obtain ⟨v, hv, rfl⟩ := List.mem_map.1 hl
        rw [lnW_nd]; exact ndT_len (k5 v hv)
      · obtain ⟨l, hl, rfl⟩ := List.mem_map.1 hx
        obtain ⟨i, hi, rfl⟩ := List.mem_mapIdx.1 hl
        rw [lnW_wi]; exact wiT_len (by omega) (k6 _ (List.getElem_mem _))
    · simp only [List.map_cons, List.map_nil, List.mem_singleton] at hx
      subst hx
      rw [lnW_ml]; exact mlT_len (by omega) (by omega)
  have HL6 : (LN.map ndW ++ LW.mapIdx wiW ++ [mlW nM nS]).length = 6 := by simp; omega
  have HW9 : Hid (∀ l ∈ LN.map ndW ++ LW.mapIdx wiW ++ [mlW nM nS], l.length ≤ 100) := by
    intro l hl
    rcases List.mem_append.1 hl with hl | hl
    · rcases List.mem_append.1 hl with hl | hl
      · obtain ⟨v, hv, rfl⟩ := List.mem_map.1 hl
        simp [ndW, nwL]
      · obtain ⟨i, hi, rfl⟩ := List.mem_mapIdx.1 hl
        simp [wiW]
    · obtain rfl := List.mem_singleton.1 hl
      simp [mlW]
  generalize LN.map ndW ++ LW.mapIdx wiW ++ [mlW nM nS] = X at *
  clear HT k5 k6 HV
  have hVf : ∃ g c, V = .slice (some ⟨g, 0, none⟩) 6 c := by
    have h6 := sr.1
    rw [HL6] at h6
    exact Joins.ownsRow_form h6 (by omega)
  obtain ⟨g, c, rfl⟩ := hVf
  go_wp2
  go_loopw [15] (fun i wr => ∃ k : Nat, k ≤ 6 ∧ i = .int .i64 k ∧ Lib.IsBuilderF 68 5 w1.heap.size w1.heap.size (Lib.byteCells ((X.map lnW).take k).flatten) wr ∧ SRowsV wr wb.heap.size (.slice (some ⟨g, 0, none⟩) 6 c) X vs ∧ Below w1.heap.size w2 wr) (fun i _ => 6 - (intOf i).toNat)
  case atStart => exact ⟨0, by omega, rfl, by rw [List.take_zero]; exact bB2, sr, Below.refl _ _⟩
  case round =>
    clear bB2 sr
    obtain ⟨k, hk, rfl, bb, sr, hbl⟩ := hrel
    have hwr : w1.heap.size ≤ wr.heap.size := by have e1 := hbl.size; have e2 := hn2.size; omega
    by_cases hlt : k < 6
    case neg =>
      obtain rfl : k = 6 := by omega
      have hT : Hid (((X.map lnW).take 6).flatten = (X.map lnW).flatten) := by unfold Hid; rw [List.take_of_length_le (by rw [List.length_map, HL6]; omega)]
      rw [hT.out] at bb
      have bR3 : Blk wr (w.heap.size + 1) 35 #[.int .i64 0, .string ⟨#[]⟩] := (hbl.block _ hRB).trans bR2
      go_wp2_with fail
      refine (bS w1.heap.size w1.heap.size _ wr bb hwr).mono ?_
      rintro e w4 ⟨rfl, hb4⟩
      have bR4 : Blk w4 (w.heap.size + 1) 35 #[.int .i64 0, .string ⟨#[]⟩] := (hb4.block _ hRB).trans bR3
      have hw4 : New w w4 := New.of_below (hw3.below.trans ((hbl.trans hb4).mono hB0)) (Nat.le_refl _)
      have hcs := bR4.cells
      have hfs := bR4.frees
      clear bR2 bR3 bb sr hbl hb4
      generalize (X.map lnW).flatten = TX at *
      go_wp2
      refine bodyPost_ret (v := .agg #[.int .i64 0, .string (sB TX)]) (by simp [results, Tryz.results7, go_sem, hcs]) rfl ⟨by rw [HTX.out], ?_⟩
      exact New.setCell (New.setCell hw4 ge0 _) ge0 _
    have hXk : X[k]? = some X[k] := List.getElem?_eq_getElem (by omega)
    have hl9 := HW9.out _ (List.getElem_mem (l := X) (n := k) (by omega))
    have hlx := HXL.out _ (List.mem_map_of_mem (f := lnW) (List.getElem_mem (l := X) (n := k) (by omega)))
    have hT : Hid (((X.map lnW).take (k + 1)).flatten = ((X.map lnW).take k).flatten ++ lnW X[k]) := flat_snoc (X := X.map lnW) (k := k) (by rw [List.getElem?_map, hXk]; rfl)
    have hF := flat_len (X := X.map lnW) 200 k (by rw [List.length_map]; omega) HXL.out
    obtain ⟨v, hv, g1, c1, rfl, hrow⟩ := sr.2 k _ hXk
    generalize X[k] = l at *
    have hc : wr.cell? ⟨g, k, none⟩ = some (.slice (some ⟨g1, 0, none⟩) l.length c1) := by
      have s6 := sr.1
      rw [HL6] at s6
      rw [World.ownsRow.cellAt s6 k (by omega)]
      exact hv
    generalize ((X.map lnW).take k).flatten = F at *
    have hj : Calls Tryz.prog 25 #[.slice (some ⟨g1, 0, none⟩) l.length c1, .string ⟨#[32]⟩] wr fun e w' => e = .returned (.string (sB (Lib.join l [32]))) ∧ New wr w' := joinR wb.heap.size g1 l.length c1 l [32] wr hrow (by omega) (by have h9 := hlx; unfold lnW at h9; rw [List.length_append] at h9; omega)
    have HLJ : Hid (lnW l = Lib.join l [32] ++ [10]) := by unfold Hid; rfl
    generalize lnW l = Z at *
    rw [HLJ.out] at hlx
    generalize Lib.join l [32] = J at *
    have hJ2 : J.length ≤ 200 := by rw [List.length_append] at hlx; omega
    have z1 : (sB J).size ≤ 200 := hJ2
    have e10 : sB J ++ ⟨#[10]⟩ = sB (J ++ [10]) := sB_app J [10]
    clear hv hrow hXk hl9
    go_wp2_with fail
    refine hj.mono ?_
    rintro e w4 ⟨rfl, hn4⟩
    clear hj
    go_wp2_with fail
    refine (bW w1.heap.size w1.heap.size F (J ++ [10]) w4 (builder_new bb hn4) (by omega) (by have := hn4.size; omega)).mono ?_
    rintro e w5 ⟨rfl, bb5, hb5, ho5⟩
    have sr5 := (sr.new hn4).others ho5 (builder_cells (builder_new bb hn4))
    have hbl5 := (hbl.trans (hn4.below.mono hwr)).trans hb5
    clear bb sr hbl hc hb5 ho5 hn4
    go_wp2
    go_roundw
    case rel => exact ⟨k + 1, by omega, by go_num, by rw [hT.out, HLJ.out]; exact bb5, sr5, hbl5⟩
    case measure => simp [intOf]; omega

end Go.Proofs.YtlkhmnjghdbmoaaGreatDoor

namespace Go.Proofs.YtlkhmnjghdbmoaaGreatDoor
open Go.RowKit Go.Sort Go.Deep
set_option linter.unusedVariables false
set_option linter.unusedSimpArgs false

set_option maxRecDepth 100000 in
set_option maxHeartbeats 6400000 in
theorem specPT (sa si ho nx : Int) (a1 a2 aN aW aM aS : Option Addr) (n1 c1 n2 c2 nN cN nW cW nM cM nS cS : Nat) (r1 r2 : List Ru) (LN : List NdV) (LW : List WiV) (LM : List MlV) (LS : List EkV) (w : World) (h : PAt w a1 a2 aN aW aM aS r1 r2 LN LW LM LS) (l1 : r1.length = n1) (l2 : r2.length = n2) (lN : LN.length = nN) (lW : LW.length = nW) (lM : LM.length = nM) (lS : LS.length = nS) (m1 : n1 ≤ 1048576) (m2 : n2 ≤ 1048576) (mN : nN ≤ 1048576) (mW : nW ≤ 1048576) (mM : nM ≤ 1048576) (mS : nS ≤ 1048576) (v : Int) (hv : pF sa si ho nx r1 r2 (LN.map NdV.r) (LW.map WiV.r) (LM.map MlV.r) (LS.map EkV.r) = v) :
    Calls Tryz.prog 5 #[.agg #[.int .i64 sa, .int .i64 si, .int .i64 ho, .int .i64 nx, .slice a1 n1 c1, .slice a2 n2 c2, .slice aN nN cN, .slice aW nW cW, .slice aM nM cM, .slice aS nS cS]] w fun e w' => e = .returned (.agg #[.int .i64 v, .string (sB (ptF v LN LW nM nS))]) ∧ New w w' := by
  have hw0 := (New.refl w).alloc (.cells #[.int .i64 sa, .int .i64 si, .int .i64 ho, .int .i64 nx, .slice a1 n1 c1, .slice a2 n2 c2, .slice aN nN cN, .slice aW nW cW, .slice aM nM cM, .slice aS nS cS] 46)
  have bP0 := Blk.mk w w.heap.size 46 #[.int .i64 sa, .int .i64 si, .int .i64 ho, .int .i64 nx, .slice a1 n1 c1, .slice a2 n2 c2, .slice aN nN cN, .slice aW nW cW, .slice aM nM cM, .slice aS nS cS] rfl
  have hw1 := hw0.alloc (.cells #[.int .i64 0, .string ⟨#[]⟩] 35)
  have bP := bP0.new ((New.refl _).alloc (.cells #[.int .i64 0, .string ⟨#[]⟩] 35))
  have bR := Blk.mk (w.alloc (.cells #[.int .i64 sa, .int .i64 si, .int .i64 ho, .int .i64 nx, .slice a1 n1 c1, .slice a2 n2 c2, .slice aN nN cN, .slice aW nW cW, .slice aM nM cM, .slice aS nS cS] 46)) (w.heap.size + 1) 35 #[.int .i64 0, .string ⟨#[]⟩] (Array.size_push _)
  have ge0 : w.heap.size ≤ w.heap.size + 1 := by omega
  clear bP0 hw0
  have HV : Hid (pF sa si ho nx r1 r2 (LN.map NdV.r) (LW.map WiV.r) (LM.map MlV.r) (LS.map EkV.r) = v) := hv
  by_cases hf : v = 0
  case neg =>
    have hfb : (v != 0) = true := by simpa using hf
    have HT : Hid (ptF v LN LW nM nS = []) := if_neg hf
    clear hf hv
    go_enter Tryz.func5, Tryz.ntmps5
    go_wp2_with fail
    generalize (w.alloc (.cells #[.int .i64 sa, .int .i64 si, .int .i64 ho, .int .i64 nx, .slice a1 n1 c1, .slice a2 n2 c2, .slice aN nN cN, .slice aW nW cW, .slice aM nM cM, .slice aS nS cS] 46)).alloc (.cells #[.int .i64 0, .string ⟨#[]⟩] 35) = w0 at *
    refine (specPaFp sa si ho nx a1 a2 aN aW aM aS n1 c1 n2 c2 nN cN nW cW nM cM nS cS r1 r2 LN LW LM LS w.heap.size w0 bP (h.new hw1) l1 l2 lN lW lM lS m1 m2 mN mW mM mS v HV.out).mono ?_
    rintro e w1 ⟨rfl, hn1⟩
    clear HV
    have hcs := (bR.new hn1).cells
    have hfs := (bR.new hn1).frees
    go_wp2
    refine bodyPost_ret (v := .agg #[.int .i64 v, .string ⟨#[]⟩]) (by simp [results, Tryz.results5, go_sem, hcs]) rfl ⟨by rw [HT.out]; rfl, ?_⟩
    exact New.setCell (New.setCell (hw1.trans hn1) ge0 _) ge0 _
  subst hf
  obtain ⟨k1, k2, k3, k4, k5, k6⟩ := pF_zero hv
  have HT : Hid (ptF 0 LN LW nM nS = txF LN LW nM nS) := if_pos rfl
  have hz : ((0 : Int) != 0) = false := rfl
  clear hv
  go_enter Tryz.func5, Tryz.ntmps5
  go_wp2_with fail
  generalize (w.alloc (.cells #[.int .i64 sa, .int .i64 si, .int .i64 ho, .int .i64 nx, .slice a1 n1 c1, .slice a2 n2 c2, .slice aN nN cN, .slice aW nW cW, .slice aM nM cM, .slice aS nS cS] 46)).alloc (.cells #[.int .i64 0, .string ⟨#[]⟩] 35) = w0 at *
  refine (specPaFp sa si ho nx a1 a2 aN aW aM aS n1 c1 n2 c2 nN cN nW cW nM cM nS cS r1 r2 LN LW LM LS w.heap.size w0 bP (h.new hw1) l1 l2 lN lW lM lS m1 m2 mN mW mM mS 0 HV.out).mono ?_
  rintro e w1 ⟨rfl, hn1⟩
  have hw2 := hw1.trans hn1
  have h1 := h.new hw2
  go_wp2_with fail
  refine (l16PairT sa si ho nx a1 a2 aN aW aM aS n1 c1 n2 c2 nN cN nW cW nM cM nS cS LN LW w.heap.size w1 (bP.new hn1) h1.nd h1.wi lN lW (by omega) (by omega) (by omega) (by omega) k5 k6).mono ?_
  rintro e w2 ⟨rfl, hn2⟩
  have hcs := ((bR.new hn1).new hn2).cells
  have hfs := ((bR.new hn1).new hn2).frees
  clear HV h1 k5 k6
  generalize txF LN LW nM nS = TX at *
  go_wp2
  refine bodyPost_ret (v := .agg #[.int .i64 0, .string (sB TX)]) (by simp [results, Tryz.results5, go_sem, hcs]) rfl ⟨by rw [HT.out], ?_⟩
  exact New.setCell (New.setCell (hw2.trans hn2) ge0 _) ge0 _

end Go.Proofs.YtlkhmnjghdbmoaaGreatDoor
