/- What is proved here: what the two readings of entries answer, as lists of entries that can be compared and marked. -/
import Derived.Test.YtcpamjklljmipaaE10Ls
import Derived.Test.YtcpamjklljmipaaE10Ri
import Derived.Test.YtcpamjklljmipaaE10Re
namespace Go.Proofs.Ytcpamjklljmipaa
open Go.RowKit
set_option linter.unusedVariables false
set_option linter.unusedSimpArgs false

/-- An answer with entries: two numbers and a list of the call's own. -/
def ErAns (w : World) (Z US : Int) (D : List En) (e : Ending) (w' : World) : Prop :=
  ∃ (y : Option Addr) (d : Nat) (U : List EnV), e = .returned (.agg #[.int .i64 Z, .int .i64 US, .slice y U.length d]) ∧ U.map EnV.r = D ∧ EnAt w' y U ∧ ((y = none ∧ U = []) ∨ ∃ g, y = some ⟨g, 0, none⟩ ∧ OwE w' w.heap.size w'.heap.size g U.length d U) ∧ New w w'

/-- The entry at a place. -/
def enD (zs : List Int) (t : Nat) : En := ⟨numAt (zs.drop t) 3 2, zs[t + 5]?.getD 0, zs[t + 6]?.getD 0, ((zs.drop t).drop 8).take (eSz (zs.drop t) - 8)⟩
def evU (zs : List Int) (x : EvM) : EnV := ⟨enD zs x.t, x.a, x.cap⟩
def reZ (zs : List Int) : Int := if 6000 < zs.length then 2 else 0
def reU (zs : List Int) : Int := if 6000 < zs.length then 0 else (eUse zs 0 : Int)
def reD (zs : List Int) : List En := if 6000 < zs.length then [] else (eAts zs 0).map (enD zs)

theorem owat_row {w : World} {lo n c : Nat} {a : Option Addr} {xs : List Int} (h : w.ownsRow lo 5 1 (.slice a n c) n (xs.map (Value.int .u8))) : OwAt w a n c xs ∧ (∀ x, a = some x → lo ≤ x.block ∧ x.block < w.heap.size ∧ (Value.slice a n c).ownBlock = some x.block) := by
  rcases h.2 with ⟨h1, h2⟩ | ⟨g, cap, cur, h1, h2, h3, r⟩
  · obtain ⟨rfl, rfl, rfl⟩ : a = none ∧ n = 0 ∧ c = 0 := by simpa using h1
    exact ⟨⟨by simpa using h.1, fun h => by omega⟩, fun x hx => by cases hx⟩
  · obtain ⟨rfl, rfl⟩ : a = some ⟨g, 0, none⟩ ∧ c = cap := by simp at h1; exact ⟨h1.1, h1.2⟩
    refine ⟨OwAt.of_own h, fun x hx => ?_⟩
    cases hx
    exact ⟨h2, (Array.getElem?_eq_some_iff.1 h3).1, rfl⟩

theorem cellsE_ev (zs : List Int) : ∀ V : List EvM, (∀ x ∈ V, (x.by zs).length = eSz (zs.drop x.t) - 8) → cellsE (V.map (evU zs)) = V.flatMap (EvM.cs zs)
  | [], _ => rfl
  | x :: V, h => by
    have ih := cellsE_ev zs V (fun y hy => h y (by simp [hy]))
    have h1 := h x (by simp)
    unfold cellsE at ih ⊢
    rw [List.map_cons, List.flatMap_cons, List.flatMap_cons, ih]
    congr 1
    unfold EvM.by at h1
    simp only [EnV.cs, evU, enD, EvM.cs, EvM.pv, h1]

theorem ReAns.er {w w' : World} {zs : List Int} {e : Ending} (hz : ∀ z ∈ zs, 0 ≤ z ∧ z ≤ 255) (h : ReAns w zs e w') : ErAns w (reZ zs) (reU zs) (reD zs) e w' := by
  unfold ReAns at h
  unfold ErAns reZ reU reD
  by_cases hb : 6000 < zs.length
  · rw [if_pos hb] at h
    rw [if_pos hb, if_pos hb, if_pos hb]
    obtain ⟨rfl, hn⟩ := h
    exact ⟨none, 0, [], rfl, rfl, by intro i u hu; simp at hu, .inl ⟨rfl, rfl⟩, hn⟩
  · rw [if_neg hb] at h
    rw [if_neg hb, if_neg hb, if_neg hb]
    obtain ⟨y, k, d, V, rfl, rfl, hR, hV⟩ := h
    have hby : ∀ x ∈ V, (x.by zs).length = eSz (zs.drop x.t) - 8 := fun x hx => by simpa using (hR.own.own x hx).1
    have hzb : ∀ x ∈ V, ∀ z ∈ x.by zs, 0 ≤ z ∧ z ≤ 255 := fun x hx z hz' => hz z (List.mem_of_mem_drop (List.mem_of_mem_drop (List.mem_of_mem_take hz')))
    have hlb : ∀ x ∈ V, (x.by zs).length ≤ 6000 := fun x hx => by
      have h1 := hby x hx
      have h2 := eSz_le (zs.drop x.t)
      rw [List.length_drop] at h2
      omega
    have hce := cellsE_ev zs V hby
    have hrow : w'.ownsRow w.heap.size 40 4 (.slice y V.length d) V.length (cellsE (V.map (evU zs))) := by rw [hce]; exact hR.row
    have hget : ∀ (i : Nat) (u : EnV), (V.map (evU zs))[i]? = some u → ∃ x, V[i]? = some x ∧ x ∈ V ∧ u = evU zs x := by
      intro i u hu
      rw [List.getElem?_map] at hu
      obtain ⟨x, hx, rfl⟩ := Option.map_eq_some_iff.1 hu
      exact ⟨x, hx, List.mem_of_getElem? hx, rfl⟩
    have hown : ∀ x ∈ V, w'.ownsRow w.heap.size 5 1 (.slice x.a (x.by zs).length x.cap) (x.by zs).length ((x.by zs).map (Value.int .u8)) := fun x hx => by
      have := hR.own.own x hx
      unfold EvM.pv at this
      rw [← hby x hx] at this
      exact this
    have hbs : ∀ x ∈ V, BsAt w' x.a (x.by zs) := fun x hx => (owat_row (hown x hx)).1.bs (hzb x hx)
    refine ⟨y, d, V.map (evU zs), by rw [List.length_map], ?_, ?_, ?_, hR.new⟩
    · rw [List.map_map, ← hV, List.map_map]
      rfl
    · intro i u hu
      obtain ⟨x, hx, hxm, rfl⟩ := hget i u hu
      refine ⟨?_, hbs x hxm, hlb x hxm⟩
      rcases hrow.2 with ⟨h1, h2⟩ | ⟨g, cap, cur, h1, h2, h3, r⟩
      · have : V.length = 0 := h2
        have := (List.getElem?_eq_some_iff.1 hx).1
        omega
      · obtain ⟨rfl, rfl⟩ : y = some ⟨g, 0, none⟩ ∧ d = cap := by simp at h1; exact ⟨h1.1, h1.2⟩
        refine ⟨g, rfl, fun j hj => ?_⟩
        rw [World.ownsRow.cellAt hrow (i * 4 + j) (by have := (List.getElem?_eq_some_iff.1 hx).1; omega)]
        exact cellsE_get _ i _ hu j hj
    · rcases hrow.2 with ⟨h1, h2⟩ | ⟨g, cap, cur, h1, h2, h3, r⟩
      · have h0 : V.length = 0 := h2
        obtain rfl : V = [] := List.eq_nil_of_length_eq_zero h0
        obtain ⟨rfl, -⟩ : y = none ∧ d = 0 := by simp at h1; exact ⟨h1.1, h1.2⟩
        exact .inl ⟨rfl, rfl⟩
      · obtain ⟨rfl, rfl⟩ : y = some ⟨g, 0, none⟩ ∧ d = cap := by simp at h1; exact ⟨h1.1, h1.2⟩
        refine .inr ⟨g, rfl, ⟨?_, ?_, ?_, ?_, ⟨h2, (Array.getElem?_eq_some_iff.1 h3).1⟩, ?_⟩⟩
        · rw [List.length_map]
          exact own_base hrow
        · intro i u hu
          obtain ⟨x, hx, hxm, rfl⟩ := hget i u hu
          exact (owat_row (hown x hxm)).1
        · intro u hu
          obtain ⟨x, hx, rfl⟩ := List.mem_map.1 hu
          exact hlb x hx
        · intro u hu ad had
          obtain ⟨x, hx, rfl⟩ := List.mem_map.1 hu
          obtain ⟨k1, k2, k3⟩ := (owat_row (hown x hx)).2 ad had
          refine ⟨k1, k2, fun e => ?_⟩
          exact row_ne_row hrow (hown x hx) (by decide) g rfl (by rw [k3, e])
        · intro i j u v ad ad' hu hv hij had had' e
          obtain ⟨x, hx, hxm, rfl⟩ := hget i u hu
          obtain ⟨x', hx', hxm', rfl⟩ := hget j v hv
          have k3 := ((owat_row (hown x hxm)).2 ad had).2.2
          have k3' := ((owat_row (hown x' hxm')).2 ad' had').2.2
          refine hR.own.apart i j x x' ad.block hx hx' hij ?_ ?_
          · unfold EvM.pv; rw [← hby x hxm]; exact k3
          · unfold EvM.pv; rw [← hby x' hxm', e]; exact k3'

theorem reD_len (zs : List Int) {w w' : World} {Z US : Int} {e : Ending} (h : ReAns w zs e w') : (reD zs).length ≤ 10000 := by
  unfold reD
  unfold ReAns at h
  by_cases hb : 6000 < zs.length
  · rw [if_pos hb]; simp
  · rw [if_neg hb] at h ⊢
    obtain ⟨y, k, d, V, -, -, hR, hV⟩ := h
    have h1 := hR.come.len
    have h2 := hR.come.le
    rw [List.length_map, ← hV]
    omega

theorem implER (g n : Nat) (zs : List Int) (w : World) (h : BsAt w (some ⟨g, 0, none⟩) zs) (hb : g < w.heap.size) (hn : zs.length = n) (hm : n ≤ 1048576) :
    Calls Try.prog 11 #[.slice (some ⟨g, 0, none⟩) n n] w fun e w' => ErAns w (reZ zs) (reU zs) (reD zs) e w' ∧ (reD zs).length ≤ 10000 :=
  (implRE g 0 n n zs w h hb hn (Nat.le_refl _) hm).mono fun e w' hh => ⟨hh.er h.lt, reD_len (Z := 0) (US := 0) zs hh⟩
theorem specER (g n : Nat) (zs : List Int) (w : World) (h : BsAt w (some ⟨g, 0, none⟩) zs) (hn : zs.length = n) (hm : n ≤ 1048576) :
    Calls Try.prog 22 #[.slice (some ⟨g, 0, none⟩) n n] w fun e w' => ErAns w (reZ zs) (reU zs) (reD zs) e w' ∧ (reD zs).length ≤ 10000 :=
  (specRE g 0 n n zs w h hn (Nat.le_refl _) hm).mono fun e w' hh => ⟨hh.er h.lt, reD_len (Z := 0) (US := 0) zs hh⟩

theorem owE_turn {w w' : World} {y : Option Addr} {lo hi n d : Nat} {U : List EnV} {S : Nat → Prop} (h : (y = none ∧ U = []) ∨ ∃ g, y = some ⟨g, 0, none⟩ ∧ OwE w lo hi g n d U) (t : Turn S w w') (hS : ∀ i, lo ≤ i → i < hi → ¬ S i) : (y = none ∧ U = []) ∨ ∃ g, y = some ⟨g, 0, none⟩ ∧ OwE w' lo hi g n d U := by
  rcases h with h | ⟨g, hg, h⟩
  · exact .inl h
  · refine .inr ⟨g, hg, ⟨row_turn4 h.row t (hS g h.glo.1 h.glo.2), fun i u hu => (h.own i u hu).turn t (fun x hx => ?_), h.len, h.inn, h.glo, h.apart⟩⟩
    have := h.inn u (List.mem_of_getElem? hu) x hx
    exact hS _ this.1 this.2.1
theorem owE_out {w : World} {y : Option Addr} {lo hi n d : Nat} {U : List EnV} (h : (y = none ∧ U = []) ∨ ∃ g, y = some ⟨g, 0, none⟩ ∧ OwE w lo hi g n d U) : (∀ x, y = some x → lo ≤ x.block ∧ x.block < hi) ∧ (∀ u ∈ U, ∀ x, u.a = some x → lo ≤ x.block ∧ x.block < hi) := by
  rcases h with ⟨rfl, rfl⟩ | ⟨g, rfl, h⟩
  · exact ⟨fun x hx => (by cases hx), fun u hu => (by cases hu)⟩
  · refine ⟨fun x hx => ?_, fun u hu x hx => ?_⟩
    · cases hx; exact h.glo
    · have := h.inn u hu x hx
      exact ⟨this.1, this.2.1⟩

theorem markER_any (Z US : Int) (y : Option Addr) (d lo hi : Nat) (U : List EnV) (w : World) (h : (y = none ∧ U = []) ∨ ∃ g, y = some ⟨g, 0, none⟩ ∧ OwE w lo hi g U.length d U) (hl : U.length ≤ 10000) (hhi : hi ≤ w.heap.size) :
    Calls Try.prog 27 #[.agg #[.int .i64 Z, .int .i64 US, .slice y U.length d], .int .i64 1] w fun e w' => e = .returned (.int .i64 (endE 1 U)) ∧ EnAt w' y (markE 1 U) ∧ Turn (fun x => lo ≤ x ∧ x < hi) w w' := by
  have hw := (New.refl w).alloc (.cells #[.int .i64 Z, .int .i64 US, .slice y U.length d] 33)
  rcases h with ⟨rfl, rfl⟩ | ⟨g, rfl, h⟩
  · go_enter Try.func27, Try.ntmps27
    go_wp2_with fail
    have hnil : Calls Try.prog 53 #[.slice none 0 d, .int .i64 1] (w.alloc (.cells #[.int .i64 Z, .int .i64 US, .slice none 0 d] 33)) fun e w' => e = .returned (.int .i64 1) ∧ w' = w.alloc (.cells #[.int .i64 Z, .int .i64 US, .slice none 0 d] 33) := by
      go_enter Try.func53, Try.ntmps53
      go_wp2
      refine wp_loop_rounds 1 ?_
      rw [rounds_succ]
      go_wp2
      go_ret
      exact ⟨rfl, rfl⟩
    refine hnil.mono ?_
    rintro e w1 ⟨rfl, rfl⟩
    go_wp2
    go_ret
    exact ⟨rfl, by intro i u hu; simp [markE] at hu, hw.turn⟩
  · have h1 : OwE (w.alloc (.cells #[.int .i64 Z, .int .i64 US, .slice (some ⟨g, 0, none⟩) U.length d] 33)) lo hi g U.length d U := ⟨row_turn4 h.row hw (fun f => f), fun i u hu => (h.own i u hu).new hw, h.len, h.inn, h.glo, h.apart⟩
    go_enter Try.func27, Try.ntmps27
    go_wp2_with fail
    refine (markEnS_row g U.length d lo hi 1 U _ h1 rfl hl (by omega) (by omega)).mono ?_
    rintro e w1 ⟨rfl, h2, ht⟩
    go_wp2
    go_ret
    exact ⟨rfl, h2, Turn.trans hw.turn ht (fun i _ e => e)⟩

theorem heldER_any (Z US : Int) (y : Option Addr) (d : Nat) (U : List EnV) (w : World) (h : EnAt w y (markE 1 U)) (hx : ∀ u ∈ U, u.r.xs.length ≤ 6000) (hl : U.length ≤ 10000) :
    Calls Try.prog 28 #[.agg #[.int .i64 Z, .int .i64 US, .slice y U.length d], .int .i64 1] w fun e w' => e = .returned (.int .i64 (endE 1 U)) ∧ New w w' := by
  have hw := (New.refl w).alloc (.cells #[.int .i64 Z, .int .i64 US, .slice y U.length d] 33)
  have he := (endE_bd U 1 hx).1
  go_enter Try.func28, Try.ntmps28
  go_wp2_with fail
  refine (heldEnS_any y U.length d 1 U _ (h.new hw) rfl hx hl (by omega) (by omega)).mono ?_
  rintro e w1 ⟨rfl, rfl⟩
  go_wp2
  go_ret
  exact ⟨rfl, hw⟩

end Go.Proofs.Ytcpamjklljmipaa
