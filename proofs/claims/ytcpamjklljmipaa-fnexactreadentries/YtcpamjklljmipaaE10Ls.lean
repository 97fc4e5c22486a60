/- What is proved here: what the comparing and the marking of lists of entries, and of answers with them, leave, for lists of at most 10000 entries of at most 6000 bytes each. -/
import Derived.Test.YtcpamjklljmipaaE10En
import Derived.Test.YtcpamjklljmipaaE10Av
import Derived.Test.YtcpamjklljmipaaPackLib
import Derived.Lib.QuietBelow
import Derived.Deep.CutRange
import Derived.Test.YtcpamjklljmipaaQB
namespace Go.Proofs.Ytcpamjklljmipaa
open Go.RowKit Go.Sort
set_option linter.unusedVariables false
set_option linter.unusedSimpArgs false

/-- An entry. -/
structure En where
  ep : Int
  ki : Int
  pe : Int
  xs : List Int
/-- An entry in memory. -/
structure EnV where
  r : En
  a : Option Addr
  c : Nat
def EnV.cs (v : EnV) : List Value := [.int .i64 v.r.ep, .int .i64 v.r.ki, .int .i64 v.r.pe, .slice v.a v.r.xs.length v.c]
def cellsE (U : List EnV) : List Value := U.flatMap EnV.cs
theorem cellsE_len : ∀ U : List EnV, (cellsE U).length = U.length * 4
  | [] => rfl
  | x :: U => by
    have := cellsE_len U
    unfold cellsE at this ⊢
    rw [List.flatMap_cons, List.length_append, this]
    simp only [EnV.cs, List.length_cons, List.length_nil]
    omega
theorem cellsE_get : ∀ (U : List EnV) (i : Nat) (u : EnV), U[i]? = some u → ∀ j, j < 4 → (cellsE U)[i * 4 + j]? = u.cs[j]?
  | [], i, u, h, _, _ => by simp at h
  | x :: U, 0, u, h, j, hj => by
    simp at h
    subst h
    unfold cellsE
    rw [List.flatMap_cons, Nat.zero_mul, Nat.zero_add, List.getElem?_append_left (by simpa [EnV.cs] using hj)]
  | x :: U, i + 1, u, h, j, hj => by
    have ih := cellsE_get U i u (by simpa using h) j hj
    unfold cellsE at ih ⊢
    rw [List.flatMap_cons, List.getElem?_append_right (by simp [EnV.cs]; omega)]
    have e : (i + 1) * 4 + j - (EnV.cs x).length = i * 4 + j := by simp [EnV.cs]; omega
    rw [e]
    exact ih
theorem cellsE_set3 : ∀ (U : List EnV) (i : Nat) (u v : EnV), U[i]? = some u → (Value.slice v.a v.r.xs.length v.c) = .slice u.a u.r.xs.length u.c → (((cellsE U).set (i * 4) (.int .i64 v.r.ep)).set (i * 4 + 1) (.int .i64 v.r.ki)).set (i * 4 + 2) (.int .i64 v.r.pe) = cellsE (U.set i v)
  | [], i, u, v, h, _ => by simp at h
  | q :: U, 0, u, v, h, e => by
    simp at h
    subst h
    unfold cellsE
    simp only [List.set_cons_zero, List.flatMap_cons, Nat.zero_mul, Nat.zero_add, EnV.cs, List.cons_append, List.nil_append, List.set_cons_succ, e]
  | q :: U, i + 1, u, v, h, e => by
    have ih := cellsE_set3 U i u v (by simpa using h) e
    unfold cellsE at ih ⊢
    simp only [List.set_cons_succ, List.flatMap_cons]
    rw [← ih]
    have el : (EnV.cs q).length = 4 := rfl
    rw [List.set_append_right _ _ (by rw [el]; omega), List.set_append_right _ _ (by rw [el]; omega), List.set_append_right _ _ (by rw [el]; omega), el]
    rw [show (i + 1) * 4 - 4 = i * 4 by omega, show (i + 1) * 4 + 1 - 4 = i * 4 + 1 by omega, show (i + 1) * 4 + 2 - 4 = i * 4 + 2 by omega]

/-- The entries can be read there. -/
def EnAt (w : World) (A : Option Addr) (U : List EnV) : Prop := ∀ i u, U[i]? = some u → (∃ g, A = some ⟨g, 0, none⟩ ∧ ∀ j, j < 4 → w.cell? ⟨g, i * 4 + j, none⟩ = u.cs[j]?) ∧ BsAt w u.a u.r.xs ∧ u.r.xs.length ≤ 6000
theorem EnAt.turn {w w' : World} {A : Option Addr} {U : List EnV} {S : Nat → Prop} (h : EnAt w A U) (t : Turn S w w') (hA : ∀ x, U ≠ [] → A = some x → ¬ S x.block) (hU : ∀ u ∈ U, ∀ x, u.r.xs ≠ [] → u.a = some x → ¬ S x.block) : EnAt w' A U := by
  intro i u hu
  obtain ⟨⟨g, hg, hc⟩, hb, hl⟩ := h i u hu
  have hne : U ≠ [] := by rintro rfl; simp at hu
  have h0 : w.cell? ⟨g, i * 4, none⟩ = some (.int .i64 u.r.ep) := hc 0 (by omega)
  exact ⟨⟨g, hg, fun j hj => (World.cell?_of_block (t.block g (World.block_lt_of_cell? w _ h0) (hA _ hne hg))).trans (hc j hj)⟩, hb.turnZ t (fun x hx => hU u (List.mem_of_getElem? hu) x hx), hl⟩
theorem EnAt.new {w w' : World} {A : Option Addr} {U : List EnV} (h : EnAt w A U) (t : New w w') : EnAt w' A U := h.turn t (fun _ _ _ f => f) (fun _ _ _ _ _ f => f)
theorem EnAt.at {w : World} {A : Option Addr} {U : List EnV} (h : EnAt w A U) (i : Nat) (hi : i < U.length) :
    ∃ (g : Nat) (ep ki pe : Int) (a : Option Addr) (n c : Nat) (xs : List Int), A = some ⟨g, 0, none⟩ ∧ U[i]? = some ⟨⟨ep, ki, pe, xs⟩, a, c⟩ ∧ xs.length = n ∧ BsAt w a xs ∧ n ≤ 6000 ∧ w.cell? ⟨g, i * 4, none⟩ = some (.int .i64 ep) ∧ w.cell? ⟨g, i * 4 + 1, none⟩ = some (.int .i64 ki) ∧ w.cell? ⟨g, i * 4 + 2, none⟩ = some (.int .i64 pe) ∧ w.cell? ⟨g, i * 4 + 3, none⟩ = some (.slice a n c) := by
  obtain ⟨⟨g, hg, hc⟩, hb, hl⟩ := h i _ (List.getElem?_eq_getElem hi)
  exact ⟨g, _, _, _, _, _, _, _, hg, List.getElem?_eq_getElem hi, rfl, hb, hl, hc 0 (by omega), hc 1 (by omega), hc 2 (by omega), hc 3 (by omega)⟩

set_option maxHeartbeats 1600000 in
theorem eqEnS_any (A B : Option Addr) (n c d : Nat) (V U : List EnV) (w : World) (hF : EnAt w A V) (hG : EnAt w B U) (hVU : V.map EnV.r = U.map EnV.r) (hn : V.length = n) (hm : n ≤ 10000) :
    Calls Try.prog 52 #[.slice A n c, .slice B n d] w fun e w' => e = .returned (.bool true) ∧ New w w' := by
  have hnn : ((n : Int) != (n : Int)) = false := by simp
  have HN : Hid (V.length = n) := hn
  have HU : Hid (V.map EnV.r = U.map EnV.r) := hVU
  have HUN : Hid (U.length = n) := by
    have := congrArg List.length hVU
    simp at this
    show U.length = n
    omega
  clear hn hVU
  go_enter Try.func52, Try.ntmps52
  go_wp2
  go_loopw [5] (fun i wr => ∃ k : Nat, k ≤ n ∧ i = .int .i64 k ∧ New w wr) (fun i _ => n - (intOf i).toNat)
  case atStart => exact ⟨0, Nat.zero_le _, rfl, New.refl _⟩
  case round =>
    obtain ⟨k, hk, rfl, hnw⟩ := hrel
    by_cases hlt : k < n
    · obtain ⟨g1, ep, ki, pe, a, m, c1, xs, rfl, hp1, hl1, hx1, hmx, x0, x1, x2, x3⟩ := (hF.new hnw).at k (by have := HN.out; omega)
      obtain ⟨g2, ep', ki', pe', a', m', c1', xs', rfl, hp2, hl2, hx2, hmx', y0, y1, y2, y3⟩ := (hG.new hnw).at k (by have := HUN.out; omega)
      have hh : (⟨ep, ki, pe, xs⟩ : En) = ⟨ep', ki', pe', xs'⟩ := by
        have h1 : (V.map EnV.r)[k]? = some ⟨ep, ki, pe, xs⟩ := by rw [List.getElem?_map, hp1]; rfl
        have h2 : (U.map EnV.r)[k]? = some ⟨ep', ki', pe', xs'⟩ := by rw [List.getElem?_map, hp2]; rfl
        rw [HU.out, h2] at h1
        exact (Option.some.inj h1).symm
      simp only [En.mk.injEq] at hh
      obtain ⟨rfl, rfl, rfl, rfl⟩ := hh
      obtain rfl : m = m' := hl1.symm.trans hl2
      have HL : Hid (xs.length = m) := hl1
      clear hp1 hp2 hF hG hl1 hl2
      have X0 := cell_regrown x0
      have X1 := cell_regrown x1
      have X2 := cell_regrown x2
      have X3 := cell_regrown x3
      have Y0 := cell_regrown y0
      have Y1 := cell_regrown y1
      have Y2 := cell_regrown y2
      have Y3 := cell_regrown y3
      go_wp2_with fail
      refine wp_region_quiet_below (by kernel_rfl) (by kernel_rfl) ?_
      repeat (go_big_quiet_step ((go_at_call 69; exact calls_regrown (eqEntry_any ep ki pe a a' m c1 c1' xs _ (hx1.new (new_regrown _ _ _)) (hx2.new (new_regrown _ _ _)) HL.out (by omega)))))
      refine wpQuiet_nil ?_
      rintro w1 hn1
      replace hn1 := new_of_regrown hn1
      go_wp2
      go_roundw
      case rel => exact ⟨k + 1, by omega, by go_num, hnw.trans hn1⟩
      case measure => simp [intOf]; omega
    · go_wp2
      go_ret
      exact ⟨rfl, hnw⟩

theorem eqER_any (z us : Int) (A B : Option Addr) (n c d : Nat) (V U : List EnV) (w : World) (hF : EnAt w A V) (hG : EnAt w B U) (hVU : V.map EnV.r = U.map EnV.r) (hn : V.length = n) (hm : n ≤ 10000) :
    Calls Try.prog 24 #[.agg #[.int .i64 z, .int .i64 us, .slice A n c], .agg #[.int .i64 z, .int .i64 us, .slice B n d]] w fun e w' => e = .returned (.bool true) ∧ New w w' := by
  have hw := ((New.refl w).alloc (.cells #[.int .i64 z, .int .i64 us, .slice A n c] 33)).alloc (.cells #[.int .i64 z, .int .i64 us, .slice B n d] 33)
  have hz : (z != z) = false := by simp
  have hu : (us != us) = false := by simp
  go_enter Try.func24, Try.ntmps24
  go_wp2_with fail
  refine (eqEnS_any A B n c d V U _ (hF.new hw) (hG.new hw) hVU hn hm).mono ?_
  rintro e w1 ⟨rfl, hn1⟩
  go_wp2
  go_ret
  exact ⟨rfl, hw.trans hn1⟩

/-- An entry, marked from k on; the next mark. -/
def EnV.mkE (k : Int) (v : EnV) : EnV := ⟨⟨k, k + 1, k + 1 + 1, marks (k + 1 + 1 + 1) v.r.xs.length⟩, v.a, v.c⟩
def EnV.nxE (k : Int) (v : EnV) : Int := k + 1 + 1 + 1 + v.r.xs.length
def markE : Int → List EnV → List EnV
  | _, [] => []
  | k, v :: V => v.mkE k :: markE (v.nxE k) V
def endE : Int → List EnV → Int
  | k, [] => k
  | k, v :: V => endE (v.nxE k) V
theorem markE_length (V : List EnV) : ∀ k, (markE k V).length = V.length := by
  induction V with
  | nil => intro k; rfl
  | cons f F ih => intro k; simp [markE, ih]
theorem endE_snoc (V : List EnV) (v : EnV) : ∀ k, endE k (V ++ [v]) = v.nxE (endE k V) := by
  induction V with
  | nil => intro k; rfl
  | cons g F ih => intro k; simp only [List.cons_append, endE]; exact ih _
theorem markE_snoc (V : List EnV) (v : EnV) : ∀ k, markE k (V ++ [v]) = markE k V ++ [v.mkE (endE k V)] := by
  induction V with
  | nil => intro k; rfl
  | cons g F ih => intro k; simp only [List.cons_append, markE, endE, ih]
theorem endE_bd (V : List EnV) : ∀ k, (∀ v ∈ V, v.r.xs.length ≤ 6000) → k ≤ endE k V ∧ endE k V ≤ k + V.length * 6003 := by
  induction V with
  | nil => intro k _; simp [endE]
  | cons f F ih =>
    intro k h
    have h1 := h f (by simp)
    have h2 := ih (f.nxE k) (fun g hg => h g (by simp [hg]))
    simp only [endE, List.length_cons]
    unfold EnV.nxE at h2 ⊢
    omega
theorem take_snocE {V : List EnV} {k : Nat} {f : EnV} (h : V[k]? = some f) : V.take (k + 1) = V.take k ++ [f] := by
  obtain ⟨hk, rfl⟩ := List.getElem?_eq_some_iff.1 h
  exact List.take_succ_eq_append_getElem hk
theorem markE_get (V : List EnV) {j : Nat} {f : EnV} (h : V[j]? = some f) (k : Int) : (markE k V)[j]? = some (f.mkE (endE k (V.take j))) := by
  induction V generalizing j k with
  | nil => simp at h
  | cons g F ih =>
    cases j with
    | zero => simp at h; subst h; simp [markE, endE]
    | succ j => simp at h; simp only [markE, List.getElem?_cons_succ, List.take_succ_cons, endE]; exact ih h _
theorem endE_take {V : List EnV} {j : Nat} {f : EnV} (h : V[j]? = some f) (k : Int) : endE k (V.take (j + 1)) = f.nxE (endE k (V.take j)) := by rw [take_snocE h, endE_snoc]
theorem stepE_get {V : List EnV} {j : Nat} {f : EnV} (h : V[j]? = some f) (k : Int) : (markE k (V.take j) ++ V.drop j)[j]? = some f := by
  obtain ⟨hj, rfl⟩ := List.getElem?_eq_some_iff.1 h
  have hl : (markE k (V.take j)).length = j := by rw [markE_length, List.length_take]; omega
  rw [List.getElem?_append_right (by omega), hl, Nat.sub_self, List.getElem?_drop]
  exact h
theorem stepE_set {V : List EnV} {j : Nat} {f : EnV} (h : V[j]? = some f) (k : Int) : (markE k (V.take j) ++ V.drop j).set j (f.mkE (endE k (V.take j))) = markE k (V.take (j + 1)) ++ V.drop (j + 1) := by
  have hf := take_snocE h
  obtain ⟨hj, rfl⟩ := List.getElem?_eq_some_iff.1 h
  have hl : (markE k (V.take j)).length = j := by rw [markE_length, List.length_take]; omega
  rw [hf, markE_snoc, List.set_append_right _ _ (by omega), hl, Nat.sub_self, List.drop_eq_getElem_cons hj, List.set_cons_zero]
  simp

/-- What the marking needs of a list: the row and each entry's bytes, of the call's own, from lo up to hi, each in a block of its own. -/
structure OwE (w : World) (lo hi g n c : Nat) (U : List EnV) : Prop where
  row : w.ownsRow 0 40 4 (.slice (some ⟨g, 0, none⟩) n c) n (cellsE U)
  own : ∀ (i : Nat) (u : EnV), U[i]? = some u → OwAt w u.a u.r.xs.length u.c u.r.xs
  len : ∀ u ∈ U, u.r.xs.length ≤ 6000
  inn : ∀ u ∈ U, ∀ x, u.a = some x → lo ≤ x.block ∧ x.block < hi ∧ ¬ x.block = g
  glo : lo ≤ g ∧ g < hi
  apart : ∀ (i j : Nat) (u v : EnV) (x y : Addr), U[i]? = some u → U[j]? = some v → i ≠ j → u.a = some x → v.a = some y → ¬ x.block = y.block

theorem row_turn4 {w w' : World} {g n c : Nat} {xs : List Value} {S : Nat → Prop} (h : w.ownsRow 0 40 4 (.slice (some ⟨g, 0, none⟩) n c) n xs) (t : Turn S w w') (hS : ¬ S g) : w'.ownsRow 0 40 4 (.slice (some ⟨g, 0, none⟩) n c) n xs := row9_turn h t (by intro k hk; simp [Value.ownBlock] at hk; subst hk; exact hS)
theorem set3e (w : World) (B j : Nat) (v0 v1 v2 : Value) : Turn (fun k => k = B) w (((w.setCell ⟨B, j, none⟩ v0).setCell ⟨B, j + 1, none⟩ v1).setCell ⟨B, j + 2, none⟩ v2) :=
  (((Turn.refl (fun k => k = B) w).set (p := ⟨B, j, none⟩) rfl v0).set (p := ⟨B, j + 1, none⟩) rfl v1).set (p := ⟨B, j + 2, none⟩) rfl v2

set_option maxHeartbeats 6400000 in
theorem markEnS_row (g n c lo hi : Nat) (k : Int) (U : List EnV) (w : World) (h : OwE w lo hi g n c U) (hn : U.length = n) (hm : n ≤ 10000) (hk0 : 0 ≤ k) (hk : k ≤ 1000) :
    Calls Try.prog 53 #[.slice (some ⟨g, 0, none⟩) n c, .int .i64 k] w fun e w' => e = .returned (.int .i64 (endE k U)) ∧ EnAt w' (some ⟨g, 0, none⟩) (markE k U) ∧ Turn (fun x => lo ≤ x ∧ x < hi) w w' := by
  have HLn : Hid (U.length = n) := hn
  have HBd : Hid (∀ j, j ≤ n → k ≤ endE k (U.take j) ∧ endE k (U.take j) ≤ k + 60030000) := by
    intro j hj
    have h1 := endE_bd (U.take j) k (fun f hf => h.len f (List.mem_of_mem_take hf))
    have h2 : ((U.take j).length : Int) * 6003 ≤ 10000 * 6003 := by
      have : (U.take j).length ≤ 10000 := by rw [List.length_take]; omega
      omega
    omega
  have HLen : Hid (∀ u ∈ U, u.r.xs.length ≤ 6000) := h.len
  have HInn : Hid (∀ u ∈ U, ∀ x, u.a = some x → lo ≤ x.block ∧ x.block < hi ∧ ¬ x.block = g) := h.inn
  have HAp : Hid (∀ (i j : Nat) (u v : EnV) (x y : Addr), U[i]? = some u → U[j]? = some v → i ≠ j → u.a = some x → v.a = some y → ¬ x.block = y.block) := h.apart
  have HGl : Hid (lo ≤ g ∧ g < hi) := h.glo
  have hrow := h.row
  have hown := h.own
  clear hn h
  go_enter Try.func53, Try.ntmps53
  go_wp2
  go_loopw [1, 5] (fun s i wr => ∃ j : Nat, j ≤ n ∧ i = .int .i64 j ∧ s = .int .i64 (endE k (U.take j)) ∧ wr.ownsRow 0 40 4 (.slice (some ⟨g, 0, none⟩) n c) n (cellsE (markE k (U.take j) ++ U.drop j)) ∧
      (∀ (i : Nat) (u : EnV), j ≤ i → U[i]? = some u → OwAt wr u.a u.r.xs.length u.c u.r.xs) ∧ (∀ (i : Nat) (u : EnV), i < j → U[i]? = some u → BsAt wr u.a (marks (endE k (U.take i) + 1 + 1 + 1) u.r.xs.length)) ∧ Turn (fun x => lo ≤ x ∧ x < hi) w wr) (fun _ i _ => n - (intOf i).toNat)
  case atStart => exact ⟨0, Nat.zero_le _, rfl, rfl, by simpa [markE] using hrow, fun i u _ hu => hown i u hu, fun i u hi => absurd hi (Nat.not_lt_zero i), Turn.refl _ _⟩
  case round =>
    obtain ⟨j, hj, rfl, rfl, hC, hrest, hdone, htn⟩ := hrel
    by_cases hlt : j < n
    · obtain ⟨f, hfj⟩ : ∃ f, U[j]? = some f := ⟨_, List.getElem?_eq_getElem (by have := HLn.out; omega)⟩
      have hCj := stepE_get hfj k
      have he := HBd.out j hj
      have HE : Hid (endE k (U.take (j + 1)) = f.nxE (endE k (U.take j))) := endE_take hfj k
      have HS2 : Hid _ := stepE_set hfj k
      have HKC : Hid (∀ u, U[j]? = some u → u = f) := by intro u hu; rw [hfj] at hu; exact (Option.some.inj hu).symm
      have HFJ : Hid (U[j]? = some f) := hfj
      have HDone : Hid (∀ (i : Nat) (u : EnV), i < j → U[i]? = some u → BsAt wr u.a (marks (endE k (U.take i) + 1 + 1 + 1) u.r.xs.length)) := hdone
      have HKE : Hid (∃ kk, kk = endE k (U.take j)) := ⟨_, rfl⟩
      obtain ⟨kc, hkc⟩ : ∃ kc, kc = endE k (U.take j) := ⟨_, rfl⟩
      have HK : Hid (kc = endE k (U.take j)) := hkc
      rw [← hkc] at he ⊢
      have HE2 : Hid (endE k (U.take (j + 1)) = f.nxE kc) := by unfold Hid; rw [hkc]; exact HE.out
      have HS3 : Hid ((markE k (U.take j) ++ U.drop j).set j (f.mkE kc) = markE k (U.take (j + 1)) ++ U.drop (j + 1)) := by unfold Hid; rw [hkc]; exact HS2.out
      clear hkc HE HS2 hdone
      generalize hCC0 : markE k (U.take j) ++ U.drop j = CC at *
      have HCj : Hid (CC[j]? = some f) := hCj
      have hCl : (cellsE CC).length = n * 4 := by have := hC.1; omega
      have hov := hrest j f (Nat.le_refl _) hfj
      have hlf := HLen.out f (List.mem_of_getElem? hfj)
      have hif := HInn.out f (List.mem_of_getElem? hfj)
      have x3 : wr.cell? ⟨g, j * 4 + 3, none⟩ = some (.slice f.a f.r.xs.length f.c) := by
        rw [World.ownsRow.cellAt hC (j * 4 + 3) (by omega)]
        exact cellsE_get CC j f hCj 3 (by omega)
      have f0 := fun q => World.ownsRow.frozenAt hC q
      obtain ⟨v0, c0⟩ : ∃ v, wr.cell? ⟨g, j * 4, none⟩ = some v := ⟨_, (World.ownsRow.cellAt hC _ (by omega)).trans (List.getElem?_eq_getElem (by omega))⟩
      obtain ⟨v1, c1⟩ : ∃ v, wr.cell? ⟨g, j * 4 + 1, none⟩ = some v := ⟨_, (World.ownsRow.cellAt hC _ (by omega)).trans (List.getElem?_eq_getElem (by omega))⟩
      obtain ⟨v2, c2⟩ : ∃ v, wr.cell? ⟨g, j * 4 + 2, none⟩ = some v := ⟨_, (World.ownsRow.cellAt hC _ (by omega)).trans (List.getElem?_eq_getElem (by omega))⟩
      have hg1 := (World.ownsRow.stored hC (j * 4) (.int .i64 kc)).1
      have hg2 := (World.ownsRow.stored hg1 (j * 4 + 1) (.int .i64 (kc + 1))).1
      have hg3 := (World.ownsRow.stored hg2 (j * 4 + 2) (.int .i64 (kc + 1 + 1))).1
      have hset := cellsE_set3 CC j f (f.mkE kc) HCj.out (by simp [EnV.mkE, marks_length])
      simp only [EnV.mkE] at hset
      rw [hset] at hg3
      have t3 := set3e wr g (j * 4) (.int .i64 kc) (.int .i64 (kc + 1)) (.int .i64 (kc + 1 + 1))
      have hov3 : OwAt _ f.a f.r.xs.length f.c f.r.xs := hov.turn t3 (fun x hx e => (hif x hx).2.2 e)
      have x33 : (((wr.setCell ⟨g, j * 4, none⟩ (.int .i64 kc)).setCell ⟨g, j * 4 + 1, none⟩ (.int .i64 (kc + 1))).setCell ⟨g, j * 4 + 2, none⟩ (.int .i64 (kc + 1 + 1))).cell? ⟨g, j * 4 + 3, none⟩ = some (.slice f.a f.r.xs.length f.c) := by
        rw [World.ownsRow.cellAt hg3 (j * 4 + 3) (by omega)]
        rw [cellsE_get _ j _ (by rw [List.getElem?_set_self (by have := (List.getElem?_eq_some_iff.1 HCj.out).1; omega)]) 3 (by omega)]
        simp [EnV.cs, marks_length]
      clear hg1 hg2 hset hfj hCj
      go_upto_region 10 with fail
      generalize (((wr.setCell ⟨g, j * 4, none⟩ (.int .i64 kc)).setCell ⟨g, j * 4 + 1, none⟩ (.int .i64 (kc + 1))).setCell ⟨g, j * 4 + 2, none⟩ (.int .i64 (kc + 1 + 1))) = w4 at *
      clear x3 c0 c1 c2 f0 hC hov
      go_wp2_with fail
      refine (mark_any f.a f.r.xs.length f.c (kc + 1 + 1 + 1) f.r.xs _ hov3 (by omega) (by omega) (by omega)).mono ?_
      rintro e w5 ⟨rfl, ho5, t5⟩
      clear x33
      have hif2 : ∀ i, inA f.a i → lo ≤ i ∧ i < hi ∧ ¬ i = g := by rintro i ⟨x, hx, e⟩; rw [e]; exact hif x hx
      have t45 : Turn (fun i => i = g ∨ inA f.a i) wr w5 := Turn.trans (S := fun i => i = g ∨ inA f.a i) (Turn.mono t3 (fun i _ e => .inl e)) t5 (fun i _ e => .inr e)
      go_wp2
      go_roundw
      case rel =>
        refine ⟨j + 1, by omega, by go_num, by rw [HE2.out]; rfl, ?_, ?_, ?_, ?_⟩
        · rw [← HS3.out]
          exact row_turn4 hg3 t5 (fun e => (hif2 g e).2.2 rfl)
        · intro i u hi hu
          refine (hrest i u (by omega) hu).turn t45 ?_
          rintro x hx (e | ⟨y, hy, e⟩)
          · exact (HInn.out u (List.mem_of_getElem? hu) x hx).2.2 e
          · exact HAp.out i j u f x y hu HFJ.out (by omega) hx hy e
        · intro i u hi hu
          by_cases hij : i = j
          · subst hij
            obtain rfl := HKC.out u hu
            rw [← HK.out]
            exact ho5.bs (marks_bd _ _)
          · refine (HDone.out i u (by omega) hu).turn t45 ?_
            rintro x hx (e | ⟨y, hy, e⟩)
            · exact (HInn.out u (List.mem_of_getElem? hu) x hx).2.2 e
            · exact HAp.out i j u f x y hu HFJ.out (by omega) hx hy e
        · exact Turn.trans htn t45 (by rintro i _ (e | e); (rw [e]; exact HGl.out); exact ⟨(hif2 i e).1, (hif2 i e).2.1⟩)
      case measure => simp [intOf]; omega
    · go_wp2
      go_ret
      obtain rfl : j = n := by omega
      have e1 : U.take j = U := List.take_of_length_le (by rw [HLn.out]; omega)
      have e2 : U.drop j = [] := List.drop_eq_nil_of_le (by rw [HLn.out]; omega)
      rw [e1, e2, List.append_nil] at hC
      rw [e1]
      refine ⟨rfl, ?_, htn⟩
      intro i u hu
      have hi : i < (markE k U).length := (List.getElem?_eq_some_iff.1 hu).1
      rw [markE_length] at hi
      obtain ⟨f, hf⟩ : ∃ f, U[i]? = some f := ⟨_, List.getElem?_eq_getElem hi⟩
      have hm' := markE_get U hf k
      rw [hu] at hm'
      obtain rfl := Option.some.inj hm'
      refine ⟨⟨g, rfl, fun q hq => ?_⟩, ?_, ?_⟩
      · rw [World.ownsRow.cellAt hC (i * 4 + q) (by have := HLn.out; omega)]
        exact cellsE_get _ i _ hu q hq
      · exact hdone i f (by have := HLn.out; omega) hf
      · simp only [EnV.mkE, marks_length]
        exact HLen.out f (List.mem_of_getElem? hf)

set_option maxHeartbeats 1600000 in
theorem heldEnS_any (A : Option Addr) (n c : Nat) (k : Int) (U : List EnV) (w : World) (h : EnAt w A (markE k U)) (hn : U.length = n) (hl : ∀ u ∈ U, u.r.xs.length ≤ 6000) (hm : n ≤ 10000) (hk0 : 0 ≤ k) (hk : k ≤ 1000) :
    Calls Try.prog 54 #[.slice A n c, .int .i64 k] w fun e w' => e = .returned (.int .i64 (endE k U)) ∧ w' = w := by
  have HLn : Hid (U.length = n) := hn
  have HL : Hid (∀ u ∈ U, u.r.xs.length ≤ 6000) := hl
  have HBd : Hid (∀ j, j ≤ n → k ≤ endE k (U.take j) ∧ endE k (U.take j) ≤ k + 60030000) := by
    intro j hj
    have h1 := endE_bd (U.take j) k (fun f hf => hl f (List.mem_of_mem_take hf))
    have h2 : ((U.take j).length : Int) * 6003 ≤ 10000 * 6003 := by
      have : (U.take j).length ≤ 10000 := by rw [List.length_take]; omega
      omega
    omega
  clear hn hl
  go_enter Try.func54, Try.ntmps54
  go_wp2
  go_loopw [1, 5] (fun s i wr => ∃ j : Nat, j ≤ n ∧ i = .int .i64 j ∧ s = .int .i64 (endE k (U.take j)) ∧ wr = w) (fun _ i _ => n - (intOf i).toNat)
  case atStart => exact ⟨0, Nat.zero_le _, rfl, rfl, rfl⟩
  case round =>
    obtain ⟨j, hj, rfl, rfl, rfl⟩ := hrel
    by_cases hlt : j < n
    · obtain ⟨f, hfj⟩ : ∃ f, U[j]? = some f := ⟨_, List.getElem?_eq_getElem (by have := HLn.out; omega)⟩
      obtain ⟨⟨b, rfl, hcell⟩, hns, -⟩ := h j _ (markE_get U hfj k)
      have he := HBd.out j hj
      have HE : Hid (endE k (U.take (j + 1)) = f.nxE (endE k (U.take j))) := endE_take hfj k
      have hlf := HL.out f (List.mem_of_getElem? hfj)
      generalize endE k (U.take j) = kc at *
      obtain ⟨⟨ep, ki, pe, xs⟩, fa, fc⟩ := f
      have x0 : wr.cell? ⟨b, j * 4, none⟩ = some (.int .i64 kc) := hcell 0 (by omega)
      have x1 : wr.cell? ⟨b, j * 4 + 1, none⟩ = some (.int .i64 (kc + 1)) := hcell 1 (by omega)
      have x2 : wr.cell? ⟨b, j * 4 + 2, none⟩ = some (.int .i64 (kc + 1 + 1)) := hcell 2 (by omega)
      have x3 : wr.cell? ⟨b, j * 4 + 3, none⟩ = some (.slice fa xs.length fc) := by
        have := hcell 3 (by omega)
        simp only [EnV.mkE, EnV.cs, marks_length] at this
        exact this
      have hns' : BsAt wr fa (marks (kc + 1 + 1 + 1) xs.length) := hns
      clear hcell hfj hns h
      go_wp2_with fail
      refine (held_any fa xs.length fc (kc + 1 + 1 + 1) _ hns' (by omega) (by omega) (by omega)).mono ?_
      rintro e w5 ⟨rfl, rfl⟩
      go_wp2
      go_roundw
      case rel => exact ⟨j + 1, by omega, by go_num, by rw [HE.out]; rfl, by trivial⟩
      case measure => simp [intOf]; omega
    · go_wp2
      go_ret
      obtain rfl : j = n := by omega
      have e1 : U.take j = U := List.take_of_length_le (by rw [HLn.out]; omega)
      rw [e1]
      exact ⟨rfl, rfl⟩

end Go.Proofs.Ytcpamjklljmipaa
