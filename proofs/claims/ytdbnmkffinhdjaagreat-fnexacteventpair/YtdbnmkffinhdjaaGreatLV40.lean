/- Lemmas and contracts of one law. -/
import Derived.Test.YtdbnmkffinhdjaaGreatLV22
import Derived.Test.YtdbnmkffinhdjaaGreatLV12
namespace Go.Proofs.YtdbnmkffinhdjaaGreat
open Go.ChangeShapes Go.WideShapes Go.ChangeAt Go.RowKit Go.Deep Go.Sort
set_option linter.unusedVariables false
set_option linter.unusedSimpArgs false
set_option maxRecDepth 100000
set_option maxHeartbeats 25600000

/-- All that a list leads to lies in blocks of F. -/
def BlN (F : Nat → Prop) (A : Option Addr) (V : List NdV) : Prop := (∀ x, A = some x → F x.block) ∧ ∀ v ∈ V, (∀ x, v.A = some x → F x.block) ∧ ∀ u ∈ v.V, ∀ x, u.a = some x → F x.block
def BlW (F : Nat → Prop) (A : Option Addr) (V : List WiV) : Prop := (∀ x, A = some x → F x.block) ∧ ∀ v ∈ V, ∀ x, (v.a = some x ∨ v.b = some x) → F x.block
def BlQ (F : Nat → Prop) (A : Option Addr) (V : List MlV) : Prop := (∀ x, A = some x → F x.block) ∧ ∀ v ∈ V, ∀ x, v.a = some x → F x.block
def BlS (F : Nat → Prop) (A : Option Addr) (V : List EkV) : Prop := (∀ x, A = some x → F x.block) ∧ ∀ v ∈ V, ∀ x, v.a = some x → F x.block
theorem NdAt.farF {w w' : World} {F S : Nat → Prop} {A : Option Addr} {V : List NdV} (h : NdAt w A V) (hr : BlN F A V) (t : Turn S w w') (hS : ∀ x, F x → ¬ S x) : NdAt w' A V := by
    intro i v hv
    obtain ⟨⟨g, ha, hc⟩, h1⟩ := h i v hv
    have h0 : w.cell? ⟨g, i * 9, none⟩ = some (.int .i64 v.id) := hc 0 (by omega)
    have hlt : g < w.heap.size := World.block_lt_of_cell? w _ h0
    have hb' := t.block g hlt (hS _ (hr.1 _ ha))
    obtain ⟨r1, r2⟩ := hr.2 v (List.mem_of_getElem? hv)
    refine ⟨⟨g, ha, fun j hj => (World.cell?_of_block hb').trans (hc j hj)⟩, h1.1.turn t (fun x _ hx => hS _ (r1 x hx)) (fun u hu x _ hx => hS _ (r2 u hu x hx)), h1.2⟩
theorem WiAt.farF {w w' : World} {F S : Nat → Prop} {A : Option Addr} {V : List WiV} (h : WiAt w A V) (hr : BlW F A V) (t : Turn S w w') (hS : ∀ x, F x → ¬ S x) : WiAt w' A V := by
    intro i v hv
    obtain ⟨⟨g, ha, hc⟩, h1⟩ := h i v hv
    have h0 : w.cell? ⟨g, i * 4, none⟩ = some (.int .i64 v.E) := hc 0 (by omega)
    have hlt : g < w.heap.size := World.block_lt_of_cell? w _ h0
    have hb' := t.block g hlt (hS _ (hr.1 _ ha))
    have r1 := hr.2 v (List.mem_of_getElem? hv)
    refine ⟨⟨g, ha, fun j hj => (World.cell?_of_block hb').trans (hc j hj)⟩, h1.1.turn t (fun x hx => hS _ (r1 x (.inl hx))), h1.2.1.turn t (fun x hx => hS _ (r1 x (.inr hx))), h1.2.2⟩
theorem MqAt.farF {w w' : World} {F S : Nat → Prop} {A : Option Addr} {V : List MlV} (h : MqAt w A V) (hr : BlQ F A V) (t : Turn S w w') (hS : ∀ x, F x → ¬ S x) : MqAt w' A V := by
    intro i v hv
    obtain ⟨⟨g, ha, hc⟩, h1⟩ := h i v hv
    have h0 : w.cell? ⟨g, i * 10, none⟩ = some (.int .i64 v.m.kd) := hc 0 (by omega)
    have hlt : g < w.heap.size := World.block_lt_of_cell? w _ h0
    have hb' := t.block g hlt (hS _ (hr.1 _ ha))
    have r1 := hr.2 v (List.mem_of_getElem? hv)
    refine ⟨⟨g, ha, fun j hj => (World.cell?_of_block hb').trans (hc j hj)⟩, h1.1.turn t (fun x hx => hS _ (r1 x hx)), h1.2⟩
theorem LgAt.farF {w w' : World} {F S : Nat → Prop} {A : Option Addr} {V : List EkV} (h : LgAt w A V) (hr : BlS F A V) (t : Turn S w w') (hS : ∀ x, F x → ¬ S x) : LgAt w' A V := h.turn t (fun x _ hx => hS _ (hr.1 x hx)) (fun u hu x _ hx => hS _ (hr.2 u hu x hx))
theorem BlS.mark {F : Nat → Prop} {A : Option Addr} {V : List EkV} (h : BlS F A V) (k : Int) : BlS F A (markK k V) := by
  refine ⟨h.1, ?_⟩
  intro u hu x hx
  obtain ⟨q, hq⟩ := List.getElem?_of_mem hu
  have hl2 : q < V.length := by have := (List.getElem?_eq_some_iff.1 hq).1; rw [markK_length] at this; exact this
  have hg2 := markK_get V (List.getElem?_eq_getElem hl2) k
  rw [hq] at hg2
  obtain rfl := Option.some.inj hg2
  exact h.2 _ (List.getElem_mem hl2) x hx
theorem BlN.mark {F : Nat → Prop} {A : Option Addr} {V : List NdV} (h : BlN F A V) (k : Int) : BlN F A (markN k V) := by
  refine ⟨h.1, ?_⟩
  intro v' hv'
  obtain ⟨i, hi'⟩ := List.getElem?_of_mem hv'
  have hl : i < V.length := by have := (List.getElem?_eq_some_iff.1 hi').1; rw [markN_length] at this; exact this
  have hg := markN_get V (List.getElem?_eq_getElem hl) k
  rw [hi'] at hg
  obtain rfl := Option.some.inj hg
  obtain ⟨r1, r2⟩ := h.2 _ (List.getElem_mem hl)
  refine ⟨r1, ?_⟩
  exact (BlS.mark (F := F) (A := none) (V := (V[i]).V) ⟨by simp, r2⟩ _).2
theorem BlW.mark {F : Nat → Prop} {A : Option Addr} {V : List WiV} (h : BlW F A V) (k : Int) : BlW F A (markW k V) := by
  refine ⟨h.1, ?_⟩
  intro v' hv'
  obtain ⟨i, hi'⟩ := List.getElem?_of_mem hv'
  have hl : i < V.length := by have := (List.getElem?_eq_some_iff.1 hi').1; rw [markW_length] at this; exact this
  have hg := markW_get V (List.getElem?_eq_getElem hl) k
  rw [hi'] at hg
  obtain rfl := Option.some.inj hg
  exact h.2 V[i] (List.getElem_mem hl)
theorem BlQ.mark {F : Nat → Prop} {A : Option Addr} {V : List MlV} (h : BlQ F A V) (k : Int) : BlQ F A (markQ k V) := by
  refine ⟨h.1, ?_⟩
  intro v' hv'
  obtain ⟨i, hi'⟩ := List.getElem?_of_mem hv'
  have hl : i < V.length := by have := (List.getElem?_eq_some_iff.1 hi').1; rw [markQ_length] at this; exact this
  have hg := markQ_get V (List.getElem?_eq_getElem hl) k
  rw [hi'] at hg
  obtain rfl := Option.some.inj hg
  exact h.2 V[i] (List.getElem_mem hl)
theorem OwNn.bl {w : World} {F : Nat → Prop} {A : Option Addr} {n c : Nat} {U : List NdV} (h : OwNn w F A n c U) : BlN F A U := by
  rcases h with ⟨rfl, -, -, rfl⟩ | ⟨g, P, Q, rfl, h⟩
  · exact ⟨by simp, by simp⟩
  · refine ⟨fun x hx => (by cases hx; exact h.glo), fun v hv => ?_⟩
    obtain ⟨i, hi⟩ := List.getElem?_of_mem hv
    have hl := (List.getElem?_eq_some_iff.1 hi).1
    have k := (h.own i v hi).blocks
    exact ⟨fun x hx => (h.inn i hl).1 _ (k.1 x hx).1 (k.1 x hx).2, fun u hu x hx => (h.inn i hl).1 _ (k.2 u hu x hx).1 (k.2 u hu x hx).2⟩
theorem OwWn.bl {w : World} {F : Nat → Prop} {A : Option Addr} {n c : Nat} {U : List WiV} (h : OwWn w F A n c U) : BlW F A U := by
  rcases h with ⟨rfl, -, -, rfl⟩ | ⟨g, rfl, h⟩
  · exact ⟨by simp, by simp⟩
  · exact ⟨fun x hx => (by cases hx; exact h.glo), fun v hv x hx => (h.inn v hv x hx).1⟩
theorem OwQn.bl {w : World} {F : Nat → Prop} {A : Option Addr} {n c : Nat} {U : List MlV} (h : OwQn w F A n c U) : BlQ F A U := by
  rcases h with ⟨rfl, -, -, rfl⟩ | ⟨g, rfl, h⟩
  · exact ⟨by simp, by simp⟩
  · exact ⟨fun x hx => (by cases hx; exact h.glo), fun v hv x hx => (h.inn v hv x hx).1⟩

theorem markN16_0 (c : Nat) (k : Int) (w : World) : Calls Tryz.prog 45 #[.slice none 0 c, .int .i64 k] w fun e w' => e = .returned (.int .i64 k) ∧ w' = w := by
  go_enter Tryz.func45, Tryz.ntmps45
  go_wp2
  refine wp_loop_rounds 1 ?_
  rw [rounds_succ]
  go_wp2
  go_ret
  exact ⟨rfl, rfl⟩
theorem markW16_0 (c : Nat) (k : Int) (w : World) : Calls Tryz.prog 46 #[.slice none 0 c, .int .i64 k] w fun e w' => e = .returned (.int .i64 k) ∧ w' = w := by
  go_enter Tryz.func46, Tryz.ntmps46
  go_wp2
  refine wp_loop_rounds 1 ?_
  rw [rounds_succ]
  go_wp2
  go_ret
  exact ⟨rfl, rfl⟩
theorem markQ16_0 (c : Nat) (k : Int) (w : World) : Calls Tryz.prog 47 #[.slice none 0 c, .int .i64 k] w fun e w' => e = .returned (.int .i64 k) ∧ w' = w := by
  go_enter Tryz.func47, Tryz.ntmps47
  go_wp2
  refine wp_loop_rounds 1 ?_
  rw [rounds_succ]
  go_wp2
  go_ret
  exact ⟨rfl, rfl⟩
theorem markNn (A : Option Addr) (n c : Nat) (F : Nat → Prop) (k : Int) (U : List NdV) (w : World) (h : OwNn w F A n c U) (hn : U.length = n) (hT : totNd U ≤ 2097152) (hm : n ≤ 2097152) (hk0 : 0 ≤ k) (hk : k ≤ 67108864) :
    Calls Tryz.prog 45 #[.slice A n c, .int .i64 k] w fun e w' => e = .returned (.int .i64 (endN k U)) ∧ NdAt w' A (markN k U) ∧ Turn F w w' := by
  rcases h with ⟨rfl, rfl, rfl, rfl⟩ | ⟨g, P, Q, rfl, h⟩
  · refine (markN16_0 0 k w).mono ?_
    rintro e w1 ⟨rfl, rfl⟩
    exact ⟨rfl, fun i v hv => by simp [markN] at hv, Turn.refl _ _⟩
  · exact markNdS_row g n c F P Q k U w h hn hT hm hk0 hk
theorem markWn (A : Option Addr) (n c : Nat) (F : Nat → Prop) (k : Int) (U : List WiV) (w : World) (h : OwWn w F A n c U) (hn : U.length = n) (hT : totWi U ≤ 2097152) (hm : n ≤ 2097152) (hk0 : 0 ≤ k) (hk : k ≤ 134217728) :
    Calls Tryz.prog 46 #[.slice A n c, .int .i64 k] w fun e w' => e = .returned (.int .i64 (endW k U)) ∧ WiAt w' A (markW k U) ∧ Turn F w w' := by
  rcases h with ⟨rfl, rfl, rfl, rfl⟩ | ⟨g, rfl, h⟩
  · refine (markW16_0 0 k w).mono ?_
    rintro e w1 ⟨rfl, rfl⟩
    exact ⟨rfl, fun i v hv => by simp [markW] at hv, Turn.refl _ _⟩
  · exact markWiS_row g n c F k U w h hn hT hm hk0 hk
theorem markQn (A : Option Addr) (n c : Nat) (F : Nat → Prop) (k : Int) (U : List MlV) (w : World) (h : OwQn w F A n c U) (hn : U.length = n) (hT : totMq U ≤ 2097152) (hm : n ≤ 2097152) (hk0 : 0 ≤ k) (hk : k ≤ 134217728) :
    Calls Tryz.prog 47 #[.slice A n c, .int .i64 k] w fun e w' => e = .returned (.int .i64 (endQ k U)) ∧ MqAt w' A (markQ k U) ∧ Turn F w w' := by
  rcases h with ⟨rfl, rfl, rfl, rfl⟩ | ⟨g, rfl, h⟩
  · refine (markQ16_0 0 k w).mono ?_
    rintro e w1 ⟨rfl, rfl⟩
    exact ⟨rfl, fun i v hv => by simp [markQ] at hv, Turn.refl _ _⟩
  · exact markMqS_row g n c F k U w h hn hT hm hk0 hk

end Go.Proofs.YtdbnmkffinhdjaaGreat
