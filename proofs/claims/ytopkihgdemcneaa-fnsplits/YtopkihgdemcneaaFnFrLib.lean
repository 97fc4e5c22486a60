/- What is proved here: what the first loop of the law on frames leaves: frames that can be packed, their bytes one behind the other. -/
import Derived.Test.YtopkihgdemcneaaFrsMark
import Derived.Test.YtopkihgdemcneaaDrawFr
import Derived.Test.YtopkihgdemcneaaLwAt
import Derived.Test.YtopkihgdemcneaaFrMath
namespace Go.Proofs.Ytopkihgdemcneaa
open Go.RowKit

theorem big_no (a : Option Addr) (n c : Nat) (w : World) (h : ¬ 1048576 < n) : Calls Try.prog 5 #[.slice a n c] w fun e w' => e = .returned (.bool false) ∧ w' = w := by
  have hd : decide ((1048576 : Int) < (n : Int)) = false := by simp; omega
  go_enter Try.func5, Try.ntmps5
  go_wp2
  go_ret
  exact ⟨rfl, rfl⟩
theorem big_yes (a : Option Addr) (n c : Nat) (w : World) (h : 1048576 < n) : Calls Try.prog 5 #[.slice a n c] w fun e w' => e = .returned (.bool true) ∧ w' = w := by
  have hd : decide ((1048576 : Int) < (n : Int)) = true := by simp; omega
  go_enter Try.func5, Try.ntmps5
  go_wp2
  go_ret
  exact ⟨rfl, rfl⟩

theorem OwF.lit (w : World) (lo hi : Nat) (L : Nat) (hL : w.heap.size = L) (h1 : lo ≤ L) (h2 : L < hi) : OwF (w.alloc (.cells #[] 26)) lo hi (some ⟨L, 0, none⟩) 0 0 [] := by
  refine ⟨rfl, (by intro h; cases h), ?_, (by intro i f h; simp at h), (by intro i f h; simp at h), (by intro i f x h; simp at h), (by intro i j f g x y h; simp at h), (by intro i f h; simp at h)⟩
  intro x hx
  obtain rfl := Option.some.inj hx
  subst hL
  exact ⟨_, rfl, h1, h2, World.ownsRow_lit w #[] 0 (Nat.zero_le _) (Nat.zero_le _) rfl⟩

/-- What holds of the two lists of the first loop. -/
structure L1 (w wr : World) (j ga na ca gl nl cl : Nat) (F : List Fr) : Prop where
  all : wr.ownsRow 0 5 1 (.slice (some ⟨ga, 0, none⟩) na ca) na ((flatP (F.map Fr.out)).map (Value.int .u8))
  agt : w.heap.size ≤ ga
  lst : OwF wr w.heap.size wr.heap.size (some ⟨gl, 0, none⟩) nl cl F
  good : ∀ f ∈ F, Good f.out
  few : F.length ≤ j
  new : New w wr
  far : ∀ (i : Nat) (f : Fr) (x : Addr), F[i]? = some f → f.a = some x → x.block ≠ ga

theorem L1.later {w wr w' : World} {j ga na ca gl nl cl : Nat} {F : List Fr} (h : L1 w wr j ga na ca gl nl cl F) (t : New wr w') : L1 w w' j ga na ca gl nl cl F :=
  ⟨own_new h.all t, h.agt, (h.lst.new t).wide t.size, h.good, h.few, h.new.trans t, h.far⟩
theorem flat_bd {fs : List (Int × List Int)} (h : ∀ x ∈ fs, Good x) : ∀ z ∈ flatP fs, 0 ≤ z ∧ z ≤ 255 := by
  intro z hz
  obtain ⟨x, hx, hzx⟩ := List.mem_flatMap.1 hz
  obtain ⟨h1, h2, h3, h4⟩ := h x hx
  exact packOf_bd x.1 x.2 h4 h3 ⟨h1, h2⟩ z hzx
theorem flat_len {fs : List (Int × List Int)} (h : ∀ x ∈ fs, Good x) : (flatP fs).length ≤ 125 * fs.length := by
  induction fs with
  | nil => simp [flatP]
  | cons x fs ih =>
    have h1 := h x (by simp)
    have h2 := ih (fun y hy => h y (by simp [hy]))
    rw [flatP_cons, List.length_append, packOf_length, List.length_cons]
    have := h1.2.2.1
    omega

theorem OwF.turnF {w w' : World} {lo hi n c : Nat} {a : Option Addr} {F : List Fr} {S : Nat → Prop} (h : OwF w lo hi a n c F) (t : Turn S w w') (hr : ∀ x, a = some x → ¬ S x.block) (hb : ∀ (i : Nat) (f : Fr) (x : Addr), F[i]? = some f → f.a = some x → ¬ S x.block) : OwF w' lo hi a n c F :=
  ⟨h.len, h.anil, (by intro x hx; obtain ⟨g, e, h1, h2, ho⟩ := h.row x hx; exact ⟨g, e, h1, h2, ownG_turn ho t (by have := hr x hx; rw [e] at this; exact this)⟩),
    (by intro i f hf; exact (h.body i f hf).turn t (fun x hx => hb i f x hf hx)), h.bd, h.lies, h.apart, h.bnil⟩

/-- One frame more: its bytes behind all, itself behind the list. -/
theorem L1.more {w wr w3 w4 w5 : World} {j ga na ca gl nl cl g2 m2 cap2 g4 cap4 g5 cap5 : Nat} {F : List Fr} {k2 : Int} {ys2 : List Int} (h : L1 w wr j ga na ca gl nl cl F) (hn3 : New wr w3) (hlt : wr.heap.size ≤ g2)
    (ho2 : w3.ownsRow 0 5 1 (.slice (some ⟨g2, 0, none⟩) m2 cap2) m2 (ys2.map (Value.int .u8))) (hys : ∀ y ∈ ys2, 0 ≤ y ∧ y ≤ 255) (hgood : Good (k2, ys2))
    (ho4 : w4.ownsRow 0 5 1 (.slice (some ⟨g4, 0, none⟩) (na + (m2 + 5)) cap4) (na + (m2 + 5)) ((flatP (F.map Fr.out) ++ packOf k2 ys2).map (Value.int .u8))) (hgr4 : w3.grownBy w4 (some ga)) (hat4 : ga = g4 ∨ g4 = w3.heap.size)
    (ho5 : w5.ownsRow 0 26 2 (.slice (some ⟨g5, 0, none⟩) (nl + 1) cap5) (nl + 1) (cellsF F ++ [.int .i64 k2, .slice (some ⟨g2, 0, none⟩) m2 cap2])) (hgr5 : (w4.alloc (.cells #[.int .i64 k2, .slice (some ⟨g2, 0, none⟩) m2 cap2] 26)).grownBy w5 (some gl)) (hat5 : gl = g5 ∨ g5 = w4.heap.size + 1) :
    L1 w w5 (j + 1) g4 (na + (m2 + 5)) cap4 g5 (nl + 1) cap5 (F ++ [⟨k2, ys2, some ⟨g2, 0, none⟩, cap2⟩]) := by
  have hl2 : ys2.length = m2 := by simpa using ho2.1
  subst hl2
  have ha3 := own_new h.all hn3
  have hgaw : ga < wr.heap.size := (h.all.lt ga rfl).2
  have z3 := hn3.size
  have hlt2 := (ho2.lt g2 rfl).2
  have t4 : Turn (fun k => k = ga) w3 w4 := Turn.of_grown hgr4
  have hl3 := h.lst.new hn3
  have hglga : gl ≠ ga := fun e => hl3.ne ha3 e.symm
  have hgl : gl < wr.heap.size := by
    obtain ⟨g, e, _, h2, _⟩ := h.lst.row _ rfl
    simp only [Addr.mk.injEq, and_true] at e
    omega
  have hglw : w.heap.size ≤ gl := by
    obtain ⟨g, e, h1, _, _⟩ := h.lst.row _ rfl
    simp only [Addr.mk.injEq, and_true] at e
    omega
  have hl4 : OwF w4 w.heap.size wr.heap.size (some ⟨gl, 0, none⟩) nl cl F := hl3.turnF t4 (fun x hx => by obtain rfl := Option.some.inj hx; exact hglga) (fun i f x hf hx => h.far i f x hf hx)
  have hb4 : OwAt w4 (some ⟨g2, 0, none⟩) ys2.length cap2 ys2 := (OwAt.of_own ho2).turn t4 (fun x hx => by obtain rfl := Option.some.inj hx; simp; omega)
  have hA := (New.refl w4).alloc (.cells #[.int .i64 k2, .slice (some ⟨g2, 0, none⟩) ys2.length cap2] 26)
  have z4 := hgr4.size
  have z0 := h.new.size
  have hsn := OwF.snoc (f := ⟨k2, ys2, some ⟨g2, 0, none⟩, cap2⟩) (hl4.new hA) hgr5 rfl (by simpa [cellsF] using ho5) (by rcases hat5 with e | e; (left; rw [e]); (right; simpa using e)) (by simp; omega) (by simp; omega) (hb4.new hA) hys (by intro x hx; obtain rfl := Option.some.inj hx; simp; omega) (by intro x hx; obtain rfl := Option.some.inj hx; exact hlt) (by intro hx; cases hx)
  have hg4lt : g4 < w4.heap.size := (ho4.lt g4 rfl).2
  have hg4gl : g4 ≠ gl := hl4.ne ho4
  have t5 : Turn (fun k => k = gl) (w4.alloc (.cells #[.int .i64 k2, .slice (some ⟨g2, 0, none⟩) ys2.length cap2] 26)) w5 := Turn.of_grown hgr5
  have hnew : New w w5 := ((((h.new.trans hn3).before t4 (fun i hi e => by have := h.agt; omega)).trans hA)).before t5 (fun i hi e => by omega)
  have hag := h.agt
  refine ⟨?_, by omega, hsn, ?_, by simp; have := h.few; omega, hnew, ?_⟩
  · rw [List.map_append, show [(⟨k2, ys2, some ⟨g2, 0, none⟩, cap2⟩ : Fr)].map Fr.out = [(k2, ys2)] from rfl, flatP_snoc]
    exact own_turn (own_new ho4 hA) t5 hg4gl
  · intro f hf
    rcases List.mem_append.1 hf with h' | h'
    · exact h.good f h'
    · simp at h'; subst h'; exact hgood
  · intro i f x hf hx
    rw [List.getElem?_append] at hf
    split at hf
    · have := h.far i f x hf hx
      have hlies := h.lst.lies i f x hf hx
      omega
    · have : f = ⟨k2, ys2, some ⟨g2, 0, none⟩, cap2⟩ := by
        have hm := List.mem_of_getElem? hf
        simpa using hm
      subst this
      obtain rfl := Option.some.inj hx
      simp
      omega

theorem flat_ge (fs : List (Int × List Int)) : 5 * fs.length ≤ (flatP fs).length := by
  induction fs with
  | nil => simp [flatP]
  | cons x fs ih => rw [flatP_cons, List.length_append, packOf_length, List.length_cons]; omega
theorem splitR_all {fs : List (Int × List Int)} (h : ∀ x ∈ fs, Good x) (h3 : fs.length ≤ 3) : splitR (flatP fs) = (0, (flatP fs).length, fs) := by
  have h1 := flat_len h
  have h2 := flat_ge fs
  unfold splitR
  rw [if_neg (by omega)]
  exact split_all fs _ (by omega) h
theorem splitR_cut {fs : List (Int × List Int)} (h : ∀ x ∈ fs, Good x) (h3 : fs.length ≤ 3) (c : Nat) (hc : c ≤ (flatP fs).length) : ∃ j, j ≤ fs.length ∧ splitR ((flatP fs).take c) = (0, (flatP (fs.take j)).length, fs.take j) ∧ (flatP (fs.take j)).length ≤ c := by
  have h1 := flat_len h
  have hl : ((flatP fs).take c).length = c := by rw [List.length_take]; omega
  unfold splitR
  rw [hl, if_neg (by omega)]
  by_cases hf : fs.length < c + 1
  · exact split_cut fs (c + 1) c hf h
  · obtain ⟨j, q1, q2, q3⟩ := split_cut fs (fs.length + 1) c (by omega) h
    refine ⟨j, q1, ?_, q3⟩
    rw [← q2]
    have h2 := flat_ge fs
    have hc5 : c < 5 := by omega
    have hz : ((flatP fs).take c).length < 5 := by omega
    have : ∀ f, 0 < f → splitF f ((flatP fs).take c) = if headM ((flatP fs).take c) ≠ 0 then (headM ((flatP fs).take c), 0, []) else (0, 0, []) := by
      intro f hf
      cases f with
      | zero => omega
      | succ f =>
        rw [splitF]
        split
        · rfl
        · rw [if_pos (.inl hz)]
    rw [this _ (by omega), this _ (by omega)]

/-- The text of bytes. -/
def strOf (zs : List Int) : ByteArray := zs.foldl (fun r n => r.push (UInt8.ofNat n.toNat)) ByteArray.empty

theorem run_str (a : Option Addr) (n c : Nat) (zs : List Int) (w : World) (h : BsAt w a zs) (hn : zs.length = n) (hnone : a = none → n = 0 ∧ c = 0) :
    (convert 22 9 (.slice a n c)).run Try.prog w = .ok (.string (strOf zs)) w := by
  rw [run_convert_bytes_string w _ _ 5 a n c Try.underlying22 Try.underlying5 Try.underlying9]
  cases a with
  | none =>
    obtain ⟨rfl, rfl⟩ := hnone rfl
    obtain rfl := List.eq_nil_of_length_eq_zero hn
    simp [Conv.bytesToString, strOf]
  | some x =>
    refine run_bytesToString w x n c zs ?_
    have hl := run_loadCells_list (P := Try.prog) (w := w) x (zs.map (Value.int .u8)) (by
      intro j v hv
      rw [List.getElem?_map] at hv
      obtain ⟨z, hz, rfl⟩ := Option.map_eq_some_iff.1 hv
      obtain ⟨b, off, e, hc, _⟩ := h j z hz
      obtain rfl := Option.some.inj e
      rw [Addr.add_lit]
      exact hc)
    rw [List.length_map, hn] at hl
    exact hl

end Go.Proofs.Ytopkihgdemcneaa
