/- What is proved here: what the writing of attributes as a text answers, in the program and in its model, for attributes without a fault, where the library's table of powers of ten lies as it is laid. -/
import Derived.Test.YtlkhmnjghdbmoaaGreatDoorDg5
import Derived.Test.YtlkhmnjghdbmoaaGreatDoorAtLaw
import Derived.Maps.AppendAt
namespace Go.Proofs.YtlkhmnjghdbmoaaGreatDoor
open Go.RowKit Go.Sort
set_option linter.unusedVariables false

/-- A number in decimal. -/
def dg (x : Int) : List UInt8 := Lib.decDigits x.toNat
theorem dg_len {x : Int} (h0 : 0 ≤ x) (h1 : x ≤ 65535) : (dg x).length ≤ 5 := dd_len5 (by omega)
/-- A path as a text. -/
def pt (xs : List Int) : List UInt8 := if xs = [] then [45] else Lib.join (xs.map dg) [44]
/-- Attributes as a text. -/
def att (o : Int) (xs : List Int) (nx md lc : Int) : List UInt8 := pt xs ++ [32] ++ dg o ++ [32] ++ dg nx ++ [32] ++ dg md ++ [32] ++ dg lc

theorem join_snoc {L : List (List UInt8)} (x sep : List UInt8) (h : L ≠ []) : Lib.join (L ++ [x]) sep = Lib.join L sep ++ sep ++ x := by
  match L, h with
  | y :: r, _ => simp [Lib.join_cons, Lib.joinTail]
theorem pt_one (x : Int) : pt [x] = dg x := by simp [pt, Lib.join_one]
theorem pt_snoc {xs : List Int} (x : Int) (h : xs ≠ []) : pt (xs ++ [x]) = pt xs ++ [44] ++ dg x := by
  unfold pt
  rw [if_neg (by simp), if_neg h, List.map_append, List.map_cons, List.map_nil]
  exact join_snoc _ _ (by simpa using h)
theorem att_join (o : Int) (xs : List Int) (nx md lc : Int) : Lib.join [pt xs, dg o, dg nx, dg md, dg lc] [32] = att o xs nx md lc := by
  simp [Lib.join_cons, Lib.joinTail, att]

theorem pt_len : ∀ (n : Nat) (xs : List Int), xs.length = n → (∀ x ∈ xs, 1 ≤ x ∧ x ≤ 65535) → (pt xs).length ≤ 6 * n + 1
  | 0, xs, h, _ => by
    obtain rfl : xs = [] := List.eq_nil_of_length_eq_zero h
    simp [pt]
  | n + 1, xs, h, hall => by
    obtain ⟨ys, x, rfl⟩ : ∃ ys x, xs = ys ++ [x] := ⟨xs.dropLast, xs.getLast (by intro e; subst e; simp at h), (List.dropLast_concat_getLast _).symm⟩
    have hx := hall x (by simp)
    have hl := dg_len (show 0 ≤ x by omega) hx.2
    by_cases he : ys = []
    · subst he
      simp only [List.nil_append]
      rw [pt_one]
      omega
    · rw [pt_snoc x he]
      have := pt_len n ys (by simpa using h) (fun y hy => hall y (by simp [hy]))
      simp
      omega

theorem ret_str {a b : List UInt8} (h : a = b) : Ending.returned (.string ⟨a.toArray⟩) = .returned (.string ⟨b.toArray⟩) := by rw [h]

theorem Tryz.infoStr : (Tryz.prog.info? 9).map (fun i => (i.zero, i.size, i.bytes)) = some (some (.string ⟨#[]⟩), 1, 16) := by kernel_rfl

/-- Texts as values. -/
def strV (L : List (List UInt8)) : List Value := L.map fun l => .string ⟨l.toArray⟩
theorem strV_snoc (L : List (List UInt8)) (l : List UInt8) : strV (L ++ [l]) = strV L ++ [.string ⟨l.toArray⟩] := by simp [strV]

theorem cell_one_s (w : World) (x : Value) (t : TypeId) : ∀ j u, [x][j]? = some u → (w.alloc (.cells #[x] t)).cell? ((⟨w.heap.size, 0, none⟩ : Addr).add j) = some u := by
  intro j u hj
  match j, hj with
  | 0, hj => simp at hj; subst hj; simp [Addr.add]

theorem own_newS {w w' : World} {base n : Nat} {v : Value} {xs : List Value} (h : w.ownsRow base 9 1 v n xs) (t : New w w') : w'.ownsRow base 9 1 v n xs := by
  refine ⟨h.1, ?_⟩
  rcases h.2 with h' | ⟨g', cap', cur, h', hb, hh, r⟩
  · exact .inl h'
  · have hlt : g' < w.heap.size := (Array.getElem?_eq_some_iff.1 hh).1
    exact .inr ⟨g', cap', cur, h', hb, (t.block g' hlt (fun f => f)).trans hh, r⟩
theorem own_blkS {w : World} {base n : Nat} {v : Value} {xs : List Value} (h : w.ownsRow base 9 1 v n xs) : ∀ k, v.ownBlock = some k → base ≤ k := by
  intro k hk
  rcases Joins.ownsRow_forms h with ⟨rfl, _⟩ | ⟨g, cap, rfl⟩
  · simp [Value.ownBlock] at hk
  · simp [Value.ownBlock] at hk
    subst hk
    exact (World.ownsRow.lt h g rfl).1
theorem own_capS {w : World} {base g n cap : Nat} {xs : List Value} (h : w.ownsRow base 9 1 (.slice (some ⟨g, 0, none⟩) n cap) n xs) : n ≤ cap := by
  rcases h.2 with ⟨h', _⟩ | ⟨g', cap', cur, h', r⟩
  · simp at h'
  · simp only [Value.slice.injEq, Option.some.injEq, Addr.mk.injEq, and_true, true_and] at h'
    obtain ⟨rfl, rfl⟩ := h'
    exact r.2.2.1
theorem New.growS {a w w' : World} {row : Option Nat} (h : New a w) (hg : w.grownBy w' row) (hr : ∀ k, row = some k → a.heap.size ≤ k) : New a w' :=
  ⟨hg.os.trans h.os, hg.tape.trans h.tape, hg.output.trans h.output, Nat.le_trans h.size hg.size,
    fun k hk hs => (hg.block k (Nat.lt_of_lt_of_le hk h.size) (fun e => by have := hr k e.symm; omega)).trans (h.block k hk hs)⟩

theorem own_neS {w : World} {base n B : Nat} {v : Value} {xs : List Value} {t : TypeId} {cs : Array Value} (h : w.ownsRow base 9 1 v n xs) (hb : Blk w B t cs) (hne : t ≠ 9) : ∀ k, v.ownBlock = some k → ¬ B = k := by
  intro k hk e
  subst e
  rcases h.2 with ⟨rfl, _⟩ | ⟨g, cap, cur, rfl, _, hh, _⟩
  · simp [Value.ownBlock] at hk
  · simp [Value.ownBlock] at hk
    subst hk
    unfold Blk at hb
    rw [hb] at hh
    simp only [Option.some.injEq, Obj.cells.injEq] at hh
    exact hne hh.2.1
theorem Blk.growNe {w w' : World} {B : Nat} {t : TypeId} {cs : Array Value} {row : Option Nat} (h : Blk w B t cs) (k : w.grownBy w' row) (hr : ∀ k, row = some k → ¬ B = k) : Blk w' B t cs := (k.block B h.lt (fun e => hr B e.symm rfl)).trans h

theorem fmtI (x : Int) (w : World) (h0 : 0 ≤ x) (h1 : x ≤ 65535) (ht : Tab w) : Calls Tryz.prog 89 #[.int .i64 x, .int .i64 10] w fun e w' => e = .returned (.string ⟨(dg x).toArray⟩) ∧ New w w' := by
  obtain ⟨n, rfl⟩ := Int.eq_ofNat_of_zero_le h0
  exact fmt5 n w (by omega) ht

theorem digI (x : Int) (w : World) (h0 : 0 ≤ x) (h1 : x ≤ 65535) : Calls Tryz.prog 74 #[.int .i64 x] w fun e w' => e = .returned (.string ⟨(dg x).toArray⟩) ∧ New w w' := by
  obtain ⟨n, rfl⟩ := Int.eq_ofNat_of_zero_le h0
  exact digits5 n w (by omega)

/-- Joining texts that the call owns. -/
theorem joinR (base g m cap : Nat) (L : List (List UInt8)) (sep : List UInt8) (w : World) (ho : w.ownsRow base 9 1 (.slice (some ⟨g, 0, none⟩) m cap) m (strV L)) (hm : m ≤ 1000) (hlen : (Lib.join L sep).length ≤ 100000) :
    Calls Tryz.prog 25 #[.slice (some ⟨g, 0, none⟩) m cap, .string ⟨sep.toArray⟩] w fun e w' => e = .returned (.string ⟨(Lib.join L sep).toArray⟩) ∧ New w w' := by
  have hl : L.length = m := by have := ho.1; simpa [strV] using this
  have e1 : (L.map (fun l => (⟨l.toArray⟩ : ByteArray))).map (·.data.toList) = L := by simp [Function.comp_def]
  have hc := joinS g cap (L.map fun l => ⟨l.toArray⟩) m ⟨sep.toArray⟩ w (by simpa using hl) (by
    intro j x hx
    rw [List.getElem?_map] at hx
    obtain ⟨l, hl', rfl⟩ := Option.map_eq_some_iff.1 hx
    have hj : j < L.length := (List.getElem?_eq_some_iff.1 hl').1
    rw [World.ownsRow.cellAt ho j (by omega)]
    simp [strV, hl']) ((World.ownsRow.lt ho g rfl).2) (own_capS ho) hm (by rw [e1]; exact hlen)
  rw [e1] at hc
  exact hc

/-- What is told of attributes: a code and a text. -/
def tat (o : Int) (xs : List Int) (nx md lc : Int) : Int × List UInt8 := if af o xs nx md lc = 0 then (0, att o xs nx md lc) else (af o xs nx md lc, [])

theorem af_ok5 {o nx md lc : Int} {xs : List Int} (h : af o xs nx md lc = 0) : Ao o nx md lc ∧ xs.length ≤ 6 ∧ ∀ x ∈ xs, 1 ≤ x ∧ x ≤ 65535 := by
  have afc_all5 : ∀ {xs : List Int}, afc xs = 0 → ∀ x ∈ xs, 1 ≤ x ∧ x ≤ 65535 := by
    intro xs
    induction xs with
    | nil => intro _ x hx; simp at hx
    | cons y r ih =>
      intro h x hx
      unfold afc at h
      split at h
      · rename_i hy
        rcases List.mem_cons.1 hx with rfl | hx
        · exact hy
        · exact ih h x hx
      · cases h
  unfold af at h
  split at h
  · rename_i ho
    split at h
    · cases h
    · exact ⟨ho, by omega, afc_all5 h⟩
  · cases h

end Go.Proofs.YtlkhmnjghdbmoaaGreatDoor
