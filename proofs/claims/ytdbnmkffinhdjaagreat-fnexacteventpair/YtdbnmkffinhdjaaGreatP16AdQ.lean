/- What is proved here: what AddEvent tells of the node of a pair, for every event whose bytes lie as told; no walks. No condition. -/
import Derived.Test.YtdbnmkffinhdjaaGreatLV37
import Derived.Test.YtdbnmkffinhdjaaGreatLV38
import Derived.Test.YtdbnmkffinhdjaaGreatLV39
namespace Go.Proofs.YtdbnmkffinhdjaaGreat
open Go.ChangeShapes Go.WideShapes Go.ChangeAt Go.RowKit Go.Deep Go.Sort
set_option linter.unusedVariables false
set_option linter.unusedSimpArgs false
set_option maxRecDepth 100000
set_option maxHeartbeats 25600000

def adG (k p : Int) (xs : List Int) : NdR → NA := fun x => match x with
  | (id, up, ro, ep, su, ma, ot, co, L) => if aF up ro 0 ≠ 0 then NA.bad (aF up ro 0) else if evF k p xs.length ≠ 0 then NA.bad (evF k p xs.length) else if 100 ≤ L.length then NA.bad 2 else ⟨0, id, up, ro, ep, su, ma, ot, co, L ++ [Ek.mk ep k p xs], []⟩
theorem adG_f {v : NdV} {k p : Int} {xs : List Int} (h : aF v.up v.ro 0 ≠ 0) : adG k p xs v.r = NA.bad (aF v.up v.ro 0) := by
  show (if aF v.up v.ro 0 ≠ 0 then NA.bad (aF v.up v.ro 0) else _) = _
  rw [if_pos h]
theorem adG_e {v : NdV} {k p : Int} {xs : List Int} (h : ¬ aF v.up v.ro 0 ≠ 0) (h1 : evF k p xs.length ≠ 0) : adG k p xs v.r = NA.bad (evF k p xs.length) := by
  show (if aF v.up v.ro 0 ≠ 0 then NA.bad (aF v.up v.ro 0) else if evF k p xs.length ≠ 0 then NA.bad (evF k p xs.length) else _) = _
  rw [if_neg h, if_pos h1]
theorem adG_m {v : NdV} {k p : Int} {xs : List Int} (h : ¬ aF v.up v.ro 0 ≠ 0) (h1 : ¬ evF k p xs.length ≠ 0) (h2 : 100 ≤ v.V.length) : adG k p xs v.r = NA.bad 2 := by
  show (if aF v.up v.ro 0 ≠ 0 then NA.bad (aF v.up v.ro 0) else if evF k p xs.length ≠ 0 then NA.bad (evF k p xs.length) else if 100 ≤ (v.V.map EkV.r).length then NA.bad 2 else _) = _
  rw [if_neg h, if_neg h1, List.length_map, if_pos h2]
theorem adG_ok {v : NdV} {k p : Int} {xs : List Int} (h : ¬ aF v.up v.ro 0 ≠ 0) (h1 : ¬ evF k p xs.length ≠ 0) (h2 : ¬ 100 ≤ v.V.length) : adG k p xs v.r = ⟨0, v.id, v.up, v.ro, v.ep, v.su, v.ma, v.ot, v.co, v.V.map EkV.r ++ [Ek.mk v.ep k p xs], []⟩ := by
  show (if aF v.up v.ro 0 ≠ 0 then NA.bad (aF v.up v.ro 0) else if evF k p xs.length ≠ 0 then NA.bad (evF k p xs.length) else if 100 ≤ (v.V.map EkV.r).length then NA.bad 2 else _) = _
  rw [if_neg h, if_neg h1, List.length_map, if_neg h2]
theorem evF_60 {k p : Int} {n : Nat} (h : evF k p n = 0) : n ≤ 60 := by
  unfold evF at h
  repeat' split at h
  all_goals omega
theorem adG_good {v : NdV} {k p : Int} {xs : List Int} (h : nF v.id v.up v.ro v.ep v.su v.ma v.ot v.co v.V.length (v.V.map EkV.r) = 0) (hz : (adG k p xs v.r).z = 0) : (adG k p xs v.r).Good := by
  have hl := (ln60 h).2
  have k1 := nF_ok _ _ _ _ _ _ _ _ _ _ h
  have c0 := k1.2.2.2.1.2.2.2.1
  have c1 := k1.2.2.2.1.2.2.2.2
  have c2 := k1.2.2.2.1.1.2
  by_cases h0 : aF v.up v.ro 0 ≠ 0
  · rw [adG_f h0] at hz; exact absurd hz h0
  by_cases h1 : evF k p xs.length ≠ 0
  · rw [adG_e h0 h1] at hz; exact absurd hz h1
  by_cases h2 : 100 ≤ v.V.length
  · rw [adG_m h0 h1 h2] at hz; exact absurd hz (by decide)
  rw [adG_ok h0 h1 h2]
  refine ⟨c0, ?_, ?_, fun U hU => ?_, Nat.zero_le _, fun m hm => by cases hm⟩
  · show v.co ≤ ((v.V.map EkV.r ++ [Ek.mk v.ep k p xs]).length : Int)
    rw [List.length_append, List.length_map, List.length_singleton]; omega
  · show (v.V.map EkV.r ++ [Ek.mk v.ep k p xs]).length ≤ 200
    rw [List.length_append, List.length_map, List.length_singleton]; omega
  · have h3 : U.map EkV.r = v.V.map EkV.r ++ [Ek.mk v.ep k p xs] := hU
    have hlen : U.length = v.V.length + 1 := by have := congrArg List.length h3; simpa using this
    have h60 := evF_60 (Decidable.of_not_not h1)
    have h4 : totK U ≤ 61 * U.length := totK_60 (fun u hu => by
      have h5 : u.r ∈ v.V.map EkV.r ++ [Ek.mk v.ep k p xs] := by rw [← h3]; exact List.mem_map_of_mem hu
      rcases List.mem_append.1 h5 with h6 | h6
      · obtain ⟨y, hy, e⟩ := List.mem_map.1 h6
        rw [← e]
        exact lgF_en16 k1.2.2.1 y.r (List.mem_map_of_mem hy)
      · have e : u.r = Ek.mk v.ep k p xs := List.mem_singleton.1 h6
        rw [e]; exact h60)
    omega
theorem adG_i {v : NdV} {k p : Int} {x : Option Addr} {m d : Nat} {xs : List Int} (h : nF v.id v.up v.ro v.ep v.su v.ma v.ot v.co v.V.length (v.V.map EkV.r) = 0) (hX : xs.length = m) (hnx : x = none → m = 0 ∧ d = 0) (hm1 : m ≤ 1048576) : NfC 81 [.agg #[.int .i64 k, .int .i64 p, .slice x m d]] (fun w => BsAt w x xs) v (adG k p xs v.r) := by
  intro A c V w h1 h2 h3 h4 hb
  obtain ⟨hf, hl⟩ := nF_like h h4
  have hm := (ln60 h).2
  subst hX
  by_cases h0 : aF v.up v.ro 0 ≠ 0
  · rw [adG_f h0]
    exact iAdd_f v.id v.up v.ro v.ep v.su v.ma v.ot v.co A V.length c V k p x xs.length d xs w h1 h2 rfl (by omega) hb rfl hnx hm1 _ (by rw [hf]; rfl) h0
  have h0' : aF v.up v.ro (nF v.id v.up v.ro v.ep v.su v.ma v.ot v.co V.length (V.map EkV.r)) = 0 := by rw [hf]; exact Decidable.of_not_not h0
  by_cases h5 : evF k p xs.length ≠ 0
  · rw [adG_e h0 h5]
    exact iAdd_e v.id v.up v.ro v.ep v.su v.ma v.ot v.co A V.length c V k p x xs.length d xs w h1 h2 rfl (by omega) hb rfl hnx hm1 h0' _ rfl h5
  by_cases h6 : 100 ≤ v.V.length
  · rw [adG_m h0 h5 h6]
    exact iAdd_m v.id v.up v.ro v.ep v.su v.ma v.ot v.co A V.length c V k p x xs.length d xs w h1 h2 rfl (by omega) hb rfl hnx hm1 h0' (Decidable.of_not_not h5) (by omega)
  · rw [adG_ok h0 h5 h6, ← h4]
    exact iAdd_ok v.id v.up v.ro v.ep v.su v.ma v.ot v.co A V.length c V k p x xs.length d xs w h1 h2 rfl (by omega) hb rfl hnx hm1 h0' (Decidable.of_not_not h5) (by omega)
theorem adG_s {v : NdV} {k p : Int} {x : Option Addr} {m d : Nat} {xs : List Int} (h : nF v.id v.up v.ro v.ep v.su v.ma v.ot v.co v.V.length (v.V.map EkV.r) = 0) (hX : xs.length = m) (hnx : x = none → m = 0 ∧ d = 0) (hm1 : m ≤ 1048576) : NfC 29 [.agg #[.int .i64 k, .int .i64 p, .slice x m d]] (fun w => BsAt w x xs) v (adG k p xs v.r) := by
  intro A c V w h1 h2 h3 h4 hb
  obtain ⟨hf, hl⟩ := nF_like h h4
  have hm := (ln60 h).2
  subst hX
  by_cases h0 : aF v.up v.ro 0 ≠ 0
  · rw [adG_f h0]
    exact sAdd_f v.id v.up v.ro v.ep v.su v.ma v.ot v.co A V.length c V k p x xs.length d xs w h1 h2 rfl (by omega) hb rfl hnx hm1 _ (by rw [hf]; rfl) h0
  have h0' : aF v.up v.ro (nF v.id v.up v.ro v.ep v.su v.ma v.ot v.co V.length (V.map EkV.r)) = 0 := by rw [hf]; exact Decidable.of_not_not h0
  by_cases h5 : evF k p xs.length ≠ 0
  · rw [adG_e h0 h5]
    exact sAdd_e v.id v.up v.ro v.ep v.su v.ma v.ot v.co A V.length c V k p x xs.length d xs w h1 h2 rfl (by omega) hb rfl hnx hm1 h0' _ rfl h5
  by_cases h6 : 100 ≤ v.V.length
  · rw [adG_m h0 h5 h6]
    exact sAdd_m v.id v.up v.ro v.ep v.su v.ma v.ot v.co A V.length c V k p x xs.length d xs w h1 h2 rfl (by omega) hb rfl hnx hm1 h0' (Decidable.of_not_not h5) (by omega)
  · rw [adG_ok h0 h5 h6, ← h4]
    exact sAdd_ok v.id v.up v.ro v.ep v.su v.ma v.ot v.co A V.length c V k p x xs.length d xs w h1 h2 rfl (by omega) hb rfl hnx hm1 h0' (Decidable.of_not_not h5) (by omega)

end Go.Proofs.YtdbnmkffinhdjaaGreat
