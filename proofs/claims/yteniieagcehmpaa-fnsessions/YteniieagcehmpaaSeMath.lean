/- What is proved here: plain facts on what a session hears; no run of the program. -/
import Derived.Test.YteniieagcehmpaaHoMath
import Derived.Test.YteniieagcehmpaaS5Sta
import Derived.Test.YteniieagcehmpaaMsMf
namespace Go.Proofs.Yteniieagcehmpaa
open Go.RowKit

/-- How a session came out of what it heard: t is its state, st and kd were the state and the kind of the message. -/
def Out5 (t st kd : Int) (up dn ud : Bool) : Prop :=
  (¬ t = 3 ∧ ¬ st = 3 ∧ up = false ∧ dn = false ∧ ud = false) ∨ (t = 3 ∧ st = 2 ∧ kd = 4 ∧ up = true ∧ dn = false ∧ ud = false)
  ∨ (¬ t = 3 ∧ st = 3 ∧ up = false ∧ dn = true ∧ ud = false) ∨ (t = 3 ∧ st = 3 ∧ kd = 2 ∧ up = false ∧ dn = false ∧ ud = true) ∨ (t = 3 ∧ st = 3 ∧ up = false ∧ dn = false ∧ ud = false)

/-- What is said has no fault. -/
def Say5 : Option (Int × Int × Int × Int × Int × Int) → Prop
  | none => True
  | some (kd, sa, ho, si, wh, su) => mf kd sa ho si wh su [] false 0 [] 0 0 0 [] = 0

theorem mf_kd {gs rs : List (Int × Int)} {has : Bool} {o nx md lc : Int} {xs : List Int} {kd sa ho si wh su : Int} (h : mf kd sa ho si wh su gs has o xs nx md lc rs = 0) : (kd = 1 ∨ kd = 2 ∨ kd = 3 ∨ kd = 4) ∧ (kd = 1 → Opn sa ho si) := by
  unfold mf at h
  by_cases h1 : kd < 1 ∨ 4 < kd
  · rw [if_pos h1] at h; omega
  · rw [if_neg h1] at h
    refine ⟨by omega, fun e => ?_⟩
    by_cases h2 : kd = 1 ∧ ¬ Opn sa ho si
    · rw [if_pos h2] at h; omega
    · exact Classical.not_not.1 (fun hn => h2 ⟨e, hn⟩)

theorem fail5 {ca ci ch t p h i s : Int} (hc : cf ca ci ch = 0) (hs : sf t p h i s = 0) : (failsR ca ci ch t p h i s 6 2).c = 0 ∧ (failsR ca ci ch t p h i s 6 2).st = 0 := by
  unfold failsR
  rw [if_pos (ask_of hc hs), if_pos (by omega)]
  by_cases h0 : t = 0
  · rw [if_pos h0]; exact ⟨rfl, h0⟩
  · rw [if_neg h0]; exact ⟨rfl, rfl⟩

theorem heard {ca ci ch st pe ho si sp kd sa mh mi wh su : Int} {gs rs : List (Int × Int)} {has : Bool} {o nx md lc : Int} {xs : List Int} (h0 : ask ca ci ch st pe ho si sp = 0) (hm : mf kd sa mh mi wh su gs has o xs nx md lc rs = 0) :
    (hears0 st pe ho sp ch kd sa mh).c = 0 ∧ sf (hears0 st pe ho sp ch kd sa mh).st (hears0 st pe ho sp ch kd sa mh).pe (hears0 st pe ho sp ch kd sa mh).ho (hears0 st pe ho sp ch kd sa mh).si (hears0 st pe ho sp ch kd sa mh).sp = 0 ∧ Say5 (hears0 st pe ho sp ch kd sa mh).say ∧ Out5 (hears0 st pe ho sp ch kd sa mh).st st kd (hears0 st pe ho sp ch kd sa mh).up (hears0 st pe ho sp ch kd sa mh).dn (hears0 st pe ho sp ch kd sa mh).ud := by
  obtain ⟨hc, hf⟩ := cf_of_ask h0
  have hs := ask_ok h0
  obtain ⟨hk, ho1⟩ := mf_kd hm
  have hst : st = 0 ∨ st = 1 ∨ st = 2 ∨ st = 3 := by have := hs.1; omega
  have k1 : mf 4 0 0 0 0 0 [] false 0 [] 0 0 0 [] = 0 := by decide
  have k2 : mf 3 0 0 0 5 1 [] false 0 [] 0 0 0 [] = 0 := by decide
  have k3 : mf 3 0 0 0 6 7 [] false 0 [] 0 0 0 [] = 0 := by decide
  have k4 : mf 3 0 0 0 5 2 [] false 0 [] 0 0 0 [] = 0 := by decide
  unfold hears0 hearR
  rcases hst with rfl | rfl | rfl | rfl
  · have e : pe = 0 ∧ ho = 0 ∧ si = 0 ∧ sp = 0 := by
      unfold sf at hf
      rw [if_pos hs, if_pos rfl] at hf
      by_cases e : pe = 0 ∧ ho = 0 ∧ si = 0 ∧ sp = 0
      · exact e
      · rw [if_neg e] at hf; omega
    obtain ⟨rfl, rfl, rfl, rfl⟩ := e
    exact ⟨rfl, sf_idle, trivial, .inl ⟨(show ¬ (0 : Int) = 3 by decide), (by decide), rfl, rfl, rfl⟩⟩
  · rcases hk with rfl | rfl | rfl | rfl
    · have hO := ho1 rfl
      have hch : HoP ch := by
        unfold cf at hc
        by_cases e : CfP ca ci ch
        · exact e.2.2
        · rw [if_neg e] at hc; omega
      have hmh : HoP mh := hO.2.1
      have hmin : HoP (min ch mh) := by
        rcases Int.le_total ch mh with e | e
        · rw [Int.min_eq_left e]; exact hch
        · rw [Int.min_eq_right e]; exact hmh
      have hsa := hO.1
      have hsp := hs.2.2.2.2
      refine ⟨rfl, ?_, k1, .inl ⟨(show ¬ (2 : Int) = 3 by decide), (by decide), rfl, rfl, rfl⟩⟩
      show sf 2 sa (min ch mh) 0 0 = 0
      exact sf_open ⟨by decide, by omega, hmin, by decide, by decide⟩ (by decide) (by omega)
    · exact ⟨rfl, sf_idle, k2, .inl ⟨(show ¬ (0 : Int) = 3 by decide), (by decide), rfl, rfl, rfl⟩⟩
    · exact ⟨rfl, sf_idle, trivial, .inl ⟨(show ¬ (0 : Int) = 3 by decide), (by decide), rfl, rfl, rfl⟩⟩
    · exact ⟨rfl, sf_idle, k2, .inl ⟨(show ¬ (0 : Int) = 3 by decide), (by decide), rfl, rfl, rfl⟩⟩
  · have hpe := sf_peer hf (by omega)
    rcases hk with rfl | rfl | rfl | rfl
    · exact ⟨rfl, sf_idle, k3, .inl ⟨(show ¬ (0 : Int) = 3 by decide), (by decide), rfl, rfl, rfl⟩⟩
    · exact ⟨rfl, sf_idle, k4, .inl ⟨(show ¬ (0 : Int) = 3 by decide), (by decide), rfl, rfl, rfl⟩⟩
    · exact ⟨rfl, sf_idle, trivial, .inl ⟨(show ¬ (0 : Int) = 3 by decide), (by decide), rfl, rfl, rfl⟩⟩
    · exact ⟨rfl, (show sf 3 pe ho 0 sp = 0 from sf_open ⟨by decide, hs.2.1, hs.2.2.1, by decide, hs.2.2.2.2⟩ (by decide) hpe), trivial, .inr (.inl ⟨rfl, rfl, rfl, rfl, rfl, rfl⟩)⟩
  · have hpe := sf_peer hf (by omega)
    rcases hk with rfl | rfl | rfl | rfl
    · exact ⟨rfl, sf_idle, k3, .inr (.inr (.inl ⟨(show ¬ (0 : Int) = 3 by decide), rfl, rfl, rfl, rfl⟩))⟩
    · exact ⟨rfl, (show sf 3 pe ho 0 sp = 0 from sf_open ⟨by decide, hs.2.1, hs.2.2.1, by decide, hs.2.2.2.2⟩ (by decide) hpe), trivial, .inr (.inr (.inr (.inl ⟨rfl, rfl, rfl, rfl, rfl, rfl⟩)))⟩
    · exact ⟨rfl, sf_idle, trivial, .inr (.inr (.inl ⟨(show ¬ (0 : Int) = 3 by decide), rfl, rfl, rfl, rfl⟩))⟩
    · exact ⟨rfl, (show sf 3 pe ho 0 sp = 0 from sf_open ⟨by decide, hs.2.1, hs.2.2.1, by decide, hs.2.2.2.2⟩ (by decide) hpe), trivial, .inr (.inr (.inr (.inr ⟨rfl, rfl, rfl, rfl, rfl⟩)))⟩

end Go.Proofs.Yteniieagcehmpaa
