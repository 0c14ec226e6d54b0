/-
  The walk of LaneJoins: it returns true for every kind and whatever lanes.
-/
import Derived.Test.YthbakhgfnfdahaaRJoin
import Derived.Test.YthbakhgfnfdahaaSame
namespace Go.Proofs.Ythbakhgfnfdahaa
open Go.RowKit Go.ChangeShapes
set_option linter.unusedVariables false
set_option linter.unusedSimpArgs false
namespace LW
open Words
theorem rjoin (k : Int) (al : Option Addr) (N c : Nat) (ls : Nat → List Int) (w : World) (hN : N ≤ 1048576) (hM : N = nl k → 0 < nl k → ∃ b off A K, al = some ⟨b, off, none⟩ ∧ Mb w b off N A K ls) :
    Calls Try.prog 14 #[.int .i64 k, .slice al N c] w fun e w' => JoP k N ls w e w' := by
  rcases Nat.eq_zero_or_pos (nl k) with h0 | h0
  · exact rjoinNo k al N c ls w h0
  · have hk : k = 1 ∨ k = 2 := by
      rcases kinds k with h | h | h
      · exact .inl h
      · exact .inr h
      · simp [nl, h.1, h.2] at h0
    by_cases hNn : N = nl k
    · obtain ⟨b, off, A, K, rfl, hMb⟩ := hM hNn h0
      subst hNn
      exact rjoinB k b off c A K ls w hk hMb
    · exact rjoinNe k al N c ls w h0 hNn hN
theorem JoR.bd {k : Int} {N : Nat} {ls : Nat → List Int} {E : Int} {zs : List Int} (h : JoR k N ls E zs) (hs : N = nl k → 0 < nl k → sumN (fun r => (ls r).length) N ≤ 1048576) : zs.length ≤ 1048576 := by
  rcases h with ⟨a1, a2, a3⟩ | ⟨a1, a2, a3, a4⟩ | ⟨a1, a2, a3, a4⟩
  · rw [a3]; simp
  · rw [a4]; simp
  · rw [a4, joL_length]; exact hs a2.1 a1
set_option maxHeartbeats 1000000 in
theorem joins (k : Int) (al : Option Addr) (N c : Nat) (ls : Nat → List Int) (w : World) (hN : N ≤ 1048576) (hM : N = nl k → 0 < nl k → ∃ b off A K, al = some ⟨b, off, none⟩ ∧ Mb w b off N A K ls) :
    Calls Try.prog 5 #[.int .i64 k, .slice al N c] w fun e w' => e = .returned (.bool true) ∧ Below w.heap.size w w' := by
  have C1 := TW.hide (ljoin k al N c ls w hN hM)
  have C2 : Hid (∀ W : World, Below w.heap.size w W → Calls Try.prog 14 #[.int .i64 k, .slice al N c] W fun e w' => JoP k N ls W e w') := fun W hW => rjoin k al N c ls W hN fun h1 h2 => by
    obtain ⟨b, off, A, K, h3, h4⟩ := hM h1 h2
    exact ⟨b, off, A, K, h3, h4.below hW⟩
  have HBD : Hid (∀ E zs, JoR k N ls E zs → zs.length ≤ 1048576) := fun E zs h => h.bd fun h1 h2 => by
    obtain ⟨b, off, A, K, h3, h4⟩ := hM h1 h2
    exact h4.sum
  clear hM
  go_enter Try.func5, Try.ntmps5
  go_wp2_with fail
  refine C1.out.mono ?_
  rintro e w1 ⟨E, zs, v, hR, rfl, ho, hb⟩
  obtain ⟨a1, c1, rfl, hr1, _⟩ := row_of_own ho
  have HR := TW.hide hR
  have R1 := TW.hide hr1
  have B1 := TW.hide hb
  clear hR ho hr1 hb
  go_wp2_with fail
  refine (C2.out _ B1.out).mono ?_
  rintro e w2 ⟨E', zs', v', hR', rfl, ho, hb⟩
  obtain ⟨rfl, rfl⟩ := HR.out.one hR'
  obtain ⟨a2, c2, rfl, hr2, _⟩ := row_of_own ho
  have hbd := HBD.out E zs hR'
  have hs : Calls Try.prog 10 #[.slice a1 zs.length c1, .slice a2 zs.length c2] w2 fun e w' => e = .returned (.bool true) ∧ ∃ q, w' = w2.drewN q := by
    have h := same a1 a2 c1 c2 zs zs w2 (R1.out.below hb) hr2 (by unfold maxLen; omega) (by unfold maxLen; omega)
    simpa using h
  have HS := TW.hide hs
  clear hs
  have B2 : Hid (Below w.heap.size w w2) := below_row B1.out hb B1.out.size
  have eE : (E == E) = true := by simp
  clear hR' ho hr2 hb hbd HBD HR
  generalize zs.length = len at *
  go_wp2_with fail
  refine HS.out.mono ?_
  rintro e w3 ⟨rfl, q, rfl⟩
  go_wp2
  go_ret
  exact ⟨rfl, below_drewN B2.out q⟩
end LW
end Go.Proofs.Ythbakhgfnfdahaa
