/-
  What Pack of the document gives, in one word.
-/
import Derived.Test.YtcpegipojkbcoaaRPack
namespace Go.Proofs.Ytcpegipojkbcoaa
open Go.RowKit
set_option linter.unusedVariables false
set_option linter.unusedSimpArgs false
namespace LW
open Words
/-- What Pack hands back. -/
def PackP (T : Tr) (t l : Nat) (ss : List Stp) (w : World) : Ending → World → Prop := fun e w' => ∃ v, e = .returned (.tuple #[v, .int .i64 (pkE T t l ss)]) ∧ w'.ownsRow w.heap.size 5 1 v (pkL T t l ss).length (vs (pkL T t l ss)) ∧ Below w.heap.size w w'
/-- The way, and what fits then tells of it. -/
theorem wayFits (T : Tr) (hT : 0 ≤ T.lf ∧ T.lf < 4294967296) (t l : Nat) (ht : t < 18446744073709551616) (a : Option Addr) (c : Nat) (ss : List Stp) (w : World) (hS : Sts w a ss) (hB : SB ss) (hE : waE T t l = 0) (x : Bool) (hx : x = true ↔ pkF T t l ss) (W : World) :
    Calls Try.prog 16 #[.agg (trC T), .int .u64 t, .int .u64 l] W fun e w' => ∃ v, e = .returned (.tuple #[v, .int .i64 0]) ∧ Hid (Below w.heap.size w W → ∀ W2, Below w'.heap.size w' W2 → Calls Try.prog 21 #[.agg (trC T), .agg (paC t l a ss.length c), v] W2 fun e w' => e = .returned (.bool x) ∧ Below W2.heap.size W2 w') ∧ Below W.heap.size W w' := by
  rcases waE_cases T t l with ⟨_, hlE, hll⟩ | ⟨h0, _⟩
  · have hR := rwsT hT ht hlE
    refine (rway_ T hT t ht l W).mono ?_
    rintro e w' ⟨v, rfl, _, ho, hb⟩
    unfold waK at ho
    rw [if_pos hE] at ho
    rw [hE]
    obtain ⟨g, cap, rfl, _, _, hc⟩ := way_open ho (by have := hR.two; omega)
    refine ⟨_, rfl, ?_, hb⟩
    intro hW W2 h2
    have hw2 : Below w.heap.size w W2 := by
      have h3 := hW.trans (hb.mono hW.size)
      exact h3.trans (h2.mono h3.size)
    have hcl : ∀ i, i < (roL T t).length → ∀ c u, (waS T t (roL T t) l i).toList[c]? = some u → W2.cell? ⟨g, i * 6 + c, none⟩ = some u := fun i hi c u hu => by
      have h4 := hc i hi c u hu
      rw [h2.cell (lt_of_cell h4)]; exact h4
    refine (fits T t l a c g cap (roL T t).length ss (aw T (roL T t) l) (wF T (roL T t) l) (wT T t (roL T t) l) W2 (hS.below hw2) hB hR.two hR.most (fun i hi => ⟨hcl i hi 1 _ rfl, hcl i hi 2 _ rfl, hcl i hi 3 _ rfl⟩) (fun i hi => ?_)).mono ?_
    · have h5 := aw_in (n := t) (lvE_ok hlE) hR hll i hi
      have h6 := wT_lt ht (lvE_ok hlE) hT.1 hR hll (i + 1) hi
      unfold wF wT at *
      omega
    · rintro e w3 ⟨y, rfl, hy, hb3⟩
      have : y = x := by
        rw [Bool.eq_iff_iff, hy, hx]
        rfl
      rw [this]
      exact ⟨rfl, hb3⟩
  · exact absurd hE h0
theorem rpack_ (T : Tr) (hT : 0 ≤ T.lf ∧ T.lf < 4294967296) (t l : Nat) (ht : t < 18446744073709551616) (hl : l < 18446744073709551616) (a : Option Addr) (c : Nat) (ss : List Stp) (w : World) (hS : Sts w a ss) (hB : SB ss) (hF : (flA ss).length ≤ 1048576) :
    Calls Try.prog 9 #[.agg (trC T), .agg (paC t l a ss.length c)] w (PackP T t l ss w) := by
  unfold PackP
  by_cases hE : waE T t l = 0
  · have hlE : lvE T t = 0 := by
      rcases waE_cases T t l with ⟨_, h, _⟩ | ⟨h0, _⟩
      · exact h
      · exact absurd hE h0
    by_cases hf : pkF T t l ss
    · have hpE : pkE T t l ss = 0 := by unfold pkE; rw [if_pos hE, if_pos hf]
      have hpL : pkL T t l ss = un t 8 ++ un l 8 ++ flA ss := by unfold pkL; rw [if_pos hpE]
      rw [hpE, hpL]
      have hin := vd_inn (lvE_ok hlE)
      refine rpackOk T t l a ss.length c T.inn.toNat ss w ht hl hS rfl hB.1 (by omega) (by omega) hF (fun i hi => ?_) (wayFits T hT t l ht a c ss w hS hB hE true (by simp [hf]))
      have hfi := hf.2 i (by have := hf.1; omega)
      exact ⟨fun r hr => by have := hfi.2.2.1 r hr; omega, fun r hr => by have := hfi.2.2.2 r hr; omega, (hB.2 i).1.1, (hB.2 i).2.1⟩
    · have hpE : pkE T t l ss = 4 := by unfold pkE; rw [if_pos hE, if_neg hf]
      have hpL : pkL T t l ss = [] := by unfold pkL; rw [if_neg (by rw [hpE]; decide)]
      rw [hpE, hpL]
      refine (rpackN T t l a ss.length c w (wayFits T hT t l ht a c ss w hS hB hE false (by simp [hf]))).mono ?_
      rintro e w' ⟨rfl, hb⟩
      exact ⟨_, rfl, ⟨rfl, .inl ⟨rfl, rfl⟩⟩, hb⟩
  · have hpE : pkE T t l ss = waE T t l := by unfold pkE; rw [if_neg hE]
    have hpL : pkL T t l ss = [] := by unfold pkL; rw [if_neg (by rw [hpE]; exact hE)]
    rw [hpE, hpL]
    refine (rpackE T t l a ss.length c (waE T t l) hE (fun W => ?_) w).mono ?_
    · refine (rway_ T hT t ht l W).mono ?_
      rintro e w' ⟨v, rfl, hv, _, hb⟩
      obtain rfl := hv hE
      exact ⟨rfl, hb⟩
    · rintro e w' ⟨rfl, hb⟩
      exact ⟨_, rfl, ⟨rfl, .inl ⟨rfl, rfl⟩⟩, hb⟩
end LW
end Go.Proofs.Ytcpegipojkbcoaa
