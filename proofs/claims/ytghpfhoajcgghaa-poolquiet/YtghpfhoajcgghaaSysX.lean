/-
  What channels and shared of the document's machine do, whatever the instruction.
-/
import Derived.Test.YtghpfhoajcgghaaSysW
namespace Go.Proofs.Ytghpfhoajcgghaa
open Go.RowKit
set_option linter.unusedVariables false
set_option linter.unusedSimpArgs false
namespace LW
open Mc
set_option maxHeartbeats 1000000 in
theorem rchan {o : World} {g : Nat} {s : Syst} {pa : Option Addr} {pc : Nat} {ra : Option Addr} {rc : Nat} {t : St} {m : WV} (k : Nat) (ge : Nat) (w : World) (h : WM o w g s pa pc ra rc t m) (ho : Mc.Ok s) (hg : Mc.Good s t) (hk : k < t.rns.length) (hc : can s t k = true) (h5 : 5 ≤ (ins s t k).op ∧ (ins s t k).op ≤ 7) (hE : EvB w ge ⟨k, (ins s t k).op, (ins s t k).a, 0, false⟩) (hB : o.heap.size ≤ ge) (hn : m.ev.ownBlock ≠ some ge) :
    Calls Try.prog 38 #[.pointer (some ⟨g, 0, none⟩), .int .i64 k, .agg #[.int .i64 (ins s t k).op, .int .i64 (ins s t k).a, .int .i64 (ins s t k).b, .int .i64 (ins s t k).c], .pointer (some ⟨ge, 0, none⟩)] w (ChP o g s pa pc ra rc m ge k (ins s t k).op (chan s t k)) := by
  have he := can_going hc
  have hr := ins_right ho hg hk he
  have h8 := (hg.gr k hk).rl
  have hs := hg.sh
  have hpr := (hg.gr k hk).pr
  have hpl := ho.pl (Mc.rn t k).prog.toNat (by omega)
  unfold chan
  unfold can at hc
  rw [he] at hc
  simp only [Bool.false_eq_true, if_false] at hc
  generalize hI : ins s t k = I at *
  obtain ⟨op, a0, a1, a2⟩ := I
  dsimp only at *
  obtain ⟨_, _, fa, fb, fc, fx⟩ := hr
  dsimp only at fa fb fc fx
  obtain rfl | rfl | rfl : op = 5 ∨ op = 6 ∨ op = 7 := by omega
  · have fa := fit_c (show fitM s _ 99 a0 from fa)
    have fb := fit_r (show fitM s _ 114 a1 from fb)
    obtain ⟨c, rfl⟩ : ∃ c : Nat, a0 = (c : Int) := ⟨a0.toNat, by omega⟩
    obtain ⟨r, rfl⟩ : ∃ r : Nat, a1 = (r : Int) := ⟨a1.toNat, by omega⟩
    simp only [if_true, Int.toNat_natCast] at hc ⊢
    have h1 := hs.hr c (by omega)
    have h2 := ho.rm c (by omega)
    exact rsend k c r a2 ge w h hk (by rw [hs.hl]; omega) (by rw [hs.hl, hs.sl]) (by omega) hE hB hn (by omega)
  · have fa := fit_c (show fitM s _ 99 a0 from fa)
    have fb := fit_r (show fitM s _ 114 a1 from fb)
    have fc := fit_p (show fitM s _ 112 a2 from fc)
    obtain ⟨c, rfl⟩ : ∃ c : Nat, a0 = (c : Int) := ⟨a0.toNat, by omega⟩
    obtain ⟨r, rfl⟩ : ∃ r : Nat, a1 = (r : Int) := ⟨a1.toNat, by omega⟩
    rw [if_neg (by decide), if_pos rfl]
    simp only [Int.toNat_natCast]
    by_cases hz : t.held.getD c [] = []
    · rw [if_pos hz]
      exact rtakeE k c r a2 ge w h hk (by rw [hs.hl]; omega) (by omega) ⟨fc.1, by omega⟩ hz hE hB hn
    · rw [if_neg hz, headD_getD]
      exact rtake k c r a2 ge w h hk (by rw [hs.hl]; omega) (by omega) h8 (List.length_pos_iff.2 hz) hE hB hn
  · have fa := fit_c (show fitM s _ 99 a0 from fa)
    have fb : 0 ≤ a1 ∧ a1 < 1 := by
      rcases (show fitM s _ 110 a1 from fb) with h | h
      · cases h
      · exact h
    obtain ⟨c, rfl⟩ : ∃ c : Nat, a0 = (c : Int) := ⟨a0.toNat, by omega⟩
    obtain ⟨r, rfl⟩ : ∃ r : Nat, a1 = (r : Int) := ⟨a1.toNat, by omega⟩
    rw [if_neg (by decide), if_neg (by decide)]
    simp only [Int.toNat_natCast]
    exact rclose k c r a2 ge w h hk (by rw [hs.sl]; omega) (by omega) hE hB hn
set_option maxHeartbeats 1000000 in
theorem rshar {o : World} {g : Nat} {s : Syst} {pa : Option Addr} {pc : Nat} {ra : Option Addr} {rc : Nat} {t : St} {m : WV} (k : Nat) (ge : Nat) (w : World) (h : WM o w g s pa pc ra rc t m) (ho : Mc.Ok s) (hg : Mc.Good s t) (hk : k < t.rns.length) (hc : can s t k = true) (h5 : 8 ≤ (ins s t k).op ∧ (ins s t k).op ≤ 15) (hE : EvB w ge ⟨k, (ins s t k).op, (ins s t k).a, 0, false⟩) (hB : o.heap.size ≤ ge) (hn : m.ev.ownBlock ≠ some ge) :
    Calls Try.prog 39 #[.pointer (some ⟨g, 0, none⟩), .int .i64 k, .agg #[.int .i64 (ins s t k).op, .int .i64 (ins s t k).a, .int .i64 (ins s t k).b, .int .i64 (ins s t k).c], .pointer (some ⟨ge, 0, none⟩)] w (ChP o g s pa pc ra rc m ge k (ins s t k).op (shar s t k)) := by
  have he := can_going hc
  have hr := ins_right ho hg hk he
  have h8 := (hg.gr k hk).rl
  have hs := hg.sh
  have hpr := (hg.gr k hk).pr
  have hpl := ho.pl (Mc.rn t k).prog.toNat (by omega)
  unfold shar
  unfold can at hc
  rw [he] at hc
  simp only [Bool.false_eq_true, if_false] at hc
  generalize hI : ins s t k = I at *
  obtain ⟨op, a0, a1, a2⟩ := I
  dsimp only at *
  obtain ⟨_, _, fa, fb, fc, fx⟩ := hr
  dsimp only at fa fb fc fx
  obtain rfl | rfl | rfl | rfl | rfl | rfl | rfl | rfl : op = 8 ∨ op = 9 ∨ op = 10 ∨ op = 11 ∨ op = 12 ∨ op = 13 ∨ op = 14 ∨ op = 15 := by omega
  · have fa := fit_l (show fitM s _ 108 a0 from fa)
    have fb : 0 ≤ a1 ∧ a1 < 1 := by
      rcases (show fitM s _ 110 a1 from fb) with h | h
      · cases h
      · exact h
    obtain ⟨c, rfl⟩ : ∃ c : Nat, a0 = (c : Int) := ⟨a0.toNat, by omega⟩
    obtain ⟨r, rfl⟩ : ∃ r : Nat, a1 = (r : Int) := ⟨a1.toNat, by omega⟩
    rw [if_pos rfl]
    simp only [Int.toNat_natCast]
    have := hs.ll
    exact rlock k c r a2 ge w h hk (by omega) hE hB hn
  · have fa := fit_l (show fitM s _ 108 a0 from fa)
    have fb : 0 ≤ a1 ∧ a1 < 1 := by
      rcases (show fitM s _ 110 a1 from fb) with h | h
      · cases h
      · exact h
    obtain ⟨c, rfl⟩ : ∃ c : Nat, a0 = (c : Int) := ⟨a0.toNat, by omega⟩
    obtain ⟨r, rfl⟩ : ∃ r : Nat, a1 = (r : Int) := ⟨a1.toNat, by omega⟩
    rw [if_neg (by decide), if_pos rfl]
    simp only [Int.toNat_natCast]
    have := hs.ll
    exact rfree k c r a2 ge w h hk (by omega) hE hB hn
  · have fa := fit_g (show fitM s _ 103 a0 from fa)
    obtain ⟨c, rfl⟩ : ∃ c : Nat, a0 = (c : Int) := ⟨a0.toNat, by omega⟩
    rw [if_neg (by decide), if_neg (by decide), if_pos rfl]
    have := hs.gl
    have hG : grp s t k = IntKind.i64.wrap (t.groups.getD c 0 + a1) := by
      unfold grp
      rw [hI]
      rfl
    rw [hG]
    simp only [Int.toNat_natCast]
    exact radd k c 0 a2 ge w h hk a1 (by omega) hE hB hn
  · have fa := fit_g (show fitM s _ 103 a0 from fa)
    have fb : 0 ≤ a1 ∧ a1 < 1 := by
      rcases (show fitM s _ 110 a1 from fb) with h | h
      · cases h
      · exact h
    obtain ⟨c, rfl⟩ : ∃ c : Nat, a0 = (c : Int) := ⟨a0.toNat, by omega⟩
    obtain ⟨r, rfl⟩ : ∃ r : Nat, a1 = (r : Int) := ⟨a1.toNat, by omega⟩
    rw [if_neg (by decide), if_neg (by decide), if_neg (by decide), if_neg (by decide), if_neg (by decide), if_neg (by decide), if_neg (by decide)]
    exact rwait k c r a2 ge w h hk hE hB hn
  · have fa := fit_r (show fitM s _ 114 a0 from fa)
    have fb := fit_r (show fitM s _ 114 a1 from fb)
    have fx := fx (.inl rfl)
    obtain ⟨c, rfl⟩ : ∃ c : Nat, a0 = (c : Int) := ⟨a0.toNat, by omega⟩
    obtain ⟨r, rfl⟩ : ∃ r : Nat, a1 = (r : Int) := ⟨a1.toNat, by omega⟩
    rw [if_neg (by decide), if_neg (by decide), if_neg (by decide), if_pos rfl]
    have hl := hs.cl
    have hC1 := ho.c1
    have hG : cel s t k = rest (reg t k (c : Int)) t.cells.length := by
      unfold cel
      rw [hI]
    rw [hG]
    exact rread k c r a2 ge w h hk (by omega) (by omega) h8 (by omega) (by omega) hE hB hn
  · have fa := fit_r (show fitM s _ 114 a0 from fa)
    have fb := fit_r (show fitM s _ 114 a1 from fb)
    have fx := fx (.inr rfl)
    obtain ⟨c, rfl⟩ : ∃ c : Nat, a0 = (c : Int) := ⟨a0.toNat, by omega⟩
    obtain ⟨r, rfl⟩ : ∃ r : Nat, a1 = (r : Int) := ⟨a1.toNat, by omega⟩
    rw [if_neg (by decide), if_neg (by decide), if_neg (by decide), if_neg (by decide), if_pos rfl]
    have hl := hs.cl
    have hC1 := ho.c1
    have hG : cel s t k = rest (reg t k (c : Int)) t.cells.length := by
      unfold cel
      rw [hI]
    rw [hG]
    exact rwrite k c r a2 ge w h hk (by omega) (by omega) h8 (by omega) (by omega) hE hB hn
  · have fa := fit_s (show fitM s _ 115 a0 from fa)
    have fb : 0 ≤ a1 ∧ a1 < 1 := by
      rcases (show fitM s _ 110 a1 from fb) with h | h
      · cases h
      · exact h
    obtain ⟨c, rfl⟩ : ∃ c : Nat, a0 = (c : Int) := ⟨a0.toNat, by omega⟩
    obtain ⟨r, rfl⟩ : ∃ r : Nat, a1 = (r : Int) := ⟨a1.toNat, by omega⟩
    rw [if_neg (by decide), if_neg (by decide), if_neg (by decide), if_neg (by decide), if_neg (by decide), if_pos rfl]
    unfold pg
    simp only [Int.toNat_natCast]
    exact rstart k c r a2 ge w h hk (by omega) h8 hE hB hn
  · have fb := fit_r (show fitM s _ 114 a1 from fb)
    obtain ⟨r, rfl⟩ : ∃ r : Nat, a1 = (r : Int) := ⟨a1.toNat, by omega⟩
    rw [if_neg (by decide), if_neg (by decide), if_neg (by decide), if_neg (by decide), if_neg (by decide), if_neg (by decide), if_pos rfl]
    exact rwork k 0 r a2 ge w h hk a0 (by omega) hE hB hn
end LW
end Go.Proofs.Ytghpfhoajcgghaa
