/-
  The walks of PathSizes and PathPacks, for their rows.
-/
import Derived.Test.YtflaanigdknlcaaPathArgs
import Derived.Test.YtflaanigdknlcaaPacksW
namespace Go.Proofs.Ytflaanigdknlcaa
open Go.ChangeShapes Go.WideShapes Go.ChangeAt Go.RowKit Go.Deep
set_option linter.unusedVariables false
namespace LW
set_option maxRecDepth 100000 in
theorem packsF {H : Type} {enc : TypeId × Value → H} {r r1 r2 : Reach} {b0 b1 b2 : Nat} {d0 d1 d2 : DataW H} {p0 p1 p2 : List MemPlace} (HPS : PSize) (HPP : PPack) (HPU : PUnpack) (v0 v1 v2 : Value) (W : World)
    (hv0 : Value.okWide Try.prog W r b0 26 v0) (h0 : DataW.Trod enc Try.prog W 0 (fun _ => true) true 26 v0 d0 p0) (hB0 : Rows.uptoBulk d0 ≤ 1048576)
    (hv1 : Value.okWide Try.prog W r1 b1 37 v1) (h1 : DataW.Trod enc Try.prog W 0 (fun _ => true) true 37 v1 d1 p1) (hB1 : Rows.uptoBulk d1 ≤ 1048576)
    (hv2 : Value.okWide Try.prog W r2 b2 24 v2) (h2 : DataW.Trod enc Try.prog W 0 (fun _ => true) true 24 v2 d2 p2) (hB2 : Rows.uptoBulk d2 ≤ 1048576) :
    Calls Try.prog 4 #[v0, v1, v2] W fun e w' => e = .returned (.bool true) ∧ Below W.heap.size W w' := by
  obtain ⟨T, s, t, rfl, hT, _⟩ := open_tree hv0 h0
  obtain ⟨t, l, a, c, ss, rfl, ht, hl, hS, hB, hF⟩ := open_path hv1 h1 hB1
  obtain ⟨fuel, hf⟩ := h2
  obtain ⟨b, len, cap, rfl⟩ := okWide_slice Try.underlying24 hv2
  obtain ⟨a', cap', zs, e, hz, hr, hn, hm, hd⟩ := open_bytes1 (v := .slice b len cap) (by simpa [Value.cells] using hf)
  cases e
  have hzl : zs.length ≤ 1048576 := by
    rcases hd with ⟨_, h⟩ | ⟨sp, h⟩
    · omega
    · dsimp only at h
      rw [h] at hB2
      simp only [Rows.uptoBulk, bulk_lits] at hB2
      omega
  have hcap : zs.length ≤ cap := by
    rcases open_ints Try.underlying24 Try.underlying5 (by kernel_rfl) (show DataW.trod enc Try.prog W 0 (fun _ => true) true fuel 24 [.slice b zs.length cap] = some _ by simpa [Value.cells] using hf) with ⟨hcs, hx⟩ | ⟨x, l, c, zs', hcs, _, hl, _⟩
    · simp at hcs
      simp [hcs]
    · simp at hcs
      omega
  exact packsW HPS HPP HPU T t l a c ss _ _ zs W hT ht hl hS hB hF hz hr hzl hcap
end LW
end Go.Proofs.Ytflaanigdknlcaa
