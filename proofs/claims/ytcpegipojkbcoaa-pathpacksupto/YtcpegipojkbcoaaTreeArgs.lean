/-
  How a tree among a law's arguments is opened.
-/
import Derived.Test.YtcpegipojkbcoaaArgs
import Derived.Test.YtcpegipojkbcoaaSh3
namespace Go.Proofs.Ytcpegipojkbcoaa
open Go.ChangeShapes Go.WideShapes Go.ChangeAt Go.RowKit Go.Joins
set_option linter.unusedVariables false
namespace LW
open Words
theorem open_bytes2 {H : Type} {enc : TypeId × Value → H} {W : World} {v : Value} {n : Nat} {y : DataW H × List MemPlace}
    (h : DataW.trod enc Try.prog W 0 (fun _ => true) true n 24 [v] = some y) :
    ∃ (a : Option Addr) (cap : Nat) (zs : List Int), v = .slice a zs.length cap ∧ zs.length ≤ cap ∧ Byt zs ∧ Row W a zs ∧ (a = none → cap = 0) ∧ zs.length ≤ maxLen ∧ ((y.1 = .nil ∧ zs.length = 0) ∨ ∃ sp, y.1 = .slice (lits .u8 zs) sp) := by
  have h0 := h
  obtain ⟨a, cap, zs, e, hz, hr, hn, hm, hd⟩ := open_bytes1 h
  refine ⟨a, cap, zs, e, ?_, hz, hr, hn, hm, hd⟩
  rcases open_ints Try.underlying24 Try.underlying5 (by kernel_rfl) h0 with ⟨hcs, hx⟩ | ⟨x, l, c, zs', hcs, _, hl, hm', hz', hx, hcell, hwz⟩
  · simp at hcs
    rw [hcs] at e
    injection e with e1 e2 e3
    omega
  · simp at hcs
    rw [hcs] at e
    injection e with e1 e2 e3
    omega
theorem array9 {α : Type} {cs : Array α} (h : cs.size = 9) : ∃ c0 c1 c2 c3 c4 c5 c6 c7 c8, cs = #[c0, c1, c2, c3, c4, c5, c6, c7, c8] := by
  obtain ⟨l⟩ := cs
  match l, h with
  | [c0, c1, c2, c3, c4, c5, c6, c7, c8], _ => exact ⟨c0, c1, c2, c3, c4, c5, c6, c7, c8, rfl⟩
theorem cells26 : Try.prog.cellsOf 26 = 9 := by kernel_rfl
theorem cells23 : Try.prog.cellsOf 23 = 1 := by kernel_rfl
theorem cells22 : Try.prog.cellsOf 22 = 1 := by kernel_rfl
/-- A list of bytes that lies in a world, with its room. -/
def Lies (W : World) (a : Option Addr) (c : Nat) (s : List Int) : Prop := s.length ≤ c ∧ Byt s ∧ Row W a s ∧ (a = none → c = 0) ∧ s.length ≤ maxLen
set_option maxRecDepth 100000 in
theorem open_tree {H : Type} {enc : TypeId × Value → H} {W : World} {r : Reach} {b0 : Nat} {v : Value} {d : DataW H} {p : List MemPlace}
    (hv : Value.okWide Try.prog W r b0 26 v) (h : DataW.Trod enc Try.prog W 0 (fun _ => true) true 26 v d p) :
    ∃ (T : Tr) (s t : List Int), v = .agg (trC T) ∧ (0 ≤ T.lf ∧ T.lf < 4294967296) ∧ T.sl = s.length ∧ Lies W T.sa T.sc s ∧ T.pl = t.length ∧ Lies W T.pa T.pc t := by
  obtain ⟨cs, rfl, hsz⟩ := okWide_struct Try.underlying26 hv
  obtain ⟨c0, c1, c2, c3, c4, c5, c6, c7, c8, rfl⟩ := array9 (hsz.trans cells26)
  obtain ⟨fuel, hf⟩ := h
  obtain ⟨xs, n, _, hx, hl, hlen, hg⟩ := DataW.trod_struct Try.underlying26 hf
  match xs, hlen with
  | [y0, y1, y2, y3, y4, y5, y6, y7, y8], _ =>
    have h0 := hg 0 _ rfl
    have h1 := hg 1 _ rfl
    have h2 := hg 2 _ rfl
    have h3 := hg 3 _ rfl
    have h4 := hg 4 _ rfl
    have h5 := hg 5 _ rfl
    have h6 := hg 6 _ rfl
    have h7 := hg 7 _ rfl
    have h8 := hg 8 _ rfl
    simp only [Value.cells] at h0 h1 h2 h3 h4 h5 h6 h7 h8
    replace h0 : DataW.trod enc Try.prog W 0 (fun _ => true) true n 22 [c0] = some y0 := by simpa [cells22] using h0
    replace h1 : DataW.trod enc Try.prog W 0 (fun _ => true) true n 3 [c1] = some y1 := by simpa [cells3] using h1
    replace h2 : DataW.trod enc Try.prog W 0 (fun _ => true) true n 3 [c2] = some y2 := by simpa [cells3] using h2
    replace h3 : DataW.trod enc Try.prog W 0 (fun _ => true) true n 3 [c3] = some y3 := by simpa [cells3] using h3
    replace h4 : DataW.trod enc Try.prog W 0 (fun _ => true) true n 23 [c4] = some y4 := by simpa [cells23] using h4
    replace h5 : DataW.trod enc Try.prog W 0 (fun _ => true) true n 3 [c5] = some y5 := by simpa [cells3] using h5
    replace h6 : DataW.trod enc Try.prog W 0 (fun _ => true) true n 24 [c6] = some y6 := by simpa [cells29] using h6
    replace h7 : DataW.trod enc Try.prog W 0 (fun _ => true) true n 24 [c7] = some y7 := by simpa [cells29] using h7
    replace h8 : DataW.trod enc Try.prog W 0 (fun _ => true) true n 24 [c8] = some y8 := by simpa [cells29] using h8
    obtain ⟨v0, e0, rfl, w0⟩ := DataW.trod_int Try.underlying22 h0
    obtain ⟨v1, e1, rfl, w1⟩ := DataW.trod_int Try.underlying3 h1
    obtain ⟨v2, e2, rfl, w2⟩ := DataW.trod_int Try.underlying3 h2
    obtain ⟨v3, e3, rfl, w3⟩ := DataW.trod_int Try.underlying3 h3
    obtain ⟨v4, e4, rfl, w4⟩ := DataW.trod_int Try.underlying23 h4
    obtain ⟨v5, e5, rfl, w5⟩ := DataW.trod_int Try.underlying3 h5
    obtain ⟨ka, kc, k, rfl, qk, bk, rk, nk, mk, dk⟩ := open_bytes2 h6
    obtain ⟨sa, sc, s, rfl, qs, bs, rs, ns, ms, ds⟩ := open_bytes2 h7
    obtain ⟨ta, tc, t, rfl, qt, bt, rt, nt, mt, dt⟩ := open_bytes2 h8
    simp at e0 e1 e2 e3 e4 e5
    subst e0 e1 e2 e3 e4 e5
    have b4 := bounds_u32 w4
    have q4 : v4 < 4294967296 := by have := b4.2; omega
    exact ⟨⟨v0, v1, v2, v3, v4, v5, ka, k.length, kc, sa, s.length, sc, ta, t.length, tc⟩, s, t, rfl, ⟨b4.1, q4⟩, rfl, ⟨qs, bs, rs, ns, ms⟩, rfl, ⟨qt, bt, rt, nt, mt⟩⟩
end LW
end Go.Proofs.Ytcpegipojkbcoaa
