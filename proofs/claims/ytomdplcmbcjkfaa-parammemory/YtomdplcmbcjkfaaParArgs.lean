/-
  How parameters among a law's arguments are opened.
-/
import Derived.Test.YtomdplcmbcjkfaaArgs
import Derived.Test.YtomdplcmbcjkfaaUnif
namespace Go.Proofs.Ytomdplcmbcjkfaa
open Go.ChangeShapes Go.WideShapes Go.ChangeAt Go.RowKit Go.Joins
set_option linter.unusedVariables false
namespace LW
open Words
theorem open_bytes2 {H : Type} {enc : TypeId × Value → H} {W : World} {v : Value} {n : Nat} {y : DataW H × List MemPlace}
    (h : DataW.trod enc Try.prog W 0 (fun _ => true) true n 24 [v] = some y) :
    ∃ (a : Option Addr) (cap : Nat) (zs : List Int), v = .slice a zs.length cap ∧ zs.length ≤ cap ∧ Byt zs ∧ Row W a zs ∧ (a = none → cap = 0) ∧ zs.length ≤ maxLen ∧ ((y.1 = .nil ∧ zs.length = 0) ∨ ∃ sp, y.1 = .slice (lits .u8 zs) sp) := by
  have h0 := h
  obtain ⟨a, cap, zs, e, hz, hr, hn, hm, hd⟩ := open_bytes1 h
  refine ⟨a, cap, zs, e, ?_, hz, hr, hn, hm, hd⟩
  rcases open_ints Try.underlying24 Try.underlying5 (by kernel_rfl) h0 with ⟨hcs, hx⟩ | ⟨x, l, c, zs', hcs, _, hl, hm', hz', hx, hcell, hwz⟩
  · simp at hcs
    rw [hcs] at e
    injection e with e1 e2 e3
    omega
  · simp at hcs
    rw [hcs] at e
    injection e with e1 e2 e3
    omega
set_option maxRecDepth 100000 in
theorem open_slice29 {H : Type} {enc : TypeId × Value → H} {W : World} {r : Reach} {b0 : Nat} {v : Value} {d : DataW H} {p : List MemPlace}
    (hv : Value.okWide Try.prog W r b0 24 v) (h : DataW.Trod enc Try.prog W 0 (fun _ => true) true 24 v d p) :
    ∃ (a : Option Addr) (cap : Nat) (zs : List Int), v = .slice a zs.length cap ∧ zs.length ≤ cap ∧ Byt zs ∧ Row W a zs ∧ (a = none → cap = 0) ∧ zs.length ≤ maxLen ∧ ((d = .nil ∧ zs.length = 0) ∨ ∃ sp, d = .slice (lits .u8 zs) sp) := by
  obtain ⟨a, len, cap, rfl⟩ := okWide_slice Try.underlying24 hv
  obtain ⟨n, hn⟩ := h
  exact open_bytes2 (y := (d, p)) hn
theorem array11 {α : Type} {cs : Array α} (h : cs.size = 11) : ∃ c0 c1 c2 c3 c4 c5 c6 c7 c8 c9 c10, cs = #[c0, c1, c2, c3, c4, c5, c6, c7, c8, c9, c10] := by
  obtain ⟨l⟩ := cs
  match l, h with
  | [c0, c1, c2, c3, c4, c5, c6, c7, c8, c9, c10], _ => exact ⟨c0, c1, c2, c3, c4, c5, c6, c7, c8, c9, c10, rfl⟩
theorem cells31 : Try.prog.cellsOf 26 = 11 := by kernel_rfl
theorem cells27 : Try.prog.cellsOf 22 = 1 := by kernel_rfl
set_option maxRecDepth 100000 in
theorem open_params {H : Type} {enc : TypeId × Value → H} {W : World} {r : Reach} {b0 : Nat} {v : Value} {d : DataW H} {p : List MemPlace}
    (hv : Value.okWide Try.prog W r b0 26 v) (h : DataW.Trod enc Try.prog W 0 (fun _ => true) true 26 v d p) :
    ∃ (m : Pm) (sa ta : Option Addr) (sc tc : Nat) (s t : List Int) (y z : DataW H), v = .agg (pcP m (.slice sa s.length sc) (.slice ta t.length tc)) ∧ m.Ok ∧
      d = .agg [.lit (.int .i64 m.d), .lit (.int .i64 m.k), .lit (.int .i64 m.f), .lit (.int .i64 m.dp), .lit (.int .u32 m.lf), .lit (.int .u64 m.off), .lit (.int .u32 m.xof), .lit (.int .i64 m.nd), .lit (.int .i64 m.inn), y, z] ∧
      s.length ≤ sc ∧ Byt s ∧ Row W sa s ∧ (sa = none → sc = 0) ∧ ((y = .nil ∧ s.length = 0) ∨ ∃ sp, y = .slice (lits .u8 s) sp) ∧
      t.length ≤ tc ∧ Byt t ∧ Row W ta t ∧ (ta = none → tc = 0) ∧ ((z = .nil ∧ t.length = 0) ∨ ∃ sp, z = .slice (lits .u8 t) sp) := by
  obtain ⟨cs, rfl, hsz⟩ := okWide_struct Try.underlying26 hv
  obtain ⟨c0, c1, c2, c3, c4, c5, c6, c7, c8, c9, c10, rfl⟩ := array11 (hsz.trans cells31)
  obtain ⟨fuel, hf⟩ := h
  obtain ⟨xs, n, _, hx, hl, hlen, hg⟩ := DataW.trod_struct Try.underlying26 hf
  match xs, hlen with
  | [y0, y1, y2, y3, y4, y5, y6, y7, y8, y9, y10], _ =>
    have h0 := hg 0 _ rfl
    have h1 := hg 1 _ rfl
    have h2 := hg 2 _ rfl
    have h3 := hg 3 _ rfl
    have h4 := hg 4 _ rfl
    have h5 := hg 5 _ rfl
    have h6 := hg 6 _ rfl
    have h7 := hg 7 _ rfl
    have h8 := hg 8 _ rfl
    have h9 := hg 9 _ rfl
    have h10 := hg 10 _ rfl
    simp only [Value.cells] at h0 h1 h2 h3 h4 h5 h6 h7 h8 h9 h10
    replace h0 : DataW.trod enc Try.prog W 0 (fun _ => true) true n 3 [c0] = some y0 := by simpa [cells3] using h0
    replace h1 : DataW.trod enc Try.prog W 0 (fun _ => true) true n 3 [c1] = some y1 := by simpa [cells3] using h1
    replace h2 : DataW.trod enc Try.prog W 0 (fun _ => true) true n 3 [c2] = some y2 := by simpa [cells3] using h2
    replace h3 : DataW.trod enc Try.prog W 0 (fun _ => true) true n 3 [c3] = some y3 := by simpa [cells3] using h3
    replace h4 : DataW.trod enc Try.prog W 0 (fun _ => true) true n 22 [c4] = some y4 := by simpa [cells27] using h4
    replace h5 : DataW.trod enc Try.prog W 0 (fun _ => true) true n 23 [c5] = some y5 := by simpa [cells28] using h5
    replace h6 : DataW.trod enc Try.prog W 0 (fun _ => true) true n 22 [c6] = some y6 := by simpa [cells27] using h6
    replace h7 : DataW.trod enc Try.prog W 0 (fun _ => true) true n 3 [c7] = some y7 := by simpa [cells3] using h7
    replace h8 : DataW.trod enc Try.prog W 0 (fun _ => true) true n 3 [c8] = some y8 := by simpa [cells3] using h8
    replace h9 : DataW.trod enc Try.prog W 0 (fun _ => true) true n 24 [c9] = some y9 := by simpa [cells29] using h9
    replace h10 : DataW.trod enc Try.prog W 0 (fun _ => true) true n 24 [c10] = some y10 := by simpa [cells29] using h10
    obtain ⟨v0, e0, rfl, w0⟩ := DataW.trod_int Try.underlying3 h0
    obtain ⟨v1, e1, rfl, w1⟩ := DataW.trod_int Try.underlying3 h1
    obtain ⟨v2, e2, rfl, w2⟩ := DataW.trod_int Try.underlying3 h2
    obtain ⟨v3, e3, rfl, w3⟩ := DataW.trod_int Try.underlying3 h3
    obtain ⟨v4, e4, rfl, w4⟩ := DataW.trod_int Try.underlying22 h4
    obtain ⟨v5, e5, rfl, w5⟩ := DataW.trod_int Try.underlying23 h5
    obtain ⟨v6, e6, rfl, w6⟩ := DataW.trod_int Try.underlying22 h6
    obtain ⟨v7, e7, rfl, w7⟩ := DataW.trod_int Try.underlying3 h7
    obtain ⟨v8, e8, rfl, w8⟩ := DataW.trod_int Try.underlying3 h8
    obtain ⟨sa, sc, s, rfl, qs, bs, rs, ns, ms, ds⟩ := open_bytes2 h9
    obtain ⟨ta, tc, t, rfl, qt, bt, rt, nt, mt, dt⟩ := open_bytes2 h10
    simp at e0 e1 e2 e3 e4 e5 e6 e7 e8
    subst e0 e1 e2 e3 e4 e5 e6 e7 e8
    simp only [Prod.mk.injEq] at hx
    have b4 := bounds_u32 w4
    have b5 := bounds_u64 w5
    have b6 := bounds_u32 w6
    have q4 : v4 < 4294967296 := by have := b4.2; omega
    have q5 : v5 < 18446744073709551616 := by have := b5.2; omega
    have q6 : v6 < 4294967296 := by have := b6.2; omega
    refine ⟨⟨v0, v1, v2, v3, v4, v5, v6, v7, v8⟩, sa, ta, sc, tc, s, t, y9.1, y10.1, rfl, ⟨b5.1, q5, b6.1, q6, b4.1, q4⟩, by rw [hx.1]; simp, qs, bs, rs, ns, ds, qt, bt, rt, nt, dt⟩
theorem params_sized {H : Type} {y z : DataW H} {s t : List Int} {m : Pm} (hd : (y = .nil ∧ s.length = 0) ∨ ∃ sp, y = .slice (lits .u8 s) sp) (hd' : (z = .nil ∧ t.length = 0) ∨ ∃ sp, z = .slice (lits .u8 t) sp)
    (hk : ∀ n ∈ DataW.weights Try.prog 26 (.agg [.lit (.int .i64 m.d), .lit (.int .i64 m.k), .lit (.int .i64 m.f), .lit (.int .i64 m.dp), .lit (.int .u32 m.lf), .lit (.int .u64 m.off), .lit (.int .u32 m.xof), .lit (.int .i64 m.nd), .lit (.int .i64 m.inn), y, z]), n ≤ reachBytes) :
    s.length ≤ 140737488351232 ∧ t.length ≤ 140737488351232 := by
  constructor
  · rcases hd with ⟨_, h⟩ | ⟨sp, rfl⟩
    · omega
    · have := hk (((lits (H := H) .u8 s).length + sp.length) * Try.prog.bytesOf 5) (by
        rw [DataW.weights, Try.underlying26]
        exact DataW.weights_mem_each (j := 9) (t := 24) rfl rfl _ (by rw [DataW.weights, Try.underlying24]; simp))
      rw [bytes5] at this
      simp only [lits, List.length_map, reachBytes] at this
      omega
  · rcases hd' with ⟨_, h⟩ | ⟨sp, rfl⟩
    · omega
    · have := hk (((lits (H := H) .u8 t).length + sp.length) * Try.prog.bytesOf 5) (by
        rw [DataW.weights, Try.underlying26]
        exact DataW.weights_mem_each (j := 10) (t := 24) rfl rfl _ (by rw [DataW.weights, Try.underlying24]; simp))
      rw [bytes5] at this
      simp only [lits, List.length_map, reachBytes] at this
      omega
end LW
end Go.Proofs.Ytomdplcmbcjkfaa
