/-
  What the calls of the law ParamMemory tell, as far as it needs them.
-/
import Derived.Test.YtomdplcmbcjkfaaWideP
import Derived.Test.YtomdplcmbcjkfaaDecU
import Derived.Test.YtomdplcmbcjkfaaDecodesWalk
import Derived.Test.YtomdplcmbcjkfaaEncU
import Derived.Test.YtomdplcmbcjkfaaPuts
namespace Go.Proofs.Ytomdplcmbcjkfaa
open Go.RowKit Go.ChangeShapes
set_option linter.unusedVariables false
set_option linter.unusedSimpArgs false
namespace LW
open Words
theorem size5 : (Try.prog.info? 5).map (·.size) = some 1 := by kernel_rfl
theorem row_prefix {w : World} {a : Option Addr} {zs ys : List Int} (h : LW.Row w a (zs ++ ys)) : LW.Row w a zs := by
  rcases h with h | ⟨b, off, rfl, hc⟩
  · exact .inl (List.append_eq_nil_iff.1 h).1
  · refine .inr ⟨b, off, rfl, fun i hi => ?_⟩
    rw [hc i (by rw [List.length_append]; omega)]
    simp [List.getD_eq_getElem?_getD, List.getElem?_append_left hi]
/-- The front of a slice. -/
theorem exec_sliceH {P : Program} {o : Oper} {a : Act} {w : World} (t : TypeId) (x hi : Operand) (ho : o.op = .slice t x none (some hi) none) (b off len cap n : Nat) (H : Int) (e : TypeId) (hx : a.eval x = .slice (some ⟨b, off, none⟩) len cap)
    (hhi : a.eval hi = .int .i64 H) (hH : H = (n : Int)) (hc : n ≤ cap) (hu : P.underlying t = some (.slice e)) (hs : (P.info? e).map (·.size) = some 1) :
    (execOp a.eval o).run P w = .ok (.value (.slice (some ⟨b, off, none⟩) n cap)) w := by
  cases hq : P.info? e with
  | none => simp [hq] at hs
  | some ie =>
    have he : ie.size = 1 := by simpa [hq] using hs
    have hel : P.elem t = e := by simp [Program.elem, hu]
    have hu' : P.underlying t = some (.slice (P.elem t)) := by rw [hel]; exact hu
    have h1 : (Instr.sliceAt t (.slice (some ⟨b, off, none⟩) len cap) none (some (.int .i64 H)) none).run P w = .ok (.slice (some ⟨b, off, none⟩) n cap) w := by
      rw [run_sliceAt_slice w t _ _ _ _ hu', run_slice_h w t _ len cap hu' .i64 H (by omega) (by omega), hel]
      have e2 : H.toNat = n := by omega
      simp [sizeOf, typeInfo, hq, he, e2, sliced, Addr.add_mid]
    unfold execOp
    simp only [ho, hx, hhi, Option.map_some, Option.map_none, Sem.run_bind, h1, Result.andThen_ok, Sem.run_pure]
/-- A row of the call's own, of whatever bytes. -/
def Own (G : Nat) (w : World) (v : Value) : Prop := ∃ n zs, n ≤ 140737488351232 ∧ w.ownsRow G 5 1 v n (vs zs)
theorem Own.U {G : Nat} {w w' : World} {v : Value} (h : Own G w v) (hu : U w w') : Own G w' v := by
  obtain ⟨n, zs, hn, ho⟩ := h
  obtain ⟨ys, hy⟩ := own_U ho hu
  exact ⟨n, ys, hn, hy⟩
theorem Own.mono {G G' : Nat} {w : World} {v : Value} (h : Own G w v) (hg : G' ≤ G) : Own G' w v := by
  obtain ⟨n, zs, hn, ho⟩ := h
  exact ⟨n, zs, hn, own_mono ho hg⟩
theorem Own.below {G : Nat} {w w' : World} {v : Value} (h : Own G w v) (hb : Below w.heap.size w w') : Own G w' v := h.U (U.below hb)
theorem own_slice {w : World} {B n : Nat} {v : Value} {xs : List Value} (h : w.ownsRow B 5 1 v n xs) : ∃ a c, v = .slice a n c := by
  rcases h.2 with ⟨rfl, h0⟩ | ⟨g, cap, cur, rfl, _⟩
  · exact ⟨none, 0, by rw [h0]⟩
  · exact ⟨_, _, rfl⟩
theorem spoilW {G : Nat} {w : World} {v : Value} (h : Own G w v) (hG : G ≤ w.heap.size) : Calls Try.prog 10 #[v] w fun e w' => (∃ v, e = .returned v) ∧ Below G w w' ∧ U w w' := by
  obtain ⟨n, zs, hn, ho⟩ := h
  exact spoilP G n v zs w ho hG hn
/-- Bytes with marked ones behind them. -/
structure Wd (w : World) (g c : Nat) (s : List Int) : Prop where
  row : Row w (some ⟨g, 0, none⟩) (wideL s)
  cap : s.length + 70 ≤ c
  max : c ≤ maxLen
theorem Wd.below {w w' : World} {g c : Nat} {s : List Int} (h : Wd w g c s) (hb : Below w.heap.size w w') : Wd w' g c s := ⟨h.row.below hb, h.cap, h.max⟩
theorem Wd.pb {w : World} {g c : Nat} {s : List Int} (h : Wd w g c s) (hl : s.length ≤ 140737488351232) (hz : Byt s) : Pb w (some ⟨g, 0, none⟩) c s :=
  ⟨row_prefix h.row, (fun h => by cases h), hl, by have := h.cap; omega, hz⟩
theorem wideW (b : Option Addr) (cap : Nat) (zs : List Int) (w : World) (h : Pb w b cap zs) :
    Calls Try.prog 5 #[.slice b zs.length cap] w fun e w' => ∃ g c, e = .returned (.slice (some ⟨g, 0, none⟩) (zs.length + 70) c) ∧ Wd w' g c zs ∧ Below w.heap.size w w' := by
  refine (wide b cap zs w h.row h.nil h.len).mono ?_
  rintro e w' ⟨v, rfl, hown, hb⟩
  rcases hown.2 with ⟨_, h0⟩ | ⟨g, c, cur, rfl, hg, hh, hn, hm, hc, ht⟩
  · omega
  · refine ⟨g, c, rfl, ⟨?_, hn, by omega⟩, hb⟩
    rw [← wideL_length zs] at hown
    obtain ⟨x, cx', he, hrow, _⟩ := row_of_own hown
    simp only [Value.slice.injEq] at he
    rw [he.1]; exact hrow
theorem keptW (b : Option Addr) (cap : Nat) (zs : List Int) (g c : Nat) (w : World) (h : Pb w b cap zs) (hw : Wd w g c zs) :
    Calls Try.prog 11 #[.slice (some ⟨g, 0, none⟩) (zs.length + 70) c, .slice b zs.length cap] w fun e w' => e = .returned (.bool true) ∧ Below w.heap.size w w' :=
  kept _ b c cap zs w hw.row h.row h.nil h.len
theorem normalW (kd : Int) (p : Pm) (hp : p.Ok) (sa ta : Option Addr) (sc tc : Nat) (s t : List Int) (w : World) (h1 : Pb w sa sc s) (h2 : Pb w ta tc t) :
    Calls Try.prog 6 #[.int .i64 kd, .agg (pcP p (.slice sa s.length sc) (.slice ta t.length tc))] w fun e w' => ∃ P a n c b m d E, e = .returned (.tuple #[.agg (pcP P (.slice a n c) (.slice b m d)), .int .i64 E]) ∧ Own w.heap.size w' (.slice a n c) ∧ Own w.heap.size w' (.slice b m d) ∧ Below w.heap.size w w' := by
  refine (normalP kd p hp sa ta sc tc s t w h1 h2).mono ?_
  rintro e w' ⟨x, y, rfl, ox, oy, hb⟩
  obtain ⟨a, c, rfl⟩ := own_slice ox
  obtain ⟨b, d, rfl⟩ := own_slice oy
  exact ⟨_, a, _, c, b, _, d, _, rfl, ⟨_, _, nS_le _ _ h1.len, ox⟩, ⟨_, _, nS_le _ _ h2.len, oy⟩, hb⟩
theorem decW (kd : Int) (x : Bool) (a : Option Addr) (cap : Nat) (zs : List Int) (w : World) (h : Pb w a cap zs) (hcm : cap ≤ maxLen) :
    Calls Try.prog 8 #[.int .i64 kd, .slice a zs.length cap, .bool x] w fun e w' => ∃ P a n c b m d E, e = .returned (.tuple #[.agg (pcP P (.slice a n c) (.slice b m d)), .int .i64 E]) ∧ Own w.heap.size w' (.slice a n c) ∧ Own w.heap.size w' (.slice b m d) ∧ Below w.heap.size w w' := by
  refine (decP kd x a cap zs w h hcm).mono ?_
  rintro e w' ⟨u, v, rfl, ou, ov, hb⟩
  have hl := h.len
  have l1 : (saL kd zs).length ≤ 140737488351232 := by unfold saL; simp; omega
  have l2 : (peL kd zs).length ≤ 140737488351232 := by unfold peL; simp; omega
  obtain ⟨a, c, rfl⟩ := own_slice ou
  obtain ⟨b, d, rfl⟩ := own_slice ov
  exact ⟨_, a, _, c, b, _, d, _, rfl, ⟨_, _, nS_le _ _ l1, ou⟩, ⟨_, _, nS_le _ _ l2, ov⟩, hb⟩
theorem eS_le (kd : Int) (p : Pm) (s t : List Int) : (eS (p.ck kd s.length t.length) (enL kd p s t)).length ≤ 64 := by
  unfold eS
  split
  · rename_i h; rw [enL_length kd p s t h]; exact mo_le kd
  · simp
theorem encW (kd : Int) (p : Pm) (hp : p.Ok) (sa ta : Option Addr) (sc tc : Nat) (s t : List Int) (w : World) (h1 : Pb w sa sc s) (h2 : Pb w ta tc t) :
    Calls Try.prog 7 #[.int .i64 kd, .agg (pcP p (.slice sa s.length sc) (.slice ta t.length tc))] w fun e w' => ∃ a n c E, e = .returned (.tuple #[.slice a n c, .int .i64 E]) ∧ Own w.heap.size w' (.slice a n c) ∧ Below w.heap.size w w' := by
  refine (encP kd p hp sa ta sc tc s t w h1 h2).mono ?_
  rintro e w' ⟨a, c, rfl, _, _, ho, hb⟩
  exact ⟨a, _, c, _, rfl, ⟨_, _, by have := eS_le kd p s t; omega, ho⟩, hb⟩
theorem pL_len (kd f : Int) (zs : List Int) (v : Int) : (pL kd f zs v).length ≤ zs.length ∨ (pL kd f zs v).length ≤ 64 := by
  unfold pL
  split
  · rename_i h
    have hc : cf kd zs.length f = 0 := by
      unfold pE at h
      by_cases h0 : cf kd zs.length f = 0
      · exact h0
      · rw [if_neg h0] at h; exact absurd h h0
    obtain ⟨hk, hlen, h1, h9, _⟩ := cf_zero hc
    obtain ⟨_, _, _, _, hfit⟩ := fits kd f hk h1 h9
    left
    rw [ly_length _ _ _ _ (by omega)]
    exact Nat.le_refl _
  · left; simp
theorem putW (kd f : Int) (a : Option Addr) (cap : Nat) (zs : List Int) (v : Int) (w : World) (h : Pb w a cap zs) (v0 : 0 ≤ v) (v1 : v < 18446744073709551616) :
    Calls Try.prog 9 #[.int .i64 kd, .slice a zs.length cap, .int .i64 f, .int .u64 v] w fun e w' => ∃ a n c E, e = .returned (.tuple #[.slice a n c, .int .i64 E]) ∧ Own w.heap.size w' (.slice a n c) ∧ Below w.heap.size w w' := by
  refine (put kd f a cap zs v w h.row h.nil v0 v1).mono ?_
  rintro e w' ⟨x, rfl, ho, hb⟩
  obtain ⟨a, c, rfl⟩ := own_slice ho
  have hl := h.len
  exact ⟨a, _, c, _, rfl, ⟨_, _, by rcases pL_len kd f zs v with h | h <;> omega, ho⟩, hb⟩
end LW
end Go.Proofs.Ytomdplcmbcjkfaa
