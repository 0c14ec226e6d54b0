/-
  Plain facts on the way back through ten rounds (no Go in sight).
-/
import Derived.Test.YtecepllidmkmhabDoorEnds
namespace Go.Proofs.YtecepllidmkmhabDoor
open Go.RowKit
set_option linter.unusedVariables false
set_option linter.unusedSimpArgs false
namespace MX
open Turn
attribute [local go_sem ↓] Go.wp_at_zero Go.wp_at_succ
/-- So many of ten rounds undone, the last one first. -/
def undoL (v ms : List Int) : Nat → List Int
  | 0 => v
  | k + 1 => backL (undoL v ms k) ms (9 - k)
theorem undoL_length (v ms : List Int) (n : Nat) : (undoL v ms n).length = v.length := by
  induction n with
  | zero => rfl
  | succ n ih => rw [undoL, backL_length, ih]
theorem undoL_Ws {v : List Int} (ms : List Int) (n : Nat) (h : Ws v) : Ws (undoL v ms n) := by
  induction n with
  | zero => exact h
  | succ n ih => exact backL_Ws _ _ ih
/-- What a state says of chain, count and flags, if it is a beginning. -/
def rdH (u : List Int) : List Int := u.take 8
def rdN (u : List Int) : Int := xo (u.getD 12 0) (ivL.getD 4 0) + xo (u.getD 13 0) (ivL.getD 5 0) * 4294967296
def rdA (u : List Int) : Bool := u.getD 14 0 != ivL.getD 6 0
def rdB (u : List Int) : Bool := u.getD 15 0 != ivL.getD 7 0
theorem rdH_length (u : List Int) (h : u.length = 16) : (rdH u).length = 8 := by simp [rdH, h]
theorem rdH_get (u : List Int) (k : Nat) (hk : k < 8) : (rdH u).getD k 0 = u.getD k 0 := by
  simp [rdH, List.getD_eq_getElem?_getD, List.getElem?_take, hk]
theorem rdH_Ws {u : List Int} (h : Ws u) : Ws (rdH u) := fun x hx => h x (List.mem_of_mem_take hx)
theorem rdN_bd {u : List Int} (h : Ws u) : 0 ≤ rdN u ∧ rdN u < 18446744073709551616 := by
  have h1 := xo_bd _ _ (h.get 12) (ivL_Ws.get 4)
  have h2 := xo_bd _ _ (h.get 13) (ivL_Ws.get 5)
  obtain ⟨a1, a2⟩ := h1
  obtain ⟨b1, b2⟩ := h2
  unfold rdN
  omega
theorem or_add (a b : Int) (ha : W a) (hb : W b) : bits .or .u64 a (b * 4294967296) = a + b * 4294967296 := by
  obtain ⟨a1, a2⟩ := ha
  obtain ⟨b1, b2⟩ := hb
  obtain ⟨A, rfl⟩ := Int.eq_ofNat_of_zero_le a1
  obtain ⟨B, rfl⟩ := Int.eq_ofNat_of_zero_le b1
  have e : (B : Int) * 4294967296 = ((B * 4294967296 : Nat) : Int) := by omega
  rw [e, u64_or_nat A (B * 4294967296) (by omega) (by omega)]
  have h2 : B * 4294967296 = B <<< 32 := by rw [Nat.shiftLeft_eq]
  rw [h2, Nat.or_comm, ← Nat.shiftLeft_add_eq_or_of_lt (by omega : A < 2 ^ 32)]
  omega
/-- Of what a state came: what it says, if it is the beginning of it; and whether it is. -/
def opOk (u : List Int) : Bool := decide (beginL (rdH u) (rdN u) (rdA u) (rdB u) = u)
def opH (u : List Int) : List Int := if opOk u then rdH u else List.replicate 8 0
def opN (u : List Int) : Int := if opOk u then rdN u else 0
def opA (u : List Int) : Bool := opOk u && rdA u
def opB (u : List Int) : Bool := opOk u && rdB u
theorem opOk_eq (u : List Int) : decide (beginL (rdH u) (rdN u) (rdA u) (rdB u) = u) = opOk u := rfl
theorem rdN_eq (u : List Int) : rdN u = xo (u.getD 12 0) (ivL.getD 4 0) + xo (u.getD 13 0) (ivL.getD 5 0) * 4294967296 := rfl
theorem rdA_eq (u : List Int) : rdA u = (u.getD 14 0 != ivL.getD 6 0) := rfl
theorem rdB_eq (u : List Int) : rdB u = (u.getD 15 0 != ivL.getD 7 0) := rfl
theorem op_res (u : List Int) : Ending.returned (.tuple #[.agg (K .u32 (opH u)), .int .u64 (opN u), .bool (opA u), .bool (opB u), .bool (opOk u)]) = Ending.returned (if opOk u then .tuple #[.agg (K .u32 (rdH u)), .int .u64 (rdN u), .bool (rdA u), .bool (rdB u), .bool true] else .tuple #[.agg (K .u32 (List.replicate 8 0)), .int .u64 0, .bool false, .bool false, .bool false]) := by
  unfold opH opN opA opB
  generalize opOk u = b
  cases b <;> simp
theorem op_fin (u h8 : List Int) (N : Int) (A Bb ok : Bool) (h1 : rdH u = h8) (h2 : rdN u = N) (h3 : rdA u = A) (h4 : rdB u = Bb) (h5 : opOk u = ok) (_ : Unit) : Ending.returned (if ok then .tuple #[.agg (K .u32 h8), .int .u64 N, .bool A, .bool Bb, .bool true] else .tuple #[.agg (K .u32 (List.replicate 8 0)), .int .u64 0, .bool false, .bool false, .bool false]) = Ending.returned (.tuple #[.agg (K .u32 (opH u)), .int .u64 (opN u), .bool (opA u), .bool (opB u), .bool (opOk u)]) := by
  subst h1 h2 h3 h4 h5
  exact (op_res u).symm
theorem opH_length (u : List Int) (h : u.length = 16) : (opH u).length = 8 := by
  unfold opH; split
  · exact rdH_length u h
  · rfl
theorem results_row_tmps3 {P : Program} {fn : Func} {p q r s : Tmp} {ty : TypeId} (h : fn.results = #[.cell p ty, .tmp q, .tmp r, .tmp s]) (tmps : Array Value) (w : World) (g : Nat) (t : TypeId) (cs : Array Value) (fr : Nat × Nat) (d : TypeDesc) (v v2 v3 : Value)
    (hp : tmps.getD p undef = .pointer (some ⟨g, 0, none⟩)) (hq : tmps.getD q undef = v) (hr : tmps.getD r undef = v2) (hs : tmps.getD s undef = v3) (hg : w.heap[g]? = some (.cells cs t fr))
    (hu : P.underlying ty = some d) (hd : (match d with | .struct _ | .array _ _ => true | _ => false) = true) (hi : (P.info? ty).map (·.size) = some cs.size) :
    (results fn tmps).run P w = .ok (.tuple #[.agg cs, v, v2, v3]) w := by
  have hp' : tmps[p]?.getD undef = .pointer (some ⟨g, 0, none⟩) := by simpa using hp
  have hq' : tmps[q]?.getD undef = v := by simpa using hq
  have hr' : tmps[r]?.getD undef = v2 := by simpa using hr
  have hs' : tmps[s]?.getD undef = v3 := by simpa using hs
  simp [results, h, hp', hq', hr', hs', asAddr, run_loadVar_row w g t ty cs fr d hg hu hd hi]
theorem results_row_tmps4 {P : Program} {fn : Func} {p q r s x : Tmp} {ty : TypeId} (h : fn.results = #[.cell p ty, .tmp q, .tmp r, .tmp s, .tmp x]) (tmps : Array Value) (w : World) (g : Nat) (t : TypeId) (cs : Array Value) (fr : Nat × Nat) (d : TypeDesc) (v v2 v3 v4 : Value)
    (hp : tmps.getD p undef = .pointer (some ⟨g, 0, none⟩)) (hq : tmps.getD q undef = v) (hr : tmps.getD r undef = v2) (hs : tmps.getD s undef = v3) (hx : tmps.getD x undef = v4) (hg : w.heap[g]? = some (.cells cs t fr))
    (hu : P.underlying ty = some d) (hd : (match d with | .struct _ | .array _ _ => true | _ => false) = true) (hi : (P.info? ty).map (·.size) = some cs.size) :
    (results fn tmps).run P w = .ok (.tuple #[.agg cs, v, v2, v3, v4]) w := by
  have hp' : tmps[p]?.getD undef = .pointer (some ⟨g, 0, none⟩) := by simpa using hp
  have hq' : tmps[q]?.getD undef = v := by simpa using hq
  have hr' : tmps[r]?.getD undef = v2 := by simpa using hr
  have hs' : tmps[s]?.getD undef = v3 := by simpa using hs
  have hx' : tmps[x]?.getD undef = v4 := by simpa using hx
  simp [results, h, hp', hq', hr', hs', hx', asAddr, run_loadVar_row w g t ty cs fr d hg hu hd hi]
end MX
end Go.Proofs.YtecepllidmkmhabDoor
