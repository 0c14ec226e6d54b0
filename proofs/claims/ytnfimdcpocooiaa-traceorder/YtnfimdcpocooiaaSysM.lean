/-
  A system as it lies in memory; what fields and bound of the document give.
-/
import Derived.Test.YtnfimdcpocooiaaRuns
import Derived.Test.YtnfimdcpocooiaaPlain
import Derived.Test.YtnfimdcpocooiaaOrder
namespace Go.Proofs.Ytnfimdcpocooiaa
open Go.RowKit
set_option linter.unusedVariables false
set_option linter.unusedSimpArgs false
namespace LW
open Mc
/-- Instructions, wherever they lie. -/
def IR (W : World) (a : Option Addr) (l : List Ins) : Prop := l = [] ∨ ∃ b off, a = some ⟨b, off, none⟩ ∧ ∀ j, j < l.length → W.cell? ⟨b, off + j * 4, none⟩ = some (.int .i64 (l.getD j i0).op) ∧ W.cell? ⟨b, off + j * 4 + 1, none⟩ = some (.int .i64 (l.getD j i0).a) ∧ W.cell? ⟨b, off + j * 4 + 2, none⟩ = some (.int .i64 (l.getD j i0).b) ∧ W.cell? ⟨b, off + j * 4 + 3, none⟩ = some (.int .i64 (l.getD j i0).c)
theorem IR.below {w w' : World} {a : Option Addr} {l : List Ins} (h : IR w a l) (hb : Below w.heap.size w w') : IR w' a l := by
  rcases h with h | ⟨b, off, rfl, hc⟩
  · exact .inl h
  · refine .inr ⟨b, off, rfl, fun j hj => ?_⟩
    obtain ⟨h1, h2, h3, h4⟩ := hc j hj
    exact ⟨by rw [hb.cell (lt_of_cell h1)]; exact h1, by rw [hb.cell (lt_of_cell h2)]; exact h2, by rw [hb.cell (lt_of_cell h3)]; exact h3, by rw [hb.cell (lt_of_cell h4)]; exact h4⟩
/-- Programs, wherever they lie. -/
def PR (W : World) (a : Option Addr) (ps : List (List Ins)) : Prop := ps = [] ∨ ∃ b off, a = some ⟨b, off, none⟩ ∧ ∀ p, p < ps.length → ∃ A K, W.cell? ⟨b, off + p, none⟩ = some (.slice A (ps.getD p []).length K) ∧ IR W A (ps.getD p [])
theorem PR.below {w w' : World} {a : Option Addr} {ps : List (List Ins)} (h : PR w a ps) (hb : Below w.heap.size w w') : PR w' a ps := by
  rcases h with h | ⟨b, off, rfl, hc⟩
  · exact .inl h
  · refine .inr ⟨b, off, rfl, fun p hp => ?_⟩
    obtain ⟨A, K, h1, h2⟩ := hc p hp
    exact ⟨A, K, by rw [hb.cell (lt_of_cell h1)]; exact h1, h2.below hb⟩
/-- Numbers, wherever they lie. -/
def NR (W : World) (a : Option Addr) (xs : List Int) : Prop := xs = [] ∨ ∃ b off, a = some ⟨b, off, none⟩ ∧ ∀ j, j < xs.length → W.cell? ⟨b, off + j, none⟩ = some (.int .i64 (xs.getD j 0))
theorem NR.below {w w' : World} {a : Option Addr} {xs : List Int} (h : NR w a xs) (hb : Below w.heap.size w w') : NR w' a xs := by
  rcases h with h | ⟨b, off, rfl, hc⟩
  · exact .inl h
  · exact .inr ⟨b, off, rfl, fun j hj => by rw [hb.cell (lt_of_cell (hc j hj))]; exact hc j hj⟩
/-- A system's cells. -/
def syC (s : Syst) (pa : Option Addr) (pc : Nat) (ra : Option Addr) (rc : Nat) : Array Value := #[.slice pa s.progs.length pc, .slice ra s.rooms.length rc, .int .i64 s.groups, .int .i64 s.locks, .int .i64 s.cells]
/-- A system's memory. -/
structure SM (W : World) (s : Syst) (pa ra : Option Addr) : Prop where
  pr : PR W pa s.progs
  rm : NR W ra s.rooms
theorem SM.below {w w' : World} {s : Syst} {pa ra : Option Addr} (h : SM w s pa ra) (hb : Below w.heap.size w w') : SM w' s pa ra := ⟨h.pr.below hb, h.rm.below hb⟩
theorem cellsY5 {w : World} {b : Nat} {t : TypeId} {v0 v1 v2 v3 v4 : Value} (h : w.heap[b]? = some (.cells #[v0, v1, v2, v3, v4] t (0, 0))) : w.cell? ⟨b, 0, none⟩ = some v0 ∧ w.cell? ⟨b, 1, none⟩ = some v1 ∧ w.cell? ⟨b, 2, none⟩ = some v2 ∧ w.cell? ⟨b, 3, none⟩ = some v3 ∧ w.cell? ⟨b, 4, none⟩ = some v4 := by
  simp [World.cell?, h]
theorem cellsY4 {w : World} {b : Nat} {t : TypeId} {v0 v1 v2 v3 : Value} (h : w.heap[b]? = some (.cells #[v0, v1, v2, v3] t (0, 0))) : w.cell? ⟨b, 0, none⟩ = some v0 ∧ w.cell? ⟨b, 1, none⟩ = some v1 ∧ w.cell? ⟨b, 2, none⟩ = some v2 ∧ w.cell? ⟨b, 3, none⟩ = some v3 := by
  simp [World.cell?, h]
/-- The texts of fields. -/
def flT : List ByteArray := [⟨#[]⟩, ⟨#[114, 120, 110]⟩, ⟨#[114, 114, 110]⟩, ⟨#[114, 114, 112]⟩, ⟨#[110, 110, 112]⟩, ⟨#[99, 114, 110]⟩, ⟨#[99, 114, 112]⟩, ⟨#[99, 110, 110]⟩, ⟨#[108, 110, 110]⟩, ⟨#[108, 110, 110]⟩, ⟨#[103, 120, 110]⟩, ⟨#[103, 110, 110]⟩, ⟨#[114, 114, 110]⟩, ⟨#[114, 114, 110]⟩, ⟨#[115, 110, 110]⟩, ⟨#[120, 114, 110]⟩, ⟨#[110, 110, 110]⟩]
def fdT (op : Int) : ByteArray := if op < 1 ∨ 17 ≤ op then ⟨#[]⟩ else flT.getD op.toNat ⟨#[]⟩
set_option maxRecDepth 100000 in
set_option maxHeartbeats 1000000 in
theorem rfields (op : Int) (w : World) : Calls Try.prog 77 #[.int .i64 op] w fun e w' => e = .returned (.string (fdT op)) ∧ Below w.heap.size w w' := by
  have hb0 := (Below.refl w.heap.size w).alloc (Nat.le_refl _) (.cells (flT.map Value.string).toArray 9)
  have n0 := heap_alloc_new w (.cells (flT.map Value.string).toArray 9)
  have hcl : ∀ o : Nat, o < 17 → (w.alloc (.cells (flT.map Value.string).toArray 9)).cell? ⟨w.heap.size, o, none⟩ = some (.string (flT.getD o ⟨#[]⟩)) := fun o ho => by
    refine blk_cell n0 ?_
    have hl : flT.length = 17 := rfl
    rw [List.getElem?_toArray, List.getElem?_map, List.getElem?_eq_getElem (by rw [hl]; exact ho), List.getD_eq_getElem?_getD, List.getElem?_eq_getElem (by rw [hl]; exact ho)]
    rfl
  have HB := TW.hide hb0
  have HC := TW.hide hcl
  clear hb0 n0 hcl
  rw [show (flT.map Value.string).toArray = #[.string ⟨#[]⟩, .string ⟨#[114, 120, 110]⟩, .string ⟨#[114, 114, 110]⟩, .string ⟨#[114, 114, 112]⟩, .string ⟨#[110, 110, 112]⟩, .string ⟨#[99, 114, 110]⟩, .string ⟨#[99, 114, 112]⟩, .string ⟨#[99, 110, 110]⟩, .string ⟨#[108, 110, 110]⟩, .string ⟨#[108, 110, 110]⟩, .string ⟨#[103, 120, 110]⟩, .string ⟨#[103, 110, 110]⟩, .string ⟨#[114, 114, 110]⟩, .string ⟨#[114, 114, 110]⟩, .string ⟨#[115, 110, 110]⟩, .string ⟨#[120, 114, 110]⟩, .string ⟨#[110, 110, 110]⟩] from rfl] at HB HC
  go_enter Try.func77, Try.ntmps77
  refine wp_seq_k fun K hK => ?_
  have HK := TW.hide hK
  clear hK
  go_wp2
  refine HK.out _ _ ?_
  clear HK K
  refine wp_seq_k fun K hK => ?_
  have HK := TW.hide hK
  clear hK
  go_wp2
  refine HK.out _ _ ?_
  clear HK K
  generalize w.alloc _ = X at *
  have HF : Hid (fdT op = if op < 1 ∨ 17 ≤ op then ⟨#[]⟩ else flT.getD op.toNat ⟨#[]⟩) := rfl
  generalize fdT op = F at *
  by_cases h1 : op < 1
  · have HE : Hid (F = ⟨#[]⟩) := by show _ = _; rw [HF.out, if_pos (.inl h1)]
    go_wp2
    go_ret
    exact ⟨by rw [HE.out]; rfl, HB.out⟩
  · by_cases h2 : 17 ≤ op
    · have HE : Hid (F = ⟨#[]⟩) := by show _ = _; rw [HF.out, if_pos (.inr h2)]
      have h3 : ¬ op < 17 := by omega
      go_wp2
      go_ret
      exact ⟨by rw [HE.out]; rfl, HB.out⟩
    · have HE : Hid (F = flT.getD op.toNat ⟨#[]⟩) := by show _ = _; rw [HF.out, if_neg (by omega)]
      obtain ⟨o, rfl⟩ : ∃ o : Nat, op = (o : Int) := ⟨op.toNat, by omega⟩
      have h3 : (o : Int) < 17 := by omega
      have h4 : (0 : Int) ≤ (o : Int) := by omega
      have hc := HC.out o (by omega)
      rw [show flT.getD o ⟨#[]⟩ = F by rw [HE.out]; rfl] at hc
      clear HC HF HE
      go_wp2
      go_ret
      exact ⟨rfl, HB.out⟩
set_option maxRecDepth 100000 in
set_option maxHeartbeats 1000000 in
theorem rbound (s : Syst) (pa : Option Addr) (pc : Nat) (ra : Option Addr) (rc : Nat) (p : Nat) (c : Int) (w : World) (hS : SM w s pa ra) (hp : p < s.progs.length) (hl : (s.progs.getD p []).length ≤ 4611686018427387904) :
    Calls Try.prog 78 #[.agg (syC s pa pc ra rc), .int .i64 p, .int .u8 c] w fun e w' => e = .returned (.int .i64 (bdM s p c)) ∧ Below w.heap.size w w' := by
  obtain ⟨b, off, rfl, A, K, hpc⟩ : ∃ b off, pa = some ⟨b, off, none⟩ ∧ ∃ A K, w.cell? ⟨b, off + p, none⟩ = some (.slice A (s.progs.getD p []).length K) := by
    rcases hS.pr with h | ⟨b, off, e, hc⟩
    · rw [h] at hp; simp at hp
    · obtain ⟨A, K, h1, _⟩ := hc p hp
      exact ⟨b, off, e, A, K, h1⟩
  unfold syC
  have n0 := heap_alloc_new w (.cells #[.slice (some ⟨b, off, none⟩) s.progs.length pc, .slice ra s.rooms.length rc, .int .i64 s.groups, .int .i64 s.locks, .int .i64 s.cells] 25)
  have hb0 := (Below.refl w.heap.size w).alloc (Nat.le_refl _) (.cells #[.slice (some ⟨b, off, none⟩) s.progs.length pc, .slice ra s.rooms.length rc, .int .i64 s.groups, .int .i64 s.locks, .int .i64 s.cells] 25)
  rw [← hb0.cell (lt_of_cell hpc)] at hpc
  obtain ⟨c0, c1, c2, c3, c4⟩ := cellsY5 n0
  have HB := TW.hide hb0
  have HE : Hid (bdM s p c = if c = 114 then 8 else if c = 112 then ((s.progs.getD p []).length : Int) + 1 else if c = 99 then s.rooms.length else if c = 108 then s.locks else if c = 103 then s.groups else if c = 115 then s.progs.length else 1) := rfl
  generalize bdM s p c = E at *
  clear n0 hb0 hS
  generalize (s.progs.getD p []).length = pl at *
  generalize hn : s.progs.length = n at *
  have hp1 : (p : Int) < (n : Int) := by omega
  have hp0 : (0 : Int) ≤ (p : Int) := by omega
  have ew : IntKind.i64.wrap ((pl : Int) + 1) = (pl : Int) + 1 := by rw [IntKind.wrap_i64]; omega
  clear hn hp
  go_enter Try.func78, Try.ntmps78
  refine wp_seq_k fun K hK => ?_
  have HK := TW.hide hK
  clear hK
  go_wp2_with fail
  refine HK.out _ _ ?_
  clear HK K
  generalize w.alloc _ = X at *
  by_cases h1 : c = 114
  · have HF : Hid (E = 8) := by show _ = _; rw [HE.out, if_pos h1]
    have k1 : (c == 114) = true := by simp [h1]
    clear h1
    go_wp2
    go_ret
    exact ⟨by rw [HF.out]; rfl, HB.out⟩
  have k1 : (c == 114) = false := by simp [h1]
  by_cases h2 : c = 112
  · have HF : Hid (E = (pl : Int) + 1) := by show _ = _; rw [HE.out, if_neg h1, if_pos h2]
    have k2 : (c == 112) = true := by simp [h2]
    clear h1 h2
    go_wp2
    go_ret
    exact ⟨by rw [HF.out]; rfl, HB.out⟩
  have k2 : (c == 112) = false := by simp [h2]
  by_cases h3 : c = 99
  · have HF : Hid (E = (s.rooms.length : Int)) := by show _ = _; rw [HE.out, if_neg h1, if_neg h2, if_pos h3]
    have k3 : (c == 99) = true := by simp [h3]
    clear h1 h2 h3
    go_wp2
    go_ret
    exact ⟨by rw [HF.out]; rfl, HB.out⟩
  have k3 : (c == 99) = false := by simp [h3]
  by_cases h4 : c = 108
  · have HF : Hid (E = s.locks) := by show _ = _; rw [HE.out, if_neg h1, if_neg h2, if_neg h3, if_pos h4]
    have k4 : (c == 108) = true := by simp [h4]
    clear h1 h2 h3 h4
    go_wp2
    go_ret
    exact ⟨by rw [HF.out]; rfl, HB.out⟩
  have k4 : (c == 108) = false := by simp [h4]
  by_cases h5 : c = 103
  · have HF : Hid (E = s.groups) := by show _ = _; rw [HE.out, if_neg h1, if_neg h2, if_neg h3, if_neg h4, if_pos h5]
    have k5 : (c == 103) = true := by simp [h5]
    clear h1 h2 h3 h4 h5
    go_wp2
    go_ret
    exact ⟨by rw [HF.out]; rfl, HB.out⟩
  have k5 : (c == 103) = false := by simp [h5]
  by_cases h6 : c = 115
  · have HF : Hid (E = (n : Int)) := by show _ = _; rw [HE.out, if_neg h1, if_neg h2, if_neg h3, if_neg h4, if_neg h5, if_pos h6]
    have k6 : (c == 115) = true := by simp [h6]
    clear h1 h2 h3 h4 h5 h6
    go_wp2
    go_ret
    exact ⟨by rw [HF.out]; rfl, HB.out⟩
  have k6 : (c == 115) = false := by simp [h6]
  have HF : Hid (E = 1) := by show _ = _; rw [HE.out, if_neg h1, if_neg h2, if_neg h3, if_neg h4, if_neg h5, if_neg h6]
  clear h1 h2 h3 h4 h5 h6
  go_wp2
  go_ret
  exact ⟨by rw [HF.out]; rfl, HB.out⟩
end LW
end Go.Proofs.Ytnfimdcpocooiaa
