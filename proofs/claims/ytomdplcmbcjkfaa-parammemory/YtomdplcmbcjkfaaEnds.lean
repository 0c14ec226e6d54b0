/-
  What the call withoutEnd gives: the bytes without the noughts at their end.
-/
import Derived.Test.YtomdplcmbcjkfaaClone
namespace Go.Proofs.Ytomdplcmbcjkfaa
open Go.RowKit
set_option linter.unusedVariables false
namespace LW
open Words
/-- How many of the first n bytes are left. -/
def tn (zs : List Int) : Nat → Nat
  | 0 => 0
  | n + 1 => if zs.getD n 0 = 0 then tn zs n else n + 1
theorem tn_le (zs : List Int) : ∀ n, tn zs n ≤ n
  | 0 => Nat.le_refl _
  | n + 1 => by have := tn_le zs n; unfold tn; split <;> omega
/-- Bytes without the noughts at their end. -/
def tr (zs : List Int) : List Int := zs.take (tn zs zs.length)
theorem tr_length (zs : List Int) : (tr zs).length = tn zs zs.length := by
  have := tn_le zs zs.length
  simp [tr]; omega
theorem Byt.tr {zs : List Int} (h : Byt zs) : Byt (tr zs) := h.take _
theorem Row.tr {w : World} {a : Option Addr} {zs : List Int} (h : Row w a zs) : Row w a (tr zs) := by
  rcases h with rfl | ⟨b, off, rfl, hc⟩
  · exact .inl rfl
  · refine .inr ⟨b, off, rfl, fun i hi => ?_⟩
    rw [tr_length] at hi
    have hle := tn_le zs zs.length
    rw [hc i (by omega)]
    simp [LW.tr, List.getD_eq_getElem?_getD, hi]
set_option maxHeartbeats 1000000 in
theorem withoutEnd (a : Option Addr) (cap : Nat) (zs : List Int) (w : World) (hr : Row w a zs) (hn : a = none → cap = 0) (hm : zs.length ≤ 140737488355328) (hcap : zs.length ≤ cap) :
    Calls Try.prog 19 #[.slice a zs.length cap] w fun e w' => e = .returned (.slice a (tr zs).length cap) ∧ ∃ q, w' = w.drewN q := by
  rw [tr_length]
  cases a with
  | none =>
    obtain rfl := hn rfl
    obtain rfl : zs = [] := by rcases hr with h | ⟨b, off, h, _⟩ <;> first | exact h | cases h
    clear hr hn
    go_enter Try.func19, Try.ntmps19
    go_wp2
    go_loop [3] (fun i => i = .int .i64 0) (fun _ => 0)
    case atStart => rfl
    case round =>
      subst hrel
      go_wp2
      go_ret
      exact ⟨rfl, 0, rfl⟩
  | some ad =>
    obtain ⟨b, off, spot⟩ := ad
    by_cases hz : zs = []
    · subst hz
      clear hr hn
      go_enter Try.func19, Try.ntmps19
      go_wp2
      go_loop [3] (fun i => i = .int .i64 0) (fun _ => 0)
      case atStart => rfl
      case round =>
        subst hrel
        go_wp2
        go_ret
        exact ⟨rfl, 0, rfl⟩
    · rcases hr with h | ⟨b', off', he, hcell⟩
      · exact absurd h hz
      · cases he
        have hstep : ∀ k, tn zs (k + 1) = if zs.getD k 0 = 0 then tn zs k else k + 1 := fun k => rfl
        have h0 : tn zs 0 = 0 := rfl
        generalize hlen : zs.length = len at *
        have H1 := TW.hide hcell
        have HS := TW.hide hstep
        have H0 := TW.hide h0
        clear hcell hstep h0 hz hlen hn
        go_enter Try.func19, Try.ntmps19
        go_wp2
        go_loopw [3] (fun i wr => ∃ (k q : Nat), k ≤ len ∧ i = .int .i64 k ∧ Hid (tn zs k = tn zs len) ∧ wr = w.drewN q) (fun i _ => (intOf i).toNat)
        case atStart => exact ⟨len, 0, Nat.le_refl _, rfl, rfl, rfl⟩
        case round =>
          obtain ⟨k, q, hk, rfl, HT, rfl⟩ := hrel
          cases k with
          | zero =>
            go_wp2
            go_ret
            exact ⟨by rw [← HT.out, H0.out]; rfl, q, rfl⟩
          | succ k =>
            have hc := H1.out k (by omega)
            have hs := HS.out k
            have hsub : (((k + 1 : Nat) : Int) - 1) = (k : Int) := by omega
            have hpos : (0 : Int) < ((k + 1 : Nat) : Int) := by omega
            have hk0 : (0 : Int) ≤ (k : Int) := by omega
            have hk1 : (k : Int) < (len : Int) := by omega
            generalize zs.getD k 0 = z at *
            by_cases hz : z = 0
            · subst hz
              have HT' : Hid (tn zs k = tn zs len) := by have := HT.out; rw [hs, if_pos rfl] at this; exact this
              clear hs HT
              go_wp2
              go_roundw
              case rel => exact ⟨k, _, by omega, by go_num, HT', rfl⟩
              case measure => simp [intOf]
            · have hz' : (z == 0) = false := by simp [hz]
              have HT' : Hid (k + 1 = tn zs len) := by have := HT.out; rw [hs, if_neg hz] at this; exact this
              clear hs HT hz
              go_wp2
              go_ret
              exact ⟨by rw [← HT'.out]; rfl, _, rfl⟩
end LW
end Go.Proofs.Ytomdplcmbcjkfaa
