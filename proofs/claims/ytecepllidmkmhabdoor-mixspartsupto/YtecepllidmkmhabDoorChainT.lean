/-
  What Chain answers for all bytes, told in one word.
-/
import Derived.Test.YtecepllidmkmhabDoorChainB
namespace Go.Proofs.YtecepllidmkmhabDoor
open Go.RowKit
set_option linter.unusedVariables false
set_option linter.unusedSimpArgs false
namespace MX
open Turn
attribute [local go_sem ↓] Go.wp_at_zero Go.wp_at_succ
open Words
def chR (hs zs : List Int) (n : Int) : List Int := if zs.length % 64 = 0 then chH hs zs n (zs.length / 64) else List.replicate 8 0
def chC (zs : List Int) (n : Int) : Int := if zs.length % 64 = 0 then cnt n (zs.length / 64) else 0
def chE (zs : List Int) : Int := if zs.length % 64 = 0 then 0 else 1
theorem chR_ok {hs zs : List Int} (n : Int) (hl : hs.length = 8) (hw : Ws hs) (hz : Byt zs) : (chR hs zs n).length = 8 ∧ Ws (chR hs zs n) := by
  unfold chR; split
  · exact chH_ok n hl hw hz _
  · exact ⟨rfl, fun x hx => by rw [List.eq_of_mem_replicate hx]; exact ⟨by decide, by decide⟩⟩
theorem chC_bd (zs : List Int) (n : Int) : 0 ≤ chC zs n ∧ chC zs n < 18446744073709551616 := by
  unfold chC; split
  · exact cnt_bd _ _
  · exact ⟨by decide, by decide⟩
theorem chainT (hs : List Int) (a : Option Addr) (cap : Nat) (zs : List Int) (n : Int) (w : World) (ti : Tab w 0 .u32 ivL) (to : Tab w 1 .u8 ordL) (hl : hs.length = 8) (hw : Ws hs) (hz : Byt zs) (hr : LW.Row w a zs) (hc : zs.length ≤ cap) (hx : zs.length ≤ 140737488351232) (wn : 0 ≤ n) (wn' : n < 18446744073709551616) :
    Calls Tryd.prog 9 #[.agg (K .u32 hs), .slice a zs.length cap, .int .u64 n] w fun e w' => e = .returned (.tuple #[.agg (K .u32 (chR hs zs n)), .int .u64 (chC zs n), .int .i64 (chE zs)]) ∧ Below w.heap.size w w' := by
  unfold chR chC chE
  by_cases h : zs.length % 64 = 0
  · have hm : zs.length = 64 * (zs.length / 64) := by omega
    have h1 := chainOk hs a cap (zs.length / 64) zs n w ti to hl hw hz hr hm hc hx wn wn'
    rw [← hm] at h1
    simp only [h, if_true]
    exact h1
  · simp only [h, if_false]
    exact chainNo hs a cap zs.length n w h hx
theorem rchainT (hs : List Int) (a : Option Addr) (cap : Nat) (zs : List Int) (n : Int) (w : World) (hl : hs.length = 8) (hw : Ws hs) (hz : Byt zs) (hr : LW.Row w a zs) (hc : zs.length ≤ cap) (hx : zs.length ≤ 140737488351232) (wn : 0 ≤ n) (wn' : n < 18446744073709551616) :
    Calls Tryd.prog 10 #[.agg (K .u32 hs), .slice a zs.length cap, .int .u64 n] w fun e w' => e = .returned (.tuple #[.agg (K .u32 (chR hs zs n)), .int .u64 (chC zs n), .int .i64 (chE zs)]) ∧ Below w.heap.size w w' := by
  unfold chR chC chE
  by_cases h : zs.length % 64 = 0
  · have hm : zs.length = 64 * (zs.length / 64) := by omega
    have h1 := rchainOk hs a cap (zs.length / 64) zs n w hl hw hz hr hm hc hx wn wn'
    rw [← hm] at h1
    simp only [h, if_true]
    exact h1
  · simp only [h, if_false]
    exact rchainNo hs a cap zs.length n w h hx
theorem row_prefix {w : World} {a : Option Addr} {zs ys : List Int} (h : LW.Row w a (zs ++ ys)) : LW.Row w a zs := by
  rcases h with h | ⟨b, off, rfl, hc⟩
  · exact .inl (List.append_eq_nil_iff.1 h).1
  · refine .inr ⟨b, off, rfl, fun i hi => ?_⟩
    rw [hc i (by rw [List.length_append]; omega)]
    simp [List.getD_eq_getElem?_getD, List.getElem?_append_left hi]
/-- The front of a slice. -/
theorem exec_sliceH {P : Program} {o : Oper} {a : Act} {w : World} (t : TypeId) (x hi : Operand) (ho : o.op = .slice t x none (some hi) none) (b off len cap n : Nat) (H : Int) (e : TypeId) (hx : a.eval x = .slice (some ⟨b, off, none⟩) len cap)
    (hhi : a.eval hi = .int .i64 H) (hH : H = (n : Int)) (hc : n ≤ cap) (hu : P.underlying t = some (.slice e)) (hs : (P.info? e).map (·.size) = some 1) :
    (execOp a.eval o).run P w = .ok (.value (.slice (some ⟨b, off, none⟩) n cap)) w := by
  cases hq : P.info? e with
  | none => simp [hq] at hs
  | some ie =>
    have he : ie.size = 1 := by simpa [hq] using hs
    have hel : P.elem t = e := by simp [Program.elem, hu]
    have hu' : P.underlying t = some (.slice (P.elem t)) := by rw [hel]; exact hu
    have h1 : (Instr.sliceAt t (.slice (some ⟨b, off, none⟩) len cap) none (some (.int .i64 H)) none).run P w = .ok (.slice (some ⟨b, off, none⟩) n cap) w := by
      rw [run_sliceAt_slice w t _ _ _ _ hu', run_slice_h w t _ len cap hu' .i64 H (by omega) (by omega), hel]
      have e2 : H.toNat = n := by omega
      simp [sizeOf, typeInfo, hq, he, e2, sliced, Addr.add_mid]
    unfold execOp
    simp only [ho, hx, hhi, Option.map_some, Option.map_none, Sem.run_bind, h1, Result.andThen_ok, Sem.run_pure]
end MX
end Go.Proofs.YtecepllidmkmhabDoor
