/-
  What the call Hex (the program) gives: two digits a byte, for every row of bytes of at most 2^46.
-/
import Derived.Test.YteakoajkmcbilabDoorCopied
import Derived.Deep.RegionHeld3
import Derived.Deep.AppendLies
import Derived.Deep.DrawnRows
import Derived.Laws.BytesArg
namespace Go.Proofs.YteakoajkmcbilabDoor
open Go.RowKit
set_option linter.unusedVariables false
namespace LW
open Words
/-- The digit's byte. -/
def dg (n : Int) : Int := if n < 10 then 48 + n else 87 + n
/-- Two digits a byte. -/
def hx : List Int → List Int
  | [] => []
  | z :: l => dg (z / 16) :: dg (z % 16) :: hx l
theorem hx_append (a b : List Int) : hx (a ++ b) = hx a ++ hx b := by
  induction a with
  | nil => rfl
  | cons z a ih => simp [hx, ih]
theorem hx_length (a : List Int) : (hx a).length = 2 * a.length := by
  induction a with
  | nil => rfl
  | cons z a ih => simp [hx, ih]; omega
theorem and15 (z : Int) (h0 : 0 ≤ z) (h1 : z < 256) : bits BinOp.and IntKind.u8 z 15 = z % 16 := by
  rw [u8_and z 15 h0 h1 (by omega) (by omega), show (15 : Int).toNat = 15 from rfl, nat_mask4]; omega
set_option maxRecDepth 100000 in
theorem digit (n : Int) (h0 : 0 ≤ n) (h1 : n < 16) (w : World) :
    (Instr.index 9 (.string ⟨#[48, 49, 50, 51, 52, 53, 54, 55, 56, 57, 97, 98, 99, 100, 101, 102]⟩) (.int .u8 n)).run Tryd.prog w = .ok (.int .u8 (dg n)) w := by
  have : n = 0 ∨ n = 1 ∨ n = 2 ∨ n = 3 ∨ n = 4 ∨ n = 5 ∨ n = 6 ∨ n = 7 ∨ n = 8 ∨ n = 9 ∨ n = 10 ∨ n = 11 ∨ n = 12 ∨ n = 13 ∨ n = 14 ∨ n = 15 := by omega
  rcases this with rfl | rfl | rfl | rfl | rfl | rfl | rfl | rfl | rfl | rfl | rfl | rfl | rfl | rfl | rfl | rfl <;> rfl
/-- A row of bytes that the call owns, as a string. -/
theorem conv_own {w : World} {B n : Nat} {v : Value} {xs : List Int} (h : w.ownsRow B 5 1 v n (vs xs)) (hl : xs.length = n) :
    (convert 24 9 v).run Tryd.prog w = .ok (.string (strOfNums xs)) w := by
  subst hl
  rcases h.2 with ⟨rfl, h0⟩ | ⟨g, cap, cur, rfl, hg, hh, hn, hm, hc, ht⟩
  · obtain rfl := List.length_eq_zero_iff.1 h0
    exact run_convert_bytes_nil w 24 5 Tryd.underlying24 Tryd.underlying5 _ _ 9 Tryd.underlying9
  · refine run_convert_bytes_arg w 24 5 Tryd.underlying24 Tryd.underlying5 g 0 _ cap xs rfl (fun i hi => ?_) 9 Tryd.underlying9
    rw [Nat.zero_add, h.cellAt i (by omega), vs_get xs i hi]
attribute [local go_sem ↓] Go.wp_at_zero Go.wp_at_succ
set_option maxRecDepth 100000 in
set_option maxHeartbeats 3200000 in
theorem hex (a : Option Addr) (cap : Nat) (zs : List Int) (w : World) (hz : Byt zs) (hr : Row w a zs) (hm : 2 * zs.length ≤ 140737488355328) :
    Calls Tryd.prog 58 #[.slice a zs.length cap] w fun e w' => e = .returned (.string (strOfNums (hx zs))) ∧ Below w.heap.size w w' := by
  obtain ⟨i0, hi, hz0, hz1, hz2⟩ := info_parts info5
  rcases hr with rfl | ⟨b, off, rfl, hcell⟩
  · have hcv := fun W : World => run_convert_bytes_arg (P := Tryd.prog) W 24 5 Tryd.underlying24 Tryd.underlying5 w.heap.size 0 0 0 [] rfl (fun i h => absurd h (Nat.not_lt_zero _)) 9 Tryd.underlying9
    clear hz hm
    go_enter Tryd.func58, Tryd.ntmps58
    go_wp2_with (at_make; refine wpList_make_own _ rfl _ _ 24 rfl w.heap.size 5 i0 (.int .u8 0) 1 Tryd.underlying24 hi hz0 hz1 _ _ _ 0 rfl rfl (by simp) (by omega) (by unfold maxLen; omega) (by omega) ?_; intro w1 hown hgrow)
    have hbel : Below w.heap.size w w1 := (Below.refl _ _).grown hgrow (Nat.le_refl _) (by intro k h; cases h)
    have HB := TW.hide hbel
    clear hown hgrow hbel
    go_loop [3, 11] (fun t i => t = .slice (some ⟨w.heap.size, 0, none⟩) 0 0 ∧ i = .int .i64 0) (fun _ _ => 0)
    case atStart => exact ⟨rfl, rfl⟩
    case round =>
      obtain ⟨rfl, rfl⟩ := hrel
      go_wp2
      go_ret
      exact ⟨rfl, HB.out⟩
  · obtain ⟨len, hlen⟩ : ∃ len, zs.length = len := ⟨_, rfl⟩
    have hs := fun k (h : k < len) => take_snoc zs k (by omega)
    have hbl : 0 < len → b < w.heap.size := fun h => lt_of_cell (hcell 0 (by omega))
    rw [hlen] at hm hcell ⊢
    have H1 := TW.hide hcell
    have HS := TW.hide hs
    have HN := TW.hide hlen
    have HZ := TW.hide hz
    have HBL := TW.hide hbl
    clear hcell hs hlen hz hbl
    go_enter Tryd.func58, Tryd.ntmps58
    go_wp2_with (at_make; refine wpList_make_own _ rfl _ _ 24 rfl w.heap.size 5 i0 (.int .u8 0) 1 Tryd.underlying24 hi hz0 hz1 _ _ _ (2 * len) rfl rfl (by omega) (by rw [hz2]; omega) (by unfold maxLen; omega) (by omega) ?_; intro w1 hown hgrow)
    have hbel : Below w.heap.size w w1 := (Below.refl _ _).grown hgrow (Nat.le_refl _) (by intro k h; cases h)
    have G1 := TW.hide hown
    have G2 := TW.hide hbel
    clear hown hgrow hbel
    go_loopw [3, 11] (fun t i wr => ∃ k : Nat, k ≤ len ∧ i = .int .i64 k ∧ wr.ownsRow w.heap.size 5 1 t (2 * k) (vs (hx (zs.take k))) ∧ Below w.heap.size w wr) (fun _ i _ => len - (intOf i).toNat)
    case atStart => exact ⟨0, Nat.zero_le _, rfl, by simpa [hx, vs] using G1.out, G2.out⟩
    case round =>
      obtain ⟨k, hk, rfl, hown, hbel⟩ := hrel
      clear G1 G2
      by_cases hlt : k < len
      · have hbw := HBL.out (by omega)
        have hc : wr.cell? ⟨b, off + k, none⟩ = some (.int .u8 (zs.getD k 0)) := by rw [hbel.cell hbw]; exact H1.out k hlt
        have hb := HZ.out.get k
        have hsn : hx (zs.take (k + 1)) = hx (zs.take k) ++ [dg (zs.getD k 0 / 16), dg (zs.getD k 0 % 16)] := by rw [HS.out k hlt, hx_append]; rfl
        have hbd := own_block hown
        have hsz := hbel.size
        generalize zs.getD k 0 = z at *
        obtain ⟨hb1, hb2⟩ := hb
        have e1 : z / 2 ^ 4 = z / 16 := by rfl
        have e2 := and15 z hb1 hb2
        have d1 := fun W => digit (z / 16) (by omega) (by omega) W
        have d2 := fun W => digit (z % 16) (by omega) (by omega) W
        generalize dg (z / 16) = x1 at *
        generalize dg (z % 16) = x2 at *
        have hk0 : (0 : Int) ≤ (k : Int) := Int.natCast_nonneg _
        have hk1 : (k : Int) < (len : Int) := by omega
        have HSN := TW.hide hsn
        have HBD := TW.hide hbd
        have HOW := TW.hide hown
        have HBE := TW.hide hbel
        clear hsn hbd hown hbel
        have hne : u3.ownBlock ≠ some b := fun h => by have := HBD.out b h; omega
        have h63 : 2 * k + 2 ≤ maxLen := by unfold maxLen; omega
        have h47 : (2 * k + 2) * 1 ≤ 140737488355328 := by omega
        have H63 := TW.hide h63
        have H47 := TW.hide h47
        clear h63 h47
        go_wp2_with fail
        go_region_held3 (fun w' => w'.cell? ⟨b, off + k, none⟩ = some (.int .u8 z))
          (first | go_keep | (rw [hgrow.cell_far _ (by simp; omega) (Ne.symm hne)]; assumption))
          ((refine step_append_lies _ (by rfl) _ _ _ (by rfl) w.heap.size 5 i0 _ 1 1 Tryd.underlying24 hi hz0 hz1 hz2 rfl (by omega) u3 (2 * k) (vs (hx (zs.take k))) (by rfl) ((HOW.out.alloc _).drew) ⟨wr.heap.size, 0, none⟩ 2 2 [.int .u8 x1, .int .u8 x2] (by rfl) (by rfl) (World.news_of_block (cs := #[.int .u8 x1, .int .u8 x2]) (t := 5) (fr := (0, 0)) (heap_alloc_new wr _)) (by simp [Value.oneCell']) (by omega) H63.out H47.out (by simp; omega) (wr.heap.size + 1) (by simp) ?_; intro gg cap' w2 hown1 hgrow hat hlt2))
        all_goals
          have hB2 : Below w.heap.size w w2 := ((HBE.out.alloc hsz _).drew).grown hgrow (by simp; omega) HBD.out
          have K1 := TW.hide hown1
          have K2 := TW.hide hB2
          clear hown1 hgrow hat hB2
          go_wp2
          go_roundw
          case rel => exact ⟨k + 1, by omega, by go_num, by rw [HSN.out, vs_append]; exact K1.out, K2.out⟩
          case measure => simp [intOf]; omega
      · obtain rfl : k = len := by omega
        rw [List.take_of_length_le (by rw [HN.out]; omega)] at hown
        have hcv := conv_own hown (by rw [hx_length, HN.out])
        have HBE := TW.hide hbel
        clear hown hbel
        go_wp2
        go_ret
        exact ⟨rfl, HBE.out⟩
end LW
end Go.Proofs.YteakoajkmcbilabDoor
