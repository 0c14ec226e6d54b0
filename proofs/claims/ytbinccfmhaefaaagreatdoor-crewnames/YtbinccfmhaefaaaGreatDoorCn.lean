/-
  The names of hashes as the program's text lays them; Named of a name that none of them has.
-/
import Derived.Test.YtbinccfmhaefaaaGreatDoorChecked
import Derived.Test.YtbinccfmhaefaaaGreatDoorRows
import Derived.WalkKit
import Derived.WalkLawsBesides
import Derived.OwnWalk
import Derived.LaidEql
import Derived.WideLaws
import Derived.ProofKit
import Derived.LaidMore
import Derived.OpenShut
import Derived.Stop.Joined
import Derived.Lib.LaidTab
import Derived.Below
import Derived.ShutString
import Derived.Laws.NewBlocks
namespace Go.Proofs.YtbinccfmhaefaaaGreatDoor
open Go Go.ChangeShapes Go.WideShapes Go.ChangeAt Go.RowKit
set_option linter.unusedVariables false
set_option linter.unusedSimpArgs false
set_option maxRecDepth 100000
namespace CN
theorem hide {p : Prop} (h : p) : Hid p := h
def laidV : List (String × DataW Unit) := [("quern/crew.variants", Rows.laid_quern_crew_variants)]
theorem gV : Tryz.prog.globalNamed "quern/crew.variants" = some 0 := by kernel_rfl
theorem tV : (Tryz.prog.globals[0]?).map (·.type) = some 30 := by kernel_rfl
theorem c29 : Tryz.prog.cellsOf 29 = 4 := by kernel_rfl
theorem c30 : Tryz.prog.cellsOf 30 = 24 := by kernel_rfl
theorem c9 : Tryz.prog.cellsOf 9 = 1 := by kernel_rfl
theorem cI : Tryz.prog.cellsOf 3 = 1 := by kernel_rfl
theorem c27 : Tryz.prog.cellsOf 27 = 1 := by kernel_rfl
theorem own : ownKnob Tryz.prog.godebug = none := by kernel_rfl
theorem laidOut : laidOutB Tryz.prog = true := by kernel_rfl
theorem doorV (os : Os) (args : Array Value) : laidMetH Tryz.prog laidV ((World.doorLaid Tryz.prog 176 os).forCall (fun _ _ => 0) ⟨#[], args, []⟩).memory :=
  laidMetH_of_parts3 (fuel := 8) (laidMet_of_run' 8 (by kernel_rfl) (by kernel_rfl)) (by kernel_rfl) (by kernel_rfl)
theorem open_variant {H : Type} {enc : TypeId × Value → H} {W : World} {B : Nat} {sp : Nat → Bool} {held : Bool} {f : Nat} {c0 c1 c2 c3 : Value} {bs : List UInt8} {k v m : Int} {p : List MemPlace}
    (h : DataW.trod enc Tryz.prog W B sp held f 29 [c0, c1, c2, c3] = some (.agg [.lit (.string bs), .lit (.int .i64 k), .lit (.int .i64 v), .lit (.int .i64 m)], p)) : c0 = .string ⟨bs.toArray⟩ ∧ c1 = .int .i64 k ∧ c2 = .int .i64 v ∧ c3 = .int .i64 m := by
  obtain ⟨xs, n, _, hx, _, hlen, hg⟩ := DataW.trod_struct Tryz.underlying29 h
  match xs, hlen with
  | [y0, y1, y2, y3], _ =>
    have h0 := hg 0 _ rfl
    have h1 := hg 1 _ rfl
    have h2 := hg 2 _ rfl
    have h3 := hg 3 _ rfl
    replace h0 : DataW.trod enc Tryz.prog W B sp held n 9 [c0] = some y0 := by simpa [c9] using h0
    replace h1 : DataW.trod enc Tryz.prog W B sp held n 27 [c1] = some y1 := by simpa [c27] using h1
    replace h2 : DataW.trod enc Tryz.prog W B sp held n 3 [c2] = some y2 := by simpa [cI] using h2
    replace h3 : DataW.trod enc Tryz.prog W B sp held n 3 [c3] = some y3 := by simpa [cI] using h3
    obtain ⟨s0, e0, x0, _⟩ := DataW.trod_string Tryz.underlying9 h0
    obtain ⟨z1, e1, x1, _⟩ := DataW.trod_int Tryz.underlying27 h1
    obtain ⟨z2, e2, x2, _⟩ := DataW.trod_int Tryz.underlying3 h2
    obtain ⟨z3, e3, x3, _⟩ := DataW.trod_int Tryz.underlying3 h3
    subst x0 x1 x2 x3
    simp at e0 e1 e2 e3 hx
    obtain ⟨⟨q0, q1, q2, q3⟩, _⟩ := hx
    subst q1 q2 q3
    refine ⟨?_, e1, e2, e3⟩
    rw [e0, q0]
theorem list24 {l : List Value} (h : l.length = 24) : ∃ a0 a1 a2 a3 a4 a5 a6 a7 a8 a9 b0 b1 b2 b3 b4 b5 b6 b7 b8 b9 d0 d1 d2 d3, l = [a0, a1, a2, a3, a4, a5, a6, a7, a8, a9, b0, b1, b2, b3, b4, b5, b6, b7, b8, b9, d0, d1, d2, d3] := by
  match l, h with
  | [a0, a1, a2, a3, a4, a5, a6, a7, a8, a9, b0, b1, b2, b3, b4, b5, b6, b7, b8, b9, d0, d1, d2, d3], _ => exact ⟨_, _, _, _, _, _, _, _, _, _, _, _, _, _, _, _, _, _, _, _, _, _, _, _, rfl⟩
/-- The table's cells. -/
def vC : Array Value := #[.string ⟨#[98, 108, 97, 107, 101, 50, 98]⟩, .int .i64 1, .int .i64 0, .int .i64 64, .string ⟨#[98, 108, 97, 107, 101, 50, 115]⟩, .int .i64 2, .int .i64 0, .int .i64 32, .string ⟨#[98, 108, 97, 107, 101, 50, 98, 112]⟩, .int .i64 1, .int .i64 1, .int .i64 64, .string ⟨#[98, 108, 97, 107, 101, 50, 115, 112]⟩, .int .i64 2, .int .i64 1, .int .i64 32, .string ⟨#[98, 108, 97, 107, 101, 50, 120, 98]⟩, .int .i64 1, .int .i64 2, .int .i64 65536, .string ⟨#[98, 108, 97, 107, 101, 50, 120, 115]⟩, .int .i64 2, .int .i64 2, .int .i64 65534]
def VT (W : World) : Prop := ∃ t fr, W.heap[0]? = some (.cells vC t fr)
theorem of_laidV {W : World} (h : laidMetH Tryz.prog laidV W) : VT W := by
  rw [MakeChecks.laidMetH_plain _ _ _ (by kernel_rfl)] at h
  obtain ⟨ps, ⟨g0, t0, cs0, f0, p0, q0, hg0, ht0, hv0, hd0, _, _⟩, _, _⟩ := h
  obtain rfl := Option.some.inj (gV.symm.trans hg0)
  obtain rfl := Option.some.inj (tV.symm.trans ht0)
  obtain ⟨xs, n, _, hx, hl, hlen, hg⟩ := DataW.trod_array Tryz.underlying30 hd0
  rw [c30] at hl
  obtain ⟨a0, a1, a2, a3, a4, a5, a6, a7, a8, a9, b0, b1, b2, b3, b4, b5, b6, b7, b8, b9, d0, d1, d2, d3, hcs⟩ := list24 hl
  rw [hcs, c29] at hg
  match xs, hlen with
  | [y0, y1, y2, y3, y4, y5], _ =>
    have h0 := hg 0 (by decide)
    have h1 := hg 1 (by decide)
    have h2 := hg 2 (by decide)
    have h3 := hg 3 (by decide)
    have h4 := hg 4 (by decide)
    have h5 := hg 5 (by decide)
    obtain ⟨hx, _⟩ := Prod.mk.inj hx
    unfold Rows.laid_quern_crew_variants at hx
    injection hx with hx
    simp only [List.map_cons, List.map_nil, List.cons.injEq, and_true] at hx
    obtain ⟨x0, x1, x2, x3, x4, x5⟩ := hx
    obtain ⟨u0, p0_⟩ := y0
    obtain ⟨u1, p1_⟩ := y1
    obtain ⟨u2, p2_⟩ := y2
    obtain ⟨u3, p3_⟩ := y3
    obtain ⟨u4, p4_⟩ := y4
    obtain ⟨u5, p5_⟩ := y5
    dsimp only at x0 x1 x2 x3 x4 x5
    subst x0 x1 x2 x3 x4 x5
    obtain ⟨rfl, rfl, rfl, rfl⟩ := open_variant h0
    obtain ⟨rfl, rfl, rfl, rfl⟩ := open_variant h1
    obtain ⟨rfl, rfl, rfl, rfl⟩ := open_variant h2
    obtain ⟨rfl, rfl, rfl, rfl⟩ := open_variant h3
    obtain ⟨rfl, rfl, rfl, rfl⟩ := open_variant h4
    obtain ⟨rfl, rfl, rfl, rfl⟩ := open_variant h5
    have hc : cs0 = vC := by
      apply Array.toList_inj.1
      rw [hcs]
      rfl
    subst hc
    unfold World.var? at hv0
    rw [gV] at hv0
    simp only [Option.bind_some] at hv0
    split at hv0
    · rename_i cs t fr hh
      injection hv0 with hv0
      subst hv0
      exact ⟨t, fr, hh⟩
    · cases hv0
theorem wpList_val {P : Program} {ops : Array Oper} {Q : Exit → Act → World → Prop} {a : Act} {w : World} {rest : List Oper} {o : Oper} (v : Value)
    (hw : Region.wanted o (yielded ops a.tmps) = true) (hr : (execOp a.eval o).run P w = .ok (.value v) w) (h : wpList P ops Q rest (a.put o.dst v) w) : wpList P ops Q (o :: rest) a w := by
  simp only [wpList, hw, if_true]
  left
  unfold Oper.wp
  rw [hr]
  exact h
theorem named (w : World) (h : VT w) : Calls Tryz.prog 4 #[.string ⟨#[109, 100, 53]⟩, .int .i64 16, .slice none 0 0, .slice none 0 0] w fun e w' => e = .returned (.tuple #[.slice none 0 0, .int .i64 171]) ∧ Below w.heap.size w w' := by
  obtain ⟨ty, fr, hrow⟩ := h
  unfold vC at hrow
  have HRow := hide hrow
  clear hrow
  go_enter Tryz.func4, Tryz.ntmps4
  refine wp_seq_k fun K hK => ?_
  have HK := hide hK
  clear hK
  go_wp2
  refine HK.out _ _ ?_
  clear HK
  refine wp_seq_k fun K hK => ?_
  have HK := hide hK
  clear hK
  refine wp_seq_k fun K1 hK1 => ?_
  have HK1 := hide hK1
  clear hK1
  go_wp2_with (refine wpList_load_row (by rfl) 30 (Operand.global 0) (by rfl) 0 (by rfl) ty _ fr _ HRow.out Tryz.underlying30 (by rfl) (by kernel_rfl) ?_)
  refine HK1.out _ _ ?_
  clear HK1 HRow
  go_wp2
  go_loopw [14] (fun iv wr => ∃ i : Nat, i ≤ 6 ∧ iv = .int .i64 (i : Int) ∧ Hid (Below w.heap.size w wr)) (fun iv wr => 6 - (intOf iv).toNat)
  case atStart => exact ⟨0, by omega, rfl, hide (Below.refl _ _)⟩
  case round =>
    obtain ⟨i, hi, rfl, HB⟩ := hrel
    by_cases hlt : i < 6
    · have hj : i = 0 ∨ i = 1 ∨ i = 2 ∨ i = 3 ∨ i = 4 ∨ i = 5 := by omega
      clear hi hlt
      rcases hj with rfl | rfl | rfl | rfl | rfl | rfl
      · have kne : ((⟨#[98, 108, 97, 107, 101, 50, 98]⟩ : ByteArray) != ⟨#[109, 100, 53]⟩) = true := by decide
        go_wp2_with (first | (refine wpList_val (.agg #[.string ⟨#[98, 108, 97, 107, 101, 50, 98]⟩, .int .i64 1, .int .i64 0, .int .i64 64]) (by rfl) (by rfl) ?_) | fail)
        go_roundw
        case rel => exact ⟨0 + 1, by omega, by go_num, hide (HB.out.alloc HB.out.size _)⟩
        case measure => simp [intOf]
      · have kne : ((⟨#[98, 108, 97, 107, 101, 50, 115]⟩ : ByteArray) != ⟨#[109, 100, 53]⟩) = true := by decide
        go_wp2_with (first | (refine wpList_val (.agg #[.string ⟨#[98, 108, 97, 107, 101, 50, 115]⟩, .int .i64 2, .int .i64 0, .int .i64 32]) (by rfl) (by rfl) ?_) | fail)
        go_roundw
        case rel => exact ⟨1 + 1, by omega, by go_num, hide (HB.out.alloc HB.out.size _)⟩
        case measure => simp [intOf]
      · have kne : ((⟨#[98, 108, 97, 107, 101, 50, 98, 112]⟩ : ByteArray) != ⟨#[109, 100, 53]⟩) = true := by decide
        go_wp2_with (first | (refine wpList_val (.agg #[.string ⟨#[98, 108, 97, 107, 101, 50, 98, 112]⟩, .int .i64 1, .int .i64 1, .int .i64 64]) (by rfl) (by rfl) ?_) | fail)
        go_roundw
        case rel => exact ⟨2 + 1, by omega, by go_num, hide (HB.out.alloc HB.out.size _)⟩
        case measure => simp [intOf]
      · have kne : ((⟨#[98, 108, 97, 107, 101, 50, 115, 112]⟩ : ByteArray) != ⟨#[109, 100, 53]⟩) = true := by decide
        go_wp2_with (first | (refine wpList_val (.agg #[.string ⟨#[98, 108, 97, 107, 101, 50, 115, 112]⟩, .int .i64 2, .int .i64 1, .int .i64 32]) (by rfl) (by rfl) ?_) | fail)
        go_roundw
        case rel => exact ⟨3 + 1, by omega, by go_num, hide (HB.out.alloc HB.out.size _)⟩
        case measure => simp [intOf]
      · have kne : ((⟨#[98, 108, 97, 107, 101, 50, 120, 98]⟩ : ByteArray) != ⟨#[109, 100, 53]⟩) = true := by decide
        go_wp2_with (first | (refine wpList_val (.agg #[.string ⟨#[98, 108, 97, 107, 101, 50, 120, 98]⟩, .int .i64 1, .int .i64 2, .int .i64 65536]) (by rfl) (by rfl) ?_) | fail)
        go_roundw
        case rel => exact ⟨4 + 1, by omega, by go_num, hide (HB.out.alloc HB.out.size _)⟩
        case measure => simp [intOf]
      · have kne : ((⟨#[98, 108, 97, 107, 101, 50, 120, 115]⟩ : ByteArray) != ⟨#[109, 100, 53]⟩) = true := by decide
        go_wp2_with (first | (refine wpList_val (.agg #[.string ⟨#[98, 108, 97, 107, 101, 50, 120, 115]⟩, .int .i64 2, .int .i64 2, .int .i64 65534]) (by rfl) (by rfl) ?_) | fail)
        go_roundw
        case rel => exact ⟨5 + 1, by omega, by go_num, hide (HB.out.alloc HB.out.size _)⟩
        case measure => simp [intOf]
    · obtain rfl : i = 6 := by omega
      have qk : ¬ ((6 : Nat) : Int) < 6 := by omega
      clear hlt hi
      go_wp2
      refine HK.out _ _ ?_
      clear HK
      go_wp2
      go_ret2
      exact ⟨rfl, HB.out⟩
theorem names (w : World) (h : VT w) : Calls Tryz.prog 3 #[] w fun e w' => e = .returned (.bool true) ∧ Below w.heap.size w w' := by
  have HN := hide (named w h)
  clear h
  go_enter Tryz.func3, Tryz.ntmps3
  go_wp2_with fail
  refine HN.out.mono ?_
  rintro e w' ⟨rfl, hb⟩
  have HB := hide hb
  clear hb HN
  go_wp2
  go_ret
  exact ⟨rfl, HB.out⟩
end CN
end Go.Proofs.YtbinccfmhaefaaaGreatDoor
