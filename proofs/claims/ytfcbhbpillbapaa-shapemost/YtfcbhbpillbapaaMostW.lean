/-
  The law on Most.
-/
import Derived.Test.YtfcbhbpillbapaaRMost
import Derived.Test.YtfcbhbpillbapaaSh6
namespace Go.Proofs.Ytfcbhbpillbapaa
open Go.RowKit
set_option linter.unusedVariables false
set_option linter.unusedSimpArgs false
namespace LW
open Words
set_option maxRecDepth 100000 in
set_option maxHeartbeats 2000000 in
theorem mostW (T : Tr) (s t : List Int) (r : Int) (w : World) (hT : 0 ≤ T.lf ∧ T.lf < 4294967296) (hx1 : T.sl = s.length) (hx2 : Lies w T.sa T.sc s) (hx3 : T.pl = t.length) (hx4 : Lies w T.pa T.pc t) (hr : (Lit.int .i64 r).wf = true) : Calls Try.prog 7 #[.agg (trC T), .int .i64 r] w fun e w' => e = .returned (.bool true) ∧ Below w.heap.size w w' := by
  clear hx1 hx2 hx3 hx4 hr
  have HM := TW.hide (fun W => most_ T hT r W)
  have HR := TW.hide (fun W => rmost_ T hT r W)
  have HA := TW.hide (fun W => awake W)
  unfold msR at HM HR
  generalize (if msO T r = true then msN T r else 0) = n at *
  generalize msO T r = b at *
  generalize msE T r = e at *
  unfold trC at *
  have n0 := heap_alloc_new w (.cells #[.int .i64 T.k, .int .i64 T.d, .int .i64 T.f, .int .i64 T.dp, .int .u32 T.lf, .int .i64 T.inn, .slice T.ka T.kl T.kc, .slice T.sa T.sl T.sc, .slice T.pa T.pl T.pc] 26)
  have hb0 := (Below.refl w.heap.size w).alloc (Nat.le_refl _) (.cells #[.int .i64 T.k, .int .i64 T.d, .int .i64 T.f, .int .i64 T.dp, .int .u32 T.lf, .int .i64 T.inn, .slice T.ka T.kl T.kc, .slice T.sa T.sl T.sc, .slice T.pa T.pl T.pc] 26)
  have HB0 := TW.hide hb0
  have HN := TW.hide n0
  clear n0 hb0
  go_enter Try.func7, Try.ntmps7
  refine wp_seq_k fun K hK => ?_
  have HK := TW.hide hK
  clear hK
  go_wp2_with fail
  refine HK.out _ _ ?_
  clear HK K
  generalize w.alloc _ = X at *
  obtain ⟨c0, c1, c2, c3, c4, c5, c6, c7, c8⟩ := cells9 HN.out
  go_wp2_with fail
  refine (HM.out _).mono ?_
  rintro e1 w1 ⟨rfl, hb1⟩
  clear c0 c1 c2 c3 c4 c5 c6 c7 c8 HM
  have HN1 := TW.hide (blk_keep HN.out hb1)
  have HB1 : Hid (Below w.heap.size w w1) := HB0.out.trans (hb1.mono HB0.out.size)
  obtain ⟨c0, c1, c2, c3, c4, c5, c6, c7, c8⟩ := cells9 HN1.out
  clear HN HB0 hb1
  go_wp2_with fail
  refine (HR.out _).mono ?_
  rintro e2 w2 ⟨rfl, hb2⟩
  clear c0 c1 c2 c3 c4 c5 c6 c7 c8 HR
  have HB2 : Hid (Below w.heap.size w w2) := HB1.out.trans (hb2.mono HB1.out.size)
  clear HN1 HB1 hb2
  go_wp2_with fail
  refine (HA.out _).mono ?_
  rintro e3 w3 ⟨rfl, hb3⟩
  have HB3 : Hid (Below w.heap.size w w3) := HB2.out.trans (hb3.mono HB2.out.size)
  clear HB2 hb3
  go_wp2
  go_ret
  exact ⟨rfl, HB3.out⟩
end LW
end Go.Proofs.Ytfcbhbpillbapaa
