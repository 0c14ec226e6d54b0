/-
  The walks of WordTurns, WordStores, WordCounts and WordLoads: each returns true for every input.
-/
import Derived.Test.YtbjelenmnlmodaaAwake
import Derived.Test.YtbjelenmnlmodaaAdd
import Derived.Test.YtbjelenmnlmodaaArgs
import Derived.Test.YtbjelenmnlmodaaCopied
namespace Go.Proofs.Ytbjelenmnlmodaa
open Go.RowKit Go.ChangeShapes
set_option linter.unusedVariables false
namespace LW
open Words Turn
theorem below_drewN {w w' : World} {B : Nat} (h : Below B w w') (n : Nat) : Below B w (w'.drewN n) := h.trans ⟨rfl, rfl, rfl, Nat.le_refl _, fun _ _ => rfl⟩

theorem turns (a0 a1 a2 : Int) (w : World) (w0 : (Lit.int .u32 a0).wf = true) (w1 : (Lit.int .u64 a1).wf = true) (w2 : (Lit.int .i64 a2).wf = true) :
    Calls Try.prog 5 #[.int .u32 a0, .int .u64 a1, .int .i64 a2] w fun e w' => e = .returned (.bool true) ∧ Below w.heap.size w w' := by
  obtain ⟨p0, p0'⟩ := bounds_u32 w0
  obtain ⟨p1, p1'⟩ := bounds_u64 w1
  have t1 := fun W => TW.turn32 a0 a2 W p0 (by omega)
  have t2 := fun W => TW.ref32 a0 a2 W p0 (by omega)
  have t3 := fun W => TW.turn64 a1 a2 W p1 (by omega)
  have t4 := fun W => TW.ref64 a1 a2 W p1 (by omega)
  generalize T32 a0 a2 = x at *
  generalize T64 a1 a2 = y at *
  have H1 := TW.hide t1
  have H2 := TW.hide t2
  have H3 := TW.hide t3
  have H4 := TW.hide t4
  clear t1 t2 t3 t4 w0 w1 w2 p0 p0' p1 p1'
  go_enter Try.func5, Try.ntmps5
  go_wp2_with fail
  refine (H1.out _).mono ?_
  rintro e w1 ⟨rfl, rfl⟩
  go_wp2_with fail
  refine (H2.out _).mono ?_
  rintro e w1 ⟨rfl, q1, rfl⟩
  go_wp2_with fail
  refine (H3.out _).mono ?_
  rintro e w1 ⟨rfl, rfl⟩
  go_wp2_with fail
  refine (H4.out _).mono ?_
  rintro e w1 ⟨rfl, q2, rfl⟩
  go_wp2_with fail
  refine (awake _).mono ?_
  rintro e w1 ⟨rfl, hb⟩
  have HB : Hid (Below w.heap.size w w1) := (below_drewN (Below.refl _ _) (q1 + q2)).trans hb
  clear hb
  go_wp2_with fail
  go_ret
  exact ⟨rfl, HB.out⟩

set_option maxHeartbeats 1000000 in
theorem stores (a0 a1 : Int) (w : World) (w0 : (Lit.int .u32 a0).wf = true) (w1 : (Lit.int .u64 a1).wf = true) :
    Calls Try.prog 4 #[.int .u32 a0, .int .u64 a1] w fun e w' => e = .returned (.bool true) ∧ Below w.heap.size w w' := by
  obtain ⟨p0, p0'⟩ := bounds_u32 w0
  obtain ⟨p1, p1'⟩ := bounds_u64 w1
  have hw : IntKind.u64.wrap a0 = a0 := by rw [IntKind.wrap_u64]; omega
  have e32 : (256 : Int) ^ 4 = 4294967296 := by decide
  have e64 : (256 : Int) ^ 8 = 18446744073709551616 := by decide
  have l1 : ld (un a0 4) 0 4 = (a0, 0) := by
    rw [ld_ok _ _ _ (by omega) (by rw [un_length]; omega)]
    rw [show (0 : Int).toNat = 0 from rfl, List.drop_zero, List.take_of_length_le (by rw [un_length]; omega), le_un _ _ p0 (by rw [e32]; omega)]
  have l2 : ld (un a1 8) 0 8 = (a1, 0) := by
    rw [ld_ok _ _ _ (by omega) (by rw [un_length]; omega)]
    rw [show (0 : Int).toNat = 0 from rfl, List.drop_zero, List.take_of_length_le (by rw [un_length]; omega), le_un _ _ p1 (by rw [e64]; omega)]
  have s1 := fun W => store32 a0 W p0 (by omega)
  have s2 := fun W => store64 a1 W p1 (by omega)
  have s3 := fun W => rstore a0 4 W p0 (by omega) (by omega)
  have s4 := fun W => rstore a1 8 W p1 (by omega) (by omega)
  have m1 : ∀ (a a' : Option Addr) (cap cap' : Nat) (W : World), Row W a (un a0 4) → Row W a' (un a0 4) → Calls Try.prog 13 #[.slice a 4 cap, .slice a' 4 cap'] W fun e w' => e = .returned (.bool true) ∧ ∃ q, w' = W.drewN q := by
    intro a a' cap cap' W h h'
    have := same a a' cap cap' _ _ W h h' (by rw [un_length]; simp [maxLen]) (by rw [un_length]; simp [maxLen])
    rw [un_length] at this
    simpa using this
  have m2 : ∀ (a a' : Option Addr) (cap cap' : Nat) (W : World), Row W a (un a1 8) → Row W a' (un a1 8) → Calls Try.prog 13 #[.slice a 8 cap, .slice a' 8 cap'] W fun e w' => e = .returned (.bool true) ∧ ∃ q, w' = W.drewN q := by
    intro a a' cap cap' W h h'
    have := same a a' cap cap' _ _ W h h' (by rw [un_length]; simp [maxLen]) (by rw [un_length]; simp [maxLen])
    rw [un_length] at this
    simpa using this
  have d1 : ∀ (a : Option Addr) (cap : Nat) (W : World), Row W a (un a0 4) → Calls Try.prog 10 #[.slice a 4 cap, .int .i64 0] W fun e w' => e = .returned (.tuple #[.int .u32 a0, .int .i64 0]) ∧ W = w' := by
    intro a cap W h
    have := load32 a cap _ 0 W (Byt.un a0 4) h (by rw [un_length]; simp [maxLen]) (by omega) (by omega)
    rw [un_length, l1] at this
    exact this
  have d2 : ∀ (a : Option Addr) (cap : Nat) (W : World), Row W a (un a1 8) → Calls Try.prog 11 #[.slice a 8 cap, .int .i64 0] W fun e w' => e = .returned (.tuple #[.int .u64 a1, .int .i64 0]) ∧ W = w' := by
    intro a cap W h
    have := load64 a cap _ 0 W (Byt.un a1 8) h (by rw [un_length]; simp [maxLen]) (by omega) (by omega)
    rw [un_length, l2] at this
    exact this
  generalize un a0 4 = X at *
  generalize un a1 8 = Y at *
  have S1 := TW.hide s1
  have S2 := TW.hide s2
  have S3 := TW.hide s3
  have S4 := TW.hide s4
  have M1 := TW.hide m1
  have M2 := TW.hide m2
  have D1 := TW.hide d1
  have D2 := TW.hide d2
  clear s1 s2 s3 s4 m1 m2 d1 d2 l1 l2 e32 e64 w0 w1 p0 p0' p1 p1'
  go_enter Try.func4, Try.ntmps4
  go_wp2_with fail
  refine (S1.out _).mono ?_
  rintro e w1 ⟨a, cap, rfl, hr1, hb1⟩
  have R1 := TW.hide hr1
  have B1 := TW.hide hb1
  clear hr1 hb1
  go_wp2_with fail
  refine (S2.out _).mono ?_
  rintro e w2 ⟨a', cap', rfl, hr2, hb2⟩
  have R2 := TW.hide (R1.out.below hb2)
  have R3 := TW.hide hr2
  have B2 : Hid (Below w.heap.size w w2) := B1.out.trans (hb2.mono B1.out.size)
  clear hr2 hb2 R1 B1
  go_wp2_with fail
  refine (S3.out _).mono ?_
  rintro e w3 ⟨a2, cap2, rfl, hr3, hb3⟩
  have R4 := TW.hide (R2.out.below hb3)
  have R5 := TW.hide (R3.out.below hb3)
  have R6 := TW.hide hr3
  have B3 : Hid (Below w.heap.size w w3) := B2.out.trans (hb3.mono B2.out.size)
  clear hr3 hb3 R2 R3 B2
  go_wp2_with fail
  refine (M1.out _ _ _ _ _ R4.out R6.out).mono ?_
  rintro e w4 ⟨rfl, q1, rfl⟩
  go_wp2_with fail
  refine (S4.out _).mono ?_
  rintro e w5 ⟨a3, cap3, rfl, hr5, hb5⟩
  have R7 := TW.hide ((R4.out.drewN q1).below hb5)
  have R8 := TW.hide ((R5.out.drewN q1).below hb5)
  have R9 := TW.hide hr5
  have B5 : Hid (Below w.heap.size w w5) := (below_drewN B3.out q1).trans (hb5.mono B3.out.size)
  clear hr5 hb5 R4 R5 R6 B3
  go_wp2_with fail
  refine (M2.out _ _ _ _ _ R8.out R9.out).mono ?_
  rintro e w6 ⟨rfl, q2, rfl⟩
  go_wp2_with fail
  refine (D1.out _ _ _ (R7.out.drewN q2)).mono ?_
  rintro e w6 ⟨rfl, rfl⟩
  go_wp2_with fail
  refine (D2.out _ _ _ (R8.out.drewN q2)).mono ?_
  rintro e w6 ⟨rfl, rfl⟩
  go_wp2_with fail
  go_ret
  exact ⟨rfl, below_drewN B5.out q2⟩

theorem counts (lo hi a1 : Int) (w : World) (wlo : (Lit.int .u64 lo).wf = true) (whi : (Lit.int .u64 hi).wf = true) (w1 : (Lit.int .u64 a1).wf = true) :
    Calls Try.prog 7 #[.agg #[.int .u64 lo, .int .u64 hi], .int .u64 a1] w fun e w' => e = .returned (.bool true) ∧ Below w.heap.size w w' := by
  have b0 : AW.W64 lo := by have := bounds_u64 wlo; unfold AW.W64; omega
  have b1 : AW.W64 hi := by have := bounds_u64 whi; unfold AW.W64; omega
  have b2 : AW.W64 a1 := by have := bounds_u64 w1; unfold AW.W64; omega
  have t1 := fun W => AW.add lo hi a1 W b0 b1 b2
  have t2 := fun W => AW.radd lo hi a1 W b0 b1 b2
  generalize AW.sLo lo a1 = x at *
  generalize AW.sHi lo hi a1 = y at *
  generalize AW.sOv lo hi a1 = v at *
  have H1 := TW.hide t1
  have H2 := TW.hide t2
  clear t1 t2 b0 b1 b2 wlo whi w1
  go_enter Try.func7, Try.ntmps7
  go_wp2_with fail
  refine (H1.out _).mono ?_
  rintro e w1 ⟨rfl, rfl⟩
  go_wp2_with fail
  refine (H2.out _).mono ?_
  rintro e w1 ⟨rfl, rfl⟩
  go_wp2_with fail
  refine (awake _).mono ?_
  rintro e w1 ⟨rfl, hb⟩
  have HB : Hid (Below w.heap.size w w1) := ((((((Below.refl _ _).alloc (Nat.le_refl _) _).alloc (by simp) _).alloc (by simp; omega) _).alloc (by simp; omega) _)).trans (hb.mono (by simp; omega))
  clear hb
  go_wp2_with fail
  go_ret
  exact ⟨rfl, HB.out⟩

set_option maxHeartbeats 1000000 in
theorem loads (a : Option Addr) (cap : Nat) (zs : List Int) (at_ : Int) (w : World) (hz : Byt zs) (hr : Row w a zs) (hn : a = none → cap = 0) (hm : zs.length ≤ 140737488351232) (w1 : (Lit.int .i64 at_).wf = true) :
    Calls Try.prog 3 #[.slice a zs.length cap, .int .i64 at_] w fun e w' => e = .returned (.bool true) ∧ Below w.heap.size w w' := by
  obtain ⟨p0, p1⟩ := bounds_i64 w1
  have hM : zs.length ≤ maxLen := by unfold maxLen; omega
  have c1 := copied a cap zs w hr hn (by omega)
  have t1 := fun a' cap' W (h : Row W a' zs) => load32 a' cap' zs at_ W hz h hM p0 p1
  have t2 := fun a' cap' W (h : Row W a' zs) => load64 a' cap' zs at_ W hz h hM p0 p1
  have t3 := fun W (h : Row W a zs) => rload a cap zs at_ 4 W hz h hM p0 p1 (by omega) (by omega)
  have t4 := fun W (h : Row W a zs) => rload a cap zs at_ 8 W hz h hM p0 p1 (by omega) (by omega)
  have t5 : ∀ a' cap' W, Row W a zs → Row W a' zs → Calls Try.prog 13 #[.slice a zs.length cap, .slice a' zs.length cap'] W fun e w' => e = .returned (.bool true) ∧ ∃ q, w' = W.drewN q := by
    intro a' cap' W h h'
    have := same a a' cap cap' zs zs W h h' hM hM
    simpa using this
  have hw : IntKind.u64.wrap (ld zs at_ 4).1 = (ld zs at_ 4).1 := by
    have := ld_bd zs at_ 4 hz
    have e : (256 : Int) ^ 4 = 4294967296 := by decide
    rw [IntKind.wrap_u64]; omega
  generalize ld zs at_ 4 = u at *
  generalize ld zs at_ 8 = v at *
  obtain ⟨u1, u2⟩ := u
  obtain ⟨v1, v2⟩ := v
  simp only at *
  have HR := TW.hide hr
  have C1 := TW.hide c1
  have H1 := TW.hide t1
  have H2 := TW.hide t2
  have H3 := TW.hide t3
  have H4 := TW.hide t4
  have H5 := TW.hide t5
  have HO := TW.hide (fun (w' : World) (x : Value) (h : w'.ownsRow w.heap.size 5 1 x zs.length (vs zs)) => row_of_own h)
  generalize hl : zs.length = len at *
  clear hl hr c1 t1 t2 t3 t4 t5 hz hn hM p0 p1 w1
  go_enter Try.func3, Try.ntmps3
  go_wp2_with fail
  refine C1.out.mono ?_
  rintro e w1 ⟨x, rfl, hown, hb1⟩
  obtain ⟨a', cap', rfl, hr1, _⟩ := HO.out _ _ hown
  have R0 := TW.hide (HR.out.below hb1)
  have R1 := TW.hide hr1
  have B1 := TW.hide hb1
  clear hown hr1 hb1
  go_wp2_with fail
  refine (H1.out _ _ _ R1.out).mono ?_
  rintro e w2 ⟨rfl, rfl⟩
  go_wp2_with fail
  refine (H2.out _ _ _ R1.out).mono ?_
  rintro e w2 ⟨rfl, rfl⟩
  go_wp2_with fail
  refine (H3.out _ R0.out).mono ?_
  rintro e w2 ⟨rfl, rfl⟩
  go_wp2_with fail
  refine (H4.out _ R0.out).mono ?_
  rintro e w2 ⟨rfl, rfl⟩
  go_wp2_with fail
  refine (H5.out _ _ _ R0.out R1.out).mono ?_
  rintro e w2 ⟨rfl, q1, rfl⟩
  go_wp2_with fail
  refine (awake _).mono ?_
  rintro e w3 ⟨rfl, hb⟩
  have HB : Hid (Below w.heap.size w w3) := (below_drewN B1.out q1).trans (hb.mono B1.out.size)
  clear hb
  go_wp2_with fail
  go_ret
  exact ⟨rfl, HB.out⟩
end LW
end Go.Proofs.Ytbjelenmnlmodaa
