/-
  The walk of WordBase: it returns true for every input of bulk at most 1048576.
-/
import Derived.Test.YtbjelenmnlmodabRBase
import Derived.Test.YtbjelenmnlmodabRUnBase
import Derived.Test.YtbjelenmnlmodabArgs
namespace Go.Proofs.Ytbjelenmnlmodab
open Go.RowKit Go.ChangeShapes
set_option linter.unusedVariables false
namespace LW
open Words Txt B64
theorem E_one (z : Int) (h0 : 0 ≤ z) (h1 : z < 256) : E [z] = ⟨[z / 4], 2, z % 4⟩ := by
  rw [show E [z] = (E []).byte z from E_snoc [] z, show E [] = ⟨[], 0, 0⟩ from rfl, byte0 _ _ h0 h1, List.nil_append]
theorem enc_one (zs : List Int) (hz : Byt zs) (h : zs.length = 1) : (enc zs).length = 2 := by
  obtain ⟨z, rfl⟩ := List.length_eq_one_iff.1 h
  have hb := hz z (by simp)
  unfold enc
  rw [List.length_map]
  unfold F
  rw [E_one z hb.1 hb.2]
  rfl
theorem D_len (vs : List Int) : (D vs).out.length ≤ 6 * vs.length := by
  have key : ∀ (vs : List Int) (s : St), (vs.foldl St.lett s).out.length ≤ s.out.length + 6 * vs.length := by
    intro vs
    induction vs with
    | nil => intro s; simp
    | cons v vs ih =>
      intro s
      have h1 := ih (s.lett v)
      have h2 : (s.lett v).out.length ≤ s.out.length + 6 := by
        show ((b6 v).foldl (St.bit 8) s).out.length ≤ _
        have key2 : ∀ (l : List Int) (s : St), (l.foldl (St.bit 8) s).out.length ≤ s.out.length + l.length := by
          intro l
          induction l with
          | nil => intro s; simp
          | cons b l ih => intro s; have := ih (s.bit 8 b); have := out_len 8 s b; simp only [List.foldl_cons, List.length_cons]; omega
        exact key2 (b6 v) s
      simp only [List.foldl_cons, List.length_cons]
      omega
  have h1 := key vs st0
  have e : st0.out.length = 0 := rfl
  show (vs.foldl St.lett st0).out.length ≤ _
  omega
theorem bB_len (l : List Int) : (bB l).length ≤ 6 * l.length := by
  unfold bB
  split
  · have := D_len (l.map bw)
    rwa [List.length_map] at this
  · simp
set_option maxHeartbeats 1000000 in
theorem bases (a : Option Addr) (cap : Nat) (zs : List Int) (s : ByteArray) (w : World) (hz : Byt zs) (hr : Row w a zs) (hn : a = none → cap = 0) (hm : zs.length ≤ 1048576) (hs : s.size ≤ 1048576) :
    Calls Try.prog 6 #[.slice a zs.length cap, .string s] w fun e w' => e = .returned (.bool true) ∧ Below w.heap.size w w' := by
  have t1 := fun W h => base64 a cap zs W hz h (by omega)
  have t2 := fun W h => rbase64 a cap zs W hz h (by omega)
  have t3 := fun W => unbase s W (by omega)
  have t4 := fun W => runbase s W (by omega)
  have hbl : (bB (sb s)).length ≤ maxLen := by
    have := bB_len (sb s)
    rw [sb_length] at this
    unfold maxLen; omega
  have t5 := fun a1 a2 c1 c2 W h1 h2 => same a1 a2 c1 c2 (bB (sb s)) (bB (sb s)) W h1 h2 hbl hbl
  have ho := fun (w' : World) (B : Nat) (x : Value) (h : w'.ownsRow B 5 1 x (bB (sb s)).length (vs (bB (sb s)))) => row_of_own h
  rw [show decide (bB (sb s) = bB (sb s)) = true by simp] at t5
  have htl : zs.length = 1 → (strOfNums (enc zs)).size = 2 := fun h => by rw [strOfNums_size]; exact enc_one zs hz h
  generalize strOfNums (enc zs) = txt at *
  generalize bB (sb s) = B at *
  generalize bAt (sb s) = A at *
  generalize bE (sb s) = E at *
  have H1 := TW.hide t1
  have H2 := TW.hide t2
  have H3 := TW.hide t3
  have H4 := TW.hide t4
  have H5 := TW.hide t5
  have HO := TW.hide ho
  have HR := TW.hide hr
  have HTL := TW.hide htl
  clear htl
  generalize zs.length = len at *
  clear t1 t2 t3 t4 t5 ho hr hz hn hbl
  by_cases h1 : len = 1
  · have htx := HTL.out h1
    have hlb : ((len : Int) != 1) = false := by simp; omega
    have HH1 := TW.hide h1
    clear h1
    go_enter Try.func6, Try.ntmps6
    go_wp2_with fail
    refine (H1.out _ HR.out).mono ?_
    rintro e w1 ⟨rfl, hb1⟩
    have B1 := TW.hide hb1
    clear hb1
    go_wp2_with fail
    refine (H3.out _).mono ?_
    rintro e w2 ⟨x2, rfl, hown2, hb2⟩
    obtain ⟨a2, cap2, rfl, hr2, _⟩ := HO.out _ _ _ hown2
    have R2 := TW.hide hr2
    have B2 : Hid (Below w.heap.size w w2) := B1.out.trans (hb2.mono B1.out.size)
    clear hown2 hr2 hb2
    go_wp2_with fail
    refine (H4.out _).mono ?_
    rintro e w3 ⟨x3, rfl, hown3, hb3⟩
    obtain ⟨a3, cap3, rfl, hr3, _⟩ := HO.out _ _ _ hown3
    have R3 := TW.hide hr3
    have R2' := TW.hide (R2.out.below hb3)
    have B3 : Hid (Below w.heap.size w w3) := B2.out.trans (hb3.mono B2.out.size)
    clear hown3 hr3 hb3
    go_wp2_with fail
    refine (H2.out _ (HR.out.below B3.out)).mono ?_
    rintro e w4 ⟨rfl, hb4⟩
    have R3' := TW.hide (R3.out.below hb4)
    have R2'' := TW.hide (R2'.out.below hb4)
    have B4 : Hid (Below w.heap.size w w4) := B3.out.trans (hb4.mono B3.out.size)
    clear hb4
    go_wp2_with fail
    refine (H5.out _ _ _ _ _ R2''.out R3'.out).mono ?_
    rintro e w5 ⟨rfl, q5, rfl⟩
    go_wp2_with fail
    go_ret
    exact ⟨rfl, (B4.out.trans ⟨rfl, rfl, rfl, Nat.le_refl _, fun _ _ => rfl⟩)⟩
  · have hlb : ((len : Int) != 1) = true := by simp; omega
    go_enter Try.func6, Try.ntmps6
    go_wp2_with fail
    refine (H1.out _ HR.out).mono ?_
    rintro e w1 ⟨rfl, hb1⟩
    have B1 := TW.hide hb1
    clear hb1
    go_wp2_with fail
    refine (H3.out _).mono ?_
    rintro e w2 ⟨x2, rfl, hown2, hb2⟩
    obtain ⟨a2, cap2, rfl, hr2, _⟩ := HO.out _ _ _ hown2
    have R2 := TW.hide hr2
    have B2 : Hid (Below w.heap.size w w2) := B1.out.trans (hb2.mono B1.out.size)
    clear hown2 hr2 hb2
    go_wp2_with fail
    refine (H4.out _).mono ?_
    rintro e w3 ⟨x3, rfl, hown3, hb3⟩
    obtain ⟨a3, cap3, rfl, hr3, _⟩ := HO.out _ _ _ hown3
    have R3 := TW.hide hr3
    have R2' := TW.hide (R2.out.below hb3)
    have B3 : Hid (Below w.heap.size w w3) := B2.out.trans (hb3.mono B2.out.size)
    clear hown3 hr3 hb3
    go_wp2_with fail
    refine (H2.out _ (HR.out.below B3.out)).mono ?_
    rintro e w4 ⟨rfl, hb4⟩
    have R3' := TW.hide (R3.out.below hb4)
    have R2'' := TW.hide (R2'.out.below hb4)
    have B4 : Hid (Below w.heap.size w w4) := B3.out.trans (hb4.mono B3.out.size)
    clear hb4
    go_wp2_with fail
    refine (H5.out _ _ _ _ _ R2''.out R3'.out).mono ?_
    rintro e w5 ⟨rfl, q5, rfl⟩
    go_wp2_with fail
    go_ret
    exact ⟨rfl, (B4.out.trans ⟨rfl, rfl, rfl, Nat.le_refl _, fun _ _ => rfl⟩)⟩
end LW
end Go.Proofs.Ytbjelenmnlmodab
