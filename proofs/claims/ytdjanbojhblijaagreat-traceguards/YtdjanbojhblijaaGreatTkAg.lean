/-
  TkD, TkE, TkF in one.
-/
import Derived.Test.YtdjanbojhblijaaGreatTvCg
import Derived.Lib.SliceRun
namespace Go.Proofs.YtdjanbojhblijaaGreat
open Go.RowKit
set_option linter.unusedVariables false
set_option linter.unusedSimpArgs false
namespace LW
open Mc
/-- A row of numbers of the call's own, at the head of a block. -/
def Nr (B : Nat) (W : World) (b cap : Nat) (xs : List Int) : Prop := W.ownsRow B 3 1 (.slice (some ⟨b, 0, none⟩) xs.length cap) xs.length (xs.map (Value.int .i64))
theorem Nr.keep {B b cap : Nat} {xs : List Int} {w w' : World} (h : Nr B w b cap xs) (hb : w'.heap[b]? = w.heap[b]?) : Nr B w' b cap xs := own_keepK h (fun k hk => by injection hk with hk; subst hk; exact hb)
theorem Nr.lt {B b cap : Nat} {xs : List Int} {w : World} (h : Nr B w b cap xs) : b < w.heap.size := own_lt h b rfl
theorem Nr.le {B b cap : Nat} {xs : List Int} {w : World} (h : Nr B w b cap xs) : B ≤ b := own_blkI h b rfl
theorem Nr.below {B b cap : Nat} {xs : List Int} {w w' : World} (h : Nr B w b cap xs) (hb : Below w.heap.size w w') : Nr B w' b cap xs := h.keep (hb.block _ h.lt)
theorem Nr.get {B b cap : Nat} {xs : List Int} {w : World} (h : Nr B w b cap xs) (j : Nat) (hj : j < xs.length) : w.cell? ⟨b, j, none⟩ = some (.int .i64 (xs.getD j 0)) := by
 refine own_rdA h rfl (by omega) j _ ?_
 rw [List.getElem?_map, List.getElem?_eq_getElem hj, List.getD_eq_getElem?_getD, List.getElem?_eq_getElem hj]
 rfl
theorem Nr.fz {B b cap : Nat} {xs : List Int} {w : World} (h : Nr B w b cap xs) (j : Nat) : w.frozen? ⟨b, j, none⟩ = false := World.ownsRow.frozenAt h j
theorem Nr.set {B b cap : Nat} {xs : List Int} {w : World} (h : Nr B w b cap xs) (j : Nat) (x : Int) : Nr B (w.setCell ⟨b, j, none⟩ (.int .i64 x)) b cap (xs.set j x) := by
 have h1 := (World.ownsRow.stored h j (.int .i64 x)).1
 unfold Nr
 rw [List.length_set, List.map_set]
 exact h1
theorem Nr.cap {B b cap : Nat} {xs : List Int} {w : World} (h : Nr B w b cap xs) : xs.length ≤ cap := by
 rcases h.2 with ⟨e, _⟩ | ⟨g, cap', cur, e, _, _, hn, _⟩
 ·cases e
 ·injection e with _ _ e
  omega
theorem grown_set {w w' : World} {b j : Nat} {v : Value} (h : w.grownBy w' (some b)) : w.grownBy (w'.setCell ⟨b, j, none⟩ v) (some b) :=
 ⟨h.os, h.tape, h.output, by simpa using h.size, fun k hk hn => by rw [Below.heap_setCell _ _ _ _ (fun e => hn (by rw [e]))]; exact h.block k hk hn⟩
theorem grown_below {w w' w'' : World} {row : Option Nat} (h : w.grownBy w' row) (hb : Below w'.heap.size w' w'') : w.grownBy w'' row :=
 ⟨hb.os.trans h.os, hb.tape.trans h.tape, hb.output.trans h.output, Nat.le_trans h.size hb.size, fun k hk hn => by rw [hb.block k (Nat.lt_of_lt_of_le hk h.size)]; exact h.block k hk hn⟩
theorem filter_take (P : Int → Bool) (xs : List Int) (j : Nat) (hj : j < xs.length) : (xs.take (j + 1)).filter P = (xs.take j).filter P ++ (if P (xs.getD j 0) then [xs.getD j 0] else []) := by
 rw [List.take_add_one, List.getElem?_eq_getElem hj, List.filter_append, List.getD_eq_getElem?_getD, List.getElem?_eq_getElem hj]
 show _ ++ List.filter P [xs[j]] = _ ++ if P xs[j] then [xs[j]] else []
 rw [List.filter_cons, List.filter_nil]
theorem nr_noughts {B b cap : Nat} : ∀ (m o : Nat) (zs : List Int) (w : World), Nr B w b cap zs → ∃ zs', Nr B (w.setCells b o (List.replicate m (.int .i64 0))) b cap zs' ∧ zs'.length = zs.length ∧ zs'.take o = zs.take o
 | 0, o, zs, w, h => ⟨zs, h, rfl, rfl⟩
 | m + 1, o, zs, w, h => by
  obtain ⟨zs', h1, h2, h3⟩ := nr_noughts m (o + 1) (zs.set o 0) _ (h.set o 0)
  refine ⟨zs', h1, by rw [h2, List.length_set], ?_⟩
  have h4 : (zs'.take (o + 1)).take o = ((zs.set o 0).take (o + 1)).take o := by rw [h3]
  rw [List.take_take, List.take_take, Nat.min_eq_left (Nat.le_succ o), List.take_set_of_le (Nat.le_refl _)] at h4
  exact h4
theorem grown_noughts {w : World} {b : Nat} : ∀ (vs : List Value) (o : Nat) (w' : World), w.grownBy w' (some b) → w.grownBy (w'.setCells b o vs) (some b)
 | [], _, _, h => h
 | v :: r, o, w', h => by
  rw [World.setCells]
  exact grown_noughts r (o + 1) _ (grown_set h)
theorem nr_take {B b cap m : Nat} {xs zs : List Int} {w : World} (h : Nr B w b cap zs) (hx : zs.take m = xs) (hm : xs.length = m) (hz : m ≤ zs.length) : Nr B w b cap xs := by
 unfold Nr
 rcases h.2 with ⟨e, _⟩ | ⟨g, cap', cur, e, h1, h2, h3, h4, h5, h6⟩
 ·cases e
 ·injection e with e1 e2 e3
  injection e1 with e1
  injection e1 with e1
  subst e1 e3
  refine ⟨by simp, .inr ⟨b, cap, cur, rfl, h1, h2, by omega, h4, h5, ?_⟩⟩
  rw [Nat.mul_one] at h6 ⊢
  have h7 : (cur.toList.take zs.length).take m = (zs.map (Value.int .i64)).take m := by rw [h6]
  rw [List.take_take, Nat.min_eq_left hz, ← List.map_take, hx] at h7
  rw [hm]
  exact h7
/-- What DeleteFunc leaves. -/
def DelQ (B : Nat) (w : World) (b cap : Nat) (ys : List Int) : Ending → World → Prop := fun e w' => e = .returned (.slice (some ⟨b, 0, none⟩) ys.length cap) ∧ Nr B w' b cap ys ∧ w.grownBy w' (some b)
/-- A row while elements are taken out of it: i kept of the first j. -/
structure DelI (K : Int → Bool) (xs : List Int) (i j : Nat) (zs : List Int) : Prop where
 ij : i < j
 jl : j ≤ xs.length
 zl : zs.length = xs.length
 fr : (xs.take j).filter K = zs.take i
 tl : zs.drop j = xs.drop j
theorem DelI.at_ {K : Int → Bool} {xs zs : List Int} {i j : Nat} (h : DelI K xs i j zs) (hj : j < xs.length) : zs.getD j 0 = xs.getD j 0 := by
 have h1 : (zs.drop j)[0]? = (xs.drop j)[0]? := by rw [h.tl]
 rw [List.getElem?_drop, List.getElem?_drop, Nat.add_zero] at h1
 rw [List.getD_eq_getElem?_getD, List.getD_eq_getElem?_getD, h1]
theorem DelI.skip {K : Int → Bool} {xs zs : List Int} {i j : Nat} (h : DelI K xs i j zs) (hj : j < xs.length) (hk : K (xs.getD j 0) = false) : DelI K xs i (j + 1) zs := by
 refine ⟨by have := h.ij; omega, hj, h.zl, ?_, ?_⟩
 ·rw [filter_take K xs j hj, hk, ← h.fr]; simp
 ·rw [← List.drop_drop, h.tl, List.drop_drop]
theorem DelI.keep {K : Int → Bool} {xs zs : List Int} {i j : Nat} (h : DelI K xs i j zs) (hj : j < xs.length) (hk : K (xs.getD j 0) = true) : DelI K xs (i + 1) (j + 1) (zs.set i (xs.getD j 0)) := by
 have hij := h.ij
 have hzl := h.zl
 refine ⟨by omega, hj, by simp [h.zl], ?_, ?_⟩
 ·rw [filter_take K xs j hj, hk, h.fr, List.take_add_one, List.getElem?_set_self (by omega), List.take_set_of_le (Nat.le_refl _)]
  rfl
 ·rw [List.drop_set_of_lt (by omega), ← List.drop_drop, h.tl, List.drop_drop]
set_option maxRecDepth 100000 in
set_option maxHeartbeats 4000000 in
theorem idxb (g1 g2 B b cap : Nat) (xs : List Int) (P : Int → Bool) (w : World) (hO : Nr B w b cap xs) (hn : xs.length ≤ 64) (hX : ∀ j, i64 (xs.getD j 0)) (hC : ∀ x W, i64 x → w.grownBy W (some b) → Calls Tryz.prog 27 #[.int .i64 x, .pointer (some ⟨g1, 0, none⟩), .pointer (some ⟨g2, 0, none⟩)] W fun e w' => e = .returned (.bool (P x)) ∧ Below W.heap.size W w') :
  Calls Tryz.prog 47 #[.slice (some ⟨b, 0, none⟩) xs.length cap, .func (.func 27) #[] #[.pointer (some ⟨g1, 0, none⟩), .pointer (some ⟨g2, 0, none⟩)]] w fun e w' => ∃ i : Int, e = .returned (.int .i64 i) ∧ ((i = -1 ∧ ∀ j, j < xs.length → P (xs.getD j 0) = false) ∨ ∃ k : Nat, i = (k : Int) ∧ k < xs.length ∧ P (xs.getD k 0) = true ∧ ∀ j, j < k → P (xs.getD j 0) = false) ∧ Below w.heap.size w w' := by
 have HO := TW.hide hO
 have HCl := TW.hide hC
 clear hO hC
 obtain ⟨POST, hP⟩ : ∃ Q : Ending → World → Prop, Q = fun e w' => ∃ i : Int, e = .returned (.int .i64 i) ∧ ((i = -1 ∧ ∀ j, j < xs.length → P (xs.getD j 0) = false) ∨ ∃ k : Nat, i = (k : Int) ∧ k < xs.length ∧ P (xs.getD k 0) = true ∧ ∀ j, j < k → P (xs.getD j 0) = false) ∧ Below w.heap.size w w' := ⟨_, rfl⟩
 have HP := TW.hide hP
 rw [← hP]
 clear hP
 go_enter Tryz.func47, Tryz.ntmps47
 go_wp2
 go_loopw [8] (fun i wr => ∃ k : Nat, k ≤ xs.length ∧ i = .int .i64 (k : Int) ∧ Hid (∀ j, j < k → P (xs.getD j 0) = false) ∧ Hid (Below w.heap.size w wr)) (fun i wr => xs.length - (intOf i).toNat)
 case atStart => exact ⟨0, Nat.zero_le _, rfl, TW.hide (fun j hj => absurd hj (Nat.not_lt_zero _)), TW.hide (Below.refl _ _)⟩
 case round =>
  obtain ⟨k, hk, rfl, HA, HB⟩ := hrel
  by_cases hlt : k < xs.length
  ·have hk1 : (k : Int) < (xs.length : Int) := by omega
   have hk0 : (0 : Int) ≤ (k : Int) := by omega
   have y := (HO.out.below HB.out).get k hlt
   have HCk := TW.hide (HCl.out (xs.getD k 0) wr (hX k) (grown_below ⟨rfl, rfl, rfl, Nat.le_refl _, fun _ _ _ => rfl⟩ HB.out))
   have HLT := TW.hide hlt
   obtain ⟨pb, hpb⟩ : ∃ pb, P (xs.getD k 0) = pb := ⟨_, rfl⟩
   have HPB := TW.hide hpb
   rw [hpb] at HCk
   clear hpb hlt
   obtain ⟨x, hx⟩ : ∃ x, xs.getD k 0 = x := ⟨_, rfl⟩
   rw [hx] at y HCk
   clear hx
   go_wp2_with fail
   refine HCk.out.mono ?_
   rintro e1 W1 ⟨rfl, hb⟩
   have HB1 : Hid (Below w.heap.size w W1) := HB.out.trans (hb.mono HB.out.size)
   clear hb HCk
   cases pb with
   | true =>
    have HR : Hid (POST (.returned (.int .i64 (k : Int))) W1) := by show POST _ _; rw [HP.out]; exact ⟨_, rfl, .inr ⟨k, rfl, HLT.out, HPB.out, HA.out⟩, HB1.out⟩
    go_wp2
    first | exact HR.out | exact ⟨rfl, HR.out⟩
   | false =>
    have HA1 : Hid (∀ j, j < k + 1 → P (xs.getD j 0) = false) := fun j hj => by
     rcases Nat.lt_succ_iff_lt_or_eq.1 hj with h | rfl
     ·exact HA.out j h
     ·exact HPB.out
    go_wp2
    go_roundw
    case rel => exact ⟨k + 1, HLT.out, by go_num, HA1, HB1⟩
    case measure => simp [intOf]; have := HLT.out; omega
  ·have hkn : xs.length = k := by omega
   have kk : ((k : Int) < (xs.length : Int)) = False := by simp; omega
   have HR : Hid (POST (.returned (.int .i64 (-1))) wr) := by show POST _ _; rw [HP.out]; exact ⟨_, rfl, .inl ⟨rfl, fun j hj => HA.out j (by omega)⟩, HB.out⟩
   clear hkn
   go_wp2
   first | exact HR.out | exact ⟨rfl, HR.out⟩
set_option maxRecDepth 100000 in
set_option maxHeartbeats 4000000 in
theorem idxc (g1 B b cap : Nat) (xs : List Int) (P : Int → Bool) (w : World) (hO : Nr B w b cap xs) (hn : xs.length ≤ 64) (hX : ∀ j, i64 (xs.getD j 0)) (hC : ∀ x W, i64 x → w.grownBy W (some b) → Calls Tryz.prog 29 #[.int .i64 x, .pointer (some ⟨g1, 0, none⟩)] W fun e w' => e = .returned (.bool (P x)) ∧ Below W.heap.size W w') :
  Calls Tryz.prog 47 #[.slice (some ⟨b, 0, none⟩) xs.length cap, .func (.func 29) #[] #[.pointer (some ⟨g1, 0, none⟩)]] w fun e w' => ∃ i : Int, e = .returned (.int .i64 i) ∧ ((i = -1 ∧ ∀ j, j < xs.length → P (xs.getD j 0) = false) ∨ ∃ k : Nat, i = (k : Int) ∧ k < xs.length ∧ P (xs.getD k 0) = true ∧ ∀ j, j < k → P (xs.getD j 0) = false) ∧ Below w.heap.size w w' := by
 have HO := TW.hide hO
 have HCl := TW.hide hC
 clear hO hC
 obtain ⟨POST, hP⟩ : ∃ Q : Ending → World → Prop, Q = fun e w' => ∃ i : Int, e = .returned (.int .i64 i) ∧ ((i = -1 ∧ ∀ j, j < xs.length → P (xs.getD j 0) = false) ∨ ∃ k : Nat, i = (k : Int) ∧ k < xs.length ∧ P (xs.getD k 0) = true ∧ ∀ j, j < k → P (xs.getD j 0) = false) ∧ Below w.heap.size w w' := ⟨_, rfl⟩
 have HP := TW.hide hP
 rw [← hP]
 clear hP
 go_enter Tryz.func47, Tryz.ntmps47
 go_wp2
 go_loopw [8] (fun i wr => ∃ k : Nat, k ≤ xs.length ∧ i = .int .i64 (k : Int) ∧ Hid (∀ j, j < k → P (xs.getD j 0) = false) ∧ Hid (Below w.heap.size w wr)) (fun i wr => xs.length - (intOf i).toNat)
 case atStart => exact ⟨0, Nat.zero_le _, rfl, TW.hide (fun j hj => absurd hj (Nat.not_lt_zero _)), TW.hide (Below.refl _ _)⟩
 case round =>
  obtain ⟨k, hk, rfl, HA, HB⟩ := hrel
  by_cases hlt : k < xs.length
  ·have hk1 : (k : Int) < (xs.length : Int) := by omega
   have hk0 : (0 : Int) ≤ (k : Int) := by omega
   have y := (HO.out.below HB.out).get k hlt
   have HCk := TW.hide (HCl.out (xs.getD k 0) wr (hX k) (grown_below ⟨rfl, rfl, rfl, Nat.le_refl _, fun _ _ _ => rfl⟩ HB.out))
   have HLT := TW.hide hlt
   obtain ⟨pb, hpb⟩ : ∃ pb, P (xs.getD k 0) = pb := ⟨_, rfl⟩
   have HPB := TW.hide hpb
   rw [hpb] at HCk
   clear hpb hlt
   obtain ⟨x, hx⟩ : ∃ x, xs.getD k 0 = x := ⟨_, rfl⟩
   rw [hx] at y HCk
   clear hx
   go_wp2_with fail
   refine HCk.out.mono ?_
   rintro e1 W1 ⟨rfl, hb⟩
   have HB1 : Hid (Below w.heap.size w W1) := HB.out.trans (hb.mono HB.out.size)
   clear hb HCk
   cases pb with
   | true =>
    have HR : Hid (POST (.returned (.int .i64 (k : Int))) W1) := by show POST _ _; rw [HP.out]; exact ⟨_, rfl, .inr ⟨k, rfl, HLT.out, HPB.out, HA.out⟩, HB1.out⟩
    go_wp2
    first | exact HR.out | exact ⟨rfl, HR.out⟩
   | false =>
    have HA1 : Hid (∀ j, j < k + 1 → P (xs.getD j 0) = false) := fun j hj => by
     rcases Nat.lt_succ_iff_lt_or_eq.1 hj with h | rfl
     ·exact HA.out j h
     ·exact HPB.out
    go_wp2
    go_roundw
    case rel => exact ⟨k + 1, HLT.out, by go_num, HA1, HB1⟩
    case measure => simp [intOf]; have := HLT.out; omega
  ·have hkn : xs.length = k := by omega
   have kk : ((k : Int) < (xs.length : Int)) = False := by simp; omega
   have HR : Hid (POST (.returned (.int .i64 (-1))) wr) := by show POST _ _; rw [HP.out]; exact ⟨_, rfl, .inl ⟨rfl, fun j hj => HA.out j (by omega)⟩, HB.out⟩
   clear hkn
   go_wp2
   first | exact HR.out | exact ⟨rfl, HR.out⟩
set_option maxRecDepth 100000 in
set_option maxHeartbeats 4000000 in
theorem delb (g1 g2 B b cap : Nat) (xs : List Int) (P : Int → Bool) (w : World) (hO : Nr B w b cap xs) (hn : xs.length ≤ 64) (hX : ∀ j, i64 (xs.getD j 0)) (hC : ∀ x W, i64 x → w.grownBy W (some b) → Calls Tryz.prog 27 #[.int .i64 x, .pointer (some ⟨g1, 0, none⟩), .pointer (some ⟨g2, 0, none⟩)] W fun e w' => e = .returned (.bool (P x)) ∧ Below W.heap.size W w') :
  Calls Tryz.prog 26 #[.slice (some ⟨b, 0, none⟩) xs.length cap, .func (.func 27) #[] #[.pointer (some ⟨g1, 0, none⟩), .pointer (some ⟨g2, 0, none⟩)]] w (DelQ B w b cap (xs.filter (fun x => !P x))) := by
 have HO := TW.hide hO
 have HCl := TW.hide hC
 have HIx := TW.hide (idxb g1 g2 B b cap xs P w hO hn hX hC)
 have hcp := hO.cap
 clear hO hC
 obtain ⟨POST, hP⟩ : ∃ Q : Ending → World → Prop, Q = DelQ B w b cap (xs.filter (fun x => !P x)) := ⟨_, rfl⟩
 have HP := TW.hide hP
 rw [← hP]
 clear hP
 go_enter Tryz.func26, Tryz.ntmps26
 go_wp2_with fail
 refine HIx.out.mono ?_
 rintro e1 W1 ⟨i, rfl, hi, hb⟩
 have HB1 := TW.hide hb
 clear hb HIx
 rcases hi with ⟨rfl, hi⟩ | ⟨k0, rfl, hk0, hp0, hi⟩
 ·have hf : xs.filter (fun x => !P x) = xs := List.filter_eq_self.2 (fun x hx => by
   obtain ⟨j, hj, rfl⟩ := List.mem_iff_getElem.1 hx
   have h1 := hi j hj
   rw [List.getD_eq_getElem?_getD, List.getElem?_eq_getElem hj] at h1
   simpa using h1)
  have HR : Hid (POST (.returned (.slice (some ⟨b, 0, none⟩) xs.length cap)) W1) := by show POST _ _; rw [HP.out, hf]; exact ⟨rfl, HO.out.below HB1.out, grown_below ⟨rfl, rfl, rfl, Nat.le_refl _, fun _ _ _ => rfl⟩ HB1.out⟩
  clear hi hf
  go_wp2
  first | exact HR.out | exact ⟨rfl, HR.out⟩
 ·have h64 : k0 < 64 := by omega
  have kne : ((k0 : Int) == -1) = false := beq_eq_false_iff_ne.2 (by omega)
  have HS : Hid (DelI (fun x => !P x) xs k0 (k0 + 1) xs) := by
   refine ⟨by omega, by omega, rfl, ?_, rfl⟩
   have h1 : (xs.take k0).filter (fun x => !P x) = xs.take k0 := List.filter_eq_self.2 (fun x hx => by
    obtain ⟨j, hj, rfl⟩ := List.mem_iff_getElem.1 hx
    have hj' : j < k0 := by simp at hj; omega
    have h1 := hi j hj'
    rw [List.getD_eq_getElem?_getD, List.getElem?_eq_getElem (by omega)] at h1
    simpa using h1)
   rw [filter_take _ xs k0 hk0, h1, hp0]
   simp
  have HGr : Hid (w.grownBy W1 (some b)) := grown_below ⟨rfl, rfl, rfl, Nat.le_refl _, fun _ _ _ => rfl⟩ HB1.out
  have HNr := TW.hide (HO.out.below HB1.out)
  clear hi hp0 HB1 hk0
  go_wp2
  go_loopw [5, 6] (fun a c wr => ∃ (i j : Nat) (zs : List Int), a = .int .i64 (i : Int) ∧ c = .int .i64 (j : Int) ∧ j ≤ xs.length ∧ Hid (DelI (fun x => !P x) xs i j zs) ∧ Hid (Nr B wr b cap zs) ∧ Hid (w.grownBy wr (some b))) (fun a c wr => xs.length - (intOf c).toNat)
  case atStart => exact ⟨k0, k0 + 1, xs, rfl, by go_num, HS.out.jl, HS, HNr, HGr⟩
  case round =>
   clear HS HNr HGr
   obtain ⟨i, j, zs, rfl, rfl, hj, HD, HN, HG⟩ := hrel
   have hzl := HD.out.zl
   have hij := HD.out.ij
   by_cases hlt : j < xs.length
   ·have HLT := TW.hide hlt
    have hj1 : (j : Int) < (xs.length : Int) := by omega
    have hj0 : (0 : Int) ≤ (j : Int) := by omega
    have hi1 : (i : Int) < (xs.length : Int) := by omega
    have hi0 : (0 : Int) ≤ (i : Int) := by omega
    have hj64 : j < 64 := by omega
    have hi64 : i < 64 := by omega
    have y := HN.out.get j (by omega)
    rw [HD.out.at_ hlt] at y
    have HCk := TW.hide (HCl.out (xs.getD j 0) wr (hX j) HG.out)
    obtain ⟨pb, hpb⟩ : ∃ pb, P (xs.getD j 0) = pb := ⟨_, rfl⟩
    have HPB := TW.hide hpb
    rw [hpb] at HCk
    have HSt : Hid (pb = false → ∀ Y, Below wr.heap.size wr Y → (∃ z, Y.cell? ⟨b, i, none⟩ = some z) ∧ Y.frozen? ⟨b, i, none⟩ = false ∧ DelI (fun x => !P x) xs (i + 1) (j + 1) (zs.set i (xs.getD j 0)) ∧ Nr B (Y.setCell ⟨b, i, none⟩ (.int .i64 (xs.getD j 0))) b cap (zs.set i (xs.getD j 0)) ∧ w.grownBy (Y.setCell ⟨b, i, none⟩ (.int .i64 (xs.getD j 0))) (some b)) := fun hb Y hY => ⟨⟨_, (HN.out.below hY).get i (by omega)⟩, (HN.out.below hY).fz i, HD.out.keep hlt (by rw [hpb, hb]; rfl), (HN.out.below hY).set i _, grown_set (grown_below HG.out hY)⟩
    have HSk : Hid (pb = true → DelI (fun x => !P x) xs i (j + 1) zs) := fun hb => HD.out.skip hlt (by rw [hpb, hb]; rfl)
    clear hpb hlt HD hzl hij
    generalize xs.getD j 0 = x at y HCk HSt
    go_wp2_with fail
    refine HCk.out.mono ?_
    rintro e2 W2 ⟨rfl, hb⟩
    have HNr := TW.hide (HN.out.below hb)
    have HGr := TW.hide (grown_below HG.out hb)
    cases pb with
    | false =>
     obtain ⟨⟨z, cz⟩, fz, hD, hN, hG⟩ := HSt.out rfl W2 hb
     have HD1 := TW.hide hD
     have HN1 := TW.hide hN
     have HG1 := TW.hide hG
     clear hb hD hN hG HSt HSk HCk HNr HGr
     go_wp2
     go_roundw
     case rel => exact ⟨i + 1, j + 1, _, by go_num, by go_num, HLT.out, HD1, HN1, HG1⟩
     case measure => simp [intOf]; have := HLT.out; omega
    | true =>
     have HD1 := TW.hide (HSk.out rfl)
     clear hb HSt HSk HCk
     go_wp2
     go_roundw
     case rel => exact ⟨i, j + 1, zs, rfl, by go_num, HLT.out, HD1, HNr, HGr⟩
     case measure => simp [intOf]; have := HLT.out; omega
   ·obtain rfl : j = xs.length := by omega
    have hi1 : (i : Int) ≤ (xs.length : Int) := by omega
    have hi2 : (i : Int) ≤ (cap : Int) := by omega
    have hi0 : (0 : Int) ≤ (i : Int) := by omega
    have hcl : ∀ ty, (Builtin.clear_ #[23] ty #[.slice (some ⟨b, 0 + i, none⟩) (xs.length - i) (cap - i)]).run Tryz.prog wr = .ok (.tuple #[]) (wr.setCells b (0 + i) (List.replicate (xs.length - i) (.int .i64 0))) :=
     fun ty => Lib.run_clear_slice wr _ _ ty _ Tryz.underlying23 zeroI rfl rfl b (0 + i) _ _ (by omega) (fun t ht => by rw [show 0 + i + t = i + t by omega, HN.out.get (i + t) (by omega)]; rfl) (fun t ht => by rw [show 0 + i + t = i + t by omega]; exact HN.out.fz _)
    rw [Nat.zero_add] at hcl
    have HR : Hid (POST (.returned (.slice (some ⟨b, 0, none⟩) i cap)) (wr.setCells b i (List.replicate (xs.length - i) (.int .i64 0)))) := by
     show POST _ _
     obtain ⟨zs', h1, h2, h3⟩ := nr_noughts (xs.length - i) i zs wr HN.out
     have hf := HD.out.fr
     rw [List.take_of_length_le (Nat.le_refl _)] at hf
     have hfl : (xs.filter (fun x => !P x)).length = i := by rw [hf, List.length_take]; omega
     rw [HP.out]
     exact ⟨by rw [hfl], nr_take h1 (by rw [h3, ← hf]) hfl (by omega), grown_noughts _ _ _ HG.out⟩
    have hne : ¬ (cap - i = 0) := by omega
    have e1 : (xs.length : Int) - (i : Int) = ((xs.length - i : Nat) : Int) := by omega
    have e2 : (cap : Int) - (i : Int) = ((cap - i : Nat) : Int) := by omega
    clear HD HN HG hij hzl HO HCl
    go_wp2
    first | exact HR.out | exact ⟨rfl, HR.out⟩
set_option maxRecDepth 100000 in
set_option maxHeartbeats 4000000 in
theorem delc (g1 B b cap : Nat) (xs : List Int) (P : Int → Bool) (w : World) (hO : Nr B w b cap xs) (hn : xs.length ≤ 64) (hX : ∀ j, i64 (xs.getD j 0)) (hC : ∀ x W, i64 x → w.grownBy W (some b) → Calls Tryz.prog 29 #[.int .i64 x, .pointer (some ⟨g1, 0, none⟩)] W fun e w' => e = .returned (.bool (P x)) ∧ Below W.heap.size W w') :
  Calls Tryz.prog 26 #[.slice (some ⟨b, 0, none⟩) xs.length cap, .func (.func 29) #[] #[.pointer (some ⟨g1, 0, none⟩)]] w (DelQ B w b cap (xs.filter (fun x => !P x))) := by
 have HO := TW.hide hO
 have HCl := TW.hide hC
 have HIx := TW.hide (idxc g1 B b cap xs P w hO hn hX hC)
 have hcp := hO.cap
 clear hO hC
 obtain ⟨POST, hP⟩ : ∃ Q : Ending → World → Prop, Q = DelQ B w b cap (xs.filter (fun x => !P x)) := ⟨_, rfl⟩
 have HP := TW.hide hP
 rw [← hP]
 clear hP
 go_enter Tryz.func26, Tryz.ntmps26
 go_wp2_with fail
 refine HIx.out.mono ?_
 rintro e1 W1 ⟨i, rfl, hi, hb⟩
 have HB1 := TW.hide hb
 clear hb HIx
 rcases hi with ⟨rfl, hi⟩ | ⟨k0, rfl, hk0, hp0, hi⟩
 ·have hf : xs.filter (fun x => !P x) = xs := List.filter_eq_self.2 (fun x hx => by
   obtain ⟨j, hj, rfl⟩ := List.mem_iff_getElem.1 hx
   have h1 := hi j hj
   rw [List.getD_eq_getElem?_getD, List.getElem?_eq_getElem hj] at h1
   simpa using h1)
  have HR : Hid (POST (.returned (.slice (some ⟨b, 0, none⟩) xs.length cap)) W1) := by show POST _ _; rw [HP.out, hf]; exact ⟨rfl, HO.out.below HB1.out, grown_below ⟨rfl, rfl, rfl, Nat.le_refl _, fun _ _ _ => rfl⟩ HB1.out⟩
  clear hi hf
  go_wp2
  first | exact HR.out | exact ⟨rfl, HR.out⟩
 ·have h64 : k0 < 64 := by omega
  have kne : ((k0 : Int) == -1) = false := beq_eq_false_iff_ne.2 (by omega)
  have HS : Hid (DelI (fun x => !P x) xs k0 (k0 + 1) xs) := by
   refine ⟨by omega, by omega, rfl, ?_, rfl⟩
   have h1 : (xs.take k0).filter (fun x => !P x) = xs.take k0 := List.filter_eq_self.2 (fun x hx => by
    obtain ⟨j, hj, rfl⟩ := List.mem_iff_getElem.1 hx
    have hj' : j < k0 := by simp at hj; omega
    have h1 := hi j hj'
    rw [List.getD_eq_getElem?_getD, List.getElem?_eq_getElem (by omega)] at h1
    simpa using h1)
   rw [filter_take _ xs k0 hk0, h1, hp0]
   simp
  have HGr : Hid (w.grownBy W1 (some b)) := grown_below ⟨rfl, rfl, rfl, Nat.le_refl _, fun _ _ _ => rfl⟩ HB1.out
  have HNr := TW.hide (HO.out.below HB1.out)
  clear hi hp0 HB1 hk0
  go_wp2
  go_loopw [5, 6] (fun a c wr => ∃ (i j : Nat) (zs : List Int), a = .int .i64 (i : Int) ∧ c = .int .i64 (j : Int) ∧ j ≤ xs.length ∧ Hid (DelI (fun x => !P x) xs i j zs) ∧ Hid (Nr B wr b cap zs) ∧ Hid (w.grownBy wr (some b))) (fun a c wr => xs.length - (intOf c).toNat)
  case atStart => exact ⟨k0, k0 + 1, xs, rfl, by go_num, HS.out.jl, HS, HNr, HGr⟩
  case round =>
   clear HS HNr HGr
   obtain ⟨i, j, zs, rfl, rfl, hj, HD, HN, HG⟩ := hrel
   have hzl := HD.out.zl
   have hij := HD.out.ij
   by_cases hlt : j < xs.length
   ·have HLT := TW.hide hlt
    have hj1 : (j : Int) < (xs.length : Int) := by omega
    have hj0 : (0 : Int) ≤ (j : Int) := by omega
    have hi1 : (i : Int) < (xs.length : Int) := by omega
    have hi0 : (0 : Int) ≤ (i : Int) := by omega
    have hj64 : j < 64 := by omega
    have hi64 : i < 64 := by omega
    have y := HN.out.get j (by omega)
    rw [HD.out.at_ hlt] at y
    have HCk := TW.hide (HCl.out (xs.getD j 0) wr (hX j) HG.out)
    obtain ⟨pb, hpb⟩ : ∃ pb, P (xs.getD j 0) = pb := ⟨_, rfl⟩
    have HPB := TW.hide hpb
    rw [hpb] at HCk
    have HSt : Hid (pb = false → ∀ Y, Below wr.heap.size wr Y → (∃ z, Y.cell? ⟨b, i, none⟩ = some z) ∧ Y.frozen? ⟨b, i, none⟩ = false ∧ DelI (fun x => !P x) xs (i + 1) (j + 1) (zs.set i (xs.getD j 0)) ∧ Nr B (Y.setCell ⟨b, i, none⟩ (.int .i64 (xs.getD j 0))) b cap (zs.set i (xs.getD j 0)) ∧ w.grownBy (Y.setCell ⟨b, i, none⟩ (.int .i64 (xs.getD j 0))) (some b)) := fun hb Y hY => ⟨⟨_, (HN.out.below hY).get i (by omega)⟩, (HN.out.below hY).fz i, HD.out.keep hlt (by rw [hpb, hb]; rfl), (HN.out.below hY).set i _, grown_set (grown_below HG.out hY)⟩
    have HSk : Hid (pb = true → DelI (fun x => !P x) xs i (j + 1) zs) := fun hb => HD.out.skip hlt (by rw [hpb, hb]; rfl)
    clear hpb hlt HD hzl hij
    generalize xs.getD j 0 = x at y HCk HSt
    go_wp2_with fail
    refine HCk.out.mono ?_
    rintro e2 W2 ⟨rfl, hb⟩
    have HNr := TW.hide (HN.out.below hb)
    have HGr := TW.hide (grown_below HG.out hb)
    cases pb with
    | false =>
     obtain ⟨⟨z, cz⟩, fz, hD, hN, hG⟩ := HSt.out rfl W2 hb
     have HD1 := TW.hide hD
     have HN1 := TW.hide hN
     have HG1 := TW.hide hG
     clear hb hD hN hG HSt HSk HCk HNr HGr
     go_wp2
     go_roundw
     case rel => exact ⟨i + 1, j + 1, _, by go_num, by go_num, HLT.out, HD1, HN1, HG1⟩
     case measure => simp [intOf]; have := HLT.out; omega
    | true =>
     have HD1 := TW.hide (HSk.out rfl)
     clear hb HSt HSk HCk
     go_wp2
     go_roundw
     case rel => exact ⟨i, j + 1, zs, rfl, by go_num, HLT.out, HD1, HNr, HGr⟩
     case measure => simp [intOf]; have := HLT.out; omega
   ·obtain rfl : j = xs.length := by omega
    have hi1 : (i : Int) ≤ (xs.length : Int) := by omega
    have hi2 : (i : Int) ≤ (cap : Int) := by omega
    have hi0 : (0 : Int) ≤ (i : Int) := by omega
    have hcl : ∀ ty, (Builtin.clear_ #[23] ty #[.slice (some ⟨b, 0 + i, none⟩) (xs.length - i) (cap - i)]).run Tryz.prog wr = .ok (.tuple #[]) (wr.setCells b (0 + i) (List.replicate (xs.length - i) (.int .i64 0))) :=
     fun ty => Lib.run_clear_slice wr _ _ ty _ Tryz.underlying23 zeroI rfl rfl b (0 + i) _ _ (by omega) (fun t ht => by rw [show 0 + i + t = i + t by omega, HN.out.get (i + t) (by omega)]; rfl) (fun t ht => by rw [show 0 + i + t = i + t by omega]; exact HN.out.fz _)
    rw [Nat.zero_add] at hcl
    have HR : Hid (POST (.returned (.slice (some ⟨b, 0, none⟩) i cap)) (wr.setCells b i (List.replicate (xs.length - i) (.int .i64 0)))) := by
     show POST _ _
     obtain ⟨zs', h1, h2, h3⟩ := nr_noughts (xs.length - i) i zs wr HN.out
     have hf := HD.out.fr
     rw [List.take_of_length_le (Nat.le_refl _)] at hf
     have hfl : (xs.filter (fun x => !P x)).length = i := by rw [hf, List.length_take]; omega
     rw [HP.out]
     exact ⟨by rw [hfl], nr_take h1 (by rw [h3, ← hf]) hfl (by omega), grown_noughts _ _ _ HG.out⟩
    have hne : ¬ (cap - i = 0) := by omega
    have e1 : (xs.length : Int) - (i : Int) = ((xs.length - i : Nat) : Int) := by omega
    have e2 : (cap : Int) - (i : Int) = ((cap - i : Nat) : Int) := by omega
    clear HD HN HG hij hzl HO HCl
    go_wp2
    first | exact HR.out | exact ⟨rfl, HR.out⟩
end LW
end Go.Proofs.YtdjanbojhblijaaGreat
namespace Go.Proofs.YtdjanbojhblijaaGreat
open Go.RowKit
set_option linter.unusedVariables false
set_option linter.unusedSimpArgs false
namespace LW
open Mc
/-- The locks' numbers. -/
def lkL (L : Nat) : List Int := (List.range L).map (fun (k : Nat) => (k : Int))
theorem lkL_len (L : Nat) : (lkL L).length = L := by simp [lkL]
theorem i64_in {xs : List Int} {n : Nat} (hn : n ≤ 64) (h : ∀ x ∈ xs, 0 ≤ x ∧ x < (n : Int)) (j : Nat) : i64 (xs.getD j 0) := by
 by_cases hj : j < xs.length
 ·have := h (xs.getD j 0) (by rw [List.getD_eq_getElem?_getD, List.getElem?_eq_getElem hj]; exact List.getElem_mem hj)
  unfold i64
  omega
 ·rw [List.getD_eq_getElem?_getD, List.getElem?_eq_none (by omega)]
  exact i64_0
theorem lkL_mem (L : Nat) : ∀ x ∈ lkL L, 0 ≤ x ∧ x < (L : Int) := by
 intro x hx
 simp [lkL] at hx
 obtain ⟨a, h, rfl⟩ := hx
 omega
theorem cellsY7 {w : World} {b : Nat} {t : TypeId} {x0 x1 x2 x3 x4 x5 x6 : Value} (h : w.heap[b]? = some (.cells #[x0, x1, x2, x3, x4, x5, x6] t (0, 0))) : w.cell? ⟨b, 0, none⟩ = some x0 ∧ w.cell? ⟨b, 1, none⟩ = some x1 ∧ w.cell? ⟨b, 2, none⟩ = some x2 ∧ w.cell? ⟨b, 3, none⟩ = some x3 ∧ w.cell? ⟨b, 4, none⟩ = some x4 ∧ w.cell? ⟨b, 5, none⟩ = some x5 ∧ w.cell? ⟨b, 6, none⟩ = some x6 := by
 simp [World.cell?, h]
def lcV (k : Nat) (j : Nat) : Value := .int .i64 (if j < k then (j : Int) else 0)
theorem or_lk {B : Nat} {W : World} {b L : Nat} (h : OR B W 3 b L (lcV L)) : Nr B W b L (lkL L) := by
 unfold Nr
 rw [lkL_len]
 have : (lkL L).map (Value.int .i64) = rwI L (lcV L) := by
  unfold rwI lkL
  rw [List.map_map]
  refine List.map_congr_left (fun j hj => ?_)
  show Value.int .i64 (j : Int) = lcV L j
  unfold lcV
  rw [if_pos (List.mem_range.1 hj)]
 rw [this]
 exact h
set_option maxRecDepth 100000 in
set_option maxHeartbeats 4000000 in
theorem plocks (s : Syst) (pa : Option Addr) (pc : Nat) (ra : Option Addr) (rc : Nat) (la : Option Addr) (lc : Nat) (l : List Ev) (rn : Int) (L : Nat) (w : World) (hL : s.locks = (L : Int)) (hL6 : L ≤ 64) :
  Calls Tryz.prog 24 #[.agg #[.slice pa s.progs.length pc, .slice ra s.rooms.length rc, .int .i64 s.groups, .int .i64 s.locks, .int .i64 s.cells, .slice la l.length lc, .int .i64 rn]] w fun e w' => ∃ b, e = .returned (.slice (some ⟨b, 0, none⟩) L L) ∧ Nr w.heap.size w' b L (lkL L) ∧ Below w.heap.size w w' := by
 obtain ⟨POST, hP⟩ : ∃ Q : Ending → World → Prop, Q = fun e w' => ∃ b, e = .returned (.slice (some ⟨b, 0, none⟩) L L) ∧ Nr w.heap.size w' b L (lkL L) ∧ Below w.heap.size w w' := ⟨_, rfl⟩
 have HP := TW.hide hP
 rw [← hP]
 clear hP
 have HLk := TW.hide hL
 clear hL
 obtain ⟨i3, hi3, hz30, hz31, hz32⟩ := info_parts' intinfo
 have hA : Below w.heap.size w (w.alloc (.cells #[.slice pa s.progs.length pc, .slice ra s.rooms.length rc, .int .i64 s.groups, .int .i64 s.locks, .int .i64 s.cells, .slice la l.length lc, .int .i64 rn] 43)) := (Below.refl _ _).alloc (Nat.le_refl _) _
 have N1 : Hid ((w.alloc (.cells #[.slice pa s.progs.length pc, .slice ra s.rooms.length rc, .int .i64 s.groups, .int .i64 s.locks, .int .i64 s.cells, .slice la l.length lc, .int .i64 rn] 43)).heap[w.heap.size]? = some (.cells #[.slice pa s.progs.length pc, .slice ra s.rooms.length rc, .int .i64 s.groups, .int .i64 s.locks, .int .i64 s.cells, .slice la l.length lc, .int .i64 rn] 43 (0, 0))) := heap_alloc_new w _
 have NB := TW.hide hA
 clear hA
 go_enter Tryz.func24, Tryz.ntmps24
 refine wp_seq_k fun K hK => ?_
 have HK := TW.hide hK
 clear hK
 go_wp2
 refine HK.out _ _ ?_
 clear HK K
 generalize w.alloc _ = X at *
 obtain ⟨s0, s1, s2, s3, s4, s5, s6⟩ := cellsY7 N1.out
 have HXs : Hid (w.heap.size ≤ X.heap.size) := NB.out.size
 refine wp_seq_k fun K hK => ?_
 have HK := TW.hide hK
 clear hK
 go_wp2_with (at_make; refine wpList_make_full _ rfl _ _ 23 (by rfl) w.heap.size 3 i3 (.int .i64 0) 1 Tryz.underlying23 hi3 hz30 hz31 .i64 .i64 s.locks s.locks L (by rfl) (by rfl) HLk.out HLk.out (by rw [hz32]; omega) (by unfold maxLen; omega) HXs.out ?_; intro V hown hgrow)
 rw [made_rep _ rfl, rep_rw L (lcV 0) _ (fun c => by unfold lcV; simp)] at hown
 have NBV : Hid (Below w.heap.size w V) := NB.out.grown hgrow HXs.out (by intro k h; cases h)
 clear hgrow NB N1 HXs s0 s1 s2 s3 s4 s5 s6
 go_wp2
 refine HK.out _ _ ?_
 clear HK K
 generalize hbq : X.heap.size = b
 rw [hbq] at hown
 have HO : Hid (OR w.heap.size V 3 b L (lcV 0)) := hown
 clear hown hbq
 go_wp2
 go_loopw [11] (fun i wr => ∃ k : Nat, k ≤ L ∧ i = .int .i64 (k : Int) ∧ Hid (OR w.heap.size wr 3 b L (lcV k)) ∧ Hid (Below w.heap.size w wr)) (fun i wr => L - (intOf i).toNat)
 case atStart => exact ⟨0, Nat.zero_le _, rfl, HO, NBV⟩
 case round =>
  clear HO NBV
  obtain ⟨k, hk, rfl, HO, HB⟩ := hrel
  by_cases hlt : k < L
  ·have hk1 : (k : Int) < (L : Int) := by omega
   have hk0 : (0 : Int) ≤ (k : Int) := by omega
   have cz := HO.out.get k hlt
   have fz := HO.out.fz k
   have HO1 : Hid (OR w.heap.size (wr.setCell ⟨b, k, none⟩ (.int .i64 (k : Int))) 3 b L (lcV (k + 1))) := HO.out.set k _ (by unfold lcV; rw [if_pos (Nat.lt_succ_self k)]) (fun j hj => by unfold lcV; by_cases h : j < k; (rw [if_pos h, if_pos (by omega)]); (rw [if_neg h, if_neg (by omega)]))
   have HB1 : Hid (Below w.heap.size w (wr.setCell ⟨b, k, none⟩ (.int .i64 (k : Int)))) := HB.out.setCell HO.out.le _
   unfold lcV at cz
   clear HO HB
   go_wp2
   go_roundw
   case rel => exact ⟨k + 1, hlt, by go_num, HO1, HB1⟩
   case measure => simp [intOf]; omega
  ·obtain rfl : k = L := by omega
   have HR : Hid (POST (.returned (.slice (some ⟨b, 0, none⟩) k k)) wr) := by show POST _ _; rw [HP.out]; exact ⟨b, rfl, or_lk HO.out, HB.out⟩
   clear HO HB
   go_wp2
   first | exact HR.out | exact ⟨rfl, HR.out⟩
end LW
end Go.Proofs.YtdjanbojhblijaaGreat
namespace Go.Proofs.YtdjanbojhblijaaGreat
open Go.RowKit
set_option linter.unusedVariables false
set_option linter.unusedSimpArgs false
namespace LW
open Mc
end LW
end Go.Proofs.YtdjanbojhblijaaGreat
