/-
  The walk of WordCuts: it returns true for every input of bulk at most 1048576.
-/
import Derived.Test.YtbjelenmnlmodabCutParts
import Derived.Outline
namespace Go.Proofs.Ytbjelenmnlmodab
open Go.RowKit Go.ChangeShapes
set_option linter.unusedVariables false
namespace LW
open Words Pcs
theorem comp8 (z : Int) (h0 : 0 ≤ z) (h1 : z < 256) : bits BinOp.xor IntKind.u8 (if IntKind.u8.signed = true then -1 else IntKind.u8.max) z = 255 - z := by
  have e : (if IntKind.u8.signed = true then (-1 : Int) else IntKind.u8.max) = 255 := by decide
  rw [e, u8_xor 255 z (by omega) (by omega) h0 h1]
  obtain ⟨Z, rfl⟩ := Int.eq_ofNat_of_zero_le h0
  have key : ∀ i : Fin 256, 255 ^^^ i.val = 255 - i.val := by decide +kernel
  have := key ⟨Z, by omega⟩
  simp only at this
  rw [Int.toNat_natCast, show (255 : Int).toNat = 255 from rfl, this]
  omega
theorem own_some {w : World} {B c t : Nat} {v : Value} {xs : List Value} (h : w.ownsRow B t 1 v c xs) (hc : 0 < c) : ∃ g cap, v = .slice (some ⟨g, 0, none⟩) c cap ∧ B ≤ g ∧ g < w.heap.size := by
  rcases h.2 with ⟨_, h0⟩ | ⟨g, cap, cur, rfl, hg, hh, _⟩
  · omega
  · exact ⟨g, cap, rfl, hg, lt_of_heap hh⟩
theorem Sst.pieceAt {h g6 H2 len n c i j : Nat} {zs : List Int} {wr : World} (hs : Sst h g6 H2 len n c zs i wr) (hij : i ≤ j) (hj : j < c) : wr.cell? ⟨g6, j, none⟩ = some (.slice (some ⟨h, j * n, none⟩) (pl len n j) (pl len n j)) := by
  obtain ⟨cur, h1, h2, _⟩ := hs
  rw [cell_of_row _ _ _ cur 22 (0, 0) h1, h2 j hij hj]
set_option maxRecDepth 100000 in
set_option maxHeartbeats 4000000 in
theorem cutsN (a : Option Addr) (cap : Nat) (zs : List Int) (n : Nat) (w : World) (hz : Byt zs) (hr : Row w a zs) (hn : a = none → cap = 0) (hm : zs.length ≤ 1048576) (hn1 : 1 ≤ n) (hnm : n ≤ 9223372036854775807) (hpos : 0 < zs.length) :
    Calls Try.prog 3 #[.slice a zs.length cap, .int .i64 n] w fun e w' => e = .returned (.bool true) ∧ Below w.heap.size w w' := by
  obtain ⟨i0, hi, hz0, hz1, hz2⟩ := info_parts info5
  have hM : zs.length ≤ maxLen := by unfold maxLen; omega
  have c1 := copied a cap zs w hr hn (by omega)
  have k1 := fun (W : World) a' c' (h : Row W a' zs) => cut a' c' zs n W h hn1 hnm hm
  have k2 := fun (W : World) (h : Row W a zs) => rcut a cap zs n W hz h hn1 hnm hm
  have t5 : ∀ a' cap' W, Row W a zs → Row W a' zs → Calls Try.prog 11 #[.slice a zs.length cap, .slice a' zs.length cap'] W fun e w' => e = .returned (.bool true) ∧ ∃ q, w' = W.drewN q := by
    intro a' cap' W h h'
    have := same a a' cap cap' zs zs W h h' hM hM
    simpa using this
  have ho := fun (w' : World) (B : Nat) (x : Value) (h : w'.ownsRow B 5 1 x zs.length (vs zs)) => row_of_own h
  have hpi := fun j => pc_iff zs.length n j hn1
  have hcle := pc_le zs.length n hn1
  have hc0 : 0 < pc zs.length n := (pc_iff zs.length n 0 hn1).2 (by omega)
  have hpp := fun j => pl_pos zs.length n j hn1
  have hpf := fun j => pl_fit zs.length n j hn1
  have hmp := @mpiece
  -- the same pieces
  have sm : ∀ (j : Nat) (W : World) (h0 g0 c0 : Nat), (∀ t, t < pl zs.length n j → W.cell? ⟨h0, j * n + t, none⟩ = some (.int .u8 (zs.getD (j * n + t) 0))) → (∀ t, t < pl zs.length n j → W.cell? ⟨g0, t, none⟩ = some (.int .u8 (zs.getD (j * n + t) 0))) →
      Calls Try.prog 11 #[.slice (some ⟨h0, j * n, none⟩) (pl zs.length n j) (pl zs.length n j), .slice (some ⟨g0, 0, none⟩) (pl zs.length n j) c0] W fun e w' => e = .returned (.bool true) ∧ ∃ q, w' = W.drewN q := by
    intro j W h0 g0 c0 hc1 hc2
    have hl := pie_length zs n j
    have hb : (pie zs n j).length ≤ maxLen := by rw [hl]; unfold pl maxLen; omega
    have := same (some ⟨h0, j * n, none⟩) (some ⟨g0, 0, none⟩) (pl zs.length n j) c0 (pie zs n j) (pie zs n j) W
      (.inr ⟨h0, j * n, rfl, fun t ht => by rw [hl] at ht; rw [hc1 t ht, pie_get _ _ _ _ ht]⟩)
      (.inr ⟨g0, 0, rfl, fun t ht => by rw [hl] at ht; rw [Nat.zero_add, hc2 t ht, pie_get _ _ _ _ ht]⟩) hb hb
    rw [hl] at this
    simpa using this
  obtain ⟨len, hl⟩ : ∃ len, zs.length = len := ⟨_, rfl⟩
  have HLN := TW.hide hl
  rw [hl] at c1 k1 k2 t5 ho hpi hcle hc0 hpp hpf sm hm hpos ⊢
  have C := TW.hide c1
  have K1 := TW.hide k1
  have K2 := TW.hide k2
  have S := TW.hide t5
  have HO := TW.hide ho
  have HPI := TW.hide hpi
  have HPP := TW.hide hpp
  have HPF := TW.hide hpf
  have SM := TW.hide sm
  have HR := TW.hide hr
  have HZ := TW.hide hz
  clear c1 k1 k2 t5 ho hpi hpp hpf sm hr hz hl hM hn hmp
  obtain ⟨c, hc⟩ : ∃ c, pc len n = c := ⟨_, rfl⟩
  rw [hc] at K1 K2 hcle hc0
  have HC := TW.hide hc
  clear hc
  go_enter Try.func3, Try.ntmps3
  go_wp2_with fail
  refine C.out.mono ?_
  rintro e w1 ⟨x, rfl, hown, hb1⟩
  obtain ⟨a', cap', rfl, hr1, _⟩ := HO.out _ _ _ hown
  have R1 := TW.hide hr1
  have B1 := TW.hide hb1
  clear hown hr1 hb1
  go_wp2_with fail
  refine (K1.out _ _ _ R1.out).mono ?_
  rintro e w2 ⟨v6, rfl, hown6, hblk, hb2⟩
  obtain ⟨g6, c6, rfl, hg6, hg6l⟩ := own_some hown6 hc0
  have R2 := TW.hide (R1.out.below hb2)
  have O6 := TW.hide hown6
  have K6 := TW.hide hblk
  have B12 := TW.hide hb2
  have B2 : Hid (Below w.heap.size w w2) := B1.out.trans (hb2.mono B1.out.size)
  have hw12 := hb2.size
  have hhl := lt_of_heap hblk
  clear hb2 hown6 hblk
  go_wp2_with fail
  refine (K2.out _ (HR.out.below B2.out)).mono ?_
  rintro e w3 ⟨v8, ps, rfl, hown8, hdone, hb3⟩
  obtain ⟨g8, c8, rfl, hg8, hg8l⟩ := own_some hown8 hc0
  have R3 := TW.hide (R2.out.below hb3)
  have O8 := TW.hide hown8
  have DN := TW.hide hdone
  have B3 : Hid (Below w.heap.size w w3) := B2.out.trans (hb3.mono B2.out.size)
  have hw23 := hb3.size
  -- the program's row and spine in w3
  have HS0 : Hid (Hst w1.heap.size len zs 0 w3) := by
    refine ⟨(vs zs).toArray, by rw [hb3.block _ hhl]; exact K6.out, fun t ht => ?_⟩
    rw [List.getElem?_toArray, vs_get zs t (by rw [HLN.out]; exact ht)]
    simp
  have SS0 : Hid (Sst w1.heap.size g6 w3.heap.size len n c zs 0 w3) := by
    obtain ⟨cur, h1, h2, h3⟩ := own_cur O6.out
    refine ⟨cur, by rw [hb3.block _ (lt_of_heap h1)]; exact h1, fun j _ hj => ?_, fun j hj => absurd hj (Nat.not_lt_zero _)⟩
    rw [h3 j hj]
    simp [pvs, hj]
  have MP : Hid (∀ (W : World) (j : Nat), Keep w1.heap.size g6 w3 W → j < c → ∃ g cap, W.cell? ⟨g8, j, none⟩ = some (.slice (some ⟨g, 0, none⟩) (pl len n j) cap) ∧ ∀ t, t < pl len n j → W.cell? ⟨g, t, none⟩ = some (.int .u8 (zs.getD (j * n + t) 0))) := by
    intro W j hk hj
    have := mpiece DN.out O8.out hk (by omega) (by omega) j hj
    rw [HLN.out] at this
    exact this
  have RK : Hid (∀ W : World, Keep w1.heap.size g6 w3 W → Row W a zs ∧ Row W a' zs ∧ Below w.heap.size w W) := by
    intro W hk
    have hwl := B1.out.size
    have hb := hk.below B3.out (Nat.le_refl _) (by omega) (by omega)
    have hb' := hk.below ((B12.out).trans (hb3.mono hw12)) (Nat.le_refl _) (by omega) (by omega)
    exact ⟨HR.out.below hb, R1.out.below hb', hb⟩
  clear hb3 hown8 hdone
  go_wp2_with fail
  refine (S.out _ _ _ (HR.out.below B3.out) R3.out).mono ?_
  rintro e w4 ⟨rfl, q4, rfl⟩
  clear R1 R2 R3 B1 B2 B12 O6 K6 C K1 K2
  go_wp2_with fail
  go_loopw [10] (fun i wr => ∃ (k q : Nat), k ≤ c ∧ i = .int .i64 k ∧ wr = w3.drewN q) (fun i _ => c - (intOf i).toNat)
  case atStart => exact ⟨0, q4, Nat.zero_le _, rfl, rfl⟩
  case round =>
    obtain ⟨k, q, hk, rfl, hwq⟩ := hrel
    have HQ := TW.hide hwq
    have hcq : ∀ b o, wr.cell? ⟨b, o, none⟩ = w3.cell? ⟨b, o, none⟩ := fun b o => by rw [hwq]; rfl
    clear hwq
    by_cases hlt : k < c
    · obtain ⟨gm, cm, hm1, hm2⟩ := MP.out w3 k (Keep.refl _ _ _) hlt
      rw [← hcq] at hm1
      have hp1 := SS0.out.pieceAt (Nat.zero_le k) hlt
      rw [← hcq] at hp1
      have hkl := HPF.out k (by rw [HC.out]; exact hlt)
      have smk : ∀ W : World, (∀ b o, W.cell? ⟨b, o, none⟩ = w3.cell? ⟨b, o, none⟩) → Calls Try.prog 11 #[.slice (some ⟨w1.heap.size, k * n, none⟩) (pl len n k) (pl len n k), .slice (some ⟨gm, 0, none⟩) (pl len n k) cm] W fun e w' => e = .returned (.bool true) ∧ ∃ q, w' = W.drewN q := by
        intro W hW
        refine SM.out k W _ _ _ (fun t ht => ?_) (fun t ht => by rw [hW]; exact hm2 t ht)
        rw [hW, (HS0.out.cell (k * n + t) (by omega)).1]
        simp
      have SMK := TW.hide smk
      have hkI : (0 : Int) ≤ (k : Int) := Int.natCast_nonneg _
      have hkJ : (k : Int) < (c : Int) := by omega
      have HCQ := TW.hide hcq
      clear smk hm2 hcq
      go_wp2
      go_quiet ((go_at_call 11; exact Calls.quiet_of (SMK.out _ (fun b o => HCQ.out b o))))
      go_wp2
      go_roundw
      case rel => exact ⟨k + 1, q + nq, by omega, by go_num, by rw [HQ.out, World.drewN_drewN]⟩
      case measure => simp [intOf]; omega
    · obtain rfl : k = c := by omega
      clear hcq
      have KP0 : Hid (Keep w1.heap.size g6 w3 wr) := by show Keep _ _ _ _; rw [HQ.out]; exact (Keep.refl _ _ _).drewN q
      have HS1 : Hid (Hst w1.heap.size len zs 0 wr) := HS0.out.other (by rw [HQ.out]; rfl)
      have SS1 : Hid (Sst w1.heap.size g6 w3.heap.size len n k zs 0 wr) := SS0.out.other (by rw [HQ.out]; rfl) (fun j _ _ => by rw [HQ.out]; rfl)
      clear HS0 SS0 HQ
      go_wp2
      go_loopw [11] (fun i wr => ∃ x : Nat, x ≤ k ∧ i = .int .i64 x ∧ Keep w1.heap.size g6 w3 wr ∧ Hst w1.heap.size len zs (min (x * n) len) wr ∧ Sst w1.heap.size g6 w3.heap.size len n k zs x wr) (fun i _ => k - (intOf i).toNat)
      case atStart => exact ⟨0, Nat.zero_le _, rfl, KP0.out, by simpa using HS1.out, SS1.out⟩
      case round =>
        obtain ⟨x, hx, rfl, hkp, hhs, hss⟩ := hrel
        clear KP0 HS1 SS1
        by_cases hxc : x < k
        · have hxl := (HPI.out x).1 (by rw [HC.out]; exact hxc)
          have hpp := HPP.out x (by rw [HC.out]; exact hxc)
          have hpf := HPF.out x (by rw [HC.out]; exact hxc)
          have hpn := next len n x hn1 (by rw [HC.out]; exact hxc)
          have hmin : min (x * n) len = x * n := by omega
          rw [hmin] at hhs
          obtain ⟨o, hoo⟩ : ∃ o, x * n = o := ⟨_, rfl⟩
          obtain ⟨p, hpo⟩ : ∃ p, pl len n x = p := ⟨_, rfl⟩
          rw [hoo] at hhs hxl hpf hpn
          rw [hpo] at hpp hpf hpn
          have HOO := TW.hide hoo
          have HPO := TW.hide hpo
          have HPN := TW.hide hpn
          have HKP := TW.hide hkp
          have HHS := TW.hide hhs
          have HSS := TW.hide hss
          have hxI : (0 : Int) ≤ (x : Int) := Int.natCast_nonneg _
          have hxJ : (x : Int) < (k : Int) := by omega
          clear hkp hhs hss hmin hoo hpo hpn
          go_wp2
          obtain ⟨wo, hwo⟩ : ∃ wo : World, wo = wr := ⟨_, rfl⟩
          subst hwo
          go_loopw [12] (fun i wr => ∃ y : Nat, y ≤ p ∧ i = .int .i64 y ∧ Keep w1.heap.size g6 w3 wr ∧ Hst w1.heap.size len zs (o + y) wr ∧ Sst w1.heap.size g6 w3.heap.size len n k zs x wr) (fun i _ => p - (intOf i).toNat)
          case atStart => exact ⟨0, Nat.zero_le _, rfl, HKP.out, HHS.out, HSS.out⟩
          case round =>
            obtain ⟨y, hy, rfl, hkp, hhs, hss⟩ := hrel
            clear HKP HHS HSS
            have hpc := hss.piece hxc
            rw [HOO.out, HPO.out] at hpc
            obtain ⟨hpc1, hpc2⟩ := hpc
            by_cases hyp : y < p
            · have hb := hhs.cell (o + y) (by omega)
              rw [if_neg (by omega)] at hb
              have hst := hhs.store (by omega)
              have hzb := HZ.out.get (o + y)
              generalize zs.getD (o + y) 0 = z at *
              obtain ⟨hb1, hb2⟩ := hb
              obtain ⟨hz1', hz2'⟩ := hzb
              have HKP := TW.hide hkp
              have HST := TW.hide hst
              have HSS := TW.hide hss
              have hyI : (0 : Int) ≤ (y : Int) := Int.natCast_nonneg _
              have hyJ : (y : Int) < (p : Int) := by omega
              clear hkp hst hss hhs hpc2
              go_wp2
              have hcp := comp8 z hz1' hz2'
              go_region
              go_wp2
              go_roundw
              case rel =>
                refine ⟨y + 1, by omega, by go_num, ?_, ?_, ?_⟩
                · exact (HKP.out.setCell (.inl rfl)).drewN 1
                · exact HST.out.other rfl
                · refine HSS.out.other ?_ (fun j hj1 hj2 => ?_)
                  · exact Below.heap_setCell _ _ _ _ (by simp only; omega)
                  · exact Below.heap_setCell _ _ _ _ (by simp only; omega)
              case measure => simp [intOf]; omega
            · obtain rfl : y = p := by omega
              have HKP := TW.hide hkp
              have HHS := TW.hide hhs
              have HSS := TW.hide hss
              have OLD : Hid (∀ b, some (⟨w1.heap.size, o, none⟩ : Addr) = some b → ∀ j u, (vs ((pie zs n x).map fun v => 255 - v))[j]? = some u → (wr.alloc (.cells #[.int .u8 ((x : Int) % 256)] 5)).cell? (b.add j) = some u) := by
                intro b hb j u hj
                cases hb
                have hl : (vs ((pie zs n x).map fun v => 255 - v)).length = y := by rw [vs_length, List.length_map, pie_length, HLN.out, HPO.out]
                have hjl : j < y := by
                  rcases Nat.lt_or_ge j y with h' | h'
                  · exact h'
                  · rw [List.getElem?_eq_none (by omega)] at hj; cases hj
                have e : (⟨w1.heap.size, o, none⟩ : Addr).add j = ⟨w1.heap.size, o + j, none⟩ := by unfold Addr.add; split <;> simp_all
                have hc := (hhs.cell (o + j) (by omega)).1
                rw [if_pos (by omega)] at hc
                have hlt : w1.heap.size < wr.heap.size := lt_of_cell hc
                rw [e, World.cell?_alloc_past _ _ _ hlt, hc, ← hj]
                have hpj := pie_get zs n x j (by rw [HLN.out, HPO.out]; exact hjl)
                rw [HOO.out] at hpj
                rw [← hpj]
                have hjp : j < (pie zs n x).length := by rw [pie_length, HLN.out, HPO.out]; exact hjl
                simp [vs, List.getD_eq_getElem?_getD, List.getElem?_eq_getElem hjp]
              have hgl : g6 < wr.heap.size := lt_of_cell hpc1
              have GC : Hid (∀ w5 : World, (wr.alloc (.cells #[.int .u8 ((x : Int) % 256)] 5)).grownBy w5 none → w5.cell? ⟨g6, x, none⟩ = some (.slice (some ⟨w1.heap.size, o, none⟩) y y)) := by
                intro w5 hg
                rw [World.cell?_of_block (w := wr) (by rw [hg.block g6 (by simp; omega) (by simp), Below.heap_alloc _ _ _ hgl])]
                exact hpc1
              have GF : Hid (∀ w5 : World, (wr.alloc (.cells #[.int .u8 ((x : Int) % 256)] 5)).grownBy w5 none → w5.frozen? ⟨g6, x, none⟩ = false) := by
                intro w5 hg
                rw [World.frozen?_of_block (w := wr) (by rw [hg.block g6 (by simp; omega) (by simp), Below.heap_alloc _ _ _ hgl])]
                exact hpc2
              clear hkp hhs hss
              go_wp2_with (at_builtin; refine wpList_append_grows _ rfl _ _ 22 rfl 5 i0 (.int .u8 0) 1 1 Try.underlying22 hi hz0 hz1 hz2 rfl (by decide) (some ⟨w1.heap.size, o, none⟩) y y (vs ((pie zs n x).map fun v => 255 - v)) rfl (by simp) (by rw [vs_length, List.length_map, pie_length, HLN.out, HPO.out, Nat.mul_one]) (fun b hb => OLD.out b hb) ⟨wr.heap.size, 0, none⟩ 1 1 [.int .u8 ((x : Int) % 256)] rfl rfl (one_new _ _) (by simp [Value.oneCell']) (by omega) (by unfold maxLen; omega) (by omega) ?_; intro v' w5 hown5 hgrow5; obtain ⟨g5, c5, hv5, hg5, hg5l⟩ := own_some hown5 (by omega); subst hv5; have O5 := TW.hide hown5; have G5 := TW.hide hgrow5; have hpc5 : ∃ z5, w5.cell? ⟨g6, x, none⟩ = some z5 := ⟨_, GC.out w5 hgrow5⟩; have hpf5 : w5.frozen? ⟨g6, x, none⟩ = false := GF.out w5 hgrow5; obtain ⟨z5, hpc5⟩ := hpc5; clear hown5 hgrow5)
              go_roundw
              case rel =>
                have hkz := HKP.out.size
                have hkg : w3.heap.size ≤ g5 := by have := hg5; simp at this; omega
                have hnew : NewP len n zs x g5 w5 := by
                  obtain ⟨cur, h1, h2, h3⟩ := own_cur O5.out
                  have hl : (vs ((pie zs n x).map fun v => 255 - v)).length = y := by rw [vs_length, List.length_map, pie_length, HLN.out, HPO.out]
                  refine ⟨cur, h1, fun t ht => ?_, ?_⟩
                  · rw [HPO.out] at ht
                    rw [h3 t (by omega), List.getElem?_append_left (by omega)]
                    have hpj := pie_get zs n x t (by rw [HLN.out, HPO.out]; exact ht)
                    rw [← hpj]
                    have hjp : t < (pie zs n x).length := by rw [pie_length, HLN.out, HPO.out]; exact ht
                    simp [vs, List.getD_eq_getElem?_getD, List.getElem?_eq_getElem hjp]
                  · rw [HPO.out, h3 y (by omega), List.getElem?_append_right (by omega), hl, Nat.sub_self]
                    rfl
                have hss5 : Sst w1.heap.size g6 w3.heap.size len n k zs x w5 := by
                  refine HSS.out.other ?_ (fun j hj1 hj2 => ?_)
                  · rw [G5.out.block g6 (by simp; omega) (by simp), Below.heap_alloc _ _ _ hgl]
                  · rw [G5.out.block j (by simp; omega) (by simp), Below.heap_alloc _ _ _ hj2]
                have hnx := hss5.next (cap := c5) hxc hkg (by omega) hnew
                rw [HPO.out] at hnx
                refine ⟨x + 1, by omega, by go_num, (HKP.out.grown G5.out).setCell (.inr rfl), ?_, hnx⟩
                rw [HPN.out]
                refine HHS.out.other ?_
                rw [Below.heap_setCell _ _ _ _ (by simp only; omega), G5.out.block _ (by simp; omega) (by simp), Below.heap_alloc _ _ _ (by omega)]
              case measure => simp [intOf]; omega
        · obtain rfl : x = k := by omega
          have HKP := TW.hide hkp
          have HSS := TW.hide hss
          clear hkp hhs hss
          go_wp2
          go_loopw [13] (fun i wr => ∃ u : Nat, u ≤ x ∧ i = .int .i64 u ∧ Keep w1.heap.size g6 w3 wr ∧ Sst w1.heap.size g6 w3.heap.size len n x zs x wr) (fun i _ => x - (intOf i).toNat)
          case atStart => exact ⟨0, Nat.zero_le _, rfl, HKP.out, HSS.out⟩
          case round =>
            obtain ⟨u, hu, rfl, hkp, hss⟩ := hrel
            clear HKP HSS
            by_cases hux : u < x
            · have huI : (0 : Int) ≤ (u : Int) := Int.natCast_nonneg _
              have huJ : (u : Int) < (x : Int) := by omega
              obtain ⟨p, hpo⟩ : ∃ p, pl len n u = p := ⟨_, rfl⟩
              have hpf := HPF.out u (by rw [HC.out]; exact hux)
              rw [hpo] at hpf
              have HPO := TW.hide hpo
              have HKP := TW.hide hkp
              have HSS := TW.hide hss
              clear hkp hss hpo
              obtain ⟨gm0, cm0, hm0, _⟩ := MP.out wr u HKP.out hux
              rw [HPO.out] at hm0
              go_wp2
              obtain ⟨wo, hwo⟩ : ∃ wo : World, wo = wr := ⟨_, rfl⟩
              subst hwo
              go_loopw [14] (fun i wr => ∃ y : Nat, y ≤ p ∧ i = .int .i64 y ∧ Keep w1.heap.size g6 w3 wr ∧ Sst w1.heap.size g6 w3.heap.size len n x zs x wr) (fun i _ => p - (intOf i).toNat)
              case atStart => exact ⟨0, Nat.zero_le _, rfl, HKP.out, HSS.out⟩
              case round =>
                obtain ⟨y, hy, rfl, hkp, hss⟩ := hrel
                clear HKP HSS hm0
                obtain ⟨gm, cm, hm1, hm2⟩ := MP.out wr u hkp hux
                obtain ⟨gl, cl, hl1, hl2, hl3⟩ := hss.grownP hux
                rw [HPO.out] at hm1 hm2 hl1 hl2 hl3
                have hyI : (0 : Int) ≤ (y : Int) := Int.natCast_nonneg _
                have HKP := TW.hide hkp
                have HSS := TW.hide hss
                clear hkp hss
                by_cases hyp : y < p
                · have hc1 := hm2 y hyp
                  have hc2 := hl2 y hyp
                  have hzb := HZ.out.get (u * n + y)
                  generalize zs.getD (u * n + y) 0 = z at *
                  obtain ⟨hz1', hz2'⟩ := hzb
                  have hcp := comp8 z hz1' hz2'
                  have hyJ : (y : Int) < (p : Int) := by omega
                  have hyK : (y : Int) < (p : Int) + 1 := by omega
                  have hne : ((255 - z) != (255 - z)) = false := by simp
                  clear hm2 hl2 hl3
                  go_wp2
                  go_quiet (fail)
                  go_wp2
                  go_roundw
                  case rel => exact ⟨y + 1, by omega, by go_num, HKP.out.drewN nq, HSS.out.other rfl (fun _ _ _ => rfl)⟩
                  case measure => simp [intOf]; omega
                · obtain rfl : y = p := by omega
                  have hne : (((u : Int) % 256) != ((u : Int) % 256)) = false := by simp
                  have hyK : (y : Int) < (y : Int) + 1 := by omega
                  clear hm2 hl2
                  go_wp2
                  go_quiet (fail)
                  go_wp2
                  go_roundw
                  case rel => exact ⟨u + 1, by omega, by go_num, HKP.out.drewN nq, HSS.out.other rfl (fun _ _ _ => rfl)⟩
                  case measure => simp [intOf]; omega
            · obtain rfl : u = x := by omega
              have HKP := TW.hide hkp
              clear hkp hss
              have RW := TW.hide (RK.out wr HKP.out)
              go_wp2_with fail
              refine (S.out _ _ _ RW.out.1 RW.out.2.1).mono ?_
              rintro e w5 ⟨rfl, q5, rfl⟩
              go_wp2_with fail
              refine (awake _).mono ?_
              rintro e w6 ⟨rfl, hb6⟩
              have B6 : Hid (Below w.heap.size w w6) := (drewN_below RW.out.2.2 q5).trans (hb6.mono RW.out.2.2.size)
              clear hb6
              go_wp2_with fail
              go_ret
              exact ⟨rfl, B6.out⟩
theorem own_nil {w : World} {B t : Nat} {v : Value} {xs : List Value} (h : w.ownsRow B t 1 v 0 xs) : ∃ a c, v = .slice a 0 c := by
  rcases h.2 with ⟨e, _⟩ | ⟨g, cap, cur, rfl, hg, hh, _⟩
  · exact ⟨none, 0, e⟩
  · exact ⟨_, cap, rfl⟩
theorem cuts (a : Option Addr) (cap : Nat) (zs : List Int) (n : Int) (w : World) (hz : Byt zs) (hr : Row w a zs) (hn : a = none → cap = 0) (hm : zs.length ≤ 1048576) (hw : (Lit.int .i64 n).wf = true) :
    Calls Try.prog 3 #[.slice a zs.length cap, .int .i64 n] w fun e w' => e = .returned (.bool true) ∧ Below w.heap.size w w' := by
  obtain ⟨p0, p1⟩ := bounds_i64 hw
  by_cases h1 : n < 1
  · exact cuts0 a cap zs n 1 w hz hr hn hm
      (fun W a' c' _ => (cutNeg a' zs.length c' n W h1).mono fun e w' ⟨he, hw⟩ => ⟨none, 0, he, hw ▸ Below.refl _ _⟩)
      (fun W _ => (rcutNeg a zs.length cap n W h1).mono fun e w' ⟨he, hw⟩ => ⟨none, 0, he, hw ▸ Below.refl _ _⟩)
  · obtain ⟨N, rfl⟩ := Int.eq_ofNat_of_zero_le (show (0 : Int) ≤ n by omega)
    by_cases h2 : zs.length = 0
    · have hc : pc zs.length N = 0 := by rw [h2]; simp [pc]
      refine cuts0 a cap zs N 0 w hz hr hn hm (fun W a' c' h => ?_) (fun W h => ?_)
      · refine (cut a' c' zs N W h (by omega) (by omega) hm).mono ?_
        rintro e w' ⟨v, he, ho, _, hb⟩
        rw [hc] at ho
        obtain ⟨a1, c1, rfl⟩ := own_nil ho
        exact ⟨a1, c1, he, hb⟩
      · refine (rcut a cap zs N W hz h (by omega) (by omega) hm).mono ?_
        rintro e w' ⟨v, ps, he, ho, _, hb⟩
        rw [hc] at ho
        obtain ⟨a1, c1, rfl⟩ := own_nil ho
        exact ⟨a1, c1, he, hb⟩
    · exact cutsN a cap zs N w hz hr hn hm (by omega) (by omega) (by omega)
end LW
end Go.Proofs.Ytbjelenmnlmodab
