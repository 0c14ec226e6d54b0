/-
  What the calls pieceCount and Cut (the program) give: pieces of one new row.
-/
import Derived.Test.YtbjelenmnlmodabCopied
import Derived.Test.YtbjelenmnlmodabPieces
import Derived.Laws.CopyOwn
namespace Go.Proofs.Ytbjelenmnlmodab
open Go.RowKit
set_option linter.unusedVariables false
namespace LW
open Words Pcs
theorem info22 : (Try.prog.info? 22).map (fun i => (i.zero, i.size, i.bytes)) = some (some (.slice none 0 0), 1, 24) := by kernel_rfl
theorem pieceCount (len n : Nat) (w : World) (hn : 1 ≤ n) (hm : len ≤ 1048576) :
    Calls Try.prog 22 #[.int .i64 len, .int .i64 n] w fun e w' => e = .returned (.int .i64 (pc len n)) ∧ w = w' := by
  have hq : ((len : Int) / (n : Int)) = ((len / n : Nat) : Int) := (Int.natCast_ediv len n).symm
  have hr : ((len : Int) % (n : Int)) = ((len % n : Nat) : Int) := (Int.natCast_emod len n).symm
  have hql : len / n ≤ len := Nat.div_le_self _ _
  by_cases h : len % n = 0
  · have e : pc len n = len / n := by simp [pc, h]
    rw [e]
    have h0 : ¬ (0 : Int) < ((len % n : Nat) : Int) := by omega
    generalize len / n = q at *
    generalize len % n = r at *
    have H := TW.hide h
    clear h e
    go_enter Try.func22, Try.ntmps22
    go_wp2
    go_ret
    exact ⟨rfl, rfl⟩
  · have e : pc len n = len / n + 1 := by simp [pc, h]
    rw [e]
    have h0 : (0 : Int) < ((len % n : Nat) : Int) := by omega
    generalize len / n = q at *
    generalize len % n = r at *
    have H := TW.hide h
    clear h e
    go_enter Try.func22, Try.ntmps22
    go_wp2
    go_ret
    exact ⟨TW.ret_int (by omega), rfl⟩
theorem own_full {w : World} {B g n t : Nat} {xs : List Value} (h : w.ownsRow B t 1 (.slice (some ⟨g, 0, none⟩) n n) n xs) : w.heap[g]? = some (.cells xs.toArray t (0, 0)) ∧ B ≤ g := by
  rcases h.2 with ⟨h', _⟩ | ⟨g', cap', cur, h', hb, hg, _, _, hcs, htake⟩
  · simp at h'
  · simp only [Value.slice.injEq, Option.some.injEq, Addr.mk.injEq, and_true, true_and] at h'
    obtain ⟨rfl, rfl⟩ := h'
    rw [List.take_of_length_le (by simp [hcs])] at htake
    subst htake
    exact ⟨by simpa using hg, hb⟩
theorem size5 : (Try.prog.info? 5).map (·.size) = some 1 := by kernel_rfl
theorem made_block {w : World} {B g n : Nat} (h : w.ownsRow B 5 1 (.slice (some ⟨g, 0, none⟩) n n) n (madeCells (Value.int .u8 0).cells (n * 1)).toList) : w.heap[g]? = some (.cells (vs (List.replicate n 0)).toArray 5 (0, 0)) := by
  rw [made_vs] at h
  exact (own_full h).1
theorem copy_src {w w1 : World} {a : Option Addr} {zs : List Int} (h : ∃ ad, a = some ad ∧ ∀ W, Below w.heap.size w W → ∀ j v, (vs zs)[j]? = some v → W.cell? (ad.add j) = some v) (hb : Below w.heap.size w w1) :
    ∃ ad, a = some ad ∧ ∀ j v, (vs zs)[j]? = some v → w1.cell? (ad.add j) = some v := by
  obtain ⟨ad, rfl, h⟩ := h
  exact ⟨ad, rfl, h w1 hb⟩
theorem spliced {w : World} {g len : Nat} {zs : List Int} (hl : (vs zs).length = len) (h : w.heap[g]? = some (.cells (splice (vs (List.replicate len 0)) 0 (vs zs)).toArray 5 (0, 0))) : w.heap[g]? = some (.cells (vs zs).toArray 5 (0, 0)) := by
  have e : splice (vs (List.replicate len 0)) 0 (vs zs) = vs zs := by
    have h2 : (vs (List.replicate len 0)).drop (vs zs).length = [] := List.drop_eq_nil_of_le (by rw [vs_length, hl]; simp)
    simp [splice, h2]
  rw [e] at h
  exact h
theorem kept_block {w w' : World} {g : Nat} {o o' : Obj} {row : Option Nat} (h : w.heap[g]? = some o) (hg : (w.alloc o').grownBy w' row) (hne : some g ≠ row) : w'.heap[g]? = some o := by
  have hlt : g < w.heap.size := by
    rcases Nat.lt_or_ge g w.heap.size with h' | h'
    · exact h'
    · rw [Array.getElem?_eq_none h'] at h; cases h
  rw [hg.block g (by simp; omega) hne, Below.heap_alloc _ _ _ hlt]
  exact h
theorem size_of {w : World} {g : Nat} {o : Obj} (h : w.heap[g]? = some o) : g + 1 ≤ w.heap.size := by
  rcases Nat.lt_or_ge g w.heap.size with h' | h'
  · exact h'
  · rw [Array.getElem?_eq_none h'] at h; cases h
/-- A slice's length. -/
def sliceLen : Value → Nat
  | .slice _ n _ => n
  | _ => 0
/-- The cells of the program's pieces: each a part of block h. -/
def pvs (h len n c : Nat) : List Value := (List.range c).map fun j => Value.slice (some ⟨h, j * n, none⟩) (pl len n j) (pl len n j)
theorem pvs_succ (h len n c : Nat) : pvs h len n (c + 1) = pvs h len n c ++ [Value.slice (some ⟨h, c * n, none⟩) (pl len n c) (pl len n c)] := by
  simp [pvs, List.range_succ]
theorem pvs_length (h len n c : Nat) : (pvs h len n c).length = c := by simp [pvs]
theorem one_new22 (w : World) (z : Value) : ∀ (j : Nat) (u : Value), [z][j]? = some u → (w.alloc (.cells #[z] 22)).cell? ((⟨w.heap.size, 0, none⟩ : Addr).add j) = some u := by
  intro j u hj
  match j, hj with
  | 0, hj => simp at hj; subst hj; simp [Addr.add]
theorem own_block22 {w : World} {B n : Nat} {v : Value} {xs : List Value} (h : w.ownsRow B 22 1 v n xs) : ∀ k, v.ownBlock = some k → B ≤ k := by
  intro k hk
  rcases h.2 with ⟨rfl, _⟩ | ⟨g, cap, cur, rfl, hg, _⟩
  · simp [Value.ownBlock] at hk
  · simp [Value.ownBlock] at hk; omega
set_option maxRecDepth 100000 in
set_option maxHeartbeats 1600000 in
theorem cut (a : Option Addr) (cap : Nat) (zs : List Int) (n : Nat) (w : World) (hr : Row w a zs) (hn : 1 ≤ n) (hnm : n ≤ 9223372036854775807) (hm : zs.length ≤ 1048576) :
    Calls Try.prog 9 #[.slice a zs.length cap, .int .i64 n] w fun e w' => ∃ v, e = .returned (.tuple #[v, .int .i64 0]) ∧
      w'.ownsRow (w.heap.size + 1) 22 1 v (pc zs.length n) (pvs w.heap.size zs.length n (pc zs.length n)) ∧ w'.heap[w.heap.size]? = some (.cells (vs zs).toArray 5 (0, 0)) ∧ Below w.heap.size w w' := by
  obtain ⟨i0, hi, hz0, hz1, hz2⟩ := info_parts info5
  obtain ⟨i2, hi2, hy0, hy1, hy2⟩ := info_parts info22
  have hpc := fun W => pieceCount zs.length n W hn hm
  have hle := pc_le zs.length n hn
  have hpci := fun j => pc_iff zs.length n j hn
  have hnx := fun j => next zs.length n j hn
  have hpos : 0 < (vs zs).length → ∃ ad, a = some ad ∧ ∀ W, Below w.heap.size w W → ∀ j v, (vs zs)[j]? = some v → W.cell? (ad.add j) = some v := by
    intro h
    rcases hr with rfl | ⟨b, off, rfl, hc⟩
    · simp [vs] at h
    · exact ⟨_, rfl, fun W hW => row_cells (.inr ⟨b, off, rfl, hc⟩) hW⟩
  obtain ⟨len, hlen⟩ : ∃ len, zs.length = len := ⟨_, rfl⟩
  rw [hlen] at hpc hle hm hpci hnx ⊢
  have HVL : Hid ((vs zs).length = len) := by show (vs zs).length = len; rw [vs_length, hlen]
  have HPC := TW.hide hpc
  have HPI := TW.hide hpci
  have HNX := TW.hide hnx
  have HP := TW.hide hpos
  have HO := TW.hide (oneCell_vs zs)
  clear hpc hpci hnx hpos hlen hr
  have hn1 : ¬ (n : Int) < 1 := by omega
  have tok1 : True := trivial
  have tok2 : True := trivial
  have tok3 : True := trivial
  go_enter Try.func9, Try.ntmps9
  go_wp2_with (first
    | (at_make; have _t := tok1; refine wpList_make_full _ rfl _ _ 22 rfl w.heap.size 5 i0 (.int .u8 0) 1 Try.underlying22 hi hz0 hz1 _ _ _ _ len rfl rfl rfl rfl (by rw [hz2]; omega) (by unfold maxLen; omega) (by omega) ?_; intro w1 hown hgrow; have O1 := TW.hide (made_block hown); have G1 : Hid (Below w.heap.size w w1) := (Below.refl _ _).grown hgrow (Nat.le_refl _) (by intro k h; cases h); clear hown hgrow tok1)
    | (have _t := tok2; refine wpList_copy_splice rfl (.tmp 14) (.tmp 15) 22 22 rfl 5 Try.underlying22 size5 _ _ _ _ _ _ rfl rfl w.heap.size 0 (vs (List.replicate len 0)) 5 O1.out (vs zs) (by rw [HVL.out]; simp) (fun h => ⟨rfl, copy_src (HP.out h) G1.out⟩) (by rw [HVL.out, vs_length]; simp) HO.out w.heap.size w G1.out (Nat.le_refl _) ?_; intro w2 hw2 hb2; have O2 := TW.hide (spliced HVL.out hw2.out); have G2 := TW.hide hb2; clear hw2 hb2 tok2)
    | (go_at_call 22; refine (HPC.out _).mono ?_; rintro e w' ⟨rfl, rfl⟩)
    | (at_make; have _t := tok3; refine wpList_make_own _ rfl _ _ 24 rfl (w.heap.size + 1) 22 i2 (.slice none 0 0) 1 Try.underlying24 hi2 hy0 hy1 _ _ _ (pc len n) rfl rfl rfl (by rw [hy2]; omega) (by unfold maxLen; omega) (size_of O2.out) ?_; intro w3 hown hgrow; have O3 := TW.hide hown; have G3 := TW.hide hgrow; clear hown hgrow tok3))
  have hbel3 : Below w.heap.size w w3 := G2.out.grown G3.out G2.out.size (by intro k h; cases h)
  have B3 := TW.hide hbel3
  have K3 : Hid (w3.heap[w.heap.size]? = some (.cells (vs zs).toArray 5 (0, 0))) := by
    show w3.heap[w.heap.size]? = _
    rw [G3.out.block _ (size_of O2.out) (by simp)]; exact O2.out
  clear G3 hbel3
  go_loopw [6, 7] (fun t6 t7 wr => ∃ (j o m : Nat) (aw : Option Addr), j ≤ pc len n ∧ t6 = .slice aw m m ∧ o + m = len ∧ min (j * n) len = o ∧ (j < pc len n → aw = some ⟨w.heap.size, o, none⟩) ∧ wr.ownsRow (w.heap.size + 1) 22 1 t7 j (pvs w.heap.size len n j) ∧ wr.heap[w.heap.size]? = some (.cells (vs zs).toArray 5 (0, 0)) ∧ Below w.heap.size w wr) (fun t6 _ _ => sliceLen t6)
  case atStart => exact ⟨0, 0, len, some ⟨w.heap.size, 0, none⟩, Nat.zero_le _, rfl, by omega, by simp, fun _ => rfl, O3.out, K3.out, B3.out⟩
  case round =>
    obtain ⟨j, o, m, aw, hj, rfl, hom, hmo, haw, hown, hblk, hbel⟩ := hrel
    clear O3 K3 B3
    by_cases hjp : j < pc len n
    · have hlt := (HPI.out j).1 hjp
      have hplp := pl_pos len n j hn hjp
      have hplf := pl_fit len n j hn hjp
      have hnext := HNX.out j hjp
      have hpld : pl len n j = min n (len - j * n) := rfl
      obtain rfl := haw hjp
      have hps := pvs_succ w.heap.size len n j
      have ho : j * n = o := by omega
      obtain ⟨sz, hsz⟩ : ∃ sz, pl len n j = sz := ⟨_, rfl⟩
      rw [ho] at hlt hplf hnext hpld hps
      rw [hsz] at hplp hplf hnext hpld hps
      have HOW := TW.hide hown
      have HBK := TW.hide hblk
      have HBE := TW.hide hbel
      have HNEXT := TW.hide hnext
      have HPS := TW.hide hps
      have HMO := TW.hide hmo
      have HOM := TW.hide hom
      have hwz := hbel.size
      have hwz2 := size_of hblk
      have hm1 : 0 < m := by omega
      have hpld2 : sz = min n m := by omega
      clear hown hblk hbel hnext hps ho hsz hmo haw hpld hlt hplf
      by_cases hnm2 : n < m
      · have e : sz = n := by omega
        subst e
        have hne : ¬ m = sz := by omega
        clear hpld2 hom
        go_wp2_with (at_builtin; refine wpList_append_own _ rfl _ _ 24 rfl (w.heap.size + 1) 22 i2 (.slice none 0 0) 1 24 Try.underlying24 hi2 hy0 hy1 hy2 rfl (by decide) u7 j (pvs w.heap.size len sz j) rfl (HOW.out.alloc _) ⟨wr.heap.size, 0, none⟩ 1 1 [.slice (some ⟨w.heap.size, o, none⟩) sz sz] rfl rfl (one_new22 _ _) (by simp [Value.oneCell']) (by unfold maxLen; omega) (by omega) (by simp; omega) ?_; intro v' w5 hown5 hgrow5 _; have O5 := TW.hide hown5; have B5 : Hid (Below w.heap.size w w5) := (HBE.out.alloc HBE.out.size _).grown hgrow5 (by simp; omega) (fun k h => Nat.le_of_succ_le (own_block22 HOW.out k h)); have K5 : Hid (w5.heap[w.heap.size]? = some (.cells (vs zs).toArray 5 (0, 0))) := kept_block HBK.out hgrow5 (fun h => Nat.not_succ_le_self _ (own_block22 HOW.out _ h.symm)); clear hown5 hgrow5)
        go_roundw
        case rel => exact ⟨j + 1, o + sz, m - sz, some ⟨w.heap.size, o + sz, none⟩, by omega, by first | rfl | simp, by have := HOM.out; omega, HNEXT.out, fun _ => rfl, by rw [HPS.out]; exact O5.out, K5.out, B5.out⟩
        case measure => simp [sliceLen]; omega
      · by_cases hnm3 : m < n
        · have e : sz = m := by omega
          subst e
          clear hpld2 hom
          have hmn : sz < n := by omega
          have hlast : ¬ j + 1 < pc len n := fun h => by
            have h1 := (HPI.out (j + 1)).1 h
            have h2 := HNEXT.out
            have h3 := HOM.out
            omega
          have HLAST := TW.hide hlast
          clear hlast
          go_wp2_with (at_builtin; refine wpList_append_own _ rfl _ _ 24 rfl (w.heap.size + 1) 22 i2 (.slice none 0 0) 1 24 Try.underlying24 hi2 hy0 hy1 hy2 rfl (by decide) u7 j (pvs w.heap.size len n j) rfl (HOW.out.alloc _) ⟨wr.heap.size, 0, none⟩ 1 1 [.slice (some ⟨w.heap.size, o, none⟩) sz sz] rfl rfl (one_new22 _ _) (by simp [Value.oneCell']) (by unfold maxLen; omega) (by omega) (by simp; omega) ?_; intro v' w5 hown5 hgrow5 _; have O5 := TW.hide hown5; have B5 : Hid (Below w.heap.size w w5) := (HBE.out.alloc HBE.out.size _).grown hgrow5 (by simp; omega) (fun k h => Nat.le_of_succ_le (own_block22 HOW.out k h)); have K5 : Hid (w5.heap[w.heap.size]? = some (.cells (vs zs).toArray 5 (0, 0))) := kept_block HBK.out hgrow5 (fun h => Nat.not_succ_le_self _ (own_block22 HOW.out _ h.symm)); clear hown5 hgrow5)
          go_roundw
          case rel => exact ⟨j + 1, o + sz, 0, _, by omega, by first | rfl | simp, by have := HOM.out; omega, HNEXT.out, fun h => absurd h HLAST.out, by rw [HPS.out]; exact O5.out, K5.out, B5.out⟩
          case measure => simp [sliceLen]; omega
        · have e : sz = m := by omega
          have e2 : n = m := by omega
          subst e2
          subst e
          clear hpld2 hom
          have hlast : ¬ j + 1 < pc len sz := fun h => by
            have h1 := (HPI.out (j + 1)).1 h
            have h2 := HNEXT.out
            have h3 := HOM.out
            omega
          have HLAST := TW.hide hlast
          clear hlast
          go_wp2_with (at_builtin; refine wpList_append_own _ rfl _ _ 24 rfl (w.heap.size + 1) 22 i2 (.slice none 0 0) 1 24 Try.underlying24 hi2 hy0 hy1 hy2 rfl (by decide) u7 j (pvs w.heap.size len sz j) rfl (HOW.out.alloc _) ⟨wr.heap.size, 0, none⟩ 1 1 [.slice (some ⟨w.heap.size, o, none⟩) sz sz] rfl rfl (one_new22 _ _) (by simp [Value.oneCell']) (by unfold maxLen; omega) (by omega) (by simp; omega) ?_; intro v' w5 hown5 hgrow5 _; have O5 := TW.hide hown5; have B5 : Hid (Below w.heap.size w w5) := (HBE.out.alloc HBE.out.size _).grown hgrow5 (by simp; omega) (fun k h => Nat.le_of_succ_le (own_block22 HOW.out k h)); have K5 : Hid (w5.heap[w.heap.size]? = some (.cells (vs zs).toArray 5 (0, 0))) := kept_block HBK.out hgrow5 (fun h => Nat.not_succ_le_self _ (own_block22 HOW.out _ h.symm)); clear hown5 hgrow5)
          go_roundw
          case rel => exact ⟨j + 1, o + sz, 0, _, by omega, by first | rfl | simp, by have := HOM.out; omega, HNEXT.out, fun h => absurd h HLAST.out, by rw [HPS.out]; exact O5.out, K5.out, B5.out⟩
          case measure => simp [sliceLen]; omega
    · have hj2 : j = pc len n := by omega
      subst hj2
      have h2 : ¬ (pc len n) * n < len := fun h => hjp ((HPI.out _).2 h)
      have hm0 : m = 0 := by omega
      subst hm0
      have HOW := TW.hide hown
      have HBK := TW.hide hblk
      have HBE := TW.hide hbel
      clear hown hblk hbel haw hmo hom h2
      go_wp2_with fail
      go_ret2
      exact ⟨_, rfl, HOW.out, HBK.out, HBE.out⟩
end LW
end Go.Proofs.Ytbjelenmnlmodab
