/-
  What the program's Unrow gives for every row of bytes: parts that lie in one new row.
-/
import Derived.Test.YtkmokjnakglhbaaUnrowL
import Derived.Test.YtkmokjnakglhbaaLoad
import Derived.Test.YtkmokjnakglhbaaWide
import Derived.OwnWalk
import Derived.Outline
namespace Go.Proofs.Ytkmokjnakglhbaa
open Go.RowKit Go.ChangeShapes
set_option linter.unusedVariables false
set_option linter.unusedSimpArgs false
namespace LW
open Words
theorem info22 : (Try.prog.info? 22).map (fun i => (i.zero, i.size, i.bytes)) = some (some (.slice none 0 0), 1, 24) := by kernel_rfl
/-- The program's parts: each lies in block g. -/
def PV (g : Nat) (zs : List Int) (c : Nat) (qs : List Value) : Prop := qs.length = c ∧ ∀ j, j < c → ∃ o, qs[j]? = some (Value.slice (some ⟨g, o, none⟩) (pn zs j) (pn zs j)) ∧ (0 < pn zs j → o = pos zs j + 8) ∧ o + pn zs j ≤ zs.length
theorem PV.nil (g : Nat) (zs : List Int) : PV g zs 0 [] := ⟨rfl, fun j h => absurd h (Nat.not_lt_zero _)⟩
theorem PV.snoc {g c o n : Nat} {zs : List Int} {qs : List Value} (h : PV g zs c qs) (hn : pn zs c = n) (ho : 0 < n → o = pos zs c + 8) (hl : o + n ≤ zs.length) : PV g zs (c + 1) (qs ++ [Value.slice (some ⟨g, o, none⟩) n n]) := by
  refine ⟨by simp [h.1], fun j hj => ?_⟩
  by_cases e : j = c
  · subst e
    exact ⟨o, by rw [List.getElem?_append_right (by rw [h.1]; exact Nat.le_refl _), h.1, Nat.sub_self, hn]; rfl, by rw [hn]; exact ho, by rw [hn]; exact hl⟩
  · obtain ⟨o', h1, h2⟩ := h.2 j (by omega)
    exact ⟨o', by rw [List.getElem?_append_left (by rw [h.1]; omega)]; exact h1, h2⟩
/-- Block g begins with these bytes. -/
def Bk (w : World) (g : Nat) (zs : List Int) : Prop := ∃ cur : Array Value, w.heap[g]? = some (.cells cur 5 (0, 0)) ∧ ∀ i, i < zs.length → cur[i]? = some (.int .u8 (zs.getD i 0))
theorem Bk.lt {w : World} {g : Nat} {zs : List Int} (h : Bk w g zs) : g < w.heap.size := by
  obtain ⟨cur, h1, _⟩ := h
  exact (Array.getElem?_eq_some_iff.1 h1).1
theorem Bk.bts {w : World} {g : Nat} {zs : List Int} (h : Bk w g zs) : Bts w g zs.length := by
  obtain ⟨cur, h1, h2⟩ := h
  exact ⟨cur, h1, fun i hi => ⟨_, h2 i hi⟩⟩
theorem Bk.row {w : World} {g : Nat} {zs : List Int} (h : Bk w g zs) (o n : Nat) (hn : o + n ≤ zs.length) : Row w (some ⟨g, o, none⟩) ((zs.drop o).take n) := by
  obtain ⟨cur, h1, h2⟩ := h
  refine .inr ⟨g, o, rfl, fun i hi => ?_⟩
  have hin : i < n := by simp at hi; omega
  have hc : w.cell? ⟨g, o + i, none⟩ = some (.int .u8 (zs.getD (o + i) 0)) := by simp [World.cell?, h1, h2 (o + i) (by omega)]
  rw [hc]
  simp [List.getD_eq_getElem?_getD, List.getElem?_drop, hin]
theorem Bk.rest {w : World} {g : Nat} {zs : List Int} (h : Bk w g zs) (o : Nat) (hn : o ≤ zs.length) : Row w (some ⟨g, o, none⟩) (zs.drop o) := by
  have := h.row o (zs.length - o) (by omega)
  rw [List.take_of_length_le (by simp)] at this
  exact this
theorem Bk.below {w w' : World} {g : Nat} {zs : List Int} (h : Bk w g zs) (hb : Below w.heap.size w w') : Bk w' g zs := by
  have hl := h.lt
  obtain ⟨cur, h1, h2⟩ := h
  exact ⟨cur, by rw [hb.block g hl]; exact h1, h2⟩
theorem Bk.grown {w w' : World} {g : Nat} {zs : List Int} {row : Option Nat} (h : Bk w g zs) (hg : w.grownBy w' row) (hr : ∀ k, row = some k → ∃ c6 t, t ≠ 5 ∧ w.heap[k]? = some (.cells c6 t (0, 0))) : Bk w' g zs := by
  have hl := h.lt
  obtain ⟨cur, h1, h2⟩ := h
  refine ⟨cur, ?_, h2⟩
  rw [hg.block g hl ?_]
  · exact h1
  · intro e
    obtain ⟨c6, t, ht, h7⟩ := hr g e.symm
    rw [h1] at h7
    simp at h7
    exact ht h7.2.symm
theorem Bk.alloc {w : World} {g : Nat} {zs : List Int} (h : Bk w g zs) (o : Obj) : Bk (w.alloc o) g zs := by
  have hl := h.lt
  obtain ⟨cur, h1, h2⟩ := h
  exact ⟨cur, by rw [Below.heap_alloc _ _ _ hl]; exact h1, h2⟩
theorem own_cur {w : World} {B g n cap t : Nat} {xs : List Value} (h : w.ownsRow B t 1 (.slice (some ⟨g, 0, none⟩) n cap) n xs) : ∃ cur, w.heap[g]? = some (.cells cur t (0, 0)) ∧ B ≤ g ∧ n ≤ cap ∧ ∀ i, i < n → cur[i]? = xs[i]? := by
  rcases h.2 with ⟨h', _⟩ | ⟨g', cap', cur, h', hb, hg, hnc, _, hcs, htake⟩
  · simp at h'
  · simp only [Value.slice.injEq, Option.some.injEq, Addr.mk.injEq, and_true, true_and] at h'
    obtain ⟨rfl, rfl⟩ := h'
    refine ⟨cur, hg, hb, hnc, fun i hi => ?_⟩
    rw [← htake, List.getElem?_take, if_pos (by omega)]
    simp
theorem own_type {w : World} {B n : Nat} {v : Value} {xs : List Value} (h : w.ownsRow B 22 1 v n xs) : ∀ k, v.ownBlock = some k → ∃ c6 t, t ≠ 5 ∧ w.heap[k]? = some (.cells c6 t (0, 0)) := by
  intro k hk
  rcases h.2 with ⟨rfl, _⟩ | ⟨g, cap, cur, rfl, hg, hh, _⟩
  · simp [Value.ownBlock] at hk
  · simp [Value.ownBlock] at hk; subst hk; exact ⟨cur, 22, by decide, hh⟩
theorem own_blk {w : World} {B n : Nat} {v : Value} {xs : List Value} {t : TypeId} (h : w.ownsRow B t 1 v n xs) : ∀ k, v.ownBlock = some k → B ≤ k := by
  intro k hk
  rcases h.2 with ⟨rfl, _⟩ | ⟨g, cap, cur, rfl, hg, _⟩
  · simp [Value.ownBlock] at hk
  · simp [Value.ownBlock] at hk; omega
theorem one_new22 (w : World) (z : Value) : ∀ (j : Nat) (u : Value), [z][j]? = some u → (w.alloc (.cells #[z] 22)).cell? ((⟨w.heap.size, 0, none⟩ : Addr).add j) = some u := by
  intro j u hj
  match j, hj with
  | 0, hj => simp at hj; subst hj; simp [Addr.add]
theorem clone_form {w : World} {B : Nat} {v : Value} {zs : List Int} (h : w.ownsRow B 5 1 v zs.length (vs zs)) : ∃ aw c g, v = .slice aw zs.length c ∧ zs.length ≤ c ∧ B ≤ g ∧ (0 < zs.length → aw = some ⟨g, 0, none⟩ ∧ Bk w g zs) := by
  rcases h.2 with ⟨rfl, h0⟩ | ⟨g, cap, cur, rfl, hg, hh, hn, hm, hc, ht⟩
  · exact ⟨none, 0, B, by rw [h0], by omega, Nat.le_refl _, fun h => by omega⟩
  · refine ⟨_, cap, g, rfl, hn, hg, fun _ => ⟨rfl, ?_⟩⟩
    obtain ⟨cur', h1, _, _, h3⟩ := own_cur h
    exact ⟨cur', h1, fun i hi => by rw [h3 i hi, vs_get zs i hi]⟩
theorem ret_three {k l : IntKind} {v : Value} {a b c : Int} (h : a = b) : Ending.returned (.tuple #[v, .int k a, .int l c]) = .returned (.tuple #[v, .int k b, .int l c]) := by rw [h]
/-- What a call of the program's Unrow gives. -/
def UPost (zs : List Int) (w : World) (e : Ending) (w' : World) : Prop := ∃ (er at_ c : Nat) (v : Value) (g : Nat) (qs : List Value), Res zs er at_ c ∧ e = .returned (.tuple #[v, .int .i64 (at_ : Int), .int .i64 (er : Int)]) ∧
      w'.ownsRow w.heap.size 22 1 v c qs ∧ PV g zs c qs ∧ w.heap.size ≤ g ∧ (0 < c → Bk w' g zs) ∧ Below w.heap.size w w'
set_option maxRecDepth 100000 in
set_option maxHeartbeats 1600000 in
theorem unrowS (a : Option Addr) (cap : Nat) (zs : List Int) (w : World) (hz : Byt zs) (hr : Row w a zs) (hn : a = none → cap = 0) (hm : zs.length ≤ 16777216) :
    Calls Try.prog 5 #[.slice a zs.length cap] w fun e w' => UPost zs w e w' := by
  obtain ⟨i2, hi2, hy0, hy1, hy2⟩ := info_parts info22
  have hcl := clone a cap zs w hr hn (by omega)
  have hfm := fun W B v (h : World.ownsRow W B 5 1 v zs.length (vs zs)) => clone_form h
  have hld := fun (W : World) (g p c m : Nat) (hB : Bk W g zs) (hp : p + m = zs.length) => by
    have h := load64 (some ⟨g, p, none⟩) c (zs.drop p) 0 W (hz.drop p) (hB.rest p (by omega)) (by unfold maxLen; simp; omega) (by omega) (by omega)
    rw [show (zs.drop p).length = m by simp; omega] at h
    exact h
  have hl8 := fun p (h : p + 8 ≤ zs.length) => ld_rest zs p hz h
  have hl3 := fun p (h : zs.length < p + 8) => ld_rest_none zs p h
  have hres : ∀ j er at_, Gd zs j → Out zs j er at_ → Res zs er at_ (if er = 0 then j else 0) := fun j er at_ h1 h2 => .inr ⟨hm, j, h1, h2, rfl⟩
  have hnb := fun p => nm_bd zs p hz
  obtain ⟨len, hlen⟩ : ∃ len, zs.length = len := ⟨_, rfl⟩
  rw [hlen] at hcl hm ⊢
  simp only [hlen] at hfm hld hl8 hl3
  have HLEN := TW.hide hlen
  have HCL := TW.hide hcl
  have HFM := TW.hide hfm
  have HLD := TW.hide hld
  have HL8 := TW.hide hl8
  have HL3 := TW.hide hl3
  have HRES := TW.hide hres
  have HNB := TW.hide hnb
  clear hcl hfm hld hl8 hl3 hres hnb hlen hr hn hz
  have hle : ¬ (16777216 : Int) < (len : Int) := by omega
  go_enter Try.func5, Try.ntmps5
  go_wp2_with fail
  refine HCL.out.mono ?_
  rintro e w1 ⟨v, rfl, hown, hbel⟩
  obtain ⟨aw, c, g, rfl, hc, hg, hB⟩ := HFM.out _ _ _ hown
  have HB := TW.hide hB
  have HBE := TW.hide hbel
  clear hown hB hbel
  go_wp2
  go_loopw [5, 6] (fun t5 t6 wr => ∃ (j p m c : Nat) (aw : Option Addr) (qs : List Value), Gd zs j ∧ pos zs j = p ∧ p + m = len ∧ t6 = .slice aw m c ∧ m ≤ c ∧ (0 < m → aw = some ⟨g, p, none⟩) ∧ wr.ownsRow w.heap.size 22 1 t5 j qs ∧ PV g zs j qs ∧ (0 < len → Bk wr g zs) ∧ Below w.heap.size w wr) (fun _ t6 _ => match t6 with | .slice _ n _ => n | _ => 0)
  case atStart => exact ⟨0, 0, len, c, aw, [], Gd.zero _, rfl, by omega, rfl, hc, fun h => (HB.out h).1, World.ownsRow_nil _ _ _ _, PV.nil _ _, fun h => (HB.out h).2, HBE.out⟩
  case round =>
    obtain ⟨j, p, m, c, aw, qs, hgd, hp, hpm, rfl, hmc, haw, hown, hpv, hbk, hbel⟩ := hrel
    have HPV := TW.hide hpv
    clear hpv
    clear HB HBE
    by_cases hm0 : 0 < m
    · obtain rfl := haw hm0
      have hbk := hbk (by omega)
      have HLX := TW.hide (HLD.out wr g p c m hbk hpm)
      have HGD := TW.hide hgd
      have HP := TW.hide hp
      have HOW := TW.hide hown
      have HBK := TW.hide hbk
      have HBE := TW.hide hbel
      have hwz := hbel.size
      clear hgd hp hown hbk hbel haw
      by_cases h8 : m < 8
      · have HX : Hid (ld (zs.drop p) 0 8 = (0, 3)) := HL3.out p (by omega)
        rw [HX.out] at HLX
        go_wp2_with fail
        refine HLX.out.mono ?_
        rintro e w2 ⟨rfl, rfl⟩
        go_wp2
        go_ret3
        refine ⟨4, p, 0, _, g, [], by simpa using HRES.out j 4 p HGD.out (.inr ⟨rfl, .inl ⟨HP.out.symm, by rw [HP.out, HLEN.out]; omega, by rw [HP.out, HLEN.out]; omega⟩⟩), ret_three (by omega), World.ownsRow_nil _ _ _ _, PV.nil _ _, hg, fun h => absurd h (Nat.lt_irrefl _), HBE.out⟩
      · obtain ⟨q, rfl⟩ : ∃ q, m = q + 8 := ⟨m - 8, by omega⟩
        have HX : Hid (ld (zs.drop p) 0 8 = ((nm zs p : Int), 0)) := HL8.out p (by omega)
        rw [HX.out] at HLX
        have hnb := HNB.out p
        obtain ⟨s, hs⟩ : ∃ s, nm zs p = s := ⟨_, rfl⟩
        rw [hs] at HLX HX hnb
        have HS := TW.hide hs
        clear hs
        by_cases hsq : q < s
        · go_wp2_with fail
          refine HLX.out.mono ?_
          rintro e w2 ⟨rfl, rfl⟩
          go_wp2
          all_goals
            go_ret3
            refine ⟨4, p + 8, 0, _, g, [], by simpa using HRES.out j 4 (p + 8) HGD.out (.inr ⟨rfl, .inr ⟨by rw [HP.out], by rw [HP.out, HLEN.out]; omega, by rw [pos_succ, pn, HP.out, HLEN.out, HS.out]; omega⟩⟩), ret_three (by omega), World.ownsRow_nil _ _ _ _, PV.nil _ _, hg, fun h => absurd h (Nat.lt_irrefl _), HBE.out⟩
        · have hj8 := pos_ge zs j
          rw [HP.out] at hj8
          by_cases hc8 : c = 8
          · obtain rfl : q = 0 := by omega
            obtain rfl : s = 0 := by omega
            subst hc8
            have HPS : Hid (PV g zs (j + 1) (qs ++ [.slice (some ⟨g, p, none⟩) 0 0])) := HPV.out.snoc (by rw [pn, HP.out, HS.out]) (fun h => by rw [HP.out] <;> omega) (by rw [HLEN.out]; omega)
            go_wp2_with fail
            refine HLX.out.mono ?_
            rintro e w2 ⟨rfl, rfl⟩
            go_wp2_with (at_builtin; refine wpList_append_own _ rfl _ _ 24 rfl w.heap.size 22 i2 (.slice none 0 0) 1 24 Try.underlying24 hi2 hy0 hy1 hy2 rfl (by decide) _ j qs rfl (HOW.out.alloc _) ⟨wr.heap.size, 0, none⟩ 1 1 [.slice (some ⟨g, p, none⟩) 0 0] ?c6 rfl ?c1 ?c2 ?c3 ?c4 ?c5 ?_)
            case c6 => rfl
            case c1 => exact one_new22 _ _
            case c2 => intro u hu; simp at hu; subst hu; rfl
            case c3 => unfold maxLen; omega
            case c4 => omega
            case c5 => first | (simp; omega) | simp
            intro v' w5 hown5 hgrow5 _
            have O5 := TW.hide hown5
            have B5 : Hid (Below w.heap.size w w5) := (HBE.out.alloc HBE.out.size _).grown hgrow5 (by first | (simp; omega) | simp) (own_blk HOW.out)
            have K5 : Hid (Bk w5 g zs) := (HBK.out.alloc _).grown hgrow5 (own_type (HOW.out.alloc _))
            clear hown5 hgrow5
            go_wp2
            all_goals
              go_roundw
              case rel => exact ⟨j + 1, p + 8 + 0, 0 - 0, 8 - 8 - 0, _, _, HGD.out.succ (by rw [pos_succ, pn, HP.out, HLEN.out, HS.out] <;> omega), by rw [pos_succ, pn, HP.out, HS.out], by omega, rfl, by omega, fun hq0 => by first | rfl | (exfalso; omega) | (rw [if_neg (by omega)]), O5.out, HPS.out, fun _ => K5.out, B5.out⟩
              case measure => first | (simp; omega) | simp
          · have HPS : Hid (PV g zs (j + 1) (qs ++ [.slice (some ⟨g, p + 8, none⟩) s s])) := HPV.out.snoc (by rw [pn, HP.out, HS.out]) (fun h => by rw [HP.out] <;> omega) (by rw [HLEN.out]; omega)
            go_wp2_with fail
            refine HLX.out.mono ?_
            rintro e w2 ⟨rfl, rfl⟩
            go_wp2_with (at_builtin; refine wpList_append_own _ rfl _ _ 24 rfl w.heap.size 22 i2 (.slice none 0 0) 1 24 Try.underlying24 hi2 hy0 hy1 hy2 rfl (by decide) _ j qs rfl (HOW.out.alloc _) ⟨wr.heap.size, 0, none⟩ 1 1 [.slice (some ⟨g, p + 8, none⟩) s s] ?c6 rfl ?c1 ?c2 ?c3 ?c4 ?c5 ?_)
            case c6 => rfl
            case c1 => exact one_new22 _ _
            case c2 => intro u hu; simp at hu; subst hu; rfl
            case c3 => unfold maxLen; omega
            case c4 => omega
            case c5 => first | (simp; omega) | simp
            intro v' w5 hown5 hgrow5 _
            have O5 := TW.hide hown5
            have B5 : Hid (Below w.heap.size w w5) := (HBE.out.alloc HBE.out.size _).grown hgrow5 (by first | (simp; omega) | simp) (own_blk HOW.out)
            have K5 : Hid (Bk w5 g zs) := (HBK.out.alloc _).grown hgrow5 (own_type (HOW.out.alloc _))
            clear hown5 hgrow5
            go_wp2
            all_goals
              go_roundw
              case rel => exact ⟨j + 1, p + 8 + s, q - s, c - 8 - s, _, _, HGD.out.succ (by rw [pos_succ, pn, HP.out, HLEN.out, HS.out] <;> omega), by rw [pos_succ, pn, HP.out, HS.out], by omega, rfl, by omega, fun hq0 => by first | rfl | (exfalso; omega) | (rw [if_neg (by omega)]), O5.out, HPS.out, fun _ => K5.out, B5.out⟩
              case measure => first | (simp; omega) | simp
    · obtain rfl : m = 0 := by omega
      have HGD := TW.hide hgd
      have HP := TW.hide hp
      have HOW := TW.hide hown
      have HBK := TW.hide hbk
      have HBE := TW.hide hbel
      clear hgd hp hown hbk hbel haw
      go_wp2
      go_ret3
      refine ⟨0, 0, j, _, g, qs, by simpa using HRES.out j 0 0 HGD.out (.inl ⟨rfl, rfl, by rw [HP.out, HLEN.out]; omega⟩), rfl, HOW.out, HPV.out, hg, fun h => HBK.out ?_, HBE.out⟩
      have h1 := pos_ge zs j
      rw [HP.out] at h1
      omega
theorem unrowL (a : Option Addr) (cap len : Nat) (w : World) (hm : 16777216 < len) (hM : len ≤ 9223372036854775807) :
    Calls Try.prog 5 #[.slice a len cap] w fun e w' => e = .returned (.tuple #[.slice none 0 0, .int .i64 0, .int .i64 2]) ∧ w = w' := by
  have hle : (16777216 : Int) < (len : Int) := by omega
  go_enter Try.func5, Try.ntmps5
  go_wp2
  go_ret3
  exact ⟨rfl, rfl⟩
theorem unrow (a : Option Addr) (cap : Nat) (zs : List Int) (w : World) (hz : Byt zs) (hr : Row w a zs) (hn : a = none → cap = 0) (hM : zs.length ≤ maxLen) :
    Calls Try.prog 5 #[.slice a zs.length cap] w fun e w' => UPost zs w e w' := by
  by_cases hm : zs.length ≤ 16777216
  · exact unrowS a cap zs w hz hr hn hm
  · refine (unrowL a cap zs.length w (by omega) (by unfold maxLen at hM; omega)).mono ?_
    rintro e w' ⟨rfl, rfl⟩
    exact ⟨2, 0, 0, _, w.heap.size, [], .inl ⟨by omega, rfl, rfl, rfl⟩, rfl, World.ownsRow_nil _ _ _ _, PV.nil _ _, Nat.le_refl _, fun h => absurd h (Nat.lt_irrefl _), Below.refl _ _⟩
end LW
end Go.Proofs.Ytkmokjnakglhbaa
