/-
  What the laws' call spoil does: of all that was there only the row that it is handed is changed, and bytes stay bytes, in whatever rows.
-/
import Derived.Test.YtomdplcmbcjkfaaClone
import Derived.Test.YtomdplcmbcjkfaaCopied
import Derived.Test.YtomdplcmbcjkfaaAliveP
import Derived.Maps.AppendAt
import Derived.Handy
namespace Go.Proofs.Ytomdplcmbcjkfaa
open Go.RowKit Go.ChangeShapes
set_option linter.unusedVariables false
set_option linter.unusedSimpArgs false
namespace LW
open Words
/-- Rows of bytes stay rows of bytes, as long as they were. -/
def U1 (w w' : World) : Prop := ∀ (b : Nat) (cs : Array Value), w.heap[b]? = some (.cells cs 5 (0, 0)) → ∃ cs' : Array Value, w'.heap[b]? = some (.cells cs' 5 (0, 0)) ∧ cs'.size = cs.size ∧ ∀ (i : Nat) (z : Int), cs[i]? = some (Value.int .u8 z) → ∃ z' : Int, cs'[i]? = some (Value.int .u8 z')
/-- Cells of any other type stay what they were. -/
def U2 (w w' : World) : Prop := ∀ (b : Nat) (cs : Array Value) (t : TypeId) (f : Nat × Nat), w.heap[b]? = some (.cells cs t f) → t ≠ 5 → w'.heap[b]? = some (.cells cs t f)
structure U (w w' : World) : Prop where
  one : U1 w w'
  two : U2 w w'
theorem U.refl (w : World) : U w w := ⟨fun b cs h => ⟨cs, h, rfl, fun i z hz => ⟨z, hz⟩⟩, fun _ _ _ _ h _ => h⟩
theorem U.trans {a b c : World} (h : U a b) (k : U b c) : U a c := ⟨fun x cs hx => by
  obtain ⟨cs', h1, h2, h3⟩ := h.one x cs hx
  obtain ⟨cs2, k1, k2, k3⟩ := k.one x cs' h1
  refine ⟨cs2, k1, k2.trans h2, fun i z hz => ?_⟩
  obtain ⟨z', hz'⟩ := h3 i z hz
  exact k3 i z' hz', fun x cs t f hx ht => k.two x cs t f (h.two x cs t f hx ht) ht⟩
theorem U.of_keep {w w' : World} (h : ∀ (b : Nat) (o : Obj), w.heap[b]? = some o → w'.heap[b]? = some o) : U w w' := ⟨fun b cs hx => ⟨cs, h b _ hx, rfl, fun i z hz => ⟨z, hz⟩⟩, fun b cs t f hx _ => h b _ hx⟩
theorem U.alloc {w w' : World} (h : U w w') (o : Obj) : U w (w'.alloc o) := h.trans (U.of_keep fun b o' hb => by
  rw [Below.heap_alloc _ _ _ (Array.getElem?_eq_some_iff.1 hb).1]; exact hb)
theorem U.below {w w' : World} (hb : Below w.heap.size w w') : U w w' := U.of_keep fun b o h => by
  rw [hb.block b (Array.getElem?_eq_some_iff.1 h).1]; exact h
theorem U.setCell {w w' : World} (h : U w w') (g o : Nat) (x : Int) (cs0 : Array Value) (hg : w'.heap[g]? = some (.cells cs0 5 (0, 0))) : U w (w'.setCell ⟨g, o, none⟩ (.int .u8 x)) := h.trans ⟨fun b cs hx => by
  by_cases e : b = g
  · subst e
    refine ⟨cs.setIfInBounds o (.int .u8 x), heap_setCell_same _ _ _ _ _ _ hx, by simp, fun i z hz => ?_⟩
    by_cases ei : o = i
    · subst ei
      have hlt : o < cs.size := (Array.getElem?_eq_some_iff.1 hz).1
      exact ⟨x, by simp [hlt]⟩
    · exact ⟨z, by rw [Array.getElem?_setIfInBounds_ne ei]; exact hz⟩
  · exact ⟨cs, by rw [heap_setCell_other _ _ _ _ e]; exact hx, rfl, fun i z hz => ⟨z, hz⟩⟩, fun b cs t f hx ht => by
  by_cases e : b = g
  · subst e
    rw [hg] at hx
    simp at hx
    exact absurd hx.2.1.symm ht
  · rw [heap_setCell_other _ _ _ _ e]; exact hx⟩
/-- An own row of bytes is one behind such a change too, whatever bytes it then holds. -/
theorem own_U {w w' : World} {B n : Nat} {v : Value} {zs : List Int} (h : w.ownsRow B 5 1 v n (vs zs)) (hu : U w w') : ∃ ys, w'.ownsRow B 5 1 v n (vs ys) := by
  rcases h.2 with ⟨rfl, rfl⟩ | ⟨g, cap, cur, rfl, hg, hh, hn, hm, hc, ht⟩
  · exact ⟨[], World.ownsRow_nil _ _ _ _⟩
  · obtain ⟨cs', h1, h2, h3⟩ := hu.one g cur hh
    have hl : zs.length = n := by have := h.1; rw [vs_length] at this; omega
    have hel : ∀ i, i < n → ∃ z', cs'[i]? = some (.int .u8 z') := fun i hi => by
      refine h3 i (zs.getD i 0) ?_
      have : (cur.toList.take (n * 1))[i]? = some (.int .u8 (zs.getD i 0)) := by rw [ht]; exact vs_get zs i (by omega)
      rw [List.getElem?_take, if_pos (by omega)] at this
      simpa using this
    refine ⟨(cs'.toList.take n).map fun v => match v with | .int _ z => z | _ => 0, ?_, .inr ⟨g, cap, cs', rfl, hg, h1, hn, hm, by omega, ?_⟩⟩
    · rw [vs_length, List.length_map, List.length_take, Array.length_toList]; omega
    · rw [Nat.mul_one]
      apply List.ext_getElem?
      intro i
      rcases Nat.lt_or_ge i n with hi | hi
      · obtain ⟨z', hz⟩ := hel i hi
        have hz' : cs'.toList[i]? = some (.int .u8 z') := by simpa using hz
        simp only [vs, List.map_map, List.getElem?_map, List.getElem?_take, hi, if_true, hz', Option.map_some]
        rfl
      · rw [List.getElem?_eq_none (by rw [List.length_take]; omega), List.getElem?_eq_none (by rw [vs_length, List.length_map, List.length_take]; omega)]
theorem U.row {w : World} {g n : Nat} {cur : Array Value} {x : Int} (hh : w.heap[g]? = some (.cells cur 5 (0, 0))) (hfit : n + 1 ≤ cur.size) : U w (w.setRow g (cur.toList.take n ++ [Value.int .u8 x] ++ cur.toList.drop (n + 1)).toArray) := ⟨fun b cs hx => by
  by_cases e : b = g
  · subst e
    obtain rfl : cs = cur := by rw [hh] at hx; simpa using hx.symm
    refine ⟨_, setRow_heap _ _ _ _ _ _ hh, by simp; omega, fun i z hz => ?_⟩
    have hz' : cs.toList[i]? = some (.int .u8 z) := by simpa using hz
    have hlt : (cs.toList.take n).length = n := by rw [List.length_take, Array.length_toList]; omega
    simp only [List.getElem?_toArray]
    rcases Nat.lt_trichotomy i n with hi | hi | hi
    · exact ⟨z, by rw [List.append_assoc, List.getElem?_append_left (by omega), List.getElem?_take, if_pos hi]; exact hz'⟩
    · exact ⟨x, by rw [List.append_assoc, List.getElem?_append_right (by omega), hlt, hi]; simp⟩
    · refine ⟨z, ?_⟩
      rw [List.getElem?_append_right (by simp; omega), List.getElem?_drop]
      rw [← hz']
      congr 1
      simp
      omega
  · exact ⟨cs, by rw [setRow_other _ _ _ _ e]; exact hx, rfl, fun i z hz => ⟨z, hz⟩⟩, fun b cs t f hx ht => by
  by_cases e : b = g
  · subst e
    rw [hh] at hx
    simp at hx
    exact absurd hx.2.1.symm ht
  · rw [setRow_other _ _ _ _ e]; exact hx⟩
theorem U.drew_alloc (w : World) (o : Obj) : U w (w.drew.alloc o) := U.of_keep fun b o' hb => by
  rw [Below.heap_alloc _ _ _ (show b < w.drew.heap.size from (Array.getElem?_eq_some_iff.1 hb).1)]; exact hb
/-- 'append(s, x)' of one byte onto a row of the call's own. -/
theorem wpList_append_byte {w : World} {ops : Array Oper} {rest : List Oper} {o : Oper} {a : Act} {Q : Exit → Act → World → Prop} (hgd : o.guard = none) (s x : Operand)
    (ho : o.op = .call { callee := .builtin .append, args := #[s, x], argTypes := #[24, 24] }) (base : Nat) (v : Value) (n : Nat) (zs : List Int) (hs : a.eval s = v) (hown : w.ownsRow base 5 1 v n (vs zs)) (ad : Addr) (c : Nat) (y : Int) (hx : a.eval x = .slice (some ad) 1 c)
    (hnews : ∀ j u, [Value.int .u8 y][j]? = some u → w.cell? (ad.add j) = some u) (hb : n + 1 ≤ 140737488355328) (hbase : base ≤ w.heap.size)
    (h : ∀ v' w', w'.ownsRow base 5 1 v' (n + 1) (vs (zs ++ [y])) → w.grownBy w' v.ownBlock → (v'.ownBlock = v.ownBlock ∨ v'.ownBlock = some w.heap.size) → U w w' → wpList Try.prog ops Q rest (a.put o.dst v') w') : wpList Try.prog ops Q (o :: rest) a w := by
  obtain ⟨i, hi, hz0, hz1, hz2⟩ := info_parts info5
  have h63 : n + 1 ≤ maxLen := by unfold maxLen; omega
  obtain ⟨v', w', hr, h2, h3, _, h5⟩ := run_append_own_at (P := Try.prog) w base 24 o.type 5 i (.int .u8 0) 1 1 Try.underlying24 hi hz0 hz1 hz2 rfl (by decide) v n (vs zs) hown ad 1 c [.int .u8 y] rfl hnews (by intro u hu; simp at hu; subst hu; rfl) h63 (by omega) hbase
  have hU : U w w' := by
    rcases hown.2 with ⟨rfl, rfl⟩ | ⟨g, cap, cur, rfl, hg, hh, hn, hm, hc, ht⟩
    · have hr2 := run_append_nil (P := Try.prog) w 24 o.type 5 i (.int .u8 0) Try.underlying24 hi hz0 ad 1 c [.int .u8 y] (by rw [hz1]; rfl) hnews (by omega) (by omega) (by rw [hz2]; omega)
      rw [hr2] at hr
      injection hr with _ e
      rw [← e]
      exact U.drew_alloc _ _
    · by_cases hroom : n + 1 ≤ cap
      · have hr2 := run_append_room (P := Try.prog) w 24 o.type 5 i Try.underlying24 hi g n cap cur hh ad 1 c [.int .u8 y] (by rw [hz1]; rfl) hnews (by intro u hu; simp at hu; subst hu; rfl) hroom (by rw [hz1]; simp; omega)
        rw [hr2] at hr
        injection hr with _ e
        rw [← e, hz1, Nat.mul_one, List.length_singleton]
        have hfit : n + 1 ≤ cur.size := by rw [Nat.mul_one] at hc; omega
        exact U.row hh hfit
      · have hr2 := run_append_grow (P := Try.prog) w 24 o.type 5 i (.int .u8 0) Try.underlying24 hi hz0 ⟨g, 0, none⟩ n cap (vs zs) (by rw [hz1]; exact hown.1) (hown.cells (g := g) rfl) ad 1 c [.int .u8 y] (by rw [hz1]; rfl) hnews (by omega) (by omega) (growslice_fits (by omega) (by rw [hz2]; omega))
        rw [hr2] at hr
        injection hr with _ e
        rw [← e]
        exact U.drew_alloc _ _
  refine wpList_plain hgd fun K hK => ?_
  unfold Oper.wp execOp
  simp only [ho, resolve, invoke, builtin, Sem.run_bind, Sem.run_pure, Result.andThen_ok, List.map_toArray, List.map_cons, List.map_nil, hs, hx, hr]
  refine hK _ _ (h v' w' ?_ h3 h5 hU)
  rw [vs_append]; exact h2
theorem grown_refl (w : World) (row : Option Nat) : w.grownBy w row := ⟨rfl, rfl, rfl, Nat.le_refl _, fun _ _ _ => rfl⟩
theorem grown_setCell {w w' : World} {g o : Nat} {u : Value} (h : w.grownBy w' (some g)) : w.grownBy (w'.setCell ⟨g, o, none⟩ u) (some g) :=
  ⟨h.os, h.tape, h.output, by simpa using h.size, fun k hk hne => by rw [heap_setCell_other _ _ _ _ (fun e => hne (by rw [e]))]; exact h.block k hk hne⟩
theorem grown_alloc {w w' : World} {row : Option Nat} (h : w.grownBy w' row) (o : Obj) : w.grownBy (w'.alloc o) row :=
  ⟨h.os, h.tape, h.output, by have := h.size; simp; omega, fun k hk hne => by rw [Below.heap_alloc _ _ _ (Nat.lt_of_lt_of_le hk h.size)]; exact h.block k hk hne⟩
theorem grown_more {w w' w2 : World} {g : Nat} {row : Option Nat} (h : w.grownBy w' (some g)) (h2 : w'.grownBy w2 row) (hr : ∀ j, row = some j → j = g ∨ w.heap.size ≤ j) : w.grownBy w2 (some g) :=
  ⟨h2.os.trans h.os, h2.tape.trans h.tape, h2.output.trans h.output, Nat.le_trans h.size h2.size, fun k hk hne => by
    rw [h2.block k (Nat.lt_of_lt_of_le hk h.size) (fun e => by
      rcases hr k e.symm with rfl | h'
      · exact hne rfl
      · omega)]
    exact h.block k hk hne⟩
theorem vs_set (zs : List Int) (k : Nat) (q : Int) : (vs zs).set k (.int .u8 q) = vs (zs.set k q) := by simp [vs]
set_option maxRecDepth 100000 in
set_option maxHeartbeats 1000000 in
theorem spoilO (g n cap : Nat) (zs : List Int) (w : World) (hown : w.ownsRow g 5 1 (.slice (some ⟨g, 0, none⟩) n cap) n (vs zs)) (hg : g < w.heap.size) (hn : n ≤ 140737488351232) :
    Calls Try.prog 10 #[.slice (some ⟨g, 0, none⟩) n cap] w fun e w' => (∃ v, e = .returned v) ∧ w.grownBy w' (some g) ∧ U w w' := by
  have HO := TW.hide hown
  clear hown
  go_enter Try.func10, Try.ntmps10
  go_wp2
  go_loopw [2] (fun i wr => ∃ k : Nat, k ≤ n ∧ i = .int .i64 k ∧ (∃ ys, wr.ownsRow g 5 1 (.slice (some ⟨g, 0, none⟩) n cap) n (vs ys)) ∧ w.grownBy wr (some g) ∧ U w wr) (fun i _ => n - (intOf i).toNat)
  case atStart => exact ⟨0, Nat.zero_le _, rfl, ⟨zs, HO.out⟩, grown_refl _ _, U.refl _⟩
  case round =>
    rename_i Q1 K1 a1
    obtain ⟨k, hk, rfl, ⟨ys, hown⟩, hgr, hu⟩ := hrel
    clear HO
    by_cases hlt : k < n
    · have hl : ys.length = n := by have := hown.1; rw [vs_length] at this; omega
      have hc := hown.cellAt k (by omega)
      rw [vs_get ys k (by omega)] at hc
      have hf := hown.frozenAt k
      generalize ys.getD k 0 = y at *
      obtain ⟨q, hq⟩ : ∃ q, bits .xor .u8 y 90 = q := ⟨_, rfl⟩
      have HN : Hid ((wr.setCell ⟨g, k, none⟩ (.int .u8 q)).ownsRow g 5 1 (.slice (some ⟨g, 0, none⟩) n cap) n (vs (ys.set k q))) := by
        show World.ownsRow _ _ _ _ _ _ _
        rw [← vs_set]; exact (hown.stored k _).1
      have HG := TW.hide (grown_setCell (o := k) (u := .int .u8 q) hgr)
      obtain ⟨cs0, hcs0⟩ : ∃ cs0 : Array Value, wr.heap[g]? = some (.cells cs0 5 (0, 0)) := by
        rcases hown.2 with ⟨h, _⟩ | ⟨g', c', cur, he, _, hh, _⟩
        · cases h
        · cases he; exact ⟨_, hh⟩
      have HU := TW.hide (U.setCell hu g k q cs0 hcs0)
      clear hcs0
      have k1 : (k : Int) < (n : Int) := by omega
      clear hown hgr hl hu
      go_wp2
      go_roundw
      case rel => exact ⟨k + 1, by omega, by go_num, ⟨_, HN.out⟩, HG.out, HU.out⟩
      case measure => simp [intOf]; omega
    · have HA := TW.hide a1
      clear a1
      have HO := TW.hide hown
      have HG := TW.hide hgr
      have HU := TW.hide hu
      clear hown hgr hu
      go_wp2
      refine HA.out _ _ ?_
      clear HA
      go_wp2
      go_loopw [0, 3] (fun b i wr => ∃ k : Nat, k ≤ 70 ∧ i = .int .i64 k ∧ (∃ ys, wr.ownsRow g 5 1 b (n + k) (vs ys)) ∧ w.grownBy wr (some g) ∧ (∀ j, b.ownBlock = some j → j = g ∨ w.heap.size ≤ j) ∧ U w wr) (fun _ i _ => 70 - (intOf i).toNat)
      case atStart => exact ⟨0, Nat.zero_le _, rfl, ⟨_, HO.out⟩, HG.out, fun j hj => .inl (by simpa [Value.ownBlock] using hj.symm), HU.out⟩
      case round =>
        obtain ⟨k2, hk2, rfl, ⟨ys2, hown2⟩, hgr2, hbl, hu2⟩ := hrel
        clear HO HG HU
        by_cases hlt2 : k2 < 70
        · have HO := TW.hide hown2
          have HG := TW.hide hgr2
          have HBL := TW.hide hbl
          have HU := TW.hide hu2
          clear hown2 hgr2 hbl hu2
          have k1 : (k2 : Int) < 70 := by omega
          have e8 : IntKind.i64.wrap (17 + (k2 : Int)) = 17 + (k2 : Int) := by rw [IntKind.wrap_i64]; omega
          have e9 : IntKind.u8.wrap (17 + (k2 : Int)) = 17 + (k2 : Int) := by rw [IntKind.wrap_u8]; omega
          have hsz : w.heap.size ≤ wr.heap.size := HG.out.size
          go_wp2_with (at_builtin; refine wpList_append_byte rfl _ _ rfl g _ (n + k2) ys2 rfl (HO.out.alloc _) ⟨wr.heap.size, 0, none⟩ 1 (17 + (k2 : Int)) ?c6 ?c1 ?c3 ?c5 ?_)
          case c6 => rfl
          case c1 => exact one_new _ _
          case c3 => omega
          case c5 => simp; omega
          intro v' w2 hown' hgrow' hat hu'
          have H1 : Hid (∃ ys, w2.ownsRow g 5 1 v' (n + (k2 + 1)) (vs ys)) := ⟨_, hown'⟩
          have H2 := TW.hide (grown_more (grown_alloc HG.out _) hgrow' HBL.out)
          have H3 : Hid (∀ j, v'.ownBlock = some j → j = g ∨ w.heap.size ≤ j) := fun j hj => by
            rcases hat with h | h
            · exact HBL.out j (h ▸ hj)
            · rw [h] at hj
              simp at hj
              right; omega
          have H4 := TW.hide ((HU.out.alloc _).trans hu')
          clear hown' hgrow' hat hu'
          go_wp2
          go_roundw
          case rel => exact ⟨k2 + 1, by omega, by go_num, H1.out, H2.out, H3.out, H4.out⟩
          case measure => simp [intOf]; omega
        · go_wp2
          go_returns
          exact ⟨⟨_, rfl⟩, hgr2, hu2⟩
set_option maxRecDepth 100000 in
set_option maxHeartbeats 1000000 in
theorem spoilN (w : World) : Calls Try.prog 10 #[.slice none 0 0] w fun e w' => (∃ v, e = .returned v) ∧ Below w.heap.size w w' ∧ U w w' := by
  generalize hg : w.heap.size = g
  have HS : Hid (w.heap.size = g) := hg
  clear hg
  go_enter Try.func10, Try.ntmps10
  go_wp2
  go_loopw [2] (fun i wr => i = .int .i64 0 ∧ Below g w wr ∧ U w wr) (fun i _ => 0)
  case atStart => exact ⟨rfl, Below.refl _ _, U.refl _⟩
  case round =>
    rename_i Q1 K1 a1
    obtain ⟨rfl, hbl, hu⟩ := hrel
    have HA := TW.hide a1
    have HB := TW.hide hbl
    have HU := TW.hide hu
    clear a1 hbl hu
    go_wp2
    refine HA.out _ _ ?_
    clear HA
    go_wp2
    go_loopw [0, 3] (fun b i wr => ∃ k : Nat, k ≤ 70 ∧ i = .int .i64 k ∧ (∃ ys, wr.ownsRow g 5 1 b k (vs ys)) ∧ Below g w wr ∧ U w wr) (fun _ i _ => 70 - (intOf i).toNat)
    case atStart => exact ⟨0, Nat.zero_le _, rfl, ⟨[], World.ownsRow_nil _ _ _ _⟩, HB.out, HU.out⟩
    case round =>
      obtain ⟨k2, hk2, rfl, ⟨ys2, hown2⟩, hbl2, hu2⟩ := hrel
      clear HB HU
      by_cases hlt2 : k2 < 70
      · have HO := TW.hide hown2
        have HB := TW.hide hbl2
        have HU := TW.hide hu2
        clear hown2 hbl2 hu2
        have k1 : (k2 : Int) < 70 := by omega
        have e8 : IntKind.i64.wrap (17 + (k2 : Int)) = 17 + (k2 : Int) := by rw [IntKind.wrap_i64]; omega
        have e9 : IntKind.u8.wrap (17 + (k2 : Int)) = 17 + (k2 : Int) := by rw [IntKind.wrap_u8]; omega
        have HG : Hid (g ≤ wr.heap.size) := by rw [← HS.out]; exact HB.out.size
        go_wp2_with (at_builtin; refine wpList_append_byte rfl _ _ rfl g _ k2 ys2 rfl (HO.out.alloc _) ⟨wr.heap.size, 0, none⟩ 1 (17 + (k2 : Int)) ?c6 ?c1 ?c3 ?c5 ?_)
        case c6 => rfl
        case c1 => exact one_new _ _
        case c3 => omega
        case c5 => have := HG.out; simp; omega
        intro v' w2 hown' hgrow' hat hu'
        have H1 : Hid (∃ ys, w2.ownsRow g 5 1 v' (k2 + 1) (vs ys)) := ⟨_, hown'⟩
        have H2 : Hid (Below g w w2) := (HB.out.alloc HG.out _).grown hgrow' (by have := HG.out; simp; omega) (own_block HO.out)
        have H4 := TW.hide ((HU.out.alloc _).trans hu')
        clear hown' hgrow' hat hu'
        go_wp2
        go_roundw
        case rel => exact ⟨k2 + 1, by omega, by go_num, H1.out, H2.out, H4.out⟩
        case measure => simp [intOf]; omega
      · go_wp2
        go_returns
        exact ⟨⟨_, rfl⟩, hbl2, hu2⟩
/-- A row of the call's own is spoilt: all below it stands, and rows of bytes stay rows of bytes. -/
theorem spoilP (B n : Nat) (v : Value) (zs : List Int) (w : World) (h : w.ownsRow B 5 1 v n (vs zs)) (hB : B ≤ w.heap.size) (hn : n ≤ 140737488351232) :
    Calls Try.prog 10 #[v] w fun e w' => (∃ v, e = .returned v) ∧ Below B w w' ∧ U w w' := by
  rcases h.2 with ⟨rfl, rfl⟩ | ⟨g, cap, cur, rfl, hg, hh, hrest⟩
  · refine (spoilN w).mono ?_
    rintro e w' ⟨h1, h2, h3⟩
    exact ⟨h1, h2.mono hB, h3⟩
  · refine (spoilO g n cap zs w ⟨h.1, .inr ⟨g, cap, cur, rfl, Nat.le_refl _, hh, hrest⟩⟩ (Array.getElem?_eq_some_iff.1 hh).1 hn).mono ?_
    rintro e w' ⟨h1, h2, h3⟩
    exact ⟨h1, (Below.refl _ _).grown h2 hB (fun k hk => by cases hk; exact hg), h3⟩
end LW
end Go.Proofs.Ytomdplcmbcjkfaa
