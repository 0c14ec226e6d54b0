/-
  PgM, PgN, PgR, PgS, PgT, PgU, PgO in one.
-/
import Derived.Test.YtfbnakmmmphedaaHndo
import Derived.Test.YtfbnakmmmphedaaSwo
set_option linter.unusedVariables false
set_option linter.unusedSimpArgs false
set_option maxRecDepth 100000
set_option maxHeartbeats 4000000
namespace Go.Proofs.Ytfbnakmmmphedaa
open Go.RowKit
namespace LW
open Mc
structure PV where
 rv : Value
 hv : Value
 gv : Value
 lv : Value
 cv : Value
 ev : Value
 nv : Value
 nn : List Nat
 ps : List Nat
 qs : List Value
 iv : Nat → Value
 gb : Option Nat
 gx : Int
 ge : Option Nat
 gy : Int
def ptr (b : Nat) : Value:=.pointer (some ⟨b,0,none⟩)
def aT (s : Syst) (r : Rn) : Int:=if r.ended then ((pg s r.prog).length : Int) else r.pos
def rpC (s : Syst) (iv : Nat → Value) (r : Rn) : Array Value:=#[iv r.prog.toNat,.int .i64 (aT s r),.int .i64 (r.regs.getD 0 0),.int .i64 (r.regs.getD 1 0),.int .i64 (r.regs.getD 2 0),.int .i64 (r.regs.getD 3 0),.int .i64 (r.regs.getD 4 0),.int .i64 (r.regs.getD 5 0),.int .i64 (r.regs.getD 6 0),.int .i64 (r.regs.getD 7 0)]
def mpC (s : Syst) (pa : Option Addr) (pc : Nat) (m : PV) : Array Value:=#[.slice pa s.progs.length pc,m.rv,m.hv,m.gv,m.lv,m.cv,m.ev,m.nv]
structure Ch where
 room : Int
 q : Value
 sh : Bool
def chV (x : Ch) (j : Nat) : Value:=if j = 0 then .int .i64 x.room else if j = 1 then x.q else .bool x.sh
def chL (s : Syst) (t : St) (qs : List Value) : List Ch:=(List.range t.held.length).map fun c => ⟨s.rooms.getD c 0,qn qs c,t.shut.getD c false⟩
def chC (s : Syst) (t : St) (qs : List Value) : List Value:=flC 3 chV (chL s t qs)
theorem chL_len (s : Syst) (t : St) (qs : List Value) : (chL s t qs).length = t.held.length:=by simp [chL]
theorem chL_at (s : Syst) (t : St) (qs : List Value) (c : Nat) (hc : c < t.held.length) (d : Ch) : (chL s t qs).getD c d = ⟨s.rooms.getD c 0,qn qs c,t.shut.getD c false⟩:=by
 unfold chL
 rw [List.getD_eq_getElem?_getD,List.getElem?_map,List.getElem?_range hc]
 rfl
def obk (m : PV) : Nat → Option Nat
 | 0 => m.gv.ownBlock
 | 1 => m.cv.ownBlock
 | 2 => m.nv.ownBlock
 | 3 => m.gb
 | c + 4 => (qn m.qs c).ownBlock
def PI (o : World) (s : Syst) (pa : Option Addr) (iv : Nat → Value) : Prop:=∃ b off,pa = some ⟨b,off,none⟩ ∧ ∀ p,p < s.progs.length → ∃ A K,iv p = .slice A (s.progs.getD p []).length K ∧ o.cell? ⟨b,off + p,none⟩ = some (iv p) ∧ IR o A (s.progs.getD p [])
structure PM (o W : World) (g : Nat) (s : Syst) (pa : Option Addr) (pc : Nat) (t : St) (m : PV) : Prop where
 bl : Below o.heap.size o W
 pr : PI o s pa m.iv
 gB : o.heap.size ≤ g
 blk : W.heap[g]? = some (.cells (mpC s pa pc m) 55 (0,0))
 rns : W.ownsRow o.heap.size 72 1 m.rv t.rns.length (m.ps.map ptr)
 rnB : ∀ k,k < t.rns.length → W.heap[m.ps.getD k 0]? = some (.cells (rpC s m.iv (Mc.rn t k)) 75 (0,0))
 rnG : ∀ k,k < t.rns.length → o.heap.size ≤ m.ps.getD k 0
 rnD : ∀ j k,j < t.rns.length → k < t.rns.length → m.ps.getD j 0 = m.ps.getD k 0 → j = k
 chs : W.ownsRow o.heap.size 71 3 m.hv t.held.length (chC s t m.qs)
 qus : ∀ c,c < t.held.length → Qu W (qn m.qs c) (t.held.getD c [])
 qB : m.qs.length = t.held.length ∧ ∀ c b,(qn m.qs c).ownBlock = some b → o.heap.size ≤ b
 lck : W.ownsRow o.heap.size 4 1 m.lv t.locked.length (t.locked.map Value.bool)
 grp : W.ownsRow o.heap.size 3 1 m.gv t.groups.length (t.groups.map (Value.int .i64))
 cel : W.ownsRow o.heap.size 3 1 m.cv t.cells.length (t.cells.map (Value.int .i64))
 lst : W.ownsRow o.heap.size 3 1 m.nv m.nn.length (natV m.nn)
 evs : W.ownsRow o.heap.size 39 5 m.ev t.evs.length (evC t.evs)
 gst : ∀ p,m.gb = some p → W.heap[p]? = some (.cells #[.int .i64 m.gx] 3 (0,0)) ∧ o.heap.size ≤ p
 gse : ∀ p,m.ge = some p → W.heap[p]? = some (.cells #[.int .i64 m.gy] 26 (0,0)) ∧ o.heap.size ≤ p
 dis : ∀ i j b,obk m i = some b → obk m j = some b → i = j
theorem PM.below {o W W' : World} {g : Nat} {s : Syst} {pa : Option Addr} {pc : Nat} {t : St} {m : PV} (h : PM o W g s pa pc t m) (hb : Below W.heap.size W W') : PM o W' g s pa pc t m :=
 ⟨h.bl.trans (hb.mono h.bl.size),h.pr,h.gB,blk_keep h.blk hb,own_belowI h.rns hb,fun k hk => blk_keep (h.rnB k hk) hb,h.rnG,h.rnD,own_belowI h.chs hb,fun c hc => (h.qus c hc).below hb,h.qB,own_belowI h.lck hb,own_belowI h.grp hb,own_belowI h.cel hb,own_belowI h.lst hb,own_belowI h.evs hb,fun p hp => ⟨blk_keep (h.gst p hp).1 hb,(h.gst p hp).2⟩,fun p hp => ⟨blk_keep (h.gse p hp).1 hb,(h.gse p hp).2⟩,h.dis⟩
theorem rn_setD (t : St) (k j : Nat) (r : Rn) (hk : k < t.rns.length) : (t.rns.set k r).getD j r0 = if k = j then r else Mc.rn t j:=rn_set t k j r hk
theorem own_blkE {w : World} {B n s b cap n' : Nat} {t : TypeId} {v : Value} {xs : List Value} (h : w.ownsRow B t s v n xs) (he : v = .slice (some ⟨b,0,none⟩) n' cap) : v.ownBlock = some b:=by rw [he];simp [Value.ownBlock]
theorem PM.setRn {o W : World} {g : Nat} {s : Syst} {pa : Option Addr} {pc : Nat} {t : St} {m : PV} (h : PM o W g s pa pc t m) (k : Nat) (hkl : k < t.rns.length) (r : Rn) (jj : Nat) (u : Value) (hr : rpC s m.iv r = (rpC s m.iv (Mc.rn t k)).setIfInBounds jj u) : PM o (W.setCell ⟨m.ps.getD k 0,jj,none⟩ u) g s pa pc { t with rns:=t.rns.set k r } m:=by
 have hB:=h.rnG k hkl
 have hh1:=h.rnB k hkl
 refine ⟨h.bl.setCell (p:=⟨(m.ps.getD k 0),jj,none⟩) hB _,
  h.pr,
  h.gB,
  blk_setN h.blk hh1 (by decide),
  ?_,
  ?_,
  fun j hj => h.rnG j (by simpa using hj),
  fun i j hi hj e => h.rnD i j (by simpa using hi) (by simpa using hj) e,
  own_setN h.chs hh1 (by decide),
  fun d hd => (h.qus d hd).setN hh1 (by decide),
  h.qB,
  own_setN h.lck hh1 (by decide),
  own_setN h.grp hh1 (by decide),
  own_setN h.cel hh1 (by decide),
  own_setN h.lst hh1 (by decide),
  own_setN h.evs hh1 (by decide),
  fun p hp => ⟨blk_setN (h.gst p hp).1 hh1 (by decide),(h.gst p hp).2⟩,
  fun p hp => ⟨blk_setN (h.gse p hp).1 hh1 (by decide),(h.gse p hp).2⟩,
  h.dis⟩
 ·show World.ownsRow _ _ _ _ _ (t.rns.set k r).length _
  rw [List.length_set];exact own_setN h.rns hh1 (by decide)
 ·intro j hj
  have hj' : j < t.rns.length:=by simpa using hj
  show (World.setCell W _ u).heap[m.ps.getD j 0]? = some (.cells (rpC s m.iv ((t.rns.set k r).getD j r0)) _ (0,0))
  rw [rn_setD t k j r hkl];by_cases hkj : k = j
  ·subst hkj
   rw [if_pos rfl,hr];exact blk_set hh1
  ·rw [if_neg hkj,Below.heap_setCell _ _ _ _ (fun e => hkj (h.rnD k j hkl hj' e.symm))]
   exact h.rnB j hj'
theorem map_range_set {α : Type} (f f' : Nat → α) (n c : Nat) (y : α) (hc : f' c = y) (hn : ∀ i,i ≠ c → f' i = f i) : (List.range n).map f' = ((List.range n).map f).set c y:=by
 apply List.ext_getElem?
 intro i
 rw [List.getElem?_set,List.getElem?_map,List.getElem?_map,List.length_map,List.length_range]
 by_cases hi : i < n
 ·rw [List.getElem?_range hi]
  by_cases hci : c = i
  ·subst hci
   rw [if_pos rfl,if_pos hi];simp [hc]
  ·rw [if_neg hci]
   simp [hn i (Ne.symm hci)]
 ·rw [List.getElem?_eq_none (by simpa using hi)]
  by_cases hci : c = i
  ·rw [if_pos hci,if_neg (by omega)];rfl
  ·rw [if_neg hci];rfl
theorem chC_shut (s : Syst) (t : St) (qs : List Value) (c : Nat) (x : Bool) (hc : c < t.held.length) (hl : t.shut.length = t.held.length) : chC s { t with shut:=t.shut.set c x } qs = (chC s t qs).set (c * 3 + 2) (.bool x):=by
 unfold chC
 rw [← flC_set 3 chV ⟨0,.bool false,false⟩ (chL s t qs) c 2 ⟨s.rooms.getD c 0,qn qs c,x⟩ _ (by rw [chL_len];exact hc) (by omega) (fun j hj => ?_)]
 ·congr 1
  refine map_range_set _ _ _ _ _ ?_ (fun i hi => ?_)
  ·show Ch.mk _ _ ((t.shut.set c x).getD c false) = _
   rw [Mc.getD_set_eq _ _ _ (by omega)]
  ·show Ch.mk _ _ ((t.shut.set c x).getD i false) = _
   rw [Mc.getD_set_ne _ _ _ (Ne.symm hi)]
 ·rw [chL_at s t qs c hc]
  match j,hj with
  | 0,_ => rfl
  | 1,_ => rfl
  | 2,_ => rfl
theorem chC_q (s : Syst) (t : St) (qs : List Value) (c : Nat) (l : List Int) (v : Value) (hc : c < t.held.length) (hl : qs.length = t.held.length) : chC s { t with held:=t.held.set c l } (qs.set c v) = (chC s t qs).set (c * 3 + 1) v:=by
 unfold chC
 rw [← flC_set 3 chV ⟨0,.bool false,false⟩ (chL s t qs) c 1 ⟨s.rooms.getD c 0,v,t.shut.getD c false⟩ _ (by rw [chL_len];exact hc) (by omega) (fun j hj => ?_)]
 ·congr 1
  unfold chL;rw [List.length_set];refine map_range_set _ _ _ _ _ ?_ (fun i hi => ?_)
  ·show Ch.mk _ (qn (qs.set c v) c) _ = _
   rw [qn_set _ _ _ _ (by omega),if_pos rfl]
  ·show Ch.mk _ (qn (qs.set c v) i) _ = _
   rw [qn_set _ _ _ _ (by omega),if_neg (Ne.symm hi)]
 ·rw [chL_at s t qs c hc]
  match j,hj with
  | 0,_ => rfl
  | 1,_ => rfl
  | 2,_ => rfl
theorem PM.setSh {o W : World} {g : Nat} {s : Syst} {pa : Option Addr} {pc : Nat} {t : St} {m : PV} (h : PM o W g s pa pc t m) {b cap : Nat} (he : m.hv = .slice (some ⟨b,0,none⟩) t.held.length cap) (c : Nat) (hc : c < t.held.length) (hl : t.shut.length = t.held.length) (x : Bool) : PM o (W.setCell ⟨b,c * 3 + 2,none⟩ (.bool x)) g s pa pc { t with shut:=t.shut.set c x } m:=by
 have hn : 0 < t.held.length:=by omega
 obtain ⟨hB,cur,hh1⟩:=row_is h.chs he hn
 have hrow:=h.chs
 rw [he] at hrow
 refine ⟨h.bl.setCell (p:=⟨b,c * 3 + 2,none⟩) hB _,
  h.pr,
  h.gB,
  blk_setN h.blk hh1 (by decide),
  own_setN h.rns hh1 (by decide),
  fun k hk_ => blk_setN (h.rnB k hk_) hh1 (by decide),
  h.rnG,
  h.rnD,
  ?_,
  fun d hd => (h.qus d hd).setN hh1 (by decide),
  h.qB,
  own_setN h.lck hh1 (by decide),
  own_setN h.grp hh1 (by decide),
  own_setN h.cel hh1 (by decide),
  own_setN h.lst hh1 (by decide),
  own_setN h.evs hh1 (by decide),
  fun p hp => ⟨blk_setN (h.gst p hp).1 hh1 (by decide),(h.gst p hp).2⟩,
  fun p hp => ⟨blk_setN (h.gse p hp).1 hh1 (by decide),(h.gse p hp).2⟩,
  h.dis⟩
 show World.ownsRow _ _ _ _ _ t.held.length (chC s { t with shut:=t.shut.set c x } m.qs)
 rw [chC_shut s t m.qs c x hc hl,he]
 exact (hrow.stored _ _).1
theorem PM.setLk {o W : World} {g : Nat} {s : Syst} {pa : Option Addr} {pc : Nat} {t : St} {m : PV} (h : PM o W g s pa pc t m) {b cap : Nat} (he : m.lv = .slice (some ⟨b,0,none⟩) t.locked.length cap) (hn : 0 < t.locked.length) (jj : Nat) (x : Bool) : PM o (W.setCell ⟨b,jj,none⟩ (.bool x)) g s pa pc { t with locked:=t.locked.set jj x } m:=by
 obtain ⟨hB,cur,hh1⟩:=row_is h.lck he hn
 have hrow:=h.lck
 rw [he] at hrow
 refine ⟨h.bl.setCell (p:=⟨b,jj,none⟩) hB _,
  h.pr,
  h.gB,
  blk_setN h.blk hh1 (by decide),
  own_setN h.rns hh1 (by decide),
  fun k hk_ => blk_setN (h.rnB k hk_) hh1 (by decide),
  h.rnG,
  h.rnD,
  own_setN h.chs hh1 (by decide),
  fun d hd => (h.qus d hd).setN hh1 (by decide),
  h.qB,
  ?_,
  own_setN h.grp hh1 (by decide),
  own_setN h.cel hh1 (by decide),
  own_setN h.lst hh1 (by decide),
  own_setN h.evs hh1 (by decide),
  fun p hp => ⟨blk_setN (h.gst p hp).1 hh1 (by decide),(h.gst p hp).2⟩,
  fun p hp => ⟨blk_setN (h.gse p hp).1 hh1 (by decide),(h.gse p hp).2⟩,
  h.dis⟩
 show World.ownsRow _ _ _ _ _ (t.locked.set jj x).length _
 rw [List.length_set,he,List.map_set]
 exact (hrow.stored jj _).1
theorem PM.setGr {o W : World} {g : Nat} {s : Syst} {pa : Option Addr} {pc : Nat} {t : St} {m : PV} (h : PM o W g s pa pc t m) {b cap : Nat} (he : m.gv = .slice (some ⟨b,0,none⟩) t.groups.length cap) (hn : 0 < t.groups.length) (jj : Nat) (x : Int) : PM o (W.setCell ⟨b,jj,none⟩ (.int .i64 x)) g s pa pc { t with groups:=t.groups.set jj x } m:=by
 obtain ⟨hB,cur,hh1⟩:=row_is h.grp he hn
 have hrow:=h.grp
 rw [he] at hrow
 have hpx : obk m 0 = some b:=own_blkE h.grp he
 refine ⟨h.bl.setCell (p:=⟨b,jj,none⟩) hB _,
  h.pr,
  h.gB,
  blk_setN h.blk hh1 (by decide),
  own_setN h.rns hh1 (by decide),
  fun k hk_ => blk_setN (h.rnB k hk_) hh1 (by decide),
  h.rnG,
  h.rnD,
  own_setN h.chs hh1 (by decide),
  fun d hd => (h.qus d hd).setB (fun e => absurd (h.dis (d + 4) 0 _ e hpx) (by omega)),
  h.qB,
  own_setN h.lck hh1 (by decide),
  ?_,
  own_setB h.cel (fun e => absurd (h.dis 1 0 _ e hpx) (by omega)),
  own_setB h.lst (fun e => absurd (h.dis 2 0 _ e hpx) (by omega)),
  own_setN h.evs hh1 (by decide),
  fun p hp => ⟨(by rw [Below.heap_setCell _ _ _ _ (fun e => absurd (h.dis 3 0 _ hp (by rw [e];exact hpx)) (by omega))];exact (h.gst p hp).1),(h.gst p hp).2⟩,
  fun p hp => ⟨blk_setN (h.gse p hp).1 hh1 (by decide),(h.gse p hp).2⟩,
  h.dis⟩
 show World.ownsRow _ _ _ _ _ (t.groups.set jj x).length _
 rw [List.length_set,he,List.map_set]
 exact (hrow.stored jj _).1
theorem PM.setCe {o W : World} {g : Nat} {s : Syst} {pa : Option Addr} {pc : Nat} {t : St} {m : PV} (h : PM o W g s pa pc t m) {b cap : Nat} (he : m.cv = .slice (some ⟨b,0,none⟩) t.cells.length cap) (hn : 0 < t.cells.length) (jj : Nat) (x : Int) : PM o (W.setCell ⟨b,jj,none⟩ (.int .i64 x)) g s pa pc { t with cells:=t.cells.set jj x } m:=by
 obtain ⟨hB,cur,hh1⟩:=row_is h.cel he hn
 have hrow:=h.cel
 rw [he] at hrow
 have hpx : obk m 1 = some b:=own_blkE h.cel he
 refine ⟨h.bl.setCell (p:=⟨b,jj,none⟩) hB _,
  h.pr,
  h.gB,
  blk_setN h.blk hh1 (by decide),
  own_setN h.rns hh1 (by decide),
  fun k hk_ => blk_setN (h.rnB k hk_) hh1 (by decide),
  h.rnG,
  h.rnD,
  own_setN h.chs hh1 (by decide),
  fun d hd => (h.qus d hd).setB (fun e => absurd (h.dis (d + 4) 1 _ e hpx) (by omega)),
  h.qB,
  own_setN h.lck hh1 (by decide),
  own_setB h.grp (fun e => absurd (h.dis 0 1 _ e hpx) (by omega)),
  ?_,
  own_setB h.lst (fun e => absurd (h.dis 2 1 _ e hpx) (by omega)),
  own_setN h.evs hh1 (by decide),
  fun p hp => ⟨(by rw [Below.heap_setCell _ _ _ _ (fun e => absurd (h.dis 3 1 _ hp (by rw [e];exact hpx)) (by omega))];exact (h.gst p hp).1),(h.gst p hp).2⟩,
  fun p hp => ⟨blk_setN (h.gse p hp).1 hh1 (by decide),(h.gse p hp).2⟩,
  h.dis⟩
 show World.ownsRow _ _ _ _ _ (t.cells.set jj x).length _
 rw [List.length_set,he,List.map_set]
 exact (hrow.stored jj _).1
theorem PM.setEv {o W : World} {g : Nat} {s : Syst} {pa : Option Addr} {pc : Nat} {t : St} {m : PV} (h : PM o W g s pa pc t m) {b cap : Nat} (he : m.ev = .slice (some ⟨b,0,none⟩) t.evs.length cap) (hn : 0 < t.evs.length) (l : List Ev) (jj : Nat) (u : Value) (hl : l.length = t.evs.length) (hr : evC l = (evC t.evs).set jj u) : PM o (W.setCell ⟨b,jj,none⟩ u) g s pa pc { t with evs:=l } m:=by
 obtain ⟨hB,cur,hh1⟩:=row_is h.evs he hn
 have hrow:=h.evs
 rw [he] at hrow
 refine ⟨h.bl.setCell (p:=⟨b,jj,none⟩) hB _,
  h.pr,
  h.gB,
  blk_setN h.blk hh1 (by decide),
  own_setN h.rns hh1 (by decide),
  fun k hk_ => blk_setN (h.rnB k hk_) hh1 (by decide),
  h.rnG,
  h.rnD,
  own_setN h.chs hh1 (by decide),
  fun d hd => (h.qus d hd).setN hh1 (by decide),
  h.qB,
  own_setN h.lck hh1 (by decide),
  own_setN h.grp hh1 (by decide),
  own_setN h.cel hh1 (by decide),
  own_setN h.lst hh1 (by decide),
  ?_,
  fun p hp => ⟨blk_setN (h.gst p hp).1 hh1 (by decide),(h.gst p hp).2⟩,
  fun p hp => ⟨blk_setN (h.gse p hp).1 hh1 (by decide),(h.gse p hp).2⟩,
  h.dis⟩
 show World.ownsRow _ _ _ _ _ l.length _
 rw [hl,hr,he]
 exact (hrow.stored jj _).1
theorem PM.setG {o W : World} {g : Nat} {s : Syst} {pa : Option Addr} {pc : Nat} {t : St} {m : PV} (h : PM o W g s pa pc t m) {p : Nat} (hp0 : m.gb = some p) (x : Int) : PM o (W.setCell ⟨p,0,none⟩ (.int .i64 x)) g s pa pc t { m with gx:=x }:=by
 obtain ⟨hh1,hB⟩:=h.gst p hp0
 have hpx : obk m 3 = some p:=hp0
 refine ⟨h.bl.setCell (p:=⟨p,0,none⟩) hB _,
  h.pr,
  h.gB,
  blk_setN h.blk hh1 (by decide),
  own_setN h.rns hh1 (by decide),
  fun k hk_ => blk_setN (h.rnB k hk_) hh1 (by decide),
  h.rnG,
  h.rnD,
  own_setN h.chs hh1 (by decide),
  fun d hd => (h.qus d hd).setB (fun e => absurd (h.dis (d + 4) 3 _ e hpx) (by omega)),
  h.qB,
  own_setN h.lck hh1 (by decide),
  own_setB h.grp (fun e => absurd (h.dis 0 3 _ e hpx) (by omega)),
  own_setB h.cel (fun e => absurd (h.dis 1 3 _ e hpx) (by omega)),
  own_setB h.lst (fun e => absurd (h.dis 2 3 _ e hpx) (by omega)),
  own_setN h.evs hh1 (by decide),
  ?_,
  fun p hp => ⟨blk_setN (h.gse p hp).1 hh1 (by decide),(h.gse p hp).2⟩,
  h.dis⟩
 intro q hq
 have e : p = q:=by
  have : m.gb = some q:=hq
  rw [hp0] at this;simpa using this
 subst e
 exact ⟨blk_set (i:=0) (u:=.int .i64 x) hh1,hB⟩
theorem PM.setE {o W : World} {g : Nat} {s : Syst} {pa : Option Addr} {pc : Nat} {t : St} {m : PV} (h : PM o W g s pa pc t m) {p : Nat} (hp0 : m.ge = some p) (x : Int) : PM o (W.setCell ⟨p,0,none⟩ (.int .i64 x)) g s pa pc t { m with gy:=x }:=by
 obtain ⟨hh1,hB⟩:=h.gse p hp0
 refine ⟨h.bl.setCell (p:=⟨p,0,none⟩) hB _,
  h.pr,
  h.gB,
  blk_setN h.blk hh1 (by decide),
  own_setN h.rns hh1 (by decide),
  fun k hk_ => blk_setN (h.rnB k hk_) hh1 (by decide),
  h.rnG,
  h.rnD,
  own_setN h.chs hh1 (by decide),
  fun d hd => (h.qus d hd).setN hh1 (by decide),
  h.qB,
  own_setN h.lck hh1 (by decide),
  own_setN h.grp hh1 (by decide),
  own_setN h.cel hh1 (by decide),
  own_setN h.lst hh1 (by decide),
  own_setN h.evs hh1 (by decide),
  fun p hp => ⟨blk_setN (h.gst p hp).1 hh1 (by decide),(h.gst p hp).2⟩,
  ?_,
  h.dis⟩
 intro q hq
 have e : p = q:=by
  have : m.ge = some q:=hq
  rw [hp0] at this;simpa using this
 subst e
 exact ⟨blk_set (i:=0) (u:=.int .i64 x) hh1,hB⟩
end LW
end Go.Proofs.Ytfbnakmmmphedaa
namespace Go.Proofs.Ytfbnakmmmphedaa
open List renaming getD_eq_getElem?_getD → gDQ
open Go.RowKit
namespace LW
open Mc
theorem PM.obI {o W : World} {g : Nat} {s : Syst} {pa : Option Addr} {pc : Nat} {t : St} {m : PV} (h : PM o W g s pa pc t m) : ∀ i b,obk m i = some b → b < W.heap.size
 | 0,b,hb => own_lt h.grp b hb
 | 1,b,hb => own_lt h.cel b hb
 | 2,b,hb => own_lt h.lst b hb
 | 3,b,hb => blk_lt (h.gst b hb).1
 | c + 4,b,hb => by
  change (qn m.qs c).ownBlock = some b at hb
  by_cases hc : c < t.held.length
  ·exact (h.qus c hc).lt b hb
  ·unfold qn at hb
   rw [gDQ,List.getElem?_eq_none (by have:=h.qB.1;omega)] at hb
   simp [Value.ownBlock] at hb
theorem PM.setNv {o W : World} {g : Nat} {s : Syst} {pa : Option Addr} {pc : Nat} {t : St} {m : PV} {W1 : World} (h : PM o W g s pa pc t m) (l : List Nat) (v : Value) (ho : W1.ownsRow o.heap.size 3 1 v l.length (natV l)) (hk : ∀ b,b < W.heap.size → m.nv.ownBlock ≠ some b → W1.heap[b]? = W.heap[b]?) (hv : v.ownBlock = m.nv.ownBlock ∨ ∃ b,v.ownBlock = some b ∧ W.heap.size ≤ b) (hbl : Below o.heap.size o W1) : PM o (W1.setCell ⟨g,7,none⟩ v) g s pa pc t { m with nv:=v,nn:=l }:=by
 have hh1 : W1.heap[g]? = some (.cells (mpC s pa pc m) 55 (0,0)):=by rw [hk g (blk_lt h.blk) (own_neB h.lst h.blk (by decide))];exact h.blk
 refine ⟨hbl.setCell (p:=⟨g,7,none⟩) h.gB _,
  h.pr,
  h.gB,
  ?_,
  own_setN (own_keepK h.rns (fun b hb => hk b (own_lt h.rns b hb) (own_neT h.rns h.lst (by decide) b hb))) hh1 (by decide),
  fun k hk_ => blk_setN (by rw [hk _ (blk_lt (h.rnB k hk_)) (own_neB h.lst (h.rnB k hk_) (by decide))];exact (h.rnB k hk_)) hh1 (by decide),
  h.rnG,
  h.rnD,
  own_setN (own_keepK h.chs (fun b hb => hk b (own_lt h.chs b hb) (own_neT h.chs h.lst (by decide) b hb))) hh1 (by decide),
  fun d hd => ((h.qus d hd).keep (fun b hb => hk b ((h.qus d hd).lt b hb) (fun e => absurd (h.dis (d + 4) 2 b hb e) (by omega)))).setN hh1 (by decide),
  h.qB,
  own_setN (own_keepK h.lck (fun b hb => hk b (own_lt h.lck b hb) (own_neT h.lck h.lst (by decide) b hb))) hh1 (by decide),
  own_setN (own_keepK h.grp (fun b hb => hk b (own_lt h.grp b hb) (fun e => absurd (h.dis 0 2 b hb e) (by omega)))) hh1 (by decide),
  own_setN (own_keepK h.cel (fun b hb => hk b (own_lt h.cel b hb) (fun e => absurd (h.dis 1 2 b hb e) (by omega)))) hh1 (by decide),
  own_setN ho hh1 (by decide),
  own_setN (own_keepK h.evs (fun b hb => hk b (own_lt h.evs b hb) (own_neT h.evs h.lst (by decide) b hb))) hh1 (by decide),
  fun p hp => ⟨blk_setN (by rw [hk _ (blk_lt (h.gst p hp).1) (fun e => absurd (h.dis 3 2 _ hp e) (by omega))];exact (h.gst p hp).1) hh1 (by decide),(h.gst p hp).2⟩,
  fun p hp => ⟨blk_setN (by rw [hk _ (blk_lt (h.gse p hp).1) (own_neB h.lst (h.gse p hp).1 (by decide))];exact (h.gse p hp).1) hh1 (by decide),(h.gse p hp).2⟩,
  ?_⟩
 ·exact blk_set (i:=7) (u:=v) hh1
 ·have key : ∀ i b,obk { m with nv:=v,nn:=l } i = some b → (i ≠ 2 ∧ obk m i = some b) ∨ (i = 2 ∧ (obk m 2 = some b ∨ W.heap.size ≤ b)):=by
   intro i b hb
   match i,hb with
   | 0,hb => exact .inl ⟨by decide,hb⟩
   | 1,hb => exact .inl ⟨by decide,hb⟩
   | 2,hb =>
    refine .inr ⟨rfl,?_⟩
    change v.ownBlock = some b at hb
    rcases hv with hv | ⟨b',hv,hv2⟩
    ·left;rw [hv] at hb;exact hb
    ·right
     rw [hv] at hb;have : b' = b:=by simpa using hb
     omega
   | 3,hb => exact .inl ⟨by decide,hb⟩
   | c + 4,hb => exact .inl ⟨by omega,hb⟩
  intro i j b hi hj
  rcases key i b hi with ⟨hi1,hi2⟩ | ⟨hi1,hi2⟩ <;> rcases key j b hj with ⟨hj1,hj2⟩ | ⟨hj1,hj2⟩
  ·exact h.dis i j b hi2 hj2
  ·rcases hj2 with hj2 | hj2
   ·rw [hj1];exact h.dis i 2 b hi2 hj2
   ·have:=h.obI i b hi2;omega
  ·rcases hi2 with hi2 | hi2
   ·rw [hi1];exact h.dis 2 j b hi2 hj2
   ·have:=h.obI j b hj2;omega
  ·rw [hi1,hj1]
theorem PM.putQ {o W : World} {g : Nat} {s : Syst} {pa : Option Addr} {pc : Nat} {t : St} {m : PV} {W1 : World} (h : PM o W g s pa pc t m) {hb cap : Nat} (he : m.hv = .slice (some ⟨hb,0,none⟩) t.held.length cap) (c : Nat) (hc : c < t.held.length) (l : List Int) (v : Value) (hq : Qu W1 v l) (hk : ∀ b,b < W.heap.size → (qn m.qs c).ownBlock ≠ some b → W1.heap[b]? = W.heap[b]?) (hv : v.ownBlock = (qn m.qs c).ownBlock ∨ ∃ b,v.ownBlock = some b ∧ W.heap.size ≤ b) (hbl : Below o.heap.size o W1) : PM o (W1.setCell ⟨hb,c * 3 + 1,none⟩ v) g s pa pc { t with held:=t.held.set c l } { m with qs:=m.qs.set c v }:=by
 have hQ:=h.qus c hc
 have hql:=h.qB.1
 obtain ⟨hB,cur,hh⟩:=row_is h.chs he (by omega)
 have hh1 : W1.heap[hb]? = some (.cells cur 71 (0,0)):=by rw [hk hb (blk_lt hh) (Qu.nB hQ hh (by decide))];exact hh
 refine ⟨hbl.setCell (p:=⟨hb,c * 3 + 1,none⟩) hB _,
  h.pr,
  h.gB,
  blk_setN (by rw [hk _ (blk_lt h.blk) (Qu.nB hQ h.blk (by decide))];exact h.blk) hh1 (by decide),
  own_setN (own_keepK h.rns (fun b hb => hk b (own_lt h.rns b hb) (fun e => hQ.neT h.rns (by decide) b e hb))) hh1 (by decide),
  fun k hk_ => blk_setN (by rw [hk _ (blk_lt (h.rnB k hk_)) (Qu.nB hQ (h.rnB k hk_) (by decide))];exact (h.rnB k hk_)) hh1 (by decide),
  h.rnG,
  h.rnD,
  ?_,
  ?_,
  ?_,
  own_setN (own_keepK h.lck (fun b hb => hk b (own_lt h.lck b hb) (fun e => hQ.neT h.lck (by decide) b e hb))) hh1 (by decide),
  own_setN (own_keepK h.grp (fun b hb => hk b (own_lt h.grp b hb) (fun e => absurd (h.dis 0 (c + 4) b hb e) (by omega)))) hh1 (by decide),
  own_setN (own_keepK h.cel (fun b hb => hk b (own_lt h.cel b hb) (fun e => absurd (h.dis 1 (c + 4) b hb e) (by omega)))) hh1 (by decide),
  own_setN (own_keepK h.lst (fun b hb => hk b (own_lt h.lst b hb) (fun e => absurd (h.dis 2 (c + 4) b hb e) (by omega)))) hh1 (by decide),
  own_setN (own_keepK h.evs (fun b hb => hk b (own_lt h.evs b hb) (fun e => hQ.neT h.evs (by decide) b e hb))) hh1 (by decide),
  fun p hp => ⟨blk_setN (by rw [hk _ (blk_lt (h.gst p hp).1) (fun e => absurd (h.dis 3 (c + 4) _ hp e) (by omega))];exact (h.gst p hp).1) hh1 (by decide),(h.gst p hp).2⟩,
  fun p hp => ⟨blk_setN (by rw [hk _ (blk_lt (h.gse p hp).1) (Qu.nB hQ (h.gse p hp).1 (by decide))];exact (h.gse p hp).1) hh1 (by decide),(h.gse p hp).2⟩,
  ?_⟩
 ·show World.ownsRow _ _ _ _ _ (t.held.set c l).length (chC s { t with held:=t.held.set c l } (m.qs.set c v))
  have h1:=own_keepK (w':=W1) h.chs (fun b hb => hk b (own_lt h.chs b hb) (fun e => hQ.neT h.chs (by decide) b e hb))
  rw [chC_q s t m.qs c l v hc hql,List.length_set];show World.ownsRow _ _ _ _ m.hv _ _
  rw [he] at h1 ⊢;exact (h1.stored _ v).1
 ·intro d hd
  have hd' : d < t.held.length:=by simpa using hd
  show Qu _ (qn (m.qs.set c v) d) ((t.held.set c l).getD d [])
  rw [qn_set _ _ _ _ (by omega)]
  by_cases hcd : c = d
  ·subst hcd
   rw [if_pos rfl,Mc.getD_set_eq _ _ _ hc];exact hq.setN hh1 (by decide)
  ·rw [if_neg hcd,Mc.getD_set_ne _ _ _ hcd]
   exact ((h.qus d hd').keep (fun b hb => hk b ((h.qus d hd').lt b hb) (fun e => absurd (h.dis (d + 4) (c + 4) b hb e) (by omega)))).setN hh1 (by decide)
 ·refine ⟨by simpa using hql,fun d b hd => ?_⟩
  change (qn (m.qs.set c v) d).ownBlock = some b at hd
  rw [qn_set _ _ _ _ (by omega)] at hd
  split at hd
  ·rcases hv with h3 | ⟨b',h3,h4⟩
   ·rw [h3] at hd;exact h.qB.2 c b hd
   ·rw [h3] at hd
    have : b' = b:=by simpa using hd
    have:=h.bl.size
    omega
  ·exact h.qB.2 d b hd
 ·have key : ∀ i b,obk { m with qs:=m.qs.set c v } i = some b → (i ≠ c + 4 ∧ obk m i = some b) ∨ (i = c + 4 ∧ (obk m (c + 4) = some b ∨ W.heap.size ≤ b)):=by
   intro i b hb
   match i,hb with
   | 0,hb => exact .inl ⟨by omega,hb⟩
   | 1,hb => exact .inl ⟨by omega,hb⟩
   | 2,hb => exact .inl ⟨by omega,hb⟩
   | 3,hb => exact .inl ⟨by omega,hb⟩
   | d + 4,hb =>
    change (qn (m.qs.set c v) d).ownBlock = some b at hb
    rw [qn_set _ _ _ _ (by omega)] at hb
    by_cases hcd : c = d
    ·rw [if_pos hcd] at hb
     refine .inr ⟨by omega,?_⟩
     rcases hv with hv | ⟨b',hv,hv2⟩
     ·left;rw [hv] at hb;exact hb
     ·right
      rw [hv] at hb;have : b' = b:=by simpa using hb
      omega
    ·rw [if_neg hcd] at hb
     exact .inl ⟨by omega,hb⟩
  intro i j b hi hj
  rcases key i b hi with ⟨hi1,hi2⟩ | ⟨hi1,hi2⟩ <;> rcases key j b hj with ⟨hj1,hj2⟩ | ⟨hj1,hj2⟩
  ·exact h.dis i j b hi2 hj2
  ·rcases hj2 with hj2 | hj2
   ·rw [hj1];exact h.dis i (c + 4) b hi2 hj2
   ·have:=h.obI i b hi2;omega
  ·rcases hi2 with hi2 | hi2
   ·rw [hi1];exact h.dis (c + 4) j b hi2 hj2
   ·have:=h.obI j b hj2;omega
  ·rw [hi1,hj1]
theorem PM.addEv {o W : World} {g : Nat} {s : Syst} {pa : Option Addr} {pc : Nat} {t : St} {m : PV} {W1 : World} (h : PM o W g s pa pc t m) (e : Ev) (v : Value) (ho : W1.ownsRow o.heap.size 39 5 v (t.evs.length + 1) (evC t.evs ++ evC [e])) (hk : ∀ b,b < W.heap.size → m.ev.ownBlock ≠ some b → W1.heap[b]? = W.heap[b]?) (hbl : Below o.heap.size o W1) : PM o (W1.setCell ⟨g,6,none⟩ v) g s pa pc { t with evs:=t.evs ++ [e] } { m with ev:=v }:=by
 have hh1 : W1.heap[g]? = some (.cells (mpC s pa pc m) 55 (0,0)):=by rw [hk g (blk_lt h.blk) (own_neB h.evs h.blk (by decide))];exact h.blk
 refine ⟨hbl.setCell (p:=⟨g,6,none⟩) h.gB _,
  h.pr,
  h.gB,
  ?_,
  own_setN (own_keepK h.rns (fun b hb => hk b (own_lt h.rns b hb) (own_neT h.rns h.evs (by decide) b hb))) hh1 (by decide),
  fun k hk_ => blk_setN (by rw [hk _ (blk_lt (h.rnB k hk_)) (own_neB h.evs (h.rnB k hk_) (by decide))];exact (h.rnB k hk_)) hh1 (by decide),
  h.rnG,
  h.rnD,
  own_setN (own_keepK h.chs (fun b hb => hk b (own_lt h.chs b hb) (own_neT h.chs h.evs (by decide) b hb))) hh1 (by decide),
  fun d hd => ((h.qus d hd).keep (fun b hb => hk b ((h.qus d hd).lt b hb) ((h.qus d hd).neT h.evs (by decide) b hb))).setN hh1 (by decide),
  h.qB,
  own_setN (own_keepK h.lck (fun b hb => hk b (own_lt h.lck b hb) (own_neT h.lck h.evs (by decide) b hb))) hh1 (by decide),
  own_setN (own_keepK h.grp (fun b hb => hk b (own_lt h.grp b hb) (own_neT h.grp h.evs (by decide) b hb))) hh1 (by decide),
  own_setN (own_keepK h.cel (fun b hb => hk b (own_lt h.cel b hb) (own_neT h.cel h.evs (by decide) b hb))) hh1 (by decide),
  own_setN (own_keepK h.lst (fun b hb => hk b (own_lt h.lst b hb) (own_neT h.lst h.evs (by decide) b hb))) hh1 (by decide),
  ?_,
  fun p hp => ⟨blk_setN (by rw [hk _ (blk_lt (h.gst p hp).1) (own_neB h.evs (h.gst p hp).1 (by decide))];exact (h.gst p hp).1) hh1 (by decide),(h.gst p hp).2⟩,
  fun p hp => ⟨blk_setN (by rw [hk _ (blk_lt (h.gse p hp).1) (own_neB h.evs (h.gse p hp).1 (by decide))];exact (h.gse p hp).1) hh1 (by decide),(h.gse p hp).2⟩,
  h.dis⟩
 ·exact blk_set (i:=6) (u:=v) hh1
 ·show World.ownsRow _ _ _ _ _ (t.evs ++ [e]).length (evC (t.evs ++ [e]))
  rw [List.length_append,evC,flC_append];exact own_setN ho hh1 (by decide)
theorem PM.addRn {o W : World} {g : Nat} {s : Syst} {pa : Option Addr} {pc : Nat} {t : St} {m : PV} {W1 : World} (h : PM o W g s pa pc t m) (r : Rn) (pb : Nat) (v : Value) (ho : W1.ownsRow o.heap.size 72 1 v (t.rns.length + 1) (m.ps.map ptr ++ [ptr pb])) (hk : ∀ b,b < W.heap.size → m.rv.ownBlock ≠ some b → W1.heap[b]? = W.heap[b]?) (hbl : Below o.heap.size o W1) (hpb : W1.heap[pb]? = some (.cells (rpC s m.iv r) 75 (0,0))) (hpl : ∀ k,k < t.rns.length → m.ps.getD k 0 ≠ pb) (hpo : o.heap.size ≤ pb) : PM o (W1.setCell ⟨g,1,none⟩ v) g s pa pc { t with rns:=t.rns ++ [r] } { m with rv:=v,ps:=m.ps ++ [pb] }:=by
 have hh1 : W1.heap[g]? = some (.cells (mpC s pa pc m) 55 (0,0)):=by rw [hk g (blk_lt h.blk) (own_neB h.rns h.blk (by decide))];exact h.blk
 have hpl2 : m.ps.length = t.rns.length:=by have:=h.rns.1;simpa using this
 have hD : ∀ k,k < t.rns.length + 1 → (k < t.rns.length ∧ (m.ps ++ [pb]).getD k 0 = m.ps.getD k 0) ∨ (k = t.rns.length ∧ (m.ps ++ [pb]).getD k 0 = pb):=fun k hk => by
  rcases Nat.lt_or_ge k t.rns.length with hlt | hge
  ·exact .inl ⟨hlt,by rw [gDQ,List.getElem?_append_left (by omega),← gDQ]⟩
  ·have : k = m.ps.length:=by omega
   exact .inr ⟨by omega,by rw [this];simp [gDQ]⟩
 refine ⟨hbl.setCell (p:=⟨g,1,none⟩) h.gB _,
  h.pr,
  h.gB,
  ?_,
  ?_,
  ?_,
  ?_,
  ?_,
  own_setN (own_keepK h.chs (fun b hb => hk b (own_lt h.chs b hb) (own_neT h.chs h.rns (by decide) b hb))) hh1 (by decide),
  fun d hd => ((h.qus d hd).keep (fun b hb => hk b ((h.qus d hd).lt b hb) ((h.qus d hd).neT h.rns (by decide) b hb))).setN hh1 (by decide),
  h.qB,
  own_setN (own_keepK h.lck (fun b hb => hk b (own_lt h.lck b hb) (own_neT h.lck h.rns (by decide) b hb))) hh1 (by decide),
  own_setN (own_keepK h.grp (fun b hb => hk b (own_lt h.grp b hb) (own_neT h.grp h.rns (by decide) b hb))) hh1 (by decide),
  own_setN (own_keepK h.cel (fun b hb => hk b (own_lt h.cel b hb) (own_neT h.cel h.rns (by decide) b hb))) hh1 (by decide),
  own_setN (own_keepK h.lst (fun b hb => hk b (own_lt h.lst b hb) (own_neT h.lst h.rns (by decide) b hb))) hh1 (by decide),
  own_setN (own_keepK h.evs (fun b hb => hk b (own_lt h.evs b hb) (own_neT h.evs h.rns (by decide) b hb))) hh1 (by decide),
  fun p hp => ⟨blk_setN (by rw [hk _ (blk_lt (h.gst p hp).1) (own_neB h.rns (h.gst p hp).1 (by decide))];exact (h.gst p hp).1) hh1 (by decide),(h.gst p hp).2⟩,
  fun p hp => ⟨blk_setN (by rw [hk _ (blk_lt (h.gse p hp).1) (own_neB h.rns (h.gse p hp).1 (by decide))];exact (h.gse p hp).1) hh1 (by decide),(h.gse p hp).2⟩,
  h.dis⟩
 ·exact blk_set (i:=1) (u:=v) hh1
 ·show World.ownsRow _ _ _ _ _ (t.rns ++ [r]).length ((m.ps ++ [pb]).map ptr)
  rw [List.length_append,List.map_append];exact own_setN ho hh1 (by decide)
 ·intro k hk_
  have hk2 : k < t.rns.length + 1:=by simpa using hk_
  show (World.setCell W1 _ v).heap[(m.ps ++ [pb]).getD k 0]? = some (.cells (rpC s m.iv ((t.rns ++ [r]).getD k r0)) _ (0,0))
  rcases hD k hk2 with ⟨h1,h2⟩ | ⟨h1,h2⟩
  ·rw [h2,show (t.rns ++ [r]).getD k r0 = Mc.rn t k by rw [Mc.rn,gDQ,List.getElem?_append_left h1,← gDQ]]
   exact blk_setN (by rw [hk _ (blk_lt (h.rnB k h1)) (own_neB h.rns (h.rnB k h1) (by decide))];exact h.rnB k h1) hh1 (by decide)
  ·rw [h2,show (t.rns ++ [r]).getD k r0 = r by rw [h1];simp [gDQ]]
   exact blk_setN hpb hh1 (by decide)
 ·intro k hk_
  have hk2 : k < t.rns.length + 1:=by simpa using hk_
  show o.heap.size ≤ (m.ps ++ [pb]).getD k 0
  rcases hD k hk2 with ⟨h1,h2⟩ | ⟨h1,h2⟩
  ·rw [h2];exact h.rnG k h1
  ·rw [h2];exact hpo
 ·intro j k hj_ hk_ e
  have hj2 : j < t.rns.length + 1:=by simpa using hj_
  have hk2 : k < t.rns.length + 1:=by simpa using hk_
  change (m.ps ++ [pb]).getD j 0 = (m.ps ++ [pb]).getD k 0 at e
  rcases hD j hj2 with ⟨h1,h2⟩ | ⟨h1,h2⟩ <;> rcases hD k hk2 with ⟨h3,h4⟩ | ⟨h3,h4⟩ <;> rw [h2,h4] at e
  ·exact h.rnD j k h1 h3 e
  ·exact absurd e (hpl j h1)
  ·exact absurd e.symm (hpl k h3)
  ·omega
section
variable {o W : World} {g : Nat} {s : Syst} {pa : Option Addr} {pc : Nat} {t : St} {m : PV}
theorem PM.c1 (h : PM o W g s pa pc t m) : W.cell? ⟨g,1,none⟩ = some m.rv:=blk_cell h.blk rfl
theorem PM.c2 (h : PM o W g s pa pc t m) : W.cell? ⟨g,2,none⟩ = some m.hv:=blk_cell h.blk rfl
theorem PM.c3 (h : PM o W g s pa pc t m) : W.cell? ⟨g,3,none⟩ = some m.gv:=blk_cell h.blk rfl
theorem PM.c4 (h : PM o W g s pa pc t m) : W.cell? ⟨g,4,none⟩ = some m.lv:=blk_cell h.blk rfl
theorem PM.c5 (h : PM o W g s pa pc t m) : W.cell? ⟨g,5,none⟩ = some m.cv:=blk_cell h.blk rfl
theorem PM.c6 (h : PM o W g s pa pc t m) : W.cell? ⟨g,6,none⟩ = some m.ev:=blk_cell h.blk rfl
theorem PM.c7 (h : PM o W g s pa pc t m) : W.cell? ⟨g,7,none⟩ = some m.nv:=blk_cell h.blk rfl
theorem PM.c0 (h : PM o W g s pa pc t m) : W.cell? ⟨g,0,none⟩ = some (.slice pa s.progs.length pc):=blk_cell h.blk rfl
theorem PM.fz (h : PM o W g s pa pc t m) (j : Nat) : W.frozen? ⟨g,j,none⟩ = false:=by simp [World.frozen?,h.blk]
theorem PM.lk1 (h : PM o W g s pa pc t m) (c : Nat) (hc : c < t.locked.length) : ∃ b cap,m.lv = .slice (some ⟨b,0,none⟩) t.locked.length cap ∧ o.heap.size ≤ b ∧ W.frozen? ⟨b,c,none⟩ = false ∧ W.cell? ⟨b,c,none⟩ = some (.bool (t.locked.getD c false)):=by
 obtain ⟨b,cap,e,hB,_,hf,hr⟩:=own_rd h.lck (by omega)
 exact ⟨b,cap,e,hB,hf c,hr c _ (by rw [List.getElem?_map,gDQ,List.getElem?_eq_getElem hc];rfl)⟩
theorem PM.gr1 (h : PM o W g s pa pc t m) (c : Nat) (hc : c < t.groups.length) : ∃ b cap,m.gv = .slice (some ⟨b,0,none⟩) t.groups.length cap ∧ o.heap.size ≤ b ∧ W.frozen? ⟨b,c,none⟩ = false ∧ W.cell? ⟨b,c,none⟩ = some (.int .i64 (t.groups.getD c 0)):=by
 obtain ⟨b,cap,e,hB,_,hf,hr⟩:=own_rd h.grp (by omega)
 exact ⟨b,cap,e,hB,hf c,hr c _ (by rw [List.getElem?_map,gDQ,List.getElem?_eq_getElem hc];rfl)⟩
theorem PM.ce1 (h : PM o W g s pa pc t m) (c : Nat) (hc : c < t.cells.length) : ∃ b cap,m.cv = .slice (some ⟨b,0,none⟩) t.cells.length cap ∧ o.heap.size ≤ b ∧ W.frozen? ⟨b,c,none⟩ = false ∧ W.cell? ⟨b,c,none⟩ = some (.int .i64 (t.cells.getD c 0)):=by
 obtain ⟨b,cap,e,hB,_,hf,hr⟩:=own_rd h.cel (by omega)
 exact ⟨b,cap,e,hB,hf c,hr c _ (by rw [List.getElem?_map,gDQ,List.getElem?_eq_getElem hc];rfl)⟩
theorem PM.ch1 (h : PM o W g s pa pc t m) (c : Nat) (hc : c < t.held.length) : ∃ b cap,m.hv = .slice (some ⟨b,0,none⟩) t.held.length cap ∧ o.heap.size ≤ b ∧ (∀ i,W.frozen? ⟨b,i,none⟩ = false) ∧ W.cell? ⟨b,c * 3,none⟩ = some (.int .i64 (s.rooms.getD c 0)) ∧ W.cell? ⟨b,c * 3 + 1,none⟩ = some (qn m.qs c) ∧ W.cell? ⟨b,c * 3 + 2,none⟩ = some (.bool (t.shut.getD c false)):=by
 obtain ⟨b,cap,e,hB,_,hf,hr⟩:=own_rd h.chs (by omega)
 have hg : ∀ j,j < 3 → (chC s t m.qs)[c * 3 + j]? = some (chV ⟨s.rooms.getD c 0,qn m.qs c,t.shut.getD c false⟩ j):=fun j hj => by
  have:=flC_get 3 chV ⟨0,.bool false,false⟩ (chL s t m.qs) c j (by rw [chL_len];exact hc) hj
  rw [chL_at s t m.qs c hc] at this;exact this
 exact ⟨b,cap,e,hB,hf,hr _ _ (hg 0 (by omega)),hr _ _ (hg 1 (by omega)),hr _ _ (hg 2 (by omega))⟩
theorem PM.rn1 (h : PM o W g s pa pc t m) (k : Nat) (hk : k < t.rns.length) : ∃ b cap,m.rv = .slice (some ⟨b,0,none⟩) t.rns.length cap ∧ o.heap.size ≤ b ∧ W.cell? ⟨b,k,none⟩ = some (.pointer (some ⟨m.ps.getD k 0,0,none⟩)):=by
 obtain ⟨b,cap,e,hB,_,hf,hr⟩:=own_rd h.rns (by omega)
 have hpl2 : m.ps.length = t.rns.length:=by have:=h.rns.1;simpa using this
 exact ⟨b,cap,e,hB,hr k _ (by rw [List.getElem?_map,gDQ,List.getElem?_eq_getElem (by omega)];rfl)⟩
theorem PM.reg1 (h : PM o W g s pa pc t m) (k : Nat) (hk : k < t.rns.length) (r : Nat) (hr : r < 8) : W.cell? ⟨m.ps.getD k 0,2 + r,none⟩ = some (.int .i64 (reg t k (r : Int))):=by
 have hb:=h.rnB k hk
 have hr' : r = 0 ∨ r = 1 ∨ r = 2 ∨ r = 3 ∨ r = 4 ∨ r = 5 ∨ r = 6 ∨ r = 7:=by omega
 rcases hr' with rfl | rfl | rfl | rfl | rfl | rfl | rfl | rfl <;> exact blk_cell hb rfl
theorem PM.at1 (h : PM o W g s pa pc t m) (k : Nat) (hk : k < t.rns.length) : W.cell? ⟨m.ps.getD k 0,1,none⟩ = some (.int .i64 (aT s (Mc.rn t k))) ∧ W.cell? ⟨m.ps.getD k 0,0,none⟩ = some (m.iv (Mc.rn t k).prog.toNat):=⟨blk_cell (h.rnB k hk) rfl,blk_cell (h.rnB k hk) rfl⟩
theorem PM.rfz (h : PM o W g s pa pc t m) (k : Nat) (hk : k < t.rns.length) (j : Nat) : W.frozen? ⟨m.ps.getD k 0,j,none⟩ = false:=by have:=h.rnB k hk;simp only [World.frozen?,this];simp
theorem PM.setReg (h : PM o W g s pa pc t m) (k : Nat) (hk : k < t.rns.length) (r : Nat) (hr : r < 8) (h8 : (Mc.rn t k).regs.length = 8) (x : Int) : PM o (W.setCell ⟨m.ps.getD k 0,2 + r,none⟩ (.int .i64 x)) g s pa pc { t with rns:=Mc.setR t k (r : Int) x } m:=by
 refine h.setRn k hk _ _ _ ?_
 show rpC s m.iv { Mc.rn t k with regs:=(Mc.rn t k).regs.set ((r : Int).toNat) x } = _
 rw [Int.toNat_natCast]
 unfold rpC
 have hr' : r = 0 ∨ r = 1 ∨ r = 2 ∨ r = 3 ∨ r = 4 ∨ r = 5 ∨ r = 6 ∨ r = 7:=by omega
 have e : ∀ j,((Mc.rn t k).regs.set r x).getD j 0 = if r = j then x else (Mc.rn t k).regs.getD j 0:=fun j => by
  rw [Mc.getD_set];by_cases hj : r = j
  ·rw [if_pos ⟨hj,by omega⟩,if_pos hj]
  ·rw [if_neg (fun h => hj h.1),if_neg hj]
 simp only [e]
 rcases hr' with rfl | rfl | rfl | rfl | rfl | rfl | rfl | rfl <;> rfl
end
end LW
end Go.Proofs.Ytfbnakmmmphedaa
namespace Go.Proofs.Ytfbnakmmmphedaa
open Go.RowKit
namespace LW
open Mc
theorem Qu.sl {w : World} {v : Value} {xs : List Int} (h : Qu w v xs) : ∃ a c,v = .slice a xs.length c:=by
 rcases h with ⟨rfl,rfl⟩ | ⟨b,off,cap,cur,rfl,_⟩
 ·exact ⟨_,_,rfl⟩
 ·exact ⟨_,_,rfl⟩
def canI (s : Syst) (t : St) (i : Ins) : Bool :=
 if i.op = 5 then t.shut.getD i.a.toNat false || decide (((t.held.getD i.a.toNat []).length : Int) < s.rooms.getD i.a.toNat 0)
 else if i.op = 6 then t.shut.getD i.a.toNat false || decide (0 < (t.held.getD i.a.toNat []).length)
 else if i.op = 8 then !(t.locked.getD i.a.toNat false)
 else if i.op = 11 then decide (t.groups.getD i.a.toNat 0 = 0)
 else true
theorem can_eq (s : Syst) (t : St) (k : Nat) : Mc.can s t k = if (Mc.rn t k).ended then false else canI s t (Mc.ins s t k):=rfl
theorem aT_end {s : Syst} {r : Rn} (h : GR s r) : (aT s r == ((pg s r.prog).length : Int)) = r.ended:=by
 unfold aT
 cases he : r.ended with
 | true => simp
 | false =>
  have:=h.ps he
  simp
  omega
theorem pended (b : Nat) (A : Option Addr) (n K : Nat) (x : Int) (w : World) (h0 : w.cell? ⟨b,0,none⟩ = some (.slice A n K)) (h1 : w.cell? ⟨b,1,none⟩ = some (.int .i64 x)) : Calls Try.prog 39 #[.pointer (some ⟨b,0,none⟩)] w fun e w' => e = .returned (.bool (x == (n : Int))) ∧ Below w.heap.size w w':=by
 go_enter Try.func39,Try.ntmps39
 go_wp2
 go_quiet (fail)
 go_wp2
 go_ret
 exact ⟨rfl,below_drewN (Below.refl _ _) _⟩
theorem ptakes (b f : Nat) (room : Int) (qa : Option Addr) (ql qc : Nat) (sh : Bool) (w : World) (h0 : w.cell? ⟨b,f,none⟩ = some (.int .i64 room)) (h1 : w.cell? ⟨b,f + 1,none⟩ = some (.slice qa ql qc)) (h2 : w.cell? ⟨b,f + 2,none⟩ = some (.bool sh)) : Calls Try.prog 53 #[.pointer (some ⟨b,f,none⟩)] w fun e w' => e = .returned (.bool (sh || decide ((ql : Int) < room))) ∧ Below w.heap.size w w':=by
 go_enter Try.func53,Try.ntmps53
 cases sh with
 | true =>
  go_wp2;go_quiet (fail)
  go_wp2;go_ret;exact ⟨rfl,below_drewN (Below.refl _ _) _⟩
 | false =>
  go_wp2;go_quiet (fail)
  go_wp2;go_ret;exact ⟨by simp,below_drewN (Below.refl _ _) _⟩
theorem pgives (b f : Nat) (qa : Option Addr) (ql qc : Nat) (sh : Bool) (w : World) (h1 : w.cell? ⟨b,f + 1,none⟩ = some (.slice qa ql qc)) (h2 : w.cell? ⟨b,f + 2,none⟩ = some (.bool sh)) : Calls Try.prog 54 #[.pointer (some ⟨b,f,none⟩)] w fun e w' => e = .returned (.bool (sh || decide (0 < ql))) ∧ Below w.heap.size w w':=by
 go_enter Try.func54,Try.ntmps54
 cases sh with
 | true =>
  go_wp2;go_ret;exact ⟨rfl,Below.refl _ _⟩
 | false =>
  by_cases hq : 0 < ql
  ·have kq : (0 : Int) < (ql : Int):=by omega
   go_wp2;go_ret;exact ⟨by simp [hq],Below.refl _ _⟩
  ·have kq : ¬ (0 : Int) < (ql : Int):=by omega
   go_wp2;go_ret;exact ⟨by simp [hq],Below.refl _ _⟩
theorem pcan {o : World} {g : Nat} {s : Syst} {pa : Option Addr} {pc : Nat} {t : St} {m : PV} (op a0 a1 a2 : Int) (w : World) (h : PM o w g s pa pc t m) (h5 : op = 5 ∨ op = 6 → 0 ≤ a0 ∧ a0 < t.held.length) (h8 : op = 8 → 0 ≤ a0 ∧ a0 < t.locked.length) (h11 : op = 11 → 0 ≤ a0 ∧ a0 < t.groups.length) :
  Calls Try.prog 40 #[.pointer (some ⟨g,0,none⟩),.agg #[.int .i64 op,.int .i64 a0,.int .i64 a1,.int .i64 a2]] w fun e w' => e = .returned (.bool (canI s t ⟨op,a0,a1,a2⟩)) ∧ Below w.heap.size w w':=by
 have hA : Below w.heap.size w (w.alloc (.cells #[.int .i64 op,.int .i64 a0,.int .i64 a1,.int .i64 a2] 68)):=(Below.refl _ _).alloc (Nat.le_refl _) _
 have NI : Hid ((w.alloc (.cells #[.int .i64 op,.int .i64 a0,.int .i64 a1,.int .i64 a2] 68)).heap[w.heap.size]? = some (.cells #[.int .i64 op,.int .i64 a0,.int .i64 a1,.int .i64 a2] 68 (0,0))):=heap_alloc_new w _
 have HBV:=ζ hA
 have HM:=ζ (h.below hA)
 clear hA h
 obtain ⟨CA,hCA⟩ : ∃ CA,CA = canI s t ⟨op,a0,a1,a2⟩:=⟨_,rfl⟩
 rw [← hCA]
 unfold canI at hCA
 dsimp only at hCA
 go_enter Try.func40,Try.ntmps40
 refine wp_seq_k fun K hK => ?_
 have HK:=ζ hK
 clear hK
 go_wp2
 refine HK.out _ _ ?_
 clear HK K
 generalize w.alloc _ = X at *
 have hgX:=HBV.out.size
 generalize w.heap.size = gi at *
 obtain ⟨z0,z1,z2,z3⟩:=cellsY4 NI.out
 have HX : Hid (Below X.heap.size X X):=Below.refl _ _
 by_cases h_5 : op = 5
 ·obtain ⟨c,rfl⟩ : ∃ c : Nat,a0 = (c : Int):=⟨a0.toNat,by have:=h5 (.inl h_5);omega⟩
  have hcl : c < t.held.length:=by have:=h5 (.inl h_5);omega
  have c1 : (c : Int) < (t.held.length : Int):=by omega
  have c0 : (0 : Int) ≤ (c : Int):=by omega
  obtain ⟨hb,hc_,e2,_,_,x0,x1,x2⟩:=HM.out.ch1 c hcl
  obtain ⟨qa,qc,eq⟩:=(HM.out.qus c hcl).sl
  rw [eq] at x1;have c2:=HM.out.c2
  rw [e2] at c2;rw [if_pos h_5,Int.toNat_natCast] at hCA;have HC:=ζ hCA
  have HT5 : Hid (∀ W,Below X.heap.size X W → Calls Try.prog 53 #[.pointer (some ⟨hb,c * 3,none⟩)] W fun e w' => e = .returned (.bool (t.shut.getD c false || decide (((t.held.getD c []).length : Int) < s.rooms.getD c 0))) ∧ Below W.heap.size W w'):=fun W hW => ptakes hb (c * 3) _ qa _ qc _ W (keepC hW x0) (keepC hW x1) (keepC hW x2)
  have k5 : (op == 5) = true:=by simp [h_5]
  clear h_5 h5 h8 h11 hCA x0 x1 x2 e2 eq hcl;generalize t.held.length = n at *;generalize (t.shut.getD c false || decide (((t.held.getD c []).length : Int) < s.rooms.getD c 0)) = BB at *;go_wp2;refine wp_region_noPanic ?_
  refine RG.wp_region_L (fun Z => True) (fun Z => Below X.heap.size X Z) [] (by kernel_rfl) ?_
  refine RG.wpL_any fun Yc5 hY => ?_
  have HTc5 : Hid (Below X.heap.size X Yc5):=by rw [hY];exact below_drewN HX.out 1
  clear hY;refine RG.wpL_take (fuel:=2) (a':=?Ac5) [0,1,2,3,4,5,6] (by kernel_rfl) (by kernel_rfl) (fun _ _ _ _ _ h => h) HTc5.out (fun _ => trivial) ?rc5 ?_
  case rc5 =>
   iterate 3
    refine RG.rW ?_ (fun Z hT => ?_) ?_
    rotate_left
    ·go_simp
     rfl
    simp only [Act.put,lA,lB,lC,lD,lE,lF]
   refine RG.rW (.slice (some ⟨hb,0,none⟩) n hc_) (fun Z hT => ?_) ?_
   ·have y0:=keepC hT c2;have y1:=keepC hT z1
    go_simp
   simp only [Act.put,lA,lB,lC,lD,lE,lF]
   refine RG.rW ?_ (fun Z hT => ?_) ?_
   rotate_left
   ·go_simp
    rfl
   simp only [Act.put,lA,lB,lC,lD,lE,lF]
   refine RG.rW (.int .i64 (c : Int)) (fun Z hT => ?_) ?_
   ·have y0:=keepC hT c2;have y1:=keepC hT z1
    go_simp
   simp only [Act.put,lA,lB,lC,lD,lE,lF]
   refine RG.rW ?_ (fun Z hT => ?_) ?_
   rotate_left
   ·go_simp
    rfl
   simp only [Act.put,lA,lB,lC,lD,lE,lF]
   exact RG.RunsIf.nil
  refine RG.wpL_step (i:=7) (by kernel_rfl) (by rfl) (by rfl) (fun KX hK => ?_)
  have HK:=ζ hK
  clear hK;go_simp;refine (HT5.out Yc5 HTc5.out).mono ?_
  rintro e_W1 W1 ⟨rfl,hb⟩
  have HT1 : Hid (Below X.heap.size X W1):=HTc5.out.trans (hb.mono HTc5.out.size)
  refine HK.out _ _ HT1.out (fun _ => trivial) ?_
  clear HK KX hb;try simp only [Act.put,lA,lB,lC,lD,lE,lF]
  refine RG.wpL_take (fuel:=0) (a':=?Ac5x) [8] (by kernel_rfl) (by kernel_rfl) (fun _ _ _ _ _ h => h) HT1.out (fun _ => trivial) ?rc5x ?_
  case rc5x =>
   refine RG.rW ?_ (fun Z hT => ?_) ?_
   rotate_left
   ·go_simp
    rfl
   simp only [Act.put,lA,lB,lC,lD,lE,lF]
   exact RG.RunsIf.nil
  refine RG.wpL_done (by kernel_rfl) ?_ _
  refine NoPanic.normal ?_
  go_wp2;go_ret;exact ⟨by rw [HC.out];rfl,HBV.out.trans (HT1.out.mono hgX)⟩
 have k5 : (op == 5) = false:=by simp [h_5]
 rw [if_neg h_5] at hCA
 by_cases h_6 : op = 6
 ·obtain ⟨c,rfl⟩ : ∃ c : Nat,a0 = (c : Int):=⟨a0.toNat,by have:=h5 (.inr h_6);omega⟩
  have hcl : c < t.held.length:=by have:=h5 (.inr h_6);omega
  have c1 : (c : Int) < (t.held.length : Int):=by omega
  have c0 : (0 : Int) ≤ (c : Int):=by omega
  obtain ⟨hb,hc_,e2,_,_,x0,x1,x2⟩:=HM.out.ch1 c hcl
  obtain ⟨qa,qc,eq⟩:=(HM.out.qus c hcl).sl
  rw [eq] at x1;have c2:=HM.out.c2
  rw [e2] at c2;rw [if_pos h_6,Int.toNat_natCast] at hCA;have HC:=ζ hCA
  have HT5 : Hid (∀ W,Below X.heap.size X W → Calls Try.prog 54 #[.pointer (some ⟨hb,c * 3,none⟩)] W fun e w' => e = .returned (.bool (t.shut.getD c false || decide (0 < (t.held.getD c []).length))) ∧ Below W.heap.size W w'):=fun W hW => pgives hb (c * 3) qa _ qc _ W (keepC hW x1) (keepC hW x2)
  have k6 : (op == 6) = true:=by simp [h_6]
  clear h_5 h_6 h5 h8 h11 hCA x0 x1 x2 e2 eq hcl;generalize t.held.length = n at *;generalize (t.shut.getD c false || decide (0 < (t.held.getD c []).length)) = BB at *;go_wp2;refine wp_region_noPanic ?_
  refine RG.wp_region_L (fun Z => True) (fun Z => Below X.heap.size X Z) [] (by kernel_rfl) ?_
  refine RG.wpL_any fun Yc6 hY => ?_
  have HTc6 : Hid (Below X.heap.size X Yc6):=by rw [hY];exact below_drewN HX.out 1
  clear hY;refine RG.wpL_take (fuel:=2) (a':=?Ac6) [0,1,2,3,4,5,6] (by kernel_rfl) (by kernel_rfl) (fun _ _ _ _ _ h => h) HTc6.out (fun _ => trivial) ?rc6 ?_
  case rc6 =>
   iterate 3
    refine RG.rW ?_ (fun Z hT => ?_) ?_
    rotate_left
    ·go_simp
     rfl
    simp only [Act.put,lA,lB,lC,lD,lE,lF]
   refine RG.rW (.slice (some ⟨hb,0,none⟩) n hc_) (fun Z hT => ?_) ?_
   ·have y0:=keepC hT c2;have y1:=keepC hT z1
    go_simp
   simp only [Act.put,lA,lB,lC,lD,lE,lF]
   refine RG.rW ?_ (fun Z hT => ?_) ?_
   rotate_left
   ·go_simp
    rfl
   simp only [Act.put,lA,lB,lC,lD,lE,lF]
   refine RG.rW (.int .i64 (c : Int)) (fun Z hT => ?_) ?_
   ·have y0:=keepC hT c2;have y1:=keepC hT z1
    go_simp
   simp only [Act.put,lA,lB,lC,lD,lE,lF]
   refine RG.rW ?_ (fun Z hT => ?_) ?_
   rotate_left
   ·go_simp
    rfl
   simp only [Act.put,lA,lB,lC,lD,lE,lF]
   exact RG.RunsIf.nil
  refine RG.wpL_step (i:=7) (by kernel_rfl) (by rfl) (by rfl) (fun KX hK => ?_)
  have HK:=ζ hK
  clear hK;go_simp;refine (HT5.out Yc6 HTc6.out).mono ?_
  rintro e_W1 W1 ⟨rfl,hb⟩
  have HT1 : Hid (Below X.heap.size X W1):=HTc6.out.trans (hb.mono HTc6.out.size)
  refine HK.out _ _ HT1.out (fun _ => trivial) ?_
  clear HK KX hb;try simp only [Act.put,lA,lB,lC,lD,lE,lF]
  refine RG.wpL_take (fuel:=0) (a':=?Ac6x) [8] (by kernel_rfl) (by kernel_rfl) (fun _ _ _ _ _ h => h) HT1.out (fun _ => trivial) ?rc6x ?_
  case rc6x =>
   refine RG.rW ?_ (fun Z hT => ?_) ?_
   rotate_left
   ·go_simp
    rfl
   simp only [Act.put,lA,lB,lC,lD,lE,lF]
   exact RG.RunsIf.nil
  refine RG.wpL_done (by kernel_rfl) ?_ _
  refine NoPanic.normal ?_
  go_wp2;go_ret;exact ⟨by rw [HC.out];rfl,HBV.out.trans (HT1.out.mono hgX)⟩
 have k6 : (op == 6) = false:=by simp [h_6]
 rw [if_neg h_6] at hCA
 by_cases h_8 : op = 8
 ·obtain ⟨c,rfl⟩ : ∃ c : Nat,a0 = (c : Int):=⟨a0.toNat,by have:=h8 h_8;omega⟩
  have hcl : c < t.locked.length:=by have:=h8 h_8;omega
  have c1 : (c : Int) < (t.locked.length : Int):=by omega
  have c0 : (0 : Int) ≤ (c : Int):=by omega
  obtain ⟨hb,hc_,e2,_,_,x0⟩:=HM.out.lk1 c hcl
  have c2:=HM.out.c4
  rw [e2] at c2;rw [if_pos h_8,Int.toNat_natCast] at hCA;have HC:=ζ hCA
  have k8 : (op == 8) = true:=by simp [h_8]
  clear h_5 h_6 h_8 h5 h8 h11 hCA e2 hcl;generalize t.locked.length = n at *;generalize t.locked.getD c false = BB at *;go_wp2;go_quiet (fail)
  go_wp2;go_ret;exact ⟨by rw [HC.out];rfl,below_drewN HBV.out _⟩
 have k8 : (op == 8) = false:=by simp [h_8]
 rw [if_neg h_8] at hCA
 by_cases h_11 : op = 11
 ·obtain ⟨c,rfl⟩ : ∃ c : Nat,a0 = (c : Int):=⟨a0.toNat,by have:=h11 h_11;omega⟩
  have hcl : c < t.groups.length:=by have:=h11 h_11;omega
  have c1 : (c : Int) < (t.groups.length : Int):=by omega
  have c0 : (0 : Int) ≤ (c : Int):=by omega
  obtain ⟨hb,hc_,e2,_,_,x0⟩:=HM.out.gr1 c hcl
  have c2:=HM.out.c3
  rw [e2] at c2;rw [if_pos h_11,Int.toNat_natCast] at hCA;have HC:=ζ hCA
  have k11 : (op == 11) = true:=by simp [h_11]
  clear h_5 h_6 h_8 h_11 h5 h8 h11 hCA e2 hcl;generalize t.groups.length = n at *;generalize t.groups.getD c 0 = BB at *;go_wp2;go_quiet (fail)
  go_wp2;go_ret;exact ⟨by rw [HC.out];by_cases hz : BB = 0 <;> simp [hz],below_drewN HBV.out _⟩
 have k11 : (op == 11) = false:=by simp [h_11]
 rw [if_neg h_11] at hCA
 have HC:=ζ hCA
 clear h_5 h_6 h_8 h_11 h5 h8 h11 hCA
 go_wp2
 go_ret
 exact ⟨by rw [HC.out];rfl,HBV.out⟩
theorem prest (n : Int) (d : Nat) (w : World) (h0 : 0 < d) (h1 : d ≤ 4611686018427387904) (hn : i64 n) : Calls Try.prog 29 #[.int .i64 n,.int .i64 (d : Int)] w fun e w' => e = .returned (.int .i64 (n % (d : Int))) ∧ w = w':=by
 unfold i64 at hn
 have kd : ((d : Int) == 0) = false:=by simp;omega
 have d1 : ¬ (d : Int) = -1:=by omega
 have a1:=Int.tmod_lt_of_pos n (show (0 : Int) < d by omega)
 have a2:=Int.lt_tmod_of_pos n (show (0 : Int) < d by omega)
 have e1 : IntKind.i64.wrap (n.tmod (d : Int)) = n.tmod (d : Int):=by rw [IntKind.wrap_i64];omega
 have e2 : IntKind.i64.wrap (n.tmod (d : Int) + (d : Int)) = n.tmod (d : Int) + (d : Int):=by rw [IntKind.wrap_i64];omega
 have e4 : (n.tmod (d : Int) + (d : Int)).tmod (d : Int) = n % (d : Int):=by
  have b1 : 0 ≤ n.tmod (d : Int) + (d : Int):=by omega
  rw [Int.tmod_eq_emod_of_nonneg b1,Int.add_emod_right];rw [Int.tmod_def,Int.sub_mul_emod_self_left]
 have b3:=Int.emod_nonneg n (show (d : Int) ≠ 0 by omega)
 have b4:=Int.emod_lt_of_pos n (show (0 : Int) < d by omega)
 have e3 : IntKind.i64.wrap ((n.tmod (d : Int) + (d : Int)).tmod (d : Int)) = n % (d : Int):=by rw [e4,IntKind.wrap_i64];omega
 go_enter Try.func29,Try.ntmps29
 go_wp2
 go_ret
 exact ⟨rfl,rfl⟩
end LW
end Go.Proofs.Ytfbnakmmmphedaa
namespace Go.Proofs.Ytfbnakmmmphedaa
open Go.RowKit
namespace LW
open Mc
structure SG (m m' : PV) : Prop where
 b : m'.gb = m.gb
 x : m'.gx = m.gx
 e : m'.ge = m.ge
 y : m'.gy = m.gy
 i : m'.iv = m.iv
theorem SG.refl (m : PV) : SG m m:=⟨rfl,rfl,rfl,rfl,rfl⟩
theorem SG.trans {a b c : PV} (h : SG a b) (k : SG b c) : SG a c:=⟨k.b.trans h.b,k.x.trans h.x,k.e.trans h.e,k.y.trans h.y,k.i.trans h.i⟩
theorem PM.ivF {o W : World} {g : Nat} {s : Syst} {pa : Option Addr} {pc : Nat} {t : St} {m : PV} (h : PM o W g s pa pc t m) (hg : Mc.Good s t) (k : Nat) (hk : k < t.rns.length) : ∃ A K,m.iv (Mc.rn t k).prog.toNat = .slice A (pg s (Mc.rn t k).prog).length K ∧ IR W A (pg s (Mc.rn t k).prog):=by
 obtain ⟨b,off,_,hc⟩:=h.pr
 have hp:=(hg.gr k hk).pr
 obtain ⟨A,K,e,_,hi⟩:=hc (Mc.rn t k).prog.toNat (by omega)
 exact ⟨A,K,e,hi.below h.bl⟩
theorem PM.ivF0 {o W : World} {g : Nat} {s : Syst} {pa : Option Addr} {pc : Nat} {t : St} {m : PV} {e : Ev} (h : PM o W g s pa pc { t with evs:=t.evs ++ [e] } m) (hg : Mc.Good s t) (k : Nat) (hk : k < t.rns.length) : ∃ A K,m.iv (Mc.rn t k).prog.toNat = .slice A (pg s (Mc.rn t k).prog).length K ∧ IR W A (pg s (Mc.rn t k).prog):=by
 obtain ⟨b,off,_,hc⟩:=h.pr
 have hp:=(hg.gr k hk).pr
 obtain ⟨A,K,e,_,hi⟩:=hc (Mc.rn t k).prog.toNat (by omega)
 exact ⟨A,K,e,hi.below h.bl⟩
theorem PM.endedC {o W : World} {g : Nat} {s : Syst} {pa : Option Addr} {pc : Nat} {t : St} {m : PV} (h : PM o W g s pa pc t m) (hg : Mc.Good s t) (k : Nat) (hk : k < t.rns.length) (W' : World) (hW : Below W.heap.size W W') : Calls Try.prog 39 #[.pointer (some ⟨m.ps.getD k 0,0,none⟩)] W' fun e w' => e = .returned (.bool (Mc.rn t k).ended) ∧ Below W'.heap.size W' w':=by
 obtain ⟨A,K,e,_⟩:=h.ivF hg k hk
 obtain ⟨h1,h0⟩:=h.at1 k hk
 rw [e] at h0
 have:=pended (m.ps.getD k 0) A _ K _ W' (keepC hW h0) (keepC hW h1)
 rw [aT_end (hg.gr k hk)] at this
 exact this
theorem over_all (t : St) : Mc.over t = true ↔ ∀ k,k < t.rns.length → (Mc.rn t k).ended = true:=by
 unfold Mc.over
 rw [List.all_eq_true]
 constructor
 ·intro h k hk
  refine h _ ?_
  rw [Mc.rn,List.getD_eq_getElem?_getD,List.getElem?_eq_getElem hk];exact List.getElem_mem hk
 ·intro h r hr
  obtain ⟨k,hk,rfl⟩:=List.getElem_of_mem hr
  have:=h k hk
  rwa [Mc.rn,List.getD_eq_getElem?_getD,List.getElem?_eq_getElem hk] at this
theorem pall {o : World} {g : Nat} {s : Syst} {pa : Option Addr} {pc : Nat} {t : St} {m : PV} (w : World) (h : PM o w g s pa pc t m) (hg : Mc.Good s t) : Calls Try.prog 41 #[.pointer (some ⟨g,0,none⟩)] w fun e w' => e = .returned (.bool (Mc.over t)) ∧ Below w.heap.size w w':=by
 have HE : Hid (∀ k W,k < t.rns.length → Below w.heap.size w W → Calls Try.prog 39 #[.pointer (some ⟨m.ps.getD k 0,0,none⟩)] W fun e w' => e = .returned (.bool (Mc.rn t k).ended) ∧ Below W.heap.size W w'):=fun k W hk hW => h.endedC hg k hk W hW
 have HX : Hid (∀ k W,k < t.rns.length → Below w.heap.size w W → ∃ b cap,m.rv = .slice (some ⟨b,0,none⟩) t.rns.length cap ∧ W.cell? ⟨b,k,none⟩ = some (.pointer (some ⟨m.ps.getD k 0,0,none⟩))):=fun k W hk hW => by
  obtain ⟨b,cap,e,_,hc⟩:=h.rn1 k hk
  exact ⟨b,cap,e,keepC hW hc⟩
 have HO:=ζ (over_all t)
 obtain ⟨rb,rc,e1,_,_⟩:=h.rn1 0 (by have:=hg.r1;omega)
 have c1:=h.c1
 rw [e1] at c1
 have h2:=hg.r2
 have E1:=ζ e1
 clear h hg e1
 generalize t.rns.length = n at *
 go_enter Try.func41,Try.ntmps41
 refine wp_seq_k fun K hK => ?_
 have HK:=ζ hK
 clear hK
 go_wp2
 refine HK.out _ _ ?_
 clear HK K
 refine wp_seq_k fun K hK => ?_
 have HK:=ζ hK
 clear hK
 go_wp2
 go_loopw [10] (fun i wr => ∃ k : Nat,k ≤ n ∧ i = .int .i64 (k : Int) ∧ Hid (Below w.heap.size w wr) ∧ Hid (∀ q,q < k → (Mc.rn t q).ended = true)) (fun i wr => n - (intOf i).toNat)
 case atStart => exact ⟨0,Nat.zero_le _,rfl,ζ (Below.refl _ _),ζ (fun q hq => by omega)⟩
 case round =>
  obtain ⟨k,hk,rfl,HB,HQ⟩:=hrel
  by_cases hlt : k < n
  ·have hk1 : (k : Int) < (n : Int):=by omega
   have hk0 : (0 : Int) ≤ (k : Int):=by omega
   have HLT:=ζ hlt
   have x0 : wr.cell? ⟨rb,k,none⟩ = some (.pointer (some ⟨m.ps.getD k 0,0,none⟩)):=by
    obtain ⟨b_,c_,e_,x0⟩:=HX.out k wr hlt HB.out
    rw [E1.out] at e_;injection e_ with e_ _ _
    injection e_ with e_
    injection e_ with e_
    subst e_;exact x0
   have HC:=ζ (HE.out k wr hlt HB.out)
   obtain ⟨eb,heb⟩ : ∃ eb,(Mc.rn t k).ended = eb:=⟨_,rfl⟩
   rw [heb] at HC;have HEB:=ζ heb
   clear heb hlt;generalize m.ps.getD k 0 = pk at *;go_wp2_with fail
   refine HC.out.mono ?_
   rintro e_ w1 ⟨rfl,hb⟩
   have HB1 : Hid (Below w.heap.size w w1):=HB.out.trans (hb.mono HB.out.size)
   clear hb HC x0;cases eb with
   | true =>
    go_wp2;go_roundw
    case rel =>
     refine ⟨k + 1,HLT.out,by go_num,HB1,ζ (fun q hq => ?_)⟩
     rcases Nat.lt_or_ge q k with h | h
     ·exact HQ.out q h
     ·obtain rfl : q = k:=by omega
      exact HEB.out
    case measure => simp [intOf];have:=HLT.out;omega
   | false =>
    have HF : Hid (Mc.over t = false):=by
     show _ = _
     cases ho : Mc.over t with
     | false => rfl
     | true =>
      have:=HO.out.1 ho k HLT.out
      rw [HEB.out] at this;cases this
    go_wp2;go_ret;exact ⟨by rw [HF.out];rfl,HB1.out⟩
  ·have hkn : n = k:=by omega
   subst hkn;have HF : Hid (Mc.over t = true):=HO.out.2 HQ.out
   go_wp2;refine HK.out _ _ ?_;go_wp2;go_ret;exact ⟨by rw [HF.out];rfl,HB.out⟩
theorem ready_over {s : Syst} {t : St} (h : Mc.over t = true) : Mc.ready s t = []:=by
 unfold Mc.ready
 rw [List.filter_eq_nil_iff]
 intro k hk
 rw [can_eq,(over_all t).1 h k (by simpa using hk),if_pos rfl]
 simp
theorem pends {o : World} {g : Nat} {s : Syst} {pa : Option Addr} {pc : Nat} {t : St} {m : PV} (la : Option Addr) (lc R : Nat) (w : World) (h : PM o w g s pa pc t m) (hg : Mc.Good s t) (hR : (Mc.ready s t).length = R) : Calls Try.prog 27 #[.pointer (some ⟨g,0,none⟩),.slice la R lc] w fun e w' => e = .returned (.int .i64 (Mc.fin s t)) ∧ Below w.heap.size w w':=by
 have HA:=ζ (pall w h hg)
 have HO : Hid (Mc.over t = true → R = 0):=fun ho => by rw [← hR,ready_over ho];rfl
 have HF : Hid (Mc.fin s t = if Mc.over t = true then 1 else if 40000 ≤ t.evs.length then 4 else if Mc.ready s t = [] then 2 else 0):=rfl
 have HRL : Hid (Mc.ready s t = [] ↔ R = 0):=by show _ ↔ _;rw [← hR];exact List.length_eq_zero_iff.symm
 have hel:=hg.el
 obtain ⟨ea,ec,e6⟩:=own_open13 h.evs
 have c6 : ∀ W,Below w.heap.size w W → W.cell? ⟨g,6,none⟩ = some (.slice ea t.evs.length ec):=fun W hW => by rw [← e6];exact keepC hW h.c6
 have HC6:=ζ c6
 clear h hg hR c6 e6
 generalize Mc.fin s t = FI at *
 generalize Mc.over t = OV at *
 generalize Mc.ready s t = RL at *
 generalize t.evs.length = en at *
 go_enter Try.func27,Try.ntmps27
 by_cases hz : R = 0
 ·have kz : ((R : Int) == 0) = true:=by simp [hz]
  have HZ:=ζ hz
  clear hz;go_wp2_with fail
  refine HA.out.mono ?_
  rintro e1 w1 ⟨rfl,hb⟩
  have c6:=HC6.out w1 hb
  have HB:=ζ hb
  clear hb HA HC6;cases OV with
  | true =>
   have HF2 : Hid (FI = 1):=by show _ = _;rw [HF.out,if_pos rfl]
   go_wp2;go_ret;exact ⟨by rw [HF2.out];rfl,HB.out⟩
  | false =>
   by_cases h4 : en = 40000
   ·have HF2 : Hid (FI = 4):=by show _ = _;rw [HF.out,if_neg (by decide),if_pos (by omega)]
    have k4 : ((en : Int) == 40000) = true:=by simp;omega
    clear h4 hel;go_wp2;go_ret;exact ⟨by rw [HF2.out];rfl,HB.out⟩
   ·have HF2 : Hid (FI = 2):=by show _ = _;rw [HF.out,if_neg (by decide),if_neg (by omega),if_pos (HRL.out.2 HZ.out)]
    have k4 : ((en : Int) == 40000) = false:=by simp;omega
    clear h4 hel;go_wp2;go_ret;exact ⟨by rw [HF2.out];rfl,HB.out⟩
 ·have kz : ((R : Int) == 0) = false:=by simp [hz]
  have HZ:=ζ hz
  have c6:=HC6.out w (Below.refl _ _)
  have HOv : Hid (¬ OV = true):=fun ho => hz (HO.out ho)
  clear hz HA HC6 HO;by_cases h4 : en = 40000
  ·have HF2 : Hid (FI = 4):=by show _ = _;rw [HF.out,if_neg HOv.out,if_pos (by omega)]
   have k4 : ((en : Int) == 40000) = true:=by simp;omega
   clear h4 hel;go_wp2;go_ret;exact ⟨by rw [HF2.out];rfl,Below.refl _ _⟩
  ·have HF2 : Hid (FI = 0):=by show _ = _;rw [HF.out,if_neg HOv.out,if_neg (by omega),if_neg (fun h => HZ.out (HRL.out.1 h))]
   have k4 : ((en : Int) == 40000) = false:=by simp;omega
   clear h4 hel;go_wp2;go_ret;exact ⟨by rw [HF2.out];rfl,Below.refl _ _⟩
end LW
end Go.Proofs.Ytfbnakmmmphedaa
namespace Go.Proofs.Ytfbnakmmmphedaa
open Go.RowKit
namespace LW
open Mc
theorem own_zero {w : World} {B n s c : Nat} {t : TypeId} {a : Option Addr} {xs : List Value} (h : w.ownsRow B t s (.slice a n c) n xs) : w.ownsRow B t s (.slice a 0 c) 0 []:=by
 refine ⟨by simp,?_⟩
 rcases h.2 with ⟨e,h0⟩ | ⟨g,cap,cur,e,h1,h2,h3,h4,h5,h6⟩
 ·injection e with e1 e2 e3
  subst e1 e3;exact .inl ⟨rfl,rfl⟩
 ·injection e with e1 e2 e3
  subst e1 e3;exact .inr ⟨g,c,cur,rfl,h1,h2,Nat.zero_le _,h4,h5,by simp⟩
theorem ins_can {s : Syst} {t : St} {k : Nat} (ho : Mc.Ok s) (hg : Mc.Good s t) (hk : k < t.rns.length) (he : (Mc.rn t k).ended = false) : ((Mc.ins s t k).op = 5 ∨ (Mc.ins s t k).op = 6 → 0 ≤ (Mc.ins s t k).a ∧ (Mc.ins s t k).a < t.held.length) ∧ ((Mc.ins s t k).op = 8 → 0 ≤ (Mc.ins s t k).a ∧ (Mc.ins s t k).a < t.locked.length) ∧ ((Mc.ins s t k).op = 11 → 0 ≤ (Mc.ins s t k).a ∧ (Mc.ins s t k).a < t.groups.length):=by
 have hr:=ins_right ho hg hk he
 have hl:=hg.hl
 have h2:=hg.ll
 have h3:=hg.gl
 refine ⟨fun h => ?_,fun h => ?_,fun h => ?_⟩
 ·have hf:=hr.2.2.1
  rcases h with h | h <;> (rw [h] at hf;have:=fit_c hf;omega)
 ·have hf:=hr.2.2.1
  rw [h] at hf;have:=fit_l hf
  omega
 ·have hf:=hr.2.2.1
  rw [h] at hf;have:=fit_g hf
  omega
theorem PM.insF {o W : World} {g : Nat} {s : Syst} {pa : Option Addr} {pc : Nat} {t : St} {m : PV} (h : PM o W g s pa pc t m) (hg : Mc.Good s t) (k : Nat) (hk : k < t.rns.length) (he : (Mc.rn t k).ended = false) : ∃ (b off K p : Nat),m.iv (Mc.rn t k).prog.toNat = .slice (some ⟨b,off,none⟩) (pg s (Mc.rn t k).prog).length K ∧ aT s (Mc.rn t k) = (p : Int) ∧ p < (pg s (Mc.rn t k).prog).length ∧ W.cell? ⟨b,off + p * 4,none⟩ = some (.int .i64 (Mc.ins s t k).op) ∧ W.cell? ⟨b,off + p * 4 + 1,none⟩ = some (.int .i64 (Mc.ins s t k).a) ∧ W.cell? ⟨b,off + p * 4 + 2,none⟩ = some (.int .i64 (Mc.ins s t k).b) ∧ W.cell? ⟨b,off + p * 4 + 3,none⟩ = some (.int .i64 (Mc.ins s t k).c):=by
 obtain ⟨A,K,e,hi⟩:=h.ivF hg k hk
 have hp:=(hg.gr k hk).ps he
 have ha : aT s (Mc.rn t k) = (Mc.rn t k).pos:=by unfold aT;rw [he];rfl
 obtain ⟨p,hpe⟩ : ∃ p : Nat,(Mc.rn t k).pos = (p : Int):=⟨(Mc.rn t k).pos.toNat,by omega⟩
 rcases hi with h0 | ⟨b,off,rfl,hc⟩
 ·rw [h0] at hp;simp at hp;omega
 ·have hpl : p < (pg s (Mc.rn t k).prog).length:=by omega
  obtain ⟨x0,x1,x2,x3⟩:=hc p hpl
  have hins : Mc.ins s t k = (pg s (Mc.rn t k).prog).getD p i0:=by unfold Mc.ins;rw [hpe,Int.toNat_natCast]
  exact ⟨b,off,K,p,e,by rw [ha,hpe],hpl,by rw [hins];exact x0,by rw [hins];exact x1,by rw [hins];exact x2,by rw [hins];exact x3⟩
def RdyQ (o : World) (g : Nat) (s : Syst) (pa : Option Addr) (pc : Nat) (t : St) (m : PV) : Ending → World → Prop:=fun e w' => ∃ v,e = .returned v ∧ PM o w' g s pa pc t { m with nv:=v,nn:=Mc.ready s t }
theorem pready {o : World} {g : Nat} {s : Syst} {pa : Option Addr} {pc : Nat} {t : St} {m : PV} (w : World) (h : PM o w g s pa pc t m) (ho : Mc.Ok s) (hg : Mc.Good s t) : Calls Try.prog 26 #[.pointer (some ⟨g,0,none⟩)] w (RdyQ o g s pa pc t m):=by
 obtain ⟨la,lc,e7⟩:=own_open13 h.lst
 have hl0:=h.lst
 rw [e7] at hl0
 have HM0 : Hid (PM o (w.setCell ⟨g,7,none⟩ (.slice la 0 lc)) g s pa pc t { m with nv:=.slice la 0 lc,nn:=[] }):=h.setNv [] (.slice la 0 lc) (own_zero hl0) (fun _ _ _ => rfl) (.inl (by rw [e7];cases la <;> rfl)) h.bl
 have c7:=h.c7
 rw [e7] at c7
 have fz:=h.fz 7
 have hc0 : (0 : Int) ≤ (lc : Int):=by omega
 have HOk:=ζ ho
 have HG:=ζ hg
 have hn2:=hg.r2
 have hn1:=hg.r1
 have HR : Hid (Mc.ready s t = (List.range t.rns.length).filter (Mc.can s t)):=rfl
 have HFl:=ζ (filter_more (Mc.can s t))
 have HLn : Hid (∀ k,((List.range k).filter (Mc.can s t)).length ≤ k):=fun k => Nat.le_trans (List.length_filter_le _ _) (by simp)
 clear h ho hg hl0 e7
 obtain ⟨POST,hP⟩ : ∃ P,P = RdyQ o g s pa pc t m:=⟨_,rfl⟩
 have HP:=ζ hP
 rw [← hP]
 clear hP
 go_enter Try.func26,Try.ntmps26
 refine wp_seq_k fun K hK => ?_
 have HK:=ζ hK
 clear hK
 go_wp2
 refine HK.out _ _ ?_
 clear HK K
 refine wp_seq_k fun K hK => ?_
 have HK:=ζ hK
 clear hK
 go_wp2
 refine HK.out _ _ ?_
 clear HK K c7 fz hc0
 generalize World.setCell _ _ _ = X at *
 obtain ⟨rb,rcp,e1,_,_⟩:=HM0.out.rn1 0 (by omega)
 have c1:=HM0.out.c1
 rw [e1] at c1
 have HRB : Hid (∀ v l W,PM o W g s pa pc t { m with nv:=v,nn:=l } → ∀ k,k < t.rns.length → W.cell? ⟨rb,k,none⟩ = some (.pointer (some ⟨m.ps.getD k 0,0,none⟩))):=fun v l W hW k hk => by
  obtain ⟨b_,c_,e_,_,x0⟩:=hW.rn1 k hk
  change m.rv = _ at e_
  change m.rv = _ at e1
  rw [e1] at e_;injection e_ with e_ _ _
  injection e_ with e_
  injection e_ with e_
  subst e_;exact x0
 clear e1
 obtain ⟨n,hn⟩ : ∃ n,t.rns.length = n:=⟨_,rfl⟩
 have HN:=ζ hn
 rw [hn] at HR HRB hn1 hn2 c1
 clear hn
 obtain ⟨i3,hi3,hz30,hz31,hz32⟩:=info_parts' intinfo
 refine wp_seq_k fun K hK => ?_
 have HK:=ζ hK
 clear hK
 go_wp2
 go_loopw [18] (fun i wr => ∃ (k : Nat) (la : Option Addr) (lc : Nat) (l : List Nat),k ≤ n ∧ i = .int .i64 (k : Int) ∧ Hid (PM o wr g s pa pc t { m with nv:=.slice la l.length lc,nn:=l }) ∧ Hid (l = (List.range k).filter (Mc.can s t))) (fun i wr => n - (intOf i).toNat)
 case atStart => exact ⟨0,la,lc,[],Nat.zero_le _,rfl,HM0,ζ rfl⟩
 case round =>
  clear HM0 c1;obtain ⟨k,la2,lc2,FK,hk,rfl,HM,HFK⟩:=hrel
  by_cases hlt : k < n
  ·have hk1 : (k : Int) < (n : Int):=by omega
   have hk0 : (0 : Int) ≤ (k : Int):=by omega
   have HLT:=ζ hlt
   have hle : FK.length ≤ k:=by rw [HFK.out];exact HLn.out k
   have x9:=HRB.out _ FK wr HM.out k hlt
   have hkt : k < t.rns.length:=by rw [HN.out];exact hlt
   have HCe : Hid (∀ W,Below wr.heap.size wr W → Calls Try.prog 39 #[.pointer (some ⟨m.ps.getD k 0,0,none⟩)] W fun e w' => e = .returned (.bool (Mc.rn t k).ended) ∧ Below W.heap.size W w'):=fun W hW => HM.out.endedC HG.out k hkt W hW
   have HFt : Hid (Mc.can s t k = true → FK ++ [k] = (List.range (k + 1)).filter (Mc.can s t)):=fun hc => by rw [HFl.out,HFK.out,if_pos hc]
   have HFf : Hid (Mc.can s t k = false → FK = (List.range (k + 1)).filter (Mc.can s t)):=fun hc => by rw [HFl.out,hc,if_neg (by decide),HFK.out]
   have HX : Hid (Below wr.heap.size wr wr):=Below.refl _ _
   have HKT:=ζ hkt
   obtain ⟨pk,hpk⟩ : ∃ pk,m.ps.getD k 0 = pk:=⟨_,rfl⟩
   rw [hpk] at x9 HCe;have HPK:=ζ hpk
   clear hlt hkt hpk;refine wp_seq_k fun Kz hKz => ?_
   have HKz:=ζ hKz
   clear hKz;go_wp2;refine HKz.out _ _ ?_;clear HKz Kz;refine wp_seq_k fun Kc hKc => ?_
   have HKc:=ζ hKc
   clear hKc;go_wp2;refine HKc.out _ _ ?_;clear HKc Kc;refine wp_seq_k fun Kd hKd => ?_
   have HKd:=ζ hKd
   clear hKd;refine wp_block ?_;refine wp_seq_k fun Ke hKe => ?_
   have HKe:=ζ hKe
   clear hKe;go_wp2;refine HKe.out _ _ ?_;clear HKe Ke x9;refine wp_seq_k fun Kf hKf => ?_
   have HKf:=ζ hKf
   clear hKf;have HCk : Hid (Mc.can s t k = if (Mc.rn t k).ended then false else canI s t (Mc.ins s t k)):=can_eq s t k
   cases hen : (Mc.rn t k).ended with
   | true =>
    rw [hen] at HCe HCk;have HFZ : Hid (FK = (List.range (k + 1)).filter (Mc.can s t)):=HFf.out HCk.out
    clear hen HFt HFf HCk;refine wp_region_noPanic ?_
    refine RG.wp_region_L (fun Z => True) (fun Z => Below wr.heap.size wr Z) [] (by kernel_rfl) ?_
    refine RG.wpL_any fun Ya hY => ?_
    have HTa : Hid (Below wr.heap.size wr Ya):=by rw [hY];exact below_drewN HX.out 1
    clear hY;refine RG.wpL_take (fuel:=16) (a':=?Aa) [0] (by kernel_rfl) (by kernel_rfl) (fun _ _ _ _ _ h => h) HTa.out (fun _ => trivial) ?ra ?_
    case ra =>
     refine RG.rW ?_ (fun Z hT => ?_) ?_
     rotate_left
     ·go_simp
      rfl
     simp only [Act.put,lA,lB,lC,lD,lE,lF]
     exact RG.RunsIf.nil
    refine RG.wpL_step (i:=1) (by kernel_rfl) (by rfl) (by rfl) (fun KX hK => ?_)
    have HK:=ζ hK
    clear hK;go_simp;refine (HCe.out _ HTa.out).mono ?_
    rintro e_W1 W1 ⟨rfl,hb⟩
    have HT1 : Hid (Below wr.heap.size wr W1):=HTa.out.trans (hb.mono HTa.out.size)
    refine HK.out _ _ HT1.out (fun _ => trivial) ?_
    clear HK KX hb;try simp only [Act.put,lA,lB,lC,lD,lE,lF]
    refine RG.wpL_take (fuel:=0) (a':=?Ab) [2,3,4,5,6,7,8,9,10,11,12,13,14,15,16] (by kernel_rfl) (by kernel_rfl) (fun _ _ _ _ _ h => h) HT1.out (fun _ => trivial) ?rb ?_
    case rb =>
     iterate 2
      refine RG.rW ?_ (fun Z hT => ?_) ?_
      rotate_left
      ·go_simp
       rfl
      simp only [Act.put,lA,lB,lC,lD,lE,lF]
     iterate 12
      refine RG.RunsIf.skip (by rfl) (by rfl) ?_
      simp only [Act.put,lA,lB,lC,lD,lE,lF]
     refine RG.rW ?_ (fun Z hT => ?_) ?_
     rotate_left
     ·go_simp
      rfl
     simp only [Act.put,lA,lB,lC,lD,lE,lF]
     exact RG.RunsIf.nil
    refine RG.wpL_done (by kernel_rfl) ?_ _
    refine NoPanic.normal ?_
    have HM1:=ζ (HM.out.below HT1.out)
    refine HKf.out _ _ ?_;clear HKf Kf;go_wp2;refine HKd.out _ _ ?_;go_wp2;go_roundw
    case rel => exact ⟨k + 1,_,_,_,HLT.out,by go_num,HM1,HFZ⟩
    case measure => simp [intOf];have:=HLT.out;omega
   | false =>
    rw [hen] at HCe HCk;obtain ⟨ib,io,ik,p,ei,ea,hpl,x0,x1,x2,x3⟩:=HM.out.insF HG.out k HKT.out hen
    have r1_ : wr.cell? ⟨pk,1,none⟩ = some (.int .i64 (p : Int)):=by rw [← HPK.out,← ea];exact (HM.out.at1 k HKT.out).1
    have r0_ : wr.cell? ⟨pk,0,none⟩ = some (.slice (some ⟨ib,io,none⟩) (pg s (Mc.rn t k).prog).length ik):=by rw [← HPK.out,← ei];exact (HM.out.at1 k HKT.out).2
    obtain ⟨q5,q8,q11⟩:=ins_can HOk.out HG.out HKT.out hen
    have HCc : Hid (∀ W,Below wr.heap.size wr W → Calls Try.prog 40 #[.pointer (some ⟨g,0,none⟩),.agg #[.int .i64 (Mc.ins s t k).op,.int .i64 (Mc.ins s t k).a,.int .i64 (Mc.ins s t k).b,.int .i64 (Mc.ins s t k).c]] W fun e w' => e = .returned (.bool (canI s t (Mc.ins s t k))) ∧ Below W.heap.size W w'):=fun W hW => pcan _ _ _ _ W (HM.out.below hW) q5 q8 q11
    clear hen ei ea q5 q8 q11;have p1 : (p : Int) < ((pg s (Mc.rn t k).prog).length : Int):=by omega
    have p0 : (0 : Int) ≤ (p : Int):=by omega
    generalize (pg s (Mc.rn t k).prog).length = il at *;generalize (Mc.ins s t k).op = op at *;generalize (Mc.ins s t k).a = a0 at *;generalize (Mc.ins s t k).b = a1 at *;generalize (Mc.ins s t k).c = a2 at *;obtain ⟨cb,hcb⟩ : ∃ cb,canI s t (Mc.ins s t k) = cb:=⟨_,rfl⟩
    rw [hcb] at HCc HCk;clear hcb;refine wp_region_noPanic ?_
    refine RG.wp_region_L (fun Z => True) (fun Z => Below wr.heap.size wr Z) [] (by kernel_rfl) ?_
    refine RG.wpL_any fun Yd hY => ?_
    have HTd : Hid (Below wr.heap.size wr Yd):=by rw [hY];exact below_drewN HX.out 1
    clear hY;refine RG.wpL_take (fuel:=16) (a':=?Ad) [0] (by kernel_rfl) (by kernel_rfl) (fun _ _ _ _ _ h => h) HTd.out (fun _ => trivial) ?rd ?_
    case rd =>
     refine RG.rW ?_ (fun Z hT => ?_) ?_
     rotate_left
     ·go_simp
      rfl
     simp only [Act.put,lA,lB,lC,lD,lE,lF]
     exact RG.RunsIf.nil
    refine RG.wpL_step (i:=1) (by kernel_rfl) (by rfl) (by rfl) (fun KX hK => ?_)
    have HK:=ζ hK
    clear hK;go_simp;refine (HCe.out _ HTd.out).mono ?_
    rintro e_W1 W1 ⟨rfl,hb⟩
    have HT1 : Hid (Below wr.heap.size wr W1):=HTd.out.trans (hb.mono HTd.out.size)
    refine HK.out _ _ HT1.out (fun _ => trivial) ?_
    clear HK KX hb;try simp only [Act.put,lA,lB,lC,lD,lE,lF]
    refine RG.wpL_take (fuel:=2) (a':=?Ae) [2,3,4,5,6,7,8,9,10,11,12,13,14] (by kernel_rfl) (by kernel_rfl) (fun _ _ _ _ _ h => h) HT1.out (fun _ => trivial) ?re ?_
    case re =>
     iterate 6
      refine RG.rW ?_ (fun Z hT => ?_) ?_
      rotate_left
      ·go_simp
       rfl
      simp only [Act.put,lA,lB,lC,lD,lE,lF]
     refine RG.rW (.slice (some ⟨ib,io,none⟩) il ik) (fun Z hT => ?_) ?_
     ·have y0:=keepC hT r0_;have y1:=keepC hT r1_;have q0:=keepC hT x0;have q1:=keepC hT x1;have q2:=keepC hT x2;have q3:=keepC hT x3
      go_simp
     simp only [Act.put,lA,lB,lC,lD,lE,lF]
     iterate 3
      refine RG.rW ?_ (fun Z hT => ?_) ?_
      rotate_left
      ·go_simp
       rfl
      simp only [Act.put,lA,lB,lC,lD,lE,lF]
     refine RG.rW (.int .i64 (p : Int)) (fun Z hT => ?_) ?_
     ·have y0:=keepC hT r0_;have y1:=keepC hT r1_;have q0:=keepC hT x0;have q1:=keepC hT x1;have q2:=keepC hT x2;have q3:=keepC hT x3
      go_simp
     simp only [Act.put,lA,lB,lC,lD,lE,lF]
     refine RG.rW ?_ (fun Z hT => ?_) ?_
     rotate_left
     ·go_simp
      rfl
     simp only [Act.put,lA,lB,lC,lD,lE,lF]
     refine RG.rW (.agg #[.int .i64 op,.int .i64 a0,.int .i64 a1,.int .i64 a2]) (fun Z hT => ?_) ?_
     ·have y0:=keepC hT r0_;have y1:=keepC hT r1_;have q0:=keepC hT x0;have q1:=keepC hT x1;have q2:=keepC hT x2;have q3:=keepC hT x3
      go_simp
     simp only [Act.put,lA,lB,lC,lD,lE,lF]
     exact RG.RunsIf.nil
    refine RG.wpL_stepw (i:=15) (by kernel_rfl) (by rfl) (by rfl) (fun KX hK => ?_)
    have HK:=ζ hK
    clear hK;go_simp;refine (HCc.out _ HT1.out).mono ?_
    rintro e_W2 W2 ⟨rfl,hb⟩
    have HT2 : Hid (Below wr.heap.size wr W2):=HT1.out.trans (hb.mono HT1.out.size)
    refine HK.out _ _ HT2.out (fun _ => trivial) ?_
    clear HK KX hb;try simp only [Act.put,lA,lB,lC,lD,lE,lF]
    refine RG.wpL_take (fuel:=0) (a':=?Af) [16] (by kernel_rfl) (by kernel_rfl) (fun _ _ _ _ _ h => h) HT2.out (fun _ => trivial) ?rf ?_
    case rf =>
     refine RG.rW ?_ (fun Z hT => ?_) ?_
     rotate_left
     ·go_simp
      rfl
     simp only [Act.put,lA,lB,lC,lD,lE,lF]
     exact RG.RunsIf.nil
    refine RG.wpL_done (by kernel_rfl) ?_ _
    refine NoPanic.normal ?_
    have HM1:=ζ (HM.out.below HT2.out)
    refine HKf.out _ _ ?_;clear HKf Kf x0 x1 x2 x3 r0_ r1_;cases cb with
    | true =>
     have HFZ0 : Hid (FK ++ [k] = (List.range (k + 1)).filter (Mc.can s t)):=HFt.out HCk.out
     clear HFt HFf HCk;have c7 : W2.cell? ⟨g,7,none⟩ = some (.slice la2 FK.length lc2):=HM1.out.c7
     have HMa:=ζ (HM1.out.below ((Below.refl _ _).alloc (Nat.le_refl _) (.cells #[.int .i64 (k : Int)] 3)))
     have HF5 : Hid (∀ v5 w5,w5.ownsRow o.heap.size 3 1 v5 (FK.length + 1) (natV FK ++ [.int .i64 (k : Int)]) → (W2.alloc (.cells #[.int .i64 (k : Int)] 3)).grownBy w5 (Value.slice la2 FK.length lc2).ownBlock → (v5.ownBlock = (Value.slice la2 FK.length lc2).ownBlock ∨ v5.ownBlock = some (W2.alloc (.cells #[.int .i64 (k : Int)] 3)).heap.size) → PM o (w5.setCell ⟨g,7,none⟩ v5) g s pa pc t { m with nv:=v5,nn:=FK ++ [k] } ∧ w5.frozen? ⟨g,7,none⟩ = false ∧ ∃ z,w5.cell? ⟨g,7,none⟩ = some z):=fun v5 w5 h1 h2 h3 => by
      have hb5 : Below o.heap.size o w5:=HMa.out.bl.grown h2 HMa.out.bl.size (own_blkI HMa.out.lst)
      have hgk : w5.heap[g]? = (W2.alloc (.cells #[.int .i64 (k : Int)] 3)).heap[g]?:=h2.block g (blk_lt HMa.out.blk) (fun e => own_neB HMa.out.lst HMa.out.blk (by decide) e.symm)
      refine ⟨?_,by rw [World.frozen?_of_block hgk];exact HMa.out.fz 7,_,by rw [World.cell?_of_block hgk];exact HMa.out.c7⟩
      refine HMa.out.setNv (FK ++ [k]) v5 ?_ (fun b hb hne => h2.block b hb (fun e => hne e.symm)) ?_ hb5
      ·rw [List.length_append,natV,List.map_append];exact h1
      ·rcases h3 with h3 | h3
       ·exact .inl h3
       ·exact .inr ⟨_,h3,Nat.le_refl _⟩
     have hown0 : (W2.alloc (.cells #[.int .i64 (k : Int)] 3)).ownsRow o.heap.size 3 1 (.slice la2 FK.length lc2) FK.length (natV FK):=HMa.out.lst
     have hbz : o.heap.size ≤ (W2.alloc (.cells #[.int .i64 (k : Int)] 3)).heap.size:=HMa.out.bl.size
     have HOw:=ζ hown0
     obtain ⟨FN,hFN⟩ : ∃ FN,FN = FK ++ [k]:=⟨_,rfl⟩
     have HFZ : Hid (FN = (List.range (k + 1)).filter (Mc.can s t)):=by show _ = _;rw [hFN];exact HFZ0.out
     clear HFZ0;have HF6 : Hid (∀ v5 w5,w5.ownsRow o.heap.size 3 1 v5 (FK.length + 1) (natV FK ++ [.int .i64 (k : Int)]) → (W2.alloc (.cells #[.int .i64 (k : Int)] 3)).grownBy w5 (Value.slice la2 FK.length lc2).ownBlock → (v5.ownBlock = (Value.slice la2 FK.length lc2).ownBlock ∨ v5.ownBlock = some (W2.alloc (.cells #[.int .i64 (k : Int)] 3)).heap.size) → ∃ va vc,v5 = .slice va (FK.length + 1) vc ∧ PM o (w5.setCell ⟨g,7,none⟩ v5) g s pa pc t { m with nv:=.slice va FN.length vc,nn:=FN } ∧ w5.frozen? ⟨g,7,none⟩ = false ∧ ∃ z,w5.cell? ⟨g,7,none⟩ = some z):=fun v5 w5 h1 h2 h3 => by
      obtain ⟨va,vc,e⟩:=own_open13 h1
      obtain ⟨h4,h5,h6⟩:=HF5.out v5 w5 h1 h2 h3
      refine ⟨va,vc,e,?_,h5,h6⟩
      rw [e] at h4 ⊢;rw [hFN,List.length_append,List.length_singleton];exact h4
     clear hown0 HF5 hFN;go_wp2_with (at_builtin;refine wpList_append_own_at _ rfl _ _ 24 rfl o.heap.size 3 i3 (.int .i64 0) 1 8 Try.underlying24 hi3 hz30 hz31 hz32 rfl (by decide) _ FK.length (natV FK) rfl HOw.out ⟨W2.heap.size,0,none⟩ 1 1 [.int .i64 (k : Int)] rfl rfl (cell_one_new _ _ _) (by simp [Value.oneCell']) (by unfold maxLen;omega) (by omega) hbz ?_;(intro v5 w5 h51 h52 _ h53);obtain ⟨va,vc,rfl,h54,h55,z5,h56⟩:=HF6.out v5 w5 h51 h52 h53;have HM5:=ζ h54;clear h51 h52 h53 h54 HF6)
     refine HKd.out _ _ ?_;clear h55 h56;generalize World.setCell _ _ _ = X5 at *;go_wp2;go_roundw
     case rel => exact ⟨k + 1,va,vc,FN,HLT.out,by go_num,HM5,HFZ⟩
     case measure => simp [intOf];have:=HLT.out;omega
    | false =>
     have HFZ : Hid (FK = (List.range (k + 1)).filter (Mc.can s t)):=HFf.out HCk.out
     clear HFt HFf HCk;go_wp2;refine HKd.out _ _ ?_;go_wp2;go_roundw
     case rel => exact ⟨k + 1,_,_,_,HLT.out,by go_num,HM1,HFZ⟩
     case measure => simp [intOf];have:=HLT.out;omega
  ·have hkn : n = k:=by omega
   subst hkn;have HFK2 : Hid (FK = Mc.ready s t):=by show _ = _;rw [HFK.out,HR.out]
   have c7 : wr.cell? ⟨g,7,none⟩ = some (.slice la2 FK.length lc2):=HM.out.c7
   go_wp2;refine HK.out _ _ ?_;go_wp2;rw [HP.out];exact ⟨_,rfl,by rw [← HFK2.out];exact HM.out⟩
end LW
end Go.Proofs.Ytfbnakmmmphedaa
namespace Go.Proofs.Ytfbnakmmmphedaa
open Go.RowKit
namespace LW
open Mc
abbrev flP (why : Int) : List PanicEntry:=[{ v:=.iface 77 (.agg #[.int .i64 why]),recovered:=false }]
theorem PM.chAt {o W : World} {g : Nat} {s : Syst} {pa : Option Addr} {pc : Nat} {t : St} {m : PV} (h : PM o W g s pa pc t m) (c : Nat) (hc : c < t.held.length) {b cap : Nat} (e : m.hv = .slice (some ⟨b,0,none⟩) t.held.length cap) : (∀ i,W.frozen? ⟨b,i,none⟩ = false) ∧ W.cell? ⟨b,c * 3,none⟩ = some (.int .i64 (s.rooms.getD c 0)) ∧ W.cell? ⟨b,c * 3 + 1,none⟩ = some (qn m.qs c) ∧ W.cell? ⟨b,c * 3 + 2,none⟩ = some (.bool (t.shut.getD c false)):=by
 obtain ⟨b',cap',e',_,h1,h2,h3,h4⟩:=h.ch1 c hc
 rw [e] at e'
 injection e' with e1 _ _
 injection e1 with e1
 injection e1 with e1
 subst e1
 exact ⟨h1,h2,h3,h4⟩
def PutQ (o : World) (g : Nat) (s : Syst) (pa : Option Addr) (pc : Nat) (t : St) (m : PV) (c : Nat) (v : Int) : Ending → World → Prop:=fun e w' => (t.shut.getD c false = true ∧ e = .panicked (flP 131) ∧ PM o w' g s pa pc t m) ∨ (t.shut.getD c false = false ∧ e = .returned (.tuple #[]) ∧ ∃ q,PM o w' g s pa pc { t with held:=t.held.set c (t.held.getD c [] ++ [v]) } { m with qs:=m.qs.set c q })
theorem pput {o : World} {g : Nat} {s : Syst} {pa : Option Addr} {pc : Nat} {t : St} {m : PV} (c : Nat) (v : Int) (hb cap : Nat) (w : World) (h : PM o w g s pa pc t m) (hc : c < t.held.length) (e2 : m.hv = .slice (some ⟨hb,0,none⟩) t.held.length cap) (hq : (t.held.getD c []).length + 1 ≤ 1048576) :
  Calls Try.prog 65 #[.pointer (some ⟨hb,c * 3,none⟩),.int .i64 v] w (PutQ o g s pa pc t m c v):=by
 obtain ⟨fz,x0,x1,x2⟩:=h.chAt c hc e2
 obtain ⟨qa,qc,eq⟩:=(h.qus c hc).sl
 obtain ⟨POST,hP⟩ : ∃ P,P = PutQ o g s pa pc t m c v:=⟨_,rfl⟩
 have hHP : ∀ e w',((t.shut.getD c false = true ∧ e = .panicked (flP 131) ∧ PM o w' g s pa pc t m) ∨ (t.shut.getD c false = false ∧ e = .returned (.tuple #[]) ∧ ∃ q,PM o w' g s pa pc { t with held:=t.held.set c (t.held.getD c [] ++ [v]) } { m with qs:=m.qs.set c q })) → POST e w':=fun e w' h => by rw [hP];exact h
 have HP:=ζ hHP
 rw [← hP]
 clear hP hHP
 have hA : Below w.heap.size w (w.alloc (.cells #[.int .i64 v] 3)):=(Below.refl _ _).alloc (Nat.le_refl _) _
 have HMa:=ζ (h.below hA)
 have HM:=ζ h
 have HF : Hid (∀ v' w',Qu w' v' (t.held.getD c [] ++ [v]) → (∀ b,b < (w.alloc (.cells #[.int .i64 v] 3)).heap.size → (qn m.qs c).ownBlock ≠ some b → w'.heap[b]? = (w.alloc (.cells #[.int .i64 v] 3)).heap[b]?) → (v'.ownBlock = (qn m.qs c).ownBlock ∨ ∃ b,v'.ownBlock = some b ∧ (w.alloc (.cells #[.int .i64 v] 3)).heap.size ≤ b) → (∀ B o,Below B o (w.alloc (.cells #[.int .i64 v] 3)) → B ≤ (w.alloc (.cells #[.int .i64 v] 3)).heap.size → (∀ b,(qn m.qs c).ownBlock = some b → B ≤ b) → Below B o w') → (∃ xa xc,v' = .slice xa ((t.held.getD c []).length + 1) xc) ∧ (PM o (w'.setCell ⟨hb,c * 3 + 1,none⟩ v') g s pa pc { t with held:=t.held.set c (t.held.getD c [] ++ [v]) } { m with qs:=m.qs.set c v' }) ∧ w'.frozen? ⟨hb,c * 3 + 1,none⟩ = false ∧ ∃ z,w'.cell? ⟨hb,c * 3 + 1,none⟩ = some z):=fun v' w' h1 h2 h3 h4 => by
  have hB:=h4 _ _ HMa.out.bl HMa.out.bl.size (fun b hb => HMa.out.qB.2 c b hb)
  obtain ⟨_,cur,hh⟩:=row_is HMa.out.chs e2 (by omega)
  have hk : w'.heap[hb]? = (w.alloc (.cells #[.int .i64 v] 3)).heap[hb]?:=h2 hb (blk_lt hh) (Qu.nB (HMa.out.qus c hc) hh (by decide))
  obtain ⟨f1,_,f2,_⟩:=HMa.out.chAt c hc e2
  refine ⟨?_,HMa.out.putQ e2 c hc _ v' h1 h2 h3 hB,by rw [World.frozen?_of_block hk];exact f1 _,_,by rw [World.cell?_of_block hk];exact f2⟩
  obtain ⟨xa,xc,e⟩:=h1.sl
  exact ⟨xa,xc,by rw [e,List.length_append,List.length_singleton]⟩
 obtain ⟨n1,hn1⟩ : ∃ n1,(t.held.getD c []).length + 1 = n1:=⟨_,rfl⟩
 have HQ:=ζ (HMa.out.qus c hc)
 rw [eq] at x1 HF HQ
 rw [hn1] at HF
 have HQl:=ζ hq
 generalize t.shut.getD c false = sh at *
 generalize t.held.getD c [] = XS at *
 have hx1 : (w.alloc (.cells #[.int .i64 v] 3)).cell? ⟨hb,c * 3 + 1,none⟩ = some (.slice qa XS.length qc):=keepC hA x1
 clear h e2 eq hA hq hn1
 go_enter Try.func65,Try.ntmps65
 cases sh with
 | true =>
  go_wp2;exact ⟨rfl,HP.out _ _ (.inl ⟨by trivial,rfl,HM.out⟩)⟩
 | false =>
  go_wp2_with (at_builtin;refine wpList_plain rfl fun KX hKX => ?_;refine wp_append_q _ _ _ (by rfl) (.slice qa XS.length qc) XS (by rfl) HQ.out w.heap.size v (by rfl) (blk_cell (heap_alloc_new w _) rfl) HQl.out ?_;(intro v' w' hQ' hk' hs' hv' hbl');obtain ⟨⟨xa,xc,rfl⟩,hM',fz',z',cz'⟩:=HF.out v' w' hQ' hk' hv' hbl';refine hKX _ _ ?_;have HM':=ζ hM';clear hQ' hk' hs' hv' hbl' hM' hKX HF)
  go_end0
  exact HP.out _ _ (.inr ⟨by trivial,rfl,_,HM'.out⟩)
def TakQ (o : World) (g : Nat) (s : Syst) (pa : Option Addr) (pc : Nat) (t : St) (m : PV) (c : Nat) : Ending → World → Prop:=fun e w' => (t.held.getD c [] = [] ∧ e = .returned (.tuple #[.int .i64 0,.bool false]) ∧ PM o w' g s pa pc t m) ∨ (t.held.getD c [] ≠ [] ∧ e = .returned (.tuple #[.int .i64 ((t.held.getD c []).headD 0),.bool true]) ∧ ∃ q,PM o w' g s pa pc { t with held:=t.held.set c (t.held.getD c []).tail } { m with qs:=m.qs.set c q })
theorem ptakeI {o : World} {g : Nat} {s : Syst} {pa : Option Addr} {pc : Nat} {t : St} {m : PV} (c hb cap : Nat) (w : World) (gi : Nat) (ty : TypeId) (ci : Array Value) (ht : ty ≠ 71) (_ht2 : ty ≠ 3) (hI : w.heap[gi]? = some (.cells ci ty (0,0))) (h : PM o w g s pa pc t m) (hc : c < t.held.length) (e2 : m.hv = .slice (some ⟨hb,0,none⟩) t.held.length cap) (hq : (t.held.getD c []).length ≤ 1048576) :
  Calls Try.prog 66 #[.pointer (some ⟨hb,c * 3,none⟩)] w fun e w' => TakQ o g s pa pc t m c e w' ∧ w'.heap[gi]? = some (.cells ci ty (0,0)):=by
 obtain ⟨fz,x0,x1,x2⟩:=h.chAt c hc e2
 obtain ⟨qa,qc,eq⟩:=(h.qus c hc).sl
 have hQ:=h.qus c hc
 rw [eq] at x1 hQ
 have HM:=ζ h
 have HII:=ζ hI
 have HIS : Hid (∀ j u,(w.setCell ⟨hb,j,none⟩ u).heap[gi]? = some (.cells ci ty (0,0))):=fun j u => by
  obtain ⟨_,cur,hh⟩:=row_is h.chs e2 (by omega)
  exact blk_setN hI hh ht
 obtain ⟨POST,hP⟩ : ∃ P : Ending → World → Prop,P = fun e w' => TakQ o g s pa pc t m c e w' ∧ w'.heap[gi]? = some (.cells ci ty (0,0)):=⟨_,rfl⟩
 have hHP : ∀ e w',((t.held.getD c [] = [] ∧ e = .returned (.tuple #[.int .i64 0,.bool false]) ∧ PM o w' g s pa pc t m) ∨ (t.held.getD c [] ≠ [] ∧ e = .returned (.tuple #[.int .i64 ((t.held.getD c []).headD 0),.bool true]) ∧ ∃ q,PM o w' g s pa pc { t with held:=t.held.set c (t.held.getD c []).tail } { m with qs:=m.qs.set c q })) → w'.heap[gi]? = some (.cells ci ty (0,0)) → POST e w':=fun e w' h h2 => by rw [hP];exact ⟨h,h2⟩
 have HP:=ζ hHP
 rw [← hP]
 clear hP hHP
 by_cases hz : t.held.getD c [] = []
 ·have kz : (((t.held.getD c []).length : Int) == 0) = true:=by rw [hz];rfl
  have HZ:=ζ hz
  clear hz h e2 eq hQ hq;generalize t.held.getD c [] = XS at *;generalize XS.length = ql at *;go_enter Try.func66,Try.ntmps66
  go_wp2;exact HP.out _ _ (.inl ⟨HZ.out,rfl,HM.out⟩) HII.out
 ·have hp : 0 < (t.held.getD c []).length:=List.length_pos_iff.2 hz
  obtain ⟨qb,qo,qc',hve,hqc,xq⟩:=hQ.cell hp
  injection hve with e1 _ e3
  subst e1;subst e3;have hT:=hQ.tail hp
  have HNe:=ζ hz
  have HV : Hid ((if qc = 1 then some (⟨qb,qo,none⟩ : Addr) else some ⟨qb,qo + 1,none⟩) = if qc = 1 then some ⟨qb,qo,none⟩ else some ⟨qb,qo + 1,none⟩):=rfl
  have HM1 : Hid (PM o (w.setCell ⟨hb,c * 3 + 1,none⟩ (.slice (if qc = 1 then some ⟨qb,qo,none⟩ else some ⟨qb,qo + 1,none⟩) ((t.held.getD c []).length - 1) (qc - 1))) g s pa pc { t with held:=t.held.set c (t.held.getD c []).tail } { m with qs:=m.qs.set c (.slice (if qc = 1 then some ⟨qb,qo,none⟩ else some ⟨qb,qo + 1,none⟩) ((t.held.getD c []).length - 1) (qc - 1)) }):=h.putQ e2 c hc _ _ hT (fun _ _ _ => rfl) (.inl (by rw [eq];by_cases h1 : qc = 1 <;> simp [h1,Value.ownBlock])) h.bl
  rw [← headD_getD] at xq;clear h e2 eq hQ hT HM hz;generalize t.held.getD c [] = XS at *;generalize XS.headD 0 = v0 at *;generalize hql : XS.length = ql at *;have kq : ((ql : Int) == 0) = false:=by simp;omega
  have qp : (0 : Int) < (ql : Int):=by omega
  have qpn : 0 < ql:=by omega
  have hqI : (1 : Int) ≤ (ql : Int):=by omega
  have hqJ : (ql : Int) ≤ (qc : Int):=by omega
  go_enter Try.func66,Try.ntmps66
  by_cases hc1 : qc = 1
  ·rw [if_pos hc1] at HM1
   subst hc1;have hq1 : ql = 1:=by omega
   subst hq1;go_wp2;exact HP.out _ _ (.inr ⟨HNe.out,rfl,_,HM1.out⟩) (HIS.out _ _)
  ·rw [if_neg hc1] at HM1
   go_wp2;exact HP.out _ _ (.inr ⟨HNe.out,rfl,_,HM1.out⟩) (HIS.out _ _)
def ShuQ (o : World) (g : Nat) (s : Syst) (pa : Option Addr) (pc : Nat) (t : St) (m : PV) (c : Nat) : Ending → World → Prop:=fun e w' => (t.shut.getD c false = true ∧ e = .panicked (flP 132) ∧ PM o w' g s pa pc t m) ∨ (t.shut.getD c false = false ∧ e = .returned (.tuple #[]) ∧ PM o w' g s pa pc { t with shut:=t.shut.set c true } m)
theorem pshut {o : World} {g : Nat} {s : Syst} {pa : Option Addr} {pc : Nat} {t : St} {m : PV} (c hb cap : Nat) (w : World) (h : PM o w g s pa pc t m) (hc : c < t.held.length) (hl : t.shut.length = t.held.length) (e2 : m.hv = .slice (some ⟨hb,0,none⟩) t.held.length cap) :
  Calls Try.prog 67 #[.pointer (some ⟨hb,c * 3,none⟩)] w (ShuQ o g s pa pc t m c):=by
 obtain ⟨fz,x0,x1,x2⟩:=h.chAt c hc e2
 have f2:=fz (c * 3 + 2)
 have HM:=ζ h
 have HM1:=ζ (h.setSh e2 c hc hl true)
 generalize hsh : t.shut.getD c false = sh at *
 have HSh:=ζ hsh
 clear h e2 hsh fz x0 x1
 obtain ⟨POST,hP⟩ : ∃ P,P = ShuQ o g s pa pc t m c:=⟨_,rfl⟩
 have HP:=ζ hP
 rw [← hP]
 clear hP
 go_enter Try.func67,Try.ntmps67
 cases sh with
 | true =>
  go_wp2;rw [HP.out];exact ⟨rfl,.inl ⟨HSh.out,rfl,HM.out⟩⟩
 | false =>
  go_wp2;go_end0
  rw [HP.out];exact .inr ⟨HSh.out,rfl,HM1.out⟩
def FreQ (o : World) (g : Nat) (s : Syst) (pa : Option Addr) (pc : Nat) (t : St) (m : PV) (c : Nat) : Ending → World → Prop:=fun e w' => (t.locked.getD c false = false ∧ e = .panicked (flP 133) ∧ PM o w' g s pa pc t m) ∨ (t.locked.getD c false = true ∧ e = .returned (.tuple #[]) ∧ PM o w' g s pa pc { t with locked:=t.locked.set c false } m)
theorem pfree {o : World} {g : Nat} {s : Syst} {pa : Option Addr} {pc : Nat} {t : St} {m : PV} (c : Nat) (w : World) (h : PM o w g s pa pc t m) (hc : c < t.locked.length) :
  Calls Try.prog 68 #[.pointer (some ⟨g,0,none⟩),.int .i64 (c : Int)] w (FreQ o g s pa pc t m c):=by
 obtain ⟨lb,lcp,e4,_,fz,x0⟩:=h.lk1 c hc
 have HM:=ζ h
 have HM1:=ζ (h.setLk e4 (by omega) c false)
 have c4:=h.c4
 rw [e4] at c4
 have q1 : (c : Int) < (t.locked.length : Int):=by omega
 have q0 : (0 : Int) ≤ (c : Int):=by omega
 generalize hsh : t.locked.getD c false = sh at *
 have HSh:=ζ hsh
 clear h e4 hsh hc
 obtain ⟨POST,hP⟩ : ∃ P,P = FreQ o g s pa pc t m c:=⟨_,rfl⟩
 have HP:=ζ hP
 rw [← hP]
 clear hP
 generalize t.locked.length = n at *
 go_enter Try.func68,Try.ntmps68
 cases sh with
 | false =>
  go_wp2;rw [HP.out];exact ⟨rfl,.inl ⟨HSh.out,rfl,HM.out⟩⟩
 | true =>
  go_wp2;go_end0
  rw [HP.out];exact .inr ⟨HSh.out,rfl,HM1.out⟩
def GroQ (o : World) (g : Nat) (s : Syst) (pa : Option Addr) (pc : Nat) (t : St) (m : PV) (c : Nat) (x : Int) : Ending → World → Prop:=fun e w' => (x < 0 ∧ e = .panicked (flP 134) ∧ PM o w' g s pa pc t m) ∨ (¬ x < 0 ∧ e = .returned (.tuple #[]) ∧ PM o w' g s pa pc { t with groups:=t.groups.set c x } m)
theorem pgrow {o : World} {g : Nat} {s : Syst} {pa : Option Addr} {pc : Nat} {t : St} {m : PV} (c : Nat) (x : Int) (w : World) (h : PM o w g s pa pc t m) (hc : c < t.groups.length) :
  Calls Try.prog 69 #[.pointer (some ⟨g,0,none⟩),.int .i64 (c : Int),.int .i64 x] w (GroQ o g s pa pc t m c x):=by
 obtain ⟨lb,lcp,e4,_,fz,x0⟩:=h.gr1 c hc
 have HM:=ζ h
 have HM1:=ζ (h.setGr e4 (by omega) c x)
 have c3:=h.c3
 rw [e4] at c3
 have q1 : (c : Int) < (t.groups.length : Int):=by omega
 have q0 : (0 : Int) ≤ (c : Int):=by omega
 clear h e4 hc
 obtain ⟨POST,hP⟩ : ∃ P,P = GroQ o g s pa pc t m c x:=⟨_,rfl⟩
 have HP:=ζ hP
 rw [← hP]
 clear hP
 generalize t.groups.length = n at *
 go_enter Try.func69,Try.ntmps69
 by_cases hx : x < 0
 ·have HX:=ζ hx
  go_wp2;rw [HP.out];exact ⟨rfl,.inl ⟨HX.out,rfl,HM.out⟩⟩
 ·have HX:=ζ hx
  go_wp2;go_end0
  rw [HP.out];exact .inr ⟨by have:=HX.out;omega,rfl,HM1.out⟩
end LW
end Go.Proofs.Ytfbnakmmmphedaa
namespace Go.Proofs.Ytfbnakmmmphedaa
open Go.RowKit
namespace LW
open Mc
theorem ptrinfo : (Try.prog.info? 72).map (fun i => (i.zero,i.size,i.bytes)) = some (some (.pointer none),1,8):=by kernel_rfl
theorem aT_new (s : Syst) (c : Nat) (rg : List Int) : aT s ⟨(c : Int),0,rg,(pg s (c : Int)).isEmpty⟩ = 0:=by
 unfold aT
 dsimp only
 cases h : pg s (c : Int) with
 | nil => simp
 | cons a l => simp
def StaQ (o : World) (g : Nat) (s : Syst) (pa : Option Addr) (pc : Nat) (t : St) (m : PV) (c k : Nat) : Ending → World → Prop:=fun e w' => (512 ≤ t.rns.length ∧ e = .panicked (flP 135) ∧ PM o w' g s pa pc t m) ∨ (¬ 512 ≤ t.rns.length ∧ e = .returned (.int .i64 (t.rns.length : Int)) ∧ ∃ v b,PM o w' g s pa pc { t with rns:=t.rns ++ [⟨(c : Int),0,(Mc.rn t k).regs,(pg s (c : Int)).isEmpty⟩] } { m with rv:=v,ps:=m.ps ++ [b] })
theorem pstart {o : World} {g : Nat} {s : Syst} {pa : Option Addr} {pc : Nat} {t : St} {m : PV} (c k : Nat) (w : World) (h : PM o w g s pa pc t m) (hg1 : 1 ≤ t.rns.length) (hg2 : t.rns.length ≤ 512) (hc : c < s.progs.length) (hk : k < t.rns.length) :
  Calls Try.prog 70 #[.pointer (some ⟨g,0,none⟩),.int .i64 (c : Int),.pointer (some ⟨m.ps.getD k 0,0,none⟩)] w (StaQ o g s pa pc t m c k):=by
 obtain ⟨rb,rcap,e1,hrbB,_⟩:=h.rn1 k hk
 obtain ⟨pb,po,hpa,hpr⟩:=h.pr
 obtain ⟨A,K0,ei,hcell,hir⟩:=hpr c hc
 subst hpa
 have hn2:=hg2
 obtain ⟨POST,hP⟩ : ∃ P,P = StaQ o g s (some ⟨pb,po,none⟩) pc t m c k:=⟨_,rfl⟩
 have HP:=ζ hP
 rw [← hP]
 clear hP
 have HM:=ζ h
 have HK_:=ζ hk
 have HPo : Hid (pb < o.heap.size):=lt_of_cell hcell
 have HCl : Hid (o.cell? ⟨pb,po + c,none⟩ = some (.slice A (s.progs.getD c []).length K0)):=by show _ = _;rw [← ei];exact hcell
 have HNw : Hid (∀ W : World,W.heap[m.ps.getD k 0]? = some (.cells (rpC s m.iv (Mc.rn t k)) 75 (0,0)) → W.rangeAt (m.ps.getD k 0) 2 [.int .i64 ((Mc.rn t k).regs.getD 0 0),.int .i64 ((Mc.rn t k).regs.getD 1 0),.int .i64 ((Mc.rn t k).regs.getD 2 0),.int .i64 ((Mc.rn t k).regs.getD 3 0),.int .i64 ((Mc.rn t k).regs.getD 4 0),.int .i64 ((Mc.rn t k).regs.getD 5 0),.int .i64 ((Mc.rn t k).regs.getD 6 0),.int .i64 ((Mc.rn t k).regs.getD 7 0)]):=fun W hW j v hv => by
  match j,hv with
  | 0,hv => injection hv with hv;subst hv;exact blk_cell hW rfl
  | 1,hv => injection hv with hv;subst hv;exact blk_cell hW rfl
  | 2,hv => injection hv with hv;subst hv;exact blk_cell hW rfl
  | 3,hv => injection hv with hv;subst hv;exact blk_cell hW rfl
  | 4,hv => injection hv with hv;subst hv;exact blk_cell hW rfl
  | 5,hv => injection hv with hv;subst hv;exact blk_cell hW rfl
  | 6,hv => injection hv with hv;subst hv;exact blk_cell hW rfl
  | 7,hv => injection hv with hv;subst hv;exact blk_cell hW rfl
 have HRp : Hid (rpC s m.iv ⟨(c : Int),0,(Mc.rn t k).regs,(pg s (c : Int)).isEmpty⟩ = #[.slice A (s.progs.getD c []).length K0,.int .i64 0,.int .i64 ((Mc.rn t k).regs.getD 0 0),.int .i64 ((Mc.rn t k).regs.getD 1 0),.int .i64 ((Mc.rn t k).regs.getD 2 0),.int .i64 ((Mc.rn t k).regs.getD 3 0),.int .i64 ((Mc.rn t k).regs.getD 4 0),.int .i64 ((Mc.rn t k).regs.getD 5 0),.int .i64 ((Mc.rn t k).regs.getD 6 0),.int .i64 ((Mc.rn t k).regs.getD 7 0)]):=by
  show _ = _
  unfold rpC;rw [aT_new];show #[m.iv ((c : Int).toNat),_,_,_,_,_,_,_,_,_] = _
  rw [Int.toNat_natCast,ei]
 have HRB:=ζ (h.rnB k hk)
 have HE1:=ζ e1
 have c1:=h.c1
 rw [e1] at c1
 clear h e1 hpr ei hcell hir hk
 generalize (Mc.rn t k).regs.getD 0 0 = u0 at HNw HRp
 generalize (Mc.rn t k).regs.getD 1 0 = u1 at HNw HRp
 generalize (Mc.rn t k).regs.getD 2 0 = u2 at HNw HRp
 generalize (Mc.rn t k).regs.getD 3 0 = u3 at HNw HRp
 generalize (Mc.rn t k).regs.getD 4 0 = u4 at HNw HRp
 generalize (Mc.rn t k).regs.getD 5 0 = u5 at HNw HRp
 generalize (Mc.rn t k).regs.getD 6 0 = u6 at HNw HRp
 generalize (Mc.rn t k).regs.getD 7 0 = u7 at HNw HRp
 have HBk : Hid (∀ W,PM o W g s (some ⟨pb,po,none⟩) pc t m → W.heap[m.ps.getD k 0]? = some (.cells (rpC s m.iv (Mc.rn t k)) 75 (0,0))):=fun W hW => hW.rnB k HK_.out
 obtain ⟨pk,hpk⟩ : ∃ pk,m.ps.getD k 0 = pk:=⟨_,rfl⟩
 rw [hpk] at HNw HBk ⊢
 clear hpk HRB
 obtain ⟨pl,hpl⟩ : ∃ pl,(s.progs.getD c []).length = pl:=⟨_,rfl⟩
 rw [hpl] at HRp HCl
 clear hpl
 have q1 : (c : Int) < (s.progs.length : Int):=by omega
 have q0 : (0 : Int) ≤ (c : Int):=by omega
 obtain ⟨n,hn⟩ : ∃ n,t.rns.length = n:=⟨_,rfl⟩
 have HN:=ζ hn
 rw [hn] at c1 hn2
 obtain ⟨pn,hpn⟩ : ∃ pn,s.progs.length = pn:=⟨_,rfl⟩
 have HPN:=ζ hpn
 rw [hpn] at q1
 clear hn hpn hc
 go_enter Try.func70,Try.ntmps70
 by_cases hN : n = 512
 ·have kN : ((n : Int) == 512) = true:=by simp;omega
  have HN5:=ζ hN
  clear hN;go_wp2;rw [HP.out];exact ⟨rfl,.inl ⟨by rw [HN.out,HN5.out];exact Nat.le_refl _,rfl,HM.out⟩⟩
 have kN : ((n : Int) == 512) = false:=by simp;omega
 have HN5:=ζ hN
 clear hN
 refine wp_seq_k fun K hK => ?_
 have HK:=ζ hK
 clear hK
 go_wp2
 refine HK.out _ _ ?_
 clear HK K
 refine wp_seq_k fun K hK => ?_
 have HK:=ζ hK
 clear hK
 go_wp2
 refine HK.out _ _ ?_
 clear HK K
 refine wp_seq_k fun K hK => ?_
 have HK:=ζ hK
 clear hK
 go_wp2
 refine HK.out _ _ ?_
 clear HK K c1
 refine wp_seq_k fun K hK => ?_
 have HK:=ζ hK
 clear hK
 refine wp_region_noPanic ?_
 refine RG.wp_region_L (fun Z => Z.cell? ⟨g,1,none⟩ = some (.slice (some ⟨rb,0,none⟩) n rcap) ∧ Z.cell? ⟨g,0,none⟩ = some (.slice (some ⟨pb,po,none⟩) pn pc) ∧ Z.cell? ⟨pb,po + c,none⟩ = some (.slice A pl K0) ∧ Z.rangeAt pk 2 [.int .i64 u0,.int .i64 u1,.int .i64 u2,.int .i64 u3,.int .i64 u4,.int .i64 u5,.int .i64 u6,.int .i64 u7]) (fun Z => True) [22] (by kernel_rfl) ?_
 refine RG.wpL_any fun Ya hY => ?_
 have HBa : Hid (Below w.heap.size w Ya):=by rw [hY];exact below_drewN (Below.refl _ _) 1
 clear hY
 have HMa:=ζ (HM.out.below HBa.out)
 have HSa : Hid (Ya.cell? ⟨g,1,none⟩ = some (.slice (some ⟨rb,0,none⟩) n rcap) ∧ Ya.cell? ⟨g,0,none⟩ = some (.slice (some ⟨pb,po,none⟩) pn pc) ∧ Ya.cell? ⟨pb,po + c,none⟩ = some (.slice A pl K0) ∧ Ya.rangeAt pk 2 [.int .i64 u0,.int .i64 u1,.int .i64 u2,.int .i64 u3,.int .i64 u4,.int .i64 u5,.int .i64 u6,.int .i64 u7]):=⟨by rw [HMa.out.c1,HE1.out,HN.out],by rw [HMa.out.c0,HPN.out],keepC HMa.out.bl HCl.out,HNw.out _ (HBk.out _ HMa.out)⟩
 clear HBa
 refine RG.wpL_take (fuel:=6) (a':=?Aa) [0,1,2,3,4,5,6,7,8,9,10,11,12,13,14,15,16] (by kernel_rfl) (by kernel_rfl) (fun _ _ _ _ _ h => h) trivial (fun _ => HSa.out) ?ra ?_
 case ra =>
  iterate 4
   refine RG.rW ?_ (fun Z hT => ?_) ?_
   rotate_left
   ·go_simp
    rfl
   simp only [Act.put,lA,lB,lC,lD,lE,lF]
  refine RG.RunsIf.strong (v:=.slice (some ⟨rb,0,none⟩) n rcap) (by rfl) (by kernel_rfl) (by rfl) (fun Z hT hS => ?_) ?_
  ·obtain ⟨g1,g2,g3,g4⟩:=hS
   go_simp
  simp only [Act.put,lA,lB,lC,lD,lE,lF]
  iterate 3
   refine RG.rW ?_ (fun Z hT => ?_) ?_
   rotate_left
   ·go_simp
    rfl
   simp only [Act.put,lA,lB,lC,lD,lE,lF]
  refine RG.RunsIf.strong (v:=.slice (some ⟨pb,po,none⟩) pn pc) (by rfl) (by kernel_rfl) (by rfl) (fun Z hT hS => ?_) ?_
  ·obtain ⟨g1,g2,g3,g4⟩:=hS
   go_simp
  simp only [Act.put,lA,lB,lC,lD,lE,lF]
  iterate 2
   refine RG.rW ?_ (fun Z hT => ?_) ?_
   rotate_left
   ·go_simp
    rfl
   simp only [Act.put,lA,lB,lC,lD,lE,lF]
  refine RG.RunsIf.strong (v:=.slice A pl K0) (by rfl) (by kernel_rfl) (by rfl) (fun Z hT hS => ?_) ?_
  ·obtain ⟨g1,g2,g3,g4⟩:=hS
   go_simp
  simp only [Act.put,lA,lB,lC,lD,lE,lF]
  iterate 3
   refine RG.rW ?_ (fun Z hT => ?_) ?_
   rotate_left
   ·go_simp
    rfl
   simp only [Act.put,lA,lB,lC,lD,lE,lF]
  refine RG.RunsIf.strong (v:=.agg #[.int .i64 u0,.int .i64 u1,.int .i64 u2,.int .i64 u3,.int .i64 u4,.int .i64 u5,.int .i64 u6,.int .i64 u7]) (by rfl) (by kernel_rfl) (by rfl) (fun Z hT hS => exec_load_mid 73 _ (by rfl) pk 2 (by rfl) [.int .i64 u0,.int .i64 u1,.int .i64 u2,.int .i64 u3,.int .i64 u4,.int .i64 u5,.int .i64 u6,.int .i64 u7] _ hS.2.2.2 Try.underlying73 rfl (by kernel_rfl)) ?_
  simp only [Act.put,lA,lB,lC,lD,lE,lF]
  refine RG.rW (.agg #[.slice A pl K0,.int .i64 0,.int .i64 u0,.int .i64 u1,.int .i64 u2,.int .i64 u3,.int .i64 u4,.int .i64 u5,.int .i64 u6,.int .i64 u7]) (fun Z hT => ?_) ?_
  ·go_simp
  simp only [Act.put,lA,lB,lC,lD,lE,lF]
  exact RG.RunsIf.nil
 refine RG.wpL_step (i:=17) (by kernel_rfl) (by rfl) (by rfl) (fun KX hK => ?_)
 have HK:=ζ hK
 clear hK
 go_simp
 have hAa : Below Ya.heap.size Ya (Ya.alloc (.cells #[.slice A pl K0,.int .i64 0,.int .i64 u0,.int .i64 u1,.int .i64 u2,.int .i64 u3,.int .i64 u4,.int .i64 u5,.int .i64 u6,.int .i64 u7] 75)):=(Below.refl _ _).alloc (Nat.le_refl _) _
 have HSb : Hid ((Ya.alloc (.cells #[.slice A pl K0,.int .i64 0,.int .i64 u0,.int .i64 u1,.int .i64 u2,.int .i64 u3,.int .i64 u4,.int .i64 u5,.int .i64 u6,.int .i64 u7] 75)).cell? ⟨g,1,none⟩ = some (.slice (some ⟨rb,0,none⟩) n rcap) ∧ (Ya.alloc (.cells #[.slice A pl K0,.int .i64 0,.int .i64 u0,.int .i64 u1,.int .i64 u2,.int .i64 u3,.int .i64 u4,.int .i64 u5,.int .i64 u6,.int .i64 u7] 75)).cell? ⟨g,0,none⟩ = some (.slice (some ⟨pb,po,none⟩) pn pc) ∧ (Ya.alloc (.cells #[.slice A pl K0,.int .i64 0,.int .i64 u0,.int .i64 u1,.int .i64 u2,.int .i64 u3,.int .i64 u4,.int .i64 u5,.int .i64 u6,.int .i64 u7] 75)).cell? ⟨pb,po + c,none⟩ = some (.slice A pl K0) ∧ (Ya.alloc (.cells #[.slice A pl K0,.int .i64 0,.int .i64 u0,.int .i64 u1,.int .i64 u2,.int .i64 u3,.int .i64 u4,.int .i64 u5,.int .i64 u6,.int .i64 u7] 75)).rangeAt pk 2 [.int .i64 u0,.int .i64 u1,.int .i64 u2,.int .i64 u3,.int .i64 u4,.int .i64 u5,.int .i64 u6,.int .i64 u7]):=⟨keepC hAa HSa.out.1,keepC hAa HSa.out.2.1,keepC hAa HSa.out.2.2.1,fun j v hv => keepC hAa (HSa.out.2.2.2 j v hv)⟩
 refine HK.out _ _ trivial (fun _ => HSb.out) ?_
 clear HK KX
 have HMb:=ζ (HMa.out.below hAa)
 have HNb : Hid ((Ya.alloc (.cells #[.slice A pl K0,.int .i64 0,.int .i64 u0,.int .i64 u1,.int .i64 u2,.int .i64 u3,.int .i64 u4,.int .i64 u5,.int .i64 u6,.int .i64 u7] 75)).heap[Ya.heap.size]? = some (.cells #[.slice A pl K0,.int .i64 0,.int .i64 u0,.int .i64 u1,.int .i64 u2,.int .i64 u3,.int .i64 u4,.int .i64 u5,.int .i64 u6,.int .i64 u7] 75 (0,0))):=heap_alloc_new Ya _
 have HLb : Hid (∀ j,j < t.rns.length → m.ps.getD j 0 ≠ Ya.heap.size):=fun j hj e => by have:=blk_lt (HMa.out.rnB j hj);omega
 have HOb : Hid (o.heap.size ≤ Ya.heap.size):=HMa.out.bl.size
 clear HSa hAa HMa
 generalize Ya.alloc _ = Yb at *
 generalize Ya.heap.size = gr at *
 try simp only [Act.put,lA,lB,lC,lD,lE,lF]
 refine RG.wpL_step (i:=18) (by kernel_rfl) (by rfl) (by rfl) (fun KX hK => ?_)
 have HK:=ζ hK
 clear hK
 go_simp
 have hAb : Below Yb.heap.size Yb (Yb.alloc (.cells #[.pointer (some ⟨gr,0,none⟩)] 72)):=(Below.refl _ _).alloc (Nat.le_refl _) _
 have HSc : Hid ((Yb.alloc (.cells #[.pointer (some ⟨gr,0,none⟩)] 72)).cell? ⟨g,1,none⟩ = some (.slice (some ⟨rb,0,none⟩) n rcap) ∧ (Yb.alloc (.cells #[.pointer (some ⟨gr,0,none⟩)] 72)).cell? ⟨g,0,none⟩ = some (.slice (some ⟨pb,po,none⟩) pn pc) ∧ (Yb.alloc (.cells #[.pointer (some ⟨gr,0,none⟩)] 72)).cell? ⟨pb,po + c,none⟩ = some (.slice A pl K0) ∧ (Yb.alloc (.cells #[.pointer (some ⟨gr,0,none⟩)] 72)).rangeAt pk 2 [.int .i64 u0,.int .i64 u1,.int .i64 u2,.int .i64 u3,.int .i64 u4,.int .i64 u5,.int .i64 u6,.int .i64 u7]):=⟨keepC hAb HSb.out.1,keepC hAb HSb.out.2.1,keepC hAb HSb.out.2.2.1,fun j v hv => keepC hAb (HSb.out.2.2.2 j v hv)⟩
 refine HK.out _ _ trivial (fun _ => HSc.out) ?_
 clear HK KX
 have HMc:=ζ (HMb.out.below hAb)
 have HNc:=ζ (blk_keep HNb.out hAb)
 have HQc : Hid (∀ j u,([.pointer (some ⟨gr,0,none⟩)] : List Value)[j]? = some u → (Yb.alloc (.cells #[.pointer (some ⟨gr,0,none⟩)] 72)).cell? ((⟨Yb.heap.size,0,none⟩ : Addr).add j) = some u):=fun j u hj => by
  rw [Addr.add_mid,Nat.zero_add];exact blk_cell (heap_alloc_new Yb _) (by simpa using hj)
 clear HSb hAb HMb HNb
 generalize Yb.alloc _ = Yc at *
 generalize Yb.heap.size = gq at *
 try simp only [Act.put,lA,lB,lC,lD,lE,lF]
 refine RG.wpL_step (i:=19) (by kernel_rfl) (by rfl) (by rfl) (fun KX hK => ?_)
 have HK:=ζ hK
 clear hK
 obtain ⟨ir,hir,hz0,hz1,hz2⟩:=info_parts' ptrinfo
 have hrow:=HMc.out.rns
 rw [HE1.out,HN.out] at hrow
 refine wp_append_r _ _ _ 51 (by rfl) o.heap.size 72 ir _ 1 8 Try.underlying51 hir hz0 hz1 hz2 rfl (by decide) rb n rcap (m.ps.map ptr) (by rfl) hrow ⟨gq,0,none⟩ 1 1 [.pointer (some ⟨gr,0,none⟩)] (by rfl) rfl HQc.out (by simp [Value.oneCell']) (by unfold maxLen;omega) (by omega) HMc.out.bl.size ?_
 intro v' W5 hown5 hgr5 hold5
 obtain ⟨av,cv,rfl⟩:=own_open13 hown5
 have hre : m.rv.ownBlock = some rb:=by rw [HE1.out];simp [Value.ownBlock]
 have nb : ∀ b,b < Yc.heap.size → m.rv.ownBlock ≠ some b → W5.heap[b]? = Yc.heap[b]?:=fun b hb hne => hgr5.block b hb (fun e => hne (by rw [hre];exact e.symm))
 have hbg : W5.heap[g]? = Yc.heap[g]?:=nb g (blk_lt HMc.out.blk) (own_neB HMc.out.rns HMc.out.blk (by decide))
 have hbr : W5.heap[gr]? = Yc.heap[gr]?:=nb gr (blk_lt HNc.out) (own_neB HMc.out.rns HNc.out (by decide))
 have hbk : W5.heap[pk]? = Yc.heap[pk]?:=nb pk (blk_lt (HBk.out _ HMc.out)) (own_neB HMc.out.rns (HBk.out _ HMc.out) (by decide))
 have hbp : W5.heap[pb]? = Yc.heap[pb]?:=nb pb (lt_of_cell HSc.out.2.2.1) (fun e => by rw [hre] at e;injection e with e;have:=HPo.out;omega)
 have hb5 : Below o.heap.size o W5:=HMc.out.bl.grown hgr5 HMc.out.bl.size (fun q hq => by injection hq with hq;omega)
 have HS5 : Hid (W5.cell? ⟨g,1,none⟩ = some (.slice (some ⟨rb,0,none⟩) n rcap) ∧ W5.cell? ⟨g,0,none⟩ = some (.slice (some ⟨pb,po,none⟩) pn pc) ∧ W5.cell? ⟨pb,po + c,none⟩ = some (.slice A pl K0) ∧ W5.rangeAt pk 2 [.int .i64 u0,.int .i64 u1,.int .i64 u2,.int .i64 u3,.int .i64 u4,.int .i64 u5,.int .i64 u6,.int .i64 u7]):=⟨by rw [cell_of hbg];exact HSc.out.1,by rw [cell_of hbg];exact HSc.out.2.1,by rw [cell_of hbp];exact HSc.out.2.2.1,fun j v hv => by rw [cell_of hbk];exact HSc.out.2.2.2 j v hv⟩
 have HM5:=ζ (HMc.out.addRn ⟨(c : Int),0,(Mc.rn t k).regs,(pg s (c : Int)).isEmpty⟩ gr (.slice av (n + 1) cv) (by rw [HN.out];exact hown5) nb hb5 (by rw [hbr,HRp.out];exact HNc.out) HLb.out HOb.out)
 have cz:=HS5.out.1
 have fz : W5.frozen? ⟨g,1,none⟩ = false:=by simp [World.frozen?,hbg,HMc.out.blk]
 clear hown5 hgr5 hold5 hbg hbr hbk hbp hb5 nb hre HMc HNc HQc HSc hrow hir hz0 hz1 hz2
 refine HK.out _ _ trivial (fun _ => HS5.out) ?_
 clear HK KX
 refine RG.wpL_take (fuel:=1) (a':=?Ab) [20,21] (by kernel_rfl) (by kernel_rfl) (fun _ _ _ _ _ h => h) trivial (fun _ => HS5.out) ?rb ?_
 case rb =>
  iterate 2
   refine RG.rW ?_ (fun Z hT => ?_) ?_
   rotate_left
   ·go_simp
    rfl
   simp only [Act.put,lA,lB,lC,lD,lE,lF]
  exact RG.RunsIf.nil
 refine RG.wpL_late (i:=22) (by kernel_rfl) (by rfl) (by rfl) (by kernel_rfl) (fun KX hK => ?_)
 have HK:=ζ hK
 clear hK
 go_simp
 refine HK.out _ _ trivial ?_
 clear HK KX cz fz
 refine RG.wpL_done (by kernel_rfl) ?_ _
 refine NoPanic.normal ?_
 go_wp2
 try refine HK.out _ _ ?_
 go_wp2
 rw [HP.out]
 exact .inr ⟨by rw [HN.out];have:=HN5.out;omega,by rw [HN.out];rfl,_,_,HM5.out⟩
end LW
end Go.Proofs.Ytfbnakmmmphedaa
