/-
  The program's machine: a move that can be made, walked; picks.
  A statement whose parts are done in an order that is drawn, and whose last part writes what an earlier one reads: something is kept behind every part but that last one.
  The program's Walk: the way that picks tell.
  The program's Walk.
-/
import Derived.Test.YtmpaeladhoomoaaGreatDoorPmX
import Derived.Deep.RegionHeld3
namespace Go.Proofs.YtmpaeladhoomoaaGreatDoor
open Go.RowKit

theorem oldW_lt (p : Nat) : ∀ (l : List (Nat × Nat)) (k j : Nat), oldW p k l = some j → k ≤ j ∧ j < k + l.length := by
  intro l
  induction l with
  | nil => intro k j h; simp [oldW] at h
  | cons x r ih =>
    intro k j h
    rw [oldW] at h
    split at h
    · simp at h; subst h; simp
    · have := ih _ _ h
      simp only [List.length_cons]
      omega
theorem ripeW_lt {model : Nat} {l : List (Nat × Nat)} {k : Nat} (h : k ∈ ripeW model l) : k < l.length := by
  unfold ripeW at h
  split at h
  · simp at h
  · split at h
    · simp only [List.mem_filterMap] at h
      obtain ⟨p, _, h⟩ := h
      have := oldW_lt p l 0 k h
      omega
    · simp at h; omega
/-- What a move that can be made is. -/
theorem move_is {model : Nat} {ls : List (List St)} {s : WSt} (h : WOk model ls s) {m : Nat × Option Nat} (hm : m ∈ movesW model ls s) :
    ∃ (t : WTh) (l : List St), s.ths[m.1]? = some t ∧ ls[m.1]? = some l ∧ thW s m.1 = t ∧ ls.getD m.1 [] = l ∧ ((m.2 = none ∧ ∃ x, l[t.next]? = some x ∧ afterW model ls s m = stepW model s m.1 t x) ∨ (∃ k x, m.2 = some k ∧ t.wait[k]? = some x ∧ afterW model ls s m = flushP s m.1 k t x)) := by
  unfold movesW at hm
  rw [List.mem_flatMap] at hm
  obtain ⟨i, hi, hm⟩ := hm
  have hi' : i < ls.length := by simpa using hi
  have hl := h.len
  obtain ⟨t, ht⟩ : ∃ t, s.ths[i]? = some t := ⟨s.ths[i]'(by omega), List.getElem?_eq_getElem (by omega)⟩
  obtain ⟨l, hls⟩ : ∃ l, ls[i]? = some l := ⟨ls[i], List.getElem?_eq_getElem hi'⟩
  have et : thW s i = t := by simp [thW, List.getD_eq_getElem?_getD, ht]
  have el : ls.getD i [] = l := by simp [List.getD_eq_getElem?_getD, hls]
  rw [et, el] at hm
  unfold mvW at hm
  rw [List.mem_append] at hm
  rcases hm with hm | hm
  · split at hm
    · rename_i hc
      simp at hm
      subst hm
      refine ⟨t, l, ht, hls, et, el, Or.inl ⟨rfl, ?_⟩⟩
      unfold canW at hc
      cases hx : l[t.next]? with
      | none => rw [hx] at hc; simp at hc
      | some x =>
        refine ⟨x, rfl, ?_⟩
        show stepW model s i (thW s i) ((ls.getD i []).getD (thW s i).next ⟨0, 0, 0, 0, 0⟩) = _
        rw [et, el, List.getD_eq_getElem?_getD, hx]
        rfl
    · simp at hm
  · rw [List.mem_map] at hm
    obtain ⟨k, hk, rfl⟩ := hm
    have hkl := ripeW_lt hk
    obtain ⟨x, hx⟩ : ∃ x, t.wait[k]? = some x := ⟨t.wait[k], List.getElem?_eq_getElem hkl⟩
    refine ⟨t, l, ht, hls, et, el, Or.inr ⟨k, x, rfl, hx, ?_⟩⟩
    show flushP s i k (thW s i) ((thW s i).wait.getD k (0, 0)) = _
    rw [et, List.getD_eq_getElem?_getD, hx]
    rfl
theorem ma_after (w : World) (pg : Nat) (ls : List (List St)) (hP : PT w pg ls) (ho : LsOk ls) (model : Nat) (hmo : 1 ≤ model ∧ model ≤ 3) (c : Nat → Nat) (s : WSt) (hc : CRep c s) (hs : WOk model ls s) (m : Nat × Option Nat) (hm : m ∈ movesW model ls s) :
    Calls Tryz.prog 63 #[.agg #[.pointer (some ⟨pg, 0, none⟩), .int .i64 (model : Nat)], .agg (u8A 92 c), .agg #[.int .i64 (m.1 : Nat), .bool m.2.isSome, .int .i64 (m.2.getD 0 : Nat)]] w fun e w' => ∃ c', e = .returned (.agg (u8A 92 c')) ∧ CRep c' (afterW model ls s m) ∧ WOk model ls (afterW model ls s m) ∧ w.grownBy w' none := by
  obtain ⟨t, l, ht, hl, _, _, h⟩ := move_is hs hm
  obtain ⟨a1, a2, a3, a4, a5, a6⟩ := hs.th _ t ht
  have hi := hc.lt ht
  have hlen := hc.len ht
  have hwt := hc.wait _ t ht
  obtain ⟨i, mo⟩ := m
  simp only at h ht hl hi hwt ⊢
  rcases h with ⟨rfl, x, hx, e⟩ | ⟨k, x, rfl, hx, e⟩
  · have hb := ho.st l (List.mem_of_getElem? hl) x (List.mem_of_getElem? hx)
    have h8 := ho.eight l (List.mem_of_getElem? hl)
    have hn := (List.getElem?_eq_some_iff.1 hx).1
    have hnx := hc.next _ t ht
    have := ma_after_step w pg ls hP c hc.small model i 0 l x hl (by rw [hnx]; exact hx) hmo hi hb (fun _ => by omega) (by omega) (fun e => by rw [hwt, a4 e]; rfl)
    refine this.mono (fun e2 w2 h2 => ⟨_, h2.1, ?_, ?_, h2.2⟩)
    · rw [e]; exact hc.step ht a1 model x hb (by omega) (fun _ => by omega) a4
    · rw [e]; exact hs.step ho ht hl hx
  · obtain ⟨h1, h2, h3⟩ := hc.at_ _ t ht k x hx
    have hxm := a6 x (List.mem_of_getElem? hx)
    have hk := (List.getElem?_eq_some_iff.1 hx).1
    have := ma_after_flush w c (.pointer (some ⟨pg, 0, none⟩)) model i k hi (by omega) (by omega) (by omega)
    refine this.mono (fun e2 w2 h2 => ⟨_, h2.1, ?_, ?_, h2.2⟩)
    · rw [e]; exact hc.flush ht k x hx hxm.1
    · rw [e]; exact hs.flush ht hx

set_option maxRecDepth 100000 in
set_option maxHeartbeats 1000000 in
theorem he_picked (w : World) (n : Int) (hn : -9223372036854775808 ≤ n ∧ n ≤ 9223372036854775807) (b : Nat) (hb : 0 < b) (hb2 : b ≤ 1000000) :
    Calls Tryz.prog 64 #[.int .i64 n, .int .i64 (b : Nat)] w fun e w' => e = .returned (.int .i64 (sizeP n b : Nat)) ∧ w' = w := by
  have hb0 : ((b : Int) == 0) = false := by rw [beq_eq_false_iff_ne]; omega
  by_cases h0 : n = -9223372036854775808
  · subst h0
    have hw : wrap64 9223372036854775808 = -9223372036854775808 := by first | decide | (unfold wrap64; decide) | (unfold wrap64; omega)
    have HE : Hid (sizeP (-9223372036854775808) b = 0) := by show _ = _; unfold sizeP; rw [if_pos rfl]
    go_enter Tryz.func64, Tryz.ntmps64
    go_wp2_with fail
    go_ret
    refine ⟨?_, rfl⟩
    rw [HE.out]
    rfl
  · by_cases h1 : n < 0
    · obtain ⟨m, rfl⟩ : ∃ m : Nat, n = -(m : Int) := ⟨n.natAbs, by omega⟩
      have h1' : decide (-(m : Int) < 0) = true := by simp; omega
      have h2' : decide ((m : Int) < 0) = false := by simp
      have HE : Hid (sizeP (-(m : Int)) b = m % b) := by show _ = _; unfold sizeP; rw [if_neg h0]; simp
      go_enter Tryz.func64, Tryz.ntmps64
      go_wp2_with fail
      go_ret
      refine ⟨?_, rfl⟩
      rw [HE.out]
      rfl
    · obtain ⟨m, rfl⟩ : ∃ m : Nat, n = (m : Int) := ⟨n.natAbs, by omega⟩
      have h1' : decide ((m : Int) < 0) = false := by simp
      have HE : Hid (sizeP (m : Int) b = m % b) := by show _ = _; unfold sizeP; rw [if_neg h0]; simp
      go_enter Tryz.func64, Tryz.ntmps64
      go_wp2_with fail
      go_ret
      refine ⟨?_, rfl⟩
      rw [HE.out]
      rfl
theorem sizeP_lt (n : Int) (b : Nat) (hb : 0 < b) : sizeP n b < b := by
  unfold sizeP
  split
  · exact hb
  · exact Nat.mod_lt _ hb

set_option maxRecDepth 100000 in
set_option maxHeartbeats 1000000 in
theorem ma_first (w : World) (mv : Array Value) :
    Calls Tryz.prog 56 #[.agg mv] w fun e w' => e = .returned (.agg (u8A 92 fun _ => 0)) ∧ w.grownBy w' none := by
  obtain ⟨hz, hsz⟩ := zero_of_info (P := Tryz.prog) infoState
  go_enter Tryz.func56, Tryz.ntmps56
  have HB : Hid (Blk ((w.alloc (.cells mv 76)).alloc (.cells (u8A 92 fun _ => 0) 120)) (w.heap.size + 1) 120 92 (fun _ => 0)) := new_at (by simp) _
  have HSZ : Hid ((Tryz.prog.info? 120).map (·.size) = some 92) := hsz
  clear hsz
  go_wp2_with (refine wpList_store_mid (by rfl) 120 _ _ (by rfl) (w.heap.size + 1) 0 (u8A 92 fun _ => 0) (by rfl) (by rfl) (HB.out.there 0 _ (by rw [u8A_size]; omega)) (by rw [u8A_size]; exact HSZ.out) (u8A_all _ _) ?_)
  exact bodyPost_ret (v := .agg (u8A 92 fun _ => 0)) (results_cell_row rfl _ _ (w.heap.size + 1) 120 (u8A 92 fun _ => 0) (0, 0) _ (by rfl) (HB.out.whole _) Tryz.underlying120 rfl (by rw [u8A_size]; exact HSZ.out)) rfl ⟨rfl, gb_cells_new (by omega) _ _ _ (gb_alloc (gb_alloc (gb_refl _ _) _) _)⟩
end Go.Proofs.YtmpaeladhoomoaaGreatDoor

namespace Go.Proofs.YtmpaeladhoomoaaGreatDoor
open Go

section
variable {P : Program} {ops : Array Oper} {Q : Exit → Act → World → Prop} {md : Region.Mode} {T : World → Prop} {z : Nat}

/-- Any order from here on; T is kept behind each part but number z. -/
def wpZ (P : Program) (md : Region.Mode) (ops : Array Oper) (Q : Exit → Act → World → Prop) (T : World → Prop) (z : Nat) : Nat → Array Bool → Act → World → Prop
  | 0, done, a, w => Region.ready md ops done = [] ∧ Q .normal a w
  | n + 1, done, a, w => (Region.ready md ops done = [] → Q .normal a w) ∧ ∀ i ∈ Region.ready md ops done, wpOp P ops Q i (fun a' w' => (i ≠ z → T w') ∧ wpZ P md ops Q T z n (done.setIfInBounds i true) a' w') a w
theorem any_of_z : ∀ (n : Nat) (done : Array Bool) (a : Act) (w : World), wpZ P md ops Q T z n done a w → wpAny P md ops Q n done a w
  | 0, _, _, _, h => h
  | n + 1, _, _, _, h => ⟨h.1, fun i hi => wpOp_mono (fun _ _ k => any_of_z n _ _ _ k.2) (h.2 i hi)⟩
/-- Part number i, ahead of all, if part z waits for it. -/
theorem wpZ_first {i : Nat} {o : Oper} {v : Value} (hi : ops[i]? = some o) (hiz : i ≠ z) (hz : ∀ oz, ops[z]? = some oz → ∃ e ∈ oz.after, Region.binds md e = true ∧ e.on = i)
    (hsel : ∀ (j : Nat) (x : Oper) cs b, ops[j]? = some x → x.op ≠ .select cs b) (hQ : ∀ c a w, Q (.panic c) (a.put o.dst v) w → Q (.panic c) a w) :
    ∀ (n : Nat) (done : Array Bool) (a : Act) (w : World),
      (∀ j x, ops[j]? = some x → j ≠ i → done.getD j true = false → (∀ e ∈ x.after, Region.binds md e = true → e.on ≠ i) → o.apart ops x = true) →
      i ∈ Region.ready md ops done → YieldsIf P ops T o v a → T w →
      wpZ P md ops Q T z n (done.setIfInBounds i true) (a.put o.dst v) w → wpZ P md ops Q T z (n + 1) done a w := by
  intro n
  induction n with
  | zero =>
    intro done a w _ hr hy hT H
    refine ⟨fun h0 => absurd hr (by rw [h0]; simp), fun j hj => ?_⟩
    rcases Decidable.em (j = i) with rfl | hji
    · exact hy.wpOp hi hT ⟨fun _ => hT, H⟩
    · exact absurd (ready_mono hj hji) (by rw [H.1]; simp)
  | succ n ih =>
    intro done a w hfree hr hy hT H
    refine ⟨fun h0 => absurd hr (by rw [h0]; simp), fun j hj => ?_⟩
    rcases Decidable.em (j = i) with rfl | hji
    · exact hy.wpOp hi hT ⟨fun _ => hT, H⟩
    obtain ⟨hun, x, hx, hall⟩ := mem_ready.1 hj
    have hiun := (mem_ready.1 hr).1
    have hno : ∀ e ∈ x.after, Region.binds md e = true → e.on ≠ i := by
      intro e he hb heq
      have h1 := hall e he hb
      rw [heq] at h1
      by_cases hlt : i < done.size
      · simp [hlt] at hiun h1
        rw [hiun] at h1
        exact Bool.noConfusion h1
      · simp [Array.getElem?_eq_none (Nat.le_of_not_lt hlt)] at h1
    have hjz : j ≠ z := by
      rintro rfl
      obtain ⟨e, he, hb, heq⟩ := hz x hx
      exact hno e he hb heq
    have step := wpOp_putIf (S := T) hx (hfree j x hx hji hun hno) (fun cs b => hsel i o cs b hi) (fun cs b => hsel j x cs b hx) hQ hy (H.2 j (ready_mono hj hji))
    refine wpOp_mono (fun a' w' k => ⟨fun _ => k.2.1 hjz, ih _ a' w' (fun k' x' hx' hne hun' hno' => hfree k' x' hx' hne ?_ hno') (ready_mono hr (Ne.symm hji)) k.1 (k.2.1 hjz) ?_⟩) step
    · rcases Decidable.em (j = k') with rfl | hjk
      · exact hun
      · rwa [getD_set_ne true hjk] at hun'
    · rw [Array.setIfInBounds_comm _ _ hji]
      exact k.2.2
theorem wpZ_take {i : Nat} {o : Oper} {v : Value} {n : Nat} {done : Array Bool} {a : Act} {w : World} (hi : ops[i]? = some o) (hiz : i ≠ z) (hz : ((ops[z]?).any fun oz => oz.after.toList.any fun e => Region.binds md e && e.on == i) = true)
    (hs : Region.noSelect ops = true) (hf : Region.free md ops done i = true) (hr : (Region.ready md ops done).contains i = true)
    (hQ : ∀ c a w, Q (.panic c) (a.put o.dst v) w → Q (.panic c) a w) (hy : YieldsIf P ops T o v a) (hT : T w)
    (h : wpZ P md ops Q T z n (done.setIfInBounds i true) (a.put o.dst v) w) : wpZ P md ops Q T z (n + 1) done a w :=
  wpZ_first hi hiz (fun oz hoz => by
    rw [hoz] at hz
    simp only [Option.any_some] at hz
    obtain ⟨e, he, hb⟩ := List.any_eq_true.1 hz
    simp only [Bool.and_eq_true, beq_iff_eq] at hb
    exact ⟨e, by simpa using he, hb.1, hb.2⟩) (Region.noSelect_spec hs) hQ n done a w (Region.free_spec hi hf) (by simpa using hr) hy hT h
/-- One part alone can come next. -/
theorem wpZ_one {i : Nat} {o : Oper} {n : Nat} {done : Array Bool} {a : Act} {w : World} (hr : Region.ready md ops done = [i]) (ho : ops[i]? = some o)
    (h : ∀ K : Act → World → Prop, Shut (∀ a w, (i ≠ z → T w) → wpZ P md ops Q T z n (done.setIfInBounds i true) a w → K a w) → if Region.wanted o (yielded ops a.tmps) = true then Oper.wp P o a w K Q else K (a.put o.dst undef) w) : wpZ P md ops Q T z (n + 1) done a w := by
  refine ⟨fun h0 => absurd (h0.symm.trans hr) (by simp), fun j hj => ?_⟩
  rw [hr] at hj
  obtain rfl : j = i := by simpa using hj
  exact wpOp_step ho (fun K hK => h K (fun a w h1 h2 => hK a w ⟨h1, h2⟩))
theorem wpZ_done {done : Array Bool} {a : Act} {w : World} (hr : Region.ready md ops done = []) (h : Q .normal a w) : ∀ n, wpZ P md ops Q T z n done a w
  | 0 => ⟨hr, h⟩
  | _ + 1 => ⟨fun _ => h, by rw [hr]; simp⟩
theorem region_z {id : Nat} {a : Act} {w : World} (z : Nat) (T : World → Prop) (hm : P.follows .mixedOrders = true) (h : wpZ P .any ops Q T z ops.size (Array.replicate ops.size false) a w.drew) : (Code.region id ops true).wp P Q a w :=
  wp_region_any hm (any_of_z _ _ _ _ h)
end
end Go.Proofs.YtmpaeladhoomoaaGreatDoor

namespace Go.Proofs.YtmpaeladhoomoaaGreatDoor
open Go.RowKit

/-- Picks, as they lie. -/
def PicksAt (w : World) (v : Value) (l : List Int) : Prop := ∃ (a : Option Addr) (cap : Nat), v = .slice a l.length cap ∧ l.length ≤ cap ∧ ∀ (j : Nat) (x : Int), l[j]? = some x → ∃ g o, a = some ⟨g, o, none⟩ ∧ w.cell? ⟨g, o + j, none⟩ = some (.int .i64 x) ∧ (-9223372036854775808 ≤ x ∧ x ≤ 9223372036854775807)
def walkV : Option Txt → Value
  | none => .tuple #[.string ⟨#[]⟩, .int .i64 7]
  | some t => .tuple #[.string (bT t), .int .i64 0]
theorem walkW_end {model : Nat} {ls : List (List St)} {ft : Txt} {s : WSt} (h : (movesW model ls s).length = 0) : ∀ l, walkW model ls ft l s = some (outW ls ft s)
  | [] => if_pos h
  | _ :: _ => if_pos h
theorem movesW_len (model : Nat) (ls : List (List St)) (s : WSt) (hl : ls.length ≤ 4) : (movesW model ls s).length ≤ 100 := by
  have h1 : ∀ l t i, (mvW model i l t).length ≤ 5 := by
    intro l t i
    have : (ripeW model t.wait).length ≤ 4 := by
      unfold ripeW
      split
      · simp
      · split
        · exact Nat.le_trans (List.length_filterMap_le _ _) (by simp)
        · simp
    unfold mvW
    rw [List.length_append, List.length_map]
    split <;> simp <;> omega
  have h2 : ∀ k, ((List.range k).flatMap fun i => mvW model i (ls.getD i []) (thW s i)).length ≤ 5 * k := by
    intro k
    induction k with
    | zero => simp
    | succ k ih =>
      rw [List.range_succ, List.flatMap_append, List.length_append]
      have := h1 (ls.getD k []) (thW s k) k
      simp only [List.flatMap_cons, List.flatMap_nil, List.append_nil]
      omega
  have := h2 ls.length
  unfold movesW
  omega

set_option maxRecDepth 100000 in
set_option maxHeartbeats 2000000 in
theorem he_walk (w : World) (ok : Nat → Prop) (pg : Nat) (ls : List (List St)) (fa : Bool) (ft : Txt) (hP : ProgRep w ok pg ls fa ft) (hok : ∀ x, ok x → x < w.heap.size) (ho : LsOk ls) (model : Nat) (hmo : 1 ≤ model ∧ model ≤ 3) (picks : List Int) (pv : Value) (hp : PicksAt w pv picks) :
    Calls Tryz.prog 41 #[.agg #[.pointer (some ⟨pg, 0, none⟩), .int .i64 (model : Nat)], pv] w fun e w' => e = .returned (walkV (walkW model ls ft picks (firstW ls.length))) ∧ w.grownBy w' none := by
  obtain ⟨hz, hsz⟩ := zero_of_info (P := Tryz.prog) infoState
  have HSZ : Hid ((Tryz.prog.info? 120).map (·.size) = some 92) := hsz
  have HP : Hid (ProgRep w ok pg ls fa ft) := hP
  have HOK : Hid (∀ x, ok x → x < w.heap.size) := hok
  have HLS : Hid (LsOk ls) := ho
  have HPR : Hid (∀ W', w.grownBy W' none → ProgRep W' ok pg ls fa ft) := fun W' hg => hP.mono (fun x hx => hx) (fun x hx => hg.block x (hok x hx) (by simp))
  have hls := ho.four
  have HPK : Hid (PicksAt w pv picks) := hp
  obtain ⟨pa, pcap, rfl, hpc, hpx⟩ := hp
  have hM0 : (w.alloc (.cells #[.pointer (some ⟨pg, 0, none⟩), .int .i64 (model : Nat)] 76)).heap[w.heap.size]? = some (.cells #[.pointer (some ⟨pg, 0, none⟩), .int .i64 (model : Nat)] 76 (0, 0)) := heap_alloc_new w _
  have HM0 : Hid _ := hM0
  have HMV : Hid (∀ (W' : World) (c : Nat → Nat) (s : WSt), w.grownBy W' none → CRep c s → WOk model ls s → Calls Tryz.prog 62 #[.agg #[.pointer (some ⟨pg, 0, none⟩), .int .i64 (model : Nat)], .agg (u8L 92 c).toArray] W' fun e w' => ∃ v, e = .returned v ∧ MovesAt w' v (movesW model ls s) ∧ W'.grownBy w' none) := fun W' c s hg hc hs => by
    have := ma_moves W' pg ls (HPR.out W' hg).pt c hc.small model hls (fun i hi => by
      by_cases h : i < s.ths.length
      · have ht := List.getElem?_eq_getElem h
        rw [hc.wait i _ ht]
        exact hc.len ht
      · rw [hc.none i (by omega) hi]; omega)
    rw [hc.moves model ls hs.len] at this
    exact this
  have HRB : Hid (∀ (c : Nat → Nat) (s : WSt), CRep c s → WOk model ls s → ∀ i r, i < ls.length → r < 4 → c (i * 22 + 1 + r) ≤ 9) := fun c s hc hs i r hi hr => by
    have ht := List.getElem?_eq_getElem (show i < s.ths.length by rw [hs.len]; exact hi)
    rw [hc.regs i _ ht r hr]
    exact (hs.th i _ ht).2.2.2.2.1 r hr
  clear hM0 hP hok ho hsz hpx
  go_enter Tryz.func41, Tryz.ntmps41
  go_wp2_with fail
  refine (ma_first _ _).mono ?_
  rintro e w1 ⟨rfl, hg1⟩
  have hG1 : w.grownBy w1 none := gb_trans (gb_alloc (gb_refl _ _) _) hg1
  have hs1 := hg1.size
  simp only [World.size_alloc] at hs1
  have HBz : Hid (Blk (w1.alloc (.cells (u8A 92 fun _ => 0) 120)) w1.heap.size 120 92 (fun _ => 0)) := heap_alloc_new w1 _
  obtain ⟨W2, hW2⟩ : ∃ W2, W2 = (w1.alloc (.cells (u8A 92 fun _ => 0) 120)).setCells w1.heap.size 0 (u8A 92 fun _ => 0).toList := ⟨_, rfl⟩
  have HB2 : Hid (Blk W2 w1.heap.size 120 92 (fun _ => 0)) := by rw [hW2]; exact HBz.out.whole _
  have HG2 : Hid (w.grownBy W2 none) := by rw [hW2]; exact gb_cells_new (by omega) _ _ _ (gb_alloc hG1 _)
  have HW2 : Hid (W2 = (w1.alloc (.cells (u8A 92 fun _ => 0) 120)).setCells w1.heap.size 0 (u8A 92 fun _ => 0).toList) := hW2
  have HM2 : Hid (W2.heap[w.heap.size]? = some (.cells #[.pointer (some ⟨pg, 0, none⟩), .int .i64 (model : Nat)] 76 (0, 0))) := by
    rw [hW2]
    have hgx : (w1.alloc (.cells (u8A 92 fun _ => 0) 120)).grownBy ((w1.alloc (.cells (u8A 92 fun _ => 0) 120)).setCells w1.heap.size 0 (u8A 92 fun _ => 0).toList) (some w1.heap.size) := gb_cells _ _ _ (gb_refl _ _)
    exact heap_gb hgx (heap_alloc_at (heap_gb hg1 HM0.out (by simp)) _) (by simp; omega)
  have mm0 := cell_of HM2.out 0 (.pointer (some ⟨pg, 0, none⟩)) rfl
  have mm1 := cell_of HM2.out 1 (.int .i64 (model : Nat)) rfl
  have hlm := heap_lt HM2.out
  have hlb := HB2.out.lt
  clear hG1 hg1 hW2
  go_wp2_with (first | (refine wpList_store_mid (by rfl) 120 _ _ (by rfl) w1.heap.size 0 (u8A 92 fun _ => 0) (by rfl) (by rfl) (HBz.out.there 0 _ (by rw [u8A_size]; omega)) (by rw [u8A_size]; exact HSZ.out) (u8A_all _ _) ?_; rw [← HW2.out]) | (refine wpList_load_mid (by rfl) 120 _ (by rfl) w1.heap.size 0 (by rfl) (u8L 92 fun _ => 0) _ HB2.out.range0 Tryz.underlying120 rfl (by rw [u8L_len]; exact HSZ.out) ?_))
  refine (HMV.out W2 (fun _ => 0) (firstW ls.length) HG2.out (first_crep _ hls) (first_ok _ _)).mono ?_
  rintro e w3 ⟨mv, rfl, ⟨ma, mcap, rfl, hmx⟩, hg3⟩
  have hCR := first_crep ls.length hls
  have hWO := first_ok model ls
  have HG3 : Hid (w.grownBy w3 none) := gb_trans HG2.out hg3
  have HB3 : Hid (Blk w3 w1.heap.size 120 92 (fun _ => 0)) := HB2.out.gb hg3 (by simp)
  have HM3 : Hid (w3.heap[w.heap.size]? = some (.cells #[.pointer (some ⟨pg, 0, none⟩), .int .i64 (model : Nat)] 76 (0, 0))) := heap_gb hg3 HM2.out (by simp)
  have hSB : w.heap.size < w1.heap.size := by omega
  clear hg3 HBz HB2 HG2 HW2 HM2 mm0 mm1 hlm hlb HM0 hz
  go_wp2_with fail
  generalize w1.heap.size = SB at *
  go_loopw [1, 7] (fun v1 v7 wr => ∃ (c : Nat → Nat) (s : WSt) (rest : List Int) (qa : Option Addr) (qcap nr : Nat) (na : Option Addr) (ncap nm : Nat), v1 = .slice qa nr qcap ∧ v7 = .slice na nm ncap ∧ nm ≤ 100 ∧ nr ≤ qcap ∧ Hid (nr = rest.length) ∧ Hid (nm = (movesW model ls s).length) ∧ Hid (∀ (j : Nat) (x : Int), rest[j]? = some x → ∃ g o, qa = some ⟨g, o, none⟩ ∧ w.cell? ⟨g, o + j, none⟩ = some (.int .i64 x) ∧ (-9223372036854775808 ≤ x ∧ x ≤ 9223372036854775807)) ∧ Hid (∀ (j : Nat) (x : Nat × Option Nat), (movesW model ls s)[j]? = some x → ∃ g, na = some ⟨g, 0, none⟩ ∧ ∀ (o : Nat) (u : Value), (mvC x)[o]? = some u → wr.cell? ⟨g, j * 3 + o, none⟩ = some u) ∧ Hid (Blk wr SB 120 92 c) ∧ Hid (CRep c s) ∧ Hid (WOk model ls s) ∧ Hid (w.grownBy wr none) ∧ Hid (wr.heap[w.heap.size]? = some (.cells #[.pointer (some ⟨pg, 0, none⟩), .int .i64 (model : Nat)] 76 (0, 0))) ∧ Hid (walkW model ls ft picks (firstW ls.length) = walkW model ls ft rest s)) (fun v1 _ _ => match v1 with | .slice _ n _ => n | _ => 0)
  case atStart =>
    refine ⟨fun _ => 0, firstW ls.length, picks, pa, pcap, picks.length, ma, mcap, (movesW model ls (firstW ls.length)).length, rfl, rfl, movesW_len _ _ _ hls, hpc, rfl, rfl, ?_, hmx, HB3.out, hCR, hWO, HG3.out, HM3.out, rfl⟩
    obtain ⟨pa', pcap', e, _, h⟩ := HPK.out
    simp at e
    obtain ⟨rfl, rfl⟩ := e
    exact h
  case round =>
    rename World => wr
    obtain ⟨c, s, rest, qa, qcap, nr, na, ncap, nm, rfl, rfl, hnm, hnr, HNR, HNM, HQ, HMX, HB, HC, HWO, HG, HM, HWK⟩ := hrel
    have m0 := cell_of HM.out 0 (.pointer (some ⟨pg, 0, none⟩)) rfl
    have m1 := cell_of HM.out 1 (.int .i64 (model : Nat)) rfl
    have hlM := heap_lt HM.out
    have hlB := HB.out.lt
    by_cases hn0 : nm = 0
    · have hn0' : decide ((0 : Int) < (nm : Int)) = false := by simp; omega
      have hn0'' : decide (0 < nm) = false := by simp; omega
      have HE : Hid (walkW model ls ft picks (firstW ls.length) = some (outT c ls ft)) := by
        show _ = _
        rw [HWK.out, walkW_end (by rw [← HNM.out]; exact hn0), HC.out.out ls ft HWO.out.len]
      have HOC : Hid (Calls Tryz.prog 65 #[.agg #[.pointer (some ⟨pg, 0, none⟩), .int .i64 (model : Nat)], .agg (u8L 92 c).toArray] wr fun e w' => e = .returned (.string (bT (outT c ls ft))) ∧ wr.grownBy w' none) := ma_outcome wr ok pg ls fa ft (HPR.out wr HG.out) (fun x hx => Nat.lt_of_lt_of_le (HOK.out x hx) HG.out.size) c (fun i r hi hr => HRB.out c s HC.out HWO.out i r hi hr) (fun p hp => by rw [HC.out.mem p hp]; exact HWO.out.mem p hp) model hls (fun l hl x hx => (HLS.out.st l hl x hx).1)
      clear hn0
      go_wp2_with (refine wpList_load_mid (by rfl) 120 _ (by rfl) SB 0 (by rfl) (u8L 92 c) _ HB.out.range0 Tryz.underlying120 rfl (by rw [u8L_len]; exact HSZ.out) ?_)
      refine HOC.out.mono ?_
      rintro e w4 ⟨rfl, hg4⟩
      have HG4 : Hid (w.grownBy w4 none) := gb_trans HG.out hg4
      clear hg4
      go_wp2_with fail
      go_ret2
      refine ⟨?_, HG4.out⟩
      rw [HE.out]
      rfl
    · have hn0' : decide ((0 : Int) < (nm : Int)) = true := by simp; omega
      have hn0'' : decide (0 < nm) = true := by simp; omega
      cases rest with
      | nil =>
        have hr0 : nr = 0 := HNR.out
        have hr0' : ((nr : Int) == 0) = true := by rw [beq_iff_eq]; omega
        have HE : Hid (walkW model ls ft picks (firstW ls.length) = none) := by
          show _ = _
          rw [HWK.out]
          exact if_neg (by rw [← HNM.out]; exact hn0)
        clear hn0 hr0
        go_wp2_with fail
        go_ret2
        refine ⟨?_, HG.out⟩
        rw [HE.out]
        rfl
      | cons p r =>
        obtain ⟨j, hj⟩ : ∃ j, j = sizeP p nm := ⟨_, rfl⟩
        have hjl : j < nm := by rw [hj]; exact sizeP_lt p nm (by omega)
        have hjl' : (j : Int) < (nm : Int) := by omega
        obtain ⟨m, hm⟩ : ∃ m, (movesW model ls s)[j]? = some m := ⟨(movesW model ls s)[j]'(by rw [← HNM.out]; exact hjl), List.getElem?_eq_getElem (by rw [← HNM.out]; exact hjl)⟩
        obtain ⟨ng, rfl, hmc⟩ := HMX.out j m hm
        have k0 := hmc 0 _ rfl
        have k1 := hmc 1 _ rfl
        have k2 := hmc 2 _ rfl
        simp only [Nat.add_zero] at k0
        obtain ⟨qg, qo, rfl, hqc, hpb⟩ := HQ.out 0 p rfl
        have p0 := gb_cell HG.out hqc (by simp)
        simp only [Nat.add_zero] at p0
        have hlq := World.block_lt_of_cell? wr _ p0
        have hln := World.block_lt_of_cell? wr _ k0
        have hr1 : nr = r.length + 1 := HNR.out
        have hr0' : ((nr : Int) == 0) = false := by rw [beq_eq_false_iff_ne]; omega
        have hr2 : (1 : Int) ≤ (nr : Int) := by omega
        have hr3 : (0 : Int) < (nr : Int) := by omega
        have HQ1 : Hid (∀ (j : Nat) (x : Int), r[j]? = some x → w.cell? ⟨qg, qo + 1 + j, none⟩ = some (.int .i64 x) ∧ (-9223372036854775808 ≤ x ∧ x ≤ 9223372036854775807)) := fun j x hx => by
          obtain ⟨g, o, e, h1, h2⟩ := HQ.out (j + 1) x hx
          simp at e
          obtain ⟨rfl, rfl⟩ := e
          rw [show qo + 1 + j = qo + (j + 1) by omega]
          exact ⟨h1, h2⟩
        have HNX : Hid (nextW model ls s p = afterW model ls s m) := by
          show _ = _
          unfold nextW
          rw [← HNM.out, ← hj, List.getD_eq_getElem?_getD, hm]
          rfl
        have HWK2 : Hid (walkW model ls ft picks (firstW ls.length) = walkW model ls ft r (afterW model ls s m)) := by
          show _ = _
          rw [HWK.out, ← HNX.out]
          exact if_neg (by rw [← HNM.out]; exact hn0)
        have HAF : Hid (∀ W', w.grownBy W' none → Calls Tryz.prog 63 #[.agg #[.pointer (some ⟨pg, 0, none⟩), .int .i64 (model : Nat)], .agg (u8L 92 c).toArray, .agg #[.int .i64 (m.1 : Nat), .bool m.2.isSome, .int .i64 (m.2.getD 0 : Nat)]] W' fun e w' => ∃ c', e = .returned (.agg (u8A 92 c')) ∧ CRep c' (afterW model ls s m) ∧ WOk model ls (afterW model ls s m) ∧ W'.grownBy w' none) := fun W' hg => ma_after W' pg ls (HPR.out W' hg).pt HLS.out model hmo c s HC.out HWO.out m (List.mem_of_getElem? hm)
        have HPI : Hid (∀ W', Calls Tryz.prog 64 #[.int .i64 p, .int .i64 (nm : Nat)] W' fun e w' => e = .returned (.int .i64 (j : Nat)) ∧ w' = W') := fun W' => by rw [hj]; exact he_picked W' p hpb nm (by omega) (by omega)
        have hTS : ∀ W', wr.grownBy W' none → (fun w' : World => w'.cell? ⟨w.heap.size, 0, none⟩ = some (.pointer (some ⟨pg, 0, none⟩)) ∧ w'.cell? ⟨w.heap.size, 1, none⟩ = some (.int .i64 (model : Nat)) ∧ w'.rangeAt SB 0 (u8L 92 c) ∧ w'.cell? ⟨qg, qo, none⟩ = some (.int .i64 p) ∧ w'.cell? ⟨ng, j * 3, none⟩ = some (.int .i64 (m.1 : Nat)) ∧ w'.cell? ⟨ng, j * 3 + 1, none⟩ = some (.bool m.2.isSome) ∧ w'.cell? ⟨ng, j * 3 + 2, none⟩ = some (.int .i64 (m.2.getD 0 : Nat))) W' := fun W' hg => ⟨gb_cell hg m0 (by simp), gb_cell hg m1 (by simp), fun j v hv => gb_cell hg (HB.out.range0 j v hv) (by simp), gb_cell hg p0 (by simp), gb_cell hg k0 (by simp), gb_cell hg k1 (by simp), gb_cell hg k2 (by simp)⟩
        have hT := hTS wr.drew (gb_drew (gb_refl _ _))
        have HTS : Hid (∀ W', wr.grownBy W' none → (fun w' : World => w'.cell? ⟨w.heap.size, 0, none⟩ = some (.pointer (some ⟨pg, 0, none⟩)) ∧ w'.cell? ⟨w.heap.size, 1, none⟩ = some (.int .i64 (model : Nat)) ∧ w'.rangeAt SB 0 (u8L 92 c) ∧ w'.cell? ⟨qg, qo, none⟩ = some (.int .i64 p) ∧ w'.cell? ⟨ng, j * 3, none⟩ = some (.int .i64 (m.1 : Nat)) ∧ w'.cell? ⟨ng, j * 3 + 1, none⟩ = some (.bool m.2.isSome) ∧ w'.cell? ⟨ng, j * 3 + 2, none⟩ = some (.int .i64 (m.2.getD 0 : Nat))) W') := hTS
        clear hn0 hm hmc hqc hj hTS HMX
        go_wp2_with fail
        refine region_z 12 (fun w' => w'.cell? ⟨w.heap.size, 0, none⟩ = some (.pointer (some ⟨pg, 0, none⟩)) ∧ w'.cell? ⟨w.heap.size, 1, none⟩ = some (.int .i64 (model : Nat)) ∧ w'.rangeAt SB 0 (u8L 92 c) ∧ w'.cell? ⟨qg, qo, none⟩ = some (.int .i64 p) ∧ w'.cell? ⟨ng, j * 3, none⟩ = some (.int .i64 (m.1 : Nat)) ∧ w'.cell? ⟨ng, j * 3 + 1, none⟩ = some (.bool m.2.isSome) ∧ w'.cell? ⟨ng, j * 3 + 2, none⟩ = some (.int .i64 (m.2.getD 0 : Nat))) (by kernel_rfl) ?_
        refine wpZ_take (i := 0) (v := .agg #[.pointer (some ⟨pg, 0, none⟩), .int .i64 (model : Nat)]) rfl (by decide) (by kernel_rfl) (by kernel_rfl) (by kernel_rfl) (by kernel_rfl) (fun _ _ _ h => h) (Or.inl ⟨by rfl, fun w' hSw => by go_simp⟩) hT ?_
        simp only [Act.put, List.getElem_toArray, List.getElem_cons_zero, List.setIfInBounds_toArray, List.set_cons_zero, List.set_cons_succ]
        refine wpZ_take (i := 1) (v := .agg (u8L 92 c).toArray) rfl (by decide) (by kernel_rfl) (by kernel_rfl) (by kernel_rfl) (by kernel_rfl) (fun _ _ _ h => h) (yieldsIf_load_mid (by rfl) 120 _ (by rfl) SB 0 (by rfl) _ _ (fun w' hw' => hw'.2.2.1) Tryz.underlying120 rfl (by rw [u8L_len]; exact HSZ.out)) hT ?_
        simp only [Act.put, List.getElem_toArray, List.getElem_cons_zero, List.getElem_cons_succ, List.setIfInBounds_toArray, List.set_cons_zero, List.set_cons_succ]
        refine wpZ_take (i := 2) (v := .slice (some ⟨ng, 0, none⟩) nm ncap) rfl (by decide) (by kernel_rfl) (by kernel_rfl) (by kernel_rfl) (by kernel_rfl) (fun _ _ _ h => h) (Or.inl ⟨by rfl, fun w' hSw => by go_simp⟩) hT ?_
        simp only [Act.put, List.getElem_toArray, List.getElem_cons_zero, List.getElem_cons_succ, List.setIfInBounds_toArray, List.set_cons_zero, List.set_cons_succ]
        refine wpZ_take (i := 3) (v := .slice (some ⟨qg, qo, none⟩) nr qcap) rfl (by decide) (by kernel_rfl) (by kernel_rfl) (by kernel_rfl) (by kernel_rfl) (fun _ _ _ h => h) (Or.inl ⟨by rfl, fun w' hSw => by go_simp⟩) hT ?_
        simp only [Act.put, List.getElem_toArray, List.getElem_cons_zero, List.getElem_cons_succ, List.setIfInBounds_toArray, List.set_cons_zero, List.set_cons_succ]
        refine wpZ_take (i := 4) (v := .pointer (some ⟨qg, qo, none⟩)) rfl (by decide) (by kernel_rfl) (by kernel_rfl) (by kernel_rfl) (by kernel_rfl) (fun _ _ _ h => h) (Or.inl ⟨by rfl, fun w' hSw => by go_simp⟩) hT ?_
        simp only [Act.put, List.getElem_toArray, List.getElem_cons_zero, List.getElem_cons_succ, List.setIfInBounds_toArray, List.set_cons_zero, List.set_cons_succ]
        refine wpZ_take (i := 5) (v := .int .i64 p) rfl (by decide) (by kernel_rfl) (by kernel_rfl) (by kernel_rfl) (by kernel_rfl) (fun _ _ _ h => h) (Or.inl ⟨by rfl, fun w' hSw => by go_simp⟩) hT ?_
        simp only [Act.put, List.getElem_toArray, List.getElem_cons_zero, List.getElem_cons_succ, List.setIfInBounds_toArray, List.set_cons_zero, List.set_cons_succ]
        refine wpZ_take (i := 6) (v := .slice (some ⟨ng, 0, none⟩) nm ncap) rfl (by decide) (by kernel_rfl) (by kernel_rfl) (by kernel_rfl) (by kernel_rfl) (fun _ _ _ h => h) (Or.inl ⟨by rfl, fun w' hSw => by go_simp⟩) hT ?_
        simp only [Act.put, List.getElem_toArray, List.getElem_cons_zero, List.getElem_cons_succ, List.setIfInBounds_toArray, List.set_cons_zero, List.set_cons_succ]
        refine wpZ_take (i := 7) (v := .int .i64 (nm : Nat)) rfl (by decide) (by kernel_rfl) (by kernel_rfl) (by kernel_rfl) (by kernel_rfl) (fun _ _ _ h => h) (Or.inl ⟨by rfl, fun w' hSw => by go_simp⟩) hT ?_
        simp only [Act.put, List.getElem_toArray, List.getElem_cons_zero, List.getElem_cons_succ, List.setIfInBounds_toArray, List.set_cons_zero, List.set_cons_succ]
        refine wpZ_one (i := 8) (by kernel_rfl) rfl (fun K hK => ?_)
        rw [if_pos (by rfl)]
        go_wp2_with fail
        refine (HPI.out _).mono ?_
        rintro e w4 ⟨rfl, rfl⟩
        go_wp2_with fail
        refine hK.out _ _ (fun _ => hT) ?_
        clear hK
        refine wpZ_take (i := 9) (v := .pointer (some ⟨ng, j * 3, none⟩)) rfl (by decide) (by kernel_rfl) (by kernel_rfl) (by kernel_rfl) (by kernel_rfl) (fun _ _ _ h => h) (Or.inl ⟨by rfl, fun w' hSw => by go_simp⟩) hT ?_
        simp only [Act.put, List.getElem_toArray, List.getElem_cons_zero, List.getElem_cons_succ, List.setIfInBounds_toArray, List.set_cons_zero, List.set_cons_succ]
        refine wpZ_take (i := 10) (v := .agg #[.int .i64 (m.1 : Nat), .bool m.2.isSome, .int .i64 (m.2.getD 0 : Nat)]) rfl (by decide) (by kernel_rfl) (by kernel_rfl) (by kernel_rfl) (by kernel_rfl) (fun _ _ _ h => h) (Or.inl ⟨by rfl, fun w' hSw => by go_simp⟩) hT ?_
        simp only [Act.put, List.getElem_toArray, List.getElem_cons_zero, List.getElem_cons_succ, List.setIfInBounds_toArray, List.set_cons_zero, List.set_cons_succ]
        refine wpZ_one (i := 11) (by kernel_rfl) rfl (fun K hK => ?_)
        rw [if_pos (by rfl)]
        go_wp2_with fail
        refine (HAF.out _ (gb_drew HG.out)).mono ?_
        rintro e w5 ⟨c', rfl, hc', hwo', hg5⟩
        have hg5' : wr.grownBy w5 none := gb_trans (gb_drew (gb_refl wr none)) hg5
        go_wp2_with fail
        refine hK.out _ _ (fun _ => HTS.out _ hg5') ?_
        clear hK
        refine wpZ_one (i := 12) (by kernel_rfl) rfl (fun K hK => ?_)
        rw [if_pos (by rfl)]
        have hB5 : Blk w5 SB 120 92 c := HB.out.gb hg5' (by simp)
        refine wp_store_mid 120 _ _ (by rfl) SB 0 (u8A 92 c') (by rfl) (by rfl) (hB5.there 0 _ (by rw [u8A_size]; omega)) (by rw [u8A_size]; exact HSZ.out) (u8A_all _ _) ?_
        obtain ⟨W6, hW6⟩ : ∃ W6, W6 = w5.setCells SB 0 (u8A 92 c').toList := ⟨_, rfl⟩
        have HB6 : Hid (Blk W6 SB 120 92 c') := by rw [hW6]; exact hB5.whole _
        have HG6 : Hid (w.grownBy W6 none) := by rw [hW6]; exact gb_cells_new (by omega) _ _ _ (gb_trans HG.out hg5')
        have HM6 : Hid (W6.heap[w.heap.size]? = some (.cells #[.pointer (some ⟨pg, 0, none⟩), .int .i64 (model : Nat)] 76 (0, 0))) := by
          rw [hW6]
          exact heap_gb (gb_cells (u8A 92 c').toList 0 w5 (gb_refl w5 (some SB))) (heap_gb hg5' HM.out (by simp)) (by simp; omega)
        rw [← hW6]
        refine hK.out _ _ (fun h => (h rfl).elim) ?_
        refine wpZ_done (by kernel_rfl) ?_ _
        simp only [Act.put, List.getElem_toArray, List.getElem_cons_zero, List.getElem_cons_succ]
        have HC6 : Hid (CRep c' (afterW model ls s m)) := hc'
        have HWO6 : Hid (WOk model ls (afterW model ls s m)) := hwo'
        have mm0 := cell_of HM6.out 0 (.pointer (some ⟨pg, 0, none⟩)) rfl
        have mm1 := cell_of HM6.out 1 (.int .i64 (model : Nat)) rfl
        have hlm6 := heap_lt HM6.out
        have hlb6 := HB6.out.lt
        have HMV6 : Hid (Calls Tryz.prog 62 #[.agg #[.pointer (some ⟨pg, 0, none⟩), .int .i64 (model : Nat)], .agg (u8L 92 c').toArray] W6 fun e w' => ∃ v, e = .returned v ∧ MovesAt w' v (movesW model ls (afterW model ls s m)) ∧ W6.grownBy w' none) := HMV.out W6 c' _ HG6.out hc' hwo'
        clear hK hT HTS m0 m1 p0 k0 k1 k2 hB5 hg5 hg5' hW6 hc' hwo' HAF HPI HB HC HWO HG HM HWK HNX
        go_wp2_with (refine wpList_load_mid (by rfl) 120 _ (by rfl) SB 0 (by rfl) (u8L 92 c') _ HB6.out.range0 Tryz.underlying120 rfl (by rw [u8L_len]; exact HSZ.out) ?_)
        all_goals
          refine HMV6.out.mono ?_
          rintro e w7 ⟨v7, rfl, ⟨a7, cap7, rfl, hmx7⟩, hg7⟩
          have HG7 : Hid (w.grownBy w7 none) := gb_trans HG6.out hg7
          have HB7 : Hid (Blk w7 SB 120 92 c') := HB6.out.gb hg7 (by simp)
          have HM7 : Hid (w7.heap[w.heap.size]? = some (.cells #[.pointer (some ⟨pg, 0, none⟩), .int .i64 (model : Nat)] 76 (0, 0))) := heap_gb hg7 HM6.out (by simp)
          have HMX7 : Hid (∀ (j : Nat) (x : Nat × Option Nat), (movesW model ls (afterW model ls s m))[j]? = some x → ∃ g, a7 = some ⟨g, 0, none⟩ ∧ ∀ (o : Nat) (u : Value), (mvC x)[o]? = some u → w7.cell? ⟨g, j * 3 + o, none⟩ = some u) := hmx7
          clear hg7 hmx7
          go_wp2_with fail
          refine ⟨⟨c', afterW model ls s m, r, _, _, _, _, _, _, rfl, rfl, movesW_len _ _ _ hls, by omega, rfl, rfl, ?_, HMX7.out, HB7.out, HC6.out, HWO6.out, HG7.out, HM7.out, HWK2.out⟩, by simp; omega⟩
          intro j x hx
          have hxl := (List.getElem?_eq_some_iff.1 hx).1
          first
            | exact ⟨qg, qo + 1, rfl, HQ1.out j x hx⟩
            | (exfalso; omega)
end Go.Proofs.YtmpaeladhoomoaaGreatDoor

namespace Go.Proofs.YtmpaeladhoomoaaGreatDoor
open Go.RowKit

def isMo (m : Int) : Bool := decide (m = 1 ∨ m = 2 ∨ m = 3)

set_option maxRecDepth 100000 in
theorem he_isModel (w : World) (m : Int) : Calls Tryz.prog 36 #[.int .i64 m] w fun e w' => e = .returned (.bool (isMo m)) ∧ w' = w := by
  by_cases h1 : m = 1
  · subst h1
    go_enter Tryz.func36, Tryz.ntmps36
    go_wp2_with fail
    go_ret
    exact ⟨rfl, rfl⟩
  · by_cases h2 : m = 2
    · subst h2
      go_enter Tryz.func36, Tryz.ntmps36
      go_wp2_with fail
      go_ret
      exact ⟨rfl, rfl⟩
    · by_cases h3 : m = 3
      · subst h3
        go_enter Tryz.func36, Tryz.ntmps36
        go_wp2_with fail
        go_ret
        exact ⟨rfl, rfl⟩
      · have e1 : (m == 1) = false := by rw [beq_eq_false_iff_ne]; exact h1
        have e2 : (m == 2) = false := by rw [beq_eq_false_iff_ne]; exact h2
        have e3 : (m == 3) = false := by rw [beq_eq_false_iff_ne]; exact h3
        have HE : Hid (isMo m = false) := by show _ = _; simp [isMo, h1, h2, h3]
        clear h1 h2 h3
        go_enter Tryz.func36, Tryz.ntmps36
        go_wp2_with fail
        go_ret
        refine ⟨?_, rfl⟩
        rw [HE.out]
        rfl

set_option maxRecDepth 100000 in
theorem ma_new (w : World) (pg : Nat) (m : Int) : Calls Tryz.prog 39 #[.pointer (some ⟨pg, 0, none⟩), .int .i64 m] w fun e w' => e = .returned (.agg #[.pointer (some ⟨pg, 0, none⟩), .int .i64 m]) ∧ w.grownBy w' none := by
  have HG : Hid (∀ o, w.grownBy (w.alloc o) none) := fun o => gb_alloc (gb_refl _ _) _
  have hB : (w.alloc (.cells #[.pointer (some ⟨pg, 0, none⟩), .int .i64 m] 76)).heap[w.heap.size]? = some (.cells #[.pointer (some ⟨pg, 0, none⟩), .int .i64 m] 76 (0, 0)) := heap_alloc_new w _
  have d0 := cell_of hB 0 (.pointer (some ⟨pg, 0, none⟩)) rfl
  have d1 := cell_of hB 1 (.int .i64 m) rfl
  clear hB
  go_enter Tryz.func39, Tryz.ntmps39
  go_wp2_with fail
  exact bodyPost_ret (v := .agg #[.pointer (some ⟨pg, 0, none⟩), .int .i64 m]) (by simp [results, Tryz.results39, go_sem, d0, d1]) rfl ⟨rfl, HG.out _⟩

set_option maxRecDepth 100000 in
theorem he_isEmpty (w : World) (gx pg : Nat) (h : w.heap[gx]? = some (.cells #[.pointer (some ⟨pg, 0, none⟩)] 71 (0, 0))) : Calls Tryz.prog 34 #[.pointer (some ⟨gx, 0, none⟩)] w fun e w' => e = .returned (.bool false) ∧ w' = w := by
  have x0 := cell_of h 0 (.pointer (some ⟨pg, 0, none⟩)) rfl
  have hl := heap_lt h
  clear h
  go_enter Tryz.func34, Tryz.ntmps34
  go_wp2_with fail
  go_ret
  exact ⟨rfl, rfl⟩

/-- What Walk answers. -/
def walkA (ls : List (List St)) (ft : Txt) (m : Int) (picks : List Int) : Value := if isMo m = true then walkV (walkW m.toNat ls ft picks (firstW ls.length)) else .tuple #[.string ⟨#[]⟩, .int .i64 4]

set_option maxRecDepth 100000 in
set_option maxHeartbeats 1000000 in
theorem he_Walk (w : World) (ok : Nat → Prop) (gx pg : Nat) (hx : w.heap[gx]? = some (.cells #[.pointer (some ⟨pg, 0, none⟩)] 71 (0, 0))) (ls : List (List St)) (fa : Bool) (ft : Txt) (hP : ProgRep w ok pg ls fa ft) (hok : ∀ x, ok x → x < w.heap.size) (ho : LsOk ls) (m : Int) (picks : List Int) (pv : Value) (hp : PicksAt w pv picks) :
    Calls Tryz.prog 24 #[.pointer (some ⟨gx, 0, none⟩), .int .i64 m, pv] w fun e w' => e = .returned (walkA ls ft m picks) ∧ w.grownBy w' none := by
  have x0 := cell_of hx 0 (.pointer (some ⟨pg, 0, none⟩)) rfl
  have hl := heap_lt hx
  have HE : Hid (Calls Tryz.prog 34 #[.pointer (some ⟨gx, 0, none⟩)] w fun e w' => e = .returned (.bool false) ∧ w' = w) := he_isEmpty w gx pg hx
  cases hm : isMo m with
  | false =>
    have HA : Hid (walkA ls ft m picks = .tuple #[.string ⟨#[]⟩, .int .i64 4]) := by show _ = _; unfold walkA; rw [hm]; rfl
    have HI : Hid (Calls Tryz.prog 36 #[.int .i64 m] w fun e w' => e = .returned (.bool false) ∧ w' = w) := by rw [← hm]; exact he_isModel w m
    clear hm hP hok ho hp hx
    go_enter Tryz.func24, Tryz.ntmps24
    go_wp2_with fail
    refine HI.out.mono ?_
    rintro e w1 ⟨rfl, rfl⟩
    go_wp2_with fail
    go_ret2
    refine ⟨?_, gb_refl _ _⟩
    rw [HA.out]
    rfl
  | true =>
    have HI : Hid (Calls Tryz.prog 36 #[.int .i64 m] w fun e w' => e = .returned (.bool true) ∧ w' = w) := by rw [← hm]; exact he_isModel w m
    have hm3 : m = 1 ∨ m = 2 ∨ m = 3 := by simpa [isMo] using hm
    obtain ⟨k, rfl⟩ : ∃ k : Nat, m = (k : Int) := ⟨m.toNat, by omega⟩
    have HA : Hid (walkA ls ft (k : Int) picks = walkV (walkW k ls ft picks (firstW ls.length))) := by show _ = _; unfold walkA; rw [hm, if_pos rfl, Int.toNat_natCast]
    have HWL : Hid (∀ W', w.grownBy W' none → Calls Tryz.prog 41 #[.agg #[.pointer (some ⟨pg, 0, none⟩), .int .i64 (k : Nat)], pv] W' fun e w' => e = .returned (walkV (walkW k ls ft picks (firstW ls.length))) ∧ W'.grownBy w' none) := fun W' hg => by
      refine he_walk W' ok pg ls fa ft (hP.mono (fun x hx => hx) (fun x hx => hg.block x (hok x hx) (by simp))) (fun x hx => Nat.lt_of_lt_of_le (hok x hx) hg.size) ho k (by omega) picks pv ?_
      obtain ⟨a, cap, e, h1, h2⟩ := hp
      refine ⟨a, cap, e, h1, fun j x hx => ?_⟩
      obtain ⟨g, o, b1, b2, b3⟩ := h2 j x hx
      exact ⟨g, o, b1, gb_cell hg b2 (by simp), b3⟩
    have HNW : Hid (Calls Tryz.prog 39 #[.pointer (some ⟨pg, 0, none⟩), .int .i64 (k : Nat)] w fun e w' => e = .returned (.agg #[.pointer (some ⟨pg, 0, none⟩), .int .i64 (k : Nat)]) ∧ w.grownBy w' none) := ma_new w pg k
    clear hm hm3 hP hok ho hp hx
    go_enter Tryz.func24, Tryz.ntmps24
    go_wp2_with fail
    refine HI.out.mono ?_
    rintro e w1 ⟨rfl, rfl⟩
    go_wp2_with fail
    refine HE.out.mono ?_
    rintro e w2 ⟨rfl, rfl⟩
    go_wp2_with fail
    refine HNW.out.mono ?_
    rintro e w3 ⟨rfl, hg3⟩
    go_wp2_with fail
    refine (HWL.out w3 hg3).mono ?_
    rintro e w4 ⟨rfl, hg4⟩
    have HG4 : Hid (_) := gb_trans hg3 hg4
    obtain ⟨r, hr⟩ : ∃ r, r = walkW k ls ft picks (firstW ls.length) := ⟨_, rfl⟩
    rw [← hr] at HA ⊢
    clear hr HWL
    cases r with
    | none =>
      unfold walkV at *
      go_wp2_with fail
      go_ret2
      refine ⟨?_, HG4.out⟩
      rw [HA.out]
      rfl
    | some t =>
      unfold walkV at *
      go_wp2_with fail
      go_ret2
      refine ⟨?_, HG4.out⟩
      rw [HA.out]
      rfl
end Go.Proofs.YtmpaeladhoomoaaGreatDoor
