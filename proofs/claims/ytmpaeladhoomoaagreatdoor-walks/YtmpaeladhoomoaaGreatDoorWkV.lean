/-
  The document's machine: states as they lie; which store is the oldest, what a thread sees.
  The document's machine: a pick without its sign, by how many moves there are.
  The document's machine: nothing is put behind nothing.
  The document's machine: a state that may be changed.
  The document's machine: copied, walked.
  The document's machine, plainly; a state of one's own that is changed.
-/
import Derived.Test.YtmpaeladhoomoaaGreatDoorPrB
namespace Go.Proofs.YtmpaeladhoomoaaGreatDoor
open Go.RowKit

/-- A thread of a state: its next step, its four registers, its stores that wait. -/
structure WTh where
  next : Nat
  regs : List Nat
  wait : List (Nat × Nat)
/-- Stores that wait, as they lie. -/
def WaitAt (w : World) (ok : Nat → Prop) (v : Value) (l : List (Nat × Nat)) : Prop :=
  ∃ (wa : Option Addr) (c : Nat), v = .slice wa l.length c ∧ l.length ≤ c ∧ ∀ (j : Nat) (x : Nat × Nat), l[j]? = some x → ∃ g, wa = some ⟨g, 0, none⟩ ∧ ok g ∧ w.cell? ⟨g, j * 2, none⟩ = some (.int .i64 (x.1 : Nat)) ∧ w.cell? ⟨g, j * 2 + 1, none⟩ = some (.int .i64 (x.2 : Nat))
/-- Threads, as they lie: six cells each. -/
def ThsAt (w : World) (ok : Nat → Prop) (v : Value) (ts : List WTh) : Prop :=
  ∃ (ta : Option Addr) (c : Nat), v = .slice ta ts.length c ∧ ∀ (i : Nat) (t : WTh), ts[i]? = some t → t.regs.length = 4 ∧ ∃ g wv, ta = some ⟨g, 0, none⟩ ∧ ok g ∧ w.cell? ⟨g, i * 6, none⟩ = some (.int .i64 (t.next : Nat)) ∧
    (∀ (k n : Nat), t.regs[k]? = some n → w.cell? ⟨g, i * 6 + (1 + k), none⟩ = some (.int .i64 (n : Nat))) ∧ w.cell? ⟨g, i * 6 + 5, none⟩ = some wv ∧ WaitAt w ok wv t.wait
theorem WaitAt.mono {w w' : World} {ok ok' : Nat → Prop} {v : Value} {l : List (Nat × Nat)} (h : WaitAt w ok v l) (h1 : ∀ g, ok g → ok' g) (h2 : ∀ g, ok g → w'.heap[g]? = w.heap[g]?) : WaitAt w' ok' v l := by
  obtain ⟨wa, c, e, hc, h⟩ := h
  refine ⟨wa, c, e, hc, fun j x hx => ?_⟩
  obtain ⟨g, a1, a2, a3, a4⟩ := h j x hx
  exact ⟨g, a1, h1 g a2, (cell_same (h2 g a2) _).trans a3, (cell_same (h2 g a2) _).trans a4⟩
theorem ThsAt.mono {w w' : World} {ok ok' : Nat → Prop} {v : Value} {ts : List WTh} (h : ThsAt w ok v ts) (h1 : ∀ g, ok g → ok' g) (h2 : ∀ g, ok g → w'.heap[g]? = w.heap[g]?) : ThsAt w' ok' v ts := by
  obtain ⟨ta, c, e, h⟩ := h
  refine ⟨ta, c, e, fun i t ht => ?_⟩
  obtain ⟨h0, g, wv, a1, a2, a3, a4, a5, a6⟩ := h i t ht
  exact ⟨h0, g, wv, a1, h1 g a2, (cell_same (h2 g a2) _).trans a3, fun k n hn => (cell_same (h2 g a2) _).trans (a4 k n hn), (cell_same (h2 g a2) _).trans a5, a6.mono h1 h2⟩

/-- The first store that waits for a place, from one on. -/
def oldP (p : Nat) : Nat → List (Nat × Nat) → Int
  | _, [] => -1
  | k, x :: r => if x.1 = p then (k : Int) else oldP p (k + 1) r
theorem oldP_step (p : Nat) (l : List (Nat × Nat)) (k : Nat) (x : Nat × Nat) (h : l[k]? = some x) : oldP p k (l.drop k) = if x.1 = p then (k : Int) else oldP p (k + 1) (l.drop (k + 1)) := by
  obtain ⟨hk, hx⟩ := List.getElem?_eq_some_iff.1 h
  rw [List.drop_eq_getElem_cons hk, hx, oldP]

set_option maxRecDepth 100000 in
set_option maxHeartbeats 2000000 in
theorem oldest_any (w : World) (ok : Nat → Prop) (v : Value) (ts : List WTh) (h : ThsAt w ok v ts) (m0 m1 m2 m3 : Int) (i : Nat) (t : WTh) (hi : ts[i]? = some t) (hl : t.wait.length ≤ 1000) (p : Nat) :
    Calls Tryz.prog 112 #[.agg #[v, .int .i64 m0, .int .i64 m1, .int .i64 m2, .int .i64 m3], .int .i64 (i : Nat), .int .i64 (p : Nat)] w fun e w' => e = .returned (.int .i64 (oldP p 0 t.wait)) ∧ w.grownBy w' none := by
  obtain ⟨ta, c, rfl, h⟩ := h
  obtain ⟨_, g, wv, rfl, _, _, _, a5, wa, wc, rfl, _, hw⟩ := h i t hi
  have hin := (List.getElem?_eq_some_iff.1 hi).1
  have hi1 : (i : Int) < (ts.length : Int) := by omega
  have hgl : g < w.heap.size := World.block_lt_of_cell? w ⟨g, i * 6 + 5, none⟩ a5
  have HW : Hid (∀ (j : Nat) (x : Nat × Nat), t.wait[j]? = some x → ∃ g, wa = some ⟨g, 0, none⟩ ∧ ok g ∧ w.cell? ⟨g, j * 2, none⟩ = some (.int .i64 (x.1 : Nat)) ∧ w.cell? ⟨g, j * 2 + 1, none⟩ = some (.int .i64 (x.2 : Nat))) := hw
  clear h hi hw
  generalize t.wait = l at HW a5 hl ⊢
  have HG : Hid (w.grownBy (w.alloc (.cells #[.slice (some ⟨g, 0, none⟩) ts.length c, .int .i64 m0, .int .i64 m1, .int .i64 m2, .int .i64 m3] 153)) none) := gb_alloc (gb_refl _ _) _
  go_enter Tryz.func112, Tryz.ntmps112
  go_wp2_with fail
  go_loopw [7] (fun v7 wr => ∃ k : Nat, v7 = .int .i64 (k : Nat) ∧ k ≤ l.length ∧ wr = (w.alloc (.cells #[.slice (some ⟨g, 0, none⟩) ts.length c, .int .i64 m0, .int .i64 m1, .int .i64 m2, .int .i64 m3] 153)) ∧ Hid (oldP p 0 l = oldP p k (l.drop k))) (fun v7 _ => l.length - (intOf v7).toNat)
  case atStart => exact ⟨0, rfl, Nat.zero_le _, rfl, rfl⟩
  case round =>
    obtain ⟨k, rfl, hk, rfl, HR⟩ := hrel
    by_cases hkl : k < l.length
    · have hk' : decide ((k : Int) < (l.length : Int)) = true := by simp; omega
      obtain ⟨x, hx⟩ : ∃ x, l[k]? = some x := ⟨l[k], List.getElem?_eq_getElem hkl⟩
      obtain ⟨g2, rfl, _, b0, b1⟩ := HW.out k x hx
      have hg2 : g2 < w.heap.size := World.block_lt_of_cell? w ⟨g2, k * 2, none⟩ b0
      have HS : Hid (_ = _) := oldP_step p l k x hx
      clear hx
      by_cases hp : x.1 = p
      · have hp' : ((x.1 : Int) == (p : Int)) = true := by rw [beq_iff_eq]; omega
        have HP : Hid (x.1 = p) := hp
        clear hp
        go_wp2_with fail
        go_ret
        refine ⟨?_, HG.out⟩
        rw [HR.out, HS.out, if_pos HP.out]
        rfl
      · have hp' : ((x.1 : Int) == (p : Int)) = false := by rw [beq_eq_false_iff_ne]; omega
        have HP : Hid (¬ x.1 = p) := hp
        clear hp
        go_wp2_with fail
        refine ⟨⟨k + 1, by go_num, by omega, by first | trivial | rfl, ?_⟩, by simp [intOf]; omega⟩
        show _ = _
        rw [HR.out, HS.out, if_neg HP.out]
    · have hk' : decide ((k : Int) < (l.length : Int)) = false := by simp; omega
      go_wp2_with fail
      go_ret
      refine ⟨?_, HG.out⟩
      rw [HR.out, List.drop_eq_nil_of_le (by omega)]
      rfl

/-- What a thread sees at a place: its last store that waits for it, or what is in memory. -/
def seesP (p : Nat) : Int → List (Nat × Nat) → Int
  | m, [] => m
  | m, x :: r => seesP p (if x.1 = p then (x.2 : Int) else m) r
theorem seesP_snoc (p : Nat) (x : Nat × Nat) : ∀ (l : List (Nat × Nat)) (m : Int), seesP p m (l ++ [x]) = if x.1 = p then (x.2 : Int) else seesP p m l := by
  intro l
  induction l with
  | nil => intro m; rfl
  | cons y r ih => intro m; exact ih _
def memP (p : Nat) (m0 m1 m2 m3 : Int) : Int := if p = 0 then m0 else if p = 1 then m1 else if p = 2 then m2 else m3

set_option maxRecDepth 100000 in
set_option maxHeartbeats 2000000 in
theorem sees_any (w : World) (ok : Nat → Prop) (v : Value) (ts : List WTh) (h : ThsAt w ok v ts) (m0 m1 m2 m3 : Int) (i : Nat) (t : WTh) (hi : ts[i]? = some t) (hl : t.wait.length ≤ 1000) (p : Nat) (hp4 : p < 4) :
    Calls Tryz.prog 166 #[.agg #[v, .int .i64 m0, .int .i64 m1, .int .i64 m2, .int .i64 m3], .int .i64 (i : Nat), .int .i64 (p : Nat)] w fun e w' => e = .returned (.int .i64 (seesP p (memP p m0 m1 m2 m3) t.wait)) ∧ w.grownBy w' none := by
  obtain ⟨ta, c, rfl, h⟩ := h
  obtain ⟨_, g, wv, rfl, _, _, _, a5, wa, wc, rfl, _, hw⟩ := h i t hi
  have hin := (List.getElem?_eq_some_iff.1 hi).1
  have hi1 : (i : Int) < (ts.length : Int) := by omega
  have hgl : g < w.heap.size := World.block_lt_of_cell? w ⟨g, i * 6 + 5, none⟩ a5
  have HW : Hid (∀ (j : Nat) (x : Nat × Nat), t.wait[j]? = some x → ∃ g, wa = some ⟨g, 0, none⟩ ∧ ok g ∧ w.cell? ⟨g, j * 2, none⟩ = some (.int .i64 (x.1 : Nat)) ∧ w.cell? ⟨g, j * 2 + 1, none⟩ = some (.int .i64 (x.2 : Nat))) := hw
  clear h hi hw
  generalize t.wait = l at HW a5 hl ⊢
  have HG : Hid (w.grownBy (w.alloc (.cells #[.slice (some ⟨g, 0, none⟩) ts.length c, .int .i64 m0, .int .i64 m1, .int .i64 m2, .int .i64 m3] 153)) none) := gb_alloc (gb_refl _ _) _
  go_enter Tryz.func166, Tryz.ntmps166
  go_wp2_with fail
  go_loopw [8] (fun v8 wr => ∃ k : Nat, v8 = .int .i64 ((k : Int) - 1) ∧ k ≤ l.length ∧ wr = (w.alloc (.cells #[.slice (some ⟨g, 0, none⟩) ts.length c, .int .i64 m0, .int .i64 m1, .int .i64 m2, .int .i64 m3] 153)) ∧ Hid (seesP p (memP p m0 m1 m2 m3) l = seesP p (memP p m0 m1 m2 m3) (l.take k))) (fun v8 _ => (intOf v8 + 1).toNat)
  case atStart => exact ⟨l.length, by first | rfl | simp, Nat.le_refl _, rfl, by show _ = _; rw [List.take_length]⟩
  case round =>
    obtain ⟨k, rfl, hk, rfl, HR⟩ := hrel
    by_cases hk0 : k = 0
    · subst hk0
      have hp : p = 0 ∨ p = 1 ∨ p = 2 ∨ p = 3 := by omega
      have HE : Hid (seesP p (memP p m0 m1 m2 m3) l = memP p m0 m1 m2 m3) := HR.out
      clear HR
      rcases hp with rfl | rfl | rfl | rfl
      all_goals
        go_wp2_with fail
        go_ret
        refine ⟨?_, HG.out⟩
        rw [HE.out]
        rfl
    · obtain ⟨j, rfl⟩ : ∃ j, k = j + 1 := ⟨k - 1, by omega⟩
      have hj' : decide ((0 : Int) ≤ ((j + 1 : Nat) : Int) - 1) = true := by simp
      have hjj : ((j + 1 : Nat) : Int) - 1 = (j : Int) := by omega
      rw [hjj] at hj' ⊢
      obtain ⟨x, hx⟩ : ∃ x, l[j]? = some x := ⟨l[j], List.getElem?_eq_getElem (by omega)⟩
      obtain ⟨g2, rfl, _, b0, b1⟩ := HW.out j x hx
      have hg2 : g2 < w.heap.size := World.block_lt_of_cell? w ⟨g2, j * 2, none⟩ b0
      have hjl : (j : Int) < (l.length : Int) := by omega
      have HS : Hid (seesP p (memP p m0 m1 m2 m3) (l.take (j + 1)) = if x.1 = p then (x.2 : Int) else seesP p (memP p m0 m1 m2 m3) (l.take j)) := by show _ = _; rw [List.take_add_one, hx]; exact seesP_snoc p x _ _
      clear hx hjj
      by_cases hp : x.1 = p
      · have hp' : ((x.1 : Int) == (p : Int)) = true := by rw [beq_iff_eq]; omega
        have HP : Hid (x.1 = p) := hp
        clear hp
        go_wp2_with fail
        go_ret
        refine ⟨?_, HG.out⟩
        rw [HR.out, HS.out, if_pos HP.out]
        rfl
      · have hp' : ((x.1 : Int) == (p : Int)) = false := by rw [beq_eq_false_iff_ne]; omega
        have HP : Hid (¬ x.1 = p) := hp
        clear hp
        go_wp2_with fail
        refine ⟨⟨j, rfl, by omega, by first | trivial | rfl, ?_⟩, by simp [intOf]⟩
        show _ = _
        rw [HR.out, HS.out, if_neg HP.out]
end Go.Proofs.YtmpaeladhoomoaaGreatDoor

namespace Go.Proofs.YtmpaeladhoomoaaGreatDoor
open Go.RowKit

/-- A pick's size, by some. -/
def sizeP (n : Int) (b : Nat) : Nat := if n = -9223372036854775808 then 0 else n.natAbs % b

set_option maxRecDepth 100000 in
set_option maxHeartbeats 1000000 in
theorem size_any (w : World) (n : Int) (hn : -9223372036854775808 ≤ n ∧ n ≤ 9223372036854775807) (b : Nat) (hb : 0 < b) (hb2 : b ≤ 1000000) :
    Calls Tryz.prog 70 #[.int .i64 n, .int .i64 (b : Nat)] w fun e w' => e = .returned (.int .i64 (sizeP n b : Nat)) ∧ w.grownBy w' none := by
  have hb0 : ((b : Int) == 0) = false := by rw [beq_eq_false_iff_ne]; omega
  by_cases h0 : n = -9223372036854775808
  · subst h0
    have hw : wrap64 9223372036854775808 = -9223372036854775808 := by first | decide | (unfold wrap64; decide) | (unfold wrap64; omega)
    have HE : Hid (sizeP (-9223372036854775808) b = 0) := by show _ = _; unfold sizeP; rw [if_pos rfl]
    go_enter Tryz.func70, Tryz.ntmps70
    go_wp2_with fail
    go_ret
    refine ⟨?_, gb_refl _ _⟩
    rw [HE.out]
    rfl
  · by_cases h1 : n < 0
    · obtain ⟨m, rfl⟩ : ∃ m : Nat, n = -(m : Int) := ⟨n.natAbs, by omega⟩
      have h1' : decide (-(m : Int) < 0) = true := by simp; omega
      have h2' : decide ((m : Int) < 0) = false := by simp
      have HE : Hid (sizeP (-(m : Int)) b = m % b) := by show _ = _; unfold sizeP; rw [if_neg h0]; simp
      go_enter Tryz.func70, Tryz.ntmps70
      go_wp2_with fail
      go_ret
      refine ⟨?_, gb_refl _ _⟩
      rw [HE.out]
      rfl
    · obtain ⟨m, rfl⟩ : ∃ m : Nat, n = (m : Int) := ⟨n.natAbs, by omega⟩
      have h1' : decide ((m : Int) < 0) = false := by simp
      have HE : Hid (sizeP (m : Int) b = m % b) := by show _ = _; unfold sizeP; rw [if_neg h0]; simp
      go_enter Tryz.func70, Tryz.ntmps70
      go_wp2_with fail
      go_ret
      refine ⟨?_, gb_refl _ _⟩
      rw [HE.out]
      rfl
end Go.Proofs.YtmpaeladhoomoaaGreatDoor

namespace Go.Proofs.YtmpaeladhoomoaaGreatDoor
open Go.RowKit

theorem run_append_none {P : Program} (w : World) (t ty e : TypeId) (i : TypeInfo) (z : Value) (ht : P.underlying t = some (.slice e)) (hi : P.info? e = some i) (hz : i.zero = some z) (x : Option Addr) (c : Nat) :
    (Builtin.append_ #[t, t] ty #[.slice none 0 0, .slice x 0 c]).run P w = .ok (.slice none 0 0) w := by
  cases x with
  | none => simp [Builtin.append_, run_underlying ht, sizeOf, typeInfo, zeroValue, hi, hz, Builtin.lenOf, Builtin.firstCells]
  | some a =>
    have hf := run_firstCells_some (P := P) w i.size 0 a 0 c [] (by simp) (by simp)
    simp [Builtin.append_, run_underlying ht, sizeOf, typeInfo, zeroValue, hi, hz, Builtin.lenOf, hf]
end Go.Proofs.YtmpaeladhoomoaaGreatDoor

namespace Go.Proofs.YtmpaeladhoomoaaGreatDoor
open Go.RowKit

theorem infoWrite : (Tryz.prog.info? 261).map (fun i => (i.zero, i.size, i.bytes)) = some (some (.agg #[.int .i64 0, .int .i64 0]), 2, 16) := by kernel_rfl
theorem infoThread : (Tryz.prog.info? 219).map (fun i => (i.zero, i.size, i.bytes)) = some (some (.agg #[.int .i64 0, .int .i64 0, .int .i64 0, .int .i64 0, .int .i64 0, .slice none 0 0]), 6, 64) := by kernel_rfl

/-- append(nil, x...), whatever x is. -/
theorem wpList_append_row {P : Program} (w : World) {ops : Array Oper} {rest : List Oper} {o : Oper} {a : Act} {Q : Exit → Act → World → Prop} (hgd : o.guard = none) (s x : Operand) (t : TypeId)
    (ho : o.op = .call { callee := .builtin .append, args := #[s, x], argTypes := #[t, t] })
    (base : Nat) (e : TypeId) (i : TypeInfo) (z : Value) (size bytes : Nat) (ht : P.underlying t = some (.slice e)) (hi : P.info? e = some i) (hz : i.zero = some z)
    (hsize : i.size = size) (hby : i.bytes = bytes) (hzs : z.cells.size = size) (hsz : 0 < size)
    (hs : a.eval s = .slice none 0 0) (xa : Option Addr) (m c : Nat) (news : List Value) (hx : a.eval x = .slice xa m c) (hl : news.length = m * size)
    (hnews : ∀ j u, news[j]? = some u → ∃ g, xa = some ⟨g, 0, none⟩ ∧ w.cell? ⟨g, j, none⟩ = some u) (h1 : ∀ u ∈ news, u.oneCell' = true) (h63 : m ≤ maxLen) (hbytes : m * bytes ≤ 140737488355328) (hbase : base ≤ w.heap.size) (H : Nat) (hH : w.heap.size = H)
    (h : ∀ va vc w', w'.ownsRow base e size (.slice va m vc) m news → w.grownBy w' none → (∀ k, (Value.slice va m vc).ownBlock = some k → k = H) → wpList P ops Q rest (a.put o.dst (.slice va m vc)) w') : wpList P ops Q (o :: rest) a w := by
  cases xa with
  | none =>
    have hm : m = 0 := by
      rcases Nat.eq_zero_or_pos m with h0 | h0
      · exact h0
      · have hlt : 0 < news.length := by rw [hl]; exact Nat.mul_pos h0 hsz
        obtain ⟨g, hg, _⟩ := hnews 0 news[0] (List.getElem?_eq_getElem hlt)
        cases hg
    subst hm
    have hn : news = [] := List.eq_nil_of_length_eq_zero (by simpa using hl)
    subst hn
    refine wpList_plain hgd fun _ hK => ?_
    unfold Oper.wp execOp
    simp only [ho, resolve, invoke, builtin, Sem.run_bind, Sem.run_pure, Result.andThen_ok, List.map_toArray, List.map_cons, List.map_nil, hs, hx, run_append_none w t o.type e i z ht hi hz]
    exact hK _ _ (h none 0 w (World.ownsRow_nil w base e size) (gb_refl _ _) (fun k hk => by simp [Value.ownBlock] at hk))
  | some ad =>
    refine wpList_append_own_at w hgd s x t ho base e i z size bytes ht hi hz hsize hby hzs hsz (.slice none 0 0) 0 [] hs (World.ownsRow_nil w base e size) ad m c news hx hl (fun j u hu => ?_) h1 (by omega) (by rw [Nat.zero_add]; exact hbytes) hbase (fun v' w' hown hgr hnil hat => ?_)
    · obtain ⟨g, hg, hc⟩ := hnews j u hu
      cases hg
      rw [addr_add]
      exact hc
    · rw [Nat.zero_add, List.nil_append] at hown
      have hat' : ∀ k, v'.ownBlock = some k → k = H := fun k hk => by
        rcases hat with e2 | e2
        · rw [e2] at hk; simp [Value.ownBlock] at hk
        · rw [e2] at hk; simp at hk; omega
      rcases hown.2 with ⟨rfl, hm⟩ | ⟨g, cap, cur, rfl, _⟩
      · subst hm; exact h none 0 w' hown hgr hat'
      · exact h _ _ w' hown hgr hat'

def wtC (x : Nat × Nat) : List Value := [.int .i64 (x.1 : Nat), .int .i64 (x.2 : Nat)]
def wtF (l : List (Nat × Nat)) : List Value := l.flatMap wtC
theorem wtF_len (l : List (Nat × Nat)) : (wtF l).length = l.length * 2 := by
  induction l with
  | nil => rfl
  | cons x r ih => show (wtC x ++ wtF r).length = _; rw [List.length_append, ih]; simp [wtC]; omega
theorem wtF_get : ∀ (l : List (Nat × Nat)) (i o : Nat) (x : Nat × Nat), l[i]? = some x → o < 2 → (wtF l)[i * 2 + o]? = (wtC x)[o]? := by
  intro l
  induction l with
  | nil => intro i o x h; simp at h
  | cons y r ih =>
    intro i o x h ho
    have hl : (wtC y).length = 2 := rfl
    cases i with
    | zero =>
      simp at h
      subst h
      show (wtC y ++ wtF r)[0 * 2 + o]? = _
      rw [List.getElem?_append_left (by rw [hl]; omega)]
      simp
    | succ i =>
      simp at h
      show (wtC y ++ wtF r)[(i + 1) * 2 + o]? = _
      rw [List.getElem?_append_right (by rw [hl]; omega), hl, show (i + 1) * 2 + o - 2 = i * 2 + o from by omega]
      exact ih i o x h ho
theorem wtF_one (l : List (Nat × Nat)) : ∀ u ∈ wtF l, u.oneCell' = true := by
  intro u hu
  simp only [wtF, List.mem_flatMap] at hu
  obtain ⟨x, _, hu⟩ := hu
  simp [wtC] at hu
  rcases hu with rfl | rfl <;> rfl
/-- The cells of stores that wait, one by one. -/
theorem WaitAt.cells {w : World} {ok : Nat → Prop} {wa : Option Addr} {n c : Nat} {l : List (Nat × Nat)} (h : WaitAt w ok (.slice wa n c) l) : n = l.length ∧ ∀ j u, (wtF l)[j]? = some u → ∃ g, wa = some ⟨g, 0, none⟩ ∧ ok g ∧ w.cell? ⟨g, j, none⟩ = some u := by
  obtain ⟨wa', c', e, _, hh⟩ := h
  simp at e
  obtain ⟨rfl, rfl, rfl⟩ := e
  refine ⟨rfl, fun j u hu => ?_⟩
  have hj := (List.getElem?_eq_some_iff.1 hu).1
  rw [wtF_len] at hj
  obtain ⟨x, hx⟩ : ∃ x, l[j / 2]? = some x := ⟨l[j / 2]'(by omega), List.getElem?_eq_getElem (by omega)⟩
  have hg := wtF_get l (j / 2) (j % 2) x hx (by omega)
  rw [show j / 2 * 2 + j % 2 = j from by omega, hu] at hg
  obtain ⟨g, a1, a2, a3, a4⟩ := hh (j / 2) x hx
  refine ⟨g, a1, a2, ?_⟩
  have : j % 2 = 0 ∨ j % 2 = 1 := by omega
  rcases this with h0 | h0
  · rw [h0] at hg
    simp [wtC] at hg
    rw [hg, ← a3, show j = j / 2 * 2 from by omega, Nat.mul_div_cancel _ (by omega)]
  · rw [h0] at hg
    simp [wtC] at hg
    rw [hg, ← a4]
    congr 2
    omega
theorem WaitAt.of_own {w : World} {B n : Nat} {u : Value} {l : List (Nat × Nat)} {ok : Nat → Prop} (h : w.ownsRow B 261 2 u n (wtF l)) (hn : n = l.length) (hok : ∀ k, u.ownBlock = some k → ok k) : WaitAt w ok u l := by
  subst hn
  rcases h.2 with ⟨rfl, h0⟩ | ⟨g, cap, cur, rfl, _, _, hcap, _⟩
  · have : l = [] := List.eq_nil_of_length_eq_zero h0
    subst this
    exact ⟨none, 0, rfl, Nat.le_refl _, fun j x hx => by simp at hx⟩
  · refine ⟨_, cap, rfl, hcap, fun j x hx => ⟨g, rfl, hok g rfl, ?_, ?_⟩⟩
    · have := h.cells rfl (j * 2) (.int .i64 (x.1 : Nat)) ((wtF_get l j 0 x hx (by omega)).trans rfl)
      rwa [addr_add] at this
    · have := h.cells rfl (j * 2 + 1) (.int .i64 (x.2 : Nat)) ((wtF_get l j 1 x hx (by omega)).trans rfl)
      rwa [addr_add] at this

/-- A thread's cells. -/
def thC (t : WTh) (u : Value) : List Value := [.int .i64 (t.next : Nat), .int .i64 (t.regs.getD 0 0 : Nat), .int .i64 (t.regs.getD 1 0 : Nat), .int .i64 (t.regs.getD 2 0 : Nat), .int .i64 (t.regs.getD 3 0 : Nat), u]
def thF (ts : List WTh) (vs : List Value) : List Value := (ts.zip vs).flatMap (fun p => thC p.1 p.2)
theorem thF_snoc (ts : List WTh) (vs : List Value) (t : WTh) (u : Value) (h : vs.length = ts.length) : thF (ts ++ [t]) (vs ++ [u]) = thF ts vs ++ thC t u := by
  unfold thF
  rw [List.zip_append h.symm]
  simp
theorem thF_get : ∀ (ts : List WTh) (vs : List Value) (i o : Nat) (t : WTh) (u : Value), ts[i]? = some t → vs[i]? = some u → o < 6 → (thF ts vs)[i * 6 + o]? = (thC t u)[o]? := by
  intro ts
  induction ts with
  | nil => intro vs i o t u h; simp at h
  | cons y r ih =>
    intro vs i o t u h hu ho
    cases vs with
    | nil => simp at hu
    | cons z vs =>
      have hl : (thC y z).length = 6 := rfl
      cases i with
      | zero =>
        simp at h hu
        subst h hu
        show (thC y z ++ thF r vs)[0 * 6 + o]? = _
        rw [List.getElem?_append_left (by rw [hl]; omega)]
        simp
      | succ i =>
        simp at h hu
        show (thC y z ++ thF r vs)[(i + 1) * 6 + o]? = _
        rw [List.getElem?_append_right (by rw [hl]; omega), hl, show (i + 1) * 6 + o - 6 = i * 6 + o from by omega]
        exact ih vs i o t u h hu ho

theorem own_at {w w' : World} {B e size n : Nat} {u : Value} {xs : List Value} (h : w.ownsRow B e size u n xs) (hk : ∀ k, u.ownBlock = some k → w'.heap[k]? = w.heap[k]?) : w'.ownsRow B e size u n xs := by
  refine ⟨h.1, ?_⟩
  rcases h.2 with hn | ⟨g, cap, cur, rfl, hB, hg, rest⟩
  · exact .inl hn
  · exact .inr ⟨g, cap, cur, rfl, hB, (hk g rfl).trans hg, rest⟩
theorem own_base {w : World} {B B' e size n : Nat} {u : Value} {xs : List Value} (h : w.ownsRow B e size u n xs) (hb : B' ≤ B) : w.ownsRow B' e size u n xs := by
  refine ⟨h.1, ?_⟩
  rcases h.2 with hn | ⟨g, cap, cur, rfl, hB, rest⟩
  · exact .inl hn
  · exact .inr ⟨g, cap, cur, rfl, Nat.le_trans hb hB, rest⟩

/-- A state's threads that are its own: their row, and each one's stores that wait. -/
structure OwnS (w : World) (B : Nat) (v : Value) (n : Nat) (ts : List WTh) (vs : List Value) : Prop where
  hn : ts.length = n
  len : vs.length = ts.length
  row : w.ownsRow B 219 6 v n (thF ts vs)
  four : ∀ t ∈ ts, t.regs.length = 4
  wt : ∀ (i : Nat) (t : WTh) (u : Value), ts[i]? = some t → vs[i]? = some u → w.ownsRow B 261 2 u t.wait.length (wtF t.wait) ∧ Apart v u
  ap : ∀ (i j : Nat) (a b : Value), i ≠ j → vs[i]? = some a → vs[j]? = some b → Apart a b
theorem OwnS.nil (w : World) (B : Nat) : OwnS w B (.slice none 0 0) 0 [] [] :=
  ⟨rfl, rfl, World.ownsRow_nil _ _ _ _, fun t h => by simp at h, fun i t u h => by simp at h, fun i j a b _ h => by simp at h⟩
theorem OwnS.push {wr w' : World} {B n : Nat} {v v' u : Value} {ts : List WTh} {vs : List Value} {t : WTh} (h : OwnS wr B v n ts vs) (hkeep : ∀ x, B ≤ x → x < wr.heap.size → v.ownBlock ≠ some x → w'.heap[x]? = wr.heap[x]?)
    (hrow : w'.ownsRow B 219 6 v' (n + 1) (thF ts vs ++ thC t u)) (hu : w'.ownsRow B 261 2 u t.wait.length (wtF t.wait)) (h4 : t.regs.length = 4)
    (hun : ∀ k, u.ownBlock = some k → wr.heap.size ≤ k ∧ v'.ownBlock ≠ some k) (hv' : ∀ k, v'.ownBlock = some k → v.ownBlock = some k ∨ wr.heap.size ≤ k) : OwnS w' B v' (n + 1) (ts ++ [t]) (vs ++ [u]) := by
  have hlen := h.len
  have last : ∀ (i : Nat) (t' : WTh) (u' : Value), (ts ++ [t])[i]? = some t' → (vs ++ [u])[i]? = some u' → (ts[i]? = some t' ∧ vs[i]? = some u' ∧ i < ts.length) ∨ (t' = t ∧ u' = u ∧ i = ts.length) := by
    intro i t' u' h1 h2
    by_cases hi : i < ts.length
    · rw [List.getElem?_append_left hi] at h1
      rw [List.getElem?_append_left (by omega)] at h2
      exact Or.inl ⟨h1, h2, hi⟩
    · have hi2 := (List.getElem?_eq_some_iff.1 h1).1
      simp at hi2
      obtain rfl : i = ts.length := by omega
      rw [List.getElem?_append_right (Nat.le_refl _)] at h1
      rw [List.getElem?_append_right (by omega), hlen] at h2
      simp at h1 h2
      exact Or.inr ⟨h1.symm, h2.symm, rfl⟩
  have lastv : ∀ (i : Nat) (u' : Value), (vs ++ [u])[i]? = some u' → (vs[i]? = some u' ∧ i < vs.length) ∨ (u' = u ∧ i = vs.length) := by
    intro i u' h2
    by_cases hi : i < vs.length
    · rw [List.getElem?_append_left hi] at h2
      exact Or.inl ⟨h2, hi⟩
    · have hi2 := (List.getElem?_eq_some_iff.1 h2).1
      simp at hi2
      obtain rfl : i = vs.length := by omega
      rw [List.getElem?_append_right (Nat.le_refl _)] at h2
      simp at h2
      exact Or.inr ⟨h2.symm, rfl⟩
  have oldb : ∀ (i : Nat) (u' : Value), vs[i]? = some u' → ∀ k, u'.ownBlock = some k → B ≤ k ∧ k < wr.heap.size ∧ v.ownBlock ≠ some k := by
    intro i u' hu' k hk
    have hi := (List.getElem?_eq_some_iff.1 hu').1
    obtain ⟨t', ht'⟩ : ∃ t', ts[i]? = some t' := ⟨ts[i]'(by omega), List.getElem?_eq_getElem (by omega)⟩
    have hw := h.wt i t' u' ht' hu'
    exact ⟨(hw.1.lt k hk).1, (hw.1.lt k hk).2, fun e => hw.2 k e hk⟩
  refine ⟨by simp [h.hn], by simp [hlen], by rw [thF_snoc ts vs t u hlen]; exact hrow, ?_, ?_, ?_⟩
  · intro t' ht'
    simp at ht'
    rcases ht' with h1 | rfl
    · exact h.four t' h1
    · exact h4
  · intro i t' u' h1 h2
    rcases last i t' u' h1 h2 with ⟨a1, a2, _⟩ | ⟨rfl, rfl, _⟩
    · have hw := h.wt i t' u' a1 a2
      refine ⟨own_at hw.1 (fun k hk => hkeep k (oldb i u' a2 k hk).1 (oldb i u' a2 k hk).2.1 (oldb i u' a2 k hk).2.2), fun k hk e => ?_⟩
      have ho := oldb i u' a2 k e
      rcases hv' k hk with e2 | e2
      · exact ho.2.2 e2
      · omega
    · exact ⟨hu, fun k hk e => (hun k e).2 hk⟩
  · intro i j a b hij ha hb k hk e
    rcases lastv i a ha with ⟨a1, _⟩ | ⟨rfl, hi⟩ <;> rcases lastv j b hb with ⟨b1, _⟩ | ⟨rfl, hj⟩
    · exact h.ap i j a b hij a1 b1 k hk e
    · have := (oldb i a a1 k hk).2.1; have := (hun k e).1; omega
    · have := (oldb j b b1 k e).2.1; have := (hun k hk).1; omega
    · omega
/-- It lies as a state does. -/
theorem OwnS.at_ {w : World} {B n : Nat} {v : Value} {ts : List WTh} {vs : List Value} {ok : Nat → Prop} (h : OwnS w B v n ts vs) (hok : ∀ k, B ≤ k → k < w.heap.size → ok k) : ThsAt w ok v ts := by
  have hsl : ∃ (ta : Option Addr) (c : Nat), v = .slice ta ts.length c := by
    rcases h.row.2 with ⟨rfl, h0⟩ | ⟨g, cap, cur, rfl, _⟩
    · exact ⟨none, 0, by rw [h.hn, h0]⟩
    · exact ⟨_, cap, by rw [h.hn]⟩
  obtain ⟨ta, c, rfl⟩ := hsl
  refine ⟨ta, c, rfl, fun i t ht => ⟨h.four t (List.mem_of_getElem? ht), ?_⟩⟩
  have hi := (List.getElem?_eq_some_iff.1 ht).1
  have hl := h.len
  obtain ⟨u, hu⟩ : ∃ u, vs[i]? = some u := ⟨vs[i]'(by omega), List.getElem?_eq_getElem (by omega)⟩
  have hw := h.wt i t u ht hu
  rcases h.row.2 with ⟨e, h0⟩ | ⟨g, cap, cur, e, _⟩
  · have := h.hn; omega
  · simp at e
    obtain ⟨rfl, _, _⟩ := e
    have hr := h.row
    have hc : ∀ o x, o < 6 → (thC t u)[o]? = some x → w.cell? ⟨g, i * 6 + o, none⟩ = some x := fun o x ho hx => by
      have := hr.cells rfl (i * 6 + o) x ((thF_get ts vs i o t u ht hu ho).trans hx)
      rwa [addr_add] at this
    refine ⟨g, u, rfl, hok g (hr.lt g rfl).1 (hr.lt g rfl).2, by simpa using hc 0 _ (by omega) rfl, fun k m hk => ?_, hc 5 _ (by omega) rfl, WaitAt.of_own hw.1 rfl (fun k hk => hok k (hw.1.lt k hk).1 (hw.1.lt k hk).2)⟩
    have h4 := h.four t (List.mem_of_getElem? ht)
    have hk4 := (List.getElem?_eq_some_iff.1 hk).1
    have hkk : k = 0 ∨ k = 1 ∨ k = 2 ∨ k = 3 := by omega
    have hd : t.regs.getD k 0 = m := by rw [List.getD_eq_getElem?_getD, hk]; rfl
    rcases hkk with rfl | rfl | rfl | rfl
    all_goals
      rw [← hd]
      exact hc _ _ (by omega) rfl
theorem OwnS.base {w : World} {B B' n : Nat} {v : Value} {ts : List WTh} {vs : List Value} (h : OwnS w B v n ts vs) (hb : B' ≤ B) : OwnS w B' v n ts vs :=
  ⟨h.hn, h.len, own_base h.row hb, h.four, fun i t u h1 h2 => ⟨own_base (h.wt i t u h1 h2).1 hb, (h.wt i t u h1 h2).2⟩, h.ap⟩
end Go.Proofs.YtmpaeladhoomoaaGreatDoor

namespace Go.Proofs.YtmpaeladhoomoaaGreatDoor
open Go.RowKit

def stC (v : Value) (m0 m1 m2 m3 : Int) : Array Value := #[v, .int .i64 m0, .int .i64 m1, .int .i64 m2, .int .i64 m3]

theorem OwnS.same {w w' : World} {B n : Nat} {v : Value} {ts : List WTh} {vs : List Value} (h : OwnS w B v n ts vs) (hk : ∀ x, B ≤ x → w'.heap[x]? = w.heap[x]?) : OwnS w' B v n ts vs :=
  ⟨h.hn, h.len, own_at h.row (fun x hx => hk x (h.row.lt x hx).1), h.four, fun i t u h1 h2 => ⟨own_at (h.wt i t u h1 h2).1 (fun x hx => hk x ((h.wt i t u h1 h2).1.lt x hx).1), (h.wt i t u h1 h2).2⟩, h.ap⟩
theorem cop_own {wr w1 : World} {B k : Nat} {v : Value} {ts : List WTh} {vs : List Value} {o : Obj} (h : OwnS wr B v k ts vs) (hg : (wr.alloc o).grownBy w1 none) (u : Value) (o2 : Obj) : ((w1.setCell ⟨wr.heap.size, 5, none⟩ u).alloc o2).ownsRow B 219 6 v k (thF ts vs) := by
  refine own_at h.row (fun x hx => ?_)
  have hl := (h.row.lt x hx).2
  have hs := hg.size
  simp only [World.size_alloc] at hs
  rw [Below.heap_alloc _ _ _ (by simp [World.setCell]; omega), Below.heap_setCell _ _ _ _ (by simp; omega), hg.block x (by simp; omega) (by simp), Below.heap_alloc _ _ _ hl]
theorem cop_ne {wr : World} {H k : Nat} {v : Value} {ts : List WTh} {vs : List Value} (h : OwnS wr (H + 1 + 1 + 1) v k ts vs) : some (H + 1 + 1) ≠ v.ownBlock := by
  intro e
  have := (h.row.lt _ e.symm).1
  omega
set_option maxRecDepth 100000 in
set_option maxHeartbeats 4000000 in
theorem copied_any (w : World) (ok : Nat → Prop) (v : Value) (ts : List WTh) (h : ThsAt w ok v ts) (m0 m1 m2 m3 : Int) (hn : ts.length ≤ 1000) (hl : ∀ t ∈ ts, t.wait.length ≤ 1000) :
    Calls Tryz.prog 165 #[.agg #[v, .int .i64 m0, .int .i64 m1, .int .i64 m2, .int .i64 m3]] w fun e w' => ∃ v' vs, e = .returned (.agg #[v', .int .i64 m0, .int .i64 m1, .int .i64 m2, .int .i64 m3]) ∧ OwnS w' w.heap.size v' ts.length ts vs ∧ w.grownBy w' none := by
  obtain ⟨ta, c, rfl, hh⟩ := h
  have HH : Hid (∀ (i : Nat) (t : WTh), ts[i]? = some t → t.regs.length = 4 ∧ ∃ g wv, ta = some ⟨g, 0, none⟩ ∧ ok g ∧ w.cell? ⟨g, i * 6, none⟩ = some (.int .i64 (t.next : Nat)) ∧ (∀ (k n : Nat), t.regs[k]? = some n → w.cell? ⟨g, i * 6 + (1 + k), none⟩ = some (.int .i64 (n : Nat))) ∧ w.cell? ⟨g, i * 6 + 5, none⟩ = some wv ∧ WaitAt w ok wv t.wait) := hh
  have HL : Hid (∀ t ∈ ts, t.wait.length ≤ 1000) := hl
  clear hh hl
  obtain ⟨iw, hiw, hw0, hw1, hw2⟩ : ∃ i, Tryz.prog.info? 261 = some i ∧ i.zero = some (.agg #[.int .i64 0, .int .i64 0]) ∧ i.size = 2 ∧ i.bytes = 16 := by
    have := infoWrite
    cases hq : Tryz.prog.info? 261 with
    | none => rw [hq] at this; simp at this
    | some i => rw [hq] at this; simp at this; exact ⟨i, rfl, this.1, this.2.1, this.2.2⟩
  obtain ⟨it, hit, ht0, ht1, ht2⟩ : ∃ i, Tryz.prog.info? 219 = some i ∧ i.zero = some (.agg #[.int .i64 0, .int .i64 0, .int .i64 0, .int .i64 0, .int .i64 0, .slice none 0 0]) ∧ i.size = 6 ∧ i.bytes = 64 := by
    have := infoThread
    cases hq : Tryz.prog.info? 219 with
    | none => rw [hq] at this; simp at this
    | some i => rw [hq] at this; simp at this; exact ⟨i, rfl, this.1, this.2.1, this.2.2⟩
  go_enter Tryz.func165, Tryz.ntmps165
  go_wp2_with fail
  go_loopw [4] (fun v4 wr => ∃ (k : Nat) (oa : Option Addr) (ocap : Nat) (vs : List Value), v4 = .int .i64 (k : Nat) ∧ k ≤ ts.length ∧ wr.heap[w.heap.size]? = some (.cells #[.slice ta ts.length c, .int .i64 m0, .int .i64 m1, .int .i64 m2, .int .i64 m3] 153 (0, 0)) ∧ wr.heap[w.heap.size + 1]? = some (.cells #[.slice none 0 0, .int .i64 0, .int .i64 0, .int .i64 0, .int .i64 0] 153 (0, 0)) ∧ wr.heap[w.heap.size + 1 + 1]? = some (.cells #[.slice oa k ocap, .int .i64 m0, .int .i64 m1, .int .i64 m2, .int .i64 m3] 153 (0, 0)) ∧ w.grownBy wr none ∧ Hid (OwnS wr (w.heap.size + 1 + 1 + 1) (.slice oa k ocap) k (ts.take k) vs)) (fun v4 _ => ts.length - (intOf v4).toNat)
  case atStart =>
    refine ⟨0, none, 0, [], rfl, Nat.zero_le _, ?_, ?_, ?_, ?_, ?_⟩
    · exact heap_alloc_at (heap_alloc_at (heap_alloc_new w _) _) _
    · exact heap_alloc_at (new_at (by simp) _) _
    · exact new_at (by simp) _
    · exact gb_alloc (gb_alloc (gb_alloc (gb_refl _ _) _) _) _
    · exact OwnS.nil _ _
  case round =>
    obtain ⟨k, oa, ocap, vs, rfl, hk, hS, hR, hO, hG, HO⟩ := hrel
    have s0 := cell_of hS 0 _ rfl
    have o0 := cell_of hO 0 _ rfl
    have o1 := cell_of hO 1 _ rfl
    have o2 := cell_of hO 2 _ rfl
    have o3 := cell_of hO 3 _ rfl
    have o4 := cell_of hO 4 _ rfl
    have of := frozen_of hO
    have rf := frozen_of hR
    have hOl := heap_lt hO
    by_cases hkl : k < ts.length
    · have hk' : decide ((k : Int) < (ts.length : Int)) = true := by simp; omega
      obtain ⟨t, ht⟩ : ∃ t, ts[k]? = some t := ⟨ts[k], List.getElem?_eq_getElem hkl⟩
      obtain ⟨h4, g, wv, rfl, hok, a0, ar, a5, hwv⟩ := HH.out k t ht
      have hll : t.wait.length ≤ 1000 := HL.out t (List.mem_of_getElem? ht)
      obtain ⟨wa, wc, rfl, _⟩ := id hwv
      have hwc := hwv.cells
      have hgl := World.block_lt_of_cell? w ⟨g, k * 6, none⟩ a0
      have rr : ∀ o, o < 4 → wr.cell? ⟨g, k * 6 + (1 + o), none⟩ = some (.int .i64 (t.regs.getD o 0 : Nat)) := fun o ho => by
        refine gb_cell hG (ar o _ ?_) (by simp)
        rw [List.getD_eq_getElem?_getD, List.getElem?_eq_getElem (by omega)]
        rfl
      have b0 := gb_cell hG a0 (by simp)
      have b1 := rr 0 (by omega)
      have b2 := rr 1 (by omega)
      have b3 := rr 2 (by omega)
      have b4 := rr 3 (by omega)
      have b5 := gb_cell hG a5 (by simp)
      have hgs := hG.size
      have hgl' : g < wr.heap.size := World.block_lt_of_cell? wr ⟨g, k * 6, none⟩ b0
      have HT : Hid (ts[k]? = some t) := ht
      have HWC : Hid (∀ j u, (wtF t.wait)[j]? = some u → ∃ g, wa = some ⟨g, 0, none⟩ ∧ w.cell? ⟨g, j, none⟩ = some u) := fun j u hu => by obtain ⟨g, e1, _, e2⟩ := hwc.2 j u hu; exact ⟨g, e1, e2⟩
      have H4 : Hid (t.regs.length = 4) := h4
      obtain ⟨r0, r1, r2, r3, HRR⟩ : ∃ r0 r1 r2 r3, Hid (r0 = t.regs.getD 0 0 ∧ r1 = t.regs.getD 1 0 ∧ r2 = t.regs.getD 2 0 ∧ r3 = t.regs.getD 3 0) := ⟨_, _, _, _, rfl, rfl, rfl, rfl⟩
      rw [← HRR.out.1] at b1
      rw [← HRR.out.2.1] at b2
      rw [← HRR.out.2.2.1] at b3
      rw [← HRR.out.2.2.2] at b4
      clear ht hwv hwc a0 ar a5 rr h4
      obtain ⟨m, HM⟩ : ∃ m, Hid (m = t.wait.length) := ⟨_, rfl⟩
      rw [← HM.out] at hll b5
      have HX : Hid ((wr.alloc (.cells #[.int .i64 (t.next : Nat), .int .i64 (r0 : Nat), .int .i64 (r1 : Nat), .int .i64 (r2 : Nat), .int .i64 (r3 : Nat), .slice wa m wc] 219)).heap[wr.heap.size]? = some (.cells #[.int .i64 (t.next : Nat), .int .i64 (r0 : Nat), .int .i64 (r1 : Nat), .int .i64 (r2 : Nat), .int .i64 (r3 : Nat), .slice wa m wc] 219 (0, 0))) := heap_alloc_new wr _
      have tq1 : True := trivial
      have tq2 : True := trivial
      go_wp2_with (first
        | (at_builtin; have _t := tq1; go_must (refine wpList_append_row _ (by rfl) _ _ 217 (by rfl) (w.heap.size + 1 + 1 + 1) 261 iw _ 2 16 Tryz.underlying217 hiw hw0 hw1 hw2 rfl (by decide) (by rfl) wa m wc (wtF t.wait) (by rfl) (by rw [wtF_len, HM.out]) (fun j u hu => by obtain ⟨g', e1, e2⟩ := HWC.out j u hu; exact ⟨g', e1, gb_cell (gb_alloc hG _) e2 (by simp)⟩) (wtF_one _) (by unfold maxLen; omega) (by omega) (by simp; omega) (wr.heap.size + 1) (by simp) ?_; intro ua uc w1 own1 hg1 hat1; clear tq1; have hX1 := heap_gb hg1 HX.out (by simp); have x0 := cell_of hX1 0 _ rfl; have x1 := cell_of hX1 1 _ rfl; have x2 := cell_of hX1 2 _ rfl; have x3 := cell_of hX1 3 _ rfl; have x4 := cell_of hX1 4 _ rfl; have x5 := cell_of hX1 5 _ rfl; have xf := frozen_of hX1; have hO1 := heap_gb hg1 (heap_alloc_at hO _) (by simp); have p0 := cell_of hO1 0 _ rfl; have hs1 := hg1.size; simp only [World.size_alloc] at hs1; have hOl1 := heap_lt hO1; have hXl1 := heap_lt hX1))
        | (at_builtin; have _t := tq2; go_must (refine wpList_append_lies _ (by rfl) _ _ 150 (by rfl) (w.heap.size + 1 + 1 + 1) 219 it _ 6 64 Tryz.underlying150 hit ht0 ht1 ht2 rfl (by decide) (.slice oa k ocap) k (thF (ts.take k) vs) (by rfl) (cop_own HO.out hg1 _ _) ⟨w1.heap.size, 0, none⟩ 1 1 [.int .i64 (t.next : Nat), .int .i64 (r0 : Nat), .int .i64 (r1 : Nat), .int .i64 (r2 : Nat), .int .i64 (r3 : Nat), .slice ua m uc] (by rfl) (by rfl) (World.news_of_block (new_at (by simp [World.setCell]) _)) (fun u hu => by simp at hu; rcases hu with rfl | rfl | rfl | rfl | rfl | rfl <;> rfl) (by decide) (by unfold maxLen; omega) (by omega) (by simp [World.setCell]; omega) (w1.heap.size + 1) (by simp [World.setCell]) ?_; intro g4 cap4 w4 hown4 hgrow4 hat4 hlt4; clear tq2; have hO4 := heap_gb hgrow4 (heap_alloc_at (heap_set_ne hO1 ⟨wr.heap.size, 5, none⟩ (.slice ua m uc) (by simp; omega)) _) (cop_ne HO.out); have y0 := cell_of hO4 0 _ rfl; have yf := frozen_of hO4; have hOl4 := heap_lt hO4)))
      have hbase : ∀ x, (Value.slice oa k ocap).ownBlock = some x → w.heap.size + 1 + 1 + 1 ≤ x ∧ x < wr.heap.size := fun x e => HO.out.row.lt x e
      have keep : ∀ x, x < wr.heap.size → x ≠ w.heap.size + 1 + 1 → (Value.slice oa k ocap).ownBlock ≠ some x → (w4.setCell ⟨w.heap.size + 1 + 1, 0, none⟩ (.slice (some ⟨g4, 0, none⟩) (k + 1) cap4)).heap[x]? = wr.heap[x]? := fun x hx h2 h3 => by
        rw [Below.heap_setCell _ _ _ _ (by simpa using h2), hgrow4.block x (by simp [World.setCell]; omega) (fun e => h3 e.symm), Below.heap_alloc _ _ _ (by simp [World.setCell]; omega), Below.heap_setCell _ _ _ _ (by simp; omega), hg1.block x (by simp; omega) (by simp), Below.heap_alloc _ _ _ hx]
      refine ⟨⟨k + 1, some ⟨g4, 0, none⟩, cap4, vs ++ [.slice ua m uc], by go_num, by omega, ?_, ?_, heap_set' hO4 0 _ _ rfl, ?_, ?_⟩, by simp [intOf]; omega⟩
      · exact (keep _ (by omega) (by omega) (fun e => by have := (hbase _ e).1; omega)).trans hS
      · exact (keep _ (by omega) (by omega) (fun e => by have := (hbase _ e).1; omega)).trans hR
      · exact gb_put_new (gb_new (gb_alloc (gb_put_new (gb_trans (gb_alloc hG _) hg1) hgs 5 _) _) hgrow4 (fun x e => Or.inr (by have := (hbase x e).1; omega))) (by omega) 0 _
      · have e0 : [.int .i64 (t.next : Nat), .int .i64 (r0 : Nat), .int .i64 (r1 : Nat), .int .i64 (r2 : Nat), .int .i64 (r3 : Nat), .slice ua m uc] = thC t (.slice ua m uc) := by
          unfold thC
          rw [← HRR.out.1, ← HRR.out.2.1, ← HRR.out.2.2.1, ← HRR.out.2.2.2]
        rw [e0] at hown4
        have hg4l := hown4.lt g4 rfl
        show OwnS _ _ _ _ (ts.take (k + 1)) _
        rw [List.take_add_one, HT.out]
        refine HO.out.push (fun x hB hx hv => keep x hx (by omega) hv) (own_at hown4 (fun x hx => ?_)) ?_ H4.out (fun x hx => ?_) (fun x hx => ?_)
        · simp [Value.ownBlock] at hx
          exact Below.heap_setCell _ _ _ _ (by simp; omega)
        · rw [← HM.out]
          refine own_at own1 (fun x hx => ?_)
          have hx1 := hat1 x hx
          have hx2 := (own1.lt x hx).2
          rw [Below.heap_setCell _ _ _ _ (by simp; omega), hgrow4.block x (by simp [World.setCell]; omega) (fun e => by have := (hbase x e.symm).2; omega), Below.heap_alloc _ _ _ (by simp [World.setCell]; omega), Below.heap_setCell _ _ _ _ (by simp; omega)]
        · have hx1 := hat1 x hx
          refine ⟨by omega, ?_⟩
          intro e
          simp [Value.ownBlock] at e
          rcases hat4 with e4 | e4
          · have := (hbase _ e4).2; omega
          · omega
        · simp [Value.ownBlock] at hx
          subst hx
          rcases hat4 with e4 | e4
          · exact Or.inl e4
          · exact Or.inr (by omega)
    · have hk' : decide ((k : Int) < (ts.length : Int)) = false := by simp; omega
      obtain rfl : k = ts.length := by omega
      have q0 := cell_of hR 0 _ rfl
      have q1 := cell_of hR 1 _ rfl
      have q2 := cell_of hR 2 _ rfl
      have q3 := cell_of hR 3 _ rfl
      have q4 := cell_of hR 4 _ rfl
      go_wp2_with fail
      have hD := heap_set' (heap_set' (heap_set' (heap_set' (heap_set' hR 0 (.slice oa ts.length ocap) #[.slice oa ts.length ocap, .int .i64 0, .int .i64 0, .int .i64 0, .int .i64 0] rfl) 1 (.int .i64 m0) #[.slice oa ts.length ocap, .int .i64 m0, .int .i64 0, .int .i64 0, .int .i64 0] rfl) 2 (.int .i64 m1) #[.slice oa ts.length ocap, .int .i64 m0, .int .i64 m1, .int .i64 0, .int .i64 0] rfl) 3 (.int .i64 m2) #[.slice oa ts.length ocap, .int .i64 m0, .int .i64 m1, .int .i64 m2, .int .i64 0] rfl) 4 (.int .i64 m3) #[.slice oa ts.length ocap, .int .i64 m0, .int .i64 m1, .int .i64 m2, .int .i64 m3] rfl
      have d0 := cell_of hD 0 _ rfl
      have d1 := cell_of hD 1 _ rfl
      have d2 := cell_of hD 2 _ rfl
      have d3 := cell_of hD 3 _ rfl
      have d4 := cell_of hD 4 _ rfl
      refine bodyPost_ret (v := .agg #[.slice oa ts.length ocap, .int .i64 m0, .int .i64 m1, .int .i64 m2, .int .i64 m3]) (by simp [results, Tryz.results165, go_sem, d0, d1, d2, d3, d4]) rfl ⟨_, vs, rfl, ?_, gb_put_new (gb_put_new (gb_put_new (gb_put_new (gb_put_new hG (by omega) 0 _) (by omega) 1 _) (by omega) 2 _) (by omega) 3 _) (by omega) 4 _⟩
      have ho := HO.out
      rw [List.take_length] at ho
      refine (ho.same (fun x hx => ?_)).base (by omega)
      rw [Below.heap_setCell _ _ _ _ (by simp; omega), Below.heap_setCell _ _ _ _ (by simp; omega), Below.heap_setCell _ _ _ _ (by simp; omega), Below.heap_setCell _ _ _ _ (by simp; omega), Below.heap_setCell _ _ _ _ (by simp; omega)]
end Go.Proofs.YtmpaeladhoomoaaGreatDoor

namespace Go.Proofs.YtmpaeladhoomoaaGreatDoor
open Go.RowKit

/-- A state: its threads and its memory. -/
structure WSt where
  ths : List WTh
  m0 : Nat
  m1 : Nat
  m2 : Nat
  m3 : Nat
def WSt.mem (s : WSt) (p : Nat) : Nat := if p = 0 then s.m0 else if p = 1 then s.m1 else if p = 2 then s.m2 else s.m3
def WSt.put (s : WSt) (p n : Nat) : WSt := ⟨s.ths, if p = 0 then n else s.m0, if p = 1 then n else s.m1, if p = 2 then n else s.m2, if p = 3 then n else s.m3⟩
def WSt.setT (s : WSt) (i : Nat) (t : WTh) : WSt := ⟨s.ths.set i t, s.m0, s.m1, s.m2, s.m3⟩
/-- A thread's store number k comes to memory. -/
def flushP (s : WSt) (i k : Nat) (t : WTh) (x : Nat × Nat) : WSt := (s.put x.1 x.2).setT i ⟨t.next, t.regs, t.wait.eraseIdx k⟩
def memC (v : Value) (s : WSt) : Array Value := #[v, .int .i64 (s.m0 : Nat), .int .i64 (s.m1 : Nat), .int .i64 (s.m2 : Nat), .int .i64 (s.m3 : Nat)]
theorem memC_put (v : Value) (s : WSt) (p n : Nat) (hp : p < 4) : (memC v s).setIfInBounds (1 + p) (.int .i64 (n : Nat)) = memC v (s.put p n) := by
  have : p = 0 ∨ p = 1 ∨ p = 2 ∨ p = 3 := by omega
  rcases this with rfl | rfl | rfl | rfl <;> rfl
theorem memC_get (v : Value) (s : WSt) (p : Nat) (hp : p < 4) : (memC v s)[1 + p]? = some (.int .i64 (s.mem p : Nat)) := by
  have : p = 0 ∨ p = 1 ∨ p = 2 ∨ p = 3 := by omega
  rcases this with rfl | rfl | rfl | rfl <;> rfl

theorem own_set {w : World} {B e size g n cap : Nat} {xs : List Value} (h : w.ownsRow B e size (.slice (some ⟨g, 0, none⟩) n cap) n xs) (j : Nat) (v : Value) : (w.setCell ⟨g, j, none⟩ v).ownsRow B e size (.slice (some ⟨g, 0, none⟩) n cap) n (xs.set j v) := by
  refine ⟨by rw [List.length_set]; exact h.1, ?_⟩
  rcases h.2 with ⟨e, _⟩ | ⟨g', cap', cur, e, hB, hg, h1, h2, h3, h4⟩
  · cases e
  · simp at e
    obtain ⟨rfl, rfl⟩ := e
    refine .inr ⟨g, cap, cur.setIfInBounds j v, rfl, hB, heap_set hg j v, h1, h2, by rw [Array.size_setIfInBounds]; exact h3, ?_⟩
    rw [Array.toList_setIfInBounds, List.take_set, h4]
theorem own_set_ne {w : World} {B e size n : Nat} {u : Value} {xs : List Value} (h : w.ownsRow B e size u n xs) (a : Addr) (v : Value) (hne : u.ownBlock ≠ some a.block) : (w.setCell a v).ownsRow B e size u n xs :=
  own_at h (fun k hk => Below.heap_setCell _ _ _ _ (fun e => hne (by rw [hk, e])))
theorem thF_upd : ∀ (ts : List WTh) (vs : List Value) (i o : Nat) (t : WTh) (u : Value) (t' : WTh) (u' : Value) (val : Value), ts[i]? = some t → vs[i]? = some u → o < 6 → (thC t u).set o val = thC t' u' → (thF ts vs).set (i * 6 + o) val = thF (ts.set i t') (vs.set i u') := by
  intro ts
  induction ts with
  | nil => intro vs i o t u t' u' val h; simp at h
  | cons y r ih =>
    intro vs i o t u t' u' val h hu ho hc
    cases vs with
    | nil => simp at hu
    | cons z vs =>
      have hl : (thC y z).length = 6 := rfl
      cases i with
      | zero =>
        simp at h hu
        subst h hu
        show (thC y z ++ thF r vs).set (0 * 6 + o) val = thC t' u' ++ thF r vs
        rw [List.set_append, if_pos (by rw [hl]; omega), ← hc]
        simp
      | succ i =>
        simp at h hu
        show (thC y z ++ thF r vs).set ((i + 1) * 6 + o) val = thC y z ++ thF (r.set i t') (vs.set i u')
        rw [List.set_append, if_neg (by rw [hl]; omega), hl, show (i + 1) * 6 + o - 6 = i * 6 + o from by omega, ih vs i o t u t' u' val h hu ho hc]
theorem set_cases {α : Type} {l : List α} {i j : Nat} {a b : α} (h : (l.set i a)[j]? = some b) : (j = i ∧ b = a) ∨ (j ≠ i ∧ l[j]? = some b) := by
  rw [List.getElem?_set] at h
  split at h
  · rename_i e
    split at h
    · exact Or.inl ⟨e.symm, by simpa using h.symm⟩
    · cases h
  · rename_i e; exact Or.inr ⟨fun x => e x.symm, h⟩
theorem OwnS.upd {w : World} {B g cap n i o : Nat} {ts : List WTh} {vs : List Value} {t t' : WTh} {u u' val : Value} (h : OwnS w B (.slice (some ⟨g, 0, none⟩) n cap) n ts vs) (ht : ts[i]? = some t) (hu : vs[i]? = some u) (ho : o < 6) (hc : (thC t u).set o val = thC t' u') (h4 : t'.regs.length = 4)
    (hw : w.ownsRow B 261 2 u' t'.wait.length (wtF t'.wait)) (ha : u'.ownBlock ≠ some g) (hap : ∀ j b, j ≠ i → vs[j]? = some b → Apart u' b) : OwnS (w.setCell ⟨g, i * 6 + o, none⟩ val) B (.slice (some ⟨g, 0, none⟩) n cap) n (ts.set i t') (vs.set i u') := by
  refine ⟨by rw [List.length_set]; exact h.hn, by rw [List.length_set, List.length_set]; exact h.len, ?_, ?_, ?_, ?_⟩
  · rw [← thF_upd ts vs i o t u t' u' val ht hu ho hc]
    exact own_set h.row _ _
  · intro x hx
    rcases List.mem_or_eq_of_mem_set hx with h1 | rfl
    · exact h.four x h1
    · exact h4
  · intro j x y hx hy
    rcases set_cases hx with ⟨rfl, rfl⟩ | ⟨hj, hx'⟩
    · rcases set_cases hy with ⟨_, rfl⟩ | ⟨hj, _⟩
      · exact ⟨own_set_ne hw _ _ ha, fun k hk e => ha (by simp [Value.ownBlock] at hk; rw [e, hk])⟩
      · exact (hj rfl).elim
    · rcases set_cases hy with ⟨e, _⟩ | ⟨_, hy'⟩
      · exact (hj e).elim
      · have hh := h.wt j x y hx' hy'
        exact ⟨own_set_ne hh.1 _ _ (fun e => hh.2 g rfl e), hh.2⟩
  · intro j k a b hjk hja hkb
    rcases set_cases hja with ⟨rfl, rfl⟩ | ⟨hj, ha'⟩
    · rcases set_cases hkb with ⟨rfl, _⟩ | ⟨hk, hb'⟩
      · exact (hjk rfl).elim
      · exact hap k b hk hb'
    · rcases set_cases hkb with ⟨rfl, rfl⟩ | ⟨hk, hb'⟩
      · exact fun x h1 h2 => hap j a hj ha' x h2 h1
      · exact h.ap j k a b hjk ha' hb'
/-- Another thread's number of the next step. -/
theorem OwnS.setNext {w : World} {B g cap n i : Nat} {ts : List WTh} {vs : List Value} {t : WTh} {u : Value} (h : OwnS w B (.slice (some ⟨g, 0, none⟩) n cap) n ts vs) (ht : ts[i]? = some t) (hu : vs[i]? = some u) (m : Nat) : OwnS (w.setCell ⟨g, i * 6, none⟩ (.int .i64 (m : Nat))) B (.slice (some ⟨g, 0, none⟩) n cap) n (ts.set i ⟨m, t.regs, t.wait⟩) vs := by
  have hw := h.wt i t u ht hu
  have hh := h.upd (o := 0) (t' := ⟨m, t.regs, t.wait⟩) (u' := u) (val := .int .i64 (m : Nat)) ht hu (by omega) rfl (h.four t (List.mem_of_getElem? ht)) hw.1 (fun e => hw.2 g rfl e) (fun j b hj hb => h.ap i j u b (fun e => hj e.symm) hu hb)
  have hv : vs.set i u = vs := by
    obtain ⟨h1, h2⟩ := List.getElem?_eq_some_iff.1 hu
    rw [← h2]; exact List.set_getElem_self h1
  rw [hv] at hh
  exact hh
theorem getD_set (l : List Nat) (r m k : Nat) (hr : r < l.length) : (l.set r m).getD k 0 = if k = r then m else l.getD k 0 := by
  rw [List.getD_eq_getElem?_getD, List.getD_eq_getElem?_getD, List.getElem?_set]
  by_cases h : r = k
  · subst h; rw [if_pos rfl, if_pos hr, if_pos rfl]; rfl
  · rw [if_neg h, if_neg (fun e => h e.symm)]
theorem OwnS.setReg {w : World} {B g cap n i : Nat} {ts : List WTh} {vs : List Value} {t : WTh} {u : Value} (h : OwnS w B (.slice (some ⟨g, 0, none⟩) n cap) n ts vs) (ht : ts[i]? = some t) (hu : vs[i]? = some u) (r m : Nat) (hr : r < 4) : OwnS (w.setCell ⟨g, i * 6 + (1 + r), none⟩ (.int .i64 (m : Nat))) B (.slice (some ⟨g, 0, none⟩) n cap) n (ts.set i ⟨t.next, t.regs.set r m, t.wait⟩) vs := by
  have hw := h.wt i t u ht hu
  have h4 := h.four t (List.mem_of_getElem? ht)
  have hc : (thC t u).set (1 + r) (.int .i64 (m : Nat)) = thC ⟨t.next, t.regs.set r m, t.wait⟩ u := by
    unfold thC
    simp only [getD_set _ _ _ _ (show r < t.regs.length by omega)]
    have : r = 0 ∨ r = 1 ∨ r = 2 ∨ r = 3 := by omega
    rcases this with rfl | rfl | rfl | rfl <;> rfl
  have hh := h.upd (o := 1 + r) (t' := ⟨t.next, t.regs.set r m, t.wait⟩) (u' := u) (val := .int .i64 (m : Nat)) ht hu (by omega) hc (by simp [h4]) hw.1 (fun e => hw.2 g rfl e) (fun j b hj hb => h.ap i j u b (fun e => hj e.symm) hu hb)
  have hv : vs.set i u = vs := by
    obtain ⟨h1, h2⟩ := List.getElem?_eq_some_iff.1 hu
    rw [← h2]; exact List.set_getElem_self h1
  rw [hv] at hh
  exact hh
/-- append onto what is one's own, whatever is put behind it. -/
theorem run_append_more {P : Program} (w : World) (t ty : TypeId) (base : Nat) (e : TypeId) (i : TypeInfo) (z : Value) (size bytes : Nat) (ht : P.underlying t = some (.slice e)) (hi : P.info? e = some i) (hz : i.zero = some z)
    (hsize : i.size = size) (hby : i.bytes = bytes) (hzs : z.cells.size = size) (hsz : 0 < size)
    (v : Value) (n : Nat) (xs : List Value) (hown : w.ownsRow base e size v n xs)
    (ad : Addr) (m c : Nat) (news : List Value) (hl : news.length = m * size) (hnews : ∀ j u, news[j]? = some u → w.cell? (ad.add j) = some u) (h1 : ∀ u ∈ news, u.oneCell' = true)
    (h63 : n + m ≤ maxLen) (hbytes : (n + m) * bytes ≤ 140737488355328) (hbase : base ≤ w.heap.size) (H : Nat) (hH : w.heap.size = H) :
    ∃ va vc w', (Builtin.append_ #[t, t] ty #[v, .slice (some ad) m c]).run P w = .ok (.slice va (n + m) vc) w' ∧
      w'.ownsRow base e size (.slice va (n + m) vc) (n + m) (xs ++ news) ∧ w.grownBy w' v.ownBlock ∧ (∀ k, (Value.slice va (n + m) vc).ownBlock = some k → v.ownBlock = some k ∨ k = H) := by
  obtain ⟨v', w', hr, h2, h3, _, h5⟩ := run_append_own_at (P := P) w base t ty e i z size bytes ht hi hz hsize hby hzs hsz v n xs hown ad m c news hl hnews h1 h63 hbytes hbase
  have hat : ∀ k, v'.ownBlock = some k → v.ownBlock = some k ∨ k = H := fun k hk => by
    rcases h5 with e5 | e5
    · exact Or.inl (by rw [← e5]; exact hk)
    · right; rw [e5] at hk; simp at hk; omega
  rcases h2.2 with ⟨rfl, h0⟩ | ⟨g, cap, cur, rfl, _⟩
  · refine ⟨none, 0, w', by rw [hr, h0], ?_, h3, ?_⟩
    · rw [h0] at h2 ⊢; exact h2
    · rw [h0]; exact hat
  · exact ⟨_, cap, w', hr, h2, h3, hat⟩
theorem step_append_more {P : Program} (w : World) {ops : Array Oper} {o : Oper} {a : Act} {K : Act → World → Prop} {Q : Exit → Act → World → Prop} {E : Prop} (hgd : o.guard = none) (s x : Operand) (t : TypeId)
    (ho : o.op = .call { callee := .builtin .append, args := #[s, x], argTypes := #[t, t] })
    (base : Nat) (e : TypeId) (i : TypeInfo) (z : Value) (size bytes : Nat) (ht : P.underlying t = some (.slice e)) (hi : P.info? e = some i) (hz : i.zero = some z)
    (hsize : i.size = size) (hby : i.bytes = bytes) (hzs : z.cells.size = size) (hsz : 0 < size)
    (v : Value) (n : Nat) (xs : List Value) (hs : a.eval s = v) (hown : w.ownsRow base e size v n xs)
    (ad : Addr) (m c : Nat) (news : List Value) (hx : a.eval x = .slice (some ad) m c) (hl : news.length = m * size) (hnews : ∀ j u, news[j]? = some u → w.cell? (ad.add j) = some u) (h1 : ∀ u ∈ news, u.oneCell' = true)
    (h63 : n + m ≤ maxLen) (hbytes : (n + m) * bytes ≤ 140737488355328) (hbase : base ≤ w.heap.size) (H : Nat) (hH : w.heap.size = H)
    (h : ∀ va vc w', w'.ownsRow base e size (.slice va (n + m) vc) (n + m) (xs ++ news) → w.grownBy w' v.ownBlock → (∀ k, (Value.slice va (n + m) vc).ownBlock = some k → v.ownBlock = some k ∨ k = H) → K (a.put o.dst (.slice va (n + m) vc)) w') :
    if Region.wanted o (yielded ops a.tmps) = true then Oper.wp P o a w K Q else E := by
  have hw : Region.wanted o (yielded ops a.tmps) = true := by simp [Region.wanted, hgd]
  rw [if_pos hw]
  obtain ⟨va, vc, w', hr, h2, h3, h4⟩ := run_append_more (P := P) w t o.type base e i z size bytes ht hi hz hsize hby hzs hsz v n xs hown ad m c news hl hnews h1 h63 hbytes hbase H hH
  unfold Oper.wp execOp
  simp only [ho, resolve, invoke, builtin, Sem.run_bind, Sem.run_pure, Result.andThen_ok, List.map_toArray, List.map_cons, List.map_nil, hs, hx, hr]
  exact h va vc w' h2 h3 h4
end Go.Proofs.YtmpaeladhoomoaaGreatDoor
