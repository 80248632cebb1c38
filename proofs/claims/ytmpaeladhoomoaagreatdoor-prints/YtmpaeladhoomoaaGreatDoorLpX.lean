/-
  A test in memory, the program's and the document's, that prints as a text; a script's world that holds pairs of them.
  The statements' own functions: load and step with Print, walked.
  The statements' own functions: plays, for loads and prints, and Prints, walked.
  For every script of steps the statement Prints answers true, and its argument reads behind the call as it read before: the program's Load and Print answer at every text as the document's answer does. No condition beyond the row's own: the tables of the library hold what their text lays.
-/
import Derived.Test.YtmpaeladhoomoaaGreatDoorLwX
import Derived.Test.YtmpaeladhoomoaaGreatDoorPwX
import Derived.Test.YtmpaeladhoomoaaGreatDoorPrY
import Derived.Test.YtmpaeladhoomoaaGreatDoorRfP
namespace Go.Proofs.YtmpaeladhoomoaaGreatDoor
open Go.RowKit

structure PX (w : World) (ok : Nat → Prop) (g : Nat) (txt : Txt) : Prop where
  ex : ∃ pg ls fa ft, w.heap[g]? = some (.cells #[.pointer (some ⟨pg, 0, none⟩)] 71 (0, 0)) ∧ ok g ∧ ProgRep w ok pg ls fa ft ∧ (∀ l ∈ ls, ∀ x ∈ l, StOk x) ∧ ls.length ≤ 4 ∧ ft.length ≤ 1000000 ∧ testT ls fa ft = txt
structure RX (w : World) (ok : Nat → Prop) (T : Nat) (txt : Txt) : Prop where
  ex : ∃ (tsv k8 : Value) (bo : Bool) (op : ByteArray) (n1 n2 n3 n4 : Int) (va : Option Addr) (vcap sp : Nat) (l : List Tk),
    w.heap[T]? = some (.cells #[tsv, .bool bo, .string op, .int .i64 n1, .int .i64 n2, .int .i64 n3, .int .i64 n4, k8, .slice va l.length vcap, .int .i64 (sp : Nat)] 149 (0, 0)) ∧ ok T ∧ l.length ≤ 400 ∧ (∀ t ∈ l, t.kind ≤ 20 ∧ t.num ≤ 9) ∧
    (∀ (i : Nat) (v : Value), (l.flatMap rtC)[i]? = some v → ∃ g, va = some ⟨g, 0, none⟩ ∧ ok g ∧ w.cell? ⟨g, i, none⟩ = some v) ∧ rprint sp (l.map kn) = txt
theorem PX.mono {w w' : World} {ok ok' : Nat → Prop} {g : Nat} {txt : Txt} (h : PX w ok g txt) (h1 : ∀ x, ok x → ok' x) (h2 : ∀ x, ok x → w'.heap[x]? = w.heap[x]?) : PX w' ok' g txt := by
  obtain ⟨pg, ls, fa, ft, a1, a2, a3, a4⟩ := h.ex
  exact ⟨pg, ls, fa, ft, (h2 g a2).trans a1, h1 g a2, a3.mono h1 h2, a4⟩
theorem RX.mono {w w' : World} {ok ok' : Nat → Prop} {g : Nat} {txt : Txt} (h : RX w ok g txt) (h1 : ∀ x, ok x → ok' x) (h2 : ∀ x, ok x → w'.heap[x]? = w.heap[x]?) : RX w' ok' g txt := by
  obtain ⟨tsv, k8, bo, op, n1, n2, n3, n4, va, vcap, sp, l, a1, a2, a3, a4, a5, a6⟩ := h.ex
  refine ⟨tsv, k8, bo, op, n1, n2, n3, n4, va, vcap, sp, l, (h2 g a2).trans a1, h1 g a2, a3, a4, fun i v hv => ?_, a6⟩
  obtain ⟨x, b1, b2, b3⟩ := a5 i v hv
  exact ⟨x, b1, h1 x b2, (cell_same (h2 x b2) _).trans b3⟩
theorem PX.print {w : World} {ok : Nat → Prop} {g : Nat} {txt : Txt} (h : PX w ok g txt) (hok : ∀ x, ok x → x < w.heap.size) :
    Calls Tryz.prog 19 #[.pointer (some ⟨g, 0, none⟩)] w fun e w' => e = .returned (.string (bT txt)) ∧ w.grownBy w' none := by
  obtain ⟨pg, ls, fa, ft, a1, a2, a3, a4, a5, a6, rfl⟩ := h.ex
  exact hprint_any w ok g pg ls fa ft a1 a3 hok a4 a5 a6
theorem flat3 : ∀ (l : List Tk) (j o : Nat) (x : Tk), l[j]? = some x → o < 3 → (l.flatMap rtC)[j * 3 + o]? = (rtC x)[o]? := by
  intro l
  induction l with
  | nil => intro j o x h; simp at h
  | cons y r ih =>
    intro j o x h ho
    cases j with
    | zero =>
      simp at h
      subst h
      rw [List.flatMap_cons, Nat.zero_mul, Nat.zero_add, List.getElem?_append_left (by simp [rtC]; omega)]
    | succ j =>
      rw [List.flatMap_cons, List.getElem?_append_right (by simp [rtC]; omega), show (j + 1) * 3 + o - (rtC y).length = j * 3 + o from by simp [rtC]; omega]
      exact ih j o x (by simpa using h) ho
theorem RX.print {w : World} {ok : Nat → Prop} {g : Nat} {txt : Txt} (h : RX w ok g txt) :
    Calls Tryz.prog 44 #[.pointer (some ⟨g, 0, none⟩)] w fun e w' => e = .returned (.string (bT txt)) ∧ w.grownBy w' none := by
  obtain ⟨tsv, k8, bo, op, n1, n2, n3, n4, va, vcap, sp, l, a1, a2, a3, a4, a5, rfl⟩ := h.ex
  refine rprint_any w g tsv k8 bo op n1 n2 n3 n4 va vcap sp l a1 a3 a4 (fun i t ht => ?_)
  obtain ⟨x, b1, _, _⟩ := a5 (i * 3 + 0) _ ((flat3 l i 0 t ht (by omega)).trans rfl)
  refine ⟨x, b1, fun o v hv => ?_⟩
  have ho : o < 3 := (List.getElem?_eq_some_iff.1 hv).1
  obtain ⟨y, c1, _, c3⟩ := a5 (i * 3 + o) v ((flat3 l i o t ht ho).trans hv)
  rw [b1] at c1
  simp at c1
  subst c1
  exact c3
theorem tkl_len (s : ByteArray) : ∀ (n i : Nat), (tkl s i n).length = n := by
  intro n
  induction n with
  | zero => intro i; rfl
  | succ n ih => intro i; simp [tkl, ih]
theorem tkl_le (s : ByteArray) : ∀ (n i : Nat), ∀ t ∈ tkl s i n, t.kind ≤ 20 ∧ t.num ≤ 9 := by
  intro n
  induction n with
  | zero => intro i t ht; simp [tkl] at ht
  | succ n ih =>
    intro i t ht
    rw [tkl] at ht
    rcases List.mem_cons.1 ht with rfl | ht
    · exact tk_le s i
    · exact ih _ t ht
/-- Both tests of one text print alike. -/
theorem pair_of {s : ByteArray} {w1 w2 w3 : World} {gx gy : Nat} (hs : s.size ≤ 400) (hx : TestK2 s w1 w2 gx) (hgx : newB w1 w2 gx) (hy : RTestK s w2 w3 gy) (hg : w2.grownBy w3 none) : ∃ txt, PX w3 (newB w1 w3) gx txt ∧ RX w3 (newB w1 w3) gy txt := by
  obtain ⟨pg, hb, ls, fa, ft, p', ht, hP, hS⟩ := hx
  obtain ⟨tsv, k8, bo, op, n1, n2, n3, n4, va, vcap, r1, r2, r3, r4, r5, r6, _⟩ := hy
  have he := print_same ht hS r3 r4
  have hsz := hg.size
  have hm : ∀ x, newB w1 w2 x → newB w1 w3 x := fun x hx => ⟨hx.1, Nat.lt_of_lt_of_le hx.2 hsz⟩
  have hk : ∀ x, newB w1 w2 x → w3.heap[x]? = w2.heap[x]? := fun x hx => hg.block x hx.2 (by simp)
  refine ⟨testT ls fa ft, ?_, ?_⟩
  · obtain ⟨m1, q1, _, e2, e3, _, e5, _, e7, _⟩ := hS
    refine ⟨pg, ls, fa, ft, (hk gx hgx).trans hb, hm gx hgx, hP.mono hm hk, e3.ok, e5, ?_, rfl⟩
    exact e7.len (tk_bounds s _ (pos_le s m1 _ (Nat.zero_le _))).2.2.2 hs
  · have h12 : w1.heap.size ≤ w2.heap.size := by have := hgx.1; have := hgx.2; omega
    refine ⟨tsv, k8, bo, op, n1, n2, n3, n4, va, vcap, (thrQ s).2.n, tkl s 0 (fmQ s).2.n, ?_, ⟨Nat.le_trans h12 r2.1, r2.2⟩, by rw [tkl_len]; exact r5, tkl_le s _ _, fun i v hv => ?_, ?_⟩
    · rw [tkl_len]; exact r1
    · obtain ⟨g, c1, c2, c3⟩ := r6 i v hv
      exact ⟨g, c1, ⟨Nat.le_trans h12 c2.1, c2.2⟩, c3⟩
    · rw [← he, tkl_toks]; rfl
/-- Where the tests of a script may lie. -/
def okP (w0 w : World) (wb : Nat) (tsv : Value) (x : Nat) : Prop := w0.heap.size ≤ x ∧ x < w.heap.size ∧ x ≠ wb ∧ tsv.ownBlock ≠ some x
structure LP (w0 w : World) (wb n : Nat) (tsv : Value) (xs : List Value) : Prop where
  lw : LW w0 w wb n tsv xs
  len : xs.length = n * 2
  pr : ∀ i, i < n → ∃ gx gy txt, xs[i * 2]? = some (.pointer (some ⟨gx, 0, none⟩)) ∧ xs[i * 2 + 1]? = some (.pointer (some ⟨gy, 0, none⟩)) ∧ PX w (okP w0 w wb tsv) gx txt ∧ RX w (okP w0 w wb tsv) gy txt
theorem LP.grow {w0 w w' : World} {wb n : Nat} {tsv : Value} {xs : List Value} (l : LP w0 w wb n tsv xs) (hg : w.grownBy w' none) : LP w0 w' wb n tsv xs := by
  refine ⟨l.lw.grow hg, l.len, fun i hi => ?_⟩
  obtain ⟨gx, gy, txt, a1, a2, a3, a4⟩ := l.pr i hi
  have h1 : ∀ x, okP w0 w wb tsv x → okP w0 w' wb tsv x := fun x hx => ⟨hx.1, Nat.lt_of_lt_of_le hx.2.1 hg.size, hx.2.2⟩
  have h2 : ∀ x, okP w0 w wb tsv x → w'.heap[x]? = w.heap[x]? := fun x hx => hg.block x hx.2.1 (by simp)
  exact ⟨gx, gy, txt, a1, a2, a3.mono h1 h2, a4.mono h1 h2⟩
theorem LP.start (w : World) (l : LW w (w.alloc (.cells #[.slice none 0 0, .slice none 0 0] 66)) w.heap.size 0 (.slice none 0 0) []) : LP w (w.alloc (.cells #[.slice none 0 0, .slice none 0 0] 66)) w.heap.size 0 (.slice none 0 0) [] :=
  ⟨l, rfl, fun i hi => by omega⟩
theorem LP.push {w0 w w' : World} {o : Obj} {wb n g cap B gx gy : Nat} {tsv : Value} {xs : List Value} {txt : Txt} {ok : Nat → Prop} (l : LP w0 w wb n tsv xs) (hgrow : (w.alloc o).grownBy w' tsv.ownBlock) (hown : w'.ownsRow (wb + 1) 84 2 (.slice (some ⟨g, 0, none⟩) (n + 1) cap) (n + 1) (xs ++ [.pointer (some ⟨gx, 0, none⟩), .pointer (some ⟨gy, 0, none⟩)]))
    (hat : tsv.ownBlock = some g ∨ g = B) (hB : B = w.heap.size + 1) (hP : PX w ok gx txt) (hR : RX w ok gy txt) (hok : ∀ x, ok x → okP w0 w wb tsv x) :
    LP w0 (w'.setCell ⟨wb, 0, none⟩ (.slice (some ⟨g, 0, none⟩) (n + 1) cap)) wb (n + 1) (.slice (some ⟨g, 0, none⟩) (n + 1) cap) (xs ++ [.pointer (some ⟨gx, 0, none⟩), .pointer (some ⟨gy, 0, none⟩)]) := by
  have s4 := hgrow.size
  simp only [World.size_alloc] at s4
  have h1 : ∀ x, okP w0 w wb tsv x → okP w0 (w'.setCell ⟨wb, 0, none⟩ (.slice (some ⟨g, 0, none⟩) (n + 1) cap)) wb (.slice (some ⟨g, 0, none⟩) (n + 1) cap) x := by
    intro x hx
    refine ⟨hx.1, by rw [size_set]; have := hx.2.1; omega, hx.2.2.1, ?_⟩
    show some g ≠ some x
    rcases hat with e | e
    · rw [← e]; exact hx.2.2.2
    · have := hx.2.1; simp; omega
  have h2 : ∀ x, okP w0 w wb tsv x → (w'.setCell ⟨wb, 0, none⟩ (.slice (some ⟨g, 0, none⟩) (n + 1) cap)).heap[x]? = w.heap[x]? := fun x hx => by
    rw [Below.heap_setCell _ _ _ _ (by simpa using hx.2.2.1), hgrow.block x (by simp; have := hx.2.1; omega) (fun e => hx.2.2.2 e.symm), Below.heap_alloc _ _ _ hx.2.1]
  have hl := l.len
  refine ⟨l.lw.push hgrow hown, by simp [hl]; omega, fun i hi => ?_⟩
  by_cases hin : i < n
  · obtain ⟨gx', gy', txt', a1, a2, a3, a4⟩ := l.pr i hin
    exact ⟨gx', gy', txt', by rw [List.getElem?_append_left (by omega)]; exact a1, by rw [List.getElem?_append_left (by omega)]; exact a2, a3.mono h1 h2, a4.mono h1 h2⟩
  · obtain rfl : i = n := by omega
    exact ⟨gx, gy, txt, by rw [List.getElem?_append_right (by omega), hl]; simp, by rw [List.getElem?_append_right (by omega), hl]; simp, hP.mono (fun x hx => h1 x (hok x hx)) (fun x hx => h2 x (hok x hx)), hR.mono (fun x hx => h1 x (hok x hx)) (fun x hx => h2 x (hok x hx))⟩
end Go.Proofs.YtmpaeladhoomoaaGreatDoor

namespace Go.Proofs.YtmpaeladhoomoaaGreatDoor
open Go.RowKit

structure Both2 : Prop where
  prog : ∀ (w : World) (s : ByteArray), s.size ≤ maxLen → Calls Tryz.prog 22 #[.string s] w fun e w' => PostRC w (TestK2 s w) (loadQ s) e w'
  ref : ∀ (w : World) (s : ByteArray), s.size ≤ maxLen → Calls Tryz.prog 66 #[.string s] w fun e w' => PostRC w (RTestK s w) (loadQ s) e w'
theorem load_small {s : ByteArray} (h : (loadQ s).1 = 0) : s.size ≤ 400 := by
  by_cases h4 : 400 < s.size
  · unfold loadQ at h; rw [if_pos h4] at h; simp at h
  · omega

set_option maxRecDepth 100000 in
set_option maxHeartbeats 2000000 in
theorem lpload_any (B : Both2) {w0 w : World} {wb n : Nat} {tsv : Value} {xs : List Value} (L : LP w0 w wb n tsv xs) (hn : (n + 1) * 16 ≤ 140737488355328) (k a b c d : Int) (s : ByteArray) (pa : Option Addr) (pl pc : Nat) (hs : s.size ≤ maxLen) :
    Calls Tryz.prog 42 #[.pointer (some ⟨wb, 0, none⟩), .agg #[.int .i64 k, .int .i64 a, .int .i64 b, .int .i64 c, .int .i64 d, .string s, .slice pa pl pc]] w fun e w' => e = .returned (.bool true) ∧ ∃ tsv' xs', LP w0 w' wb (grew (loadQ s).1 n) tsv' xs' := by
  have hwl := heap_lt L.lw.blk
  have HP : Hid (∀ wx, Calls Tryz.prog 22 #[.string s] wx fun e w' => PostRC wx (TestK2 s wx) (loadQ s) e w') := fun wx => B.prog wx s hs
  have HR : Hid (∀ wx, Calls Tryz.prog 66 #[.string s] wx fun e w' => PostRC wx (RTestK s wx) (loadQ s) e w') := fun wx => B.ref wx s hs
  have HSM : Hid ((loadQ s).1 = 0 → s.size ≤ 400) := load_small
  generalize loadQ s = q at HP HR HSM ⊢
  obtain ⟨q1, q2⟩ := q
  simp only
  clear B hs
  obtain ⟨ta, tcap, rfl⟩ := own_slice L.lw.own
  obtain ⟨i0, hi, hz0, hz1, hz2⟩ := info_parts infoTest
  go_enter Tryz.func42, Tryz.ntmps42
  go_wp2_with fail
  refine (HP.out _).mono ?_
  rintro e w1 ⟨hg1, o1, rfl, ho1⟩
  have x5 : w1.cell? ⟨w.heap.size, 5, none⟩ = some (.string s) := cell_of (heap_gb hg1 (heap_alloc_new w _) (by simp)) 5 _ rfl
  go_wp2_with fail
  refine (HR.out _).mono ?_
  rintro e w2 ⟨hg2, o2, rfl, ho2⟩
  simp only at ho1 ho2
  have L2 := L.grow (gb_trans (gb_trans (gb_alloc (gb_refl w none) _) hg1) hg2)
  have hs1 := hg1.size
  simp only [World.size_alloc] at hs1
  clear x5 HP HR
  have hw2 := heap_lt L2.lw.blk
  rcases ho2 with ⟨rfl, rfl, g2, rfl, _, _, HK2⟩ | ⟨hne, rfl⟩
  · rcases ho1 with ⟨_, _, g1, rfl, hgl1, hgl2, HK1⟩ | ⟨hne, _⟩
    · have HPR : Hid (∃ txt, PX w2 (newB (w.alloc (.cells #[.int .i64 k, .int .i64 a, .int .i64 b, .int .i64 c, .int .i64 d, .string s, .slice pa pl pc] 27)) w2) g1 txt ∧ RX w2 (newB (w.alloc (.cells #[.int .i64 k, .int .i64 a, .int .i64 b, .int .i64 c, .int .i64 d, .string s, .slice pa pl pc] 27)) w2) g2 txt) := pair_of (HSM.out rfl) HK1.out ⟨hgl1, hgl2⟩ HK2.out hg2
      have HOB : Hid (∀ x, (Value.slice ta n tcap).ownBlock = some x → x < w.heap.size) := fun x hx => (L.lw.own.lt x hx).2
      have HB0 : Hid (w0.heap.size ≤ wb) := L.lw.hb
      clear HK1 HK2 hg1 hg2 L HSM
      have e0 := cell_of L2.lw.blk 0 _ rfl
      have ef := frozen_of L2.lw.blk
      go_wp2_with (at_builtin; go_must (refine wpList_append_lies _ (by rfl) _ _ 63 (by rfl) (wb + 1) 84 i0 _ 2 16 Tryz.underlying63 hi hz0 hz1 hz2 rfl (by decide) (.slice ta n tcap) n xs (by rfl) (L2.lw.own.alloc _) ⟨w2.heap.size, 0, none⟩ 1 1 [.pointer (some ⟨g1, 0, none⟩), .pointer (some ⟨g2, 0, none⟩)] (by rfl) (by rfl) (World.news_of_block (heap_alloc_new w2 _)) (fun u hu => by simp at hu; rcases hu with rfl | rfl <;> rfl) (by decide) (by unfold maxLen; omega) (by omega) (by simp; omega) (w2.heap.size + 1) (by simp) ?_; intro g cap w3 hown hgrow hat hlt3; have hT3 := heap_gb hgrow (heap_alloc_at L2.lw.blk _) (par_own L2.lw.own (Nat.lt_succ_self wb)); have f0 := cell_of hT3 0 _ rfl; have ff := frozen_of hT3))
      go_ret
      obtain ⟨txt, hX, hY⟩ := HPR.out
      refine ⟨rfl, _, _, L2.push hgrow hown hat rfl hX hY (fun x hx => ?_)⟩
      have a1 := hx.1
      have a2 := hx.2
      rw [World.size_alloc] at a1
      have := HB0.out
      exact ⟨by omega, a2, by omega, fun e => by have := HOB.out x e; omega⟩
    · exact absurd rfl hne
  · rcases ho1 with ⟨h0, _⟩ | ⟨_, rfl⟩
    · exact absurd h0 hne
    · have HNE : Hid (q1 ≠ 0) := hne
      clear hne hg1 hg2
      go_wp2_with fail
      go_ret
      rw [grew_ne HNE.out]
      exact ⟨rfl, _, _, L2⟩

set_option maxRecDepth 100000 in
set_option maxHeartbeats 1000000 in
theorem lpstep_load (B : Both2) {w0 w : World} {wb n : Nat} {tsv : Value} {xs : List Value} (L : LP w0 w wb n tsv xs) (hn : (n + 1) * 16 ≤ 140737488355328) (a b c d : Int) (s : ByteArray) (pa : Option Addr) (pl pc : Nat) (hs : s.size ≤ maxLen) :
    Calls Tryz.prog 30 #[.pointer (some ⟨wb, 0, none⟩), .agg #[.int .i64 1, .int .i64 a, .int .i64 b, .int .i64 c, .int .i64 d, .string s, .slice pa pl pc]] w fun e w' => e = .returned (.bool true) ∧ ∃ tsv' xs', LP w0 w' wb (grew (loadQ s).1 n) tsv' xs' := by
  have L1 := L.grow (gb_alloc (gb_refl w none) (.cells #[.int .i64 1, .int .i64 a, .int .i64 b, .int .i64 c, .int .i64 d, .string s, .slice pa pl pc] 27))
  go_enter Tryz.func30, Tryz.ntmps30
  go_wp2_with fail
  refine (lpload_any B L1 hn 1 a b c d s pa pl pc hs).mono ?_
  rintro e w1 ⟨rfl, tsv', xs', L2⟩
  go_wp2_with fail
  go_ret
  exact ⟨rfl, _, _, L2⟩

/-- Which of n things a raw number speaks of. -/
def pickN (a : Int) (n : Nat) : Nat := ((if a < 0 then -(a + 1) else a).tmod n).toNat
theorem pickN_lt (a : Int) {n : Nat} (h : 0 < n) : pickN a n < n := by
  unfold pickN
  have h1 := Int.tmod_lt_of_pos (if a < 0 then -(a + 1) else a) (show (0 : Int) < n by omega)
  omega
set_option maxRecDepth 100000 in
theorem pick_any (w : World) (a : Int) (n : Nat) (h : (Lit.int .i64 a).wf = true) (hn : 0 < n) (hn2 : n ≤ 140737488355328) :
    Calls Tryz.prog 43 #[.int .i64 a, .int .i64 (n : Nat)] w fun e w' => e = .returned (.int .i64 (pickN a n : Nat)) ∧ w' = w := by
  have hb : -9223372036854775808 ≤ a ∧ a ≤ 9223372036854775807 := by
    simp only [Lit.wf, Bool.and_eq_true, decide_eq_true_eq] at h
    exact ⟨h.1, h.2⟩
  clear h
  have HN : Hid (∀ x : Int, 0 ≤ x → x.tmod (n : Int) = ((x.tmod (n : Int)).toNat : Int)) := fun x hx => by have h2 := Int.tmod_nonneg (n : Int) hx; omega
  have hn0 : ((n : Int) == 0) = false := by rw [beq_eq_false_iff_ne]; omega
  obtain ⟨hb1, hb2⟩ := hb
  by_cases ha : a < 0
  · have ha' : decide (a < 0) = true := by simpa using ha
    have HK : Hid (pickN a n = ((-(a + 1)).tmod n).toNat) := by show _ = _; unfold pickN; rw [if_pos ha]
    generalize pickN a n = k at HK ⊢
    go_enter Tryz.func43, Tryz.ntmps43
    go_wp2_with fail
    go_ret
    refine ⟨?_, rfl⟩
    show Ending.returned (.int .i64 (-((a + 1).tmod n))) = _
    rw [HK.out, ← HN.out (-(a + 1)) (by omega), Int.neg_tmod]
  · have ha' : decide (a < 0) = false := by simpa using ha
    have HK : Hid (pickN a n = (a.tmod n).toNat) := by show _ = _; unfold pickN; rw [if_neg ha]
    generalize pickN a n = k at HK ⊢
    go_enter Tryz.func43, Tryz.ntmps43
    go_wp2_with fail
    go_ret
    refine ⟨?_, rfl⟩
    show Ending.returned (.int .i64 (a % n)) = _
    rw [HK.out, ← HN.out a (by omega), Int.tmod_eq_emod_of_nonneg (by omega)]

set_option maxRecDepth 100000 in
set_option maxHeartbeats 1000000 in
theorem lpstep_print {w0 w : World} {wb n : Nat} {tsv : Value} {xs : List Value} (L : LP w0 w wb n tsv xs) (hn : 0 < n) (hn2 : n * 16 ≤ 140737488355328) (a b c d : Int) (s : ByteArray) (pa : Option Addr) (pl pc : Nat) (ha : (Lit.int .i64 a).wf = true) :
    Calls Tryz.prog 30 #[.pointer (some ⟨wb, 0, none⟩), .agg #[.int .i64 2, .int .i64 a, .int .i64 b, .int .i64 c, .int .i64 d, .string s, .slice pa pl pc]] w fun e w' => e = .returned (.bool true) ∧ LP w0 w' wb n tsv xs := by
  have HP : Hid (∀ wx, Calls Tryz.prog 43 #[.int .i64 a, .int .i64 (n : Nat)] wx fun e w' => e = .returned (.int .i64 (pickN a n : Nat)) ∧ w' = wx) := fun wx => pick_any wx a n ha hn (by omega)
  clear ha
  have hk := pickN_lt a hn
  generalize pickN a n = k at HP hk
  obtain ⟨ta, tcap, rfl⟩ := own_slice L.lw.own
  obtain ⟨tg, rfl⟩ : ∃ tg, ta = some ⟨tg, 0, none⟩ := by
    rcases L.lw.own.2 with ⟨_, h1⟩ | ⟨g', cap', cur, h1, _⟩
    · omega
    · simp at h1; exact ⟨g', h1.1⟩
  have hwl := heap_lt L.lw.blk
  have htl := (L.lw.own.lt tg rfl).2
  have c0 := cell_of L.lw.blk 0 _ rfl
  have hn0 : ((n : Int) == 0) = false := by rw [beq_eq_false_iff_ne]; omega
  obtain ⟨gx, gy, txt, a1, a2, _, _⟩ := L.pr k hk
  have x0 : w.cell? ⟨tg, k * 2, none⟩ = some (.pointer (some ⟨gx, 0, none⟩)) := by rw [← addr_add]; exact L.lw.own.cells rfl _ _ a1
  have x1 : w.cell? ⟨tg, k * 2 + 1, none⟩ = some (.pointer (some ⟨gy, 0, none⟩)) := by rw [← addr_add]; exact L.lw.own.cells rfl _ _ a2
  have HX : Hid (∀ wx, w.grownBy wx none → Calls Tryz.prog 19 #[.pointer (some ⟨gx, 0, none⟩)] wx fun e w' => ∃ txt, e = .returned (.string (bT txt)) ∧ wx.grownBy w' none ∧ Calls Tryz.prog 44 #[.pointer (some ⟨gy, 0, none⟩)] w' fun e w'' => e = .returned (.string (bT txt)) ∧ w'.grownBy w'' none) := by
    intro wx hg
    obtain ⟨gx', gy', txt', b1, b2, b3, b4⟩ := (L.grow hg).pr k hk
    rw [a1] at b1
    rw [a2] at b2
    simp at b1 b2
    subst b1 b2
    refine (b3.print (fun x hx => hx.2.1)).mono (fun e w' h => ⟨txt', h.1, h.2, ?_⟩)
    exact (b4.mono (fun x hx => hx) (fun x hx => h.2.block x hx.2.1 (by simp))).print
  have HLG : Hid (∀ wx, w.grownBy wx none → LP w0 wx wb n (.slice (some ⟨tg, 0, none⟩) n tcap) xs) := fun wx hg => L.grow hg
  clear a1 a2 L
  have m0 : (0 : Int) ≤ (k : Int) := by omega
  have m1 : (k : Int) < (n : Int) := by omega
  have y1 : ¬ wb = w.heap.size + 1 := by omega
  have y2 : ¬ tg = w.heap.size + 1 := by omega
  have y3 : ¬ wb = w.heap.size := by omega
  have y4 : ¬ tg = w.heap.size := by omega
  go_enter Tryz.func30, Tryz.ntmps30
  go_wp2_with fail
  go_region_held3 (fun w' => w'.cell? ⟨wb, 0, none⟩ = some (.slice (some ⟨tg, 0, none⟩) n tcap) ∧ w'.cell? ⟨w.heap.size, 1, none⟩ = some (.int .i64 a) ∧ w'.cell? ⟨tg, k * 2, none⟩ = some (.pointer (some ⟨gx, 0, none⟩)) ∧ w'.cell? ⟨tg, k * 2 + 1, none⟩ = some (.pointer (some ⟨gy, 0, none⟩))) (go_keep)
    (first | (go_at_call 43; refine (HP.out _).mono ?_; rintro e w2 ⟨rfl, rfl⟩))
  all_goals
    go_wp2_with fail
    have hG0 : w.grownBy ((w.alloc (.cells #[.int .i64 2, .int .i64 a, .int .i64 b, .int .i64 c, .int .i64 d, .string s, .slice pa pl pc] 27)).alloc (.cells #[.pointer (some ⟨gx, 0, none⟩), .pointer (some ⟨gy, 0, none⟩)] 84)).drew none := gb_drew (gb_alloc (gb_alloc (gb_refl _ _) _) _)
    refine (HX.out _ hG0).mono ?_
    rintro e w1 ⟨txt', rfl, hg1, hY⟩
    have HY : Hid (Calls Tryz.prog 44 #[.pointer (some ⟨gy, 0, none⟩)] w1 fun e w'' => e = .returned (.string (bT txt')) ∧ w1.grownBy w'' none) := hY
    clear hY
    have z1 : w1.cell? ⟨w.heap.size + 1, 1, none⟩ = some (.pointer (some ⟨gy, 0, none⟩)) := cell_of (heap_gb (gb_from_drew hg1) (new_at (H := w.heap.size + 1) (by simp) _) (by simp)) 1 _ rfl
    go_wp2_with fail
    refine HY.out.mono ?_
    rintro e w2 ⟨rfl, hg2⟩
    go_wp2_with fail
    go_ret
    exact ⟨by simp, HLG.out _ (gb_trans (gb_trans hG0 hg1) hg2)⟩
end Go.Proofs.YtmpaeladhoomoaaGreatDoor

namespace Go.Proofs.YtmpaeladhoomoaaGreatDoor
open Go.RowKit

/-- A script whose numbers are numbers. -/
def Wf (m : Nat) (ops : Nat → OpV) : Prop := ∀ i, i < m → (Lit.int .i64 (ops i).a).wf = true
theorem grown_ge {q n : Nat} (h : 0 < n) : 0 < grew q n := by unfold grew; split <;> omega

set_option maxRecDepth 100000 in
set_option maxHeartbeats 4000000 in
theorem plays2_any (B : Both2) (h0 : (loadQ first).1 = 0) (w : World) (sa : Option Addr) (m cap : Nat) (ops : Nat → OpV) (S : Scr w sa m ops) (SW : Wf m ops) (hm : m * 80 ≤ 140737488351232) (kb : Nat) (hk : w.cell? ⟨kb, 0, none⟩ = some (.int .i64 1)) (hk2 : w.cell? ⟨kb, 1, none⟩ = some (.int .i64 2)) :
    Calls Tryz.prog 14 #[.slice sa m cap, .slice (some ⟨kb, 0, none⟩) 2 2] w fun e w' => e = .returned (.bool true) ∧ w.grownBy w' none := by
  have H0 : Hid ((loadQ first).1 = 0) := h0
  have HW : Hid (Wf m ops) := SW
  clear h0 SW
  have hkl : kb < w.heap.size := World.block_lt_of_cell? w ⟨kb, 0, none⟩ hk
  go_enter Tryz.func14, Tryz.ntmps14
  go_wp2_with fail
  refine (lpstep_load B (LP.start w (LW.start w)) (by decide) 0 0 0 0 first none 0 0 (by decide)).mono ?_
  rintro e w1 ⟨rfl, tsv1, xs1, L1⟩
  rw [show grew (loadQ first).1 0 = 1 from by rw [H0.out]; rfl] at L1
  obtain ⟨ta1, tcap1, rfl⟩ := own_slice L1.lw.own
  have e0 := cell_of L1.lw.blk 0 _ rfl
  go_wp2_with fail
  clear e0
  go_loopw [7] (fun v7 wr => ∃ (i n : Nat) (tsv : Value) (xs : List Value), v7 = .int .i64 (i : Nat) ∧ i ≤ m ∧ n ≤ i + 1 ∧ 0 < n ∧ LP w wr w.heap.size n tsv xs) (fun v7 _ => m - (intOf v7).toNat)
  case atStart => exact ⟨0, 1, _, _, rfl, Nat.zero_le _, by omega, by omega, L1⟩
  case round =>
    obtain ⟨i, n, tsv, xs, rfl, him, hni, hn0, LR⟩ := hrel
    clear L1
    by_cases hi : i < m
    · have hi' : decide ((i : Int) < (m : Int)) = true := by simp; omega
      obtain ⟨sb, off, rfl, hc⟩ := S.at_ i hi
      have hsz := S.len i hi
      have hwf := HW.out i hi
      generalize ops i = o at hc hsz hwf
      obtain ⟨k, a, b, c, d, s, pa, pl, pc⟩ := o
      have HC : Hid (∀ (j : Nat) (v : Value), (opC ⟨k, a, b, c, d, s, pa, pl, pc⟩)[j]? = some v → w.cell? ⟨sb, off + i * 7 + j, none⟩ = some v) := hc
      have HSZ : Hid (s.size ≤ maxLen) := hsz
      have HWF : Hid ((Lit.int .i64 a).wf = true) := hwf
      clear hc hsz hwf
      have hkk : k = 1 ∨ k = 2 ∨ (k ≠ 1 ∧ k ≠ 2) := by omega
      have HJ : Hid (∀ (wr2 : World) (j : Nat) (v : Value), wr.grownBy wr2 none → (opC ⟨k, a, b, c, d, s, pa, pl, pc⟩)[j]? = some v → wr2.cell? ⟨sb, off + i * 7 + j, none⟩ = some v) := fun wr2 j v hg hv => gb_cell (LR.grow hg).lw.gb (HC.out j v hv) (by simp)
      clear HC
      rcases hkk with rfl | rfl | ⟨hk3, hk4⟩
      · go_wp2_with fail
        go_loopw [9, 8] (fun v9 v8 wr2 => ∃ j : Nat, v9 = .int .i64 (j : Nat) ∧ wr.grownBy wr2 none ∧ ((j = 0 ∧ v8 = .bool false) ∨ (j = 1 ∧ v8 = .bool true) ∨ (j = 2 ∧ v8 = .bool true))) (fun v9 _ _ => 2 - (intOf v9).toNat)
        case atStart => exact ⟨0, rfl, gb_refl _ _, Or.inl ⟨rfl, rfl⟩⟩
        case round =>
          obtain ⟨j, rfl, hG, hv⟩ := hrel
          have LQ := LR.grow hG
          have q0 := HJ.out _ 0 _ hG rfl
          have q1 := HJ.out _ 1 _ hG rfl
          have q2 := HJ.out _ 2 _ hG rfl
          have q3 := HJ.out _ 3 _ hG rfl
          have q4 := HJ.out _ 4 _ hG rfl
          have q5 := HJ.out _ 5 _ hG rfl
          have q6 := HJ.out _ 6 _ hG rfl
          simp only [Nat.add_zero] at q0
          have qk := gb_cell LQ.lw.gb hk (by simp)
          have qk2 := gb_cell LQ.lw.gb hk2 (by simp)
          rcases hv with ⟨rfl, rfl⟩ | ⟨rfl, rfl⟩ | ⟨rfl, rfl⟩
          · go_wp2_with fail
            go_quiet (fail)
            go_wp2_with fail
            exact ⟨⟨1, by go_num, gb_drewN hG _, Or.inr (Or.inl ⟨rfl, rfl⟩)⟩, by simp [intOf]⟩
          · go_wp2_with fail
            go_quiet (fail)
            go_wp2_with fail
            exact ⟨⟨2, by go_num, gb_drewN hG _, Or.inr (Or.inr ⟨rfl, rfl⟩)⟩, by simp [intOf]⟩
          · go_wp2_with fail
            refine (lpstep_load B LQ (by omega) a b c d s pa pl pc HSZ.out).mono ?_
            rintro e w3 ⟨rfl, tsv3, xs3, L3⟩
            go_wp2_with fail
            refine (looks_any L3.lw).mono ?_
            rintro e w4 ⟨rfl, rfl⟩
            go_wp2_with fail
            go_roundw
            case measure => simp [intOf]; omega
            case rel => exact ⟨i + 1, _, _, _, by go_num, by omega, grown_le hni, grown_ge hn0, L3⟩
      · go_wp2_with fail
        go_loopw [9, 8] (fun v9 v8 wr2 => ∃ j : Nat, v9 = .int .i64 (j : Nat) ∧ wr.grownBy wr2 none ∧ ((j = 0 ∧ v8 = .bool false) ∨ (j = 1 ∧ v8 = .bool false) ∨ (j = 2 ∧ v8 = .bool true))) (fun v9 _ _ => 2 - (intOf v9).toNat)
        case atStart => exact ⟨0, rfl, gb_refl _ _, Or.inl ⟨rfl, rfl⟩⟩
        case round =>
          obtain ⟨j, rfl, hG, hv⟩ := hrel
          have LQ := LR.grow hG
          have q0 := HJ.out _ 0 _ hG rfl
          have q1 := HJ.out _ 1 _ hG rfl
          have q2 := HJ.out _ 2 _ hG rfl
          have q3 := HJ.out _ 3 _ hG rfl
          have q4 := HJ.out _ 4 _ hG rfl
          have q5 := HJ.out _ 5 _ hG rfl
          have q6 := HJ.out _ 6 _ hG rfl
          simp only [Nat.add_zero] at q0
          have qk := gb_cell LQ.lw.gb hk (by simp)
          have qk2 := gb_cell LQ.lw.gb hk2 (by simp)
          rcases hv with ⟨rfl, rfl⟩ | ⟨rfl, rfl⟩ | ⟨rfl, rfl⟩
          · go_wp2_with fail
            go_quiet (fail)
            go_wp2_with fail
            exact ⟨⟨1, by go_num, gb_drewN hG _, Or.inr (Or.inl ⟨rfl, rfl⟩)⟩, by simp [intOf]⟩
          · go_wp2_with fail
            go_quiet (fail)
            go_wp2_with fail
            exact ⟨⟨2, by go_num, gb_drewN hG _, Or.inr (Or.inr ⟨rfl, rfl⟩)⟩, by simp [intOf]⟩
          · go_wp2_with fail
            refine (lpstep_print LQ hn0 (by omega) a b c d s pa pl pc HWF.out).mono ?_
            rintro e w3 ⟨rfl, L3⟩
            go_wp2_with fail
            refine (looks_any L3.lw).mono ?_
            rintro e w4 ⟨rfl, rfl⟩
            go_wp2_with fail
            go_roundw
            case measure => simp [intOf]; omega
            case rel => exact ⟨i + 1, _, _, _, by go_num, by omega, by omega, hn0, L3⟩
      · have hkb : (k == 1) = false := by rw [beq_eq_false_iff_ne]; exact hk3
        have hkb2 : (k == 2) = false := by rw [beq_eq_false_iff_ne]; exact hk4
        clear hk3 hk4
        go_wp2_with fail
        go_loopw [9, 8] (fun v9 v8 wr2 => ∃ j : Nat, v9 = .int .i64 (j : Nat) ∧ wr.grownBy wr2 none ∧ v8 = .bool false ∧ (j = 0 ∨ j = 1 ∨ j = 2)) (fun v9 _ _ => 2 - (intOf v9).toNat)
        case atStart => exact ⟨0, rfl, gb_refl _ _, rfl, Or.inl rfl⟩
        case round =>
          obtain ⟨j, rfl, hG, rfl, hv⟩ := hrel
          have LQ := LR.grow hG
          have q0 := HJ.out _ 0 _ hG rfl
          simp only [Nat.add_zero] at q0
          have qk := gb_cell LQ.lw.gb hk (by simp)
          have qk2 := gb_cell LQ.lw.gb hk2 (by simp)
          rcases hv with rfl | rfl | rfl
          · go_wp2_with fail
            go_quiet (fail)
            go_wp2_with fail
            exact ⟨⟨1, by go_num, gb_drewN hG _, rfl, Or.inr (Or.inl rfl)⟩, by simp [intOf]⟩
          · go_wp2_with fail
            go_quiet (fail)
            go_wp2_with fail
            exact ⟨⟨2, by go_num, gb_drewN hG _, rfl, Or.inr (Or.inr rfl)⟩, by simp [intOf]⟩
          · go_wp2_with fail
            go_roundw
            case measure => simp [intOf]; omega
            case rel => exact ⟨i + 1, _, _, _, by go_num, by omega, by omega, hn0, LQ⟩
    · have hi' : decide ((i : Int) < (m : Int)) = false := by simp; omega
      go_wp2_with fail
      go_ret
      exact ⟨rfl, LR.lw.gb⟩

set_option maxRecDepth 100000 in
theorem prints_any (B : Both2) (h0 : (loadQ first).1 = 0) (w : World) (sa : Option Addr) (m cap : Nat) (ops : Nat → OpV) (S : Scr w sa m ops) (SW : Wf m ops) (hm : m * 80 ≤ 140737488351232) :
    Calls Tryz.prog 4 #[.slice sa m cap] w fun e w' => e = .returned (.bool true) ∧ w.grownBy w' none := by
  have HB : Hid Both2 := B
  have H0 : Hid ((loadQ first).1 = 0) := h0
  have HW : Hid (Wf m ops) := SW
  clear B h0 SW
  go_enter Tryz.func4, Tryz.ntmps4
  go_wp2_with fail
  refine (plays2_any HB.out H0.out _ sa m cap ops (S.grow (gb_alloc (gb_refl w none) _)) HW.out hm w.heap.size (cell_of (heap_alloc_new w _) 0 _ rfl) (cell_of (heap_alloc_new w _) 1 _ rfl)).mono ?_
  rintro e w1 ⟨rfl, hg⟩
  go_wp2_with fail
  go_ret
  exact ⟨rfl, gb_trans (gb_alloc (gb_refl w none) _) hg⟩
end Go.Proofs.YtmpaeladhoomoaaGreatDoor

namespace Go.Proofs.YtmpaeladhoomoaaGreatDoor
open Go.ChangeShapes Go.WideShapes Go.ChangeAt Go.RowKit Go.Deep

section
variable {H : Type} {enc : TypeId × Value → H}

set_option maxRecDepth 100000 in
theorem op_open2 {w : World} {base : Nat} {spare : Nat → Bool} {held : Bool} {fuel : Nat} {cs : List Value} {x : DataW H × List MemPlace} (h : DataW.trod enc Tryz.prog w base spare held fuel 27 cs = some x) :
    ∃ o : OpV, cs = opC o ∧ o.s.size ≤ maxLen ∧ (Lit.int .i64 o.a).wf = true := by
  obtain ⟨ys, n, _, rfl, hl, hlen, hf⟩ := DataW.trod_struct Tryz.underlying27 h
  rw [cellsOp] at hl
  match cs, hl, ys, hlen with
  | [c0, c1, c2, c3, c4, c5, c6], _, [y0, y1, y2, y3, y4, y5, y6], _ =>
    have g0 : DataW.trod enc Tryz.prog w base spare held n 3 (([c0, c1, c2, c3, c4, c5, c6].drop 0).take (Tryz.prog.cellsOf 3)) = some y0 := hf 0 _ rfl
    rw [cellsInt] at g0
    have g1 : DataW.trod enc Tryz.prog w base spare held n 3 (([c0, c1, c2, c3, c4, c5, c6].drop 1).take (Tryz.prog.cellsOf 3)) = some y1 := hf 1 _ rfl
    rw [cellsInt] at g1
    have g2 : DataW.trod enc Tryz.prog w base spare held n 3 (([c0, c1, c2, c3, c4, c5, c6].drop 2).take (Tryz.prog.cellsOf 3)) = some y2 := hf 2 _ rfl
    rw [cellsInt] at g2
    have g3 : DataW.trod enc Tryz.prog w base spare held n 3 (([c0, c1, c2, c3, c4, c5, c6].drop 3).take (Tryz.prog.cellsOf 3)) = some y3 := hf 3 _ rfl
    rw [cellsInt] at g3
    have g4 : DataW.trod enc Tryz.prog w base spare held n 3 (([c0, c1, c2, c3, c4, c5, c6].drop 4).take (Tryz.prog.cellsOf 3)) = some y4 := hf 4 _ rfl
    rw [cellsInt] at g4
    have g5 : DataW.trod enc Tryz.prog w base spare held n 9 (([c0, c1, c2, c3, c4, c5, c6].drop 5).take (Tryz.prog.cellsOf 9)) = some y5 := hf 5 _ rfl
    rw [cellsStr] at g5
    have g6 : DataW.trod enc Tryz.prog w base spare held n 24 (([c0, c1, c2, c3, c4, c5, c6].drop 6).take (Tryz.prog.cellsOf 24)) = some y6 := hf 6 _ rfl
    rw [cellsInts] at g6
    obtain ⟨k, e0, _, _⟩ := DataW.trod_int Tryz.underlying3 g0
    obtain ⟨a, e1, _, hwa⟩ := DataW.trod_int Tryz.underlying3 g1
    obtain ⟨b, e2, _, _⟩ := DataW.trod_int Tryz.underlying3 g2
    obtain ⟨c, e3, _, _⟩ := DataW.trod_int Tryz.underlying3 g3
    obtain ⟨d, e4, _, _⟩ := DataW.trod_int Tryz.underlying3 g4
    obtain ⟨s, e5, _, hs⟩ := DataW.trod_string Tryz.underlying9 g5
    simp at e0 e1 e2 e3 e4 e5
    rcases open_slice Tryz.underlying24 g6 with ⟨e6, _⟩ | ⟨pa, pl, pc, _, _, _, _, e6, _⟩
    · simp at e6
      exact ⟨⟨k, a, b, c, d, s, none, 0, 0⟩, by rw [e0, e1, e2, e3, e4, e5, e6]; rfl, hs, hwa⟩
    · simp at e6
      exact ⟨⟨k, a, b, c, d, s, some pa, pl, pc⟩, by rw [e0, e1, e2, e3, e4, e5, e6]; rfl, hs, hwa⟩


/-- A script that came in: its steps, and that they fit. -/
theorem script_open2 {W : World} {sa : Option Addr} {m cap : Nat} {d : DataW H} {p : List MemPlace} (h : DataW.Trod enc Tryz.prog W 0 (fun _ => true) true 22 (.slice sa m cap) d p) :
    (∃ ops, Scr W sa m ops ∧ Wf m ops) ∧ (m = 0 ∨ ∃ es sp, d = .slice es sp ∧ m ≤ es.length + sp.length) := by
  obtain ⟨fuel, hf⟩ := h
  rcases open_slice Tryz.underlying22 hf with ⟨hcs, _⟩ | ⟨a, len, cap', mm, n, D, Pl, hcs, _, hl, _, hmm, hx, hel⟩
  · simp [Value.cells] at hcs
    obtain ⟨rfl, rfl, rfl⟩ := hcs
    exact ⟨⟨fun _ => ⟨0, 0, 0, 0, 0, ⟨#[]⟩, none, 0, 0⟩, ⟨fun i hi => by omega, fun i hi => by omega⟩, fun i hi => by omega⟩, Or.inl rfl⟩
  · simp [Value.cells] at hcs
    obtain ⟨rfl, rfl, rfl⟩ := hcs
    simp at hmm
    subst hmm
    rw [cellsOp] at hel
    simp only [Prod.mk.injEq] at hx
    refine ⟨?_, Or.inr ⟨_, _, hx.1, by simp⟩⟩
    by_cases hm0 : mm = 0
    · exact ⟨fun _ => ⟨0, 0, 0, 0, 0, ⟨#[]⟩, none, 0, 0⟩, ⟨fun i hi => by omega, fun i hi => by omega⟩, fun i hi => by omega⟩
    obtain ⟨sb, off, spot⟩ := a
    obtain rfl : spot = none := by
      obtain ⟨cs', h1, h2⟩ := hel 0 (by omega)
      obtain ⟨o, rfl, _, _⟩ := op_open2 h2
      have h3 := (World.cells?_some h1).2.2 0 (by omega)
      simpa [Addr.add] using World.cell?_spot h3
    have hop : ∀ i, i < mm → ∃ o : OpV, (∀ j v, (opC o)[j]? = some v → W.cell? ⟨sb, off + i * 7 + j, none⟩ = some v) ∧ o.s.size ≤ maxLen ∧ (Lit.int .i64 o.a).wf = true := by
      intro i hi
      obtain ⟨cs', h1, h2⟩ := hel i hi
      obtain ⟨o, rfl, hs⟩ := op_open2 h2
      refine ⟨o, fun j v hv => ?_, hs⟩
      have hj : j < 7 := by rw [← opC_len o]; exact (List.getElem?_eq_some_iff.1 hv).1
      have h3 := (World.cells?_some h1).2.2 j hj
      rw [hv, add_plain, add_plain] at h3
      exact h3
    haveI : Inhabited OpV := ⟨⟨0, 0, 0, 0, 0, ⟨#[]⟩, none, 0, 0⟩⟩
    obtain ⟨ops, hops⟩ := choose_lt (α := OpV) hop
    exact ⟨ops, ⟨fun i hi => ⟨sb, off, rfl, (hops i (by omega)).1⟩, fun i hi => (hops i (by omega)).2.1⟩, fun i hi => (hops i (by omega)).2.2⟩

set_option maxRecDepth 100000 in
/-- What the walk gives, for every script. -/
theorem prints_contract (B : Both2) (hr : (loadQ first).1 = 0) (W : World) (base : Nat) (args : Array Value) (ds gs : List (DataW H)) (before : List MemPlace)
    (hval : ∀ (j : Nat) t v, Tryz.f4.params[j]? = some t → args[j]? = some v → Value.okWide Tryz.prog W .any base t v)
    (hW : DataW.Whole enc Tryz.prog Tryz.f4.params.toList Rows.printsSpec.vars false W args.toList ds gs before)
    (hsz : (DataW.weightsEach Tryz.prog (Tryz.f4.params.toList ++ Rows.printsSpec.plain.varTypes Tryz.prog) (ds ++ gs)).all (· ≤ reachBytes) = true) :
    Calls Tryz.prog 4 args W fun e W' => ∃ v, e = .returned v ∧ Rows.printsSpec.post enc Tryz.prog Tryz.f4 false true false false W args v W' := by
  have hW' := hW
  obtain ⟨p, q, hA0, hV, rfl, hfz, hnd⟩ := hW
  have hA : DataW.TrodAll enc Tryz.prog W 0 (fun _ => true) true Tryz.f4.params.toList args.toList ds p := hA0
  rw [Tryz.params4] at hA hval hsz
  obtain ⟨v0, vs0, d0, ds0, p0, q0, hargs, rfl, rfl, h0, r0⟩ := trodAll_cons hA
  obtain ⟨rfl, rfl, rfl⟩ := trodAll_nil r0
  obtain rfl : args = #[v0] := by cases args; simp_all
  obtain ⟨rfl, rfl⟩ := trodVars_none hV
  clear hA0
  simp only [List.append_nil] at hW'
  obtain ⟨sa, m, cap, rfl⟩ := okWide_slice Tryz.underlying22 (hval 0 22 v0 rfl rfl)
  obtain ⟨⟨ops, S, SW⟩, hlen⟩ := script_open2 h0
  have hm : m * 80 ≤ 140737488351232 := by
    rcases hlen with rfl | ⟨es, sp, rfl, hle⟩
    · decide
    · have := sized_slice hsz (j := 0) (t := 22) (e := 27) rfl rfl Tryz.underlying22
      rw [bytesOp] at this
      simp only [reachBytes] at this
      omega
  refine (prints_any B hr W sa m cap ops S SW hm).mono fun e W' ⟨he, hg⟩ => ?_
  subst he
  have hB := gb_below hg
  have hlt : ∀ x ∈ p0, x.block < W.heap.size := fun x hx => hW'.lt x (by simpa using hx)
  refine ⟨_, rfl, _, _, _, [], p0 ++ [], [], hW', ?_, ?_, rfl, hB.frame _, fun h => by cases h⟩
  · exact trodAll_cons_mk (shut_bool Tryz.underlying4 _) trodAll_mk0
  · exact trodAll_cons_mk (Below.trod lawLaidOut (by kernel_rfl) (of_decide_eq_true (by kernel_rfl)) h0 hB hlt) trodAll_mk0
end
theorem prints_laid_met (os : Os) : laidMet Tryz.prog Rows.printsRow.laid (({ World.holding Tryz.prog os ⟨#[], #[], []⟩ with heap := (((World.holding Tryz.prog os ⟨#[], #[], []⟩).heap.modify 0 (laidObj Rows.laid_internal_strconv_uint64pow10)).modify 2 (laidObj Rows.laid_math_bits_deBruijn32tab)).modify 3 (laidObj Rows.laid_math_bits_deBruijn64tab) } : World).forCall (fun _ _ => 0) ⟨#[], #[.slice none 0 0], []⟩).memory :=
  laidMet_of_run' 8 (by kernel_rfl) (by kernel_rfl)
theorem prints_reads (os : Os) {H : Type} (enc : TypeId × Value → H) : ∃ places, DataW.whole enc Tryz.prog (({ World.holding Tryz.prog os ⟨#[], #[], []⟩ with heap := (((World.holding Tryz.prog os ⟨#[], #[], []⟩).heap.modify 0 (laidObj Rows.laid_internal_strconv_uint64pow10)).modify 2 (laidObj Rows.laid_math_bits_deBruijn32tab)).modify 3 (laidObj Rows.laid_math_bits_deBruijn64tab) } : World).forCall (fun _ _ => 0) ⟨#[], #[.slice none 0 0], []⟩).memory Tryz.f4.params.toList Rows.printsSpec.vars false #[Value.slice none 0 0].toList 8 = some ([.nil], [], places) :=
  ⟨[], by kernel_rfl⟩

set_option maxRecDepth 100000 in
theorem prints_lifted (B : Both2) (hr : (loadQ first).1 = 0) (os : Os) (started : os.Started) (H : Type) (enc : TypeId × Value → H) (F : Stop.Interp) :
    ReturnsInHanded { calm := true } Tryz.checked os 4 .any ((OpenSpec.ofChange Rows.printsSpec).preRow enc Tryz.prog Tryz.f4 Rows.printsRow.domain false Rows.printsRow.laid) (((OpenSpec.ofChange Rows.printsSpec).at F).post enc Tryz.prog Tryz.f4 false true false false) := by
  obtain ⟨places, hx⟩ := prints_reads os enc
  refine returnsInHanded_of_row (C := Tryz.checked) (s := OpenSpec.ofChange Rows.printsSpec) lawOwn started (by kernel_rfl) Tryz.func4
    (witness_calm (enc := enc) (C := Tryz.checked) ({ World.holding Tryz.prog os ⟨#[], #[], []⟩ with heap := (((World.holding Tryz.prog os ⟨#[], #[], []⟩).heap.modify 0 (laidObj Rows.laid_internal_strconv_uint64pow10)).modify 2 (laidObj Rows.laid_math_bits_deBruijn32tab)).modify 3 (laidObj Rows.laid_math_bits_deBruijn64tab) } : World) #[.slice none 0 0] rfl (by kernel_rfl) (by kernel_rfl) (by kernel_rfl)
      (OpenSpec.preRow_of_cond 8 hx (by kernel_rfl) (fun k hk => by cases hk) (by kernel_rfl) (prints_laid_met os))) ?_
  intro W base args ds gs before hval hW _ _ hsz _ _ _
  exact prints_contract B hr W base args ds gs before hval hW hsz

theorem prints_said (B : Both2) (hr : (loadQ first).1 = 0) : Rows.PrintsSaid :=
  OpenClaim.holds_of_wide_leaving_time 4 Tryz.f4 rfl rfl rfl rfl rfl rfl rfl ⟨rfl, rfl, rfl, rfl, rfl⟩ rfl rfl rfl rfl rfl (by kernel_rfl) Tryz.func4 (by kernel_rfl)
    (of_decide_eq_true (by kernel_rfl)) (by unfold Func.isWrapper; first | (rw [if_pos (by decide +kernel)]; kernel_rfl) | (rw [if_neg (by decide +kernel)]; exact ⟨rfl, rfl⟩))
    (fun os started H enc _ F => by rw [OpenClaim.pre_eq_preRow]; exact leaving_of_handed post_with_time (prints_lifted B hr os started H enc F))

/-- No parameter wants a stand-in; the program's own looks are off: what the card asks. -/
theorem prints_plain (f : FuncId) (fn : Func) (hf : Tryz.pinned.checked.prog.funcNamed Rows.printsRow.func = some f) (hfn : Tryz.pinned.checked.prog.funcs[f]? = some fn) :
    false = Tryz.pinned.checked.prog.looks [] ∧ ∀ (j : Nat) t, fn.params[j]? = some t → Tryz.pinned.checked.prog.wantsStandIn t = false := by
  obtain rfl : f = 4 := Option.some.inj ((show Tryz.prog.funcNamed Rows.printsRow.func = some 4 by kernel_rfl).symm.trans hf) |>.symm
  obtain rfl : fn = Tryz.f4 := (Option.some.inj (Tryz.func4.symm.trans hfn)).symm
  refine ⟨by kernel_rfl, fun j t ht => ?_⟩
  rw [Tryz.params4] at ht
  obtain rfl : t = 22 := by simpa using Array.mem_of_getElem? ht
  exact (show Tryz.prog.wantsStandIn 22 = false by kernel_rfl)

theorem both2 : Both2 := ⟨fun w s h => by have hl := load_any2 w s h; rw [read_eq] at hl; exact hl, fun w s _ => rload_anyC w s⟩
theorem first_taken2 : (loadQ first).1 = 0 := by kernel_rfl
theorem prints_holds : Rows.PrintsCardSaid :=
  holds_tied_goes .later _ _ _ _ (prints_said both2 first_taken2) (by kernel_rfl) prints_row_tie rfl ⟨rfl, rfl⟩ (by kernel_rfl) rfl prints_plain (by kernel_rfl)
end Go.Proofs.YtmpaeladhoomoaaGreatDoor
