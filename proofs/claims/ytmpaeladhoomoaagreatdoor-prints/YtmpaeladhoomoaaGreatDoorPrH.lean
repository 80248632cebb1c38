/-
  The document's answer: Print, walked.
-/
import Derived.Test.YtmpaeladhoomoaaGreatDoorPrE
import Derived.Test.YtmpaeladhoomoaaGreatDoorRfC
namespace Go.Proofs.YtmpaeladhoomoaaGreatDoor
open Go.RowKit

theorem tok_eq : ∀ k, k < 21 → ∀ n, n < 10 → ∀ c ∈ [5, 17, 18, 19, 20], (canon k n == canon c 0) = (k == c) := by decide +kernel
theorem tok_eqB {k n : Nat} (hk : k ≤ 20) (hn : n ≤ 9) (c : Nat) (hc : c ∈ [5, 17, 18, 19, 20]) : ((canonB k n).toList == canon c 0) = (k == c) := by
  rw [ByteArray.toList_eq]
  exact tok_eq k (by omega) n (by omega) c hc
theorem canon_len : ∀ k, k < 21 → ∀ n, n < 10 → (canon k n).length ≤ 6 := by decide +kernel

/-- What the document's answer has written behind so many tokens. -/
def racc (sp : Nat) : List (Nat × Nat) → Txt
  | [] => []
  | x :: r => tokT x ++ rrun sp 1 x r
def rsep (sp i : Nat) (a y : Nat × Nat) : Txt := if i = 0 then [] else if y.1 = 5 ∨ i = sp then [10] else sepT a y
theorem racc_snoc (sp : Nat) (l : List (Nat × Nat)) (y : Nat × Nat) : racc sp (l ++ [y]) = racc sp l ++ (rsep sp l.length (lastK (0, 0) l) y ++ tokT y) := by
  cases l with
  | nil => simp [racc, rsep, rrun]
  | cons x r =>
    show tokT x ++ rrun sp 1 x (r ++ [y]) = tokT x ++ rrun sp 1 x r ++ (rsep sp (r.length + 1) (lastK x r) y ++ tokT y)
    unfold rsep
    rw [rrun_app, rrun, rrun, if_neg (show ¬ r.length + 1 = 0 from by omega), show 1 + r.length = r.length + 1 from by omega]
    simp
theorem rprint_racc (sp : Nat) (l : List (Nat × Nat)) : rprint sp l = racc sp l ++ [10] := by
  cases l <;> rfl
def kn (t : Tk) : Nat × Nat := (t.kind, t.num)
theorem rp_next {sp i : Nat} {l : List Tk} {t : Tk} {u S : Txt} {lk ln : Nat} (ht : l[i]? = some t) (hR : u = racc sp ((l.take i).map kn) ∧ (lk, ln) = lastK (0, 0) ((l.take i).map kn)) (hS : rsep sp i (lk, ln) (kn t) = S) :
    u ++ (S ++ canon t.kind t.num) = racc sp ((l.take (i + 1)).map kn) ∧ (t.kind, t.num) = lastK (0, 0) ((l.take (i + 1)).map kn) := by
  have hi := (List.getElem?_eq_some_iff.1 ht).1
  have hl : ((l.take i).map kn).length = i := by simp; omega
  have e : (l.take (i + 1)).map kn = (l.take i).map kn ++ [kn t] := by rw [List.take_add_one, ht]; simp
  refine ⟨?_, ?_⟩
  · rw [e, racc_snoc, hl, ← hR.1, ← hR.2, hS]; rfl
  · rw [e, lastK_app]; rfl

set_option maxRecDepth 100000 in
set_option maxHeartbeats 8000000 in
theorem rprint_any (w : World) (T : Nat) (tsv k8 : Value) (bo : Bool) (op : ByteArray) (n1 n2 n3 n4 : Int) (va : Option Addr) (vcap sp : Nat) (l : List Tk)
    (hblk : w.heap[T]? = some (.cells #[tsv, .bool bo, .string op, .int .i64 n1, .int .i64 n2, .int .i64 n3, .int .i64 n4, k8, .slice va l.length vcap, .int .i64 (sp : Nat)] 149 (0, 0)))
    (hl : l.length ≤ 400) (hk : ∀ t ∈ l, t.kind ≤ 20 ∧ t.num ≤ 9) (hc : ∀ (i : Nat) (t : Tk), l[i]? = some t → ∃ g, va = some ⟨g, 0, none⟩ ∧ ∀ (o : Nat) (v : Value), (rtC t)[o]? = some v → w.cell? ⟨g, i * 3 + o, none⟩ = some v) :
    Calls Tryz.prog 44 #[.pointer (some ⟨T, 0, none⟩)] w fun e w' => e = .returned (.string (bT (rprint sp (l.map kn)))) ∧ w.grownBy w' none := by
  have hTl := heap_lt hblk
  have HC : Hid (∀ (i : Nat) (t : Tk), l[i]? = some t → ∃ g, va = some ⟨g, 0, none⟩ ∧ ∀ (o : Nat) (v : Value), (rtC t)[o]? = some v → w.cell? ⟨g, i * 3 + o, none⟩ = some v) := hc
  have HK : Hid (∀ t ∈ l, t.kind ≤ 20 ∧ t.num ≤ 9) := hk
  have HB8 : Hid (w.cell? ⟨T, 8, none⟩ = some (.slice va l.length vcap)) := cell_of hblk 8 _ rfl
  have HB9 : Hid (w.cell? ⟨T, 9, none⟩ = some (.int .i64 (sp : Nat))) := cell_of hblk 9 _ rfl
  clear hc hk hblk
  go_enter Tryz.func44, Tryz.ntmps44
  go_wp2_with fail
  go_loopw [5, 3] (fun v5 v3 wr => ∃ (i lk ln : Nat) (a c : Int) (u : Txt), v5 = .int .i64 (i : Nat) ∧ i ≤ l.length ∧ v3 = .string (bT u) ∧ u.length ≤ i * 8 ∧ w.grownBy wr none ∧ wr.heap[w.heap.size]? = some (.cells #[.int .u8 a, .string (canonB lk ln), .int .i64 c] 142 (0, 0)) ∧ lk ≤ 20 ∧ ln ≤ 9 ∧ Hid (u = racc sp ((l.take i).map kn) ∧ (lk, ln) = lastK (0, 0) ((l.take i).map kn))) (fun v5 _ _ => l.length - (intOf v5).toNat)
  case atStart => exact ⟨0, 0, 0, _, _, [], rfl, Nat.zero_le _, rfl, by simp, gb_alloc (gb_refl _ _) _, heap_alloc_new w _, by omega, by omega, rfl, rfl⟩
  case round =>
    obtain ⟨i, lk, ln, a, c, u, rfl, hil, rfl, hul, hG, hL, hlk, hln, HR⟩ := hrel
    have b8 := gb_cell hG HB8.out (by simp)
    have b9 := gb_cell hG HB9.out (by simp)
    have hLl := heap_lt hL
    have hTw : T < wr.heap.size := by have := hG.size; omega
    have zu := bT_size u
    by_cases hi : i < l.length
    · have hi' : decide ((i : Int) < (l.length : Int)) = true := by simp; omega
      obtain ⟨t, ht⟩ : ∃ t, l[i]? = some t := ⟨l[i], List.getElem?_eq_getElem hi⟩
      obtain ⟨g, rfl, hcs⟩ := HC.out i t ht
      have hkt := HK.out t (List.mem_of_getElem? ht)
      have HT : Hid (l[i]? = some t) := ht
      have x0 := gb_cell hG (hcs 0 _ rfl) (by simp)
      have x1 := gb_cell hG (hcs 1 _ rfl) (by simp)
      have x2 := gb_cell hG (hcs 2 _ rfl) (by simp)
      simp only [Nat.add_zero] at x0
      have hgl := World.block_lt_of_cell? wr ⟨g, i * 3, none⟩ x0
      obtain ⟨y0, y1, y2, yf⟩ := (⟨cell_of hL 0 _ rfl, cell_of hL 1 _ rfl, cell_of hL 2 _ rfl, frozen_of hL⟩ : wr.cell? ⟨w.heap.size, 0, none⟩ = some (.int .u8 a) ∧ wr.cell? ⟨w.heap.size, 1, none⟩ = some (.string (canonB lk ln)) ∧ wr.cell? ⟨w.heap.size, 2, none⟩ = some (.int .i64 c) ∧ (∀ o, wr.frozen? ⟨w.heap.size, o, none⟩ = false))
      have e5 := tok_eqB hkt.1 hkt.2 5 (by simp)
      have e17 := tok_eqB hkt.1 hkt.2 17 (by simp)
      have e18 := tok_eqB hkt.1 hkt.2 18 (by simp)
      have e20 := tok_eqB hkt.1 hkt.2 20 (by simp)
      have f17 := tok_eqB hlk hln 17 (by simp)
      have f19 := tok_eqB hlk hln 19 (by simp)
      have zx : (canonB t.kind t.num).size ≤ 6 := canon_len t.kind (by omega) t.num (by omega)
      simp only [canon, reduceIte, Nat.reduceEqDiff] at e5 e17 e18 e20 f17 f19
      have zx2 : (canonB t.kind t.num).size = (canon t.kind t.num).length := bT_size _
      generalize hxb : canonB t.kind t.num = xb at x1 e5 e17 e18 e20 zx zx2
      have HXB : Hid (canonB t.kind t.num = xb) := hxb
      generalize hyb : canonB lk ln = yb at y1 f17 f19 hL
      have HN : ∀ (S : Txt) (V : ByteArray), S.length ≤ 1 → rsep sp i (lk, ln) (kn t) = S → V = bT (u ++ S) ++ xb → ∀ w2 : World, w.grownBy w2 none → w2.heap[w.heap.size]? = some (.cells #[.int .u8 (rkind t.kind : Nat), .string xb, .int .i64 (t.at_ : Nat)] 142 (0, 0)) →
          ∃ (i' lk ln : Nat) (a c : Int) (u' : Txt), Value.int .i64 ((i : Int) + 1) = .int .i64 (i' : Nat) ∧ i' ≤ l.length ∧ Value.string V = .string (bT u') ∧ u'.length ≤ i' * 8 ∧ w.grownBy w2 none ∧ w2.heap[w.heap.size]? = some (.cells #[.int .u8 a, .string (canonB lk ln), .int .i64 c] 142 (0, 0)) ∧ lk ≤ 20 ∧ ln ≤ 9 ∧ Hid (u' = racc sp ((l.take i').map kn) ∧ (lk, ln) = lastK (0, 0) ((l.take i').map kn)) := by
        intro S V hS hr hV w2 hg2 hb2
        have hn := rp_next HT.out HR.out hr
        refine ⟨i + 1, t.kind, t.num, _, _, u ++ (S ++ canon t.kind t.num), by simp, by omega, ?_, by simp; omega, hg2, by rw [HXB.out]; exact hb2, hkt.1, hkt.2, hn⟩
        rw [hV, ← HXB.out]
        show Value.string (bT (u ++ S) ++ bT (canon t.kind t.num)) = _
        rw [bT_app, List.append_assoc]
      have HNH : Hid (∀ (S : Txt) (V : ByteArray), S.length ≤ 1 → rsep sp i (lk, ln) (kn t) = S → V = bT (u ++ S) ++ xb → ∀ w2 : World, w.grownBy w2 none → w2.heap[w.heap.size]? = some (.cells #[.int .u8 (rkind t.kind : Nat), .string xb, .int .i64 (t.at_ : Nat)] 142 (0, 0)) →
          ∃ (i' lk ln : Nat) (a c : Int) (u' : Txt), Value.int .i64 ((i : Int) + 1) = .int .i64 (i' : Nat) ∧ i' ≤ l.length ∧ Value.string V = .string (bT u') ∧ u'.length ≤ i' * 8 ∧ w.grownBy w2 none ∧ w2.heap[w.heap.size]? = some (.cells #[.int .u8 a, .string (canonB lk ln), .int .i64 c] 142 (0, 0)) ∧ lk ≤ 20 ∧ ln ≤ 9 ∧ Hid (u' = racc sp ((l.take i').map kn) ∧ (lk, ln) = lastK (0, 0) ((l.take i').map kn))) := HN
      clear HN hxb hyb hkt hlk hln HR zx2
      have hx : (t.kind = 18 ∨ t.kind = 20 ∨ t.kind = 17) ∨ (t.kind = 5 ∧ (lk = 19 ∨ lk = 17 ∨ (lk ≠ 19 ∧ lk ≠ 17))) ∨ ((t.kind ≠ 18 ∧ t.kind ≠ 20 ∧ t.kind ≠ 17 ∧ t.kind ≠ 5) ∧ (lk = 19 ∨ lk = 17 ∨ (lk ≠ 19 ∧ lk ≠ 17))) := by omega
      have hp : i = 0 ∨ (i ≠ 0 ∧ i = sp) ∨ (i ≠ 0 ∧ i ≠ sp) := by omega
      rcases hp with hp | hp | hp <;> rcases hx with (hx | hx | hx) | ⟨hx, hy | hy | hy⟩ | ⟨hx, hy | hy | hy⟩
      all_goals
        first
          | (have HS : Hid (rsep sp i (lk, ln) (kn t) = []) := by show _ = _; unfold rsep; rw [if_pos (by omega)])
          | (have HS : Hid (rsep sp i (lk, ln) (kn t) = [10]) := by show _ = _; unfold rsep; rw [if_neg (by omega), if_pos (by show t.kind = 5 ∨ i = sp; omega)])
          | (have HS : Hid (rsep sp i (lk, ln) (kn t) = []) := by show _ = _; unfold rsep; rw [if_neg (by omega), if_neg (by show ¬ (t.kind = 5 ∨ i = sp); omega)]; unfold sepT; rw [if_pos (by show (gl t.kind || gr lk) = true; simp [gl, gr]; omega)])
          | (have HS : Hid (rsep sp i (lk, ln) (kn t) = [32]) := by show _ = _; unfold rsep; rw [if_neg (by omega), if_neg (by show ¬ (t.kind = 5 ∨ i = sp); omega)]; unfold sepT; rw [if_neg (by show ¬ (gl t.kind || gr lk) = true; simp [gl, gr]; omega)])
        first | (have g5 : (xb.toList == [116, 104, 114, 101, 97, 100]) = true := e5.trans (by rw [beq_iff_eq]; omega)) | (have g5 : (xb.toList == [116, 104, 114, 101, 97, 100]) = false := e5.trans (by rw [beq_eq_false_iff_ne]; omega))
        first | (have g17 : (xb.toList == [58]) = true := e17.trans (by rw [beq_iff_eq]; omega)) | (have g17 : (xb.toList == [58]) = false := e17.trans (by rw [beq_eq_false_iff_ne]; omega))
        first | (have g18 : (xb.toList == [59]) = true := e18.trans (by rw [beq_iff_eq]; omega)) | (have g18 : (xb.toList == [59]) = false := e18.trans (by rw [beq_eq_false_iff_ne]; omega))
        first | (have g20 : (xb.toList == [41]) = true := e20.trans (by rw [beq_iff_eq]; omega)) | (have g20 : (xb.toList == [41]) = false := e20.trans (by rw [beq_eq_false_iff_ne]; omega))
        try first | (have k17 : (yb.toList == [58]) = true := f17.trans (by rw [beq_iff_eq]; omega)) | (have k17 : (yb.toList == [58]) = false := f17.trans (by rw [beq_eq_false_iff_ne]; omega))
        try first | (have k19 : (yb.toList == [40]) = true := f19.trans (by rw [beq_iff_eq]; omega)) | (have k19 : (yb.toList == [40]) = false := f19.trans (by rw [beq_eq_false_iff_ne]; omega))
        first | (have gi : decide ((0 : Int) < (i : Int)) = false := by simp; omega) | (have gi : decide ((0 : Int) < (i : Int)) = true := by simp; omega)
        try first | (have gs : ((i : Int) == (sp : Int)) = true := by rw [beq_iff_eq]; omega) | (have gs : ((i : Int) == (sp : Int)) = false := by rw [beq_eq_false_iff_ne]; omega)
        first | (have gj : decide (0 < i) = false := by simp; omega) | (have gj : decide (0 < i) = true := by simp; omega)
        clear e5 e17 e18 e20 f17 f19 hx
        try clear hy
        have HP : Hid (i ≤ l.length) := hil
        clear hp
        go_wp2_with fail
        refine ⟨HNH.out _ _ ?_ HS.out ?_ _ ?_ ?_, by simp [intOf]; omega⟩
        · simp
        · first | (show bT u ++ xb = _; rw [List.append_nil]) | (show bT u ++ bT [10] ++ xb = _; rw [bT_app]) | (show bT u ++ bT [32] ++ xb = _; rw [bT_app])
        · exact gb_alloc (gb_put_new (gb_put_new (gb_put_new hG (Nat.le_refl _) _ _) (Nat.le_refl _) _ _) (Nat.le_refl _) _ _) _
        · exact heap_alloc_at (heap_set' (heap_set' (heap_set' hL 0 _ _ rfl) 1 _ _ rfl) 2 _ _ rfl) _
    · have hi' : decide ((i : Int) < (l.length : Int)) = false := by simp; omega
      obtain rfl : i = l.length := by omega
      go_wp2_with fail
      go_ret
      refine ⟨?_, hG⟩
      have h1 := HR.out.1
      rw [List.take_length] at h1
      rw [rprint_racc, ← h1]
      show Ending.returned (.string (bT u ++ bT [10])) = _
      rw [bT_app]
end Go.Proofs.YtmpaeladhoomoaaGreatDoor
