/-
  The document's answer: taking a token.
-/
import Derived.Test.YtmpaeladhoomoaaGreatDoorRfC
import Derived.Test.YtmpaeladhoomoaaGreatDoorRdN
import Derived.Deep.RegionLaw
namespace Go.Proofs.YtmpaeladhoomoaaGreatDoor
open Go.RowKit
attribute [local go_sem ↓] Go.wp_at_zero Go.wp_at_succ

def takeQ (s : ByteArray) (q : Q) : Q := if qk s q ≤ 1 then failQ s q else if 0 ≤ q.bad then q else { q with j := (tk s q.j).end_, n := q.n + 1 }
theorem infoTok : (Tryz.prog.info? 142).map (fun i => (i.zero, i.size, i.bytes)) = some (some (.agg #[.int .u8 0, .string ⟨#[]⟩, .int .i64 0]), 3, 32) := by kernel_rfl
theorem loc3 {w : World} {B : Nat} {t : TypeId} {a0 a1 a2 : Value} (h : w.heap[B]? = some (.cells #[a0, a1, a2] t (0, 0))) :
    w.cell? ⟨B, 0, none⟩ = some a0 ∧ w.cell? ⟨B, 1, none⟩ = some a1 ∧ w.cell? ⟨B, 2, none⟩ = some a2 ∧ (∀ o, w.frozen? ⟨B, o, none⟩ = false) :=
  ⟨cell_of h 0 _ rfl, cell_of h 1 _ rfl, cell_of h 2 _ rfl, frozen_of h⟩
theorem rkind_bad {k : Nat} (h : k ≤ 1) : ((rkind k : Int) == 33) = true ∨ (((rkind k : Int) == 33) = false ∧ ((rkind k : Int) == 46) = true) := by
  have : k = 0 ∨ k = 1 := by omega
  rcases this with rfl | rfl <;> decide
theorem rkind_good {k : Nat} (h : ¬ k ≤ 1) (h2 : k ≤ 20) : ((rkind k : Int) == 33) = false ∧ ((rkind k : Int) == 46) = false := by
  have hk : k = 2 ∨ k = 3 ∨ k = 4 ∨ k = 5 ∨ k = 6 ∨ k = 7 ∨ k = 8 ∨ k = 9 ∨ k = 10 ∨ k = 11 ∨ k = 12 ∨ k = 13 ∨ k = 14 ∨ k = 15 ∨ k = 16 ∨ k = 17 ∨ k = 18 ∨ k = 19 ∨ k = 20 := by omega
  rcases hk with rfl | rfl | rfl | rfl | rfl | rfl | rfl | rfl | rfl | rfl | rfl | rfl | rfl | rfl | rfl | rfl | rfl | rfl | rfl <;> decide
theorem failQ_bad (s : ByteArray) (q : Q) : 0 ≤ (failQ s q).bad := by
  unfold failQ; split
  · show (0 : Int) ≤ (qa s q : Int); omega
  · omega
theorem rset3 {w : World} {B : Nat} {t : TypeId} {a0 a1 a2 : Value} (h : w.heap[B]? = some (.cells #[a0, a1, a2] t (0, 0))) (v0 v1 v2 : Value) :
    (((w.setCell ⟨B, 0, none⟩ v0).setCell ⟨B, 1, none⟩ v1).setCell ⟨B, 2, none⟩ v2).heap[B]? = some (.cells #[v0, v1, v2] t (0, 0)) :=
  heap_set' (heap_set' (heap_set' h 0 v0 #[v0, a1, a2] rfl) 1 v1 #[v0, v1, a2] rfl) 2 v2 _ rfl
/-- Three stores into a block that is new. -/
theorem FR.put3 {b : Nat} {tv tv' : Value} {w w' : World} {R : Nat} (h : FR b tv w tv' w') (hR : w.heap.size ≤ R) (v0 v1 v2 : Value) : FR b tv w tv' (((w'.setCell ⟨R, 0, none⟩ v0).setCell ⟨R, 1, none⟩ v1).setCell ⟨R, 2, none⟩ v2) := by
  refine ⟨h.os, h.tape, h.output, by simpa [World.setCell] using h.size, fun k hk hb ht => ?_, h.row⟩
  rw [Below.heap_setCell _ _ _ _ (by simp; omega), Below.heap_setCell _ _ _ _ (by simp; omega), Below.heap_setCell _ _ _ _ (by simp; omega)]
  exact h.block k hk hb ht
theorem QAt.other3 {w : World} {b : Nat} {s : ByteArray} {q : Q} {tv : Value} (h : QAt w b s q tv) (R : Nat) (v0 v1 v2 : Value) (ha : b ≠ R) (ht : tv.ownBlock ≠ some R) : QAt (((w.setCell ⟨R, 0, none⟩ v0).setCell ⟨R, 1, none⟩ v1).setCell ⟨R, 2, none⟩ v2) b s q tv :=
  ((h.other ⟨R, 0, none⟩ v0 ha ht).other ⟨R, 1, none⟩ v1 ha ht).other ⟨R, 2, none⟩ v2 ha ht

theorem set8_1234 {w : World} {b : Nat} {a0 a1 a2 a3 a4 a5 a6 a7 v1 v2 v3 v4 : Value} {t : TypeId} {fr : Nat × Nat} (h : w.heap[b]? = some (.cells #[a0, a1, a2, a3, a4, a5, a6, a7] t fr)) :
    ((((w.setCell ⟨b, 1, none⟩ v1).setCell ⟨b, 2, none⟩ v2).setCell ⟨b, 3, none⟩ v3).setCell ⟨b, 4, none⟩ v4).heap[b]? = some (.cells #[a0, v1, v2, v3, v4, a5, a6, a7] t fr) :=
  heap_set' (heap_set' (heap_set' (heap_set' h 1 v1 #[a0, v1, a2, a3, a4, a5, a6, a7] rfl) 2 v2 #[a0, v1, v2, a3, a4, a5, a6, a7] rfl) 3 v3 #[a0, v1, v2, v3, a4, a5, a6, a7] rfl) 4 v4 _ rfl
theorem set8_4123 {w : World} {b : Nat} {a0 a1 a2 a3 a4 a5 a6 a7 v1 v2 v3 v4 : Value} {t : TypeId} {fr : Nat × Nat} (h : w.heap[b]? = some (.cells #[a0, a1, a2, a3, a4, a5, a6, a7] t fr)) :
    ((((w.setCell ⟨b, 4, none⟩ v4).setCell ⟨b, 1, none⟩ v1).setCell ⟨b, 2, none⟩ v2).setCell ⟨b, 3, none⟩ v3).heap[b]? = some (.cells #[a0, v1, v2, v3, v4, a5, a6, a7] t fr) :=
  heap_set' (heap_set' (heap_set' (heap_set' h 4 v4 #[a0, a1, a2, a3, v4, a5, a6, a7] rfl) 1 v1 #[a0, v1, a2, a3, v4, a5, a6, a7] rfl) 2 v2 #[a0, v1, v2, a3, v4, a5, a6, a7] rfl) 3 v3 _ rfl
theorem put4_other (w : World) (b k : Nat) (hk : k ≠ b) (o1 o2 o3 o4 : Nat) (v1 v2 v3 v4 : Value) : ((((w.setCell ⟨b, o1, none⟩ v1).setCell ⟨b, o2, none⟩ v2).setCell ⟨b, o3, none⟩ v3).setCell ⟨b, o4, none⟩ v4).heap[k]? = w.heap[k]? := by
  rw [Below.heap_setCell _ _ _ _ (by simpa using hk), Below.heap_setCell _ _ _ _ (by simpa using hk), Below.heap_setCell _ _ _ _ (by simpa using hk), Below.heap_setCell _ _ _ _ (by simpa using hk)]
theorem put4_same (w : World) (b : Nat) (o1 o2 o3 o4 : Nat) (v1 v2 v3 v4 : Value) : ((((w.setCell ⟨b, o1, none⟩ v1).setCell ⟨b, o2, none⟩ v2).setCell ⟨b, o3, none⟩ v3).setCell ⟨b, o4, none⟩ v4).os = w.os ∧ ((((w.setCell ⟨b, o1, none⟩ v1).setCell ⟨b, o2, none⟩ v2).setCell ⟨b, o3, none⟩ v3).setCell ⟨b, o4, none⟩ v4).tape = w.tape ∧ ((((w.setCell ⟨b, o1, none⟩ v1).setCell ⟨b, o2, none⟩ v2).setCell ⟨b, o3, none⟩ v3).setCell ⟨b, o4, none⟩ v4).output = w.output ∧ ((((w.setCell ⟨b, o1, none⟩ v1).setCell ⟨b, o2, none⟩ v2).setCell ⟨b, o3, none⟩ v3).setCell ⟨b, o4, none⟩ v4).heap.size = w.heap.size :=
  ⟨rfl, rfl, rfl, by simp [World.setCell]⟩
/-- Behind the stores into the parser's block: what the take has come to. -/
structure Took (w w7 : World) (b : Nat) (s : ByteArray) (q : Q) (tv tv' : Value) (R : Nat) (r0 r1 r2 : Value) : Prop where
  fr : FR b tv w tv' w7
  at_ : QAt w7 b s q tv'
  res : w7.heap[R]? = some (.cells #[r0, r1, r2] 142 (0, 0))
  hR : w.heap.size ≤ R
  nR : tv'.ownBlock ≠ some R
  nb : b ≠ R
theorem Tks.next {s : ByteArray} {q : Q} (h : Tks s q) (hk : 1 < qk s q) : Tks s { q with j := (tk s q.j).end_, n := q.n + 1 } := by
  refine ⟨?_, ?_⟩
  · show (tk s q.j).end_ = pos s 0 (q.n + 1)
    rw [pos_add, ← h.1]; rfl
  · show ∀ y ∈ toks s 0 (q.n + 1), 2 ≤ y.1
    intro y hy
    rw [toks_add, ← h.1] at hy
    rcases List.mem_append.1 hy with hy | hy
    · exact h.2 y hy
    · have : y = ((tk s q.j).kind, (tk s q.j).num) := by simpa [toks] using hy
      rw [this]; exact hk
theorem Took.mk' {w w5 w6 w7 : World} {b : Nat} {s : ByteArray} {q : Q} {tv : Value} {g4 cap4 R : Nat} {r0 r1 r2 : Value} {xs : List Value}
    (h : QAt w b s q tv) (hk : 1 < qk s q) (hR : R = w.heap.size)
    (hos : w5.os = w.os ∧ w5.tape = w.tape ∧ w5.output = w.output ∧ w.heap.size + 1 + 1 + 1 ≤ w5.heap.size)
    (hne : ∀ k, k < w.heap.size → k ≠ b → tv.ownBlock ≠ some k → w5.heap[k]? = w.heap[k]?)
    (hres : w5.heap[R]? = some (.cells #[r0, r1, r2] 142 (0, 0)))
    (hown : w5.ownsRow (b + 1) 142 3 (.slice (some ⟨g4, 0, none⟩) (q.n + 1) cap4) (q.n + 1) xs) (hxs : xs = tkF s (q.n + 1))
    (hat : tv.ownBlock = some g4 ∨ g4 = w.heap.size + 1 + 1 + 1)
    (hg6 : w5.grownBy w6 none)
    (hb7 : w7.heap[b]? = some (.cells (qCells s { q with j := (tk s q.j).end_, n := q.n + 1 } (.slice (some ⟨g4, 0, none⟩) (q.n + 1) cap4)) 203 (0, 0)))
    (h7 : w7.os = w6.os ∧ w7.tape = w6.tape ∧ w7.output = w6.output ∧ w7.heap.size = w6.heap.size) (h7b : ∀ k, k ≠ b → w7.heap[k]? = w6.heap[k]?) :
    Took w w7 b s { q with j := (tk s q.j).end_, n := q.n + 1 } tv (.slice (some ⟨g4, 0, none⟩) (q.n + 1) cap4) R r0 r1 r2 := by
  have hlt := heap_lt h.blk
  have hbd := tk_bounds s q.j h.jsz
  have htl := tk_lt s q.j (by intro e; have : qk s q = 1 := e; omega)
  have hnj := h.nsz
  have hs6 := hg6.size
  have hgb := (hown.lt g4 rfl).1
  have hrl : ∀ k, w.heap.size ≤ k → tv.ownBlock ≠ some k := fun k hk => h.rowlt k hk
  refine ⟨⟨?_, ?_, ?_, ?_, ?_, ?_⟩, ⟨hb7, ?_, h.ssz, hbd.2.2.2, by show q.n + 1 ≤ (tk s q.j).end_; omega, h.blo, h.bhi, h.olo, h.ohi, Tks.next h.tks hk⟩, ?_, by omega, ?_, by omega⟩
  · rw [h7.1, hg6.os, hos.1]
  · rw [h7.2.1, hg6.tape, hos.2.1]
  · rw [h7.2.2.1, hg6.output, hos.2.2.1]
  · rw [h7.2.2.2]; omega
  · intro k hk hb ht
    rw [h7b k hb, hg6.block k (by omega) (by simp), hne k hk hb ht]
  · rcases hat with e | e
    · exact Or.inl e.symm
    · exact Or.inr ⟨g4, rfl, by omega⟩
  · rw [← hxs]
    refine hown.kept (w' := w7) (row := some b) ⟨by rw [h7.1, hg6.os], by rw [h7.2.1, hg6.tape], by rw [h7.2.2.1, hg6.output], by rw [h7.2.2.2]; exact hs6, fun k hk hb => ?_⟩ (Or.inr (by simp [Value.ownBlock]; omega))
    rw [h7b k (by simpa using hb), hg6.block k hk (by simp)]
  · rw [h7b R (by omega), hg6.block R (by omega) (by simp)]; exact hres
  · simp [Value.ownBlock]
    rcases hat with e | e
    · intro e2; exact hrl R (by omega) (by rw [e, e2])
    · omega
theorem Took.fin {w w7 : World} {b : Nat} {s : ByteArray} {q : Q} {tv tv' : Value} {R : Nat} {r0 r1 r2 : Value} (h : Took w w7 b s q tv tv' R r0 r1 r2) (v0 v1 v2 : Value) :
    FR b tv w tv' (((w7.setCell ⟨R, 0, none⟩ v0).setCell ⟨R, 1, none⟩ v1).setCell ⟨R, 2, none⟩ v2) ∧ QAt (((w7.setCell ⟨R, 0, none⟩ v0).setCell ⟨R, 1, none⟩ v1).setCell ⟨R, 2, none⟩ v2) b s q tv' :=
  ⟨h.fr.put3 h.hR _ _ _, h.at_.other3 _ _ _ _ h.nb h.nR⟩

set_option maxRecDepth 100000 in
set_option maxHeartbeats 4000000 in
theorem rtake_any (w : World) (b : Nat) (s : ByteArray) (q : Q) (tv : Value) (h : QAt w b s q tv) :
    Calls Tryz.prog 107 #[.pointer (some ⟨b, 0, none⟩)] w fun e w' => e = .returned (rtV (tk s q.j)) ∧ ∃ tv', FR b tv w tv' w' ∧ QAt w' b s (takeQ s q) tv' := by
  obtain ⟨c0, c1, c2, c3, c4, c5, c6, c7, hf, hlt⟩ := h.get
  obtain ⟨i0, hi, hz0, hz1, hz2⟩ := info_parts infoTok
  have hbd := tk_bounds s q.j h.jsz
  have hss := h.ssz
  have hnj := h.nsz
  have hk20 := (tk_le s q.j).1
  have hlt1 : b < w.heap.size + 1 := by omega
  have hlt2 : b < w.heap.size + 1 + 1 := by omega
  obtain ⟨xs, hxs, hown⟩ : ∃ xs, xs = tkF s q.n ∧ w.ownsRow (b + 1) 142 3 tv q.n xs := ⟨_, rfl, h.toks⟩
  have HXS : Hid (xs = tkF s q.n) := hxs
  clear hxs
  obtain ⟨ta, tcap, rfl⟩ := own_slice hown
  by_cases hk : qk s q ≤ 1
  · have HT : Hid (takeQ s q = failQ s q) := if_pos hk
    rcases rkind_bad (k := (tk s q.j).kind) hk with h33 | ⟨h33, h46⟩
    all_goals
      go_enter Tryz.func107, Tryz.ntmps107
      go_wp2_with fail
      refine (fail_any _ b s q _ ((h.alloc _).alloc _)).mono ?_
      rintro e w1 ⟨rfl, hfr, hq1⟩
      have hr1 := hfr.heap (heap_alloc_at (heap_alloc_new w _) _) (by omega) (h.rowlt _ (Nat.le_refl _))
      have hl1 := hfr.heap (new_at (H := w.heap.size + 1) (by simp) _) (by omega) (h.rowlt _ (by omega))
      obtain ⟨a0, a1, a2, af⟩ := loc3 hl1
      obtain ⟨b0, b1, b2, bf⟩ := loc3 hr1
      clear c0 c1 c2 c3 c4 c5 c6 c7 hf
      obtain ⟨c0, c1, c2, c3, c4, c5, c6, c7, hf, _⟩ := hq1.get
      have hbad := failQ_bad s q
      go_wp2_with fail
      have hrs := rset3 hr1 (.int .u8 (rkind (tk s q.j).kind : Nat)) (.string (canonB (tk s q.j).kind (tk s q.j).num)) (.int .i64 ((tk s q.j).at_ : Nat))
      obtain ⟨d0, d1, d2, _⟩ := loc3 hrs
      refine bodyPost_ret (v := rtV (tk s q.j)) (by unfold rtV; simp [results, Tryz.results107, go_sem, d0, d1, d2]) rfl ⟨rfl, .slice ta q.n tcap, ?_, ?_⟩
      · exact (((FR.of_new (gb_alloc (gb_alloc (gb_refl _ _) _) _)).trans hfr).put3 (Nat.le_refl _) _ _ _)
      · rw [HT.out]
        exact hq1.other3 _ _ _ _ (by omega) (hfr.apart (by simp; omega) (h.rowlt _ (Nat.le_refl _)))
  · obtain ⟨h33, h46⟩ := rkind_good (k := (tk s q.j).kind) hk hk20
    by_cases hb : 0 ≤ q.bad
    · have HT : Hid (takeQ s q = q) := by show _ = _; unfold takeQ; rw [if_neg hk, if_pos hb]
      go_enter Tryz.func107, Tryz.ntmps107
      go_wp2_with fail
      refine bodyPost_ret (v := rtV (tk s q.j)) (by unfold rtV; simp [results, Tryz.results107, go_sem]) rfl ⟨rfl, .slice ta q.n tcap, FR.of_new (gb_alloc (gb_alloc (gb_refl _ _) _) _), ?_⟩
      rw [HT.out]
      exact (h.alloc _).alloc _
    · have HT : Hid (takeQ s q = { q with j := (tk s q.j).end_, n := q.n + 1 }) := by show _ = _; unfold takeQ; rw [if_neg hk, if_neg hb]
      go_enter Tryz.func107, Tryz.ntmps107
      go_wp2_with fail
      go_region_law ((refine step_append_lies _ (by rfl) _ _ 147 (by rfl) (b + 1) 142 i0 _ 3 32 Tryz.underlying147 hi hz0 hz1 hz2 rfl (by decide) (.slice ta q.n tcap) q.n xs (by rfl) (by exact ((hown.alloc _).alloc _).alloc _) ⟨w.heap.size + 1 + 1, 0, none⟩ 1 1 [.int .u8 (rkind (tk s q.j).kind : Nat), .string (canonB (tk s q.j).kind (tk s q.j).num), .int .i64 ((tk s q.j).at_ : Nat)] (by rfl) (by rfl) (World.news_of_block (new_at (by simp) _)) (fun u hu => by simp at hu; rcases hu with rfl | rfl | rfl <;> rfl) (by decide) (by unfold maxLen; omega) (by omega) (by simp; omega) (w.heap.size + 1 + 1 + 1) (by simp) ?_; intro g4 cap4 w4 hown4 hgrow hat hlt4; have hb4 := heap_gb hgrow (heap_alloc_at (heap_alloc_at (heap_alloc_at h.blk _) _) _) (par_own hown (by omega)); have e5 := cell_of hb4 5 _ rfl; have ef := frozen_of hb4))
      all_goals
        have hb5 : (w4.setCell ⟨b, 5, none⟩ (.slice (some ⟨g4, 0, none⟩) (q.n + 1) cap4)).heap[b]? = some (.cells #[.string s, .int .u8 (rkind (tk s q.j).kind : Nat), .string (canonB (tk s q.j).kind (tk s q.j).num), .int .i64 ((tk s q.j).at_ : Nat), .int .i64 ((tk s q.j).end_ : Nat), .slice (some ⟨g4, 0, none⟩) (q.n + 1) cap4, .int .i64 q.bad, .int .i64 q.opn] 203 (0, 0)) := heap_set' hb4 5 _ _ rfl
        have hg4 := (hown4.lt g4 rfl).1
        have hown5 := own_setCell hown4 ⟨b, 5, none⟩ (.slice (some ⟨g4, 0, none⟩) (q.n + 1) cap4) (by simp; omega)
        have hne4 : ∀ k, k < w.heap.size + 1 + 1 + 1 → k ≠ b → (Value.slice ta q.n tcap).ownBlock ≠ some k → (w4.setCell ⟨b, 5, none⟩ (.slice (some ⟨g4, 0, none⟩) (q.n + 1) cap4)).heap[k]? = (((w.alloc (.cells #[.int .u8 0, .string ⟨#[]⟩, .int .i64 0] 142)).alloc (.cells #[.int .u8 (rkind (tk s q.j).kind : Nat), .string (canonB (tk s q.j).kind (tk s q.j).num), .int .i64 ((tk s q.j).at_ : Nat)] 142)).alloc (.cells #[.int .u8 (rkind (tk s q.j).kind : Nat), .string (canonB (tk s q.j).kind (tk s q.j).num), .int .i64 ((tk s q.j).at_ : Nat)] 142)).heap[k]? := by
          intro k hk hkb hkt
          rw [Below.heap_setCell _ _ _ _ (by simpa using hkb)]
          exact hgrow.block k (by simpa using hk) (fun e => hkt e.symm)
        have hsz4 := hgrow.size
        obtain ⟨w5, hw5⟩ : ∃ w5, w5 = w4.setCell ⟨b, 5, none⟩ (.slice (some ⟨g4, 0, none⟩) (q.n + 1) cap4) := ⟨_, rfl⟩
        have hos5 : w5.os = w.os ∧ w5.tape = w.tape ∧ w5.output = w.output ∧ w.heap.size + 1 + 1 + 1 ≤ w5.heap.size := by
          rw [hw5]; exact ⟨hgrow.os, hgrow.tape, hgrow.output, by rw [size_set]; simpa using hsz4⟩
        rw [← hw5] at hb5 hown5 hne4
        have hR5 : w5.heap[w.heap.size]? = some (.cells #[.int .u8 0, .string ⟨#[]⟩, .int .i64 0] 142 (0, 0)) := (hne4 _ (by omega) (by omega) (h.rowlt _ (Nat.le_refl _))).trans (heap_alloc_at (heap_alloc_at (heap_alloc_new w _) _) _)
        have hT5 : w5.heap[w.heap.size + 1]? = some (.cells #[.int .u8 (rkind (tk s q.j).kind : Nat), .string (canonB (tk s q.j).kind (tk s q.j).num), .int .i64 ((tk s q.j).at_ : Nat)] 142 (0, 0)) := (hne4 _ (by omega) (by omega) (h.rowlt _ (by omega))).trans (heap_alloc_at (new_at (by simp) _) _)
        have hne5 : ∀ k, k < w.heap.size → k ≠ b → (Value.slice ta q.n tcap).ownBlock ≠ some k → w5.heap[k]? = w.heap[k]? := fun k hk hkb hkt => (hne4 k (by omega) hkb hkt).trans (by rw [Below.heap_alloc _ _ _ (by simp; omega), Below.heap_alloc _ _ _ (by simp; omega), Below.heap_alloc _ _ _ hk])
        rw [← hw5]
        have HCUT : Hid (∀ wx : World, Calls Tryz.prog 101 #[.string s, .int .i64 ((tk s q.j).end_ : Nat)] wx fun e w' => e = .returned (.tuple #[rtV (tk s (tk s q.j).end_), .int .i64 ((tk s (tk s q.j).end_).end_ : Nat)]) ∧ wx.grownBy w' none) := fun wx => cut_any s (tk s q.j).end_ wx hss hbd.2.2.2
        unfold rtV at HCUT
        clear c0 c1 c2 c3 c4 c5 c6 c7 hf e5 ef hb4 hgrow hne4 hown4 hw5 hsz4
        have c0 := cell_of hb5 0 _ rfl
        have c1 := cell_of hb5 1 _ rfl
        have c2 := cell_of hb5 2 _ rfl
        have c3 := cell_of hb5 3 _ rfl
        have c4 := cell_of hb5 4 _ rfl
        have hf := frozen_of hb5
        have HB5 : Hid (_ = _) := hb5
        clear hb5
        go_wp2_with fail
        go_region_with (go_at_call 101; refine (HCUT.out _).mono ?_; rintro e w6 ⟨rfl, hg6⟩; have hg60 := gb_from_drew hg6; have hb6 := heap_gb hg60 HB5.out (by simp); have k0 := cell_of hb6 0 _ rfl; have k1 := cell_of hb6 1 _ rfl; have k2 := cell_of hb6 2 _ rfl; have k3 := cell_of hb6 3 _ rfl; have k4 := cell_of hb6 4 _ rfl; have kf := frozen_of hb6; obtain ⟨x0, x1, x2, xf⟩ := loc3 (heap_gb hg60 hT5 (by simp)); obtain ⟨y0, y1, y2, yf⟩ := loc3 (heap_gb hg60 hR5 (by simp)))
        all_goals
          go_wp2_with fail
          first | (have TK := Took.mk' h (by omega) rfl hos5 hne5 hR5 hown5 (by rw [HXS.out, tkF_snoc h.tks.1]; rfl) hat hg60 (set8_1234 hb6) (put4_same w6 b 1 2 3 4 (.int .u8 (rkind (tk s (tk s q.j).end_).kind : Nat)) (.string (canonB (tk s (tk s q.j).end_).kind (tk s (tk s q.j).end_).num)) (.int .i64 ((tk s (tk s q.j).end_).at_ : Nat)) (.int .i64 ((tk s (tk s q.j).end_).end_ : Nat))) (fun k hk => put4_other w6 b k hk 1 2 3 4 (.int .u8 (rkind (tk s (tk s q.j).end_).kind : Nat)) (.string (canonB (tk s (tk s q.j).end_).kind (tk s (tk s q.j).end_).num)) (.int .i64 ((tk s (tk s q.j).end_).at_ : Nat)) (.int .i64 ((tk s (tk s q.j).end_).end_ : Nat))); obtain ⟨d0, d1, d2, _⟩ := loc3 (rset3 TK.res (.int .u8 (rkind (tk s q.j).kind : Nat)) (.string (canonB (tk s q.j).kind (tk s q.j).num)) (.int .i64 ((tk s q.j).at_ : Nat))); have TF := TK.fin (.int .u8 (rkind (tk s q.j).kind : Nat)) (.string (canonB (tk s q.j).kind (tk s q.j).num)) (.int .i64 ((tk s q.j).at_ : Nat)); exact bodyPost_ret (v := rtV (tk s q.j)) (by unfold rtV; simp [results, Tryz.results107, go_sem, d0, d1, d2]) rfl ⟨rfl, .slice (some ⟨g4, 0, none⟩) (q.n + 1) cap4, TF.1, by rw [HT.out]; exact TF.2⟩) | (have TK := Took.mk' h (by omega) rfl hos5 hne5 hR5 hown5 (by rw [HXS.out, tkF_snoc h.tks.1]; rfl) hat hg60 (set8_4123 hb6) (put4_same w6 b 4 1 2 3 (.int .i64 ((tk s (tk s q.j).end_).end_ : Nat)) (.int .u8 (rkind (tk s (tk s q.j).end_).kind : Nat)) (.string (canonB (tk s (tk s q.j).end_).kind (tk s (tk s q.j).end_).num)) (.int .i64 ((tk s (tk s q.j).end_).at_ : Nat))) (fun k hk => put4_other w6 b k hk 4 1 2 3 (.int .i64 ((tk s (tk s q.j).end_).end_ : Nat)) (.int .u8 (rkind (tk s (tk s q.j).end_).kind : Nat)) (.string (canonB (tk s (tk s q.j).end_).kind (tk s (tk s q.j).end_).num)) (.int .i64 ((tk s (tk s q.j).end_).at_ : Nat))); obtain ⟨d0, d1, d2, _⟩ := loc3 (rset3 TK.res (.int .u8 (rkind (tk s q.j).kind : Nat)) (.string (canonB (tk s q.j).kind (tk s q.j).num)) (.int .i64 ((tk s q.j).at_ : Nat))); have TF := TK.fin (.int .u8 (rkind (tk s q.j).kind : Nat)) (.string (canonB (tk s q.j).kind (tk s q.j).num)) (.int .i64 ((tk s q.j).at_ : Nat)); exact bodyPost_ret (v := rtV (tk s q.j)) (by unfold rtV; simp [results, Tryz.results107, go_sem, d0, d1, d2]) rfl ⟨rfl, .slice (some ⟨g4, 0, none⟩) (q.n + 1) cap4, TF.1, by rw [HT.out]; exact TF.2⟩)
end Go.Proofs.YtmpaeladhoomoaaGreatDoor
