/-
  The program's reader: parts with a word between them.
-/
import Derived.Test.YtmpaeladhoomoaaGreatDoorRdJ
import Derived.Deep.LoopGhost
namespace Go.Proofs.YtmpaeladhoomoaaGreatDoor
open Go.RowKit

def loopS (s : ByteArray) (bt : Int) (sub : PS → Except Nat PS) : Nat → PS → Except Nat PS
  | 0, p => .error (pl s p)
  | n + 1, p => if (kd s p : Int) = bt then (match sub (nxt s p bt) with | .error q => .error q | .ok p2 => loopS s bt sub n p2) else .ok p
def partsS (s : ByteArray) (bt : Int) (sub : PS → Except Nat PS) (p : PS) : Except Nat PS :=
  match sub p with
  | .error q => .error q
  | .ok p1 => loopS s bt sub (s.size + 1) p1

theorem L2.alloc {w0 w : World} {b : Nat} {s : ByteArray} {p : PS} {R C : Nat} {t : TypeId} {rs cs : Array Value} (l : L2 w0 w b s p R C t rs cs) (o : Obj) : L2 w0 (w.alloc o) b s p R C t rs cs :=
  ⟨gb_alloc l.g o, l.pa.alloc o, heap_alloc_at l.res o, heap_alloc_at l.loc o, l.hR, l.hC, l.hb, l.hne⟩
theorem L2.grow {w0 w w' : World} {b : Nat} {s : ByteArray} {p : PS} {R C : Nat} {t : TypeId} {rs cs : Array Value} {row : Option Nat} (l : L2 w0 w b s p R C t rs cs) (hg : w.grownBy w' row) (h1 : some b ≠ row) (h2 : some R ≠ row) (h3 : some C ≠ row) (h4 : ∀ g, row = some g → w0.heap.size ≤ g) : L2 w0 w' b s p R C t rs cs :=
  ⟨gb_new l.g hg (fun g e => Or.inr (h4 g e)), l.pa.kept hg h1, heap_gb hg l.res h2, heap_gb hg l.loc h3, l.hR, l.hC, l.hb, l.hne⟩
theorem infoFm : (Tryz.prog.info? 97).map (fun i => (i.zero, i.size, i.bytes)) = some (some (.agg #[.int .i64 0, .slice none 0 0, .int .i64 0, .int .i64 0, .int .i64 0, .int .i64 0]), 6, 64) := by kernel_rfl
theorem own_setCell {w : World} {B e size n g cap : Nat} {xs : List Value} (h : w.ownsRow B e size (.slice (some ⟨g, 0, none⟩) n cap) n xs) (a : Addr) (v : Value) (ha : g ≠ a.block) : (w.setCell a v).ownsRow B e size (.slice (some ⟨g, 0, none⟩) n cap) n xs := by
  obtain ⟨h1, h2⟩ := h
  refine ⟨h1, ?_⟩
  rcases h2 with h2 | ⟨g', cap', cur, hv, hg, hh, r⟩
  · exact Or.inl h2
  · simp only [Value.slice.injEq, Option.some.injEq, Addr.mk.injEq] at hv
    obtain ⟨⟨rfl, _⟩, _, rfl⟩ := hv
    exact Or.inr ⟨g, cap, cur, rfl, hg, by rw [Below.heap_setCell _ _ _ _ ha]; exact hh, r⟩
theorem own_fresh {w : World} {cs : Array Value} {e B : Nat} (hB : B ≤ w.heap.size) (h6 : cs.size = 6) : (w.alloc (.cells cs e)).ownsRow B e 6 (.slice (some ⟨w.heap.size, 0, none⟩) 1 1) 1 cs.toList :=
  ⟨by simp [h6], Or.inr ⟨w.heap.size, 1, cs, rfl, hB, heap_alloc_new w _, Nat.le_refl _, by decide, by simp [h6], by rw [Nat.one_mul, ← h6]; exact List.take_of_length_le (by simp)⟩⟩

/-- The loop over the parts: what is so at its head. -/
structure PL (w wr : World) (b : Nat) (s : ByteArray) (q : PS) (sh : Int) (H1 n g cap : Nat) (xs : List Value) : Prop where
  l : L2 w wr b s q w.heap.size (H1 + 1 + 1) 97 #[.int .i64 0, .slice none 0 0, .int .i64 0, .int .i64 0, .int .i64 0, .int .i64 0] #[.int .i64 sh, .slice (some ⟨g, 0, none⟩) n cap, .int .i64 0, .int .i64 0, .int .i64 0, .int .i64 0]
  own : wr.ownsRow (H1 + 1) 97 6 (.slice (some ⟨g, 0, none⟩) n cap) n xs
  gne : g ≠ H1 + 1 + 1
  hH : w.heap.size < H1
theorem PL.call {w wr w' : World} {b : Nat} {s : ByteArray} {q q' : PS} {sh : Int} {H1 n g cap : Nat} {xs : List Value} (h : PL w wr b s q sh H1 n g cap xs) (hg : wr.grownBy w' (some b)) (hp : PAt w' b s q') : PL w w' b s q' sh H1 n g cap xs :=
  ⟨h.l.call hg hp, own_par h.own hg (by have := h.l.hb; have := h.hH; omega), h.gne, h.hH⟩
theorem PL.alloc {w wr : World} {b : Nat} {s : ByteArray} {q : PS} {sh : Int} {H1 n g cap : Nat} {xs : List Value} (h : PL w wr b s q sh H1 n g cap xs) (o : Obj) : PL w (wr.alloc o) b s q sh H1 n g cap xs :=
  ⟨h.l.alloc o, h.own.alloc o, h.gne, h.hH⟩
/-- Behind the append, ahead of the store of the new slice. -/
theorem PL.mid {w wr w' : World} {b : Nat} {s : ByteArray} {q : PS} {sh : Int} {H1 n g cap g' H : Nat} {xs : List Value} (h : PL w wr b s q sh H1 n g cap xs)
    (hg : wr.grownBy w' (Value.slice (some ⟨g, 0, none⟩) n cap).ownBlock) (hat : (Value.slice (some ⟨g, 0, none⟩) n cap).ownBlock = some g' ∨ g' = H) (hH : wr.heap.size = H) :
    L2 w w' b s q w.heap.size (H1 + 1 + 1) 97 #[.int .i64 0, .slice none 0 0, .int .i64 0, .int .i64 0, .int .i64 0, .int .i64 0] #[.int .i64 sh, .slice (some ⟨g, 0, none⟩) n cap, .int .i64 0, .int .i64 0, .int .i64 0, .int .i64 0] ∧ g' ≠ H1 + 1 + 1 := by
  have hg1 := (h.own.lt g rfl).1
  have hb := h.l.hb
  have hh := h.hH
  have hl := heap_lt h.l.loc
  refine ⟨h.l.grow hg (by simp [Value.ownBlock]; omega) (by simp [Value.ownBlock]; omega) (by simp [Value.ownBlock]; have := h.gne; omega) (fun k e => by simp [Value.ownBlock] at e; omega), ?_⟩
  rcases hat with e | e
  · simp [Value.ownBlock] at e; have := h.gne; omega
  · omega
theorem done_heap (w2 : World) (R : Nat) (r0 r1 r2 r3 r4 r5 : Value) (x : Nat) (hxR : x ≠ R) :
    ((((((w2.setCell ⟨R, 0, none⟩ r0).setCell ⟨R, 1, none⟩ r1).setCell ⟨R, 2, none⟩ r2).setCell ⟨R, 3, none⟩ r3).setCell ⟨R, 4, none⟩ r4).setCell ⟨R, 5, none⟩ r5).heap[x]? = w2.heap[x]? := by
  rw [Below.heap_setCell _ _ _ _ (by simpa using hxR), Below.heap_setCell _ _ _ _ (by simpa using hxR), Below.heap_setCell _ _ _ _ (by simpa using hxR), Below.heap_setCell _ _ _ _ (by simpa using hxR), Below.heap_setCell _ _ _ _ (by simpa using hxR), Below.heap_setCell _ _ _ _ (by simpa using hxR)]
theorem done_size (w2 : World) (R : Nat) (r0 r1 r2 r3 r4 r5 : Value) : ((((((w2.setCell ⟨R, 0, none⟩ r0).setCell ⟨R, 1, none⟩ r1).setCell ⟨R, 2, none⟩ r2).setCell ⟨R, 3, none⟩ r3).setCell ⟨R, 4, none⟩ r4).setCell ⟨R, 5, none⟩ r5).heap.size = w2.heap.size := by simp only [size_set]
/-- One part alone: handed on. -/
theorem FRep.pass {d : Nat} {w w1 : World} {cs : List Value} {t : Txt} {o0 o : Obj} (h : FRep d w1 (newB (w.alloc o0) w1) cs t) (r0 r1 r2 r3 r4 r5 : Value) :
    FRep d (((((((w1.setCell ⟨w.heap.size, 0, none⟩ r0).setCell ⟨w.heap.size, 1, none⟩ r1).setCell ⟨w.heap.size, 2, none⟩ r2).setCell ⟨w.heap.size, 3, none⟩ r3).setCell ⟨w.heap.size, 4, none⟩ r4).setCell ⟨w.heap.size, 5, none⟩ r5).alloc o) (newB w (((((((w1.setCell ⟨w.heap.size, 0, none⟩ r0).setCell ⟨w.heap.size, 1, none⟩ r1).setCell ⟨w.heap.size, 2, none⟩ r2).setCell ⟨w.heap.size, 3, none⟩ r3).setCell ⟨w.heap.size, 4, none⟩ r4).setCell ⟨w.heap.size, 5, none⟩ r5).alloc o)) cs t := by
  refine h.mono (fun x hx => ?_) (fun x hx => ?_)
  · have h1 := hx.1
    have h2 := hx.2
    rw [World.size_alloc] at h1
    exact ⟨by omega, by rw [World.size_alloc, done_size]; omega⟩
  · have h1 := hx.1
    have h2 := hx.2
    rw [World.size_alloc] at h1
    rw [Below.heap_alloc _ _ _ (by rw [done_size]; exact h2), done_heap _ _ _ _ _ _ _ _ _ (by omega)]
/-- The first of several parts. -/
theorem KP.start {d : Nat} {w w1 : World} {cs : List Value} {t : Txt} {o0 o1 o2 o3 : Obj} {s : ByteArray} {i j : Nat} {bt : Int} (h : FRep d w1 (newB (w.alloc o0) w1) cs t) (h6 : cs.length = 6) (hr : Ren s i j t) :
    KP w (((w1.alloc o1).alloc o2).alloc o3) (w1.heap.size + 1) (w1.heap.size + 1 + 1) 1 cs s i j bt := by
  refine ⟨d, [t], ⟨cs, [], by simp, h6, h.mono (fun x hx => ?_) (fun x hx => ?_), rfl⟩, rfl, by simp, hr⟩
  · have h1 := hx.1
    have h2 := hx.2
    rw [World.size_alloc] at h1
    exact ⟨by omega, by simp; omega, by omega, by omega⟩
  · have h2 := hx.2
    rw [Below.heap_alloc _ _ _ (by simp; omega), Below.heap_alloc _ _ _ (by simp; omega), Below.heap_alloc _ _ _ h2]
/-- A round: the word, the part, the row. -/
theorem KP.round {w wr w2 w3 w4 : World} {b g g4 C n cap d2 H : Nat} {xs c : List Value} {s : ByteArray} {i : Nat} {q q2 : PS} {bt : Int} {u : Txt} {o1 o2 : Obj} {v : Value} (h : KP w wr g C n xs s i q.i bt) (hbt : bt = 12 ∨ bt = 13) (hk : (kd s q : Int) = bt)
    (hb : b < w.heap.size) (hw : w.heap.size < wr.heap.size) (hgl : g < wr.heap.size) (hCl : C < wr.heap.size) (hg2 : wr.grownBy w2 (some b)) (hg3 : w2.grownBy w3 (some b)) (hc : c.length = 6) (h2 : FRep d2 w3 (newB w2 w3) c u) (hR : Ren s (nxt s q bt).i q2.i u)
    (hgrow : ((w3.alloc o1).alloc o2).grownBy w4 (Value.slice (some ⟨g, 0, none⟩) n cap).ownBlock) (hat : (Value.slice (some ⟨g, 0, none⟩) n cap).ownBlock = some g4 ∨ g4 = H) (hH : H = w3.heap.size + 2) :
    KP w (w4.setCell ⟨C, 1, none⟩ v) g4 C (n + 1) (xs ++ c) s i q2.i bt := by
  have h3 := (h.grow hg2 (fun x e hx => by simp at e; have := hx.1; omega)).grow hg3 (fun x e hx => by simp at e; have := hx.1; omega)
  rw [nxt_i] at hR
  have s2 := hg2.size
  have s3 := hg3.size
  have s4 := hgrow.size
  simp only [World.size_alloc] at s4
  refine h3.push hbt hk hc h2 hR (fun x hx => ⟨by have := hx.1; omega, hx.2, by have := hx.1; omega, by have := hx.1; omega⟩) (by rw [size_set]; omega) (fun x hx => ?_) ?_
  · rw [Below.heap_setCell _ _ _ _ (by simpa using hx.2.2.2), hgrow.block x (by simp; have := hx.2.1; omega) (by simp [Value.ownBlock]; exact hx.2.2.1), Below.heap_alloc _ _ _ (by simp; have := hx.2.1; omega), Below.heap_alloc _ _ _ hx.2.1]
  · rcases hat with e | e
    · simp [Value.ownBlock] at e; exact Or.inl e.symm
    · right; omega

theorem kind_ne_one (s : ByteArray) (q : PS) (bt : Int) (h : (kd s q : Int) = bt) (hb : bt = 12 ∨ bt = 13) : (tk s q.i).kind ≠ 1 := by
  intro e
  have : kd s q = 1 := e
  omega
theorem loop_yes (s : ByteArray) (bt : Int) (sub : PS → Except Nat PS) (k : Nat) (q : PS) (hk : 0 < k) (hb : (kd s q : Int) = bt) : loopS s bt sub k q = (match sub (nxt s q bt) with | .error e => .error e | .ok p2 => loopS s bt sub (k - 1) p2) := by
  obtain ⟨m, rfl⟩ : ∃ m, k = m + 1 := ⟨k - 1, by omega⟩
  rw [loopS, if_pos hb]
  cases sub (nxt s q bt) <;> rfl
theorem loop_no (s : ByteArray) (bt : Int) (sub : PS → Except Nat PS) (k : Nat) (q : PS) (hk : 0 < k) (hb : ¬ (kd s q : Int) = bt) : loopS s bt sub k q = .ok q := by
  obtain ⟨m, rfl⟩ : ∃ m, k = m + 1 := ⟨k - 1, by omega⟩
  rw [loopS, if_neg hb]


set_option maxRecDepth 100000 in
set_option maxHeartbeats 4000000 in
theorem parts_part (sub : PS → Except Nat PS) (w : World) (b : Nat) (s : ByteArray) (p : PS) (h : PAt w b s p) (sh bt : Int) (hbt : bt = 12 ∧ sh = 1 ∨ bt = 13 ∧ sh = 0)
    (HC : ∀ (wx : World) (q : PS), PAt wx b s q → q.opn = p.opn → Calls Tryz.prog 204 #[.pointer (some ⟨b, 0, none⟩)] wx fun e w' => PostF wx b s q (sub q) e w') :
    Calls Tryz.prog 152 #[.pointer (some ⟨b, 0, none⟩), .int .i64 sh, .int .i64 bt, .func (Fn.func 204) #[.pointer (some ⟨b, 0, none⟩)] #[]] w fun e w' => PostF w b s p (partsS s bt sub p) e w' := by
  obtain ⟨i0, hi, hz0, hz1, hz2⟩ := info_parts infoFm
  have HBS : Hid (bt = 12 ∧ sh = 1 ∨ bt = 13 ∧ sh = 0) := hbt
  have HBT : Hid (bt = 12 ∨ bt = 13) := by show _ ∨ _; omega
  have HCH : Hid (∀ (wx : World) (q : PS), PAt wx b s q → q.opn = p.opn → Calls Tryz.prog 204 #[.pointer (some ⟨b, 0, none⟩)] wx fun e w' => PostF wx b s q (sub q) e w') := HC
  clear HC hbt
  have hlt := heap_lt h.blk
  have hss := h.ssz
  go_enter Tryz.func152, Tryz.ntmps152
  go_wp2_with fail
  have L0 := L1.start h 97 #[.int .i64 0, .slice none 0 0, .int .i64 0, .int .i64 0, .int .i64 0, .int .i64 0]
  have hin := HCH.out _ p L0.pa rfl
  refine hin.mono ?_
  clear hin
  rintro e w1 ⟨hg1, hr1⟩
  cases hs : sub p with
  | error q =>
    rw [hs] at hr1
    obtain ⟨⟨n0, a, kk, c, n2, n3, n4, n5, rfl⟩, p1, hp1, hq1, ho1⟩ := hr1
    have HS : Hid (partsS s bt sub p = .error q) := by show _ = _; unfold partsS; rw [hs]
    have HO1 : Hid (p1.opn = p.opn) := ho1
    clear hs ho1
    have L1a := L0.call hg1 hp1
    obtain ⟨b0, b1, b2, b3, b4, b5, bf⟩ := loc6 L1a.res
    have hRl := heap_lt L1a.res
    unfold fmV
    go_wp2_with fail
    have LD := (L1a.done6 (.int .i64 n0) (.slice a kk c) (.int .i64 n2) (.int .i64 n3) (.int .i64 n4) (.int .i64 n5)).alloc (.cells #[.int .i64 n0, .slice a kk c, .int .i64 n2, .int .i64 n3, .int .i64 n4, .int .i64 n5] 97)
    obtain ⟨d0, d1, d2, d3, d4, d5, _⟩ := loc6 LD.res
    exact bodyPost_ret (v := .tuple #[.agg #[.int .i64 n0, .slice a kk c, .int .i64 n2, .int .i64 n3, .int .i64 n4, .int .i64 n5], .bool false]) (by simp [results, Tryz.results152, go_sem, d0, d1, d2, d3, d4, d5]) rfl (postF_err _ _ _ _ _ _ _ _ (by rw [HS.out, hq1]) LD.g LD.pa HO1.out)
  | ok p1 =>
    rw [hs] at hr1
    obtain ⟨⟨n0, a, kk, c, n2, n3, n4, n5, rfl, HF1⟩, hp1, ho1, hi1⟩ := hr1
    have HS : Hid (partsS s bt sub p = loopS s bt sub (s.size + 1) p1) := by show _ = _; unfold partsS; rw [hs]
    have HO1 : Hid (p1.opn = p.opn) := ho1
    clear hs ho1
    have L1a := L0.call hg1 hp1
    obtain ⟨b0, b1, b2, b3, b4, b5, bf⟩ := loc6 L1a.res
    obtain ⟨c0, c1, c2, c3, c4, c5, c6, c7, c8, hf, hbl⟩ := hp1.get
    have hRl := heap_lt L1a.res
    unfold fmV
    by_cases hk : (kd s p1 : Int) = bt
    · have hk' : (((tk s p1.i).kind : Int) != bt) = false := by show ((kd s p1 : Int) != bt) = false; simpa using hk
      have HK : Hid ((kd s p1 : Int) = bt) := hk
      clear hk
      go_wp2_with fail
      obtain ⟨H1, hH1⟩ : ∃ H1, H1 = w1.heap.size := ⟨_, rfl⟩
      have PL0 : PL w (((w1.alloc (.cells #[.int .i64 n0, .slice a kk c, .int .i64 n2, .int .i64 n3, .int .i64 n4, .int .i64 n5] 97)).alloc (.cells #[.int .i64 n0, .slice a kk c, .int .i64 n2, .int .i64 n3, .int .i64 n4, .int .i64 n5] 97)).alloc (.cells #[.int .i64 sh, .slice (some ⟨w1.heap.size + 1, 0, none⟩) 1 1, .int .i64 0, .int .i64 0, .int .i64 0, .int .i64 0] 97)) b s p1 sh w1.heap.size 1 (w1.heap.size + 1) 1 [.int .i64 n0, .slice a kk c, .int .i64 n2, .int .i64 n3, .int .i64 n4, .int .i64 n5] := by
        have L2s := (L1a.alloc (.cells #[.int .i64 n0, .slice a kk c, .int .i64 n2, .int .i64 n3, .int .i64 n4, .int .i64 n5] 97)).alloc (.cells #[.int .i64 n0, .slice a kk c, .int .i64 n2, .int .i64 n3, .int .i64 n4, .int .i64 n5] 97)
        refine ⟨⟨gb_alloc L2s.g _, L2s.pa.alloc _, heap_alloc_at L2s.res _, new_at (by simp) _, Nat.le_refl _, by omega, hlt, by omega⟩, ?_, by omega, hRl⟩
        have := (own_fresh (w := w1.alloc (.cells #[.int .i64 n0, .slice a kk c, .int .i64 n2, .int .i64 n3, .int .i64 n4, .int .i64 n5] 97)) (B := w1.heap.size + 1) (cs := #[.int .i64 n0, .slice a kk c, .int .i64 n2, .int .i64 n3, .int .i64 n4, .int .i64 n5]) (e := 97) (by simp) rfl).alloc (.cells #[.int .i64 sh, .slice (some ⟨w1.heap.size + 1, 0, none⟩) 1 1, .int .i64 0, .int .i64 0, .int .i64 0, .int .i64 0] 97)
        simpa using this
      have hz1i := hp1.isz
      go_loopg [14] (s.size + 1) (fun k _ wr => ∃ (q : PS) (n g cap : Nat) (xs : List Value), PL w wr b s q sh w1.heap.size n g cap xs ∧ s.size < q.i + k ∧ n ≤ q.i + 1 ∧ p.i ≤ q.i ∧ Hid (KP w wr g (w1.heap.size + 1 + 1) n xs s p.i q.i bt) ∧ Hid (loopS s bt sub k q = loopS s bt sub (s.size + 1) p1) ∧ Hid (q.opn = p.opn))
      case atStart => obtain ⟨d, t, hF, hR⟩ := HF1.out; exact ⟨p1, 1, _, 1, _, PL0, by omega, by omega, hi1, KP.start hF rfl hR, rfl, HO1⟩
      case round =>
        clear hH1 b0 b1 b2 b3 b4 b5 bf c0 c1 c2 c3 c4 c5 c6 c7 c8 hf
        obtain ⟨q, n, g, cap, xs, P0, hk1, hn1, hpi, HKP, HSP, HOQ⟩ := hrel
        have hqi := P0.l.pa.isz
        by_cases hkq : (kd s q : Int) = bt
        · have HLY : Hid (loopS s bt sub (s.size + 1) p1 = (match sub (nxt s q bt) with | .error e => .error e | .ok p2 => loopS s bt sub (gk - 1) p2)) := by show _ = _; rw [← HSP.out, loop_yes s bt sub gk q (by omega) hkq]
          have hbn : ¬ bt = 4 := by have := HBT.out; omega
          have HKQ : Hid ((kd s q : Int) = bt) := hkq
          have hgl := (P0.own.lt g rfl).2
          have hCl := heap_lt P0.l.loc
          have hn1k := kind_ne_one s q bt hkq HBT.out
          have hnl := nxt_lt s q bt hqi hn1k
          go_wp2_with fail
          refine (pass_yes _ b s q bt P0.l.pa hkq).mono ?_
          clear hkq hn1k
          rintro e w2 ⟨rfl, hg2, hp2⟩
          have P1 := P0.call hg2 hp2
          have hq1i := hp2.isz
          go_wp2_with fail
          have hin := HCH.out _ (nxt s q bt) P1.l.pa ((nxt_thr s q bt).2.1.trans HOQ.out)
          refine hin.mono ?_
          clear hin
          rintro e w3 ⟨hg3, hr3⟩
          cases hs : sub (nxt s q bt) with
          | error eq =>
            rw [hs] at hr3
            obtain ⟨⟨m0, ma, mk, mc, m2, m3, m4, m5, rfl⟩, q2, hq2, hqq2, hoq2⟩ := hr3
            have HS2 : Hid (partsS s bt sub p = .error eq) := by show _ = _; rw [HS.out, HLY.out, hs]
            have HO2 : Hid (q2.opn = p.opn) := hoq2.trans ((nxt_thr s q bt).2.1.trans HOQ.out)
            clear hs hoq2
            have P2 := P1.call hg3 hq2
            obtain ⟨⟨a0, a1, a2, a3, a4, a5, af⟩, ⟨b0, b1, b2, b3, b4, b5, bf⟩⟩ := P2.l.get6
            have hl1 := heap_lt P2.l.res
            have hl2 := heap_lt P2.l.loc
            unfold fmV
            go_wp2_with fail
            have LD := (P2.l.done6 (.int .i64 sh) (.slice (some ⟨g, 0, none⟩) n cap) (.int .i64 0) (.int .i64 0) (.int .i64 0) (.int .i64 0)).alloc (.cells #[.int .i64 m0, .slice ma mk mc, .int .i64 m2, .int .i64 m3, .int .i64 m4, .int .i64 m5] 97)
            obtain ⟨d0, d1, d2, d3, d4, d5, _⟩ := loc6 LD.res
            exact bodyPost_ret (v := .tuple #[.agg #[.int .i64 sh, .slice (some ⟨g, 0, none⟩) n cap, .int .i64 0, .int .i64 0, .int .i64 0, .int .i64 0], .bool false]) (by simp [results, Tryz.results152, go_sem, d0, d1, d2, d3, d4, d5]) rfl (postF_err _ _ _ _ _ _ _ _ (by rw [HS2.out, hqq2]) LD.g LD.pa HO2.out)
          | ok q2 =>
            rw [hs] at hr3
            obtain ⟨⟨m0, ma, mk, mc, m2, m3, m4, m5, rfl, HF3⟩, hq2, hoq2, hiq2⟩ := hr3
            have HS2 : Hid (loopS s bt sub (s.size + 1) p1 = loopS s bt sub (gk - 1) q2) := by show _ = _; rw [HLY.out, hs]
            have HO2 : Hid (q2.opn = p.opn) := hoq2.trans ((nxt_thr s q bt).2.1.trans HOQ.out)
            clear hs hoq2
            have P2 := P1.call hg3 hq2
            have hq2i := hq2.isz
            have P3 := P2.alloc (.cells #[.int .i64 m0, .slice ma mk mc, .int .i64 m2, .int .i64 m3, .int .i64 m4, .int .i64 m5] 97)
            have P4 := P3.alloc (.cells #[.int .i64 m0, .slice ma mk mc, .int .i64 m2, .int .i64 m3, .int .i64 m4, .int .i64 m5] 97)
            obtain ⟨⟨a0, a1, a2, a3, a4, a5, af⟩, ⟨b0, b1, b2, b3, b4, b5, bf⟩⟩ := P2.l.get6
            have hl1 := heap_lt P2.l.res
            have hl2 := heap_lt P2.l.loc
            unfold fmV
            go_wp2_with (at_builtin; go_must (refine wpList_append_lies _ (by rfl) _ _ 95 (by rfl) (w1.heap.size + 1) 97 i0 _ 6 64 Tryz.underlying95 hi hz0 hz1 hz2 rfl (by decide) (.slice (some ⟨g, 0, none⟩) n cap) n xs (by rfl) P4.own ⟨w3.heap.size + 1, 0, none⟩ 1 1 [.int .i64 m0, .slice ma mk mc, .int .i64 m2, .int .i64 m3, .int .i64 m4, .int .i64 m5] (by rfl) (by rfl) (World.news_of_block (new_at (by simp) _)) (fun u hu => by simp at hu; rcases hu with rfl | rfl | rfl | rfl | rfl | rfl <;> rfl) (by decide) (by unfold maxLen; omega) (by omega) (by simp; omega) (w3.heap.size + 2) (by simp) ?_; intro g4 cap4 w4 hown hgrow hat hlt4; clear a0 a1 a2 a3 a4 a5 af b0 b1 b2 b3 b4 b5 bf; obtain ⟨L5, hgn⟩ := P4.mid hgrow hat (by simp); obtain ⟨⟨a0, a1, a2, a3, a4, a5, af⟩, ⟨b0, b1, b2, b3, b4, b5, bf⟩⟩ := L5.get6))
            have P6 : PL w (w4.setCell ⟨w1.heap.size + 1 + 1, 1, none⟩ (.slice (some ⟨g4, 0, none⟩) (n + 1) cap4)) b s q2 sh w1.heap.size (n + 1) g4 cap4 (xs ++ [.int .i64 m0, .slice ma mk mc, .int .i64 m2, .int .i64 m3, .int .i64 m4, .int .i64 m5]) := ⟨L5.put' 1 _ _ rfl, own_setCell hown _ _ hgn, hgn, hRl⟩
            go_roundg (gk - 1)
            case measure => omega
            case rel =>
              refine ⟨q2, n + 1, g4, cap4, _, P6, by omega, by omega, by omega, ?_, HS2.out.symm, HO2⟩
              obtain ⟨d, u, hF, hR⟩ := HF3.out
              exact HKP.out.round HBT.out HKQ.out hlt (by omega) hgl hCl hg2 hg3 rfl hF hR hgrow hat rfl
        · have HLN : Hid (partsS s bt sub p = .ok q) := by show _ = _; rw [HS.out, ← HSP.out, loop_no s bt sub gk q (by omega) hkq]
          go_wp2_with fail
          refine (pass_no _ b s q bt P0.l.pa hkq).mono ?_
          clear hkq
          rintro e w2 ⟨rfl, rfl⟩
          obtain ⟨⟨a0, a1, a2, a3, a4, a5, af⟩, ⟨b0, b1, b2, b3, b4, b5, bf⟩⟩ := P0.l.get6
          go_wp2_with fail
          have LD := P0.l.done6 (.int .i64 sh) (.slice (some ⟨g, 0, none⟩) n cap) (.int .i64 0) (.int .i64 0) (.int .i64 0) (.int .i64 0)
          obtain ⟨d0, d1, d2, d3, d4, d5, _⟩ := loc6 LD.res
          exact bodyPost_ret (v := .tuple #[.agg #[.int .i64 sh, .slice (some ⟨g, 0, none⟩) n cap, .int .i64 0, .int .i64 0, .int .i64 0, .int .i64 0], .bool true]) (by simp [results, Tryz.results152, go_sem, d0, d1, d2, d3, d4, d5]) rfl (postF_ok _ _ _ _ _ _ _ _ HLN.out LD.g LD.pa HOQ.out hpi (HKP.out.done HBS.out (by omega) ⟨by have := (P0.own.lt g rfl).1; omega, by rw [done_size]; exact (P0.own.lt g rfl).2⟩ (by rw [done_size]; exact Nat.le_refl _) (fun o v ho => by rw [cell_same (done_heap _ _ _ _ _ _ _ _ g (by have := (P0.own.lt g rfl).1; omega)), ← addr_add]; exact P0.own.cells rfl o v ho) (fun x hx => done_heap _ _ _ _ _ _ _ _ x (by have := hx.1; omega))))
    · have hk' : (((tk s p1.i).kind : Int) != bt) = true := by show ((kd s p1 : Int) != bt) = true; simpa using hk
      have HS2 : Hid (partsS s bt sub p = .ok p1) := by show _ = _; rw [HS.out, loopS, if_neg hk]
      clear hk
      go_wp2_with fail
      have LD := (L1a.done6 (.int .i64 n0) (.slice a kk c) (.int .i64 n2) (.int .i64 n3) (.int .i64 n4) (.int .i64 n5)).alloc (.cells #[.int .i64 n0, .slice a kk c, .int .i64 n2, .int .i64 n3, .int .i64 n4, .int .i64 n5] 97)
      obtain ⟨d0, d1, d2, d3, d4, d5, _⟩ := loc6 LD.res
      exact bodyPost_ret (v := .tuple #[.agg #[.int .i64 n0, .slice a kk c, .int .i64 n2, .int .i64 n3, .int .i64 n4, .int .i64 n5], .bool true]) (by simp [results, Tryz.results152, go_sem, d0, d1, d2, d3, d4, d5]) rfl (postF_ok _ _ _ _ _ _ _ _ HS2.out LD.g LD.pa HO1.out hi1 (by obtain ⟨d, t, hF, hR⟩ := HF1.out; exact ⟨d, t, hF.pass _ _ _ _ _ _, hR⟩))


set_option maxRecDepth 100000 in
set_option maxHeartbeats 4000000 in
theorem parts_conj (sub : PS → Except Nat PS) (w : World) (b : Nat) (s : ByteArray) (p : PS) (h : PAt w b s p) (sh bt : Int) (hbt : bt = 12 ∧ sh = 1 ∨ bt = 13 ∧ sh = 0)
    (HC : ∀ (wx : World) (q : PS), PAt wx b s q → q.opn = p.opn → Calls Tryz.prog 153 #[.pointer (some ⟨b, 0, none⟩)] wx fun e w' => PostF wx b s q (sub q) e w') :
    Calls Tryz.prog 152 #[.pointer (some ⟨b, 0, none⟩), .int .i64 sh, .int .i64 bt, .func (Fn.func 153) #[.pointer (some ⟨b, 0, none⟩)] #[]] w fun e w' => PostF w b s p (partsS s bt sub p) e w' := by
  obtain ⟨i0, hi, hz0, hz1, hz2⟩ := info_parts infoFm
  have HBS : Hid (bt = 12 ∧ sh = 1 ∨ bt = 13 ∧ sh = 0) := hbt
  have HBT : Hid (bt = 12 ∨ bt = 13) := by show _ ∨ _; omega
  have HCH : Hid (∀ (wx : World) (q : PS), PAt wx b s q → q.opn = p.opn → Calls Tryz.prog 153 #[.pointer (some ⟨b, 0, none⟩)] wx fun e w' => PostF wx b s q (sub q) e w') := HC
  clear HC hbt
  have hlt := heap_lt h.blk
  have hss := h.ssz
  go_enter Tryz.func152, Tryz.ntmps152
  go_wp2_with fail
  have L0 := L1.start h 97 #[.int .i64 0, .slice none 0 0, .int .i64 0, .int .i64 0, .int .i64 0, .int .i64 0]
  have hin := HCH.out _ p L0.pa rfl
  refine hin.mono ?_
  clear hin
  rintro e w1 ⟨hg1, hr1⟩
  cases hs : sub p with
  | error q =>
    rw [hs] at hr1
    obtain ⟨⟨n0, a, kk, c, n2, n3, n4, n5, rfl⟩, p1, hp1, hq1, ho1⟩ := hr1
    have HS : Hid (partsS s bt sub p = .error q) := by show _ = _; unfold partsS; rw [hs]
    have HO1 : Hid (p1.opn = p.opn) := ho1
    clear hs ho1
    have L1a := L0.call hg1 hp1
    obtain ⟨b0, b1, b2, b3, b4, b5, bf⟩ := loc6 L1a.res
    have hRl := heap_lt L1a.res
    unfold fmV
    go_wp2_with fail
    have LD := (L1a.done6 (.int .i64 n0) (.slice a kk c) (.int .i64 n2) (.int .i64 n3) (.int .i64 n4) (.int .i64 n5)).alloc (.cells #[.int .i64 n0, .slice a kk c, .int .i64 n2, .int .i64 n3, .int .i64 n4, .int .i64 n5] 97)
    obtain ⟨d0, d1, d2, d3, d4, d5, _⟩ := loc6 LD.res
    exact bodyPost_ret (v := .tuple #[.agg #[.int .i64 n0, .slice a kk c, .int .i64 n2, .int .i64 n3, .int .i64 n4, .int .i64 n5], .bool false]) (by simp [results, Tryz.results152, go_sem, d0, d1, d2, d3, d4, d5]) rfl (postF_err _ _ _ _ _ _ _ _ (by rw [HS.out, hq1]) LD.g LD.pa HO1.out)
  | ok p1 =>
    rw [hs] at hr1
    obtain ⟨⟨n0, a, kk, c, n2, n3, n4, n5, rfl, HF1⟩, hp1, ho1, hi1⟩ := hr1
    have HS : Hid (partsS s bt sub p = loopS s bt sub (s.size + 1) p1) := by show _ = _; unfold partsS; rw [hs]
    have HO1 : Hid (p1.opn = p.opn) := ho1
    clear hs ho1
    have L1a := L0.call hg1 hp1
    obtain ⟨b0, b1, b2, b3, b4, b5, bf⟩ := loc6 L1a.res
    obtain ⟨c0, c1, c2, c3, c4, c5, c6, c7, c8, hf, hbl⟩ := hp1.get
    have hRl := heap_lt L1a.res
    unfold fmV
    by_cases hk : (kd s p1 : Int) = bt
    · have hk' : (((tk s p1.i).kind : Int) != bt) = false := by show ((kd s p1 : Int) != bt) = false; simpa using hk
      have HK : Hid ((kd s p1 : Int) = bt) := hk
      clear hk
      go_wp2_with fail
      obtain ⟨H1, hH1⟩ : ∃ H1, H1 = w1.heap.size := ⟨_, rfl⟩
      have PL0 : PL w (((w1.alloc (.cells #[.int .i64 n0, .slice a kk c, .int .i64 n2, .int .i64 n3, .int .i64 n4, .int .i64 n5] 97)).alloc (.cells #[.int .i64 n0, .slice a kk c, .int .i64 n2, .int .i64 n3, .int .i64 n4, .int .i64 n5] 97)).alloc (.cells #[.int .i64 sh, .slice (some ⟨w1.heap.size + 1, 0, none⟩) 1 1, .int .i64 0, .int .i64 0, .int .i64 0, .int .i64 0] 97)) b s p1 sh w1.heap.size 1 (w1.heap.size + 1) 1 [.int .i64 n0, .slice a kk c, .int .i64 n2, .int .i64 n3, .int .i64 n4, .int .i64 n5] := by
        have L2s := (L1a.alloc (.cells #[.int .i64 n0, .slice a kk c, .int .i64 n2, .int .i64 n3, .int .i64 n4, .int .i64 n5] 97)).alloc (.cells #[.int .i64 n0, .slice a kk c, .int .i64 n2, .int .i64 n3, .int .i64 n4, .int .i64 n5] 97)
        refine ⟨⟨gb_alloc L2s.g _, L2s.pa.alloc _, heap_alloc_at L2s.res _, new_at (by simp) _, Nat.le_refl _, by omega, hlt, by omega⟩, ?_, by omega, hRl⟩
        have := (own_fresh (w := w1.alloc (.cells #[.int .i64 n0, .slice a kk c, .int .i64 n2, .int .i64 n3, .int .i64 n4, .int .i64 n5] 97)) (B := w1.heap.size + 1) (cs := #[.int .i64 n0, .slice a kk c, .int .i64 n2, .int .i64 n3, .int .i64 n4, .int .i64 n5]) (e := 97) (by simp) rfl).alloc (.cells #[.int .i64 sh, .slice (some ⟨w1.heap.size + 1, 0, none⟩) 1 1, .int .i64 0, .int .i64 0, .int .i64 0, .int .i64 0] 97)
        simpa using this
      have hz1i := hp1.isz
      go_loopg [14] (s.size + 1) (fun k _ wr => ∃ (q : PS) (n g cap : Nat) (xs : List Value), PL w wr b s q sh w1.heap.size n g cap xs ∧ s.size < q.i + k ∧ n ≤ q.i + 1 ∧ p.i ≤ q.i ∧ Hid (KP w wr g (w1.heap.size + 1 + 1) n xs s p.i q.i bt) ∧ Hid (loopS s bt sub k q = loopS s bt sub (s.size + 1) p1) ∧ Hid (q.opn = p.opn))
      case atStart => obtain ⟨d, t, hF, hR⟩ := HF1.out; exact ⟨p1, 1, _, 1, _, PL0, by omega, by omega, hi1, KP.start hF rfl hR, rfl, HO1⟩
      case round =>
        clear hH1 b0 b1 b2 b3 b4 b5 bf c0 c1 c2 c3 c4 c5 c6 c7 c8 hf
        obtain ⟨q, n, g, cap, xs, P0, hk1, hn1, hpi, HKP, HSP, HOQ⟩ := hrel
        have hqi := P0.l.pa.isz
        by_cases hkq : (kd s q : Int) = bt
        · have HLY : Hid (loopS s bt sub (s.size + 1) p1 = (match sub (nxt s q bt) with | .error e => .error e | .ok p2 => loopS s bt sub (gk - 1) p2)) := by show _ = _; rw [← HSP.out, loop_yes s bt sub gk q (by omega) hkq]
          have hbn : ¬ bt = 4 := by have := HBT.out; omega
          have HKQ : Hid ((kd s q : Int) = bt) := hkq
          have hgl := (P0.own.lt g rfl).2
          have hCl := heap_lt P0.l.loc
          have hn1k := kind_ne_one s q bt hkq HBT.out
          have hnl := nxt_lt s q bt hqi hn1k
          go_wp2_with fail
          refine (pass_yes _ b s q bt P0.l.pa hkq).mono ?_
          clear hkq hn1k
          rintro e w2 ⟨rfl, hg2, hp2⟩
          have P1 := P0.call hg2 hp2
          have hq1i := hp2.isz
          go_wp2_with fail
          have hin := HCH.out _ (nxt s q bt) P1.l.pa ((nxt_thr s q bt).2.1.trans HOQ.out)
          refine hin.mono ?_
          clear hin
          rintro e w3 ⟨hg3, hr3⟩
          cases hs : sub (nxt s q bt) with
          | error eq =>
            rw [hs] at hr3
            obtain ⟨⟨m0, ma, mk, mc, m2, m3, m4, m5, rfl⟩, q2, hq2, hqq2, hoq2⟩ := hr3
            have HS2 : Hid (partsS s bt sub p = .error eq) := by show _ = _; rw [HS.out, HLY.out, hs]
            have HO2 : Hid (q2.opn = p.opn) := hoq2.trans ((nxt_thr s q bt).2.1.trans HOQ.out)
            clear hs hoq2
            have P2 := P1.call hg3 hq2
            obtain ⟨⟨a0, a1, a2, a3, a4, a5, af⟩, ⟨b0, b1, b2, b3, b4, b5, bf⟩⟩ := P2.l.get6
            have hl1 := heap_lt P2.l.res
            have hl2 := heap_lt P2.l.loc
            unfold fmV
            go_wp2_with fail
            have LD := (P2.l.done6 (.int .i64 sh) (.slice (some ⟨g, 0, none⟩) n cap) (.int .i64 0) (.int .i64 0) (.int .i64 0) (.int .i64 0)).alloc (.cells #[.int .i64 m0, .slice ma mk mc, .int .i64 m2, .int .i64 m3, .int .i64 m4, .int .i64 m5] 97)
            obtain ⟨d0, d1, d2, d3, d4, d5, _⟩ := loc6 LD.res
            exact bodyPost_ret (v := .tuple #[.agg #[.int .i64 sh, .slice (some ⟨g, 0, none⟩) n cap, .int .i64 0, .int .i64 0, .int .i64 0, .int .i64 0], .bool false]) (by simp [results, Tryz.results152, go_sem, d0, d1, d2, d3, d4, d5]) rfl (postF_err _ _ _ _ _ _ _ _ (by rw [HS2.out, hqq2]) LD.g LD.pa HO2.out)
          | ok q2 =>
            rw [hs] at hr3
            obtain ⟨⟨m0, ma, mk, mc, m2, m3, m4, m5, rfl, HF3⟩, hq2, hoq2, hiq2⟩ := hr3
            have HS2 : Hid (loopS s bt sub (s.size + 1) p1 = loopS s bt sub (gk - 1) q2) := by show _ = _; rw [HLY.out, hs]
            have HO2 : Hid (q2.opn = p.opn) := hoq2.trans ((nxt_thr s q bt).2.1.trans HOQ.out)
            clear hs hoq2
            have P2 := P1.call hg3 hq2
            have hq2i := hq2.isz
            have P3 := P2.alloc (.cells #[.int .i64 m0, .slice ma mk mc, .int .i64 m2, .int .i64 m3, .int .i64 m4, .int .i64 m5] 97)
            have P4 := P3.alloc (.cells #[.int .i64 m0, .slice ma mk mc, .int .i64 m2, .int .i64 m3, .int .i64 m4, .int .i64 m5] 97)
            obtain ⟨⟨a0, a1, a2, a3, a4, a5, af⟩, ⟨b0, b1, b2, b3, b4, b5, bf⟩⟩ := P2.l.get6
            have hl1 := heap_lt P2.l.res
            have hl2 := heap_lt P2.l.loc
            unfold fmV
            go_wp2_with (at_builtin; go_must (refine wpList_append_lies _ (by rfl) _ _ 95 (by rfl) (w1.heap.size + 1) 97 i0 _ 6 64 Tryz.underlying95 hi hz0 hz1 hz2 rfl (by decide) (.slice (some ⟨g, 0, none⟩) n cap) n xs (by rfl) P4.own ⟨w3.heap.size + 1, 0, none⟩ 1 1 [.int .i64 m0, .slice ma mk mc, .int .i64 m2, .int .i64 m3, .int .i64 m4, .int .i64 m5] (by rfl) (by rfl) (World.news_of_block (new_at (by simp) _)) (fun u hu => by simp at hu; rcases hu with rfl | rfl | rfl | rfl | rfl | rfl <;> rfl) (by decide) (by unfold maxLen; omega) (by omega) (by simp; omega) (w3.heap.size + 2) (by simp) ?_; intro g4 cap4 w4 hown hgrow hat hlt4; clear a0 a1 a2 a3 a4 a5 af b0 b1 b2 b3 b4 b5 bf; obtain ⟨L5, hgn⟩ := P4.mid hgrow hat (by simp); obtain ⟨⟨a0, a1, a2, a3, a4, a5, af⟩, ⟨b0, b1, b2, b3, b4, b5, bf⟩⟩ := L5.get6))
            have P6 : PL w (w4.setCell ⟨w1.heap.size + 1 + 1, 1, none⟩ (.slice (some ⟨g4, 0, none⟩) (n + 1) cap4)) b s q2 sh w1.heap.size (n + 1) g4 cap4 (xs ++ [.int .i64 m0, .slice ma mk mc, .int .i64 m2, .int .i64 m3, .int .i64 m4, .int .i64 m5]) := ⟨L5.put' 1 _ _ rfl, own_setCell hown _ _ hgn, hgn, hRl⟩
            go_roundg (gk - 1)
            case measure => omega
            case rel =>
              refine ⟨q2, n + 1, g4, cap4, _, P6, by omega, by omega, by omega, ?_, HS2.out.symm, HO2⟩
              obtain ⟨d, u, hF, hR⟩ := HF3.out
              exact HKP.out.round HBT.out HKQ.out hlt (by omega) hgl hCl hg2 hg3 rfl hF hR hgrow hat rfl
        · have HLN : Hid (partsS s bt sub p = .ok q) := by show _ = _; rw [HS.out, ← HSP.out, loop_no s bt sub gk q (by omega) hkq]
          go_wp2_with fail
          refine (pass_no _ b s q bt P0.l.pa hkq).mono ?_
          clear hkq
          rintro e w2 ⟨rfl, rfl⟩
          obtain ⟨⟨a0, a1, a2, a3, a4, a5, af⟩, ⟨b0, b1, b2, b3, b4, b5, bf⟩⟩ := P0.l.get6
          go_wp2_with fail
          have LD := P0.l.done6 (.int .i64 sh) (.slice (some ⟨g, 0, none⟩) n cap) (.int .i64 0) (.int .i64 0) (.int .i64 0) (.int .i64 0)
          obtain ⟨d0, d1, d2, d3, d4, d5, _⟩ := loc6 LD.res
          exact bodyPost_ret (v := .tuple #[.agg #[.int .i64 sh, .slice (some ⟨g, 0, none⟩) n cap, .int .i64 0, .int .i64 0, .int .i64 0, .int .i64 0], .bool true]) (by simp [results, Tryz.results152, go_sem, d0, d1, d2, d3, d4, d5]) rfl (postF_ok _ _ _ _ _ _ _ _ HLN.out LD.g LD.pa HOQ.out hpi (HKP.out.done HBS.out (by omega) ⟨by have := (P0.own.lt g rfl).1; omega, by rw [done_size]; exact (P0.own.lt g rfl).2⟩ (by rw [done_size]; exact Nat.le_refl _) (fun o v ho => by rw [cell_same (done_heap _ _ _ _ _ _ _ _ g (by have := (P0.own.lt g rfl).1; omega)), ← addr_add]; exact P0.own.cells rfl o v ho) (fun x hx => done_heap _ _ _ _ _ _ _ _ x (by have := hx.1; omega))))
    · have hk' : (((tk s p1.i).kind : Int) != bt) = true := by show ((kd s p1 : Int) != bt) = true; simpa using hk
      have HS2 : Hid (partsS s bt sub p = .ok p1) := by show _ = _; rw [HS.out, loopS, if_neg hk]
      clear hk
      go_wp2_with fail
      have LD := (L1a.done6 (.int .i64 n0) (.slice a kk c) (.int .i64 n2) (.int .i64 n3) (.int .i64 n4) (.int .i64 n5)).alloc (.cells #[.int .i64 n0, .slice a kk c, .int .i64 n2, .int .i64 n3, .int .i64 n4, .int .i64 n5] 97)
      obtain ⟨d0, d1, d2, d3, d4, d5, _⟩ := loc6 LD.res
      exact bodyPost_ret (v := .tuple #[.agg #[.int .i64 n0, .slice a kk c, .int .i64 n2, .int .i64 n3, .int .i64 n4, .int .i64 n5], .bool true]) (by simp [results, Tryz.results152, go_sem, d0, d1, d2, d3, d4, d5]) rfl (postF_ok _ _ _ _ _ _ _ _ HS2.out LD.g LD.pa HO1.out hi1 (by obtain ⟨d, t, hF, hR⟩ := HF1.out; exact ⟨d, t, hF.pass _ _ _ _ _ _, hR⟩))

end Go.Proofs.YtmpaeladhoomoaaGreatDoor
