/-
  The program's reader: what a 'not' or a bracket holds.
-/
import Derived.Test.YtmpaeladhoomoaaGreatDoorRdI
namespace Go.Proofs.YtmpaeladhoomoaaGreatDoor
open Go.RowKit

def nestS (s : ByteArray) (sub : PS → Except Nat PS) (p : PS) : Except Nat PS :=
  if p.opn = 6 then .error (pl s p) else
  match sub { p with i := (tk s p.i).end_, opn := p.opn + 1 } with
  | .error q => .error q
  | .ok p2 => .ok { p2 with opn := p2.opn - 1 }

theorem L1.alloc {w0 w : World} {b : Nat} {s : ByteArray} {p : PS} {R : Nat} {t : TypeId} {rs : Array Value} (l : L1 w0 w b s p R t rs) (o : Obj) : L1 w0 (w.alloc o) b s p R t rs :=
  ⟨gb_alloc l.g o, l.pa.alloc o, heap_alloc_at l.res o, l.hR, l.hb⟩
theorem L1.opn {w0 w : World} {b : Nat} {s : ByteArray} {p : PS} {R : Nat} {t : TypeId} {rs : Array Value} (l : L1 w0 w b s p R t rs) (d : Nat) (hd : d ≤ 6) : L1 w0 (w.setCell ⟨b, 7, none⟩ (.int .i64 (d : Nat))) b s { p with opn := d } R t rs :=
  ⟨gb_put l.g _ _, l.pa.setOpn d hd, heap_set_ne l.res _ _ (by simp; have := l.hb; have := l.hR; omega), l.hR, l.hb⟩

theorem nest_heap (w2 : World) (b R : Nat) (v7 r0 r1 r2 r3 r4 r5 : Value) (o1 o2 : Obj) (x : Nat) (hxb : x ≠ b) (hxR : x ≠ R) (hx : x < w2.heap.size) :
    (((((((((w2.setCell ⟨b, 7, none⟩ v7).setCell ⟨R, 0, none⟩ r0).setCell ⟨R, 1, none⟩ r1).setCell ⟨R, 2, none⟩ r2).setCell ⟨R, 3, none⟩ r3).setCell ⟨R, 4, none⟩ r4).setCell ⟨R, 5, none⟩ r5).alloc o1).alloc o2).heap[x]? = w2.heap[x]? := by
  rw [Below.heap_alloc _ _ _ (by simp; omega), Below.heap_alloc _ _ _ (by simp; omega)]
  rw [Below.heap_setCell _ _ _ _ (by simpa using hxR), Below.heap_setCell _ _ _ _ (by simpa using hxR), Below.heap_setCell _ _ _ _ (by simpa using hxR), Below.heap_setCell _ _ _ _ (by simpa using hxR), Below.heap_setCell _ _ _ _ (by simpa using hxR), Below.heap_setCell _ _ _ _ (by simpa using hxR), Below.heap_setCell _ _ _ _ (by simpa using hxb)]
theorem FRep.nest {d : Nat} {w wx w2 wf : World} {cs : List Value} {u : Txt} {sh : Int} {g T : Nat} (hs : 0 ≤ sh ∧ sh ≤ 3) (h : FRep d w2 (newB wx w2) cs u) (h6 : cs.length = 6) (hwx : w.heap.size ≤ wx.heap.size) (hsz : w2.heap.size ≤ wf.heap.size) (hb : ∀ x, newB wx w2 x → wf.heap[x]? = w2.heap[x]?) (hg : newB w wf g) (hblk : wf.heap[g]? = some (.cells cs.toArray T (0, 0))) :
    FRep (d + 1) wf (newB w wf) [.int .i64 sh, .slice (some ⟨g, 0, none⟩) 1 1, .int .i64 0, .int .i64 0, .int .i64 0, .int .i64 0] (shapeT sh [u]) :=
  Or.inr (Or.inr ⟨sh, g, 1, [u], cs, hs.1, hs.2, by simp, by simp, rfl, rfl, hg, fun o v ho => cell_of hblk o v (by simpa using ho), ⟨cs, [], by simp, h6, h.mono (fun x hx => ⟨Nat.le_trans hwx hx.1, Nat.lt_of_lt_of_le hx.2 hsz⟩) hb, rfl⟩⟩)


set_option maxRecDepth 100000 in
set_option maxHeartbeats 1000000 in
theorem nested_part (sub : PS → Except Nat PS) (w : World) (b : Nat) (s : ByteArray) (p : PS) (h : PAt w b s p) (sh : Int) (hsh : 0 ≤ sh ∧ sh ≤ 3)
    (HC : ∀ (wx : World) (q : PS), PAt wx b s q → q.opn = p.opn + 1 → Calls Tryz.prog 204 #[.pointer (some ⟨b, 0, none⟩)] wx fun e w' => PostF wx b s q (sub q) e w') :
    Calls Tryz.prog 233 #[.pointer (some ⟨b, 0, none⟩), .int .i64 sh, .func (Fn.func 204) #[.pointer (some ⟨b, 0, none⟩)] #[]] w fun e w' => PostFT w b s p (fun p' t => ∃ u, t = shapeT sh [u] ∧ Ren s (tk s p.i).end_ p'.i u) (nestS s sub p) e w' := by
  obtain ⟨c0, c1, c2, c3, c4, c5, c6, c7, c8, hf, hlt⟩ := h.get
  have ho6 := h.osz
  by_cases h6 : p.opn = 6
  · have HS : Hid (nestS s sub p = .error (pl s p)) := by show _ = _; unfold nestS; rw [if_pos h6]
    have h6' : ((p.opn : Int) == 6) = true := by rw [h6]; rfl
    go_enter Tryz.func233, Tryz.ntmps233
    go_wp2_with fail
    have LD := L1.start h 97 #[.int .i64 0, .slice none 0 0, .int .i64 0, .int .i64 0, .int .i64 0, .int .i64 0]
    exact bodyPost_ret (v := .tuple #[.agg #[.int .i64 0, .slice none 0 0, .int .i64 0, .int .i64 0, .int .i64 0, .int .i64 0], .bool false]) (by simp [results, Tryz.results233, go_sem]) rfl (postF_err _ _ _ _ _ _ _ _ HS.out LD.g LD.pa rfl)
  · have h6' : ((p.opn : Int) == 6) = false := by rw [beq_eq_false_iff_ne]; omega
    have HS : Hid (nestS s sub p = match sub { p with i := (tk s p.i).end_, opn := p.opn + 1 } with | .error q => .error q | .ok p2 => .ok { p2 with opn := p2.opn - 1 }) := by show _ = _; unfold nestS; rw [if_neg h6]
    have HCH : Hid (∀ (wx : World) (q : PS), PAt wx b s q → q.opn = p.opn + 1 → Calls Tryz.prog 204 #[.pointer (some ⟨b, 0, none⟩)] wx fun e w' => PostF wx b s q (sub q) e w') := HC
    clear HC
    have hbd := tk_bounds s p.i h.isz
    go_enter Tryz.func233, Tryz.ntmps233
    go_wp2_with fail
    have L0 := L1.start h 97 #[.int .i64 0, .slice none 0 0, .int .i64 0, .int .i64 0, .int .i64 0, .int .i64 0]
    refine (advance_any _ b s p L0.pa).mono ?_
    rintro e w1 ⟨rfl, hg1, hp1⟩
    have L1a := L0.call hg1 hp1
    clear c0 c1 c2 c3 c4 c5 c6 c7 c8 hf
    obtain ⟨c0, c1, c2, c3, c4, c5, c6, c7, c8, hf, _⟩ := hp1.get
    simp only at c7
    go_wp2_with fail
    have L1b := L1a.opn (p.opn + 1) (by omega)
    have hin := HCH.out _ _ L1b.pa rfl
    refine hin.mono ?_
    clear hin
    rintro e w2 ⟨hg2, hr2⟩
    cases hs : sub { p with i := (tk s p.i).end_, opn := p.opn + 1 } with
    | error q =>
      simp only at hr2
      rw [hs] at hr2
      obtain ⟨⟨n0, a, kk, c, n2, n3, n4, n5, rfl⟩, p2, hp2, hq2, hop2⟩ := hr2
      have HS2 : Hid (nestS s sub p = .error q) := by show _ = _; rw [HS.out, hs]
      clear hs
      have L2a := L1b.call hg2 hp2
      clear c0 c1 c2 c3 c4 c5 c6 c7 c8 hf
      obtain ⟨c0, c1, c2, c3, c4, c5, c6, c7, c8, hf, _⟩ := hp2.get
      have ho2 : p2.opn = p.opn + 1 := hop2
      rw [ho2] at c7
      have HO2 : Hid (p2.opn = p.opn + 1) := ho2
      clear ho2 hop2
      obtain ⟨b0, b1, b2, b3, b4, b5, bf⟩ := loc6 L2a.res
      have hRl := heap_lt L2a.res
      unfold fmV
      go_wp2_with fail
      have LD := (((L2a.opn p.opn ho6).done6 (.int .i64 sh) (.slice (some ⟨w2.heap.size + 1, 0, none⟩) 1 1) (.int .i64 0) (.int .i64 0) (.int .i64 0) (.int .i64 0)).alloc (.cells #[.int .i64 n0, .slice a kk c, .int .i64 n2, .int .i64 n3, .int .i64 n4, .int .i64 n5] 97)).alloc (.cells #[.int .i64 n0, .slice a kk c, .int .i64 n2, .int .i64 n3, .int .i64 n4, .int .i64 n5] 97)
      obtain ⟨d0, d1, d2, d3, d4, d5, _⟩ := loc6 LD.res
      exact bodyPost_ret (v := .tuple #[.agg #[.int .i64 sh, .slice (some ⟨w2.heap.size + 1, 0, none⟩) 1 1, .int .i64 0, .int .i64 0, .int .i64 0, .int .i64 0], .bool false]) (by simp [results, Tryz.results233, go_sem, d0, d1, d2, d3, d4, d5]) rfl (postF_err _ _ _ _ _ _ _ _ (by rw [HS2.out, ← hq2]; rfl) LD.g LD.pa rfl)
    | ok p2 =>
      simp only at hr2
      rw [hs] at hr2
      obtain ⟨⟨n0, a, kk, c, n2, n3, n4, n5, rfl, hF2⟩, hp2, hop2, hi2⟩ := hr2
      have HS2 : Hid (nestS s sub p = .ok { p2 with opn := p2.opn - 1 }) := by show _ = _; rw [HS.out, hs]
      clear hs
      have hs2 := hg2.size
      have hs1 := hg1.size
      simp only [size_set, World.size_alloc] at hs1 hs2
      have L2a := L1b.call hg2 hp2
      clear c0 c1 c2 c3 c4 c5 c6 c7 c8 hf
      obtain ⟨c0, c1, c2, c3, c4, c5, c6, c7, c8, hf, _⟩ := hp2.get
      have ho2 : p2.opn = p.opn + 1 := hop2
      rw [ho2] at c7
      have HO2 : Hid (p2.opn = p.opn + 1) := ho2
      have HI2 : Hid (p.i ≤ p2.i) := by show p.i ≤ p2.i; have : (tk s p.i).end_ ≤ p2.i := hi2; omega
      clear ho2 hop2 hi2
      obtain ⟨b0, b1, b2, b3, b4, b5, bf⟩ := loc6 L2a.res
      have hRl := heap_lt L2a.res
      unfold fmV
      go_wp2_with fail
      have LD := (((L2a.opn p.opn ho6).done6 (.int .i64 sh) (.slice (some ⟨w2.heap.size + 1, 0, none⟩) 1 1) (.int .i64 0) (.int .i64 0) (.int .i64 0) (.int .i64 0)).alloc (.cells #[.int .i64 n0, .slice a kk c, .int .i64 n2, .int .i64 n3, .int .i64 n4, .int .i64 n5] 97)).alloc (.cells #[.int .i64 n0, .slice a kk c, .int .i64 n2, .int .i64 n3, .int .i64 n4, .int .i64 n5] 97)
      obtain ⟨d0, d1, d2, d3, d4, d5, _⟩ := loc6 LD.res
      exact bodyPost_ret (v := .tuple #[.agg #[.int .i64 sh, .slice (some ⟨w2.heap.size + 1, 0, none⟩) 1 1, .int .i64 0, .int .i64 0, .int .i64 0, .int .i64 0], .bool true]) (by simp [results, Tryz.results233, go_sem, d0, d1, d2, d3, d4, d5]) rfl (postF_ok _ _ _ _ _ _ _ _ (by rw [HS2.out, HO2.out]; rfl) LD.g LD.pa rfl HI2.out (by obtain ⟨d, u, hu, hr⟩ := hF2.out; exact ⟨d + 1, _, FRep.nest hsh hu rfl (by simp; omega) (by simp; omega) (fun x hx => nest_heap _ _ _ _ _ _ _ _ _ _ _ _ x (by have := hx.1; simp at this; omega) (by have := hx.1; simp at this; omega) hx.2) ⟨by omega, by simp⟩ (new_at (by simp) _), u, rfl, hr⟩))


set_option maxRecDepth 100000 in
set_option maxHeartbeats 1000000 in
theorem nested_formula (sub : PS → Except Nat PS) (w : World) (b : Nat) (s : ByteArray) (p : PS) (h : PAt w b s p) (sh : Int) (hsh : 0 ≤ sh ∧ sh ≤ 3)
    (HC : ∀ (wx : World) (q : PS), PAt wx b s q → q.opn = p.opn + 1 → Calls Tryz.prog 93 #[.pointer (some ⟨b, 0, none⟩)] wx fun e w' => PostF wx b s q (sub q) e w') :
    Calls Tryz.prog 233 #[.pointer (some ⟨b, 0, none⟩), .int .i64 sh, .func (Fn.func 93) #[.pointer (some ⟨b, 0, none⟩)] #[]] w fun e w' => PostFT w b s p (fun p' t => ∃ u, t = shapeT sh [u] ∧ Ren s (tk s p.i).end_ p'.i u) (nestS s sub p) e w' := by
  obtain ⟨c0, c1, c2, c3, c4, c5, c6, c7, c8, hf, hlt⟩ := h.get
  have ho6 := h.osz
  by_cases h6 : p.opn = 6
  · have HS : Hid (nestS s sub p = .error (pl s p)) := by show _ = _; unfold nestS; rw [if_pos h6]
    have h6' : ((p.opn : Int) == 6) = true := by rw [h6]; rfl
    go_enter Tryz.func233, Tryz.ntmps233
    go_wp2_with fail
    have LD := L1.start h 97 #[.int .i64 0, .slice none 0 0, .int .i64 0, .int .i64 0, .int .i64 0, .int .i64 0]
    exact bodyPost_ret (v := .tuple #[.agg #[.int .i64 0, .slice none 0 0, .int .i64 0, .int .i64 0, .int .i64 0, .int .i64 0], .bool false]) (by simp [results, Tryz.results233, go_sem]) rfl (postF_err _ _ _ _ _ _ _ _ HS.out LD.g LD.pa rfl)
  · have h6' : ((p.opn : Int) == 6) = false := by rw [beq_eq_false_iff_ne]; omega
    have HS : Hid (nestS s sub p = match sub { p with i := (tk s p.i).end_, opn := p.opn + 1 } with | .error q => .error q | .ok p2 => .ok { p2 with opn := p2.opn - 1 }) := by show _ = _; unfold nestS; rw [if_neg h6]
    have HCH : Hid (∀ (wx : World) (q : PS), PAt wx b s q → q.opn = p.opn + 1 → Calls Tryz.prog 93 #[.pointer (some ⟨b, 0, none⟩)] wx fun e w' => PostF wx b s q (sub q) e w') := HC
    clear HC
    have hbd := tk_bounds s p.i h.isz
    go_enter Tryz.func233, Tryz.ntmps233
    go_wp2_with fail
    have L0 := L1.start h 97 #[.int .i64 0, .slice none 0 0, .int .i64 0, .int .i64 0, .int .i64 0, .int .i64 0]
    refine (advance_any _ b s p L0.pa).mono ?_
    rintro e w1 ⟨rfl, hg1, hp1⟩
    have L1a := L0.call hg1 hp1
    clear c0 c1 c2 c3 c4 c5 c6 c7 c8 hf
    obtain ⟨c0, c1, c2, c3, c4, c5, c6, c7, c8, hf, _⟩ := hp1.get
    simp only at c7
    go_wp2_with fail
    have L1b := L1a.opn (p.opn + 1) (by omega)
    have hin := HCH.out _ _ L1b.pa rfl
    refine hin.mono ?_
    clear hin
    rintro e w2 ⟨hg2, hr2⟩
    cases hs : sub { p with i := (tk s p.i).end_, opn := p.opn + 1 } with
    | error q =>
      simp only at hr2
      rw [hs] at hr2
      obtain ⟨⟨n0, a, kk, c, n2, n3, n4, n5, rfl⟩, p2, hp2, hq2, hop2⟩ := hr2
      have HS2 : Hid (nestS s sub p = .error q) := by show _ = _; rw [HS.out, hs]
      clear hs
      have L2a := L1b.call hg2 hp2
      clear c0 c1 c2 c3 c4 c5 c6 c7 c8 hf
      obtain ⟨c0, c1, c2, c3, c4, c5, c6, c7, c8, hf, _⟩ := hp2.get
      have ho2 : p2.opn = p.opn + 1 := hop2
      rw [ho2] at c7
      have HO2 : Hid (p2.opn = p.opn + 1) := ho2
      clear ho2 hop2
      obtain ⟨b0, b1, b2, b3, b4, b5, bf⟩ := loc6 L2a.res
      have hRl := heap_lt L2a.res
      unfold fmV
      go_wp2_with fail
      have LD := (((L2a.opn p.opn ho6).done6 (.int .i64 sh) (.slice (some ⟨w2.heap.size + 1, 0, none⟩) 1 1) (.int .i64 0) (.int .i64 0) (.int .i64 0) (.int .i64 0)).alloc (.cells #[.int .i64 n0, .slice a kk c, .int .i64 n2, .int .i64 n3, .int .i64 n4, .int .i64 n5] 97)).alloc (.cells #[.int .i64 n0, .slice a kk c, .int .i64 n2, .int .i64 n3, .int .i64 n4, .int .i64 n5] 97)
      obtain ⟨d0, d1, d2, d3, d4, d5, _⟩ := loc6 LD.res
      exact bodyPost_ret (v := .tuple #[.agg #[.int .i64 sh, .slice (some ⟨w2.heap.size + 1, 0, none⟩) 1 1, .int .i64 0, .int .i64 0, .int .i64 0, .int .i64 0], .bool false]) (by simp [results, Tryz.results233, go_sem, d0, d1, d2, d3, d4, d5]) rfl (postF_err _ _ _ _ _ _ _ _ (by rw [HS2.out, ← hq2]; rfl) LD.g LD.pa rfl)
    | ok p2 =>
      simp only at hr2
      rw [hs] at hr2
      obtain ⟨⟨n0, a, kk, c, n2, n3, n4, n5, rfl, hF2⟩, hp2, hop2, hi2⟩ := hr2
      have HS2 : Hid (nestS s sub p = .ok { p2 with opn := p2.opn - 1 }) := by show _ = _; rw [HS.out, hs]
      clear hs
      have hs2 := hg2.size
      have hs1 := hg1.size
      simp only [size_set, World.size_alloc] at hs1 hs2
      have L2a := L1b.call hg2 hp2
      clear c0 c1 c2 c3 c4 c5 c6 c7 c8 hf
      obtain ⟨c0, c1, c2, c3, c4, c5, c6, c7, c8, hf, _⟩ := hp2.get
      have ho2 : p2.opn = p.opn + 1 := hop2
      rw [ho2] at c7
      have HO2 : Hid (p2.opn = p.opn + 1) := ho2
      have HI2 : Hid (p.i ≤ p2.i) := by show p.i ≤ p2.i; have : (tk s p.i).end_ ≤ p2.i := hi2; omega
      clear ho2 hop2 hi2
      obtain ⟨b0, b1, b2, b3, b4, b5, bf⟩ := loc6 L2a.res
      have hRl := heap_lt L2a.res
      unfold fmV
      go_wp2_with fail
      have LD := (((L2a.opn p.opn ho6).done6 (.int .i64 sh) (.slice (some ⟨w2.heap.size + 1, 0, none⟩) 1 1) (.int .i64 0) (.int .i64 0) (.int .i64 0) (.int .i64 0)).alloc (.cells #[.int .i64 n0, .slice a kk c, .int .i64 n2, .int .i64 n3, .int .i64 n4, .int .i64 n5] 97)).alloc (.cells #[.int .i64 n0, .slice a kk c, .int .i64 n2, .int .i64 n3, .int .i64 n4, .int .i64 n5] 97)
      obtain ⟨d0, d1, d2, d3, d4, d5, _⟩ := loc6 LD.res
      exact bodyPost_ret (v := .tuple #[.agg #[.int .i64 sh, .slice (some ⟨w2.heap.size + 1, 0, none⟩) 1 1, .int .i64 0, .int .i64 0, .int .i64 0, .int .i64 0], .bool true]) (by simp [results, Tryz.results233, go_sem, d0, d1, d2, d3, d4, d5]) rfl (postF_ok _ _ _ _ _ _ _ _ (by rw [HS2.out, HO2.out]; rfl) LD.g LD.pa rfl HI2.out (by obtain ⟨d, u, hu, hr⟩ := hF2.out; exact ⟨d + 1, _, FRep.nest hsh hu rfl (by simp; omega) (by simp; omega) (fun x hx => nest_heap _ _ _ _ _ _ _ _ _ _ _ _ x (by have := hx.1; simp at this; omega) (by have := hx.1; simp at this; omega) hx.2) ⟨by omega, by simp⟩ (new_at (by simp) _), u, rfl, hr⟩))

end Go.Proofs.YtmpaeladhoomoaaGreatDoor
