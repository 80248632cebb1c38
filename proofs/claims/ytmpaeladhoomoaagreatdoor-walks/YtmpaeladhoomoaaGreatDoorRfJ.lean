/-
  The document's answer: a 'not', a bracket.
-/
import Derived.Test.YtmpaeladhoomoaaGreatDoorRfI
namespace Go.Proofs.YtmpaeladhoomoaaGreatDoor
open Go.RowKit

/-- A reader of the document's in mid-call, with a result's block alone. -/
structure N1 (w0 : World) (tv0 : Value) (w : World) (b : Nat) (s : ByteArray) (q : Q) (tv : Value) (R : Nat) (t : TypeId) (rs : Array Value) : Prop where
  fr : FR b tv0 w0 tv w
  at_ : QAt w b s q tv
  res : w.heap[R]? = some (.cells rs t (0, 0))
  hR : w0.heap.size ≤ R
  hb : b < w0.heap.size
  nR : tv.ownBlock ≠ some R
theorem N1.start {w : World} {b : Nat} {s : ByteArray} {q : Q} {tv : Value} (h : QAt w b s q tv) (t : TypeId) (rs : Array Value) : N1 w tv (w.alloc (.cells rs t (0, 0))) b s q tv w.heap.size t rs :=
  ⟨(FR.refl _ _ _).alloc _, h.alloc _, heap_alloc_new w _, Nat.le_refl _, heap_lt h.blk, h.rowlt _ (Nat.le_refl _)⟩
theorem N1.call {w0 w w' : World} {tv0 tv tv' : Value} {b : Nat} {s : ByteArray} {q q' : Q} {R : Nat} {t : TypeId} {rs : Array Value} (l : N1 w0 tv0 w b s q tv R t rs) (hf : FR b tv w tv' w') (hq : QAt w' b s q' tv') : N1 w0 tv0 w' b s q' tv' R t rs :=
  ⟨l.fr.trans hf, hq, hf.heap l.res (by have := l.hb; have := l.hR; omega) l.nR, l.hR, l.hb, hf.apart (heap_lt l.res) l.nR⟩
theorem N1.alloc {w0 w : World} {tv0 tv : Value} {b : Nat} {s : ByteArray} {q : Q} {R : Nat} {t : TypeId} {rs : Array Value} (l : N1 w0 tv0 w b s q tv R t rs) (o : Obj) : N1 w0 tv0 (w.alloc o) b s q tv R t rs :=
  ⟨l.fr.alloc o, l.at_.alloc o, heap_alloc_at l.res o, l.hR, l.hb, l.nR⟩
theorem N1.opn {w0 w : World} {tv0 tv : Value} {b : Nat} {s : ByteArray} {q : Q} {R : Nat} {t : TypeId} {rs : Array Value} (l : N1 w0 tv0 w b s q tv R t rs) (d : Int) (h1 : -100 ≤ d) (h2 : d ≤ 100) : N1 w0 tv0 (w.setCell ⟨b, 7, none⟩ (.int .i64 d)) b s { q with opn := d } tv R t rs :=
  ⟨l.fr.put _ _, l.at_.setOpn d h1 h2, heap_set_ne l.res _ _ (by simp; have := l.hb; have := l.hR; omega), l.hR, l.hb, l.nR⟩
theorem N1.local {w0 w : World} {tv0 tv : Value} {b : Nat} {s : ByteArray} {q : Q} {R : Nat} {t : TypeId} {rs : Array Value} (l : N1 w0 tv0 w b s q tv R t rs) (cs : Array Value) : M2 w0 tv0 (w.alloc (.cells cs t (0, 0))) b s q tv R w.heap.size t rs cs :=
  ⟨l.fr.alloc _, l.at_.alloc _, heap_alloc_at l.res _, heap_alloc_new w _, l.hR, l.fr.size, l.hb, by have := heap_lt l.res; omega, l.nR, l.at_.rowlt _ (Nat.le_refl _)⟩
theorem M2.opn {w0 w : World} {tv0 tv : Value} {b : Nat} {s : ByteArray} {q : Q} {R C : Nat} {t : TypeId} {rs cs : Array Value} (l : M2 w0 tv0 w b s q tv R C t rs cs) (d : Int) (h1 : -100 ≤ d) (h2 : d ≤ 100) : M2 w0 tv0 (w.setCell ⟨b, 7, none⟩ (.int .i64 d)) b s { q with opn := d } tv R C t rs cs :=
  ⟨l.fr.put _ _, l.at_.setOpn d h1 h2, heap_set_ne l.res _ _ (by simp; have := l.hb; have := l.hR; omega), heap_set_ne l.loc _ _ (by simp; have := l.hb; have := l.hC; omega), l.hR, l.hC, l.hb, l.hne, l.nR, l.nC⟩
theorem M2.alloc {w0 w : World} {tv0 tv : Value} {b : Nat} {s : ByteArray} {q : Q} {R C : Nat} {t : TypeId} {rs cs : Array Value} (l : M2 w0 tv0 w b s q tv R C t rs cs) (o : Obj) : M2 w0 tv0 (w.alloc o) b s q tv R C t rs cs :=
  ⟨l.fr.alloc o, l.at_.alloc o, heap_alloc_at l.res o, heap_alloc_at l.loc o, l.hR, l.hC, l.hb, l.hne, l.nR, l.nC⟩
theorem M2.put6 {w0 w : World} {tv0 tv : Value} {b : Nat} {s : ByteArray} {q : Q} {R C : Nat} {t : TypeId} {rs : Array Value} {r0 r1 r2 r3 r4 r5 : Value} (l : M2 w0 tv0 w b s q tv R C t rs #[r0, r1, r2, r3, r4, r5]) (v0 v1 v2 v3 v4 v5 : Value) :
    M2 w0 tv0 ((((((w.setCell ⟨C, 0, none⟩ v0).setCell ⟨C, 1, none⟩ v1).setCell ⟨C, 2, none⟩ v2).setCell ⟨C, 3, none⟩ v3).setCell ⟨C, 4, none⟩ v4).setCell ⟨C, 5, none⟩ v5) b s q tv R C t rs #[v0, v1, v2, v3, v4, v5] :=
  (((((l.put' 0 v0 #[v0, r1, r2, r3, r4, r5] rfl).put' 1 v1 #[v0, v1, r2, r3, r4, r5] rfl).put' 2 v2 #[v0, v1, v2, r3, r4, r5] rfl).put' 3 v3 #[v0, v1, v2, v3, r4, r5] rfl).put' 4 v4 #[v0, v1, v2, v3, v4, r5] rfl).put' 5 v5 _ rfl
/-- Six stores into one block turn no other. -/
theorem put6_other (w : World) (C k : Nat) (hk : k ≠ C) (v0 v1 v2 v3 v4 v5 : Value) : ((((((w.setCell ⟨C, 0, none⟩ v0).setCell ⟨C, 1, none⟩ v1).setCell ⟨C, 2, none⟩ v2).setCell ⟨C, 3, none⟩ v3).setCell ⟨C, 4, none⟩ v4).setCell ⟨C, 5, none⟩ v5).heap[k]? = w.heap[k]? := by
  rw [Below.heap_setCell _ _ _ _ (by simpa using hk), Below.heap_setCell _ _ _ _ (by simpa using hk), Below.heap_setCell _ _ _ _ (by simpa using hk), Below.heap_setCell _ _ _ _ (by simpa using hk), Below.heap_setCell _ _ _ _ (by simpa using hk), Below.heap_setCell _ _ _ _ (by simpa using hk)]
theorem put6_size (w : World) (C : Nat) (v0 v1 v2 v3 v4 v5 : Value) : ((((((w.setCell ⟨C, 0, none⟩ v0).setCell ⟨C, 1, none⟩ v1).setCell ⟨C, 2, none⟩ v2).setCell ⟨C, 3, none⟩ v3).setCell ⟨C, 4, none⟩ v4).setCell ⟨C, 5, none⟩ v5).heap.size = w.heap.size := by simp [World.setCell]
theorem TRep.fr {d b B X : Nat} {w w' : World} {tv tv' : Value} {cs : List Value} {l : TM} (h : TRep d w (okT B w tv X) cs l) (hb : b < B) (hf : FR b tv w tv' w') : TRep d w' (okT B w' tv' X) cs l :=
  h.mono (fun _ hg => ⟨hg.1, Nat.lt_of_lt_of_le hg.2.1 hf.size, hf.apart hg.2.1 hg.2.2.1, hg.2.2.2⟩) (fun g _ hg hh => (hf.block g hg.2.1 (by have := hg.1; omega) hg.2.2.1).trans hh)

theorem TRep.keep {d H2 X H X' : Nat} {w3 Wf : World} {tv : Value} {cs : List Value} {l : TM} (h : TRep d w3 (okT H2 w3 tv X) cs l) (hk : ∀ g, H2 ≤ g → g < w3.heap.size → g ≠ X → Wf.heap[g]? = w3.heap[g]?) (hs : w3.heap.size ≤ Wf.heap.size) (hH : H ≤ H2) (hX : ∀ g, H2 ≤ g → g < w3.heap.size → g ≠ X → g ≠ X') : TRep d Wf (okT H Wf tv X') cs l :=
  h.mono (fun g hg => ⟨Nat.le_trans hH hg.1, Nat.lt_of_lt_of_le hg.2.1 hs, hg.2.2.1, hX g hg.1 hg.2.1 hg.2.2.2⟩) (fun g _ hg hh => (hk g hg.1 hg.2.1 hg.2.2.2).trans hh)
theorem set_other (w : World) (b o k : Nat) (v : Value) (hk : k ≠ b) : (w.setCell ⟨b, o, none⟩ v).heap[k]? = w.heap[k]? := Below.heap_setCell _ _ _ _ hk
def openQ (s : ByteArray) (q : Q) : Q := takeQ s { (if q.opn = 6 then failQ s q else q) with opn := q.opn + 1 }
def shutQ (q : Q) : Q := { q with opn := q.opn - 1 }
theorem shut_at {w : World} {b : Nat} {s : ByteArray} {q : Q} {tv : Value} {d : Int} (h : QAt w b s { q with opn := d } tv) (e : d = q.opn - 1) : QAt w b s (shutQ q) tv := by subst e; exact h
def preQ (n : Nat) (q : Q) : Prop := 0 ≤ q.opn ∧ q.opn ≤ 7 ∧ 1 ≤ n ∧ (q.bad < 0 → q.opn ≤ 6 ∧ 8 ≤ q.opn + n)
theorem openQ_pre (s : ByteArray) (q : Q) (n : Nat) (h : preQ (n + 1) q) (hb : q.bad < 0) (hj : q.j ≤ s.size) : preQ n (openQ s q) ∧ (openQ s q).opn = q.opn + 1 ∧ q.j ≤ (openQ s q).j := by
  obtain ⟨h1, h2, h3, h4⟩ := h
  obtain ⟨h5, h6⟩ := h4 hb
  have ho := takeQ_o s { (if q.opn = 6 then failQ s q else q) with opn := q.opn + 1 } (by show (if q.opn = 6 then failQ s q else q).j ≤ s.size; split; rw [(failQ_o s q).2]; exact hj; exact hj)
  have hjj : ({ (if q.opn = 6 then failQ s q else q) with opn := q.opn + 1 } : Q).j = q.j := by show (if q.opn = 6 then failQ s q else q).j = q.j; split; exact (failQ_o s q).2; rfl
  refine ⟨⟨?_, ?_, by omega, fun hb2 => ?_⟩, ho.1, by unfold openQ; omega⟩
  · unfold openQ; rw [ho.1]; show (0 : Int) ≤ q.opn + 1; omega
  · unfold openQ; rw [ho.1]; show q.opn + 1 ≤ 7; omega
  · have h7 := takeQ_good hb2
    have h8 : ¬ q.opn = 6 := by
      intro e
      have h9 : (if q.opn = 6 then failQ s q else q).bad < 0 := h7
      rw [if_pos e] at h9
      have := failQ_bad s q
      omega
    unfold openQ; rw [ho.1]
    show q.opn + 1 ≤ 6 ∧ 8 ≤ q.opn + 1 + (n : Int)
    omega
theorem isQ_bad {s : ByteArray} {q : Q} {c : Nat} (h : isQ s q c = true) : q.bad < 0 ∧ qk s q = c := by
  unfold isQ at h; simpa using h

set_option maxRecDepth 100000 in
set_option maxHeartbeats 4000000 in
theorem not_any (n : Nat) (sub : Q → TM × Q) (w : World) (b : Nat) (s : ByteArray) (q : Q) (tv : Value) (h : QAt w b s q tv) (hpre : preQ (n + 1) q) (h14 : isQ s q 14 = true)
    (HC : ∀ (wx : World) (tx : Value) (qx : Q), QAt wx b s qx tx → preQ n qx → Calls Tryz.prog 108 #[.pointer (some ⟨b, 0, none⟩), .int .i64 2] wx fun e w' => PostQ wx tx b s qx (sub qx) e w') :
    Calls Tryz.prog 108 #[.pointer (some ⟨b, 0, none⟩), .int .i64 2] w fun e w' => PostQ w tv b s q ((sub (openQ s q)).1.no, shutQ (sub (openQ s q)).2) e w' := by
  have hbk := isQ_bad h14
  have hjs := h.jsz
  have hop := openQ_pre s q n hpre hbk.1 hjs
  have HIS : Hid (isQ s q 14 = true) := h14
  have HPRE : Hid (_ ∧ _) := hop
  have HBK : Hid (q.bad < 0) := hbk.1
  have HOPN : Hid (0 ≤ q.opn ∧ q.opn ≤ 6) := ⟨hpre.1, (hpre.2.2.2 hbk.1).1⟩
  have HCH : Hid (∀ (wx : World) (tx : Value) (qx : Q), QAt wx b s qx tx → preQ n qx → Calls Tryz.prog 108 #[.pointer (some ⟨b, 0, none⟩), .int .i64 2] wx fun e w' => PostQ wx tx b s qx (sub qx) e w') := HC
  clear h14 hbk hop hpre HC
  have N0 := N1.start h 146 #[.string ⟨#[]⟩, .int .i64 0, .int .i64 0, .int .i64 0, .int .i64 0, .slice none 0 0]
  have ho1 : 0 ≤ q.opn := HOPN.out.1
  have ho2 : q.opn ≤ 6 := HOPN.out.2
  obtain ⟨c0, c1, c2, c3, c4, c5, c6, c7, hf, hlt⟩ := h.get
  by_cases h6 : q.opn = 6
  · have h6b : (q.opn == 6) = true := by rw [beq_iff_eq]; exact h6
    have HOQ : Hid (openQ s q = takeQ s { failQ s q with opn := q.opn + 1 }) := by show _ = _; unfold openQ; rw [if_pos h6]
    clear h6
    go_enter Tryz.func108, Tryz.ntmps108
    go_wp2_with fail
    refine (is_any _ b s q tv N0.at_ 14 (by omega) (by omega) ⟨#[110, 111, 116]⟩ rfl).mono ?_
    rintro e wx ⟨rfl, rfl⟩
    rw [HIS.out]
    go_wp2_with fail
    refine (is_any _ b s q tv N0.at_ 19 (by omega) (by omega) ⟨#[40]⟩ rfl).mono ?_
    rintro e wx ⟨rfl, rfl⟩
    go_wp2_with fail
    refine (fail_any _ b s q tv N0.at_).mono ?_
    rintro e w1 ⟨rfl, hf1, hq1⟩
    have N1a := N0.call hf1 hq1
    clear c0 c1 c2 c3 c4 c5 c6 c7 hf
    obtain ⟨c0, c1, c2, c3, c4, c5, c6, c7, hf, _⟩ := hq1.get
    rw [(failQ_o s q).1] at c7
    go_wp2_with fail
    have N1b := N1a.opn (q.opn + 1) (by omega) (by omega)
    refine (rtake_any _ b s _ tv N1b.at_).mono ?_
    rintro e w2 ⟨rfl, tv2, hf2, hq2⟩
    rw [← HOQ.out] at hq2
    have N2 := N1b.call hf2 hq2
    have M0 := N2.local #[.string ⟨#[]⟩, .int .i64 0, .int .i64 0, .int .i64 0, .int .i64 0, .slice none 0 0]
    clear c0 c1 c2 c3 c4 c5 c6 c7 hf
    go_wp2_with fail
    refine (HCH.out _ _ _ M0.at_ HPRE.out.1).mono ?_
    rintro e w3 ⟨tv3, d, cs, rfl, hf3, hq3, ht3, ho3, hj3, _⟩
    obtain ⟨op, a, bb, nn, at_, sa, k, c, rfl⟩ := ht3.form
    have M1 := M0.call hf3 hq3
    obtain ⟨⟨a0, a1, a2, a3, a4, a5, af⟩, ⟨b0, b1, b2, b3, b4, b5, bf⟩⟩ := M1.get6
    have hRl := heap_lt M1.res
    have hCl := heap_lt M1.loc
    have hsz3 := hf3.size
    rw [World.size_alloc] at hsz3 ht3
    have HO3 : Hid ((sub (openQ s q)).2.opn = q.opn + 1) := ho3.trans HPRE.out.2.1
    have HJ3 : Hid (q.j ≤ (sub (openQ s q)).2.j) := Nat.le_trans HPRE.out.2.2 hj3
    clear ho3 hj3
    have HTR : Hid (TRep _ _ _ _ _) := ht3
    clear ht3
    have hRC := heap_lt N2.res
    have hbC := heap_lt N2.at_.blk
    have hne1 : ¬ w2.heap.size = b := by omega
    have hne2 : ¬ w2.heap.size = w.heap.size := by omega
    have hne3 : ¬ b = w2.heap.size := by omega
    unfold trC
    obtain ⟨c0, c1, c2, c3, c4, c5, c6, c7, hf, _⟩ := hq3.get
    rw [HO3.out] at c7
    go_wp2_with fail
    have LD := (((M1.put6 (.string ⟨#[110, 111, 116]⟩) (.int .i64 0) (.int .i64 0) (.int .i64 0) (.int .i64 0) (.slice (some ⟨w3.heap.size + 1, 0, none⟩) 1 1)).opn q.opn (by omega) (by omega)).done6 (.string ⟨#[110, 111, 116]⟩) (.int .i64 0) (.int .i64 0) (.int .i64 0) (.int .i64 0) (.slice (some ⟨w3.heap.size + 1, 0, none⟩) 1 1)).alloc (.cells #[.string op, .int .i64 a, .int .i64 bb, .int .i64 nn, .int .i64 at_, .slice sa k c] 146)
    have LE := LD.alloc (.cells #[.string op, .int .i64 a, .int .i64 bb, .int .i64 nn, .int .i64 at_, .slice sa k c] 146)
    obtain ⟨d0, d1, d2, d3, d4, d5, _⟩ := loc6 LE.res
    have hszf : ∀ (x : World), x.heap.size = w3.heap.size → ((x.alloc (.cells #[.string op, .int .i64 a, .int .i64 bb, .int .i64 nn, .int .i64 at_, .slice sa k c] 146)).alloc (.cells #[.string op, .int .i64 a, .int .i64 bb, .int .i64 nn, .int .i64 at_, .slice sa k c] 146)).heap.size = w3.heap.size + 1 + 1 := fun x hx => by simp [hx]
    refine bodyPost_ret (v := .agg #[.string ⟨#[110, 111, 116]⟩, .int .i64 0, .int .i64 0, .int .i64 0, .int .i64 0, .slice (some ⟨w3.heap.size + 1, 0, none⟩) 1 1]) (by simp [results, Tryz.results108, go_sem, d0, d1, d2, d3, d4, d5]) rfl ⟨tv3, d + 1, trC ⟨#[110, 111, 116]⟩ 0 0 0 0 (.slice (some ⟨w3.heap.size + 1, 0, none⟩) 1 1), rfl, LE.fr, shut_at LE.at_ (by rw [HO3.out]; omega), Or.inr (Or.inr (Or.inl ⟨⟨#[110, 111, 116]⟩, w3.heap.size + 1, _, _, by simp [ByteArray.toList_eq], ⟨by omega, ?_, hq3.rowlt _ (by omega), by omega⟩, new_at ?_ _, rfl, HTR.out.keep (fun g h1 h2 _ => ?_) ?_ (by omega) (fun g h1 _ _ => by omega), rfl⟩)), by show (sub (openQ s q)).2.opn - 1 = q.opn; rw [HO3.out]; omega, HJ3.out, fun hb => absurd HBK.out (by omega)⟩
    · rw [World.size_alloc, World.size_alloc, put6_size, size_set, put6_size]; omega
    · rw [World.size_alloc, put6_size, size_set, put6_size]
    · rw [Below.heap_alloc _ _ _ (by rw [World.size_alloc, put6_size, size_set, put6_size]; omega), Below.heap_alloc _ _ _ (by rw [put6_size, size_set, put6_size]; omega)]
      exact (put6_other _ w.heap.size g (by omega) _ _ _ _ _ _).trans ((set_other _ b 7 g _ (by omega)).trans (put6_other w3 w2.heap.size g (by omega) _ _ _ _ _ _))
    · rw [World.size_alloc, World.size_alloc, put6_size, size_set, put6_size]; omega
  · have h6b : (q.opn == 6) = false := by rw [beq_eq_false_iff_ne]; exact h6
    have HOQ : Hid (openQ s q = takeQ s { q with opn := q.opn + 1 }) := by show _ = _; unfold openQ; rw [if_neg h6]
    clear h6
    go_enter Tryz.func108, Tryz.ntmps108
    go_wp2_with fail
    refine (is_any _ b s q tv N0.at_ 14 (by omega) (by omega) ⟨#[110, 111, 116]⟩ rfl).mono ?_
    rintro e wx ⟨rfl, rfl⟩
    rw [HIS.out]
    go_wp2_with fail
    refine (is_any _ b s q tv N0.at_ 19 (by omega) (by omega) ⟨#[40]⟩ rfl).mono ?_
    rintro e wx ⟨rfl, rfl⟩
    go_wp2_with fail
    have hN := N0.res
    have N1b : N1 w tv ((w.setCell ⟨b, 7, none⟩ (.int .i64 (q.opn + 1))).alloc (.cells #[.string ⟨#[]⟩, .int .i64 0, .int .i64 0, .int .i64 0, .int .i64 0, .slice none 0 0] 146)) b s { q with opn := q.opn + 1 } tv w.heap.size 146 #[.string ⟨#[]⟩, .int .i64 0, .int .i64 0, .int .i64 0, .int .i64 0, .slice none 0 0] := ⟨((FR.refl _ _ _).put _ _).alloc _, (h.setOpn _ (by omega) (by omega)).alloc _, new_at (size_set _ _ _) _, Nat.le_refl _, hlt, N0.nR⟩
    refine (rtake_any _ b s _ tv N1b.at_).mono ?_
    rintro e w2 ⟨rfl, tv2, hf2, hq2⟩
    rw [← HOQ.out] at hq2
    have N2 := N1b.call hf2 hq2
    have M0 := N2.local #[.string ⟨#[]⟩, .int .i64 0, .int .i64 0, .int .i64 0, .int .i64 0, .slice none 0 0]
    clear c0 c1 c2 c3 c4 c5 c6 c7 hf
    go_wp2_with fail
    refine (HCH.out _ _ _ M0.at_ HPRE.out.1).mono ?_
    rintro e w3 ⟨tv3, d, cs, rfl, hf3, hq3, ht3, ho3, hj3, _⟩
    obtain ⟨op, a, bb, nn, at_, sa, k, c, rfl⟩ := ht3.form
    have M1 := M0.call hf3 hq3
    obtain ⟨⟨a0, a1, a2, a3, a4, a5, af⟩, ⟨b0, b1, b2, b3, b4, b5, bf⟩⟩ := M1.get6
    have hRl := heap_lt M1.res
    have hCl := heap_lt M1.loc
    have hsz3 := hf3.size
    rw [World.size_alloc] at hsz3 ht3
    have HO3 : Hid ((sub (openQ s q)).2.opn = q.opn + 1) := ho3.trans HPRE.out.2.1
    have HJ3 : Hid (q.j ≤ (sub (openQ s q)).2.j) := Nat.le_trans HPRE.out.2.2 hj3
    clear ho3 hj3
    have HTR : Hid (TRep _ _ _ _ _) := ht3
    clear ht3
    have hRC := heap_lt N2.res
    have hbC := heap_lt N2.at_.blk
    have hne1 : ¬ w2.heap.size = b := by omega
    have hne2 : ¬ w2.heap.size = w.heap.size := by omega
    have hne3 : ¬ b = w2.heap.size := by omega
    unfold trC
    obtain ⟨c0, c1, c2, c3, c4, c5, c6, c7, hf, _⟩ := hq3.get
    rw [HO3.out] at c7
    go_wp2_with fail
    have LD := (((M1.put6 (.string ⟨#[110, 111, 116]⟩) (.int .i64 0) (.int .i64 0) (.int .i64 0) (.int .i64 0) (.slice (some ⟨w3.heap.size + 1, 0, none⟩) 1 1)).opn q.opn (by omega) (by omega)).done6 (.string ⟨#[110, 111, 116]⟩) (.int .i64 0) (.int .i64 0) (.int .i64 0) (.int .i64 0) (.slice (some ⟨w3.heap.size + 1, 0, none⟩) 1 1)).alloc (.cells #[.string op, .int .i64 a, .int .i64 bb, .int .i64 nn, .int .i64 at_, .slice sa k c] 146)
    have LE := LD.alloc (.cells #[.string op, .int .i64 a, .int .i64 bb, .int .i64 nn, .int .i64 at_, .slice sa k c] 146)
    obtain ⟨d0, d1, d2, d3, d4, d5, _⟩ := loc6 LE.res
    have hszf : ∀ (x : World), x.heap.size = w3.heap.size → ((x.alloc (.cells #[.string op, .int .i64 a, .int .i64 bb, .int .i64 nn, .int .i64 at_, .slice sa k c] 146)).alloc (.cells #[.string op, .int .i64 a, .int .i64 bb, .int .i64 nn, .int .i64 at_, .slice sa k c] 146)).heap.size = w3.heap.size + 1 + 1 := fun x hx => by simp [hx]
    refine bodyPost_ret (v := .agg #[.string ⟨#[110, 111, 116]⟩, .int .i64 0, .int .i64 0, .int .i64 0, .int .i64 0, .slice (some ⟨w3.heap.size + 1, 0, none⟩) 1 1]) (by simp [results, Tryz.results108, go_sem, d0, d1, d2, d3, d4, d5]) rfl ⟨tv3, d + 1, trC ⟨#[110, 111, 116]⟩ 0 0 0 0 (.slice (some ⟨w3.heap.size + 1, 0, none⟩) 1 1), rfl, LE.fr, shut_at LE.at_ (by rw [HO3.out]; omega), Or.inr (Or.inr (Or.inl ⟨⟨#[110, 111, 116]⟩, w3.heap.size + 1, _, _, by simp [ByteArray.toList_eq], ⟨by omega, ?_, hq3.rowlt _ (by omega), by omega⟩, new_at ?_ _, rfl, HTR.out.keep (fun g h1 h2 _ => ?_) ?_ (by omega) (fun g h1 _ _ => by omega), rfl⟩)), by show (sub (openQ s q)).2.opn - 1 = q.opn; rw [HO3.out]; omega, HJ3.out, fun hb => absurd HBK.out (by omega)⟩
    · rw [World.size_alloc, World.size_alloc, put6_size, size_set, put6_size]; omega
    · rw [World.size_alloc, put6_size, size_set, put6_size]
    · rw [Below.heap_alloc _ _ _ (by rw [World.size_alloc, put6_size, size_set, put6_size]; omega), Below.heap_alloc _ _ _ (by rw [put6_size, size_set, put6_size]; omega)]
      exact (put6_other _ w.heap.size g (by omega) _ _ _ _ _ _).trans ((set_other _ b 7 g _ (by omega)).trans (put6_other w3 w2.heap.size g (by omega) _ _ _ _ _ _))
    · rw [World.size_alloc, World.size_alloc, put6_size, size_set, put6_size]; omega

set_option maxRecDepth 100000 in
set_option maxHeartbeats 4000000 in
theorem paren_any (n : Nat) (sub : Q → TM × Q) (w : World) (b : Nat) (s : ByteArray) (q : Q) (tv : Value) (h : QAt w b s q tv) (hpre : preQ (n + 1) q) (h14 : isQ s q 14 = false) (h19 : isQ s q 19 = true)
    (HC : ∀ (wx : World) (tx : Value) (qx : Q), QAt wx b s qx tx → preQ n qx → Calls Tryz.prog 108 #[.pointer (some ⟨b, 0, none⟩), .int .i64 0] wx fun e w' => PostQ wx tx b s qx (sub qx) e w') :
    Calls Tryz.prog 108 #[.pointer (some ⟨b, 0, none⟩), .int .i64 2] w fun e w' => PostQ w tv b s q ((sub (openQ s q)).1, shutQ (needQ s (sub (openQ s q)).2 20)) e w' := by
  have hbk := isQ_bad h19
  have hjs := h.jsz
  have hop := openQ_pre s q n hpre hbk.1 hjs
  have HIS : Hid (isQ s q 19 = true) := h19
  have H14 : Hid (isQ s q 14 = false) := h14
  have HPRE : Hid (_ ∧ _) := hop
  have HBK : Hid (q.bad < 0) := hbk.1
  have HOPN : Hid (0 ≤ q.opn ∧ q.opn ≤ 6) := ⟨hpre.1, (hpre.2.2.2 hbk.1).1⟩
  have HCH : Hid (∀ (wx : World) (tx : Value) (qx : Q), QAt wx b s qx tx → preQ n qx → Calls Tryz.prog 108 #[.pointer (some ⟨b, 0, none⟩), .int .i64 0] wx fun e w' => PostQ wx tx b s qx (sub qx) e w') := HC
  clear h19 h14 hbk hop hpre HC
  have N0 := N1.start h 146 #[.string ⟨#[]⟩, .int .i64 0, .int .i64 0, .int .i64 0, .int .i64 0, .slice none 0 0]
  have ho1 : 0 ≤ q.opn := HOPN.out.1
  have ho2 : q.opn ≤ 6 := HOPN.out.2
  obtain ⟨c0, c1, c2, c3, c4, c5, c6, c7, hf, hlt⟩ := h.get
  by_cases h6 : q.opn = 6
  · have h6b : (q.opn == 6) = true := by rw [beq_iff_eq]; exact h6
    have HOQ : Hid (openQ s q = takeQ s { failQ s q with opn := q.opn + 1 }) := by show _ = _; unfold openQ; rw [if_pos h6]
    clear h6
    go_enter Tryz.func108, Tryz.ntmps108
    go_wp2_with fail
    refine (is_any _ b s q tv N0.at_ 14 (by omega) (by omega) ⟨#[110, 111, 116]⟩ rfl).mono ?_
    rintro e wx ⟨rfl, rfl⟩
    rw [H14.out]
    go_wp2_with fail
    refine (is_any _ b s q tv N0.at_ 19 (by omega) (by omega) ⟨#[40]⟩ rfl).mono ?_
    rintro e wx ⟨rfl, rfl⟩
    rw [HIS.out]
    go_wp2_with fail
    refine (fail_any _ b s q tv N0.at_).mono ?_
    rintro e w1 ⟨rfl, hf1, hq1⟩
    have N1a := N0.call hf1 hq1
    clear c0 c1 c2 c3 c4 c5 c6 c7 hf
    obtain ⟨c0, c1, c2, c3, c4, c5, c6, c7, hf, _⟩ := hq1.get
    rw [(failQ_o s q).1] at c7
    go_wp2_with fail
    have N1b := N1a.opn (q.opn + 1) (by omega) (by omega)
    refine (rtake_any _ b s _ tv N1b.at_).mono ?_
    rintro e w2 ⟨rfl, tv2, hf2, hq2⟩
    rw [← HOQ.out] at hq2
    have N2 := N1b.call hf2 hq2
    have M0 := N2.local #[.string ⟨#[]⟩, .int .i64 0, .int .i64 0, .int .i64 0, .int .i64 0, .slice none 0 0]
    clear c0 c1 c2 c3 c4 c5 c6 c7 hf
    go_wp2_with fail
    refine (HCH.out _ _ _ M0.at_ HPRE.out.1).mono ?_
    rintro e w3 ⟨tv3, d, cs, rfl, hf3, hq3, ht3, ho3, hj3, _⟩
    obtain ⟨op, a, bb, nn, at_, sa, k, c, rfl⟩ := ht3.form
    have M1 := M0.call hf3 hq3
    obtain ⟨⟨a0, a1, a2, a3, a4, a5, af⟩, ⟨b0, b1, b2, b3, b4, b5, bf⟩⟩ := M1.get6
    have hRl := heap_lt M1.res
    have hCl := heap_lt M1.loc
    have hsz3 := hf3.size
    rw [World.size_alloc] at hsz3 ht3
    have HO3 : Hid ((sub (openQ s q)).2.opn = q.opn + 1) := ho3.trans HPRE.out.2.1
    have HJ3 : Hid (q.j ≤ (sub (openQ s q)).2.j) := Nat.le_trans HPRE.out.2.2 hj3
    clear ho3 hj3
    have HTR : Hid (TRep _ _ _ _ _) := ht3
    clear ht3
    have hRC := heap_lt N2.res
    have hbC := heap_lt N2.at_.blk
    have hne1 : ¬ w2.heap.size = b := by omega
    have hne2 : ¬ w2.heap.size = w.heap.size := by omega
    have hne3 : ¬ b = w2.heap.size := by omega
    unfold trC
    go_wp2_with fail
    have M2a := M1.put6 (.string op) (.int .i64 a) (.int .i64 bb) (.int .i64 nn) (.int .i64 at_) (.slice sa k c)
    refine (need_any _ b s _ _ M2a.at_ 20 (by omega) (by omega) ⟨#[41]⟩ rfl).mono ?_
    rintro e w4 ⟨rfl, tv4, hf4, hq4⟩
    have M3 := M2a.call hf4 hq4
    clear a0 a1 a2 a3 a4 a5 af b0 b1 b2 b3 b4 b5 bf
    obtain ⟨⟨a0, a1, a2, a3, a4, a5, af⟩, ⟨b0, b1, b2, b3, b4, b5, bf⟩⟩ := M3.get6
    obtain ⟨c0, c1, c2, c3, c4, c5, c6, c7, hf, _⟩ := hq4.get
    have hno := needQ_o s (sub (openQ s q)).2 20 hq3.jsz
    rw [hno.1, HO3.out] at c7
    have HNO : Hid (_ ∧ _) := hno
    clear hno
    go_wp2_with fail
    have M4 := M3.opn q.opn (by omega) (by omega)
    have LD := M4.done6 (.string op) (.int .i64 a) (.int .i64 bb) (.int .i64 nn) (.int .i64 at_) (.slice sa k c)
    obtain ⟨d0, d1, d2, d3, d4, d5, _⟩ := loc6 LD.res
    have hsz4 := hf4.size
    rw [put6_size] at hsz4
    have hT3 := HTR.out.keep (Wf := ((((((w3.setCell ⟨w2.heap.size, 0, none⟩ (.string op)).setCell ⟨w2.heap.size, 1, none⟩ (.int .i64 a)).setCell ⟨w2.heap.size, 2, none⟩ (.int .i64 bb)).setCell ⟨w2.heap.size, 3, none⟩ (.int .i64 nn)).setCell ⟨w2.heap.size, 4, none⟩ (.int .i64 at_)).setCell ⟨w2.heap.size, 5, none⟩ (.slice sa k c))) (H := w2.heap.size + 1) (X' := w.heap.size) (fun g h1 _ _ => put6_other w3 w2.heap.size g (by omega) _ _ _ _ _ _) (by rw [put6_size]; exact Nat.le_refl _) (Nat.le_refl _) (fun g h1 _ _ => by omega)
    have hT4 := (hT3.fr (b := b) (by omega) hf4).keep (Wf := (((((((w4.setCell ⟨b, 7, none⟩ (.int .i64 q.opn)).setCell ⟨w.heap.size, 0, none⟩ (.string op)).setCell ⟨w.heap.size, 1, none⟩ (.int .i64 a)).setCell ⟨w.heap.size, 2, none⟩ (.int .i64 bb)).setCell ⟨w.heap.size, 3, none⟩ (.int .i64 nn)).setCell ⟨w.heap.size, 4, none⟩ (.int .i64 at_)).setCell ⟨w.heap.size, 5, none⟩ (.slice sa k c))) (H := w.heap.size) (X' := w.heap.size) (fun g h1 _ _ => (put6_other _ w.heap.size g (by omega) _ _ _ _ _ _).trans (set_other w4 b 7 g _ (by omega))) (by rw [put6_size, size_set]; exact Nat.le_refl _) (by omega) (fun g h1 _ _ => by omega)
    exact bodyPost_ret (v := .agg #[.string op, .int .i64 a, .int .i64 bb, .int .i64 nn, .int .i64 at_, .slice sa k c]) (by simp [results, Tryz.results108, go_sem, d0, d1, d2, d3, d4, d5]) rfl ⟨tv4, d, _, rfl, LD.fr, shut_at LD.at_ (by rw [HNO.out.1, HO3.out]; omega), hT4, by show (needQ s (sub (openQ s q)).2 20).opn - 1 = q.opn; rw [HNO.out.1, HO3.out]; omega, Nat.le_trans HJ3.out HNO.out.2.1, fun hb => absurd HBK.out (by omega)⟩
  · have h6b : (q.opn == 6) = false := by rw [beq_eq_false_iff_ne]; exact h6
    have HOQ : Hid (openQ s q = takeQ s { q with opn := q.opn + 1 }) := by show _ = _; unfold openQ; rw [if_neg h6]
    clear h6
    go_enter Tryz.func108, Tryz.ntmps108
    go_wp2_with fail
    refine (is_any _ b s q tv N0.at_ 14 (by omega) (by omega) ⟨#[110, 111, 116]⟩ rfl).mono ?_
    rintro e wx ⟨rfl, rfl⟩
    rw [H14.out]
    go_wp2_with fail
    refine (is_any _ b s q tv N0.at_ 19 (by omega) (by omega) ⟨#[40]⟩ rfl).mono ?_
    rintro e wx ⟨rfl, rfl⟩
    rw [HIS.out]
    go_wp2_with fail
    have hN := N0.res
    have N1b : N1 w tv ((w.setCell ⟨b, 7, none⟩ (.int .i64 (q.opn + 1))).alloc (.cells #[.string ⟨#[]⟩, .int .i64 0, .int .i64 0, .int .i64 0, .int .i64 0, .slice none 0 0] 146)) b s { q with opn := q.opn + 1 } tv w.heap.size 146 #[.string ⟨#[]⟩, .int .i64 0, .int .i64 0, .int .i64 0, .int .i64 0, .slice none 0 0] := ⟨((FR.refl _ _ _).put _ _).alloc _, (h.setOpn _ (by omega) (by omega)).alloc _, new_at (size_set _ _ _) _, Nat.le_refl _, hlt, N0.nR⟩
    refine (rtake_any _ b s _ tv N1b.at_).mono ?_
    rintro e w2 ⟨rfl, tv2, hf2, hq2⟩
    rw [← HOQ.out] at hq2
    have N2 := N1b.call hf2 hq2
    have M0 := N2.local #[.string ⟨#[]⟩, .int .i64 0, .int .i64 0, .int .i64 0, .int .i64 0, .slice none 0 0]
    clear c0 c1 c2 c3 c4 c5 c6 c7 hf
    go_wp2_with fail
    refine (HCH.out _ _ _ M0.at_ HPRE.out.1).mono ?_
    rintro e w3 ⟨tv3, d, cs, rfl, hf3, hq3, ht3, ho3, hj3, _⟩
    obtain ⟨op, a, bb, nn, at_, sa, k, c, rfl⟩ := ht3.form
    have M1 := M0.call hf3 hq3
    obtain ⟨⟨a0, a1, a2, a3, a4, a5, af⟩, ⟨b0, b1, b2, b3, b4, b5, bf⟩⟩ := M1.get6
    have hRl := heap_lt M1.res
    have hCl := heap_lt M1.loc
    have hsz3 := hf3.size
    rw [World.size_alloc] at hsz3 ht3
    have HO3 : Hid ((sub (openQ s q)).2.opn = q.opn + 1) := ho3.trans HPRE.out.2.1
    have HJ3 : Hid (q.j ≤ (sub (openQ s q)).2.j) := Nat.le_trans HPRE.out.2.2 hj3
    clear ho3 hj3
    have HTR : Hid (TRep _ _ _ _ _) := ht3
    clear ht3
    have hRC := heap_lt N2.res
    have hbC := heap_lt N2.at_.blk
    have hne1 : ¬ w2.heap.size = b := by omega
    have hne2 : ¬ w2.heap.size = w.heap.size := by omega
    have hne3 : ¬ b = w2.heap.size := by omega
    unfold trC
    go_wp2_with fail
    have M2a := M1.put6 (.string op) (.int .i64 a) (.int .i64 bb) (.int .i64 nn) (.int .i64 at_) (.slice sa k c)
    refine (need_any _ b s _ _ M2a.at_ 20 (by omega) (by omega) ⟨#[41]⟩ rfl).mono ?_
    rintro e w4 ⟨rfl, tv4, hf4, hq4⟩
    have M3 := M2a.call hf4 hq4
    clear a0 a1 a2 a3 a4 a5 af b0 b1 b2 b3 b4 b5 bf
    obtain ⟨⟨a0, a1, a2, a3, a4, a5, af⟩, ⟨b0, b1, b2, b3, b4, b5, bf⟩⟩ := M3.get6
    obtain ⟨c0, c1, c2, c3, c4, c5, c6, c7, hf, _⟩ := hq4.get
    have hno := needQ_o s (sub (openQ s q)).2 20 hq3.jsz
    rw [hno.1, HO3.out] at c7
    have HNO : Hid (_ ∧ _) := hno
    clear hno
    go_wp2_with fail
    have M4 := M3.opn q.opn (by omega) (by omega)
    have LD := M4.done6 (.string op) (.int .i64 a) (.int .i64 bb) (.int .i64 nn) (.int .i64 at_) (.slice sa k c)
    obtain ⟨d0, d1, d2, d3, d4, d5, _⟩ := loc6 LD.res
    have hsz4 := hf4.size
    rw [put6_size] at hsz4
    have hT3 := HTR.out.keep (Wf := ((((((w3.setCell ⟨w2.heap.size, 0, none⟩ (.string op)).setCell ⟨w2.heap.size, 1, none⟩ (.int .i64 a)).setCell ⟨w2.heap.size, 2, none⟩ (.int .i64 bb)).setCell ⟨w2.heap.size, 3, none⟩ (.int .i64 nn)).setCell ⟨w2.heap.size, 4, none⟩ (.int .i64 at_)).setCell ⟨w2.heap.size, 5, none⟩ (.slice sa k c))) (H := w2.heap.size + 1) (X' := w.heap.size) (fun g h1 _ _ => put6_other w3 w2.heap.size g (by omega) _ _ _ _ _ _) (by rw [put6_size]; exact Nat.le_refl _) (Nat.le_refl _) (fun g h1 _ _ => by omega)
    have hT4 := (hT3.fr (b := b) (by omega) hf4).keep (Wf := (((((((w4.setCell ⟨b, 7, none⟩ (.int .i64 q.opn)).setCell ⟨w.heap.size, 0, none⟩ (.string op)).setCell ⟨w.heap.size, 1, none⟩ (.int .i64 a)).setCell ⟨w.heap.size, 2, none⟩ (.int .i64 bb)).setCell ⟨w.heap.size, 3, none⟩ (.int .i64 nn)).setCell ⟨w.heap.size, 4, none⟩ (.int .i64 at_)).setCell ⟨w.heap.size, 5, none⟩ (.slice sa k c))) (H := w.heap.size) (X' := w.heap.size) (fun g h1 _ _ => (put6_other _ w.heap.size g (by omega) _ _ _ _ _ _).trans (set_other w4 b 7 g _ (by omega))) (by rw [put6_size, size_set]; exact Nat.le_refl _) (by omega) (fun g h1 _ _ => by omega)
    exact bodyPost_ret (v := .agg #[.string op, .int .i64 a, .int .i64 bb, .int .i64 nn, .int .i64 at_, .slice sa k c]) (by simp [results, Tryz.results108, go_sem, d0, d1, d2, d3, d4, d5]) rfl ⟨tv4, d, _, rfl, LD.fr, shut_at LD.at_ (by rw [HNO.out.1, HO3.out]; omega), hT4, by show (needQ s (sub (openQ s q)).2 20).opn - 1 = q.opn; rw [HNO.out.1, HO3.out]; omega, Nat.le_trans HJ3.out HNO.out.2.1, fun hb => absurd HBK.out (by omega)⟩
end Go.Proofs.YtmpaeladhoomoaaGreatDoor
