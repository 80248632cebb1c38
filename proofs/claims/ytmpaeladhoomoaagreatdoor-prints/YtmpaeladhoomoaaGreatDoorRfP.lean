/-
  The document's answer: Load, walked.
-/
import Derived.Test.YtmpaeladhoomoaaGreatDoorEqX
import Derived.BigQuiet
namespace Go.Proofs.YtmpaeladhoomoaaGreatDoor
open Go.RowKit

theorem gb_load {w w4 w' : World} {b : Nat} {tv tv' : Value} (h : w.grownBy w4 (some b)) (hb : b = w.heap.size) (ht : tv.ownBlock = none) (hf : FR b tv w4 tv' w') : w.grownBy w' none :=
  ⟨hf.os.trans h.os, hf.tape.trans h.tape, hf.output.trans h.output, Nat.le_trans h.size hf.size, fun k hk _ => (hf.block k (Nat.lt_of_lt_of_le hk h.size) (by omega) (by rw [ht]; simp)).trans (h.block k hk (by simp; omega))⟩
theorem load_bad {s : ByteArray} (h4 : ¬ 400 < s.size) {f : TM × Q} (hf : f = fmQ s) {x : Int} (hx : (endQ s f.2).bad = x) (h0 : 0 ≤ x) : loadQ s = (2, x.toNat) := by
  subst hf
  unfold loadQ
  rw [if_neg h4, hx, if_pos h0]
theorem rkind46 {k : Nat} (h : rkind k = 46) : k = 1 := by
  unfold rkind at h
  repeat' split at h
  all_goals omega
theorem skipL_step (l : List RSt) (k : Nat) (x : RSt) (hx : l[k]? = some x) : skipL (l.drop k) = if x.kind = 106 ∧ l.length - k - 1 < x.skip then (x.at_ : Int) else skipL (l.drop (k + 1)) := by
  obtain ⟨hk, hx'⟩ := List.getElem?_eq_some_iff.1 hx
  rw [List.drop_eq_getElem_cons hk, hx', skipL, show (l.drop (k + 1)).length = l.length - k - 1 from by simp; omega]
theorem skipT_at : ∀ (t : List (List RSt)) (i : Nat) (l : List RSt), t[i]? = some l → (∀ x ∈ t.take i, skipL x < 0) → 0 ≤ skipL l → skipT t = skipL l
  | [], i, l, h, _, _ => by simp at h
  | y :: r, 0, l, h, _, h0 => by simp at h; subst h; rw [skipT, if_pos h0]
  | y :: r, i + 1, l, h, ha, h0 => by
    rw [skipT, if_neg (by have := ha y (by simp); omega)]
    exact skipT_at r i l (by simpa using h) (fun x hx => ha x (by simp [hx])) h0
theorem skipT_none : ∀ (t : List (List RSt)), (∀ x ∈ t, skipL x < 0) → skipT t = -1
  | [], _ => rfl
  | y :: r, h => by rw [skipT, if_neg (by have := h y (by simp); omega)]; exact skipT_none r (fun x hx => h x (by simp [hx]))
theorem load_skip {s : ByteArray} (h4 : ¬ 400 < s.size) {t : List (List RSt)} {q : Q} (ht : (t, q) = thrQ s) {f : TM × Q} (hf : f = fmQ s) (hx : ¬ 0 ≤ (endQ s f.2).bad) {x : Nat} (h0 : skipT t = (x : Int)) : loadQ s = (3, x) := by
  subst hf
  unfold loadQ
  rw [if_neg h4, if_neg hx, ← ht, if_pos (by show 0 ≤ skipT t; omega)]
  show (3, (skipT t).toNat) = _
  rw [h0]; rfl
theorem load_jump {s : ByteArray} (h4 : ¬ 400 < s.size) {t : List (List RSt)} {q : Q} (ht : (t, q) = thrQ s) {f : TM × Q} (hf : f = fmQ s) (hx : ¬ 0 ≤ (endQ s f.2).bad) (h0 : skipT t = -1) : loadQ s = if 0 ≤ jumpL t.length f.1.jm then (3, (jumpL t.length f.1.jm).toNat) else (0, 0) := by
  subst hf
  unfold loadQ
  rw [if_neg h4, if_neg hx, ← ht, if_neg (by show ¬ 0 ≤ skipT t; omega)]
theorem ask_opn (s : ByteArray) : (askQ s (thrQ s).2).opn = 0 := by
  have ht := threads_sim (s := s) 5 [] ps0 q0 ⟨rfl, rfl, rfl, by decide⟩ rfl rfl rfl (by decide) (Or.inr rfl)
  cases hth : threadsS s 6 ps0 with
  | error e => rw [hth] at ht; exact (ask_err ht).2
  | ok p1 => rw [hth] at ht; obtain ⟨x, p2, e2, a1, _⟩ := ask_ok ht; exact a1.2.2.1
theorem ask_yes {s : ByteArray} {q : Q} (h : isQ s q 11 = true) : askQ s q = takeQ s q := by unfold askQ; rw [if_pos h]
theorem ask_no {s : ByteArray} {q : Q} (h : isQ s q 11 = false) : askQ s q = needQ s q 10 := by unfold askQ; rw [if_neg (by rw [h]; simp)]

/-- What the document's Load lays: its tokens, and where the question begins. -/
def RTestK (s : ByteArray) (w w' : World) (T : Nat) : Prop := ∃ (tsv k8 : Value) (bo : Bool) (op : ByteArray) (n1 n2 n3 n4 : Int) (va : Option Addr) (vcap : Nat),
  w'.heap[T]? = some (.cells #[tsv, .bool bo, .string op, .int .i64 n1, .int .i64 n2, .int .i64 n3, .int .i64 n4, k8, .slice va (fmQ s).2.n vcap, .int .i64 ((thrQ s).2.n : Nat)] 149 (0, 0)) ∧ newB w w' T ∧ Tks s (fmQ s).2 ∧ Tks s (thrQ s).2 ∧ (fmQ s).2.n ≤ 400 ∧
  (∀ (i : Nat) (v : Value), (tkF s (fmQ s).2.n)[i]? = some v → ∃ g, va = some ⟨g, 0, none⟩ ∧ newB w w' g ∧ w'.cell? ⟨g, i, none⟩ = some v) ∧
  (∃ (ta : Option Addr) (cap : Nat) (xs : List Value), tsv = .slice ta (thrQ s).1.length cap ∧ (∀ (i : Nat) (v : Value), xs[i]? = some v → ∃ g, ta = some ⟨g, 0, none⟩ ∧ newB w w' g ∧ w'.cell? ⟨g, i, none⟩ = some v) ∧ ThR w' (newB w w') (thrQ s).1 xs) ∧
  ∃ d, TRep d w' (newB w w') (trC op n1 n2 n3 n4 k8) (fmQ s).1
theorem rtest_at {w w4 wr w9 : World} {b : Nat} {s : ByteArray} {q q7 : Q} {t : List (List RSt)} {xs : List Value} {va : Option Addr} {vcap : Nat} {tsv k8 : Value} {bo : Bool} {op : ByteArray} {n1 n2 n3 n4 : Int}
    (L : LdT w4 wr b s q7 (.slice va q7.n vcap) t tsv xs #[tsv, .bool bo, .string op, .int .i64 n1, .int .i64 n2, .int .i64 n3, .int .i64 n4, k8, .slice va q7.n vcap, .int .i64 (q.n : Nat)]) (hb : b = w.heap.size) (h4 : w.heap.size ≤ w4.heap.size) (hg : wr.grownBy w9 none) (hq : q = (thrQ s).2) (htq : Tks s q) (h7 : q7 = (fmQ s).2) (htt : t = (thrQ s).1) {d : Nat} {m : TM} (hTR : TRep d wr (fun g => w4.heap.size < g ∧ g < wr.heap.size) (trC op n1 n2 n3 n4 k8) m) (hm : m = (fmQ s).1) : RTestK s w w9 w4.heap.size := by
  subst hq h7 htt hm
  have hT := heap_lt L.n1.res
  have hsz := hg.size
  have hn := L.n1.at_.nsz
  have hj := L.n1.at_.jsz
  have hs := L.n1.at_.ssz
  refine ⟨tsv, k8, bo, op, n1, n2, n3, n4, va, vcap, heap_gb hg L.n1.res (by simp), ⟨h4, by omega⟩, L.n1.at_.tks, htq, by omega, fun i v hv => ?_, ?_, d, hTR.mono (fun g hg => ⟨by have := hg.1; omega, by have := hg.2; omega⟩) (fun g o _ ho => heap_gb hg ho (by simp))⟩
  rotate_left
  · rcases L.own.2 with ⟨h1, h2⟩ | ⟨g, cap', cur, h1, hrest⟩
    · have hx : xs = [] := List.eq_nil_of_length_eq_zero (by rw [L.own.1, h2])
      subst hx
      refine ⟨none, 0, [], by rw [h2]; exact h1, fun i v hv => by simp at hv, L.th.1, fun i l hl => ?_⟩
      have := (List.getElem?_eq_some_iff.1 hl).1
      omega
    · refine ⟨_, cap', xs, h1, fun i v hv => ?_, L.th.mono (fun g hg' => ⟨⟨by have := hg'.2.2.1; omega, by have := hg'.1; omega⟩, hg.block g hg'.1 (by simp)⟩)⟩
      have hl := L.own.lt g (by rw [h1]; rfl)
      refine ⟨g, rfl, ⟨by omega, by omega⟩, ?_⟩
      have hc := L.own.cells (by rw [h1]; rfl) i v hv
      rw [addr_add] at hc
      exact hg.cell hc (by simp)
  rcases L.n1.at_.toks.2 with ⟨_, h1⟩ | ⟨g, cap', cur, h1, _⟩
  · rw [h1] at hv; simp [tkF, tkl] at hv
  · simp at h1
    obtain ⟨rfl, _⟩ := h1
    have hl := L.n1.at_.toks.lt g rfl
    refine ⟨g, rfl, ⟨by omega, by omega⟩, ?_⟩
    have hc := L.n1.at_.toks.cells rfl i v hv
    rw [addr_add] at hc
    exact hg.cell hc (by simp)

set_option maxRecDepth 100000 in
set_option maxHeartbeats 4000000 in
theorem rload_anyC (w : World) (s : ByteArray) :
    Calls Tryz.prog 66 #[.string s] w fun e w' => PostRC w (RTestK s w) (loadQ s) e w' := by
  by_cases h4 : 400 < s.size
  · have HL : Hid (loadQ s = (1, 0)) := by show _ = _; unfold loadQ; rw [if_pos h4]
    have h4' : decide ((400 : Int) < (s.size : Int)) = true := by simp; omega
    go_enter Tryz.func66, Tryz.ntmps66
    go_wp2_with fail
    go_ret3
    rw [HL.out]
    exact ⟨gb_refl _ _, none, rfl, Or.inr ⟨by simp, rfl⟩⟩
  · have h4' : decide ((400 : Int) < (s.size : Int)) = false := by simp; omega
    have hss : s.size ≤ 400 := by omega
    go_enter Tryz.func66, Tryz.ntmps66
    go_wp2_with fail
    refine (cut_any s 0 _ hss (Nat.zero_le _)).mono ?_
    rintro e w1 ⟨rfl, hg1⟩
    have hb1 := heap_gb hg1 (heap_alloc_new w _) (by simp)
    have c0 := cell_of hb1 0 _ rfl
    have c1 := cell_of hb1 1 _ rfl
    have c2 := cell_of hb1 2 _ rfl
    have c3 := cell_of hb1 3 _ rfl
    have c4 := cell_of hb1 4 _ rfl
    have hf := frozen_of hb1
    unfold rtV
    go_wp2_with fail
    clear c0 c1 c2 c3 c4 hf
    have hb4 := set8_1234 (v1 := .int .u8 (rkind (tk s 0).kind : Nat)) (v2 := .string (canonB (tk s 0).kind (tk s 0).num)) (v3 := .int .i64 ((tk s 0).at_ : Nat)) (v4 := .int .i64 ((tk s 0).end_ : Nat)) hb1
    obtain ⟨w4, hw4⟩ : ∃ w4, w4 = ((((w1.setCell ⟨w.heap.size, 1, none⟩ (.int .u8 (rkind (tk s 0).kind : Nat))).setCell ⟨w.heap.size, 2, none⟩ (.string (canonB (tk s 0).kind (tk s 0).num))).setCell ⟨w.heap.size, 3, none⟩ (.int .i64 ((tk s 0).at_ : Nat))).setCell ⟨w.heap.size, 4, none⟩ (.int .i64 ((tk s 0).end_ : Nat))) := ⟨_, rfl⟩
    have hsz : w1.heap.size = w4.heap.size := by rw [hw4]; simp [World.setCell]
    have hG4 : w.grownBy w4 (some w.heap.size) := by rw [hw4]; exact gb_put (gb_put (gb_put (gb_put (gb_any (gb_new (gb_alloc (gb_refl w none) _) hg1 (by simp))) _ _) _ _) _ _) _ _
    rw [← hw4] at hb4 ⊢
    rw [hsz]
    have LD0 := LdAt.start (q0_at hss _ hb4)
    have hlt4 := heap_lt hb4
    clear hb1 hg1 hw4 hsz
    obtain ⟨b, hbe⟩ : ∃ b, b = w.heap.size := ⟨_, rfl⟩
    rw [← hbe] at hb4 LD0 hlt4 hG4 ⊢
    have HBE : Hid (b = w.heap.size) := hbe
    clear hbe
    obtain ⟨i0, hi, hz0, hz1, hz2⟩ := info_parts infoRStep
    obtain ⟨j0, hj, hy0, hy1, hy2⟩ := info_parts infoRow
    go_loopg [7] 6 (fun k v7 wr => ∃ (more : Bool) (t : List (List RSt)) (q : Q) (tv tsv : Value) (xs : List Value), v7 = .bool more ∧ LdAt w4 wr b s q tv t tsv xs ∧ k + t.length = 6 ∧ Hid (more = true → t.length ≤ 4 ∧ threadsQ s (5 - t.length) t q = thrQ s) ∧ Hid (more = false → t.length ≤ 5 ∧ (t, q) = thrQ s))
    case atStart => exact ⟨true, [], q0, _, _, [], rfl, LD0, rfl, fun _ => ⟨by simp, rfl⟩, fun h => by simp at h⟩
    case round =>
      obtain ⟨more, t, q, tv, tsv, xs, rfl, LD, hkt, HT, HF⟩ := hrel
      obtain ⟨kk, hkk⟩ : ∃ kk, kk = gk := ⟨_, rfl⟩
      rw [← hkk] at hkt
      have HKK : Hid (kk = gk) := hkk
      clear hkk
      obtain ⟨ta, tcap, rfl⟩ := own_slice LD.own
      obtain ⟨t0, t1, t2, t3, t4, t5, t6, t7, t8, t9, tf⟩ := loc10 LD.n1.res
      have hTl := heap_lt LD.n1.res
      cases more with
      | false =>
        have HF2 : Hid (t.length ≤ 5 ∧ (t, q) = thrQ s) := HF.out rfl
        have ht5 := HF2.out.1
        clear HT HF
        have L0 := LD.tail
        have HTK : Hid (Tks s q) := LD.n1.at_.tks
        obtain ⟨tx, htx⟩ := LD.n1.at_.own
        obtain ⟨va, vcap, rfl⟩ := own_slice htx
        clear htx
        obtain ⟨c0, c1, c2, c3, c4, c5, c6, c7, hf, hlt⟩ := LD.n1.at_.get
        have hnb : ¬ b = w4.heap.size := by omega
        go_wp2_with fail
        have L1 := L0.put 9 (.int .i64 (q.n : Nat)) #[.slice ta t.length tcap, .bool false, .string ⟨#[]⟩, .int .i64 0, .int .i64 0, .int .i64 0, .int .i64 0, .slice none 0 0, .slice none 0 0, .int .i64 (q.n : Nat)] rfl
        refine (is_any _ b s q _ L1.n1.at_ 11 (by omega) (by omega) ⟨#[102, 111, 114, 97, 108, 108]⟩ rfl).mono ?_
        rintro e w5 ⟨rfl, rfl⟩
        clear t0 t1 t2 t3 t4 t5 t6 t7 t8 t9 tf
        obtain ⟨t0, t1, t2, t3, t4, t5, t6, t7, t8, t9, tf⟩ := loc10 L1.n1.res
        cases hI : isQ s q 11
        case' true =>
          have HA : Hid (askQ s q = takeQ s q) := ask_yes hI
          clear hI
          go_wp2_with fail
          have L2 := L1.put 1 (.bool true) #[.slice ta t.length tcap, .bool true, .string ⟨#[]⟩, .int .i64 0, .int .i64 0, .int .i64 0, .int .i64 0, .slice none 0 0, .slice none 0 0, .int .i64 (q.n : Nat)] rfl
          obtain ⟨bo, hbo⟩ : ∃ bo : Bool, bo = true := ⟨_, rfl⟩
          have L2b : LdT w4 ((wr.setCell ⟨w4.heap.size, 9, none⟩ (.int .i64 (q.n : Nat))).setCell ⟨w4.heap.size, 1, none⟩ (.bool true)) b s q (.slice va q.n vcap) t (.slice ta t.length tcap) xs #[.slice ta t.length tcap, .bool bo, .string ⟨#[]⟩, .int .i64 0, .int .i64 0, .int .i64 0, .int .i64 0, .slice none 0 0, .slice none 0 0, .int .i64 (q.n : Nat)] := by rw [hbo]; exact L2
          clear L2 hbo
          have L2 := L2b
          clear L2b
          refine (rtake_any _ b s q _ L2.n1.at_).mono ?_
        case' false =>
          have HA : Hid (askQ s q = needQ s q 10) := ask_no hI
          clear hI
          go_wp2_with fail
          have L2 := L1.put 1 (.bool false) #[.slice ta t.length tcap, .bool false, .string ⟨#[]⟩, .int .i64 0, .int .i64 0, .int .i64 0, .int .i64 0, .slice none 0 0, .slice none 0 0, .int .i64 (q.n : Nat)] rfl
          obtain ⟨bo, hbo⟩ : ∃ bo : Bool, bo = false := ⟨_, rfl⟩
          have L2b : LdT w4 ((wr.setCell ⟨w4.heap.size, 9, none⟩ (.int .i64 (q.n : Nat))).setCell ⟨w4.heap.size, 1, none⟩ (.bool false)) b s q (.slice va q.n vcap) t (.slice ta t.length tcap) xs #[.slice ta t.length tcap, .bool bo, .string ⟨#[]⟩, .int .i64 0, .int .i64 0, .int .i64 0, .int .i64 0, .slice none 0 0, .slice none 0 0, .int .i64 (q.n : Nat)] := by rw [hbo]; exact L2
          clear L2 hbo
          have L2 := L2b
          clear L2b
          refine (need_any _ b s q _ L2.n1.at_ 10 (by omega) (by omega) ⟨#[101, 120, 105, 115, 116, 115]⟩ rfl).mono ?_
        all_goals
          rintro e w6 ⟨rfl, tv6, hf6, hq6⟩
          rw [← HA.out] at hq6
          have L3 := L2.call hf6 hq6
          have HOP : Hid ((askQ s q).opn = 0) := by show _ = _; have h1 := ask_opn s; rw [← HF2.out.2] at h1; exact h1
          clear t0 t1 t2 t3 t4 t5 t6 t7 t8 t9 tf c0 c1 c2 c3 c4 c5 c6 c7 hf HA
          obtain ⟨t0, t1, t2, t3, t4, t5, t6, t7, t8, t9, tf⟩ := loc10 L3.n1.res
          go_wp2_with fail
          have hpre : preQ 8 (askQ s q) := ⟨by rw [HOP.out]; decide, by rw [HOP.out]; decide, by decide, fun _ => by rw [HOP.out]; decide⟩
          refine (form_any 8 _ b s (askQ s q) _ L3.n1.at_ hpre).mono ?_
          rintro e w7 ⟨tv7, d, cs, rfl, hf7, hq7, TR, _, _, _⟩
          have L4 := L3.call hf7 hq7
          have TR0 := TR
          obtain ⟨op, n1, n2, n3, n4, sa, ks, kc, rfl⟩ := TR.form
          obtain ⟨tx7, htx7⟩ := hq7.own
          obtain ⟨va7, vcap7, rfl⟩ := own_slice htx7
          unfold trC
          clear t0 t1 t2 t3 t4 t5 t6 t7 t8 t9 tf
          obtain ⟨t0, t1, t2, t3, t4, t5, t6, t7, t8, t9, tf⟩ := loc10 L4.n1.res
          obtain ⟨c0, c1, c2, c3, c4, c5, c6, c7, hf, _⟩ := hq7.get
          have HFM : Hid (formQ s 8 (askQ s q) = fmQ s) := by show _ = _; unfold fmQ; rw [← HF2.out.2]
          have hk20 := (tk_le s (formQ s 8 (askQ s q)).2.j).1
          by_cases hk1 : qk s (formQ s 8 (askQ s q)).2 = 1
          · have k1b : ((rkind (tk s (formQ s 8 (askQ s q)).2.j).kind : Int) == 46) = true := by
              have : (tk s (formQ s 8 (askQ s q)).2.j).kind = 1 := hk1
              rw [this]; rfl
            clear hk20
            by_cases hbd : 0 ≤ (formQ s 8 (askQ s q)).2.bad
            · have hbd' : decide ((0 : Int) ≤ (formQ s 8 (askQ s q)).2.bad) = true := by simpa using hbd
              have HLD : Hid (loadQ s = (2, (formQ s 8 (askQ s q)).2.bad.toNat)) := load_bad h4 HFM.out (by unfold endQ; rw [if_pos hk1]) hbd
              go_wp2_with fail
              go_quiet (fail)
              go_wp2_with fail
              go_ret3
              have L5 := ((((((L4.put 2 (.string op) #[.slice ta t.length tcap, .bool bo, .string op, .int .i64 0, .int .i64 0, .int .i64 0, .int .i64 0, .slice none 0 0, .slice none 0 0, .int .i64 (q.n : Nat)] rfl).put 3 (.int .i64 n1) #[.slice ta t.length tcap, .bool bo, .string op, .int .i64 n1, .int .i64 0, .int .i64 0, .int .i64 0, .slice none 0 0, .slice none 0 0, .int .i64 (q.n : Nat)] rfl).put 4 (.int .i64 n2) #[.slice ta t.length tcap, .bool bo, .string op, .int .i64 n1, .int .i64 n2, .int .i64 0, .int .i64 0, .slice none 0 0, .slice none 0 0, .int .i64 (q.n : Nat)] rfl).put 5 (.int .i64 n3) #[.slice ta t.length tcap, .bool bo, .string op, .int .i64 n1, .int .i64 n2, .int .i64 n3, .int .i64 0, .slice none 0 0, .slice none 0 0, .int .i64 (q.n : Nat)] rfl).put 6 (.int .i64 n4) #[.slice ta t.length tcap, .bool bo, .string op, .int .i64 n1, .int .i64 n2, .int .i64 n3, .int .i64 n4, .slice none 0 0, .slice none 0 0, .int .i64 (q.n : Nat)] rfl).put 7 (.slice sa ks kc) #[.slice ta t.length tcap, .bool bo, .string op, .int .i64 n1, .int .i64 n2, .int .i64 n3, .int .i64 n4, .slice sa ks kc, .slice none 0 0, .int .i64 (q.n : Nat)] rfl)
              rw [HLD.out]
              refine ⟨gb_drewN (gb_load hG4 HBE.out rfl L5.n1.fr) _, none, ?_, Or.inr ⟨by simp, rfl⟩⟩
              simp only [Int.toNat_of_nonneg hbd]
              rfl
            · have hbd' : decide ((0 : Int) ≤ (formQ s 8 (askQ s q)).2.bad) = false := by simpa using hbd
              have HBD : Hid (¬ 0 ≤ (formQ s 8 (askQ s q)).2.bad) := hbd
              clear hbd
              have L5 := ((((((L4.put 2 (.string op) #[.slice ta t.length tcap, .bool bo, .string op, .int .i64 0, .int .i64 0, .int .i64 0, .int .i64 0, .slice none 0 0, .slice none 0 0, .int .i64 (q.n : Nat)] rfl).put 3 (.int .i64 n1) #[.slice ta t.length tcap, .bool bo, .string op, .int .i64 n1, .int .i64 0, .int .i64 0, .int .i64 0, .slice none 0 0, .slice none 0 0, .int .i64 (q.n : Nat)] rfl).put 4 (.int .i64 n2) #[.slice ta t.length tcap, .bool bo, .string op, .int .i64 n1, .int .i64 n2, .int .i64 0, .int .i64 0, .slice none 0 0, .slice none 0 0, .int .i64 (q.n : Nat)] rfl).put 5 (.int .i64 n3) #[.slice ta t.length tcap, .bool bo, .string op, .int .i64 n1, .int .i64 n2, .int .i64 n3, .int .i64 0, .slice none 0 0, .slice none 0 0, .int .i64 (q.n : Nat)] rfl).put 6 (.int .i64 n4) #[.slice ta t.length tcap, .bool bo, .string op, .int .i64 n1, .int .i64 n2, .int .i64 n3, .int .i64 n4, .slice none 0 0, .slice none 0 0, .int .i64 (q.n : Nat)] rfl).put 7 (.slice sa ks kc) #[.slice ta t.length tcap, .bool bo, .string op, .int .i64 n1, .int .i64 n2, .int .i64 n3, .int .i64 n4, .slice sa ks kc, .slice none 0 0, .int .i64 (q.n : Nat)] rfl)
              have L6 := L5.put 8 (.slice va7 (formQ s 8 (askQ s q)).2.n vcap7) #[.slice ta t.length tcap, .bool bo, .string op, .int .i64 n1, .int .i64 n2, .int .i64 n3, .int .i64 n4, .slice sa ks kc, .slice va7 (formQ s 8 (askQ s q)).2.n vcap7, .int .i64 (q.n : Nat)] rfl
              have hT6 := heap_lt L3.n1.res
              have hs7 := hf7.size
              go_wp2_with fail
              have TR8 : TRep d ((((((((w7.setCell ⟨w4.heap.size, 2, none⟩ (.string op)).setCell ⟨w4.heap.size, 3, none⟩ (.int .i64 n1)).setCell ⟨w4.heap.size, 4, none⟩ (.int .i64 n2)).setCell ⟨w4.heap.size, 5, none⟩ (.int .i64 n3)).setCell ⟨w4.heap.size, 6, none⟩ (.int .i64 n4)).setCell ⟨w4.heap.size, 7, none⟩ (.slice sa ks kc))).setCell ⟨w4.heap.size, 8, none⟩ (.slice va7 (formQ s 8 (askQ s q)).2.n vcap7)) (fun g => w4.heap.size < g ∧ g < ((((((((w7.setCell ⟨w4.heap.size, 2, none⟩ (.string op)).setCell ⟨w4.heap.size, 3, none⟩ (.int .i64 n1)).setCell ⟨w4.heap.size, 4, none⟩ (.int .i64 n2)).setCell ⟨w4.heap.size, 5, none⟩ (.int .i64 n3)).setCell ⟨w4.heap.size, 6, none⟩ (.int .i64 n4)).setCell ⟨w4.heap.size, 7, none⟩ (.slice sa ks kc))).setCell ⟨w4.heap.size, 8, none⟩ (.slice va7 (formQ s 8 (askQ s q)).2.n vcap7)).heap.size) (trC op n1 n2 n3 n4 (.slice sa ks kc)) (formQ s 8 (askQ s q)).1 := by
                refine TR0.mono (fun g hg => ⟨by have := hg.1; omega, by simp only [size_set]; exact hg.2.1⟩) (fun g o hg hh => ?_)
                have hgT : g ≠ w4.heap.size := by have := hg.1; omega
                rw [Below.heap_setCell _ _ _ _ (by simpa using hgT), Below.heap_setCell _ _ _ _ (by simpa using hgT), Below.heap_setCell _ _ _ _ (by simpa using hgT), Below.heap_setCell _ _ _ _ (by simpa using hgT), Below.heap_setCell _ _ _ _ (by simpa using hgT), Below.heap_setCell _ _ _ _ (by simpa using hgT), Below.heap_setCell _ _ _ _ (by simpa using hgT)]
                exact hh
              simp only [bne, k1b, Bool.not_true]
              clear k1b hbd' L4 L5 L3 L2 L1 L0 TR TR0 t0 t1 t2 t3 t4 t5 t6 t7 t8 t9 tf c0 c1 c2 c3 c4 c5 c6 c7 hf hq7 htx7 hf7
              generalize ((((((((w7.setCell ⟨w4.heap.size, 2, none⟩ (.string op)).setCell ⟨w4.heap.size, 3, none⟩ (.int .i64 n1)).setCell ⟨w4.heap.size, 4, none⟩ (.int .i64 n2)).setCell ⟨w4.heap.size, 5, none⟩ (.int .i64 n3)).setCell ⟨w4.heap.size, 6, none⟩ (.int .i64 n4)).setCell ⟨w4.heap.size, 7, none⟩ (.slice sa ks kc))).setCell ⟨w4.heap.size, 8, none⟩ (.slice va7 (formQ s 8 (askQ s q)).2.n vcap7)) = w8 at L6 TR8 ⊢
              go_loopw [11] (fun v11 wr => ∃ i : Nat, v11 = .int .i64 (i : Nat) ∧ i ≤ t.length ∧ w8.grownBy wr none ∧ Hid (∀ l ∈ t.take i, skipL l < 0)) (fun v11 _ => t.length - (intOf v11).toNat)
              case atStart => exact ⟨0, rfl, Nat.zero_le _, gb_refl _ _, fun l hl => by simp at hl⟩
              case round =>
                obtain ⟨i, rfl, hit, hG8, HSK⟩ := hrel
                have LR := L6.call (FR.of_new hG8) (L6.n1.at_.kept hG8)
                obtain ⟨t0, t1, t2, t3, t4, t5, t6, t7, t8, t9, tf⟩ := loc10 LR.n1.res
                have hTl := heap_lt LR.n1.res
                by_cases hi2 : i < t.length
                · have hi' : decide ((i : Int) < (t.length : Int)) = true := by simp; omega
                  obtain ⟨l, hl⟩ : ∃ l, t[i]? = some l := ⟨t[i], List.getElem?_eq_getElem hi2⟩
                  obtain ⟨g, cap, hx, hok, hl9, hcells⟩ := L6.th.2 i l hl
                  obtain ⟨gt, rfl⟩ : ∃ gt, ta = some ⟨gt, 0, none⟩ := by
                    rcases L6.own.2 with ⟨_, h1⟩ | ⟨g', cap', cur, h1, _⟩
                    · omega
                    · simp at h1; exact ⟨g', h1.1⟩
                  have hxc := L6.own.cells rfl i _ hx
                  rw [addr_add] at hxc
                  have e0 := gb_cell hG8 hxc (by simp)
                  have HL : Hid (t[i]? = some l) := hl
                  have HC : Hid (∀ (o : Nat) (v : Value), (rsF l)[o]? = some v → w8.cell? ⟨g, o, none⟩ = some v) := hcells
                  clear hl hx hcells hok
                  go_wp2_with fail
                  go_loopw [12] (fun v12 wr => ∃ k : Nat, v12 = .int .i64 (k : Nat) ∧ k ≤ l.length ∧ w8.grownBy wr none ∧ Hid (skipL l = skipL (l.drop k))) (fun v12 _ => l.length - (intOf v12).toNat)
                  case atStart => exact ⟨0, rfl, Nat.zero_le _, hG8, rfl⟩
                  case round =>
                    obtain ⟨k, rfl, hkl, hG9, HSL⟩ := hrel
                    clear t0 t1 t2 t3 t4 t5 t6 t7 t8 t9 tf hTl e0
                    have LQ := L6.call (FR.of_new hG9) (L6.n1.at_.kept hG9)
                    obtain ⟨t0, t1, t2, t3, t4, t5, t6, t7, t8, t9, tf⟩ := loc10 LQ.n1.res
                    have hTl := heap_lt LQ.n1.res
                    have e0 := gb_cell hG9 hxc (by simp)
                    have hgt : gt < wr.heap.size := World.block_lt_of_cell? wr ⟨gt, i, none⟩ e0
                    by_cases hk2 : k < l.length
                    · have hk' : decide ((k : Int) < (l.length : Int)) = true := by simp; omega
                      obtain ⟨x, hxk⟩ : ∃ x, l[k]? = some x := ⟨l[k], List.getElem?_eq_getElem hk2⟩
                      have xs0 : ∀ o v, o < 6 → (rsC x)[o]? = some v → wr.cell? ⟨g, k * 6 + o, none⟩ = some v := fun o v ho hv => gb_cell hG9 (HC.out _ _ ((rsF_get l k o x hxk ho).trans hv)) (by simp)
                      have x0 := xs0 0 _ (by omega) rfl
                      have x1 := xs0 1 _ (by omega) rfl
                      have x2 := xs0 2 _ (by omega) rfl
                      have x3 := xs0 3 _ (by omega) rfl
                      have x4 := xs0 4 _ (by omega) rfl
                      have x5 := xs0 5 _ (by omega) rfl
                      simp only [Nat.add_zero] at x0
                      have HST : Hid (_ = _) := skipL_step l k x hxk
                      clear xs0 hxk
                      have hgl : g < wr.heap.size := World.block_lt_of_cell? wr ⟨g, k * 6, none⟩ x0
                      by_cases h106 : x.kind = 106
                      · have h106' : ((x.kind : Int) == 106) = true := by rw [h106]; rfl
                        have H106 : Hid (x.kind = 106) := h106
                        clear h106
                        by_cases hsk : l.length - k - 1 < x.skip
                        · have hsk' : decide ((l.length : Int) - (k : Int) - 1 < (x.skip : Int)) = true := by simp; omega
                          have HSX : Hid (skipL l = (x.at_ : Int)) := by show _ = _; rw [HSL.out, HST.out, if_pos ⟨H106.out, hsk⟩]
                          have HLD : Hid (loadQ s = (3, x.at_)) := load_skip h4 HF2.out.2 HFM.out (by unfold endQ; rw [if_pos hk1]; have h9 := HBD.out; omega) ((skipT_at t i l HL.out HSK.out (by rw [HSX.out]; omega)).trans HSX.out)
                          go_wp2_with fail
                          go_quiet (fail)
                          go_wp2_with fail
                          go_quiet (fail)
                          go_wp2_with fail
                          go_ret3
                          rw [HLD.out]
                          exact ⟨gb_drewN (gb_drewN (gb_load hG4 HBE.out rfl (LQ.alloc _).n1.fr) _) _, none, rfl, Or.inr ⟨by simp, rfl⟩⟩
                        · have hsk' : decide ((l.length : Int) - (k : Int) - 1 < (x.skip : Int)) = false := by simp; omega
                          go_wp2_with fail
                          go_quiet (fail)
                          go_wp2_with fail
                          refine ⟨⟨k + 1, by go_num, by omega, gb_drewN (gb_alloc hG9 _) _, ?_⟩, by simp [intOf]; omega⟩
                          show _ = _
                          rw [HSL.out, HST.out, if_neg (fun h => hsk h.2)]
                      · have h106' : ((x.kind : Int) == 106) = false := by rw [beq_eq_false_iff_ne]; omega
                        go_wp2_with fail
                        go_quiet (fail)
                        go_wp2_with fail
                        refine ⟨⟨k + 1, by go_num, by omega, gb_drewN (gb_alloc hG9 _) _, ?_⟩, by simp [intOf]; omega⟩
                        show _ = _
                        rw [HSL.out, HST.out, if_neg (fun h => h106 h.1)]
                    · have hk' : decide ((k : Int) < (l.length : Int)) = false := by simp; omega
                      go_wp2_with fail
                      go_roundw
                      case measure => simp [intOf]; omega
                      case rel =>
                        refine ⟨i + 1, by go_num, by omega, hG9, ?_⟩
                        intro l' hl'
                        rw [List.take_add_one, HL.out] at hl'
                        simp at hl'
                        rcases hl' with h1 | rfl
                        · exact HSK.out l' h1
                        · rw [HSL.out, List.drop_eq_nil_of_le (by omega)]; decide
                · have hi' : decide ((i : Int) < (t.length : Int)) = false := by simp; omega
                  have HSN : Hid (skipT t = -1) := skipT_none t (fun x hx => HSK.out x (by rw [List.take_of_length_le (by omega)]; exact hx))
                  have HJL : Hid (loadQ s = if 0 ≤ jumpL t.length (formQ s 8 (askQ s q)).1.jm then (3, (jumpL t.length (formQ s 8 (askQ s q)).1.jm).toNat) else (0, 0)) := load_jump h4 HF2.out.2 HFM.out (by unfold endQ; rw [if_pos hk1]; have h9 := HBD.out; omega) HSN.out
                  have TR9 := TR8.mono (w' := wr) (ok' := fun g => w4.heap.size < g ∧ g < wr.heap.size) (fun g hg => ⟨hg.1, Nat.lt_of_lt_of_le hg.2 hG8.size⟩) (fun g o hg hh => heap_gb hG8 hh (by simp))
                  have HJC : Hid (Calls Tryz.prog 109 #[.agg (trC op n1 n2 n3 n4 (.slice sa ks kc)).toArray, .int .i64 (t.length : Nat)] wr.drew fun e w' => e = .returned (.int .i64 (jumpL t.length (formQ s 8 (askQ s q)).1.jm)) ∧ wr.drew.grownBy w' none) :=
                    jump_any d wr.drew _ _ _ t.length (by omega) (TR9.mono (w' := wr.drew) (fun g hg => hg) (fun g o hg hh => hh))
                  unfold trC at HJC
                  have hsz4 := hG4.size
                  by_cases hj : 0 ≤ jumpL t.length (formQ s 8 (askQ s q)).1.jm
                  · have hj' : decide ((0 : Int) ≤ jumpL t.length (formQ s 8 (askQ s q)).1.jm) = true := by simpa using hj
                    rw [if_pos hj] at HJL
                    go_wp2_with fail
                    go_region_with (go_at_call 109; go_must (refine (HJC.out).mono ?_; rintro e w9 ⟨rfl, hg9⟩))
                    all_goals
                      go_wp2_with fail
                      go_ret3
                      rw [HJL.out]
                      refine ⟨gb_load hG4 HBE.out rfl (LR.n1.fr.trans (FR.of_new (gb_from_drew hg9))), none, ?_, Or.inr ⟨by simp, rfl⟩⟩
                      simp only [Int.toNat_of_nonneg hj]
                      rfl
                  · have hj' : decide ((0 : Int) ≤ jumpL t.length (formQ s 8 (askQ s q)).1.jm) = false := by simpa using hj
                    rw [if_neg hj] at HJL
                    go_wp2_with fail
                    go_region_with (go_at_call 109; go_must (refine (HJC.out).mono ?_; rintro e w9 ⟨rfl, hg9⟩))
                    all_goals
                      go_wp2_with fail
                      go_ret3
                      rw [HJL.out]
                      have hg9' := gb_from_drew hg9
                      have hsz9 := hg9'.size
                      exact ⟨gb_load hG4 HBE.out rfl (LR.n1.fr.trans (FR.of_new hg9')), some ⟨w4.heap.size, 0, none⟩, rfl, Or.inl ⟨rfl, rfl, w4.heap.size, rfl, hsz4, by omega, rtest_at LR HBE.out hsz4 hg9' (congrArg Prod.snd HF2.out.2) HTK.out (congrArg Prod.snd HFM.out) (congrArg Prod.fst HF2.out.2) TR9 (congrArg Prod.fst HFM.out)⟩⟩
          · have k1b : ((rkind (tk s (formQ s 8 (askQ s q)).2.j).kind : Int) == 46) = false := by
              rw [beq_eq_false_iff_ne]
              intro e
              exact hk1 (show (tk s (formQ s 8 (askQ s q)).2.j).kind = 1 from rkind46 (by omega))
            clear hk20
            have L5 := ((((((L4.put 2 (.string op) #[.slice ta t.length tcap, .bool bo, .string op, .int .i64 0, .int .i64 0, .int .i64 0, .int .i64 0, .slice none 0 0, .slice none 0 0, .int .i64 (q.n : Nat)] rfl).put 3 (.int .i64 n1) #[.slice ta t.length tcap, .bool bo, .string op, .int .i64 n1, .int .i64 0, .int .i64 0, .int .i64 0, .slice none 0 0, .slice none 0 0, .int .i64 (q.n : Nat)] rfl).put 4 (.int .i64 n2) #[.slice ta t.length tcap, .bool bo, .string op, .int .i64 n1, .int .i64 n2, .int .i64 0, .int .i64 0, .slice none 0 0, .slice none 0 0, .int .i64 (q.n : Nat)] rfl).put 5 (.int .i64 n3) #[.slice ta t.length tcap, .bool bo, .string op, .int .i64 n1, .int .i64 n2, .int .i64 n3, .int .i64 0, .slice none 0 0, .slice none 0 0, .int .i64 (q.n : Nat)] rfl).put 6 (.int .i64 n4) #[.slice ta t.length tcap, .bool bo, .string op, .int .i64 n1, .int .i64 n2, .int .i64 n3, .int .i64 n4, .slice none 0 0, .slice none 0 0, .int .i64 (q.n : Nat)] rfl).put 7 (.slice sa ks kc) #[.slice ta t.length tcap, .bool bo, .string op, .int .i64 n1, .int .i64 n2, .int .i64 n3, .int .i64 n4, .slice sa ks kc, .slice none 0 0, .int .i64 (q.n : Nat)] rfl)
            go_wp2_with fail
            refine (fail_any _ b s _ _ L5.n1.at_).mono ?_
            rintro e w8 ⟨rfl, hf8, hq8⟩
            have L6 := L5.call hf8 hq8
            have hbd : 0 ≤ (failQ s (formQ s 8 (askQ s q)).2).bad := failQ_bad s _
            have HLD : Hid (loadQ s = (2, (failQ s (formQ s 8 (askQ s q)).2).bad.toNat)) := load_bad h4 HFM.out (by unfold endQ; rw [if_neg hk1]) hbd
            have hbd' : decide ((0 : Int) ≤ (failQ s (formQ s 8 (askQ s q)).2).bad) = true := by simpa using hbd
            generalize failQ s (formQ s 8 (askQ s q)).2 = q8 at L6 hq8 hbd hbd' HLD
            clear c0 c1 c2 c3 c4 c5 c6 c7 hf
            obtain ⟨c0, c1, c2, c3, c4, c5, c6, c7, hf, _⟩ := hq8.get
            go_wp2_with fail
            go_quiet (fail)
            go_wp2_with fail
            go_ret3
            rw [HLD.out]
            refine ⟨gb_drewN (gb_load hG4 HBE.out rfl L6.n1.fr) _, none, ?_, Or.inr ⟨by simp, rfl⟩⟩
            simp only [Int.toNat_of_nonneg hbd]
            rfl
      | true =>
        have HT2 : Hid (t.length ≤ 4 ∧ threadsQ s (5 - t.length) t q = thrQ s) := HT.out rfl
        have ht4 := HT2.out.1
        clear HT HF
        by_cases h4t : t.length = 4
        case' pos =>
          have h4b : ((t.length : Int) == 4) = true := by rw [h4t]; rfl
          have H4T : Hid (t.length = 4) := h4t
          clear h4t
          go_wp2_with fail
          refine (fail_any _ b s q _ LD.n1.at_).mono ?_
          rintro e w5 ⟨rfl, hf5, hq5⟩
          have LD5 := LD.call hf5 hq5
          obtain ⟨q5, hq5⟩ : ∃ q5, q5 = failQ s q := ⟨_, rfl⟩
          rw [← hq5] at LD5
          have HQ5 : Hid (q5 = if t.length = 4 then failQ s q else q) := by show _ = _; rw [if_pos H4T.out]; exact hq5
          clear hq5
          go_wp2_with fail
        case' neg =>
          have h4b : ((t.length : Int) == 4) = false := by rw [beq_eq_false_iff_ne]; omega
          go_wp2_with fail
          have LD5 := LD
          obtain ⟨q5, hq5⟩ : ∃ q5, q5 = q := ⟨_, rfl⟩
          rw [← hq5] at LD5
          have HQ5 : Hid (q5 = if t.length = 4 then failQ s q else q) := by show _ = _; rw [if_neg h4t]; exact hq5
          clear hq5
          obtain ⟨w5, hw5⟩ : ∃ w5, w5 = wr := ⟨_, rfl⟩
          rw [← hw5] at LD5 ⊢
          clear hw5
        all_goals
          have hb5 : b < w5.heap.size := heap_lt LD5.n1.at_.blk
          refine (need_any _ b s q5 _ LD5.n1.at_ 5 (by omega) (by omega) ⟨#[116, 104, 114, 101, 97, 100]⟩ rfl).mono ?_
          rintro e w6 ⟨rfl, tv6, hf6, hq6⟩
          have LD6 := LD5.call hf6 hq6
          have hb6 : b < w6.heap.size := heap_lt LD6.n1.at_.blk
          clear t0 t1 t2 t3 t4 t5 t6 t7 t8 t9 tf hTl
          go_wp2_with fail
          go_loopg [8, 9] 10 (fun k v8 v9 wr => ∃ (bb : Bool) (l : List RSt) (q : Q) (tv : Value), v9 = .bool bb ∧ FR b tv6 w6 tv wr ∧ QAt wr b s q tv ∧ wr.ownsRow w6.heap.size 209 6 v8 l.length (rsF l) ∧ Apart tv v8 ∧ k + l.length = 10 ∧ Hid (bb = true → l.length ≤ 8 ∧ stepsQ s (9 - l.length) l q = stepsQ s 9 [] (needQ s q5 5)) ∧ Hid (bb = false → l.length ≠ 0 ∧ l.length ≤ 9 ∧ (l, q) = stepsQ s 9 [] (needQ s q5 5)))
          case atStart => exact ⟨true, [], needQ s q5 5, tv6, rfl, FR.refl _ _ _, LD6.n1.at_, World.ownsRow_nil _ _ _ _, (fun k _ hk => by simp [Value.ownBlock] at hk), rfl, fun _ => ⟨by simp, rfl⟩, fun h => by simp at h⟩
          case round =>
            obtain ⟨bb, l, q7, tv7, rfl, F7, A7, own7, ap7, hkl, HT7, HF7⟩ := hrel
            obtain ⟨la, lcap, rfl⟩ := own_slice own7
            cases bb with
            | true =>
              have HT8 : Hid (l.length ≤ 8 ∧ stepsQ s (9 - l.length) l q7 = stepsQ s 9 [] (needQ s q5 5)) := HT7.out rfl
              have hl8 := HT8.out.1
              clear HT7 HF7
              by_cases h8t : l.length = 8
              case' pos =>
                have h8b : ((l.length : Int) == 8) = true := by rw [h8t]; rfl
                have H8T : Hid (l.length = 8) := h8t
                clear h8t
                go_wp2_with fail
                refine (fail_any _ b s q7 _ A7).mono ?_
                rintro e w8 ⟨rfl, hf8, A8⟩
                have F8 := F7.trans hf8
                have own8 := own_fr own7 hb6 ap7 hf8
                have ap8 := apart_fr own7 ap7 hf8
                obtain ⟨q8, hq8⟩ : ∃ q8, q8 = failQ s q7 := ⟨_, rfl⟩
                rw [← hq8] at A8
                have HQ8 : Hid (q8 = if l.length = 8 then failQ s q7 else q7) := by show _ = _; rw [if_pos H8T.out]; exact hq8
                have HB8 : Hid (l.length = 8 → 0 ≤ q8.bad) := fun _ => by rw [hq8]; exact failQ_bad s q7
                clear hq8
                go_wp2_with fail
              case' neg =>
                have h8b : ((l.length : Int) == 8) = false := by rw [beq_eq_false_iff_ne]; omega
                go_wp2_with fail
                have A8 := A7
                obtain ⟨q8, hq8⟩ : ∃ q8, q8 = q7 := ⟨_, rfl⟩
                rw [← hq8] at A8
                have HQ8 : Hid (q8 = if l.length = 8 then failQ s q7 else q7) := by show _ = _; rw [if_neg h8t]; exact hq8
                have HB8 : Hid (l.length = 8 → 0 ≤ q8.bad) := fun h => (h8t h).elim
                clear hq8
                have F8 := F7
                have own8 := own7
                have ap8 := ap7
                obtain ⟨w8, hw8⟩ : ∃ w8, w8 = wr := ⟨_, rfl⟩
                rw [← hw8] at A8 F8 own8 ⊢
                clear hw8
              all_goals
                refine (rstep_any _ b s q8 _ A8).mono ?_
                rintro e w9 ⟨rfl, tv9, hf9, A9⟩
                have F9 := F8.trans hf9
                have own9 := own_fr own8 hb6 ap8 hf9
                have ap9 := apart_fr own8 ap8 hf9
                have HGO : Hid (_ = _) := stepsQ_go s l q7 q8 hl8 HQ8.out
                have HLA : Hid (l.length = 8 → beginsQ s (stepQ s q8).2 = false) := fun h => stepsQ_last s q8 (HB8.out h)
                generalize stepQ s q8 = r at A9 HGO HLA ⊢
                obtain ⟨x, q9⟩ := r
                simp only at A9 HGO HLA ⊢
                obtain ⟨tx, htx⟩ := A9.own
                have hb9 : b < w9.heap.size := heap_lt A9.blk
                have hs9 : w6.heap.size ≤ w9.heap.size := F9.size
                unfold rsV
                go_wp2_with (at_builtin; go_must (refine wpList_append_lies _ (by rfl) _ _ 207 (by rfl) w6.heap.size 209 i0 _ 6 48 Tryz.underlying207 hi hz0 hz1 hz2 rfl (by decide) (.slice la l.length lcap) l.length (rsF l) (by rfl) ((own9.alloc _).alloc _) ⟨w9.heap.size + 1, 0, none⟩ 1 1 (rsC x) (by rfl) (by rfl) (World.news_of_block (new_at (by simp) _)) (fun u hu => by simp [rsC] at hu; rcases hu with rfl | rfl | rfl | rfl | rfl | rfl <;> rfl) (by decide) (by unfold maxLen; omega) (by omega) (by simp; omega) (w9.heap.size + 1 + 1) (by simp) ?_; intro g cap w10 hown hgrow hat hlt10))
                have A10 := ((A9.alloc _).alloc _).row hgrow (par_own own9 hb6) (fun g' e h' => ap9 g' h' e)
                have F10 := ((F9.alloc _).alloc _).row_new hgrow (fun g' e => (own9.lt g' e).1)
                have ap10 := apart_symm (apart_step (m := l.length + 1) (cap := cap) htx (apart_symm ap9) hat (by omega))
                refine (begins_any _ b s q9 _ A10).mono ?_
                rintro e w11 ⟨rfl, rfl⟩
                go_wp2_with fail
                go_roundg (gk - 1)
                case measure => omega
                case rel =>
                  refine ⟨beginsQ s q9, l ++ [x], q9, tv9, rfl, F10, A10, ?_, ?_, by simp; omega, ?_, ?_⟩
                  · rw [List.length_append, ← rsF_snoc]; exact hown
                  · exact ap10
                  · intro hbg
                    have h8n : l.length ≠ 8 := fun h => by have h9 := HLA.out h; rw [h9] at hbg; simp at hbg
                    exact ⟨by simp; omega, by rw [← HT8.out.2, HGO.out, if_pos hbg]⟩
                  · intro hbg
                    exact ⟨by simp, by simp; omega, by rw [← HT8.out.2, HGO.out, if_neg (by rw [hbg]; simp)]⟩
            | false =>
              have HF8 : Hid (l.length ≠ 0 ∧ l.length ≤ 9 ∧ (l, q7) = stepsQ s 9 [] (needQ s q5 5)) := HF7.out rfl
              have hl9 := HF8.out.2.1
              have hl0 := HF8.out.1
              clear HT7 HF7
              have LD7 := LD6.call F7 A7
              obtain ⟨g, rfl⟩ : ∃ g, la = some ⟨g, 0, none⟩ := by
                rcases own7.2 with ⟨_, h1⟩ | ⟨g, cap', cur, h1, _⟩
                · exact (hl0 h1).elim
                · simp at h1; exact ⟨g, h1.1⟩
              obtain ⟨t0, t1, t2, t3, t4, t5, t6, t7, t8, t9, tf⟩ := loc10 LD7.n1.res
              have hTl := heap_lt LD7.n1.res
              have hT6 := heap_lt LD6.n1.res
              have hts : ∀ k, (Value.slice ta t.length tcap).ownBlock = some k → k < w6.heap.size := fun k hk => (LD6.own.lt k hk).2
              have HGO : Hid (_ = _) := threadsQ_go s t q q5 l q7 ht4 HQ5.out HF8.out.2.2
              clear hl0
              go_wp2_with (at_builtin; go_must (refine wpList_append_lies _ (by rfl) _ _ 143 (by rfl) (w4.heap.size + 1) 207 j0 _ 1 24 Tryz.underlying143 hj hy0 hy1 hy2 rfl (by decide) (.slice ta t.length tcap) t.length xs (by rfl) (LD7.own.alloc _) ⟨wr.heap.size, 0, none⟩ 1 1 [.slice (some ⟨g, 0, none⟩) l.length lcap] (by rfl) (by rfl) (World.news_of_block (heap_alloc_new wr _)) (fun u hu => by simp at hu; subst hu; rfl) (by decide) (by unfold maxLen; omega) (by omega) (by simp; omega) (wr.heap.size + 1) (by simp) ?_; intro g2 cap2 w12 hown2 hgrow2 hat2 hlt12; have hT12 := heap_gb hgrow2 (heap_alloc_at LD7.n1.res _) (par_own LD7.own (by omega)); have e0 := cell_of hT12 0 _ rfl; have ef := frozen_of hT12))
              have LD12 := LD7.push own7 hl9 hT6 hts ap7 hgrow2 hown2 hat2
              refine (is_any _ b s q7 _ LD12.n1.at_ 5 (by omega) (by omega) ⟨#[116, 104, 114, 101, 97, 100]⟩ rfl).mono ?_
              rintro e w13 ⟨rfl, rfl⟩
              go_wp2_with fail
              go_roundg (kk - 1)
              case measure => have := HKK.out; omega
              case rel =>
                refine ⟨isQ s q7 5, t ++ [l], q7, tv7, _, _, rfl, LD12, by simp; omega, ?_, ?_⟩
                · intro hbg
                  have h4n : t.length ≠ 4 := fun h => by have h9 := threads_last h HQ5.out HF8.out.2.2; rw [h9] at hbg; simp at hbg
                  exact ⟨by simp; omega, by rw [← HT2.out.2, HGO.out, if_pos hbg]⟩
                · intro hbg
                  exact ⟨by simp; omega, by rw [← HT2.out.2, HGO.out, if_neg (by rw [hbg]; simp)]⟩
theorem rload_any (w : World) (s : ByteArray) :
    Calls Tryz.prog 66 #[.string s] w fun e w' => PostR w (loadQ s) e w' := (rload_anyC w s).mono (fun _ _ h => h.weak)
end Go.Proofs.YtmpaeladhoomoaaGreatDoor
