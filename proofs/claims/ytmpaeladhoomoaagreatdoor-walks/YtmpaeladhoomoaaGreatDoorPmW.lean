/-
  The program's machine: which registers a thread sets, which places a test names.
  The program's machine: which places a formula and a test name.
  The program's machine: which places a test names.
  The program's machine: the words of an outcome.
  The program's machine: the words of places.
  The program's machine: an outcome.
-/
import Derived.Test.YtmpaeladhoomoaaGreatDoorPmV
import Derived.Test.YtmpaeladhoomoaaGreatDoorPrX
import Derived.Laws.OwnMore
namespace Go.Proofs.YtmpaeladhoomoaaGreatDoor
open Go.RowKit

def setsS (x : St) (r : Nat) : Bool := decide (x.kind = 2 ∨ x.kind = 3 ∨ x.kind = 4) && decide (x.reg = r)
def namesS (x : St) (p : Nat) : Bool := decide (x.kind = 0 ∨ x.kind = 1 ∨ x.kind = 2 ∨ x.kind = 4) && decide (x.place = p)

set_option maxRecDepth 100000 in
set_option maxHeartbeats 2000000 in
theorem step_sets (w : World) (x : St) (r : Nat) (hk : x.kind ≤ 6) :
    Calls Tryz.prog 206 #[.agg #[.int .i64 (x.kind : Nat), .int .i64 (x.place : Nat), .int .i64 (x.reg : Nat), .int .i64 (x.digit : Nat), .int .i64 (x.count : Nat)], .int .i64 (r : Nat)] w fun e w' => e = .returned (.bool (setsS x r)) ∧ w.grownBy w' none := by
  obtain ⟨kd, pl, rg, dg, ct⟩ := x
  simp only at hk
  have hk : kd = 0 ∨ kd = 1 ∨ kd = 2 ∨ kd = 3 ∨ kd = 4 ∨ kd = 5 ∨ kd = 6 := by omega
  have HG : Hid (∀ o, w.grownBy (w.alloc o) none) := fun o => gb_alloc (gb_refl _ _) _
  by_cases hr : rg = r
  · have hr' : ((rg : Int) == (r : Int)) = true := by rw [beq_iff_eq]; omega
    have HR : Hid (rg = r) := hr
    clear hr
    rcases hk with rfl | rfl | rfl | rfl | rfl | rfl | rfl
    all_goals
      go_enter Tryz.func206, Tryz.ntmps206
      go_wp2_with fail
      go_ret
      refine ⟨?_, HG.out _⟩
      simp [setsS, HR.out]
  · have hr' : ((rg : Int) == (r : Int)) = false := by rw [beq_eq_false_iff_ne]; omega
    have HR : Hid (¬ rg = r) := hr
    clear hr
    rcases hk with rfl | rfl | rfl | rfl | rfl | rfl | rfl
    all_goals
      go_enter Tryz.func206, Tryz.ntmps206
      go_wp2_with fail
      go_ret
      refine ⟨?_, HG.out _⟩
      simp [setsS, HR.out]

set_option maxRecDepth 100000 in
set_option maxHeartbeats 2000000 in
theorem step_names (w : World) (x : St) (p : Nat) (hk : x.kind ≤ 6) :
    Calls Tryz.prog 207 #[.agg #[.int .i64 (x.kind : Nat), .int .i64 (x.place : Nat), .int .i64 (x.reg : Nat), .int .i64 (x.digit : Nat), .int .i64 (x.count : Nat)], .int .i64 (p : Nat)] w fun e w' => e = .returned (.bool (namesS x p)) ∧ w.grownBy w' none := by
  obtain ⟨kd, pl, rg, dg, ct⟩ := x
  simp only at hk
  have hk : kd = 0 ∨ kd = 1 ∨ kd = 2 ∨ kd = 3 ∨ kd = 4 ∨ kd = 5 ∨ kd = 6 := by omega
  have HG : Hid (∀ o, w.grownBy (w.alloc o) none) := fun o => gb_alloc (gb_refl _ _) _
  by_cases hr : pl = p
  · have hr' : ((pl : Int) == (p : Int)) = true := by rw [beq_iff_eq]; omega
    have HR : Hid (pl = p) := hr
    clear hr
    rcases hk with rfl | rfl | rfl | rfl | rfl | rfl | rfl
    all_goals
      go_enter Tryz.func207, Tryz.ntmps207
      go_wp2_with fail
      go_ret
      refine ⟨?_, HG.out _⟩
      simp [namesS, HR.out]
  · have hr' : ((pl : Int) == (p : Int)) = false := by rw [beq_eq_false_iff_ne]; omega
    have HR : Hid (¬ pl = p) := hr
    clear hr
    rcases hk with rfl | rfl | rfl | rfl | rfl | rfl | rfl
    all_goals
      go_enter Tryz.func207, Tryz.ntmps207
      go_wp2_with fail
      go_ret
      refine ⟨?_, HG.out _⟩
      simp [namesS, HR.out]

theorem any_step {f : St → Bool} (l : List St) (k : Nat) (x : St) (h : l[k]? = some x) : (l.drop k).any f = (f x || (l.drop (k + 1)).any f) := by
  obtain ⟨hk, hx⟩ := List.getElem?_eq_some_iff.1 h
  rw [List.drop_eq_getElem_cons hk, hx, List.any_cons]

set_option maxRecDepth 100000 in
set_option maxHeartbeats 2000000 in
theorem prog_sets (w : World) (pg : Nat) (ls : List (List St)) (hP : PT w pg ls) (i r : Nat) (l : List St) (hl : ls[i]? = some l) (hk : ∀ x ∈ l, x.kind ≤ 6) :
    Calls Tryz.prog 159 #[.pointer (some ⟨pg, 0, none⟩), .int .i64 (i : Nat), .int .i64 (r : Nat)] w fun e w' => e = .returned (.bool (l.any fun x => setsS x r)) ∧ w.grownBy w' none := by
  obtain ⟨ta, cap, t0, hT⟩ := hP
  obtain ⟨tg, sa, scap, rfl, t1, hl8, hT2⟩ := hT i l hl
  have hil := (List.getElem?_eq_some_iff.1 hl).1
  have hi2 : (i : Int) < (ls.length : Int) := by omega
  have hpl := World.block_lt_of_cell? w ⟨pg, 0, none⟩ t0
  have htl := World.block_lt_of_cell? w ⟨tg, i, none⟩ t1
  have HT2 : Hid (∀ (j : Nat) (x : St), l[j]? = some x → ∃ g, sa = some ⟨g, 0, none⟩ ∧ ∀ (o : Nat) (v : Value), (stCells x)[o]? = some v → w.cell? ⟨g, j * 5 + o, none⟩ = some v) := hT2
  have HK : Hid (∀ x ∈ l, x.kind ≤ 6) := hk
  clear hT hT2 hl hk
  go_enter Tryz.func159, Tryz.ntmps159
  go_wp2_with fail
  go_loopw [17] (fun v17 wr => ∃ k : Nat, v17 = .int .i64 (k : Nat) ∧ k ≤ l.length ∧ Hid (w.grownBy wr none) ∧ Hid ((l.any fun x => setsS x r) = (l.drop k).any fun x => setsS x r)) (fun v17 _ => l.length - (intOf v17).toNat)
  case atStart => exact ⟨0, rfl, Nat.zero_le _, gb_refl _ _, rfl⟩
  case round =>
    obtain ⟨k, rfl, hk, HG, HR⟩ := hrel
    by_cases hkl : k < l.length
    · have hk' : decide ((k : Int) < (l.length : Int)) = true := by simp; omega
      have hk2 : (k : Int) < (l.length : Int) := by omega
      obtain ⟨x, hx⟩ : ∃ x, l[k]? = some x := ⟨l[k], List.getElem?_eq_getElem hkl⟩
      obtain ⟨sg, rfl, hst⟩ := HT2.out k x hx
      have s0 := gb_cell HG.out (hst 0 _ rfl) (by simp)
      have s1 := gb_cell HG.out (hst 1 _ rfl) (by simp)
      have s2 := gb_cell HG.out (hst 2 _ rfl) (by simp)
      have s3 := gb_cell HG.out (hst 3 _ rfl) (by simp)
      have s4 := gb_cell HG.out (hst 4 _ rfl) (by simp)
      simp only [Nat.add_zero] at s0
      have hsl := World.block_lt_of_cell? _ _ s0
      have HX : Hid ((l.drop k).any (fun x => setsS x r) = (setsS x r || (l.drop (k + 1)).any fun x => setsS x r)) := any_step l k x hx
      have HKx : Hid (x.kind ≤ 6) := HK.out x (List.mem_of_getElem? hx)
      clear hx hst
      go_wp2_with fail
      refine (step_sets _ x r HKx.out).mono ?_
      rintro e w2 ⟨rfl, hg2⟩
      have HG2 : Hid (w.grownBy w2 none) := gb_trans (gb_alloc HG.out _) hg2
      clear hg2
      cases hs : setsS x r with
      | true =>
        have HS : Hid (setsS x r = true) := hs
        clear hs
        go_wp2_with fail
        go_ret
        refine ⟨?_, HG2.out⟩
        rw [HR.out, HX.out, HS.out]
        rfl
      | false =>
        have HS : Hid (setsS x r = false) := hs
        clear hs
        go_wp2_with fail
        refine ⟨⟨k + 1, by go_num, by omega, HG2.out, ?_⟩, by simp [intOf]; omega⟩
        show _ = _
        rw [HR.out, HX.out, HS.out, Bool.false_or]
    · have hk' : decide ((k : Int) < (l.length : Int)) = false := by simp; omega
      go_wp2_with fail
      go_ret
      refine ⟨?_, HG.out⟩
      rw [HR.out, List.drop_eq_nil_of_le (by omega)]
      rfl
end Go.Proofs.YtmpaeladhoomoaaGreatDoor

namespace Go.Proofs.YtmpaeladhoomoaaGreatDoor
open Go.RowKit

/-- Does a formula's text name a place? -/
def nmT (p : Nat) (t : Txt) : Bool := t.any fun x => x == UInt8.ofNat (119 + p)
theorem nmT_app (p : Nat) (a b : Txt) : nmT p (a ++ b) = (nmT p a || nmT p b) := by simp [nmT]
theorem nm_reg : ∀ x < 10, ∀ y < 4, ∀ z < 10, ∀ p < 4, nmT p (regT x y z) = false := by decide +kernel
theorem nm_plc : ∀ y < 4, ∀ z < 10, ∀ p < 4, nmT p (plcT y z) = decide (y = p) := by decide +kernel
theorem nm_join (p : Nat) (sep : Txt) (hs : nmT p sep = false) : ∀ ts : List Txt, nmT p (joinT sep ts) = ts.any (nmT p) := by
  intro ts
  induction ts with
  | nil => rfl
  | cons x r ih =>
    cases r with
    | nil => simp [joinT]
    | cons y r2 =>
      rw [joinT, nmT_app, nmT_app, hs, ih]
      simp
theorem nm_seps : ∀ p < 4, nmT p [32, 111, 114, 32] = false ∧ nmT p [32, 97, 110, 100, 32] = false ∧ nmT p [110, 111, 116, 32] = false ∧ nmT p [40] = false ∧ nmT p [41] = false ∧ nmT p [] = false := by decide +kernel
theorem nm_shape (p : Nat) (hp : p < 4) (n0 : Int) (ts : List Txt) : nmT p (shapeT n0 ts) = ts.any (nmT p) := by
  obtain ⟨h1, h2, h3, h4, h5, h6⟩ := nm_seps p hp
  unfold shapeT
  split
  · exact nm_join p _ h1 ts
  · split
    · exact nm_join p _ h2 ts
    · split
      · rw [nmT_app, h3, nm_join p _ h6]; simp
      · rw [nmT_app, nmT_app, h4, h5, nm_join p _ h6]; simp
theorem any_from {f : Txt → Bool} (l : List Txt) (k : Nat) (x : Txt) (h : l[k]? = some x) : (l.drop k).any f = (f x || (l.drop (k + 1)).any f) := by
  obtain ⟨hk, hx⟩ := List.getElem?_eq_some_iff.1 h
  rw [List.drop_eq_getElem_cons hk, hx, List.any_cons]
def NamesSaid (p d : Nat) : Prop := ∀ (w : World) (ok : Nat → Prop) (cs : List Value) (t : Txt), FRep d w ok cs t → (∀ x, ok x → x < w.heap.size) →
  Calls Tryz.prog 208 #[.agg cs.toArray, .int .i64 (p : Nat)] w fun e w' => e = .returned (.bool (nmT p t)) ∧ w.grownBy w' none

set_option maxRecDepth 100000 in
set_option maxHeartbeats 4000000 in
theorem form_names (p : Nat) (hp : p < 4) : ∀ d, NamesSaid p d := by
  intro d
  induction d with
  | zero => intro w ok cs t h; exact h.elim
  | succ d ih =>
    intro w ok cs t h hok
    have HI : Hid (NamesSaid p d) := ih
    clear ih
    rcases h with ⟨x, y, z, hx, hy, hz, rfl, rfl⟩ | ⟨y, z, hy, hz, rfl, rfl⟩ | ⟨n0, g, c, ts, xs, h0, h3, hts, hlen, rfl, rfl, hg, hcell, hkids⟩
    · have HR : Hid (nmT p (regT x y z) = false) := nm_reg x (by omega) y (by omega) z (by omega) p hp
      clear hok
      go_enter Tryz.func208, Tryz.ntmps208
      go_wp2_with fail
      go_loopw [10] (fun v10 wr => v10 = .int .i64 0 ∧ Hid (wr.heap[w.heap.size]? = some (.cells #[.int .i64 4, .slice none 0 0, .int .i64 (x : Nat), .int .i64 (y : Nat), .int .i64 0, .int .i64 (z : Nat)] 97 (0, 0))) ∧ Hid (w.grownBy wr none)) (fun _ _ => 0)
      case atStart => exact ⟨rfl, heap_alloc_new w _, gb_alloc (gb_refl _ _) _⟩
      case round =>
        obtain ⟨rfl, HF, HG⟩ := hrel
        have f0 := cell_of HF.out 0 (.int .i64 4) rfl
        have hl := heap_lt HF.out
        go_wp2_with fail
        go_ret
        refine ⟨?_, HG.out⟩
        rw [HR.out]
        rfl
    · have HR : Hid (nmT p (plcT y z) = decide (y = p)) := nm_plc y (by omega) z (by omega) p hp
      clear hok
      by_cases hyp : y = p
      · have hyp' : ((y : Int) == (p : Int)) = true := by rw [beq_iff_eq]; omega
        have HY : Hid (y = p) := hyp
        clear hyp
        go_enter Tryz.func208, Tryz.ntmps208
        go_wp2_with fail
        go_loopw [10] (fun v10 wr => v10 = .int .i64 0 ∧ Hid (wr.heap[w.heap.size]? = some (.cells #[.int .i64 5, .slice none 0 0, .int .i64 0, .int .i64 0, .int .i64 (y : Nat), .int .i64 (z : Nat)] 97 (0, 0))) ∧ Hid (w.grownBy wr none)) (fun _ _ => 0)
        case atStart => exact ⟨rfl, heap_alloc_new w _, gb_alloc (gb_refl _ _) _⟩
        case round =>
          obtain ⟨rfl, HF, HG⟩ := hrel
          have f0 := cell_of HF.out 0 (.int .i64 5) rfl
          have f4 := cell_of HF.out 4 (.int .i64 (y : Nat)) rfl
          have hl := heap_lt HF.out
          go_wp2_with fail
          go_ret
          refine ⟨?_, HG.out⟩
          rw [HR.out, decide_eq_true HY.out]
          rfl
      · have hyp' : ((y : Int) == (p : Int)) = false := by rw [beq_eq_false_iff_ne]; omega
        have HY : Hid (¬ y = p) := hyp
        clear hyp
        go_enter Tryz.func208, Tryz.ntmps208
        go_wp2_with fail
        go_loopw [10] (fun v10 wr => v10 = .int .i64 0 ∧ Hid (wr.heap[w.heap.size]? = some (.cells #[.int .i64 5, .slice none 0 0, .int .i64 0, .int .i64 0, .int .i64 (y : Nat), .int .i64 (z : Nat)] 97 (0, 0))) ∧ Hid (w.grownBy wr none)) (fun _ _ => 0)
        case atStart => exact ⟨rfl, heap_alloc_new w _, gb_alloc (gb_refl _ _) _⟩
        case round =>
          obtain ⟨rfl, HF, HG⟩ := hrel
          have f0 := cell_of HF.out 0 (.int .i64 5) rfl
          have f4 := cell_of HF.out 4 (.int .i64 (y : Nat)) rfl
          have hl := heap_lt HF.out
          go_wp2_with fail
          go_ret
          refine ⟨?_, HG.out⟩
          rw [HR.out, decide_eq_false HY.out]
          rfl
    · have HR : Hid (nmT p (shapeT n0 ts) = ts.any (nmT p)) := nm_shape p hp n0 ts
      have HK : Hid (Kids (fun c u => FRep d w ok c u) xs ts) := hkids
      have HC : Hid (∀ (o : Nat) (v : Value), xs[o]? = some v → w.cell? ⟨g, o, none⟩ = some v) := hcell
      have HOK : Hid (∀ x, ok x → x < w.heap.size) := hok
      have hn5 : (n0 == 5) = false := by rw [beq_eq_false_iff_ne]; omega
      clear hkids hcell hok hg hts
      go_enter Tryz.func208, Tryz.ntmps208
      go_wp2_with fail
      go_loopw [10] (fun v10 wr => ∃ i : Nat, v10 = .int .i64 (i : Nat) ∧ i ≤ ts.length ∧ Hid (wr.heap[w.heap.size]? = some (.cells #[.int .i64 n0, .slice (some ⟨g, 0, none⟩) ts.length c, .int .i64 0, .int .i64 0, .int .i64 0, .int .i64 0] 97 (0, 0))) ∧ Hid (w.grownBy wr none) ∧ Hid (ts.any (nmT p) = (ts.drop i).any (nmT p))) (fun v10 _ => ts.length - (intOf v10).toNat)
      case atStart => exact ⟨0, rfl, Nat.zero_le _, heap_alloc_new w _, gb_alloc (gb_refl _ _) _, rfl⟩
      case round =>
        obtain ⟨i, rfl, hi, HF0, HG, HA⟩ := hrel
        have f0 := cell_of HF0.out 0 (.int .i64 n0) rfl
        have hl0 := heap_lt HF0.out
        by_cases hin : i < ts.length
        · have hi' : decide ((i : Int) < (ts.length : Int)) = true := by simp; omega
          have hi2 : (i : Int) < (ts.length : Int) := by omega
          obtain ⟨u, hu⟩ : ∃ u, ts[i]? = some u := ⟨ts[i], List.getElem?_eq_getElem hin⟩
          obtain ⟨cs, h6, hF, hcs⟩ := HK.out.get i u hu
          obtain ⟨m0, a, k, c2, m2, m3, m4, m5, rfl⟩ := hF.form
          have hq : ∀ o v, [Value.int .i64 m0, .slice a k c2, .int .i64 m2, .int .i64 m3, .int .i64 m4, .int .i64 m5][o]? = some v → _ = some v := fun o v hv => gb_cell HG.out (HC.out _ _ (hcs o v hv)) (by simp)
          have x0 := hq 0 _ rfl
          have x1 := hq 1 _ rfl
          have x2 := hq 2 _ rfl
          have x3 := hq 3 _ rfl
          have x4 := hq 4 _ rfl
          have x5 := hq 5 _ rfl
          simp only [Nat.add_zero] at x0
          have hgl := World.block_lt_of_cell? _ _ x0
          have HF : Hid (FRep d w ok [.int .i64 m0, .slice a k c2, .int .i64 m2, .int .i64 m3, .int .i64 m4, .int .i64 m5] u) := hF
          have HX : Hid ((ts.drop i).any (nmT p) = (nmT p u || (ts.drop (i + 1)).any (nmT p))) := any_from ts i u hu
          clear hq hcs h6 hF hu
          rename World => wr
          go_wp2_with fail
          have hG2 := gb_alloc HG.out (.cells #[.int .i64 m0, .slice a k c2, .int .i64 m2, .int .i64 m3, .int .i64 m4, .int .i64 m5] 97)
          have hin2 := HI.out _ ok _ u (HF.out.mono (w' := (wr.alloc (.cells #[.int .i64 m0, .slice a k c2, .int .i64 m2, .int .i64 m3, .int .i64 m4, .int .i64 m5] 97))) (fun x hx => hx) (fun x hx => hG2.block x (HOK.out x hx) (by simp))) (fun x hx => Nat.lt_of_lt_of_le (HOK.out x hx) hG2.size)
          refine hin2.mono ?_
          clear hin2
          rintro e w3 ⟨rfl, hg3⟩
          have HG3 : Hid (w.grownBy w3 none) := gb_trans hG2 hg3
          have HF3 : Hid (w3.heap[w.heap.size]? = some (.cells #[.int .i64 n0, .slice (some ⟨g, 0, none⟩) ts.length c, .int .i64 0, .int .i64 0, .int .i64 0, .int .i64 0] 97 (0, 0))) := heap_gb hg3 (heap_alloc_at HF0.out _) (by simp)
          clear hG2 hg3
          cases hs : nmT p u with
          | true =>
            have HS : Hid (nmT p u = true) := hs
            clear hs
            go_wp2_with fail
            go_ret
            refine ⟨?_, HG3.out⟩
            rw [HR.out, HA.out, HX.out, HS.out]
            rfl
          | false =>
            have HS : Hid (nmT p u = false) := hs
            clear hs
            go_wp2_with fail
            refine ⟨⟨i + 1, by go_num, by omega, HF3.out, HG3.out, ?_⟩, by simp [intOf]; omega⟩
            show _ = _
            rw [HA.out, HX.out, HS.out, Bool.false_or]
        · have hi' : decide ((i : Int) < (ts.length : Int)) = false := by simp; omega
          go_wp2_with fail
          go_ret
          refine ⟨?_, HG.out⟩
          rw [HR.out, HA.out, List.drop_eq_nil_of_le (by omega)]
          rfl
end Go.Proofs.YtmpaeladhoomoaaGreatDoor

namespace Go.Proofs.YtmpaeladhoomoaaGreatDoor
open Go.RowKit

def namesL (p : Nat) (l : List St) : Bool := l.any fun x => namesS x p
def namesP (p : Nat) (ls : List (List St)) (ft : Txt) : Bool := ls.any (namesL p) || nmT p ft
theorem anyL_step {f : List St → Bool} (l : List (List St)) (k : Nat) (x : List St) (h : l[k]? = some x) : (l.drop k).any f = (f x || (l.drop (k + 1)).any f) := by
  obtain ⟨hk, hx⟩ := List.getElem?_eq_some_iff.1 h
  rw [List.drop_eq_getElem_cons hk, hx, List.any_cons]

set_option maxRecDepth 100000 in
set_option maxHeartbeats 4000000 in
theorem prog_names (w : World) (ok : Nat → Prop) (pg : Nat) (ls : List (List St)) (fa : Bool) (ft : Txt) (h : ProgRep w ok pg ls fa ft) (hok : ∀ x, ok x → x < w.heap.size) (hk : ∀ l ∈ ls, ∀ x ∈ l, x.kind ≤ 6) (hls : ls.length ≤ 4) (p : Nat) (hp : p < 4) :
    Calls Tryz.prog 161 #[.pointer (some ⟨pg, 0, none⟩), .int .i64 (p : Nat)] w fun e w' => e = .returned (.bool (namesP p ls ft)) ∧ w.grownBy w' none := by
  have HP : Hid (PT w pg ls) := h.pt
  obtain ⟨ta, cap, xs, n0, fa2, fk, fc, n2, n3, n4, n5, d, hpg, _, _, _, hF⟩ := h.ex
  have HPG : Hid (w.heap[pg]? = some (.cells #[.slice ta ls.length cap, .bool fa, .int .i64 n0, .slice fa2 fk fc, .int .i64 n2, .int .i64 n3, .int .i64 n4, .int .i64 n5] 99 (0, 0))) := hpg
  have HF : Hid (FRep d w ok [.int .i64 n0, .slice fa2 fk fc, .int .i64 n2, .int .i64 n3, .int .i64 n4, .int .i64 n5] ft) := hF
  have HOK : Hid (∀ x, ok x → x < w.heap.size) := hok
  have HK : Hid (∀ l ∈ ls, ∀ x ∈ l, x.kind ≤ 6) := hk
  have t0 := cell_of hpg 0 (.slice ta ls.length cap) rfl
  have hpl := heap_lt hpg
  clear h hpg hF hok hk
  go_enter Tryz.func161, Tryz.ntmps161
  go_wp2_with fail
  go_loopw [14] (fun v14 wr => ∃ i : Nat, v14 = .int .i64 (i : Nat) ∧ i ≤ ls.length ∧ Hid (w.grownBy wr none) ∧ Hid (ls.any (namesL p) = (ls.drop i).any (namesL p))) (fun v14 _ => ls.length - (intOf v14).toNat)
  case atStart => exact ⟨0, rfl, Nat.zero_le _, gb_refl _ _, rfl⟩
  case round =>
    obtain ⟨i, rfl, hi, HG, HA⟩ := hrel
    rename World => wr
    by_cases hil : i < ls.length
    · have hi' : decide ((i : Int) < (ls.length : Int)) = true := by simp; omega
      have hi2 : (i : Int) < (ls.length : Int) := by omega
      obtain ⟨l, hl⟩ : ∃ l, ls[i]? = some l := ⟨ls[i], List.getElem?_eq_getElem hil⟩
      obtain ⟨ta', cap', t0', hT⟩ := HP.out
      obtain ⟨rfl, rfl⟩ : ta' = ta ∧ cap' = cap := by
        have := t0'.symm.trans t0
        simp at this
        exact this
      obtain ⟨tg, sa, scap, rfl, t1, hl8, hT2⟩ := hT i l hl
      have b1 := gb_cell HG.out t1 (by simp)
      have htl := World.block_lt_of_cell? _ _ b1
      have HT2 : Hid (∀ (j : Nat) (x : St), l[j]? = some x → ∃ g, sa = some ⟨g, 0, none⟩ ∧ ∀ (o : Nat) (v : Value), (stCells x)[o]? = some v → w.cell? ⟨g, j * 5 + o, none⟩ = some v) := hT2
      have HKl : Hid (∀ x ∈ l, x.kind ≤ 6) := HK.out l (List.mem_of_getElem? hl)
      have HX : Hid ((ls.drop i).any (namesL p) = (namesL p l || (ls.drop (i + 1)).any (namesL p))) := anyL_step ls i l hl
      clear hT hT2 t0' t1 hl
      go_wp2_with fail
      go_loopw [20] (fun v20 wq => ∃ k : Nat, v20 = .int .i64 (k : Nat) ∧ k ≤ l.length ∧ Hid (w.grownBy wq none) ∧ Hid (namesL p l = (l.drop k).any fun x => namesS x p)) (fun v20 _ => l.length - (intOf v20).toNat)
      case atStart => exact ⟨0, rfl, Nat.zero_le _, HG.out, rfl⟩
      case round =>
        rename World => wq
        obtain ⟨k, rfl, hk, HGq, HR⟩ := hrel
        by_cases hkl : k < l.length
        · have hk' : decide ((k : Int) < (l.length : Int)) = true := by simp; omega
          have hk2 : (k : Int) < (l.length : Int) := by omega
          obtain ⟨x, hx⟩ : ∃ x, l[k]? = some x := ⟨l[k], List.getElem?_eq_getElem hkl⟩
          obtain ⟨sg, rfl, hst⟩ := HT2.out k x hx
          have s0 := gb_cell HGq.out (hst 0 _ rfl) (by simp)
          have s1 := gb_cell HGq.out (hst 1 _ rfl) (by simp)
          have s2 := gb_cell HGq.out (hst 2 _ rfl) (by simp)
          have s3 := gb_cell HGq.out (hst 3 _ rfl) (by simp)
          have s4 := gb_cell HGq.out (hst 4 _ rfl) (by simp)
          simp only [Nat.add_zero] at s0
          have hsl := World.block_lt_of_cell? _ _ s0
          have HXs : Hid ((l.drop k).any (fun x => namesS x p) = (namesS x p || (l.drop (k + 1)).any fun x => namesS x p)) := any_step l k x hx
          have HKx : Hid (x.kind ≤ 6) := HKl.out x (List.mem_of_getElem? hx)
          clear hx hst
          go_wp2_with fail
          refine (step_names _ x p HKx.out).mono ?_
          rintro e w2 ⟨rfl, hg2⟩
          have HG2 : Hid (w.grownBy w2 none) := gb_trans (gb_alloc HGq.out _) hg2
          clear hg2
          cases hs : namesS x p with
          | true =>
            have HS : Hid (namesP p ls ft = true) := by
              show _ = _
              unfold namesP
              rw [HA.out, HX.out, HR.out, HXs.out, hs]
              rfl
            clear hs
            go_wp2_with fail
            go_ret
            refine ⟨?_, HG2.out⟩
            rw [HS.out]
            rfl
          | false =>
            have HS : Hid (namesS x p = false) := hs
            clear hs
            go_wp2_with fail
            refine ⟨⟨k + 1, by go_num, by omega, HG2.out, ?_⟩, by simp [intOf]; omega⟩
            show _ = _
            rw [HR.out, HXs.out, HS.out, Bool.false_or]
        · have hk' : decide ((k : Int) < (l.length : Int)) = false := by simp; omega
          have HS : Hid (namesL p l = false) := by
            show _ = _
            rw [HR.out, List.drop_eq_nil_of_le (by omega)]
            rfl
          go_wp2_with fail
          refine ⟨⟨i + 1, by go_num, by omega, HGq.out, ?_⟩, by simp [intOf]; omega⟩
          show _ = _
          rw [HA.out, HX.out, HS.out, Bool.false_or]
    · have hi' : decide ((i : Int) < (ls.length : Int)) = false := by simp; omega
      have hpgr := heap_gb HG.out HPG.out (by simp)
      have f2 := cell_of hpgr 2 (.int .i64 n0) rfl
      have f3 := cell_of hpgr 3 (.slice fa2 fk fc) rfl
      have f4 := cell_of hpgr 4 (.int .i64 n2) rfl
      have f5 := cell_of hpgr 5 (.int .i64 n3) rfl
      have f6 := cell_of hpgr 6 (.int .i64 n4) rfl
      have f7 := cell_of hpgr 7 (.int .i64 n5) rfl
      have hplr := heap_lt hpgr
      clear hpgr
      go_wp2_with fail
      refine (form_names p hp d _ ok _ ft (HF.out.mono (fun x hx => hx) (fun x hx => HG.out.block x (HOK.out x hx) (by simp))) (fun x hx => Nat.lt_of_lt_of_le (HOK.out x hx) HG.out.size)).mono ?_
      rintro e w2 ⟨rfl, hg2⟩
      go_wp2_with fail
      go_ret
      refine ⟨?_, gb_trans HG.out hg2⟩
      unfold namesP
      rw [HA.out, List.drop_eq_nil_of_le (by omega)]
      rfl
end Go.Proofs.YtmpaeladhoomoaaGreatDoor

namespace Go.Proofs.YtmpaeladhoomoaaGreatDoor
open Go.RowKit

def hasT (t : Txt) (v : Nat) : Txt := t ++ [61] ++ canon 4 v
theorem canonB_eq (k n : Nat) : canonB k n = bT (canon k n) := rfl

set_option maxRecDepth 100000 in
theorem ma_has (w : World) (t : Txt) (ht : t.length ≤ 1000) (v : Nat) (hv : v ≤ 9) :
    Calls Tryz.prog 160 #[.string (bT t), .int .u8 (v : Nat)] w fun e w' => e = .returned (.string (bT (hasT t v))) ∧ w' = w := by
  have z4 := size4 v
  have zt := bT_size t
  have hw := wrap_u8 v (by omega)
  go_enter Tryz.func160, Tryz.ntmps160
  go_wp2_with fail
  refine (itoa_any _ v hv).mono ?_
  rintro e w1 ⟨rfl, rfl⟩
  go_wp2_with fail
  go_ret
  refine ⟨?_, rfl⟩
  show Ending.returned (.string (bT t ++ bT [61] ++ bT (canon 4 v))) = _
  rw [bT_app, bT_app]
  rfl

def strL (l : List Txt) : List Value := l.map fun t => .string (bT t)
theorem strL_app (a b : List Txt) : strL (a ++ b) = strL a ++ strL b := by simp [strL]
/-- What a thread's register is said to be. -/
def rwT (i r v : Nat) : Txt := hasT (canon 4 i ++ [58] ++ canon 3 r) v
theorem has_reg (w : World) (i r v : Nat) (hv : v ≤ 9) : Calls Tryz.prog 160 #[.string (canonB 4 i ++ ⟨#[58]⟩ ++ canonB 3 r), .int .u8 (v : Nat)] w fun e w' => e = .returned (.string (bT (rwT i r v))) ∧ w' = w := by
  have := ma_has w (canon 4 i ++ [58] ++ canon 3 r) (by show (canon 4 i ++ [58] ++ canon 3 r).length ≤ 1000; simp [canon]) v hv
  rw [← bT_app, ← bT_app] at this
  exact this
def regW (c : Nat → Nat) (i : Nat) (l : List St) (k : Nat) : List Txt := (List.range k).filterMap fun r => if (l.any fun x => setsS x r) = true then some (rwT i r (c (i * 22 + 1 + r))) else none
theorem regW_succ (c : Nat → Nat) (i : Nat) (l : List St) (k : Nat) : regW c i l (k + 1) = regW c i l k ++ (if (l.any fun x => setsS x k) = true then [rwT i k (c (i * 22 + 1 + k))] else []) := by
  unfold regW
  rw [List.range_succ, List.filterMap_append]
  congr 1
  by_cases h : (l.any fun x => setsS x k) = true
  · rw [if_pos h, List.filterMap_cons, if_pos h]
    rfl
  · rw [if_neg h, List.filterMap_cons, if_neg h]
    rfl
theorem regW_len (c : Nat → Nat) (i : Nat) (l : List St) (k : Nat) : (regW c i l k).length ≤ k := by
  unfold regW
  exact Nat.le_trans (List.length_filterMap_le _ _) (by simp)
def regWs (c : Nat → Nat) (ls : List (List St)) (k : Nat) : List Txt := (List.range k).flatMap fun i => regW c i (ls.getD i []) 4
theorem regWs_succ (c : Nat → Nat) (ls : List (List St)) (k : Nat) (l : List St) (h : ls[k]? = some l) : regWs c ls (k + 1) = regWs c ls k ++ regW c k l 4 := by
  unfold regWs
  rw [List.range_succ, List.flatMap_append]
  simp [List.getD_eq_getElem?_getD, h]

set_option maxRecDepth 100000 in
set_option maxHeartbeats 8000000 in
theorem ma_registerWords (w : World) (pg : Nat) (ls : List (List St)) (hP : PT w pg ls) (c : Nat → Nat) (hb : ∀ i r, i < ls.length → r < 4 → c (i * 22 + 1 + r) ≤ 9) (model : Nat) (hls : ls.length ≤ 4) (hk : ∀ l ∈ ls, ∀ x ∈ l, x.kind ≤ 6) :
    Calls Tryz.prog 98 #[.agg #[.pointer (some ⟨pg, 0, none⟩), .int .i64 (model : Nat)], .agg (u8A 92 c)] w fun e w' => ∃ oa n cap, e = .returned (.slice oa n cap) ∧ n ≤ 16 ∧ w'.ownsRow w.heap.size 9 1 (.slice oa n cap) n (strL (regWs c ls ls.length)) ∧ w.grownBy w' none := by
  obtain ⟨i0, hi0, hz0, hz1, hz2⟩ := info_parts infoString
  have HP : Hid (PT w pg ls) := hP
  obtain ⟨ta, tcap, t0, _⟩ := hP
  have hpl := World.block_lt_of_cell? w ⟨pg, 0, none⟩ t0
  obtain ⟨W, hW⟩ : ∃ W, W = (w.alloc (.cells #[.pointer (some ⟨pg, 0, none⟩), .int .i64 (model : Nat)] 76)).alloc (.cells (u8A 92 c) 120) := ⟨_, rfl⟩
  have HB0 : Hid (Blk W (w.heap.size + 1) 120 92 c) := by rw [hW]; exact new_at (by simp) _
  have HM0 : Hid (W.heap[w.heap.size]? = some (.cells #[.pointer (some ⟨pg, 0, none⟩), .int .i64 (model : Nat)] 76 (0, 0))) := by rw [hW]; exact heap_alloc_at (heap_alloc_new w _) _
  have HG0 : Hid (w.grownBy W none) := by rw [hW]; exact gb_alloc (gb_alloc (gb_refl _ _) _) _
  have HW : Hid (W = (w.alloc (.cells #[.pointer (some ⟨pg, 0, none⟩), .int .i64 (model : Nat)] 76)).alloc (.cells (u8A 92 c) 120)) := hW
  have HB : Hid (∀ i r, i < ls.length → r < 4 → c (i * 22 + 1 + r) ≤ 9) := hb
  have HK : Hid (∀ l ∈ ls, ∀ x ∈ l, x.kind ≤ 6) := hk
  clear hW hb hk
  go_enter Tryz.func98, Tryz.ntmps98
  go_wp2_with fail
  rw [← HW.out]
  go_loopw [5, 15] (fun v5 v15 wr => ∃ (i : Nat) (oa : Option Addr) (cap n : Nat), v15 = .int .i64 (i : Nat) ∧ i ≤ ls.length ∧ v5 = .slice oa n cap ∧ n ≤ 4 * i ∧ Hid (w.grownBy wr none) ∧ Hid (Blk wr (w.heap.size + 1) 120 92 c) ∧ Hid (wr.heap[w.heap.size]? = some (.cells #[.pointer (some ⟨pg, 0, none⟩), .int .i64 (model : Nat)] 76 (0, 0))) ∧ Hid (wr.ownsRow (w.heap.size + 1 + 1) 9 1 (.slice oa n cap) n (strL (regWs c ls i)))) (fun _ v15 _ => ls.length - (intOf v15).toNat)
  case atStart => exact ⟨0, none, 0, 0, rfl, by omega, rfl, by omega, HG0.out, HB0.out, HM0.out, World.ownsRow_nil _ _ _ _⟩
  case round =>
    rename World => wr
    obtain ⟨i, oa, cap, n, rfl, hi, rfl, hn4, HG, HBr, HMr, HO⟩ := hrel
    by_cases hil : i < ls.length
    · have hil' : decide ((i : Int) < (ls.length : Int)) = true := by simp; omega
      obtain ⟨l, hl⟩ : ∃ l, ls[i]? = some l := ⟨ls[i], List.getElem?_eq_getElem hil⟩
      have HL : Hid (ls[i]? = some l) := hl
      have HKl : Hid (∀ x ∈ l, x.kind ≤ 6) := HK.out l (List.mem_of_getElem? hl)
      have hi4 : (i : Int) < 4 := by omega
      clear hl t0
      go_wp2_with fail
      go_loopw [5, 18] (fun v5 v18 wq => ∃ (r : Nat) (ob : Option Addr) (cb nb : Nat), v18 = .int .i64 (r : Nat) ∧ r ≤ 4 ∧ v5 = .slice ob nb cb ∧ nb ≤ 4 * i + r ∧ Hid (w.grownBy wq none) ∧ Hid (Blk wq (w.heap.size + 1) 120 92 c) ∧ Hid (wq.heap[w.heap.size]? = some (.cells #[.pointer (some ⟨pg, 0, none⟩), .int .i64 (model : Nat)] 76 (0, 0))) ∧ Hid (wq.ownsRow (w.heap.size + 1 + 1) 9 1 (.slice ob nb cb) nb (strL (regWs c ls i ++ regW c i l r)))) (fun _ v18 _ => 4 - (intOf v18).toNat)
      case atStart => exact ⟨0, oa, cap, n, rfl, by omega, rfl, by omega, HG.out, HBr.out, HMr.out, by show World.ownsRow _ _ _ _ _ _ _; simpa [regW] using HO.out⟩
      case round =>
        rename World => wq
        obtain ⟨r, ob, cb, nb, rfl, hr, rfl, hnb, HGq, HBq, HMq, HOq⟩ := hrel
        have m0 := cell_of HMq.out 0 (.pointer (some ⟨pg, 0, none⟩)) rfl
        have hlM := heap_lt HMq.out
        have hlB := HBq.out.lt
        by_cases hr4 : r < 4
        · have hr' : decide ((r : Int) < 4) = true := by simp; omega
          have hr2 : (r : Int) < 4 := by omega
          have HSE : Hid (Calls Tryz.prog 159 #[.pointer (some ⟨pg, 0, none⟩), .int .i64 (i : Nat), .int .i64 (r : Nat)] wq fun e w' => e = .returned (.bool (l.any fun x => setsS x r)) ∧ wq.grownBy w' none) := prog_sets wq pg ls (HP.out.grow HGq.out) i r l HL.out HKl.out
          go_wp2_with fail
          refine HSE.out.mono ?_
          rintro e w2 ⟨rfl, hg2⟩
          have HG2 : Hid (w.grownBy w2 none) := gb_trans HGq.out hg2
          have HB2 : Hid (Blk w2 (w.heap.size + 1) 120 92 c) := HBq.out.gb hg2 (by simp)
          have HM2 : Hid (w2.heap[w.heap.size]? = some (.cells #[.pointer (some ⟨pg, 0, none⟩), .int .i64 (model : Nat)] 76 (0, 0))) := heap_gb hg2 HMq.out (by simp)
          have HO2 : Hid (w2.ownsRow (w.heap.size + 1 + 1) 9 1 (.slice ob nb cb) nb (strL (regWs c ls i ++ regW c i l r))) := own_at_u HOq.out (fun x hx => hg2.block x (HOq.out.lt x hx).2 (by simp))
          have hs2 := HG2.out.size
          have hl2 := HB2.out.lt
          clear hg2 m0
          cases hs : (l.any fun x => setsS x r) with
          | false =>
            have HS : Hid (regW c i l (r + 1) = regW c i l r) := by show _ = _; rw [regW_succ, hs]; simp
            clear hs
            as_aux_lemma =>
            go_wp2_with fail
            refine ⟨⟨r + 1, ob, cb, nb, by go_num, by omega, rfl, by omega, HG2.out, HB2.out, HM2.out, ?_⟩, by simp [intOf]; omega⟩
            show World.ownsRow _ _ _ _ _ _ _
            rw [HS.out]
            exact HO2.out
          | true =>
            have HS : Hid (regW c i l (r + 1) = regW c i l r ++ [rwT i r (c (i * 22 + 1 + r))]) := by show _ = _; rw [regW_succ, hs]; simp
            clear hs
            have q0 := HB2.out.cell (i * 22 + 1 + r) (by omega)
            have HV : Hid (c (i * 22 + 1 + r) ≤ 9) := HB.out i r hil hr4
            have z3 := size3 r
            have z4 := size4 i
            as_aux_lemma =>
            go_wp2_with fail
            refine (itoa_any _ i (by omega)).mono ?_
            rintro e w3 ⟨rfl, rfl⟩
            go_wp2_with fail
            refine (registerName_any _ r (by omega)).mono ?_
            rintro e w4 ⟨rfl, rfl⟩
            go_wp2_with fail
            refine (has_reg _ i r _ HV.out).mono ?_
            rintro e w5 ⟨rfl, rfl⟩
            go_wp2_with (at_builtin; go_must (refine wpList_append_lies _ (by rfl) _ _ 39 (by rfl) (w.heap.size + 1 + 1) 9 i0 _ 1 16 Tryz.underlying39 hi0 hz0 hz1 hz2 rfl (by decide) (.slice ob nb cb) nb (strL (regWs c ls i ++ regW c i l r)) (by rfl) (own_at_u HO2.out (fun y hy => Below.heap_alloc _ _ _ (HO2.out.lt y hy).2)) ⟨w5.heap.size, 0, none⟩ 1 1 [.string (bT (rwT i r (c (i * 22 + 1 + r))))] (by rfl) (by rfl) (World.news_of_block (new_at (by simp) _)) (fun u hu => by simp at hu; subst hu; rfl) (by decide) (by unfold maxLen; omega) (by omega) (by simp; omega) (w5.heap.size + 1) (by simp) ?_; intro g6 cap6 w6 hown6 hgrow6 hat6 hlt6))
            refine ⟨⟨r + 1, some ⟨g6, 0, none⟩, cap6, nb + 1, by go_num, by omega, rfl, by omega, ?_, ?_, ?_, ?_⟩, by simp [intOf]; omega⟩
            · exact gb_new (gb_alloc HG2.out _) hgrow6 (fun y e => Or.inr (by have := (HO2.out.lt y e).1; omega))
            · exact heap_gb hgrow6 (HB2.out.alloc _) (fun e => by have := (HO2.out.lt _ e.symm).1; omega)
            · exact heap_gb hgrow6 (heap_alloc_at HM2.out _) (fun e => by have := (HO2.out.lt _ e.symm).1; omega)
            · show World.ownsRow _ _ _ _ _ _ _
              rw [HS.out, ← List.append_assoc, strL_app]
              exact hown6
        · have hr' : decide ((r : Int) < 4) = false := by simp; omega
          have hre : r = 4 := by omega
          subst hre
          have HS : Hid (regWs c ls (i + 1) = regWs c ls i ++ regW c i l 4) := regWs_succ c ls i l HL.out
          as_aux_lemma =>
          go_wp2_with fail
          refine ⟨⟨i + 1, ob, cb, nb, by go_num, by omega, rfl, by omega, HGq.out, HBq.out, HMq.out, ?_⟩, by simp [intOf]; omega⟩
          show World.ownsRow _ _ _ _ _ _ _
          rw [HS.out]
          exact HOq.out
    · have hil' : decide ((i : Int) < (ls.length : Int)) = false := by simp; omega
      have hie : i = ls.length := by omega
      go_wp2_with fail
      go_ret
      refine ⟨_, _, _, rfl, by omega, ?_, HG.out⟩
      rw [← hie]
      exact own_base_u HO.out (by omega)
end Go.Proofs.YtmpaeladhoomoaaGreatDoor

namespace Go.Proofs.YtmpaeladhoomoaaGreatDoor
open Go.RowKit

def pwT (p v : Nat) : Txt := hasT (canon 2 p) v
theorem has_plc (w : World) (p v : Nat) (hv : v ≤ 9) : Calls Tryz.prog 160 #[.string (canonB 2 p), .int .u8 (v : Nat)] w fun e w' => e = .returned (.string (bT (pwT p v))) ∧ w' = w := ma_has w (canon 2 p) (by show (canon 2 p).length ≤ 1000; simp [canon]) v hv
def plcWs (c : Nat → Nat) (ls : List (List St)) (ft : Txt) (k : Nat) : List Txt := (List.range k).filterMap fun p => if namesP p ls ft = true then some (pwT p (c (88 + p))) else none
theorem plcWs_succ (c : Nat → Nat) (ls : List (List St)) (ft : Txt) (k : Nat) : plcWs c ls ft (k + 1) = plcWs c ls ft k ++ (if namesP k ls ft = true then [pwT k (c (88 + k))] else []) := by
  unfold plcWs
  rw [List.range_succ, List.filterMap_append]
  congr 1
  by_cases h : namesP k ls ft = true
  · rw [if_pos h, List.filterMap_cons, if_pos h]
    rfl
  · rw [if_neg h, List.filterMap_cons, if_neg h]
    rfl

set_option maxRecDepth 100000 in
set_option maxHeartbeats 8000000 in
theorem ma_placeWords (w : World) (ok : Nat → Prop) (pg : Nat) (ls : List (List St)) (fa : Bool) (ft : Txt) (hP : ProgRep w ok pg ls fa ft) (hok : ∀ x, ok x → x < w.heap.size) (c : Nat → Nat) (hb : ∀ p, p < 4 → c (88 + p) ≤ 9) (model : Nat) (hls : ls.length ≤ 4) (hk : ∀ l ∈ ls, ∀ x ∈ l, x.kind ≤ 6) :
    Calls Tryz.prog 99 #[.agg #[.pointer (some ⟨pg, 0, none⟩), .int .i64 (model : Nat)], .agg (u8A 92 c)] w fun e w' => ∃ oa n cap, e = .returned (.slice oa n cap) ∧ n ≤ 4 ∧ w'.ownsRow w.heap.size 9 1 (.slice oa n cap) n (strL (plcWs c ls ft 4)) ∧ w.grownBy w' none := by
  obtain ⟨i0, hi0, hz0, hz1, hz2⟩ := info_parts infoString
  have HP : Hid (ProgRep w ok pg ls fa ft) := hP
  have HOK : Hid (∀ x, ok x → x < w.heap.size) := hok
  obtain ⟨W, hW⟩ : ∃ W, W = (w.alloc (.cells #[.pointer (some ⟨pg, 0, none⟩), .int .i64 (model : Nat)] 76)).alloc (.cells (u8A 92 c) 120) := ⟨_, rfl⟩
  have HB0 : Hid (Blk W (w.heap.size + 1) 120 92 c) := by rw [hW]; exact new_at (by simp) _
  have HM0 : Hid (W.heap[w.heap.size]? = some (.cells #[.pointer (some ⟨pg, 0, none⟩), .int .i64 (model : Nat)] 76 (0, 0))) := by rw [hW]; exact heap_alloc_at (heap_alloc_new w _) _
  have HG0 : Hid (w.grownBy W none) := by rw [hW]; exact gb_alloc (gb_alloc (gb_refl _ _) _) _
  have HW : Hid (W = (w.alloc (.cells #[.pointer (some ⟨pg, 0, none⟩), .int .i64 (model : Nat)] 76)).alloc (.cells (u8A 92 c) 120)) := hW
  have HB : Hid (∀ p, p < 4 → c (88 + p) ≤ 9) := hb
  have HK : Hid (∀ l ∈ ls, ∀ x ∈ l, x.kind ≤ 6) := hk
  clear hW hb hk hP hok
  go_enter Tryz.func99, Tryz.ntmps99
  go_wp2_with fail
  rw [← HW.out]
  go_loopw [5, 7] (fun v5 v7 wq => ∃ (p : Nat) (ob : Option Addr) (cb nb : Nat), v7 = .int .i64 (p : Nat) ∧ p ≤ 4 ∧ v5 = .slice ob nb cb ∧ nb ≤ p ∧ Hid (w.grownBy wq none) ∧ Hid (Blk wq (w.heap.size + 1) 120 92 c) ∧ Hid (wq.heap[w.heap.size]? = some (.cells #[.pointer (some ⟨pg, 0, none⟩), .int .i64 (model : Nat)] 76 (0, 0))) ∧ Hid (wq.ownsRow (w.heap.size + 1 + 1) 9 1 (.slice ob nb cb) nb (strL (plcWs c ls ft p)))) (fun _ v7 _ => 4 - (intOf v7).toNat)
  case atStart => exact ⟨0, none, 0, 0, rfl, by omega, rfl, by omega, HG0.out, HB0.out, HM0.out, World.ownsRow_nil _ _ _ _⟩
  case round =>
    rename World => wq
    obtain ⟨p, ob, cb, nb, rfl, hp, rfl, hnb, HGq, HBq, HMq, HOq⟩ := hrel
    have m0 := cell_of HMq.out 0 (.pointer (some ⟨pg, 0, none⟩)) rfl
    have hlM := heap_lt HMq.out
    have hlB := HBq.out.lt
    by_cases hp4 : p < 4
    · have hp' : decide ((p : Int) < 4) = true := by simp; omega
      have hp2 : (p : Int) < 4 := by omega
      have HSE : Hid (Calls Tryz.prog 161 #[.pointer (some ⟨pg, 0, none⟩), .int .i64 (p : Nat)] wq fun e w' => e = .returned (.bool (namesP p ls ft)) ∧ wq.grownBy w' none) := prog_names wq ok pg ls fa ft (HP.out.mono (fun x hx => hx) (fun x hx => HGq.out.block x (HOK.out x hx) (by simp))) (fun x hx => Nat.lt_of_lt_of_le (HOK.out x hx) HGq.out.size) HK.out hls p hp4
      go_wp2_with fail
      refine HSE.out.mono ?_
      rintro e w2 ⟨rfl, hg2⟩
      have HG2 : Hid (w.grownBy w2 none) := gb_trans HGq.out hg2
      have HB2 : Hid (Blk w2 (w.heap.size + 1) 120 92 c) := HBq.out.gb hg2 (by simp)
      have HM2 : Hid (w2.heap[w.heap.size]? = some (.cells #[.pointer (some ⟨pg, 0, none⟩), .int .i64 (model : Nat)] 76 (0, 0))) := heap_gb hg2 HMq.out (by simp)
      have HO2 : Hid (w2.ownsRow (w.heap.size + 1 + 1) 9 1 (.slice ob nb cb) nb (strL (plcWs c ls ft p))) := own_at_u HOq.out (fun x hx => hg2.block x (HOq.out.lt x hx).2 (by simp))
      have hs2 := HG2.out.size
      have hl2 := HB2.out.lt
      clear hg2 m0
      cases hs : namesP p ls ft with
      | false =>
        have HS : Hid (plcWs c ls ft (p + 1) = plcWs c ls ft p) := by show _ = _; rw [plcWs_succ, hs]; simp
        clear hs
        as_aux_lemma =>
        go_wp2_with fail
        refine ⟨⟨p + 1, ob, cb, nb, by go_num, by omega, rfl, by omega, HG2.out, HB2.out, HM2.out, ?_⟩, by simp [intOf]; omega⟩
        show World.ownsRow _ _ _ _ _ _ _
        rw [HS.out]
        exact HO2.out
      | true =>
        have HS : Hid (plcWs c ls ft (p + 1) = plcWs c ls ft p ++ [pwT p (c (88 + p))]) := by show _ = _; rw [plcWs_succ, hs]; simp
        clear hs
        have q0 := HB2.out.cell (88 + p) (by omega)
        have HV : Hid (c (88 + p) ≤ 9) := HB.out p hp4
        as_aux_lemma =>
        go_wp2_with fail
        go_region_held3 (fun w' => w'.cell? ⟨w.heap.size + 1, 88 + p, none⟩ = some (.int .u8 (c (88 + p) : Nat))) (go_keep)
          (first
            | (go_at_call 76; refine (placeName_any _ p (by omega)).mono ?_; rintro e w3 ⟨rfl, rfl⟩)
            | (go_at_call 160; refine (has_plc _ p _ HV.out).mono ?_; rintro e w4 ⟨rfl, rfl⟩)
            | (refine step_append_lies _ (by rfl) _ _ 39 (by rfl) (w.heap.size + 1 + 1) 9 i0 _ 1 16 Tryz.underlying39 hi0 hz0 hz1 hz2 rfl (by decide) (.slice ob nb cb) nb (strL (plcWs c ls ft p)) (by rfl) (own_at_u HO2.out (fun y hy => Below.heap_alloc _ _ _ (HO2.out.lt y hy).2)) ⟨w2.heap.size, 0, none⟩ 1 1 [.string (bT (pwT p (c (88 + p))))] (by rfl) (by rfl) (World.news_of_block (new_at (by simp) _)) (fun u hu => by simp at hu; subst hu; rfl) (by decide) (by unfold maxLen; omega) (by omega) (by simp; omega) (w2.heap.size + 1) (by simp) ?_; intro g6 cap6 w6 hown6 hgrow6 hat6 hlt6; have j0 : w6.cell? ⟨w.heap.size + 1, 88 + p, none⟩ = some (.int .u8 (c (88 + p) : Nat)) := cell_of (heap_gb hgrow6 (HB2.out.alloc _) (fun e => by have := (HO2.out.lt _ e.symm).1; omega)) _ _ (u8A_get c (by omega))))
        clear j0 q0
        go_wp2_with fail
        refine ⟨⟨p + 1, some ⟨g6, 0, none⟩, cap6, nb + 1, by go_num, by omega, rfl, by omega, ?_, ?_, ?_, ?_⟩, by simp [intOf]; omega⟩
        · first
            | exact gb_new (gb_alloc HG2.out _) hgrow6 (fun y e => Or.inr (by have := (HO2.out.lt y e).1; omega))
            | exact gb_new (gb_alloc (gb_drew HG2.out) _) hgrow6 (fun y e => Or.inr (by have := (HO2.out.lt y e).1; omega))
            | exact gb_new (gb_drew (gb_alloc HG2.out _)) hgrow6 (fun y e => Or.inr (by have := (HO2.out.lt y e).1; omega))
        · exact heap_gb hgrow6 (HB2.out.alloc _) (fun e => by have := (HO2.out.lt _ e.symm).1; omega)
        · exact heap_gb hgrow6 (heap_alloc_at HM2.out _) (fun e => by have := (HO2.out.lt _ e.symm).1; omega)
        · show World.ownsRow _ _ _ _ _ _ _
          rw [HS.out, strL_app]
          exact hown6
    · have hp' : decide ((p : Int) < 4) = false := by simp; omega
      have hpe : p = 4 := by omega
      subst hpe
      go_wp2_with fail
      go_ret
      exact ⟨_, _, _, rfl, hnb, own_base_u HOq.out (by omega), HGq.out⟩
end Go.Proofs.YtmpaeladhoomoaaGreatDoor

namespace Go.Proofs.YtmpaeladhoomoaaGreatDoor
open Go.RowKit

/-- A row put behind a row. -/
theorem step_append_rows {P : Program} (w : World) {ops : Array Oper} {o : Oper} {a : Act} {K : Act → World → Prop} {Q : Exit → Act → World → Prop} {E : Prop} (hgd : o.guard = none) (s x : Operand) (t : TypeId)
    (ho : o.op = .call { callee := .builtin .append, args := #[s, x], argTypes := #[t, t] })
    (base base2 : Nat) (e : TypeId) (i : TypeInfo) (z : Value) (size bytes : Nat) (ht : P.underlying t = some (.slice e)) (hi : P.info? e = some i) (hz : i.zero = some z)
    (hsize : i.size = size) (hby : i.bytes = bytes) (hzs : z.cells.size = size) (hsz : 0 < size)
    (v : Value) (n : Nat) (xs : List Value) (hs : a.eval s = v) (hown : w.ownsRow base e size v n xs)
    (v2 : Value) (m : Nat) (news : List Value) (hx : a.eval x = v2) (hown2 : w.ownsRow base2 e size v2 m news) (h1 : ∀ u ∈ news, u.oneCell' = true)
    (h63 : n + m ≤ maxLen) (hbytes : (n + m) * bytes ≤ 140737488355328) (hbase : base ≤ w.heap.size)
    (h : ∀ v' w', w'.ownsRow base e size v' (n + m) (xs ++ news) → w.grownBy w' v.ownBlock → K (a.put o.dst v') w') :
    if Region.wanted o (yielded ops a.tmps) = true then Oper.wp P o a w K Q else E := by
  have hw : Region.wanted o (yielded ops a.tmps) = true := by simp [Region.wanted, hgd]
  rw [if_pos hw]
  rcases hown2.2 with ⟨rfl, rfl⟩ | ⟨g, cap, cur, rfl, _⟩
  · have hn : news = [] := List.eq_nil_of_length_eq_zero (by have := hown2.1; simpa using this)
    subst hn
    have hr := run_append_owned_none (P := P) (w := w) base t o.type e i size ht hi v n xs hown
    unfold Oper.wp execOp
    simp only [ho, resolve, invoke, builtin, Sem.run_bind, Sem.run_pure, Result.andThen_ok, List.map_toArray, List.map_cons, List.map_nil, hs, hx, hr]
    exact h v w (by simpa using hown) ⟨rfl, rfl, rfl, Nat.le_refl _, fun _ _ _ => rfl⟩
  · obtain ⟨v', w', hr, h2, h3, _⟩ := run_append_own w base t o.type e i z size bytes ht hi hz hsize hby hzs hsz v n xs hown ⟨g, 0, none⟩ m cap news hown2.1 (fun j u hu => hown2.cells rfl j u hu) h1 h63 hbytes hbase
    unfold Oper.wp execOp
    simp only [ho, resolve, invoke, builtin, Sem.run_bind, Sem.run_pure, Result.andThen_ok, List.map_toArray, List.map_cons, List.map_nil, hs, hx, hr]
    exact h v' w' h2 h3
theorem join_none (w : World) (a : Option Addr) (c : Nat) (sep : ByteArray) : Calls Tryz.prog 100 #[.slice a 0 c, .string sep] w fun e w' => e = .returned (.string ⟨#[]⟩) ∧ w' = w := Any.strings_Join_none Tryz.lays156 Tryz.Builder_Extra_156 a c sep w
/-- An outcome's text. -/
def outT (c : Nat → Nat) (ls : List (List St)) (ft : Txt) : Txt := joinT [32] (regWs c ls ls.length ++ plcWs c ls ft 4)
theorem joinT_len (sep : Txt) (B : Nat) : ∀ ts : List Txt, (∀ t ∈ ts, t.length ≤ B) → (joinT sep ts).length ≤ ts.length * (B + sep.length) := by
  intro ts
  induction ts with
  | nil => intro _; exact Nat.zero_le _
  | cons x r ih =>
    intro h
    have h1 := h x (by simp)
    cases r with
    | nil => simp [joinT]; omega
    | cons y r2 =>
      have h2 := ih (fun t ht => h t (by simp [ht]))
      rw [joinT]
      simp only [List.length_append, List.length_cons] at h2 ⊢
      rw [Nat.succ_mul]
      omega
theorem words_len (c : Nat → Nat) (ls : List (List St)) (ft : Txt) : ∀ t ∈ regWs c ls ls.length ++ plcWs c ls ft 4, t.length ≤ 10 := by
  intro t ht
  rw [List.mem_append] at ht
  rcases ht with h | h
  · simp only [regWs, List.mem_flatMap, regW, List.mem_filterMap] at h
    obtain ⟨i, _, r, _, h⟩ := h
    split at h
    · simp at h; subst h; simp [rwT, hasT, canon]
    · simp at h
  · simp only [plcWs, List.mem_filterMap] at h
    obtain ⟨p, _, h⟩ := h
    split at h
    · simp at h; subst h; simp [pwT, hasT, canon]
    · simp at h

set_option maxRecDepth 100000 in
set_option maxHeartbeats 8000000 in
theorem ma_outcome (w : World) (ok : Nat → Prop) (pg : Nat) (ls : List (List St)) (fa : Bool) (ft : Txt) (hP : ProgRep w ok pg ls fa ft) (hok : ∀ x, ok x → x < w.heap.size) (c : Nat → Nat) (hr : ∀ i r, i < ls.length → r < 4 → c (i * 22 + 1 + r) ≤ 9) (hp : ∀ p, p < 4 → c (88 + p) ≤ 9) (model : Nat) (hls : ls.length ≤ 4) (hk : ∀ l ∈ ls, ∀ x ∈ l, x.kind ≤ 6) :
    Calls Tryz.prog 65 #[.agg #[.pointer (some ⟨pg, 0, none⟩), .int .i64 (model : Nat)], .agg (u8A 92 c)] w fun e w' => e = .returned (.string (bT (outT c ls ft))) ∧ w.grownBy w' none := by
  obtain ⟨i0, hi0, hz0, hz1, hz2⟩ := info_parts infoString
  obtain ⟨W, hW⟩ : ∃ W, W = (w.alloc (.cells #[.pointer (some ⟨pg, 0, none⟩), .int .i64 (model : Nat)] 76)).alloc (.cells (u8A 92 c) 120) := ⟨_, rfl⟩
  have HB0 : Hid (Blk W (w.heap.size + 1) 120 92 c) := by rw [hW]; exact new_at (by simp) _
  have HM0 : Hid (W.heap[w.heap.size]? = some (.cells #[.pointer (some ⟨pg, 0, none⟩), .int .i64 (model : Nat)] 76 (0, 0))) := by rw [hW]; exact heap_alloc_at (heap_alloc_new w _) _
  have HG0 : Hid (w.grownBy W none) := by rw [hW]; exact gb_alloc (gb_alloc (gb_refl _ _) _) _
  have HW : Hid (W = (w.alloc (.cells #[.pointer (some ⟨pg, 0, none⟩), .int .i64 (model : Nat)] 76)).alloc (.cells (u8A 92 c) 120)) := hW
  have hsW : w.heap.size + 2 ≤ W.heap.size := by rw [hW]; simp
  have HRW : Hid (∀ W', w.grownBy W' none → Calls Tryz.prog 98 #[.agg #[.pointer (some ⟨pg, 0, none⟩), .int .i64 (model : Nat)], .agg (u8L 92 c).toArray] W' fun e w' => ∃ oa n cap, e = .returned (.slice oa n cap) ∧ n ≤ 16 ∧ w'.ownsRow W'.heap.size 9 1 (.slice oa n cap) n (strL (regWs c ls ls.length)) ∧ W'.grownBy w' none) := fun W' hg => ma_registerWords W' pg ls (hP.pt.grow hg) c hr model hls hk
  have HPW : Hid (∀ W', w.grownBy W' none → Calls Tryz.prog 99 #[.agg #[.pointer (some ⟨pg, 0, none⟩), .int .i64 (model : Nat)], .agg (u8L 92 c).toArray] W' fun e w' => ∃ oa n cap, e = .returned (.slice oa n cap) ∧ n ≤ 4 ∧ w'.ownsRow W'.heap.size 9 1 (.slice oa n cap) n (strL (plcWs c ls ft 4)) ∧ W'.grownBy w' none) := fun W' hg => ma_placeWords W' ok pg ls fa ft (hP.mono (fun x hx => hx) (fun x hx => hg.block x (hok x hx) (by simp))) (fun x hx => Nat.lt_of_lt_of_le (hok x hx) hg.size) c hp model hls hk
  have HSZ := stSize
  clear hW hr hp hk hP hok
  go_enter Tryz.func65, Tryz.ntmps65
  go_wp2_with fail
  rw [← HW.out]
  have hSat : ∀ W', W.grownBy W' none → (fun w' : World => w'.cell? ⟨w.heap.size, 0, none⟩ = some (.pointer (some ⟨pg, 0, none⟩)) ∧ w'.cell? ⟨w.heap.size, 1, none⟩ = some (.int .i64 (model : Nat)) ∧ w'.rangeAt (w.heap.size + 1) 0 (u8L 92 c)) W' := fun W' hg => ⟨gb_cell hg (cell_of HM0.out 0 _ rfl) (by simp), gb_cell hg (cell_of HM0.out 1 _ rfl) (by simp), fun j v hv => gb_cell hg (HB0.out.range0 j v hv) (by simp)⟩
  have hS := hSat W.drew (gb_drew (gb_refl _ _))
  refine wp_region_held (S := fun w' => w'.cell? ⟨w.heap.size, 0, none⟩ = some (.pointer (some ⟨pg, 0, none⟩)) ∧ w'.cell? ⟨w.heap.size, 1, none⟩ = some (.int .i64 (model : Nat)) ∧ w'.rangeAt (w.heap.size + 1) 0 (u8L 92 c)) (by kernel_rfl) ?_
  change wpAnyH _ _ _ _ _ _ _ _ (World.drew _)
  refine wpAnyH_take (i := 0) (v := .agg #[.pointer (some ⟨pg, 0, none⟩), .int .i64 (model : Nat)]) rfl (by kernel_rfl) (by kernel_rfl) (by kernel_rfl) (fun _ _ _ h => h) (Or.inl ⟨by rfl, fun w' hSw => by go_simp⟩) hS ?_
  simp only [Act.put, List.getElem_toArray, List.getElem_cons_zero, List.setIfInBounds_toArray, List.set_cons_zero, List.set_cons_succ]
  refine wpAnyH_take (i := 1) (v := .agg (u8L 92 c).toArray) rfl (by kernel_rfl) (by kernel_rfl) (by kernel_rfl) (fun _ _ _ h => h) (yieldsIf_load_mid (by rfl) 120 _ (by rfl) (w.heap.size + 1) 0 (by rfl) _ _ (fun w' hw' => hw'.2.2) Tryz.underlying120 rfl (by rw [u8L_len]; exact HSZ)) hS ?_
  simp only [Act.put, List.getElem_toArray, List.getElem_cons_zero, List.getElem_cons_succ, List.setIfInBounds_toArray, List.set_cons_zero, List.set_cons_succ]
  refine wpAnyH_take (i := 3) (v := .agg #[.pointer (some ⟨pg, 0, none⟩), .int .i64 (model : Nat)]) rfl (by kernel_rfl) (by kernel_rfl) (by kernel_rfl) (fun _ _ _ h => h) (Or.inl ⟨by rfl, fun w' hSw => by go_simp⟩) hS ?_
  simp only [Act.put, List.getElem_toArray, List.getElem_cons_zero, List.getElem_cons_succ, List.setIfInBounds_toArray, List.set_cons_zero, List.set_cons_succ]
  refine wpAnyH_take (i := 4) (v := .agg (u8L 92 c).toArray) rfl (by kernel_rfl) (by kernel_rfl) (by kernel_rfl) (fun _ _ _ h => h) (yieldsIf_load_mid (by rfl) 120 _ (by rfl) (w.heap.size + 1) 0 (by rfl) _ _ (fun w' hw' => hw'.2.2) Tryz.underlying120 rfl (by rw [u8L_len]; exact HSZ)) hS ?_
  simp only [Act.put, List.getElem_toArray, List.getElem_cons_zero, List.getElem_cons_succ, List.setIfInBounds_toArray, List.set_cons_zero, List.set_cons_succ]
  refine wpAnyH_ready (rs := [2]) (by kernel_rfl) (by simp) ?_
  refine AllReadyH.cons rfl (fun K hK => ?_) AllReadyH.nil
  rw [if_pos (by rfl)]
  go_wp2_with fail
  refine (HRW.out _ (gb_drew HG0.out)).mono ?_
  rintro e w2 ⟨ra, rn, rcap, rfl, hrn, hor, hg2⟩
  have hg2' : W.grownBy w2 none := gb_trans (gb_drew (gb_refl W none)) hg2
  go_wp2_with fail
  refine hK.out _ _ (hSat _ hg2') (fun _ => ?_)
  clear hK
  refine wpAnyH_ready (rs := [5]) (by kernel_rfl) (by simp) ?_
  refine AllReadyH.cons rfl (fun K hK => ?_) AllReadyH.nil
  rw [if_pos (by rfl)]
  go_wp2_with fail
  refine (HPW.out _ (gb_trans HG0.out hg2')).mono ?_
  rintro e w3 ⟨pa, pn, pcap, rfl, hpn, hop, hg3⟩
  go_wp2_with fail
  refine hK.out _ _ (hSat _ (gb_trans hg2' hg3)) (fun _ => ?_)
  clear hK
  refine wpAnyH_ready (rs := [6]) (by kernel_rfl) (by simp) ?_
  refine AllReadyH.cons rfl (fun K hK => ?_) AllReadyH.nil
  have hor3 : w3.ownsRow W.heap.size 9 1 (.slice ra rn rcap) rn (strL (regWs c ls ls.length)) := own_at_u hor (fun x hx => hg3.block x (hor.lt x hx).2 (by simp))
  have hs23 := hg3.size
  have hs2 := hg2'.size
  refine step_append_rows _ (by rfl) _ _ 39 (by rfl) W.heap.size w2.heap.size 9 i0 _ 1 16 Tryz.underlying39 hi0 hz0 hz1 hz2 rfl (by decide) (.slice ra rn rcap) rn (strL (regWs c ls ls.length)) (by rfl) hor3 (.slice pa pn pcap) pn (strL (plcWs c ls ft 4)) (by rfl) hop (fun u hu => by simp only [strL, List.mem_map] at hu; obtain ⟨_, _, rfl⟩ := hu; rfl) (by unfold maxLen; omega) (by omega) (by omega) ?_
  intro v4 w4 hown4 hg4
  have hg4' : W.grownBy w4 none := gb_new (gb_trans hg2' hg3) hg4 (fun y e => Or.inr (hor3.lt y e).1)
  have hG4 : w.grownBy w4 none := gb_trans HG0.out hg4'
  obtain ⟨va, vcap, rfl⟩ := own_slice hown4
  refine hK.out _ _ (hSat _ hg4') (fun _ => ?_)
  simp only [Act.put, List.getElem_toArray, List.getElem_cons_zero, List.getElem_cons_succ, List.setIfInBounds_toArray, List.set_cons_zero, List.set_cons_succ]
  refine wpAnyH_take (i := 7) (v := .slice va (rn + pn) vcap) rfl (by kernel_rfl) (by kernel_rfl) (by kernel_rfl) (fun _ _ _ h => h) (Or.inl ⟨by rfl, fun w' hSw => by go_simp⟩) (hSat _ hg4') ?_
  simp only [Act.put, List.getElem_toArray, List.getElem_cons_zero, List.getElem_cons_succ, List.setIfInBounds_toArray, List.set_cons_zero, List.set_cons_succ]
  refine wpAnyH_done (by kernel_rfl) ?_ _
  have hlen : (regWs c ls ls.length ++ plcWs c ls ft 4).length = rn + pn := by
    have := hown4.1
    rw [← strL_app] at this
    simpa [strL] using this
  have HOW : Hid (w4.ownsRow W.heap.size 9 1 (.slice va (rn + pn) vcap) (rn + pn) (strL (regWs c ls ls.length ++ plcWs c ls ft 4))) := by rw [strL_app]; exact hown4
  have HLEN : Hid ((regWs c ls ls.length ++ plcWs c ls ft 4).length = rn + pn) := hlen
  have HG4 : Hid (w.grownBy w4 none) := hG4
  have hNN : rn + pn ≤ 20 := by omega
  obtain ⟨N, hN⟩ : ∃ N, N = rn + pn := ⟨_, rfl⟩
  rw [← hN] at HOW HLEN hNN ⊢
  clear hK hSat hS hg2 hg2' hg3 hg4 hg4' hG4 hown4 hor3 hor hop hlen HRW HPW hN
  go_wp2_with fail
  by_cases h0 : N = 0
  · subst h0
    have HE : Hid (outT c ls ft = []) := by
      show _ = _
      unfold outT
      rw [List.eq_nil_of_length_eq_zero HLEN.out]
      rfl
    refine (join_none w4 va vcap _).mono ?_
    rintro e w5 ⟨rfl, rfl⟩
    go_wp2_with fail
    go_ret
    refine ⟨?_, HG4.out⟩
    rw [HE.out]
    rfl
  · obtain ⟨bk, hbk, hcap⟩ : ∃ bk, va = some ⟨bk, 0, none⟩ ∧ N ≤ vcap := by
      rcases HOW.out.2 with ⟨_, h1⟩ | ⟨g', cap', cur, h1, _, _, hle, _⟩
      · exact (h0 h1).elim
      · simp at h1; exact ⟨g', h1.1, by omega⟩
    subst hbk
    have HJ := join_any w4 bk vcap (regWs c ls ls.length ++ plcWs c ls ft 4) [32] (fun j t ht => by
      have := HOW.out.cells rfl j (.string (bT t)) (by simp only [strL, List.getElem?_map, ht]; rfl)
      rwa [addr_add_u, Nat.zero_add] at this) (HOW.out.lt bk rfl).2 (by rw [HLEN.out]; omega) (by rw [HLEN.out]; exact hcap) (by
      have := joinT_len [32] 10 _ (words_len c ls ft)
      rw [HLEN.out] at this
      have h11 : N * (10 + [(32 : UInt8)].length) ≤ 20 * 11 := Nat.mul_le_mul hNN (by decide)
      omega)
    rw [HLEN.out] at HJ
    refine HJ.mono ?_
    rintro e w5 ⟨rfl, hg5⟩
    have HG5 : Hid (w.grownBy w5 none) := gb_trans HG4.out hg5
    clear HJ hg5
    go_wp2_with fail
    go_ret
    exact ⟨rfl, HG5.out⟩
end Go.Proofs.YtmpaeladhoomoaaGreatDoor
