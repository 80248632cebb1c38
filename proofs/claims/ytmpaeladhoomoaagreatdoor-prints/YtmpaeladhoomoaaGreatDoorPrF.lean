/-
  The program's Print: formulas.
-/
import Derived.Test.YtmpaeladhoomoaaGreatDoorPrE
namespace Go.Proofs.YtmpaeladhoomoaaGreatDoor
open Go.RowKit

theorem infoString : (Tryz.prog.info? 9).map (fun i => (i.zero, i.size, i.bytes)) = some (some (.string ⟨#[]⟩), 1, 16) := by kernel_rfl
theorem join_eq (sep : Txt) : ∀ (ts : List Txt), Lib.join ts sep = joinT sep ts := by
  intro ts
  induction ts with
  | nil => rfl
  | cons x r ih =>
    cases r with
    | nil => rw [Lib.join_one]; rfl
    | cons y r2 =>
      rw [Lib.join_cons, joinT, ← ih, Lib.join_cons]
      simp [Lib.joinTail]
theorem map_data (ts : List Txt) : (ts.map bT).map (·.data.toList) = ts := by
  rw [List.map_map]
  conv => rhs; rw [← List.map_id ts]
  apply List.map_congr_left
  intro a _
  simp [bT]
theorem join_any (w : World) (bk c : Nat) (ts : List Txt) (sep : Txt) (hcells : ∀ (j : Nat) t, ts[j]? = some t → w.cell? ⟨bk, j, none⟩ = some (.string (bT t))) (hbk : bk < w.heap.size) (hN : ts.length ≤ 401) (hcap : ts.length ≤ c) (hlen : (joinT sep ts).length ≤ 1000000) :
    Calls Tryz.prog 100 #[.slice (some ⟨bk, 0, none⟩) ts.length c, .string (bT sep)] w fun e w' => e = .returned (.string (bT (joinT sep ts))) ∧ w.grownBy w' none := by
  have h := Tryz.strings_Join bk 0 c (ts.map bT) (bT sep) w (fun j x hx => by
    rw [List.getElem?_map] at hx
    obtain ⟨t, ht, rfl⟩ := Option.map_eq_some_iff.1 hx
    rw [Nat.zero_add]; exact hcells j t ht) hbk (by simp; omega) (by simpa using hcap) (by rw [map_data, show (bT sep).data.toList = sep from by simp [bT], join_eq]; omega)
  rw [map_data, show (bT sep).data.toList = sep from by simp [bT], join_eq, List.length_map] at h
  exact h.mono (fun e w' h => ⟨h.1, below_gb h.2⟩)

theorem FRep.form {d : Nat} {w : World} {ok : Nat → Prop} {cs : List Value} {t : Txt} (h : FRep d w ok cs t) : ∃ (n0 : Int) (a : Option Addr) (k c : Nat) (n2 n3 n4 n5 : Int), cs = [.int .i64 n0, .slice a k c, .int .i64 n2, .int .i64 n3, .int .i64 n4, .int .i64 n5] := by
  cases d with
  | zero => exact h.elim
  | succ d =>
    rcases h with ⟨x, y, z, _, _, _, h, _⟩ | ⟨y, z, _, _, h, _⟩ | ⟨n0, g, c, ts, xs, _, _, _, _, h, _⟩ <;> exact ⟨_, _, _, _, _, _, _, _, h⟩
def TextSaid (d : Nat) : Prop := ∀ (w : World) (ok : Nat → Prop) (cs : List Value) (t : Txt), FRep d w ok cs t → (∀ x, ok x → x < w.heap.size) → t.length ≤ 1000000 →
  Calls Tryz.prog 53 #[.agg cs.toArray] w fun e w' => e = .returned (.string (bT t)) ∧ w.grownBy w' none
theorem joinT_part (sep : Txt) : ∀ (ts : List Txt) (u : Txt), u ∈ ts → u.length ≤ (joinT sep ts).length := by
  intro ts
  induction ts with
  | nil => intro u h; simp at h
  | cons x r ih =>
    intro u h
    cases r with
    | nil => simp at h; subst h; exact Nat.le_refl _
    | cons y r2 =>
      rcases List.mem_cons.1 h with rfl | h
      · simp [joinT]
      · have := ih u h
        simp [joinT] at this ⊢; omega

set_option maxRecDepth 100000 in
set_option maxHeartbeats 2000000 in
theorem joined_any (d : Nat) (HT : TextSaid d) (w : World) (ok : Nat → Prop) (g c : Nat) (xs : List Value) (ts : List Txt) (sep : Txt) (hcell : ∀ (o : Nat) (v : Value), xs[o]? = some v → w.cell? ⟨g, o, none⟩ = some v) (hk : Kids (fun c u => FRep d w ok c u) xs ts) (hokl : ∀ x, ok x → x < w.heap.size) (hlen : (joinT sep ts).length ≤ 1000000) (hn : ts.length ≤ 401) (hts : ts ≠ []) :
    Calls Tryz.prog 79 #[.slice (some ⟨g, 0, none⟩) ts.length c, .string (bT sep)] w fun e w' => e = .returned (.string (bT (joinT sep ts))) ∧ w.grownBy w' none := by
  obtain ⟨i0, hi, hz0, hz1, hz2⟩ := info_parts infoString
  have HTS : Hid (ts ≠ []) := hts
  have HK : Hid (Kids (fun c u => FRep d w ok c u) xs ts) := hk
  have HC : Hid (∀ (o : Nat) (v : Value), xs[o]? = some v → w.cell? ⟨g, o, none⟩ = some v) := hcell
  have HOK : Hid (∀ x, ok x → x < w.heap.size) := hokl
  have HL : Hid ((joinT sep ts).length ≤ 1000000) := hlen
  have HTX : Hid (TextSaid d) := HT
  clear hts hk hcell hokl hlen HT
  go_enter Tryz.func79, Tryz.ntmps79
  go_wp2_with (at_make; go_must (refine wpList_make_own _ (by rfl) _ _ 39 (by rfl) w.heap.size 9 i0 _ 1 Tryz.underlying39 hi hz0 hz1 .i64 .i64 _ ts.length (by rfl) (by rfl) rfl (by rw [hz2]; omega) (by unfold maxLen; omega) (Nat.le_refl _) ?_; intro w1 hown1 hg1))
  go_loopw [13, 5] (fun v13 v5 wr => ∃ (i : Nat) (ys : List Value), v13 = .int .i64 (i : Nat) ∧ i ≤ ts.length ∧ w.grownBy wr none ∧ wr.ownsRow w.heap.size 9 1 v5 i ys ∧ Hid (ys = (ts.take i).map (fun t => .string (bT t)))) (fun v13 _ _ => ts.length - (intOf v13).toNat)
  case atStart => exact ⟨0, [], rfl, Nat.zero_le _, hg1, hown1, rfl⟩
  case round =>
    obtain ⟨i, ys, rfl, hit, hG, own, HY⟩ := hrel
    obtain ⟨ta, tcap, rfl⟩ := own_slice own
    by_cases hin : i < ts.length
    · have hi' : decide ((i : Int) < (ts.length : Int)) = true := by simp; omega
      obtain ⟨u, hu⟩ : ∃ u, ts[i]? = some u := ⟨ts[i], List.getElem?_eq_getElem hin⟩
      have HU : Hid (ts[i]? = some u) := hu
      obtain ⟨cs, h6, hF, hcs⟩ := HK.out.get i u hu
      obtain ⟨n0, a, k, c2, n2, n3, n4, n5, rfl⟩ := hF.form
      have hq : ∀ o v, [Value.int .i64 n0, .slice a k c2, .int .i64 n2, .int .i64 n3, .int .i64 n4, .int .i64 n5][o]? = some v → wr.cell? ⟨g, i * 6 + o, none⟩ = some v := fun o v hv => gb_cell hG (HC.out _ _ (hcs o v hv)) (by simp)
      have x0 := hq 0 _ rfl
      have x1 := hq 1 _ rfl
      have x2 := hq 2 _ rfl
      have x3 := hq 3 _ rfl
      have x4 := hq 4 _ rfl
      have x5 := hq 5 _ rfl
      simp only [Nat.add_zero] at x0
      have hgl : g < wr.heap.size := World.block_lt_of_cell? wr ⟨g, i * 6, none⟩ x0
      have HF : Hid (FRep d w ok [.int .i64 n0, .slice a k c2, .int .i64 n2, .int .i64 n3, .int .i64 n4, .int .i64 n5] u) := hF
      have HUL : Hid (u.length ≤ 1000000) := Nat.le_trans (joinT_part sep ts u (List.mem_of_getElem? hu)) HL.out
      clear hq hcs h6 hF hu
      go_wp2_with fail
      have hG2 := gb_alloc hG (.cells #[.int .i64 n0, .slice a k c2, .int .i64 n2, .int .i64 n3, .int .i64 n4, .int .i64 n5] 97)
      have hin2 := HTX.out _ ok _ u (HF.out.mono (w' := (wr.alloc (.cells #[.int .i64 n0, .slice a k c2, .int .i64 n2, .int .i64 n3, .int .i64 n4, .int .i64 n5] 97))) (fun x hx => hx) (fun x hx => hG2.block x (HOK.out x hx) (by simp))) (fun x hx => Nat.lt_of_lt_of_le (HOK.out x hx) hG2.size) HUL.out
      refine hin2.mono ?_
      clear hin2
      rintro e w3 ⟨rfl, hg3⟩
      have own3 := (own.alloc (.cells #[.int .i64 n0, .slice a k c2, .int .i64 n2, .int .i64 n3, .int .i64 n4, .int .i64 n5] 97)).kept hg3 (by cases (Value.slice ta i tcap).ownBlock <;> simp)
      have hG3 := gb_trans hG2 hg3
      have hs3 := hG3.size
      go_wp2_with (at_builtin; go_must (refine wpList_append_lies _ (by rfl) _ _ 39 (by rfl) w.heap.size 9 i0 _ 1 16 Tryz.underlying39 hi hz0 hz1 hz2 rfl (by decide) (.slice ta i tcap) i ys (by rfl) (own3.alloc _) ⟨w3.heap.size, 0, none⟩ 1 1 [.string (bT u)] (by rfl) (by rfl) (World.news_of_block (heap_alloc_new w3 _)) (fun u hu => by simp at hu; subst hu; rfl) (by decide) (by unfold maxLen; omega) (by omega) (by simp; omega) (w3.heap.size + 1) (by simp) ?_; intro g4 cap4 w4 hown4 hgrow4 hat4 hlt4))
      refine ⟨⟨i + 1, _, by go_num, by omega, gb_new (gb_alloc hG3 _) hgrow4 (fun x e => Or.inr (own.lt x e).1), hown4, ?_⟩, by simp [intOf]; omega⟩
      show _ = _
      rw [HY.out, List.take_add_one, HU.out]; simp
    · have hi' : decide ((i : Int) < (ts.length : Int)) = false := by simp; omega
      obtain rfl : i = ts.length := by omega
      obtain ⟨bk, hbk, hcap⟩ : ∃ bk, ta = some ⟨bk, 0, none⟩ ∧ ts.length ≤ tcap := by
        rcases own.2 with ⟨_, h1⟩ | ⟨g', cap', cur, h1, _, _, hle, _⟩
        · exact (HTS.out (List.length_eq_zero_iff.1 h1)).elim
        · simp at h1; exact ⟨g', h1.1, by omega⟩
      subst hbk
      go_wp2_with fail
      refine (join_any _ bk tcap ts sep (fun j t ht => ?_) (own.lt bk rfl).2 hn hcap HL.out).mono ?_
      · rw [← addr_add]
        exact own.cells rfl j _ (by rw [HY.out, List.take_of_length_le (Nat.le_refl _), List.getElem?_map, ht]; rfl)
      · rintro e w2 ⟨rfl, hg2⟩
        go_wp2_with fail
        go_ret
        exact ⟨rfl, gb_trans hG hg2⟩

set_option maxRecDepth 100000 in
set_option maxHeartbeats 2000000 in
theorem text_succ (d : Nat) (HT : TextSaid d) : TextSaid (d + 1) := by
  intro w ok cs t h hokl hlen
  rcases h with ⟨x, y, z, hx, hy, hz, rfl, rfl⟩ | ⟨y, z, hy, hz, rfl, rfl⟩ | ⟨n0, g, c, ts, xs, a1, a2, a3, a4, rfl, rfl, hg, hc, hk⟩
  · clear hlen
    have z3 := size3 y
    have z4 := size4 x
    have z5 := size4 z
    go_enter Tryz.func53, Tryz.ntmps53
    go_wp2_with fail
    go_quiet (first | (go_at_call 77; exact Calls.quiet_of_same (registerName_any _ y hy)) | (go_at_call 78; exact Calls.quiet_of_same (itoa_any _ x hx)) | (go_at_call 78; exact Calls.quiet_of_same (itoa_any _ z hz)))
    go_wp2_with fail
    go_ret
    refine ⟨?_, gb_drewN (gb_alloc (gb_refl _ _) _) _⟩
    show Ending.returned (.string (bT (canon 4 x) ++ bT [58] ++ bT (canon 3 y) ++ bT [32, 61, 32] ++ bT (canon 4 z))) = _
    rw [bT_app, bT_app, bT_app, bT_app]; rfl
  · clear hlen
    have z2 := size2 y
    have z5 := size4 z
    go_enter Tryz.func53, Tryz.ntmps53
    go_wp2_with fail
    go_quiet (first | (go_at_call 76; exact Calls.quiet_of_same (placeName_any _ y hy)) | (go_at_call 78; exact Calls.quiet_of_same (itoa_any _ z hz)))
    go_wp2_with fail
    go_ret
    refine ⟨?_, gb_drewN (gb_alloc (gb_refl _ _) _) _⟩
    show Ending.returned (.string (bT (canon 2 y) ++ bT [32, 61, 32] ++ bT (canon 4 z))) = _
    rw [bT_app, bT_app]; rfl
  · have hj : ∀ (sep : Txt) (o : Obj), (joinT sep ts).length ≤ 1000000 → Calls Tryz.prog 79 #[.slice (some ⟨g, 0, none⟩) ts.length c, .string (bT sep)] (w.alloc o) fun e w' => e = .returned (.string (bT (joinT sep ts))) ∧ (w.alloc o).grownBy w' none := by
      intro sep o hl
      have hG := gb_alloc (gb_refl w none) o
      exact joined_any d HT (w.alloc o) ok g c xs ts sep (fun i v hv => gb_cell hG (hc i v hv) (by simp)) (Kids.mono (fun c u hu => hu.mono (fun x hx => hx) (fun x hx => hG.block x (hokl x hx) (by simp))) hk) (fun x hx => Nat.lt_of_lt_of_le (hokl x hx) hG.size) hl a4 a3
    have HJ : Hid (∀ (sep : Txt) (o : Obj), (joinT sep ts).length ≤ 1000000 → Calls Tryz.prog 79 #[.slice (some ⟨g, 0, none⟩) ts.length c, .string (bT sep)] (w.alloc o) fun e w' => e = .returned (.string (bT (joinT sep ts))) ∧ (w.alloc o).grownBy w' none) := hj
    clear hj hk hc hokl HT a3 a4 hg
    have hn : n0 = 0 ∨ n0 = 1 ∨ n0 = 2 ∨ n0 = 3 := by omega
    clear a1 a2
    rcases hn with rfl | rfl | rfl | rfl
    · have HL : Hid ((joinT [32, 111, 114, 32] ts).length ≤ 1000000) := hlen
      clear hlen
      go_enter Tryz.func53, Tryz.ntmps53
      go_wp2_with fail
      refine (HJ.out [32, 111, 114, 32] _ HL.out).mono ?_
      rintro e w1 ⟨rfl, hg1⟩
      go_wp2_with fail
      go_ret
      exact ⟨rfl, gb_trans (gb_alloc (gb_refl _ _) _) hg1⟩
    · have HL : Hid ((joinT [32, 97, 110, 100, 32] ts).length ≤ 1000000) := hlen
      clear hlen
      go_enter Tryz.func53, Tryz.ntmps53
      go_wp2_with fail
      refine (HJ.out [32, 97, 110, 100, 32] _ HL.out).mono ?_
      rintro e w1 ⟨rfl, hg1⟩
      go_wp2_with fail
      go_ret
      exact ⟨rfl, gb_trans (gb_alloc (gb_refl _ _) _) hg1⟩
    · have hl0 : (joinT [] ts).length ≤ 1000000 := by
        have : ([110, 111, 116, 32] ++ joinT [] ts).length ≤ 1000000 := hlen
        simp at this; omega
      clear hlen
      have hz := bT_size (joinT [] ts)
      generalize hu : joinT [] ts = u at hl0 hz HJ
      go_enter Tryz.func53, Tryz.ntmps53
      go_wp2_with fail
      have hin := HJ.out [] (.cells #[.int .i64 2, .slice (some ⟨g, 0, none⟩) ts.length c, .int .i64 0, .int .i64 0, .int .i64 0, .int .i64 0] 97) (by rw [hu]; exact hl0)
      rw [hu] at hin
      refine hin.mono ?_
      clear hin
      rintro e w1 ⟨rfl, hg1⟩
      go_wp2_with fail
      go_ret
      refine ⟨?_, gb_trans (gb_alloc (gb_refl _ _) _) hg1⟩
      show Ending.returned (.string (bT [110, 111, 116, 32] ++ bT u)) = Ending.returned (.string (bT ([110, 111, 116, 32] ++ joinT [] ts)))
      rw [bT_app, hu]
    · have hl0 : (joinT [] ts).length ≤ 1000000 := by
        have : ([40] ++ joinT [] ts ++ [41]).length ≤ 1000000 := hlen
        simp at this; omega
      clear hlen
      have hz := bT_size (joinT [] ts)
      generalize hu : joinT [] ts = u at hl0 hz HJ
      go_enter Tryz.func53, Tryz.ntmps53
      go_wp2_with fail
      have hin := HJ.out [] (.cells #[.int .i64 3, .slice (some ⟨g, 0, none⟩) ts.length c, .int .i64 0, .int .i64 0, .int .i64 0, .int .i64 0] 97) (by rw [hu]; exact hl0)
      rw [hu] at hin
      refine hin.mono ?_
      clear hin
      rintro e w1 ⟨rfl, hg1⟩
      go_wp2_with fail
      go_ret
      refine ⟨?_, gb_trans (gb_alloc (gb_refl _ _) _) hg1⟩
      show Ending.returned (.string (bT [40] ++ bT u ++ bT [41])) = Ending.returned (.string (bT ([40] ++ joinT [] ts ++ [41])))
      rw [bT_app, bT_app, hu]
theorem text_all : ∀ d, TextSaid d := by
  intro d
  induction d with
  | zero => intro w ok cs t h; exact h.elim
  | succ d ih => exact text_succ d ih
end Go.Proofs.YtmpaeladhoomoaaGreatDoor
