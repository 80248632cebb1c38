/-
  For every script of steps the statement Walks answers true, and its argument reads behind the call as it read before: the program's Load and Walk answer at every text, by every model and for all picks as the document's answer does, and what is lent stays as it was. No condition beyond the row's own: the tables of the library hold what their text lays.
-/
import Derived.Test.YtmpaeladhoomoaaGreatDoorLkX
import Derived.Test.YtmpaeladhoomoaaGreatDoorLwX
namespace Go.Proofs.YtmpaeladhoomoaaGreatDoor
open Go.ChangeShapes Go.WideShapes Go.ChangeAt Go.RowKit Go.Deep

section
variable {H : Type} {enc : TypeId × Value → H}

theorem weightsAll_mem {P : Program} {e : TypeId} : ∀ {l : List (DataW H)} {d : DataW H}, d ∈ l → ∀ n ∈ d.weights P e, n ∈ DataW.weightsAll P e l
  | x :: r, d, hd, n, hn => by
    simp only [DataW.weightsAll, List.mem_append]
    rcases List.mem_cons.1 hd with rfl | hd
    · exact Or.inl hn
    · exact Or.inr (weightsAll_mem hd n hn)
  | [], d, hd, _, _ => by simp at hd
theorem bytesInt : Tryz.prog.bytesOf 3 = 8 := by kernel_rfl
/-- Picks that came in. -/
theorem picks_open {w : World} {base : Nat} {spare : Nat → Bool} {held : Bool} {fuel : Nat} {c : Value} {y : DataW H × List MemPlace} (h : DataW.trod enc Tryz.prog w base spare held fuel 24 [c] = some y) :
    ∃ (pa : Option Addr) (pl pc : Nat), c = .slice pa pl pc ∧ (∃ picks, PicksAt w (.slice pa pl pc) picks) ∧ (pa = none → pl = 0 ∧ pc = 0) ∧ (pl = 0 ∨ ∃ n ∈ y.1.weights Tryz.prog 24, pl * 8 ≤ n) := by
  rcases open_slice1 Tryz.underlying24 cellsInt h with ⟨e, _⟩ | ⟨a, len, cap, m, n, V, D, Pl, e, _, hl, _, hm, hx, hel⟩
  · simp at e
    exact ⟨none, 0, 0, e, ⟨[], none, 0, rfl, Nat.le_refl _, fun j x hx => by simp at hx⟩, fun _ => ⟨rfl, rfl⟩, Or.inl rfl⟩
  · simp at e
    have hlm : len ≤ m := by rw [hm]; split <;> omega
    have hv : ∀ i, i < m → ∃ k : Int, w.cell? (a.add i) = some (.int .i64 k) ∧ (Lit.int .i64 k).wf = true := by
      intro i hi
      obtain ⟨h1, h2⟩ := hel i hi
      obtain ⟨k, e1, _, hwf⟩ := DataW.trod_int Tryz.underlying3 h2
      simp at e1
      exact ⟨k, by rw [h1, e1], hwf⟩
    haveI : Inhabited Int := ⟨0⟩
    obtain ⟨K, hK⟩ := choose_lt (α := Int) hv
    refine ⟨some a, len, cap, e, ⟨(List.range len).map K, some a, cap, by simp, by simpa using hl, fun j x hx => ?_⟩, (fun e => by simp at e), ?_⟩
    · simp only [List.getElem?_map, Option.map_eq_some_iff] at hx
      obtain ⟨j', hj', rfl⟩ := hx
      have hj := (List.getElem?_eq_some_iff.1 hj').1
      simp at hj
      rw [List.getElem?_range hj] at hj'
      simp at hj'
      subst hj'
      obtain ⟨h1, h2⟩ := hK j (by omega)
      have hsp := World.cell?_spot (hK 0 (by omega)).1
      obtain ⟨ab, ao, asp⟩ := a
      obtain rfl : asp = none := by simpa [Addr.add] using hsp
      rw [addr_add2] at h1
      refine ⟨ab, ao, rfl, h1, ?_⟩
      simp only [Lit.wf, Bool.and_eq_true, decide_eq_true_eq] at h2
      exact ⟨h2.1, h2.2⟩
    · right
      refine ⟨(((List.range len).map D).length + ((List.range (m - len)).map fun j => D (len + j)).length) * Tryz.prog.bytesOf 3, ?_, ?_⟩
      · rw [hx]
        simp [DataW.weights, Tryz.underlying24]
      · rw [bytesInt]
        simp
        omega

set_option maxRecDepth 100000 in
theorem op_open3 {w : World} {base : Nat} {spare : Nat → Bool} {held : Bool} {fuel : Nat} {cs : List Value} {x : DataW H × List MemPlace} (h : DataW.trod enc Tryz.prog w base spare held fuel 27 cs = some x) :
    ∃ o : OpV, cs = opC o ∧ o.s.size ≤ maxLen ∧ (Lit.int .i64 o.a).wf = true ∧ (∃ picks, PicksAt w (.slice o.pa o.pl o.pc) picks) ∧ (o.pa = none → o.pl = 0 ∧ o.pc = 0) ∧ (o.pl = 0 ∨ ∃ n ∈ x.1.weights Tryz.prog 27, o.pl * 8 ≤ n) := by
  obtain ⟨ys, n, _, rfl, hl, hlen, hf⟩ := DataW.trod_struct Tryz.underlying27 h
  rw [cellsOp] at hl
  match cs, hl, ys, hlen with
  | [c0, c1, c2, c3, c4, c5, c6], _, [y0, y1, y2, y3, y4, y5, y6], _ =>
    have g0 : DataW.trod enc Tryz.prog w base spare held n 3 (([c0, c1, c2, c3, c4, c5, c6].drop 0).take (Tryz.prog.cellsOf 3)) = some y0 := hf 0 _ rfl
    rw [cellsInt] at g0
    have g1 : DataW.trod enc Tryz.prog w base spare held n 3 (([c0, c1, c2, c3, c4, c5, c6].drop 1).take (Tryz.prog.cellsOf 3)) = some y1 := hf 1 _ rfl
    rw [cellsInt] at g1
    have g2 : DataW.trod enc Tryz.prog w base spare held n 3 (([c0, c1, c2, c3, c4, c5, c6].drop 2).take (Tryz.prog.cellsOf 3)) = some y2 := hf 2 _ rfl
    rw [cellsInt] at g2
    have g3 : DataW.trod enc Tryz.prog w base spare held n 3 (([c0, c1, c2, c3, c4, c5, c6].drop 3).take (Tryz.prog.cellsOf 3)) = some y3 := hf 3 _ rfl
    rw [cellsInt] at g3
    have g4 : DataW.trod enc Tryz.prog w base spare held n 3 (([c0, c1, c2, c3, c4, c5, c6].drop 4).take (Tryz.prog.cellsOf 3)) = some y4 := hf 4 _ rfl
    rw [cellsInt] at g4
    have g5 : DataW.trod enc Tryz.prog w base spare held n 9 (([c0, c1, c2, c3, c4, c5, c6].drop 5).take (Tryz.prog.cellsOf 9)) = some y5 := hf 5 _ rfl
    rw [cellsStr] at g5
    have g6 : DataW.trod enc Tryz.prog w base spare held n 24 (([c0, c1, c2, c3, c4, c5, c6].drop 6).take (Tryz.prog.cellsOf 24)) = some y6 := hf 6 _ rfl
    rw [cellsInts] at g6
    obtain ⟨k, e0, _, _⟩ := DataW.trod_int Tryz.underlying3 g0
    obtain ⟨a, e1, _, hwa⟩ := DataW.trod_int Tryz.underlying3 g1
    obtain ⟨b, e2, _, _⟩ := DataW.trod_int Tryz.underlying3 g2
    obtain ⟨c, e3, _, _⟩ := DataW.trod_int Tryz.underlying3 g3
    obtain ⟨d, e4, _, _⟩ := DataW.trod_int Tryz.underlying3 g4
    obtain ⟨s, e5, _, hs⟩ := DataW.trod_string Tryz.underlying9 g5
    simp at e0 e1 e2 e3 e4 e5
    obtain ⟨pa, pl, pc, e6, hpk, hno, hwt⟩ := picks_open g6
    refine ⟨⟨k, a, b, c, d, s, pa, pl, pc⟩, by rw [e0, e1, e2, e3, e4, e5, e6]; rfl, hs, hwa, hpk, hno, ?_⟩
    rcases hwt with h0 | ⟨q, hq, hle⟩
    · exact Or.inl h0
    · right
      refine ⟨q, ?_, hle⟩
      simp only [DataW.weights, Tryz.underlying27]
      exact DataW.weights_mem_each (j := 6) (t := 24) rfl rfl q hq

/-- A script that came in: its steps, and that they fit. -/
theorem script_open3 {W : World} {sa : Option Addr} {m cap : Nat} {d : DataW H} {p : List MemPlace} (h : DataW.Trod enc Tryz.prog W 0 (fun _ => true) true 22 (.slice sa m cap) d p) (hwt : ∀ n ∈ d.weights Tryz.prog 22, n ≤ reachBytes) :
    (∃ ops, Scr W sa m ops ∧ WfK W m ops) ∧ (m = 0 ∨ ∃ es sp, d = .slice es sp ∧ m ≤ es.length + sp.length) := by
  obtain ⟨fuel, hf⟩ := h
  rcases open_slice Tryz.underlying22 hf with ⟨hcs, _⟩ | ⟨a, len, cap', mm, n, D, Pl, hcs, _, hl, _, hmm, hx, hel⟩
  · simp [Value.cells] at hcs
    obtain ⟨rfl, rfl, rfl⟩ := hcs
    exact ⟨⟨fun _ => ⟨0, 0, 0, 0, 0, ⟨#[]⟩, none, 0, 0⟩, ⟨fun i hi => by omega, fun i hi => by omega⟩, fun i hi => by omega⟩, Or.inl rfl⟩
  · simp [Value.cells] at hcs
    obtain ⟨rfl, rfl, rfl⟩ := hcs
    simp at hmm
    subst hmm
    rw [cellsOp] at hel
    simp only [Prod.mk.injEq] at hx
    refine ⟨?_, Or.inr ⟨_, _, hx.1, by simp⟩⟩
    by_cases hm0 : mm = 0
    · exact ⟨fun _ => ⟨0, 0, 0, 0, 0, ⟨#[]⟩, none, 0, 0⟩, ⟨fun i hi => by omega, fun i hi => by omega⟩, fun i hi => by omega⟩
    obtain ⟨sb, off, spot⟩ := a
    obtain rfl : spot = none := by
      obtain ⟨cs', h1, h2⟩ := hel 0 (by omega)
      obtain ⟨o, rfl, _, _⟩ := op_open3 h2
      have h3 := (World.cells?_some h1).2.2 0 (by omega)
      simpa [Addr.add] using World.cell?_spot h3
    have hop : ∀ i, i < mm → ∃ o : OpV, (∀ j v, (opC o)[j]? = some v → W.cell? ⟨sb, off + i * 7 + j, none⟩ = some v) ∧ o.s.size ≤ maxLen ∧ (Lit.int .i64 o.a).wf = true ∧ (∃ picks, PicksAt W (.slice o.pa o.pl o.pc) picks) ∧ (o.pa = none → o.pl = 0 ∧ o.pc = 0) ∧ (o.pl = 0 ∨ ∃ n ∈ (D i).weights Tryz.prog 27, o.pl * 8 ≤ n) := by
      intro i hi
      obtain ⟨cs', h1, h2⟩ := hel i hi
      obtain ⟨o, rfl, hs⟩ := op_open3 h2
      refine ⟨o, fun j v hv => ?_, hs⟩
      have hj : j < 7 := by rw [← opC_len o]; exact (List.getElem?_eq_some_iff.1 hv).1
      have h3 := (World.cells?_some h1).2.2 j hj
      rw [hv, add_plain, add_plain] at h3
      exact h3
    haveI : Inhabited OpV := ⟨⟨0, 0, 0, 0, 0, ⟨#[]⟩, none, 0, 0⟩⟩
    obtain ⟨ops, hops⟩ := choose_lt (α := OpV) hop
    refine ⟨ops, ⟨fun i hi => ⟨sb, off, rfl, (hops i (by omega)).1⟩, fun i hi => (hops i (by omega)).2.1⟩, fun i hi => ?_⟩
    obtain ⟨_, _, hwf, ⟨picks, hpk⟩, hno, hw⟩ := hops i (by omega)
    refine ⟨hwf, picks, hpk, hno, ?_⟩
    rcases hw with h0 | ⟨q, hq, hle⟩
    · rw [h0]; decide
    · refine Nat.le_trans hle ?_
      have := hwt q (by
        rw [hx.1]
        simp only [DataW.weights, Tryz.underlying22, List.mem_cons, List.mem_append]
        exact Or.inr (Or.inl (weightsAll_mem (d := D i) (List.mem_map.2 ⟨i, List.mem_range.2 hi, rfl⟩) q hq)))
      simpa [reachBytes] using this

set_option maxRecDepth 100000 in
/-- What the walk gives, for every script. -/
theorem walks_contract (B : BothK) (hr : (loadQ first).1 = 0) (W : World) (base : Nat) (args : Array Value) (ds gs : List (DataW H)) (before : List MemPlace)
    (hval : ∀ (j : Nat) t v, Tryz.f5.params[j]? = some t → args[j]? = some v → Value.okWide Tryz.prog W .any base t v)
    (hW : DataW.Whole enc Tryz.prog Tryz.f5.params.toList Rows.walksSpec.vars false W args.toList ds gs before)
    (hsz : (DataW.weightsEach Tryz.prog (Tryz.f5.params.toList ++ Rows.walksSpec.plain.varTypes Tryz.prog) (ds ++ gs)).all (· ≤ reachBytes) = true) :
    Calls Tryz.prog 5 args W fun e W' => ∃ v, e = .returned v ∧ Rows.walksSpec.post enc Tryz.prog Tryz.f5 false true false false W args v W' := by
  have hW' := hW
  obtain ⟨p, q, hA0, hV, rfl, hfz, hnd⟩ := hW
  have hA : DataW.TrodAll enc Tryz.prog W 0 (fun _ => true) true Tryz.f5.params.toList args.toList ds p := hA0
  rw [Tryz.params5] at hA hval hsz
  obtain ⟨v0, vs0, d0, ds0, p0, q0, hargs, rfl, rfl, h0, r0⟩ := trodAll_cons hA
  obtain ⟨rfl, rfl, rfl⟩ := trodAll_nil r0
  obtain rfl : args = #[v0] := by cases args; simp_all
  obtain ⟨rfl, rfl⟩ := trodVars_none hV
  clear hA0
  simp only [List.append_nil] at hW'
  obtain ⟨sa, m, cap, rfl⟩ := okWide_slice Tryz.underlying22 (hval 0 22 v0 rfl rfl)
  have hwt : ∀ n ∈ d0.weights Tryz.prog 22, n ≤ reachBytes := fun n hn => by
    have := List.all_eq_true.1 hsz n (DataW.weights_mem_each (j := 0) (t := 22) rfl rfl n hn)
    simpa using this
  obtain ⟨⟨ops, S, SW⟩, hlen⟩ := script_open3 h0 hwt
  have hm : m * 80 ≤ 140737488351232 := by
    rcases hlen with rfl | ⟨es, sp, rfl, hle⟩
    · decide
    · have := sized_slice hsz (j := 0) (t := 22) (e := 27) rfl rfl Tryz.underlying22
      rw [bytesOp] at this
      simp only [reachBytes] at this
      omega
  refine (walks_any B hr W sa m cap ops S SW hm).mono fun e W' ⟨he, hg⟩ => ?_
  subst he
  have hB := gb_below hg
  have hlt : ∀ x ∈ p0, x.block < W.heap.size := fun x hx => hW'.lt x (by simpa using hx)
  refine ⟨_, rfl, _, _, _, [], p0 ++ [], [], hW', ?_, ?_, rfl, hB.frame _, fun h => by cases h⟩
  · exact trodAll_cons_mk (shut_bool Tryz.underlying4 _) trodAll_mk0
  · exact trodAll_cons_mk (Below.trod lawLaidOut (by kernel_rfl) (of_decide_eq_true (by kernel_rfl)) h0 hB hlt) trodAll_mk0
end
theorem walks_laid_met (os : Os) : laidMet Tryz.prog Rows.walksRow.laid (({ World.holding Tryz.prog os ⟨#[], #[], []⟩ with heap := (((World.holding Tryz.prog os ⟨#[], #[], []⟩).heap.modify 0 (laidObj Rows.laid_internal_strconv_uint64pow10)).modify 2 (laidObj Rows.laid_math_bits_deBruijn32tab)).modify 3 (laidObj Rows.laid_math_bits_deBruijn64tab) } : World).forCall (fun _ _ => 0) ⟨#[], #[.slice none 0 0], []⟩).memory :=
  laidMet_of_run' 8 (by kernel_rfl) (by kernel_rfl)
theorem walks_reads (os : Os) {H : Type} (enc : TypeId × Value → H) : ∃ places, DataW.whole enc Tryz.prog (({ World.holding Tryz.prog os ⟨#[], #[], []⟩ with heap := (((World.holding Tryz.prog os ⟨#[], #[], []⟩).heap.modify 0 (laidObj Rows.laid_internal_strconv_uint64pow10)).modify 2 (laidObj Rows.laid_math_bits_deBruijn32tab)).modify 3 (laidObj Rows.laid_math_bits_deBruijn64tab) } : World).forCall (fun _ _ => 0) ⟨#[], #[.slice none 0 0], []⟩).memory Tryz.f5.params.toList Rows.walksSpec.vars false #[Value.slice none 0 0].toList 8 = some ([.nil], [], places) :=
  ⟨[], by kernel_rfl⟩

set_option maxRecDepth 100000 in
theorem walks_lifted (B : BothK) (hr : (loadQ first).1 = 0) (os : Os) (started : os.Started) (H : Type) (enc : TypeId × Value → H) (F : Stop.Interp) :
    ReturnsInHanded { calm := true } Tryz.checked os 5 .any ((OpenSpec.ofChange Rows.walksSpec).preRow enc Tryz.prog Tryz.f5 Rows.walksRow.domain false Rows.walksRow.laid) (((OpenSpec.ofChange Rows.walksSpec).at F).post enc Tryz.prog Tryz.f5 false true false false) := by
  obtain ⟨places, hx⟩ := walks_reads os enc
  refine returnsInHanded_of_row (C := Tryz.checked) (s := OpenSpec.ofChange Rows.walksSpec) lawOwn started (by kernel_rfl) Tryz.func5
    (witness_calm (enc := enc) (C := Tryz.checked) ({ World.holding Tryz.prog os ⟨#[], #[], []⟩ with heap := (((World.holding Tryz.prog os ⟨#[], #[], []⟩).heap.modify 0 (laidObj Rows.laid_internal_strconv_uint64pow10)).modify 2 (laidObj Rows.laid_math_bits_deBruijn32tab)).modify 3 (laidObj Rows.laid_math_bits_deBruijn64tab) } : World) #[.slice none 0 0] rfl (by kernel_rfl) (by kernel_rfl) (by kernel_rfl)
      (OpenSpec.preRow_of_cond 8 hx (by kernel_rfl) (fun k hk => by cases hk) (by kernel_rfl) (walks_laid_met os))) ?_
  intro W base args ds gs before hval hW _ _ hsz _ _ _
  exact walks_contract B hr W base args ds gs before hval hW hsz

theorem walks_said (B : BothK) (hr : (loadQ first).1 = 0) : Rows.WalksSaid :=
  OpenClaim.holds_of_wide_leaving_time 5 Tryz.f5 rfl rfl rfl rfl rfl rfl rfl ⟨rfl, rfl, rfl, rfl, rfl⟩ rfl rfl rfl rfl rfl (by kernel_rfl) Tryz.func5 (by kernel_rfl)
    (of_decide_eq_true (by kernel_rfl)) (by unfold Func.isWrapper; first | (rw [if_pos (by decide +kernel)]; kernel_rfl) | (rw [if_neg (by decide +kernel)]; exact ⟨rfl, rfl⟩))
    (fun os started H enc _ F => by rw [OpenClaim.pre_eq_preRow]; exact leaving_of_handed post_with_time (walks_lifted B hr os started H enc F))

/-- No parameter wants a stand-in; the program's own looks are off: what the card asks. -/
theorem walks_plain (f : FuncId) (fn : Func) (hf : Tryz.pinned.checked.prog.funcNamed Rows.walksRow.func = some f) (hfn : Tryz.pinned.checked.prog.funcs[f]? = some fn) :
    false = Tryz.pinned.checked.prog.looks [] ∧ ∀ (j : Nat) t, fn.params[j]? = some t → Tryz.pinned.checked.prog.wantsStandIn t = false := by
  obtain rfl : f = 5 := Option.some.inj ((show Tryz.prog.funcNamed Rows.walksRow.func = some 5 by kernel_rfl).symm.trans hf) |>.symm
  obtain rfl : fn = Tryz.f5 := (Option.some.inj (Tryz.func5.symm.trans hfn)).symm
  refine ⟨by kernel_rfl, fun j t ht => ?_⟩
  rw [Tryz.params5] at ht
  obtain rfl : t = 22 := by simpa using Array.mem_of_getElem? ht
  exact (show Tryz.prog.wantsStandIn 22 = false by kernel_rfl)

theorem bothK : BothK := ⟨fun w s h => by have hl := load_any3 w s h; rw [read_eq] at hl; exact hl, fun w s _ => rload_anyC w s⟩
theorem first_takenK : (loadQ first).1 = 0 := by kernel_rfl
theorem walks_holds : Rows.WalksCardSaid :=
  holds_tied_goes .later _ _ _ _ (walks_said bothK first_takenK) (by kernel_rfl) walks_row_tie rfl ⟨rfl, rfl⟩ (by kernel_rfl) rfl walks_plain (by kernel_rfl)
end Go.Proofs.YtmpaeladhoomoaaGreatDoor
