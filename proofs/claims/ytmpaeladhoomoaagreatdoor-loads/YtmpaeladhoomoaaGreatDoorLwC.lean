/-
  A script that comes in as an argument, opened; the row of Loads: what its walk gives for every script.
-/
import Derived.Test.YtmpaeladhoomoaaGreatDoorLwB
import Derived.Test.YtmpaeladhoomoaaGreatDoorRows
import Derived.WalkKit
import Derived.ProofKit
import Derived.OpenShut
import Derived.Deep.Slices
import Derived.Deep.DeepHandedRow
import Derived.Carry
import Derived.SizedLaws
namespace Go.Proofs.YtmpaeladhoomoaaGreatDoor
open Go.ChangeShapes Go.WideShapes Go.ChangeAt Go.RowKit Go.Deep

theorem lawOwn : ownKnob Tryz.prog.godebug = none := by kernel_rfl
theorem lawLaidOut : laidOutB Tryz.prog = true := by kernel_rfl
theorem cellsOp : Tryz.prog.cellsOf 27 = 7 := by kernel_rfl
theorem bytesOp : Tryz.prog.bytesOf 27 = 80 := by kernel_rfl
theorem cellsInt : Tryz.prog.cellsOf 3 = 1 := by kernel_rfl
theorem cellsStr : Tryz.prog.cellsOf 9 = 1 := by kernel_rfl
theorem cellsInts : Tryz.prog.cellsOf 24 = 1 := by kernel_rfl

section
variable {H : Type} {enc : TypeId × Value → H}

set_option maxRecDepth 100000 in
theorem op_open {w : World} {base : Nat} {spare : Nat → Bool} {held : Bool} {fuel : Nat} {cs : List Value} {x : DataW H × List MemPlace} (h : DataW.trod enc Tryz.prog w base spare held fuel 27 cs = some x) :
    ∃ o : OpV, cs = opC o ∧ o.s.size ≤ maxLen := by
  obtain ⟨ys, n, _, rfl, hl, hlen, hf⟩ := DataW.trod_struct Tryz.underlying27 h
  rw [cellsOp] at hl
  match cs, hl, ys, hlen with
  | [c0, c1, c2, c3, c4, c5, c6], _, [y0, y1, y2, y3, y4, y5, y6], _ =>
    have g0 : DataW.trod enc Tryz.prog w base spare held n 3 (([c0, c1, c2, c3, c4, c5, c6].drop 0).take (Tryz.prog.cellsOf 3)) = some y0 := hf 0 _ rfl
    rw [cellsInt] at g0
    have g1 : DataW.trod enc Tryz.prog w base spare held n 3 (([c0, c1, c2, c3, c4, c5, c6].drop 1).take (Tryz.prog.cellsOf 3)) = some y1 := hf 1 _ rfl
    rw [cellsInt] at g1
    have g2 : DataW.trod enc Tryz.prog w base spare held n 3 (([c0, c1, c2, c3, c4, c5, c6].drop 2).take (Tryz.prog.cellsOf 3)) = some y2 := hf 2 _ rfl
    rw [cellsInt] at g2
    have g3 : DataW.trod enc Tryz.prog w base spare held n 3 (([c0, c1, c2, c3, c4, c5, c6].drop 3).take (Tryz.prog.cellsOf 3)) = some y3 := hf 3 _ rfl
    rw [cellsInt] at g3
    have g4 : DataW.trod enc Tryz.prog w base spare held n 3 (([c0, c1, c2, c3, c4, c5, c6].drop 4).take (Tryz.prog.cellsOf 3)) = some y4 := hf 4 _ rfl
    rw [cellsInt] at g4
    have g5 : DataW.trod enc Tryz.prog w base spare held n 9 (([c0, c1, c2, c3, c4, c5, c6].drop 5).take (Tryz.prog.cellsOf 9)) = some y5 := hf 5 _ rfl
    rw [cellsStr] at g5
    have g6 : DataW.trod enc Tryz.prog w base spare held n 24 (([c0, c1, c2, c3, c4, c5, c6].drop 6).take (Tryz.prog.cellsOf 24)) = some y6 := hf 6 _ rfl
    rw [cellsInts] at g6
    obtain ⟨k, e0, _, _⟩ := DataW.trod_int Tryz.underlying3 g0
    obtain ⟨a, e1, _, _⟩ := DataW.trod_int Tryz.underlying3 g1
    obtain ⟨b, e2, _, _⟩ := DataW.trod_int Tryz.underlying3 g2
    obtain ⟨c, e3, _, _⟩ := DataW.trod_int Tryz.underlying3 g3
    obtain ⟨d, e4, _, _⟩ := DataW.trod_int Tryz.underlying3 g4
    obtain ⟨s, e5, _, hs⟩ := DataW.trod_string Tryz.underlying9 g5
    simp at e0 e1 e2 e3 e4 e5
    rcases open_slice Tryz.underlying24 g6 with ⟨e6, _⟩ | ⟨pa, pl, pc, _, _, _, _, e6, _⟩
    · simp at e6
      exact ⟨⟨k, a, b, c, d, s, none, 0, 0⟩, by rw [e0, e1, e2, e3, e4, e5, e6]; rfl, hs⟩
    · simp at e6
      exact ⟨⟨k, a, b, c, d, s, some pa, pl, pc⟩, by rw [e0, e1, e2, e3, e4, e5, e6]; rfl, hs⟩

theorem opC_len (o : OpV) : (opC o).length = 7 := rfl

/-- A script that came in: its steps, and that they fit. -/
theorem script_open {W : World} {sa : Option Addr} {m cap : Nat} {d : DataW H} {p : List MemPlace} (h : DataW.Trod enc Tryz.prog W 0 (fun _ => true) true 22 (.slice sa m cap) d p) :
    (∃ ops, Scr W sa m ops) ∧ (m = 0 ∨ ∃ es sp, d = .slice es sp ∧ m ≤ es.length + sp.length) := by
  obtain ⟨fuel, hf⟩ := h
  rcases open_slice Tryz.underlying22 hf with ⟨hcs, _⟩ | ⟨a, len, cap', mm, n, D, Pl, hcs, _, hl, _, hmm, hx, hel⟩
  · simp [Value.cells] at hcs
    obtain ⟨rfl, rfl, rfl⟩ := hcs
    exact ⟨⟨fun _ => ⟨0, 0, 0, 0, 0, ⟨#[]⟩, none, 0, 0⟩, ⟨fun i hi => by omega, fun i hi => by omega⟩⟩, Or.inl rfl⟩
  · simp [Value.cells] at hcs
    obtain ⟨rfl, rfl, rfl⟩ := hcs
    simp at hmm
    subst hmm
    rw [cellsOp] at hel
    simp only [Prod.mk.injEq] at hx
    refine ⟨?_, Or.inr ⟨_, _, hx.1, by simp⟩⟩
    by_cases hm0 : mm = 0
    · exact ⟨fun _ => ⟨0, 0, 0, 0, 0, ⟨#[]⟩, none, 0, 0⟩, ⟨fun i hi => by omega, fun i hi => by omega⟩⟩
    obtain ⟨sb, off, spot⟩ := a
    obtain rfl : spot = none := by
      obtain ⟨cs', h1, h2⟩ := hel 0 (by omega)
      obtain ⟨o, rfl, _⟩ := op_open h2
      have h3 := (World.cells?_some h1).2.2 0 (by omega)
      simpa [Addr.add] using World.cell?_spot h3
    have hop : ∀ i, i < mm → ∃ o : OpV, (∀ j v, (opC o)[j]? = some v → W.cell? ⟨sb, off + i * 7 + j, none⟩ = some v) ∧ o.s.size ≤ maxLen := by
      intro i hi
      obtain ⟨cs', h1, h2⟩ := hel i hi
      obtain ⟨o, rfl, hs⟩ := op_open h2
      refine ⟨o, fun j v hv => ?_, hs⟩
      have hj : j < 7 := by rw [← opC_len o]; exact (List.getElem?_eq_some_iff.1 hv).1
      have h3 := (World.cells?_some h1).2.2 j hj
      rw [hv, add_plain, add_plain] at h3
      exact h3
    haveI : Inhabited OpV := ⟨⟨0, 0, 0, 0, 0, ⟨#[]⟩, none, 0, 0⟩⟩
    obtain ⟨ops, hops⟩ := choose_lt (α := OpV) hop
    exact ⟨ops, ⟨fun i hi => ⟨sb, off, rfl, (hops i (by omega)).1⟩, fun i hi => (hops i (by omega)).2⟩⟩

set_option maxRecDepth 100000 in
/-- What the walk gives, for every script. -/
theorem loads_contract {r : ByteArray → Nat × Nat} (B : Both r) (hr : (r first).1 = 0) (W : World) (base : Nat) (args : Array Value) (ds gs : List (DataW H)) (before : List MemPlace)
    (hval : ∀ (j : Nat) t v, Tryz.f3.params[j]? = some t → args[j]? = some v → Value.okWide Tryz.prog W .any base t v)
    (hW : DataW.Whole enc Tryz.prog Tryz.f3.params.toList Rows.loadsSpec.vars false W args.toList ds gs before)
    (hsz : (DataW.weightsEach Tryz.prog (Tryz.f3.params.toList ++ Rows.loadsSpec.plain.varTypes Tryz.prog) (ds ++ gs)).all (· ≤ reachBytes) = true) :
    Calls Tryz.prog 3 args W fun e W' => ∃ v, e = .returned v ∧ Rows.loadsSpec.post enc Tryz.prog Tryz.f3 false true false false W args v W' := by
  have hW' := hW
  obtain ⟨p, q, hA0, hV, rfl, hfz, hnd⟩ := hW
  have hA : DataW.TrodAll enc Tryz.prog W 0 (fun _ => true) true Tryz.f3.params.toList args.toList ds p := hA0
  rw [Tryz.params3] at hA hval hsz
  obtain ⟨v0, vs0, d0, ds0, p0, q0, hargs, rfl, rfl, h0, r0⟩ := trodAll_cons hA
  obtain ⟨rfl, rfl, rfl⟩ := trodAll_nil r0
  obtain rfl : args = #[v0] := by cases args; simp_all
  obtain ⟨rfl, rfl⟩ := trodVars_none hV
  clear hA0
  simp only [List.append_nil] at hW'
  obtain ⟨sa, m, cap, rfl⟩ := okWide_slice Tryz.underlying22 (hval 0 22 v0 rfl rfl)
  obtain ⟨⟨ops, S⟩, hlen⟩ := script_open h0
  have hm : m * 80 ≤ 140737488351232 := by
    rcases hlen with rfl | ⟨es, sp, rfl, hle⟩
    · decide
    · have := sized_slice hsz (j := 0) (t := 22) (e := 27) rfl rfl Tryz.underlying22
      rw [bytesOp] at this
      simp only [reachBytes] at this
      omega
  refine (loads_any B hr W sa m cap ops S hm).mono fun e W' ⟨he, hg⟩ => ?_
  subst he
  have hB := gb_below hg
  have hlt : ∀ x ∈ p0, x.block < W.heap.size := fun x hx => hW'.lt x (by simpa using hx)
  refine ⟨_, rfl, _, _, _, [], p0 ++ [], [], hW', ?_, ?_, rfl, hB.frame _, fun h => by cases h⟩
  · exact trodAll_cons_mk (shut_bool Tryz.underlying4 _) trodAll_mk0
  · exact trodAll_cons_mk (Below.trod lawLaidOut (by kernel_rfl) (of_decide_eq_true (by kernel_rfl)) h0 hB hlt) trodAll_mk0
end
end Go.Proofs.YtmpaeladhoomoaaGreatDoor
