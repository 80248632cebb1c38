/-
  The library's functions that Prints reaches, laid at this program: String, WriteString, Join, Itoa.
  The program's Print: names, numbers, steps.
  The program's Print: formulas.
-/
import Derived.Shelf.Strings.Builder1
import Derived.Shelf.Strings.Builder2
import Derived.Shelf.Strings.OnBuilder
import Derived.Shelf.Strconv.Itoa0
import Derived.Shelf.Strconv.Itoa1
import Derived.Shelf.LaysM
import Derived.Shelf.Strconv.Itoa2
import Derived.Shelf.Strconv.Itoa3
import Derived.Test.YtmpaeladhoomoaaGreatDoorProg
import Derived.Test.YtmpaeladhoomoaaGreatDoorPrD
namespace Go.Proofs
open Go.Shelf
def Tryz.lays169_ren : Go.Shelf.Ren := ⟨fun | 169 => 54 | n => n, fun | 70 => 90 | 9 => 9 | 0 => 0 | 72 => 92 | 37 => 81 | 127 => 161 | 3 => 3 | 5 => 5 | n => n, fun | n => n⟩
theorem Tryz.lays169 : Go.Proofs.Lays.n169 Tryz.prog Tryz.lays169_ren := {
  mixed := by kernel_rfl
  f169 := Tryz.func54.trans (congrArg some (by kernel_rfl))
  t0 := Tryz.underlying0
  a0 := Tryz.isAgg0
  z0 := Tryz.sizeOf0
  v0 := Tryz.zeroValue0
  t3 := Tryz.underlying3
  a3 := Tryz.isAgg3
  z3 := Tryz.sizeOf3
  v3 := Tryz.zeroValue3
  t9 := Tryz.underlying9
  a9 := Tryz.isAgg9
  z9 := Tryz.sizeOf9
  v9 := Tryz.zeroValue9
  t37 := Tryz.underlying81
  a37 := Tryz.isAgg81
  z37 := Tryz.sizeOf81
  v37 := Tryz.zeroValue81
  t70 := Tryz.underlying90
  a70 := Tryz.isAgg90
  z70 := Tryz.sizeOf90
  v70 := Tryz.zeroValue90
  t72 := Tryz.underlying92
  a72 := Tryz.isAgg92
  z72 := Tryz.sizeOf92
  v72 := Tryz.zeroValue92
  t127 := Tryz.underlying161
  a127 := Tryz.isAgg161
  z127 := Tryz.sizeOf161
  v127 := Tryz.zeroValue161 }
theorem Tryz.Builder_Extra_169 : Builder.Extra Tryz.prog Tryz.lays169_ren := {
  sizeBuilder := by kernel_rfl
  liesBuilder := by kernel_rfl
  t5 := Tryz.underlying5
  a5 := Tryz.isAgg5
  z5 := Tryz.sizeOf5
  v5 := Tryz.zeroValue5
  infoByte := by kernel_rfl
  cellsByte := by kernel_rfl
  sizeByte := by kernel_rfl
  neB5 := by decide }
open Go.RowKit in
theorem Tryz.Builder_String_any (B b : Nat) (l : List UInt8) (w : World) (h : Lib.IsBuilder 92 5 B b (Lib.byteCells l) w) (hBw : B ≤ w.heap.size) :
    Calls Tryz.prog 54 #[.pointer (some ⟨b, 0, none⟩)] w fun e w' => e = .returned (.string ⟨l.toArray⟩) ∧ Below B w w' := Any.Builder_String_any Tryz.lays169 Tryz.Builder_Extra_169 B b l w h hBw
def Tryz.lays156_ren : Go.Shelf.Ren := ⟨fun | 156 => 100 | 165 => 162 | 166 => 50 | 169 => 54 | 240 => 75 | 241 => 209 | 276 => 122 | 277 => 236 | n => n, fun | 31 => 39 | 9 => 9 | 3 => 3 | 4 => 4 | 0 => 0 | 20 => 20 | 72 => 92 | 76 => 103 | 70 => 90 | 37 => 81 | 75 => 102 | 127 => 161 | 164 => 225 | 5 => 5 | 80 => 37 | n => n, fun | n => n⟩
theorem Tryz.lays156 : Go.Proofs.Lays.n156 Tryz.prog Tryz.lays156_ren := {
  mixed := by kernel_rfl
  f156 := Tryz.func100.trans (congrArg some (by kernel_rfl))
  f165 := Tryz.func162.trans (congrArg some (by kernel_rfl))
  f166 := Tryz.func50.trans (congrArg some (by kernel_rfl))
  f169 := Tryz.func54.trans (congrArg some (by kernel_rfl))
  f240 := Tryz.func75.trans (congrArg some (by kernel_rfl))
  f241 := Tryz.func209.trans (congrArg some (by kernel_rfl))
  f276 := Tryz.func122.trans (congrArg some (by kernel_rfl))
  f277 := Tryz.func236.trans (congrArg some (by kernel_rfl))
  t0 := Tryz.underlying0
  a0 := Tryz.isAgg0
  z0 := Tryz.sizeOf0
  v0 := Tryz.zeroValue0
  t3 := Tryz.underlying3
  a3 := Tryz.isAgg3
  z3 := Tryz.sizeOf3
  v3 := Tryz.zeroValue3
  t4 := Tryz.underlying4
  a4 := Tryz.isAgg4
  z4 := Tryz.sizeOf4
  v4 := Tryz.zeroValue4
  t9 := Tryz.underlying9
  a9 := Tryz.isAgg9
  z9 := Tryz.sizeOf9
  v9 := Tryz.zeroValue9
  t20 := Tryz.underlying20
  a20 := Tryz.isAgg20
  z20 := Tryz.sizeOf20
  v20 := Tryz.zeroValue20
  t31 := Tryz.underlying39
  a31 := Tryz.isAgg39
  z31 := Tryz.sizeOf39
  v31 := Tryz.zeroValue39
  t37 := Tryz.underlying81
  a37 := Tryz.isAgg81
  z37 := Tryz.sizeOf81
  v37 := Tryz.zeroValue81
  t70 := Tryz.underlying90
  a70 := Tryz.isAgg90
  z70 := Tryz.sizeOf90
  v70 := Tryz.zeroValue90
  t72 := Tryz.underlying92
  a72 := Tryz.isAgg92
  z72 := Tryz.sizeOf92
  v72 := Tryz.zeroValue92
  t75 := Tryz.underlying102
  a75 := Tryz.isAgg102
  z75 := Tryz.sizeOf102
  v75 := Tryz.zeroValue102
  t76 := Tryz.underlying103
  a76 := Tryz.isAgg103
  z76 := Tryz.sizeOf103
  v76 := Tryz.zeroValue103
  t127 := Tryz.underlying161
  a127 := Tryz.isAgg161
  z127 := Tryz.sizeOf161
  v127 := Tryz.zeroValue161
  t164 := Tryz.underlying225
  a164 := Tryz.isAgg225
  z164 := Tryz.sizeOf225
  v164 := Tryz.zeroValue225 }
theorem Tryz.Builder_Extra_156 : Builder.Extra Tryz.prog Tryz.lays156_ren := {
  sizeBuilder := by kernel_rfl
  liesBuilder := by kernel_rfl
  t5 := Tryz.underlying5
  a5 := Tryz.isAgg5
  z5 := Tryz.sizeOf5
  v5 := Tryz.zeroValue5
  infoByte := by kernel_rfl
  cellsByte := by kernel_rfl
  sizeByte := by kernel_rfl
  neB5 := by decide }
open Go.RowKit in
theorem Tryz.strings_Join (bk o c : Nat) (xs : List ByteArray) (sep : ByteArray) (w : World) (hcells : ∀ (j : Nat) x, xs[j]? = some x → w.cell? ⟨bk, o + j, none⟩ = some (.string x)) (hbk : bk < w.heap.size) (hN : xs.length ≤ 140737488355328) (hcap : xs.length ≤ c) (hlen : (Lib.join (xs.map (·.data.toList)) sep.data.toList).length ≤ 140737488355328) :
    Calls Tryz.prog 100 #[.slice (some ⟨bk, o, none⟩) xs.length c, .string sep] w fun e w' => e = .returned (.string ⟨(Lib.join (xs.map (·.data.toList)) sep.data.toList).toArray⟩) ∧ Below w.heap.size w w' := Any.strings_Join Tryz.lays156 Tryz.Builder_Extra_156 bk o c xs sep w hcells hbk hN hcap hlen
def Tryz.lays171_ren : Go.Shelf.Ren := ⟨fun | 171 => 78 | 243 => 123 | 246 => 168 | 283 => 210 | 284 => 211 | 285 => 212 | 286 => 213 | 129 => 193 | 317 => 237 | 318 => 238 | 319 => 239 | 320 => 240 | 337 => 242 | 338 => 243 | n => n, fun | 3 => 3 | 9 => 9 | 2 => 2 | 4 => 4 | 171 => 294 | 0 => 0 | 53 => 174 | 37 => 81 | 5 => 5 | 173 => 296 | 212 => 311 | 51 => 165 | 20 => 20 | 213 => 312 | 46 => 232 | 232 => 316 | 233 => 317 | n => n, fun | 17 => 0 | 18 => 2 | 19 => 3 | n => n⟩
theorem Tryz.lays171 : Go.Proofs.Lays.n171 Tryz.prog Tryz.lays171_ren := {
  mixed := by kernel_rfl
  f129 := Tryz.func193.trans (congrArg some (by kernel_rfl))
  f171 := Tryz.func78.trans (congrArg some (by kernel_rfl))
  f243 := Tryz.func123.trans (congrArg some (by kernel_rfl))
  f246 := Tryz.func168.trans (congrArg some (by kernel_rfl))
  f283 := Tryz.func210.trans (congrArg some (by kernel_rfl))
  f284 := Tryz.func211.trans (congrArg some (by kernel_rfl))
  f285 := Tryz.func212.trans (congrArg some (by kernel_rfl))
  f286 := Tryz.func213.trans (congrArg some (by kernel_rfl))
  f317 := Tryz.func237.trans (congrArg some (by kernel_rfl))
  f318 := Tryz.func238.trans (congrArg some (by kernel_rfl))
  f319 := Tryz.func239.trans (congrArg some (by kernel_rfl))
  f320 := Tryz.func240.trans (congrArg some (by kernel_rfl))
  f337 := Tryz.func242.trans (congrArg some (by kernel_rfl))
  f338 := Tryz.func243.trans (congrArg some (by kernel_rfl))
  t0 := Tryz.underlying0
  a0 := Tryz.isAgg0
  z0 := Tryz.sizeOf0
  v0 := Tryz.zeroValue0
  t2 := Tryz.underlying2
  a2 := Tryz.isAgg2
  z2 := Tryz.sizeOf2
  v2 := Tryz.zeroValue2
  t3 := Tryz.underlying3
  a3 := Tryz.isAgg3
  z3 := Tryz.sizeOf3
  v3 := Tryz.zeroValue3
  t4 := Tryz.underlying4
  a4 := Tryz.isAgg4
  z4 := Tryz.sizeOf4
  v4 := Tryz.zeroValue4
  t5 := Tryz.underlying5
  a5 := Tryz.isAgg5
  z5 := Tryz.sizeOf5
  v5 := Tryz.zeroValue5
  t9 := Tryz.underlying9
  a9 := Tryz.isAgg9
  z9 := Tryz.sizeOf9
  v9 := Tryz.zeroValue9
  t20 := Tryz.underlying20
  a20 := Tryz.isAgg20
  z20 := Tryz.sizeOf20
  v20 := Tryz.zeroValue20
  t37 := Tryz.underlying81
  a37 := Tryz.isAgg81
  z37 := Tryz.sizeOf81
  v37 := Tryz.zeroValue81
  t46 := Tryz.underlying232
  a46 := Tryz.isAgg232
  z46 := Tryz.sizeOf232
  v46 := Tryz.zeroValue232
  t51 := Tryz.underlying165
  a51 := Tryz.isAgg165
  z51 := Tryz.sizeOf165
  v51 := Tryz.zeroValue165
  t53 := Tryz.underlying174
  a53 := Tryz.isAgg174
  z53 := Tryz.sizeOf174
  v53 := Tryz.zeroValue174
  t171 := Tryz.underlying294
  a171 := Tryz.isAgg294
  z171 := Tryz.sizeOf294
  v171 := Tryz.zeroValue294
  t173 := Tryz.underlying296
  a173 := Tryz.isAgg296
  z173 := Tryz.sizeOf296
  v173 := Tryz.zeroValue296
  t212 := Tryz.underlying311
  a212 := Tryz.isAgg311
  z212 := Tryz.sizeOf311
  v212 := Tryz.zeroValue311
  t213 := Tryz.underlying312
  a213 := Tryz.isAgg312
  z213 := Tryz.sizeOf312
  t232 := Tryz.underlying316
  a232 := Tryz.isAgg316
  z232 := Tryz.sizeOf316
  v232 := Tryz.zeroValue316
  t233 := Tryz.underlying317
  a233 := Tryz.isAgg317
  z233 := Tryz.sizeOf317
  v233 := Tryz.zeroValue317
  g17 := by kernel_rfl
  g18 := by kernel_rfl
  g19 := by kernel_rfl }
open Go.RowKit Go.Sort Go.Lib in
theorem Tryz.strconv_Itoa_small (i : Nat) (hi : i < 100) (w : World) :
    Calls Tryz.prog 78 #[.int .i64 i] w fun e w' => e = .returned (.string ⟨(Lib.decDigits i).toArray⟩) ∧ w' = w := Any.strconv_Itoa_small Tryz.lays171 i hi w
theorem Tryz.n166 : Go.Proofs.Lays.n166 Tryz.prog Tryz.lays156_ren := { Tryz.lays156 with }
end Go.Proofs

namespace Go.Proofs.YtmpaeladhoomoaaGreatDoor
open Go.RowKit

/-- A text as a string. -/
def bT (t : Txt) : ByteArray := ⟨t.toArray⟩
theorem bT_app (a b : Txt) : bT a ++ bT b = bT (a ++ b) := by apply bytes_ext; simp [bT]
theorem bT_size (t : Txt) : (bT t).size = t.length := by simp [bT, ByteArray.size]
theorem dec_canon {n : Nat} (h : n ≤ 9) : (⟨(Lib.decDigits n).toArray⟩ : ByteArray) = canonB 4 n := by
  rw [Lib.decDigits_one (by omega)]; rfl
theorem itoa_any (w : World) (n : Nat) (h : n ≤ 9) : Calls Tryz.prog 78 #[.int .i64 (n : Nat)] w fun e w' => e = .returned (.string (canonB 4 n)) ∧ w' = w := by
  have := Tryz.strconv_Itoa_small n (by omega) w
  rwa [dec_canon h] at this
theorem placeName_any (w : World) (n : Nat) (h : n ≤ 3) : Calls Tryz.prog 76 #[.int .i64 (n : Nat)] w fun e w' => e = .returned (.string (canonB 2 n)) ∧ w' = w := by
  have : n = 0 ∨ n = 1 ∨ n = 2 ∨ n = 3 := by omega
  rcases this with rfl | rfl | rfl | rfl
  all_goals
    go_enter Tryz.func76, Tryz.ntmps76
    go_wp2
    go_ret
    exact ⟨rfl, rfl⟩
theorem size2 (n : Nat) : (canonB 2 n).size = 1 := rfl
theorem size3 (n : Nat) : (canonB 3 n).size = 2 := rfl
theorem size4 (n : Nat) : (canonB 4 n).size = 1 := rfl

theorem registerName_any (w : World) (n : Nat) (h : n ≤ 3) : Calls Tryz.prog 77 #[.int .i64 (n : Nat)] w fun e w' => e = .returned (.string (canonB 3 n)) ∧ w' = w := by
  have z4 := size4 n
  go_enter Tryz.func77, Tryz.ntmps77
  go_wp2_with fail
  refine (itoa_any _ n (by omega)).mono ?_
  rintro e w1 ⟨rfl, rfl⟩
  go_wp2_with fail
  go_ret
  refine ⟨?_, rfl⟩
  show Ending.returned (.string (bT [114] ++ bT (canon 4 n))) = _
  rw [bT_app]; rfl

set_option maxRecDepth 100000 in
set_option maxHeartbeats 2000000 in
theorem stext_any (w : World) (x : St) (h : StOk x) : Calls Tryz.prog 51 #[stV x] w fun e w' => e = .returned (.string (bT (stT x))) ∧ w.grownBy w' none := by
  obtain ⟨k, p, r, d, c⟩ := x
  obtain ⟨h1, h2, h3, h4, h5⟩ := h
  simp only at h1 h2 h3 h4 h5
  have z2 := size2 p
  have z3 := size3 r
  have z4 := size4 d
  have z5 := size4 c
  have hk : k = 0 ∨ k = 1 ∨ k = 2 ∨ k = 3 ∨ k = 4 ∨ k = 5 ∨ k = 6 := by omega
  unfold stV
  rcases hk with rfl | rfl | rfl | rfl | rfl | rfl | rfl
  all_goals
    go_enter Tryz.func51, Tryz.ntmps51
    go_wp2_with fail
    go_quiet (first | (go_at_call 76; exact Calls.quiet_of_same (placeName_any _ p h2)) | (go_at_call 77; exact Calls.quiet_of_same (registerName_any _ r h3)) | (go_at_call 78; exact Calls.quiet_of_same (itoa_any _ d h4)))
    go_wp2_with fail
  · go_ret
    refine ⟨?_, gb_drewN (gb_alloc (gb_refl _ _) _) _⟩
    show Ending.returned (.string (bT (canon 2 p) ++ bT [32, 58, 61, 32] ++ bT (canon 4 d))) = _
    rw [bT_app, bT_app]; rfl
  · go_ret
    refine ⟨?_, gb_drewN (gb_alloc (gb_refl _ _) _) _⟩
    show Ending.returned (.string (bT (canon 2 p) ++ bT [32, 58, 61, 32] ++ bT (canon 3 r))) = _
    rw [bT_app, bT_app]; rfl
  · go_ret
    refine ⟨?_, gb_drewN (gb_alloc (gb_refl _ _) _) _⟩
    show Ending.returned (.string (bT (canon 3 r) ++ bT [32, 58, 61, 32] ++ bT (canon 2 p))) = _
    rw [bT_app, bT_app]; rfl
  · go_ret
    refine ⟨?_, gb_drewN (gb_alloc (gb_refl _ _) _) _⟩
    show Ending.returned (.string (bT (canon 3 r) ++ bT [32, 58, 61, 32] ++ bT (canon 4 d))) = _
    rw [bT_app, bT_app]; rfl
  · go_ret
    refine ⟨?_, gb_drewN (gb_alloc (gb_refl _ _) _) _⟩
    show Ending.returned (.string (bT (canon 3 r) ++ bT [32, 58, 61, 32, 115, 119, 97, 112, 32] ++ bT (canon 2 p) ++ bT [32] ++ bT (canon 4 d))) = _
    rw [bT_app, bT_app, bT_app, bT_app]; rfl
  · go_ret
    exact ⟨rfl, gb_drewN (gb_alloc (gb_refl _ _) _) _⟩
  · refine (itoa_any _ c h5).mono ?_
    rintro e w1 ⟨rfl, rfl⟩
    go_wp2_with fail
    go_ret
    refine ⟨?_, gb_drewN (gb_alloc (gb_refl _ _) _) _⟩
    show Ending.returned (.string (bT [105, 102, 32] ++ bT (canon 3 r) ++ bT [32, 61, 32] ++ bT (canon 4 d) ++ bT [32, 115, 107, 105, 112, 32] ++ bT (canon 4 c))) = _
    rw [bT_app, bT_app, bT_app, bT_app, bT_app]; rfl
end Go.Proofs.YtmpaeladhoomoaaGreatDoor

namespace Go.Proofs.YtmpaeladhoomoaaGreatDoor
open Go.RowKit

theorem infoString : (Tryz.prog.info? 9).map (fun i => (i.zero, i.size, i.bytes)) = some (some (.string ⟨#[]⟩), 1, 16) := by kernel_rfl
theorem join_eq (sep : Txt) : ∀ (ts : List Txt), Lib.join ts sep = joinT sep ts := by
  intro ts
  induction ts with
  | nil => rfl
  | cons x r ih =>
    cases r with
    | nil => rw [Lib.join_one]; rfl
    | cons y r2 =>
      rw [Lib.join_cons, joinT, ← ih, Lib.join_cons]
      simp [Lib.joinTail]
theorem map_data (ts : List Txt) : (ts.map bT).map (·.data.toList) = ts := by
  rw [List.map_map]
  conv => rhs; rw [← List.map_id ts]
  apply List.map_congr_left
  intro a _
  simp [bT]
theorem join_any (w : World) (bk c : Nat) (ts : List Txt) (sep : Txt) (hcells : ∀ (j : Nat) t, ts[j]? = some t → w.cell? ⟨bk, j, none⟩ = some (.string (bT t))) (hbk : bk < w.heap.size) (hN : ts.length ≤ 401) (hcap : ts.length ≤ c) (hlen : (joinT sep ts).length ≤ 1000000) :
    Calls Tryz.prog 100 #[.slice (some ⟨bk, 0, none⟩) ts.length c, .string (bT sep)] w fun e w' => e = .returned (.string (bT (joinT sep ts))) ∧ w.grownBy w' none := by
  have h := Tryz.strings_Join bk 0 c (ts.map bT) (bT sep) w (fun j x hx => by
    rw [List.getElem?_map] at hx
    obtain ⟨t, ht, rfl⟩ := Option.map_eq_some_iff.1 hx
    rw [Nat.zero_add]; exact hcells j t ht) hbk (by simp; omega) (by simpa using hcap) (by rw [map_data, show (bT sep).data.toList = sep from by simp [bT], join_eq]; omega)
  rw [map_data, show (bT sep).data.toList = sep from by simp [bT], join_eq, List.length_map] at h
  exact h.mono (fun e w' h => ⟨h.1, below_gb h.2⟩)

theorem FRep.form {d : Nat} {w : World} {ok : Nat → Prop} {cs : List Value} {t : Txt} (h : FRep d w ok cs t) : ∃ (n0 : Int) (a : Option Addr) (k c : Nat) (n2 n3 n4 n5 : Int), cs = [.int .i64 n0, .slice a k c, .int .i64 n2, .int .i64 n3, .int .i64 n4, .int .i64 n5] := by
  cases d with
  | zero => exact h.elim
  | succ d =>
    rcases h with ⟨x, y, z, _, _, _, h, _⟩ | ⟨y, z, _, _, h, _⟩ | ⟨n0, g, c, ts, xs, _, _, _, _, h, _⟩ <;> exact ⟨_, _, _, _, _, _, _, _, h⟩
def TextSaid (d : Nat) : Prop := ∀ (w : World) (ok : Nat → Prop) (cs : List Value) (t : Txt), FRep d w ok cs t → (∀ x, ok x → x < w.heap.size) → t.length ≤ 1000000 →
  Calls Tryz.prog 53 #[.agg cs.toArray] w fun e w' => e = .returned (.string (bT t)) ∧ w.grownBy w' none
theorem joinT_part (sep : Txt) : ∀ (ts : List Txt) (u : Txt), u ∈ ts → u.length ≤ (joinT sep ts).length := by
  intro ts
  induction ts with
  | nil => intro u h; simp at h
  | cons x r ih =>
    intro u h
    cases r with
    | nil => simp at h; subst h; exact Nat.le_refl _
    | cons y r2 =>
      rcases List.mem_cons.1 h with rfl | h
      · simp [joinT]
      · have := ih u h
        simp [joinT] at this ⊢; omega

set_option maxRecDepth 100000 in
set_option maxHeartbeats 2000000 in
theorem joined_any (d : Nat) (HT : TextSaid d) (w : World) (ok : Nat → Prop) (g c : Nat) (xs : List Value) (ts : List Txt) (sep : Txt) (hcell : ∀ (o : Nat) (v : Value), xs[o]? = some v → w.cell? ⟨g, o, none⟩ = some v) (hk : Kids (fun c u => FRep d w ok c u) xs ts) (hokl : ∀ x, ok x → x < w.heap.size) (hlen : (joinT sep ts).length ≤ 1000000) (hn : ts.length ≤ 401) (hts : ts ≠ []) :
    Calls Tryz.prog 79 #[.slice (some ⟨g, 0, none⟩) ts.length c, .string (bT sep)] w fun e w' => e = .returned (.string (bT (joinT sep ts))) ∧ w.grownBy w' none := by
  obtain ⟨i0, hi, hz0, hz1, hz2⟩ := info_parts infoString
  have HTS : Hid (ts ≠ []) := hts
  have HK : Hid (Kids (fun c u => FRep d w ok c u) xs ts) := hk
  have HC : Hid (∀ (o : Nat) (v : Value), xs[o]? = some v → w.cell? ⟨g, o, none⟩ = some v) := hcell
  have HOK : Hid (∀ x, ok x → x < w.heap.size) := hokl
  have HL : Hid ((joinT sep ts).length ≤ 1000000) := hlen
  have HTX : Hid (TextSaid d) := HT
  clear hts hk hcell hokl hlen HT
  go_enter Tryz.func79, Tryz.ntmps79
  go_wp2_with (at_make; go_must (refine wpList_make_own _ (by rfl) _ _ 39 (by rfl) w.heap.size 9 i0 _ 1 Tryz.underlying39 hi hz0 hz1 .i64 .i64 _ ts.length (by rfl) (by rfl) rfl (by rw [hz2]; omega) (by unfold maxLen; omega) (Nat.le_refl _) ?_; intro w1 hown1 hg1))
  go_loopw [13, 5] (fun v13 v5 wr => ∃ (i : Nat) (ys : List Value), v13 = .int .i64 (i : Nat) ∧ i ≤ ts.length ∧ w.grownBy wr none ∧ wr.ownsRow w.heap.size 9 1 v5 i ys ∧ Hid (ys = (ts.take i).map (fun t => .string (bT t)))) (fun v13 _ _ => ts.length - (intOf v13).toNat)
  case atStart => exact ⟨0, [], rfl, Nat.zero_le _, hg1, hown1, rfl⟩
  case round =>
    obtain ⟨i, ys, rfl, hit, hG, own, HY⟩ := hrel
    obtain ⟨ta, tcap, rfl⟩ := own_slice own
    by_cases hin : i < ts.length
    · have hi' : decide ((i : Int) < (ts.length : Int)) = true := by simp; omega
      obtain ⟨u, hu⟩ : ∃ u, ts[i]? = some u := ⟨ts[i], List.getElem?_eq_getElem hin⟩
      have HU : Hid (ts[i]? = some u) := hu
      obtain ⟨cs, h6, hF, hcs⟩ := HK.out.get i u hu
      obtain ⟨n0, a, k, c2, n2, n3, n4, n5, rfl⟩ := hF.form
      have hq : ∀ o v, [Value.int .i64 n0, .slice a k c2, .int .i64 n2, .int .i64 n3, .int .i64 n4, .int .i64 n5][o]? = some v → wr.cell? ⟨g, i * 6 + o, none⟩ = some v := fun o v hv => gb_cell hG (HC.out _ _ (hcs o v hv)) (by simp)
      have x0 := hq 0 _ rfl
      have x1 := hq 1 _ rfl
      have x2 := hq 2 _ rfl
      have x3 := hq 3 _ rfl
      have x4 := hq 4 _ rfl
      have x5 := hq 5 _ rfl
      simp only [Nat.add_zero] at x0
      have hgl : g < wr.heap.size := World.block_lt_of_cell? wr ⟨g, i * 6, none⟩ x0
      have HF : Hid (FRep d w ok [.int .i64 n0, .slice a k c2, .int .i64 n2, .int .i64 n3, .int .i64 n4, .int .i64 n5] u) := hF
      have HUL : Hid (u.length ≤ 1000000) := Nat.le_trans (joinT_part sep ts u (List.mem_of_getElem? hu)) HL.out
      clear hq hcs h6 hF hu
      go_wp2_with fail
      have hG2 := gb_alloc hG (.cells #[.int .i64 n0, .slice a k c2, .int .i64 n2, .int .i64 n3, .int .i64 n4, .int .i64 n5] 97)
      have hin2 := HTX.out _ ok _ u (HF.out.mono (w' := (wr.alloc (.cells #[.int .i64 n0, .slice a k c2, .int .i64 n2, .int .i64 n3, .int .i64 n4, .int .i64 n5] 97))) (fun x hx => hx) (fun x hx => hG2.block x (HOK.out x hx) (by simp))) (fun x hx => Nat.lt_of_lt_of_le (HOK.out x hx) hG2.size) HUL.out
      refine hin2.mono ?_
      clear hin2
      rintro e w3 ⟨rfl, hg3⟩
      have own3 := (own.alloc (.cells #[.int .i64 n0, .slice a k c2, .int .i64 n2, .int .i64 n3, .int .i64 n4, .int .i64 n5] 97)).kept hg3 (by cases (Value.slice ta i tcap).ownBlock <;> simp)
      have hG3 := gb_trans hG2 hg3
      have hs3 := hG3.size
      go_wp2_with (at_builtin; go_must (refine wpList_append_lies _ (by rfl) _ _ 39 (by rfl) w.heap.size 9 i0 _ 1 16 Tryz.underlying39 hi hz0 hz1 hz2 rfl (by decide) (.slice ta i tcap) i ys (by rfl) (own3.alloc _) ⟨w3.heap.size, 0, none⟩ 1 1 [.string (bT u)] (by rfl) (by rfl) (World.news_of_block (heap_alloc_new w3 _)) (fun u hu => by simp at hu; subst hu; rfl) (by decide) (by unfold maxLen; omega) (by omega) (by simp; omega) (w3.heap.size + 1) (by simp) ?_; intro g4 cap4 w4 hown4 hgrow4 hat4 hlt4))
      refine ⟨⟨i + 1, _, by go_num, by omega, gb_new (gb_alloc hG3 _) hgrow4 (fun x e => Or.inr (own.lt x e).1), hown4, ?_⟩, by simp [intOf]; omega⟩
      show _ = _
      rw [HY.out, List.take_add_one, HU.out]; simp
    · have hi' : decide ((i : Int) < (ts.length : Int)) = false := by simp; omega
      obtain rfl : i = ts.length := by omega
      obtain ⟨bk, hbk, hcap⟩ : ∃ bk, ta = some ⟨bk, 0, none⟩ ∧ ts.length ≤ tcap := by
        rcases own.2 with ⟨_, h1⟩ | ⟨g', cap', cur, h1, _, _, hle, _⟩
        · exact (HTS.out (List.length_eq_zero_iff.1 h1)).elim
        · simp at h1; exact ⟨g', h1.1, by omega⟩
      subst hbk
      go_wp2_with fail
      refine (join_any _ bk tcap ts sep (fun j t ht => ?_) (own.lt bk rfl).2 hn hcap HL.out).mono ?_
      · rw [← addr_add]
        exact own.cells rfl j _ (by rw [HY.out, List.take_of_length_le (Nat.le_refl _), List.getElem?_map, ht]; rfl)
      · rintro e w2 ⟨rfl, hg2⟩
        go_wp2_with fail
        go_ret
        exact ⟨rfl, gb_trans hG hg2⟩

set_option maxRecDepth 100000 in
set_option maxHeartbeats 2000000 in
theorem text_succ (d : Nat) (HT : TextSaid d) : TextSaid (d + 1) := by
  intro w ok cs t h hokl hlen
  rcases h with ⟨x, y, z, hx, hy, hz, rfl, rfl⟩ | ⟨y, z, hy, hz, rfl, rfl⟩ | ⟨n0, g, c, ts, xs, a1, a2, a3, a4, rfl, rfl, hg, hc, hk⟩
  · clear hlen
    have z3 := size3 y
    have z4 := size4 x
    have z5 := size4 z
    go_enter Tryz.func53, Tryz.ntmps53
    go_wp2_with fail
    go_quiet (first | (go_at_call 77; exact Calls.quiet_of_same (registerName_any _ y hy)) | (go_at_call 78; exact Calls.quiet_of_same (itoa_any _ x hx)) | (go_at_call 78; exact Calls.quiet_of_same (itoa_any _ z hz)))
    go_wp2_with fail
    go_ret
    refine ⟨?_, gb_drewN (gb_alloc (gb_refl _ _) _) _⟩
    show Ending.returned (.string (bT (canon 4 x) ++ bT [58] ++ bT (canon 3 y) ++ bT [32, 61, 32] ++ bT (canon 4 z))) = _
    rw [bT_app, bT_app, bT_app, bT_app]; rfl
  · clear hlen
    have z2 := size2 y
    have z5 := size4 z
    go_enter Tryz.func53, Tryz.ntmps53
    go_wp2_with fail
    go_quiet (first | (go_at_call 76; exact Calls.quiet_of_same (placeName_any _ y hy)) | (go_at_call 78; exact Calls.quiet_of_same (itoa_any _ z hz)))
    go_wp2_with fail
    go_ret
    refine ⟨?_, gb_drewN (gb_alloc (gb_refl _ _) _) _⟩
    show Ending.returned (.string (bT (canon 2 y) ++ bT [32, 61, 32] ++ bT (canon 4 z))) = _
    rw [bT_app, bT_app]; rfl
  · have hj : ∀ (sep : Txt) (o : Obj), (joinT sep ts).length ≤ 1000000 → Calls Tryz.prog 79 #[.slice (some ⟨g, 0, none⟩) ts.length c, .string (bT sep)] (w.alloc o) fun e w' => e = .returned (.string (bT (joinT sep ts))) ∧ (w.alloc o).grownBy w' none := by
      intro sep o hl
      have hG := gb_alloc (gb_refl w none) o
      exact joined_any d HT (w.alloc o) ok g c xs ts sep (fun i v hv => gb_cell hG (hc i v hv) (by simp)) (Kids.mono (fun c u hu => hu.mono (fun x hx => hx) (fun x hx => hG.block x (hokl x hx) (by simp))) hk) (fun x hx => Nat.lt_of_lt_of_le (hokl x hx) hG.size) hl a4 a3
    have HJ : Hid (∀ (sep : Txt) (o : Obj), (joinT sep ts).length ≤ 1000000 → Calls Tryz.prog 79 #[.slice (some ⟨g, 0, none⟩) ts.length c, .string (bT sep)] (w.alloc o) fun e w' => e = .returned (.string (bT (joinT sep ts))) ∧ (w.alloc o).grownBy w' none) := hj
    clear hj hk hc hokl HT a3 a4 hg
    have hn : n0 = 0 ∨ n0 = 1 ∨ n0 = 2 ∨ n0 = 3 := by omega
    clear a1 a2
    rcases hn with rfl | rfl | rfl | rfl
    · have HL : Hid ((joinT [32, 111, 114, 32] ts).length ≤ 1000000) := hlen
      clear hlen
      go_enter Tryz.func53, Tryz.ntmps53
      go_wp2_with fail
      refine (HJ.out [32, 111, 114, 32] _ HL.out).mono ?_
      rintro e w1 ⟨rfl, hg1⟩
      go_wp2_with fail
      go_ret
      exact ⟨rfl, gb_trans (gb_alloc (gb_refl _ _) _) hg1⟩
    · have HL : Hid ((joinT [32, 97, 110, 100, 32] ts).length ≤ 1000000) := hlen
      clear hlen
      go_enter Tryz.func53, Tryz.ntmps53
      go_wp2_with fail
      refine (HJ.out [32, 97, 110, 100, 32] _ HL.out).mono ?_
      rintro e w1 ⟨rfl, hg1⟩
      go_wp2_with fail
      go_ret
      exact ⟨rfl, gb_trans (gb_alloc (gb_refl _ _) _) hg1⟩
    · have hl0 : (joinT [] ts).length ≤ 1000000 := by
        have : ([110, 111, 116, 32] ++ joinT [] ts).length ≤ 1000000 := hlen
        simp at this; omega
      clear hlen
      have hz := bT_size (joinT [] ts)
      generalize hu : joinT [] ts = u at hl0 hz HJ
      go_enter Tryz.func53, Tryz.ntmps53
      go_wp2_with fail
      have hin := HJ.out [] (.cells #[.int .i64 2, .slice (some ⟨g, 0, none⟩) ts.length c, .int .i64 0, .int .i64 0, .int .i64 0, .int .i64 0] 97) (by rw [hu]; exact hl0)
      rw [hu] at hin
      refine hin.mono ?_
      clear hin
      rintro e w1 ⟨rfl, hg1⟩
      go_wp2_with fail
      go_ret
      refine ⟨?_, gb_trans (gb_alloc (gb_refl _ _) _) hg1⟩
      show Ending.returned (.string (bT [110, 111, 116, 32] ++ bT u)) = Ending.returned (.string (bT ([110, 111, 116, 32] ++ joinT [] ts)))
      rw [bT_app, hu]
    · have hl0 : (joinT [] ts).length ≤ 1000000 := by
        have : ([40] ++ joinT [] ts ++ [41]).length ≤ 1000000 := hlen
        simp at this; omega
      clear hlen
      have hz := bT_size (joinT [] ts)
      generalize hu : joinT [] ts = u at hl0 hz HJ
      go_enter Tryz.func53, Tryz.ntmps53
      go_wp2_with fail
      have hin := HJ.out [] (.cells #[.int .i64 3, .slice (some ⟨g, 0, none⟩) ts.length c, .int .i64 0, .int .i64 0, .int .i64 0, .int .i64 0] 97) (by rw [hu]; exact hl0)
      rw [hu] at hin
      refine hin.mono ?_
      clear hin
      rintro e w1 ⟨rfl, hg1⟩
      go_wp2_with fail
      go_ret
      refine ⟨?_, gb_trans (gb_alloc (gb_refl _ _) _) hg1⟩
      show Ending.returned (.string (bT [40] ++ bT u ++ bT [41])) = Ending.returned (.string (bT ([40] ++ joinT [] ts ++ [41])))
      rw [bT_app, bT_app, hu]
theorem text_all : ∀ d, TextSaid d := by
  intro d
  induction d with
  | zero => intro w ok cs t h; exact h.elim
  | succ d ih => exact text_succ d ih
end Go.Proofs.YtmpaeladhoomoaaGreatDoor
