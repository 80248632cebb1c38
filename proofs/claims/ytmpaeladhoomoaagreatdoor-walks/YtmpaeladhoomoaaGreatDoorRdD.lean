/-
  The program's reader: stores, assignments, swaps, branches.
-/
import Derived.Test.YtmpaeladhoomoaaGreatDoorRdC
namespace Go.Proofs.YtmpaeladhoomoaaGreatDoor
open Go.RowKit

def storeS (s : ByteArray) (p : PS) : Except Nat (St × PS) :=
  if kd s (nxt s p 2) = 15 then
    if kd s (nxt s (nxt s p 2) 15) = 3 then .ok (⟨1, nm s p, nm s (nxt s (nxt s p 2) 15), 0, 0⟩, nxt s (nxt s (nxt s p 2) 15) 3)
    else if kd s (nxt s (nxt s p 2) 15) = 4 then .ok (⟨0, nm s p, 0, nm s (nxt s (nxt s p 2) 15), 0⟩, nxt s (nxt s (nxt s p 2) 15) 4)
    else .error (pl s (nxt s (nxt s p 2) 15))
  else .error (pl s (nxt s p 2))
def swapS (s : ByteArray) (p : PS) (r : Nat) : Except Nat (St × PS) :=
  if kd s p = 7 then
    if kd s (nxt s p 7) = 2 then
      if kd s (nxt s (nxt s p 7) 2) = 4 then .ok (⟨4, nm s (nxt s p 7), r, nm s (nxt s (nxt s p 7) 2), 0⟩, nxt s (nxt s (nxt s p 7) 2) 4)
      else .error (pl s (nxt s (nxt s p 7) 2))
    else .error (pl s (nxt s p 7))
  else .error (pl s p)
def assignS (s : ByteArray) (p : PS) : Except Nat (St × PS) :=
  if kd s (nxt s p 3) = 15 then
    if kd s (nxt s (nxt s p 3) 15) = 2 then .ok (⟨2, nm s (nxt s (nxt s p 3) 15), nm s p, 0, 0⟩, nxt s (nxt s (nxt s p 3) 15) 2)
    else if kd s (nxt s (nxt s p 3) 15) = 4 then .ok (⟨3, 0, nm s p, nm s (nxt s (nxt s p 3) 15), 0⟩, nxt s (nxt s (nxt s p 3) 15) 4)
    else swapS s (nxt s (nxt s p 3) 15) (nm s p)
  else .error (pl s (nxt s p 3))
/-- '=' and a digit. -/
def eqdS (s : ByteArray) (p : PS) : Except Nat (Nat × PS) :=
  if kd s p = 16 then if kd s (nxt s p 16) = 4 then .ok (nm s (nxt s p 16), nxt s (nxt s p 16) 4) else .error (pl s (nxt s p 16)) else .error (pl s p)
def branchS (s : ByteArray) (p : PS) : Except Nat (St × PS) :=
  if kd s (nxt s p 8) = 3 then
    match eqdS s (nxt s (nxt s p 8) 3) with
    | .error q => .error q
    | .ok (d, p3) =>
      if kd s p3 = 9 then
        if kd s (nxt s p3 9) = 4 then .ok (⟨6, 0, nm s (nxt s p 8), d, nm s (nxt s p3 9)⟩, nxt s (nxt s p3 9) 4)
        else .error (pl s (nxt s p3 9))
      else .error (pl s p3)
  else .error (pl s (nxt s p 8))
def stepS (s : ByteArray) (p : PS) : Except Nat (St × PS) :=
  if kd s p = 2 then storeS s p else if kd s p = 3 then assignS s p else if kd s p = 8 then branchS s p else
  if kd s p = 6 then .ok (⟨5, 0, 0, 0, 0⟩, nxt s p 6) else .error (pl s p)

set_option maxHeartbeats 400000 in
theorem store_any (w : World) (b : Nat) (s : ByteArray) (p : PS) (h : PAt w b s p) (hk : kd s p = 2) :
    Calls Tryz.prog 200 #[.pointer (some ⟨b, 0, none⟩)] w fun e w' => PostSt w b s (storeS s p) e w' := by
  go_enter Tryz.func200, Tryz.ntmps200
  go_wp2_with fail
  have L0 := L2.start h 107 #[.int .i64 0, .int .i64 0, .int .i64 0, .int .i64 0, .int .i64 0] #[.int .i64 0, .int .i64 0, .int .i64 0, .int .i64 0, .int .i64 0]
  refine (take_yes _ b s p 2 L0.pa (by show ((kd s p : Nat) : Int) = 2; omega)).mono ?_
  rintro e w1 ⟨rfl, hg1, hp1⟩
  have L1 := L0.call hg1 hp1
  try clear a0 a1 a2 a3 a4 af b0 b1 b2 b3 b4 bf
  obtain ⟨⟨a0, a1, a2, a3, a4, af⟩, ⟨b0, b1, b2, b3, b4, bf⟩⟩ := L1.get5
  go_wp2_with fail
  have L1p1 := L1.put' 1 (.int .i64 ((tk s p.i).num : Nat)) #[.int .i64 0, .int .i64 ((tk s p.i).num : Nat), .int .i64 0, .int .i64 0, .int .i64 0] rfl
  by_cases h15 : kd s (nxt s p 2) = 15
  · skip
    refine (pass_yes _ b s (nxt s p 2) 15 L1p1.pa (by show ((kd s (nxt s p 2) : Nat) : Int) = 15; omega)).mono ?_
    rintro e w2 ⟨rfl, hg2, hp2⟩
    have L2 := L1p1.call hg2 hp2
    try clear a0 a1 a2 a3 a4 af b0 b1 b2 b3 b4 bf
    obtain ⟨⟨a0, a1, a2, a3, a4, af⟩, ⟨b0, b1, b2, b3, b4, bf⟩⟩ := L2.get5
    go_wp2_with fail
    by_cases h3 : kd s (nxt s (nxt s p 2) 15) = 3
    · skip
      refine (take_yes _ b s (nxt s (nxt s p 2) 15) 3 L2.pa (by show ((kd s (nxt s (nxt s p 2) 15) : Nat) : Int) = 3; omega)).mono ?_
      rintro e w3 ⟨rfl, hg3, hp3⟩
      have L3 := L2.call hg3 hp3
      try clear a0 a1 a2 a3 a4 af b0 b1 b2 b3 b4 bf
      obtain ⟨⟨a0, a1, a2, a3, a4, af⟩, ⟨b0, b1, b2, b3, b4, bf⟩⟩ := L3.get5
      go_wp2_with fail
      have L3p2 := L3.put' 2 (.int .i64 ((tk s (nxt s (nxt s p 2) 15).i).num : Nat)) #[.int .i64 0, .int .i64 ((tk s p.i).num : Nat), .int .i64 ((tk s (nxt s (nxt s p 2) 15).i).num : Nat), .int .i64 0, .int .i64 0] rfl
      have L3p2p0 := L3p2.put' 0 (.int .i64 1) #[.int .i64 1, .int .i64 ((tk s p.i).num : Nat), .int .i64 ((tk s (nxt s (nxt s p 2) 15).i).num : Nat), .int .i64 0, .int .i64 0] rfl
      have LD := L3p2p0.done5 (.int .i64 1) (.int .i64 ((tk s p.i).num : Nat)) (.int .i64 ((tk s (nxt s (nxt s p 2) 15).i).num : Nat)) (.int .i64 0) (.int .i64 0)
      obtain ⟨d0, d1, d2, d3, d4, _⟩ := loc5 LD.res
      exact bodyPost_ret (v := .tuple #[.agg #[.int .i64 1, .int .i64 ((tk s p.i).num : Nat), .int .i64 ((tk s (nxt s (nxt s p 2) 15).i).num : Nat), .int .i64 0, .int .i64 0], .bool true]) (by simp [results, Tryz.results200, go_sem, d0, d1, d2, d3, d4]) rfl (post_ok ⟨1, nm s p, nm s (nxt s (nxt s p 2) 15), 0, 0⟩ (by unfold storeS; rw [if_pos h15, if_pos h3]) LD)
    · skip
      refine (take_no _ b s (nxt s (nxt s p 2) 15) 3 L2.pa (by show ¬ ((kd s (nxt s (nxt s p 2) 15) : Nat) : Int) = 3; omega)).mono ?_
      rintro e w3 ⟨rfl, rfl⟩
      go_wp2_with fail
      have L2p2 := L2.put' 2 (.int .i64 0) #[.int .i64 0, .int .i64 ((tk s p.i).num : Nat), .int .i64 0, .int .i64 0, .int .i64 0] rfl
      have L2p2p0 := L2p2.put' 0 (.int .i64 0) #[.int .i64 0, .int .i64 ((tk s p.i).num : Nat), .int .i64 0, .int .i64 0, .int .i64 0] rfl
      by_cases h4 : kd s (nxt s (nxt s p 2) 15) = 4
      · skip
        refine (take_yes _ b s (nxt s (nxt s p 2) 15) 4 L2p2p0.pa (by show ((kd s (nxt s (nxt s p 2) 15) : Nat) : Int) = 4; omega)).mono ?_
        rintro e w4 ⟨rfl, hg4, hp4⟩
        have L4 := L2p2p0.call hg4 hp4
        try clear a0 a1 a2 a3 a4 af b0 b1 b2 b3 b4 bf
        obtain ⟨⟨a0, a1, a2, a3, a4, af⟩, ⟨b0, b1, b2, b3, b4, bf⟩⟩ := L4.get5
        go_wp2_with fail
        have L4p3 := L4.put' 3 (.int .i64 ((tk s (nxt s (nxt s p 2) 15).i).num : Nat)) #[.int .i64 0, .int .i64 ((tk s p.i).num : Nat), .int .i64 0, .int .i64 ((tk s (nxt s (nxt s p 2) 15).i).num : Nat), .int .i64 0] rfl
        have LD := L4p3.done5 (.int .i64 0) (.int .i64 ((tk s p.i).num : Nat)) (.int .i64 0) (.int .i64 ((tk s (nxt s (nxt s p 2) 15).i).num : Nat)) (.int .i64 0)
        obtain ⟨d0, d1, d2, d3, d4, _⟩ := loc5 LD.res
        exact bodyPost_ret (v := .tuple #[.agg #[.int .i64 0, .int .i64 ((tk s p.i).num : Nat), .int .i64 0, .int .i64 ((tk s (nxt s (nxt s p 2) 15).i).num : Nat), .int .i64 0], .bool true]) (by simp [results, Tryz.results200, go_sem, d0, d1, d2, d3, d4]) rfl (post_ok ⟨0, nm s p, 0, nm s (nxt s (nxt s p 2) 15), 0⟩ (by unfold storeS; rw [if_pos h15, if_neg h3, if_pos h4]) LD)
      · skip
        refine (take_no _ b s (nxt s (nxt s p 2) 15) 4 L2p2p0.pa (by show ¬ ((kd s (nxt s (nxt s p 2) 15) : Nat) : Int) = 4; omega)).mono ?_
        rintro e w4 ⟨rfl, rfl⟩
        go_wp2_with fail
        have L2p2p0p3 := L2p2p0.put' 3 (.int .i64 0) #[.int .i64 0, .int .i64 ((tk s p.i).num : Nat), .int .i64 0, .int .i64 0, .int .i64 0] rfl
        have LD := L2p2p0p3.done5 (.int .i64 0) (.int .i64 ((tk s p.i).num : Nat)) (.int .i64 0) (.int .i64 0) (.int .i64 0)
        obtain ⟨d0, d1, d2, d3, d4, _⟩ := loc5 LD.res
        exact bodyPost_ret (v := .tuple #[.agg #[.int .i64 0, .int .i64 ((tk s p.i).num : Nat), .int .i64 0, .int .i64 0, .int .i64 0], .bool false]) (by simp [results, Tryz.results200, go_sem, d0, d1, d2, d3, d4]) rfl (post_err _ _ _ _ _ (by unfold storeS; rw [if_pos h15, if_neg h3, if_neg h4]) LD)
  · skip
    refine (pass_no _ b s (nxt s p 2) 15 L1p1.pa (by show ¬ ((kd s (nxt s p 2) : Nat) : Int) = 15; omega)).mono ?_
    rintro e w2 ⟨rfl, rfl⟩
    go_wp2_with fail
    have LD := L1p1.done5 (.int .i64 0) (.int .i64 ((tk s p.i).num : Nat)) (.int .i64 0) (.int .i64 0) (.int .i64 0)
    obtain ⟨d0, d1, d2, d3, d4, _⟩ := loc5 LD.res
    exact bodyPost_ret (v := .tuple #[.agg #[.int .i64 0, .int .i64 ((tk s p.i).num : Nat), .int .i64 0, .int .i64 0, .int .i64 0], .bool false]) (by simp [results, Tryz.results200, go_sem, d0, d1, d2, d3, d4]) rfl (post_err _ _ _ _ _ (by unfold storeS; rw [if_neg h15]) LD)

set_option maxHeartbeats 400000 in
theorem swap_any (w : World) (b : Nat) (s : ByteArray) (p : PS) (h : PAt w b s p) (r : Nat) :
    Calls Tryz.prog 231 #[.pointer (some ⟨b, 0, none⟩), .agg #[.int .i64 0, .int .i64 0, .int .i64 (r : Nat), .int .i64 0, .int .i64 0]] w fun e w' => PostSt w b s (swapS s p r) e w' := by
  go_enter Tryz.func231, Tryz.ntmps231
  go_wp2_with fail
  have L0 := L2.startBox h 107 #[.int .i64 0, .int .i64 0, .int .i64 0, .int .i64 0, .int .i64 0] #[.int .i64 4, .int .i64 0, .int .i64 (r : Nat), .int .i64 0, .int .i64 0]
  by_cases h7 : kd s p = 7
  · skip
    refine (pass_yes _ b s p 7 L0.pa (by show ((kd s p : Nat) : Int) = 7; omega)).mono ?_
    rintro e w1 ⟨rfl, hg1, hp1⟩
    have L1 := L0.call hg1 hp1
    try clear a0 a1 a2 a3 a4 af b0 b1 b2 b3 b4 bf
    obtain ⟨⟨a0, a1, a2, a3, a4, af⟩, ⟨b0, b1, b2, b3, b4, bf⟩⟩ := L1.get5
    go_wp2_with fail
    by_cases h2 : kd s (nxt s p 7) = 2
    · skip
      refine (take_yes _ b s (nxt s p 7) 2 L1.pa (by show ((kd s (nxt s p 7) : Nat) : Int) = 2; omega)).mono ?_
      rintro e w2 ⟨rfl, hg2, hp2⟩
      have L2 := L1.call hg2 hp2
      try clear a0 a1 a2 a3 a4 af b0 b1 b2 b3 b4 bf
      obtain ⟨⟨a0, a1, a2, a3, a4, af⟩, ⟨b0, b1, b2, b3, b4, bf⟩⟩ := L2.get5
      go_wp2_with fail
      have L2p1 := L2.put' 1 (.int .i64 ((tk s (nxt s p 7).i).num : Nat)) #[.int .i64 4, .int .i64 ((tk s (nxt s p 7).i).num : Nat), .int .i64 (r : Nat), .int .i64 0, .int .i64 0] rfl
      by_cases h4 : kd s (nxt s (nxt s p 7) 2) = 4
      · skip
        refine (take_yes _ b s (nxt s (nxt s p 7) 2) 4 L2p1.pa (by show ((kd s (nxt s (nxt s p 7) 2) : Nat) : Int) = 4; omega)).mono ?_
        rintro e w3 ⟨rfl, hg3, hp3⟩
        have L3 := L2p1.call hg3 hp3
        try clear a0 a1 a2 a3 a4 af b0 b1 b2 b3 b4 bf
        obtain ⟨⟨a0, a1, a2, a3, a4, af⟩, ⟨b0, b1, b2, b3, b4, bf⟩⟩ := L3.get5
        go_wp2_with fail
        have L3p3 := L3.put' 3 (.int .i64 ((tk s (nxt s (nxt s p 7) 2).i).num : Nat)) #[.int .i64 4, .int .i64 ((tk s (nxt s p 7).i).num : Nat), .int .i64 (r : Nat), .int .i64 ((tk s (nxt s (nxt s p 7) 2).i).num : Nat), .int .i64 0] rfl
        have LD := L3p3.done5 (.int .i64 4) (.int .i64 ((tk s (nxt s p 7).i).num : Nat)) (.int .i64 (r : Nat)) (.int .i64 ((tk s (nxt s (nxt s p 7) 2).i).num : Nat)) (.int .i64 0)
        obtain ⟨d0, d1, d2, d3, d4, _⟩ := loc5 LD.res
        exact bodyPost_ret (v := .tuple #[.agg #[.int .i64 4, .int .i64 ((tk s (nxt s p 7).i).num : Nat), .int .i64 (r : Nat), .int .i64 ((tk s (nxt s (nxt s p 7) 2).i).num : Nat), .int .i64 0], .bool true]) (by simp [results, Tryz.results231, go_sem, d0, d1, d2, d3, d4]) rfl (post_ok ⟨4, nm s (nxt s p 7), r, nm s (nxt s (nxt s p 7) 2), 0⟩ (by unfold swapS; rw [if_pos h7, if_pos h2, if_pos h4]) LD)
      · skip
        refine (take_no _ b s (nxt s (nxt s p 7) 2) 4 L2p1.pa (by show ¬ ((kd s (nxt s (nxt s p 7) 2) : Nat) : Int) = 4; omega)).mono ?_
        rintro e w3 ⟨rfl, rfl⟩
        go_wp2_with fail
        have L2p1p3 := L2p1.put' 3 (.int .i64 0) #[.int .i64 4, .int .i64 ((tk s (nxt s p 7).i).num : Nat), .int .i64 (r : Nat), .int .i64 0, .int .i64 0] rfl
        have LD := L2p1p3.done5 (.int .i64 4) (.int .i64 ((tk s (nxt s p 7).i).num : Nat)) (.int .i64 (r : Nat)) (.int .i64 0) (.int .i64 0)
        obtain ⟨d0, d1, d2, d3, d4, _⟩ := loc5 LD.res
        exact bodyPost_ret (v := .tuple #[.agg #[.int .i64 4, .int .i64 ((tk s (nxt s p 7).i).num : Nat), .int .i64 (r : Nat), .int .i64 0, .int .i64 0], .bool false]) (by simp [results, Tryz.results231, go_sem, d0, d1, d2, d3, d4]) rfl (post_err _ _ _ _ _ (by unfold swapS; rw [if_pos h7, if_pos h2, if_neg h4]) LD)
    · skip
      refine (take_no _ b s (nxt s p 7) 2 L1.pa (by show ¬ ((kd s (nxt s p 7) : Nat) : Int) = 2; omega)).mono ?_
      rintro e w2 ⟨rfl, rfl⟩
      go_wp2_with fail
      have L1p1 := L1.put' 1 (.int .i64 0) #[.int .i64 4, .int .i64 0, .int .i64 (r : Nat), .int .i64 0, .int .i64 0] rfl
      have LD := L1p1.done5 (.int .i64 4) (.int .i64 0) (.int .i64 (r : Nat)) (.int .i64 0) (.int .i64 0)
      obtain ⟨d0, d1, d2, d3, d4, _⟩ := loc5 LD.res
      exact bodyPost_ret (v := .tuple #[.agg #[.int .i64 4, .int .i64 0, .int .i64 (r : Nat), .int .i64 0, .int .i64 0], .bool false]) (by simp [results, Tryz.results231, go_sem, d0, d1, d2, d3, d4]) rfl (post_err _ _ _ _ _ (by unfold swapS; rw [if_pos h7, if_neg h2]) LD)
  · skip
    refine (pass_no _ b s p 7 L0.pa (by show ¬ ((kd s p : Nat) : Int) = 7; omega)).mono ?_
    rintro e w1 ⟨rfl, rfl⟩
    go_wp2_with fail
    have LD := L2.startBox h 107 #[.int .i64 4, .int .i64 0, .int .i64 (r : Nat), .int .i64 0, .int .i64 0] #[.int .i64 4, .int .i64 0, .int .i64 (r : Nat), .int .i64 0, .int .i64 0]
    obtain ⟨d0, d1, d2, d3, d4, _⟩ := loc5 LD.res
    exact bodyPost_ret (v := .tuple #[.agg #[.int .i64 4, .int .i64 0, .int .i64 (r : Nat), .int .i64 0, .int .i64 0], .bool false]) (by simp [results, Tryz.results231, go_sem, d0, d1, d2, d3, d4]) rfl (post_err _ _ _ _ _ (by unfold swapS; rw [if_neg h7]) LD)

set_option maxHeartbeats 400000 in
theorem assign_any (w : World) (b : Nat) (s : ByteArray) (p : PS) (h : PAt w b s p) (hk : kd s p = 3) :
    Calls Tryz.prog 201 #[.pointer (some ⟨b, 0, none⟩)] w fun e w' => PostSt w b s (assignS s p) e w' := by
  go_enter Tryz.func201, Tryz.ntmps201
  go_wp2_with fail
  have L0 := L2.start h 107 #[.int .i64 0, .int .i64 0, .int .i64 0, .int .i64 0, .int .i64 0] #[.int .i64 0, .int .i64 0, .int .i64 0, .int .i64 0, .int .i64 0]
  refine (take_yes _ b s p 3 L0.pa (by show ((kd s p : Nat) : Int) = 3; omega)).mono ?_
  rintro e w1 ⟨rfl, hg1, hp1⟩
  have L1 := L0.call hg1 hp1
  try clear a0 a1 a2 a3 a4 af b0 b1 b2 b3 b4 bf
  obtain ⟨⟨a0, a1, a2, a3, a4, af⟩, ⟨b0, b1, b2, b3, b4, bf⟩⟩ := L1.get5
  go_wp2_with fail
  have L1p2 := L1.put' 2 (.int .i64 ((tk s p.i).num : Nat)) #[.int .i64 0, .int .i64 0, .int .i64 ((tk s p.i).num : Nat), .int .i64 0, .int .i64 0] rfl
  by_cases h15 : kd s (nxt s p 3) = 15
  · skip
    refine (pass_yes _ b s (nxt s p 3) 15 L1p2.pa (by show ((kd s (nxt s p 3) : Nat) : Int) = 15; omega)).mono ?_
    rintro e w2 ⟨rfl, hg2, hp2⟩
    have L2 := L1p2.call hg2 hp2
    try clear a0 a1 a2 a3 a4 af b0 b1 b2 b3 b4 bf
    obtain ⟨⟨a0, a1, a2, a3, a4, af⟩, ⟨b0, b1, b2, b3, b4, bf⟩⟩ := L2.get5
    go_wp2_with fail
    by_cases h2 : kd s (nxt s (nxt s p 3) 15) = 2
    · skip
      refine (take_yes _ b s (nxt s (nxt s p 3) 15) 2 L2.pa (by show ((kd s (nxt s (nxt s p 3) 15) : Nat) : Int) = 2; omega)).mono ?_
      rintro e w3 ⟨rfl, hg3, hp3⟩
      have L3 := L2.call hg3 hp3
      try clear a0 a1 a2 a3 a4 af b0 b1 b2 b3 b4 bf
      obtain ⟨⟨a0, a1, a2, a3, a4, af⟩, ⟨b0, b1, b2, b3, b4, bf⟩⟩ := L3.get5
      go_wp2_with fail
      have L3p1 := L3.put' 1 (.int .i64 ((tk s (nxt s (nxt s p 3) 15).i).num : Nat)) #[.int .i64 0, .int .i64 ((tk s (nxt s (nxt s p 3) 15).i).num : Nat), .int .i64 ((tk s p.i).num : Nat), .int .i64 0, .int .i64 0] rfl
      have L3p1p0 := L3p1.put' 0 (.int .i64 2) #[.int .i64 2, .int .i64 ((tk s (nxt s (nxt s p 3) 15).i).num : Nat), .int .i64 ((tk s p.i).num : Nat), .int .i64 0, .int .i64 0] rfl
      have LD := L3p1p0.done5 (.int .i64 2) (.int .i64 ((tk s (nxt s (nxt s p 3) 15).i).num : Nat)) (.int .i64 ((tk s p.i).num : Nat)) (.int .i64 0) (.int .i64 0)
      obtain ⟨d0, d1, d2, d3, d4, _⟩ := loc5 LD.res
      exact bodyPost_ret (v := .tuple #[.agg #[.int .i64 2, .int .i64 ((tk s (nxt s (nxt s p 3) 15).i).num : Nat), .int .i64 ((tk s p.i).num : Nat), .int .i64 0, .int .i64 0], .bool true]) (by simp [results, Tryz.results201, go_sem, d0, d1, d2, d3, d4]) rfl (post_ok ⟨2, nm s (nxt s (nxt s p 3) 15), nm s p, 0, 0⟩ (by unfold assignS; rw [if_pos h15, if_pos h2]) LD)
    · skip
      refine (take_no _ b s (nxt s (nxt s p 3) 15) 2 L2.pa (by show ¬ ((kd s (nxt s (nxt s p 3) 15) : Nat) : Int) = 2; omega)).mono ?_
      rintro e w3 ⟨rfl, rfl⟩
      go_wp2_with fail
      have L2p1 := L2.put' 1 (.int .i64 0) #[.int .i64 0, .int .i64 0, .int .i64 ((tk s p.i).num : Nat), .int .i64 0, .int .i64 0] rfl
      by_cases h4 : kd s (nxt s (nxt s p 3) 15) = 4
      · skip
        refine (take_yes _ b s (nxt s (nxt s p 3) 15) 4 L2p1.pa (by show ((kd s (nxt s (nxt s p 3) 15) : Nat) : Int) = 4; omega)).mono ?_
        rintro e w4 ⟨rfl, hg4, hp4⟩
        have L4 := L2p1.call hg4 hp4
        try clear a0 a1 a2 a3 a4 af b0 b1 b2 b3 b4 bf
        obtain ⟨⟨a0, a1, a2, a3, a4, af⟩, ⟨b0, b1, b2, b3, b4, bf⟩⟩ := L4.get5
        go_wp2_with fail
        have L4p3 := L4.put' 3 (.int .i64 ((tk s (nxt s (nxt s p 3) 15).i).num : Nat)) #[.int .i64 0, .int .i64 0, .int .i64 ((tk s p.i).num : Nat), .int .i64 ((tk s (nxt s (nxt s p 3) 15).i).num : Nat), .int .i64 0] rfl
        have L4p3p0 := L4p3.put' 0 (.int .i64 3) #[.int .i64 3, .int .i64 0, .int .i64 ((tk s p.i).num : Nat), .int .i64 ((tk s (nxt s (nxt s p 3) 15).i).num : Nat), .int .i64 0] rfl
        have LD := L4p3p0.done5 (.int .i64 3) (.int .i64 0) (.int .i64 ((tk s p.i).num : Nat)) (.int .i64 ((tk s (nxt s (nxt s p 3) 15).i).num : Nat)) (.int .i64 0)
        obtain ⟨d0, d1, d2, d3, d4, _⟩ := loc5 LD.res
        exact bodyPost_ret (v := .tuple #[.agg #[.int .i64 3, .int .i64 0, .int .i64 ((tk s p.i).num : Nat), .int .i64 ((tk s (nxt s (nxt s p 3) 15).i).num : Nat), .int .i64 0], .bool true]) (by simp [results, Tryz.results201, go_sem, d0, d1, d2, d3, d4]) rfl (post_ok ⟨3, 0, nm s p, nm s (nxt s (nxt s p 3) 15), 0⟩ (by unfold assignS; rw [if_pos h15, if_neg h2, if_pos h4]) LD)
      · skip
        refine (take_no _ b s (nxt s (nxt s p 3) 15) 4 L2p1.pa (by show ¬ ((kd s (nxt s (nxt s p 3) 15) : Nat) : Int) = 4; omega)).mono ?_
        rintro e w4 ⟨rfl, rfl⟩
        go_wp2_with fail
        have L2p1p3 := L2p1.put' 3 (.int .i64 0) #[.int .i64 0, .int .i64 0, .int .i64 ((tk s p.i).num : Nat), .int .i64 0, .int .i64 0] rfl
        have hR : Hid (assignS s p = swapS s (nxt s (nxt s p 3) 15) (nm s p)) := by show _ = _; unfold assignS; rw [if_pos h15, if_neg h2, if_neg h4]
        have hsw := swap_any _ b s (nxt s (nxt s p 3) 15) L2p1p3.pa (nm s p)
        refine hsw.mono ?_
        clear hsw
        rintro e w9 ⟨hg9, hr9⟩
        cases hs : swapS s (nxt s (nxt s p 3) 15) (nm s p) with
        | error q =>
          rw [hs] at hr9
          obtain ⟨⟨n0, n1, n2, n3, n4, rfl⟩, p9, hp9, hq9⟩ := hr9
          have L9 := L2p1p3.call hg9 hp9
          try clear a0 a1 a2 a3 a4 af b0 b1 b2 b3 b4 bf
          obtain ⟨⟨a0, a1, a2, a3, a4, af⟩, ⟨b0, b1, b2, b3, b4, bf⟩⟩ := L9.get5
          have HS : Hid (_ = _) := hs
          clear hs
          go_wp2_with fail
          have LD := L9.done5 (.int .i64 n0) (.int .i64 n1) (.int .i64 n2) (.int .i64 n3) (.int .i64 n4)
          obtain ⟨d0, d1, d2, d3, d4, _⟩ := loc5 LD.res
          exact bodyPost_ret (v := .tuple #[.agg #[.int .i64 n0, .int .i64 n1, .int .i64 n2, .int .i64 n3, .int .i64 n4], .bool false]) (by simp [results, Tryz.results201, go_sem, d0, d1, d2, d3, d4]) rfl (post_err (p' := p9) _ _ _ _ _ (by rw [hR.out, HS.out, hq9]) LD)
        | ok r =>
          obtain ⟨x, p9⟩ := r
          rw [hs] at hr9
          obtain ⟨rfl, hp9⟩ := hr9
          have L9 := L2p1p3.call hg9 hp9
          try clear a0 a1 a2 a3 a4 af b0 b1 b2 b3 b4 bf
          obtain ⟨⟨a0, a1, a2, a3, a4, af⟩, ⟨b0, b1, b2, b3, b4, bf⟩⟩ := L9.get5
          have HS : Hid (_ = _) := hs
          clear hs
          unfold stV
          go_wp2_with fail
          have LD := L9.done5 (.int .i64 (x.kind : Nat)) (.int .i64 (x.place : Nat)) (.int .i64 (x.reg : Nat)) (.int .i64 (x.digit : Nat)) (.int .i64 (x.count : Nat))
          obtain ⟨d0, d1, d2, d3, d4, _⟩ := loc5 LD.res
          exact bodyPost_ret (v := .tuple #[.agg #[.int .i64 (x.kind : Nat), .int .i64 (x.place : Nat), .int .i64 (x.reg : Nat), .int .i64 (x.digit : Nat), .int .i64 (x.count : Nat)], .bool true]) (by simp [results, Tryz.results201, go_sem, d0, d1, d2, d3, d4]) rfl (post_ok x (by rw [hR.out, HS.out]) LD)
  · skip
    refine (pass_no _ b s (nxt s p 3) 15 L1p2.pa (by show ¬ ((kd s (nxt s p 3) : Nat) : Int) = 15; omega)).mono ?_
    rintro e w2 ⟨rfl, rfl⟩
    go_wp2_with fail
    have LD := L1p2.done5 (.int .i64 0) (.int .i64 0) (.int .i64 ((tk s p.i).num : Nat)) (.int .i64 0) (.int .i64 0)
    obtain ⟨d0, d1, d2, d3, d4, _⟩ := loc5 LD.res
    exact bodyPost_ret (v := .tuple #[.agg #[.int .i64 0, .int .i64 0, .int .i64 ((tk s p.i).num : Nat), .int .i64 0, .int .i64 0], .bool false]) (by simp [results, Tryz.results201, go_sem, d0, d1, d2, d3, d4]) rfl (post_err _ _ _ _ _ (by unfold assignS; rw [if_neg h15]) LD)

end Go.Proofs.YtmpaeladhoomoaaGreatDoor
