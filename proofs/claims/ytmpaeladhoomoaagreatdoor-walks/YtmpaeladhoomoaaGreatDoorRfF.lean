/-
  The document's answer: a token of a kind.
-/
import Derived.Test.YtmpaeladhoomoaaGreatDoorRfE
namespace Go.Proofs.YtmpaeladhoomoaaGreatDoor
open Go.RowKit

theorem takeQ_bad {s : ByteArray} {q : Q} (h : 0 ≤ q.bad) : 0 ≤ (takeQ s q).bad := by
  unfold takeQ
  split
  · exact failQ_bad s q
  · first | exact h | (rw [if_pos h]; exact h)

set_option maxRecDepth 100000 in
set_option maxHeartbeats 1000000 in
theorem kindP_any (w : World) (b : Nat) (s : ByteArray) (q : Q) (tv : Value) (h : QAt w b s q tv) :
    Calls Tryz.prog 164 #[.pointer (some ⟨b, 0, none⟩), .int .u8 112] w fun e w' => e = .returned (.int .i64 (valQ s q 2 : Nat)) ∧ ∃ tv', FR b tv w tv' w' ∧ QAt w' b s (kindQ s q 2) tv' := by
  obtain ⟨c0, c1, c2, c3, c4, c5, c6, c7, hf, hlt⟩ := h.get
  have hk20 := (tk_le s q.j).1
  have hiff : ((rkind (tk s q.j).kind : Int) != 112) = !decide ((tk s q.j).kind = 2) := rkind_iff (c := 2) hk20 (by omega)
  by_cases hK : (tk s q.j).kind = 2
  · have h1 : ((rkind (tk s q.j).kind : Int) != 112) = false := by rw [hiff]; simp [hK]
    have HQ : Hid (kindQ s q 2 = takeQ s q) := by show _ = _; unfold kindQ; rw [if_pos (show qk s q = 2 from hK)]
    have hnb : (tk s q.j).num ≤ 9 := (tk_le s q.j).2
    obtain ⟨hsz, hby⟩ := canonB_place (tk s q.j).num ((tk_num s q.j).1 hK)
    rw [← hK] at hsz hby
    clear hiff
    have HK : Hid ((tk s q.j).kind = 2) := hK
    clear hK
    go_enter Tryz.func164, Tryz.ntmps164
    go_wp2_with fail
    refine (rtake_any _ b s q tv h).mono ?_
    rintro e w1 ⟨rfl, tv1, hf1, hq1⟩
    clear c0 c1 c2 c3 c4 c5 c6 c7 hf
    obtain ⟨c0, c1, c2, c3, c4, c5, c6, c7, hf, hlt1⟩ := hq1.get
    unfold rtV
    by_cases hb : 0 ≤ (takeQ s q).bad
    · have HV : Hid (valQ s q 2 = 0) := by show _ = _; unfold valQ; rw [HQ.out, if_pos hb]
      go_wp2_with fail
      go_ret
      rw [HQ.out, HV.out]
      exact ⟨rfl, tv1, hf1.alloc _, hq1.alloc _⟩
    · have HV : Hid (valQ s q 2 = (tk s q.j).num) := by show _ = _; unfold valQ; rw [HQ.out, if_neg hb]; rfl
      generalize hcb : canonB (tk s q.j).kind (tk s q.j).num = cb at hsz hby ⊢
      have hz : 0 < cb.size := by omega
      have hv := hby hz
      clear hcb hby
      have hv2 : ((cb[0].toNat : Nat) : Int) = 119 + (tk s q.j).num := by omega
      have HV2 : Hid (((cb[0].toNat : Nat) : Int) = 119 + (tk s q.j).num) := hv2
      have hlo : (119 : Int) ≤ ((cb[0].toNat : Nat) : Int) := by omega
      have hhi : ((cb[0].toNat : Nat) : Int) ≤ 119 + 9 := by omega
      clear hv hv2
      go_wp2_with fail
      go_ret
      rw [HQ.out, HV.out]
      refine ⟨ret_int ?_, tv1, hf1.alloc _, hq1.alloc _⟩
      have := HV2.out
      omega
  · have h1 : ((rkind (tk s q.j).kind : Int) != 112) = true := by rw [hiff]; simp [hK]
    have HQ : Hid (kindQ s q 2 = takeQ s (failQ s q)) := by show _ = _; unfold kindQ; rw [if_neg (show ¬ qk s q = 2 from hK)]
    clear hiff
    go_enter Tryz.func164, Tryz.ntmps164
    go_wp2_with fail
    refine (fail_any _ b s q tv h).mono ?_
    rintro e w1 ⟨rfl, hf1, hq1⟩
    go_wp2_with fail
    refine (rtake_any _ b s _ tv hq1).mono ?_
    rintro e w2 ⟨rfl, tv2, hf2, hq2⟩
    clear c0 c1 c2 c3 c4 c5 c6 c7 hf
    obtain ⟨c0, c1, c2, c3, c4, c5, c6, c7, hf, hlt1⟩ := hq2.get
    have hb : 0 ≤ (takeQ s (failQ s q)).bad := takeQ_bad (failQ_bad s q)
    have HV : Hid (valQ s q 2 = 0) := by show _ = _; unfold valQ; rw [HQ.out, if_pos hb]
    unfold rtV
    go_wp2_with fail
    go_ret
    rw [HQ.out, HV.out]
    exact ⟨rfl, tv2, (hf1.trans hf2).alloc _, hq2.alloc _⟩

set_option maxRecDepth 100000 in
set_option maxHeartbeats 1000000 in
theorem kindR_any (w : World) (b : Nat) (s : ByteArray) (q : Q) (tv : Value) (h : QAt w b s q tv) :
    Calls Tryz.prog 164 #[.pointer (some ⟨b, 0, none⟩), .int .u8 114] w fun e w' => e = .returned (.int .i64 (valQ s q 3 : Nat)) ∧ ∃ tv', FR b tv w tv' w' ∧ QAt w' b s (kindQ s q 3) tv' := by
  obtain ⟨c0, c1, c2, c3, c4, c5, c6, c7, hf, hlt⟩ := h.get
  have hk20 := (tk_le s q.j).1
  have hiff : ((rkind (tk s q.j).kind : Int) != 114) = !decide ((tk s q.j).kind = 3) := rkind_iff (c := 3) hk20 (by omega)
  by_cases hK : (tk s q.j).kind = 3
  · have h1 : ((rkind (tk s q.j).kind : Int) != 114) = false := by rw [hiff]; simp [hK]
    have HQ : Hid (kindQ s q 3 = takeQ s q) := by show _ = _; unfold kindQ; rw [if_pos (show qk s q = 3 from hK)]
    have hnb : (tk s q.j).num ≤ 9 := (tk_le s q.j).2
    obtain ⟨hsz, hby⟩ := canonB_reg (tk s q.j).num ((tk_num s q.j).2 hK)
    rw [← hK] at hsz hby
    clear hiff
    have HK : Hid ((tk s q.j).kind = 3) := hK
    clear hK
    go_enter Tryz.func164, Tryz.ntmps164
    go_wp2_with fail
    refine (rtake_any _ b s q tv h).mono ?_
    rintro e w1 ⟨rfl, tv1, hf1, hq1⟩
    clear c0 c1 c2 c3 c4 c5 c6 c7 hf
    obtain ⟨c0, c1, c2, c3, c4, c5, c6, c7, hf, hlt1⟩ := hq1.get
    unfold rtV
    by_cases hb : 0 ≤ (takeQ s q).bad
    · have HV : Hid (valQ s q 3 = 0) := by show _ = _; unfold valQ; rw [HQ.out, if_pos hb]
      go_wp2_with fail
      go_ret
      rw [HQ.out, HV.out]
      exact ⟨rfl, tv1, hf1.alloc _, hq1.alloc _⟩
    · have HV : Hid (valQ s q 3 = (tk s q.j).num) := by show _ = _; unfold valQ; rw [HQ.out, if_neg hb]; rfl
      generalize hcb : canonB (tk s q.j).kind (tk s q.j).num = cb at hsz hby ⊢
      have hz : 1 < cb.size := by omega
      have hv := hby hz
      clear hcb hby
      have hv2 : ((cb[1].toNat : Nat) : Int) = 48 + (tk s q.j).num := by omega
      have HV2 : Hid (((cb[1].toNat : Nat) : Int) = 48 + (tk s q.j).num) := hv2
      have hlo : (48 : Int) ≤ ((cb[1].toNat : Nat) : Int) := by omega
      have hhi : ((cb[1].toNat : Nat) : Int) ≤ 48 + 9 := by omega
      clear hv hv2
      go_wp2_with fail
      go_ret
      rw [HQ.out, HV.out]
      refine ⟨ret_int ?_, tv1, hf1.alloc _, hq1.alloc _⟩
      have := HV2.out
      omega
  · have h1 : ((rkind (tk s q.j).kind : Int) != 114) = true := by rw [hiff]; simp [hK]
    have HQ : Hid (kindQ s q 3 = takeQ s (failQ s q)) := by show _ = _; unfold kindQ; rw [if_neg (show ¬ qk s q = 3 from hK)]
    clear hiff
    go_enter Tryz.func164, Tryz.ntmps164
    go_wp2_with fail
    refine (fail_any _ b s q tv h).mono ?_
    rintro e w1 ⟨rfl, hf1, hq1⟩
    go_wp2_with fail
    refine (rtake_any _ b s _ tv hq1).mono ?_
    rintro e w2 ⟨rfl, tv2, hf2, hq2⟩
    clear c0 c1 c2 c3 c4 c5 c6 c7 hf
    obtain ⟨c0, c1, c2, c3, c4, c5, c6, c7, hf, hlt1⟩ := hq2.get
    have hb : 0 ≤ (takeQ s (failQ s q)).bad := takeQ_bad (failQ_bad s q)
    have HV : Hid (valQ s q 3 = 0) := by show _ = _; unfold valQ; rw [HQ.out, if_pos hb]
    unfold rtV
    go_wp2_with fail
    go_ret
    rw [HQ.out, HV.out]
    exact ⟨rfl, tv2, (hf1.trans hf2).alloc _, hq2.alloc _⟩

set_option maxRecDepth 100000 in
set_option maxHeartbeats 1000000 in
theorem kindD_any (w : World) (b : Nat) (s : ByteArray) (q : Q) (tv : Value) (h : QAt w b s q tv) :
    Calls Tryz.prog 164 #[.pointer (some ⟨b, 0, none⟩), .int .u8 48] w fun e w' => e = .returned (.int .i64 (valQ s q 4 : Nat)) ∧ ∃ tv', FR b tv w tv' w' ∧ QAt w' b s (kindQ s q 4) tv' := by
  obtain ⟨c0, c1, c2, c3, c4, c5, c6, c7, hf, hlt⟩ := h.get
  have hk20 := (tk_le s q.j).1
  have hiff : ((rkind (tk s q.j).kind : Int) != 48) = !decide ((tk s q.j).kind = 4) := rkind_iff (c := 4) hk20 (by omega)
  by_cases hK : (tk s q.j).kind = 4
  · have h1 : ((rkind (tk s q.j).kind : Int) != 48) = false := by rw [hiff]; simp [hK]
    have HQ : Hid (kindQ s q 4 = takeQ s q) := by show _ = _; unfold kindQ; rw [if_pos (show qk s q = 4 from hK)]
    have hnb : (tk s q.j).num ≤ 9 := (tk_le s q.j).2
    obtain ⟨hsz, hby⟩ := canonB_digit (tk s q.j).num ((tk_le s q.j).2)
    rw [← hK] at hsz hby
    clear hiff
    have HK : Hid ((tk s q.j).kind = 4) := hK
    clear hK
    go_enter Tryz.func164, Tryz.ntmps164
    go_wp2_with fail
    refine (rtake_any _ b s q tv h).mono ?_
    rintro e w1 ⟨rfl, tv1, hf1, hq1⟩
    clear c0 c1 c2 c3 c4 c5 c6 c7 hf
    obtain ⟨c0, c1, c2, c3, c4, c5, c6, c7, hf, hlt1⟩ := hq1.get
    unfold rtV
    by_cases hb : 0 ≤ (takeQ s q).bad
    · have HV : Hid (valQ s q 4 = 0) := by show _ = _; unfold valQ; rw [HQ.out, if_pos hb]
      go_wp2_with fail
      go_ret
      rw [HQ.out, HV.out]
      exact ⟨rfl, tv1, hf1.alloc _, hq1.alloc _⟩
    · have HV : Hid (valQ s q 4 = (tk s q.j).num) := by show _ = _; unfold valQ; rw [HQ.out, if_neg hb]; rfl
      generalize hcb : canonB (tk s q.j).kind (tk s q.j).num = cb at hsz hby ⊢
      have hz : 0 < cb.size := by omega
      have hv := hby hz
      clear hcb hby
      have hv2 : ((cb[0].toNat : Nat) : Int) = 48 + (tk s q.j).num := by omega
      have HV2 : Hid (((cb[0].toNat : Nat) : Int) = 48 + (tk s q.j).num) := hv2
      have hlo : (48 : Int) ≤ ((cb[0].toNat : Nat) : Int) := by omega
      have hhi : ((cb[0].toNat : Nat) : Int) ≤ 48 + 9 := by omega
      clear hv hv2
      go_wp2_with fail
      go_ret
      rw [HQ.out, HV.out]
      refine ⟨ret_int ?_, tv1, hf1.alloc _, hq1.alloc _⟩
      have := HV2.out
      omega
  · have h1 : ((rkind (tk s q.j).kind : Int) != 48) = true := by rw [hiff]; simp [hK]
    have HQ : Hid (kindQ s q 4 = takeQ s (failQ s q)) := by show _ = _; unfold kindQ; rw [if_neg (show ¬ qk s q = 4 from hK)]
    clear hiff
    go_enter Tryz.func164, Tryz.ntmps164
    go_wp2_with fail
    refine (fail_any _ b s q tv h).mono ?_
    rintro e w1 ⟨rfl, hf1, hq1⟩
    go_wp2_with fail
    refine (rtake_any _ b s _ tv hq1).mono ?_
    rintro e w2 ⟨rfl, tv2, hf2, hq2⟩
    clear c0 c1 c2 c3 c4 c5 c6 c7 hf
    obtain ⟨c0, c1, c2, c3, c4, c5, c6, c7, hf, hlt1⟩ := hq2.get
    have hb : 0 ≤ (takeQ s (failQ s q)).bad := takeQ_bad (failQ_bad s q)
    have HV : Hid (valQ s q 4 = 0) := by show _ = _; unfold valQ; rw [HQ.out, if_pos hb]
    unfold rtV
    go_wp2_with fail
    go_ret
    rw [HQ.out, HV.out]
    exact ⟨rfl, tv2, (hf1.trans hf2).alloc _, hq2.alloc _⟩

end Go.Proofs.YtmpaeladhoomoaaGreatDoor
