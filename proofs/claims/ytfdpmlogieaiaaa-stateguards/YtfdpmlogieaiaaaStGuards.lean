/- The walk of StateGuards. -/
import Derived.Test.YtfdpmlogieaiaaaStLives2
import Derived.Test.YtfdpmlogieaiaaaStaWr
namespace Go.Proofs.Ytfdpmlogieaiaaa
open Go.RowKit
set_option linter.unusedVariables false
set_option maxRecDepth 100000

theorem buf_own {w0 w : World} {v : Value} {l : List Int} (h : Buf w0 w v l) (hp : 0 < l.length) : ∃ g cap, v = .slice (some ⟨g, 0, none⟩) l.length cap ∧ OwnB w w0.heap.size g cap l := by
  rcases h.own.2 with ⟨rfl, e⟩ | ⟨g, cap, cur, rfl, _⟩
  · omega
  · exact ⟨g, cap, rfl, ⟨h.own⟩⟩
set_option maxHeartbeats 4000000 in
theorem guards_any (h : HV) (ok : h.All) (v : Value) (rs : List Int) (k tb : Int) (w : World) (hv : ArgAt w v rs) (hby : ∀ z ∈ rs, 0 ≤ z ∧ z < 256) (hk0 : -9223372036854775808 ≤ k) (hk1 : k ≤ 9223372036854775807) (ht : 0 ≤ tb ∧ tb < 256) :
    Calls Try.prog 4 #[h.sv v, .int .i64 k, .int .u8 tb] w fun e w' => e = .returned (.bool true) ∧ Touch (fun _ => False) w w' := by
  obtain ⟨a, c, rfl, hm⟩ := hv.form
  unfold maxLen at hm
  show Calls Try.prog 4 #[.agg #[.int .u16 h.age, .int .u8 h.opts, .int .u8 h.typ, .int .u32 h.id, .int .u32 h.adv, .int .i32 h.seq, .int .u16 h.sum, .int .u16 h.len, .slice a rs.length c], .int .i64 k, .int .u8 tb] w _
  have OK : Hid h.All := ok
  have HVA : Hid (ArgAt w (.slice a rs.length c) rs) := hv
  have HBy : Hid (∀ z ∈ rs, 0 ≤ z ∧ z < 256) := hby
  have T0 : Hid (Touch (fun _ => False) w (w.alloc (.cells #[.int .u16 h.age, .int .u8 h.opts, .int .u8 h.typ, .int .u32 h.id, .int .u32 h.adv, .int .i32 h.seq, .int .u16 h.sum, .int .u16 h.len, .slice a rs.length c] 34))) := (Touch.refl _ w).alloc _
  clear hv hby ok
  by_cases hl : 4096 < rs.length
  · have hl' : (4096 : Int) < (rs.length : Int) := by omega
    go_enter Try.func4, Try.ntmps4
    go_wp2_with fail
    refine Calls.mono (lives6 _) ?_
    rintro e wv ⟨rfl, tv⟩
    go_wp2
    go_ret
    exact ⟨rfl, T0.out.trans tv⟩
  have hl' : ¬ (4096 : Int) < (rs.length : Int) := by omega
  have HC : ∀ w' u, Touch (fun _ => False) w w' → ArgAt w' u rs → Calls Try.prog 14 #[h.sv u] w' fun e w'' => e = .returned (.int .i64 (chkE h rs)) ∧ Touch (fun _ => False) w' w'' := fun w' u t hu => check_any h OK.out u rs w' hu HBy.out (by omega)
  have HCh : Hid (∀ w' u, Touch (fun _ => False) w w' → ArgAt w' u rs → Calls Try.prog 14 #[h.sv u] w' fun e w'' => e = .returned (.int .i64 (chkE h rs)) ∧ Touch (fun _ => False) w' w'') := HC
  have HCP : ∀ w', Touch (fun _ => False) w w' → Calls Try.prog 10 #[.agg #[.int .u16 h.age, .int .u8 h.opts, .int .u8 h.typ, .int .u32 h.id, .int .u32 h.adv, .int .i32 h.seq, .int .u16 h.sum, .int .u16 h.len, .slice a rs.length c]] w' fun e w'' => ∃ u, e = .returned (h.sv u) ∧ Buf w' w'' u rs := fun w' t => cstate_any h (.slice a rs.length c) rs w' (HVA.out.keepN t) (by omega)
  have HCPh : Hid (∀ w', Touch (fun _ => False) w w' → Calls Try.prog 10 #[.agg #[.int .u16 h.age, .int .u8 h.opts, .int .u8 h.typ, .int .u32 h.id, .int .u32 h.adv, .int .i32 h.seq, .int .u16 h.sum, .int .u16 h.len, .slice a rs.length c]] w' fun e w'' => ∃ u, e = .returned (h.sv u) ∧ Buf w' w'' u rs) := HCP
  clear HC HCP
  go_enter Try.func4, Try.ntmps4
  go_wp2_with fail
  refine Calls.mono (HCPh.out _ T0.out) ?_
  rintro e w1 ⟨u1, rfl, b1⟩
  have S1 : Hid (Sd w1 w.heap.size h (.slice a rs.length c)) := (Sd.new w h (.slice a rs.length c) 34).keep b1.t
  have T1 : Hid (Touch (fun _ => False) w w1) := T0.out.trans b1.t
  have HC1 := HCh.out w1 u1 T1.out b1.arg
  obtain ⟨ua, uc, rfl⟩ := b1.form
  unfold HV.sv at HC1 ⊢
  clear b1
  go_wp2_with fail
  refine Calls.mono HC1 ?_
  rintro e w2 ⟨rfl, t2⟩
  have S2 : Hid (Sd w2 w.heap.size h (.slice a rs.length c)) := S1.out.keep t2
  have T2 : Hid (Touch (fun _ => False) w w2) := T1.out.trans t2
  clear t2 HC1 S1 T1 HCh T0
  by_cases hc : chkE h rs = 0
  rotate_left
  · have hcb : (chkE h rs != 0) = true := by simpa using hc
    clear hc
    go_wp2_with fail
    refine Calls.mono (lives6 _) ?_
    rintro e wv ⟨rfl, tv⟩
    go_wp2
    go_ret
    exact ⟨rfl, T2.out.trans tv⟩
  have HCZ : Hid (chkE h rs = 0) := hc
  rw [hc]
  clear hc
  obtain ⟨⟨s0, s1, s2, s3, s4, s5, s6, s7⟩, s8⟩ := S2.out
  go_wp2_with fail
  refine Calls.mono (HCPh.out _ T2.out) ?_
  rintro e w3 ⟨u3, rfl, b3⟩
  have T3 : Hid (Touch (fun _ => False) w w3) := T2.out.trans b3.t
  have HBt := bytes_any h OK.out u3 rs w3 b3.arg (by omega)
  obtain ⟨ua3, uc3, rfl⟩ := b3.form
  unfold HV.sv at HBt ⊢
  clear b3 s0 s1 s2 s3 s4 s5 s6 s7 s8 S2 T2 HCPh
  go_wp2_with fail
  refine Calls.mono HBt ?_
  rintro e w4 ⟨u4, rfl, b4⟩
  have T4 : Hid (Touch (fun _ => False) w w4) := T3.out.trans b4.t
  have hll : (headB h ++ rs).length = 20 + rs.length := by rw [List.length_append, length_headB]
  have HLL : Hid ((headB h ++ rs).length = 20 + rs.length) := hll
  obtain ⟨g, cap, rfl, O4⟩ := buf_own b4 (by rw [hll]; omega)
  have HO4 : Hid (OwnB w4 w3.heap.size g cap (headB h ++ rs)) := O4
  have hgw : Hid (w.heap.size ≤ g) := by show _ ≤ _; have := O4.ge; have := T3.out.size; omega
  have HBL : Hid (∀ z ∈ headB h ++ rs, 0 ≤ z ∧ z < 256) := fun z hz => by
    rcases List.mem_append.1 hz with h' | h'
    · exact headB_byte OK.out z h'
    · exact HBy.out z h'
  rw [hll]
  clear b4 HBt T3 hll O4
  by_cases hk2 : k < 2
  · skip
    go_wp2_with fail
    refine Calls.mono (lives6 _) ?_
    rintro e wv ⟨rfl, tv⟩
    go_wp2
    go_ret
    exact ⟨rfl, T4.out.trans tv⟩
  by_cases hk3 : 20 + (rs.length : Int) ≤ k
  · have hk3' : ((20 + rs.length : Nat) : Int) ≤ k := by omega
    go_wp2_with fail
    refine Calls.mono (lives6 _) ?_
    rintro e wv ⟨rfl, tv⟩
    go_wp2
    go_ret
    exact ⟨rfl, T4.out.trans tv⟩
  obtain ⟨j, rfl⟩ : ∃ j : Nat, k = j := ⟨k.toNat, by omega⟩
  have hj2 : 2 ≤ j := by omega
  have hj3 : j < 20 + rs.length := by omega
  have hk3' : ¬ ((20 + rs.length : Nat) : Int) ≤ (j : Int) := by omega
  have hji : (j : Int) < ((20 + rs.length : Nat) : Int) := by omega
  have hj0 : (0 : Int) ≤ (j : Int) := by omega
  have HJ2 : Hid (2 ≤ j) := hj2
  have HJ3 : Hid (j < 20 + rs.length) := hj3
  have hcj := HO4.out.cell j (by rw [HLL.out]; exact hj3)
  have hxb := HBL.out ((headB h ++ rs).getD j 0) (by
    have hlt : j < (headB h ++ rs).length := by rw [HLL.out]; exact hj3
    rw [List.getD_eq_getElem?_getD, List.getElem?_eq_getElem hlt]
    exact List.getElem_mem hlt)
  have HGP : Hid (∀ tb : Int, 0 ≤ tb ∧ tb < 256 → (headB h ++ rs).getD j 0 % 255 ≠ tb % 255 → readE ((headB h ++ rs).set j tb) = 0 → (rdHead (((headB h ++ rs).set j tb).take 20)).len = 20 + (rs.length : Int) → _) := fun tb h1 h2 h3 h4 => guards_pure HCZ.out OK.out HBy.out hj2 hj3 h1 h2 h3 h4
  generalize hX : (headB h ++ rs).getD j 0 = X at hcj hxb HGP
  clear hX
  obtain ⟨hx0, hx1⟩ := hxb
  obtain ⟨ht0, ht1⟩ := ht
  by_cases he : X % 255 = tb % 255
  · have he' : ((X % 255 : Int) == tb % 255) = true := by simpa using he
    clear he
    go_wp2_with fail
    refine Calls.mono (lives6 _) ?_
    rintro e wv ⟨rfl, tv⟩
    go_wp2
    go_ret
    exact ⟨rfl, T4.out.trans tv⟩
  have he' : ((X % 255 : Int) == tb % 255) = false := by simpa using he
  have HNE : Hid (X % 255 ≠ tb % 255) := he
  have hfz := HO4.out.frozen j
  have HO5 : Hid (OwnB (w4.setCell ⟨g, j, none⟩ (.int .u8 tb)) w3.heap.size g cap ((headB h ++ rs).set j tb)) := HO4.out.store j tb
  have T5 : Hid (Touch (fun _ => False) w (w4.setCell ⟨g, j, none⟩ (.int .u8 tb))) := T4.out.setCell (Or.inr hgw.out) _
  have HBS : Hid (∀ z ∈ (headB h ++ rs).set j tb, 0 ≤ z ∧ z < 256) := fun z hz => by
    rcases List.mem_or_eq_of_mem_set hz with h' | rfl
    · exact HBL.out z h'
    · exact ⟨ht0, ht1⟩
  have HLS : Hid (((headB h ++ rs).set j tb).length = 20 + rs.length) := by show _ = _; rw [List.length_set, HLL.out]
  have HGQ : Hid (readE ((headB h ++ rs).set j tb) = 0 → (rdHead (((headB h ++ rs).set j tb).take 20)).len = 20 + (rs.length : Int) → _) := HGP.out tb ⟨ht0, ht1⟩ he
  clear he HGP HBL HO4 T4 hgw
  generalize (headB h ++ rs).set j tb = L at *
  have hcap : rs.length ≤ 4096 := by omega
  have A5 : Hid (ArgAt (w4.setCell ⟨g, j, none⟩ (.int .u8 tb)) (.slice (some ⟨g, 0, none⟩) (20 + rs.length) cap) L) := HO5.out.argL HLS.out
  by_cases hr : readE L = 0
  rotate_left
  · have HRB := read_bad _ L _ A5.out HBS.out (by rw [HLS.out]; omega) hr
    have hrb : (readE L == 0) = false := by simpa using hr
    generalize readE L = E at *
    clear hr HGQ
    go_wp2_with fail
    refine Calls.mono HRB ?_
    rintro e w6 ⟨rfl, t6⟩
    have T6 : Hid (Touch (fun _ => False) w w6) := T5.out.trans t6
    clear t6 HRB hcj hfz
    go_wp2_with fail
    refine Calls.mono (lives6 _) ?_
    rintro e wv ⟨rfl, tv⟩
    go_wp2
    go_ret
    exact ⟨rfl, (T6.out.alloc _).trans tv⟩
  obtain ⟨hL0, hL1, hL2⟩ := readE_zero hr
  have HRG := read_good _ L _ A5.out HBS.out hL0 (by rw [HLS.out]; omega) _ rfl hL1 hL2
  have HALL : Hid (rdHead (L.take 20)).All := rdHead_all (fun z hz => HBS.out z (List.mem_of_mem_take hz))
  have HG2 : Hid ((rdHead (L.take 20)).len = 20 + (rs.length : Int) → chkE (rdHead (L.take 20)) ((L.drop 20).take ((rdHead (L.take 20)).len.toNat - 20)) ≠ 0) := HGQ.out hr
  have HBD : Hid (∀ z ∈ (L.drop 20).take ((rdHead (L.take 20)).len.toNat - 20), 0 ≤ z ∧ z < 256) := fun z hz => HBS.out z (List.mem_of_mem_drop (List.mem_of_mem_take hz))
  have HBN : Hid (((L.drop 20).take ((rdHead (L.take 20)).len.toNat - 20)).length ≤ 1000000) := by show _ ≤ _; rw [List.length_take, List.length_drop, HLS.out]; omega
  clear hr HGQ hL0 hL1 hL2
  generalize (L.drop 20).take ((rdHead (L.take 20)).len.toNat - 20) = D at *
  generalize rdHead (L.take 20) = H at *
  unfold HV.sv at HRG
  go_wp2_with fail
  refine Calls.mono HRG ?_
  rintro e w6 ⟨u6, rfl, b6⟩
  have T6 : Hid (Touch (fun _ => False) w w6) := T5.out.trans b6.t
  have HCK : ∀ w', Touch (fun _ => False) w6 w' → Calls Try.prog 14 #[H.sv u6] w' fun e w'' => e = .returned (.int .i64 (chkE H D)) ∧ Touch (fun _ => False) w' w'' := fun w' t => check_any H HALL.out u6 D w' (b6.arg.keepN t) HBD.out HBN.out
  obtain ⟨ua6, uc6, rfl⟩ := b6.form
  have S6 : Hid (Sd (w6.alloc (.cells #[.int .u16 H.age, .int .u8 H.opts, .int .u8 H.typ, .int .u32 H.id, .int .u32 H.adv, .int .i32 H.seq, .int .u16 H.sum, .int .u16 H.len, .slice ua6 D.length uc6] 34)) w6.heap.size H (.slice ua6 D.length uc6)) := Sd.new w6 H _ _
  have T7 : Hid (Touch (fun _ => False) w (w6.alloc (.cells #[.int .u16 H.age, .int .u8 H.opts, .int .u8 H.typ, .int .u32 H.id, .int .u32 H.adv, .int .i32 H.seq, .int .u16 H.sum, .int .u16 H.len, .slice ua6 D.length uc6] 34))) := T6.out.alloc _
  unfold HV.sv at HCK
  have HCKa := HCK (w6.alloc (.cells #[.int .u16 H.age, .int .u8 H.opts, .int .u8 H.typ, .int .u32 H.id, .int .u32 H.adv, .int .i32 H.seq, .int .u16 H.sum, .int .u16 H.len, .slice ua6 D.length uc6] 34)) ((Touch.refl _ _).alloc _)
  clear HRG b6 hcj hfz HCK T6
  by_cases hn : H.len = 20 + (rs.length : Int)
  · have hn' : (H.len == 20 + (rs.length : Int)) = true := by rw [hn]; simp
    have hcz : (chkE H D == 0) = false := by simpa using HG2.out hn
    generalize chkE H D = E at *
    clear hn HG2
    go_wp2_with fail
    refine Calls.mono HCKa ?_
    rintro e w8 ⟨rfl, t8⟩
    have T8 : Hid (Touch (fun _ => False) w w8) := T7.out.trans t8
    clear t8 HCKa
    go_wp2_with fail
    refine Calls.mono (lives6 _) ?_
    rintro e wv ⟨rfl, tv⟩
    go_wp2
    go_ret
    exact ⟨rfl, T8.out.trans tv⟩
  · have hn' : (H.len == 20 + (rs.length : Int)) = false := by simp; omega
    clear hn HG2 HCKa
    go_wp2_with fail
    refine Calls.mono (lives6 _) ?_
    rintro e wv ⟨rfl, tv⟩
    go_wp2
    go_ret
    exact ⟨rfl, T7.out.trans tv⟩
end Go.Proofs.Ytfdpmlogieaiaaa
