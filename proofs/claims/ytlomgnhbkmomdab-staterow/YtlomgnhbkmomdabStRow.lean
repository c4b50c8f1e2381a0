/- 'lodestarlaw06.StateRow': the walk. -/
import Derived.Test.YtlomgnhbkmomdabStRow0
import Derived.Test.YtlomgnhbkmomdabStLives
import Derived.Test.YtlomgnhbkmomdabStCopy
import Derived.Test.YtlomgnhbkmomdabTAft
import Derived.Deep.LoopGhost
namespace Go.Proofs.Ytlomgnhbkmomdab
open Go.RowKit
set_option linter.unusedVariables false
set_option maxRecDepth 100000

/-- Behind k states: their sizes' sum, and that their lengths are right. -/
def Row1 (w : World) (ls : List SE) (n i : Value) (wr : World) : Prop :=
  ∃ k : Nat, k ≤ ls.length ∧ i = .int .i64 (k : Int) ∧ n = .int .i64 (rowN (ls.take k) : Int) ∧ (∀ x ∈ ls.take k, x.h.len = 20 + (x.rs.length : Int)) ∧ rowN (ls.take k) ≤ 131072 ∧ Touch (fun _ => False) w wr
def Row2 (w : World) (ls : List SE) (b i : Value) (wr : World) : Prop := ∃ k : Nat, k ≤ ls.length ∧ i = .int .i64 (k : Int) ∧ Buf w wr b (rowB (ls.take k))
def Row3 (w : World) (ls : List SE) (b i : Value) (wr : World) : Prop := ∃ k : Nat, k ≤ ls.length ∧ i = .int .i64 (k : Int) ∧ ArgAt wr b (rowB (ls.drop k)) ∧ Touch (fun _ => False) w wr
theorem rowN_take (ls : List SE) (k : Nat) : rowN (ls.take k) ≤ rowN ls := by
  have : rowN ls = rowN (ls.take k) + rowN (ls.drop k) := by
    have e := congrArg rowN (List.take_append_drop k ls)
    simp only [rowN, List.map_append, List.sum_append] at e ⊢
    omega
  omega
theorem rowN_drop (ls : List SE) (k : Nat) : rowN (ls.drop k) ≤ rowN ls := by
  have e := congrArg rowN (List.take_append_drop k ls)
  simp only [rowN, List.map_append, List.sum_append] at e ⊢
  omega
theorem rowB_byte {w : World} {l : List SE} (h : ∀ y ∈ l, y.Ok w) : ∀ z ∈ rowB l, 0 ≤ z ∧ z < 256 := by
  intro z hz
  simp only [rowB, List.mem_flatMap] at hz
  obtain ⟨y, hy, hz⟩ := hz
  rcases List.mem_append.1 hz with h' | h'
  · exact headB_byte (h y hy).all z h'
  · exact (h y hy).byte z h'
theorem take_succ {ls : List SE} {k : Nat} {x : SE} (h : ls[k]? = some x) : ls.take (k + 1) = ls.take k ++ [x] := by
  obtain ⟨hk, e⟩ := List.getElem?_eq_some_iff.mp h
  rw [List.take_succ_eq_append_getElem hk, e]
set_option maxHeartbeats 4000000 in
theorem row_any (v : Value) (ls : List SE) (w : World) (h : StatesAt w v ls) : Calls Try.prog 3 #[v] w fun e w' => e = .returned (.bool true) ∧ Touch (fun _ => False) w w' := by
  have HL := lives6
  obtain ⟨va, vc, rfl, hm⟩ := h.vals.form
  unfold maxLen at hm
  have HSt : Hid (StatesAt w (.slice va ls.length vc) ls) := h
  have HR0 : Row1 w ls (.int .i64 0) (.int .i64 0) w := ⟨0, Nat.zero_le _, rfl, rfl, by simp, by simp [rowN], Touch.refl _ _⟩
  clear h
  go_enter Try.func3, Try.ntmps3
  go_wp2
  go_loopw [3, 4] (fun n i wr => Row1 w ls n i wr) (fun _ i _ => ls.length - (intOf i).toNat)
  case atStart => exact HR0
  case round =>
    obtain ⟨k, hk, rfl, rfl, hlen, hsz, T⟩ := hrel
    have HLen : Hid (∀ x ∈ ls.take k, x.h.len = 20 + (x.rs.length : Int)) := hlen
    have HT : Hid (Touch (fun _ => False) w wr) := T
    clear hlen T HR0
    generalize hN : rowN (ls.take k) = N at *
    have HN : Hid (rowN (ls.take k) = N) := hN
    clear hN
    by_cases hlt : k < ls.length
    · by_cases hn : N ≤ 65536
      · have hlt' : (k : Int) < (ls.length : Int) := by omega
        have hn' : (N : Int) ≤ 65536 := by omega
        obtain ⟨x, hx⟩ : ∃ x, ls[k]? = some x := ⟨ls[k], by simp [hlt]⟩
        obtain ⟨ox, g, off, c, e, hc⟩ := (HSt.out.keep HT.out).one hx
        cases e
        obtain ⟨xa, xc, ex, hxm⟩ := ox.arg.form
        unfold maxLen at hxm
        have c7 : wr.cell? ⟨g, off + k * 9 + 7, none⟩ = some (.int .u16 x.h.len) := by rw [Nat.add_assoc]; exact hc 7 _ rfl
        have c8 : wr.cell? ⟨g, off + k * 9 + 8, none⟩ = some (.slice xa x.rs.length xc) := by rw [← ex, Nat.add_assoc]; exact hc 8 _ rfl
        have HOx : Hid (x.Ok wr) := ox
        have hl0 := ox.all.l.1
        have hl1 := ox.all.l.2
        clear hc ox ex
        have hw1 : wrap64 ((N : Int) + 20) = (N : Int) + 20 := by unfold wrap64; omega
        have hw4 : IntKind.i64.wrap x.h.len = x.h.len := by simp [IntKind.wrap, IntKind.bits, IntKind.signed]; omega
        by_cases heq : x.h.len = wrap64 (20 + (x.rs.length : Int))
        · have hsm : x.rs.length ≤ 65515 := by unfold wrap64 at heq; omega
          have hw3 : wrap64 (20 + (x.rs.length : Int)) = 20 + (x.rs.length : Int) := by unfold wrap64; omega
          have hw2 : wrap64 ((N : Int) + 20 + (x.rs.length : Int)) = (N : Int) + 20 + (x.rs.length : Int) := by unfold wrap64; omega
          rw [hw3] at heq
          have hb : (x.h.len != 20 + (x.rs.length : Int)) = false := by simpa using heq
          have HEQ : Hid (x.h.len = 20 + (x.rs.length : Int)) := heq
          have HNx : Hid (rowN (ls.take (k + 1)) = N + 20 + x.rs.length) := by show _ = _; rw [take_succ hx, rowN_snoc, HN.out]; simp [SE.size]; omega
          have hkw : wrap64 ((k : Int) + 1) = (k : Int) + 1 := by unfold wrap64; omega
          have HX : Hid (ls[k]? = some x) := hx
          clear heq hx
          go_wp2
          go_quiet (fail)
          go_wp2
          go_roundw
          case rel =>
            refine ⟨k + 1, by omega, by go_num, ?_, ?_, by rw [HNx.out]; omega, HT.out.drewN _⟩
            · rw [HNx.out]; push_cast; rfl
            · intro y hy
              rw [take_succ HX.out, List.mem_append] at hy
              rcases hy with hy | hy
              · exact HLen.out y hy
              · rw [List.mem_singleton.1 hy]; exact HEQ.out
          case measure => simp [intOf]; omega
        · have hb : (x.h.len != wrap64 (20 + (x.rs.length : Int))) = true := by simpa using heq
          clear heq hx
          go_wp2
          go_quiet (fail)
          go_wp2_with (go_at_call 4; refine Calls.mono (HL _) ?_; rintro e w9 ⟨rfl, t9⟩; have HT9 : Hid (Touch (fun _ => False) w w9) := (HT.out.drewN nq).trans t9; clear t9)
          go_ret
          exact ⟨rfl, HT9.out⟩
      · have hlt' : (k : Int) < (ls.length : Int) := by omega
        have hn' : ¬ (N : Int) ≤ 65536 := by omega
        have hn2 : (65536 : Int) < (N : Int) := by omega
        go_wp2_with (go_at_call 4; refine Calls.mono (HL _) ?_; rintro e w9 ⟨rfl, t9⟩; have HT9 : Hid (Touch (fun _ => False) w w9) := HT.out.trans t9; clear t9)
        go_ret
        exact ⟨rfl, HT9.out⟩
    · obtain rfl : k = ls.length := by omega
      have hlt' : ¬ ((ls.length : Int) < (ls.length : Int)) := by omega
      by_cases hn : N ≤ 65536
      · have hn2 : ¬ (65536 : Int) < (N : Int) := by omega
        rw [List.take_length] at HN HLen
        have HR2 : Row2 w ls (.slice none 0 0) (.int .i64 0) wr := ⟨0, Nat.zero_le _, rfl, Buf.nil HT.out⟩
        clear hk
        go_wp2
        go_loopw [5, 6] (fun b i wr => Row2 w ls b i wr) (fun _ i _ => ls.length - (intOf i).toNat)
        case atStart => exact HR2
        case round =>
          obtain ⟨k, hk, rfl, B⟩ := hrel
          have HB : Hid (Buf w wr u5 (rowB (ls.take k))) := B
          clear B HR2
          by_cases hlt : k < ls.length
          · have hl2 : (k : Int) < (ls.length : Int) := by omega
            obtain ⟨x, hx⟩ : ∃ x, ls[k]? = some x := ⟨ls[k], by simp [hlt]⟩
            obtain ⟨ox, g, off, c, e, hc⟩ := (HSt.out.keep HB.out.t).one hx
            cases e
            obtain ⟨xa, xc, ex, hxm⟩ := ox.arg.form
            have hmem : x ∈ ls := List.mem_of_getElem? hx
            have hxl := HLen.out x hmem
            have hxs : x.rs.length ≤ 65515 := by have := ox.all.l; omega
            have c0 : wr.cell? ⟨g, off + k * 9, none⟩ = some (.int .u16 x.h.age) := hc 0 _ rfl
            have c1 : wr.cell? ⟨g, off + k * 9 + 1, none⟩ = some (.int .u8 x.h.opts) := by rw [Nat.add_assoc]; exact hc 1 _ rfl
            have c2 : wr.cell? ⟨g, off + k * 9 + 2, none⟩ = some (.int .u8 x.h.typ) := by rw [Nat.add_assoc]; exact hc 2 _ rfl
            have c3 : wr.cell? ⟨g, off + k * 9 + 3, none⟩ = some (.int .u32 x.h.id) := by rw [Nat.add_assoc]; exact hc 3 _ rfl
            have c4 : wr.cell? ⟨g, off + k * 9 + 4, none⟩ = some (.int .u32 x.h.adv) := by rw [Nat.add_assoc]; exact hc 4 _ rfl
            have c5 : wr.cell? ⟨g, off + k * 9 + 5, none⟩ = some (.int .i32 x.h.seq) := by rw [Nat.add_assoc]; exact hc 5 _ rfl
            have c6 : wr.cell? ⟨g, off + k * 9 + 6, none⟩ = some (.int .u16 x.h.sum) := by rw [Nat.add_assoc]; exact hc 6 _ rfl
            have c7 : wr.cell? ⟨g, off + k * 9 + 7, none⟩ = some (.int .u16 x.h.len) := by rw [Nat.add_assoc]; exact hc 7 _ rfl
            have c8 : wr.cell? ⟨g, off + k * 9 + 8, none⟩ = some (.slice xa x.rs.length xc) := by rw [← ex, Nat.add_assoc]; exact hc 8 _ rfl
            have HOx : Hid (ArgAt wr (.slice xa x.rs.length xc) x.rs) := ex ▸ ox.arg
            have HAll : Hid x.h.All := ox.all
            have HX : Hid (ls[k]? = some x) := hx
            have HRl : Hid ((rowB (ls.take k)).length ≤ 65536) := by show _ ≤ _; rw [length_rowB]; have := rowN_take ls k; have := HN.out; omega
            have hkw : wrap64 ((k : Int) + 1) = (k : Int) + 1 := by unfold wrap64; omega
            clear hc ox ex hx hmem hxl
            go_wp2_with fail
            refine Calls.mono (cstate_any x.h (.slice xa x.rs.length xc) x.rs _ HOx.out (by omega)) ?_
            rintro e w1 ⟨u1, rfl, b1⟩
            obtain ⟨ya, yc, rfl⟩ := b1.form
            have B1 : Hid (Buf wr w1 (.slice ya x.rs.length yc) x.rs) := b1
            clear b1 c0 c1 c2 c3 c4 c5 c6 c7 c8
            go_wp2_with fail
            refine Calls.mono (bytes_any x.h HAll.out (.slice ya x.rs.length yc) x.rs _ B1.out.arg (by omega)) ?_
            rintro e w2 ⟨u2, rfl, b2⟩
            have B2 : Hid (Buf w1 w2 u2 (headB x.h ++ x.rs)) := b2
            clear b2
            go_wp2_with (at_builtin; refine app_arg rfl (.tmp 55) (.tmp 61) rfl w u5 (rowB (ls.take k)) rfl ((HB.out.keep B1.out.t).keep B2.out.t) u2 (headB x.h ++ x.rs) rfl B2.out.arg (by have := HRl.out; rw [List.length_append, length_headB]; omega) ?_)
            intro v3 w3 b3
            have B3 : Hid (Buf w w3 v3 (rowB (ls.take k) ++ (headB x.h ++ x.rs))) := b3
            obtain ⟨za, zc, ez⟩ := b3.form
            subst ez
            clear b3
            go_wp2
            go_roundw
            case rel =>
              refine ⟨k + 1, by omega, by go_num, ?_⟩
              rw [take_succ HX.out, rowB_snoc]
              exact B3.out
            case measure => simp [intOf]; omega
          · obtain rfl : k = ls.length := by omega
            rw [List.take_length] at HB
            have HR3 : Row3 w ls u5 (.int .i64 0) wr := ⟨0, Nat.zero_le _, rfl, by simpa using HB.out.arg, HB.out.t⟩
            obtain ⟨ba, bc, eb⟩ := HB.out.form
            subst eb
            clear hk HB
            go_wp2
            go_loopw [5, 7] (fun b i wr => Row3 w ls b i wr) (fun _ i _ => ls.length - (intOf i).toNat)
            case atStart => exact HR3
            case round =>
              obtain ⟨k, hk, rfl, HA0, T0⟩ := hrel
              have HA : Hid (ArgAt wr u5 (rowB (ls.drop k))) := HA0
              have HT0 : Hid (Touch (fun _ => False) w wr) := T0
              obtain ⟨ba, bc, eb, hbm⟩ := HA0.form
              subst eb
              clear HA0 T0 HR3
              by_cases hlt : k < ls.length
              · have hl2 : (k : Int) < (ls.length : Int) := by omega
                obtain ⟨x, hx⟩ : ∃ x, ls[k]? = some x := ⟨ls[k], by simp [hlt]⟩
                have hdr : rowB (ls.drop k) = (headB x.h ++ x.rs) ++ rowB (ls.drop (k + 1)) := by
                  obtain ⟨hk', e⟩ := List.getElem?_eq_some_iff.mp hx
                  rw [List.drop_eq_getElem_cons hk', e]; simp [rowB, SE.b]
                have hmem : x ∈ ls := List.mem_of_getElem? hx
                have hxl := HLen.out x hmem
                have okx := HSt.out.ok x hmem
                have hxs : x.rs.length ≤ 65515 := by have := okx.all.l; omega
                have hbl : (rowB (ls.drop k)).length = 20 + x.rs.length + (rowB (ls.drop (k + 1))).length := by rw [hdr]; simp [length_headB]; omega
                have hbt : (rowB (ls.drop k)).length ≤ 65536 := by rw [length_rowB]; have := rowN_drop ls k; have := HN.out; omega
                have hby : ∀ z ∈ rowB (ls.drop k), 0 ≤ z ∧ z < 256 := fun z hz => rowB_byte (fun y hy => HSt.out.ok y (List.mem_of_mem_drop hy)) z hz
                have hrd : rdHead ((rowB (ls.drop k)).take 20) = x.h := by rw [hdr, List.append_assoc, take_headB, rdHead_headB x.h okx.all]
                have hbd : ((rowB (ls.drop k)).drop 20).take (x.h.len.toNat - 20) = x.rs := by rw [hdr, List.append_assoc, drop_headB, List.take_append_of_le_length (by omega), List.take_of_length_le (by omega)]
                have HRd := fun u w h => read_good u (rowB (ls.drop k)) w h hby (by omega) (by omega) x.h hrd (by omega) (by omega)
                rw [hbd] at HRd
                have HNx : Hid ((rowB (ls.drop k)).drop (20 + x.rs.length) = rowB (ls.drop (k + 1))) := by show _ = _; rw [hdr, List.drop_left' (by simp [length_headB])]
                obtain ⟨cu, hcu, hcua⟩ := cut_from HA.out rfl (by omega) (20 + x.rs.length) (by omega)
                have hcu' : ∀ w, Sem.run Try.prog (Instr.slice 27 (.slice ba (rowB (ls.drop k)).length bc) (some (.int .i64 x.h.len)) none none) w = .ok cu w := by rw [hxl]; exact_mod_cast hcu
                rw [HNx.out] at hcua
                have HCu : Hid (ArgAt wr cu (rowB (ls.drop (k + 1)))) := hcua
                obtain ⟨da, dc, ed, _⟩ := hcua.form
                subst ed
                have hm20 : ¬ x.h.len < 20 := by omega
                have hmle : ¬ ((rowB (ls.drop k)).length : Int) < x.h.len := by omega
                have hkw : wrap64 ((k : Int) + 1) = (k : Int) + 1 := by unfold wrap64; omega
                have HX : Hid (ls[k]? = some x) := hx
                have HRb : Hid ((rowB (ls.drop k)).length ≤ 1000000) := by show _ ≤ _; omega
                clear hcu hcua hrd hbd hby hdr hmem hxl okx hx hbl
                generalize rowB (ls.drop k) = BB at *
                go_wp2_with fail
                refine Calls.mono (cbytes_any (.slice ba BB.length bc) BB _ HA.out HRb.out) ?_
                rintro e w1 ⟨u1, rfl, b1⟩
                have B1 : Hid (Buf wr w1 u1 BB) := b1
                obtain ⟨ea, ec, eu⟩ := b1.form
                subst eu
                clear b1
                go_wp2_with fail
                refine Calls.mono (HRd _ _ B1.out.arg) ?_
                rintro e w2 ⟨u2, rfl, b2⟩
                obtain ⟨fa, fc, ef⟩ := b2.form
                subst ef
                have B2 : Hid (Buf w1 w2 (.slice fa x.rs.length fc) x.rs) := b2
                clear b2 HRd
                unfold HV.sv
                go_upto_region 19 with fail
                have HS3 : Hid (Sd (w2.alloc (.cells #[.int .u16 x.h.age, .int .u8 x.h.opts, .int .u8 x.h.typ, .int .u32 x.h.id, .int .u32 x.h.adv, .int .i32 x.h.seq, .int .u16 x.h.sum, .int .u16 x.h.len, .slice fa x.rs.length fc] 29)) w2.heap.size x.h (.slice fa x.rs.length fc)) := Sd.new w2 x.h (.slice fa x.rs.length fc) 29
                have T3 : Hid (Touch (fun _ => False) wr (w2.alloc (.cells #[.int .u16 x.h.age, .int .u8 x.h.opts, .int .u8 x.h.typ, .int .u32 x.h.id, .int .u32 x.h.adv, .int .i32 x.h.seq, .int .u16 x.h.sum, .int .u16 x.h.len, .slice fa x.rs.length fc] 29))) := (B1.out.t.trans B2.out.t).alloc _
                have HRow : Hid (RowAt (w2.alloc (.cells #[.int .u16 x.h.age, .int .u8 x.h.opts, .int .u8 x.h.typ, .int .u32 x.h.id, .int .u32 x.h.adv, .int .i32 x.h.seq, .int .u16 x.h.sum, .int .u16 x.h.len, .slice fa x.rs.length fc] 29)) (.slice fa x.rs.length fc) x.rs) := B2.out.row.touch ((Touch.refl (fun _ => False) _).alloc _) (fun _ _ h => h)
                generalize w2.alloc (.cells #[.int .u16 x.h.age, .int .u8 x.h.opts, .int .u8 x.h.typ, .int .u32 x.h.id, .int .u32 x.h.adv, .int .i32 x.h.seq, .int .u16 x.h.sum, .int .u16 x.h.len, .slice fa x.rs.length fc] 29) = w3 at *
                have T3w : Hid (Touch (fun _ => False) w w3) := HT0.out.trans T3.out
                obtain ⟨ox, g, off, c, e, hc⟩ := (HSt.out.keep T3w.out).one HX.out
                cases e
                obtain ⟨xa, xc, ex, hxm⟩ := ox.arg.form
                have HOx : Hid (ArgAt w3 (.slice xa x.rs.length xc) x.rs) := ex ▸ ox.arg
                have r0 := aft_cell (show w3.cell? ⟨g, off + k * 9, none⟩ = some (.int .u16 x.h.age) from hc 0 _ rfl)
                have r1 := aft_cell (show w3.cell? ⟨g, off + k * 9 + 1, none⟩ = some (.int .u8 x.h.opts) by rw [Nat.add_assoc]; exact hc 1 _ rfl)
                have r2 := aft_cell (show w3.cell? ⟨g, off + k * 9 + 2, none⟩ = some (.int .u8 x.h.typ) by rw [Nat.add_assoc]; exact hc 2 _ rfl)
                have r3 := aft_cell (show w3.cell? ⟨g, off + k * 9 + 3, none⟩ = some (.int .u32 x.h.id) by rw [Nat.add_assoc]; exact hc 3 _ rfl)
                have r4 := aft_cell (show w3.cell? ⟨g, off + k * 9 + 4, none⟩ = some (.int .u32 x.h.adv) by rw [Nat.add_assoc]; exact hc 4 _ rfl)
                have r5 := aft_cell (show w3.cell? ⟨g, off + k * 9 + 5, none⟩ = some (.int .i32 x.h.seq) by rw [Nat.add_assoc]; exact hc 5 _ rfl)
                have r6 := aft_cell (show w3.cell? ⟨g, off + k * 9 + 6, none⟩ = some (.int .u16 x.h.sum) by rw [Nat.add_assoc]; exact hc 6 _ rfl)
                have r7 := aft_cell (show w3.cell? ⟨g, off + k * 9 + 7, none⟩ = some (.int .u16 x.h.len) by rw [Nat.add_assoc]; exact hc 7 _ rfl)
                have r8 := aft_cell (show w3.cell? ⟨g, off + k * 9 + 8, none⟩ = some (.slice xa x.rs.length xc) by rw [← ex, Nat.add_assoc]; exact hc 8 _ rfl)
                have p0 := aft_cell HS3.out.hd.c0
                have p1 := aft_cell HS3.out.hd.c1
                have p2 := aft_cell HS3.out.hd.c2
                have p3 := aft_cell HS3.out.hd.c3
                have p4 := aft_cell HS3.out.hd.c4
                have p5 := aft_cell HS3.out.hd.c5
                have p6 := aft_cell HS3.out.hd.c6
                have p7 := aft_cell HS3.out.hd.c7
                have p8 := aft_cell HS3.out.c8
                have HES : ∀ u : Aft w3, Calls Try.prog 9 #[.agg #[.int .u16 x.h.age, .int .u8 x.h.opts, .int .u8 x.h.typ, .int .u32 x.h.id, .int .u32 x.h.adv, .int .i32 x.h.seq, .int .u16 x.h.sum, .int .u16 x.h.len, .slice fa x.rs.length fc], .agg #[.int .u16 x.h.age, .int .u8 x.h.opts, .int .u8 x.h.typ, .int .u32 x.h.id, .int .u32 x.h.adv, .int .i32 x.h.seq, .int .u16 x.h.sum, .int .u16 x.h.len, .slice xa x.rs.length xc]] u.w fun e w' => e = .returned (.bool true) ∧ Touch (fun _ => False) u.w w' := fun u => estate_true x.h (.slice fa x.rs.length fc) (.slice xa x.rs.length xc) x.rs u.w (HRow.out.touch u.gr (fun _ _ h => h)) (HOx.out.keepN u.gr)
                have hd1 : decide (x.h.len < 20) = false := decide_eq_false (by omega)
                have hd2 : decide ((BB.length : Int) < x.h.len) = false := decide_eq_false (by omega)
                clear hc ox ex hm20 hmle
                refine wp_region_aft (by kernel_rfl) (by kernel_rfl) ?_
                repeat (first | go_big_quiet_skip | (go_big_quiet_want; go_big_quiet_op; first | go_big_quiet_on | (refine Exists.intro _ ⟨fun _ => rfl, ?_⟩; go_big_quiet_on)))
                go_big_quiet_want; go_big_quiet_op; refine Exists.intro _ ⟨fun u => Aft.call (HES u), ?_⟩; go_big_quiet_on
                repeat (first | go_big_quiet_skip | (go_big_quiet_want; go_big_quiet_op; first | go_big_quiet_on | (refine Exists.intro _ ⟨fun _ => rfl, ?_⟩; go_big_quiet_on)))
                refine wpQuiet_nil ?_
                rintro wq ⟨⟨_, hgq⟩, rfl⟩
                clear p0 p1 p2 p3 p4 p5 p6 p7 p8 r0 r1 r2 r3 r4 r5 r6 r7 r8 HES
                have HTq : Hid (Touch (fun _ => False) wr wq) := T3.out.trans hgq
                clear hgq
                go_wp2
                go_roundw
                case rel => exact ⟨k + 1, by omega, by go_num, HCu.out.keepN HTq.out, HT0.out.trans HTq.out⟩
                case measure => simp [intOf]; omega
              · obtain rfl : k = ls.length := by omega
                have hz : (rowB (ls.drop ls.length)).length = 0 := by simp [rowB]
                rw [hz]
                have hl3 : ¬ ((ls.length : Int) < (ls.length : Int)) := by omega
                clear hz HA
                go_wp2_with (go_at_call 4; refine Calls.mono (HL _) ?_; rintro e w9 ⟨rfl, t9⟩; have HT9 : Hid (Touch (fun _ => False) w w9) := HT0.out.trans t9; clear t9)
                go_ret
                exact ⟨rfl, HT9.out⟩
      · have hn2 : (65536 : Int) < (N : Int) := by omega
        go_wp2_with (go_at_call 4; refine Calls.mono (HL _) ?_; rintro e w9 ⟨rfl, t9⟩; have HT9 : Hid (Touch (fun _ => False) w w9) := HT.out.trans t9; clear t9)
        go_ret
        exact ⟨rfl, HT9.out⟩
end Go.Proofs.Ytlomgnhbkmomdab
