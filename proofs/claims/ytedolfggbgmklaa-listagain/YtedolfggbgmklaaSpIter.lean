
/- The places in order: an iterator. -/
import Derived.Test.YtedolfggbgmklaaSpC6
import Derived.Test.YtedolfggbgmklaaSpBound
import Derived.LaidEqlPtr
import Derived.Lib.Builder
namespace Go.Proofs.Ytedolfggbgmklaa
open Go.RowKit Go.Shelf
set_option linter.unusedVariables false
set_option maxRecDepth 100000
attribute [local go_sem] Oper.semAt_some

theorem below_touch {w w' : World} (h : Below w.heap.size w w') : Touch (fun _ => False) w w' := ⟨h.os, h.tape, h.output, h.size, fun k hk _ => h.block k hk⟩
/-- Who stands at place k of the ring. -/
def nb (l : List It) (e k : Nat) : Nat := nxt (l.drop k) e
theorem nb_lt {l : List It} {e k : Nat} (h : k < l.length) : nb l e k = l[k].b := by
  unfold nb
  rw [List.drop_eq_getElem_cons h]
  rfl
theorem nb_end (l : List It) (e : Nat) : nb l e l.length = e := by unfold nb; rw [List.drop_length]; rfl
/-- The block that a pointer leads to. -/
def blk : Value → Nat
  | .pointer (some a) => a.block
  | _ => 0
theorem pos_nb {l : List It} {e k : Nat} (nd : (e :: l.map (·.b)).Nodup) (h : k ≤ l.length) : (l.map (·.b)).idxOf (nb l e k) = k := by
  by_cases hk : k < l.length
  · rw [nb_lt hk]
    have hl : k < (l.map (·.b)).length := by simpa using hk
    have e1 : l[k].b = (l.map (·.b))[k] := by simp
    rw [e1]
    exact List.Nodup.idxOf_getElem (List.nodup_cons.1 nd).2 k hl
  · have : k = l.length := by omega
    subst this
    rw [nb_end]
    have := List.idxOf_eq_length (List.nodup_cons.1 nd).1
    simpa using this
theorem Ring.at {w : World} {e : Nat} {l : List It} (h : Ring w e l) {k : Nat} (hk : k < l.length) : ∃ p, Row w l[k].b 72 (l[k].h.pl l[k].v p (nb l e (k + 1))) := by
  have hs := h.seg
  have e1 : l = l.take k ++ l[k] :: l.drop (k + 1) := by
    rw [← List.drop_eq_getElem_cons hk, List.take_append_drop]
  rw [e1] at hs
  exact ⟨_, hs.row⟩
/-- The state that comes as number k. -/
def encI (l : List It) (k : Nat) : Array Value := match l[k]? with
  | some x => #[.agg #[.int .u16 x.h.age, .int .u8 x.h.opts, .int .u8 x.h.typ, .int .u32 x.h.id, .int .u32 x.h.adv, .int .i32 x.h.seq, .int .u16 x.h.sum, .int .u16 x.h.len, x.v]]
  | none => #[undef]
theorem encI_some {l : List It} {k : Nat} {x : It} (h : l[k]? = some x) : encI l k = #[.agg #[.int .u16 x.h.age, .int .u8 x.h.opts, .int .u8 x.h.typ, .int .u32 x.h.id, .int .u32 x.h.adv, .int .i32 x.h.seq, .int .u16 x.h.sum, .int .u16 x.h.len, x.v]] := by
  unfold encI
  rw [h]
theorem encI_size (l : List It) (k : Nat) : (encI l k).size = 1 := by
  unfold encI
  split <;> rfl
theorem ptr_other {w : World} {a b : Nat} {xs ys : List Value} (ra : Row w a 72 xs) (rb : Row w b 72 ys) (h : a ≠ b) : (binOp .neq 62 (.pointer (some ⟨a, 0, none⟩)) (.pointer (some ⟨b, 0, none⟩))).run Try.prog w = .ok (.bool true) w := by
  have hi : (Try.prog.info? 72).map (·.size) = some 11 := by kernel_rfl
  cases hj : Try.prog.info? 72 with
  | none => rw [hj] at hi; cases hi
  | some j =>
    have hsz : j.size ≠ 0 := by rw [hj] at hi; simp at hi; omega
    have g : ∀ d : Nat, (Op.equalIn (d + 1) 62 (.pointer (some ⟨a, 0, none⟩)) (.pointer (some ⟨b, 0, none⟩))).run Try.prog w = .ok false w := fun d => by
      simp [Op.equalIn, run_underlying Try.underlying62, sizeOf, typeInfo, hj, hsz, run_sameAddr_other w (a := ⟨a, 0, none⟩) (b := ⟨b, 0, none⟩) (fun q => h (by cases q; rfl)) ra rb]
    simp only [binOp]
    simp [Op.equal, Op.maxDepth, g 9999]
theorem ptr_same (w : World) (a : Nat) : (binOp .neq 62 (.pointer (some ⟨a, 0, none⟩)) (.pointer (some ⟨a, 0, none⟩))).run Try.prog w = .ok (.bool false) w := by
  have hi : (Try.prog.info? 72).map (·.size) = some 11 := by kernel_rfl
  cases hj : Try.prog.info? 72 with
  | none => rw [hj] at hi; cases hi
  | some j => exact Go.Lib.run_neq_ptr_same w ⟨a, 0, none⟩ Try.underlying62 hj
set_option maxHeartbeats 4000000 in
theorem states_all (n : Nat) (hn : 1 ≤ n) (G : Nat → Prop) (L m e : Nat) (rx wt : Int) (l : List It) (w : World) (hv : ∀ w', Touch G w w' → LSt w' L m e rx wt l) :
    SeqAll n Try.prog 43 #[.pointer (some ⟨L, 0, none⟩)] (encI l) (Touch G) l.length w := fun y J W hW hJ hY hz => by
  have TW : Hid (Touch G w W) := (below_touch hW).mono (fun _ _ h => h.elim)
  have HV' : Hid (∀ w', Touch G w w' → LSt w' L m e rx wt l) := hv
  have HY : Hid (∀ (k : Nat) (W1 : World), J k W1 → k < l.length → YieldAt Fence.wide (n - 1) Try.prog y (encI l k) W1 fun e W' => e = .returned (.bool true) ∧ J (k + 1) W' ∧ Touch G W1 W') := hY
  have HS0 := HV'.out W TW.out
  have nd3 : Hid ((e :: l.map (·.b)).Nodup) := (List.nodup_cons.1 (List.nodup_cons.1 HS0.nd).2).2
  have d0 : W.cell? ⟨L, 3, none⟩ = some (.pointer (some ⟨e, 0, none⟩)) := HS0.row.cell 3
  have d1 : W.cell? ⟨e, 10, none⟩ = some (.pointer (some ⟨nb l e 0, 0, none⟩)) := HS0.ring.ends.cell 10
  have hL0 := HS0.row.lt
  have hE0 := HS0.ring.ends.lt
  clear hv hY hJ HS0
  refine callsIn_of_wp Try.func43 rfl trivial ?_ rfl
  simp only [Try.ntmps43, List.size_toArray, List.length_cons, List.length_nil, Nat.reduceAdd, Nat.reduceSub, Array.replicate_succ, Array.replicate_zero, List.push_toArray, List.append_toArray, List.nil_append, List.cons_append]
  gi_wp2
  clear d0 d1 hL0 hE0
  gi_loopw [4] (fun p wr => ∃ k : Nat, k ≤ l.length ∧ p = .pointer (some ⟨nb l e k, 0, none⟩) ∧ J k wr ∧ Touch G w wr)
    (fun p _ => l.length - (l.map (·.b)).idxOf (blk p))
  case atStart => exact ⟨0, Nat.zero_le _, rfl, hz, TW.out⟩
  case round =>
    obtain ⟨k, hk, rfl, hJs, hnx⟩ := hrel
    have HSr := HV'.out wr hnx
    have d0 : wr.cell? ⟨L, 3, none⟩ = some (.pointer (some ⟨e, 0, none⟩)) := HSr.row.cell 3
    have hLr := HSr.row.lt
    obtain ⟨bk, hbk⟩ : ∃ bk, nb l e k = bk := ⟨_, rfl⟩
    rw [hbk]
    by_cases hlt : k < l.length
    · obtain ⟨pp, RP⟩ := HSr.ring.at hlt
      have hne : ¬ (bk = e) := by
        rw [← hbk, nb_lt hlt]
        exact fun q => (List.nodup_cons.1 nd3.out).1 (List.mem_map.2 ⟨l[k], List.getElem_mem hlt, q⟩)
      rw [← nb_lt (e := e) hlt, hbk] at RP
      obtain ⟨x, hx⟩ : ∃ x, l[k] = x := ⟨_, rfl⟩
      rw [hx] at RP
      have hYY := HY.out k wr hJs hlt
      rw [encI_some (x := x) (by rw [List.getElem?_eq_getElem hlt, hx])] at hYY
      obtain ⟨fn, tmps, assign, body, hy, hR⟩ := hYY
      have c0 : wr.cell? ⟨bk, 0, none⟩ = some (.int .u16 x.h.age) := RP.cell 0
      have c1 : wr.cell? ⟨bk, 1, none⟩ = some (.int .u8 x.h.opts) := RP.cell 1
      have c2 : wr.cell? ⟨bk, 2, none⟩ = some (.int .u8 x.h.typ) := RP.cell 2
      have c3 : wr.cell? ⟨bk, 3, none⟩ = some (.int .u32 x.h.id) := RP.cell 3
      have c4 : wr.cell? ⟨bk, 4, none⟩ = some (.int .u32 x.h.adv) := RP.cell 4
      have c5 : wr.cell? ⟨bk, 5, none⟩ = some (.int .i32 x.h.seq) := RP.cell 5
      have c6 : wr.cell? ⟨bk, 6, none⟩ = some (.int .u16 x.h.sum) := RP.cell 6
      have c7 : wr.cell? ⟨bk, 7, none⟩ = some (.int .u16 x.h.len) := RP.cell 7
      have c8 : wr.cell? ⟨bk, 8, none⟩ = some (x.v) := RP.cell 8
      have hbl := RP.lt
      have hneq := ptr_other RP HSr.ring.ends hne
      have TR : Hid (Touch G w wr) := hnx
      have HBK : Hid (nb l e k = bk) := hbk
      clear hbk RP HSr hnx hJs hx hne
      gi_wp2
      refine hR.mono ?_
      rintro e' W3 ⟨rfl, hJ3, hk3⟩
      have T3 : Hid (Touch G w W3) := TR.out.trans hk3
      obtain ⟨pp3, RP3⟩ := (HV'.out W3 T3.out).ring.at hlt
      rw [← nb_lt (e := e) hlt, HBK.out] at RP3
      have f10 : W3.cell? ⟨bk, 10, none⟩ = some (.pointer (some ⟨nb l e (k + 1), 0, none⟩)) := RP3.cell 10
      have hb3 := RP3.lt
      have HJ3 : Hid (J (k + 1) W3) := hJ3
      clear hk3 RP3 hJ3 c0 c1 c2 c3 c4 c5 c6 c7 c8 d0 hLr hy hR hbl TR hneq
      gi_wp2
      go_roundw
      case rel => exact ⟨k + 1, by omega, rfl, HJ3.out, T3.out⟩
      case measure =>
        have p0 := pos_nb nd3.out hk
        have p1 := pos_nb nd3.out (show k + 1 ≤ l.length by omega)
        rw [HBK.out] at p0
        simp only [blk, p0, p1]
        omega
    · have hkk : k = l.length := by omega
      have hbe : bk = e := by rw [← hbk, hkk, nb_end]
      have HJ4 : Hid (J l.length wr) := by show J _ _; have := hJs; rw [hkk] at this; exact this
      have hsm := ptr_same wr bk
      subst hbe
      clear hbk HSr hnx hJs hkk hlt hk
      gi_wp2
      refine bodyPost_end (results_none rfl _ _ _) rfl ?_
      exact ⟨⟨_, rfl⟩, HJ4.out⟩
end Go.Proofs.Ytedolfggbgmklaa
