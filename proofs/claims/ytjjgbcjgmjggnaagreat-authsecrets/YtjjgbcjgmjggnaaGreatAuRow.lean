/- Pure: what is signed is the packet's encoding with that Auth; who opens it. -/
import Derived.Test.YtjjgbcjgmjggnaaGreatReader
import Derived.Test.YtjjgbcjgmjggnaaGreatPkRT
import Derived.Test.YtjjgbcjgmjggnaaGreatDigBase
import Derived.Test.YtjjgbcjgmjggnaaGreatKeep
import Derived.Test.YtjjgbcjgmjggnaaGreatDigBuf
import Derived.Test.YtjjgbcjgmjggnaaGreatStRead3
import Derived.Laws.Rows
import Derived.Laws.Tables
import Derived.Test.YtjjgbcjgmjggnaaGreatParts
import Derived.Deep.RegionHeld3
import Derived.Test.YtjjgbcjgmjggnaaGreatVals
namespace Go.Proofs.YtjjgbcjgmjggnaaGreat
open Go.RowKit
set_option linter.unusedVariables false
set_option maxRecDepth 100000

def auOf (kind : Int) (d : List Int) : AuV := ⟨kind, d.getD 0 0, d.getD 1 0, d.getD 2 0, d.getD 3 0, d.getD 4 0, d.getD 5 0, d.getD 6 0, d.getD 7 0⟩
def au00 : AuV := ⟨0, 0, 0, 0, 0, 0, 0, 0, 0⟩
theorem au00_ok : au00.Ok := ⟨by decide, by decide, by decide, by decide, by decide, by decide, by decide, by decide, by decide⟩
theorem auOf_data {kind : Int} {d : List Int} (h : d.length = 8) : (auOf kind d).data = d := by
  match d, h with
  | [a, b, c, e, f, g, i, j], _ => rfl
theorem auOf_ok {kind : Int} {d : List Int} (h : d.length = 8) (hk : 0 ≤ kind ∧ kind < 65536) (hb : ∀ z ∈ d, 0 ≤ z ∧ z < 256) : (auOf kind d).Ok := by
  match d, h with
  | [a, b, c, e, f, g, i, j], _ => exact ⟨hk, hb a (by simp), hb b (by simp), hb c (by simp), hb e (by simp), hb f (by simp), hb g (by simp), hb i (by simp), hb j (by simp)⟩
theorem bp_passB_byte {sec : List Int} (h : ∀ z ∈ sec, 0 ≤ z ∧ z < 256) : ∀ z ∈ passB sec, 0 ≤ z ∧ z < 256 := by
  intro z hz
  unfold passB at hz
  rcases List.mem_append.1 hz with hz | hz
  · exact h z (List.mem_of_mem_take hz)
  · have := List.eq_of_mem_replicate hz
    omega
theorem passB_short {sec : List Int} (h : sec.length ≤ 8) : passB sec = sec ++ List.replicate (8 - sec.length) 0 := by
  unfold passB
  rw [List.take_of_length_le h]
/-- What is said in a packet's head. -/
theorem sayB_head (P : PV) (A : AuV) (n s : Int) (body : List Int) (right kind : Int) {d : List Int} (hd : d.length = 8) : sayB (phead2 P A n s ++ body) right kind d = phead2 P (auOf kind d) n right ++ body := by
  have e1 : (phead2 P A n s ++ body).take 12 = [2, P.typ] ++ numBytes 2 n ++ numBytes 4 P.router ++ numBytes 4 P.area := by simp [phead2, numBytes2, numBytes4, AuV.data]
  have e2 : (phead2 P A n s ++ body).drop 24 = body := by rw [List.drop_append_of_le_length (by rw [length_phead2]; omega)]; simp [phead2, numBytes2, numBytes4, AuV.data]
  unfold sayB
  rw [e1, e2]
  unfold phead2
  rw [auOf_data hd]
  rfl
theorem kindB_head (P : PV) (A : AuV) (n s : Int) (body : List Int) (h0 : 0 ≤ A.kind) (h1 : A.kind < 65536) : kindB (phead2 P A n s ++ body) = A.kind := by
  have e : ((phead2 P A n s ++ body).drop 14).take 2 = numBytes 2 A.kind := by simp [phead2, numBytes2, numBytes4, AuV.data]
  unfold kindB
  rw [e, numOf_two _ h0 h1]
theorem dataB_head (P : PV) (A : AuV) (n s : Int) (body : List Int) : dataB (phead2 P A n s ++ body) = A.data := by
  unfold dataB
  simp [phead2, numBytes2, numBytes4, AuV.data]
theorem plainSum_head (P : PV) (A : AuV) (n s : Int) (body : List Int) {d : List Int} (hd : d.length = 8) : plainSum (phead2 P A n s ++ body) = psum P (auOf 1 d) n body := by
  unfold plainSum psum
  rw [if_neg (by simp [auOf]), sayB_head P A n s body 0 1 (by simp)]
  have : W true (phead2 P (auOf 1 (List.replicate 8 0)) n 0 ++ body) = W true (summedB (phead2 P (auOf 1 d) n 0 ++ body)) := by
    unfold summedB phead2
    simp only [numBytes2, numBytes4, AuV.data, auOf, List.cons_append, List.nil_append, List.take, List.drop]
    simp [W]
  rw [this]
theorem penc_form {C : PkC} {A : AuV} (h : pencE C A = 0) : pencB C A = phead2 C.P A (24 + ((pbodyB C).length : Int)) (psum C.P A (24 + ((pbodyB C).length : Int)) (pbodyB C)) ++ pbodyB C := by
  unfold pencB
  rw [if_pos h, sealed_form]
theorem penc_other {C : PkC} {A B : AuV} (h : pencE C A = 0) (hb : B.kind ≤ 2) : pencE C B = 0 := by
  have E := pencE_ok h
  exact PEnc.zero ⟨E.t, E.a, E.m, hb, E.l⟩
/-- Signed with a password: the encoding with it. -/
theorem signPl_enc {C : PkC} {A : AuV} (h : pencE C A = 0) (k : AKP) : signPl (pencB C A) k = pencB C (auOf 1 (passB k.sec)) := by
  have h1 : pencE C (auOf 1 (passB k.sec)) = 0 := penc_other h (by simp [auOf])
  unfold signPl
  rw [penc_form h, penc_form h1, plainSum_head _ _ _ _ _ (length_passB k.sec), sayB_head _ _ _ _ _ _ _ (length_passB k.sec)]
/-- A packet that Encode made is not signed, and right. -/
theorem uns_enc {C : PkC} (ok : C.Ok) (h : pencE C au00 = 0) : unsE (pencB C au00) = 0 := by
  have R := pround ok au00_ok h
  have hk : kindB (pencB C au00) = 0 := by rw [penc_form h]; exact kindB_head _ _ _ _ _ (by decide) (by decide)
  unfold unsE
  rw [if_neg (fun e => e R.len), R.told, if_neg (by omega), if_neg (fun e => e hk), R.right (by decide), if_neg (by decide)]
/-- One key that may be. -/
theorem one_ok {k : AKP} (h : achE [k] = 0) : k.may = true := by
  obtain ⟨-, h2⟩ := chk_ok h
  exact (badAt_ok (ks := [k]) (j := 0) (k := k) rfl (h2 0 (by simp))).1
theorem one_span {k : AKP} (h : k.may = true) (hk : k.kind = 1) : 0 ≤ k.sf ∧ k.sf ≤ k.su ∧ 0 ≤ k.tf ∧ k.tf ≤ k.tu ∧ k.sec.length ≤ 8 := by
  have := AKP.may_iff.1 h
  have e : longN k.kind = 8 := by rw [hk]; rfl
  rw [e] at this
  omega
theorem choose_one {k : AKP} (h : k.sf ≤ k.su) : chooseI [k] k.sf = 0 := by
  unfold chooseI
  have hs : k.sends k.sf = true := by simp [AKP.sends, h]
  simp [bestI, better, hs]
theorem sign_one {C : PkC} (ok : C.Ok) (h : pencE C au00 = 0) {k : AKP} (ha : achE [k] = 0) (hk : k.kind = 1) (seq : Int) : signE (pencB C au00) [k] k.sf = 0 ∧ signB (pencB C au00) [k] k.sf seq = pencB C (auOf 1 (passB k.sec)) := by
  have hu := uns_enc ok h
  have hm := one_span (one_ok ha) hk
  have hc := choose_one hm.2.1
  have hE : signE (pencB C au00) [k] k.sf = 0 := by
    unfold signE
    rw [if_neg (fun e => e hu), if_neg (by simp), if_neg (by rw [ha, hc]; simp)]
  refine ⟨hE, ?_⟩
  unfold signB
  rw [if_neg (fun e => e hE), hc]
  show signW (pencB C au00) k seq = _
  unfold signW
  rw [if_pos hk, signPl_enc h]
/-- Who opens a password. -/
theorem open_one {C : PkC} (ok : C.Ok) (h : pencE C au00 = 0) {d : List Int} (hd : d.length = 8) (hdb : ∀ z ∈ d, 0 ≤ z ∧ z < 256) {k : AKP} (ha : achE [k] = 0) (hk : k.kind = 1) (now : Int) :
    openE (pencB C (auOf 1 d)) [k] now = if (k.takes now && decide (passB k.sec = d)) = true then 0 else 26 := by
  have h1 : pencE C (auOf 1 d) = 0 := penc_other h (by simp [auOf])
  have oa : (auOf 1 d).Ok := auOf_ok hd (by omega) hdb
  have R := pround ok oa h1
  have hkb : kindB (pencB C (auOf 1 d)) = 1 := by rw [penc_form h1]; exact kindB_head _ _ _ _ _ (by simp [auOf]) (by simp [auOf])
  have hdt : dataB (pencB C (auOf 1 d)) = d := by rw [penc_form h1, dataB_head, auOf_data hd]
  unfold openE
  rw [if_neg (fun e => e R.len)]
  unfold openE0
  rw [ha, hkb, hdt, if_neg (by simp), if_neg (by show ¬ ((1 : Int) ≠ k.kind); rw [hk]; simp), if_pos rfl]
  have hw : wholeE (pencB C (auOf 1 d)) (pTold (pencB C (auOf 1 d))) = 0 := by
    unfold wholeE
    rw [R.told, if_neg (by omega), R.right (by simp [auOf]), if_neg (by decide)]
  unfold openPl
  rw [hw, if_neg (by simp)]
  simp [passAny]
end Go.Proofs.YtjjgbcjgmjggnaaGreat

namespace Go.Proofs.YtjjgbcjgmjggnaaGreat
open Go.RowKit
set_option linter.unusedVariables false
set_option maxRecDepth 100000

structure EqW (rs ss : List Int) (w : World) (k : Nat) (wr : World) : Prop where
  le : k ≤ rs.length
  same : ∀ j, j < k → rs.getD j 0 = ss.getD j 0
  w : ∃ nd, wr = w.drewN nd
theorem eqw_end {rs ss : List Int} (hl : rs.length = ss.length) (h : ∀ j, j < rs.length → rs.getD j 0 = ss.getD j 0) : rs = ss := by
  apply List.ext_getElem hl
  intro i h1 h2
  have := h i h1
  simpa [List.getD, List.getElem?_eq_getElem h1, List.getElem?_eq_getElem h2] using this
theorem eqw_not {rs ss : List Int} {k : Nat} (h : ¬ rs.getD k 0 = ss.getD k 0) : decide (rs = ss) = false := by
  rw [decide_eq_false_iff_not]
  intro e
  exact h (by rw [e])
set_option maxHeartbeats 1000000 in
theorem eqb_any (va vb : Value) (rs ss : List Int) (w : World) (hl : rs.length = ss.length) (ha : RowAt w va rs) (hb : RowAt w vb ss) (b : Bool) (hbb : decide (rs = ss) = b) :
    Calls Tryz.prog 16 #[va, vb] w fun e w' => e = .returned (.bool b) ∧ Touch (fun _ => False) w w' := by
  obtain ⟨aa, ca, rfl, hm⟩ := rowAt_form ha
  obtain ⟨ab, cb, rfl, _⟩ := rowAt_form hb
  rw [← hl] at hb ⊢
  unfold maxLen at hm
  have HL : Hid (rs.length = ss.length) := hl
  have HB : Hid (decide (rs = ss) = b) := hbb
  clear hl hbb
  go_enter Tryz.func16, Tryz.ntmps16
  go_wp2
  go_loopw [5] (fun i wr => ∃ k : Nat, i = .int .i64 k ∧ EqW rs ss w k wr) (fun i _ => rs.length - (intOf i).toNat)
  case atStart => exact ⟨0, rfl, Nat.zero_le _, fun j hj => by omega, 0, rfl⟩
  case round =>
    obtain ⟨k, rfl, E⟩ := hrel
    obtain ⟨nd, rfl⟩ := E.w
    have hk := E.le
    have HE : Hid _ := E.same
    clear E
    by_cases hlt : k < rs.length
    · obtain ⟨ga, oa, rfl⟩ := rowAt_some ha (by omega)
      obtain ⟨gb, ob, rfl⟩ := rowAt_some hb (by omega)
      have hca := rowAt_cell ha k hlt
      have hcb := rowAt_cell hb k (by rw [← HL.out]; exact hlt)
      by_cases hq : rs.getD k 0 = ss.getD k 0
      · have HQ : Hid (rs.getD k 0 = ss.getD k 0) := hq
        rw [← hq] at hcb
        obtain ⟨z, hz⟩ : ∃ z, z = rs.getD k 0 := ⟨_, rfl⟩
        rw [← hz] at hca hcb
        clear hz ha hb hq
        go_wp2
        go_quiet (fail)
        go_wp2
        go_roundw
        case rel => exact ⟨k + 1, by go_num, by omega, fun j hj => by
          by_cases e : j = k
          · rw [e]; exact HQ.out
          · exact HE.out j (by omega), _, rfl⟩
        case measure => simp [intOf]; omega
      · have hf := eqw_not hq
        have hbf : b = false := by rw [← HB.out]; exact hf
        subst hbf
        obtain ⟨z, hz⟩ : ∃ z, z = rs.getD k 0 := ⟨_, rfl⟩
        obtain ⟨y, hy⟩ : ∃ y, y = ss.getD k 0 := ⟨_, rfl⟩
        rw [← hz, ← hy] at hq
        rw [← hz] at hca
        rw [← hy] at hcb
        have hq' : (z == y) = false := by simpa using hq
        clear hz hy ha hb hq hf
        go_wp2
        go_quiet (fail)
        go_wp2
        go_ret
        exact ⟨rfl, ((Touch.refl _ _).drewN _).drewN _⟩
    · have e := eqw_end HL.out (fun j hj => HE.out j (by omega))
      have hbt : b = true := by rw [← HB.out]; simpa using e
      subst hbt
      clear e
      go_wp2
      go_ret
      exact ⟨rfl, (Touch.refl _ _).drewN _⟩
end Go.Proofs.YtjjgbcjgmjggnaaGreat

namespace Go.Proofs.YtjjgbcjgmjggnaaGreat
open Go.RowKit
set_option linter.unusedVariables false
set_option maxRecDepth 100000

structure Two8 (w0 w : World) (vx vy : Value) (lx ly : List Int) : Prop where
  x : Buf w0 w vx lx
  y : Buf w0 w vy ly
  ne : ∀ k, vx.ownBlock = some k → ¬ vy.ownBlock = some k
theorem Two8.swap {w0 w : World} {vx vy : Value} {lx ly : List Int} (h : Two8 w0 w vx vy lx ly) : Two8 w0 w vy vx ly lx := ⟨h.y, h.x, fun k h1 h2 => h.ne k h2 h1⟩
theorem Two8.keep {w0 w w' : World} {vx vy : Value} {lx ly : List Int} (h : Two8 w0 w vx vy lx ly) (t : Touch (fun _ => False) w w') : Two8 w0 w' vx vy lx ly := ⟨h.x.keep t, h.y.keep t, h.ne⟩
/-- One made behind the other. -/
theorem two_new {w0 w1 w2 : World} {vx vy : Value} {lx ly : List Int} (hx : Buf w0 w1 vx lx) (hy : Buf w1 w2 vy ly) : Two8 w0 w2 vx vy lx ly :=
  ⟨hx.keep hy.t, hy.back hx.t, fun k h1 h2 => by
    have a := (hx.own.lt k h1).2
    have b := (hy.own.lt k h2).1
    omega⟩
section
variable {ops : Array Oper} {rest : List Oper} {o : Oper} {a : Act} {Q : Exit → Act → World → Prop} {w : World}
theorem two_app (hgd : o.guard = none) (s x : Operand) (ho : o.op = .call { callee := .builtin .append, args := #[s, x], argTypes := #[43, 43] })
    (w0 : World) (vx vy : Value) (lx ly : List Int) (hs : a.eval s = vx) (hb : Two8 w0 w vx vy lx ly) (z : Int) (hx : a.eval x = .slice (some ⟨w.heap.size, 0, none⟩) 1 1) (hl : lx.length < 1099511627776)
    (h : ∀ v' w', Two8 w0 w' v' vy (lx ++ [z]) ly → wpList Tryz.prog ops Q rest (a.put o.dst v') w') : wpList Tryz.prog ops Q (o :: rest) a (w.alloc (.cells #[.int .u8 z] 5)) := by
  obtain ⟨i0, hi, hz0, hz1, hz2⟩ := info_parts Tryz.info5w
  have hb2 := hb.keep ((Touch.refl _ w).alloc (.cells #[.int .u8 z] 5))
  refine wpList_append_own_at _ hgd s x 43 ho w0.heap.size 5 i0 (.int .u8 0) 1 1 Tryz.underlying43 hi hz0 hz1 hz2 rfl (by decide) vx lx.length (bytesOf lx) hs hb2.x.own ⟨w.heap.size, 0, none⟩ 1 1 (bytesOf [z]) hx (by simp [bytesOf]) (cell_one_new w _ _) (oneCell_bytesOf [z]) (by unfold maxLen; omega) (by omega) hb2.x.t.size ?_
  intro v' w' hown hg _ hmv
  have t : Touch (fun k => vx.ownBlock = some k) (w.alloc (.cells #[.int .u8 z] 5)) w' := (Touch.refl _ _).grown hg (fun k hk => Or.inl hk)
  refine h v' w' ⟨?_, ⟨own_touch hb2.y.own t (fun k hk e => hb.ne k e hk), hb2.x.t.grown hg (fun k hk => Or.inr (hb2.x.own.lt k hk).1)⟩, fun k h1 h2 => ?_⟩
  · exact hb2.x.appended (r := [z]) hown hg
  · rcases hmv with e | e
    · exact hb.ne k (e ▸ h1) h2
    · rw [e] at h1
      have e2 := Option.some.inj h1
      have := (hb2.y.own.lt k h2).2
      omega
end
end Go.Proofs.YtjjgbcjgmjggnaaGreat

namespace Go.Proofs.YtjjgbcjgmjggnaaGreat
open Go.RowKit
set_option linter.unusedVariables false
set_option maxRecDepth 100000

theorem Tryz.info16 : (Tryz.prog.info? 130).map (·.size) = some 16 := by kernel_rfl
theorem quad_of {w : World} {g : Nat} {T : TypeId} {q : Q4} {rest : List Value} (h : Row w g T (.int .u32 (q.a : Int) :: .int .u32 (q.b : Int) :: .int .u32 (q.c : Int) :: .int .u32 (q.d : Int) :: rest)) : Quad w g q := ⟨h.cell 0, h.cell 1, h.cell 2, h.cell 3⟩

/-- The number of a place. -/
def Q4.at (q : Q4) (j : Nat) : Nat := if j = 0 then q.a else if j = 1 then q.b else if j = 2 then q.c else q.d
theorem Quad.at {w : World} {g : Nat} {q : Q4} (h : Quad w g q) (j : Nat) (hj : j < 4) : w.cell? ⟨g, j, none⟩ = some (.int .u32 (q.at j : Int)) := by
  match j, hj with
  | 0, _ => exact h.c0
  | 1, _ => exact h.c1
  | 2, _ => exact h.c2
  | 3, _ => exact h.c3
  | n + 4, h => omega
theorem Q4.at_lt {q : Q4} (h : q.ok) (j : Nat) : q.at j < 4294967296 := by
  obtain ⟨h1, h2, h3, h4⟩ := h
  unfold Q4.at
  split
  · exact h1
  split
  · exact h2
  split
  · exact h3
  · exact h4
theorem out_at (q : Q4) (k : Nat) (hk : k < 16) : (outN q).getD k 0 = q.at (k / 4) / 2 ^ (k % 4 * 8) % 256 := by
  match k, hk with
  | 0, _ | 4, _ | 8, _ | 12, _ => simp [outN, lowN, Q4.at]
  | 1, _ | 2, _ | 3, _ | 5, _ | 6, _ | 7, _ | 9, _ | 10, _ | 11, _ | 13, _ | 14, _ | 15, _ => simp [outN, lowN, Q4.at, Nat.div_div_eq_div_mul]
  | n + 16, h => omega
theorem outN_byte (q : Q4) : ∀ x ∈ outN q, x < 256 := by
  intro x hx
  simp only [outN, List.mem_append] at hx
  rcases hx with h | h | h | h <;> exact lowN_byte _ _ x h

def TdR (q : Q4) (g1 : Nat) (w0 : World) (i : Value) (wr : World) : Prop :=
  ∃ k : Nat, k ≤ 16 ∧ i = .int .i64 (k : Int) ∧ Row wr g1 130 (bytesOf (laying (natB (outN q)) k)) ∧ Touch (fun j => j = g1) w0 wr
set_option maxHeartbeats 1000000 in
theorem told_any (g : Nat) (q : Q4) (w : World) (hq : q.ok) (h : Quad w g q) :
    Calls Tryz.prog 137 #[.pointer (some ⟨g, 0, none⟩)] w fun e w' => e = .returned (.agg (bytesOf (natB (outN q))).toArray) ∧ Touch (fun _ => False) w w' := by
  have hOl : (natB (outN q)).length = 16 := by rw [length_natB, length_outN]
  have HQ : Hid (Quad w g q) := h
  have HOk : Hid q.ok := hq
  clear h hq
  go_enter Tryz.func137, Tryz.ntmps137
  go_wp2_with fail
  generalize hw2 : World.alloc (World.alloc w _) _ = w2
  have HR1 : Hid (Row w2 w.heap.size 130 (bytesOf (List.replicate 16 0))) := by
    subst hw2
    exact (row_new w _ _).keep ((Touch.refl _ _).alloc _)
  have HR2 : Hid (Row w2 (w.heap.size + 1) 130 (bytesOf (laying (natB (outN q)) 0))) := by
    subst hw2
    rw [laying_zero, hOl]
    have := row_new (w.alloc (.cells #[.int .u8 0, .int .u8 0, .int .u8 0, .int .u8 0, .int .u8 0, .int .u8 0, .int .u8 0, .int .u8 0, .int .u8 0, .int .u8 0, .int .u8 0, .int .u8 0, .int .u8 0, .int .u8 0, .int .u8 0, .int .u8 0] 130)) 130 #[.int .u8 0, .int .u8 0, .int .u8 0, .int .u8 0, .int .u8 0, .int .u8 0, .int .u8 0, .int .u8 0, .int .u8 0, .int .u8 0, .int .u8 0, .int .u8 0, .int .u8 0, .int .u8 0, .int .u8 0, .int .u8 0]
    simp only [World.size_alloc] at this
    exact this
  have HT2 : Hid (Touch (fun _ => False) w w2) := by
    subst hw2
    exact ((Touch.refl _ _).alloc _).alloc _
  have HS2 : Hid (w2.heap.size = w.heap.size + 2) := by
    subst hw2
    simp [Hid]
  clear hw2
  go_loopw [5] (fun i wr => TdR q (w.heap.size + 1) w2 i wr) (fun i _ => 16 - (intOf i).toNat)
  case atStart => exact ⟨0, by omega, rfl, HR2.out, Touch.refl _ _⟩
  case round =>
    obtain ⟨k, hk, rfl, hr, t⟩ := hrel
    have hfz := hr.frozen k
    by_cases hlt : k < 16
    · have hlt' : (k : Int) < 16 := by omega
      have hgl := lt_of_cell HQ.out.c0
      have hc := (HT2.out.cellN (HQ.out.at (k / 4) (by omega)))
      have hcx := (t.cell (lt_of_cell hc) (by show ¬ g = _; omega)).trans hc
      have hS := Q4.at_lt HOk.out (k / 4)
      have HX : Hid ((natB (outN q)).getD k 0 = ((q.at (k / 4) / 2 ^ (k % 4 * 8) % 256 : Nat) : Int)) := by show _ = _; rw [natB_getD, out_at q k hlt]
      have hcell : wr.cell? ⟨w.heap.size + 1, k, none⟩ = some (.int .u8 0) := by
        rw [hr.cell k]
        simp only [bytesOf, List.getElem?_map]
        rw [laying_get _ k k (by omega), if_pos (by omega), if_neg (by omega)]
        rfl
      have HN : Hid (TdR q (w.heap.size + 1) w2 (.int .i64 ((k : Int) + 1)) (wr.setCell ⟨w.heap.size + 1, k, none⟩ (.int .u8 ((natB (outN q)).getD k 0)))) :=
        ⟨k + 1, by omega, by rw [Int.natCast_add]; rfl, by rw [← laying_step _ k (by omega), bytesOf_set]; exact hr.set k _, Touch.setCell (p := ⟨w.heap.size + 1, k, none⟩) t (Or.inl rfl) _⟩
      rw [HX.out] at HN
      generalize q.at (k / 4) = S at hS hcx HN
      have s1 : ((k : Int) % 4 * 8).toNat = k % 4 * 8 := by omega
      have s2 : min (k % 4 * 8) 32 = k % 4 * 8 := by omega
      have s3 : (0 : Int) ≤ (k : Int) % 4 * 8 := by omega
      have s4 : (S : Int) / 2 ^ (k % 4 * 8) % 256 = ((S / 2 ^ (k % 4 * 8) % 256 : Nat) : Int) := by simp
      generalize S / 2 ^ (k % 4 * 8) % 256 = B at s4 HN
      have s5 : ((k : Int) / 4).toNat = k / 4 := by omega
      have s6 : (k : Int) / 4 < 4 := by omega
      have s7 : (0 : Int) ≤ (k : Int) / 4 := by omega
      clear HX hr t hc HQ HOk HR1 HR2 HT2 hgl hOl
      go_wp2
      go_roundw
      case rel => exact HN.out
      case measure => simp [intOf]; omega
    · obtain rfl : k = 16 := by omega
      rw [← hOl, laying_all] at hr
      have hr1 : Row wr w.heap.size 130 (bytesOf (List.replicate 16 0)) := (t.block _ (by have := HS2.out; omega) (by show ¬ _ = _; omega)).trans HR1.out
      have HRa : Hid (Row wr (w.heap.size + 1) 130 (bytesOf (natB (outN q)))) := hr
      have HRb : Hid (Row wr w.heap.size 130 (bytesOf (List.replicate 16 0))) := hr1
      have HTe : Hid (Touch (fun _ => False) w wr) := HT2.out.trans' t (fun i hi e => by have : i = w.heap.size + 1 := e; omega)
      clear hr hr1 t HR1 HR2 HT2 hfz HS2 HQ HOk
      have hOl' : (bytesOf (natB (outN q))).length = 16 := by rw [length_bytesOf, hOl]
      have hO1 := oneCell_bytesOf (natB (outN q))
      generalize hOO : bytesOf (natB (outN q)) = O at HRa hOl' hO1 ⊢
      have HO : Hid (bytesOf (natB (outN q)) = O) := hOO
      clear hOl hOO
      go_wp2_with (first | refine wpList_load_row rfl 130 (.tmp 3) rfl (w.heap.size + 1) rfl 130 _ (0, 0) _ HRa.out Tryz.underlying130 rfl (by rw [Tryz.info16, List.size_toArray, hOl']) ?_ | refine wpList_store_row rfl 130 (.tmp 2) (.tmp 23) rfl w.heap.size O.toArray rfl rfl 130 _ HRb.out (by rw [Tryz.info16, List.size_toArray, hOl']) (by simp [length_bytesOf, hOl']) (all_oneCell hO1) ?_)
      refine bodyPost_ret (results_cell_row Tryz.results137 _ _ w.heap.size 130 O.toArray (0, 0) _ rfl (HRb.out.setRow O.toArray) Tryz.underlying130 rfl (by rw [Tryz.info16, List.size_toArray, hOl'])) rfl ?_
      exact ⟨by rw [HO.out], HTe.out.setRow (Or.inr (Nat.le_refl _)) _⟩
end Go.Proofs.YtjjgbcjgmjggnaaGreat

namespace Go.Proofs.YtjjgbcjgmjggnaaGreat
open Go.RowKit
set_option linter.unusedVariables false
set_option maxRecDepth 100000

/-- Of x nothing has turned. -/
structure SnA (x w : World) : Prop where
  t : Touch (fun _ => False) x w
theorem SnA.start (x : World) : SnA x x.drew := ⟨(Touch.refl _ _).drew⟩
theorem SnA.trans {x w w' : World} (h : SnA x w) (t : Touch (fun _ => False) w w') : SnA x w' := ⟨h.t.trans t⟩
theorem snA_cell {x : World} {p : Addr} {v : Value} (h : x.cell? p = some v) : ∀ w, SnA x w → w.cell? p = some v := fun w s => s.t.cellN h

set_option maxHeartbeats 400000 in
theorem longest_any (w : World) (kind : Int) : Calls Tryz.prog 51 #[.int .u16 kind] w fun e w' => e = .returned (.int .i64 (longN kind)) ∧ w = w' := by
  by_cases h1 : kind = 1
  · subst h1
    rw [show longN 1 = 8 from rfl]
    go_enter Tryz.func51, Tryz.ntmps51
    go_wp2
    go_ret
    exact ⟨rfl, rfl⟩
  · by_cases h2 : kind = 2
    · subst h2
      rw [show longN 2 = 16 from rfl]
      go_enter Tryz.func51, Tryz.ntmps51
      go_wp2
      go_ret
      exact ⟨rfl, rfl⟩
    · rw [show longN kind = 0 by simp [longN, h1, h2]]
      go_enter Tryz.func51, Tryz.ntmps51
      go_wp2
      go_ret
      exact ⟨rfl, rfl⟩
set_option maxHeartbeats 400000 in
theorem span_any (w : World) (f u : Int) : Calls Tryz.prog 49 #[.int .i64 f, .int .i64 u] w fun e w' => e = .returned (.bool (spanB f u)) ∧ w = w' := by
  by_cases h1 : 0 ≤ f
  · by_cases h2 : f ≤ u
    · rw [show spanB f u = true by simp [spanB, h1, h2]]
      go_enter Tryz.func49, Tryz.ntmps49
      go_wp2
      go_ret
      exact ⟨rfl, rfl⟩
    · rw [show spanB f u = false by simp [spanB, h2]]
      go_enter Tryz.func49, Tryz.ntmps49
      go_wp2
      go_ret
      exact ⟨rfl, rfl⟩
  · rw [show spanB f u = false by simp [spanB, h1]]
    go_enter Tryz.func49, Tryz.ntmps49
    go_wp2
    go_ret
    exact ⟨rfl, rfl⟩
set_option maxHeartbeats 400000 in
theorem sending_any (w : World) (i kd : Int) (ka : Option Addr) (kn kc : Nat) (sf su tf tu : Int) : Calls Tryz.prog 26 #[.agg #[.int .u8 i, .int .u16 kd, .slice ka kn kc, .int .i64 sf, .int .i64 su, .int .i64 tf, .int .i64 tu]] w fun e w' => e = .returned (.tuple #[.int .i64 sf, .int .i64 su]) ∧ Touch (fun _ => False) w w' := by
  go_enter Tryz.func26, Tryz.ntmps26
  go_wp2_with fail
  have r0 := row_new w 56 #[.int .u8 i, .int .u16 kd, .slice ka kn kc, .int .i64 sf, .int .i64 su, .int .i64 tf, .int .i64 tu]
  have HT : Hid (Touch (fun _ => False) w (w.alloc (.cells #[.int .u8 i, .int .u16 kd, .slice ka kn kc, .int .i64 sf, .int .i64 su, .int .i64 tf, .int .i64 tu] 56))) := (Touch.refl _ _).alloc _
  generalize w.alloc (.cells #[.int .u8 i, .int .u16 kd, .slice ka kn kc, .int .i64 sf, .int .i64 su, .int .i64 tf, .int .i64 tu] 56) = wa at r0 HT ⊢
  have c0 := snA_cell (show wa.cell? ⟨w.heap.size, 3, none⟩ = some (.int .i64 sf) from r0.cell 3)
  have c1 := snA_cell (show wa.cell? ⟨w.heap.size, 4, none⟩ = some (.int .i64 su) from r0.cell 4)
  have st := SnA.start wa
  clear r0
  go_region_held3 (fun w' => SnA wa w') (with_reducible assumption) (fail)
  clear c0 c1
  go_wp2_with fail
  go_ret2
  exact ⟨rfl, HT.out.trans ((Touch.refl _ _).drew)⟩
set_option maxHeartbeats 400000 in
theorem taking_any (w : World) (i kd : Int) (ka : Option Addr) (kn kc : Nat) (sf su tf tu : Int) : Calls Tryz.prog 50 #[.agg #[.int .u8 i, .int .u16 kd, .slice ka kn kc, .int .i64 sf, .int .i64 su, .int .i64 tf, .int .i64 tu]] w fun e w' => e = .returned (.tuple #[.int .i64 tf, .int .i64 tu]) ∧ Touch (fun _ => False) w w' := by
  go_enter Tryz.func50, Tryz.ntmps50
  go_wp2_with fail
  have r0 := row_new w 56 #[.int .u8 i, .int .u16 kd, .slice ka kn kc, .int .i64 sf, .int .i64 su, .int .i64 tf, .int .i64 tu]
  have HT : Hid (Touch (fun _ => False) w (w.alloc (.cells #[.int .u8 i, .int .u16 kd, .slice ka kn kc, .int .i64 sf, .int .i64 su, .int .i64 tf, .int .i64 tu] 56))) := (Touch.refl _ _).alloc _
  generalize w.alloc (.cells #[.int .u8 i, .int .u16 kd, .slice ka kn kc, .int .i64 sf, .int .i64 su, .int .i64 tf, .int .i64 tu] 56) = wa at r0 HT ⊢
  have c0 := snA_cell (show wa.cell? ⟨w.heap.size, 5, none⟩ = some (.int .i64 tf) from r0.cell 5)
  have c1 := snA_cell (show wa.cell? ⟨w.heap.size, 6, none⟩ = some (.int .i64 tu) from r0.cell 6)
  have st := SnA.start wa
  clear r0
  go_region_held3 (fun w' => SnA wa w') (with_reducible assumption) (fail)
  clear c0 c1
  go_wp2_with fail
  go_ret2
  exact ⟨rfl, HT.out.trans ((Touch.refl _ _).drew)⟩
end Go.Proofs.YtjjgbcjgmjggnaaGreat

namespace Go.Proofs.YtjjgbcjgmjggnaaGreat
open Go.RowKit
set_option linter.unusedVariables false
set_option maxRecDepth 100000

/-- A key: its numbers, and where its secret lies. -/
structure KE where
  p : AKP
  a : Option Addr
  c : Nat
abbrev KE.sv (x : KE) : Value := .slice x.a x.p.sec.length x.c
def KE.cells (x : KE) : List Value := [.int .u8 x.p.id, .int .u16 x.p.kind, x.sv, .int .i64 x.p.sf, .int .i64 x.p.su, .int .i64 x.p.tf, .int .i64 x.p.tu]
abbrev KE.agg (x : KE) : Value := .agg #[.int .u8 x.p.id, .int .u16 x.p.kind, .slice x.a x.p.sec.length x.c, .int .i64 x.p.sf, .int .i64 x.p.su, .int .i64 x.p.tf, .int .i64 x.p.tu]
def chainC (l : List KE) : List Value := l.flatMap KE.cells
abbrev pureL (l : List KE) : List AKP := l.map KE.p
theorem length_chainC (l : List KE) : (chainC l).length = l.length * 7 := by
  induction l with
  | nil => rfl
  | cons x r ih => unfold chainC at *; rw [List.flatMap_cons, List.length_append, ih, List.length_cons]; simp [KE.cells]; omega
theorem chainC_at (l : List KE) (j i : Nat) (x : KE) (hj : l[j]? = some x) (hi : i < 7) : (chainC l)[j * 7 + i]? = x.cells[i]? := by
  induction l generalizing j with
  | nil => simp at hj
  | cons y r ih =>
    have e : chainC (y :: r) = y.cells ++ chainC r := by simp [chainC]
    have hl : y.cells.length = 7 := rfl
    rw [e]
    cases j with
    | zero =>
      obtain rfl : y = x := by simpa using hj
      rw [List.getElem?_append_left (by omega), Nat.zero_mul, Nat.zero_add]
    | succ j =>
      rw [List.getElem?_append_right (by omega), hl, show (j + 1) * 7 + i - 7 = j * 7 + i by omega]
      exact ih j (by simpa using hj)
structure KE.Ok (w : World) (x : KE) : Prop where
  all : x.p.Ok
  arg : ArgAt w x.sv x.p.sec
theorem KE.Ok.keep {w w' : World} {x : KE} (h : x.Ok w) (t : Touch (fun _ => False) w w') : x.Ok w' := ⟨h.all, h.arg.keep t (fun _ _ h => h)⟩
/-- A row of keys that came in. -/
structure ChainAt (w : World) (v : Value) (l : List KE) : Prop where
  vals : ValsAt w 7 v l.length (chainC l)
  ok : ∀ x ∈ l, x.Ok w
theorem ChainAt.keep {w w' : World} {v : Value} {l : List KE} (h : ChainAt w v l) (t : Touch (fun _ => False) w w') : ChainAt w' v l := ⟨h.vals.keep t, fun x hx => (h.ok x hx).keep t⟩
/-- One of them. -/
theorem ChainAt.one {w : World} {v : Value} {l : List KE} (h : ChainAt w v l) {j : Nat} {x : KE} (hj : l[j]? = some x) : x.Ok w ∧ ∃ g off c, v = .slice (some ⟨g, off, none⟩) l.length c ∧ ∀ i u, x.cells[i]? = some u → w.cell? ⟨g, off + (j * 7 + i), none⟩ = some u := by
  have hlt := (List.getElem?_eq_some_iff.mp hj).1
  obtain ⟨g, off, c, e, _, _, hc⟩ := h.vals.cells (by omega) (by omega)
  refine ⟨h.ok x (List.mem_of_getElem? hj), g, off, c, e, fun i u hu => hc _ _ ?_⟩
  have hi : i < 7 := (List.getElem?_eq_some_iff.mp hu).1
  rw [chainC_at l j i x hj hi]
  exact hu
end Go.Proofs.YtjjgbcjgmjggnaaGreat
