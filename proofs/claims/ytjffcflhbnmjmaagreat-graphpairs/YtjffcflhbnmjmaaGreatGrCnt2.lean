/- Package graph: who passes all questions. -/
import Derived.Test.YtjffcflhbnmjmaaGreatGrCnt
namespace Go.Proofs.YtjffcflhbnmjmaaGreat
open Go.RowKit
set_option linter.unusedVariables false
set_option maxRecDepth 100000

/-- The question fv, turned round, of the state in block bs. -/
def FB (w : World) (bs : Nat) (fv : Value) (b : Bool) : Prop := ∀ w', Since w w' → Calls Tryz.prog 54 #[fv, .pointer (some ⟨bs, 0, none⟩)] w' fun e w'' => e = .returned (.bool (!b)) ∧ Touch (fun _ => False) w' w''
set_option maxHeartbeats 1000000 in
theorem fails_1 (h : HV) (a : Option Addr) (n c : Nat) (w : World) (bs bb : Nat) (b : Bool) (R : Row w bs 52 [.int .u16 h.age, .int .u8 h.opts, .int .u8 h.typ, .int .u32 h.id, .int .u32 h.adv, .int .i32 h.seq, .int .u16 h.sum, .int .u16 h.len, .slice a n c]) (HF : ∀ w', Since w w' → Calls Tryz.prog 46 #[h.sv (.slice a n c)] w' fun e w'' => e = .returned (.bool b) ∧ Touch (fun _ => False) w' w'') : FB w bs (.func (.func 46) #[] #[]) b := by
  intro w' s
  have HG := HF w' s
  have R' := R.keep s.t
  have c0 : w'.cell? ⟨bs, 0, none⟩ = some (.int .u16 h.age) := R'.cell 0
  have c1 : w'.cell? ⟨bs, 1, none⟩ = some (.int .u8 h.opts) := R'.cell 1
  have c2 : w'.cell? ⟨bs, 2, none⟩ = some (.int .u8 h.typ) := R'.cell 2
  have c3 : w'.cell? ⟨bs, 3, none⟩ = some (.int .u32 h.id) := R'.cell 3
  have c4 : w'.cell? ⟨bs, 4, none⟩ = some (.int .u32 h.adv) := R'.cell 4
  have c5 : w'.cell? ⟨bs, 5, none⟩ = some (.int .i32 h.seq) := R'.cell 5
  have c6 : w'.cell? ⟨bs, 6, none⟩ = some (.int .u16 h.sum) := R'.cell 6
  have c7 : w'.cell? ⟨bs, 7, none⟩ = some (.int .u16 h.len) := R'.cell 7
  have c8 : w'.cell? ⟨bs, 8, none⟩ = some (.slice a n c) := R'.cell 8
  unfold HV.sv at HG
  clear R R' HF s
  go_enter Tryz.func54, Tryz.ntmps54
  go_wp2_with fail
  refine HG.mono ?_
  rintro e w1 ⟨rfl, t1⟩
  have T1 : Hid _ := t1
  clear t1 HG
  go_wp2
  go_ret
  exact ⟨rfl, T1.out⟩
set_option maxHeartbeats 1000000 in
theorem fails_2 (h : HV) (a : Option Addr) (n c : Nat) (w : World) (bs bb : Nat) (b : Bool) (R : Row w bs 52 [.int .u16 h.age, .int .u8 h.opts, .int .u8 h.typ, .int .u32 h.id, .int .u32 h.adv, .int .i32 h.seq, .int .u16 h.sum, .int .u16 h.len, .slice a n c]) (HF : ∀ w', Since w w' → Calls Tryz.prog 47 #[h.sv (.slice a n c)] w' fun e w'' => e = .returned (.bool b) ∧ Touch (fun _ => False) w' w'') : FB w bs (.func (.func 47) #[] #[]) b := by
  intro w' s
  have HG := HF w' s
  have R' := R.keep s.t
  have c0 : w'.cell? ⟨bs, 0, none⟩ = some (.int .u16 h.age) := R'.cell 0
  have c1 : w'.cell? ⟨bs, 1, none⟩ = some (.int .u8 h.opts) := R'.cell 1
  have c2 : w'.cell? ⟨bs, 2, none⟩ = some (.int .u8 h.typ) := R'.cell 2
  have c3 : w'.cell? ⟨bs, 3, none⟩ = some (.int .u32 h.id) := R'.cell 3
  have c4 : w'.cell? ⟨bs, 4, none⟩ = some (.int .u32 h.adv) := R'.cell 4
  have c5 : w'.cell? ⟨bs, 5, none⟩ = some (.int .i32 h.seq) := R'.cell 5
  have c6 : w'.cell? ⟨bs, 6, none⟩ = some (.int .u16 h.sum) := R'.cell 6
  have c7 : w'.cell? ⟨bs, 7, none⟩ = some (.int .u16 h.len) := R'.cell 7
  have c8 : w'.cell? ⟨bs, 8, none⟩ = some (.slice a n c) := R'.cell 8
  unfold HV.sv at HG
  clear R R' HF s
  go_enter Tryz.func54, Tryz.ntmps54
  go_wp2_with fail
  refine HG.mono ?_
  rintro e w1 ⟨rfl, t1⟩
  have T1 : Hid _ := t1
  clear t1 HG
  go_wp2
  go_ret
  exact ⟨rfl, T1.out⟩
set_option maxHeartbeats 1000000 in
theorem fails_3 (h : HV) (a : Option Addr) (n c : Nat) (w : World) (bs bb : Nat) (b : Bool) (R : Row w bs 52 [.int .u16 h.age, .int .u8 h.opts, .int .u8 h.typ, .int .u32 h.id, .int .u32 h.adv, .int .i32 h.seq, .int .u16 h.sum, .int .u16 h.len, .slice a n c]) (HF : ∀ w', Since w w' → Calls Tryz.prog 49 #[h.sv (.slice a n c)] w' fun e w'' => e = .returned (.bool b) ∧ Touch (fun _ => False) w' w'') : FB w bs (.func (.func 49) #[] #[]) b := by
  intro w' s
  have HG := HF w' s
  have R' := R.keep s.t
  have c0 : w'.cell? ⟨bs, 0, none⟩ = some (.int .u16 h.age) := R'.cell 0
  have c1 : w'.cell? ⟨bs, 1, none⟩ = some (.int .u8 h.opts) := R'.cell 1
  have c2 : w'.cell? ⟨bs, 2, none⟩ = some (.int .u8 h.typ) := R'.cell 2
  have c3 : w'.cell? ⟨bs, 3, none⟩ = some (.int .u32 h.id) := R'.cell 3
  have c4 : w'.cell? ⟨bs, 4, none⟩ = some (.int .u32 h.adv) := R'.cell 4
  have c5 : w'.cell? ⟨bs, 5, none⟩ = some (.int .i32 h.seq) := R'.cell 5
  have c6 : w'.cell? ⟨bs, 6, none⟩ = some (.int .u16 h.sum) := R'.cell 6
  have c7 : w'.cell? ⟨bs, 7, none⟩ = some (.int .u16 h.len) := R'.cell 7
  have c8 : w'.cell? ⟨bs, 8, none⟩ = some (.slice a n c) := R'.cell 8
  unfold HV.sv at HG
  clear R R' HF s
  go_enter Tryz.func54, Tryz.ntmps54
  go_wp2_with fail
  refine HG.mono ?_
  rintro e w1 ⟨rfl, t1⟩
  have T1 : Hid _ := t1
  clear t1 HG
  go_wp2
  go_ret
  exact ⟨rfl, T1.out⟩
set_option maxHeartbeats 1000000 in
theorem fails_4 (h : HV) (a : Option Addr) (n c : Nat) (w : World) (bs bb : Nat) (b : Bool) (R : Row w bs 52 [.int .u16 h.age, .int .u8 h.opts, .int .u8 h.typ, .int .u32 h.id, .int .u32 h.adv, .int .i32 h.seq, .int .u16 h.sum, .int .u16 h.len, .slice a n c]) (HF : ∀ w', Since w w' → Calls Tryz.prog 51 #[h.sv (.slice a n c), .pointer (some ⟨bb, 0, none⟩)] w' fun e w'' => e = .returned (.bool b) ∧ Touch (fun _ => False) w' w'') : FB w bs (.func (.func 51) #[] #[.pointer (some ⟨bb, 0, none⟩)]) b := by
  intro w' s
  have HG := HF w' s
  have R' := R.keep s.t
  have c0 : w'.cell? ⟨bs, 0, none⟩ = some (.int .u16 h.age) := R'.cell 0
  have c1 : w'.cell? ⟨bs, 1, none⟩ = some (.int .u8 h.opts) := R'.cell 1
  have c2 : w'.cell? ⟨bs, 2, none⟩ = some (.int .u8 h.typ) := R'.cell 2
  have c3 : w'.cell? ⟨bs, 3, none⟩ = some (.int .u32 h.id) := R'.cell 3
  have c4 : w'.cell? ⟨bs, 4, none⟩ = some (.int .u32 h.adv) := R'.cell 4
  have c5 : w'.cell? ⟨bs, 5, none⟩ = some (.int .i32 h.seq) := R'.cell 5
  have c6 : w'.cell? ⟨bs, 6, none⟩ = some (.int .u16 h.sum) := R'.cell 6
  have c7 : w'.cell? ⟨bs, 7, none⟩ = some (.int .u16 h.len) := R'.cell 7
  have c8 : w'.cell? ⟨bs, 8, none⟩ = some (.slice a n c) := R'.cell 8
  unfold HV.sv at HG
  clear R R' HF s
  go_enter Tryz.func54, Tryz.ntmps54
  go_wp2_with fail
  refine HG.mono ?_
  rintro e w1 ⟨rfl, t1⟩
  have T1 : Hid _ := t1
  clear t1 HG
  go_wp2
  go_ret
  exact ⟨rfl, T1.out⟩
set_option maxHeartbeats 1000000 in
theorem fails_5 (h : HV) (a : Option Addr) (n c : Nat) (w : World) (bs bb : Nat) (b : Bool) (R : Row w bs 52 [.int .u16 h.age, .int .u8 h.opts, .int .u8 h.typ, .int .u32 h.id, .int .u32 h.adv, .int .i32 h.seq, .int .u16 h.sum, .int .u16 h.len, .slice a n c]) (HF : ∀ w', Since w w' → Calls Tryz.prog 52 #[h.sv (.slice a n c)] w' fun e w'' => e = .returned (.bool b) ∧ Touch (fun _ => False) w' w'') : FB w bs (.func (.func 52) #[] #[]) b := by
  intro w' s
  have HG := HF w' s
  have R' := R.keep s.t
  have c0 : w'.cell? ⟨bs, 0, none⟩ = some (.int .u16 h.age) := R'.cell 0
  have c1 : w'.cell? ⟨bs, 1, none⟩ = some (.int .u8 h.opts) := R'.cell 1
  have c2 : w'.cell? ⟨bs, 2, none⟩ = some (.int .u8 h.typ) := R'.cell 2
  have c3 : w'.cell? ⟨bs, 3, none⟩ = some (.int .u32 h.id) := R'.cell 3
  have c4 : w'.cell? ⟨bs, 4, none⟩ = some (.int .u32 h.adv) := R'.cell 4
  have c5 : w'.cell? ⟨bs, 5, none⟩ = some (.int .i32 h.seq) := R'.cell 5
  have c6 : w'.cell? ⟨bs, 6, none⟩ = some (.int .u16 h.sum) := R'.cell 6
  have c7 : w'.cell? ⟨bs, 7, none⟩ = some (.int .u16 h.len) := R'.cell 7
  have c8 : w'.cell? ⟨bs, 8, none⟩ = some (.slice a n c) := R'.cell 8
  unfold HV.sv at HG
  clear R R' HF s
  go_enter Tryz.func54, Tryz.ntmps54
  go_wp2_with fail
  refine HG.mono ?_
  rintro e w1 ⟨rfl, t1⟩
  have T1 : Hid _ := t1
  clear t1 HG
  go_wp2
  go_ret
  exact ⟨rfl, T1.out⟩
/-- The number of the first that says no. -/
def fIdx : List Bool → Int
  | [] => -1
  | b :: r => if b then (if fIdx r < 0 then -1 else fIdx r + 1) else 0
theorem fIdx_bd : ∀ l : List Bool, -1 ≤ fIdx l
  | [] => by simp [fIdx]
  | b :: r => by
    have := fIdx_bd r
    unfold fIdx
    split <;> (try split) <;> omega
theorem fIdx_hit {l : List Bool} {k : Nat} (hk : l[k]? = some false) (ha : ∀ j, j < k → l[j]? = some true) : fIdx l = k := by
  induction l generalizing k with
  | nil => simp at hk
  | cons b r ih =>
    cases k with
    | zero =>
      obtain rfl : b = false := by simpa using hk
      rfl
    | succ k =>
      obtain rfl : b = true := by simpa using ha 0 (by omega)
      have := ih (k := k) (by simpa using hk) (fun j hj => by simpa using ha (j + 1) (by omega))
      unfold fIdx
      rw [this, if_pos rfl, if_neg (by omega)]
      omega
theorem fIdx_miss {l : List Bool} (ha : ∀ j, j < l.length → l[j]? = some true) : fIdx l = -1 := by
  induction l with
  | nil => rfl
  | cons b r ih =>
    obtain rfl : b = true := by simpa using ha 0 (by simp)
    have := ih (fun j hj => by simpa using ha (j + 1) (by simpa using hj))
    unfold fIdx
    rw [this]
    rfl
theorem fIdx_all : ∀ l : List Bool, decide (fIdx l ≥ 0) = !(l.all id)
  | [] => by simp [fIdx]
  | b :: r => by
    have := fIdx_all r
    unfold fIdx
    cases b with
    | false => simp
    | true =>
      simp only [if_true, List.all_cons, id, Bool.true_and]
      rw [← this]
      by_cases h : fIdx r < 0
      · rw [if_pos h]; simp; omega
      · rw [if_neg h]; simp; omega
set_option maxHeartbeats 1000000 in
theorem fidx_any (g c bs : Nat) (fvs : List Value) (bl : List Bool) (w : World) (hl : fvs.length = bl.length) (hs : bl.length < 1000) (R : Row w g 106 fvs) (HF : ∀ (j : Nat) (fv : Value) (b : Bool), fvs[j]? = some fv → bl[j]? = some b → FB w bs fv b) :
    Calls Tryz.prog 80 #[.slice (some ⟨g, 0, none⟩) bl.length c, .func (.func 54) #[] #[.pointer (some ⟨bs, 0, none⟩)]] w fun e w' => e = .returned (.int .i64 (fIdx bl)) ∧ Touch (fun _ => False) w w' := by
  have HR : Hid (Row w g 106 fvs) := R
  have HH : Hid (∀ (j : Nat) (fv : Value) (b : Bool), fvs[j]? = some fv → bl[j]? = some b → FB w bs fv b) := HF
  have HI : Hid (∀ k : Nat, bl[k]? = some false → (∀ j, j < k → bl[j]? = some true) → fIdx bl = k) := fun k h1 h2 => fIdx_hit h1 h2
  have HM : Hid ((∀ j, j < bl.length → bl[j]? = some true) → fIdx bl = -1) := fIdx_miss
  have HLn : Hid (fvs.length = bl.length) := hl
  clear R HF hl
  generalize fIdx bl = z at *
  generalize hn : bl.length = n at *
  have Hn : Hid (bl.length = n) := hn
  clear hn
  go_enter Tryz.func80, Tryz.ntmps80
  go_wp2
  go_loopg [5, 8] n (fun gg _ s8 wr => ∃ kk : Nat, kk ≤ n ∧ n - kk ≤ gg ∧ s8 = .int .i64 kk ∧ Hid (∀ j, j < kk → bl[j]? = some true) ∧ Touch (fun _ => False) w wr)
  case atStart => exact ⟨0, Nat.zero_le _, by omega, rfl, fun j hj => absurd hj (by omega), Touch.refl _ _⟩
  case round =>
    obtain ⟨kk, hkk, hg, rfl, HA, t⟩ := hrel
    have HT : Hid (Touch (fun _ => False) w wr) := t
    rcases Nat.lt_or_ge kk n with h | h
    · have hlt : (kk : Int) < (n : Int) := by omega
      obtain ⟨b, hb⟩ : ∃ b, bl[kk]? = some b := ⟨bl[kk]'(by rw [Hn.out]; exact h), by simp⟩
      obtain ⟨fv, hfv⟩ : ∃ fv, fvs[kk]? = some fv := ⟨fvs[kk]'(by rw [HLn.out]; exact h), by simp⟩
      have hc : wr.cell? ⟨g, kk, none⟩ = some fv := ((HR.out.keep t).cell kk).trans hfv
      have HC := (HH.out kk fv b hfv hb) wr ⟨t⟩
      cases b with
      | true =>
        have HN : Hid (∀ j, j < kk + 1 → bl[j]? = some true) := fun j hj => by
          rcases Nat.lt_or_ge j kk with h' | h'
          · exact HA.out j h'
          · obtain rfl : j = kk := by omega
            exact hb
        clear t hfv hb HA HR HH HI HM HLn Hn
        go_wp2_with fail
        refine HC.mono ?_
        rintro e w1 ⟨rfl, t1⟩
        have T1 : Hid _ := t1
        clear t1 HC hc
        go_wp2
        go_roundg (n - (kk + 1))
        case measure => omega
        case rel => exact ⟨kk + 1, by omega, by omega, by go_num, HN, HT.out.trans T1.out⟩
      | false =>
        have HZ : Hid (z = kk) := HI.out kk hb HA.out
        clear t hfv hb HA HR HH HI HM HLn Hn
        go_wp2_with fail
        refine HC.mono ?_
        rintro e w1 ⟨rfl, t1⟩
        have T1 : Hid _ := t1
        clear t1 HC hc
        go_wp2
        go_ret
        exact ⟨ret_int HZ.out.symm, HT.out.trans T1.out⟩
    · have hlt : ¬ (kk : Int) < (n : Int) := by omega
      have HZ : Hid (z = -1) := HM.out (fun j hj => HA.out j (by omega))
      clear t HA HR HH HI HM HLn Hn
      go_wp2
      go_ret
      exact ⟨ret_int HZ.out.symm, HT.out⟩
set_option maxHeartbeats 1000000 in
theorem fcont_any (g c bs : Nat) (fvs : List Value) (bl : List Bool) (w : World) (hl : fvs.length = bl.length) (hs : bl.length < 1000) (R : Row w g 106 fvs) (HF : ∀ (j : Nat) (fv : Value) (b : Bool), fvs[j]? = some fv → bl[j]? = some b → FB w bs fv b) :
    Calls Tryz.prog 55 #[.slice (some ⟨g, 0, none⟩) bl.length c, .func (.func 54) #[] #[.pointer (some ⟨bs, 0, none⟩)]] w fun e w' => e = .returned (.bool (!(bl.all id))) ∧ Touch (fun _ => False) w w' := by
  have HI := fidx_any g c bs fvs bl w hl hs R HF
  have HB : Hid (decide (fIdx bl ≥ 0) = !(bl.all id)) := fIdx_all bl
  have hbd := fIdx_bd bl
  clear hl R HF hs
  generalize bl.all id = z at *
  generalize fIdx bl = i at *
  generalize bl.length = n at *
  go_enter Tryz.func55, Tryz.ntmps55
  go_wp2_with fail
  refine HI.mono ?_
  rintro e w1 ⟨rfl, t1⟩
  have T1 : Hid _ := t1
  clear t1 HI
  go_wp2
  go_ret
  exact ⟨ret_bool HB.out, T1.out⟩
end Go.Proofs.YtjffcflhbnmjmaaGreat
