/- Pure: keys of a chain, which may be, which is chosen; what is signed and opened, as bytes. -/
import Derived.Test.YtjjgbcjgmjggnaaGreatDigMath
import Derived.Test.YtjjgbcjgmjggnaaGreatDigBase
import Derived.Recover
import Derived.Defers
import Derived.Lib.SliceRun
namespace Go.Proofs.YtjjgbcjgmjggnaaGreat
set_option linter.unusedVariables false

/-- A key's numbers and its secret. -/
structure AKP where
  id : Int
  kind : Int
  sec : List Int
  sf : Int
  su : Int
  tf : Int
  tu : Int
structure AKP.Ok (k : AKP) : Prop where
  id : 0 ≤ k.id ∧ k.id < 256
  kind : 0 ≤ k.kind ∧ k.kind < 65536
  sec : ∀ z ∈ k.sec, 0 ≤ z ∧ z < 256
  sf : -9223372036854775808 ≤ k.sf ∧ k.sf ≤ 9223372036854775807
  su : -9223372036854775808 ≤ k.su ∧ k.su ≤ 9223372036854775807
  tf : -9223372036854775808 ≤ k.tf ∧ k.tf ≤ 9223372036854775807
  tu : -9223372036854775808 ≤ k.tu ∧ k.tu ≤ 9223372036854775807
def longN (kind : Int) : Int := if kind = 1 then 8 else if kind = 2 then 16 else 0
def spanB (f u : Int) : Bool := decide (0 ≤ f ∧ f ≤ u)
def AKP.may (k : AKP) : Bool := (spanB k.sf k.su && spanB k.tf k.tu) && decide (1 ≤ (k.sec.length : Int) ∧ (k.sec.length : Int) ≤ longN k.kind)
theorem AKP.may_iff {k : AKP} : k.may = true ↔ ((0 ≤ k.sf ∧ k.sf ≤ k.su) ∧ (0 ≤ k.tf ∧ k.tf ≤ k.tu)) ∧ 1 ≤ (k.sec.length : Int) ∧ (k.sec.length : Int) ≤ longN k.kind := by
  simp [AKP.may, spanB]
theorem longN_ways (kind : Int) : (kind = 1 ∧ longN kind = 8) ∨ (kind = 2 ∧ longN kind = 16) ∨ (kind ≠ 1 ∧ kind ≠ 2 ∧ longN kind = 0) := by
  unfold longN
  by_cases h1 : kind = 1
  · exact Or.inl ⟨h1, by rw [if_pos h1]⟩
  · by_cases h2 : kind = 2
    · exact Or.inr (Or.inl ⟨h2, by rw [if_neg h1, if_pos h2]⟩)
    · exact Or.inr (Or.inr ⟨h1, h2, by rw [if_neg h1, if_neg h2]⟩)
theorem AKP.may_kind {k : AKP} (h : k.may = true) : k.kind = 1 ∨ k.kind = 2 := by
  have := AKP.may_iff.1 h
  rcases longN_ways k.kind with h1 | h1 | ⟨_, _, h1⟩
  · exact Or.inl h1.1
  · exact Or.inr h1.1
  · rw [h1] at this; omega

/-- The kind of a chain: that of its first key. -/
def kindOfL (ks : List AKP) : Int := match ks with
  | [] => 0
  | k :: _ => k.kind
def twiceB (ks : List AKP) (i : Nat) (id : Int) : Bool := (ks.take i).any (fun x => x.id == id)
/-- What is wrong with the key of that number. -/
def badAt (ks : List AKP) (i : Nat) : Int := match ks[i]? with
  | none => 0
  | some k => if (!k.may || k.kind != kindOfL ks) = true then 26 else if twiceB ks i k.id = true then 63 else 0
def firstBad (ks : List AKP) : Nat → Nat → Option Nat
  | _, 0 => none
  | i, n + 1 => if badAt ks i ≠ 0 then some i else firstBad ks (i + 1) n
def achE (ks : List AKP) : Int := if 16 < ks.length then 64 else match firstBad ks 0 ks.length with
  | none => 0
  | some i => badAt ks i
def achI (ks : List AKP) : Int := if 16 < ks.length then 16 else match firstBad ks 0 ks.length with
  | none => 0
  | some i => i
theorem firstBad_none {ks : List AKP} : ∀ (n i : Nat), (∀ j, i ≤ j → j < i + n → badAt ks j = 0) → firstBad ks i n = none
  | 0, _, _ => rfl
  | n + 1, i, h => by
    have h0 := h i (Nat.le_refl _) (by omega)
    unfold firstBad
    rw [if_neg (by omega)]
    exact firstBad_none n (i + 1) (fun j h1 h2 => h j (by omega) (by omega))
theorem firstBad_some {ks : List AKP} {m : Nat} (hm : badAt ks m ≠ 0) : ∀ (n i : Nat), i ≤ m → m < i + n → (∀ j, i ≤ j → j < m → badAt ks j = 0) → firstBad ks i n = some m
  | 0, _, _, h, _ => by omega
  | n + 1, i, h1, h2, h => by
    unfold firstBad
    by_cases e : i = m
    · subst e; rw [if_pos hm]
    · rw [if_neg (by have := h i (Nat.le_refl _) (by omega); omega)]
      exact firstBad_some hm n (i + 1) (by omega) (by omega) (fun j h3 h4 => h j (by omega) h4)
theorem chk_many {ks : List AKP} (h : 16 < ks.length) : achE ks = 64 ∧ achI ks = 16 := by simp [achE, achI, h]
theorem chk_good {ks : List AKP} (h : ks.length ≤ 16) (hb : ∀ j, j < ks.length → badAt ks j = 0) : achE ks = 0 ∧ achI ks = 0 := by
  have e := firstBad_none (ks := ks) ks.length 0 (fun j _ h2 => hb j (by omega))
  simp [achE, achI, e, show ¬ 16 < ks.length by omega]
theorem chk_bad {ks : List AKP} (h : ks.length ≤ 16) {m : Nat} (hm : m < ks.length) (hb : badAt ks m ≠ 0) (h0 : ∀ j, j < m → badAt ks j = 0) : achE ks = badAt ks m ∧ achI ks = (m : Int) := by
  have e := firstBad_some hb ks.length 0 (Nat.zero_le _) (by omega) (fun j _ h2 => h0 j h2)
  simp [achE, achI, e, show ¬ 16 < ks.length by omega]
theorem firstBad_back {ks : List AKP} : ∀ (n i : Nat), firstBad ks i n = none → ∀ j, i ≤ j → j < i + n → badAt ks j = 0
  | 0, _, _, j, h1, h2 => by omega
  | n + 1, i, h, j, h1, h2 => by
    unfold firstBad at h
    by_cases hb : badAt ks i = 0
    · rw [if_neg (by omega)] at h
      by_cases e : j = i
      · rw [e]; exact hb
      · exact firstBad_back n (i + 1) h j (by omega) (by omega)
    · rw [if_pos hb] at h; cases h
theorem firstBad_is {ks : List AKP} : ∀ (n i m : Nat), firstBad ks i n = some m → badAt ks m ≠ 0
  | 0, _, _, h => by cases h
  | n + 1, i, m, h => by
    unfold firstBad at h
    by_cases hb : badAt ks i = 0
    · rw [if_neg (by omega)] at h; exact firstBad_is n (i + 1) m h
    · rw [if_pos hb] at h; cases h; exact hb
/-- A chain that may be. -/
theorem chk_ok {ks : List AKP} (h : achE ks = 0) : ks.length ≤ 16 ∧ ∀ j, j < ks.length → badAt ks j = 0 := by
  unfold achE at h
  by_cases h1 : 16 < ks.length
  · rw [if_pos h1] at h; omega
  · rw [if_neg h1] at h
    refine ⟨by omega, ?_⟩
    cases e : firstBad ks 0 ks.length with
    | none => exact fun j hj => firstBad_back _ _ e j (Nat.zero_le _) (by omega)
    | some m => rw [e] at h; exact absurd h (firstBad_is _ _ _ e)
theorem badAt_ok {ks : List AKP} {j : Nat} {k : AKP} (hk : ks[j]? = some k) (h : badAt ks j = 0) : k.may = true ∧ k.kind = kindOfL ks ∧ twiceB ks j k.id = false := by
  unfold badAt at h
  rw [hk] at h
  dsimp only at h
  by_cases h1 : (!k.may || k.kind != kindOfL ks) = true
  · rw [if_pos h1] at h; omega
  · rw [if_neg h1] at h
    by_cases h2 : twiceB ks j k.id = true
    · rw [if_pos h2] at h; omega
    · simp at h1 h2
      exact ⟨h1.1, h1.2, h2⟩

def AKP.sends (k : AKP) (now : Int) : Bool := decide (k.sf ≤ now ∧ now ≤ k.su)
def AKP.takes (k : AKP) (now : Int) : Bool := decide (k.tf ≤ now ∧ now ≤ k.tu)
def aheadB (a b : AKP) : Bool := decide (b.sf < a.sf ∨ (a.sf = b.sf ∧ b.id < a.id))
/-- The better of the key of that number and the best so far. -/
def better (ks : List AKP) (best : Int) (i : Nat) : Int := match ks[i]? with
  | none => best
  | some k => match ks[best.toNat]? with
    | none => i
    | some b => if best < 0 ∨ aheadB k b = true then i else best
def bestI (ks : List AKP) (now : Int) : Nat → Int
  | 0 => -1
  | i + 1 => match ks[i]? with
    | none => bestI ks now i
    | some k => if k.sends now = true then better ks (bestI ks now i) i else bestI ks now i
def chooseI (ks : List AKP) (now : Int) : Int := bestI ks now ks.length
theorem better_ways (ks : List AKP) (best : Int) (i : Nat) : better ks best i = best ∨ better ks best i = i := by
  unfold better
  split
  · exact Or.inl rfl
  · split
    · exact Or.inr rfl
    · split
      · exact Or.inr rfl
      · exact Or.inl rfl
theorem bestI_bound (ks : List AKP) (now : Int) : ∀ i, -1 ≤ bestI ks now i ∧ bestI ks now i < i
  | 0 => by simp [bestI]
  | i + 1 => by
    have := bestI_bound ks now i
    unfold bestI
    split
    · push_cast; omega
    · split
      · rcases better_ways ks (bestI ks now i) i with e | e <;> rw [e] <;> push_cast <;> omega
      · push_cast; omega

/-- The password of a key. -/
def passB (sec : List Int) : List Int := sec.take 8 ++ List.replicate (8 - sec.length) 0
theorem length_passB (sec : List Int) : (passB sec).length = 8 := by simp [passB]; omega
def kindB (b : List Int) : Int := numOf ((b.drop 14).take 2)
def dataB (b : List Int) : List Int := (b.drop 16).take 8
def sayB (b : List Int) (right kind : Int) (d : List Int) : List Int := b.take 12 ++ numBytes 2 right ++ numBytes 2 kind ++ d ++ b.drop 24
def plainSum (b : List Int) : Int := 65535 - fold (W true (sayB b 0 1 (List.replicate 8 0)))
def signPl (b : List Int) (k : AKP) : List Int := sayB b (plainSum b) 1 (passB k.sec)
def markB (id seq : Int) : List Int := [0, 0, id, 16] ++ numBytes 4 seq
def toN (l : List Int) : List Nat := l.map Int.toNat
theorem natB_toN {l : List Int} (h : ∀ z ∈ l, 0 ≤ z ∧ z < 256) : natB (toN l) = l := by
  induction l with
  | nil => rfl
  | cons z r ih =>
    have h0 := h z (by simp)
    have := ih (fun y hy => h y (by simp [hy]))
    simp only [natB, toN, List.map_cons, List.cons.injEq] at this ⊢
    exact ⟨by omega, this⟩
theorem toN_byte {l : List Int} (h : ∀ z ∈ l, 0 ≤ z ∧ z < 256) : ∀ x ∈ toN l, x < 256 := by
  intro x hx
  simp only [toN, List.mem_map] at hx
  obtain ⟨z, hz, rfl⟩ := hx
  have := h z hz
  omega
theorem length_toN (l : List Int) : (toN l).length = l.length := by simp [toN]
def keyedB (sec b : List Int) : List Int := natB (keyedN (toN sec) (toN b))
def signDg (b : List Int) (k : AKP) (seq : Int) : List Int := sayB b 0 2 (markB k.id seq) ++ keyedB k.sec (sayB b 0 2 (markB k.id seq))
def unsE (b : List Int) : Int := if pLenE b ≠ 0 then pLenE b else if pTold b < (b.length : Int) then 22 else if kindB b ≠ 0 then 25 else if pRight b = false then 23 else 0
def signE (b : List Int) (ks : List AKP) (now : Int) : Int := if unsE b ≠ 0 then unsE b else if ks.length = 0 then 0 else if achE ks ≠ 0 ∨ chooseI ks now < 0 then 26 else 0
def signW (b : List Int) (k : AKP) (seq : Int) : List Int := if k.kind = 1 then signPl b k else signDg b k seq
def signB (b : List Int) (ks : List AKP) (now seq : Int) : List Int := if signE b ks now ≠ 0 then [] else match ks[(chooseI ks now).toNat]? with
  | none => b
  | some k => signW b k seq
def wholeE (b : List Int) (n : Int) : Int := if n < (b.length : Int) then 22 else if pRight b = false then 23 else 0
def passAny (ks : List AKP) (now : Int) (d : List Int) : Bool := ks.any (fun k => k.takes now && decide (passB k.sec = d))
def openPl (b : List Int) (n : Int) (d : List Int) (ks : List AKP) (now : Int) : Int := if wholeE b n ≠ 0 then wholeE b n else if passAny ks now d = true then 0 else 26
def markId (d : List Int) : Int := numOf ((d.drop 2).take 1)
def markSeq (d : List Int) : Int := numOf ((d.drop 4).take 4)
def digK (b : List Int) (n : Int) (k : AKP) (id : Int) : Bool := decide (k.id = id) && decide (b.drop n.toNat = keyedB k.sec (b.take n.toNat))
def digAny (ks : List AKP) (now : Int) (b : List Int) (n : Int) (id : Int) : Bool := ks.any (fun k => k.takes now && digK b n k id)
def openDgE (b : List Int) (n : Int) (d : List Int) (ks : List AKP) (now : Int) : Int :=
  if d ≠ markB (markId d) (markSeq d) then 24 else if (b.length : Int) ≠ n + 16 then 22 else if digAny ks now b n (markId d) = true then 0 else 26
def openDgS (b : List Int) (n : Int) (d : List Int) (ks : List AKP) (now : Int) : Int := if openDgE b n d ks now = 0 then markSeq d else 0
/-- Behind the length. -/
def openE0 (b : List Int) (n : Int) (ks : List AKP) (now : Int) : Int :=
  if achE ks ≠ 0 then 26 else if kindB b ≠ kindOfL ks then 25 else if kindB b = 1 then openPl b n (dataB b) ks now else if kindB b = 2 then openDgE b n (dataB b) ks now else wholeE b n
def openS0 (b : List Int) (n : Int) (ks : List AKP) (now : Int) : Int :=
  if achE ks ≠ 0 then 0 else if kindB b ≠ kindOfL ks then 0 else if kindB b = 1 then 0 else if kindB b = 2 then openDgS b n (dataB b) ks now else 0
def openE (b : List Int) (ks : List AKP) (now : Int) : Int := if pLenE b ≠ 0 then pLenE b else openE0 b (pTold b) ks now
def openN (b : List Int) (ks : List AKP) (now : Int) : Int := if openE b ks now = 0 then pTold b else 0
def openS (b : List Int) (ks : List AKP) (now : Int) : Int := if openE b ks now = 0 then openS0 b (pTold b) ks now else 0
end Go.Proofs.YtjjgbcjgmjggnaaGreat

namespace Go.Proofs.YtjjgbcjgmjggnaaGreat
open Go.RowKit
set_option linter.unusedVariables false
set_option maxRecDepth 100000

/-- A flaw of a packet on its way. -/
def pflawC (e : Int) : List PanicEntry := [{ v := .iface 104 (.int .i64 e), recovered := false }]
theorem pneed_ok (e : Int) (w : World) : Calls Tryz.prog 58 #[.bool true, .int .i64 e] w fun x w' => x = .returned (.tuple #[]) ∧ w = w' := by
  go_enter Tryz.func58, Tryz.ntmps58
  go_wp2
  go_end0
  exact ⟨rfl, rfl⟩
theorem pneed_no (e : Int) (w : World) : Calls Tryz.prog 58 #[.bool false, .int .i64 e] w fun x w' => x = .panicked (pflawC e) ∧ w = w' := by
  go_enter Tryz.func58, Tryz.ntmps58
  go_wp2
  exact ⟨rfl, rfl, rfl⟩
theorem pneed_t (t : Bool) (e : Int) (w : World) (ht : t = true) : Calls Tryz.prog 58 #[.bool t, .int .i64 e] w fun x w' => x = .returned (.tuple #[]) ∧ w = w' := by subst ht; exact pneed_ok e w
theorem pneed_f (t : Bool) (e : Int) (w : World) (ht : t = false) : Calls Tryz.prog 58 #[.bool t, .int .i64 e] w fun x w' => x = .panicked (pflawC e) ∧ w = w' := by subst ht; exact pneed_no e w
theorem pta_flaw (e : Int) (w : World) : (Instr.typeAssert (.iface 104 (.int .i64 e)) 20 104 true).run Tryz.prog w = .ok (.tuple #[.int .i64 e, .bool true]) w := by kernel_rfl
theorem pta_nil (w : World) : (Instr.typeAssert .nilIface 20 104 true).run Tryz.prog w = .ok (.tuple #[.int .i64 0, .bool false]) w := by kernel_rfl
theorem pcatch_flaw (b : Nat) (x e : Int) (w : World) (hc : w.cell? ⟨b, 0, none⟩ = some (.int .i64 x)) (hz : w.frozen? ⟨b, 0, none⟩ = false) :
    CallsD Tryz.prog 57 #[.pointer (some ⟨b, 0, none⟩)] (.panicking (pflawC e)) w fun r u' w' =>
      r = .returned (.tuple #[]) ∧ u' = .panicking [{ v := .iface 104 (.int .i64 e), recovered := true }] ∧ w' = w.setCell ⟨b, 0, none⟩ (.int .i64 e) := by
  refine callsD_of_wpS Tryz.func57 rfl fun c₀ cs hu => ?_
  apply wpS_seq
  apply wpS_region
  simp [wpOpsS, go_sem, recoverD, hu, pflawC, pta_flaw, Tryz.ntmps57, Exit.thenS]
  apply wpS_seq
  apply wpS_region
  simp [wpOpsS, go_sem, Exit.thenS]
  refine wpS_cond (t := true) (by simp [Act.eval, Array.replicate]) ?_
  simp only [if_true]
  apply wpS_region
  simp [wpOpsS, go_sem, hc, hz, bodyPostS, results, Tryz.results57]
theorem pcatch_idle (b : Nat) (w : World) :
    CallsD Tryz.prog 57 #[.pointer (some ⟨b, 0, none⟩)] .returning w fun r u' w' => r = .returned (.tuple #[]) ∧ u' = .returning ∧ w' = w := by
  refine callsD_of_wpS Tryz.func57 rfl fun c₀ cs hu => ?_
  apply wpS_seq
  apply wpS_region
  simp [wpOpsS, go_sem, recoverD, hu, pta_nil, Tryz.ntmps57, Exit.thenS]
  apply wpS_seq
  apply wpS_region
  simp [wpOpsS, go_sem, Exit.thenS]
  refine wpS_cond (t := false) (by simp [Act.eval, Array.replicate]) ?_
  simp only [Bool.false_eq_true, if_false]
  refine wpS_of_wp (wp_skip ?_)
  cases c₀
  simp_all [bodyPostS, results, Tryz.results57]
/-- The face where its function ends by itself: K is what it leaves. -/
theorem pface_ok (G : Nat) (cap : Array Value) (hG : ∀ w, (callFunc G cap).run Tryz.prog w = .ok (.enter G cap) w) (w : World) (F : Nat → Prop) (hF : ¬ F w.heap.size) (K : World → Prop)
    (h : Calls Tryz.prog G cap (w.alloc (.cells #[.int .i64 0] 39)) fun e w' => e = .returned (.tuple #[]) ∧ Touch F (w.alloc (.cells #[.int .i64 0] 39)) w' ∧ K w')
    (hK : ∀ w1 w2, K w1 → Touch (fun k => k = w.heap.size) w1 w2 → K w2) :
    Calls Tryz.prog 28 #[.func (.func G) #[] cap] w fun e w' => e = .returned (.int .i64 0) ∧ Touch F w w' ∧ K w' := by
  have hmf : ∀ (fn : Fn) (first cap : Array Value) (w : World), (Instr.makeFunc fn first cap).run Tryz.prog w = .ok (.func fn first cap) w := fun _ _ _ _ => rfl
  go_enter_defers Tryz.func28, Tryz.ntmps28
  go_wp2_with fail
  refine h.mono ?_
  rintro e w1 ⟨rfl, t1, k1⟩
  have fz1 : w1.frozen? ⟨w.heap.size, 0, none⟩ = false := (t1.frozen (p := ⟨w.heap.size, 0, none⟩) (by simp) hF).trans (by simp [go_sem])
  have ce1 : w1.cell? ⟨w.heap.size, 0, none⟩ = some (.int .i64 0) := (t1.cell (p := ⟨w.heap.size, 0, none⟩) (by simp) hF).trans (by simp [go_sem])
  have HT : Hid (Touch F w w1) := ((Touch.refl F w).alloc _).trans t1
  have HK : Hid (K w1) := k1
  have U : Hid (Touch (fun k => k = w.heap.size) w1 (w1.setCell ⟨w.heap.size, 0, none⟩ (.int .i64 0))) := Touch.setCell (F := fun k => k = w.heap.size) (p := ⟨w.heap.size, 0, none⟩) (Touch.refl _ _) (Or.inl rfl) _
  have de : (w1.setCell ⟨w.heap.size, 0, none⟩ (.int .i64 0)).cell? ⟨w.heap.size, 0, none⟩ = some (.int .i64 0) := by simp [ce1, go_sem]
  clear t1 k1 h
  go_wp2_with fail
  generalize w1.setCell ⟨w.heap.size, 0, none⟩ (.int .i64 0) = w2 at *
  clear ce1 fz1
  refine leaves_cons (f := 57) (args := #[.pointer (some ⟨w.heap.size, 0, none⟩)]) (by simp) (by simp [go_sem]) ?_
  refine (pcatch_idle w.heap.size _).mono ?_
  rintro e u' w'' ⟨rfl, rfl, rfl⟩
  exact ⟨.int .i64 0, by simp [results, Tryz.results28, go_sem, de], rfl, HT.out.trans' U.out (fun i hi e => by omega), hK _ _ HK.out U.out⟩
/-- The face where its function gives up. -/
theorem pface_no (G : Nat) (cap : Array Value) (hG : ∀ w, (callFunc G cap).run Tryz.prog w = .ok (.enter G cap) w) (w : World) (F : Nat → Prop) (hF : ¬ F w.heap.size) (err : Int) (K : World → Prop)
    (h : Calls Tryz.prog G cap (w.alloc (.cells #[.int .i64 0] 39)) fun e w' => e = .panicked (pflawC err) ∧ Touch F (w.alloc (.cells #[.int .i64 0] 39)) w' ∧ K w')
    (hK : ∀ w1 w2, K w1 → Touch (fun k => k = w.heap.size) w1 w2 → K w2) :
    Calls Tryz.prog 28 #[.func (.func G) #[] cap] w fun e w' => e = .returned (.int .i64 err) ∧ Touch F w w' ∧ K w' := by
  have hmf : ∀ (fn : Fn) (first cap : Array Value) (w : World), (Instr.makeFunc fn first cap).run Tryz.prog w = .ok (.func fn first cap) w := fun _ _ _ _ => rfl
  go_enter_defers Tryz.func28, Tryz.ntmps28
  go_wp2_with fail
  refine h.mono ?_
  rintro e w1 ⟨rfl, t1, k1⟩
  have fz1 : w1.frozen? ⟨w.heap.size, 0, none⟩ = false := (t1.frozen (p := ⟨w.heap.size, 0, none⟩) (by simp) hF).trans (by simp [go_sem])
  have ce1 : w1.cell? ⟨w.heap.size, 0, none⟩ = some (.int .i64 0) := (t1.cell (p := ⟨w.heap.size, 0, none⟩) (by simp) hF).trans (by simp [go_sem])
  have HT : Hid (Touch F w w1) := ((Touch.refl F w).alloc _).trans t1
  have U : Touch (fun k => k = w.heap.size) w1 (w1.setCell ⟨w.heap.size, 0, none⟩ (.int .i64 err)) := Touch.setCell (F := fun k => k = w.heap.size) (p := ⟨w.heap.size, 0, none⟩) (Touch.refl _ _) (Or.inl rfl) _
  refine leaves_cons (f := 57) (args := #[.pointer (some ⟨w.heap.size, 0, none⟩)]) (by simp) (by simp [go_sem]) ?_
  refine (pcatch_flaw w.heap.size 0 err _ ce1 fz1).mono ?_
  rintro e u' w'' ⟨rfl, rfl, rfl⟩
  exact ⟨.int .i64 err, by simp [results, Tryz.results28, go_sem, ce1], rfl, HT.out.trans' U (fun i hi e => by omega), hK _ _ k1 U⟩
end Go.Proofs.YtjjgbcjgmjggnaaGreat

namespace Go.Proofs.YtjjgbcjgmjggnaaGreat
open Go.RowKit
set_option linter.unusedVariables false
set_option maxRecDepth 100000

theorem Tryz.info5r : (Tryz.prog.info? 5).map (fun i => (i.zero, i.size, i.bytes)) = some (some (.int .u8 0), 1, 1) := by kernel_rfl

theorem clone_some (ad : Addr) (c : Nat) (ns : List Int) (w : World) (hs : ∀ j u, (bytesOf ns)[j]? = some u → w.cell? (ad.add j) = some u) (hcap : ns.length ≤ 1099511627776) :
    Calls Tryz.prog 37 #[.slice (some ad) ns.length c] w fun e w' => ∃ v, e = .returned v ∧ w'.ownsRow w.heap.size 5 1 v ns.length (bytesOf ns) ∧ Touch (fun _ => False) w w' ∧ v.ownBlock ≠ none := by
  obtain ⟨i0, hi, hz0, hz1, hz2⟩ := info_parts Tryz.info5r
  have hq := fun (w : World) (a : Option Addr) (n c n' c' : Nat) => Lib.run_eql_slice_nil (P := Tryz.prog) w 43 5 a n c n' c' Tryz.underlying43
  go_enter Tryz.func37, Tryz.ntmps37
  go_wp2_with (at_builtin; refine wpList_append_own_at _ rfl (.tmp 5) (.tmp 6) 43 rfl w.heap.size 5 i0 (.int .u8 0) 1 1 Tryz.underlying43 hi hz0 hz1 hz2 rfl (by decide) (.slice (some ⟨w.heap.size, 0, none⟩) 0 0) 0 [] rfl ?c0 ad ns.length c (bytesOf ns) rfl ?c6 ?c1 ?c2 ?c3 ?c4 ?c5 ?_)
  case c0 => exact World.ownsRow_lit w #[] 0 (Nat.le_refl _) (by simp [maxLen]) (by simp)
  case c6 => simp [length_bytesOf]
  case c1 => exact fun j u hj => ((Touch.refl _ w).alloc _).cellN (hs j u hj)
  case c2 => exact oneCell_bytesOf ns
  case c3 => unfold maxLen; omega
  case c4 => omega
  case c5 => simp
  intro v' w1 hown' hgrow _ hat
  have t1 : Touch (fun _ => False) w w1 := ((Touch.refl _ w).alloc _).grown hgrow (fun k hk => Or.inr (by simp [Value.ownBlock] at hk; omega))
  have hne : v'.ownBlock ≠ none := by rcases hat with h | h <;> rw [h] <;> simp [Value.ownBlock]
  clear hgrow hat
  go_wp2
  go_ret
  exact ⟨v', rfl, by simpa using hown', t1, hne⟩

theorem clone_nil (w : World) :
    Calls Tryz.prog 37 #[.slice none 0 0] w fun e w' => e = .returned (.slice none 0 0) ∧ w = w' := by
  have hq := fun (w : World) (a : Option Addr) (n c n' c' : Nat) => Lib.run_eql_slice_nil (P := Tryz.prog) w 43 5 a n c n' c' Tryz.underlying43
  go_enter Tryz.func37, Tryz.ntmps37
  go_wp2
  go_ret
  exact ⟨rfl, rfl⟩

theorem write_any (most : Int) (w : World) (hm : 0 ≤ most) :
    Calls Tryz.prog 63 #[.int .i64 most] w fun e w' => e = .returned (.pointer (some ⟨w.heap.size, 0, none⟩)) ∧ WrS w' w.heap.size (.slice none 0 0) [] most 0 ∧ Touch (fun _ => False) w w' := by
  go_enter Tryz.func63, Tryz.ntmps63
  go_wp2
  go_ret
  refine ⟨rfl, ⟨by simp, by simp, by simp, by simp, by simp, by simp, World.ownsRow_nil _ _ _ _⟩, (Touch.refl _ w).alloc _⟩

theorem err_any (b : Nat) (err : Int) (w : World) (h0 : w.cell? ⟨b, 0, none⟩ = some (.bool true)) (h3 : w.cell? ⟨b, 3, none⟩ = some (.int .i64 err)) :
    Calls Tryz.prog 139 #[.pointer (some ⟨b, 0, none⟩)] w fun e w' => e = .returned (.int .i64 err) ∧ w = w' := by
  go_enter Tryz.func139, Tryz.ntmps139
  go_wp2
  go_ret
  exact ⟨rfl, rfl⟩

theorem rwhole_any (b : Nat) (err : Int) (w : World) (h0 : w.cell? ⟨b, 0, none⟩ = some (.bool true)) (h3 : w.cell? ⟨b, 3, none⟩ = some (.int .i64 err)) :
    Calls Tryz.prog 152 #[.pointer (some ⟨b, 0, none⟩)] w fun e w' => e = .returned (.bool (err == 0)) ∧ w = w' := by
  go_enter Tryz.func152, Tryz.ntmps152
  go_wp2_with (go_at_call 139; refine (err_any _ err _ (by assumption) (by assumption)).mono ?_; rintro e w' ⟨rfl, rfl⟩)
  go_ret
  exact ⟨rfl, rfl⟩

theorem left_ok (b p : Nat) (rv : Value) (rs : List Int) (w : World) (h : RdS w b rv rs p 0) :
    Calls Tryz.prog 146 #[.pointer (some ⟨b, 0, none⟩)] w fun e w' => e = .returned (.int .i64 ((rs.length : Int) - p)) ∧ ∃ n, w' = w.drewN n := by
  obtain ⟨a, c, rfl, hm⟩ := rowAt_form h.rowAt
  unfold maxLen at hm
  have h0 := h.made
  have h1 := h.row
  have h2 := h.pos
  have h3 := h.err
  have hp := h.ple
  go_enter Tryz.func146, Tryz.ntmps146
  go_wp2_with (go_at_call 152; refine (rwhole_any _ 0 _ (by assumption) (by assumption)).mono ?_; rintro e w' ⟨rfl, rfl⟩)
  go_quiet (fail)
  go_wp2
  go_ret
  exact ⟨rfl, _, rfl⟩

theorem left_dead (b : Nat) (err : Int) (w : World) (h0 : w.cell? ⟨b, 0, none⟩ = some (.bool true)) (h3 : w.cell? ⟨b, 3, none⟩ = some (.int .i64 err)) (he : (err == 0) = false) :
    Calls Tryz.prog 146 #[.pointer (some ⟨b, 0, none⟩)] w fun e w' => e = .returned (.int .i64 0) ∧ w = w' := by
  go_enter Tryz.func146, Tryz.ntmps146
  go_wp2_with (go_at_call 152; refine (rwhole_any _ err _ (by assumption) (by assumption)).mono ?_; rintro e w' ⟨rfl, rfl⟩)
  go_ret
  exact ⟨rfl, rfl⟩

/-- refuse: a whole reader takes the error, another one stays. -/
theorem refuse_ok (b : Nat) (q : Int) (w : World) (h0 : w.cell? ⟨b, 0, none⟩ = some (.bool true)) (h3 : w.cell? ⟨b, 3, none⟩ = some (.int .i64 0)) (hf : w.frozen? ⟨b, 3, none⟩ = false) :
    Calls Tryz.prog 129 #[.pointer (some ⟨b, 0, none⟩), .int .i64 q] w fun e w' => e = .returned (.tuple #[]) ∧ w.setCell ⟨b, 3, none⟩ (.int .i64 q) = w' := by
  go_enter Tryz.func129, Tryz.ntmps129
  go_wp2_with (go_at_call 152; refine (rwhole_any _ 0 _ (by assumption) (by assumption)).mono ?_; rintro e w' ⟨rfl, rfl⟩)
  go_end0
  exact ⟨rfl, rfl⟩

theorem refuse_dead (b : Nat) (q err : Int) (w : World) (h0 : w.cell? ⟨b, 0, none⟩ = some (.bool true)) (h3 : w.cell? ⟨b, 3, none⟩ = some (.int .i64 err)) (he : (err == 0) = false) :
    Calls Tryz.prog 129 #[.pointer (some ⟨b, 0, none⟩), .int .i64 q] w fun e w' => e = .returned (.tuple #[]) ∧ w = w' := by
  go_enter Tryz.func129, Tryz.ntmps129
  go_wp2_with (go_at_call 152; refine (rwhole_any _ err _ (by assumption) (by assumption)).mono ?_; rintro e w' ⟨rfl, rfl⟩)
  go_end0
  exact ⟨rfl, rfl⟩
end Go.Proofs.YtjjgbcjgmjggnaaGreat
