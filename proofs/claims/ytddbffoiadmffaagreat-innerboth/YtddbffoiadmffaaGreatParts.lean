import Derived.WalkKit
import Derived.Test.YtddbffoiadmffaaGreatRows
import Derived.Below
import Derived.Maps.AppendAt
import Derived.Deep.QuietTactic
import Derived.BigQuiet
import Derived.Handy
import Derived.WalkSpells
namespace Go.Proofs.YtddbffoiadmffaaGreat
set_option linter.unusedVariables false
def numBytes (n:Nat) (x:Int):List Int:=[x / 16777216 % 256,x / 65536 % 256,x / 256 % 256,x % 256].drop (4 - n)
theorem length_numBytes {n:Nat} (h:n≤4) (x:Int):(numBytes n x).length=n:=by simp [numBytes]; omega
theorem numBytes_byte (n:Nat) (x:Int):∀ z∈numBytes n x,0≤z∧z<256:=by
 intro z hz
 have:=List.mem_of_mem_drop hz
 simp at this
 omega
theorem numBytes2 (x:Int):numBytes 2 x=[x / 256 % 256,x % 256]:=rfl
theorem numBytes4 (x:Int):numBytes 4 x=[x / 16777216 % 256,x / 65536 % 256,x / 256 % 256,x % 256]:=rfl
theorem numBytes3 (x:Int):numBytes 3 x=[x / 65536 % 256,x / 256 % 256,x % 256]:=rfl
def numOf (l:List Int):Int:=l.foldl (fun v z=>256 * v+z) 0
theorem numOf_snoc (l:List Int) (z:Int):numOf (l ++ [z])=256 * numOf l+z:=by simp [numOf]
theorem foldl_bound (l:List Int) (h:∀ z∈l,0≤z∧z<256):∀ v:Int,0≤v→0≤l.foldl (fun v z=>256 * v+z) v∧l.foldl (fun v z=>256 * v+z) v<(v+1) * 256 ^ l.length:=by
 induction l with
 | nil=>intro v hv; simp; omega
 | cons z r ih =>
  intro v hv
  have hz:=h z (by simp)
  have:=ih (fun z hz=>h z (by simp [hz])) (256 * v+z) (by omega)
  refine ⟨this.1,Int.lt_of_lt_of_le this.2 ?_⟩
  rw [List.length_cons,Int.pow_succ,Int.mul_comm (256 ^ r.length) 256,← Int.mul_assoc]
  exact Int.mul_le_mul_of_nonneg_right (by omega) (Int.pow_nonneg (by omega))
theorem numOf_bound (l:List Int) (h:∀ z∈l,0≤z∧z<256):0≤numOf l∧numOf l<256 ^ l.length:=by
 have:=foldl_bound l h 0 (by omega)
 rw [show (0:Int)+1=1 by omega,Int.one_mul] at this
 exact this
theorem numOf_two (x:Int) (h0:0≤x) (h:x<65536):numOf (numBytes 2 x)=x:=by simp [numOf,numBytes2]; omega
theorem numOf_three (x:Int) (h0:0≤x) (h:x<16777216):numOf (numBytes 3 x)=x:=by simp [numOf,numBytes3]; omega
theorem numOf_four (x:Int) (h0:0≤x) (h:x<4294967296):numOf (numBytes 4 x)=x:=by simp [numOf,numBytes4]; omega
theorem numBytes_two (a b:Int) (ha:0≤a∧a<256) (hb:0≤b∧b<256):numBytes 2 (numOf [a,b])=[a,b]:=by simp [numOf,numBytes2]; omega
theorem numBytes_four (a b c d:Int) (ha:0≤a∧a<256) (hb:0≤b∧b<256) (hc:0≤c∧c<256) (hd:0≤d∧d<256):numBytes 4 (numOf [a,b,c,d])=[a,b,c,d]:=by
 simp [numOf,numBytes4]; omega
def psz (n:Int):Int:=2 ^ (32 - n).toNat
def pmask (n:Int):Int:=if n≤32 then 4294967296 - psz n else 0
def pcut (a n:Int):Int:=a - a % psz n
theorem psz_nat (n:Int):psz n=((2 ^ (32 - n).toNat:Nat):Int):=by unfold psz; exact (Int.natCast_pow 2 _).symm
theorem psz_pos (n:Int):0<psz n:=by rw [psz_nat]; exact Int.ofNat_lt.2 (Nat.two_pow_pos _)
theorem psz_le {n:Int} (h:0≤n):psz n≤4294967296:=by
 rw [psz_nat]
 have:2 ^ (32 - n).toNat≤2 ^ 32:=Nat.pow_le_pow_right (by omega) (by omega)
 have e:(2:Nat) ^ 32=4294967296:=by decide
 omega
theorem psz_lt {n m:Int} (h1:n<m) (h2:m≤32):psz m<psz n:=by
 rw [psz_nat,psz_nat]
 exact Int.ofNat_lt.2 (Nat.pow_lt_pow_right (by omega) (by omega))
theorem nat_and_high (a k:Nat) (ha:a<2 ^ 32) (hk:k≤32):a &&& (2 ^ 32 - 2 ^ k)=a - a % 2 ^ k:=by
 have e:a - a % 2 ^ k=2 ^ k * (a / 2 ^ k):=by have:=Nat.div_add_mod a (2 ^ k); omega
 have hp:0<2 ^ k:=Nat.two_pow_pos k
 have e2:2 ^ 32 - 2 ^ k=2 ^ 32 - ((2 ^ k - 1)+1):=by omega
 have hlt:2 ^ k - 1<2 ^ 32:=by have:=Nat.pow_le_pow_right (n:=2) (by omega) hk; omega
 rw [e]
 refine Nat.eq_of_testBit_eq fun i=>?_
 rw [Nat.testBit_and,e2,Nat.testBit_two_pow_sub_succ hlt,Nat.testBit_two_pow_sub_one,Nat.testBit_two_pow_mul]
 by_cases hi:k≤i
 ·rw [Nat.testBit_div_two_pow,Nat.sub_add_cancel hi]
  by_cases h32:i<32
  ·simp [hi,h32]
  ·have:a.testBit i=false:=Nat.testBit_lt_two_pow (Nat.lt_of_lt_of_le ha (Nat.pow_le_pow_right (by omega) (by omega)))
   simp [this]
 ·simp [hi]; intros; omega
theorem pmask_bd {n:Int} (h:0≤n):0≤pmask n∧pmask n<4294967296:=by
 unfold pmask
 have:=psz_pos n; have:=psz_le h
 split <;> omega
theorem pmask_le {n:Int} (h:n≤32):pmask n=4294967296 - psz n:=by rw [pmask,if_pos h]
theorem pmask_gt {n:Int} (h:32<n):pmask n=0:=by rw [pmask,if_neg (by omega)]
theorem pcut_bd {a n:Int} (h0:0≤a) (h1:a<4294967296):0≤pcut a n∧pcut a n<4294967296:=by
 unfold pcut
 have:=psz_pos n
 have h2:=Int.emod_nonneg a (show psz n≠0 by omega)
 have h3:a % psz n≤a:=by
  rcases Int.lt_or_le a (psz n) with h | h
  ·rw [Int.emod_eq_of_lt h0 h]; omega
  ·have:=Int.emod_lt_of_pos a (show 0<psz n by omega); omega
 omega
theorem and_mask {a n:Int} (h0:0≤a) (h1:a<4294967296) (hn0:0≤n) (hn:n≤32):bits .and .u32 a (pmask n)=pcut a n:=by
 have hb:=pmask_bd hn0
 rw [u32_and a _ h0 h1 hb.1 hb.2,pmask_le hn]
 obtain ⟨A,rfl⟩:∃ A:Nat,a=A:=⟨a.toNat,by omega⟩
 unfold pcut
 rw [psz_nat]
 have hp:2 ^ (32 - n).toNat≤2 ^ 32:=Nat.pow_le_pow_right (by omega) (by omega)
 have e:(4294967296 - ((2 ^ (32 - n).toNat:Nat):Int)).toNat=2 ^ 32 - 2 ^ (32 - n).toNat:=by omega
 rw [e,Int.toNat_natCast,nat_and_high A _ (by omega) (by omega)]
 have:=Nat.mod_le A (2 ^ (32 - n).toNat)
 omega
open Go.RowKit
set_option maxRecDepth 100000
def pfind (a:Int):Option Nat:=(List.range 33).find? fun n=>pmask n == a
def pbn (a:Int):Int:=(((pfind a).getD 0:Nat):Int)
def pbok (a:Int):Bool:=(pfind a).isSome
theorem pmask_inj {j k:Nat} (hj:j≤32) (hk:k≤32) (h:pmask j=pmask k):j=k:=by
 rw [pmask_le (by omega),pmask_le (by omega)] at h
 rcases Nat.lt_trichotomy j k with h' | h' | h'
 ·have:=psz_lt (n:=j) (m:=k) (by omega) (by omega); omega
 ·exact h'
 ·have:=psz_lt (n:=k) (m:=j) (by omega) (by omega); omega
theorem pfind_some {a:Int} {k:Nat} (hk:k≤32) (h:pmask k=a):pfind a=some k:=by
 unfold pfind
 rw [List.find?_range_eq_some]
 refine ⟨by simp [h],by simp; omega,fun j hj=>?_⟩
 simp
 intro e
 have:=pmask_inj (j:=j) (k:=k) (by omega) hk (by rw [e,h])
 omega
theorem pfind_none {a:Int} (h:∀ k:Nat,k≤32→pmask k≠a):pfind a=none:=by
 unfold pfind
 rw [List.find?_eq_none]
 intro k hk
 simp at hk ⊢
 exact h k (by omega)
theorem shl_one (a:Int) (k:Nat):a * 2 ^ k % 4294967296 * 2 % 4294967296=a * 2 ^ (k+1) % 4294967296:=by
 rw [Int.pow_succ,← Int.mul_assoc]
 omega
theorem shl_32 (a:Int):a * 2 ^ 32 % 4294967296=0:=by
 have e:(2:Int) ^ 32=4294967296:=by decide
 rw [e]; omega
theorem pmask_shift {j k:Nat} (hj:j≤32):pmask j * 2 ^ k % 4294967296=0↔j≤k:=by
 rw [pmask_le (by omega),Int.sub_mul]
 have e:psz j * 2 ^ k=2 ^ (32 - j+k):=by
  unfold psz
  rw [← Int.pow_add]
  congr 1; omega
 rw [e]
 constructor
 ·intro h
  rcases Nat.lt_or_ge k j with h' | h'
  ·have h1:(2:Int) ^ (32 - j+k)=((2 ^ (32 - j+k):Nat):Int):=(Int.natCast_pow 2 _).symm
   have h2:2 ^ (32 - j+k)<2 ^ 32:=Nat.pow_lt_pow_right (by omega) (by omega)
   have h3:0<2 ^ (32 - j+k):=Nat.two_pow_pos _
   have h4:(2:Nat) ^ 32=4294967296:=by decide
   rw [h1] at h
   omega
  ·exact h'
 ·intro h
  have h1:(2:Int) ^ (32 - j+k)=4294967296 * 2 ^ (k - j):=by
   have e:(4294967296:Int)=2 ^ 32:=by decide
   rw [e,← Int.pow_add]; congr 1; omega
  rw [h1,← Int.mul_sub]
  exact Int.mul_emod_right _ _
theorem bits_at {a:Int} {k:Nat} (hk:k≤32) (h0:a * 2 ^ k % 4294967296=0) (hl:∀ j:Nat,j<k→a * 2 ^ j % 4294967296≠0):pfind a=if pmask k=a then some k else none:=by
 split
 ·rename_i h; exact pfind_some hk h
 ·rename_i h
  refine pfind_none fun j hj e=>h ?_
  have h1:j≤k:=(pmask_shift hj).1 (by rw [e]; exact h0)
  rcases Nat.lt_or_ge j k with h2 | h2
  ·exact absurd ((pmask_shift (k:=j) hj).2 (Nat.le_refl _)) (by rw [e]; exact hl j h2)
  ·obtain rfl:j=k:=by omega
   exact e
theorem none_next {p:Nat→Prop} {k:Nat} (h:∀ j:Nat,j<k→¬ p j) (hk:¬ p k):∀ j:Nat,j<k+1→¬ p j:=by
 intro j hj
 rcases Nat.lt_or_ge j k with h' | h'
 ·exact h j h'
 ·obtain rfl:j=k:=by omega
  exact hk
theorem pb_yes {a:Int} {k:Nat} (h:pfind a=some k):pbn a=k∧pbok a=true:=by simp [pbn,pbok,h]
theorem pb_no {a:Int} (h:pfind a=none):pbn a=0∧pbok a=false:=by simp [pbn,pbok,h]
structure Touch (F:Nat→Prop) (w w':World):Prop where
 os:w'.os=w.os
 tape:w'.tape=w.tape
 output:w'.output=w.output
 size:w.heap.size≤w'.heap.size
 block:∀ k,k<w.heap.size→¬ F k→w'.heap[k]?=w.heap[k]?
theorem Touch.refl (F:Nat→Prop) (w:World):Touch F w w:=⟨rfl,rfl,rfl,Nat.le_refl _,fun _ _ _=>rfl⟩
theorem Touch.trans {F:Nat→Prop} {a b c:World} (h:Touch F a b) (k:Touch F b c):Touch F a c :=
 ⟨k.os.trans h.os,k.tape.trans h.tape,k.output.trans h.output,Nat.le_trans h.size k.size,fun i hi hn=>(k.block i (Nat.lt_of_lt_of_le hi h.size) hn).trans (h.block i hi hn)⟩
theorem Touch.trans' {F G:Nat→Prop} {a b c:World} (h:Touch F a b) (k:Touch G b c) (hG:∀ i,i<a.heap.size→G i→F i):Touch F a c :=
 ⟨k.os.trans h.os,k.tape.trans h.tape,k.output.trans h.output,Nat.le_trans h.size k.size,fun i hi hn=>(k.block i (Nat.lt_of_lt_of_le hi h.size) (fun g=>hn (hG i hi g))).trans (h.block i hi hn)⟩
theorem Touch.mono {F G:Nat→Prop} {a b:World} (h:Touch F a b) (hG:∀ i,i<a.heap.size→F i→G i):Touch G a b :=
 ⟨h.os,h.tape,h.output,h.size,fun i hi hn=>h.block i hi (fun f=>hn (hG i hi f))⟩
theorem Touch.drew {F:Nat→Prop} {a w:World} (h:Touch F a w):Touch F a w.drew:=⟨h.os,h.tape,h.output,h.size,h.block⟩
theorem Touch.drewN {F:Nat→Prop} {a w:World} (h:Touch F a w) (n:Nat):Touch F a (w.drewN n):=⟨h.os,h.tape,h.output,h.size,h.block⟩
theorem Touch.alloc {F:Nat→Prop} {a w:World} (h:Touch F a w) (o:Obj):Touch F a (w.alloc o) :=
 h.trans ⟨rfl,rfl,rfl,by simp,fun k hk _=>Below.heap_alloc _ _ _ hk⟩
theorem Touch.setCell {F:Nat→Prop} {a w:World} (h:Touch F a w) {p:Addr} (hp:F p.block∨a.heap.size≤p.block) (u:Value):Touch F a (w.setCell p u):=by
 refine ⟨h.os,h.tape,h.output,by have:=h.size; simpa [World.setCell] using this,fun k hk hn=>?_⟩
 rw [Below.heap_setCell _ _ _ _ (by rintro rfl; rcases hp with hp | hp; exact hn hp; omega)]
 exact h.block k hk hn
theorem Touch.grown {F:Nat→Prop} {a w w':World} {row:Option Nat} (h:Touch F a w) (hg:w.grownBy w' row) (hr:∀ k,row=some k→F k∨a.heap.size≤k):Touch F a w':=by
 refine ⟨hg.os.trans h.os,hg.tape.trans h.tape,hg.output.trans h.output,Nat.le_trans h.size hg.size,fun k hk hn=>?_⟩
 rw [hg.block k (Nat.lt_of_lt_of_le hk h.size) (fun e=>by rcases hr k e.symm with hp | hp; exact hn hp; omega)]
 exact h.block k hk hn
theorem Touch.cell {F:Nat→Prop} {w w':World} (h:Touch F w w') {p:Addr} (hp:p.block<w.heap.size) (hn:¬ F p.block):w'.cell? p=w.cell? p:=World.cell?_of_block (w:=w) (h.block p.block hp hn)
theorem Touch.frozen {F:Nat→Prop} {w w':World} (h:Touch F w w') {p:Addr} (hp:p.block<w.heap.size) (hn:¬ F p.block):w'.frozen? p=w.frozen? p:=World.frozen?_of_block (w:=w) (h.block p.block hp hn)
theorem Touch.below {F:Nat→Prop} {w w':World} (h:Touch F w w') {B:Nat} (hB:B≤w.heap.size) (hn:∀ k,k<B→¬ F k):Below B w w' :=
 ⟨h.os,h.tape,h.output,h.size,fun k hk=>h.block k (by omega) (hn k hk)⟩
theorem lt_of_cell {w:World} {b o:Nat} {v:Value} (h:w.cell? ⟨b,o,none⟩=some v):b<w.heap.size:=by
 rcases Nat.lt_or_ge b w.heap.size with h' | h'
 ·exact h'
 ·simp [World.cell?,Array.getElem?_eq_none h'] at h
theorem lt_of_cellA {w:World} {a:Addr} {v:Value} (h:w.cell? a=some v):a.block<w.heap.size:=by
 rcases Nat.lt_or_ge a.block w.heap.size with h' | h'
 ·exact h'
 ·simp [World.cell?,Array.getElem?_eq_none h'] at h
theorem lt_of_heap {w:World} {b:Nat} {o:Obj} (h:w.heap[b]?=some o):b<w.heap.size:=by
 rcases Nat.lt_or_ge b w.heap.size with h' | h'
 ·exact h'
 ·simp [Array.getElem?_eq_none h'] at h
theorem Touch.heapN {w w':World} (t:Touch (fun _=>False) w w') {b:Nat} {o:Obj} (h:w.heap[b]?=some o):w'.heap[b]?=some o:=(t.block b (lt_of_heap h) (fun h=>h)).trans h
theorem Touch.cellN {w w':World} (t:Touch (fun _=>False) w w') {a:Addr} {v:Value} (h:w.cell? a=some v):w'.cell? a=some v:=(t.cell (lt_of_cellA h) (fun h=>h)).trans h
theorem Touch.setRow {F:Nat→Prop} {a w:World} (h:Touch F a w) {g:Nat} (hp:F g∨a.heap.size≤g) (R:Array Value):Touch F a (w.setRow g R):=by
 refine ⟨h.os,h.tape,h.output,by have:=h.size; simpa [World.setRow] using this,fun k hk hn=>?_⟩
 rw [setRow_other w g k R (by rintro rfl; rcases hp with hp | hp; exact hn hp; omega)]
 exact h.block k hk hn
theorem own_touch {F:Nat→Prop} {w w':World} {base:Nat} {e:TypeId} {size:Nat} {v:Value} {n:Nat} {xs:List Value} (h:w.ownsRow base e size v n xs) (t:Touch F w w') (hn:∀ k,v.ownBlock=some k→¬ F k):w'.ownsRow base e size v n xs:=by
 obtain ⟨h1,h2⟩:=h
 refine ⟨h1,?_⟩
 rcases h2 with h2 | ⟨g,cap,cur,hv,hg,hh,r⟩
 ·exact Or.inl h2
 ·refine Or.inr ⟨g,cap,cur,hv,hg,?_,r⟩
  have hlt:g<w.heap.size:=by
   rcases Nat.lt_or_ge g w.heap.size with h' | h'
   ·exact h'
   ·simp [Array.getElem?_eq_none h'] at hh
  rw [t.block g hlt (hn g (by subst hv; rfl))]
  exact hh
def bytesOf (bs:List Int):List Value:=bs.map (Value.int .u8)
theorem length_bytesOf (bs:List Int):(bytesOf bs).length=bs.length:=by simp [bytesOf]
theorem bytesOf_append (a b:List Int):bytesOf (a ++ b)=bytesOf a ++ bytesOf b:=by simp [bytesOf]
theorem oneCell_bytesOf (bs:List Int):∀ u∈bytesOf bs,u.oneCell'=true:=by
 intro u hu
 simp only [bytesOf,List.mem_map] at hu
 obtain ⟨x,_,rfl⟩:=hu
 rfl
structure WrS (w:World) (b:Nat) (v:Value) (bs:List Int) (most err:Int):Prop where
 made:w.cell? ⟨b,0,none⟩=some (.bool true)
 row:w.cell? ⟨b,1,none⟩=some v
 most:w.cell? ⟨b,2,none⟩=some (.int .i64 most)
 err:w.cell? ⟨b,3,none⟩=some (.int .i64 err)
 f1:w.frozen? ⟨b,1,none⟩=false
 f3:w.frozen? ⟨b,3,none⟩=false
 own:w.ownsRow (b+1) 5 1 v bs.length (bytesOf bs)
def wrF (b:Nat) (v:Value):Nat→Prop:=fun k=>k=b∨v.ownBlock=some k
theorem WrS.touch {F:Nat→Prop} {w w':World} {b:Nat} {v:Value} {bs:List Int} {most err:Int} (h:WrS w b v bs most err) (t:Touch F w w') (hb:¬ F b) (hn:∀ k,v.ownBlock=some k→¬ F k):WrS w' b v bs most err:=by
 have hl:=lt_of_cell h.made
 exact ⟨(t.cell hl hb).trans h.made,(t.cell hl hb).trans h.row,(t.cell hl hb).trans h.most,(t.cell hl hb).trans h.err,(t.frozen hl hb).trans h.f1,(t.frozen hl hb).trans h.f3,own_touch h.own t hn⟩
theorem WrS.drewN {w:World} {b:Nat} {v:Value} {bs:List Int} {most err:Int} (h:WrS w b v bs most err) (n:Nat):WrS (w.drewN n) b v bs most err :=
 h.touch (F:=fun _=>False) ((Touch.refl _ _).drewN n) (fun h=>h) (fun _ _ h=>h)
theorem WrS.alloc {w:World} {b:Nat} {v:Value} {bs:List Int} {most err:Int} (h:WrS w b v bs most err) (o:Obj):WrS (w.alloc o) b v bs most err :=
 h.touch (F:=fun _=>False) ((Touch.refl _ _).alloc o) (fun h=>h) (fun _ _ h=>h)
theorem add_plain (b o j:Nat):(⟨b,o,none⟩:Addr).add j=⟨b,o+j,none⟩:=by
 by_cases hj:j=0
 ·subst hj; simp [Addr.add]
 ·simp [Addr.add,hj]
theorem src_new (w:World) (C:Array Value) (t:TypeId) (off:Nat) (ns:List Int) (hC:C.toList.drop off=bytesOf ns) :
  ∀ j u,(bytesOf ns)[j]?=some u→(w.alloc (.cells C t)).cell? ((⟨w.heap.size,off,none⟩:Addr).add j)=some u:=by
 intro j u hj
 rw [← hC,List.getElem?_drop] at hj
 rw [add_plain]
 simpa using hj
theorem own_ne {w:World} {base:Nat} {e:TypeId} {size:Nat} {v:Value} {n:Nat} {xs:List Value} (h:w.ownsRow base e size v n xs) {k:Nat} (hk:k<base):v.ownBlock≠some k:=by
 intro e
 have:=(h.lt k e).1
 omega
theorem own_setCell {w:World} {base:Nat} {e:TypeId} {size:Nat} {v:Value} {n:Nat} {xs:List Value} (h:w.ownsRow base e size v n xs) {a:Addr} (ha:a.block<base) (u:Value):(w.setCell a u).ownsRow base e size v n xs :=
 ownsRow_setCell_below h ha u
theorem wr_appended {w w1:World} {b:Nat} {v v':Value} {bs bs':List Int} {most err:Int} (h:WrS w b v bs most err) (hg:w.grownBy w1 v.ownBlock)
  (hown:w1.ownsRow (b+1) 5 1 v' bs'.length (bytesOf bs')):WrS (w1.setCell ⟨b,1,none⟩ v') b v' bs' most err∧Touch (wrF b v) w (w1.setCell ⟨b,1,none⟩ v'):=by
 have hl:=lt_of_cell h.made
 have hne:¬ v.ownBlock=some b:=own_ne h.own (Nat.lt_succ_self b)
 have t0:Touch (fun k=>v.ownBlock=some k) w w1:=(Touch.refl _ _).grown hg (fun k hk=>Or.inl hk)
 have c0:=(t0.cell (p:=⟨b,0,none⟩) hl hne).trans h.made
 have c1:=(t0.cell (p:=⟨b,1,none⟩) hl hne).trans h.row
 have c2:=(t0.cell (p:=⟨b,2,none⟩) hl hne).trans h.most
 have c3:=(t0.cell (p:=⟨b,3,none⟩) hl hne).trans h.err
 have f1:=(t0.frozen (p:=⟨b,1,none⟩) hl hne).trans h.f1
 have f3:=(t0.frozen (p:=⟨b,3,none⟩) hl hne).trans h.f3
 refine ⟨⟨?_,?_,?_,?_,?_,?_,own_setCell hown (Nat.lt_succ_self b) _⟩,Touch.setCell (F:=wrF b v) (p:=⟨b,1,none⟩) (t0.mono (fun i _ hi=>Or.inr hi)) (Or.inl (Or.inl rfl)) _⟩
 ·simp [c0,go_sem]
 ·simp [c1,go_sem]
 ·simp [c2,go_sem]
 ·simp [c3,go_sem]
 ·simp [f1,go_sem]
 ·simp [f3,go_sem]
def RowAt (w:World) (rv:Value) (rs:List Int):Prop :=
 (rv=.slice none 0 0∧rs=[])∨∃ g off c,rv=.slice (some ⟨g,off,none⟩) rs.length c∧rs.length≤c∧c≤maxLen∧∀ j u,(bytesOf rs)[j]?=some u→w.cell? ⟨g,off+j,none⟩=some u
theorem RowAt.touch {F:Nat→Prop} {w w':World} {rv:Value} {rs:List Int} (h:RowAt w rv rs) (t:Touch F w w') (hn:∀ k,rv.ownBlock=some k→¬ F k):RowAt w' rv rs:=by
 rcases h with h | ⟨g,off,c,rfl,h1,h2,h3⟩
 ·exact Or.inl h
 ·refine Or.inr ⟨g,off,c,rfl,h1,h2,fun j u hj=>?_⟩
  have hc:=h3 j u hj
  exact (t.cell (p:=⟨g,off+j,none⟩) (lt_of_cell hc) (hn g rfl)).trans hc
theorem own_rowAt {w:World} {base:Nat} {v:Value} {bs:List Int} (h:w.ownsRow base 5 1 v bs.length (bytesOf bs)):RowAt w v bs:=by
 rcases h.2 with ⟨rfl,e⟩ | ⟨g,cap,cur,rfl,hg,hh,hnc,hcm,hcs,htake⟩
 ·exact Or.inl ⟨rfl,List.eq_nil_of_length_eq_zero e⟩
 ·refine Or.inr ⟨g,0,cap,rfl,hnc,hcm,fun j u hj=>?_⟩
  have:=h.cells (g:=g) rfl j u hj
  rwa [add_plain] at this
theorem rowAt_form {w:World} {rv:Value} {rs:List Int} (h:RowAt w rv rs):∃ a c,rv=.slice a rs.length c∧rs.length≤maxLen:=by
 rcases h with ⟨rfl,rfl⟩ | ⟨g,off,c,rfl,h1,h2,_⟩
 ·exact ⟨_,_,rfl,Nat.zero_le _⟩
 ·exact ⟨_,_,rfl,Nat.le_trans h1 h2⟩
structure RdS (w:World) (b:Nat) (rv:Value) (rs:List Int) (p:Nat) (err:Int):Prop where
 made:w.cell? ⟨b,0,none⟩=some (.bool true)
 row:w.cell? ⟨b,1,none⟩=some rv
 pos:w.cell? ⟨b,2,none⟩=some (.int .i64 p)
 err:w.cell? ⟨b,3,none⟩=some (.int .i64 err)
 f2:w.frozen? ⟨b,2,none⟩=false
 f3:w.frozen? ⟨b,3,none⟩=false
 ple:p≤rs.length
 rowAt:RowAt w rv rs
 ne:rv.ownBlock≠some b
 byte:∀ x∈rs,0≤x∧x<256
 blk:∀ k,rv.ownBlock=some k→k<w.heap.size
theorem RdS.touch {F:Nat→Prop} {w w':World} {b p:Nat} {rv:Value} {rs:List Int} {err:Int} (h:RdS w b rv rs p err) (t:Touch F w w') (hb:¬ F b) (hn:∀ k,rv.ownBlock=some k→¬ F k):RdS w' b rv rs p err:=by
 have hl:=lt_of_cell h.made
 exact ⟨(t.cell hl hb).trans h.made,(t.cell hl hb).trans h.row,(t.cell hl hb).trans h.pos,(t.cell hl hb).trans h.err,(t.frozen hl hb).trans h.f2,(t.frozen hl hb).trans h.f3,h.ple,h.rowAt.touch t hn,h.ne,h.byte,fun k hk=>Nat.lt_of_lt_of_le (h.blk k hk) t.size⟩
theorem RdS.drewN {w:World} {b p:Nat} {rv:Value} {rs:List Int} {err:Int} (h:RdS w b rv rs p err) (n:Nat):RdS (w.drewN n) b rv rs p err :=
 h.touch (F:=fun _=>False) ((Touch.refl _ _).drewN n) (fun h=>h) (fun _ _ h=>h)
theorem RdS.setPos {w:World} {b p:Nat} {rv:Value} {rs:List Int} {err:Int} (h:RdS w b rv rs p err) (q:Nat) (hq:q≤rs.length):RdS (w.setCell ⟨b,2,none⟩ (.int .i64 q)) b rv rs q err:=by
 have t:Touch (fun k=>k=b) w (w.setCell ⟨b,2,none⟩ (.int .i64 q)):=Touch.setCell (F:=fun k=>k=b) (p:=⟨b,2,none⟩) (Touch.refl _ w) (Or.inl rfl) _
 exact ⟨by simp [h.made,go_sem],by simp [h.row,go_sem],by simp [h.pos,go_sem],by simp [h.err,go_sem],by simp [h.f2,go_sem],by simp [h.f3,go_sem],hq,h.rowAt.touch t (fun k hk e=>h.ne (by rw [hk,e])),h.ne,h.byte,fun k hk=>Nat.lt_of_lt_of_le (h.blk k hk) t.size⟩
theorem RdS.setErr {w:World} {b p:Nat} {rv:Value} {rs:List Int} {err:Int} (h:RdS w b rv rs p err) (q:Int):RdS (w.setCell ⟨b,3,none⟩ (.int .i64 q)) b rv rs p q:=by
 have t:Touch (fun k=>k=b) w (w.setCell ⟨b,3,none⟩ (.int .i64 q)):=Touch.setCell (F:=fun k=>k=b) (p:=⟨b,3,none⟩) (Touch.refl _ w) (Or.inl rfl) _
 exact ⟨by simp [h.made,go_sem],by simp [h.row,go_sem],by simp [h.pos,go_sem],by simp [h.err,go_sem],by simp [h.f2,go_sem],by simp [h.f3,go_sem],h.ple,h.rowAt.touch t (fun k hk e=>h.ne (by rw [hk,e])),h.ne,h.byte,fun k hk=>Nat.lt_of_lt_of_le (h.blk k hk) t.size⟩
end Go.Proofs.YtddbffoiadmffaaGreat
