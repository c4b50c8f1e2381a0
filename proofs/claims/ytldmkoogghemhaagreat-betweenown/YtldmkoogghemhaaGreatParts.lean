import Derived.Test.YtldmkoogghemhaaGreatRows
import Derived.WalkKit
import Derived.Below
import Derived.Maps.AppendAt
import Derived.Deep.QuietTactic
import Derived.BigQuiet
import Derived.Handy
import Derived.WalkSpells
namespace Go.Proofs.YtldmkoogghemhaaGreat
open Go.RowKit
set_option linter.unusedVariables false
set_option maxRecDepth 100000
structure Touch (F:Nat→Prop) (w w':World):Prop where
 os:w'.os=w.os
 tape:w'.tape=w.tape
 output:w'.output=w.output
 size:w.heap.size≤w'.heap.size
 block:∀k,k<w.heap.size→¬F k→w'.heap[k]?=w.heap[k]?
theorem Touch.refl (F:Nat→Prop) (w:World):Touch F w w:=⟨rfl,rfl,rfl,Nat.le_refl _,fun _ _ _=>rfl⟩
theorem Touch.trans {F:Nat→Prop} {a b c:World} (h:Touch F a b) (k:Touch F b c):Touch F a c :=
 ⟨k.os.trans h.os,k.tape.trans h.tape,k.output.trans h.output,Nat.le_trans h.size k.size,fun i hi hn=>(k.block i (Nat.lt_of_lt_of_le hi h.size) hn).trans (h.block i hi hn)⟩
theorem Touch.trans' {F G:Nat→Prop} {a b c:World} (h:Touch F a b) (k:Touch G b c) (hG:∀i,i<a.heap.size→G i→F i):Touch F a c :=
 ⟨k.os.trans h.os,k.tape.trans h.tape,k.output.trans h.output,Nat.le_trans h.size k.size,fun i hi hn=>(k.block i (Nat.lt_of_lt_of_le hi h.size) (fun g=>hn (hG i hi g))).trans (h.block i hi hn)⟩
theorem Touch.mono {F G:Nat→Prop} {a b:World} (h:Touch F a b) (hG:∀i,i<a.heap.size→F i→G i):Touch G a b :=
 ⟨h.os,h.tape,h.output,h.size,fun i hi hn=>h.block i hi (fun f=>hn (hG i hi f))⟩
theorem Touch.drew {F:Nat→Prop} {a w:World} (h:Touch F a w):Touch F a w.drew:=⟨h.os,h.tape,h.output,h.size,h.block⟩
theorem Touch.drewN {F:Nat→Prop} {a w:World} (h:Touch F a w) (n:Nat):Touch F a (w.drewN n):=⟨h.os,h.tape,h.output,h.size,h.block⟩
theorem Touch.alloc {F:Nat→Prop} {a w:World} (h:Touch F a w) (o:Obj):Touch F a (w.alloc o) :=
 h.trans ⟨rfl,rfl,rfl,by simp,fun k hk _=>Below.heap_alloc _ _ _ hk⟩
theorem Touch.setCell {F:Nat→Prop} {a w:World} (h:Touch F a w) {p:Addr} (hp:F p.block∨a.heap.size≤p.block) (u:Value):Touch F a (w.setCell p u):=by
 refine⟨h.os,h.tape,h.output,by have:=h.size;simpa [World.setCell] using this,fun k hk hn=>?_⟩
 rw [Below.heap_setCell _ _ _ _ (by rintro rfl;rcases hp with hp|hp;exact hn hp;omega)]
 exact h.block k hk hn
theorem Touch.grown {F:Nat→Prop} {a w w':World} {row:Option Nat} (h:Touch F a w) (hg:w.grownBy w' row) (hr:∀k,row=some k→F k∨a.heap.size≤k):Touch F a w':=by
 refine⟨hg.os.trans h.os,hg.tape.trans h.tape,hg.output.trans h.output,Nat.le_trans h.size hg.size,fun k hk hn=>?_⟩
 rw [hg.block k (Nat.lt_of_lt_of_le hk h.size) (fun e=>by rcases hr k e.symm with hp|hp;exact hn hp;omega)]
 exact h.block k hk hn
theorem Touch.cell {F:Nat→Prop} {w w':World} (h:Touch F w w') {p:Addr} (hp:p.block<w.heap.size) (hn:¬F p.block):w'.cell? p=w.cell? p:=World.cell?_of_block (w:=w) (h.block p.block hp hn)
theorem Touch.frozen {F:Nat→Prop} {w w':World} (h:Touch F w w') {p:Addr} (hp:p.block<w.heap.size) (hn:¬F p.block):w'.frozen? p=w.frozen? p:=World.frozen?_of_block (w:=w) (h.block p.block hp hn)
theorem Touch.below {F:Nat→Prop} {w w':World} (h:Touch F w w') {B:Nat} (hB:B≤w.heap.size) (hn:∀k,k<B→¬F k):Below B w w' :=
 ⟨h.os,h.tape,h.output,h.size,fun k hk=>h.block k (by omega) (hn k hk)⟩
theorem Qaa {w:World} {b o:Nat} {v:Value} (h:w.cell? ⟨b,o,none⟩=some v):b<w.heap.size:=by
 rcases Nat.lt_or_ge b w.heap.size with h' | h'
 ·exact h'
 ·simp [World.cell?,Array.getElem?_eq_none h'] at h
theorem Qbu {w:World} {a:Addr} {v:Value} (h:w.cell? a=some v):a.block<w.heap.size:=by
 rcases Nat.lt_or_ge a.block w.heap.size with h' | h'
 ·exact h'
 ·simp [World.cell?,Array.getElem?_eq_none h'] at h
theorem Qa7 {w:World} {b:Nat} {o:Obj} (h:w.heap[b]?=some o):b<w.heap.size:=by
 rcases Nat.lt_or_ge b w.heap.size with h' | h'
 ·exact h'
 ·simp [Array.getElem?_eq_none h'] at h
theorem Touch.heapN {w w':World} (t:Touch (fun _=>False) w w') {b:Nat} {o:Obj} (h:w.heap[b]?=some o):w'.heap[b]?=some o:=(t.block b (Qa7 h) (fun h=>h)).trans h
theorem Touch.cellN {w w':World} (t:Touch (fun _=>False) w w') {a:Addr} {v:Value} (h:w.cell? a=some v):w'.cell? a=some v:=(t.cell (Qbu h) (fun h=>h)).trans h
theorem Touch.setRow {F:Nat→Prop} {a w:World} (h:Touch F a w) {g:Nat} (hp:F g∨a.heap.size≤g) (R:Array Value):Touch F a (w.setRow g R):=by
 refine⟨h.os,h.tape,h.output,by have:=h.size;simpa [World.setRow] using this,fun k hk hn=>?_⟩
 rw [setRow_other w g k R (by rintro rfl;rcases hp with hp|hp;exact hn hp;omega)]
 exact h.block k hk hn
theorem Qab {F:Nat→Prop} {w w':World} {base:Nat} {e:TypeId} {size:Nat} {v:Value} {n:Nat} {xs:List Value} (h:w.ownsRow base e size v n xs) (t:Touch F w w') (hn:∀k,v.ownBlock=some k→¬F k):w'.ownsRow base e size v n xs:=by
 obtain⟨h1,h2⟩:=h
 refine⟨h1,?_⟩
 rcases h2 with h2|⟨g,cap,cur,hv,hg,hh,r⟩
 ·exact Or.inl h2
 ·refine Or.inr ⟨g,cap,cur,hv,hg,?_,r⟩
  have hlt:g<w.heap.size:=by
   rcases Nat.lt_or_ge g w.heap.size with h' | h'
   ·exact h'
   ·simp [Array.getElem?_eq_none h'] at hh
  rw [t.block g hlt (hn g (by subst hv;rfl))]
  exact hh
def bytesOf (bs:List Int):List Value:=bs.map (Value.int .u8)
theorem Qba (bs:List Int):(bytesOf bs).length=bs.length:=by simp [bytesOf]
theorem Qca (a b:List Int):bytesOf (a++b)=bytesOf a++bytesOf b:=by simp [bytesOf]
theorem Qa5 (bs:List Int):∀u∈bytesOf bs,u.oneCell'=true:=by
 intro u hu
 simp only [bytesOf,List.mem_map] at hu
 obtain⟨x,_,rfl⟩:=hu
 rfl
structure WrS (w:World) (b:Nat) (v:Value) (bs:List Int) (most err:Int):Prop where
 made:w.cell? ⟨b,0,none⟩=some (.bool true)
 row:w.cell? ⟨b,1,none⟩=some v
 most:w.cell? ⟨b,2,none⟩=some (.int .i64 most)
 err:w.cell? ⟨b,3,none⟩=some (.int .i64 err)
 f1:w.frozen? ⟨b,1,none⟩=false
 f3:w.frozen? ⟨b,3,none⟩=false
 own:w.ownsRow (b+1) 5 1 v bs.length (bytesOf bs)
def wrF (b:Nat) (v:Value):Nat→Prop:=fun k=>k=b∨v.ownBlock=some k
theorem WrS.touch {F:Nat→Prop} {w w':World} {b:Nat} {v:Value} {bs:List Int} {most err:Int} (h:WrS w b v bs most err) (t:Touch F w w') (hb:¬F b) (hn:∀k,v.ownBlock=some k→¬F k):WrS w' b v bs most err:=by
 have hl:=Qaa h.made
 exact⟨(t.cell hl hb).trans h.made,(t.cell hl hb).trans h.row,(t.cell hl hb).trans h.most,(t.cell hl hb).trans h.err,(t.frozen hl hb).trans h.f1,(t.frozen hl hb).trans h.f3,Qab h.own t hn⟩
theorem WrS.drewN {w:World} {b:Nat} {v:Value} {bs:List Int} {most err:Int} (h:WrS w b v bs most err) (n:Nat):WrS (w.drewN n) b v bs most err :=
 h.touch (F:=fun _=>False) ((Touch.refl _ _).drewN n) (fun h=>h) (fun _ _ h=>h)
theorem WrS.alloc {w:World} {b:Nat} {v:Value} {bs:List Int} {most err:Int} (h:WrS w b v bs most err) (o:Obj):WrS (w.alloc o) b v bs most err :=
 h.touch (F:=fun _=>False) ((Touch.refl _ _).alloc o) (fun h=>h) (fun _ _ h=>h)
theorem Qah (b o j:Nat):(⟨b,o,none⟩:Addr).add j=⟨b,o+j,none⟩:=by
 by_cases hj:j=0
 ·subst hj;simp [Addr.add]
 ·simp [Addr.add,hj]
theorem Qek (w:World) (C:Array Value) (t:TypeId) (off:Nat) (ns:List Int) (hC:C.toList.drop off=bytesOf ns) :
  ∀j u,(bytesOf ns)[j]?=some u→(w.alloc (.cells C t)).cell? ((⟨w.heap.size,off,none⟩:Addr).add j)=some u:=by
 intro j u hj
 rw [←hC,List.getElem?_drop] at hj
 rw [Qah]
 simpa using hj
theorem Qmd {w:World} {base:Nat} {e:TypeId} {size:Nat} {v:Value} {n:Nat} {xs:List Value} (h:w.ownsRow base e size v n xs) {k:Nat} (hk:k<base):v.ownBlock≠some k:=by
 intro e
 have:=(h.lt k e).1
 omega
theorem Qcb {w:World} {base:Nat} {e:TypeId} {size:Nat} {v:Value} {n:Nat} {xs:List Value} (h:w.ownsRow base e size v n xs) {a:Addr} (ha:a.block<base) (u:Value):(w.setCell a u).ownsRow base e size v n xs :=
 ownsRow_setCell_below h ha u
theorem Qc8 {w w1:World} {b:Nat} {v v':Value} {bs bs':List Int} {most err:Int} (h:WrS w b v bs most err) (hg:w.grownBy w1 v.ownBlock)
  (hown:w1.ownsRow (b+1) 5 1 v' bs'.length (bytesOf bs')):WrS (w1.setCell ⟨b,1,none⟩ v') b v' bs' most err∧Touch (wrF b v) w (w1.setCell ⟨b,1,none⟩ v'):=by
 have hl:=Qaa h.made
 have hne:¬v.ownBlock=some b:=Qmd h.own (Nat.lt_succ_self b)
 have t0:Touch (fun k=>v.ownBlock=some k) w w1:=(Touch.refl _ _).grown hg (fun k hk=>Or.inl hk)
 have c0:=(t0.cell (p:=⟨b,0,none⟩) hl hne).trans h.made
 have c1:=(t0.cell (p:=⟨b,1,none⟩) hl hne).trans h.row
 have c2:=(t0.cell (p:=⟨b,2,none⟩) hl hne).trans h.most
 have c3:=(t0.cell (p:=⟨b,3,none⟩) hl hne).trans h.err
 have f1:=(t0.frozen (p:=⟨b,1,none⟩) hl hne).trans h.f1
 have f3:=(t0.frozen (p:=⟨b,3,none⟩) hl hne).trans h.f3
 refine⟨⟨?_,?_,?_,?_,?_,?_,Qcb hown (Nat.lt_succ_self b) _⟩,Touch.setCell (F:=wrF b v) (p:=⟨b,1,none⟩) (t0.mono (fun i _ hi=>Or.inr hi)) (Or.inl (Or.inl rfl)) _⟩
 ·simp [c0,go_sem]
 ·simp [c1,go_sem]
 ·simp [c2,go_sem]
 ·simp [c3,go_sem]
 ·simp [f1,go_sem]
 ·simp [f3,go_sem]
def RowAt (w:World) (rv:Value) (rs:List Int):Prop :=
 (rv=.slice none 0 0∧rs=[])∨∃g off c,rv=.slice (some ⟨g,off,none⟩) rs.length c∧rs.length≤c∧c≤maxLen∧∀j u,(bytesOf rs)[j]?=some u→w.cell? ⟨g,off+j,none⟩=some u
theorem RowAt.touch {F:Nat→Prop} {w w':World} {rv:Value} {rs:List Int} (h:RowAt w rv rs) (t:Touch F w w') (hn:∀k,rv.ownBlock=some k→¬F k):RowAt w' rv rs:=by
 rcases h with h|⟨g,off,c,rfl,h1,h2,h3⟩
 ·exact Or.inl h
 ·refine Or.inr ⟨g,off,c,rfl,h1,h2,fun j u hj=>?_⟩
  have hc:=h3 j u hj
  exact (t.cell (p:=⟨g,off+j,none⟩) (Qaa hc) (hn g rfl)).trans hc
theorem Qb0 {w:World} {base:Nat} {v:Value} {bs:List Int} (h:w.ownsRow base 5 1 v bs.length (bytesOf bs)):RowAt w v bs:=by
 rcases h.2 with⟨rfl,e⟩|⟨g,cap,cur,rfl,hg,hh,hnc,hcm,hcs,htake⟩
 ·exact Or.inl ⟨rfl,List.eq_nil_of_length_eq_zero e⟩
 ·refine Or.inr ⟨g,0,cap,rfl,hnc,hcm,fun j u hj=>?_⟩
  have:=h.cells (g:=g) rfl j u hj
  rwa [Qah] at this
theorem Qdy {w:World} {rv:Value} {rs:List Int} (h:RowAt w rv rs):∃a c,rv=.slice a rs.length c∧rs.length≤maxLen:=by
 rcases h with⟨rfl,rfl⟩|⟨g,off,c,rfl,h1,h2,_⟩
 ·exact⟨_,_,rfl,Nat.zero_le _⟩
 ·exact⟨_,_,rfl,Nat.le_trans h1 h2⟩
structure RdS (w:World) (b:Nat) (rv:Value) (rs:List Int) (p:Nat) (err:Int):Prop where
 made:w.cell? ⟨b,0,none⟩=some (.bool true)
 row:w.cell? ⟨b,1,none⟩=some rv
 pos:w.cell? ⟨b,2,none⟩=some (.int .i64 p)
 err:w.cell? ⟨b,3,none⟩=some (.int .i64 err)
 f2:w.frozen? ⟨b,2,none⟩=false
 f3:w.frozen? ⟨b,3,none⟩=false
 ple:p≤rs.length
 rowAt:RowAt w rv rs
 ne:rv.ownBlock≠some b
 byte:∀x∈rs,0≤x∧x<256
 blk:∀k,rv.ownBlock=some k→k<w.heap.size
theorem RdS.touch {F:Nat→Prop} {w w':World} {b p:Nat} {rv:Value} {rs:List Int} {err:Int} (h:RdS w b rv rs p err) (t:Touch F w w') (hb:¬F b) (hn:∀k,rv.ownBlock=some k→¬F k):RdS w' b rv rs p err:=by
 have hl:=Qaa h.made
 exact⟨(t.cell hl hb).trans h.made,(t.cell hl hb).trans h.row,(t.cell hl hb).trans h.pos,(t.cell hl hb).trans h.err,(t.frozen hl hb).trans h.f2,(t.frozen hl hb).trans h.f3,h.ple,h.rowAt.touch t hn,h.ne,h.byte,fun k hk=>Nat.lt_of_lt_of_le (h.blk k hk) t.size⟩
theorem RdS.drewN {w:World} {b p:Nat} {rv:Value} {rs:List Int} {err:Int} (h:RdS w b rv rs p err) (n:Nat):RdS (w.drewN n) b rv rs p err :=
 h.touch (F:=fun _=>False) ((Touch.refl _ _).drewN n) (fun h=>h) (fun _ _ h=>h)
theorem RdS.setPos {w:World} {b p:Nat} {rv:Value} {rs:List Int} {err:Int} (h:RdS w b rv rs p err) (q:Nat) (hq:q≤rs.length):RdS (w.setCell ⟨b,2,none⟩ (.int .i64 q)) b rv rs q err:=by
 have t:Touch (fun k=>k=b) w (w.setCell ⟨b,2,none⟩ (.int .i64 q)):=Touch.setCell (F:=fun k=>k=b) (p:=⟨b,2,none⟩) (Touch.refl _ w) (Or.inl rfl) _
 exact⟨by simp [h.made,go_sem],by simp [h.row,go_sem],by simp [h.pos,go_sem],by simp [h.err,go_sem],by simp [h.f2,go_sem],by simp [h.f3,go_sem],hq,h.rowAt.touch t (fun k hk e=>h.ne (by rw [hk,e])),h.ne,h.byte,fun k hk=>Nat.lt_of_lt_of_le (h.blk k hk) t.size⟩
theorem RdS.setErr {w:World} {b p:Nat} {rv:Value} {rs:List Int} {err:Int} (h:RdS w b rv rs p err) (q:Int):RdS (w.setCell ⟨b,3,none⟩ (.int .i64 q)) b rv rs p q:=by
 have t:Touch (fun k=>k=b) w (w.setCell ⟨b,3,none⟩ (.int .i64 q)):=Touch.setCell (F:=fun k=>k=b) (p:=⟨b,3,none⟩) (Touch.refl _ w) (Or.inl rfl) _
 exact⟨by simp [h.made,go_sem],by simp [h.row,go_sem],by simp [h.pos,go_sem],by simp [h.err,go_sem],by simp [h.f2,go_sem],by simp [h.f3,go_sem],h.ple,h.rowAt.touch t (fun k hk e=>h.ne (by rw [hk,e])),h.ne,h.byte,fun k hk=>Nat.lt_of_lt_of_le (h.blk k hk) t.size⟩
end Go.Proofs.YtldmkoogghemhaaGreat
