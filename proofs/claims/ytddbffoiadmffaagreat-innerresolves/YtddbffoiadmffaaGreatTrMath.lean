import Derived.Shelf.SlSortCmp.WholeK
import Derived.Shelf.SlGeneric
import Derived.Ground.SlsfProg
import Derived.Shelf.SlSortCmp.NoneTotal
import Derived.Test.YtddbffoiadmffaaGreatRows
import Derived.WalkKit
import Derived.Below
import Derived.Maps.AppendAt
import Derived.Deep.QuietTactic
import Derived.BigQuiet
import Derived.Handy
import Derived.WalkSpells
import Derived.Sort.Grow
namespace Go.Proofs.YtddbffoiadmffaaGreat
open Go.Shelf
def sortPd_ren:Go.Shelf.Ren:=⟨fun|6=>113|15=>87|14=>157|28=>129|29=>130|20=>185|21=>186|22=>187|23=>188|24=>189|25=>190|26=>191|27=>192|46=>225|47=>162|48=>163|49=>226|50=>227|57=>247|n=>n,fun|22=>158|24=>42|25=>165|3=>3|39=>188|0=>0|53=>23|55=>46|4=>4|46=>228|45=>227|50=>97|5=>5|9=>9|66=>270|70=>274|76=>309|77=>277|n=>n,fun|n=>n⟩
theorem sortPd:Go.Proofs.SlLaysF0.n6 Tryz.prog sortPd_ren:={
 mixed:=by kernel_rfl
 f6:=⟨Tryz.f113.name,by decide,Tryz.func113.trans (congrArg some (by kernel_rfl))⟩
 f14:=⟨Tryz.f157.name,by decide,Tryz.func157.trans (congrArg some (by kernel_rfl))⟩
 f15:=Tryz.func87.trans (congrArg some (by kernel_rfl))
 f20:=⟨Tryz.f185.name,by decide,Tryz.func185.trans (congrArg some (by kernel_rfl))⟩
 f21:=⟨Tryz.f186.name,by decide,Tryz.func186.trans (congrArg some (by kernel_rfl))⟩
 f22:=⟨Tryz.f187.name,by decide,Tryz.func187.trans (congrArg some (by kernel_rfl))⟩
 f23:=⟨Tryz.f188.name,by decide,Tryz.func188.trans (congrArg some (by kernel_rfl))⟩
 f24:=⟨Tryz.f189.name,by decide,Tryz.func189.trans (congrArg some (by kernel_rfl))⟩
 f25:=⟨Tryz.f190.name,by decide,Tryz.func190.trans (congrArg some (by kernel_rfl))⟩
 f26:=⟨Tryz.f191.name,by decide,Tryz.func191.trans (congrArg some (by kernel_rfl))⟩
 f27:=⟨Tryz.f192.name,by decide,Tryz.func192.trans (congrArg some (by kernel_rfl))⟩
 f28:=Tryz.func129.trans (congrArg some (by kernel_rfl))
 f29:=Tryz.func130.trans (congrArg some (by kernel_rfl))
 f46:=⟨Tryz.f225.name,by decide,Tryz.func225.trans (congrArg some (by kernel_rfl))⟩
 f47:=Tryz.func162.trans (congrArg some (by kernel_rfl))
 f48:=Tryz.func163.trans (congrArg some (by kernel_rfl))
 f49:=⟨Tryz.f226.name,by decide,Tryz.func226.trans (congrArg some (by kernel_rfl))⟩
 f50:=⟨Tryz.f227.name,by decide,Tryz.func227.trans (congrArg some (by kernel_rfl))⟩
 f57:=⟨Tryz.f247.name,by decide,Tryz.func247.trans (congrArg some (by kernel_rfl))⟩
 t0:=Tryz.underlying0
 a0:=Tryz.isAgg0
 z0:=Tryz.sizeOf0
 v0:=Tryz.zeroValue0
 t3:=Tryz.underlying3
 a3:=Tryz.isAgg3
 z3:=Tryz.sizeOf3
 v3:=Tryz.zeroValue3
 t4:=Tryz.underlying4
 a4:=Tryz.isAgg4
 z4:=Tryz.sizeOf4
 v4:=Tryz.zeroValue4
 t5:=Tryz.underlying5
 a5:=Tryz.isAgg5
 z5:=Tryz.sizeOf5
 v5:=Tryz.zeroValue5
 t9:=Tryz.underlying9
 a9:=Tryz.isAgg9
 z9:=Tryz.sizeOf9
 v9:=Tryz.zeroValue9
 t22:=Tryz.underlying158
 a22:=Tryz.isAgg158
 z22:=Tryz.sizeOf158
 v22:=Tryz.zeroValue158
 t25:=Tryz.underlying165
 a25:=Tryz.isAgg165
 z25:=Tryz.sizeOf165
 v25:=Tryz.zeroValue165
 t39:=Tryz.underlying188
 a39:=Tryz.isAgg188
 z39:=Tryz.sizeOf188
 v39:=Tryz.zeroValue188
 t45:=Tryz.underlying227
 a45:=Tryz.isAgg227
 z45:=Tryz.sizeOf227
 v45:=Tryz.zeroValue227
 t46:=Tryz.underlying228
 a46:=Tryz.isAgg228
 z46:=Tryz.sizeOf228
 v46:=Tryz.zeroValue228
 t50:=Tryz.underlying97
 a50:=Tryz.isAgg97
 z50:=Tryz.sizeOf97
 v50:=Tryz.zeroValue97
 t53:=Tryz.underlying23
 a53:=Tryz.isAgg23
 z53:=Tryz.sizeOf23
 v53:=Tryz.zeroValue23
 t55:=Tryz.underlying46
 a55:=Tryz.isAgg46
 z55:=Tryz.sizeOf46
 v55:=Tryz.zeroValue46
 t66:=Tryz.underlying270
 a66:=Tryz.isAgg270
 z66:=Tryz.sizeOf270
 v66:=Tryz.zeroValue270
 t70:=Tryz.underlying274
 a70:=Tryz.isAgg274
 z70:=Tryz.sizeOf274
 v70:=Tryz.zeroValue274
 t76:=Tryz.underlying309
 a76:=Tryz.isAgg309
 z76:=Tryz.sizeOf309
 v76:=Tryz.zeroValue309
 t77:=Tryz.underlying277
 a77:=Tryz.isAgg277
 z77:=Tryz.sizeOf277
 v77:=Tryz.zeroValue277 }
open Go.RowKit
set_option linter.unusedVariables false
set_option maxRecDepth 100000
structure Touch (F:Nat→Prop) (w w':World):Prop where
 os:w'.os=w.os
 tape:w'.tape=w.tape
 output:w'.output=w.output
 size:w.heap.size≤w'.heap.size
 block:∀k,k<w.heap.size→¬F k→w'.heap[k]?=w.heap[k]?
theorem Touch.refl (F:Nat→Prop) (w:World):Touch F w w:=⟨rfl,rfl,rfl,Nat.le_refl _,fun _ _ _=>rfl⟩
theorem Touch.trans {F:Nat→Prop} {a b c:World} (h:Touch F a b) (k:Touch F b c):Touch F a c :=
 ⟨k.os.trans h.os,k.tape.trans h.tape,k.output.trans h.output,Nat.le_trans h.size k.size,fun i hi hn=>(k.block i (Nat.lt_of_lt_of_le hi h.size) hn).trans (h.block i hi hn)⟩
theorem Touch.trans' {F G:Nat→Prop} {a b c:World} (h:Touch F a b) (k:Touch G b c) (hG:∀i,i<a.heap.size→G i→F i):Touch F a c :=
 ⟨k.os.trans h.os,k.tape.trans h.tape,k.output.trans h.output,Nat.le_trans h.size k.size,fun i hi hn=>(k.block i (Nat.lt_of_lt_of_le hi h.size) (fun g=>hn (hG i hi g))).trans (h.block i hi hn)⟩
theorem Touch.mono {F G:Nat→Prop} {a b:World} (h:Touch F a b) (hG:∀i,i<a.heap.size→F i→G i):Touch G a b :=
 ⟨h.os,h.tape,h.output,h.size,fun i hi hn=>h.block i hi (fun f=>hn (hG i hi f))⟩
theorem Touch.drew {F:Nat→Prop} {a w:World} (h:Touch F a w):Touch F a w.drew:=⟨h.os,h.tape,h.output,h.size,h.block⟩
theorem Touch.drewN {F:Nat→Prop} {a w:World} (h:Touch F a w) (n:Nat):Touch F a (w.drewN n):=⟨h.os,h.tape,h.output,h.size,h.block⟩
theorem Touch.alloc {F:Nat→Prop} {a w:World} (h:Touch F a w) (o:Obj):Touch F a (w.alloc o) :=
 h.trans ⟨rfl,rfl,rfl,by simp,fun k hk _=>Below.heap_alloc _ _ _ hk⟩
theorem Touch.setCell {F:Nat→Prop} {a w:World} (h:Touch F a w) {p:Addr} (hp:F p.block∨a.heap.size≤p.block) (u:Value):Touch F a (w.setCell p u):=by
 refine⟨h.os,h.tape,h.output,by have:=h.size;simpa [World.setCell] using this,fun k hk hn=>?_⟩
 rw [Below.heap_setCell _ _ _ _ (by rintro rfl;rcases hp with hp|hp;exact hn hp;omega)]
 exact h.block k hk hn
theorem Touch.grown {F:Nat→Prop} {a w w':World} {row:Option Nat} (h:Touch F a w) (hg:w.grownBy w' row) (hr:∀k,row=some k→F k∨a.heap.size≤k):Touch F a w':=by
 refine⟨hg.os.trans h.os,hg.tape.trans h.tape,hg.output.trans h.output,Nat.le_trans h.size hg.size,fun k hk hn=>?_⟩
 rw [hg.block k (Nat.lt_of_lt_of_le hk h.size) (fun e=>by rcases hr k e.symm with hp|hp;exact hn hp;omega)]
 exact h.block k hk hn
theorem Touch.cell {F:Nat→Prop} {w w':World} (h:Touch F w w') {p:Addr} (hp:p.block<w.heap.size) (hn:¬F p.block):w'.cell? p=w.cell? p:=World.cell?_of_block (w:=w) (h.block p.block hp hn)
theorem Touch.frozen {F:Nat→Prop} {w w':World} (h:Touch F w w') {p:Addr} (hp:p.block<w.heap.size) (hn:¬F p.block):w'.frozen? p=w.frozen? p:=World.frozen?_of_block (w:=w) (h.block p.block hp hn)
theorem Touch.below {F:Nat→Prop} {w w':World} (h:Touch F w w') {B:Nat} (hB:B≤w.heap.size) (hn:∀k,k<B→¬F k):Below B w w' :=
 ⟨h.os,h.tape,h.output,h.size,fun k hk=>h.block k (by omega) (hn k hk)⟩
theorem Qaa {w:World} {b o:Nat} {v:Value} (h:w.cell? ⟨b,o,none⟩=some v):b<w.heap.size:=by
 rcases Nat.lt_or_ge b w.heap.size with h' | h'
 ·exact h'
 ·simp [World.cell?,Array.getElem?_eq_none h'] at h
theorem Qcp {w:World} {a:Addr} {v:Value} (h:w.cell? a=some v):a.block<w.heap.size:=by
 rcases Nat.lt_or_ge a.block w.heap.size with h' | h'
 ·exact h'
 ·simp [World.cell?,Array.getElem?_eq_none h'] at h
theorem Qat {w:World} {b:Nat} {o:Obj} (h:w.heap[b]?=some o):b<w.heap.size:=by
 rcases Nat.lt_or_ge b w.heap.size with h' | h'
 ·exact h'
 ·simp [Array.getElem?_eq_none h'] at h
theorem Touch.heapN {w w':World} (t:Touch (fun _=>False) w w') {b:Nat} {o:Obj} (h:w.heap[b]?=some o):w'.heap[b]?=some o:=(t.block b (Qat h) (fun h=>h)).trans h
theorem Touch.cellN {w w':World} (t:Touch (fun _=>False) w w') {a:Addr} {v:Value} (h:w.cell? a=some v):w'.cell? a=some v:=(t.cell (Qcp h) (fun h=>h)).trans h
theorem Touch.setRow {F:Nat→Prop} {a w:World} (h:Touch F a w) {g:Nat} (hp:F g∨a.heap.size≤g) (R:Array Value):Touch F a (w.setRow g R):=by
 refine⟨h.os,h.tape,h.output,by have:=h.size;simpa [World.setRow] using this,fun k hk hn=>?_⟩
 rw [setRow_other w g k R (by rintro rfl;rcases hp with hp|hp;exact hn hp;omega)]
 exact h.block k hk hn
theorem Qab {F:Nat→Prop} {w w':World} {base:Nat} {e:TypeId} {size:Nat} {v:Value} {n:Nat} {xs:List Value} (h:w.ownsRow base e size v n xs) (t:Touch F w w') (hn:∀k,v.ownBlock=some k→¬F k):w'.ownsRow base e size v n xs:=by
 obtain⟨h1,h2⟩:=h
 refine⟨h1,?_⟩
 rcases h2 with h2|⟨g,cap,cur,hv,hg,hh,r⟩
 ·exact Or.inl h2
 ·refine Or.inr ⟨g,cap,cur,hv,hg,?_,r⟩
  have hlt:g<w.heap.size:=by
   rcases Nat.lt_or_ge g w.heap.size with h' | h'
   ·exact h'
   ·simp [Array.getElem?_eq_none h'] at hh
  rw [t.block g hlt (hn g (by subst hv;rfl))]
  exact hh
def bytesOf (bs:List Int):List Value:=bs.map (Value.int .u8)
theorem Qbr (bs:List Int):(bytesOf bs).length=bs.length:=by simp [bytesOf]
theorem Qc6 (a b:List Int):bytesOf (a++b)=bytesOf a++bytesOf b:=by simp [bytesOf]
theorem Qbn (bs:List Int):∀u∈bytesOf bs,u.oneCell'=true:=by
 intro u hu
 simp only [bytesOf,List.mem_map] at hu
 obtain⟨x,_,rfl⟩:=hu
 rfl
structure WrS (w:World) (b:Nat) (v:Value) (bs:List Int) (most err:Int):Prop where
 made:w.cell? ⟨b,0,none⟩=some (.bool true)
 row:w.cell? ⟨b,1,none⟩=some v
 most:w.cell? ⟨b,2,none⟩=some (.int .i64 most)
 err:w.cell? ⟨b,3,none⟩=some (.int .i64 err)
 f1:w.frozen? ⟨b,1,none⟩=false
 f3:w.frozen? ⟨b,3,none⟩=false
 own:w.ownsRow (b+1) 5 1 v bs.length (bytesOf bs)
def wrF (b:Nat) (v:Value):Nat→Prop:=fun k=>k=b∨v.ownBlock=some k
theorem WrS.touch {F:Nat→Prop} {w w':World} {b:Nat} {v:Value} {bs:List Int} {most err:Int} (h:WrS w b v bs most err) (t:Touch F w w') (hb:¬F b) (hn:∀k,v.ownBlock=some k→¬F k):WrS w' b v bs most err:=by
 have hl:=Qaa h.made
 exact⟨(t.cell hl hb).trans h.made,(t.cell hl hb).trans h.row,(t.cell hl hb).trans h.most,(t.cell hl hb).trans h.err,(t.frozen hl hb).trans h.f1,(t.frozen hl hb).trans h.f3,Qab h.own t hn⟩
theorem WrS.drewN {w:World} {b:Nat} {v:Value} {bs:List Int} {most err:Int} (h:WrS w b v bs most err) (n:Nat):WrS (w.drewN n) b v bs most err :=
 h.touch (F:=fun _=>False) ((Touch.refl _ _).drewN n) (fun h=>h) (fun _ _ h=>h)
theorem WrS.alloc {w:World} {b:Nat} {v:Value} {bs:List Int} {most err:Int} (h:WrS w b v bs most err) (o:Obj):WrS (w.alloc o) b v bs most err :=
 h.touch (F:=fun _=>False) ((Touch.refl _ _).alloc o) (fun h=>h) (fun _ _ h=>h)
theorem Qae (b o j:Nat):(⟨b,o,none⟩:Addr).add j=⟨b,o+j,none⟩:=by
 by_cases hj:j=0
 ·subst hj;simp [Addr.add]
 ·simp [Addr.add,hj]
theorem Qgg (w:World) (C:Array Value) (t:TypeId) (off:Nat) (ns:List Int) (hC:C.toList.drop off=bytesOf ns) :
  ∀j u,(bytesOf ns)[j]?=some u→(w.alloc (.cells C t)).cell? ((⟨w.heap.size,off,none⟩:Addr).add j)=some u:=by
 intro j u hj
 rw [←hC,List.getElem?_drop] at hj
 rw [Qae]
 simpa using hj
theorem Qs3 {w:World} {base:Nat} {e:TypeId} {size:Nat} {v:Value} {n:Nat} {xs:List Value} (h:w.ownsRow base e size v n xs) {k:Nat} (hk:k<base):v.ownBlock≠some k:=by
 intro e
 have:=(h.lt k e).1
 omega
theorem Qbf {w:World} {base:Nat} {e:TypeId} {size:Nat} {v:Value} {n:Nat} {xs:List Value} (h:w.ownsRow base e size v n xs) {a:Addr} (ha:a.block<base) (u:Value):(w.setCell a u).ownsRow base e size v n xs :=
 ownsRow_setCell_below h ha u
theorem Qex {w w1:World} {b:Nat} {v v':Value} {bs bs':List Int} {most err:Int} (h:WrS w b v bs most err) (hg:w.grownBy w1 v.ownBlock)
  (hown:w1.ownsRow (b+1) 5 1 v' bs'.length (bytesOf bs')):WrS (w1.setCell ⟨b,1,none⟩ v') b v' bs' most err∧Touch (wrF b v) w (w1.setCell ⟨b,1,none⟩ v'):=by
 have hl:=Qaa h.made
 have hne:¬v.ownBlock=some b:=Qs3 h.own (Nat.lt_succ_self b)
 have t0:Touch (fun k=>v.ownBlock=some k) w w1:=(Touch.refl _ _).grown hg (fun k hk=>Or.inl hk)
 have c0:=(t0.cell (p:=⟨b,0,none⟩) hl hne).trans h.made
 have c1:=(t0.cell (p:=⟨b,1,none⟩) hl hne).trans h.row
 have c2:=(t0.cell (p:=⟨b,2,none⟩) hl hne).trans h.most
 have c3:=(t0.cell (p:=⟨b,3,none⟩) hl hne).trans h.err
 have f1:=(t0.frozen (p:=⟨b,1,none⟩) hl hne).trans h.f1
 have f3:=(t0.frozen (p:=⟨b,3,none⟩) hl hne).trans h.f3
 refine⟨⟨?_,?_,?_,?_,?_,?_,Qbf hown (Nat.lt_succ_self b) _⟩,Touch.setCell (F:=wrF b v) (p:=⟨b,1,none⟩) (t0.mono (fun i _ hi=>Or.inr hi)) (Or.inl (Or.inl rfl)) _⟩
 ·simp [c0,go_sem]
 ·simp [c1,go_sem]
 ·simp [c2,go_sem]
 ·simp [c3,go_sem]
 ·simp [f1,go_sem]
 ·simp [f3,go_sem]
def RowAt (w:World) (rv:Value) (rs:List Int):Prop :=
 (rv=.slice none 0 0∧rs=[])∨∃g off c,rv=.slice (some ⟨g,off,none⟩) rs.length c∧rs.length≤c∧c≤maxLen∧∀j u,(bytesOf rs)[j]?=some u→w.cell? ⟨g,off+j,none⟩=some u
theorem RowAt.touch {F:Nat→Prop} {w w':World} {rv:Value} {rs:List Int} (h:RowAt w rv rs) (t:Touch F w w') (hn:∀k,rv.ownBlock=some k→¬F k):RowAt w' rv rs:=by
 rcases h with h|⟨g,off,c,rfl,h1,h2,h3⟩
 ·exact Or.inl h
 ·refine Or.inr ⟨g,off,c,rfl,h1,h2,fun j u hj=>?_⟩
  have hc:=h3 j u hj
  exact (t.cell (p:=⟨g,off+j,none⟩) (Qaa hc) (hn g rfl)).trans hc
theorem Qcw {w:World} {base:Nat} {v:Value} {bs:List Int} (h:w.ownsRow base 5 1 v bs.length (bytesOf bs)):RowAt w v bs:=by
 rcases h.2 with⟨rfl,e⟩|⟨g,cap,cur,rfl,hg,hh,hnc,hcm,hcs,htake⟩
 ·exact Or.inl ⟨rfl,List.eq_nil_of_length_eq_zero e⟩
 ·refine Or.inr ⟨g,0,cap,rfl,hnc,hcm,fun j u hj=>?_⟩
  have:=h.cells (g:=g) rfl j u hj
  rwa [Qae] at this
theorem Qf1 {w:World} {rv:Value} {rs:List Int} (h:RowAt w rv rs):∃a c,rv=.slice a rs.length c∧rs.length≤maxLen:=by
 rcases h with⟨rfl,rfl⟩|⟨g,off,c,rfl,h1,h2,_⟩
 ·exact⟨_,_,rfl,Nat.zero_le _⟩
 ·exact⟨_,_,rfl,Nat.le_trans h1 h2⟩
structure RdS (w:World) (b:Nat) (rv:Value) (rs:List Int) (p:Nat) (err:Int):Prop where
 made:w.cell? ⟨b,0,none⟩=some (.bool true)
 row:w.cell? ⟨b,1,none⟩=some rv
 pos:w.cell? ⟨b,2,none⟩=some (.int .i64 p)
 err:w.cell? ⟨b,3,none⟩=some (.int .i64 err)
 f2:w.frozen? ⟨b,2,none⟩=false
 f3:w.frozen? ⟨b,3,none⟩=false
 ple:p≤rs.length
 rowAt:RowAt w rv rs
 ne:rv.ownBlock≠some b
 byte:∀x∈rs,0≤x∧x<256
 blk:∀k,rv.ownBlock=some k→k<w.heap.size
theorem RdS.touch {F:Nat→Prop} {w w':World} {b p:Nat} {rv:Value} {rs:List Int} {err:Int} (h:RdS w b rv rs p err) (t:Touch F w w') (hb:¬F b) (hn:∀k,rv.ownBlock=some k→¬F k):RdS w' b rv rs p err:=by
 have hl:=Qaa h.made
 exact⟨(t.cell hl hb).trans h.made,(t.cell hl hb).trans h.row,(t.cell hl hb).trans h.pos,(t.cell hl hb).trans h.err,(t.frozen hl hb).trans h.f2,(t.frozen hl hb).trans h.f3,h.ple,h.rowAt.touch t hn,h.ne,h.byte,fun k hk=>Nat.lt_of_lt_of_le (h.blk k hk) t.size⟩
theorem RdS.drewN {w:World} {b p:Nat} {rv:Value} {rs:List Int} {err:Int} (h:RdS w b rv rs p err) (n:Nat):RdS (w.drewN n) b rv rs p err :=
 h.touch (F:=fun _=>False) ((Touch.refl _ _).drewN n) (fun h=>h) (fun _ _ h=>h)
theorem RdS.setPos {w:World} {b p:Nat} {rv:Value} {rs:List Int} {err:Int} (h:RdS w b rv rs p err) (q:Nat) (hq:q≤rs.length):RdS (w.setCell ⟨b,2,none⟩ (.int .i64 q)) b rv rs q err:=by
 have t:Touch (fun k=>k=b) w (w.setCell ⟨b,2,none⟩ (.int .i64 q)):=Touch.setCell (F:=fun k=>k=b) (p:=⟨b,2,none⟩) (Touch.refl _ w) (Or.inl rfl) _
 exact⟨by simp [h.made,go_sem],by simp [h.row,go_sem],by simp [h.pos,go_sem],by simp [h.err,go_sem],by simp [h.f2,go_sem],by simp [h.f3,go_sem],hq,h.rowAt.touch t (fun k hk e=>h.ne (by rw [hk,e])),h.ne,h.byte,fun k hk=>Nat.lt_of_lt_of_le (h.blk k hk) t.size⟩
theorem RdS.setErr {w:World} {b p:Nat} {rv:Value} {rs:List Int} {err:Int} (h:RdS w b rv rs p err) (q:Int):RdS (w.setCell ⟨b,3,none⟩ (.int .i64 q)) b rv rs p q:=by
 have t:Touch (fun k=>k=b) w (w.setCell ⟨b,3,none⟩ (.int .i64 q)):=Touch.setCell (F:=fun k=>k=b) (p:=⟨b,3,none⟩) (Touch.refl _ w) (Or.inl rfl) _
 exact⟨by simp [h.made,go_sem],by simp [h.row,go_sem],by simp [h.pos,go_sem],by simp [h.err,go_sem],by simp [h.f2,go_sem],by simp [h.f3,go_sem],h.ple,h.rowAt.touch t (fun k hk e=>h.ne (by rw [hk,e])),h.ne,h.byte,fun k hk=>Nat.lt_of_lt_of_le (h.blk k hk) t.size⟩
open Go.RowKit Go.Sort
structure Grs (x w:World):Prop where
 out:∃q os,w=grow (x.drewN q) os
theorem Qlo (w:World) (q:Nat) (os:Array Obj):Touch (fun _=>False) w (grow (w.drewN q) os) :=
 ⟨rfl,rfl,rfl,by simp [grow,World.drewN],fun k hk _=>by simp only [grow,World.drewN];rw [Array.getElem?_append_left hk]⟩
theorem Grs.t {x w:World} (h:Grs x w):Touch (fun _=>False) x w:=by
 obtain⟨q,os,rfl⟩:=h.out
 exact Qlo x q os
theorem Grs.trans {x w w':World} (h:Grs x w) (k:Grs w w'):Grs x w':=by
 obtain⟨q,os,rfl⟩:=h.out
 obtain⟨q',os',rfl⟩:=k.out
 exact⟨q+q',os++os',by show grow (grow ((x.drewN q).drewN q') os) os'=_;rw [grow_grow,World.drewN_drewN]⟩
theorem Grs.refl (w:World):Grs w w:=⟨0,#[],by rw [grow_empty];rfl⟩
theorem Grs.alloc {x w:World} (h:Grs x w) (o:Obj):Grs x (w.alloc o):=h.trans ⟨0,#[o],by rw [alloc_eq_grow];rfl⟩
theorem Grs.drew {x w:World} (h:Grs x w):Grs x w.drew:=h.trans ⟨1,#[],by rw [grow_empty];rfl⟩
theorem Qc8 (w:World) (os:Array Obj):Touch (fun _=>False) w (grow w os) :=
 ⟨rfl,rfl,rfl,by simp [grow],fun k hk _=>by simp [grow,Array.getElem?_append_left hk]⟩
structure HK where
 out:Int
 via:Int
 vr:Bool
deriving DecidableEq
def HK0:HK:=⟨0,0,false⟩
def bz (b:Bool):Int:=if b then 1 else 0
theorem Qwf {a b:Bool} (h:bz a=bz b):a=b:=by cases a <;> cases b <;> simp_all [bz]
theorem Qcl (a:Bool):0≤bz a∧bz a≤1:=by cases a <;> simp [bz]
def HK.lt (x y:HK):Prop:=x.out<y.out∨x.out=y.out∧(x.via<y.via∨x.via=y.via∧bz x.vr<bz y.vr)
def HK.le (x y:HK):Prop:=¬HK.lt y x
theorem HK.ext' {x y:HK} (h1:x.out=y.out) (h2:x.via=y.via) (h3:bz x.vr=bz y.vr):x=y:=by
 have:=Qwf h3
 cases x;cases y;simp_all
theorem HK.le_refl (x:HK):x.le x:=by unfold HK.le HK.lt;omega
theorem HK.lt_of_le_ne {x y:HK} (h:x.le y) (h':x≠y):x.lt y:=by
 by_cases e:x.lt y
 ·exact e
 ·exfalso
  unfold HK.le HK.lt at *
  exact h' (HK.ext' (by omega) (by omega) (by omega))
theorem HK.lt_irrefl (x:HK):¬x.lt x:=by unfold HK.lt;omega
theorem HK.lt_trans {x y z:HK} (h:x.lt y) (h':y.lt z):x.lt z:=by unfold HK.lt at *;omega
theorem HK.lt_of_lt_of_le {x y z:HK} (h:x.lt y) (h':y.le z):x.lt z:=by unfold HK.le at h';unfold HK.lt at *;omega
structure Sp where
 node:Int
 cost:Int
 h:HK
deriving DecidableEq
def Sp0:Sp:=⟨0,0,HK0⟩
def Sp.lt (x y:Sp):Prop:=x.cost<y.cost∨x.cost=y.cost∧x.h.lt y.h
def Sp.le (x y:Sp):Prop:=¬Sp.lt y x
theorem Qeh (x:Sp):x.le x:=by unfold Sp.le Sp.lt HK.lt;omega
theorem Qa8 {x y z:Sp} (h:x.le y) (h':y.le z):x.le z:=by unfold Sp.le Sp.lt HK.lt at *;omega
theorem Qe1 {x y:Sp} (h:x.lt y):x.le y:=by unfold Sp.le;unfold Sp.lt HK.lt at *;omega
def gt (l:List Sp) (i:Nat):Sp:=l.getD i Sp0
theorem Qd5 {l:List Sp} {i:Nat} (h:i<l.length):l[i]?=some (gt l i):=by simp [gt,List.getElem?_eq_getElem h]
theorem Qvq {l:List Sp} {e:Sp} (h:e∈l):∃i,i<l.length∧gt l i=e:=by
 obtain⟨i,hi,e1⟩:=List.mem_iff_getElem.1 h
 exact⟨i,hi,by simp [gt,List.getElem?_eq_getElem hi,e1]⟩
theorem Qfl {l l':List Sp} {i:Nat} (h:i<l.length):gt (l++l') i=gt l i:=by simp [gt,List.getElem?_append_left h]
theorem Quw {l:List Sp} {n i:Nat} (h:i<n):gt (l.take n) i=gt l i:=by simp [gt,List.getElem?_take_of_lt h]
theorem Qsn {l:List Sp} {i:Nat} (hi:i<l.length) (e:Sp) (k:Nat):gt (l.set i e) k=if k=i then e else gt l k:=by
 by_cases h:k=i
 ·subst h;simp [gt,hi]
 ·simp [gt,h,List.getElem?_set_ne (Ne.symm h)]
def sw (l:List Sp) (i j:Nat):List Sp:=(l.set i (gt l j)).set j (gt l i)
theorem Qid (l:List Sp) (i j:Nat):(sw l i j).length=l.length:=by simp [sw]
theorem Qjd {l:List Sp} {i j:Nat} (hi:i<l.length) (hj:j<l.length) (k:Nat):gt (sw l i j) k=if k=j then gt l i else if k=i then gt l j else gt l k:=by
 unfold sw
 rw [Qsn (by simpa using hj),Qsn hi]
theorem Qns {l:List Sp} {i j:Nat} (hi:i<l.length) (hj:j<l.length):(sw l i j).Perm l:=by
 have h:=Array.swap_perm (xs:=l.toArray) (i:=i) (j:=j) (by simpa using hi) (by simpa using hj)
 have e:(l.toArray.swap i j (by simpa using hi) (by simpa using hj)).toList=sw l i j:=by
  simp [Array.swap_def,sw,gt,List.getElem?_eq_getElem hi,List.getElem?_eq_getElem hj]
 have:=Array.perm_iff_toList_perm.1 h
 rw [e] at this
 simpa using this
def HP (n:Nat) (g:Nat→Sp):Prop:=∀c,0<c→c<n→(g ((c-1)/2)).le (g c)
def UpI (n:Nat) (g:Nat→Sp) (j:Nat):Prop:=(∀c,0<c→c<n→c≠j→(g ((c-1)/2)).le (g c))∧(∀c,0<c→c<n→(c-1)/2=j→0<j→(g ((j-1)/2)).le (g c))
def FixI (n:Nat) (g:Nat→Sp) (i:Nat):Prop:=(∀c,0<c→c<n→c≠i→(c-1)/2≠i→(g ((c-1)/2)).le (g c))∧(∀c,0<c→c<n→(c-1)/2=i→0<i→(g ((i-1)/2)).le (g c))
def DnI (n:Nat) (g:Nat→Sp) (i:Nat):Prop:=(∀c,0<c→c<n→(c-1)/2≠i→(g ((c-1)/2)).le (g c))∧(∀c,0<c→c<n→(c-1)/2=i→0<i→(g ((i-1)/2)).le (g c))
theorem HP.first {n:Nat} {g:Nat→Sp} (h:HP n g):∀c,c<n→(g 0).le (g c):=by
 intro c
 induction c using Nat.strongRecOn with
 | ind c ih =>
  intro hc
  by_cases h0:c=0
  ·subst h0;exact Qeh _
  ·exact Qa8 (ih ((c-1)/2) (by omega) (by omega)) (h c (by omega) hc)
theorem Qou {n:Nat} {g:Nat→Sp} {j:Nat} (h:UpI n g j) (h':j=0∨(g ((j-1)/2)).le (g j)):HP n g:=by
 intro c h0 hc
 by_cases e:c=j
 ·subst e
  rcases h' with h' | h'
  ·omega
  ·exact h'
 ·exact h.1 c h0 hc e
theorem Qt0 {n:Nat} {g g':Nat→Sp} {j:Nat} (h:UpI n g j) (hj:j<n) (h0:0<j) (hlt:(g j).lt (g ((j-1)/2)))
  (hg:∀k,g' k=if k=j then g ((j-1)/2) else if k=(j-1)/2 then g j else g k):UpI n g' ((j-1)/2):=by
 have hp:(j-1)/2<j:=by omega
 have gj:g' j=g ((j-1)/2):=by rw [hg,if_pos rfl]
 have gp:g' ((j-1)/2)=g j:=by rw [hg,if_neg (by omega),if_pos rfl]
 have go:∀k,k≠j→k≠(j-1)/2→g' k=g k:=fun k h1 h2=>by rw [hg,if_neg h1,if_neg h2]
 have hle:=Qe1 hlt
 constructor
 ·intro c c0 cn ce
  by_cases e1:c=j
  ·subst e1
   rw [gj,gp];exact hle
  ·rw [go c e1 ce]
   by_cases e2:(c-1)/2=j
   ·rw [e2,gj]
    exact h.2 c c0 cn e2 h0
   ·by_cases e3:(c-1)/2=(j-1)/2
    ·rw [e3,gp]
     have:=h.1 c c0 cn e1
     rw [e3] at this
     exact Qa8 hle this
    ·rw [go _ e2 e3]
     exact h.1 c c0 cn e1
 ·intro c c0 cn ce p0
  have e4:((j-1)/2-1)/2≠j∧((j-1)/2-1)/2≠(j-1)/2:=by omega
  rw [go _ e4.1 e4.2]
  have hpp:=h.1 ((j-1)/2) p0 (by omega) (by omega)
  by_cases e1:c=j
  ·subst e1;rw [gj];exact hpp
  ·rw [go c e1 (by omega)]
   have:=h.1 c c0 cn e1
   rw [ce] at this
   exact Qa8 hpp this
theorem Qv5 {n:Nat} {g:Nat→Sp} {i:Nat} (h:FixI n g i) (hc:∀c,0<c→c<n→(c-1)/2=i→(g i).le (g c)):UpI n g i :=
 ⟨fun c c0 cn ce=>by
  by_cases e:(c-1)/2=i
  ·rw [e];exact hc c c0 cn e
  ·exact h.1 c c0 cn ce e,h.2⟩
theorem Qv6 {n:Nat} {g:Nat→Sp} {i:Nat} (h:DnI n g i) (hc:∀c,0<c→c<n→(c-1)/2=i→(g i).le (g c)):HP n g:=by
 intro c c0 cn
 by_cases e:(c-1)/2=i
 ·rw [e];exact hc c c0 cn e
 ·exact h.1 c c0 cn e
theorem Qix {n:Nat} {g g':Nat→Sp} {i j:Nat} (h:FixI n g i) (hj:(j-1)/2=i) (j0:0<j) (hjn:j<n) (hlt:(g j).lt (g i)) (hmin:∀c,0<c→c<n→(c-1)/2=i→(g j).le (g c))
  (hg:∀k,g' k=if k=j then g i else if k=i then g j else g k):DnI n g' j:=by
 have hij:i≠j:=by omega
 have gj:g' j=g i:=by rw [hg,if_pos rfl]
 have gi:g' i=g j:=by rw [hg,if_neg hij,if_pos rfl]
 have go:∀k,k≠j→k≠i→g' k=g k:=fun k h1 h2=>by rw [hg,if_neg h1,if_neg h2]
 constructor
 ·intro c c0 cn ce
  by_cases e1:c=j
  ·subst e1;rw [gj,hj,gi];exact Qe1 hlt
  ·by_cases e2:c=i
   ·subst e2
    rw [gi,go _ (by omega) (by omega)]
    exact h.2 j j0 hjn hj c0
   ·rw [go c e1 e2]
    by_cases e3:(c-1)/2=i
    ·rw [e3,gi];exact hmin c c0 cn e3
    ·rw [go _ ce e3];exact h.1 c c0 cn e2 e3
 ·intro c c0 cn ce _
  rw [hj,gi,go c (by omega) (by omega)]
  have:=h.1 c c0 cn (by omega) (by omega)
  rw [ce] at this
  exact this
theorem DnI.fix {n:Nat} {g:Nat→Sp} {i:Nat} (h:DnI n g i):FixI n g i:=⟨fun c a b _ d=>h.1 c a b d,h.2⟩
theorem HP.up {n:Nat} {g g':Nat→Sp} (h:HP n g) (hg:∀k,k≠n→g' k=g k):UpI (n+1) g' n :=
 ⟨fun c c0 cn ce=>by rw [hg _ (by omega),hg _ ce];exact h c c0 (by omega),fun c c0 cn pe _=>by omega⟩
theorem HP.mono {n m:Nat} {g g':Nat→Sp} (h:HP n g) (hm:m≤n) (hg:∀k,k<m→g' k=g k):HP m g':=by
 intro c c0 cm
 rw [hg _ (by omega),hg _ cm]
 exact h c c0 (by omega)
end Go.Proofs.YtddbffoiadmffaaGreat
