/- Several texts laid together: Open, JrC, DtA, RdB. -/
import Derived.Test.YtbohndgbfbfldaaGreatDoorZAK
import Derived.Test.YtbohndgbfbfldaaGreatDoorZBI
import Derived.Test.YtbohndgbfbfldaaGreatDoorZAN
import Derived.Test.YtbohndgbfbfldaaGreatDoorZBH
import Derived.Test.YtbohndgbfbfldaaGreatDoorZAJ
import Derived.Test.YtbohndgbfbfldaaGreatDoorZAD
import Derived.Test.YtbohndgbfbfldaaGreatDoorImX
import Derived.Test.YtbohndgbfbfldaaGreatDoorZAB
import Derived.Test.YtbohndgbfbfldaaGreatDoorZAG
import Derived.Test.YtbohndgbfbfldaaGreatDoorZAP
import Derived.Test.YtbohndgbfbfldaaGreatDoorZAE
import Derived.Test.YtbohndgbfbfldaaGreatDoorZAO
import Derived.Maps.Views
import Derived.Deep.LoopGhost
import Derived.Deep.RegionHeld3
import Derived.Laws.OwnMore
import Derived.Lib.SplitLaws
import Derived.Lib.IndexBytes
import Derived.BigQuiet
import Derived.Sort.Walk0
import Derived.Laws.Cover1
import Derived.Deep.RegionWith
import Derived.BigRegion
import Derived.Deep.QuietTactic
import Derived.Deep.DeepCutAuto
import Derived.Deep.RegionLaw
import Derived.Test.YtbohndgbfbfldaaGreatDoorZAI
import Derived.Test.YtbohndgbfbfldaaGreatDoorZAF
set_option maxRecDepth 100000
set_option maxHeartbeats 2000000
namespace Go.Proofs.YtbohndgbfbfldaaGreatDoor
open Go.ChangeShapes Go.WideShapes Go.ChangeAt Go.RowKit Go.Joins
theorem zrv:Tryz.prog.cellsOf 250=3:=by kernel_rfl
theorem yaaz:Tryz.prog.cellsOf 52=2:=by kernel_rfl
section
variable {H:Type} {enc:TypeId×Value→H} {W:World} {sp:Nat→Bool} {held:Bool} {fuel:Nat} {v:Value} {y:DataW H×List MemPlace}
theorem zyy (h:DataW.trod enc Tryz.prog W 0 sp held fuel 50 [v]=some y):∃ ps:List St,RdS W v ps∧ps.length≤maxLen∧∀ p∈ps,(Lit.int .i64 p.at_).wf=true∧(Lit.int .i64 p.val).wf=true:=by
 rcases Deep.open_slice Tryz.underlying50 h with ⟨hcs,_⟩ | ⟨a,len,cap,m,n,D,Pl,hcs,_,hl,hm,hmm,_,hel⟩
 ·simp only[List.cons.injEq,and_true] at hcs;subst hcs;exact ⟨[],⟨rfl,none,0,rfl,⟨Nat.le_refl _,fun _=>rfl⟩,fun h=>absurd h (by simp)⟩,by simp,fun p hp=>by simp at hp⟩
 ·simp only[List.cons.injEq,and_true] at hcs;subst hcs
  have hlm:len≤m:=by rw[hmm];split <;> omega
  have one:∀ i,i < len→∃ s:St,(W.cell? ((a.add (i*3)).add 0)=some (.int .i64 s.at_)∧W.cell? ((a.add (i*3)).add 1)=some (.int .i64 s.val)∧W.cell? ((a.add (i*3)).add 2)=some (.bool s.fl))∧(Lit.int .i64 s.at_).wf=true∧(Lit.int .i64 s.val).wf=true:=by
   intro i hi;obtain ⟨cs,hcs,ht⟩:=hel i (by omega);rw[zrv] at hcs;obtain ⟨_,hlen,hc⟩:=World.cells?_some hcs;obtain ⟨y0,y1,y2,n',_,_,t0,t1,t2⟩:=Deep.trod_struct3 Tryz.underlying250 ht;obtain ⟨z0,e0,_,w0⟩:=DataW.trod_int Tryz.underlying3 t0;obtain ⟨z1,e1,_,w1⟩:=DataW.trod_int Tryz.underlying3 t1;obtain ⟨z2,e2,_⟩:=DataW.trod_bool Tryz.underlying4 t2;simp only[zdp,yaed] at e0 e1 e2
   match cs,hlen with
   | [c0,c1,c2],_ =>
    simp at e0 e1 e2;subst e0 e1 e2;exact ⟨⟨z0,z1,z2⟩,⟨by simpa using hc 0 (by omega),by simpa using hc 1 (by omega),by simpa using hc 2 (by omega)⟩,w0,w1⟩
  obtain ⟨ps,hpl,hps⟩:=zbl len one;refine ⟨ps,⟨zvd ps,some a,cap,by rw[hpl],⟨by rw[hpl];exact hl,fun e=>by cases e⟩,fun hn=>?_⟩,by rw[hpl];omega,fun p hp=>?_⟩
  ·obtain ⟨b,off,spot⟩:=a;have hc:=(hps 0 hn).1.1
   have hspot:spot=none:=by simpa[Addr.add] using World.cell?_spot hc
   subst hspot;refine ⟨b,off,rfl,World.block_lt_of_cell? W _ (by simpa[Addr.add] using hc),fun j hj=>?_⟩
   have hk:j / 3 < ps.length:=by omega
   obtain ⟨⟨q0,q1,q2⟩,_⟩:=hps (j / 3) hk;simp only[Addr.add_lit,Nat.add_zero] at q0 q1 q2
   have hj3:j=j / 3*3+j % 3:=by omega
   rcases (show j % 3=0∨j % 3=1∨j % 3=2 from by omega) with r | r | r
   ·rw[hj3,r,Nat.add_zero,q0,zqd ps _ hk]
   ·rw[hj3,r,← Nat.add_assoc,q1,zpd ps _ hk]
   ·rw[hj3,r,← Nat.add_assoc,q2,zpu ps _ hk]
  ·obtain ⟨i,hi,rfl⟩:=List.getElem_of_mem hp;exact (hps i hi).2
end
end Go.Proofs.YtbohndgbfbfldaaGreatDoor

namespace Go.Proofs.YtbohndgbfbfldaaGreatDoor
open Go.RowKit
def ldW (ws:List Int) (ps:List St) (k:Nat):Int:=zga (k:Int) (ws[k]?.getD 0) ps
theorem zzz {ws:List Int} {ps:List St} {k:Nat} (h:k < ws.length):ldW ws ps k=zga (k:Int) ws[k] ps:=by unfold ldW;simp[h]
theorem yaam {ws:List Int} {ps:List St} (h:pmB ws ps=true):ws.length=336:=(zll h).1
theorem zmu (v:Value) (ws:List Int) (ps:List St) (w:World) (h:RdPm w v ws ps) (hw:ws.length≤1048576) (hp:ps.length≤1048576) (ha:8 < ws.length) :
  Calls Tryz.prog 76 #[v] w fun e w'=>e=.returned (.int .i64 (ldW ws ps 8))∧Below w.heap.size w w':=by
 have HR:=zaa h;obtain ⟨vW,vP,rfl,h1,h2⟩:=h;obtain ⟨aW,cW,rfl,_⟩:=h1.shape;obtain ⟨aP,cP,rfl,_⟩:=h2.shape;clear h1 h2;have hb0:Below w.heap.size w (w.alloc (.cells #[.slice aW ws.length cW,.slice aP ps.length cP] 25)):=(Below.refl _ _).alloc (Nat.le_refl _) _;rw[zzz ha];go_enter Tryz.func76,Tryz.ntmps76;go_wp2_with fail;refine (zib _ ws ps 8 _ (HR.o.below hb0) hw hp ha).mono ?_;rintro e w2 ⟨rfl,hb2⟩;go_wp2;go_ret;exact ⟨rfl,zab hb0 hb2 (by simp)⟩
def dvB (ws:List Int) (ps:List St) (es:List Int) (qs:List Se):Bool:=(pmB ws ps && zir es qs) && riB (zbk ws ps)
theorem zel {a b c:World} (h1:Below a.heap.size a b) (h2:Below b.heap.size b c):Below a.heap.size a c:=zab h1 h2 h1.size
structure RimI (W w:World) (bM:Nat) (vI vD:Value) (xs:List Ino) (ds:List Den):Prop where
 m:w.heap[bM]?=some (.cells #[vI,vD] 123 (0,0))
 i:w.ownsRow W.heap.size 149 11 vI xs.length (zgq xs)
 d:w.ownsRow W.heap.size 143 3 vD ds.length (zcv ds)
 b:Below W.heap.size W w
 hb:W.heap.size≤bM
theorem RimI.lt {W w:World} {bM:Nat} {vI vD:Value} {xs:List Ino} {ds:List Den} (h:RimI W w bM vI vD xs ds):bM < w.heap.size:=(Array.getElem?_eq_some_iff.1 h.m).1
theorem RimI.z {W w:World} {bM:Nat} {vI vD:Value} {xs:List Ino} {ds:List Den} (h:RimI W w bM vI vD xs ds):W.heap.size≤w.heap.size:=h.b.size
theorem RimI.below {W w w':World} {bM:Nat} {vI vD:Value} {xs:List Ino} {ds:List Den} (h:RimI W w bM vI vD xs ds) (hb:Below w.heap.size w w'):RimI W w' bM vI vD xs ds :=
 ⟨(hb.block _ h.lt).trans h.m,((zai h.i).below hb (Nat.le_refl _)).1,((zai h.d).below hb (Nat.le_refl _)).1,zab h.b hb h.z,h.hb⟩
theorem zbp {w:World} {base:Nat} {e t:TypeId} {size:Nat} {v:Value} {n:Nat} {xs:List Value} {b:Nat} {cs:Array Value} {fr:Nat×Nat} (h:w.ownsRow base e size v n xs) (hb:w.heap[b]?=some (.cells cs t fr)) (hne:e≠t):v.ownBlock≠some b:=by
 intro hv;obtain ⟨_,h1 | ⟨g,cap,cur,e1,_,hg,_⟩⟩:=h
 ·rw[h1.1] at hv;cases hv
 ·rw[e1] at hv
  have:g=b:=by simpa[Value.ownBlock] using hv
  subst this;rw[hg] at hb;injection hb with hb;injection hb with _ ht _;exact hne ht
theorem zge:(149:Nat)≠123:=by decide
theorem zfo:(143:Nat)≠123:=by decide
theorem zuu:(149:Nat)≠143:=by decide
theorem zxn (l l':List Ino):zgq (l ++ l')=zgq l ++ zgq l':=by simp[zgq]
theorem znw (l:List Ino):∀ u∈zgq l,u.oneCell'=true:=by
 intro u hu;simp only[zgq,List.mem_flatMap] at hu;obtain ⟨m,_,hm⟩:=hu;simp[Ino.cs] at hm
 rcases hm with rfl | rfl | rfl | rfl | rfl | rfl | rfl | rfl | rfl | rfl | rfl <;> rfl
theorem RimI.growI {W w w':World} {bM:Nat} {vI vD v':Value} {xs:List Ino} {ds:List Den} (h:RimI W w bM vI vD xs ds) (x:Ino) (ho:w'.ownsRow W.heap.size 149 11 v' (xs.length+1) (zgq xs ++ zgq [x])) (hg:w.grownBy w' vI.ownBlock) :
  w'.heap[bM]?=some (.cells #[vI,vD] 123 (0,0))∧RimI W (w'.setCell ⟨bM,0,none⟩ v') bM v' vD (xs ++ [x]) ds:=by
 have hm:w'.heap[bM]?=some (.cells #[vI,vD] 123 (0,0)):=(hg.block _ h.lt (zbp h.i h.m zge).symm).trans h.m;have hd:=(Row.apart (zai h.d) (zai h.i) (Ne.symm zuu) hg).1;have hbw:=h.b.grown hg h.z (fun q hq=>(h.i.lt q hq).1);have hm2:(w'.setCell ⟨bM,0,none⟩ v').heap[bM]?=some (.cells #[v',vD] 123 (0,0)):=zcb (xs:=[vI,vD]) hm 0 v';refine ⟨hm,hm2,?_,?_,hbw.setCell h.hb _,h.hb⟩
 ·rw[zxn,List.length_append];exact ownsRow_setCell_other ho (zbp ho hm zge) _
 ·exact ownsRow_setCell_other hd (zbp hd hm zfo) _
theorem RimI.growD {W w w':World} {bM:Nat} {vI vD v':Value} {xs:List Ino} {ds:List Den} (h:RimI W w bM vI vD xs ds) (x:Den) (ho:w'.ownsRow W.heap.size 143 3 v' (ds.length+1) (zcv ds ++ zcv [x])) (hg:w.grownBy w' vD.ownBlock) :
  w'.heap[bM]?=some (.cells #[vI,vD] 123 (0,0))∧RimI W (w'.setCell ⟨bM,1,none⟩ v') bM vI v' xs (ds ++ [x]):=by
 have hm:w'.heap[bM]?=some (.cells #[vI,vD] 123 (0,0)):=(hg.block _ h.lt (zbp h.d h.m zfo).symm).trans h.m;have hd:=(Row.apart (zai h.i) (zai h.d) zuu hg).1;have hbw:=h.b.grown hg h.z (fun q hq=>(h.d.lt q hq).1);have hm2:(w'.setCell ⟨bM,1,none⟩ v').heap[bM]?=some (.cells #[vI,v'] 123 (0,0)):=zcb (xs:=[vI,vD]) hm 1 v';refine ⟨hm,hm2,?_,?_,hbw.setCell h.hb _,h.hb⟩
 ·exact ownsRow_setCell_other hd (zbp hd hm zge) _
 ·rw[zfe,List.length_append];exact ownsRow_setCell_other ho (zbp ho hm zfo) _
theorem zaj {a w:World} (h:Below a.heap.size a w) (o:Obj):Below a.heap.size a (w.alloc o):=h.alloc h.size o
structure BoxZ (t:TypeId) (wr w:World) (b:Nat) (cs:List Value):Prop where
 ge:wr.heap.size≤b
 at_:w.heap[b]?=some (.cells cs.toArray t (0,0))
theorem BoxZ.new {t:TypeId} {wr Y:World} {cs:List Value} (h:Below wr.heap.size wr Y):BoxZ t wr (Y.alloc (.cells cs.toArray t)) Y.heap.size cs:=⟨h.size,zah rfl⟩
theorem BoxZ.drew {t:TypeId} {wr w:World} {b:Nat} {cs:List Value} (h:BoxZ t wr w b cs):BoxZ t wr w.drew b cs:=⟨h.ge,h.at_⟩
theorem BoxZ.lt {t:TypeId} {wr w:World} {b:Nat} {cs:List Value} (h:BoxZ t wr w b cs):b < w.heap.size:=(Array.getElem?_eq_some_iff.1 h.at_).1
theorem BoxZ.below {t:TypeId} {wr X w:World} {b:Nat} {cs:List Value} (h:BoxZ t wr X b cs) (hb:Below X.heap.size X w):BoxZ t wr w b cs:=⟨h.ge,(hb.block _ h.lt).trans h.at_⟩
theorem BoxZ.put {t:TypeId} {wr w:World} {b:Nat} {cs:List Value} (h:BoxZ t wr w b cs) (j:Nat) (u:Value):BoxZ t wr (w.setCell ⟨b,j,none⟩ u) b (cs.set j u):=⟨h.ge,zcb h.at_ j u⟩
theorem BoxZ.cell {t:TypeId} {wr w:World} {b:Nat} {cs:List Value} (h:BoxZ t wr w b cs) (j:Nat):w.cell? ⟨b,j,none⟩=cs[j]?∧w.frozen? ⟨b,j,none⟩=false:=zat h.at_ j
end Go.Proofs.YtbohndgbfbfldaaGreatDoor
