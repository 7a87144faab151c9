/- Several texts laid together: DtA, RdB, RdC, RdD, DtC, DtD. -/
import Derived.Test.YtbohndgbfbfldaaGreatDoorZBL
import Derived.Test.YtbohndgbfbfldaaGreatDoorZBM
import Derived.Test.YtbohndgbfbfldaaGreatDoorIntS
import Derived.Test.YtbohndgbfbfldaaGreatDoorZAG
import Derived.Test.YtbohndgbfbfldaaGreatDoorZAP
import Derived.Test.YtbohndgbfbfldaaGreatDoorZAM
import Derived.Test.YtbohndgbfbfldaaGreatDoorZAC
import Derived.Test.YtbohndgbfbfldaaGreatDoorZAS
import Derived.Test.YtbohndgbfbfldaaGreatDoorZAF
import Derived.Test.YtbohndgbfbfldaaGreatDoorZAQ
import Derived.Deep.RegionWith
import Derived.BigRegion
import Derived.BigQuiet
import Derived.Deep.QuietTactic
import Derived.Deep.DeepCutAuto
import Derived.Deep.RegionLaw
import Derived.Deep.RegionHeld3
import Derived.Test.YtbohndgbfbfldaaGreatDoorZAK
import Derived.Deep.LoopGhost
import Derived.Test.YtbohndgbfbfldaaGreatDoorDev
import Derived.Test.YtbohndgbfbfldaaGreatDoorZAD
import Derived.Test.YtbohndgbfbfldaaGreatDoorImX
import Derived.Test.YtbohndgbfbfldaaGreatDoorZAJ
import Derived.Test.YtbohndgbfbfldaaGreatDoorZBF
import Derived.Maps.Views
import Derived.Laws.OwnMore
import Derived.Lib.SplitLaws
import Derived.Lib.IndexBytes
import Derived.Sort.Walk0
import Derived.Laws.Cover1
namespace Go.Proofs.YtbohndgbfbfldaaGreatDoor
open Go.RowKit
def pgV (ws:List Int) (ps:List St) (es:List Int) (qs:List Se) (e:Int):Int:=if e % 4=1 then ldW ws ps (312+e / 4).toNat else if e % 4=2 then zhf (e / 4) (es[(e / 4).toNat]?.getD 0) qs else 0
def dvB (ws:List Int) (ps:List St) (es:List Int) (qs:List Se):Bool:=(pmB ws ps && zfa es qs) && riB (zcq ws ps)
def pgL (ws:List Int) (ps:List St) (es:List Int) (qs:List Se) (x:Ino) (k:Nat):List Int:=(List.range k).map fun j=>pgV ws ps es qs (x.map.getD j 0)
theorem zzz (ws:List Int) (ps:List St) (es:List Int) (qs:List Se) (x:Ino) (k:Nat):pgL ws ps es qs x (k+1)=pgL ws ps es qs x k ++ [pgV ws ps es qs (x.map.getD k 0)]:=by
 unfold pgL;rw[List.range_succ,List.map_append];rfl
theorem zxr {a b c:World} (h1:Below a.heap.size a b) (h2:Below b.heap.size b c):Below a.heap.size a c:=zab h1 h2 h1.size
structure RimI (W w:World) (bM:Nat) (vI vD:Value) (xs:List Ino) (ds:List Den):Prop where
 m:w.heap[bM]?=some (.cells #[vI,vD] 123 (0,0))
 i:w.ownsRow W.heap.size 149 11 vI xs.length (zqu xs)
 d:w.ownsRow W.heap.size 143 3 vD ds.length (zbm ds)
 b:Below W.heap.size W w
 hb:W.heap.size≤bM
theorem RimI.lt {W w:World} {bM:Nat} {vI vD:Value} {xs:List Ino} {ds:List Den} (h:RimI W w bM vI vD xs ds):bM < w.heap.size:=(Array.getElem?_eq_some_iff.1 h.m).1
theorem RimI.z {W w:World} {bM:Nat} {vI vD:Value} {xs:List Ino} {ds:List Den} (h:RimI W w bM vI vD xs ds):W.heap.size≤w.heap.size:=h.b.size
theorem RimI.below {W w w':World} {bM:Nat} {vI vD:Value} {xs:List Ino} {ds:List Den} (h:RimI W w bM vI vD xs ds) (hb:Below w.heap.size w w'):RimI W w' bM vI vD xs ds :=
 ⟨(hb.block _ h.lt).trans h.m,((zai h.i).below hb (Nat.le_refl _)).1,((zai h.d).below hb (Nat.le_refl _)).1,zab h.b hb h.z,h.hb⟩
theorem zbf {w:World} {base:Nat} {e t:TypeId} {size:Nat} {v:Value} {n:Nat} {xs:List Value} {b:Nat} {cs:Array Value} {fr:Nat×Nat} (h:w.ownsRow base e size v n xs) (hb:w.heap[b]?=some (.cells cs t fr)) (hne:e≠t):v.ownBlock≠some b:=by
 intro hv;obtain ⟨_,h1 | ⟨g,cap,cur,e1,_,hg,_⟩⟩:=h
 ·rw[h1.1] at hv;cases hv
 ·rw[e1] at hv
  have:g=b:=by simpa[Value.ownBlock] using hv
  subst this;rw[hg] at hb;injection hb with hb;injection hb with _ ht _;exact hne ht
theorem ziq:(149:Nat)≠123:=by decide
theorem zhr:(143:Nat)≠123:=by decide
theorem zwp:(149:Nat)≠143:=by decide
theorem zzf (l l':List Ino):zqu (l ++ l')=zqu l ++ zqu l':=by simp[zqu]
theorem zwj (l:List Ino):∀ u∈zqu l,u.oneCell'=true:=by
 intro u hu;simp only[zqu,List.mem_flatMap] at hu;obtain ⟨m,_,hm⟩:=hu;simp[Ino.cs] at hm
 rcases hm with rfl | rfl | rfl | rfl | rfl | rfl | rfl | rfl | rfl | rfl | rfl <;> rfl
theorem RimI.growI {W w w':World} {bM:Nat} {vI vD v':Value} {xs:List Ino} {ds:List Den} (h:RimI W w bM vI vD xs ds) (x:Ino) (ho:w'.ownsRow W.heap.size 149 11 v' (xs.length+1) (zqu xs ++ zqu [x])) (hg:w.grownBy w' vI.ownBlock) :
  w'.heap[bM]?=some (.cells #[vI,vD] 123 (0,0))∧RimI W (w'.setCell ⟨bM,0,none⟩ v') bM v' vD (xs ++ [x]) ds:=by
 have hm:w'.heap[bM]?=some (.cells #[vI,vD] 123 (0,0)):=(hg.block _ h.lt (zbf h.i h.m ziq).symm).trans h.m;have hd:=(Row.apart (zai h.d) (zai h.i) (Ne.symm zwp) hg).1;have hbw:=h.b.grown hg h.z (fun q hq=>(h.i.lt q hq).1);have hm2:(w'.setCell ⟨bM,0,none⟩ v').heap[bM]?=some (.cells #[v',vD] 123 (0,0)):=zal (xs:=[vI,vD]) hm 0 v';refine ⟨hm,hm2,?_,?_,hbw.setCell h.hb _,h.hb⟩
 ·rw[zzf,List.length_append];exact ownsRow_setCell_other ho (zbf ho hm ziq) _
 ·exact ownsRow_setCell_other hd (zbf hd hm zhr) _
theorem RimI.growD {W w w':World} {bM:Nat} {vI vD v':Value} {xs:List Ino} {ds:List Den} (h:RimI W w bM vI vD xs ds) (x:Den) (ho:w'.ownsRow W.heap.size 143 3 v' (ds.length+1) (zbm ds ++ zbm [x])) (hg:w.grownBy w' vD.ownBlock) :
  w'.heap[bM]?=some (.cells #[vI,vD] 123 (0,0))∧RimI W (w'.setCell ⟨bM,1,none⟩ v') bM vI v' xs (ds ++ [x]):=by
 have hm:w'.heap[bM]?=some (.cells #[vI,vD] 123 (0,0)):=(hg.block _ h.lt (zbf h.d h.m zhr).symm).trans h.m;have hd:=(Row.apart (zai h.i) (zai h.d) zwp hg).1;have hbw:=h.b.grown hg h.z (fun q hq=>(h.d.lt q hq).1);have hm2:(w'.setCell ⟨bM,1,none⟩ v').heap[bM]?=some (.cells #[vI,v'] 123 (0,0)):=zal (xs:=[vI,vD]) hm 1 v';refine ⟨hm,hm2,?_,?_,hbw.setCell h.hb _,h.hb⟩
 ·exact ownsRow_setCell_other hd (zbf hd hm ziq) _
 ·rw[zfi,List.length_append];exact ownsRow_setCell_other ho (zbf ho hm zhr) _
theorem zba {a w:World} (h:Below a.heap.size a w) (o:Obj):Below a.heap.size a (w.alloc o):=h.alloc h.size o
structure BoxZ (t:TypeId) (wr w:World) (b:Nat) (cs:List Value):Prop where
 ge:wr.heap.size≤b
 at_:w.heap[b]?=some (.cells cs.toArray t (0,0))
theorem BoxZ.new {t:TypeId} {wr Y:World} {cs:List Value} (h:Below wr.heap.size wr Y):BoxZ t wr (Y.alloc (.cells cs.toArray t)) Y.heap.size cs:=⟨h.size,zae rfl⟩
theorem BoxZ.cell {t:TypeId} {wr w:World} {b:Nat} {cs:List Value} (h:BoxZ t wr w b cs) (j:Nat):w.cell? ⟨b,j,none⟩=cs[j]?∧w.frozen? ⟨b,j,none⟩=false:=zag h.at_ j
theorem yaeq (w1:World) (x:Ino):Rd (w1.alloc (.cells #[.int .i64 x.kind,.int .i64 x.size,.int .i64 x.links,.int .i64 x.m0,.int .i64 x.m1,.int .i64 x.m2,.int .i64 x.m3,.int .i64 x.m4,.int .i64 x.m5,.int .i64 x.m6,.int .i64 x.m7] 149)) 11 (.slice (some ⟨w1.heap.size,0,none⟩) 1 1) 1 (zqu [x]):=by
 refine ⟨rfl,_,_,rfl,⟨Nat.le_refl _,fun e=>by cases e⟩,fun _=>⟨w1.heap.size,0,rfl,by simp,fun j hj=>?_⟩⟩;rw[Nat.zero_add];exact (zag (xs:=x.cs) (zae rfl) j).1
theorem yaax {ws:List Int} {ps:List St} (h:pmB ws ps=false):riC ws ps=1∧riN ws ps=[]∧riD ws ps=[]:=by
 have e:riC ws ps=1:=by unfold riC;rw[h];rfl
 exact ⟨e,by unfold riN;rw[e];rfl,by unfold riD;rw[e];rfl⟩
theorem zuw {ws:List Int} {ps:List St} (h:pmB ws ps=true) (q:riB (zcq ws ps)=false):riC ws ps=3∧riN ws ps=[]∧riD ws ps=[]:=by
 have e:riC ws ps=3:=by unfold riC;rw[h,q];rfl
 exact ⟨e,by unfold riN;rw[e];rfl,by unfold riD;rw[e];rfl⟩
theorem yafg {ws:List Int} {ps:List St} (h:pmB ws ps=true) (q:riB (zcq ws ps)=true):riC ws ps=0∧riN ws ps=zbj (zcq ws ps) 16∧riD ws ps=zbp (zcq ws ps) 24:=by
 have e:riC ws ps=0:=by unfold riC;rw[h,q];rfl
 exact ⟨e,by unfold riN;rw[if_pos e],by unfold riD;rw[if_pos e]⟩
theorem zdx (w:World) (lo hi:Nat):RowIm w lo hi (.agg #[.slice none 0 0,.slice none 0 0]) [] []:=⟨_,_,rfl,Row.nil _ _ _ _ _,Row.nil _ _ _ _ _⟩
theorem zqg {ws:List Int} {ps:List St} (h:pmB ws ps=true) (n:Nat):∀ k (hk:k < (zbj (zcq ws ps) n).length),(zbj (zcq ws ps) n)[k].R:=by
 intro k hk;have hm:(zbj (zcq ws ps) n)[k]∈(List.range n).map (zln (zcq ws ps)):=List.getElem_mem hk;obtain ⟨j,_,e⟩:=List.mem_map.1 hm;rw[← e];exact yadl h j
theorem zir (ls:List Int) (n:Nat):∀ k (hk:k < (zbp ls n).length),(zbp ls n)[k].name.size≤maxLen:=by
 intro k hk;have hm:(zbp ls n)[k]∈(List.range n).map (zom ls):=List.getElem_mem hk;obtain ⟨j,_,e⟩:=List.mem_map.1 hm;rw[← e];exact zsa ls j
theorem zka {w:World} {lo hi lo' hi':Nat} {v:Value} {xs:List Ino} {ds:List Den} (h:RowIm w lo hi v xs ds) (h1:lo'≤lo) (h2:hi≤hi'):RowIm w lo' hi' v xs ds:=by
 obtain ⟨vI,vD,e,a,b⟩:=h;exact ⟨vI,vD,e,a.wide h1 h2,b.wide h1 h2⟩
theorem zvj {w:World} {lo hi:Nat} {b1 b2 c1 c2 n1 n2:Nat} {xs:List Ino} {ds:List Den} {b:Nat} {cs:Array Value} {fr:Nat×Nat} (h:RowIm w lo hi (.agg #[.slice (some ⟨b1,0,none⟩) n1 c1,.slice (some ⟨b2,0,none⟩) n2 c2]) xs ds) (hb:w.heap[b]?=some (.cells cs 123 fr)) (v0 v1:Value):RowIm ((w.setCell ⟨b,0,none⟩ v0).setCell ⟨b,1,none⟩ v1) lo hi (.agg #[.slice (some ⟨b1,0,none⟩) n1 c1,.slice (some ⟨b2,0,none⟩) n2 c2]) xs ds:=by
 obtain ⟨vI,vD,e,h1,h2⟩:=h;injection e with e
 obtain ⟨rfl,rfl⟩:vI=.slice (some ⟨b1,0,none⟩) n1 c1∧vD=.slice (some ⟨b2,0,none⟩) n2 c2:=by
  have:=congrArg Array.toList e;simp at this;exact ⟨this.1.symm,this.2.symm⟩
 have T1:=zbf h1.1 hb ziq;have T2:=zbf h2.1 hb zhr;exact ⟨_,_,rfl,⟨ownsRow_setCell_other (ownsRow_setCell_other h1.1 T1 _) T1 _,h1.2⟩,⟨ownsRow_setCell_other (ownsRow_setCell_other h2.1 T2 _) T2 _,h2.2⟩⟩
def dvN (ws:List Int) (ps:List St) (es:List Int) (qs:List Se):List Ino:=if dvB ws ps es qs=true then zbj (zcq ws ps) 16 else []
def dvD (ws:List Int) (ps:List St) (es:List Int) (qs:List Se):List Den:=if dvB ws ps es qs=true then zbp (zcq ws ps) 24 else []
theorem yaav {ws:List Int} {ps:List St} {es:List Int} {qs:List Se} (h:(pmB ws ps && zfa es qs)=false):dvB ws ps es qs=false∧dvN ws ps es qs=[]∧dvD ws ps es qs=[]:=by
 have e:dvB ws ps es qs=false:=by unfold dvB;rw[h];rfl
 exact ⟨e,by unfold dvN;rw[e];rfl,by unfold dvD;rw[e];rfl⟩
theorem yadj {ws:List Int} {ps:List St} {es:List Int} {qs:List Se} (h:(pmB ws ps && zfa es qs)=true):dvB ws ps es qs=(riC ws ps == 0)∧dvN ws ps es qs=riN ws ps∧dvD ws ps es qs=riD ws ps:=by
 have p:pmB ws ps=true:=by rw[Bool.and_eq_true] at h;exact h.1
 have e:dvB ws ps es qs=riB (zcq ws ps):=by unfold dvB;rw[h];rfl
 cases q:riB (zcq ws ps) with
 | false =>
  obtain ⟨a,b,c⟩:=zuw p q;rw[q] at e;exact ⟨by rw[e,a];rfl,by unfold dvN;rw[e,b];rfl,by unfold dvD;rw[e,c];rfl⟩
 | true =>
  obtain ⟨a,b,c⟩:=yafg p q;rw[q] at e;exact ⟨by rw[e,a];rfl,by unfold dvN;rw[e,b];rfl,by unfold dvD;rw[e,c];rfl⟩
theorem zwc {w:World} {lo hi:Nat} {vI vD:Value} {xs:List Ino} {ds:List Den} {b:Nat} {cs:Array Value} {fr:Nat×Nat} (h1:Row w 149 11 lo hi vI xs.length (zqu xs)) (h2:Row w 143 3 lo hi vD ds.length (zbm ds)) (hb:w.heap[b]?=some (.cells cs 123 fr)) (v0 v1:Value):RowIm ((w.setCell ⟨b,0,none⟩ v0).setCell ⟨b,1,none⟩ v1) lo hi (.agg #[vI,vD]) xs ds:=by
 have T1:=zbf h1.1 hb ziq;have T2:=zbf h2.1 hb zhr;exact ⟨_,_,rfl,⟨ownsRow_setCell_other (ownsRow_setCell_other h1.1 T1 _) T1 _,h1.2⟩,⟨ownsRow_setCell_other (ownsRow_setCell_other h2.1 T2 _) T2 _,h2.2⟩⟩
theorem zfh {ws:List Int} {ps:List St} {es:List Int} {qs:List Se} (h:dvB ws ps es qs=true):pmB ws ps=true∧zfa es qs=true∧dvN ws ps es qs=zbj (zcq ws ps) 16∧dvD ws ps es qs=zbp (zcq ws ps) 24∧zsz (zbj (zcq ws ps) 16) (zbp (zcq ws ps) 24)=true:=by
 have q:=h;unfold dvB at q;rw[Bool.and_eq_true,Bool.and_eq_true] at q;obtain ⟨⟨a,b⟩,r⟩:=q;unfold riB at r;rw[Bool.and_eq_true,Bool.and_eq_true] at r;exact ⟨a,b,by unfold dvN;rw[if_pos h],by unfold dvD;rw[if_pos h],r.2.2⟩
end Go.Proofs.YtbohndgbfbfldaaGreatDoor
