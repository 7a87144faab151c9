/- An image under way: its box, its two rows. -/
import Derived.Test.YtogcbbkhnpmgeaaGreatDoorZAS
namespace Go.Proofs.YtogcbbkhnpmgeaaGreatDoor
open Go.RowKit
theorem zpj{a b c:World}(h1:zB a b)(h2:zB b c):zB a c:=zab h1 h2 h1.size
structure RimI(W w:World)(bM:Nat)(vI vD:Value)(xs:List Ino)(ds:List Den):Prop where
 m:w.heap[bM]?=some (.cells #[vI,vD] 51 (0,0))
 i:w.ownsRow W.heap.size 87 11 vI xs.length (inos xs)
 d:w.ownsRow W.heap.size 90 3 vD ds.length (dens ds)
 b:zB W w
 hb:W.heap.size<=bM
theorem RimI.lt{W w:World}{bM:Nat}{vI vD:Value}{xs:List Ino}{ds:List Den}(h:RimI W w bM vI vD xs ds):bM<w.heap.size:=(Array.getElem?_eq_some_iff.1 h.m).1
theorem RimI.z{W w:World}{bM:Nat}{vI vD:Value}{xs:List Ino}{ds:List Den}(h:RimI W w bM vI vD xs ds):W.heap.size<=w.heap.size:=h.b.size
theorem RimI.below{W w w':World}{bM:Nat}{vI vD:Value}{xs:List Ino}{ds:List Den}(h:RimI W w bM vI vD xs ds)(hb:zB w w'):RimI W w' bM vI vD xs ds :=
 ⟨(hb.block _ h.lt).trans h.m,((zad h.i).below hb zL).1,((zad h.d).below hb zL).1,zab h.b hb h.z,h.hb⟩
theorem zco{w:World}{base:Nat}{e t:TypeId}{size:Nat}{v:Value}{n:Nat}{xs:List Value}{b:Nat}{cs:Array Value}{fr:Nat×Nat}(h:w.ownsRow base e size v n xs)(hb:w.heap[b]?=some (.cells cs t fr))(hne:e≠t):v.ownBlock≠some b:=by
 intro hv;obtain⟨_,h1 | ⟨g,cap,cur,e1,_,hg,_⟩⟩:=h
 ·rw[h1.1]at hv;cases hv
 ·rw[e1]at hv
  have:g=b:=by simpa[Value.ownBlock]using hv
  subst this;rw[hg]at hb;injection hb with hb;injection hb with _ ht _;exact hne ht
theorem zkm:(87:Nat)≠51:=by decide
theorem zkz:(90:Nat)≠51:=by decide
theorem yaix:(87:Nat)≠90:=by decide
theorem yaoe(l l':List Ino):inos (l++l')=inos l++inos l':=by simp[inos]
theorem ztl(l:List Ino):∀ u∈inos l,u.oneCell'=true:=by
 intro u hu;simp only[inos,List.mem_flatMap]at hu;obtain⟨m,_,hm⟩:=hu;simp[Ino.cs]at hm
 rcases hm with rfl|rfl|rfl|rfl|rfl|rfl|rfl|rfl|rfl|rfl|rfl<;>rfl
theorem RimI.growI{W w w':World}{bM:Nat}{vI vD v':Value}{xs:List Ino}{ds:List Den}(h:RimI W w bM vI vD xs ds)(x:Ino)(ho:w'.ownsRow W.heap.size 87 11 v' (xs.length+1) (inos xs++inos [x]))(hg:w.grownBy w' vI.ownBlock) :
  w'.heap[bM]?=some (.cells #[vI,vD] 51 (0,0))/\RimI W (w'.setCell ⟨bM,0,none⟩ v') bM v' vD (xs++[x]) ds:=by
 have hm:w'.heap[bM]?=some (.cells #[vI,vD] 51 (0,0)):=(hg.block _ h.lt (zco h.i h.m zkm).symm).trans h.m;have hd:=(Row.apart (zad h.d) (zad h.i) (Ne.symm yaix) hg).1;have hbw:=h.b.grown hg h.z (fun q hq=>(h.i.lt q hq).1);have hm2:(w'.setCell ⟨bM,0,none⟩ v').heap[bM]?=some (.cells #[v',vD] 51 (0,0)):=zcd (xs:=[vI,vD]) hm 0 v';refine⟨hm,hm2,?_,?_,hbw.setCell h.hb _,h.hb⟩
 ·rw[yaoe,List.length_append];exact ownsRow_setCell_other ho (zco ho hm zkm) _
 ·exact ownsRow_setCell_other hd (zco hd hm zkz) _
theorem RimI.growD{W w w':World}{bM:Nat}{vI vD v':Value}{xs:List Ino}{ds:List Den}(h:RimI W w bM vI vD xs ds)(x:Den)(ho:w'.ownsRow W.heap.size 90 3 v' (ds.length+1) (dens ds++dens [x]))(hg:w.grownBy w' vD.ownBlock) :
  w'.heap[bM]?=some (.cells #[vI,vD] 51 (0,0))/\RimI W (w'.setCell ⟨bM,1,none⟩ v') bM vI v' xs (ds++[x]):=by
 have hm:w'.heap[bM]?=some (.cells #[vI,vD] 51 (0,0)):=(hg.block _ h.lt (zco h.d h.m zkz).symm).trans h.m;have hd:=(Row.apart (zad h.i) (zad h.d) yaix hg).1;have hbw:=h.b.grown hg h.z (fun q hq=>(h.d.lt q hq).1);have hm2:(w'.setCell ⟨bM,1,none⟩ v').heap[bM]?=some (.cells #[vI,v'] 51 (0,0)):=zcd (xs:=[vI,vD]) hm 1 v';refine⟨hm,hm2,?_,?_,hbw.setCell h.hb _,h.hb⟩
 ·exact ownsRow_setCell_other hd (zco hd hm zkm) _
 ·rw[zjo,List.length_append];exact ownsRow_setCell_other ho (zco ho hm zkz) _
theorem zav{a w:World}(h:zB a w)(o:Obj):zB a (w.alloc o):=h.alloc h.size o
structure BoxZ(t:TypeId)(wr w:World)(b:Nat)(cs:List Value):Prop where
 ge:wr.heap.size<=b
 at_:w.heap[b]?=some (.cells cs.toArray t (0,0))
theorem BoxZ.new{t:TypeId}{wr Y:World}{cs:List Value}(h:zB wr Y):BoxZ t wr (Y.alloc (.cells cs.toArray t)) Y.heap.size cs:=⟨h.size,zah rfl⟩
theorem BoxZ.drew{t:TypeId}{wr w:World}{b:Nat}{cs:List Value}(h:BoxZ t wr w b cs):BoxZ t wr w.drew b cs:=⟨h.ge,h.at_⟩
theorem BoxZ.lt{t:TypeId}{wr w:World}{b:Nat}{cs:List Value}(h:BoxZ t wr w b cs):b<w.heap.size:=(Array.getElem?_eq_some_iff.1 h.at_).1
theorem BoxZ.below{t:TypeId}{wr X w:World}{b:Nat}{cs:List Value}(h:BoxZ t wr X b cs)(hb:zB X w):BoxZ t wr w b cs:=⟨h.ge,(hb.block _ h.lt).trans h.at_⟩
theorem BoxZ.put{t:TypeId}{wr w:World}{b:Nat}{cs:List Value}(h:BoxZ t wr w b cs)(j:Nat)(u:Value):BoxZ t wr (w.setCell ⟨b,j,none⟩ u) b (cs.set j u):=⟨h.ge,zcd h.at_ j u⟩
theorem BoxZ.cell{t:TypeId}{wr w:World}{b:Nat}{cs:List Value}(h:BoxZ t wr w b cs)(j:Nat):w.cell? ⟨b,j,none⟩=cs[j]?/\w.frozen? ⟨b,j,none⟩=false:=zak h.at_ j
end Go.Proofs.YtogcbbkhnpmgeaaGreatDoor
