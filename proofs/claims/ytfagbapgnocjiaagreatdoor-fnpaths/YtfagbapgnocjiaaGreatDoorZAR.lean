import Derived.Test.YtfagbapgnocjiaaGreatDoorZAL
import Derived.Lib.SplitLaws
import Derived.Lib.IndexBytes
import Derived.Sort.Walk0
import Derived.Shelf.Sort.Plain
import Derived.Shelf.Slices.In.SortNone
namespace Go.Proofs.YtfagbapgnocjiaaGreatDoor
open Go.RowKit
def mkB(l:List UInt8):ByteArray:=⟨l.toArray⟩
theorem zhl(l:List UInt8):(mkB l).data.toList=l:=by simp[mkB]
theorem zzb(s:ByteArray):mkB s.data.toList=s:=by
 obtain⟨⟨l⟩⟩:=s;rfl
theorem zmt{a b:ByteArray}(h:a.data.toList=b.data.toList):a=b:=by rw[<- zzb a,<- zzb b,h]
theorem znt(s:ByteArray)(a b:Nat):mkB ((s.data.toList.take b).drop a)=s.extract a b:=by
 apply zmt;rw[zhl,Lib.extract_data,List.drop_take]
def zhr(cur:List UInt8):List UInt8->List (List UInt8)
 | []=>[cur]
 | c::l=>if c=47 then cur::zhr [] l else zhr (cur++[c]) l
theorem ziw(cur:List UInt8):zhr cur []=[cur]:=rfl
theorem zcn(cur:List UInt8)(c:UInt8)(l:List UInt8):zhr cur (c::l)=if c=47 then cur::zhr [] l else zhr (cur++[c]) l:=rfl
theorem zmr:∀ (l cur:List UInt8),(∀ c∈l,¬ c=47)->zhr cur l=[cur++l]
 | [],cur,_=>by rw[ziw,List.append_nil]
 | c::l,cur,h=>by
  rw[zcn,if_neg (h c (List.mem_cons_self ..)),zmr l _ (fun x hx=>h x (List.mem_cons_of_mem _ hx)),List.append_assoc];rfl
theorem zmf:∀ (l cur r:List UInt8),(∀ c∈l,¬ c=47)->zhr cur (l++47::r)=(cur++l)::zhr [] r
 | [],cur,r,_=>by rw[List.nil_append,zcn,if_pos rfl,List.append_nil]
 | c::l,cur,r,h=>by
  rw[List.cons_append,zcn,if_neg (h c (List.mem_cons_self ..)),zmf l _ r (fun x hx=>h x (List.mem_cons_of_mem _ hx)),List.append_assoc];rfl
theorem znv:∀ (l cur:List UInt8),∃ x r,zhr cur l=(cur++x)::r
 | [],cur=>⟨[],[],by rw[ziw,List.append_nil]⟩
 | c::l,cur=>by
  rw[zcn]
  by_cases h:c=47
  ·rw[if_pos h];exact⟨[],_,by rw[List.append_nil]⟩
  ·rw[if_neg h];obtain⟨x,r,e⟩:=znv l (cur++[c]);exact⟨c::x,r,by rw[e,List.append_assoc];rfl⟩
theorem zrn:∀ (l cur:List UInt8),(zhr cur l).length<=l.length+1
 | [],cur=>by rw[ziw];simp
 | c::l,cur=>by
  rw[zcn]
  split
  ·have:=zrn l [];simp only[List.length_cons];omega
  ·have:=zrn l (cur++[c]);simp only[List.length_cons];omega
theorem yalt(l cur:List UInt8):1<=(zhr cur l).length:=by
 obtain⟨x,r,e⟩:=znv l cur;rw[e];simp
theorem zrr:∀ (l cur x:List UInt8),x∈zhr cur l->x.length<=cur.length+l.length
 | [],cur,x,h=>by rw[ziw,List.mem_singleton]at h;rw[h];simp
 | c::l,cur,x,h=>by
  rw[zcn]at h
  split at h
  ·rcases List.mem_cons.1 h with rfl | h
   ·simp
   ·have:=zrr l [] x h;simp only[List.length_nil,List.length_cons]at *;omega
  ·have:=zrr l (cur++[c]) x h;simp only[List.length_append,List.length_cons,List.length_nil]at *;omega
theorem zqf:∀ (k:Nat) (l:List UInt8),Lib.count l [47]=k->Lib.splitK [47] 0 k l=zhr [] l
 | 0,l,h=>by
  show[l]=_
  rw[Lib.count_one]at h;rw[zmr l [] (fun c hc e=>by subst e;have:=List.count_pos_iff.2 hc;omega),List.nil_append]
 | k+1,l,h=>by
  have hm:(47:UInt8)∈l:=by
   rw[Lib.count_one]at h;exact List.count_pos_iff.1 (by omega)
  have hge:=Lib.indexByte_ge l 47;have hi:Lib.index l [47]=Lib.indexByte l 47:=Lib.index_one l 47
  have hne:¬ Lib.indexByte l 47=-1:=fun e=>by
   obtain⟨j,hj,e2⟩:=List.getElem_of_mem hm;exact Lib.indexByte_none e j (by rw[List.getElem?_eq_getElem hj,e2])
  obtain⟨o,ho⟩:∃ o:Nat,Lib.indexByte l 47=(o:Int):=⟨(Lib.indexByte l 47).toNat,by omega⟩
  obtain⟨h1,h2⟩:=Lib.indexByte_some ho;have hol:o<l.length:=(List.getElem?_eq_some_iff.1 h1).1
  have e0:l=l.take o++47::l.drop (o+1):=by
   have hd:l.drop o=47::l.drop (o+1):=by
    rw[List.drop_eq_getElem_cons hol,(List.getElem?_eq_some_iff.1 h1).2]
   rw[<- hd,List.take_append_drop]
  have hno:∀ c∈l.take o,¬ c=47:=fun c hc e=>by
   subst e;obtain⟨j,hj,e2⟩:=List.mem_take_iff_getElem.1 hc;have hj:=Nat.lt_min.1 hj;exact h2 j hj.1 (by rw[List.getElem?_eq_getElem hj.2,e2])
  unfold Lib.splitK;rw[hi,ho,if_neg (by simp),Int.toNat_natCast,Nat.add_zero]
  show l.take o::Lib.splitK [47] 0 k (l.drop (o+1))=zhr [] l
  have hc:Lib.count (l.drop (o+1)) [47]=k:=by
   rw[Lib.count_one]at h ⊢;have hz:(l.take o).count 47=0:=List.count_eq_zero.2 (fun hx=>hno 47 hx rfl);rw[e0,List.count_append,hz,List.count_cons_self]at h;omega
  rw[zqf k _ hc]
  conv=>rhs;rw[e0]
  rw[zmf _ _ _ hno,List.nil_append]
def pcs(s:ByteArray):List ByteArray:=(zhr [] s.data.toList).map mkB
theorem zvf(s:ByteArray):Lib.splitB ⟨#[47]⟩ 0 (Lib.countB s ⟨#[47]⟩) s=pcs s:=by
 have h:=Lib.splitB_data ⟨#[47]⟩ 0 (Lib.countB s ⟨#[47]⟩) s;have h2:=zqf (Lib.countB s ⟨#[47]⟩) s.data.toList rfl;unfold pcs;rw[<- h2];have h3:Lib.splitK [47] 0 (Lib.countB s ⟨#[47]⟩) s.data.toList=(Lib.splitB ⟨#[47]⟩ 0 (Lib.countB s ⟨#[47]⟩) s).map (·.data.toList):=h.symm;rw[h3,List.map_map]
 have:(mkB ∘ fun x:ByteArray=>x.data.toList)=id:=funext fun x=>zzb x
 rw[this,List.map_id]
theorem yaij(s:ByteArray):(pcs s).length<=s.size+1:=by
 unfold pcs;rw[List.length_map,Lib.size_eq];exact zrn _ _
theorem yajk(s:ByteArray):1<=(pcs s).length:=by unfold pcs;rw[List.length_map];exact yalt _ _
theorem zzv(s:ByteArray):∀ k (h:k<(pcs s).length),(pcs s)[k].size<=s.size:=by
 intro k hk;have hm:(pcs s)[k]∈(zhr [] s.data.toList).map mkB:=List.getElem_mem hk;obtain⟨x,hx,e⟩:=List.mem_map.1 hm;have:=zrr _ _ _ hx;rw[<- e,Lib.size_eq,zhl,Lib.size_eq];simpa using this
theorem yaif(s:ByteArray):Lib.countB s ⟨#[47]⟩+1=(pcs s).length:=by
 rw[<- zvf,Lib.splitB_all ⟨#[47]⟩ (by decide) 0 _ s rfl]
theorem yahu{s:ByteArray}{l:List UInt8}(h:s.data.toList=47::l):pcs s=mkB []::pcs (mkB l):=by
 unfold pcs;rw[h,zcn,if_pos rfl,zhl];rfl
theorem yads{s:ByteArray}{c:UInt8}{l:List UInt8}(h:s.data.toList=c::l)(hc:¬ c=47):∃ x r,pcs s=x::r/\¬ x.size=0:=by
 unfold pcs;rw[h,zcn,if_neg hc,List.nil_append];obtain⟨x,r,e⟩:=znv l [c];refine⟨mkB ([c]++x),r.map mkB,by rw[e];rfl,?_⟩;rw[Lib.size_eq,zhl];simp
theorem yalo{s:ByteArray}(h:s.data.toList=[]):pcs s=[mkB []]:=by
 unfold pcs;rw[h];rfl
def isIB:Value->Bool
 | .int _ _=>true
 | _=>false
def isSB:Value->Bool
 | .string _=>true
 | _=>false
def zkb:List Value->Bool
 | []=>true
 | [a]=>!isSB a
 | [a,b]=>!isSB a&&!isSB b
 | a::b::c::t=>!isSB a&&!(isIB a&&isIB b&&isIB c)&&zkb (b::c::t)
theorem zof{a:Value}{l:List Value}(h:zkb (a::l)=true):isSB a=false/\zkb l=true:=by
 match l with
 | []=>simp[zkb]at h;exact⟨h,rfl⟩
 | [b]=>simp[zkb]at h;exact⟨h.1,by simp[zkb,h.2]⟩
 | b::c::t =>
  simp only[zkb,Bool.and_eq_true,Bool.not_eq_true']at h;exact⟨h.1.1,h.2⟩
theorem zvo:∀ {l:List Value},zkb l=true->∀ (j:Nat) (v:Value),l[j]?=some v->isSB v=false
 | [],_,j,v,e=>by cases e
 | a::l,h,0,v,e=>by
  simp only[List.getElem?_cons_zero,Option.some.injEq]at e;rw[<- e];exact(zof h).1
 | a::l,h,j+1,v,e=>zvo (zof h).2 j v (by simpa using e)
theorem zpw:∀ {l:List Value},zkb l=true->∀ (j:Nat) (a b c:Value),l[j]?=some a->l[j+1]?=some b->l[j+2]?=some c->¬ (isIB a=true/\isIB b=true/\isIB c=true)
 | [],_,j,_,_,_,e,_,_=>by cases e
 | x::l,h,0,a,b,c,e1,e2,e3=>by
  match l,h,e2,e3 with
  | [],_,e2,_=>simp at e2
  | [y],_,_,e3=>simp at e3
  | y::z::t,h,e2,e3 =>
   simp only[List.getElem?_cons_zero,List.getElem?_cons_succ,Option.some.injEq]at e1 e2 e3;subst e1 e2 e3;simp only[zkb,Bool.and_eq_true,Bool.not_eq_true']at h;intro q;have:=h.1.2;rw[q.1,q.2.1,q.2.2]at this
   cases this
 | x::l,h,j+1,a,b,c,e1,e2,e3=>zpw (zof h).2 j a b c (by simpa using e1) (by simpa using e2) (by simpa using e3)
def Hard(xs:List Value):Prop:=(∃ (j:Nat) (v:Value),xs[j]?=some v/\isSB v=true)\/∃ (j:Nat) (a b c:Value),xs[j]?=some a/\xs[j+1]?=some b/\xs[j+2]?=some c/\isIB a=true/\isIB b=true/\isIB c=true
structure Soft(w w':World):Prop where
 size:w.heap.size<=w'.heap.size
 blk:∀ j,j<w.heap.size->w'.heap[j]?=w.heap[j]?\/∃ cs t fr,w.heap[j]?=some (.cells cs t fr)/\zkb cs.toList=true
theorem Soft.refl(w:World):Soft w w:=⟨Nat.le_refl _,fun _ _=>.inl rfl⟩
theorem Soft.trans{a b c:World}(h:Soft a b)(k:Soft b c):Soft a c :=
 ⟨Nat.le_trans h.size k.size,fun j hj=>by
  rcases h.blk j hj with e | e
  ·rcases k.blk j (Nat.lt_of_lt_of_le hj h.size)with f | f
   ·exact .inl (f.trans e)
   ·rw[e]at f;exact .inr f
  ·exact .inr e⟩
theorem Soft.of_below{w w':World}(h:zB w w'):Soft w w':=⟨h.size,fun j hj=>.inl (h.block j hj)⟩
theorem Soft.alloc{a w:World}(h:Soft a w)(o:Obj):Soft a (w.alloc o):=h.trans (.of_below (zR.alloc zL _))
theorem Soft.drew{a w:World}(h:Soft a w):Soft a w.drew:=h.trans (.of_below zR.drew)
theorem Soft.set{a w:World}(h:Soft a w){b:Nat}{cs:Array Value}{t:TypeId}{fr:Nat×Nat}(hb:w.heap[b]?=some (.cells cs t fr))(hs:zkb cs.toList=true)(j:Nat)(u:Value):Soft a (w.setCell ⟨b,j,none⟩ u) :=
 h.trans ⟨by simp[World.setCell],fun k _=>by
  by_cases e:k=b
  ·subst e;exact .inr ⟨cs,t,fr,hb,hs⟩
  ·exact .inl (Below.heap_setCell _ _ _ _ e)⟩
theorem Soft.outside{w w':World}{b:Nat}{cs:Array Value}{t:TypeId}{fr:Nat×Nat}(h:Outside b (b+1) w w')(hb:w.heap[b]?=some (.cells cs t fr))(hs:zkb cs.toList=true):Soft w w' :=
 ⟨h.size,fun k hk=>by
  by_cases e:k=b
  ·subst e;exact .inr ⟨cs,t,fr,hb,hs⟩
  ·exact .inl (h.block k hk (by omega))⟩
theorem Rd.soft{w w':World}{size:Nat}{v:Value}{n:Nat}{xs:List Value}(h:Rd w size v n xs)(hs:Soft w w')(hd:0<n*size->Hard xs):Rd w' size v n xs:=by
 by_cases hn:0<n*size
 ·refine h.same hs.size (fun j hj he=>?_)
  rcases hs.blk j hj with e | ⟨cs,t,fr,hb,sf⟩
  ·exact e
  ·exfalso;obtain⟨hl,ao,cap,rfl,_,hc⟩:=h
   have hn':0<n:=by
    rcases Nat.eq_zero_or_pos n with e | e
    ·subst e;simp at hn
    ·exact e
   obtain⟨b',o,rfl,_,hc⟩:=hc hn';simp only[Value.ownBlock,Option.some.injEq]at he;subst he
   have C:∀ k u,xs[k]?=some u->cs.toList[o+k]?=some u:=fun k u e=>by
    have hk:k<n*size:=by
     have:=(List.getElem?_eq_some_iff.1 e).1;omega
    have:=hc k hk;rw[e]at this;simp only[World.cell?,hb]at this;simpa using this
   rcases hd hn with ⟨k,u,e,f⟩ | ⟨k,a,b,c,e1,e2,e3,f1,f2,f3⟩
   ·have:=zvo sf _ _ (C k u e);rw[f]at this
    cases this
   ·exact zpw sf (o+k) a b c (C k a e1) (C (k+1) b e2) (C (k+2) c e3) ⟨f1,f2,f3⟩
 ·obtain⟨h3,ao,cap,rfl,h4,h5⟩:=h;refine⟨h3,ao,cap,rfl,h4,fun hp=>?_⟩;obtain⟨b',o,e,hlt,hc⟩:=h5 hp;exact⟨b',o,e,Nat.lt_of_lt_of_le hlt hs.size,fun j hj=>absurd (Nat.lt_of_le_of_lt (Nat.zero_le _) hj) hn⟩
theorem yags{zs:List Int}(h:3<=zs.length):Hard (zeh zs):=.inr ⟨0,_,_,_,zen zs 0 (by omega),zen zs 1 (by omega),zen zs 2 (by omega),rfl,rfl,rfl⟩
theorem RdI.soft{w w':World}{v:Value}{zs:List Int}(h:RdI w v zs)(hs:Soft w w')(h3:3<=zs.length):RdI w' v zs:=Rd.soft h hs (fun _=>yags h3)
theorem yajx{l:List Mi}(h:0<l.length):Hard (mis l):=by
 have a:=yajf l 0 h;have b:=yaek l 0 h;have c:=yadj l 0 h;rw[Nat.zero_mul]at a b c;exact .inr ⟨0,_,_,_,a,b,c,rfl,rfl,rfl⟩
theorem RdM.soft{w w':World}{v:Value}{l:List Mi}(h:RdM w v l)(hs:Soft w w'):RdM w' v l:=Rd.soft h hs (fun hn=>yajx (by omega))
theorem yafz{l:List ByteArray}(h:0<l.length):Hard (zcs l):=.inl ⟨0,.string l[0],by simp[zcs,h],rfl⟩
theorem RdT.soft{w w':World}{v:Value}{l:List ByteArray}(h:RdT w v l)(hs:Soft w w'):RdT w' v l:=Rd.soft h hs (fun hn=>yafz (by omega))
theorem Rd.softNil{w w':World}{size:Nat}{v:Value}(h:Rd w size v 0 [])(hs:Soft w w'):Rd w' size v 0 []:=Rd.soft h hs (fun hn=>by simp at hn)
theorem RdDev.soft{w w':World}{v:Value}{ws es:List Int}(h:RdDev w v ws [] es [])(hs:Soft w w')(h1:3<=ws.length)(h2:3<=es.length):RdDev w' v ws [] es []:=by
 obtain⟨vW,vP,vS,vQ,rfl,⟨_,_,e1,a,b⟩,⟨_,_,e2,c,d⟩⟩:=h
 cases e1
 cases e2
 exact⟨_,_,_,_,rfl,⟨_,_,rfl,RdI.soft a hs h1,Rd.softNil b hs⟩,⟨_,_,rfl,RdI.soft c hs h2,Rd.softNil d hs⟩⟩
theorem yadf{l:List Ino}(h:0<l.length):Hard (inos l):=.inr ⟨0,_,_,_,by have:=zdm l 0 0 h (by omega);rw[Nat.zero_mul]at this;exact this,by have:=zdm l 0 1 h (by omega);rw[Nat.zero_mul]at this;exact this,by have:=zdm l 0 2 h (by omega);rw[Nat.zero_mul]at this;exact this,rfl,rfl,rfl⟩
theorem RdN.soft{w w':World}{v:Value}{l:List Ino}(h:RdN w v l)(hs:Soft w w'):RdN w' v l:=Rd.soft h hs (fun hn=>yadf (by omega))
theorem RdD.soft{w w':World}{v:Value}{l:List Den}(h:RdD w v l)(hs:Soft w w'):RdD w' v l:=Rd.soft h hs (fun hn=>by
 have h0:0<l.length:=by omega
 exact .inl ⟨1,.string l[0].name,by have:=zzh l 0 h0;rw[Nat.zero_mul]at this;exact this,rfl⟩)
theorem RdIm.soft{w w':World}{v:Value}{ns:List Ino}{ds:List Den}(h:RdIm w v ns ds)(hs:Soft w w'):RdIm w' v ns ds:=by
 obtain⟨a,b,rfl,c,d⟩:=h;exact⟨a,b,rfl,c.soft hs,d.soft hs⟩
def zkw:List Int:=List.replicate 336 0
def zs32:List Int:=List.replicate 32 0
theorem zej:zkw.length=336:=List.length_replicate ..
theorem zza:zs32.length=32:=List.length_replicate ..
def ndW:List Int:=((zkw.set 0 7).set 48 2).set 50 1
def n336:Array Value:=(zeh zkw).toArray
def n32:Array Value:=(zeh zs32).toArray
theorem yaks:madeCells #[Value.I 0] (336*1)=n336:=by kernel_rfl
theorem yary:madeCells #[Value.I 0] (32*1)=n32:=by kernel_rfl
theorem zvl(w:World):(Instr.makeSlice 70 (.I 336) (.I 336)).run Tryz.prog w=.ok (.slice (some ⟨w.heap.size,0,none⟩) 336 336) (w.alloc (.cells n336 3)):=by
 rw[<- yaks];exact zit (P:=Tryz.prog) 70 3 (.I 0) 1 8 Tryz.underlying70 zmu .i64 .i64 336 (by decide) (by decide) w
theorem yacj(w:World):(Instr.makeSlice 70 (.I 32) (.I 32)).run Tryz.prog w=.ok (.slice (some ⟨w.heap.size,0,none⟩) 32 32) (w.alloc (.cells n32 3)):=by
 rw[<- yary];exact zit (P:=Tryz.prog) 70 3 (.I 0) 1 8 Tryz.underlying70 zmu .i64 .i64 32 (by decide) (by decide) w
structure NDc(w0 wx:World)(bw bs bx:Nat)(vP vQ:Value)(W:List Int):Prop where
 hw:wx.heap[bw]?=some (.cells (zeh W).toArray 3 (0,0))
 hs:wx.heap[bs]?=some (.cells n32 3 (0,0))
 hx:wx.heap[bx]?=some (.cells #[.slice (some ⟨bw,0,none⟩) 336 336,vP,.slice (some ⟨bs,0,none⟩) 32 32,vQ] 78 (0,0))
 d1:¬ bw=bs
 d2:¬ bw=bx
 d3:¬ bs=bx
 l1:w0.heap.size<=bw
 l2:w0.heap.size<=bs
 l3:w0.heap.size<=bx
 b:zB w0 wx
theorem NDc.drew{w0 wx:World}{bw bs bx:Nat}{vP vQ:Value}{W:List Int}(h:NDc w0 wx bw bs bx vP vQ W):NDc w0 wx.drew bw bs bx vP vQ W :=
 ⟨h.hw,h.hs,h.hx,h.d1,h.d2,h.d3,h.l1,h.l2,h.l3,h.b.drew⟩
theorem NDc.mk0 {w0 wx:World} {bw bs bx:Nat} {vP vQ:Value} (hx:wx.heap[bx]?=some (.cells #[.slice (some ⟨bw,0,none⟩) 336 336,vP,.slice (some ⟨bs,0,none⟩) 32 32,vQ] 78 (0,0)))
  (hw:wx.heap[bw]?=some (.cells n336 3 (0,0))) (hs:wx.heap[bs]?=some (.cells n32 3 (0,0))) (d1:¬ bw=bs) (d2:¬ bw=bx) (d3:¬ bs=bx) (l1:w0.heap.size<=bw) (l2:w0.heap.size<=bs) (l3:w0.heap.size<=bx) (b:zB w0 wx):NDc w0 wx bw bs bx vP vQ zkw:=⟨hw,hs,hx,d1,d2,d3,l1,l2,l3,b⟩
theorem NDc.store{w0 wx:World}{bw bs bx:Nat}{vP vQ:Value}{W:List Int}(h:NDc w0 wx bw bs bx vP vQ W)(j:Nat)(x:Int):NDc w0 (wx.setCell ⟨bw,j,none⟩ (.I x)) bw bs bx vP vQ (W.set j x):=by
 have d1:=h.d1;have d2:=h.d2;refine⟨?_,(Below.heap_setCell _ _ _ _ (by simp only;omega)).trans h.hs,(Below.heap_setCell _ _ _ _ (by simp only;omega)).trans h.hx,h.d1,h.d2,h.d3,h.l1,h.l2,h.l3,h.b.setCell h.l1 _⟩;rw[<- zlk];exact zbs h.hw j _
theorem NDc.at{w0 wx:World}{bw bs bx:Nat}{vP vQ:Value}{W:List Int}(h:NDc w0 wx bw bs bx vP vQ W)(j:Nat)(hj:j<W.length):wx.cell? ⟨bw,j,none⟩=some (.I W[j])/\wx.frozen? ⟨bw,j,none⟩=false:=by
 obtain⟨a,b⟩:=zat h.hw j;exact⟨a.trans (zen W j hj),b⟩
def NDr(w0:World)(s:Value)(wx:World):Prop:=∃ (bw bs bx:Nat) (aP aQ:Option Addr),s=.pointer (some ⟨bx,0,none⟩)/\NDc w0 wx bw bs bx (.slice aP 0 0) (.slice aQ 0 0) zkw
theorem NDr.mk{w0 wx:World}{bw bs bx:Nat}{aP aQ:Option Addr}(h:NDc w0 wx bw bs bx (.slice aP 0 0) (.slice aQ 0 0) zkw):NDr w0 (.pointer (some ⟨bx,0,none⟩)) wx:=⟨bw,bs,bx,aP,aQ,rfl,h⟩
theorem yaaf{w:World}{b n:Nat}{zs:List Int}(h:w.heap[b]?=some (.cells (zeh zs).toArray 3 (0,0)))(hn:zs.length=n):RdI w (.slice (some ⟨b,0,none⟩) n n) zs:=by
 subst hn;refine⟨by rw[ziz,Nat.mul_one],some ⟨b,0,none⟩,zs.length,rfl,⟨Nat.le_refl _,fun e=>by cases e⟩,fun _=>⟨b,0,rfl,(Array.getElem?_eq_some_iff.1 h).1,fun j hj=>?_⟩⟩;rw[Nat.zero_add];exact(zat (xs:=zeh zs) h j).1
theorem yaay(w:World)(size:Nat)(a:Option Addr):Rd w size (.slice a 0 0) 0 []:=⟨by simp,a,0,rfl,⟨Nat.le_refl _,fun _=>rfl⟩,fun h=>absurd h (by omega)⟩
theorem yapz:ndW.length=336:=by unfold ndW;rw[List.length_set,List.length_set,List.length_set,zej]
end Go.Proofs.YtfagbapgnocjiaaGreatDoor

namespace Go.Proofs.YtfagbapgnocjiaaGreatDoor
open Go.Shelf Go.RowKit
def zuz:Go.Shelf.Ren:=⟨fun | 190=>32 | 125=>43 | 258=>54 | 128=>84 | 129=>85 | 302=>98 | 303=>99 | 304=>100 | 305=>101 | 306=>102 | 307=>103 | 308=>104 | 309=>105 | 310=>106 | 333=>134 | 329=>124 | 330=>125 | 334=>135 | 335=>136 | 336=>137 | 344=>161 | n=>n,fun | 31=>28 | 9=>9 | 3=>3 | 46=>91 | 0=>0 | 51=>126 | 53=>128 | 4=>4 | 183=>119 | 182=>118 | 131=>123 | 5=>5 | 218=>154 | 222=>158 | 228=>184 | 229=>31 | n=>n,fun | n=>n⟩
theorem zzr:Go.Proofs.Lays.n190 Tryz.prog zuz:={
 mixed:=by kernel_rfl
 f125:=Tryz.func43.trans (congrArg some (by kernel_rfl))
 f128:=Tryz.func84.trans (congrArg some (by kernel_rfl))
 f129:=Tryz.func85.trans (congrArg some (by kernel_rfl))
 f190:=Tryz.func32.trans (congrArg some (by kernel_rfl))
 f258:=Tryz.func54.trans (congrArg some (by kernel_rfl))
 f302:=Tryz.func98.trans (congrArg some (by kernel_rfl))
 f303:=Tryz.func99.trans (congrArg some (by kernel_rfl))
 f304:=Tryz.func100.trans (congrArg some (by kernel_rfl))
 f305:=Tryz.func101.trans (congrArg some (by kernel_rfl))
 f306:=Tryz.func102.trans (congrArg some (by kernel_rfl))
 f307:=Tryz.func103.trans (congrArg some (by kernel_rfl))
 f308:=Tryz.func104.trans (congrArg some (by kernel_rfl))
 f309:=Tryz.func105.trans (congrArg some (by kernel_rfl))
 f310:=Tryz.func106.trans (congrArg some (by kernel_rfl))
 f329:=Tryz.func124.trans (congrArg some (by kernel_rfl))
 f330:=Tryz.func125.trans (congrArg some (by kernel_rfl))
 f333:=Tryz.func134.trans (congrArg some (by kernel_rfl))
 f334:=Tryz.func135.trans (congrArg some (by kernel_rfl))
 f335:=Tryz.func136.trans (congrArg some (by kernel_rfl))
 f336:=Tryz.func137.trans (congrArg some (by kernel_rfl))
 f344:=Tryz.func161.trans (congrArg some (by kernel_rfl))
 t0:=Tryz.underlying0
 a0:=Tryz.isAgg0
 z0:=Tryz.sizeOf0
 v0:=Tryz.zeroValue0
 t3:=Tryz.underlying3
 a3:=Tryz.isAgg3
 z3:=Tryz.sizeOf3
 v3:=Tryz.zeroValue3
 t4:=Tryz.underlying4
 a4:=Tryz.isAgg4
 z4:=Tryz.sizeOf4
 v4:=Tryz.zeroValue4
 t5:=Tryz.underlying5
 a5:=Tryz.isAgg5
 z5:=Tryz.sizeOf5
 v5:=Tryz.zeroValue5
 t9:=Tryz.underlying9
 a9:=Tryz.isAgg9
 z9:=Tryz.sizeOf9
 v9:=Tryz.zeroValue9
 t31:=Tryz.underlying28
 a31:=Tryz.isAgg28
 z31:=Tryz.sizeOf28
 v31:=Tryz.zeroValue28
 t46:=Tryz.underlying91
 a46:=Tryz.isAgg91
 z46:=Tryz.sizeOf91
 v46:=Tryz.zeroValue91
 t51:=Tryz.underlying126
 a51:=Tryz.isAgg126
 z51:=Tryz.sizeOf126
 v51:=Tryz.zeroValue126
 t53:=Tryz.underlying128
 a53:=Tryz.isAgg128
 z53:=Tryz.sizeOf128
 v53:=Tryz.zeroValue128
 t131:=Tryz.underlying123
 a131:=Tryz.isAgg123
 z131:=Tryz.sizeOf123
 v131:=Tryz.zeroValue123
 t182:=Tryz.underlying118
 a182:=Tryz.isAgg118
 z182:=Tryz.sizeOf118
 v182:=Tryz.zeroValue118
 t183:=Tryz.underlying119
 a183:=Tryz.isAgg119
 z183:=Tryz.sizeOf119
 v183:=Tryz.zeroValue119
 t218:=Tryz.underlying154
 a218:=Tryz.isAgg154
 z218:=Tryz.sizeOf154
 v218:=Tryz.zeroValue154
 t222:=Tryz.underlying158
 a222:=Tryz.isAgg158
 z222:=Tryz.sizeOf158
 v222:=Tryz.zeroValue158
 t228:=Tryz.underlying184
 a228:=Tryz.isAgg184
 z228:=Tryz.sizeOf184
 v228:=Tryz.zeroValue184
 t229:=Tryz.underlying31
 a229:=Tryz.isAgg31
 z229:=Tryz.sizeOf31
 v229:=Tryz.zeroValue31 }
open Go.Sort in
theorem yact(blk off cap:Nat)(ss:List (List UInt8))(w:World)(hH:Holds encStr w blk off ss.toArray)(hblk:blk<w.heap.size)(hsz:ss.length<4611686018427387904) :
  zC 32 #[.slice (some ⟨blk,off,none⟩) ss.length cap] w fun e w' =>
   e=.returned (.tuple #[])/\∃ n os,w'=grow (putRow encStr (Sort.ahead w n) blk off (ss.mergeSort fun x y=>decide (x<=y)).toArray) os:=Any.slices_Sort_string zzr blk off cap ss w hH hblk hsz
theorem yahq(p:Option Addr)(cap:Nat)(w:World) :
  zC 32 #[.slice p 0 cap] w fun e w'=>e=.returned (.tuple #[])/\w'=w:=Any.slices_Sort_string_none zzr p cap w
end Go.Proofs.YtfagbapgnocjiaaGreatDoor
namespace Go.Proofs.YtfagbapgnocjiaaGreatDoor
open Go.RowKit Go.Sort
theorem zyp(ss:List ByteArray):zcs (zbk ss)=((ss.map fun s=>s.data.toList).mergeSort fun x y=>decide (x<=y)).map encStr:=by
 unfold zcs zbk;rw[List.map_map];rfl
theorem yabl{w:World}{lo hi b n c:Nat}{ss:List ByteArray}(h:Row w 9 1 lo hi (.slice (some ⟨b,0,none⟩) n c) n (zcs ss)):Holds encStr w b 0 (ss.map fun s=>s.data.toList).toArray:=by
 obtain⟨_,_,_,_,hf,hc⟩:=h.at
 have hl:=h.len;rw[zhf]at hl;intro j hj
 have hj':j<ss.length:=by simpa using hj
 rw[Nat.zero_add];refine⟨?_,hf j⟩;rw[hc j (by omega),znj ss j hj',getElem!_pos _ j hj];simp[encStr]
theorem yalg {w:World} {lo hi b n c:Nat} {ss:List ByteArray} (h:Row w 9 1 lo hi (.slice (some ⟨b,0,none⟩) n c) n (zcs ss)) (m:Nat) (os:Array Obj) (w':World)
  (e:w'=grow (putRow encStr (Sort.ahead w m) b 0 ((ss.map fun s=>s.data.toList).mergeSort fun x y=>decide (x<=y)).toArray) os) :
  Row w' 9 1 lo hi (.slice (some ⟨b,0,none⟩) n c) n (zcs (zbk ss))/\w.grownBy w' (some b):=by
 have hl:=h.len;rw[zhf,Nat.mul_one]at hl;obtain⟨h1,h2⟩:=h;obtain⟨hx,h1 | ⟨g,cap,cur,e1,hb,hg,hnc,hcm,hcs,htake⟩⟩:=h1
 ·cases h1.1
 cases e1
 have SD:=zyp ss
 have DL:((ss.map fun s=>s.data.toList).mergeSort fun x y=>decide (x<=y)).length=ss.length:=by rw[List.length_mergeSort,List.length_map]
 generalize (ss.map fun s=>s.data.toList).mergeSort (fun x y=>decide (x<=y))=D at *;have hbl:b<w.heap.size:=(Array.getElem?_eq_some_iff.1 hg).1
 have hg':w'.heap[b]?=some (.cells (putCells encStr 0 D.toArray cur) 9 (0,0)):=by
  rw[e,heap_grow_old _ _ (by rw[size_putRow];exact hbl)];unfold putRow mapBlock
  show(w.heap.modify b _)[b]?=_
  rw[Array.getElem?_modify,if_pos rfl,hg];rfl
 refine⟨⟨⟨by rw[zhf,zex];omega,.inr ⟨b,c,putCells encStr 0 D.toArray cur,rfl,hb,hg',hnc,hcm,by unfold putCells;rw[Array.size_mapIdx];exact hcs,?_⟩⟩,h2⟩,?_⟩
 ·rw[SD];apply List.ext_getElem?;intro i;rw[Nat.mul_one,List.getElem?_take,List.getElem?_map,Array.getElem?_toList];unfold putCells;rw[Array.getElem?_mapIdx]
  by_cases hi:i<n
  ·rw[if_pos hi,Array.getElem?_eq_getElem (show i<cur.size by omega),List.getElem?_eq_getElem (show i<D.length by omega)];simp only[Option.map_some];rw[if_pos ⟨Nat.zero_le _,by simp;omega⟩,Nat.sub_zero,getElem!_pos _ i (by simp;omega)];simp
  ·rw[if_neg hi,List.getElem?_eq_none (by omega)];rfl
 ·refine⟨by rw[e];rfl,by rw[e];rfl,by rw[e];rfl,by rw[e,size_grow,size_putRow];exact Nat.le_add_right _ _,fun k hk hne=>?_⟩;rw[e,heap_grow_old _ _ (by rw[size_putRow];exact hk)];unfold putRow mapBlock
  show(w.heap.modify b _)[k]?=_
  rw[Array.getElem?_modify,if_neg (fun x=>hne (by rw[x]))]
theorem yanc(v:Value)(ss:List ByteArray)(lo hi:Nat)(w:World)(h:Row w 9 1 lo hi v ss.length (zcs ss))(hn:ss.length<=1048576) :
  zC 32 #[v] w fun e w'=>e=.returned (.tuple #[])/\Row w' 9 1 lo hi v ss.length (zcs (zbk ss))/\w.grownBy w' v.ownBlock:=by
 rcases h.shape with ⟨rfl,e0,_⟩ | ⟨b,c,rfl,hc,_⟩
 ·refine(yahq none 0 w).mono ?_;rintro e w' ⟨rfl,rfl⟩;have hs:ss=[]:=List.eq_nil_of_length_eq_zero e0;subst hs;exact⟨rfl,by rw[show zbk []=[] by simp[zbk]];exact h,World.grownBy.refl _ _⟩
 ·have hh:=yabl h;have:=yact b 0 c (ss.map fun s=>s.data.toList) w hh h.at.2.2.2.1 (by rw[List.length_map];omega);rw[List.length_map]at this;refine this.mono ?_;rintro e w' ⟨rfl,m,os,hw'⟩;exact⟨rfl,yalg h m os w' hw'⟩
end Go.Proofs.YtfagbapgnocjiaaGreatDoor
