import Derived.Lib.Strings
import Derived.Lib.SplitLaws
import Derived.Lib.IndexBytes
import Derived.Deep.LoopGhost
import Derived.Test.YtogcbbkhnpmgeaaGreatDoorZAN
set_option maxRecDepth 100000
set_option maxHeartbeats 4000000
namespace Go.Proofs.YtogcbbkhnpmgeaaGreatDoor
open Go.RowKit
def zee(ss:List ByteArray):List Value:=ss.map Value.string
theorem zjx(ss:List ByteArray):(zee ss).length=ss.length:=by simp[zee]
theorem zrb(ss:List ByteArray)(k:Nat)(h:k<ss.length):(zee ss)[k]?=some (.string ss[k]):=by simp[zee,h]
theorem zbr(ss:List ByteArray):∀ u∈zee ss,u.oneCell'=true:=by
 intro u hu;simp only[zee,List.mem_map]at hu;obtain⟨s,_,rfl⟩:=hu;rfl
def RdT(w:World)(v:Value)(ss:List ByteArray):Prop:=Rd w 1 v ss.length (zee ss)
theorem RdT.shape{w:World}{v:Value}{ss:List ByteArray}(h:RdT w v ss):∃ ao cap,v=.slice ao ss.length cap/\ss.length<=cap/\(0<ss.length->∃ b o,ao=some ⟨b,o,none⟩/\b<w.heap.size/\∀ k (h:k<ss.length),w.cell? ⟨b,o+k,none⟩=some (.string ss[k])):=by
 obtain⟨_,ao,cap,rfl,h2,h3⟩:=h;refine⟨ao,cap,rfl,h2.1,fun hn=>?_⟩;obtain⟨b,o,e,hb,hc⟩:=h3 hn;exact⟨b,o,e,hb,fun k hk=>(hc k (by omega)).trans (zrb ss k hk)⟩
theorem zfr:(Tryz.prog.info? 9).map (fun i=>(i.zero,i.size,i.bytes))=some (some (.string ⟨#[]⟩),1,16):=by kernel_rfl
theorem zjn(w1:World)(x:ByteArray):Rd (w1.alloc (.cells #[.string x] 9)) 1 (.slice (some ⟨w1.heap.size,0,none⟩) 1 1) 1 (zee [x]):=by
 refine⟨rfl,_,_,rfl,⟨Nat.le_refl _,fun e=>by cases e⟩,fun _=>⟨w1.heap.size,0,rfl,by simp,fun j hj=>?_⟩⟩
 obtain rfl:j=0:=by omega
 exact(zag (xs:=[.string x]) (zaf rfl) 0).1
theorem zih{B:Nat}{a w:World}(h:Below B a w)(n:Nat):Below B a (w.drewN n):=by
 induction n with
 | zero=>exact h
 | succ n ih=>exact⟨ih.os,ih.tape,ih.output,ih.size,ih.block⟩
structure SnI(W w:World)(vL:Value)(ss:List ByteArray):Prop where
 l:w.ownsRow W.heap.size 9 1 vL ss.length (zee ss)
 b:zB W w
theorem SnI.z{W w:World}{vL:Value}{ss:List ByteArray}(h:SnI W w vL ss):W.heap.size<=w.heap.size:=h.b.size
theorem SnI.below{W w w':World}{vL:Value}{ss:List ByteArray}(h:SnI W w vL ss)(hb:zB w w'):SnI W w' vL ss :=
 ⟨((zad h.l).below hb zL).1,zab h.b hb h.z⟩
theorem yasn(l l':List ByteArray):zee (l++l')=zee l++zee l':=by simp[zee]
theorem SnI.grow{W w w':World}{vL v':Value}{ss:List ByteArray}(h:SnI W w vL ss)(l:List ByteArray){m:Nat}(hm:m=l.length)(ho:w'.ownsRow W.heap.size 9 1 v' (ss.length+m) (zee ss++zee l))(hg:w.grownBy w' vL.ownBlock):SnI W w' v' (ss++l) :=
 ⟨by rw[yasn,List.length_append,<- hm];exact ho,h.b.grown hg h.z (fun q hq=>(h.l.lt q hq).1)⟩
theorem SnI.rd{W w:World}{vL:Value}{ss:List ByteArray}(h:SnI W w vL ss):RdT w vL ss:=(zad h.l).rd
theorem SnI.form{W w:World}{vL:Value}{ss:List ByteArray}(h:SnI W w vL ss)(hn:vL≠.N):∃ b c,vL=.slice (some ⟨b,0,none⟩) ss.length c/\ss.length<=c/\W.heap.size<=b/\b<w.heap.size:=by
 rcases(zad h.l).shape with ⟨e,_⟩ | ⟨b,c,rfl,hc,_⟩
 ·exact absurd e hn
 ·obtain⟨_,h1,_,h2,_⟩:=(zad h.l).at
  exact⟨b,c,rfl,hc,h1,h2⟩
theorem SnI.some_{W w:World}{vL:Value}{ss:List ByteArray}(h:SnI W w vL ss)(hn:0<ss.length):vL≠.N:=by
 rcases(zad h.l).shape with ⟨_,e,_⟩ | ⟨b,c,rfl,_⟩
 ·omega
 ·intro e;cases e
theorem zpn{w:World}{ao:Option Addr}{n c:Nat}{l:List ByteArray}{m:Nat}(h:RdT w (.slice ao n c) l)(hm:m<=l.length):Rd w 1 (.slice ao m c) m (zee (l.take m)):=by
 obtain⟨_,ao',cap,e,h2,h3⟩:=h;injection e with e1 e2 e3;subst e1 e2 e3
 have hl:(l.take m).length=m:=by rw[List.length_take];omega
 refine⟨by rw[zjx,hl,Nat.mul_one],ao,c,rfl,⟨by omega,h2.2⟩,fun hp=>?_⟩;obtain⟨b,o,rfl,hb,hcl⟩:=h3 (by omega);refine⟨b,o,rfl,hb,fun j hj=>?_⟩;rw[hcl j (by omega),zrb _ _ (by omega),zrb _ _ (by omega),List.getElem_take]
theorem zvs{w:World}{b o n c:Nat}{l:List ByteArray}{m:Nat}(h:RdT w (.slice (some ⟨b,o,none⟩) n c) l)(hm:m<=l.length):Rd w 1 (.slice (some ⟨b,o+m,none⟩) (n-m) (c-m)) (n-m) (zee (l.drop m)):=by
 obtain⟨ao,cap,e,hc,hcell⟩:=h.shape;injection e with e1 e2 e3;subst e1 e2 e3;refine⟨by rw[zjx,Nat.mul_one,List.length_drop],some ⟨b,o+m,none⟩,c-m,rfl,⟨by omega,fun e=>by cases e⟩,fun hp=>?_⟩;obtain⟨b',o',e',hb,hcl⟩:=hcell (by omega)
 cases e'
 refine⟨b,o+m,rfl,hb,fun j hj=>?_⟩;rw[zrb _ j (by rw[List.length_drop];omega),List.getElem_drop];have:=hcl (m+j) (by omega);rw[<- Nat.add_assoc]at this;exact this
theorem yagk{w:World}{a:Addr}{c:Nat}{l:List ByteArray}{m:Nat}(hm:m=l.length):Rd w 1 (.slice (some a) 0 c) 0 (zee (l.drop m)) :=
 ⟨by rw[zjx,List.length_drop];omega,some a,c,rfl,⟨Nat.zero_le _,fun e=>by cases e⟩,fun h=>absurd h (by omega)⟩
def Ord(ss:List ByteArray):Prop:=ss.Pairwise fun a b=>a.toList<=b.toList
theorem yanj{ss:List ByteArray}{x:ByteArray}{k:Nat}(hk:k<=ss.length)(h:Ord ss)(h1:∀ i (h:i<ss.length),k<=i->x.toList<ss[i].toList)(h2:∀ i (h:i<ss.length),i+1=k->ss[i].toList<=x.toList):Ord (ss.take k++[x]++ss.drop k):=by
 have ht:∀ a∈ss.take k,a.toList<=x.toList:=by
  intro a ha;obtain⟨i,hi,rfl⟩:=List.mem_take_iff_getElem.1 ha;have hi:=Nat.lt_min.1 hi
  by_cases e:i+1=k
  ·exact h2 i hi.2 e
  ·have h3:=h2 (k-1) (by omega) (by omega);exact List.le_trans (List.pairwise_iff_getElem.1 h i (k-1) hi.2 (by omega) (by omega)) h3
 have hd:∀ a∈ss.drop k,x.toList<=a.toList:=by
  intro a ha;obtain⟨i,hi,rfl⟩:=List.getElem_of_mem ha;rw[List.length_drop]at hi;rw[List.getElem_drop];exact List.le_of_lt (h1 (k+i) (by omega) (by omega))
 unfold Ord at h ⊢;rw[List.append_assoc,List.pairwise_append];have h':=h;rw[<- List.take_append_drop k ss,List.pairwise_append]at h';refine⟨h'.1,List.pairwise_append.2 ⟨List.pairwise_singleton _ _,h'.2.1,fun a ha b hb=>?_⟩,fun a ha b hb=>?_⟩
 ·rw[List.mem_singleton.1 ha];exact hd b hb
 ·rcases List.mem_append.1 hb with hb | hb
  ·rw[List.mem_singleton.1 hb];exact ht a ha
  ·exact h'.2.2 a ha b hb
theorem yagw(ss:List ByteArray)(x:ByteArray)(k:Nat):(ss.take k++[x]++ss.drop k).Perm (ss++[x]):=by
 rw[List.append_assoc];refine List.Perm.trans (List.Perm.append_left _ List.perm_append_comm) ?_;rw[<- List.append_assoc,List.take_append_drop]
def zbm(ps:List Den)(d:Int):List ByteArray:=(ps.filter fun x=>decide (¬ x.child<0/\x.dir=d)).map Den.name
theorem yajr{ps:List Den}{d:Int}{k:Nat}(h:k<ps.length):zbm (ps.take (k+1)) d=if ¬ ps[k].child<0/\ps[k].dir=d then zbm (ps.take k) d++[ps[k].name]else zbm (ps.take k) d:=by
 unfold zbm;rw[List.take_succ_eq_append_getElem h,List.filter_append,List.map_append]
 by_cases c:¬ ps[k].child<0/\ps[k].dir=d
 ·rw[if_pos c];simp only[List.filter_cons,decide_eq_true c,if_true,List.filter_nil,List.map_cons,List.map_nil]
 ·rw[if_neg c];simp only[List.filter_cons,decide_eq_false c,List.filter_nil];simp
theorem yaps(ps:List Den)(d:Int):(zbm ps d).length<=ps.length:=by unfold zbm;rw[List.length_map];exact List.length_filter_le _ _
def zdl(ss:List ByteArray):List ByteArray:=((ss.map fun s=>s.data.toList).mergeSort fun x y=>decide (x<=y)).map fun l=>⟨l.toArray⟩
theorem zhi(ss:List ByteArray):(zdl ss).length=ss.length:=by unfold zdl;rw[List.length_map,List.length_mergeSort,List.length_map]
theorem yaif{ss l:List ByteArray}(h:Ord ss)(hp:ss.Perm l):ss=zdl l:=by
 have tr:∀ a b c:List UInt8,decide (a<=b)=true->decide (b<=c)=true->decide (a<=c)=true:=fun a b c h1 h2=>by simp only[decide_eq_true_eq]at *;exact List.le_trans h1 h2
 have tot:∀ a b:List UInt8,(decide (a<=b)||decide (b<=a))=true:=fun a b=>by simp only[Bool.or_eq_true,decide_eq_true_eq];exact List.le_total a b
 have e:ss.map (fun s=>s.data.toList)=(l.map fun s=>s.data.toList).mergeSort fun x y=>decide (x<=y):=by
  refine List.Perm.eq_of_pairwise (le:=fun a b=>decide (a<=b)=true) (fun a b _ _ h1 h2=>?_) ?_ (List.pairwise_mergeSort tr tot _) ((hp.map _).trans (List.mergeSort_perm _ _).symm)
  ·simp only[decide_eq_true_eq]at h1 h2;exact List.le_antisymm h1 h2
  ·rw[List.pairwise_map];refine List.Pairwise.imp (fun {a b} h=>?_) h;rw[Lib.toList_data,Lib.toList_data]at h;exact decide_eq_true h
 unfold zdl;rw[<- e,List.map_map];rw[show((fun l:List UInt8=>(⟨l.toArray⟩:ByteArray)) ∘ fun s:ByteArray=>s.data.toList)=id from funext fun s=>by simp];simp
def mkB(l:List UInt8):ByteArray:=⟨l.toArray⟩
theorem zkg(l:List UInt8):(mkB l).data.toList=l:=by simp[mkB]
theorem yakg(s:ByteArray):mkB s.data.toList=s:=by
 obtain⟨⟨l⟩⟩:=s;rfl
theorem zmr{a b:ByteArray}(h:a.data.toList=b.data.toList):a=b:=by rw[<- yakg a,<- yakg b,h]
theorem zpy(s:ByteArray)(a b:Nat):mkB ((s.data.toList.take b).drop a)=s.extract a b:=by
 apply zmr;rw[zkg,Lib.extract_data,List.drop_take]
def zlc(cur:List UInt8):List UInt8->List (List UInt8)
 | []=>[cur]
 | c::l=>if c=47 then cur::zlc [] l else zlc (cur++[c]) l
theorem zmq(cur:List UInt8):zlc cur []=[cur]:=rfl
theorem zeb(cur:List UInt8)(c:UInt8)(l:List UInt8):zlc cur (c::l)=if c=47 then cur::zlc [] l else zlc (cur++[c]) l:=rfl
theorem yaax:∀ (l cur:List UInt8),(∀ c∈l,¬ c=47)->zlc cur l=[cur++l]
 | [],cur,_=>by rw[zmq,List.append_nil]
 | c::l,cur,h=>by
  rw[zeb,if_neg (h c (List.mem_cons_self ..)),yaax l _ (fun x hx=>h x (List.mem_cons_of_mem _ hx)),List.append_assoc];rfl
theorem zyg:∀ (l cur r:List UInt8),(∀ c∈l,¬ c=47)->zlc cur (l++47::r)=(cur++l)::zlc [] r
 | [],cur,r,_=>by rw[List.nil_append,zeb,if_pos rfl,List.append_nil]
 | c::l,cur,r,h=>by
  rw[List.cons_append,zeb,if_neg (h c (List.mem_cons_self ..)),zyg l _ r (fun x hx=>h x (List.mem_cons_of_mem _ hx)),List.append_assoc];rfl
theorem zqh:∀ (l cur:List UInt8),∃ x r,zlc cur l=(cur++x)::r
 | [],cur=>⟨[],[],by rw[zmq,List.append_nil]⟩
 | c::l,cur=>by
  rw[zeb]
  by_cases h:c=47
  ·rw[if_pos h];exact⟨[],_,by rw[List.append_nil]⟩
  ·rw[if_neg h];obtain⟨x,r,e⟩:=zqh l (cur++[c]);exact⟨c::x,r,by rw[e,List.append_assoc];rfl⟩
theorem zwm:∀ (l cur:List UInt8),(zlc cur l).length<=l.length+1
 | [],cur=>by rw[zmq];simp
 | c::l,cur=>by
  rw[zeb]
  split
  ·have:=zwm l [];simp only[List.length_cons];omega
  ·have:=zwm l (cur++[c]);simp only[List.length_cons];omega
theorem yatw(l cur:List UInt8):1<=(zlc cur l).length:=by
 obtain⟨x,r,e⟩:=zqh l cur;rw[e];simp
theorem zvb:∀ (l cur x:List UInt8),x∈zlc cur l->x.length<=cur.length+l.length
 | [],cur,x,h=>by rw[zmq,List.mem_singleton]at h;rw[h];simp
 | c::l,cur,x,h=>by
  rw[zeb]at h
  split at h
  ·rcases List.mem_cons.1 h with rfl | h
   ·simp
   ·have:=zvb l [] x h;simp only[List.length_nil,List.length_cons]at *;omega
  ·have:=zvb l (cur++[c]) x h;simp only[List.length_append,List.length_cons,List.length_nil]at *;omega
theorem zuc:∀ (k:Nat) (l:List UInt8),Lib.count l [47]=k->Lib.splitK [47] 0 k l=zlc [] l
 | 0,l,h=>by
  show[l]=_
  rw[Lib.count_one]at h;rw[yaax l [] (fun c hc e=>by subst e;have:=List.count_pos_iff.2 hc;omega),List.nil_append]
 | k+1,l,h=>by
  have hm:(47:UInt8)∈l:=by
   rw[Lib.count_one]at h;exact List.count_pos_iff.1 (by omega)
  have hge:=Lib.indexByte_ge l 47;have hi:Lib.index l [47]=Lib.indexByte l 47:=Lib.index_one l 47
  have hne:¬ Lib.indexByte l 47=-1:=fun e=>by
   obtain⟨j,hj,e2⟩:=List.getElem_of_mem hm;exact Lib.indexByte_none e j (by rw[List.getElem?_eq_getElem hj,e2])
  obtain⟨o,ho⟩:∃ o:Nat,Lib.indexByte l 47=(o:Int):=⟨(Lib.indexByte l 47).toNat,by omega⟩
  obtain⟨h1,h2⟩:=Lib.indexByte_some ho;have hol:o<l.length:=(List.getElem?_eq_some_iff.1 h1).1
  have e0:l=l.take o++47::l.drop (o+1):=by
   have hd:l.drop o=47::l.drop (o+1):=by
    rw[List.drop_eq_getElem_cons hol,(List.getElem?_eq_some_iff.1 h1).2]
   rw[<- hd,List.take_append_drop]
  have hno:∀ c∈l.take o,¬ c=47:=fun c hc e=>by
   subst e;obtain⟨j,hj,e2⟩:=List.mem_take_iff_getElem.1 hc;have hj:=Nat.lt_min.1 hj;exact h2 j hj.1 (by rw[List.getElem?_eq_getElem hj.2,e2])
  unfold Lib.splitK;rw[hi,ho,if_neg (by simp),Int.toNat_natCast,Nat.add_zero]
  show l.take o::Lib.splitK [47] 0 k (l.drop (o+1))=zlc [] l
  have hc:Lib.count (l.drop (o+1)) [47]=k:=by
   rw[Lib.count_one]at h ⊢;have hz:(l.take o).count 47=0:=List.count_eq_zero.2 (fun hx=>hno 47 hx rfl);rw[e0,List.count_append,hz,List.count_cons_self]at h;omega
  rw[zuc k _ hc]
  conv=>rhs;rw[e0]
  rw[zyg _ _ _ hno,List.nil_append]
def pcs(s:ByteArray):List ByteArray:=(zlc [] s.data.toList).map mkB
theorem zxw(s:ByteArray):Lib.splitB ⟨#[47]⟩ 0 (Lib.countB s ⟨#[47]⟩) s=pcs s:=by
 have h:=Lib.splitB_data ⟨#[47]⟩ 0 (Lib.countB s ⟨#[47]⟩) s;have h2:=zuc (Lib.countB s ⟨#[47]⟩) s.data.toList rfl;unfold pcs;rw[<- h2];have h3:Lib.splitK [47] 0 (Lib.countB s ⟨#[47]⟩) s.data.toList=(Lib.splitB ⟨#[47]⟩ 0 (Lib.countB s ⟨#[47]⟩) s).map (·.data.toList):=h.symm;rw[h3,List.map_map]
 have:(mkB ∘ fun x:ByteArray=>x.data.toList)=id:=funext fun x=>yakg x
 rw[this,List.map_id]
theorem yaoc(s:ByteArray):(pcs s).length<=s.size+1:=by
 unfold pcs;rw[List.length_map,Lib.size_eq];exact zwm _ _
theorem yalk(s:ByteArray):1<=(pcs s).length:=by unfold pcs;rw[List.length_map];exact yatw _ _
theorem yagj(s:ByteArray):∀ k (h:k<(pcs s).length),(pcs s)[k].size<=s.size:=by
 intro k hk;have hm:(pcs s)[k]∈(zlc [] s.data.toList).map mkB:=List.getElem_mem hk;obtain⟨x,hx,e⟩:=List.mem_map.1 hm;have:=zvb _ _ _ hx;rw[<- e,Lib.size_eq,zkg,Lib.size_eq];simpa using this
theorem yakh(s:ByteArray):Lib.countB s ⟨#[47]⟩+1=(pcs s).length:=by
 rw[<- zxw,Lib.splitB_all ⟨#[47]⟩ (by decide) 0 _ s rfl]
theorem yaqm{s:ByteArray}{l:List UInt8}(h:s.data.toList=47::l):pcs s=mkB []::pcs (mkB l):=by
 unfold pcs;rw[h,zeb,if_pos rfl,zkg];rfl
theorem yaoo{s:ByteArray}{c:UInt8}{l:List UInt8}(h:s.data.toList=c::l)(hc:¬ c=47):∃ x r,pcs s=x::r/\¬ x.size=0:=by
 unfold pcs;rw[h,zeb,if_neg hc,List.nil_append];obtain⟨x,r,e⟩:=zqh l [c];refine⟨mkB ([c]++x),r.map mkB,by rw[e];rfl,?_⟩;rw[Lib.size_eq,zkg];simp
theorem yaua{s:ByteArray}(h:s.data.toList=[]):pcs s=[mkB []]:=by
 unfold pcs;rw[h];rfl
theorem yapz(s:ByteArray)(k:Nat)(h:k<s.size):s.data.toList[k]'(by rw[<- Lib.size_eq];exact h)=s[k]:=by
 rw[Array.getElem_toList];rfl
theorem yaoe(c:UInt8):((c.toNat:Int) == 47)=decide (c=47):=by
 by_cases h:c=47
 ·subst h;rfl
 ·rw[decide_eq_false h,beq_eq_false_iff_ne];intro e;apply h;apply UInt8.toNat_inj.1
  show c.toNat=47
  omega
theorem yanz(l:List UInt8):zlc [] l=[]++zlc ((l.take 0).drop 0) (l.drop 0):=by simp
theorem yazi{l:List UInt8}{ds:List (List UInt8)}{k f:Nat}(hk:k<l.length)(h:zlc [] l=ds++zlc ((l.take k).drop f) (l.drop k))(hc:l[k]=47) :
  zlc [] l=(ds++[(l.take k).drop f])++zlc ((l.take (k+1)).drop (k+1)) (l.drop (k+1)):=by
 rw[List.drop_eq_getElem_cons hk,zeb,if_pos hc]at h;rw[h,List.append_assoc,List.drop_of_length_le (l:=l.take (k+1)) (by rw[List.length_take];omega)];rfl
theorem yban{l:List UInt8}{ds:List (List UInt8)}{k f:Nat}(hk:k<l.length)(hf:f<=k)(h:zlc [] l=ds++zlc ((l.take k).drop f) (l.drop k))(hc:¬ l[k]=47) :
  zlc [] l=ds++zlc ((l.take (k+1)).drop f) (l.drop (k+1)):=by
 rw[List.drop_eq_getElem_cons hk,zeb,if_neg hc]at h;rw[h,List.take_succ_eq_append_getElem hk,List.drop_append_of_le_length (by rw[List.length_take];omega)]
theorem yaya{s:ByteArray}{ds:List (List UInt8)}{f:Nat}(h:zlc [] s.data.toList=ds++zlc ((s.data.toList.take s.size).drop f) (s.data.toList.drop s.size)):pcs s=ds.map mkB++[s.extract f s.size]:=by
 unfold pcs;rw[h,List.drop_of_length_le (l:=s.data.toList) (by rw[<- Lib.size_eq];exact Nat.le_refl _),zmq,List.map_append]
 show ds.map mkB++[mkB _]=_
 rw[zpy]
theorem yaip(s:ByteArray)(w:World)(hs:s.size<=65536) :
  zC 197 #[.string s,.int .u8 47] w fun e w'=>∃ v',e=.returned v'/\Row w' 9 1 w.heap.size w'.heap.size v' (pcs s).length (zee (pcs s))/\zB w w':=by
 have START:Hid (SnI w (w.alloc (.cells #[] 9)) (.slice (some ⟨w.heap.size,0,none⟩) 0 0) []):=⟨World.ownsRow_lit w #[] 0 zL (by simp[maxLen]) (by simp),zR.alloc zL _⟩
 have HL:=zaa (Lib.size_eq s);go_enter Tryz.func197,Tryz.ntmps197;go_wp2
 go_loopg [5,6,7] s.size (fun g vL fr i wr=>∃ (k f:Nat) (ds:List (List UInt8)),k+g=s.size/\f<=k/\fr=.I f/\i=.I k/\vL≠.N/\ds.length<=k/\Hid (SnI w wr vL (ds.map mkB)/\zlc [] s.data.toList=ds++zlc ((s.data.toList.take k).drop f) (s.data.toList.drop k)))
 case atStart=>exact⟨0,0,[],by omega,by omega,rfl,rfl,(fun e=>by cases e),Nat.le_refl _,START.o,yanz _⟩
 case round =>
  obtain⟨k,f,ds,hkg,hf,rfl,rfl,hv,hd,I⟩:=hrel;clear START
  have k0:(0:Int)<=(k:Int):=by omega
  have f0:(0:Int)<=(f:Int):=by omega
  have fk:(f:Int)<=(k:Int):=by omega
  have DL:(ds.map mkB).length=ds.length:=List.length_map ..
  by_cases hlt:k<s.size
  ·have k1:(k:Int)<(s.size:Int):=by omega
   have k2:(k:Int)<=(s.size:Int):=by omega
   have hkl:k<s.data.toList.length:=by rw[<- HL.o];exact hlt
   by_cases c:s[k]=47
   ·have q:((s[k].toNat:Int) == 47)=true:=by rw[yaoe,decide_eq_true c]
    have N:=zaa (yazi hkl I.o.2 (by rw[yapz s k hlt];exact c))
    have MN:Hid ((ds++[(s.data.toList.take k).drop f]).map mkB=ds.map mkB++[s.extract f k]):=by unfold Hid;rw[List.map_append,<- zpy];rfl
    have JB:Hid (SnI w (wr.alloc (.cells #[.string (s.extract f k)] 9)) u5 (ds.map mkB)):=I.o.1.below (zR.alloc zL _);have RB:=zaa (zjn wr (s.extract f k));have hzb:=JB.o.z;simp only[World.size_alloc]at hzb;clear I c;go_wp2_with (at_builtin;refine zae _ rfl (.tmp 20) (.tmp 25) 33 rfl w.heap.size 9 (.string ⟨#[]⟩) 1 16 Tryz.underlying33 zfr rfl (by decide) _ _ _ rfl JB.o.l _ 1 _ rfl RB.o (zbr _) (by simp[maxLen];omega) (by simp;omega) JB.o.z ?_);intro vN wN hownN hgrN;have G:=zaa (JB.o.grow [s.extract f k] rfl (by rw[List.length_map];exact hownN) hgrN);rw[<- MN.o]at G;have hv2:=zaa (G.o.some_ (by simp));clear hownN hgrN JB RB q MN hv;go_wp2
    go_roundg (s.size-(k+1))
    case measure=>omega
    case rel=>exact⟨k+1,k+1,ds++[(s.data.toList.take k).drop f],by omega,Nat.le_refl _,by go_num,by go_num,hv2.o,by simp;omega,G.o,N.o⟩
   ·have q:((s[k].toNat:Int) == 47)=false:=by rw[yaoe,decide_eq_false c]
    have N:=zaa (yban hkl hf I.o.2 (by rw[yapz s k hlt];exact c));have I1:=zaa I.o.1;have HV:=zaa hv;clear I c DL hv;go_wp2
    go_roundg (s.size-(k+1))
    case measure=>omega
    case rel=>exact⟨k+1,f,ds,by omega,by omega,rfl,by go_num,HV.o,by omega,I1.o,N.o⟩
  ·obtain rfl:k=s.size:=by omega
   have MN:=zaa (yaya I.o.2);have JB:Hid (SnI w (wr.alloc (.cells #[.string (s.extract f s.size)] 9)) u5 (ds.map mkB)):=I.o.1.below (zR.alloc zL _);have RB:=zaa (zjn wr (s.extract f s.size));have hzb:=JB.o.z;simp only[World.size_alloc]at hzb;clear I;go_wp2_with (at_builtin;refine zae _ rfl (.tmp 29) (.tmp 33) 33 rfl w.heap.size 9 (.string ⟨#[]⟩) 1 16 Tryz.underlying33 zfr rfl (by decide) _ _ _ rfl JB.o.l _ 1 _ rfl RB.o (zbr _) (by simp[maxLen];omega) (by simp;omega) JB.o.z ?_);intro vN wN hownN hgrN;have G:=zaa (JB.o.grow [s.extract f s.size] rfl (by rw[List.length_map];exact hownN) hgrN);rw[<- MN.o]at G;clear hownN hgrN JB RB MN hv;go_wp2;go_ret;exact⟨_,rfl,zad G.o.l,G.o.b⟩
def zqd(s:ByteArray):Bool:=s.toList == [47]
def spN(s:ByteArray):Bool:=decide (2<=(pcs s).length/\(pcs s).length<=7)&&(((pcs s).getD 0 ⟨#[]⟩).toList.isEmpty&&((pcs s).drop 1).all nmB)
def spB(s:ByteArray):Bool:=zqd s||spN s
def spL(s:ByteArray):List ByteArray:=if zqd s=true then[]else if spN s=true then(pcs s).drop 1 else[]
theorem yagg{s:ByteArray}(h:zqd s=true):spB s=true/\spL s=[]:=by
 unfold spB spL;rw[h];exact⟨rfl,if_pos rfl⟩
theorem ybbn{s:ByteArray}(h:zqd s=false)(h2:spN s=false):spB s=false/\spL s=[]:=by
 unfold spB spL;rw[h,h2];exact⟨rfl,rfl⟩
theorem yaxa{s:ByteArray}(h:zqd s=false)(h2:spN s=true):spB s=true/\spL s=(pcs s).drop 1:=by
 unfold spB spL;rw[h,h2];exact⟨rfl,rfl⟩
theorem yaqv(w:World):RdT w (.N) []:=⟨rfl,none,0,rfl,⟨Nat.le_refl _,fun _=>rfl⟩,fun h=>absurd h (by simp)⟩
theorem zsj(w:World)(a:Addr):RdT w (.slice (some a) 0 0) []:=⟨rfl,some a,0,rfl,⟨Nat.le_refl _,fun e=>by cases e⟩,fun h=>absurd h (by simp)⟩
theorem zoo(s:ByteArray)(w:World)(hs:s.size<=65536) :
  zC 146 #[.string s] w fun e w'=>∃ v',e=.returned (.tuple #[v',.bool (spB s)])/\RdT w' v' (spL s)/\zB w w':=by
 have LC:=zaa (fun w1=>yaip s w1 hs);have BE:=zaa (fun w1:World=>(Below.refl w1.heap.size w1).alloc zL (.cells #[] 9))
 cases c1:zqd s with
 | true =>
  obtain⟨E1,E2⟩:=yagg c1;rw[E1,E2];have c2:(s.toList == [47])=true:=c1;clear c1 E1 E2;go_enter Tryz.func146,Tryz.ntmps146;go_wp2;go_ret2;exact⟨_,rfl,zsj _ _,BE.o _⟩
 | false =>
  have c2:(s.toList == [47])=false:=c1;have NO:=zaa (fun h=>ybbn c1 h);have YES:=zaa (fun h=>yaxa c1 h);have PL:=yaoc s;have PP:=yalk s;have PS:=zaa (yagj s);have SN:=zaa (show spN s=(decide (2<=(pcs s).length/\(pcs s).length<=7)&&(((pcs s).getD 0 ⟨#[]⟩).toList.isEmpty&&((pcs s).drop 1).all nmB))from rfl);clear c1;generalize spB s=sb at *;generalize spL s=sl at *;generalize spN s=sn at *;generalize pcs s=P at *
  have hp0:0<P.length:=by omega
  have SA:Hid ((∀ j (h:j<P.length),1<=j->nmB P[j]=true)->(P.drop 1).all nmB=true):=fun h=>by
   rw[List.all_eq_true];intro x hx;obtain⟨j,hj,rfl⟩:=List.getElem_of_mem hx;rw[List.length_drop]at hj;rw[List.getElem_drop];exact h (1+j) (by omega) (by omega)
  have SF:Hid (∀ j (h:j<P.length),1<=j->nmB P[j]=false->(P.drop 1).all nmB=false):=fun j h h1 q=>by
   rw[List.all_eq_false];refine⟨P[j],?_,by rw[q];simp⟩
   have e:P[j]=(P.drop 1)[j-1]'(by rw[List.length_drop];omega):=by rw[List.getElem_drop];congr 1;omega
   rw[e];exact List.getElem_mem _
  have S0:Hid (P.getD 0 ⟨#[]⟩=P[0]):=by unfold Hid;rw[List.getD_eq_getElem?_getD,List.getElem?_eq_getElem hp0];rfl
  go_enter Tryz.func146,Tryz.ntmps146;go_wp2_with fail;refine(LC.o _).mono ?_;rintro e w1 ⟨v1,rfl,hr1,hb1⟩;have R1:Hid (RdT w1 v1 P):=hr1.rd;obtain⟨aP,cP,rfl,hcap,hcP⟩:=R1.o.shape;obtain⟨b,o,rfl,hbl,hcell⟩:=hcP hp0;have HC:=zaa hcell;have B1:=zaa hb1;have c0:=hcell 0 hp0;rw[Nat.add_zero]at c0;clear hr1 hb1 hcP hcell LC
  by_cases n1:P.length<2
  ·have E:Hid (sn=false):=by unfold Hid;rw[SN.o,decide_eq_false (by omega)];rfl
   obtain⟨e1,e2⟩:=NO.o E.o
   have n2:(P.length:Int)<2:=by omega
   subst e1 e2;clear NO YES SN SA SF S0 n1;go_wp2;go_ret2;exact⟨_,rfl,zsj _ _,zab B1.o (BE.o w1) B1.o.size⟩
  have n2:¬ (P.length:Int)<2:=by omega
  by_cases n3:7<P.length
  ·have E:Hid (sn=false):=by unfold Hid;rw[SN.o,decide_eq_false (by omega)];rfl
   obtain⟨e1,e2⟩:=NO.o E.o
   have n4:(P.length:Int)>7:=by omega
   subst e1 e2;clear NO YES SN SA SF S0 n1 n3;go_wp2;go_ret2;exact⟨_,rfl,zsj _ _,zab B1.o (BE.o w1) B1.o.size⟩
  have n4:¬ (P.length:Int)>7:=by omega
  have SN2:Hid (sn=(P[0].toList.isEmpty&&(P.drop 1).all nmB)):=by unfold Hid;rw[SN.o,S0.o,decide_eq_true (by omega),Bool.true_and]
  have p1:(0:Int)<(P.length:Int):=by omega
  clear SN S0
  cases c3:P[0].toList.isEmpty with
  | false =>
   have E:Hid (sn=false):=by unfold Hid;rw[SN2.o,c3];rfl
   obtain⟨e1,e2⟩:=NO.o E.o;subst e1 e2;clear NO YES SN2 SA SF n1 n3;generalize P[0]=p0 at *;go_wp2;go_ret2;exact⟨_,rfl,zsj _ _,zab B1.o (BE.o w1) B1.o.size⟩
  | true =>
  have SN3:Hid (sn=(P.drop 1).all nmB):=by unfold Hid;rw[SN2.o,c3];rfl
  clear SN2;generalize P[0]=p0 at *;go_wp2;clear c0 c3
  go_loopg [5] (P.length-1) (fun g i wr=>∃ k:Nat,k+g=P.length/\1<=k/\i=.I k/\wr=w1/\Hid (∀ j (h:j<P.length),1<=j->j<k->nmB P[j]=true))
  case atStart=>exact⟨1,by omega,Nat.le_refl _,rfl,rfl,fun j h a b=>absurd b (by omega)⟩
  case round =>
   obtain⟨k,hk,hk1,rfl,rfl,H⟩:=hrel
   have k0:(0:Int)<=(k:Int):=by omega
   by_cases hlt:k<P.length
   ·have k1:(k:Int)<(P.length:Int):=by omega
    have d0:=HC.o k hlt;have LN:=zaa (fun w2=>zev P[k] w2 (by have:=PS.o k hlt;unfold maxLen;omega))
    cases q:nmB P[k] with
    | false =>
     have E:Hid (sn=false):=by unfold Hid;rw[SN3.o];exact SF.o k hlt hk1 q
     obtain⟨e1,e2⟩:=NO.o E.o;rw[q]at LN;subst e1 e2;clear NO YES SN3 SA SF n1 n3 H q;generalize P[k]=x at *;go_wp2_with fail;refine(LN.o _).mono ?_;rintro e w2 ⟨rfl,hw2⟩;subst w2;go_wp2;go_ret2;exact⟨_,rfl,zsj _ _,zab B1.o (BE.o _) B1.o.size⟩
    | true =>
     have H2:Hid (∀ j (h:j<P.length),1<=j->j<k+1->nmB P[j]=true):=fun j h a c=>by
      by_cases e:j=k
      ·subst e;exact q
      ·exact H.o j h a (by omega)
     rw[q]at LN;clear H q;generalize P[k]=x at d0 LN;go_wp2_with fail;refine(LN.o _).mono ?_;rintro e w2 ⟨rfl,hw2⟩;subst w2;go_wp2
     go_roundg (P.length-(k+1))
     case measure=>omega
     case rel=>exact⟨k+1,by omega,by omega,by go_num,rfl,H2.o⟩
   ·have E:Hid (sn=true):=by unfold Hid;rw[SN3.o];exact SA.o (fun j h a=>H.o j h a (by omega))
    obtain⟨e1,e2⟩:=YES.o E.o;have RD:Hid (Rd wr 1 (.slice (some ⟨b,o+1,none⟩) (P.length-1) (cP-1)) (P.length-1) (zee (P.drop 1))):=zvs R1.o (by omega);have DL:=zaa (List.length_drop (l:=P) (i:=1))
    have cc:¬ cP=1:=by omega
    subst e1 e2;clear NO YES SN3 SA SF H;go_wp2;go_ret2;exact⟨_,rfl,(by unfold RdT;rw[DL.o];exact RD.o),B1.o⟩
def spC(s:ByteArray):Int:=if 65536<s.size then 2 else if spB s=true then 0 else 12
def spR(s:ByteArray):List ByteArray:=if 65536<s.size then[]else spL s
theorem yamd{s:ByteArray}(h:65536<s.size):spC s=2/\spR s=[]:=by
 unfold spC spR;exact⟨if_pos h,if_pos h⟩
theorem zww{s:ByteArray}(h:¬ 65536<s.size):(spB s=true->spC s=0/\spR s=spL s)/\(spB s=false->spC s=12/\spR s=[]):=by
 unfold spC spR;rw[if_neg h,if_neg h];refine⟨fun q=>⟨if_pos q,rfl⟩,fun q=>⟨by rw[q];rfl,?_⟩⟩;unfold spB at q;unfold spL;rw[Bool.or_eq_false_iff]at q;rw[q.1,q.2];rfl
theorem zvh{s:ByteArray}:(spL s).length<=6:=by
 unfold spL
 split
 ·simp
 ·split
  ·rename_i h;unfold spN at h;simp only[Bool.and_eq_true,decide_eq_true_eq]at h;rw[List.length_drop];omega
  ·simp
def zci(d:Int)(nm:ByteArray)(x:Den):Bool:=decide (0<=x.child)&&(x.dir == d&&x.name.toList == nm.toList)
def zbi(ps:List Den)(d:Int)(nm:ByteArray):Option Nat:=ps.findIdx? (zci d nm)
def zkq(ps:List Den)(d:Int)(nm:ByteArray):Int:=match zbi ps d nm with | none=>-1 | some k=>(k:Int)
def zao(ps:List Den)(k:Nat):Int:=(ps.getD k ⟨0,⟨#[]⟩,0⟩).child
theorem zbn{ps:List Den}{k:Nat}(h:k<ps.length):zao ps k=ps[k].child:=by
 unfold zao;rw[List.getD_eq_getElem?_getD,List.getElem?_eq_getElem h];rfl
theorem yawc{ps:List Den}{d:Int}{nm:ByteArray}(h:∀ j (h:j<ps.length),zci d nm ps[j]=false):zbi ps d nm=none:=by
 unfold zbi;rw[List.findIdx?_eq_none_iff];intro x hx;obtain⟨j,hj,rfl⟩:=List.getElem_of_mem hx;exact h j hj
theorem yalh{ps:List Den}{d:Int}{nm:ByteArray}{k:Nat}(hk:k<ps.length)(h:∀ j (h:j<ps.length),j<k->zci d nm ps[j]=false)(e:zci d nm ps[k]=true):zbi ps d nm=some k:=by
 unfold zbi;rw[List.findIdx?_eq_some_iff_getElem];exact⟨hk,e,fun j hj=>by rw[h j (by omega) hj];simp⟩
theorem zpo{ps:List Den}{d:Int}{nm:ByteArray}{k:Nat}(h:zbi ps d nm=some k):∃ hk:k<ps.length,zci d nm ps[k]=true:=by
 unfold zbi at h;rw[List.findIdx?_eq_some_iff_getElem]at h;obtain⟨hk,e,_⟩:=h;exact⟨hk,e⟩
theorem zzm{d:Int}{nm:ByteArray}{x:Den}(h:zci d nm x=true):0<=x.child:=by
 unfold zci at h;simp only[Bool.and_eq_true,decide_eq_true_eq]at h;exact h.1
def wk(ws:List Ino)(ps:List Den):Int->List ByteArray->Int×Int
 | z,[]=>(z,0)
 | z,n::ns=>if zaj ws z=2 then(match zbi ps z n with | none=>(0,5) | some k=>wk ws ps (zao ps k) ns) else(0,10)
theorem zkc{ws:List Ino}{ps:List Den}{z:Int}{n:ByteArray}{ns:List ByteArray}(h:¬ zaj ws z=2):wk ws ps z (n::ns)=(0,10):=by
 show(if zaj ws z=2 then _ else _)=_
 rw[if_neg h]
theorem zoa{ws:List Ino}{ps:List Den}{z:Int}{n:ByteArray}{ns:List ByteArray}(h:zaj ws z=2)(e:zbi ps z n=none):wk ws ps z (n::ns)=(0,5):=by
 show(if zaj ws z=2 then(match zbi ps z n with | none=>(0,5) | some k=>wk ws ps (zao ps k) ns)else _)=_
 rw[if_pos h,e]
theorem zno{ws:List Ino}{ps:List Den}{z:Int}{n:ByteArray}{ns:List ByteArray}{k:Nat}(h:zaj ws z=2)(e:zbi ps z n=some k):wk ws ps z (n::ns)=wk ws ps (zao ps k) ns:=by
 show(if zaj ws z=2 then(match zbi ps z n with | none=>(0,5) | some k=>wk ws ps (zao ps k) ns)else _)=_
 rw[if_pos h,e]
theorem zef{ws:List Ino}{ps:List Den}(h:zbg ws ps=true){d:Int}{nm:ByteArray}{k:Nat}(e:zbi ps d nm=some k):k<ps.length/\0<=zao ps k/\zao ps k<=15:=by
 obtain⟨hk,q⟩:=zpo e;have:=zzm q;rw[zbn hk]
 rcases zgw h k hk with r | r
 ·omega
 ·exact⟨hk,by omega,by omega⟩
theorem zme{ws:List Ino}{ps:List Den}(h:zbg ws ps=true):∀ (ns:List ByteArray) (z:Int),0<=z/\z<=15->0<=(wk ws ps z ns).1/\(wk ws ps z ns).1<=15
 | [],z,hz=>hz
 | n::ns,z,hz=>by
  by_cases c:zaj ws z=2
  ·cases e:zbi ps z n with
   | none=>rw[zoa c e];exact⟨by decide,by decide⟩
   | some k=>rw[zno c e];exact zme h ns _ (zef h e).2
  ·rw[zkc c];exact⟨by decide,by decide⟩
theorem zfg(v:Value)(ws:List Ino)(ps:List Den)(d:Int)(nm:ByteArray)(w:World)(h:RdIm w v ws ps)(hn:ps.length<=1048576) :
  zC 198 #[v,.I d,.string nm] w fun e w'=>e=.returned (.I (zkq ps d nm))/\zB w w':=by
 obtain⟨vW,vP,rfl,h1,h2⟩:=h;obtain⟨aW,cW,rfl,_⟩:=h1.shape;obtain⟨aP,cP,rfl,_,hcP⟩:=h2.shape;have HZ:=zaa hcP;clear h1 h2 hcP
 obtain⟨W,hW⟩:=zE (w.alloc (.cells #[.slice aW ws.length cW,.slice aP ps.length cP] 51))
 have CA:Hid (∀ w',zB W w'->w'.cell? ⟨w.heap.size,1,none⟩=some (.slice aP ps.length cP)):=fun w' hb=>by
  have:w'.heap[w.heap.size]?=some (.cells #[.slice aW ws.length cW,.slice aP ps.length cP] 51 (0,0)):=(hb.block _ (by rw[hW];simp)).trans (by rw[hW];exact zaf rfl);exact(zac this).2.1
 have BW:Hid (zB w W):=by rw[hW];exact zR.alloc zL _
 have hz:w.heap.size<=W.heap.size:=BW.o.size;go_enter Tryz.func198,Tryz.ntmps198;go_wp2;rw[<- hW];clear hW
 go_loopg [7] ps.length (fun g i wr=>∃ k:Nat,k+g=ps.length/\i=.I k/\Hid (zB W wr/\∀ j (h:j<ps.length),j<k->zci d nm ps[j]=false))
 case atStart=>exact⟨0,by omega,rfl,zR,fun j h a=>absurd a (by omega)⟩
 case round =>
  obtain⟨k,hk,rfl,J⟩:=hrel;have x1:=CA.o wr J.o.1;have B:=zaa (zab BW.o J.o.1 hz)
  have k0:(0:Int)<=(k:Int):=by omega
  by_cases hlt:k<ps.length
  ·obtain⟨b,o,rfl,hbl,hcell⟩:=HZ.o (by omega);obtain⟨c0,c1,c2⟩:=hcell k hlt;have d0:=(B.o.cell (p:=⟨b,o+k*3,none⟩) hbl).trans c0;have d1:=(B.o.cell (p:=⟨b,o+k*3+1,none⟩) hbl).trans c1;have d2:=(B.o.cell (p:=⟨b,o+k*3+2,none⟩) hbl).trans c2
   have k1:(k:Int)<(ps.length:Int):=by omega
   have HY:=zaa (fun e:zci d nm ps[k]=true=>show zkq ps d nm=(k:Int) by unfold zkq;rw[yalh hlt J.o.2 e])
   have HX:=zaa (fun(e:zci d nm ps[k]=false) j (h:j<ps.length) (a:j<k+1)=>show zci d nm ps[j]=false by
    by_cases q:j=k
    ·subst q;exact e
    ·exact J.o.2 j h (by omega))
   have EH:=zaa (show zci d nm ps[k]=(decide (0<=ps[k].child)&&(ps[k].dir == d&&ps[k].name.toList == nm.toList))from rfl);have J1:=zaa J.o.1;clear hcell c0 c1 c2 J;generalize zci d nm ps[k]=hit at *;generalize ps[k].child=y at *;generalize ps[k].dir=yd at *;generalize ps[k].name=yn at *;have BX:=zaa ((Below.refl wr.heap.size wr).alloc zL (.cells #[.I yd,.string yn,.I y] 90));have B5:=zaa (zab J1.o BX.o J1.o.size);have B6:=zaa (zab B.o BX.o B.o.size)
   by_cases q:0<=y
   case neg =>
    have q1:¬ y>=0:=q;have E:=zaa (HX.o (by rw[EH.o,decide_eq_false q];rfl));clear q HX HY EH;go_wp2
    go_roundg (ps.length-(k+1))
    case measure=>omega
    case rel=>exact⟨k+1,by omega,by go_num,B5.o,E.o⟩
   have q1:y>=0:=q
   by_cases r:yd=d
   case neg =>
    have r1:(yd == d)=false:=beq_eq_false_iff_ne.2 r;have E:=zaa (HX.o (by rw[EH.o,r1];simp));clear q r HX HY EH;go_wp2
    go_roundg (ps.length-(k+1))
    case measure=>omega
    case rel=>exact⟨k+1,by omega,by go_num,B5.o,E.o⟩
   have r1:(yd == d)=true:=beq_iff_eq.2 r
   cases t:(yn.toList == nm.toList) with
   | false =>
    have E:=zaa (HX.o (by rw[EH.o,t];simp));clear q r HX HY EH;go_wp2
    go_roundg (ps.length-(k+1))
    case measure=>omega
    case rel=>exact⟨k+1,by omega,by go_num,B5.o,E.o⟩
   | true =>
    have E:=zaa (HY.o (by rw[EH.o,t,r1,decide_eq_true q];rfl));clear q r HX HY EH;go_wp2;go_ret;exact⟨zcx E.o.symm,B6.o⟩
  ·obtain rfl:k=ps.length:=by omega
   have E:=zaa (show zkq ps d nm=-1 by unfold zkq;rw[yawc (fun j h=>J.o.2 j h h)]);clear J;go_wp2;go_ret;exact⟨zcx E.o.symm,B.o⟩
end Go.Proofs.YtogcbbkhnpmgeaaGreatDoor
