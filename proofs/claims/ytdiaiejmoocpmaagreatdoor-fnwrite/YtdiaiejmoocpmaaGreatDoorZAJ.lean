import Derived.Test.YtdiaiejmoocpmaaGreatDoorZAI
import Derived.Lib.SplitLaws
import Derived.Lib.IndexBytes
import Derived.Deep.LoopGhost
set_option maxRecDepth 100000
set_option maxHeartbeats 4000000
namespace Go.Proofs.YtdiaiejmoocpmaaGreatDoor
open Go.RowKit
def mkB(l:List UInt8):ByteArray:=⟨l.toArray⟩
theorem zjy(l:List UInt8):(mkB l).data.toList=l:=by simp[mkB]
theorem yaok(s:ByteArray):mkB s.data.toList=s:=by
 obtain⟨⟨l⟩⟩:=s;rfl
theorem zso{a b:ByteArray}(h:a.data.toList=b.data.toList):a=b:=by rw[<- yaok a,<- yaok b,h]
theorem zsi(s:ByteArray)(a b:Nat):mkB ((s.data.toList.take b).drop a)=s.extract a b:=by
 apply zso;rw[zjy,Lib.extract_data,List.drop_take]
def zky(cur:List UInt8):List UInt8->List (List UInt8)
 | []=>[cur]
 | c::l=>if c=47 then cur::zky [] l else zky (cur++[c]) l
theorem zmr(cur:List UInt8):zky cur []=[cur]:=rfl
theorem zef(cur:List UInt8)(c:UInt8)(l:List UInt8):zky cur (c::l)=if c=47 then cur::zky [] l else zky (cur++[c]) l:=rfl
theorem yaan:∀ (l cur:List UInt8),(∀ c∈l,¬ c=47)->zky cur l=[cur++l]
 | [],cur,_=>by rw[zmr,List.append_nil]
 | c::l,cur,h=>by
  rw[zef,if_neg (h c (List.mem_cons_self ..)),yaan l _ (fun x hx=>h x (List.mem_cons_of_mem _ hx)),List.append_assoc];rfl
theorem zyf:∀ (l cur r:List UInt8),(∀ c∈l,¬ c=47)->zky cur (l++47::r)=(cur++l)::zky [] r
 | [],cur,r,_=>by rw[List.nil_append,zef,if_pos rfl,List.append_nil]
 | c::l,cur,r,h=>by
  rw[List.cons_append,zef,if_neg (h c (List.mem_cons_self ..)),zyf l _ r (fun x hx=>h x (List.mem_cons_of_mem _ hx)),List.append_assoc];rfl
theorem zrf:∀ (l cur:List UInt8),∃ x r,zky cur l=(cur++x)::r
 | [],cur=>⟨[],[],by rw[zmr,List.append_nil]⟩
 | c::l,cur=>by
  rw[zef]
  by_cases h:c=47
  ·rw[if_pos h];exact⟨[],_,by rw[List.append_nil]⟩
  ·rw[if_neg h];obtain⟨x,r,e⟩:=zrf l (cur++[c]);exact⟨c::x,r,by rw[e,List.append_assoc];rfl⟩
theorem zvt:∀ (l cur:List UInt8),(zky cur l).length<=l.length+1
 | [],cur=>by rw[zmr];simp
 | c::l,cur=>by
  rw[zef]
  split
  ·have:=zvt l [];simp only[List.length_cons];omega
  ·have:=zvt l (cur++[c]);simp only[List.length_cons];omega
theorem yasp(l cur:List UInt8):1<=(zky cur l).length:=by
 obtain⟨x,r,e⟩:=zrf l cur;rw[e];simp
theorem zvy:∀ (l cur x:List UInt8),x∈zky cur l->x.length<=cur.length+l.length
 | [],cur,x,h=>by rw[zmr,List.mem_singleton]at h;rw[h];simp
 | c::l,cur,x,h=>by
  rw[zef]at h
  split at h
  ·rcases List.mem_cons.1 h with rfl | h
   ·simp
   ·have:=zvy l [] x h;simp only[List.length_nil,List.length_cons]at *;omega
  ·have:=zvy l (cur++[c]) x h;simp only[List.length_append,List.length_cons,List.length_nil]at *;omega
theorem zuq:∀ (k:Nat) (l:List UInt8),Lib.count l [47]=k->Lib.splitK [47] 0 k l=zky [] l
 | 0,l,h=>by
  show[l]=_
  rw[Lib.count_one]at h;rw[yaan l [] (fun c hc e=>by subst e;have:=List.count_pos_iff.2 hc;omega),List.nil_append]
 | k+1,l,h=>by
  have hm:(47:UInt8)∈l:=by
   rw[Lib.count_one]at h;exact List.count_pos_iff.1 (by omega)
  have hge:=Lib.indexByte_ge l 47;have hi:Lib.index l [47]=Lib.indexByte l 47:=Lib.index_one l 47
  have hne:¬ Lib.indexByte l 47=-1:=fun e=>by
   obtain⟨j,hj,e2⟩:=List.getElem_of_mem hm;exact Lib.indexByte_none e j (by rw[List.getElem?_eq_getElem hj,e2])
  obtain⟨o,ho⟩:∃ o:Nat,Lib.indexByte l 47=(o:Int):=⟨(Lib.indexByte l 47).toNat,by omega⟩
  obtain⟨h1,h2⟩:=Lib.indexByte_some ho;have hol:o<l.length:=(List.getElem?_eq_some_iff.1 h1).1
  have e0:l=l.take o++47::l.drop (o+1):=by
   have hd:l.drop o=47::l.drop (o+1):=by
    rw[List.drop_eq_getElem_cons hol,(List.getElem?_eq_some_iff.1 h1).2]
   rw[<- hd,List.take_append_drop]
  have hno:∀ c∈l.take o,¬ c=47:=fun c hc e=>by
   subst e;obtain⟨j,hj,e2⟩:=List.mem_take_iff_getElem.1 hc;have hj:=Nat.lt_min.1 hj;exact h2 j hj.1 (by rw[List.getElem?_eq_getElem hj.2,e2])
  unfold Lib.splitK;rw[hi,ho,if_neg (by simp),Int.toNat_natCast,Nat.add_zero]
  show l.take o::Lib.splitK [47] 0 k (l.drop (o+1))=zky [] l
  have hc:Lib.count (l.drop (o+1)) [47]=k:=by
   rw[Lib.count_one]at h ⊢;have hz:(l.take o).count 47=0:=List.count_eq_zero.2 (fun hx=>hno 47 hx rfl);rw[e0,List.count_append,hz,List.count_cons_self]at h;omega
  rw[zuq k _ hc]
  conv=>rhs;rw[e0]
  rw[zyf _ _ _ hno,List.nil_append]
def pcs(s:ByteArray):List ByteArray:=(zky [] s.data.toList).map mkB
theorem yaaf(s:ByteArray):Lib.splitB ⟨#[47]⟩ 0 (Lib.countB s ⟨#[47]⟩) s=pcs s:=by
 have h:=Lib.splitB_data ⟨#[47]⟩ 0 (Lib.countB s ⟨#[47]⟩) s;have h2:=zuq (Lib.countB s ⟨#[47]⟩) s.data.toList rfl;unfold pcs;rw[<- h2];have h3:Lib.splitK [47] 0 (Lib.countB s ⟨#[47]⟩) s.data.toList=(Lib.splitB ⟨#[47]⟩ 0 (Lib.countB s ⟨#[47]⟩) s).map (·.data.toList):=h.symm;rw[h3,List.map_map]
 have:(mkB ∘ fun x:ByteArray=>x.data.toList)=id:=funext fun x=>yaok x
 rw[this,List.map_id]
theorem yale(s:ByteArray):(pcs s).length<=s.size+1:=by
 unfold pcs;rw[List.length_map,Lib.size_eq];exact zvt _ _
theorem yapo(s:ByteArray):1<=(pcs s).length:=by unfold pcs;rw[List.length_map];exact yasp _ _
theorem yagi(s:ByteArray):∀ k (h:k<(pcs s).length),(pcs s)[k].size<=s.size:=by
 intro k hk;have hm:(pcs s)[k]∈(zky [] s.data.toList).map mkB:=List.getElem_mem hk;obtain⟨x,hx,e⟩:=List.mem_map.1 hm;have:=zvy _ _ _ hx;rw[<- e,Lib.size_eq,zjy,Lib.size_eq];simpa using this
theorem yaoc(s:ByteArray):Lib.countB s ⟨#[47]⟩+1=(pcs s).length:=by
 rw[<- yaaf,Lib.splitB_all ⟨#[47]⟩ (by decide) 0 _ s rfl]
theorem yaor{s:ByteArray}{l:List UInt8}(h:s.data.toList=47::l):pcs s=mkB []::pcs (mkB l):=by
 unfold pcs;rw[h,zef,if_pos rfl,zjy];rfl
theorem yalo{s:ByteArray}{c:UInt8}{l:List UInt8}(h:s.data.toList=c::l)(hc:¬ c=47):∃ x r,pcs s=x::r/\¬ x.size=0:=by
 unfold pcs;rw[h,zef,if_neg hc,List.nil_append];obtain⟨x,r,e⟩:=zrf l [c];refine⟨mkB ([c]++x),r.map mkB,by rw[e];rfl,?_⟩;rw[Lib.size_eq,zjy];simp
theorem yatw{s:ByteArray}(h:s.data.toList=[]):pcs s=[mkB []]:=by
 unfold pcs;rw[h];rfl
theorem yakq(s:ByteArray)(k:Nat)(h:k<s.size):s.data.toList[k]'(by rw[<- Lib.size_eq];exact h)=s[k]:=by
 rw[Array.getElem_toList];rfl
theorem yaoo(c:UInt8):((c.toNat:Int) == 47)=decide (c=47):=by
 by_cases h:c=47
 ·subst h;rfl
 ·rw[decide_eq_false h,beq_eq_false_iff_ne];intro e;apply h;apply UInt8.toNat_inj.1
  show c.toNat=47
  omega
theorem yapf(l:List UInt8):zky [] l=[]++zky ((l.take 0).drop 0) (l.drop 0):=by simp
theorem yayv{l:List UInt8}{ds:List (List UInt8)}{k f:Nat}(hk:k<l.length)(h:zky [] l=ds++zky ((l.take k).drop f) (l.drop k))(hc:l[k]=47) :
  zky [] l=(ds++[(l.take k).drop f])++zky ((l.take (k+1)).drop (k+1)) (l.drop (k+1)):=by
 rw[List.drop_eq_getElem_cons hk,zef,if_pos hc]at h;rw[h,List.append_assoc,List.drop_of_length_le (l:=l.take (k+1)) (by rw[List.length_take];omega)];rfl
theorem ybbc{l:List UInt8}{ds:List (List UInt8)}{k f:Nat}(hk:k<l.length)(hf:f<=k)(h:zky [] l=ds++zky ((l.take k).drop f) (l.drop k))(hc:¬ l[k]=47) :
  zky [] l=ds++zky ((l.take (k+1)).drop f) (l.drop (k+1)):=by
 rw[List.drop_eq_getElem_cons hk,zef,if_neg hc]at h;rw[h,List.take_succ_eq_append_getElem hk,List.drop_append_of_le_length (by rw[List.length_take];omega)]
theorem yaxu{s:ByteArray}{ds:List (List UInt8)}{f:Nat}(h:zky [] s.data.toList=ds++zky ((s.data.toList.take s.size).drop f) (s.data.toList.drop s.size)):pcs s=ds.map mkB++[s.extract f s.size]:=by
 unfold pcs;rw[h,List.drop_of_length_le (l:=s.data.toList) (by rw[<- Lib.size_eq];exact Nat.le_refl _),zmr,List.map_append]
 show ds.map mkB++[mkB _]=_
 rw[zsi]
theorem yaih(s:ByteArray)(w:World)(hs:s.size<=65536) :
  zC 182 #[.string s,.int .u8 47] w fun e w'=>∃ v',e=.returned v'/\Row w' 9 1 w.heap.size w'.heap.size v' (pcs s).length (zfl (pcs s))/\zB w w':=by
 have START:Hid (SnI w (w.alloc (.cells #[] 9)) (.slice (some ⟨w.heap.size,0,none⟩) 0 0) []):=⟨World.ownsRow_lit w #[] 0 zL (by simp[maxLen]) (by simp),zR.alloc zL _⟩
 have HL:=zaa (Lib.size_eq s);go_enter Tryz.func182,Tryz.ntmps182;go_wp2
 go_loopg [5,6,7] s.size (fun g vL fr i wr=>∃ (k f:Nat) (ds:List (List UInt8)),k+g=s.size/\f<=k/\fr=.I f/\i=.I k/\vL≠.N/\ds.length<=k/\Hid (SnI w wr vL (ds.map mkB)/\zky [] s.data.toList=ds++zky ((s.data.toList.take k).drop f) (s.data.toList.drop k)))
 case atStart=>exact⟨0,0,[],by omega,by omega,rfl,rfl,(fun e=>by cases e),Nat.le_refl _,START.o,yapf _⟩
 case round =>
  obtain⟨k,f,ds,hkg,hf,rfl,rfl,hv,hd,I⟩:=hrel;clear START
  have k0:(0:Int)<=(k:Int):=by omega
  have f0:(0:Int)<=(f:Int):=by omega
  have fk:(f:Int)<=(k:Int):=by omega
  have DL:(ds.map mkB).length=ds.length:=List.length_map ..
  by_cases hlt:k<s.size
  ·have k1:(k:Int)<(s.size:Int):=by omega
   have k2:(k:Int)<=(s.size:Int):=by omega
   have hkl:k<s.data.toList.length:=by rw[<- HL.o];exact hlt
   by_cases c:s[k]=47
   ·have q:((s[k].toNat:Int) == 47)=true:=by rw[yaoo,decide_eq_true c]
    have N:=zaa (yayv hkl I.o.2 (by rw[yakq s k hlt];exact c))
    have MN:Hid ((ds++[(s.data.toList.take k).drop f]).map mkB=ds.map mkB++[s.extract f k]):=by unfold Hid;rw[List.map_append,<- zsi];rfl
    have JB:Hid (SnI w (wr.alloc (.cells #[.string (s.extract f k)] 9)) u5 (ds.map mkB)):=I.o.1.below (zR.alloc zL _);have RB:=zaa (zkd wr (s.extract f k));have hzb:=JB.o.z;simp only[World.size_alloc]at hzb;clear I c;go_wp2_with (at_builtin;refine zae _ rfl (.tmp 20) (.tmp 25) 33 rfl w.heap.size 9 (.string ⟨#[]⟩) 1 16 Tryz.underlying33 zgq rfl (by decide) _ _ _ rfl JB.o.l _ 1 _ rfl RB.o (zbl _) (by simp[maxLen];omega) (by simp;omega) JB.o.z ?_);intro vN wN hownN hgrN;have G:=zaa (JB.o.grow [s.extract f k] rfl (by rw[List.length_map];exact hownN) hgrN);rw[<- MN.o]at G;have hv2:=zaa (G.o.some_ (by simp));clear hownN hgrN JB RB q MN hv;go_wp2
    go_roundg (s.size-(k+1))
    case measure=>omega
    case rel=>exact⟨k+1,k+1,ds++[(s.data.toList.take k).drop f],by omega,Nat.le_refl _,by go_num,by go_num,hv2.o,by simp;omega,G.o,N.o⟩
   ·have q:((s[k].toNat:Int) == 47)=false:=by rw[yaoo,decide_eq_false c]
    have N:=zaa (ybbc hkl hf I.o.2 (by rw[yakq s k hlt];exact c));have I1:=zaa I.o.1;have HV:=zaa hv;clear I c DL hv;go_wp2
    go_roundg (s.size-(k+1))
    case measure=>omega
    case rel=>exact⟨k+1,f,ds,by omega,by omega,rfl,by go_num,HV.o,by omega,I1.o,N.o⟩
  ·obtain rfl:k=s.size:=by omega
   have MN:=zaa (yaxu I.o.2);have JB:Hid (SnI w (wr.alloc (.cells #[.string (s.extract f s.size)] 9)) u5 (ds.map mkB)):=I.o.1.below (zR.alloc zL _);have RB:=zaa (zkd wr (s.extract f s.size));have hzb:=JB.o.z;simp only[World.size_alloc]at hzb;clear I;go_wp2_with (at_builtin;refine zae _ rfl (.tmp 29) (.tmp 33) 33 rfl w.heap.size 9 (.string ⟨#[]⟩) 1 16 Tryz.underlying33 zgq rfl (by decide) _ _ _ rfl JB.o.l _ 1 _ rfl RB.o (zbl _) (by simp[maxLen];omega) (by simp;omega) JB.o.z ?_);intro vN wN hownN hgrN;have G:=zaa (JB.o.grow [s.extract f s.size] rfl (by rw[List.length_map];exact hownN) hgrN);rw[<- MN.o]at G;clear hownN hgrN JB RB MN hv;go_wp2;go_ret;exact⟨_,rfl,zad G.o.l,G.o.b⟩
def zrt(s:ByteArray):Bool:=s.toList == [47]
def spN(s:ByteArray):Bool:=decide (2<=(pcs s).length/\(pcs s).length<=7)&&(((pcs s).getD 0 ⟨#[]⟩).toList.isEmpty&&((pcs s).drop 1).all nmB)
def spB(s:ByteArray):Bool:=zrt s||spN s
def spL(s:ByteArray):List ByteArray:=if zrt s=true then[]else if spN s=true then(pcs s).drop 1 else[]
theorem yafk{s:ByteArray}(h:zrt s=true):spB s=true/\spL s=[]:=by
 unfold spB spL;rw[h];exact⟨rfl,if_pos rfl⟩
theorem ybap{s:ByteArray}(h:zrt s=false)(h2:spN s=false):spB s=false/\spL s=[]:=by
 unfold spB spL;rw[h,h2];exact⟨rfl,rfl⟩
theorem yaup{s:ByteArray}(h:zrt s=false)(h2:spN s=true):spB s=true/\spL s=(pcs s).drop 1:=by
 unfold spB spL;rw[h,h2];exact⟨rfl,rfl⟩
theorem yapa(w:World):RdT w (.N) []:=⟨rfl,none,0,rfl,⟨Nat.le_refl _,fun _=>rfl⟩,fun h=>absurd h (by simp)⟩
theorem zsf(w:World)(a:Addr):RdT w (.slice (some a) 0 0) []:=⟨rfl,some a,0,rfl,⟨Nat.le_refl _,fun e=>by cases e⟩,fun h=>absurd h (by simp)⟩
theorem zop(s:ByteArray)(w:World)(hs:s.size<=65536) :
  zC 154 #[.string s] w fun e w'=>∃ v',e=.returned (.tuple #[v',.bool (spB s)])/\RdT w' v' (spL s)/\zB w w':=by
 have LC:=zaa (fun w1=>yaih s w1 hs);have BE:=zaa (fun w1:World=>(Below.refl w1.heap.size w1).alloc zL (.cells #[] 9))
 cases c1:zrt s with
 | true =>
  obtain⟨E1,E2⟩:=yafk c1;rw[E1,E2];have c2:(s.toList == [47])=true:=c1;clear c1 E1 E2;go_enter Tryz.func154,Tryz.ntmps154;go_wp2;go_ret2;exact⟨_,rfl,zsf _ _,BE.o _⟩
 | false =>
  have c2:(s.toList == [47])=false:=c1;have NO:=zaa (fun h=>ybap c1 h);have YES:=zaa (fun h=>yaup c1 h);have PL:=yale s;have PP:=yapo s;have PS:=zaa (yagi s);have SN:=zaa (show spN s=(decide (2<=(pcs s).length/\(pcs s).length<=7)&&(((pcs s).getD 0 ⟨#[]⟩).toList.isEmpty&&((pcs s).drop 1).all nmB))from rfl);clear c1;generalize spB s=sb at *;generalize spL s=sl at *;generalize spN s=sn at *;generalize pcs s=P at *
  have hp0:0<P.length:=by omega
  have SA:Hid ((∀ j (h:j<P.length),1<=j->nmB P[j]=true)->(P.drop 1).all nmB=true):=fun h=>by
   rw[List.all_eq_true];intro x hx;obtain⟨j,hj,rfl⟩:=List.getElem_of_mem hx;rw[List.length_drop]at hj;rw[List.getElem_drop];exact h (1+j) (by omega) (by omega)
  have SF:Hid (∀ j (h:j<P.length),1<=j->nmB P[j]=false->(P.drop 1).all nmB=false):=fun j h h1 q=>by
   rw[List.all_eq_false];refine⟨P[j],?_,by rw[q];simp⟩
   have e:P[j]=(P.drop 1)[j-1]'(by rw[List.length_drop];omega):=by rw[List.getElem_drop];congr 1;omega
   rw[e];exact List.getElem_mem _
  have S0:Hid (P.getD 0 ⟨#[]⟩=P[0]):=by unfold Hid;rw[List.getD_eq_getElem?_getD,List.getElem?_eq_getElem hp0];rfl
  go_enter Tryz.func154,Tryz.ntmps154;go_wp2_with fail;refine(LC.o _).mono ?_;rintro e w1 ⟨v1,rfl,hr1,hb1⟩;have R1:Hid (RdT w1 v1 P):=hr1.rd;obtain⟨aP,cP,rfl,hcap,hcP⟩:=R1.o.shape;obtain⟨b,o,rfl,hbl,hcell⟩:=hcP hp0;have HC:=zaa hcell;have B1:=zaa hb1;have c0:=hcell 0 hp0;rw[Nat.add_zero]at c0;clear hr1 hb1 hcP hcell LC
  by_cases n1:P.length<2
  ·have E:Hid (sn=false):=by unfold Hid;rw[SN.o,decide_eq_false (by omega)];rfl
   obtain⟨e1,e2⟩:=NO.o E.o
   have n2:(P.length:Int)<2:=by omega
   subst e1 e2;clear NO YES SN SA SF S0 n1;go_wp2;go_ret2;exact⟨_,rfl,zsf _ _,zab B1.o (BE.o w1) B1.o.size⟩
  have n2:¬ (P.length:Int)<2:=by omega
  by_cases n3:7<P.length
  ·have E:Hid (sn=false):=by unfold Hid;rw[SN.o,decide_eq_false (by omega)];rfl
   obtain⟨e1,e2⟩:=NO.o E.o
   have n4:(P.length:Int)>7:=by omega
   subst e1 e2;clear NO YES SN SA SF S0 n1 n3;go_wp2;go_ret2;exact⟨_,rfl,zsf _ _,zab B1.o (BE.o w1) B1.o.size⟩
  have n4:¬ (P.length:Int)>7:=by omega
  have SN2:Hid (sn=(P[0].toList.isEmpty&&(P.drop 1).all nmB)):=by unfold Hid;rw[SN.o,S0.o,decide_eq_true (by omega),Bool.true_and]
  have p1:(0:Int)<(P.length:Int):=by omega
  clear SN S0
  cases c3:P[0].toList.isEmpty with
  | false =>
   have E:Hid (sn=false):=by unfold Hid;rw[SN2.o,c3];rfl
   obtain⟨e1,e2⟩:=NO.o E.o;subst e1 e2;clear NO YES SN2 SA SF n1 n3;generalize P[0]=p0 at *;go_wp2;go_ret2;exact⟨_,rfl,zsf _ _,zab B1.o (BE.o w1) B1.o.size⟩
  | true =>
  have SN3:Hid (sn=(P.drop 1).all nmB):=by unfold Hid;rw[SN2.o,c3];rfl
  clear SN2;generalize P[0]=p0 at *;go_wp2;clear c0 c3
  go_loopg [5] (P.length-1) (fun g i wr=>∃ k:Nat,k+g=P.length/\1<=k/\i=.I k/\wr=w1/\Hid (∀ j (h:j<P.length),1<=j->j<k->nmB P[j]=true))
  case atStart=>exact⟨1,by omega,Nat.le_refl _,rfl,rfl,fun j h a b=>absurd b (by omega)⟩
  case round =>
   obtain⟨k,hk,hk1,rfl,rfl,H⟩:=hrel
   have k0:(0:Int)<=(k:Int):=by omega
   by_cases hlt:k<P.length
   ·have k1:(k:Int)<(P.length:Int):=by omega
    have d0:=HC.o k hlt;have LN:=zaa (fun w2=>zfg P[k] w2 (by have:=PS.o k hlt;unfold maxLen;omega))
    cases q:nmB P[k] with
    | false =>
     have E:Hid (sn=false):=by unfold Hid;rw[SN3.o];exact SF.o k hlt hk1 q
     obtain⟨e1,e2⟩:=NO.o E.o;rw[q]at LN;subst e1 e2;clear NO YES SN3 SA SF n1 n3 H q;generalize P[k]=x at *;go_wp2_with fail;refine(LN.o _).mono ?_;rintro e w2 ⟨rfl,hw2⟩;subst w2;go_wp2;go_ret2;exact⟨_,rfl,zsf _ _,zab B1.o (BE.o _) B1.o.size⟩
    | true =>
     have H2:Hid (∀ j (h:j<P.length),1<=j->j<k+1->nmB P[j]=true):=fun j h a c=>by
      by_cases e:j=k
      ·subst e;exact q
      ·exact H.o j h a (by omega)
     rw[q]at LN;clear H q;generalize P[k]=x at d0 LN;go_wp2_with fail;refine(LN.o _).mono ?_;rintro e w2 ⟨rfl,hw2⟩;subst w2;go_wp2
     go_roundg (P.length-(k+1))
     case measure=>omega
     case rel=>exact⟨k+1,by omega,by omega,by go_num,rfl,H2.o⟩
   ·have E:Hid (sn=true):=by unfold Hid;rw[SN3.o];exact SA.o (fun j h a=>H.o j h a (by omega))
    obtain⟨e1,e2⟩:=YES.o E.o;have RD:Hid (Rd wr 1 (.slice (some ⟨b,o+1,none⟩) (P.length-1) (cP-1)) (P.length-1) (zfl (P.drop 1))):=zwe R1.o (by omega);have DL:=zaa (List.length_drop (l:=P) (i:=1))
    have cc:¬ cP=1:=by omega
    subst e1 e2;clear NO YES SN3 SA SF H;go_wp2;go_ret2;exact⟨_,rfl,(by unfold RdT;rw[DL.o];exact RD.o),B1.o⟩
def spC(s:ByteArray):Int:=if 65536<s.size then 2 else if spB s=true then 0 else 12
def spR(s:ByteArray):List ByteArray:=if 65536<s.size then[]else spL s
theorem yajq{s:ByteArray}(h:65536<s.size):spC s=2/\spR s=[]:=by
 unfold spC spR;exact⟨if_pos h,if_pos h⟩
theorem zxb{s:ByteArray}(h:¬ 65536<s.size):(spB s=true->spC s=0/\spR s=spL s)/\(spB s=false->spC s=12/\spR s=[]):=by
 unfold spC spR;rw[if_neg h,if_neg h];refine⟨fun q=>⟨if_pos q,rfl⟩,fun q=>⟨by rw[q];rfl,?_⟩⟩;unfold spB at q;unfold spL;rw[Bool.or_eq_false_iff]at q;rw[q.1,q.2];rfl
theorem yact{s:ByteArray}:(spL s).length<=6:=by
 unfold spL
 split
 ·simp
 ·split
  ·rename_i h;unfold spN at h;simp only[Bool.and_eq_true,decide_eq_true_eq]at h;rw[List.length_drop];omega
  ·simp
def zcy(d:Int)(nm:ByteArray)(x:Den):Bool:=decide (0<=x.child)&&(x.dir == d&&x.name.toList == nm.toList)
def zcc(ps:List Den)(d:Int)(nm:ByteArray):Option Nat:=ps.findIdx? (zcy d nm)
def zog(ps:List Den)(d:Int)(nm:ByteArray):Int:=match zcc ps d nm with | none=>-1 | some k=>(k:Int)
def zau(ps:List Den)(k:Nat):Int:=(ps.getD k ⟨0,⟨#[]⟩,0⟩).child
theorem zep{ps:List Den}{k:Nat}(h:k<ps.length):zau ps k=ps[k].child:=by
 unfold zau;rw[List.getD_eq_getElem?_getD,List.getElem?_eq_getElem h];rfl
theorem yava{ps:List Den}{d:Int}{nm:ByteArray}(h:∀ j (h:j<ps.length),zcy d nm ps[j]=false):zcc ps d nm=none:=by
 unfold zcc;rw[List.findIdx?_eq_none_iff];intro x hx;obtain⟨j,hj,rfl⟩:=List.getElem_of_mem hx;exact h j hj
theorem yakc{ps:List Den}{d:Int}{nm:ByteArray}{k:Nat}(hk:k<ps.length)(h:∀ j (h:j<ps.length),j<k->zcy d nm ps[j]=false)(e:zcy d nm ps[k]=true):zcc ps d nm=some k:=by
 unfold zcc;rw[List.findIdx?_eq_some_iff_getElem];exact⟨hk,e,fun j hj=>by rw[h j (by omega) hj];simp⟩
theorem yaey{ps:List Den}{d:Int}{nm:ByteArray}{k:Nat}(h:zcc ps d nm=some k):∃ hk:k<ps.length,zcy d nm ps[k]=true:=by
 unfold zcc at h;rw[List.findIdx?_eq_some_iff_getElem]at h;obtain⟨hk,e,_⟩:=h;exact⟨hk,e⟩
theorem yaom{d:Int}{nm:ByteArray}{x:Den}(h:zcy d nm x=true):0<=x.child:=by
 unfold zcy at h;simp only[Bool.and_eq_true,decide_eq_true_eq]at h;exact h.1
def wk(ws:List Ino)(ps:List Den):Int->List ByteArray->Int×Int
 | z,[]=>(z,0)
 | z,n::ns=>if zal ws z=2 then(match zcc ps z n with | none=>(0,5) | some k=>wk ws ps (zau ps k) ns) else(0,10)
theorem zif{ws:List Ino}{ps:List Den}{z:Int}{n:ByteArray}{ns:List ByteArray}(h:¬ zal ws z=2):wk ws ps z (n::ns)=(0,10):=by
 show(if zal ws z=2 then _ else _)=_
 rw[if_neg h]
theorem zkr{ws:List Ino}{ps:List Den}{z:Int}{n:ByteArray}{ns:List ByteArray}(h:zal ws z=2)(e:zcc ps z n=none):wk ws ps z (n::ns)=(0,5):=by
 show(if zal ws z=2 then(match zcc ps z n with | none=>(0,5) | some k=>wk ws ps (zau ps k) ns)else _)=_
 rw[if_pos h,e]
theorem zlc{ws:List Ino}{ps:List Den}{z:Int}{n:ByteArray}{ns:List ByteArray}{k:Nat}(h:zal ws z=2)(e:zcc ps z n=some k):wk ws ps z (n::ns)=wk ws ps (zau ps k) ns:=by
 show(if zal ws z=2 then(match zcc ps z n with | none=>(0,5) | some k=>wk ws ps (zau ps k) ns)else _)=_
 rw[if_pos h,e]
theorem zgp{ws:List Ino}{ps:List Den}(h:zck ws ps=true){d:Int}{nm:ByteArray}{k:Nat}(e:zcc ps d nm=some k):k<ps.length/\0<=zau ps k/\zau ps k<=15:=by
 obtain⟨hk,q⟩:=yaey e;have:=yaom q;rw[zep hk]
 rcases zps h k hk with r | r
 ·omega
 ·exact⟨hk,by omega,by omega⟩
theorem zpn{ws:List Ino}{ps:List Den}(h:zck ws ps=true):∀ (ns:List ByteArray) (z:Int),0<=z/\z<=15->0<=(wk ws ps z ns).1/\(wk ws ps z ns).1<=15
 | [],z,hz=>hz
 | n::ns,z,hz=>by
  by_cases c:zal ws z=2
  ·cases e:zcc ps z n with
   | none=>rw[zkr c e];exact⟨by decide,by decide⟩
   | some k=>rw[zlc c e];exact zpn h ns _ (zgp h e).2
  ·rw[zif c];exact⟨by decide,by decide⟩
theorem zfo(v:Value)(ws:List Ino)(ps:List Den)(d:Int)(nm:ByteArray)(w:World)(h:RdIm w v ws ps)(hn:ps.length<=1048576) :
  zC 183 #[v,.I d,.string nm] w fun e w'=>e=.returned (.I (zog ps d nm))/\zB w w':=by
 obtain⟨vW,vP,rfl,h1,h2⟩:=h;obtain⟨aW,cW,rfl,_⟩:=h1.shape;obtain⟨aP,cP,rfl,_,hcP⟩:=h2.shape;have HZ:=zaa hcP;clear h1 h2 hcP
 obtain⟨W,hW⟩:=zE (w.alloc (.cells #[.slice aW ws.length cW,.slice aP ps.length cP] 67))
 have CA:Hid (∀ w',zB W w'->w'.cell? ⟨w.heap.size,1,none⟩=some (.slice aP ps.length cP)):=fun w' hb=>by
  have:w'.heap[w.heap.size]?=some (.cells #[.slice aW ws.length cW,.slice aP ps.length cP] 67 (0,0)):=(hb.block _ (by rw[hW];simp)).trans (by rw[hW];exact zaf rfl);exact(zac this).2.1
 have BW:Hid (zB w W):=by rw[hW];exact zR.alloc zL _
 have hz:w.heap.size<=W.heap.size:=BW.o.size;go_enter Tryz.func183,Tryz.ntmps183;go_wp2;rw[<- hW];clear hW
 go_loopg [7] ps.length (fun g i wr=>∃ k:Nat,k+g=ps.length/\i=.I k/\Hid (zB W wr/\∀ j (h:j<ps.length),j<k->zcy d nm ps[j]=false))
 case atStart=>exact⟨0,by omega,rfl,zR,fun j h a=>absurd a (by omega)⟩
 case round =>
  obtain⟨k,hk,rfl,J⟩:=hrel;have x1:=CA.o wr J.o.1;have B:=zaa (zab BW.o J.o.1 hz)
  have k0:(0:Int)<=(k:Int):=by omega
  by_cases hlt:k<ps.length
  ·obtain⟨b,o,rfl,hbl,hcell⟩:=HZ.o (by omega);obtain⟨c0,c1,c2⟩:=hcell k hlt;have d0:=(B.o.cell (p:=⟨b,o+k*3,none⟩) hbl).trans c0;have d1:=(B.o.cell (p:=⟨b,o+k*3+1,none⟩) hbl).trans c1;have d2:=(B.o.cell (p:=⟨b,o+k*3+2,none⟩) hbl).trans c2
   have k1:(k:Int)<(ps.length:Int):=by omega
   have HY:=zaa (fun e:zcy d nm ps[k]=true=>show zog ps d nm=(k:Int) by unfold zog;rw[yakc hlt J.o.2 e])
   have HX:=zaa (fun(e:zcy d nm ps[k]=false) j (h:j<ps.length) (a:j<k+1)=>show zcy d nm ps[j]=false by
    by_cases q:j=k
    ·subst q;exact e
    ·exact J.o.2 j h (by omega))
   have EH:=zaa (show zcy d nm ps[k]=(decide (0<=ps[k].child)&&(ps[k].dir == d&&ps[k].name.toList == nm.toList))from rfl);have J1:=zaa J.o.1;clear hcell c0 c1 c2 J;generalize zcy d nm ps[k]=hit at *;generalize ps[k].child=y at *;generalize ps[k].dir=yd at *;generalize ps[k].name=yn at *;have BX:=zaa ((Below.refl wr.heap.size wr).alloc zL (.cells #[.I yd,.string yn,.I y] 158));have B5:=zaa (zab J1.o BX.o J1.o.size);have B6:=zaa (zab B.o BX.o B.o.size)
   by_cases q:0<=y
   case neg =>
    have q1:¬ y>=0:=q;have E:=zaa (HX.o (by rw[EH.o,decide_eq_false q];rfl));clear q HX HY EH;go_wp2
    go_roundg (ps.length-(k+1))
    case measure=>omega
    case rel=>exact⟨k+1,by omega,by go_num,B5.o,E.o⟩
   have q1:y>=0:=q
   by_cases r:yd=d
   case neg =>
    have r1:(yd == d)=false:=beq_eq_false_iff_ne.2 r;have E:=zaa (HX.o (by rw[EH.o,r1];simp));clear q r HX HY EH;go_wp2
    go_roundg (ps.length-(k+1))
    case measure=>omega
    case rel=>exact⟨k+1,by omega,by go_num,B5.o,E.o⟩
   have r1:(yd == d)=true:=beq_iff_eq.2 r
   cases t:(yn.toList == nm.toList) with
   | false =>
    have E:=zaa (HX.o (by rw[EH.o,t];simp));clear q r HX HY EH;go_wp2
    go_roundg (ps.length-(k+1))
    case measure=>omega
    case rel=>exact⟨k+1,by omega,by go_num,B5.o,E.o⟩
   | true =>
    have E:=zaa (HY.o (by rw[EH.o,t,r1,decide_eq_true q];rfl));clear q r HX HY EH;go_wp2;go_ret;exact⟨zdq E.o.symm,B6.o⟩
  ·obtain rfl:k=ps.length:=by omega
   have E:=zaa (show zog ps d nm=-1 by unfold zog;rw[yava (fun j h=>J.o.2 j h h)]);clear J;go_wp2;go_ret;exact⟨zdq E.o.symm,B.o⟩
theorem zrp(v vL:Value)(ws:List Ino)(ps:List Den)(ns:List ByteArray)(w:World)(h:RdIm w v ws ps)(hL:RdT w vL ns)(hi:zck ws ps=true)(hn:ns.length<=1048576) :
  zC 155 #[v,vL] w fun e w'=>e=.returned (.tuple #[.I (wk ws ps 0 ns).1,.I (wk ws ps 0 ns).2])/\zB w w':=by
 have HR:=zaa h;have LE:=zaa (fun d nm w1 h=>zfo v ws ps d nm w1 h (by have:=(zba hi).2.1;omega));obtain⟨vW,vP,rfl,h1,h2⟩:=h;obtain⟨aW,cW,rfl,_,hcW⟩:=h1.shape;obtain⟨aP,cP,rfl,_,hcP⟩:=h2.shape;obtain⟨aL,cL,rfl,_,hcL⟩:=hL.shape;have L16:=zaa (zba hi).1;have L24:=zaa (zba hi).2.1;obtain⟨bW,oW,rfl,hblW,hcellW⟩:=hcW (by have:=L16.o;omega);obtain⟨bP,oP,rfl,hblP,hcellP⟩:=hcP (by have:=L24.o;omega)
 have HW:Hid (∀ w',zB w w'->∀ n:Nat,n<16->w'.cell? ⟨bW,oW+n*11,none⟩=some (.I (zal ws n))):=fun w' hb n hn=>by
  have hnl:n<ws.length:=by have:=L16.o;omega
  rw[zbv hnl];exact(hb.cell (p:=⟨bW,oW+n*11,none⟩) hblW).trans (hcellW n hnl).1
 have HP:Hid (∀ w',zB w w'->∀ k (h:k<ps.length),w'.cell? ⟨bP,oP+k*3+2,none⟩=some (.I (zau ps k))):=fun w' hb k hk=>by
  rw[zep hk];exact(hb.cell (p:=⟨bP,oP+k*3+2,none⟩) hblP).trans (hcellP k hk).2.2
 have HN:=zaa hcL;have CR:=zaa (fun(d:Int) (nm:ByteArray) (k:Nat) (e:zcc ps d nm=some k)=>zgp hi e);generalize hres:wk ws ps 0 ns=res;have HRES:=zaa hres;clear hres;clear h1 h2 hcW hcP hcellW hcellP hcL hL hi
 obtain⟨W,hW⟩:=zE (w.alloc (.cells #[.slice (some ⟨bW,oW,none⟩) ws.length cW,.slice (some ⟨bP,oP,none⟩) ps.length cP] 67))
 have CA:Hid (∀ w',zB W w'->w'.cell? ⟨w.heap.size,0,none⟩=some (.slice (some ⟨bW,oW,none⟩) ws.length cW)/\w'.cell? ⟨w.heap.size,1,none⟩=some (.slice (some ⟨bP,oP,none⟩) ps.length cP)):=fun w' hb=>by
  have:w'.heap[w.heap.size]?=some (.cells #[.slice (some ⟨bW,oW,none⟩) ws.length cW,.slice (some ⟨bP,oP,none⟩) ps.length cP] 67 (0,0)):=(hb.block _ (by rw[hW];simp)).trans (by rw[hW];exact zaf rfl);exact⟨(zac this).1,(zac this).2.1⟩
 have BW:Hid (zB w W):=by rw[hW];exact zR.alloc zL _
 have hz:w.heap.size<=W.heap.size:=BW.o.size;go_enter Tryz.func155,Tryz.ntmps155;go_wp2;rw[<- hW];clear hW
 go_loopg [6,7] ns.length (fun g a i wr=>∃ (k:Nat) (z:Nat),k+g=ns.length/\z<16/\a=.I z/\i=.I k/\Hid (zB W wr/\res=wk ws ps z (ns.drop k)))
 case atStart=>exact⟨0,0,by omega,by omega,rfl,rfl,zR,HRES.o.symm⟩
 case round =>
  obtain⟨k,z,hk,hz16,rfl,rfl,J⟩:=hrel;obtain⟨x0,x1⟩:=CA.o wr J.o.1;have B:=zaa (zab BW.o J.o.1 hz);have J1:=zaa J.o.1
  have k0:(0:Int)<=(k:Int):=by omega
  have z0:(0:Int)<=(z:Int):=by omega
  have z1:(z:Int)<(ws.length:Int):=by have:=L16.o;omega
  by_cases hlt:k<ns.length
  ·have k1:(k:Int)<(ns.length:Int):=by omega
   have y0:=HW.o wr B.o z hz16
   have JD:Hid (res=wk ws ps z (ns[k]::ns.drop (k+1))):=by unfold Hid;rw[J.o.2,List.drop_eq_getElem_cons hlt]
   obtain⟨bL,oL,rfl,hblL,hcell⟩:=HN.o (by omega);have n0:=(B.o.cell (p:=⟨bL,oL+k,none⟩) hblL).trans (hcell k hlt);have WN:=zaa (fun(h:¬ zal ws z=2)=>zif (ps:=ps) (n:=ns[k]) (ns:=ns.drop (k+1)) h);have WO:=zaa (fun(h:zal ws z=2) (e:zcc ps z ns[k]=none)=>zkr (ns:=ns.drop (k+1)) h e);have WS:=zaa (fun(h:zal ws z=2) (j:Nat) (e:zcc ps z ns[k]=some j)=>zlc (ns:=ns.drop (k+1)) h e);have EI:=zaa (show zog ps z ns[k]=match zcc ps z ns[k]with | none=>-1 | some k=>(k:Int)from rfl);have CR2:=zaa (fun(j:Nat) (e:zcc ps z ns[k]=some j)=>CR.o _ _ _ e);have LE2:=zaa (fun w1 (hb:zB wr w1)=>LE.o (z:Int) ns[k] w1 (HR.o.below (zab B.o hb B.o.size)));clear J hcell;generalize zal ws z=kk at *;clear HRES;generalize ns[k]=nm at *
   by_cases q:kk=2
   case neg =>
    have q1:(kk != 2)=true:=by rw[bne_iff_ne];exact q
    obtain rfl:=JD.o.trans (WN.o q);clear q WN WO WS EI CR2 LE2;go_wp2;go_ret2;exact⟨rfl,B.o⟩
   have q1:(kk != 2)=false:=by rw[q];rfl
   have SK:Hid (∀ w',zB wr w'->(w'.cell? ⟨w.heap.size,0,none⟩=some (.slice (some ⟨bW,oW,none⟩) ws.length cW)/\w'.cell? ⟨w.heap.size,1,none⟩=some (.slice (some ⟨bP,oP,none⟩) ps.length cP))/\w'.cell? ⟨bL,oL+k,none⟩=some (.string nm)):=fun w' hb=>⟨CA.o w' (zab J1.o hb J1.o.size),(hb.cell (p:=⟨bL,oL+k,none⟩) (Nat.lt_of_lt_of_le hblL B.o.size)).trans n0⟩
   cases e:zcc ps z nm with
   | none =>
    have W2:=zaa (JD.o.trans (WO.o q e));rw[e]at EI;obtain rfl:=W2.o;have EI2:Hid (zog ps z nm=-1):=EI;rw[EI2.o]at LE2;clear q WN WO WS EI CR2 W2 JD e;go_wp2_with fail
    go_region_held3 (fun w'=>(w'.cell? ⟨w.heap.size,0,none⟩=some (.slice (some ⟨bW,oW,none⟩) ws.length cW)/\w'.cell? ⟨w.heap.size,1,none⟩=some (.slice (some ⟨bP,oP,none⟩) ps.length cP))/\w'.cell? ⟨bL,oL+k,none⟩=some (.string nm))
     (exact SK.o _ (by repeat (first | exact BF.o | exact zR | refine Below.drew ?_)))
     (first
      | (go_at_call 183;refine(LE2.o _ (by repeat (first | exact zR | refine Below.drew ?_))).mono ?_;rintro e w1 ⟨rfl,hb1⟩;have BF:Hid (zB wr w1):=(by first | exact hb1 | exact zab (by repeat (first | exact zR | refine Below.drew ?_)) hb1 zL);clear hb1))
    all_goals
     have B3:=zaa (zab B.o BF.o B.o.size);clear SK x0 x1 y0 n0;go_wp2;go_ret2;exact⟨rfl,(by repeat (first | exact B3.o | refine Below.drew ?_))⟩
   | some j =>
    have W2:=zaa (JD.o.trans (WS.o q j e));obtain⟨hj,c1,c2⟩:=CR2.o j e;rw[e]at EI;have EI2:Hid (zog ps z nm=(j:Int)):=EI;rw[EI2.o]at LE2
    obtain⟨y,hy⟩:∃ y:Nat,zau ps j=(y:Int):=⟨(zau ps j).toNat,by omega⟩
    have HJ:=zaa (fun w' (hb:zB w w')=>HP.o w' hb j hj);rw[hy]at HJ W2
    have y16:y<16:=by omega
    have j0:(0:Int)<=(j:Int):=by omega
    have j1:(j:Int)<(ps.length:Int):=by omega
    have j2:¬ (j:Int)<0:=by omega
    clear q WN WO WS EI CR2 JD e hy c1 c2;go_wp2_with fail
    go_region_held3 (fun w'=>(w'.cell? ⟨w.heap.size,0,none⟩=some (.slice (some ⟨bW,oW,none⟩) ws.length cW)/\w'.cell? ⟨w.heap.size,1,none⟩=some (.slice (some ⟨bP,oP,none⟩) ps.length cP))/\w'.cell? ⟨bL,oL+k,none⟩=some (.string nm))
     (exact SK.o _ (by repeat (first | exact BF.o | exact zR | refine Below.drew ?_)))
     (first
      | (go_at_call 183;refine(LE2.o _ (by repeat (first | exact zR | refine Below.drew ?_))).mono ?_;rintro e w1 ⟨rfl,hb1⟩;have BF:Hid (zB wr w1):=(by first | exact hb1 | exact zab (by repeat (first | exact zR | refine Below.drew ?_)) hb1 zL);clear hb1))
    all_goals
     have B3:=zaa (zab B.o BF.o B.o.size);have B4:=zaa (zab J1.o BF.o J1.o.size);have p1:=(SK.o _ BF.o).1.2;have p2:=HJ.o _ B3.o;clear SK x0 x1 y0 n0;go_wp2
     go_roundg (ns.length-(k+1))
     case measure=>omega
     case rel=>exact⟨k+1,y,by omega,y16,rfl,by go_num,(by repeat (first | exact B4.o | refine Below.drew ?_)),W2.o⟩
  ·obtain rfl:k=ns.length:=by omega
   have E:Hid (res=((z:Int),0)):=by unfold Hid;rw[J.o.2,List.drop_length];rfl
   clear HRES J;obtain rfl:=E.o;go_wp2;go_ret2;exact⟨rfl,B.o⟩
end Go.Proofs.YtdiaiejmoocpmaaGreatDoor
