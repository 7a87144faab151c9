import Derived.Lib.Strings
import Derived.Test.YtfagbapgnocjiaaGreatDoorImX
set_option maxRecDepth 100000
set_option maxHeartbeats 4000000
namespace Go.Proofs.YtfagbapgnocjiaaGreatDoor
open Go.RowKit
def zcs(ss:List ByteArray):List Value:=ss.map Value.string
theorem zhf(ss:List ByteArray):(zcs ss).length=ss.length:=by simp[zcs]
theorem znj(ss:List ByteArray)(k:Nat)(h:k<ss.length):(zcs ss)[k]?=some (.string ss[k]):=by simp[zcs,h]
theorem zbb(ss:List ByteArray):∀ u∈zcs ss,u.oneCell'=true:=by
 intro u hu;simp only[zcs,List.mem_map]at hu;obtain⟨s,_,rfl⟩:=hu;rfl
def RdT(w:World)(v:Value)(ss:List ByteArray):Prop:=Rd w 1 v ss.length (zcs ss)
theorem RdT.shape{w:World}{v:Value}{ss:List ByteArray}(h:RdT w v ss):∃ ao cap,v=.slice ao ss.length cap/\ss.length<=cap/\(0<ss.length->∃ b o,ao=some ⟨b,o,none⟩/\b<w.heap.size/\∀ k (h:k<ss.length),w.cell? ⟨b,o+k,none⟩=some (.string ss[k])):=by
 obtain⟨_,ao,cap,rfl,h2,h3⟩:=h;refine⟨ao,cap,rfl,h2.1,fun hn=>?_⟩;obtain⟨b,o,e,hb,hc⟩:=h3 hn;exact⟨b,o,e,hb,fun k hk=>(hc k (by omega)).trans (znj ss k hk)⟩
theorem zdu:(Tryz.prog.info? 9).map (fun i=>(i.zero,i.size,i.bytes))=some (some (.string ⟨#[]⟩),1,16):=by kernel_rfl
theorem zfw(w1:World)(x:ByteArray):Rd (w1.alloc (.cells #[.string x] 9)) 1 (.slice (some ⟨w1.heap.size,0,none⟩) 1 1) 1 (zcs [x]):=by
 refine⟨rfl,_,_,rfl,⟨Nat.le_refl _,fun e=>by cases e⟩,fun _=>⟨w1.heap.size,0,rfl,by simp,fun j hj=>?_⟩⟩
 obtain rfl:j=0:=by omega
 exact(zat (xs:=[.string x]) (zai rfl) 0).1
theorem zgq{B:Nat}{a w:World}(h:Below B a w)(n:Nat):Below B a (w.drewN n):=by
 induction n with
 | zero=>exact h
 | succ n ih=>exact⟨ih.os,ih.tape,ih.output,ih.size,ih.block⟩
structure SnI(W w:World)(vL:Value)(ss:List ByteArray):Prop where
 l:w.ownsRow W.heap.size 9 1 vL ss.length (zcs ss)
 b:zB W w
theorem SnI.z{W w:World}{vL:Value}{ss:List ByteArray}(h:SnI W w vL ss):W.heap.size<=w.heap.size:=h.b.size
theorem SnI.below{W w w':World}{vL:Value}{ss:List ByteArray}(h:SnI W w vL ss)(hb:zB w w'):SnI W w' vL ss :=
 ⟨((zac h.l).below hb zL).1,zab h.b hb h.z⟩
theorem yaju(l l':List ByteArray):zcs (l++l')=zcs l++zcs l':=by simp[zcs]
theorem SnI.grow{W w w':World}{vL v':Value}{ss:List ByteArray}(h:SnI W w vL ss)(l:List ByteArray){m:Nat}(hm:m=l.length)(ho:w'.ownsRow W.heap.size 9 1 v' (ss.length+m) (zcs ss++zcs l))(hg:w.grownBy w' vL.ownBlock):SnI W w' v' (ss++l) :=
 ⟨by rw[yaju,List.length_append,<- hm];exact ho,h.b.grown hg h.z (fun q hq=>(h.l.lt q hq).1)⟩
theorem SnI.rd{W w:World}{vL:Value}{ss:List ByteArray}(h:SnI W w vL ss):RdT w vL ss:=(zac h.l).rd
theorem SnI.form{W w:World}{vL:Value}{ss:List ByteArray}(h:SnI W w vL ss)(hn:vL≠.N):∃ b c,vL=.slice (some ⟨b,0,none⟩) ss.length c/\ss.length<=c/\W.heap.size<=b/\b<w.heap.size:=by
 rcases(zac h.l).shape with ⟨e,_⟩ | ⟨b,c,rfl,hc,_⟩
 ·exact absurd e hn
 ·obtain⟨_,h1,_,h2,_⟩:=(zac h.l).at
  exact⟨b,c,rfl,hc,h1,h2⟩
theorem SnI.some_{W w:World}{vL:Value}{ss:List ByteArray}(h:SnI W w vL ss)(hn:0<ss.length):vL≠.N:=by
 rcases(zac h.l).shape with ⟨_,e,_⟩ | ⟨b,c,rfl,_⟩
 ·omega
 ·intro e;cases e
theorem zlf{w:World}{ao:Option Addr}{n c:Nat}{l:List ByteArray}{m:Nat}(h:RdT w (.slice ao n c) l)(hm:m<=l.length):Rd w 1 (.slice ao m c) m (zcs (l.take m)):=by
 obtain⟨_,ao',cap,e,h2,h3⟩:=h;injection e with e1 e2 e3;subst e1 e2 e3
 have hl:(l.take m).length=m:=by rw[List.length_take];omega
 refine⟨by rw[zhf,hl,Nat.mul_one],ao,c,rfl,⟨by omega,h2.2⟩,fun hp=>?_⟩;obtain⟨b,o,rfl,hb,hcl⟩:=h3 (by omega);refine⟨b,o,rfl,hb,fun j hj=>?_⟩;rw[hcl j (by omega),znj _ _ (by omega),znj _ _ (by omega),List.getElem_take]
theorem zsk{w:World}{b o n c:Nat}{l:List ByteArray}{m:Nat}(h:RdT w (.slice (some ⟨b,o,none⟩) n c) l)(hm:m<=l.length):Rd w 1 (.slice (some ⟨b,o+m,none⟩) (n-m) (c-m)) (n-m) (zcs (l.drop m)):=by
 obtain⟨ao,cap,e,hc,hcell⟩:=h.shape;injection e with e1 e2 e3;subst e1 e2 e3;refine⟨by rw[zhf,Nat.mul_one,List.length_drop],some ⟨b,o+m,none⟩,c-m,rfl,⟨by omega,fun e=>by cases e⟩,fun hp=>?_⟩;obtain⟨b',o',e',hb,hcl⟩:=hcell (by omega)
 cases e'
 refine⟨b,o+m,rfl,hb,fun j hj=>?_⟩;rw[znj _ j (by rw[List.length_drop];omega),List.getElem_drop];have:=hcl (m+j) (by omega);rw[<- Nat.add_assoc]at this;exact this
theorem zyz{w:World}{a:Addr}{c:Nat}{l:List ByteArray}{m:Nat}(hm:m=l.length):Rd w 1 (.slice (some a) 0 c) 0 (zcs (l.drop m)) :=
 ⟨by rw[zhf,List.length_drop];omega,some a,c,rfl,⟨Nat.zero_le _,fun e=>by cases e⟩,fun h=>absurd h (by omega)⟩
def Ord(ss:List ByteArray):Prop:=ss.Pairwise fun a b=>a.toList<=b.toList
theorem yail{ss:List ByteArray}{x:ByteArray}{k:Nat}(hk:k<=ss.length)(h:Ord ss)(h1:∀ i (h:i<ss.length),k<=i->x.toList<ss[i].toList)(h2:∀ i (h:i<ss.length),i+1=k->ss[i].toList<=x.toList):Ord (ss.take k++[x]++ss.drop k):=by
 have ht:∀ a∈ss.take k,a.toList<=x.toList:=by
  intro a ha;obtain⟨i,hi,rfl⟩:=List.mem_take_iff_getElem.1 ha;have hi:=Nat.lt_min.1 hi
  by_cases e:i+1=k
  ·exact h2 i hi.2 e
  ·have h3:=h2 (k-1) (by omega) (by omega);exact List.le_trans (List.pairwise_iff_getElem.1 h i (k-1) hi.2 (by omega) (by omega)) h3
 have hd:∀ a∈ss.drop k,x.toList<=a.toList:=by
  intro a ha;obtain⟨i,hi,rfl⟩:=List.getElem_of_mem ha;rw[List.length_drop]at hi;rw[List.getElem_drop];exact List.le_of_lt (h1 (k+i) (by omega) (by omega))
 unfold Ord at h ⊢;rw[List.append_assoc,List.pairwise_append];have h':=h;rw[<- List.take_append_drop k ss,List.pairwise_append]at h';refine⟨h'.1,List.pairwise_append.2 ⟨List.pairwise_singleton _ _,h'.2.1,fun a ha b hb=>?_⟩,fun a ha b hb=>?_⟩
 ·rw[List.mem_singleton.1 ha];exact hd b hb
 ·rcases List.mem_append.1 hb with hb | hb
  ·rw[List.mem_singleton.1 hb];exact ht a ha
  ·exact h'.2.2 a ha b hb
theorem zyw(ss:List ByteArray)(x:ByteArray)(k:Nat):(ss.take k++[x]++ss.drop k).Perm (ss++[x]):=by
 rw[List.append_assoc];refine List.Perm.trans (List.Perm.append_left _ List.perm_append_comm) ?_;rw[<- List.append_assoc,List.take_append_drop]
def zaw(ps:List Den)(d:Int):List ByteArray:=(ps.filter fun x=>decide (¬ x.child<0/\x.dir=d)).map Den.name
theorem yabj{ps:List Den}{d:Int}{k:Nat}(h:k<ps.length):zaw (ps.take (k+1)) d=if ¬ ps[k].child<0/\ps[k].dir=d then zaw (ps.take k) d++[ps[k].name]else zaw (ps.take k) d:=by
 unfold zaw;rw[List.take_succ_eq_append_getElem h,List.filter_append,List.map_append]
 by_cases c:¬ ps[k].child<0/\ps[k].dir=d
 ·rw[if_pos c];simp only[List.filter_cons,decide_eq_true c,if_true,List.filter_nil,List.map_cons,List.map_nil]
 ·rw[if_neg c];simp only[List.filter_cons,decide_eq_false c,List.filter_nil];simp
theorem zte(ps:List Den)(d:Int):(zaw ps d).length<=ps.length:=by unfold zaw;rw[List.length_map];exact List.length_filter_le _ _
def zbk(ss:List ByteArray):List ByteArray:=((ss.map fun s=>s.data.toList).mergeSort fun x y=>decide (x<=y)).map fun l=>⟨l.toArray⟩
theorem zex(ss:List ByteArray):(zbk ss).length=ss.length:=by unfold zbk;rw[List.length_map,List.length_mergeSort,List.length_map]
theorem zpo{ss l:List ByteArray}(h:Ord ss)(hp:ss.Perm l):ss=zbk l:=by
 have tr:∀ a b c:List UInt8,decide (a<=b)=true->decide (b<=c)=true->decide (a<=c)=true:=fun a b c h1 h2=>by simp only[decide_eq_true_eq]at *;exact List.le_trans h1 h2
 have tot:∀ a b:List UInt8,(decide (a<=b)||decide (b<=a))=true:=fun a b=>by simp only[Bool.or_eq_true,decide_eq_true_eq];exact List.le_total a b
 have e:ss.map (fun s=>s.data.toList)=(l.map fun s=>s.data.toList).mergeSort fun x y=>decide (x<=y):=by
  refine List.Perm.eq_of_pairwise (le:=fun a b=>decide (a<=b)=true) (fun a b _ _ h1 h2=>?_) ?_ (List.pairwise_mergeSort tr tot _) ((hp.map _).trans (List.mergeSort_perm _ _).symm)
  ·simp only[decide_eq_true_eq]at h1 h2;exact List.le_antisymm h1 h2
  ·rw[List.pairwise_map];refine List.Pairwise.imp (fun {a b} h=>?_) h;rw[Lib.toList_data,Lib.toList_data]at h;exact decide_eq_true h
 unfold zbk;rw[<- e,List.map_map];rw[show((fun l:List UInt8=>(⟨l.toArray⟩:ByteArray)) ∘ fun s:ByteArray=>s.data.toList)=id from funext fun s=>by simp];simp
def zep(ws:List Ino)(t:Int)(k j:Nat):List Int:=zbm (zss ws k j) t
theorem zwt(ws:List Ino)(t:Int)(k:Nat):zep ws t k 0=zbm (zaq (ws.take k)) t:=by unfold zep;rw[zue]
theorem zyb{ws:List Ino}{k:Nat}(t:Int)(hk:k<ws.length):zep ws t k 8=zbm (zaq (ws.take (k+1))) t:=by unfold zep;rw[zvg hk]
theorem zws{ws:List Ino}{k:Nat}(t:Int)(hk:k<ws.length){j:Nat}(hj:j<8):zep ws t k (j+1)=if ¬ ws[k].map.getD j 0=0/\ws[k].map.getD j 0%4=t then zep ws t k j++[ws[k].map.getD j 0/4]else zep ws t k j:=by
 unfold zep;rw[zvi hk hj];generalize ws[k].map.getD j 0=z
 by_cases h0:z=0
 ·rw[if_pos h0,if_neg (fun h=>h.1 h0)]
 ·rw[if_neg h0];unfold zbm;rw[List.filter_append,List.map_append]
  by_cases h1:z%4=t
  ·rw[if_pos ⟨h0,h1⟩];simp[h1]
  ·rw[if_neg (fun h=>h1 h.2)];simp[h1]
theorem zkj(l:List Int)(t:Int):(zbm l t).length<=l.length:=by
 unfold zbm;rw[List.length_map];exact List.length_filter_le _ _
theorem znk(v:Value)(ws:List Ino)(ps:List Den)(t:Int)(w:World)(h:RdIm w v ws ps)(hn:ws.length<=4096)(hr:∀ k (h:k<ws.length),∀ z∈ws[k].map,0<=z/\z<=1048576) :
  zC 92 #[v,.I t] w fun e w'=>∃ v',e=.returned v'/\Row w' 3 1 w.heap.size w'.heap.size v' (zbm (zaq ws) t).length (zeh (zbm (zaq ws) t))/\zB w w':=by
 obtain⟨vW,vP,rfl,h1,h2⟩:=h;obtain⟨aW,cW,rfl,_,hcW⟩:=h1.shape;have HW:=zaa hcW;have HR:=zaa hr;obtain⟨aP,cP,rfl,_,_⟩:=h2.shape;clear h1 h2 hcW hr
 obtain⟨W,hW⟩:=zE (w.alloc (.cells #[.slice aW ws.length cW,.slice aP ps.length cP] 26))
 have CA:Hid (∀ w',zB W w'->w'.cell? ⟨w.heap.size,0,none⟩=some (.slice aW ws.length cW)):=fun w' hb=>by
  have:w'.heap[w.heap.size]?=some (.cells #[.slice aW ws.length cW,.slice aP ps.length cP] 26 (0,0)):=(hb.block _ (by rw[hW];simp)).trans (by rw[hW];exact zai rfl);exact(zad this).1
 have BW:Hid (zB w W):=by rw[hW];exact zR.alloc zL _
 have hz:w.heap.size<=W.heap.size:=BW.o.size
 have START:Hid (InI W (W.alloc (.cells #[] 3)) (.slice (some ⟨W.heap.size,0,none⟩) 0 0) (zbm (zaq (ws.take 0)) t)):=⟨World.ownsRow_lit W #[] 0 zL (by simp[maxLen]) (by simp),zR.alloc zL _⟩
 go_enter Tryz.func92,Tryz.ntmps92;go_wp2;rw[hW]at START;simp only[World.size_alloc]at START
 go_loopw [5,6] (fun vL i wr=>∃ k:Nat,k<=ws.length/\i=.I k/\Hid (InI W wr vL (zbm (zaq (ws.take k)) t))) (fun _ i _=>ws.length-(intOf i).toNat)
 case atStart=>exact⟨0,by omega,rfl,by rw[hW];exact START.o⟩
 case round =>
  obtain⟨k,hk,rfl,I⟩:=hrel;clear START hW;have x0:=CA.o wr I.o.b;have hzr:W.heap.size<=wr.heap.size:=I.o.z
  have k0:(0:Int)<=(k:Int):=by omega
  by_cases hlt:k<ws.length
  ·obtain⟨b,o,rfl,hbl,hcell⟩:=HW.o (by omega)
   have k1:(k:Int)<(ws.length:Int):=by omega
   have MZ:=zaa (zwt ws t k);have MF:=zaa (zyb t hlt);have MS:=zaa (fun j (hj:j<8)=>zws t hlt hj);have ML:=zaa (fun j (hj:j<=8)=>Nat.le_trans (zkj (zss ws k j) t) (yaat ws k j hlt hj))
   have ST:Hid (InI W wr u5 (zep ws t k 0)):=by unfold Hid;rw[MZ.o];exact I.o
   have HM:Hid (∀ w',zB w w'->∀ j,j<8->w'.cell? ⟨b,o+k*11+3+j,none⟩=some (.I (ws[k].map.getD j 0))):=fun w' hb j hj=>by
    obtain⟨a0,a1,a2,a3,a4,a5,a6,a7,a8,a9,a10⟩:=hcell k hlt
    rcases(show j=0\/j=1\/j=2\/j=3\/j=4\/j=5\/j=6\/j=7 by omega)with rfl|rfl|rfl|rfl|rfl|rfl|rfl|rfl
    ·exact(hb.cell (p:=⟨b,o+k*11+3,none⟩) hbl).trans a3
    ·exact(hb.cell (p:=⟨b,o+k*11+4,none⟩) hbl).trans a4
    ·exact(hb.cell (p:=⟨b,o+k*11+5,none⟩) hbl).trans a5
    ·exact(hb.cell (p:=⟨b,o+k*11+6,none⟩) hbl).trans a6
    ·exact(hb.cell (p:=⟨b,o+k*11+7,none⟩) hbl).trans a7
    ·exact(hb.cell (p:=⟨b,o+k*11+8,none⟩) hbl).trans a8
    ·exact(hb.cell (p:=⟨b,o+k*11+9,none⟩) hbl).trans a9
    ·exact(hb.cell (p:=⟨b,o+k*11+10,none⟩) hbl).trans a10
   have HZ:Hid (∀ j,j<8->0<=ws[k].map.getD j 0/\ws[k].map.getD j 0<=1048576):=fun j hj=>by
    have e:ws[k].map.getD j 0=ws[k].map[j]'hj:=by rw[List.getD_eq_getElem?_getD,List.getElem?_eq_getElem (show j<ws[k].map.length from hj)];rfl
    rw[e];exact HR.o k hlt _ (List.getElem_mem _)
   clear I hcell;generalize ws[k]=x at *;go_wp2;clear x0
   go_loopw [5,7] (fun vL i wq=>∃ j:Nat,j<=8/\i=.I j/\Hid (InI W wq vL (zep ws t k j))) (fun _ i _=>8-(intOf i).toNat)
   case atStart=>exact⟨0,by omega,rfl,ST⟩
   case round =>
    obtain⟨j,hj,rfl,J⟩:=hrel;clear ST;have y0:=CA.o wr J.o.b;have JW:=zaa (zab BW.o J.o.b hz);have hzj:W.heap.size<=wr.heap.size:=J.o.z
    have j0:(0:Int)<=(j:Int):=by omega
    by_cases hlj:j<8
    ·have j1:(j:Int)<8:=by omega
     have e0:=HM.o wr JW.o j hlj;obtain⟨b0,b1⟩:=HZ.o j hlj;have MJ:=zaa (MS.o j hlj);have hlen:(zep ws t k j).length<=8*ws.length:=ML.o j (by omega);generalize x.map.getD j 0=z at e0 b0 b1 MJ
     by_cases q:z=0
     ·have q':(z != 0)=false:=by rw[q];rfl
      have G:Hid (InI W wr u5 (zep ws t k (j+1))):=by unfold Hid;rw[MJ.o,if_neg (fun h=>h.1 q)];exact J.o
      clear q J MJ;go_wp2
      go_roundw
      case rel=>exact⟨j+1,by omega,by go_num,G⟩
      case measure=>simp[intOf];omega
     ·have q':(z != 0)=true:=by rw[bne_iff_ne];exact q
      by_cases r:z%4=t
      ·have r':(z%4 == t)=true:=by rw[beq_iff_eq];exact r
       have JB:Hid (InI W (wr.alloc (.cells #[.I (z/4)] 3)) u5 (zep ws t k j)):=J.o.below (zR.alloc zL _);have RB:=zaa (yajj wr (z/4));have hzb:=JB.o.z
       have MN:Hid (zep ws t k (j+1)=zep ws t k j++[z/4]):=by unfold Hid;rw[MJ.o,if_pos ⟨q,r⟩]
       clear q r J MJ;go_wp2_with (at_builtin;refine zaf _ rfl (.tmp 37) (.tmp 40) 70 rfl W.heap.size 3 (.I 0) 1 8 Tryz.underlying70 zmu rfl (by decide) _ _ _ rfl JB.o.l _ 1 _ rfl RB.o (zwr _) (by simp[maxLen];omega) (by omega) (by omega) ?_);intro vN wN hownN hgrN;have G:=zaa (JB.o.grow (z/4) hownN hgrN);rw[<- MN.o]at G;clear hownN hgrN JB RB;go_wp2
       go_roundw
       case rel=>exact⟨j+1,by omega,by go_num,G⟩
       case measure=>simp[intOf];omega
      ·have r':(z%4 == t)=false:=by rw[beq_eq_false_iff_ne];exact r
       have G:Hid (InI W wr u5 (zep ws t k (j+1))):=by unfold Hid;rw[MJ.o,if_neg (fun h=>r h.2)];exact J.o
       clear q r J MJ;go_wp2
       go_roundw
       case rel=>exact⟨j+1,by omega,by go_num,G⟩
       case measure=>simp[intOf];omega
    ·obtain rfl:j=8:=by omega
     have G:Hid (InI W wr u5 (zbm (zaq (ws.take (k+1))) t)):=by unfold Hid;rw[<- MF.o];exact J.o
     clear J;go_wp2
     go_roundw
     case rel=>exact⟨k+1,by omega,by go_num,G⟩
     case measure=>simp[intOf];omega
  ·obtain rfl:k=ws.length:=by omega
   have E:=zaa (show zbm (zaq (ws.take ws.length)) t=zbm (zaq ws) t by rw[List.take_length]);rw[E.o]at I;obtain⟨-,aL,cL,hvL,-⟩:=(zac I.o.l).rd;subst hvL;go_wp2;go_ret;exact⟨_,rfl,(zac I.o.l).wide hz zL,zab BW.o I.o.b hz⟩
end Go.Proofs.YtfagbapgnocjiaaGreatDoor
