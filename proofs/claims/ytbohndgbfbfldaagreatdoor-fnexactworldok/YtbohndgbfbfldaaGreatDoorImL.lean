/- The links of an image, by the model. -/
import Derived.Test.YtbohndgbfbfldaaGreatDoorZAX
set_option maxRecDepth 100000
set_option maxHeartbeats 4000000
namespace Go.Proofs.YtbohndgbfbfldaaGreatDoor
open Go.RowKit
def zhh (ds:List Den) (c:Int) (k:Nat):Nat:=((ds.take k).filter fun x=>x.child == c).length
theorem zul (ds:List Den) (c:Int):zhh ds c 0=0:=rfl
theorem zff {ds:List Den} {c:Int} {k:Nat} (h:k < ds.length):zhh ds c (k+1)=zhh ds c k+(if (ds[k].child == c)=true then 1 else 0):=by
 unfold zhh;rw[List.take_succ_eq_append_getElem h,List.filter_append,List.length_append]
 congr 1
 cases q:ds[k].child == c <;> simp[List.filter,q]
theorem zud (ds:List Den) (c:Int) (k:Nat):zhh ds c k≤k:=by
 unfold zhh;exact Nat.le_trans (List.length_filter_le _ _) (by simp;omega)
def zfv (ps:List Den) (i:Nat) (x:Ino):Bool:=decide ((if i=0 then 1 else 0)+(zhh ps i ps.length:Int)=x.links) && (decide (¬ x.kind=2) || zdc ps 16 i)
def zdj (ws:List Ino) (ps:List Den):Bool:=decide (∀ i (h:i < ws.length),zfv ps i ws[i]=true)
theorem zsp {ws:List Ino} {ps:List Den} {i:Nat} (h:i < ws.length) (q:zfv ps i ws[i]=false):zdj ws ps=false:=decide_eq_false (fun e=>by rw[e i h] at q;cases q)
theorem zql (w:World):Calls Tryz.prog 172 #[.bool true] w fun e w'=>e=.returned (.int .i64 1)∧w'=w:=zju true w
theorem zqv (w:World):Calls Tryz.prog 172 #[.bool false] w fun e w'=>e=.returned (.int .i64 0)∧w'=w:=zju false w
theorem zoa (v:Value) (ws:List Ino) (ps:List Den) (w:World) (h:RdIm w v ws ps) (hm:ws.length≤1048576) (hn:ps.length≤1048576) :
  Calls Tryz.prog 127 #[v] w fun e w'=>e=.returned (.bool (zdj ws ps))∧Below w.heap.size w w':=by
 have HR:=zaa h;obtain ⟨vW,vP,rfl,h1,h2⟩:=h;obtain ⟨aW,cW,rfl,_,hcW⟩:=h1.shape;obtain ⟨aP,cP,rfl,_,hcP⟩:=h2.shape;have HW:=zaa hcW;have HZ:=zaa hcP;clear h1 h2 hcP hcW
 obtain ⟨W,hW⟩:∃ W,W=w.alloc (.cells #[.slice aW ws.length cW,.slice aP ps.length cP] 123):=⟨_,rfl⟩
 have CA:Hid (∀ w',Below W.heap.size W w'→w'.cell? ⟨w.heap.size,0,none⟩=some (.slice aW ws.length cW)∧w'.cell? ⟨w.heap.size,1,none⟩=some (.slice aP ps.length cP)):=fun w' hb=>by
  have:w'.heap[w.heap.size]?=some (.cells #[.slice aW ws.length cW,.slice aP ps.length cP] 123 (0,0)):=(hb.block _ (by rw[hW];simp)).trans (by rw[hW];exact zah rfl);exact ⟨(zae this).1,(zae this).2.1⟩
 have BW:Hid (Below w.heap.size w W):=by rw[hW];exact (Below.refl _ _).alloc (Nat.le_refl _) _
 have hz:w.heap.size≤W.heap.size:=BW.o.size;have LH:=zaa (fun d w1 h=>zly (.agg #[.slice aW ws.length cW,.slice aP ps.length cP]) ws ps d w1 h hn);go_enter Tryz.func127,Tryz.ntmps127;go_wp2;rw[← hW];clear hW
 go_loopw [3] (fun i wr=>∃ k:Nat,k≤ws.length∧i=.int .i64 k∧Hid (Below W.heap.size W wr∧∀ j (h:j < ws.length),j < k→zfv ps j ws[j]=true)) (fun i _=>ws.length - (intOf i).toNat)
 case atStart=>exact ⟨0,by omega,rfl,Below.refl _ _,fun j h a=>absurd a (by omega)⟩
 case round =>
  obtain ⟨i,hi,rfl,J⟩:=hrel;obtain ⟨x0,x1⟩:=CA.o wr J.o.1
  by_cases hlt:i < ws.length
  ·have i0:(0:Int)≤(i:Int):=by omega
   have i1:(i:Int) < (ws.length:Int):=by omega
   obtain ⟨b0,HB,b1,LB⟩:∃ b0:Int,Hid (b0=if i=0 then 1 else 0)∧(0≤b0∧b0≤1)∧Hid (∀ w1:World,Calls Tryz.prog 172 #[.bool ((i:Int) == 0)] w1 fun e w'=>e=.returned (.int .i64 b0)∧w'=w1):=by
    by_cases q:i=0
    ·refine ⟨1,zaa (by rw[if_pos q]),by omega,fun w1=>?_⟩;rw[show ((i:Int) == 0)=true by rw[beq_iff_eq];omega];exact zql w1
    ·refine ⟨0,zaa (by rw[if_neg q]),by omega,fun w1=>?_⟩;rw[show ((i:Int) == 0)=false by rw[beq_eq_false_iff_ne];omega];exact zqv w1
   have START:Hid (Below W.heap.size W wr):=J.o.1;go_wp2_with (go_at_call 172;refine (LB.o _).mono ?_;rintro e w' ⟨rfl,hw'⟩;subst w')
   go_loopw [4,5] (fun n kk wq=>∃ k:Nat,k≤ps.length∧kk=.int .i64 k∧n=.int .i64 (b0+(zhh ps i k:Int))∧Hid (Below W.heap.size W wq)) (fun _ kk _=>ps.length - (intOf kk).toNat)
   case atStart=>exact ⟨0,by omega,rfl,by rw[zul];simp,START⟩
   case round =>
    obtain ⟨k,hk,rfl,rfl,K⟩:=hrel;obtain ⟨y0,y1⟩:=CA.o wr K.o;have B:=zaa (zab BW.o K.o hz);have cl:=zud ps i k
    have k0:(0:Int)≤(k:Int):=by omega
    clear x0 x1 START
    by_cases hlk:k < ps.length
    ·obtain ⟨b,o,rfl,hbl,hcell⟩:=HZ.o (by omega);obtain ⟨_,_,c2⟩:=hcell k hlk;have d2:=(B.o.cell (p:=⟨b,o+k*3+2,none⟩) hbl).trans c2
     have k1:(k:Int) < (ps.length:Int):=by omega
     obtain ⟨t,HT,t1,LT⟩:∃ t:Int,Hid ((zhh ps i (k+1):Int)=(zhh ps i k:Int)+t)∧(0≤t∧t≤1)∧Hid (∀ w1:World,Calls Tryz.prog 172 #[.bool (ps[k].child == (i:Int))] w1 fun e w'=>e=.returned (.int .i64 t)∧w'=w1):=by
      cases q:(ps[k].child == (i:Int))
      ·refine ⟨0,zaa (by rw[zff hlk,q];simp),by omega,fun w1=>?_⟩;exact zqv w1
      ·refine ⟨1,zaa (by rw[zff hlk,q];simp),by omega,fun w1=>?_⟩;exact zql w1
     clear hcell c2;generalize ps[k].child=z at *
     have cc0:(0:Int)≤(zhh ps i k:Int)∧(zhh ps i k:Int)≤1048576:=by omega
     generalize (zhh ps i k:Int)=cc at *;go_wp2_with (go_at_call 172;refine (LT.o _).mono ?_;rintro e w' ⟨rfl,hw'⟩;subst w')
     go_roundw
     case rel=>exact ⟨k+1,by omega,by go_num,by rw[HT.o,Int.add_assoc],K⟩
     case measure=>simp[intOf];omega
    ·obtain rfl:k=ps.length:=by omega
     obtain ⟨b,o,rfl,hbl,hcell⟩:=HW.o (by omega);obtain ⟨c0,_,c2,_⟩:=hcell i hlt;have d0:=(B.o.cell (p:=⟨b,o+i*11,none⟩) hbl).trans c0;have d2:=(B.o.cell (p:=⟨b,o+i*11+2,none⟩) hbl).trans c2;have EL:=zaa (show zfv ps i ws[i]=(decide (b0+(zhh ps i ps.length:Int)=ws[i].links) && (decide (¬ ws[i].kind=2) || zdc ps 16 i)) by unfold zfv;rw[HB.o]);have NO:=zaa (fun e=>zsp (ps:=ps) hlt e)
     have YES:=zaa (fun (e:zfv ps i ws[i]=true) j (h:j < ws.length) (a:j < i+1)=>show zfv ps j ws[j]=true by
      by_cases q:j=i
      ·subst q;exact e
      ·exact J.o.2 j h (by omega))
     clear hcell c0 c2 J HB LB
     have cc0:(0:Int)≤(zhh ps i ps.length:Int)∧(zhh ps i ps.length:Int)≤1048576:=by omega
     generalize (zhh ps i ps.length:Int)=cc at *;generalize zfv ps i ws[i]=lb at EL NO YES;generalize ws[i].links=zl at *;generalize ws[i].kind=zk at *
     by_cases q:b0+cc=zl
     ·by_cases r:zk=2
      ·subst r
       cases hh:zdc ps 16 i with
       | true =>
        have E:=zaa (YES.o (by rw[EL.o,decide_eq_true q,hh];rfl));have HH:=zaa hh;have R:=zaa (HR.o.below B.o)
        have q1:(b0+cc != zl)=false:=by rw[q];simp
        clear hh EL NO YES q;go_wp2_with fail;refine (LH.o _ _ R.o).mono ?_;rw[HH.o];rintro e w1 ⟨rfl,hb1⟩;have B1:=zaa (zab K.o hb1 K.o.size);clear hb1;go_wp2
        go_roundw
        case rel=>exact ⟨i+1,by omega,by go_num,B1.o,E.o⟩
        case measure=>simp[intOf];omega
       | false =>
        have E:=zaa (NO.o (by rw[EL.o,hh];simp));have HH:=zaa hh;have R:=zaa (HR.o.below B.o)
        have q1:(b0+cc != zl)=false:=by rw[q];simp
        clear hh EL NO YES q;go_wp2_with fail;refine (LH.o _ _ R.o).mono ?_;rw[HH.o];rintro e w1 ⟨rfl,hb1⟩;have B1:=zaa (zab B.o hb1 B.o.size);clear hb1;go_wp2;go_ret;exact ⟨zac E.o.symm,B1.o⟩
      ·have E:Hid (Below W.heap.size W wr∧∀ j (h:j < ws.length),j < i+1→zfv ps j ws[j]=true):=⟨K.o,YES.o (by rw[EL.o,decide_eq_true q,decide_eq_true r];rfl)⟩
       have r1:(zk == 2)=false:=beq_eq_false_iff_ne.2 r
       have q1:(b0+cc != zl)=false:=by rw[q];simp
       clear EL NO YES q r;go_wp2
       go_roundw
       case rel=>exact ⟨i+1,by omega,by go_num,E⟩
       case measure=>simp[intOf];omega
     ·have q1:(b0+cc != zl)=true:=by rw[bne_iff_ne];exact q
      have E:=zaa (NO.o (by rw[EL.o,decide_eq_false q];rfl));clear q EL NO YES;go_wp2;go_ret;exact ⟨zac E.o.symm,B.o⟩
  ·obtain rfl:i=ws.length:=by omega
   have E:=zaa (show zdj ws ps=true from decide_eq_true (fun j h=>J.o.2 j h h));go_wp2;go_ret;exact ⟨zac E.o.symm,zab BW.o J.o.1 hz⟩
end Go.Proofs.YtbohndgbfbfldaaGreatDoor
