/- The entries of an image, by the model. -/
import Derived.Test.YtbohndgbfbfldaaGreatDoorImX
set_option maxRecDepth 100000
set_option maxHeartbeats 8000000
namespace Go.Proofs.YtbohndgbfbfldaaGreatDoor
open Go.RowKit
theorem zzj {ws:List Ino} {ps:List Den} (h:∀ i (h:i < ps.length),zco ws ps i ps[i]=true):zen ws ps=true:=decide_eq_true h
theorem ztc {ws:List Ino} {ps:List Den} {i:Nat} (hi:i < ps.length) (h:zco ws ps i ps[i]=false):zen ws ps=false:=decide_eq_false (fun x=>by have:=x i hi;rw[h] at this;cases this)
theorem zxa {ws:List Ino} {ps:List Den} {i:Nat} {x:Den} (h:x.child=-1):zco ws ps i x=x.freeB:=by unfold zco;rw[if_pos h]
theorem zsu {ws:List Ino} {ps:List Den} {i:Nat} {x:Den} (h:¬ x.child=-1):zco ws ps i x=(decide (1≤x.child∧x.child≤15) && (decide (0≤x.dir∧x.dir≤15) && (nmB x.name && (!(zbf ws x.child == 0) && (zbf ws x.dir == 2 && (ps.take i).all fun y=>!zcg y x))))):=by unfold zco;rw[if_neg h]
theorem yaax {ps:List Den} {i k:Nat} {x:Den} (hk:k < ps.length) (hi:k < i) (h:zcg ps[k] x=true):((ps.take i).all fun y=>!zcg y x)=false:=by
 rw[List.all_eq_false];exact ⟨ps[k],List.mem_take_iff_getElem.2 ⟨k,Nat.lt_min.2 ⟨hi,hk⟩,rfl⟩,by rw[h];decide⟩
theorem yadb {ps:List Den} {i:Nat} {x:Den} (h:∀ k (h:k < ps.length),k < i→zcg ps[k] x=false):((ps.take i).all fun y=>!zcg y x)=true:=by
 rw[List.all_eq_true];intro y hy;obtain ⟨k,hk,rfl⟩:=List.mem_take_iff_getElem.1 hy;have hk:=Nat.lt_min.1 hk;rw[h k hk.2 hk.1];rfl
theorem zit (v:Value) (ws:List Ino) (ps:List Den) (w:World) (h:RdIm w v ws ps) (hl:ws.length=16) (hn:ps.length≤1048576) (hs:∀ k (h:k < ps.length),ps[k].name.size≤maxLen) :
  Calls Tryz.prog 126 #[v] w fun e w'=>e=.returned (.bool (zen ws ps))∧Below w.heap.size w w':=by
 obtain ⟨vW,vP,rfl,h1,h2⟩:=h;obtain ⟨aW,cW,rfl,_,hcW⟩:=h1.shape;obtain ⟨aP,cP,rfl,_,hcP⟩:=h2.shape;obtain ⟨bW,oW,rfl,hblW,hcellW⟩:=hcW (by omega);have HW:=zaa hcellW;have HZ:=zaa hcP;have HS:=zaa hs;have HL:=zaa hl
 have w16:(15:Int) < (ws.length:Int):=by omega
 clear h1 h2 hcP hcW hcellW hs hl
 obtain ⟨W,hW⟩:∃ W,W=w.alloc (.cells #[.slice (some ⟨bW,oW,none⟩) ws.length cW,.slice aP ps.length cP] 123):=⟨_,rfl⟩
 have CA:Hid (∀ w',Below W.heap.size W w'→w'.cell? ⟨w.heap.size,0,none⟩=some (.slice (some ⟨bW,oW,none⟩) ws.length cW)∧w'.cell? ⟨w.heap.size,1,none⟩=some (.slice aP ps.length cP)):=fun w' hb=>by
  have:w'.heap[w.heap.size]?=some (.cells #[.slice (some ⟨bW,oW,none⟩) ws.length cW,.slice aP ps.length cP] 123 (0,0)):=(hb.block _ (by rw[hW];simp)).trans (by rw[hW];exact zah rfl);exact ⟨(zae this).1,(zae this).2.1⟩
 have BW:Hid (Below w.heap.size w W):=by rw[hW];exact (Below.refl _ _).alloc (Nat.le_refl _) _
 have hz:w.heap.size≤W.heap.size:=BW.o.size;go_enter Tryz.func126,Tryz.ntmps126;go_wp2;rw[← hW];clear hW
 go_loopw [3] (fun i wr=>∃ k:Nat,k≤ps.length∧i=.int .i64 k∧Hid (Below W.heap.size W wr∧∀ j (h:j < ps.length),j < k→zco ws ps j ps[j]=true)) (fun i _=>ps.length - (intOf i).toNat)
 case atStart=>exact ⟨0,by omega,rfl,Below.refl _ _,fun j h a=>absurd a (by omega)⟩
 case round =>
  obtain ⟨i,hi,rfl,J⟩:=hrel;obtain ⟨x0,x1⟩:=CA.o wr J.o.1;have J1:=zaa J.o.1;have JW:=zaa (zab BW.o J.o.1 hz);have hzr:W.heap.size≤wr.heap.size:=J.o.1.size
  by_cases hlt:i < ps.length
  ·obtain ⟨b,o,rfl,hbl,hcell⟩:=HZ.o (by omega);obtain ⟨a0,a1,a2⟩:=hcell i hlt;have d0:=(JW.o.cell (p:=⟨b,o+i*3,none⟩) hbl).trans a0;have d1:=(JW.o.cell (p:=⟨b,o+i*3+1,none⟩) hbl).trans a1;have d2:=(JW.o.cell (p:=⟨b,o+i*3+2,none⟩) hbl).trans a2
   have i0:(0:Int)≤(i:Int):=by omega
   have i1:(i:Int) < (ps.length:Int):=by omega
   have YES:Hid (zco ws ps i ps[i]=true→∀ j (h:j < ps.length),j < i+1→zco ws ps j ps[j]=true):=fun q j h a=>by
    by_cases e:j=i
    ·subst e;exact q
    ·exact J.o.2 j h (by omega)
   have NO:=zaa (fun q=>ztc (ws:=ws) hlt q);have EF:=zaa (@zxa ws ps i ps[i]);have ET:=zaa (@zsu ws ps i ps[i]);have DF:=zkh ps[i];have SZ:=zaa (HS.o i hlt);clear a0 a1 a2 J;generalize ps[i]=x at *;generalize zco ws ps i x=eo at YES NO EF ET;have B2:=zaa (J1.o.alloc hzr (.cells #[.int .i64 x.dir,.string x.name,.int .i64 x.child] 143));have BF:=zaa (zab BW.o B2.o hz)
   by_cases c1:x.child=-1
   ·have q1:(x.child == -1)=true:=by rw[c1];rfl
    have EO:=zaa (EF.o c1)
    cases c2:x.freeB with
    | true =>
     rw[c2] at DF EO;have E:=zaa (YES.o EO.o);clear c1 c2 EF ET YES NO EO;go_wp2
     go_roundw
     case rel=>exact ⟨i+1,by omega,by go_num,B2.o,E.o⟩
     case measure=>simp[intOf];omega
    | false =>
     rw[c2] at DF EO;have E:=zaa (NO.o EO.o);clear c1 c2 EF ET YES NO EO;go_wp2;go_ret;exact ⟨zac E.o.symm,BF.o⟩
   have q1:(x.child == -1)=false:=by rw[beq_eq_false_iff_ne];exact c1
   have EO:=zaa (ET.o c1);clear c1 EF ET DF
   by_cases c2:1≤x.child∧x.child≤15
   case neg =>
    have E:=zaa (NO.o (by rw[EO.o,decide_eq_false c2];rfl));have C2:=zaa c2;clear c2 YES NO EO;go_wp2_with fail;refine (zbg _ _ _ _ C2.o).mono ?_;rintro e w' ⟨rfl,hw'⟩;subst w';go_wp2;go_ret;exact ⟨zac E.o.symm,BF.o⟩
   by_cases c3:0≤x.dir∧x.dir≤15
   case neg =>
    have E:=zaa (NO.o (by rw[EO.o,decide_eq_false c3,Bool.false_and,Bool.and_false]));have C2:=zaa c2;have C3:=zaa c3;clear c2 c3 YES NO EO;go_wp2_with fail;refine (zak _ _ _ _ C2.o).mono ?_;rintro e w' ⟨rfl,hw'⟩;subst w';go_wp2_with fail;refine (zbg _ _ _ _ C3.o).mono ?_;rintro e w' ⟨rfl,hw'⟩;subst w';go_wp2;go_ret;exact ⟨zac E.o.symm,BF.o⟩
   cases c4:nmB x.name with
   | false =>
    have E:=zaa (NO.o (by rw[EO.o,c4,Bool.false_and,Bool.and_false,Bool.and_false]));have C2:=zaa c2;have C3:=zaa c3;have C4:=zaa c4;clear c2 c3 c4 YES NO EO;go_wp2_with fail;refine (zak _ _ _ _ C2.o).mono ?_;rintro e w' ⟨rfl,hw'⟩;subst w';go_wp2_with fail;refine (zak _ _ _ _ C3.o).mono ?_;rintro e w' ⟨rfl,hw'⟩;subst w';go_wp2_with fail;refine (zcp _ _ SZ.o).mono ?_;rw[C4.o];rintro e w' ⟨rfl,hw'⟩;subst w';go_wp2;go_ret;exact ⟨zac E.o.symm,BF.o⟩
   | true =>
   have EO2:=zaa (show eo=(!(zbf ws x.child == 0) && (zbf ws x.dir == 2 && (ps.take i).all fun y=>!zcg y x)) by rw[EO.o,decide_eq_true c2,decide_eq_true c3,c4];rfl);have C4:=zaa c4;clear c4 EO;obtain ⟨xd,xs,xc⟩:=x;simp only at d0 d1 d2 c2 c3 SZ B2 BF EO2 q1 C4
   obtain ⟨d,rfl⟩:∃ d:Nat,xd=(d:Int):=⟨xd.toNat,by omega⟩
   obtain ⟨c,rfl⟩:∃ c:Nat,xc=(c:Int):=⟨xc.toNat,by omega⟩
   have C2:=zaa c2;have C3:=zaa c3
   have hd:d < ws.length:=by omega
   have hc:c < ws.length:=by omega
   have d5:(d:Int) < (ws.length:Int):=by omega
   have c5:(c:Int) < (ws.length:Int):=by omega
   have g0:=(BF.o.cell (p:=⟨bW,oW+d*11,none⟩) hblW).trans (HW.o d hd).1;have g1:=(BF.o.cell (p:=⟨bW,oW+c*11,none⟩) hblW).trans (HW.o c hc).1;rw[zcc hd,zcc hc] at EO2;obtain ⟨y0,y1⟩:=CA.o _ B2.o;clear c2 c3;generalize ws[d].kind=kd at g0 EO2;generalize ws[c].kind=kc at g1 EO2
   by_cases c6:kc=0
   ·have q6:(kc == 0)=true:=by rw[c6];rfl
    have E:=zaa (NO.o (by rw[EO2.o,q6];rfl));clear c6 YES NO EO2;go_wp2_with fail;refine (zak _ _ _ _ C2.o).mono ?_;rintro e w' ⟨rfl,hw'⟩;subst w';go_wp2_with fail;refine (zak _ _ _ _ C3.o).mono ?_;rintro e w' ⟨rfl,hw'⟩;subst w';go_wp2_with fail;refine (zcp _ _ SZ.o).mono ?_;rw[C4.o];rintro e w' ⟨rfl,hw'⟩;subst w';go_wp2;go_ret;exact ⟨zac E.o.symm,BF.o⟩
   have q6:(kc == 0)=false:=by rw[beq_eq_false_iff_ne];exact c6
   by_cases c7:kd=2
   case neg =>
    have q7:(kd != 2)=true:=by rw[bne_iff_ne];exact c7
    have E:=zaa (NO.o (by rw[EO2.o,show (kd == 2)=false by rw[beq_eq_false_iff_ne];exact c7,Bool.false_and,Bool.and_false]));clear c6 c7 YES NO EO2;go_wp2_with fail;refine (zak _ _ _ _ C2.o).mono ?_;rintro e w' ⟨rfl,hw'⟩;subst w';go_wp2_with fail;refine (zak _ _ _ _ C3.o).mono ?_;rintro e w' ⟨rfl,hw'⟩;subst w';go_wp2_with fail;refine (zcp _ _ SZ.o).mono ?_;rw[C4.o];rintro e w' ⟨rfl,hw'⟩;subst w';go_wp2;go_ret;exact ⟨zac E.o.symm,BF.o⟩
   have q7:(kd != 2)=false:=by rw[c7];rfl
   have EO3:=zaa (show eo=(ps.take i).all fun y=>!zcg y ⟨(d:Int),xs,(c:Int)⟩ by rw[EO2.o,q6,c7];rfl);have BX:Hid ((wr.alloc (.cells #[.int .i64 (d:Int),.string xs,.int .i64 (c:Int)] 143)).heap[wr.heap.size]?=some (.cells #[.int .i64 (d:Int),.string xs,.int .i64 (c:Int)] 143 (0,0))):=zah rfl;clear c6 c7 EO2;go_wp2_with fail;refine (zak _ _ _ _ C2.o).mono ?_;rintro e w' ⟨rfl,hw'⟩;subst w';go_wp2_with fail;refine (zak _ _ _ _ C3.o).mono ?_;rintro e w' ⟨rfl,hw'⟩;subst w';go_wp2_with fail;refine (zcp _ _ SZ.o).mono ?_;rw[C4.o];rintro e w' ⟨rfl,hw'⟩;subst w';go_wp2;generalize wr.alloc (.cells #[.int .i64 (d:Int),.string xs,.int .i64 (c:Int)] 143)=V at *;have hzv:wr.heap.size < V.heap.size:=(Array.getElem?_eq_some_iff.1 BX.o).1;clear g0 g1 d0 d1 d2 x0 x1 y0 y1 q6 q7
   go_loopw [5] (fun k wq=>∃ m:Nat,m≤i∧k=.int .i64 m∧Hid (Below V.heap.size V wq∧∀ j (h:j < ps.length),j < m→zcg ps[j] ⟨(d:Int),xs,(c:Int)⟩=false)) (fun k _=>i - (intOf k).toNat)
   case atStart=>exact ⟨0,by omega,rfl,Below.refl _ _,fun j h a=>absurd a (by omega)⟩
   case round =>
    obtain ⟨m,hm,rfl,K⟩:=hrel;have KB:=zaa (zab B2.o K.o.1 B2.o.size);have KW:=zaa (zab BW.o KB.o hz);obtain ⟨x0,x1⟩:=CA.o wr KB.o;have K1:=zaa K.o.1;have hzk:V.heap.size≤wr.heap.size:=K.o.1.size
    by_cases hlk:m < i
    ·have hmp:m < ps.length:=by omega
     obtain ⟨a0,a1,a2⟩:=hcell m hmp;have d0:=(KW.o.cell (p:=⟨b,o+m*3,none⟩) hbl).trans a0;have d1:=(KW.o.cell (p:=⟨b,o+m*3+1,none⟩) hbl).trans a1;have d2:=(KW.o.cell (p:=⟨b,o+m*3+2,none⟩) hbl).trans a2
     have m0:(0:Int)≤(m:Int):=by omega
     have m1:(m:Int) < (i:Int):=by omega
     have m2:(m:Int) < (ps.length:Int):=by omega
     have K2:Hid (zcg ps[m] ⟨(d:Int),xs,(c:Int)⟩=false→∀ j (h:j < ps.length),j < m+1→zcg ps[j] ⟨(d:Int),xs,(c:Int)⟩=false):=fun q j h a=>by
      by_cases e:j=m
      ·subst e;exact q
      ·exact K.o.2 j h (by omega)
     have K3:Hid (zcg ps[m] ⟨(d:Int),xs,(c:Int)⟩=true→zen ws ps=false):=fun q=>NO.o (by rw[EO3.o,yaax hmp hlk q])
     have KC:=zaa (show zcg ps[m] ⟨(d:Int),xs,(c:Int)⟩=(decide (0≤ps[m].child) && (ps[m].dir == (d:Int) && ps[m].name.toList == xs.toList)) from rfl);clear a0 a1 a2 K;generalize zcg ps[m] ⟨(d:Int),xs,(c:Int)⟩=cb at K2 K3 KC;generalize ps[m]=y at d0 d1 d2 KC;have B3:=zaa (K1.o.alloc hzk (.cells #[.int .i64 y.dir,.string y.name,.int .i64 y.child] 143));have B4:=zaa (zab B2.o B3.o B2.o.size);have B5:=zaa (zab BW.o B4.o hz);obtain ⟨z0,z1,z2⟩:=zbq ((B3.o.block _ hzv).trans BX.o)
     by_cases e1:0≤y.child
     case neg =>
      have E:=zaa (K2.o (by rw[KC.o,decide_eq_false e1];rfl));clear K2 K3 KC;go_wp2
      go_roundw
      case rel=>exact ⟨m+1,by omega,by go_num,B3.o,E.o⟩
      case measure=>simp[intOf];omega
     cases e2:(y.dir == (d:Int)) with
     | false =>
      have E:=zaa (K2.o (by rw[KC.o,e2,Bool.false_and,Bool.and_false]));clear K2 K3 KC;go_wp2
      go_roundw
      case rel=>exact ⟨m+1,by omega,by go_num,B3.o,E.o⟩
      case measure=>simp[intOf];omega
     | true =>
      cases e3:(y.name.toList == xs.toList) with
      | false =>
       have E:=zaa (K2.o (by rw[KC.o,e3,Bool.and_false,Bool.and_false]));clear K2 K3 KC;go_wp2
       go_roundw
       case rel=>exact ⟨m+1,by omega,by go_num,B3.o,E.o⟩
       case measure=>simp[intOf];omega
      | true =>
       have E:=zaa (K3.o (by rw[KC.o,e2,e3,decide_eq_true e1];rfl));clear K2 K3 KC;go_wp2;go_ret;exact ⟨zac E.o.symm,B5.o⟩
    ·obtain rfl:m=i:=by omega
     have E:=zaa (YES.o (by rw[EO3.o];exact yadb (fun k hk hki=>K.o.2 k hk hki)));clear K;go_wp2
     go_roundw
     case rel=>exact ⟨m+1,by omega,by go_num,KB.o,E.o⟩
     case measure=>simp[intOf];omega
  ·have E:=zaa (zzj (ws:=ws) (fun j h=>J.o.2 j h (by omega)));clear J;go_wp2;go_ret;exact ⟨zac E.o.symm,JW.o⟩
end Go.Proofs.YtbohndgbfbfldaaGreatDoor
