/- Several texts laid together: ImM, ImN, PiK. -/
import Derived.Test.YtahiphgmhndgaaaGreatDoorZAQ
import Derived.Test.YtahiphgmhndgaaaGreatDoorZAJ
set_option maxRecDepth 100000
set_option maxHeartbeats 8000000
namespace Go.Proofs.YtahiphgmhndgaaaGreatDoor
open Go.RowKit
theorem yany {ws:List Ino} {ps:List Den} (h:∀ i (h:i < ps.length),zfr ws ps i ps[i]=true):zks ws ps=true:=decide_eq_true h
theorem yaio {ws:List Ino} {ps:List Den} {i:Nat} (hi:i < ps.length) (h:zfr ws ps i ps[i]=false):zks ws ps=false:=decide_eq_false (fun x=>by have:=x i hi;rw[h] at this;cases this)
theorem yaou {ws:List Ino} {ps:List Den} {i:Nat} {x:Den} (h:x.child=-1):zfr ws ps i x=x.freeB:=by unfold zfr;rw[if_pos h]
theorem yaii {ws:List Ino} {ps:List Den} {i:Nat} {x:Den} (h:¬ x.child=-1):zfr ws ps i x=(decide (1≤x.child∧x.child≤15) && (decide (0≤x.dir∧x.dir≤15) && (nmB x.name && (!(zco ws x.child == 0) && (zco ws x.dir == 2 && (ps.take i).all fun y=>!zff y x))))):=by unfold zfr;rw[if_neg h]
theorem yatk {ps:List Den} {i k:Nat} {x:Den} (hk:k < ps.length) (hi:k < i) (h:zff ps[k] x=true):((ps.take i).all fun y=>!zff y x)=false:=by
 rw[List.all_eq_false];exact ⟨ps[k],List.mem_take_iff_getElem.2 ⟨k,Nat.lt_min.2 ⟨hi,hk⟩,rfl⟩,by rw[h];decide⟩
theorem yava {ps:List Den} {i:Nat} {x:Den} (h:∀ k (h:k < ps.length),k < i→zff ps[k] x=false):((ps.take i).all fun y=>!zff y x)=true:=by
 rw[List.all_eq_true];intro y hy;obtain ⟨k,hk,rfl⟩:=List.mem_take_iff_getElem.1 hy;have hk:=Nat.lt_min.1 hk;rw[h k hk.2 hk.1];rfl
theorem zqs (v:Value) (ws:List Ino) (ps:List Den) (w:World) (h:RdIm w v ws ps) (hl:ws.length=16) (hn:ps.length≤1048576) (hs:∀ k (h:k < ps.length),ps[k].name.size≤maxLen) :
  Calls Tryz.prog 156 #[v] w fun e w'=>e=.returned (.bool (zks ws ps))∧Below w.heap.size w w':=by
 obtain ⟨vW,vP,rfl,h1,h2⟩:=h;obtain ⟨aW,cW,rfl,_,hcW⟩:=h1.shape;obtain ⟨aP,cP,rfl,_,hcP⟩:=h2.shape;obtain ⟨bW,oW,rfl,hblW,hcellW⟩:=hcW (by omega);have HW:=zaa hcellW;have HZ:=zaa hcP;have HS:=zaa hs;have HL:=zaa hl
 have w16:(15:Int) < (ws.length:Int):=by omega
 clear h1 h2 hcP hcW hcellW hs hl
 obtain ⟨W,hW⟩:∃ W,W=w.alloc (.cells #[.slice (some ⟨bW,oW,none⟩) ws.length cW,.slice aP ps.length cP] 102):=⟨_,rfl⟩
 have CA:Hid (∀ w',Below W.heap.size W w'→w'.cell? ⟨w.heap.size,0,none⟩=some (.slice (some ⟨bW,oW,none⟩) ws.length cW)∧w'.cell? ⟨w.heap.size,1,none⟩=some (.slice aP ps.length cP)):=fun w' hb=>by
  have:w'.heap[w.heap.size]?=some (.cells #[.slice (some ⟨bW,oW,none⟩) ws.length cW,.slice aP ps.length cP] 102 (0,0)):=(hb.block _ (by rw[hW];simp)).trans (by rw[hW];exact zag rfl);exact ⟨(zad this).1,(zad this).2.1⟩
 have BW:Hid (Below w.heap.size w W):=by rw[hW];exact (Below.refl _ _).alloc (Nat.le_refl _) _
 have hz:w.heap.size≤W.heap.size:=BW.o.size;go_enter Tryz.func156,Tryz.ntmps156;go_wp2;rw[← hW];clear hW
 go_loopw [3] (fun i wr=>∃ k:Nat,k≤ps.length∧i=.int .i64 k∧Hid (Below W.heap.size W wr∧∀ j (h:j < ps.length),j < k→zfr ws ps j ps[j]=true)) (fun i _=>ps.length - (intOf i).toNat)
 case atStart=>exact ⟨0,by omega,rfl,Below.refl _ _,fun j h a=>absurd a (by omega)⟩
 case round =>
  obtain ⟨i,hi,rfl,J⟩:=hrel;obtain ⟨x0,x1⟩:=CA.o wr J.o.1;have J1:=zaa J.o.1;have JW:=zaa (zab BW.o J.o.1 hz);have hzr:W.heap.size≤wr.heap.size:=J.o.1.size
  by_cases hlt:i < ps.length
  ·obtain ⟨b,o,rfl,hbl,hcell⟩:=HZ.o (by omega);obtain ⟨a0,a1,a2⟩:=hcell i hlt;have d0:=(JW.o.cell (p:=⟨b,o+i*3,none⟩) hbl).trans a0;have d1:=(JW.o.cell (p:=⟨b,o+i*3+1,none⟩) hbl).trans a1;have d2:=(JW.o.cell (p:=⟨b,o+i*3+2,none⟩) hbl).trans a2
   have i0:(0:Int)≤(i:Int):=by omega
   have i1:(i:Int) < (ps.length:Int):=by omega
   have YES:Hid (zfr ws ps i ps[i]=true→∀ j (h:j < ps.length),j < i+1→zfr ws ps j ps[j]=true):=fun q j h a=>by
    by_cases e:j=i
    ·subst e;exact q
    ·exact J.o.2 j h (by omega)
   have NO:=zaa (fun q=>yaio (ws:=ws) hlt q);have EF:=zaa (@yaou ws ps i ps[i]);have ET:=zaa (@yaii ws ps i ps[i]);have DF:=zvh ps[i];have SZ:=zaa (HS.o i hlt);clear a0 a1 a2 J;generalize ps[i]=x at *;generalize zfr ws ps i x=eo at YES NO EF ET;have B2:=zaa (J1.o.alloc hzr (.cells #[.int .i64 x.dir,.string x.name,.int .i64 x.child] 189));have BF:=zaa (zab BW.o B2.o hz)
   by_cases c1:x.child=-1
   ·have q1:(x.child == -1)=true:=by rw[c1];rfl
    have EO:=zaa (EF.o c1)
    cases c2:x.freeB with
    | true =>
     rw[c2] at DF EO;have E:=zaa (YES.o EO.o);clear c1 c2 EF ET YES NO EO;go_wp2
     go_roundw
     case rel=>exact ⟨i+1,by omega,by go_num,B2.o,E.o⟩
     case measure=>simp[intOf];omega
    | false =>
     rw[c2] at DF EO;have E:=zaa (NO.o EO.o);clear c1 c2 EF ET YES NO EO;go_wp2;go_ret;exact ⟨zae E.o.symm,BF.o⟩
   have q1:(x.child == -1)=false:=by rw[beq_eq_false_iff_ne];exact c1
   have EO:=zaa (ET.o c1);clear c1 EF ET DF
   by_cases c2:1≤x.child∧x.child≤15
   case neg =>
    have E:=zaa (NO.o (by rw[EO.o,decide_eq_false c2];rfl));have C2:=zaa c2;clear c2 YES NO EO;go_wp2_with fail;refine (zeb _ _ _ _ C2.o).mono ?_;rintro e w' ⟨rfl,hw'⟩;subst w';go_wp2;go_ret;exact ⟨zae E.o.symm,BF.o⟩
   by_cases c3:0≤x.dir∧x.dir≤15
   case neg =>
    have E:=zaa (NO.o (by rw[EO.o,decide_eq_false c3,Bool.false_and,Bool.and_false]));have C2:=zaa c2;have C3:=zaa c3;clear c2 c3 YES NO EO;go_wp2_with fail;refine (zaz _ _ _ _ C2.o).mono ?_;rintro e w' ⟨rfl,hw'⟩;subst w';go_wp2_with fail;refine (zeb _ _ _ _ C3.o).mono ?_;rintro e w' ⟨rfl,hw'⟩;subst w';go_wp2;go_ret;exact ⟨zae E.o.symm,BF.o⟩
   cases c4:nmB x.name with
   | false =>
    have E:=zaa (NO.o (by rw[EO.o,c4,Bool.false_and,Bool.and_false,Bool.and_false]));have C2:=zaa c2;have C3:=zaa c3;have C4:=zaa c4;clear c2 c3 c4 YES NO EO;go_wp2_with fail;refine (zaz _ _ _ _ C2.o).mono ?_;rintro e w' ⟨rfl,hw'⟩;subst w';go_wp2_with fail;refine (zaz _ _ _ _ C3.o).mono ?_;rintro e w' ⟨rfl,hw'⟩;subst w';go_wp2_with fail;refine (zft _ _ SZ.o).mono ?_;rw[C4.o];rintro e w' ⟨rfl,hw'⟩;subst w';go_wp2;go_ret;exact ⟨zae E.o.symm,BF.o⟩
   | true =>
   have EO2:=zaa (show eo=(!(zco ws x.child == 0) && (zco ws x.dir == 2 && (ps.take i).all fun y=>!zff y x)) by rw[EO.o,decide_eq_true c2,decide_eq_true c3,c4];rfl);have C4:=zaa c4;clear c4 EO;obtain ⟨xd,xs,xc⟩:=x;simp only at d0 d1 d2 c2 c3 SZ B2 BF EO2 q1 C4
   obtain ⟨d,rfl⟩:∃ d:Nat,xd=(d:Int):=⟨xd.toNat,by omega⟩
   obtain ⟨c,rfl⟩:∃ c:Nat,xc=(c:Int):=⟨xc.toNat,by omega⟩
   have C2:=zaa c2;have C3:=zaa c3
   have hd:d < ws.length:=by omega
   have hc:c < ws.length:=by omega
   have d5:(d:Int) < (ws.length:Int):=by omega
   have c5:(c:Int) < (ws.length:Int):=by omega
   have g0:=(BF.o.cell (p:=⟨bW,oW+d*11,none⟩) hblW).trans (HW.o d hd).1;have g1:=(BF.o.cell (p:=⟨bW,oW+c*11,none⟩) hblW).trans (HW.o c hc).1;rw[zes hd,zes hc] at EO2;obtain ⟨y0,y1⟩:=CA.o _ B2.o;clear c2 c3;generalize ws[d].kind=kd at g0 EO2;generalize ws[c].kind=kc at g1 EO2
   by_cases c6:kc=0
   ·have q6:(kc == 0)=true:=by rw[c6];rfl
    have E:=zaa (NO.o (by rw[EO2.o,q6];rfl));clear c6 YES NO EO2;go_wp2_with fail;refine (zaz _ _ _ _ C2.o).mono ?_;rintro e w' ⟨rfl,hw'⟩;subst w';go_wp2_with fail;refine (zaz _ _ _ _ C3.o).mono ?_;rintro e w' ⟨rfl,hw'⟩;subst w';go_wp2_with fail;refine (zft _ _ SZ.o).mono ?_;rw[C4.o];rintro e w' ⟨rfl,hw'⟩;subst w';go_wp2;go_ret;exact ⟨zae E.o.symm,BF.o⟩
   have q6:(kc == 0)=false:=by rw[beq_eq_false_iff_ne];exact c6
   by_cases c7:kd=2
   case neg =>
    have q7:(kd != 2)=true:=by rw[bne_iff_ne];exact c7
    have E:=zaa (NO.o (by rw[EO2.o,show (kd == 2)=false by rw[beq_eq_false_iff_ne];exact c7,Bool.false_and,Bool.and_false]));clear c6 c7 YES NO EO2;go_wp2_with fail;refine (zaz _ _ _ _ C2.o).mono ?_;rintro e w' ⟨rfl,hw'⟩;subst w';go_wp2_with fail;refine (zaz _ _ _ _ C3.o).mono ?_;rintro e w' ⟨rfl,hw'⟩;subst w';go_wp2_with fail;refine (zft _ _ SZ.o).mono ?_;rw[C4.o];rintro e w' ⟨rfl,hw'⟩;subst w';go_wp2;go_ret;exact ⟨zae E.o.symm,BF.o⟩
   have q7:(kd != 2)=false:=by rw[c7];rfl
   have EO3:=zaa (show eo=(ps.take i).all fun y=>!zff y ⟨(d:Int),xs,(c:Int)⟩ by rw[EO2.o,q6,c7];rfl);have BX:Hid ((wr.alloc (.cells #[.int .i64 (d:Int),.string xs,.int .i64 (c:Int)] 189)).heap[wr.heap.size]?=some (.cells #[.int .i64 (d:Int),.string xs,.int .i64 (c:Int)] 189 (0,0))):=zag rfl;clear c6 c7 EO2;go_wp2_with fail;refine (zaz _ _ _ _ C2.o).mono ?_;rintro e w' ⟨rfl,hw'⟩;subst w';go_wp2_with fail;refine (zaz _ _ _ _ C3.o).mono ?_;rintro e w' ⟨rfl,hw'⟩;subst w';go_wp2_with fail;refine (zft _ _ SZ.o).mono ?_;rw[C4.o];rintro e w' ⟨rfl,hw'⟩;subst w';go_wp2;generalize wr.alloc (.cells #[.int .i64 (d:Int),.string xs,.int .i64 (c:Int)] 189)=V at *;have hzv:wr.heap.size < V.heap.size:=(Array.getElem?_eq_some_iff.1 BX.o).1;clear g0 g1 d0 d1 d2 x0 x1 y0 y1 q6 q7
   go_loopw [5] (fun k wq=>∃ m:Nat,m≤i∧k=.int .i64 m∧Hid (Below V.heap.size V wq∧∀ j (h:j < ps.length),j < m→zff ps[j] ⟨(d:Int),xs,(c:Int)⟩=false)) (fun k _=>i - (intOf k).toNat)
   case atStart=>exact ⟨0,by omega,rfl,Below.refl _ _,fun j h a=>absurd a (by omega)⟩
   case round =>
    obtain ⟨m,hm,rfl,K⟩:=hrel;have KB:=zaa (zab B2.o K.o.1 B2.o.size);have KW:=zaa (zab BW.o KB.o hz);obtain ⟨x0,x1⟩:=CA.o wr KB.o;have K1:=zaa K.o.1;have hzk:V.heap.size≤wr.heap.size:=K.o.1.size
    by_cases hlk:m < i
    ·have hmp:m < ps.length:=by omega
     obtain ⟨a0,a1,a2⟩:=hcell m hmp;have d0:=(KW.o.cell (p:=⟨b,o+m*3,none⟩) hbl).trans a0;have d1:=(KW.o.cell (p:=⟨b,o+m*3+1,none⟩) hbl).trans a1;have d2:=(KW.o.cell (p:=⟨b,o+m*3+2,none⟩) hbl).trans a2
     have m0:(0:Int)≤(m:Int):=by omega
     have m1:(m:Int) < (i:Int):=by omega
     have m2:(m:Int) < (ps.length:Int):=by omega
     have K2:Hid (zff ps[m] ⟨(d:Int),xs,(c:Int)⟩=false→∀ j (h:j < ps.length),j < m+1→zff ps[j] ⟨(d:Int),xs,(c:Int)⟩=false):=fun q j h a=>by
      by_cases e:j=m
      ·subst e;exact q
      ·exact K.o.2 j h (by omega)
     have K3:Hid (zff ps[m] ⟨(d:Int),xs,(c:Int)⟩=true→zks ws ps=false):=fun q=>NO.o (by rw[EO3.o,yatk hmp hlk q])
     have KC:=zaa (show zff ps[m] ⟨(d:Int),xs,(c:Int)⟩=(decide (0≤ps[m].child) && (ps[m].dir == (d:Int) && ps[m].name.toList == xs.toList)) from rfl);clear a0 a1 a2 K;generalize zff ps[m] ⟨(d:Int),xs,(c:Int)⟩=cb at K2 K3 KC;generalize ps[m]=y at d0 d1 d2 KC;have B3:=zaa (K1.o.alloc hzk (.cells #[.int .i64 y.dir,.string y.name,.int .i64 y.child] 189));have B4:=zaa (zab B2.o B3.o B2.o.size);have B5:=zaa (zab BW.o B4.o hz);obtain ⟨z0,z1,z2⟩:=zas ((B3.o.block _ hzv).trans BX.o)
     by_cases e1:0≤y.child
     case neg =>
      have E:=zaa (K2.o (by rw[KC.o,decide_eq_false e1];rfl));clear K2 K3 KC;go_wp2
      go_roundw
      case rel=>exact ⟨m+1,by omega,by go_num,B3.o,E.o⟩
      case measure=>simp[intOf];omega
     cases e2:(y.dir == (d:Int)) with
     | false =>
      have E:=zaa (K2.o (by rw[KC.o,e2,Bool.false_and,Bool.and_false]));clear K2 K3 KC;go_wp2
      go_roundw
      case rel=>exact ⟨m+1,by omega,by go_num,B3.o,E.o⟩
      case measure=>simp[intOf];omega
     | true =>
      cases e3:(y.name.toList == xs.toList) with
      | false =>
       have E:=zaa (K2.o (by rw[KC.o,e3,Bool.and_false,Bool.and_false]));clear K2 K3 KC;go_wp2
       go_roundw
       case rel=>exact ⟨m+1,by omega,by go_num,B3.o,E.o⟩
       case measure=>simp[intOf];omega
      | true =>
       have E:=zaa (K3.o (by rw[KC.o,e2,e3,decide_eq_true e1];rfl));clear K2 K3 KC;go_wp2;go_ret;exact ⟨zae E.o.symm,B5.o⟩
    ·obtain rfl:m=i:=by omega
     have E:=zaa (YES.o (by rw[EO3.o];exact yava (fun k hk hki=>K.o.2 k hk hki)));clear K;go_wp2
     go_roundw
     case rel=>exact ⟨m+1,by omega,by go_num,KB.o,E.o⟩
     case measure=>simp[intOf];omega
  ·have E:=zaa (yany (ws:=ws) (fun j h=>J.o.2 j h (by omega)));clear J;go_wp2;go_ret;exact ⟨zae E.o.symm,JW.o⟩
def zfg (ws:List Ino) (t:Int) (k j:Nat):List Int:=zdh (zvr ws k j) t
theorem yabz (ws:List Ino) (t:Int) (k:Nat):zfg ws t k 0=zdh (zbj (ws.take k)) t:=by unfold zfg;rw[zyr]
theorem yabf {ws:List Ino} {k:Nat} (t:Int) (hk:k < ws.length):zfg ws t k 8=zdh (zbj (ws.take (k+1))) t:=by unfold zfg;rw[zya hk]
theorem yabw {ws:List Ino} {k:Nat} (t:Int) (hk:k < ws.length) {j:Nat} (hj:j < 8):zfg ws t k (j+1)=if ¬ ws[k].map.getD j 0=0∧ws[k].map.getD j 0 % 4=t then zfg ws t k j ++ [ws[k].map.getD j 0 / 4] else zfg ws t k j:=by
 unfold zfg;rw[zzg hk hj];generalize ws[k].map.getD j 0=z
 by_cases h0:z=0
 ·rw[if_pos h0,if_neg (fun h=>h.1 h0)]
 ·rw[if_neg h0];unfold zdh;rw[List.filter_append,List.map_append]
  by_cases h1:z % 4=t
  ·rw[if_pos ⟨h0,h1⟩];simp[h1]
  ·rw[if_neg (fun h=>h1 h.2)];simp[h1]
theorem ztg (l:List Int) (t:Int):(zdh l t).length≤l.length:=by
 unfold zdh;rw[List.length_map];exact List.length_filter_le _ _
theorem yaas (v:Value) (ws:List Ino) (ps:List Den) (t:Int) (w:World) (h:RdIm w v ws ps) (hn:ws.length≤4096) (hr:∀ k (h:k < ws.length),∀ z∈ws[k].map,0≤z∧z≤1048576) :
  Calls Tryz.prog 183 #[v,.int .i64 t] w fun e w'=>∃ v',e=.returned v'∧Row w' 3 1 w.heap.size w'.heap.size v' (zdh (zbj ws) t).length (zav (zdh (zbj ws) t))∧Below w.heap.size w w':=by
 obtain ⟨vW,vP,rfl,h1,h2⟩:=h;obtain ⟨aW,cW,rfl,_,hcW⟩:=h1.shape;have HW:=zaa hcW;have HR:=zaa hr;obtain ⟨aP,cP,rfl,_,_⟩:=h2.shape;clear h1 h2 hcW hr
 obtain ⟨W,hW⟩:∃ W,W=w.alloc (.cells #[.slice aW ws.length cW,.slice aP ps.length cP] 102):=⟨_,rfl⟩
 have CA:Hid (∀ w',Below W.heap.size W w'→w'.cell? ⟨w.heap.size,0,none⟩=some (.slice aW ws.length cW)):=fun w' hb=>by
  have:w'.heap[w.heap.size]?=some (.cells #[.slice aW ws.length cW,.slice aP ps.length cP] 102 (0,0)):=(hb.block _ (by rw[hW];simp)).trans (by rw[hW];exact zag rfl);exact (zad this).1
 have BW:Hid (Below w.heap.size w W):=by rw[hW];exact (Below.refl _ _).alloc (Nat.le_refl _) _
 have hz:w.heap.size≤W.heap.size:=BW.o.size
 have START:Hid (InI W (W.alloc (.cells #[] 3)) (.slice (some ⟨W.heap.size,0,none⟩) 0 0) (zdh (zbj (ws.take 0)) t)):=⟨World.ownsRow_lit W #[] 0 (Nat.le_refl _) (by simp[maxLen]) (by simp),(Below.refl _ _).alloc (Nat.le_refl _) _⟩
 go_enter Tryz.func183,Tryz.ntmps183;go_wp2;rw[hW] at START;simp only[World.size_alloc] at START
 go_loopw [5,6] (fun vL i wr=>∃ k:Nat,k≤ws.length∧i=.int .i64 k∧Hid (InI W wr vL (zdh (zbj (ws.take k)) t))) (fun _ i _=>ws.length - (intOf i).toNat)
 case atStart=>exact ⟨0,by omega,rfl,by rw[hW];exact START.o⟩
 case round =>
  obtain ⟨k,hk,rfl,I⟩:=hrel;clear START hW;have x0:=CA.o wr I.o.b;have hzr:W.heap.size≤wr.heap.size:=I.o.z
  have k0:(0:Int)≤(k:Int):=by omega
  by_cases hlt:k < ws.length
  ·obtain ⟨b,o,rfl,hbl,hcell⟩:=HW.o (by omega)
   have k1:(k:Int) < (ws.length:Int):=by omega
   have MZ:=zaa (yabz ws t k);have MF:=zaa (yabf t hlt);have MS:=zaa (fun j (hj:j < 8)=>yabw t hlt hj);have ML:=zaa (fun j (hj:j≤8)=>Nat.le_trans (ztg (zvr ws k j) t) (yaci ws k j hlt hj))
   have ST:Hid (InI W wr u5 (zfg ws t k 0)):=by unfold Hid;rw[MZ.o];exact I.o
   have HM:Hid (∀ w',Below w.heap.size w w'→∀ j,j < 8→w'.cell? ⟨b,o+k*11+3+j,none⟩=some (.int .i64 (ws[k].map.getD j 0))):=fun w' hb j hj=>by
    obtain ⟨a0,a1,a2,a3,a4,a5,a6,a7,a8,a9,a10⟩:=hcell k hlt
    rcases (show j=0∨j=1∨j=2∨j=3∨j=4∨j=5∨j=6∨j=7 by omega) with rfl | rfl | rfl | rfl | rfl | rfl | rfl | rfl
    ·exact (hb.cell (p:=⟨b,o+k*11+3,none⟩) hbl).trans a3
    ·exact (hb.cell (p:=⟨b,o+k*11+4,none⟩) hbl).trans a4
    ·exact (hb.cell (p:=⟨b,o+k*11+5,none⟩) hbl).trans a5
    ·exact (hb.cell (p:=⟨b,o+k*11+6,none⟩) hbl).trans a6
    ·exact (hb.cell (p:=⟨b,o+k*11+7,none⟩) hbl).trans a7
    ·exact (hb.cell (p:=⟨b,o+k*11+8,none⟩) hbl).trans a8
    ·exact (hb.cell (p:=⟨b,o+k*11+9,none⟩) hbl).trans a9
    ·exact (hb.cell (p:=⟨b,o+k*11+10,none⟩) hbl).trans a10
   have HZ:Hid (∀ j,j < 8→0≤ws[k].map.getD j 0∧ws[k].map.getD j 0≤1048576):=fun j hj=>by
    have e:ws[k].map.getD j 0=ws[k].map[j]'hj:=by rw[List.getD_eq_getElem?_getD,List.getElem?_eq_getElem (show j < ws[k].map.length from hj)];rfl
    rw[e];exact HR.o k hlt _ (List.getElem_mem _)
   clear I hcell;generalize ws[k]=x at *;go_wp2;clear x0
   go_loopw [5,7] (fun vL i wq=>∃ j:Nat,j≤8∧i=.int .i64 j∧Hid (InI W wq vL (zfg ws t k j))) (fun _ i _=>8 - (intOf i).toNat)
   case atStart=>exact ⟨0,by omega,rfl,ST⟩
   case round =>
    obtain ⟨j,hj,rfl,J⟩:=hrel;clear ST;have y0:=CA.o wr J.o.b;have JW:=zaa (zab BW.o J.o.b hz);have hzj:W.heap.size≤wr.heap.size:=J.o.z
    have j0:(0:Int)≤(j:Int):=by omega
    by_cases hlj:j < 8
    ·have j1:(j:Int) < 8:=by omega
     have e0:=HM.o wr JW.o j hlj;obtain ⟨b0,b1⟩:=HZ.o j hlj;have MJ:=zaa (MS.o j hlj);have hlen:(zfg ws t k j).length≤8*ws.length:=ML.o j (by omega);generalize x.map.getD j 0=z at e0 b0 b1 MJ
     by_cases q:z=0
     ·have q':(z != 0)=false:=by rw[q];rfl
      have G:Hid (InI W wr u5 (zfg ws t k (j+1))):=by unfold Hid;rw[MJ.o,if_neg (fun h=>h.1 q)];exact J.o
      clear q J MJ;go_wp2
      go_roundw
      case rel=>exact ⟨j+1,by omega,by go_num,G⟩
      case measure=>simp[intOf];omega
     ·have q':(z != 0)=true:=by rw[bne_iff_ne];exact q
      by_cases r:z % 4=t
      ·have r':(z % 4 == t)=true:=by rw[beq_iff_eq];exact r
       have JB:Hid (InI W (wr.alloc (.cells #[.int .i64 (z / 4)] 3)) u5 (zfg ws t k j)):=J.o.below ((Below.refl _ _).alloc (Nat.le_refl _) _);have RB:=zaa (zmo wr (z / 4));have hzb:=JB.o.z
       have MN:Hid (zfg ws t k (j+1)=zfg ws t k j ++ [z / 4]):=by unfold Hid;rw[MJ.o,if_pos ⟨q,r⟩]
       clear q r J MJ;go_wp2_with (at_builtin;refine zak _ rfl (.tmp 37) (.tmp 40) 22 rfl W.heap.size 3 (.int .i64 0) 1 8 Tryz.underlying22 zfz rfl (by decide) _ _ _ rfl JB.o.l _ 1 _ rfl RB.o (yaai _) (by simp[maxLen];omega) (by omega) (by omega) ?_);intro vN wN hownN hgrN;have G:=zaa (JB.o.grow (z / 4) hownN hgrN);rw[← MN.o] at G;clear hownN hgrN JB RB;go_wp2
       go_roundw
       case rel=>exact ⟨j+1,by omega,by go_num,G⟩
       case measure=>simp[intOf];omega
      ·have r':(z % 4 == t)=false:=by rw[beq_eq_false_iff_ne];exact r
       have G:Hid (InI W wr u5 (zfg ws t k (j+1))):=by unfold Hid;rw[MJ.o,if_neg (fun h=>r h.2)];exact J.o
       clear q r J MJ;go_wp2
       go_roundw
       case rel=>exact ⟨j+1,by omega,by go_num,G⟩
       case measure=>simp[intOf];omega
    ·obtain rfl:j=8:=by omega
     have G:Hid (InI W wr u5 (zdh (zbj (ws.take (k+1))) t)):=by unfold Hid;rw[← MF.o];exact J.o
     clear J;go_wp2
     go_roundw
     case rel=>exact ⟨k+1,by omega,by go_num,G⟩
     case measure=>simp[intOf];omega
  ·obtain rfl:k=ws.length:=by omega
   have E:=zaa (show zdh (zbj (ws.take ws.length)) t=zdh (zbj ws) t by rw[List.take_length]);rw[E.o] at I;obtain ⟨-,aL,cL,hvL,-⟩:=(zai I.o.l).rd;subst hvL;go_wp2;go_ret;exact ⟨_,rfl,(zai I.o.l).wide hz (Nat.le_refl _),zab BW.o I.o.b hz⟩
def okNs (ws:List Ino):Bool:=decide (∀ k (h:k < ws.length),zit ws[k]=true)
theorem yahm {ws:List Ino} (h:∀ k (h:k < ws.length),zit ws[k]=true):okNs ws=true:=decide_eq_true h
theorem yacr {ws:List Ino} {k:Nat} (hk:k < ws.length) (h:zit ws[k]=false):okNs ws=false:=decide_eq_false (fun x=>by have:=x k hk;rw[h] at this;cases this)
theorem yatu {ps:List Den} (h:∀ k (h:k < ps.length),ps[k].okB=true):okDs ps=true:=decide_eq_true h
theorem yapp {ps:List Den} {k:Nat} (hk:k < ps.length) (h:ps[k].okB=false):okDs ps=false:=decide_eq_false (fun x=>by have:=x k hk;rw[h] at this;cases this)
theorem zqx (v:Value) (ws:List Ino) (w:World) (h:RdN w v ws) (hn:ws.length≤1048576) (hT:TS w) (hE:ED w) (hr:∀ k (h:k < ws.length),ws[k].R) :
  Calls Tryz.prog 200 #[v,.func (.func 201) #[] #[]] w fun e w'=>e=.returned (.bool (okNs ws))∧Below w.heap.size w w':=by
 obtain ⟨aW,cW,rfl,_,hcW⟩:=h.shape;have HW:=zaa hcW;have T:=zaa hT;have E0:=zaa hE;have HR:=zaa hr;clear h hcW hT hE hr;go_enter Tryz.func200,Tryz.ntmps200;go_wp2
 go_loopw [6,9] (fun _ i wr=>∃ k:Nat,k≤ws.length∧i=.int .i64 k∧Hid (Below w.heap.size w wr∧∀ j (h:j < ws.length),j < k→zit ws[j]=true)) (fun _ i _=>ws.length - (intOf i).toNat)
 case atStart=>exact ⟨0,by omega,rfl,Below.refl _ _,fun j h a=>absurd a (by omega)⟩
 case round =>
  obtain ⟨k,hk,rfl,H⟩:=hrel;have H1:=zaa H.o.1;have hz:w.heap.size≤wr.heap.size:=H.o.1.size
  by_cases hlt:k < ws.length
  ·obtain ⟨b,o,rfl,hbl,hcell⟩:=HW.o (by omega);obtain ⟨a0,a1,a2,a3,a4,a5,a6,a7,a8,a9,a10⟩:=hcell k hlt;have d0:=(H1.o.cell (p:=⟨b,o+k*11,none⟩) hbl).trans a0;have d1:=(H1.o.cell (p:=⟨b,o+k*11+1,none⟩) hbl).trans a1;have d2:=(H1.o.cell (p:=⟨b,o+k*11+2,none⟩) hbl).trans a2;have d3:=(H1.o.cell (p:=⟨b,o+k*11+3,none⟩) hbl).trans a3;have d4:=(H1.o.cell (p:=⟨b,o+k*11+4,none⟩) hbl).trans a4;have d5:=(H1.o.cell (p:=⟨b,o+k*11+5,none⟩) hbl).trans a5;have d6:=(H1.o.cell (p:=⟨b,o+k*11+6,none⟩) hbl).trans a6;have d7:=(H1.o.cell (p:=⟨b,o+k*11+7,none⟩) hbl).trans a7;have d8:=(H1.o.cell (p:=⟨b,o+k*11+8,none⟩) hbl).trans a8;have d9:=(H1.o.cell (p:=⟨b,o+k*11+9,none⟩) hbl).trans a9;have d10:=(H1.o.cell (p:=⟨b,o+k*11+10,none⟩) hbl).trans a10
   have k0:(0:Int)≤(k:Int):=by omega
   have k1:(k:Int) < (ws.length:Int):=by omega
   have B2:=zaa (H1.o.alloc hz (.cells ws[k].cs.toArray 187));have LI:=zaa (fun w1 (h:Below w.heap.size w w1)=>yabc ws[k] w1 (T.o.below h) (E0.o.below h) (HR.o k hlt));have H2:Hid (∀ j (h:j < ws.length),j < k→zit ws[j]=true):=H.o.2;clear a0 a1 a2 a3 a4 a5 a6 a7 a8 a9 a10 hcell H
   cases q:zit ws[k] with
   | true =>
    have H':Hid (∀ j (h:j < ws.length),j < k+1→zit ws[j]=true):=fun j h a=>by
     by_cases e:j=k
     ·subst e;exact q
     ·exact H2.o j h (by omega)
    rw[q] at LI;clear q H2;generalize ws[k]=x at d0 d1 d2 d3 d4 d5 d6 d7 d8 d9 d10 B2 LI;go_wp2_with fail;refine (LI.o _ B2.o).mono ?_;rintro e w1 ⟨rfl,hb1⟩;have B3:=zaa (zab B2.o hb1 B2.o.size);clear hb1 d0 d1 d2 d3 d4 d5 d6 d7 d8 d9 d10;go_wp2
    go_roundw
    case rel=>exact ⟨k+1,by omega,by go_num,B3.o,H'.o⟩
    case measure=>simp[intOf];omega
   | false =>
    have E:=zaa (yacr hlt q);rw[q] at LI;clear q H2;generalize ws[k]=x at d0 d1 d2 d3 d4 d5 d6 d7 d8 d9 d10 B2 LI;go_wp2_with fail;refine (LI.o _ B2.o).mono ?_;rintro e w1 ⟨rfl,hb1⟩;have B3:=zaa (zab B2.o hb1 B2.o.size);clear hb1 d0 d1 d2 d3 d4 d5 d6 d7 d8 d9 d10;go_wp2;go_ret;exact ⟨zae E.o.symm,B3.o⟩
  ·have E:=zaa (yahm (fun j h=>H.o.2 j h (by omega)));clear H;go_wp2;go_ret;exact ⟨zae E.o.symm,H1.o⟩
theorem zql (v:Value) (ps:List Den) (w:World) (h:RdD w v ps) (hn:ps.length≤1048576) (hF:FD w) (hs:∀ k (h:k < ps.length),ps[k].name.size≤maxLen) :
  Calls Tryz.prog 202 #[v,.func (.func 203) #[] #[]] w fun e w'=>e=.returned (.bool (okDs ps))∧Below w.heap.size w w':=by
 obtain ⟨aP,cP,rfl,_,hcP⟩:=h.shape;have HP:=zaa hcP;have F:=zaa hF;have HS:=zaa hs;clear h hcP hF hs;go_enter Tryz.func202,Tryz.ntmps202;go_wp2
 go_loopw [6,9] (fun _ i wr=>∃ k:Nat,k≤ps.length∧i=.int .i64 k∧Hid (Below w.heap.size w wr∧∀ j (h:j < ps.length),j < k→ps[j].okB=true)) (fun _ i _=>ps.length - (intOf i).toNat)
 case atStart=>exact ⟨0,by omega,rfl,Below.refl _ _,fun j h a=>absurd a (by omega)⟩
 case round =>
  obtain ⟨k,hk,rfl,H⟩:=hrel;have H1:=zaa H.o.1;have hz:w.heap.size≤wr.heap.size:=H.o.1.size
  by_cases hlt:k < ps.length
  ·obtain ⟨b,o,rfl,hbl,hcell⟩:=HP.o (by omega);obtain ⟨a0,a1,a2⟩:=hcell k hlt;have d0:=(H1.o.cell (p:=⟨b,o+k*3,none⟩) hbl).trans a0;have d1:=(H1.o.cell (p:=⟨b,o+k*3+1,none⟩) hbl).trans a1;have d2:=(H1.o.cell (p:=⟨b,o+k*3+2,none⟩) hbl).trans a2
   have k0:(0:Int)≤(k:Int):=by omega
   have k1:(k:Int) < (ps.length:Int):=by omega
   have B2:=zaa (H1.o.alloc hz (.cells #[.int .i64 ps[k].dir,.string ps[k].name,.int .i64 ps[k].child] 189));have LI:=zaa (fun w1 (h:Below w.heap.size w w1)=>zxx ps[k] w1 (F.o.below h) (HS.o k hlt));have H2:Hid (∀ j (h:j < ps.length),j < k→ps[j].okB=true):=H.o.2;clear a0 a1 a2 hcell H
   cases q:ps[k].okB with
   | true =>
    have H':Hid (∀ j (h:j < ps.length),j < k+1→ps[j].okB=true):=fun j h a=>by
     by_cases e:j=k
     ·subst e;exact q
     ·exact H2.o j h (by omega)
    rw[q] at LI;clear q H2;generalize ps[k]=x at d0 d1 d2 B2 LI;go_wp2_with fail;refine (LI.o _ B2.o).mono ?_;rintro e w1 ⟨rfl,hb1⟩;have B3:=zaa (zab B2.o hb1 B2.o.size);clear hb1 d0 d1 d2;go_wp2
    go_roundw
    case rel=>exact ⟨k+1,by omega,by go_num,B3.o,H'.o⟩
    case measure=>simp[intOf];omega
   | false =>
    have E:=zaa (yapp hlt q);rw[q] at LI;clear q H2;generalize ps[k]=x at d0 d1 d2 B2 LI;go_wp2_with fail;refine (LI.o _ B2.o).mono ?_;rintro e w1 ⟨rfl,hb1⟩;have B3:=zaa (zab B2.o hb1 B2.o.size);clear hb1 d0 d1 d2;go_wp2;go_ret;exact ⟨zae E.o.symm,B3.o⟩
  ·have E:=zaa (yatu (fun j h=>H.o.2 j h (by omega)));clear H;go_wp2;go_ret;exact ⟨zae E.o.symm,H1.o⟩
def zhe (ws:List Ino) (ps:List Den):Bool:=decide (ws.length=16) && (decide (ps.length=24) && (okNs ws && okDs ps))
theorem yaad (v:Value) (ws:List Ino) (ps:List Den) (w:World) (h:RdIm w v ws ps) (hw:ws.length≤1048576) (hp:ps.length≤1048576) (hT:TS w) (hE:ED w) (hF:FD w) (hr:∀ k (h:k < ws.length),ws[k].R) (hs:∀ k (h:k < ps.length),ps[k].name.size≤maxLen) :
  Calls Tryz.prog 185 #[v] w fun e w'=>e=.returned (.bool (zhe ws ps))∧Below w.heap.size w w':=by
 obtain ⟨vW,vP,rfl,h1,h2⟩:=h;have RW:=zaa h1;have RP:=zaa h2;obtain ⟨aW,cW,rfl,_,_⟩:=h1.shape;obtain ⟨aP,cP,rfl,_,_⟩:=h2.shape;have BW:=zaa ((Below.refl w.heap.size w).alloc (Nat.le_refl _) (.cells #[.slice aW ws.length cW,.slice aP ps.length cP] 102))
 have CA:Hid (∀ w',Below (w.alloc (.cells #[.slice aW ws.length cW,.slice aP ps.length cP] 102)).heap.size (w.alloc (.cells #[.slice aW ws.length cW,.slice aP ps.length cP] 102)) w'→w'.cell? ⟨w.heap.size,0,none⟩=some (.slice aW ws.length cW)∧w'.cell? ⟨w.heap.size,1,none⟩=some (.slice aP ps.length cP)):=fun w' hb=>by
  have:w'.heap[w.heap.size]?=some (.cells #[.slice aW ws.length cW,.slice aP ps.length cP] 102 (0,0)):=(hb.block _ (by simp)).trans (zag rfl);exact ⟨(zad this).1,(zad this).2.1⟩
 have LN:=zaa (fun w1 (hb:Below w.heap.size w w1)=>zqx (.slice aW ws.length cW) ws w1 (Rd.below RW.o hb) hw (hT.below hb) (hE.below hb) hr);have LD:=zaa (fun w1 (hb:Below w.heap.size w w1)=>zql (.slice aP ps.length cP) ps w1 (Rd.below RP.o hb) hp (hF.below hb) hs);obtain ⟨x0,x1⟩:=CA.o _ (Below.refl _ _);clear h1 h2 hT hE hF hr hs
 by_cases c1:ws.length=16
 case neg =>
  have E:=zaa (show zhe ws ps=false by unfold zhe;rw[decide_eq_false c1];rfl)
  have q:((ws.length:Int) == 16)=false:=by rw[beq_eq_false_iff_ne];omega
  clear c1;go_enter Tryz.func185,Tryz.ntmps185;go_wp2;go_ret;exact ⟨zae E.o.symm,BW.o⟩
 have q:((ws.length:Int) == 16)=true:=by rw[beq_iff_eq];omega
 by_cases c2:ps.length=24
 case neg =>
  have E:=zaa (show zhe ws ps=false by unfold zhe;rw[decide_eq_false c2,Bool.false_and,Bool.and_false])
  have q2:((ps.length:Int) == 24)=false:=by rw[beq_eq_false_iff_ne];omega
  clear c1 c2;go_enter Tryz.func185,Tryz.ntmps185;go_wp2;go_ret;exact ⟨zae E.o.symm,BW.o⟩
 have q2:((ps.length:Int) == 24)=true:=by rw[beq_iff_eq];omega
 have E:=zaa (show zhe ws ps=(okNs ws && okDs ps) by unfold zhe;rw[decide_eq_true c1,decide_eq_true c2];rfl);clear c1 c2
 cases q3:okNs ws with
 | false =>
  rw[q3] at E LN;clear q3;go_enter Tryz.func185,Tryz.ntmps185;go_wp2_with fail;refine (LN.o _ BW.o).mono ?_;rintro e w1 ⟨rfl,hb1⟩;have B1:=zaa (zab BW.o hb1 BW.o.size);clear hb1 x0 x1;go_wp2;go_ret;exact ⟨zae (by rw[E.o];rfl),B1.o⟩
 | true =>
  rw[q3] at E LN;clear q3;go_enter Tryz.func185,Tryz.ntmps185;go_wp2_with fail;refine (LN.o _ BW.o).mono ?_;rintro e w1 ⟨rfl,hb1⟩;have B1:=zaa (zab BW.o hb1 BW.o.size);clear x0 x1;obtain ⟨x0,x1⟩:=CA.o _ hb1;clear hb1;go_wp2_with fail;refine (LD.o _ B1.o).mono ?_;rintro e w2 ⟨rfl,hb2⟩;have B2:=zaa (zab B1.o hb2 B1.o.size);clear hb2 x0 x1;go_wp2;go_ret;exact ⟨zae (by rw[E.o];rfl),B2.o⟩
end Go.Proofs.YtahiphgmhndgaaaGreatDoor
