/- Several texts laid together: ImO, ImP, PaA, MkT. -/
import Derived.Test.YtehnphoeplmpdaaGreatDoorZAJ
import Derived.Test.YtehnphoeplmpdaaGreatDoorZAL
import Derived.Test.YtehnphoeplmpdaaGreatDoorZAD
set_option maxRecDepth 100000
set_option maxHeartbeats 8000000
namespace Go.Proofs.YtehnphoeplmpdaaGreatDoor
open Go.RowKit
def zjk (ws:List Ino):Bool:=zfc (zaw (zam ws) 1) && zfc (zaw (zam ws) 2)
def zay (ws:List Ino) (ps:List Den):Bool:=decide (ws.length=16) && (decide (ps.length=24) && (zai ws 0 == 2 && (zxg ws && (zip ws ps && (zfx ws ps && zjk ws)))))
theorem zig {x:Ino} (h:zes x=true):(∀ z∈x.map,zfu z=true)∧(x.kind=2→x.links=1):=by
 unfold zes at h;simp only[Bool.and_eq_true,decide_eq_true_eq] at h;obtain ⟨_,_,_,d,f⟩:=h;refine ⟨fun z hz=>?_,fun k=>?_⟩
 ·obtain ⟨i,hi,rfl⟩:=List.getElem_of_mem hz;have:=ztm d i hi;rw[List.getD_eq_getElem?_getD,List.getElem?_eq_getElem hi] at this;unfold entB at this;simp only[Option.getD_some,Bool.and_eq_true] at this;exact this.1
 ·unfold zjq at f;rw[if_neg (by omega),if_pos k] at f;simp only[Bool.and_eq_true,beq_iff_eq] at f;exact f.2
theorem zvt {z:Int} (h:zfu z=true):0≤z∧z≤1048576:=by
 unfold zfu zfe at h;simp only[Bool.and_eq_true,decide_eq_true_eq] at h;omega
theorem zpc {ws:List Ino} (h:zxg ws=true):∀ i (h:i < ws.length),∀ z∈ws[i].map,zfu z=true:=fun i hi=>(zig ((of_decide_eq_true h:∀ k (h:k < ws.length),zes ws[k]=true) i hi)).1
theorem yaqa (ws:List Ino) (ps:List Den):pimB ws ps=zay ws ps:=by
 unfold pimB zay zgy
 by_cases l1:ws.length=16
 case neg=>simp[l1]
 by_cases l2:ps.length=24
 case neg=>simp[l2]
 rw[decide_eq_true l1,decide_eq_true l2,Bool.true_and,Bool.true_and,Bool.true_and,Bool.true_and]
 cases o1:zxg ws
 ·simp
 cases o2:okDs ps
 ·have:zip ws ps=false:=by
   rw[Bool.eq_false_iff];intro e;rw[yajn e] at o2
   cases o2
  rw[this];simp
 rw[yaoi o2]
 cases f1:zqd ws (zap ps)
 ·simp
 cases f2:znr ((zap ps).map ziq)
 ·simp
 rw[yaka l1 (fun i hi=>(zig ((of_decide_eq_true o1:∀ k (h:k < ws.length),zes ws[k]=true) i hi)).2) o2 f1];have s1:zjk ws=zfc (zam ws):=zot (fun e he=>(znq (zpc o1) e he).2);rw[s1];simp[Bool.and_assoc]
theorem ztu (v:Value) (ws:List Ino) (ps:List Den) (w:World) (h:RdIm w v ws ps) (hn:ws.length=16) (hr:∀ k (h:k < ws.length),∀ z∈ws[k].map,0≤z∧z≤1048576) :
  Calls Tryz.prog 217 #[v] w fun e w'=>e=.returned (.bool (zjk ws))∧Below w.heap.size w w':=by
 have HR:=zaa h;have LU:=zaa (fun t w1 h=>zqc v ws ps t w1 h (by omega) hr);have UL:=zaa (fun t=>show (zaw (zam ws) t).length≤128 by have:=zgf (zam ws) t;have:=zep ws;omega);obtain ⟨vW,vP,rfl,h1,h2⟩:=h;obtain ⟨aW,cW,rfl,_,_⟩:=h1.shape;obtain ⟨aP,cP,rfl,_,_⟩:=h2.shape;clear h1 h2 hr hn
 obtain ⟨W,hW⟩:∃ W,W=w.alloc (.cells #[.slice aW ws.length cW,.slice aP ps.length cP] 79):=⟨_,rfl⟩
 have CA:Hid (∀ w',Below W.heap.size W w'→w'.cell? ⟨w.heap.size,0,none⟩=some (.slice aW ws.length cW)∧w'.cell? ⟨w.heap.size,1,none⟩=some (.slice aP ps.length cP)):=fun w' hb=>by
  have:w'.heap[w.heap.size]?=some (.cells #[.slice aW ws.length cW,.slice aP ps.length cP] 79 (0,0)):=(hb.block _ (by rw[hW];simp)).trans (by rw[hW];exact zah rfl);exact ⟨(zac this).1,(zac this).2.1⟩
 have BW:Hid (Below w.heap.size w W):=by rw[hW];exact (Below.refl _ _).alloc (Nat.le_refl _) _
 have hz:w.heap.size≤W.heap.size:=BW.o.size;have SG:=zaa (show zjk ws=(zfc (zaw (zam ws) 1) && zfc (zaw (zam ws) 2)) from rfl);generalize zaw (zam ws)=uf at *;go_enter Tryz.func217,Tryz.ntmps217;go_wp2;rw[← hW];clear hW
 go_loopw [3] (fun i wr=>∃ t:Nat,(1≤t∧t≤3)∧i=.int .i64 t∧Hid (Below W.heap.size W wr∧∀ s:Nat,1≤s→s < t→zfc (uf (s:Int))=true)) (fun i _=>3 - (intOf i).toNat)
 case atStart=>exact ⟨1,by omega,rfl,Below.refl _ _,fun s h a=>absurd a (by omega)⟩
 case round =>
  obtain ⟨t,ht,rfl,J⟩:=hrel;have J1:=zaa J.o.1;have JW:=zaa (zab BW.o J.o.1 hz);obtain ⟨x0,x1⟩:=CA.o wr J.o.1
  by_cases hlt:t≤2
  ·have t2:(t:Int)≤2:=by omega
   have t1:(0:Int)≤(t:Int):=by omega
   have JS:=zaa J.o.2
   have NO:Hid (zfc (uf (t:Int))=false→zjk ws=false):=fun q=>by
    rw[SG.o]
    rcases (show t=1∨t=2 by omega) with rfl | rfl
    ·rw[show ((1:Nat):Int)=1 from rfl] at q;rw[q];rfl
    ·rw[show ((2:Nat):Int)=2 from rfl] at q;rw[q,Bool.and_false]
   clear J;go_wp2_with fail;refine (LU.o _ _ (HR.o.below JW.o)).mono ?_;rintro e w1 ⟨v1,rfl,hr1,hb1⟩;obtain ⟨-,aL,cL,hvL,hcap,-⟩:=hr1.rd;have hcap1:=hcap.1;subst hvL;have R1:Hid (RdI w1 (.slice aL (uf (t:Int)).length cL) (uf (t:Int))):=hr1.rd;have B1:=zaa (zab J1.o hb1 J1.o.size);have B2:=zaa (zab BW.o B1.o hz);have ul:=UL.o (t:Int)
   have JN:Hid (zfc (uf (t:Int))=true→∀ s:Nat,1≤s→s < t+1→zfc (uf (s:Int))=true):=fun q s h a=>by
    by_cases e:s=t
    ·subst e;exact q
    ·exact JS.o s h (by omega)
   clear hr1 hb1 x0 x1 hcap JS;generalize uf (t:Int)=zs at *;obtain ⟨aZ,cZ,e,_,hcZ⟩:=R1.o.shape;have HZ:=zaa hcZ
   obtain ⟨rfl,rfl⟩:aZ=aL∧cZ=cL:=by cases e;exact ⟨rfl,rfl⟩
   clear e hcZ;go_wp2
   go_loopw [5] (fun i wq=>∃ k:Nat,k≤zs.length∧i=.int .i64 k∧Hid (Below w1.heap.size w1 wq∧∀ j (h:j < zs.length),j < k→zeq (zs.take j) zs[j]=false)) (fun i _=>zs.length - (intOf i).toNat)
   case atStart=>exact ⟨0,by omega,rfl,Below.refl _ _,fun j h a=>absurd a (by omega)⟩
   case round =>
    obtain ⟨k,hk,rfl,H⟩:=hrel
    have k0:(0:Int)≤(k:Int):=by omega
    have H1:=zaa H.o.1;have HB:=zaa (zab B1.o H.o.1 B1.o.size);have HF:=zaa (zab B2.o H.o.1 B2.o.size)
    by_cases hlk:k < zs.length
    ·obtain ⟨b,o,rfl,hbl,hcell⟩:=HZ.o (by omega);have hck:=(H1.o.cell (p:=⟨b,o+k,none⟩) hbl).trans (hcell k hlk)
     have k1:(k:Int) < (zs.length:Int):=by omega
     have k2:(k:Int)≤(cZ:Int):=by omega
     have hblr:b < wr.heap.size:=by have:=H1.o.size;omega
     have RT:=zaa (RdI.take (Rd.below R1.o H1.o) hk);have LT:=zaa (show (zs.take k).length≤1048576 by rw[List.length_take];omega);clear hcell
     cases q:zeq (zs.take k) zs[k] with
     | false =>
      have H':Hid (∀ j (h:j < zs.length),j < k+1→zeq (zs.take j) zs[j]=false):=fun j h a=>by
       by_cases e:j=k
       ·subst e;exact q
       ·exact H.o.2 j h (by omega)
      have Q:=zaa q;clear q H;generalize zs[k]=z at hck Q;go_wp2
      have RB:Hid (∀ w',Below wr.heap.size wr w'→RdI w' (.slice (some ⟨b,o,none⟩) k cZ) (zs.take k)):=fun w' hb=>Rd.below RT.o hb
      have SK:Hid (∀ w',Below wr.heap.size wr w'→w'.cell? ⟨b,o+k,none⟩=some (.int .i64 z)):=fun w' hb=>(hb.cell (p:=⟨b,o+k,none⟩) hblr).trans hck
      go_region_held3 (fun w'=>w'.cell? ⟨b,o+k,none⟩=some (.int .i64 z))
       (exact SK.o _ (by repeat (first | exact Below.refl _ _ | refine Below.drew ?_)))
       (first
        | (go_at_call 219;refine (zlk _ (zs.take k) z _ (RB.o _ (by repeat (first | exact Below.refl _ _ | refine Below.drew ?_))) LT.o).mono ?_;rw[Q.o];rintro e w' ⟨rfl,hw'⟩;subst w'))
      all_goals
       clear SK RB hck;go_wp2
       go_roundw
       case rel=>exact ⟨k+1,by omega,by go_num,(by repeat (first | exact H1.o | refine Below.drew ?_)),H'.o⟩
       case measure=>simp[intOf];omega
     | true =>
      have E:=zaa (NO.o (zwf hlk q));have Q:=zaa q;clear q H;generalize zs[k]=z at hck Q;go_wp2
      have RB:Hid (∀ w',Below wr.heap.size wr w'→RdI w' (.slice (some ⟨b,o,none⟩) k cZ) (zs.take k)):=fun w' hb=>Rd.below RT.o hb
      have SK:Hid (∀ w',Below wr.heap.size wr w'→w'.cell? ⟨b,o+k,none⟩=some (.int .i64 z)):=fun w' hb=>(hb.cell (p:=⟨b,o+k,none⟩) hblr).trans hck
      go_region_held3 (fun w'=>w'.cell? ⟨b,o+k,none⟩=some (.int .i64 z))
       (exact SK.o _ (by repeat (first | exact Below.refl _ _ | refine Below.drew ?_)))
       (first
        | (go_at_call 219;refine (zlk _ (zs.take k) z _ (RB.o _ (by repeat (first | exact Below.refl _ _ | refine Below.drew ?_))) LT.o).mono ?_;rw[Q.o];rintro e w' ⟨rfl,hw'⟩;subst w'))
      all_goals
       clear SK RB hck;go_wp2;go_ret;exact ⟨zaf E.o.symm,(by repeat (first | exact HF.o | refine Below.drew ?_))⟩
    ·have E:=zaa (JN.o (yaah (fun j h=>H.o.2 j h (by omega))));clear H;go_wp2
     go_roundw
     case rel=>exact ⟨t+1,by omega,by go_num,HB.o,E.o⟩
     case measure=>simp[intOf];omega
  ·obtain rfl:t=3:=by omega
   have E:=zaa (show zjk ws=true by
    have e1:zfc (uf 1)=true:=J.o.2 1 (by omega) (by omega);have e2:zfc (uf 2)=true:=J.o.2 2 (by omega) (by omega)
    rw[SG.o,e1,e2];rfl)
   clear J;go_wp2;go_ret;exact ⟨zaf E.o.symm,JW.o⟩
theorem zbp (v:Value) (ws:List Ino) (ps:List Den) (w:World) (h:RdIm w v ws ps) (hw:ws.length≤1048576) (hp:ps.length≤1048576) (hT:TS w) (hE:ED w) (hF:FD w) (hr:∀ k (h:k < ws.length),ws[k].R) (hs:∀ k (h:k < ps.length),ps[k].name.size≤maxLen) :
  Calls Tryz.prog 38 #[v] w fun e w'=>e=.returned (.bool (zay ws ps))∧Below w.heap.size w w':=by
 rw[← yaqa];exact yaij v ws ps w h hw hp hT hE hF hr hs
theorem zps (v:Value) (ws:List Ino) (ps:List Den) (w:World) (h:RdIm w v ws ps) (hw:ws.length≤1048576) (hp:ps.length≤1048576) (hr:∀ k (h:k < ws.length),ws[k].R) (hs:∀ k (h:k < ps.length),ps[k].name.size≤maxLen) :
  Calls Tryz.prog 136 #[v] w fun e w'=>e=.returned (.bool (zay ws ps))∧Below w.heap.size w w':=by
 have HRD:=zaa h;have HR:=zaa hr;have L1:=zaa (fun w1 h=>zul v ws ps w1 h hw hp);have L2:=zaa (fun w1 h (hl:ws.length=16)=>zqy v ws ps w1 h hl hp hs);have L3:=zaa (fun w1 h (hl:ws.length=16) (o:zxg ws=true)=>ztu v ws ps w1 h hl (fun k hk z hz=>zvt (zpc o k hk z hz)));obtain ⟨vW,vP,rfl,h1,h2⟩:=h;obtain ⟨aW,cW,rfl,_,hcW⟩:=h1.shape;obtain ⟨aP,cP,rfl,_,_⟩:=h2.shape;have HW:=zaa hcW;clear h1 h2 hr hs hcW
 have CA:Hid (∀ w',Below (w.alloc (.cells #[.slice aW ws.length cW,.slice aP ps.length cP] 79)).heap.size (w.alloc (.cells #[.slice aW ws.length cW,.slice aP ps.length cP] 79)) w'→w'.cell? ⟨w.heap.size,0,none⟩=some (.slice aW ws.length cW)∧w'.cell? ⟨w.heap.size,1,none⟩=some (.slice aP ps.length cP)):=fun w' hb=>by
  have:w'.heap[w.heap.size]?=some (.cells #[.slice aW ws.length cW,.slice aP ps.length cP] 79 (0,0)):=(hb.block _ (by simp)).trans (zah rfl);exact ⟨(zac this).1,(zac this).2.1⟩
 have BW:Hid (Below w.heap.size w (w.alloc (.cells #[.slice aW ws.length cW,.slice aP ps.length cP] 79))):=(Below.refl _ _).alloc (Nat.le_refl _) _;obtain ⟨x0,x1⟩:=CA.o _ (Below.refl _ _);have EI:=zaa (show zay ws ps=(decide (ws.length=16) && (decide (ps.length=24) && (zai ws 0 == 2 && (zxg ws && (zip ws ps && (zfx ws ps && zjk ws)))))) from rfl)
 by_cases c1:ws.length=16
 case neg =>
  have E:=zaa (show zay ws ps=false by rw[EI.o,decide_eq_false c1];rfl)
  have q:((ws.length:Int) != 16)=true:=by rw[bne_iff_ne];omega
  clear c1;go_enter Tryz.func136,Tryz.ntmps136;go_wp2;go_ret;exact ⟨zaf E.o.symm,BW.o⟩
 have q:((ws.length:Int) != 16)=false:=by rw[c1];rfl
 by_cases c2:ps.length=24
 case neg =>
  have E:=zaa (show zay ws ps=false by rw[EI.o,decide_eq_false c2,Bool.false_and,Bool.and_false])
  have q2:((ps.length:Int) != 24)=true:=by rw[bne_iff_ne];omega
  clear c1 c2;go_enter Tryz.func136,Tryz.ntmps136;go_wp2;go_ret;exact ⟨zaf E.o.symm,BW.o⟩
 have q2:((ps.length:Int) != 24)=false:=by rw[c2];rfl
 obtain ⟨bW,oW,rfl,hblW,hcellW⟩:=HW.o (by omega);have HK:=(hcellW 0 (by omega)).1;rw[show ws[0].kind=zai ws 0 from (zba (i:=0) (by omega)).symm] at HK;simp only[Nat.zero_mul,Nat.add_zero] at HK;have kk:=(BW.o.cell (p:=⟨bW,oW,none⟩) hblW).trans HK
 have len16:(0:Int) < (ws.length:Int):=by omega
 have C1:=zaa c1;have E1:=zaa (show zay ws ps=(zai ws 0 == 2 && (zxg ws && (zip ws ps && (zfx ws ps && zjk ws)))) by rw[EI.o,decide_eq_true c1,decide_eq_true c2];rfl);have HC:=zaa hcellW;clear c1 c2 EI HK hcellW HW;generalize zai ws 0=k0 at *
 by_cases c3:k0=2
 case neg =>
  have q3:(k0 != 2)=true:=by rw[bne_iff_ne];exact c3
  have E:=zaa (show zay ws ps=false by rw[E1.o,show (k0 == 2)=false by rw[beq_eq_false_iff_ne];exact c3];rfl);clear c3;go_enter Tryz.func136,Tryz.ntmps136;go_wp2;go_ret;exact ⟨zaf E.o.symm,BW.o⟩
 have q3:(k0 != 2)=false:=by rw[c3];rfl
 have E2:=zaa (show zay ws ps=(zxg ws && (zip ws ps && (zfx ws ps && zjk ws))) by rw[E1.o,c3];rfl);clear c3 E1;go_enter Tryz.func136,Tryz.ntmps136;go_wp2;clear x0 x1 kk q q2 q3;generalize w.alloc (.cells #[.slice (some ⟨bW,oW,none⟩) ws.length cW,.slice aP ps.length cP] 79)=W at *;have hz:w.heap.size≤W.heap.size:=BW.o.size
 go_loopw [3] (fun i wr=>∃ k:Nat,k≤ws.length∧i=.int .i64 k∧Hid (Below W.heap.size W wr∧∀ j (h:j < ws.length),j < k→zes ws[j]=true)) (fun i _=>ws.length - (intOf i).toNat)
 case atStart=>exact ⟨0,by omega,rfl,Below.refl _ _,fun j h a=>absurd a (by omega)⟩
 case round =>
  obtain ⟨k,hk,rfl,H⟩:=hrel;have H1:=zaa H.o.1;have HF:=zaa (zab BW.o H.o.1 hz);obtain ⟨x0,x1⟩:=CA.o wr H.o.1
  by_cases hlt:k < ws.length
  ·obtain ⟨a0,a1,a2,a3,a4,a5,a6,a7,a8,a9,a10⟩:=HC.o k hlt;have d0:=(HF.o.cell (p:=⟨bW,oW+k*11,none⟩) hblW).trans a0;have d1:=(HF.o.cell (p:=⟨bW,oW+k*11+1,none⟩) hblW).trans a1;have d2:=(HF.o.cell (p:=⟨bW,oW+k*11+2,none⟩) hblW).trans a2;have d3:=(HF.o.cell (p:=⟨bW,oW+k*11+3,none⟩) hblW).trans a3;have d4:=(HF.o.cell (p:=⟨bW,oW+k*11+4,none⟩) hblW).trans a4;have d5:=(HF.o.cell (p:=⟨bW,oW+k*11+5,none⟩) hblW).trans a5;have d6:=(HF.o.cell (p:=⟨bW,oW+k*11+6,none⟩) hblW).trans a6;have d7:=(HF.o.cell (p:=⟨bW,oW+k*11+7,none⟩) hblW).trans a7;have d8:=(HF.o.cell (p:=⟨bW,oW+k*11+8,none⟩) hblW).trans a8;have d9:=(HF.o.cell (p:=⟨bW,oW+k*11+9,none⟩) hblW).trans a9;have d10:=(HF.o.cell (p:=⟨bW,oW+k*11+10,none⟩) hblW).trans a10
   have k0':(0:Int)≤(k:Int):=by omega
   have k1:(k:Int) < (ws.length:Int):=by omega
   have LI:=zaa (fun w1=>zww ws[k] w1 (HR.o k hlt))
   have H2:Hid (zes ws[k]=true→∀ j (h:j < ws.length),j < k+1→zes ws[j]=true):=fun q j h a=>by
    by_cases e:j=k
    ·subst e;exact q
    ·exact H.o.2 j h (by omega)
   have H3:=zaa (fun q=>yabv hlt q);clear a0 a1 a2 a3 a4 a5 a6 a7 a8 a9 a10 H;generalize ws[k]=x at d0 d1 d2 d3 d4 d5 d6 d7 d8 d9 d10 LI H2 H3
   cases qq:zes x with
   | true =>
    rw[qq] at LI;have E:=zaa (H2.o qq);clear H2 H3 qq;go_wp2_with fail;refine (LI.o _).mono ?_;rintro e w1 ⟨rfl,hb1⟩;have B3:=zaa (zab H1.o hb1 H1.o.size);clear hb1 d0 d1 d2 d3 d4 d5 d6 d7 d8 d9 d10 x0 x1;go_wp2
    go_roundw
    case rel=>exact ⟨k+1,by omega,by go_num,B3.o,E.o⟩
    case measure=>simp[intOf];omega
   | false =>
    rw[qq] at LI;have E:=zaa (show zay ws ps=false by rw[E2.o,H3.o qq];rfl);clear H2 H3 qq;go_wp2_with fail;refine (LI.o _).mono ?_;rintro e w1 ⟨rfl,hb1⟩;have B3:=zaa (zab HF.o hb1 HF.o.size);clear hb1 d0 d1 d2 d3 d4 d5 d6 d7 d8 d9 d10 x0 x1;go_wp2;go_ret;exact ⟨zaf E.o.symm,B3.o⟩
  ·have O:=zaa (yafm (fun j h=>H.o.2 j h (by omega)));have E3:=zaa (show zay ws ps=(zip ws ps && (zfx ws ps && zjk ws)) by rw[E2.o,O.o];rfl);clear H;generalize zip ws ps=f1 at *;generalize zfx ws ps=f2 at *;generalize zjk ws=f3 at *;go_wp2_with fail;refine (L2.o _ (HRD.o.below HF.o) C1.o).mono ?_;rintro e w1 ⟨rfl,hb1⟩;have B1:=zaa (zab HF.o hb1 HF.o.size);have BA:=zaa (zab H1.o hb1 H1.o.size);clear hb1 x0 x1
   cases f1 with
   | false =>
    go_wp2;go_ret;exact ⟨zaf (by rw[E3.o];rfl),B1.o⟩
   | true =>
   obtain ⟨x0,x1⟩:=CA.o _ BA.o;go_wp2_with fail;refine (L1.o _ (HRD.o.below B1.o)).mono ?_;rintro e w2 ⟨rfl,hb2⟩;have B2:=zaa (zab B1.o hb2 B1.o.size);have BB:=zaa (zab BA.o hb2 BA.o.size);clear hb2 x0 x1
   cases f2 with
   | false =>
    go_wp2;go_ret;exact ⟨zaf (by rw[E3.o];rfl),B2.o⟩
   | true =>
   obtain ⟨x0,x1⟩:=CA.o _ BB.o;go_wp2_with fail;refine (L3.o _ (HRD.o.below B2.o) C1.o O.o).mono ?_;rintro e w3 ⟨rfl,hb3⟩;have B3:=zaa (zab B2.o hb3 B2.o.size);clear hb3 x0 x1;go_wp2;go_ret;exact ⟨zaf (by rw[E3.o];rfl),B3.o⟩
def zjm (ps:List Den):Nat→Int→Int→Bool
 | 0,_,_=>false
 | n+1,a,b=>if a < 0 then false else if a=b then true else zjm ps n (upD ps a) b
theorem zhu (ps:List Den) (n:Nat) (a b:Int):zjm ps (n+1) a b=if a < 0 then false else if a=b then true else zjm ps n (upD ps a) b:=rfl
theorem ztf (ps:List Den):∀ (n:Nat) (a b:Int),a < 0→zjm ps n a b=false
 | 0,_,_,_=>rfl
 | n+1,a,b,h=>by rw[zhu,if_pos h]
theorem zma (ps:List Den) (n:Nat) (d:Int):zct ps (n+1) d=if d=0 then true else if upD ps d < 0 then false else zct ps n (upD ps d):=rfl
theorem zlv (ps:List Den) (d:Int):zct ps 0 d=false:=rfl
theorem zry {ps:List Den}:∀ (k:Nat) (x:Int),zct ps k x=true→zct ps (k+1) x=true
 | 0,x,h=>by rw[zlv] at h;cases h
 | k+1,x,h=>by
  rw[zma] at h ⊢
  by_cases q:x=0
  ·rw[if_pos q]
  ·rw[if_neg q] at h ⊢
   by_cases r:upD ps x < 0
   ·rw[if_pos r] at h;cases h
   ·rw[if_neg r] at h ⊢;exact zry k _ h
theorem zsp {ps:List Den} (u0:upD ps 0=-1):∀ (k n:Nat) (a b:Int),zct ps k a=true→0≤a→k≤n→zjm ps n a b=zjm ps k a b
 | 0,_,_,_,h,_,_=>by rw[zlv] at h;cases h
 | k+1,0,_,_,_,_,hn=>absurd hn (by omega)
 | k+1,n+1,a,b,h,ha,hn=>by
  have n0:¬ a < 0:=by omega
  rw[zhu,zhu,if_neg n0,if_neg n0]
  by_cases q:a=b
  ·rw[if_pos q,if_pos q]
  ·rw[if_neg q,if_neg q];rw[zma] at h
   by_cases r:a=0
   ·subst r;rw[u0,ztf ps n (-1) b (by omega),ztf ps k (-1) b (by omega)]
   ·rw[if_neg r] at h
    by_cases s:upD ps a < 0
    ·rw[if_pos s] at h;cases h
    ·rw[if_neg s] at h;exact zsp u0 k n _ _ h (by omega) (by omega)
theorem zom {ps:List Den} {k:Nat} {x:Int} (h:zct ps (k+1) x=true) (q:¬ x=0):0≤upD ps x∧zct ps k (upD ps x)=true:=by
 rw[zma,if_neg q] at h
 by_cases r:upD ps x < 0
 ·rw[if_pos r] at h;cases h
 ·rw[if_neg r] at h;exact ⟨by omega,h⟩
theorem zao {ws:List Ino} {ps:List Den} (h:zay ws ps=true):ws.length=16∧ps.length=24∧zai ws 0=2∧zxg ws=true∧zip ws ps=true∧zfx ws ps=true∧zjk ws=true:=by
 unfold zay at h;simp only[Bool.and_eq_true,decide_eq_true_eq,beq_iff_eq] at h;exact h
theorem zfk {ws:List Ino} {ps:List Den} (h:zay ws ps=true) (i:Nat) (hi:i < ps.length):(ps[i].child=-1∧ps[i].name.size=0)∨((1≤ps[i].child∧ps[i].child≤15)∧(0≤ps[i].dir∧ps[i].dir≤15)∧nmB ps[i].name=true∧¬ zai ws ps[i].child=0∧zai ws ps[i].dir=2):=by
 obtain ⟨_,_,_,_,he,_,_⟩:=zao h;have e:=(of_decide_eq_true he:∀ i (h:i < ps.length),zco ws ps i ps[i]=true) i hi;unfold zco at e
 split at e
 ·rename_i c;left;refine ⟨c,?_⟩;unfold Den.freeB at e;simp only[Bool.and_eq_true,beq_iff_eq] at e;have:=e.2.1
  first
   | exact this
   | simpa using this
   | (simp at this;rw[this];rfl)
 ·right;simp only[Bool.and_eq_true,decide_eq_true_eq,Bool.not_eq_true',beq_eq_false_iff_ne,beq_iff_eq] at e;exact ⟨e.1,e.2.1,e.2.2.1,e.2.2.2.1,e.2.2.2.2.1⟩
theorem yaiv {ws:List Ino} {ps:List Den} (h:zay ws ps=true):upD ps 0=-1:=by
 apply yagh;intro j hj e
 rcases zfk h j hj with q | q
 ·omega
 ·omega
theorem yado {ws:List Ino} {ps:List Den} (h:zay ws ps=true) {i:Int} (h0:0≤i∧i≤15) (hk:zai ws i=2):zct ps 16 i=true:=by
 obtain ⟨hl,_,_,_,_,hL,_⟩:=zao h
 obtain ⟨n,rfl⟩:∃ n:Nat,i=(n:Int):=⟨i.toNat,by omega⟩
 have hn:n < ws.length:=by omega
 have:=(of_decide_eq_true hL:∀ i (h:i < ws.length),zgr ps i ws[i]=true) n hn;unfold zgr at this;rw[zba hn] at hk;simp only[Bool.and_eq_true,Bool.or_eq_true,decide_eq_true_eq] at this
 rcases this.2 with q | q
 ·exact absurd hk q
 ·exact q
def beC (ws:List Ino) (ps:List Den) (a b:Int):Int:=if zay ws ps=true then (if (0≤a∧a≤15)∧(0≤b∧b≤15) then (if zai ws a=2∧zai ws b=2 then 0 else 10) else 4) else 1
def beV (ws:List Ino) (ps:List Den) (a b:Int):Bool:=if beC ws ps a b=0 then zjm ps 17 a b else false
def mkS:Nat→Nat→ByteArray→ByteArray
 | 0,_,acc=>acc
 | f+1,k,acc=>if k=0 then acc else mkS f (k / 10) (⟨#[UInt8.ofNat (48+k % 10)]⟩ ++ acc)
theorem yaju:∀ (f:Nat) (acc:ByteArray),mkS f 0 acc=acc
 | 0,_=>rfl
 | f+1,acc=>by unfold mkS;rw[if_pos rfl]
def mtx (k:Nat):ByteArray:=if k=0 then ⟨#[109,48]⟩ else ⟨#[109]⟩ ++ mkS 40 k ⟨#[]⟩
theorem zmb (k:Nat) (w:World) (hk:k≤4611686018427387904) :
  Calls Tryz.prog 108 #[.int .i64 (k:Int)] w fun e w'=>e=.returned (.string (mtx k))∧Below w.heap.size w w':=by
 by_cases h0:k=0
 ·subst h0;rw[show mtx 0=⟨#[109,48]⟩ from rfl];go_enter Tryz.func108,Tryz.ntmps108;go_wp2;go_ret;exact ⟨rfl,Below.refl _ _⟩
 ·have E:=zaa (show mtx k=⟨#[109]⟩ ++ mkS 40 k ⟨#[]⟩ from if_neg h0);have P10:Hid (k < 10 ^ 40):=Nat.lt_of_le_of_lt hk (by decide)
  have k1:¬ (k:Int)≤0:=by omega
  generalize mtx k=T at *;clear h0;go_enter Tryz.func108,Tryz.ntmps108;go_wp2
  go_loopw [0,3] (fun x o wr=>∃ (m f:Nat) (acc:ByteArray),x=.int .i64 m∧o=.string acc∧m≤k∧acc.size+f≤40∧Hid (m < 10 ^ f∧mkS f m acc=mkS 40 k ⟨#[]⟩∧Below w.heap.size w wr)) (fun x _ _=>(intOf x).toNat)
  case atStart=>exact ⟨k,40,⟨#[]⟩,rfl,rfl,Nat.le_refl _,Nat.le_refl 40,P10.o,rfl,Below.refl _ _⟩
  case round =>
   obtain ⟨m,f,acc,rfl,rfl,hm,hf,D⟩:=hrel
   by_cases c:m=0
   ·subst c
    have E2:Hid (mkS 40 k ⟨#[]⟩=acc):=by
     show _=_
     rw[← D.o.2.1,yaju]
    have B:=zaa D.o.2.2;have had:=run_string_add_sum (P:=Tryz.prog) wr ⟨#[109]⟩ acc (by show 1+acc.size≤_;omega);clear D;go_wp2;go_ret;exact ⟨by rw[E.o,E2.o];rfl,B.o⟩
   ·have m0:0 < (m:Int):=by omega
    have hf0:0 < f:=by
     rcases Nat.eq_zero_or_pos f with e | e
     ·exfalso;have:=D.o.1;rw[e] at this;omega
     ·exact e
    obtain ⟨f',rfl⟩:∃ f',f=f'+1:=⟨f - 1,by omega⟩
    have D2:Hid (m / 10 < 10 ^ f'∧mkS f' (m / 10) (⟨#[UInt8.ofNat (48+m % 10)]⟩ ++ acc)=mkS 40 k ⟨#[]⟩):=by
     refine ⟨?_,?_⟩
     ·have:=D.o.1;rw[Nat.pow_succ] at this;omega
     ·rw[← D.o.2.1]
      show _=(if m=0 then acc else _)
      rw[if_neg c]
    have hcv:=run_convert_bytes_arg (P:=Tryz.prog) (wr.alloc (.cells #[.int .u8 (48+(m:Int) % 10)] 5)) 228 5 Tryz.underlying228 Tryz.underlying5 wr.heap.size 0 1 1 [48+(m:Int) % 10] rfl (fun i hi=>by
     obtain rfl:i=0:=by omega
     exact World.cell?_alloc_mark wr #[.int .u8 (48+(m:Int) % 10)] 5 (0,0) 0) 9 Tryz.underlying9
    have eb:strOfNums [48+(m:Int) % 10]=⟨#[UInt8.ofNat (48+m % 10)]⟩:=by
     unfold strOfNums;simp only[List.map_cons,List.map_nil];rw[show (48+(m:Int) % 10).toNat=48+m % 10 by omega]
    rw[eb] at hcv;have had:=run_string_add_sum (P:=Tryz.prog) (wr.alloc (.cells #[.int .u8 (48+(m:Int) % 10)] 5)) ⟨#[UInt8.ofNat (48+m % 10)]⟩ acc (by show 1+acc.size≤_;omega);have B2:Hid (Below w.heap.size w (wr.alloc (.cells #[.int .u8 (48+(m:Int) % 10)] 5))):=D.o.2.2.alloc D.o.2.2.size _
    have sz:((⟨#[UInt8.ofNat (48+m % 10)]⟩:ByteArray) ++ acc).size=1+acc.size:=by
     rw[ByteArray.size_append];rfl
    have SZ:=zaa sz;clear eb D sz;generalize hbb:(⟨#[UInt8.ofNat (48+m % 10)]⟩:ByteArray)=bb at hcv had D2 SZ;clear hbb;go_wp2
    go_roundw
    case rel=>exact ⟨m / 10,f',bb ++ acc,by go_num,rfl,by omega,by have:=SZ.o;omega,D2.o.1,D2.o.2,B2.o⟩
    case measure=>simp[intOf];omega
end Go.Proofs.YtehnphoeplmpdaaGreatDoor
