/- Several texts laid together: PiG, PiH, TrA, ImL. -/
import Derived.Test.YtahiphgmhndgaaaGreatDoorZAJ
import Derived.Test.YtahiphgmhndgaaaGreatDoorZAO
import Derived.Test.YtahiphgmhndgaaaGreatDoorZAK
import Derived.Test.YtahiphgmhndgaaaGreatDoorZAD
set_option maxRecDepth 100000
set_option maxHeartbeats 4000000
namespace Go.Proofs.YtahiphgmhndgaaaGreatDoor
open Go.RowKit
theorem yaus {zs:List Int} {n:Int} {k:Nat} (hk:k < zs.length) (h:n=zs[k]):zru zs n=true:=by
 unfold zru;rw[List.contains_eq_any_beq,List.any_eq_true];exact ⟨zs[k],List.getElem_mem _,by rw[h];simp⟩
theorem zwc (v:Value) (zs:List Int) (n:Int) (w:World) (h:RdI w v zs) (hn:zs.length≤1048576) :
  Calls Tryz.prog 214 #[v,.int .i64 n] w fun e w'=>∃ r:Int,e=.returned (.int .i64 r)∧(decide (0≤r)=zru zs n)∧w'=w:=by
 obtain ⟨aZ,cZ,rfl,_,hcZ⟩:=h.shape;have HZ:=zaa hcZ;clear h hcZ;go_enter Tryz.func214,Tryz.ntmps214;go_wp2
 go_loop [5,8] (fun _ i=>∃ k:Nat,k≤zs.length∧i=.int .i64 k∧Hid (∀ j (h:j < zs.length),j < k→¬ zs[j]=n)) (fun _ i=>zs.length - (intOf i).toNat)
 case atStart=>exact ⟨0,by omega,rfl,fun j h a=>absurd a (by omega)⟩
 case round =>
  obtain ⟨k,hk,rfl,H⟩:=hrel
  by_cases hlt:k < zs.length
  ·obtain ⟨b,o,rfl,hbl,hcell⟩:=HZ.o (by omega);have hck:=hcell k hlt;clear hcell
   by_cases q:n=zs[k]
   ·have q':(n == zs[k])=true:=by rw[beq_iff_eq];exact q
    have E:=zaa (yaus hlt q);clear q H;generalize zs[k]=z at *;go_wp2;go_ret;exact ⟨_,rfl,by rw[E.o];exact decide_eq_true (by omega),rfl⟩
   ·have q':(n == zs[k])=false:=by rw[beq_eq_false_iff_ne];exact q
    have H':Hid (∀ j (h:j < zs.length),j < k+1→¬ zs[j]=n):=fun j h a=>by
     by_cases e:j=k
     ·subst e;exact fun e=>q e.symm
     ·exact H.o j h (by omega)
    clear q H;generalize zs[k]=z at hck q';go_wp2
    go_round
    case rel=>exact ⟨k+1,by omega,by go_num,H'⟩
    case measure=>simp[intOf];omega
  ·have E:=zaa (yajp (fun j h=>H.o j h (by omega)));clear H;go_wp2;go_ret;exact ⟨_,rfl,by rw[E.o];rfl,rfl⟩
theorem zih (v:Value) (zs:List Int) (n:Int) (w:World) (h:RdI w v zs) (hn:zs.length≤1048576) :
  Calls Tryz.prog 207 #[v,.int .i64 n] w fun e w'=>e=.returned (.bool (zru zs n))∧w'=w:=by
 have HZ:=zaa h;obtain ⟨aZ,cZ,rfl,_,_⟩:=h.shape;clear h;go_enter Tryz.func207,Tryz.ntmps207;go_wp2_with fail;refine (zwc _ zs n _ HZ.o hn).mono ?_;rintro e w' ⟨r,rfl,hr,hw'⟩;subst w';have R:=zaa hr;clear hr;go_wp2;go_ret;exact ⟨zae R.o,rfl⟩
theorem Rd.take {w:World} {size:Nat} {ao:Option Addr} {n c:Nat} {xs:List Value} {m:Nat} (h:Rd w size (.slice ao n c) n xs) (hm:m≤n):Rd w size (.slice ao m c) m (xs.take (m*size)):=by
 obtain ⟨h1,ao',cap,e,h2,h3⟩:=h
 cases e
 have hms:m*size≤n*size:=Nat.mul_le_mul_right _ hm;refine ⟨by rw[List.length_take,h1];omega,ao,c,rfl,⟨by omega,h2.2⟩,fun hp=>?_⟩;obtain ⟨b,o,e1,e2,e3⟩:=h3 (by omega);exact ⟨b,o,e1,e2,fun j hj=>by rw[e3 j (by omega),List.getElem?_take,if_pos hj]⟩
theorem RdI.take {w:World} {ao:Option Addr} {c:Nat} {zs:List Int} {m:Nat} (h:RdI w (.slice ao zs.length c) zs) (hm:m≤zs.length):RdI w (.slice ao m c) (zs.take m):=by
 have:=Rd.take h hm;unfold RdI
 have e:(zs.take m).length=m:=by rw[List.length_take];omega
 have e2:zav (zs.take m)=(zav zs).take (m*1):=by rw[Nat.mul_one];simp[zav,List.map_take]
 rw[e,e2];exact this
def zfy (zs:List Int):Bool:=decide (∀ k (h:k < zs.length),zru (zs.take k) zs[k]=false)
theorem yadx {zs:List Int} (h:∀ k (h:k < zs.length),zru (zs.take k) zs[k]=false):zfy zs=true:=decide_eq_true h
theorem zys {zs:List Int} {k:Nat} (hk:k < zs.length) (h:zru (zs.take k) zs[k]=true):zfy zs=false:=decide_eq_false (fun x=>by have:=x k hk;rw[h] at this;cases this)
theorem znt (v:Value) (zs:List Int) (w:World) (h:RdI w v zs) (hn:zs.length≤1048576) :
  Calls Tryz.prog 191 #[v] w fun e w'=>e=.returned (.bool (zfy zs))∧w'=w:=by
 have HR:=zaa h;obtain ⟨aZ,cZ,rfl,hcap,hcZ⟩:=h.shape;have HZ:=zaa hcZ;clear h hcZ;go_enter Tryz.func191,Tryz.ntmps191;go_wp2
 go_loop [3,4,7] (fun _ _ i=>∃ k:Nat,k≤zs.length∧i=.int .i64 k∧Hid (∀ j (h:j < zs.length),j < k→zru (zs.take j) zs[j]=false)) (fun _ _ i=>zs.length - (intOf i).toNat)
 case atStart=>exact ⟨0,by omega,rfl,fun j h a=>absurd a (by omega)⟩
 case round =>
  obtain ⟨k,hk,rfl,H⟩:=hrel
  by_cases hlt:k < zs.length
  ·obtain ⟨b,o,rfl,hbl,hcell⟩:=HZ.o (by omega);have hck:=hcell k hlt;have RT:=zaa (RdI.take HR.o hk);have LT:=zaa (show (zs.take k).length≤1048576 by rw[List.length_take];omega);clear hcell
   cases q:zru (zs.take k) zs[k] with
   | false =>
    have H':Hid (∀ j (h:j < zs.length),j < k+1→zru (zs.take j) zs[j]=false):=fun j h a=>by
     by_cases e:j=k
     ·subst e;exact q
     ·exact H.o j h (by omega)
    have Q:=zaa q;clear q H;generalize zs[k]=z at hck Q;go_wp2_with (go_at_call 207;refine (zih _ (zs.take k) z _ RT.o LT.o).mono ?_;rw[Q.o];rintro e w' ⟨rfl,rfl⟩)
    go_round
    case rel=>exact ⟨k+1,by omega,by go_num,H'⟩
    case measure=>simp[intOf];omega
   | true =>
    have E:=zaa (zys hlt q);have Q:=zaa q;clear q H;generalize zs[k]=z at hck Q;go_wp2_with (go_at_call 207;refine (zih _ (zs.take k) z _ RT.o LT.o).mono ?_;rw[Q.o];rintro e w' ⟨rfl,rfl⟩);go_ret;exact ⟨zae E.o.symm,rfl⟩
  ·have E:=zaa (yadx (fun j h=>H.o j h (by omega)));clear H;go_wp2;go_ret;exact ⟨zae E.o.symm,rfl⟩
structure InI (W w:World) (vL:Value) (zs:List Int):Prop where
 l:w.ownsRow W.heap.size 3 1 vL zs.length (zav zs)
 b:Below W.heap.size W w
theorem InI.z {W w:World} {vL:Value} {zs:List Int} (h:InI W w vL zs):W.heap.size≤w.heap.size:=h.b.size
theorem InI.below {W w w':World} {vL:Value} {zs:List Int} (h:InI W w vL zs) (hb:Below w.heap.size w w'):InI W w' vL zs :=
 ⟨((zai h.l).below hb (Nat.le_refl _)).1,zab h.b hb h.z⟩
theorem InI.grow {W w w':World} {vL v':Value} {zs:List Int} (h:InI W w vL zs) (x:Int) (ho:w'.ownsRow W.heap.size 3 1 v' (zs.length+1) (zav zs ++ [.int .i64 x])) (hg:w.grownBy w' vL.ownBlock):InI W w' v' (zs ++ [x]) :=
 ⟨by rw[zhq,List.length_append];exact ho,h.b.grown hg h.z (fun q hq=>(h.l.lt q hq).1)⟩
theorem yaai (x:Int):∀ u∈[Value.int .i64 x],u.oneCell'=true:=by
 intro u hu;rw[List.mem_singleton.1 hu];rfl
def yaeo (zs:List Int):List Int:=zs.filter fun z=>z != 0
def zbj (ws:List Ino):List Int:=ws.flatMap fun x=>yaeo x.map
def zvr (ws:List Ino) (k:Nat) (j:Nat):List Int:=zbj (ws.take k) ++ yaeo (((ws[k]?).map Ino.map).getD [] |>.take j)
theorem zyr (ws:List Ino) (k:Nat):zvr ws k 0=zbj (ws.take k):=by simp[zvr,yaeo]
theorem zzg {ws:List Ino} {k:Nat} (hk:k < ws.length) {j:Nat} (hj:j < 8):zvr ws k (j+1)=if ws[k].map.getD j 0=0 then zvr ws k j else zvr ws k j ++ [ws[k].map.getD j 0]:=by
 have hl:j < ws[k].map.length:=hj
 have e:ws[k].map.getD j 0=ws[k].map[j]:=by rw[List.getD_eq_getElem?_getD,List.getElem?_eq_getElem hl];rfl
 unfold zvr yaeo;rw[List.getElem?_eq_getElem hk];simp only[Option.map_some,Option.getD_some];rw[List.take_succ_eq_append_getElem hl,List.filter_append,e]
 by_cases h:ws[k].map[j]=0
 ·rw[if_pos h,h];simp
 ·rw[if_neg h];simp[h]
theorem zya {ws:List Ino} {k:Nat} (hk:k < ws.length):zvr ws k 8=zbj (ws.take (k+1)):=by
 unfold zvr zbj;rw[List.getElem?_eq_getElem hk,List.take_succ_eq_append_getElem hk,List.flatMap_append];simp[Ino.map]
theorem zxk (zs:List Int):(yaeo zs).length≤zs.length:=List.length_filter_le _ _
theorem zly (ws:List Ino):(zbj ws).length≤8*ws.length:=by
 induction ws with
 | nil=>simp[zbj]
 | cons x ws ih =>
  have h1:=zxk x.map;have h2:x.map.length=8:=rfl;unfold zbj at *;rw[List.flatMap_cons,List.length_append,List.length_cons];omega
theorem yaci (ws:List Ino) (k j:Nat) (hk:k < ws.length) (hj:j≤8):(zvr ws k j).length≤8*ws.length:=by
 have h1:=zly (ws.take k);have h2:=zxk (((ws[k]?).map Ino.map).getD [] |>.take j)
 have h3:(((ws[k]?).map Ino.map).getD [] |>.take j).length≤j:=by rw[List.length_take];omega
 unfold zvr;rw[List.length_append];rw[List.length_take] at h1;omega
theorem idx8 (x:Ino) (j:Nat) (hj:j < 8) (w:World):(Instr.index 185 (.agg #[.int .i64 x.m0,.int .i64 x.m1,.int .i64 x.m2,.int .i64 x.m3,.int .i64 x.m4,.int .i64 x.m5,.int .i64 x.m6,.int .i64 x.m7]) (.int .i64 (j:Int))).run Tryz.prog w=.ok (.int .i64 (x.map.getD j 0)) w:=by
 rcases (show j=0∨j=1∨j=2∨j=3∨j=4∨j=5∨j=6∨j=7 by omega) with rfl | rfl | rfl | rfl | rfl | rfl | rfl | rfl <;> simp[Instr.index,run_underlying Tryz.underlying185,asIntOf,Ino.map,go_sem]
theorem zme (v:Value) (ws:List Ino) (w:World) (h:RdN w v ws) (hn:ws.length≤4096) :
  Calls Tryz.prog 192 #[v] w fun e w'=>∃ v',e=.returned v'∧Row w' 3 1 w.heap.size w'.heap.size v' (zbj ws).length (zav (zbj ws))∧Below w.heap.size w w':=by
 obtain ⟨aW,cW,rfl,_,hcW⟩:=h.shape;have HW:=zaa hcW;clear h hcW;go_enter Tryz.func192,Tryz.ntmps192;go_wp2
 go_loopw [3,5,7,10] (fun vL _ _ i wr=>∃ k:Nat,k≤ws.length∧i=.int .i64 k∧Hid (InI w wr vL (zbj (ws.take k)))∧w.heap.size≤wr.heap.size) (fun _ _ _ i _=>ws.length - (intOf i).toNat)
 case atStart=>exact ⟨0,by omega,rfl,⟨World.ownsRow_nil _ _ _ _,Below.refl _ _⟩,Nat.le_refl _⟩
 case round =>
  obtain ⟨k,hk,rfl,I,hz⟩:=hrel
  by_cases hlt:k < ws.length
  ·obtain ⟨b,o,rfl,hbl,hcell⟩:=HW.o (by omega);obtain ⟨a0,a1,a2,a3,a4,a5,a6,a7,a8,a9,a10⟩:=hcell k hlt;have d0:=(I.o.b.cell (p:=⟨b,o+k*11,none⟩) hbl).trans a0;have d1:=(I.o.b.cell (p:=⟨b,o+k*11+1,none⟩) hbl).trans a1;have d2:=(I.o.b.cell (p:=⟨b,o+k*11+2,none⟩) hbl).trans a2;have d3:=(I.o.b.cell (p:=⟨b,o+k*11+3,none⟩) hbl).trans a3;have d4:=(I.o.b.cell (p:=⟨b,o+k*11+4,none⟩) hbl).trans a4;have d5:=(I.o.b.cell (p:=⟨b,o+k*11+5,none⟩) hbl).trans a5;have d6:=(I.o.b.cell (p:=⟨b,o+k*11+6,none⟩) hbl).trans a6;have d7:=(I.o.b.cell (p:=⟨b,o+k*11+7,none⟩) hbl).trans a7;have d8:=(I.o.b.cell (p:=⟨b,o+k*11+8,none⟩) hbl).trans a8;have d9:=(I.o.b.cell (p:=⟨b,o+k*11+9,none⟩) hbl).trans a9;have d10:=(I.o.b.cell (p:=⟨b,o+k*11+10,none⟩) hbl).trans a10
   have k0:(0:Int)≤(k:Int):=by omega
   have k1:(k:Int) < (ws.length:Int):=by omega
   have MZ:=zaa (zyr ws k);have MF:=zaa (zya hlt);have MS:=zaa (fun j (hj:j < 8)=>zzg hlt hj);have ML:=zaa (fun j (hj:j≤8)=>yaci ws k j hlt hj);have HM:=zaa (fun j (hj:j < 8)=>ws[k].at j hj);clear a0 a1 a2 a3 a4 a5 a6 a7 a8 a9 a10 hcell;generalize ws[k]=x at *
   have START:Hid (InI w (wr.alloc (.cells x.cs.toArray 187)) u3 (zvr ws k 0)):=by
    have:=I.o.below ((Below.refl wr.heap.size wr).alloc (Nat.le_refl _) (.cells x.cs.toArray 187));unfold Hid;rw[MZ.o];exact this
   unfold Ino.cs at START;have hz0:=START.o.z;clear I;go_wp2
   go_loopw [3,7,16] (fun vL _ i wq=>∃ j:Nat,j≤8∧i=.int .i64 j∧Hid (InI w wq vL (zvr ws k j))∧w.heap.size≤wq.heap.size) (fun _ _ i _=>8 - (intOf i).toNat)
   case atStart=>exact ⟨0,by omega,rfl,START,hz0⟩
   case round =>
    obtain ⟨j,hj,rfl,J,hzj⟩:=hrel;clear START hz0 d0 d1 d2 d3 d4 d5 d6 d7 d8 d9 d10
    have j0:(0:Int)≤(j:Int):=by omega
    by_cases hlj:j < 8
    ·have j1:(j:Int) < 8:=by omega
     have ix:=idx8 x j hlj;have MJ:=zaa (MS.o j hlj);have hlen:=ML.o j (by omega);generalize x.map.getD j 0=z at ix MJ
     by_cases q:z=0
     ·have q':(z != 0)=false:=by rw[q];rfl
      have G:Hid (InI w wr u3 (zvr ws k (j+1))):=by unfold Hid;rw[MJ.o,if_pos q];exact J.o
      clear q J MJ;go_wp2
      go_roundw
      case rel=>exact ⟨j+1,by omega,by go_num,G,hzj⟩
      case measure=>simp[intOf];omega
     ·have q':(z != 0)=true:=by rw[bne_iff_ne];exact q
      have JB:Hid (InI w (wr.alloc (.cells #[.int .i64 z] 3)) u3 (zvr ws k j)):=J.o.below ((Below.refl _ _).alloc (Nat.le_refl _) _);have RB:=zaa (zmo wr z);have hzb:=JB.o.z
      have MN:Hid (zvr ws k (j+1)=zvr ws k j ++ [z]):=by unfold Hid;rw[MJ.o,if_neg q]
      clear q J MJ;go_wp2_with (at_builtin;refine zak _ rfl (.tmp 21) (.tmp 23) 22 rfl w.heap.size 3 (.int .i64 0) 1 8 Tryz.underlying22 zfz rfl (by decide) _ _ _ rfl JB.o.l _ 1 _ rfl RB.o (yaai _) (by simp[maxLen];omega) (by omega) (by omega) ?_);intro vN wN hownN hgrN;have G:=zaa (JB.o.grow z hownN hgrN);rw[← MN.o] at G;have hzN:=G.o.z;clear hownN hgrN JB RB;go_wp2
      go_roundw
      case rel=>exact ⟨j+1,by omega,by go_num,G,hzN⟩
      case measure=>simp[intOf];omega
    ·obtain rfl:j=8:=by omega
     have G:Hid (InI w wr u3 (zbj (ws.take (k+1)))):=by unfold Hid;rw[← MF.o];exact J.o
     clear J;go_wp2
     go_roundw
     case rel=>exact ⟨k+1,by omega,by go_num,G,hzj⟩
     case measure=>simp[intOf];omega
  ·obtain rfl:k=ws.length:=by omega
   have E:=zaa (show zbj (ws.take ws.length)=zbj ws by rw[List.take_length]);rw[E.o] at I;obtain ⟨-,aL,cL,hvL,-⟩:=(zai I.o.l).rd;subst hvL;go_wp2;go_ret;exact ⟨_,rfl,zai I.o.l,I.o.b⟩
def zjt (hs:List Int):Bool:=decide (hs.length=128∧∀ k (h:k < hs.length),0≤hs[k]∧hs[k]≤64)
def zgn (n:Nat):List Int:=List.replicate n 1
theorem yalv (n:Nat):zgn (n+1)=zgn n ++ [1]:=by unfold zgn;rw[List.replicate_succ',]
theorem zka (n:Nat):(zgn n).length=n:=by simp[zgn]
theorem yafl (w:World):Calls Tryz.prog 162 #[] w fun e w'=>∃ v',e=.returned v'∧Row w' 3 1 w.heap.size w'.heap.size v' (zgn 128).length (zav (zgn 128))∧Below w.heap.size w w':=by
 have START:Hid (InI w (w.alloc (.cells #[] 3)) (.slice (some ⟨w.heap.size,0,none⟩) 0 0) (zgn 0)):=⟨World.ownsRow_lit w #[] 0 (Nat.le_refl _) (by simp[maxLen]) (by simp),(Below.refl _ _).alloc (Nat.le_refl _) _⟩
 go_enter Tryz.func162,Tryz.ntmps162;go_wp2
 go_loopw [1,2] (fun vL i wr=>∃ m:Nat,m≤128∧i=.int .i64 (m:Int)∧Hid (InI w wr vL (zgn m))) (fun _ i _=>128 - (intOf i).toNat)
 case atStart=>exact ⟨0,by omega,rfl,START⟩
 case round =>
  obtain ⟨m,hm,rfl,J⟩:=hrel;clear START
  have m0:(0:Int)≤(m:Int):=by omega
  by_cases hlt:m < 128
  ·have m1:(m:Int) < 128:=by omega
   have EM:=zaa (yalv m)
   have l2:(zgn m).length≤128:=by rw[zka];omega
   have JB:Hid (InI w (wr.alloc (.cells #[.int .i64 1] 3)) u1 (zgn m)):=J.o.below ((Below.refl _ _).alloc (Nat.le_refl _) _);have RB:=zaa (zmo wr 1);have hzb:=JB.o.z;clear J;go_wp2_with (at_builtin;refine zak _ rfl (.tmp 8) (.tmp 9) 22 rfl w.heap.size 3 (.int .i64 0) 1 8 Tryz.underlying22 zfz rfl (by decide) _ _ _ rfl JB.o.l _ 1 _ rfl RB.o (yaai _) (by first | omega | (simp[maxLen];omega)) (by first | omega | (simp;omega)) hzb ?_);intro vN wN hownN hgrN;have G:=zaa (JB.o.grow 1 hownN hgrN);rw[← EM.o] at G;clear hownN hgrN JB RB;go_wp2
   go_roundw
   case rel=>exact ⟨m+1,by omega,by go_num,G⟩
   case measure=>simp[intOf];omega
  ·obtain rfl:m=128:=by omega
   obtain ⟨-,aN,cN,hvN,-⟩:=(zai J.o.l).rd;subst hvN;go_wp2;go_ret;exact ⟨_,rfl,zai J.o.l,J.o.b⟩
theorem zqt (v:Value) (hs:List Int) (w:World) (h:RdI w v hs) (_hn:hs.length≤1048576):Calls Tryz.prog 60 #[v] w fun e w'=>e=.returned (.bool (zjt hs))∧w'=w:=by
 have NO:=zaa (fun h=>show zjt hs=false from decide_eq_false h);have YES:=zaa (fun h=>show zjt hs=true from decide_eq_true h);obtain ⟨ao,cap,rfl,hcap,hc⟩:=h.shape
 by_cases c1:(hs.length:Int) > 4096
 ·rw[NO.o (fun q=>by omega)];go_enter Tryz.func60,Tryz.ntmps60;go_wp2;go_ret;exact ⟨rfl,rfl⟩
 by_cases c2:hs.length=128
 case neg =>
  rw[NO.o (fun q=>c2 q.1)]
  have q:((hs.length:Int) != 128)=true:=by rw[bne_iff_ne];omega
  go_enter Tryz.func60,Tryz.ntmps60;go_wp2;go_ret;exact ⟨rfl,rfl⟩
 obtain ⟨b,o,rfl,hbl,hcell⟩:=hc (by omega);have HC:=zaa hcell;have L128:=zaa c2;rw[show zjt hs=zjt hs from rfl];generalize hb:zjt hs=hB at *;clear hb hcell c1;rw[c2];clear c2 hcap;go_enter Tryz.func60,Tryz.ntmps60;go_wp2
 go_loopw [3] (fun i wr=>∃ m:Nat,m≤128∧i=.int .i64 (m:Int)∧wr=w∧Hid (∀ k (h:k < hs.length),k < m→0≤hs[k]∧hs[k]≤64)) (fun i _=>128 - (intOf i).toNat)
 case atStart=>exact ⟨0,by omega,rfl,rfl,fun k _ hk=>absurd hk (by omega)⟩
 case round =>
  obtain ⟨m,hm,rfl,rfl,J⟩:=hrel
  have m0:(0:Int)≤(m:Int):=by omega
  by_cases hlt:m < 128
  ·have m1:(m:Int) < 128:=by omega
   have hl:m < hs.length:=by have:=L128.o;omega
   have e0:=HC.o m hl
   by_cases q:0≤hs[m]∧hs[m]≤64
   ·have G:Hid (∀ k (h:k < hs.length),k < m+1→0≤hs[k]∧hs[k]≤64):=fun k hk hkm=>by
     rcases Nat.lt_succ_iff_lt_or_eq.1 hkm with r | rfl
     ·exact J.o k hk r
     ·exact q
    generalize hs[m]=z at *;clear J;go_wp2_with fail;refine (zaz _ _ _ _ q).mono ?_;rintro e w' ⟨rfl,hw'⟩;subst w';go_wp2
    go_roundw
    case rel=>exact ⟨m+1,by omega,by go_num,(by first | rfl | trivial),G⟩
    case measure=>simp[intOf];omega
   ·have E:=zaa (NO.o (fun r=>q (r.2 m hl)));generalize hs[m]=z at *;obtain rfl:=E.o;go_wp2_with fail;refine (zeb _ _ _ _ q).mono ?_;rintro e w' ⟨rfl,hw'⟩;subst w';go_wp2;go_ret;exact ⟨rfl,rfl⟩
  ·obtain rfl:m=128:=by omega
   have E:=zaa (YES.o ⟨L128.o,fun k hk=>J.o k hk (by have:=L128.o;omega)⟩);obtain rfl:=E.o;go_wp2;go_ret;exact ⟨rfl,rfl⟩
def zob (ds:List Den) (c:Int) (k:Nat):Nat:=((ds.take k).filter fun x=>x.child == c).length
theorem yajn (ds:List Den) (c:Int):zob ds c 0=0:=rfl
theorem zku {ds:List Den} {c:Int} {k:Nat} (h:k < ds.length):zob ds c (k+1)=zob ds c k+(if (ds[k].child == c)=true then 1 else 0):=by
 unfold zob;rw[List.take_succ_eq_append_getElem h,List.filter_append,List.length_append]
 congr 1
 cases q:ds[k].child == c <;> simp[List.filter,q]
theorem yakg (ds:List Den) (c:Int) (k:Nat):zob ds c k≤k:=by
 unfold zob;exact Nat.le_trans (List.length_filter_le _ _) (by simp;omega)
def zlx (ps:List Den) (i:Nat) (x:Ino):Bool:=decide ((if i=0 then 1 else 0)+(zob ps i ps.length:Int)=x.links) && (decide (¬ x.kind=2) || zgw ps 16 i)
def zhy (ws:List Ino) (ps:List Den):Bool:=decide (∀ i (h:i < ws.length),zlx ps i ws[i]=true)
theorem yaes {ws:List Ino} {ps:List Den} {i:Nat} (h:i < ws.length) (q:zlx ps i ws[i]=false):zhy ws ps=false:=decide_eq_false (fun e=>by rw[e i h] at q;cases q)
theorem yadn (w:World):Calls Tryz.prog 181 #[.bool true] w fun e w'=>e=.returned (.int .i64 1)∧w'=w:=zsi true w
theorem yacz (w:World):Calls Tryz.prog 181 #[.bool false] w fun e w'=>e=.returned (.int .i64 0)∧w'=w:=zsi false w
theorem zvt (v:Value) (ws:List Ino) (ps:List Den) (w:World) (h:RdIm w v ws ps) (hm:ws.length≤1048576) (hn:ps.length≤1048576) :
  Calls Tryz.prog 157 #[v] w fun e w'=>e=.returned (.bool (zhy ws ps))∧Below w.heap.size w w':=by
 have HR:=zaa h;obtain ⟨vW,vP,rfl,h1,h2⟩:=h;obtain ⟨aW,cW,rfl,_,hcW⟩:=h1.shape;obtain ⟨aP,cP,rfl,_,hcP⟩:=h2.shape;have HW:=zaa hcW;have HZ:=zaa hcP;clear h1 h2 hcP hcW
 obtain ⟨W,hW⟩:∃ W,W=w.alloc (.cells #[.slice aW ws.length cW,.slice aP ps.length cP] 102):=⟨_,rfl⟩
 have CA:Hid (∀ w',Below W.heap.size W w'→w'.cell? ⟨w.heap.size,0,none⟩=some (.slice aW ws.length cW)∧w'.cell? ⟨w.heap.size,1,none⟩=some (.slice aP ps.length cP)):=fun w' hb=>by
  have:w'.heap[w.heap.size]?=some (.cells #[.slice aW ws.length cW,.slice aP ps.length cP] 102 (0,0)):=(hb.block _ (by rw[hW];simp)).trans (by rw[hW];exact zag rfl);exact ⟨(zad this).1,(zad this).2.1⟩
 have BW:Hid (Below w.heap.size w W):=by rw[hW];exact (Below.refl _ _).alloc (Nat.le_refl _) _
 have hz:w.heap.size≤W.heap.size:=BW.o.size;have LH:=zaa (fun d w1 h=>zxh (.agg #[.slice aW ws.length cW,.slice aP ps.length cP]) ws ps d w1 h hn);go_enter Tryz.func157,Tryz.ntmps157;go_wp2;rw[← hW];clear hW
 go_loopw [3] (fun i wr=>∃ k:Nat,k≤ws.length∧i=.int .i64 k∧Hid (Below W.heap.size W wr∧∀ j (h:j < ws.length),j < k→zlx ps j ws[j]=true)) (fun i _=>ws.length - (intOf i).toNat)
 case atStart=>exact ⟨0,by omega,rfl,Below.refl _ _,fun j h a=>absurd a (by omega)⟩
 case round =>
  obtain ⟨i,hi,rfl,J⟩:=hrel;obtain ⟨x0,x1⟩:=CA.o wr J.o.1
  by_cases hlt:i < ws.length
  ·have i0:(0:Int)≤(i:Int):=by omega
   have i1:(i:Int) < (ws.length:Int):=by omega
   obtain ⟨b0,HB,b1,LB⟩:∃ b0:Int,Hid (b0=if i=0 then 1 else 0)∧(0≤b0∧b0≤1)∧Hid (∀ w1:World,Calls Tryz.prog 181 #[.bool ((i:Int) == 0)] w1 fun e w'=>e=.returned (.int .i64 b0)∧w'=w1):=by
    by_cases q:i=0
    ·refine ⟨1,zaa (by rw[if_pos q]),by omega,fun w1=>?_⟩;rw[show ((i:Int) == 0)=true by rw[beq_iff_eq];omega];exact yadn w1
    ·refine ⟨0,zaa (by rw[if_neg q]),by omega,fun w1=>?_⟩;rw[show ((i:Int) == 0)=false by rw[beq_eq_false_iff_ne];omega];exact yacz w1
   have START:Hid (Below W.heap.size W wr):=J.o.1;go_wp2_with (go_at_call 181;refine (LB.o _).mono ?_;rintro e w' ⟨rfl,hw'⟩;subst w')
   go_loopw [4,5] (fun n kk wq=>∃ k:Nat,k≤ps.length∧kk=.int .i64 k∧n=.int .i64 (b0+(zob ps i k:Int))∧Hid (Below W.heap.size W wq)) (fun _ kk _=>ps.length - (intOf kk).toNat)
   case atStart=>exact ⟨0,by omega,rfl,by rw[yajn];simp,START⟩
   case round =>
    obtain ⟨k,hk,rfl,rfl,K⟩:=hrel;obtain ⟨y0,y1⟩:=CA.o wr K.o;have B:=zaa (zab BW.o K.o hz);have cl:=yakg ps i k
    have k0:(0:Int)≤(k:Int):=by omega
    clear x0 x1 START
    by_cases hlk:k < ps.length
    ·obtain ⟨b,o,rfl,hbl,hcell⟩:=HZ.o (by omega);obtain ⟨_,_,c2⟩:=hcell k hlk;have d2:=(B.o.cell (p:=⟨b,o+k*3+2,none⟩) hbl).trans c2
     have k1:(k:Int) < (ps.length:Int):=by omega
     obtain ⟨t,HT,t1,LT⟩:∃ t:Int,Hid ((zob ps i (k+1):Int)=(zob ps i k:Int)+t)∧(0≤t∧t≤1)∧Hid (∀ w1:World,Calls Tryz.prog 181 #[.bool (ps[k].child == (i:Int))] w1 fun e w'=>e=.returned (.int .i64 t)∧w'=w1):=by
      cases q:(ps[k].child == (i:Int))
      ·refine ⟨0,zaa (by rw[zku hlk,q];simp),by omega,fun w1=>?_⟩;exact yacz w1
      ·refine ⟨1,zaa (by rw[zku hlk,q];simp),by omega,fun w1=>?_⟩;exact yadn w1
     clear hcell c2;generalize ps[k].child=z at *
     have cc0:(0:Int)≤(zob ps i k:Int)∧(zob ps i k:Int)≤1048576:=by omega
     generalize (zob ps i k:Int)=cc at *;go_wp2_with (go_at_call 181;refine (LT.o _).mono ?_;rintro e w' ⟨rfl,hw'⟩;subst w')
     go_roundw
     case rel=>exact ⟨k+1,by omega,by go_num,by rw[HT.o,Int.add_assoc],K⟩
     case measure=>simp[intOf];omega
    ·obtain rfl:k=ps.length:=by omega
     obtain ⟨b,o,rfl,hbl,hcell⟩:=HW.o (by omega);obtain ⟨c0,_,c2,_⟩:=hcell i hlt;have d0:=(B.o.cell (p:=⟨b,o+i*11,none⟩) hbl).trans c0;have d2:=(B.o.cell (p:=⟨b,o+i*11+2,none⟩) hbl).trans c2;have EL:=zaa (show zlx ps i ws[i]=(decide (b0+(zob ps i ps.length:Int)=ws[i].links) && (decide (¬ ws[i].kind=2) || zgw ps 16 i)) by unfold zlx;rw[HB.o]);have NO:=zaa (fun e=>yaes (ps:=ps) hlt e)
     have YES:=zaa (fun (e:zlx ps i ws[i]=true) j (h:j < ws.length) (a:j < i+1)=>show zlx ps j ws[j]=true by
      by_cases q:j=i
      ·subst q;exact e
      ·exact J.o.2 j h (by omega))
     clear hcell c0 c2 J HB LB
     have cc0:(0:Int)≤(zob ps i ps.length:Int)∧(zob ps i ps.length:Int)≤1048576:=by omega
     generalize (zob ps i ps.length:Int)=cc at *;generalize zlx ps i ws[i]=lb at EL NO YES;generalize ws[i].links=zl at *;generalize ws[i].kind=zk at *
     by_cases q:b0+cc=zl
     ·by_cases r:zk=2
      ·subst r
       cases hh:zgw ps 16 i with
       | true =>
        have E:=zaa (YES.o (by rw[EL.o,decide_eq_true q,hh];rfl));have HH:=zaa hh;have R:=zaa (HR.o.below B.o)
        have q1:(b0+cc != zl)=false:=by rw[q];simp
        clear hh EL NO YES q;go_wp2_with fail;refine (LH.o _ _ R.o).mono ?_;rw[HH.o];rintro e w1 ⟨rfl,hb1⟩;have B1:=zaa (zab K.o hb1 K.o.size);clear hb1;go_wp2
        go_roundw
        case rel=>exact ⟨i+1,by omega,by go_num,B1.o,E.o⟩
        case measure=>simp[intOf];omega
       | false =>
        have E:=zaa (NO.o (by rw[EL.o,hh];simp));have HH:=zaa hh;have R:=zaa (HR.o.below B.o)
        have q1:(b0+cc != zl)=false:=by rw[q];simp
        clear hh EL NO YES q;go_wp2_with fail;refine (LH.o _ _ R.o).mono ?_;rw[HH.o];rintro e w1 ⟨rfl,hb1⟩;have B1:=zaa (zab B.o hb1 B.o.size);clear hb1;go_wp2;go_ret;exact ⟨zae E.o.symm,B1.o⟩
      ·have E:Hid (Below W.heap.size W wr∧∀ j (h:j < ws.length),j < i+1→zlx ps j ws[j]=true):=⟨K.o,YES.o (by rw[EL.o,decide_eq_true q,decide_eq_true r];rfl)⟩
       have r1:(zk == 2)=false:=beq_eq_false_iff_ne.2 r
       have q1:(b0+cc != zl)=false:=by rw[q];simp
       clear EL NO YES q r;go_wp2
       go_roundw
       case rel=>exact ⟨i+1,by omega,by go_num,E⟩
       case measure=>simp[intOf];omega
     ·have q1:(b0+cc != zl)=true:=by rw[bne_iff_ne];exact q
      have E:=zaa (NO.o (by rw[EL.o,decide_eq_false q];rfl));clear q EL NO YES;go_wp2;go_ret;exact ⟨zae E.o.symm,B.o⟩
  ·obtain rfl:i=ws.length:=by omega
   have E:=zaa (show zhy ws ps=true from decide_eq_true (fun j h=>J.o.2 j h h));go_wp2;go_ret;exact ⟨zae E.o.symm,zab BW.o J.o.1 hz⟩
end Go.Proofs.YtahiphgmhndgaaaGreatDoor
