/- Several texts laid together: ImK, PiG, PiH, TrA. -/
import Derived.Test.YtbohndgbfbfldaaGreatDoorZAG
import Derived.Test.YtbohndgbfbfldaaGreatDoorZAI
import Derived.Test.YtbohndgbfbfldaaGreatDoorZAJ
set_option maxRecDepth 100000
set_option maxHeartbeats 4000000
namespace Go.Proofs.YtbohndgbfbfldaaGreatDoor
open Go.RowKit
def zqx (zs:List Int) (n:Int):Bool:=zs.contains n
theorem yadi {zs:List Int} {n:Int} (h:∀ j (h:j < zs.length),¬ zs[j]=n):zqx zs n=false:=by
 unfold zqx;rw[List.contains_eq_any_beq,List.any_eq_false];intro z hz;obtain ⟨j,hj,rfl⟩:=List.getElem_of_mem hz;simp only[beq_iff_eq]
 exact fun e=>h j hj e.symm
def upD (ds:List Den) (c:Int):Int:=((ds.find? fun x=>x.child == c).map Den.dir).getD (-1)
def zpg (ds:List Den):Nat→Int→Bool
 | 0,_=>false
 | n+1,d=>if d=0 then true else if upD ds d < 0 then false else zpg ds n (upD ds d)
theorem yael {zs:List Int} {n:Int} {k:Nat} (hk:k < zs.length) (h:n=zs[k]):zqx zs n=true:=by
 unfold zqx;rw[List.contains_eq_any_beq,List.any_eq_true];exact ⟨zs[k],List.getElem_mem _,by rw[h];simp⟩
theorem zml (v:Value) (zs:List Int) (n:Int) (w:World) (h:RdI w v zs) (hn:zs.length≤1048576) :
  Calls Tryz.prog 208 #[v,.int .i64 n] w fun e w'=>∃ r:Int,e=.returned (.int .i64 r)∧(decide (0≤r)=zqx zs n)∧w'=w:=by
 obtain ⟨aZ,cZ,rfl,_,hcZ⟩:=h.shape;have HZ:=zaa hcZ;clear h hcZ;go_enter Tryz.func208,Tryz.ntmps208;go_wp2
 go_loop [5,8] (fun _ i=>∃ k:Nat,k≤zs.length∧i=.int .i64 k∧Hid (∀ j (h:j < zs.length),j < k→¬ zs[j]=n)) (fun _ i=>zs.length - (intOf i).toNat)
 case atStart=>exact ⟨0,by omega,rfl,fun j h a=>absurd a (by omega)⟩
 case round =>
  obtain ⟨k,hk,rfl,H⟩:=hrel
  by_cases hlt:k < zs.length
  ·obtain ⟨b,o,rfl,hbl,hcell⟩:=HZ.o (by omega);have hck:=hcell k hlt;clear hcell
   by_cases q:n=zs[k]
   ·have q':(n == zs[k])=true:=by rw[beq_iff_eq];exact q
    have E:=zaa (yael hlt q);clear q H;generalize zs[k]=z at *;go_wp2;go_ret;exact ⟨_,rfl,by rw[E.o];exact decide_eq_true (by omega),rfl⟩
   ·have q':(n == zs[k])=false:=by rw[beq_eq_false_iff_ne];exact q
    have H':Hid (∀ j (h:j < zs.length),j < k+1→¬ zs[j]=n):=fun j h a=>by
     by_cases e:j=k
     ·subst e;exact fun e=>q e.symm
     ·exact H.o j h (by omega)
    clear q H;generalize zs[k]=z at hck q';go_wp2
    go_round
    case rel=>exact ⟨k+1,by omega,by go_num,H'⟩
    case measure=>simp[intOf];omega
  ·have E:=zaa (yadi (fun j h=>H.o j h (by omega)));clear H;go_wp2;go_ret;exact ⟨_,rfl,by rw[E.o];rfl,rfl⟩
theorem zeb (v:Value) (zs:List Int) (n:Int) (w:World) (h:RdI w v zs) (hn:zs.length≤1048576) :
  Calls Tryz.prog 188 #[v,.int .i64 n] w fun e w'=>e=.returned (.bool (zqx zs n))∧w'=w:=by
 have HZ:=zaa h;obtain ⟨aZ,cZ,rfl,_,_⟩:=h.shape;clear h;go_enter Tryz.func188,Tryz.ntmps188;go_wp2_with fail;refine (zml _ zs n _ HZ.o hn).mono ?_;rintro e w' ⟨r,rfl,hr,hw'⟩;subst w';have R:=zaa hr;clear hr;go_wp2;go_ret;exact ⟨zad R.o,rfl⟩
theorem Rd.take {w:World} {size:Nat} {ao:Option Addr} {n c:Nat} {xs:List Value} {m:Nat} (h:Rd w size (.slice ao n c) n xs) (hm:m≤n):Rd w size (.slice ao m c) m (xs.take (m*size)):=by
 obtain ⟨h1,ao',cap,e,h2,h3⟩:=h
 cases e
 have hms:m*size≤n*size:=Nat.mul_le_mul_right _ hm;refine ⟨by rw[List.length_take,h1];omega,ao,c,rfl,⟨by omega,h2.2⟩,fun hp=>?_⟩;obtain ⟨b,o,e1,e2,e3⟩:=h3 (by omega);exact ⟨b,o,e1,e2,fun j hj=>by rw[e3 j (by omega),List.getElem?_take,if_pos hj]⟩
theorem RdI.take {w:World} {ao:Option Addr} {c:Nat} {zs:List Int} {m:Nat} (h:RdI w (.slice ao zs.length c) zs) (hm:m≤zs.length):RdI w (.slice ao m c) (zs.take m):=by
 have:=Rd.take h hm;unfold RdI
 have e:(zs.take m).length=m:=by rw[List.length_take];omega
 have e2:zbk (zs.take m)=(zbk zs).take (m*1):=by rw[Nat.mul_one];simp[zbk,List.map_take]
 rw[e,e2];exact this
def zfk (zs:List Int):Bool:=decide (∀ k (h:k < zs.length),zqx (zs.take k) zs[k]=false)
theorem zys {zs:List Int} (h:∀ k (h:k < zs.length),zqx (zs.take k) zs[k]=false):zfk zs=true:=decide_eq_true h
theorem ztu {zs:List Int} {k:Nat} (hk:k < zs.length) (h:zqx (zs.take k) zs[k]=true):zfk zs=false:=decide_eq_false (fun x=>by have:=x k hk;rw[h] at this;cases this)
theorem zgt (v:Value) (zs:List Int) (w:World) (h:RdI w v zs) (hn:zs.length≤1048576) :
  Calls Tryz.prog 149 #[v] w fun e w'=>e=.returned (.bool (zfk zs))∧w'=w:=by
 have HR:=zaa h;obtain ⟨aZ,cZ,rfl,hcap,hcZ⟩:=h.shape;have HZ:=zaa hcZ;clear h hcZ;go_enter Tryz.func149,Tryz.ntmps149;go_wp2
 go_loop [3,4,7] (fun _ _ i=>∃ k:Nat,k≤zs.length∧i=.int .i64 k∧Hid (∀ j (h:j < zs.length),j < k→zqx (zs.take j) zs[j]=false)) (fun _ _ i=>zs.length - (intOf i).toNat)
 case atStart=>exact ⟨0,by omega,rfl,fun j h a=>absurd a (by omega)⟩
 case round =>
  obtain ⟨k,hk,rfl,H⟩:=hrel
  by_cases hlt:k < zs.length
  ·obtain ⟨b,o,rfl,hbl,hcell⟩:=HZ.o (by omega);have hck:=hcell k hlt;have RT:=zaa (RdI.take HR.o hk);have LT:=zaa (show (zs.take k).length≤1048576 by rw[List.length_take];omega);clear hcell
   cases q:zqx (zs.take k) zs[k] with
   | false =>
    have H':Hid (∀ j (h:j < zs.length),j < k+1→zqx (zs.take j) zs[j]=false):=fun j h a=>by
     by_cases e:j=k
     ·subst e;exact q
     ·exact H.o j h (by omega)
    have Q:=zaa q;clear q H;generalize zs[k]=z at hck Q;go_wp2_with (go_at_call 188;refine (zeb _ (zs.take k) z _ RT.o LT.o).mono ?_;rw[Q.o];rintro e w' ⟨rfl,rfl⟩)
    go_round
    case rel=>exact ⟨k+1,by omega,by go_num,H'⟩
    case measure=>simp[intOf];omega
   | true =>
    have E:=zaa (ztu hlt q);have Q:=zaa q;clear q H;generalize zs[k]=z at hck Q;go_wp2_with (go_at_call 188;refine (zeb _ (zs.take k) z _ RT.o LT.o).mono ?_;rw[Q.o];rintro e w' ⟨rfl,rfl⟩);go_ret;exact ⟨zad E.o.symm,rfl⟩
  ·have E:=zaa (zys (fun j h=>H.o j h (by omega)));clear H;go_wp2;go_ret;exact ⟨zad E.o.symm,rfl⟩
structure InI (W w:World) (vL:Value) (zs:List Int):Prop where
 l:w.ownsRow W.heap.size 3 1 vL zs.length (zbk zs)
 b:Below W.heap.size W w
theorem InI.z {W w:World} {vL:Value} {zs:List Int} (h:InI W w vL zs):W.heap.size≤w.heap.size:=h.b.size
theorem InI.below {W w w':World} {vL:Value} {zs:List Int} (h:InI W w vL zs) (hb:Below w.heap.size w w'):InI W w' vL zs :=
 ⟨((zai h.l).below hb (Nat.le_refl _)).1,zab h.b hb h.z⟩
theorem InI.grow {W w w':World} {vL v':Value} {zs:List Int} (h:InI W w vL zs) (x:Int) (ho:w'.ownsRow W.heap.size 3 1 v' (zs.length+1) (zbk zs ++ [.int .i64 x])) (hg:w.grownBy w' vL.ownBlock):InI W w' v' (zs ++ [x]) :=
 ⟨by rw[zvx,List.length_append];exact ho,h.b.grown hg h.z (fun q hq=>(h.l.lt q hq).1)⟩
theorem zqa (x:Int):∀ u∈[Value.int .i64 x],u.oneCell'=true:=by
 intro u hu;rw[List.mem_singleton.1 hu];rfl
def zso (zs:List Int):List Int:=zs.filter fun z=>z != 0
def zbh (ws:List Ino):List Int:=ws.flatMap fun x=>zso x.map
def zoh (ws:List Ino) (k:Nat) (j:Nat):List Int:=zbh (ws.take k) ++ zso (((ws[k]?).map Ino.map).getD [] |>.take j)
theorem zup (ws:List Ino) (k:Nat):zoh ws k 0=zbh (ws.take k):=by simp[zoh,zso]
theorem ztl {ws:List Ino} {k:Nat} (hk:k < ws.length) {j:Nat} (hj:j < 8):zoh ws k (j+1)=if ws[k].map.getD j 0=0 then zoh ws k j else zoh ws k j ++ [ws[k].map.getD j 0]:=by
 have hl:j < ws[k].map.length:=hj
 have e:ws[k].map.getD j 0=ws[k].map[j]:=by rw[List.getD_eq_getElem?_getD,List.getElem?_eq_getElem hl];rfl
 unfold zoh zso;rw[List.getElem?_eq_getElem hk];simp only[Option.map_some,Option.getD_some];rw[List.take_succ_eq_append_getElem hl,List.filter_append,e]
 by_cases h:ws[k].map[j]=0
 ·rw[if_pos h,h];simp
 ·rw[if_neg h];simp[h]
theorem zuu {ws:List Ino} {k:Nat} (hk:k < ws.length):zoh ws k 8=zbh (ws.take (k+1)):=by
 unfold zoh zbh;rw[List.getElem?_eq_getElem hk,List.take_succ_eq_append_getElem hk,List.flatMap_append];simp[Ino.map]
theorem znr (zs:List Int):(zso zs).length≤zs.length:=List.length_filter_le _ _
theorem zjy (ws:List Ino):(zbh ws).length≤8*ws.length:=by
 induction ws with
 | nil=>simp[zbh]
 | cons x ws ih =>
  have h1:=znr x.map;have h2:x.map.length=8:=rfl;unfold zbh at *;rw[List.flatMap_cons,List.length_append,List.length_cons];omega
theorem yaag (ws:List Ino) (k j:Nat) (hk:k < ws.length) (hj:j≤8):(zoh ws k j).length≤8*ws.length:=by
 have h1:=zjy (ws.take k);have h2:=znr (((ws[k]?).map Ino.map).getD [] |>.take j)
 have h3:(((ws[k]?).map Ino.map).getD [] |>.take j).length≤j:=by rw[List.length_take];omega
 unfold zoh;rw[List.length_append];rw[List.length_take] at h1;omega
theorem idx8 (x:Ino) (j:Nat) (hj:j < 8) (w:World):(Instr.index 147 (.agg #[.int .i64 x.m0,.int .i64 x.m1,.int .i64 x.m2,.int .i64 x.m3,.int .i64 x.m4,.int .i64 x.m5,.int .i64 x.m6,.int .i64 x.m7]) (.int .i64 (j:Int))).run Tryz.prog w=.ok (.int .i64 (x.map.getD j 0)) w:=by
 rcases (show j=0∨j=1∨j=2∨j=3∨j=4∨j=5∨j=6∨j=7 by omega) with rfl | rfl | rfl | rfl | rfl | rfl | rfl | rfl <;> simp[Instr.index,run_underlying Tryz.underlying147,asIntOf,Ino.map,go_sem]
theorem zfz (v:Value) (ws:List Ino) (w:World) (h:RdN w v ws) (hn:ws.length≤4096) :
  Calls Tryz.prog 150 #[v] w fun e w'=>∃ v',e=.returned v'∧Row w' 3 1 w.heap.size w'.heap.size v' (zbh ws).length (zbk (zbh ws))∧Below w.heap.size w w':=by
 obtain ⟨aW,cW,rfl,_,hcW⟩:=h.shape;have HW:=zaa hcW;clear h hcW;go_enter Tryz.func150,Tryz.ntmps150;go_wp2
 go_loopw [3,5,7,10] (fun vL _ _ i wr=>∃ k:Nat,k≤ws.length∧i=.int .i64 k∧Hid (InI w wr vL (zbh (ws.take k)))∧w.heap.size≤wr.heap.size) (fun _ _ _ i _=>ws.length - (intOf i).toNat)
 case atStart=>exact ⟨0,by omega,rfl,⟨World.ownsRow_nil _ _ _ _,Below.refl _ _⟩,Nat.le_refl _⟩
 case round =>
  obtain ⟨k,hk,rfl,I,hz⟩:=hrel
  by_cases hlt:k < ws.length
  ·obtain ⟨b,o,rfl,hbl,hcell⟩:=HW.o (by omega);obtain ⟨a0,a1,a2,a3,a4,a5,a6,a7,a8,a9,a10⟩:=hcell k hlt;have d0:=(I.o.b.cell (p:=⟨b,o+k*11,none⟩) hbl).trans a0;have d1:=(I.o.b.cell (p:=⟨b,o+k*11+1,none⟩) hbl).trans a1;have d2:=(I.o.b.cell (p:=⟨b,o+k*11+2,none⟩) hbl).trans a2;have d3:=(I.o.b.cell (p:=⟨b,o+k*11+3,none⟩) hbl).trans a3;have d4:=(I.o.b.cell (p:=⟨b,o+k*11+4,none⟩) hbl).trans a4;have d5:=(I.o.b.cell (p:=⟨b,o+k*11+5,none⟩) hbl).trans a5;have d6:=(I.o.b.cell (p:=⟨b,o+k*11+6,none⟩) hbl).trans a6;have d7:=(I.o.b.cell (p:=⟨b,o+k*11+7,none⟩) hbl).trans a7;have d8:=(I.o.b.cell (p:=⟨b,o+k*11+8,none⟩) hbl).trans a8;have d9:=(I.o.b.cell (p:=⟨b,o+k*11+9,none⟩) hbl).trans a9;have d10:=(I.o.b.cell (p:=⟨b,o+k*11+10,none⟩) hbl).trans a10
   have k0:(0:Int)≤(k:Int):=by omega
   have k1:(k:Int) < (ws.length:Int):=by omega
   have MZ:=zaa (zup ws k);have MF:=zaa (zuu hlt);have MS:=zaa (fun j (hj:j < 8)=>ztl hlt hj);have ML:=zaa (fun j (hj:j≤8)=>yaag ws k j hlt hj);have HM:=zaa (fun j (hj:j < 8)=>ws[k].at j hj);clear a0 a1 a2 a3 a4 a5 a6 a7 a8 a9 a10 hcell;generalize ws[k]=x at *
   have START:Hid (InI w (wr.alloc (.cells x.cs.toArray 149)) u3 (zoh ws k 0)):=by
    have:=I.o.below ((Below.refl wr.heap.size wr).alloc (Nat.le_refl _) (.cells x.cs.toArray 149));unfold Hid;rw[MZ.o];exact this
   unfold Ino.cs at START;have hz0:=START.o.z;clear I;go_wp2
   go_loopw [3,7,16] (fun vL _ i wq=>∃ j:Nat,j≤8∧i=.int .i64 j∧Hid (InI w wq vL (zoh ws k j))∧w.heap.size≤wq.heap.size) (fun _ _ i _=>8 - (intOf i).toNat)
   case atStart=>exact ⟨0,by omega,rfl,START,hz0⟩
   case round =>
    obtain ⟨j,hj,rfl,J,hzj⟩:=hrel;clear START hz0 d0 d1 d2 d3 d4 d5 d6 d7 d8 d9 d10
    have j0:(0:Int)≤(j:Int):=by omega
    by_cases hlj:j < 8
    ·have j1:(j:Int) < 8:=by omega
     have ix:=idx8 x j hlj;have MJ:=zaa (MS.o j hlj);have hlen:=ML.o j (by omega);generalize x.map.getD j 0=z at ix MJ
     by_cases q:z=0
     ·have q':(z != 0)=false:=by rw[q];rfl
      have G:Hid (InI w wr u3 (zoh ws k (j+1))):=by unfold Hid;rw[MJ.o,if_pos q];exact J.o
      clear q J MJ;go_wp2
      go_roundw
      case rel=>exact ⟨j+1,by omega,by go_num,G,hzj⟩
      case measure=>simp[intOf];omega
     ·have q':(z != 0)=true:=by rw[bne_iff_ne];exact q
      have JB:Hid (InI w (wr.alloc (.cells #[.int .i64 z] 3)) u3 (zoh ws k j)):=J.o.below ((Below.refl _ _).alloc (Nat.le_refl _) _);have RB:=zaa (zuk wr z);have hzb:=JB.o.z
      have MN:Hid (zoh ws k (j+1)=zoh ws k j ++ [z]):=by unfold Hid;rw[MJ.o,if_neg q]
      clear q J MJ;go_wp2_with (at_builtin;refine zaq _ rfl (.tmp 21) (.tmp 23) 22 rfl w.heap.size 3 (.int .i64 0) 1 8 Tryz.underlying22 zmd rfl (by decide) _ _ _ rfl JB.o.l _ 1 _ rfl RB.o (zqa _) (by simp[maxLen];omega) (by omega) (by omega) ?_);intro vN wN hownN hgrN;have G:=zaa (JB.o.grow z hownN hgrN);rw[← MN.o] at G;have hzN:=G.o.z;clear hownN hgrN JB RB;go_wp2
      go_roundw
      case rel=>exact ⟨j+1,by omega,by go_num,G,hzN⟩
      case measure=>simp[intOf];omega
    ·obtain rfl:j=8:=by omega
     have G:Hid (InI w wr u3 (zbh (ws.take (k+1)))):=by unfold Hid;rw[← MF.o];exact J.o
     clear J;go_wp2
     go_roundw
     case rel=>exact ⟨k+1,by omega,by go_num,G,hzj⟩
     case measure=>simp[intOf];omega
  ·obtain rfl:k=ws.length:=by omega
   have E:=zaa (show zbh (ws.take ws.length)=zbh ws by rw[List.take_length]);rw[E.o] at I;obtain ⟨-,aL,cL,hvL,-⟩:=(zai I.o.l).rd;subst hvL;go_wp2;go_ret;exact ⟨_,rfl,zai I.o.l,I.o.b⟩
def zbt (n:Nat):List Int:=List.replicate n 1
theorem zwa (n:Nat):zbt (n+1)=zbt n ++ [1]:=by unfold zbt;rw[List.replicate_succ',]
theorem zlj (n:Nat):(zbt n).length=n:=by simp[zbt]
theorem zru (w:World):Calls Tryz.prog 98 #[] w fun e w'=>∃ v',e=.returned v'∧Row w' 3 1 w.heap.size w'.heap.size v' (zbt 128).length (zbk (zbt 128))∧Below w.heap.size w w':=by
 have START:Hid (InI w (w.alloc (.cells #[] 3)) (.slice (some ⟨w.heap.size,0,none⟩) 0 0) (zbt 0)):=⟨World.ownsRow_lit w #[] 0 (Nat.le_refl _) (by simp[maxLen]) (by simp),(Below.refl _ _).alloc (Nat.le_refl _) _⟩
 go_enter Tryz.func98,Tryz.ntmps98;go_wp2
 go_loopw [1,2] (fun vL i wr=>∃ m:Nat,m≤128∧i=.int .i64 (m:Int)∧Hid (InI w wr vL (zbt m))) (fun _ i _=>128 - (intOf i).toNat)
 case atStart=>exact ⟨0,by omega,rfl,START⟩
 case round =>
  obtain ⟨m,hm,rfl,J⟩:=hrel;clear START
  have m0:(0:Int)≤(m:Int):=by omega
  by_cases hlt:m < 128
  ·have m1:(m:Int) < 128:=by omega
   have EM:=zaa (zwa m)
   have l2:(zbt m).length≤128:=by rw[zlj];omega
   have JB:Hid (InI w (wr.alloc (.cells #[.int .i64 1] 3)) u1 (zbt m)):=J.o.below ((Below.refl _ _).alloc (Nat.le_refl _) _);have RB:=zaa (zuk wr 1);have hzb:=JB.o.z;clear J;go_wp2_with (at_builtin;refine zaq _ rfl (.tmp 8) (.tmp 9) 22 rfl w.heap.size 3 (.int .i64 0) 1 8 Tryz.underlying22 zmd rfl (by decide) _ _ _ rfl JB.o.l _ 1 _ rfl RB.o (zqa _) (by first | omega | (simp[maxLen];omega)) (by first | omega | (simp;omega)) hzb ?_);intro vN wN hownN hgrN;have G:=zaa (JB.o.grow 1 hownN hgrN);rw[← EM.o] at G;clear hownN hgrN JB RB;go_wp2
   go_roundw
   case rel=>exact ⟨m+1,by omega,by go_num,G⟩
   case measure=>simp[intOf];omega
  ·obtain rfl:m=128:=by omega
   obtain ⟨-,aN,cN,hvN,-⟩:=(zai J.o.l).rd;subst hvN;go_wp2;go_ret;exact ⟨_,rfl,zai J.o.l,J.o.b⟩
end Go.Proofs.YtbohndgbfbfldaaGreatDoor
