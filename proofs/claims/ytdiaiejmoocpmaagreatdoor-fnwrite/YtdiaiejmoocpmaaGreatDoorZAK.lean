import Derived.Test.YtdiaiejmoocpmaaGreatDoorZAJ
set_option maxRecDepth 100000
set_option maxHeartbeats 4000000
namespace Go.Proofs.YtdiaiejmoocpmaaGreatDoor
open Go.RowKit
def lkI(ws:List Ino)(ps:List Den)(s:ByteArray):Int×Int:=if spB s=true then wk ws ps 0 (spL s) else(0,12)
def lkR(ws:List Ino)(ps:List Den)(s:ByteArray):Int×Int:=if 65536<s.size then(0,2)else if zck ws ps=true then lkI ws ps s else(0,1)
def paN(ws:List Ino)(ps:List Den)(xs:List ByteArray)(x:ByteArray):Int×ByteArray×Int:=if (wk ws ps 0 xs).2=0 then(if zal ws (wk ws ps 0 xs).1=2 then((wk ws ps 0 xs).1,x,0) else(0,⟨#[]⟩,10)) else(0,⟨#[]⟩,(wk ws ps 0 xs).2)
def paL(ws:List Ino)(ps:List Den)(ns:List ByteArray):Int×ByteArray×Int:=if ns=[] then(0,⟨#[]⟩,19)else paN ws ps ns.dropLast (ns.getLastD ⟨#[]⟩)
def paI(ws:List Ino)(ps:List Den)(s:ByteArray):Int×ByteArray×Int:=if spB s=true then paL ws ps (spL s) else(0,⟨#[]⟩,12)
def paR(ws:List Ino)(ps:List Den)(s:ByteArray):Int×ByteArray×Int:=if 65536<s.size then(0,⟨#[]⟩,2)else if zck ws ps=true then paI ws ps s else(0,⟨#[]⟩,1)
theorem yagh(ws:List Ino)(ps:List Den)(xs:List ByteArray)(x:ByteArray):paL ws ps (xs++[x])=paN ws ps xs x:=by
 unfold paL;rw[if_neg (by simp),List.dropLast_concat]
 congr 1
 simp
theorem yaow{ns:List ByteArray}(h:¬ ns=[]):∃ xs x,ns=xs++[x]:=⟨ns.dropLast,ns.getLast h,(List.dropLast_concat_getLast h).symm⟩
theorem zga(v:Value)(ws:List Ino)(ps:List Den)(s:ByteArray)(w:World)(h:RdIm w v ws ps)(hi:zck ws ps=true)(hs:s.size<=65536) :
  zC 117 #[v,.string s] w fun e w'=>e=.returned (.tuple #[.I (lkI ws ps s).1,.I (lkI ws ps s).2])/\zB w w':=by
 have HR:=zaa h;have LS:=zaa (fun w1=>zop s w1 hs);have LW:=zaa (fun vL w1 h hL=>zrp v vL ws ps (spL s) w1 h hL hi (by have:=@yact s;omega));have EL:=zaa (show lkI ws ps s=if spB s=true then wk ws ps 0 (spL s) else(0,12)from rfl);obtain⟨vW,vP,rfl,h1,h2⟩:=h;obtain⟨aW,cW,rfl,_,_⟩:=h1.shape;obtain⟨aP,cP,rfl,_,_⟩:=h2.shape;clear h1 h2 hi
 have CA:Hid (∀ w',Below (w.alloc (.cells #[.slice aW ws.length cW,.slice aP ps.length cP] 67)).heap.size (w.alloc (.cells #[.slice aW ws.length cW,.slice aP ps.length cP] 67)) w'->w'.cell? ⟨w.heap.size,0,none⟩=some (.slice aW ws.length cW)/\w'.cell? ⟨w.heap.size,1,none⟩=some (.slice aP ps.length cP)):=fun w' hb=>by
  have:w'.heap[w.heap.size]?=some (.cells #[.slice aW ws.length cW,.slice aP ps.length cP] 67 (0,0)):=(hb.block _ (by simp)).trans (zaf rfl);exact⟨(zac this).1,(zac this).2.1⟩
 have BW:Hid (zB w (w.alloc (.cells #[.slice aW ws.length cW,.slice aP ps.length cP] 67))):=zR.alloc zL _;generalize lkI ws ps s=res at *;generalize wk ws ps 0 (spL s)=rw0 at *
 cases c:spB s with
 | false =>
  rw[c]at LS EL;obtain rfl:=EL.o;clear EL LW;go_enter Tryz.func117,Tryz.ntmps117;go_wp2_with fail;refine(LS.o _).mono ?_;rintro e w1 ⟨v1,rfl,hr1,hb1⟩;have B1:=zaa (zab BW.o hb1 BW.o.size);clear hr1 hb1;go_wp2;go_ret2;exact⟨rfl,B1.o⟩
 | true =>
  rw[c]at LS EL;obtain rfl:res=rw0:=EL.o;clear EL;go_enter Tryz.func117,Tryz.ntmps117;go_wp2_with fail;refine(LS.o _).mono ?_;rintro e w1 ⟨v1,rfl,hr1,hb1⟩;have B1:=zaa (zab BW.o hb1 BW.o.size);obtain⟨x0,x1⟩:=CA.o _ hb1;have R1:=zaa hr1;clear hr1 hb1;go_wp2_with fail;refine(LW.o _ _ (HR.o.below B1.o) R1.o).mono ?_;rintro e w2 ⟨rfl,hb2⟩;have B2:=zaa (zab B1.o hb2 B1.o.size);clear hb2 x0 x1;go_wp2;go_ret2;exact⟨rfl,B2.o⟩
def zbg(p:Nat->Bool)(n:Nat):Int:=match (List.range n).find? p with | some i=>(i:Int) | none=>-1
theorem zpy{p:Nat->Bool}{n k:Nat}(hk:k<n)(h:∀ j,j<k->p j=false)(e:p k=true):zbg p n=(k:Int):=by
 have:(List.range n).find? p=some k:=List.find?_range_eq_some.2 ⟨e,List.mem_range.2 hk,fun j hj=>by rw[h j hj];rfl⟩;unfold zbg;rw[this]
theorem zjw{p:Nat->Bool}{n:Nat}(h:∀ j,j<n->p j=false):zbg p n=-1:=by
 have:(List.range n).find? p=none:=List.find?_eq_none.2 (fun j hj=>by rw[h j (List.mem_range.1 hj)];decide);unfold zbg;rw[this]
theorem zcs(p:Nat->Bool)(n:Nat):-1<=zbg p n/\zbg p n<n:=by
 unfold zbg
 split
 ·rename_i i h;have:=List.mem_range.1 (List.mem_of_find?_eq_some h);omega
 ·omega
def ztk(r:Int):Int:=if r<0 then 0 else r
def zsn(r:Int):Int:=if r<0 then 7 else 0
def ubC(b:Bool)(t:Int):Int:=if b=true then(if t=1\/t=2 then 0 else 4)else 1
def ubL(b:Bool)(ms:List Int)(t:Int):List Int:=if b=true/\(t=1\/t=2)then zaw ms t else[]
theorem zmp{ws:List Ino}{ps:List Den}(h:zck ws ps=true):ws.length=16/\ps.length=24/\zal ws 0=2/\zyp ws=true:=by
 unfold zck at h;simp only[Bool.and_eq_true,decide_eq_true_eq,beq_iff_eq]at h;exact⟨h.1,h.2.1,h.2.2.1,h.2.2.2.1⟩
theorem yajn{l:List Int}{t:Int}{k:Nat}(hk:k<l.length):zaw (l.take (k+1)) t=if l[k]%4=t then zaw (l.take k) t++[l[k]/4]else zaw (l.take k) t:=by
 unfold zaw;rw[List.take_succ_eq_append_getElem hk,List.filter_append,List.map_append]
 by_cases h:l[k]%4=t
 ·rw[if_pos h];simp[h]
 ·rw[if_neg h];simp[h]
theorem zsy(v:Value)(ws:List Ino)(ps:List Den)(t:Int)(w:World)(h:RdIm w v ws ps)(hw:ws.length<=1048576)(hp:ps.length<=1048576)(hT:TS w)(hE:ED w)(hF:FD w)(hr:∀ k (h:k<ws.length),ws[k].R)(hs:∀ k (h:k<ps.length),ps[k].name.size<=maxLen) :
  zC 146 #[v,.I t] w fun e w'=>∃ v',e=.returned (.tuple #[v',.I (ubC (zck ws ps) t)])/\Row w' 3 1 w.heap.size w'.heap.size v' (ubL (zck ws ps) (zao ws) t).length (zcl (ubL (zck ws ps) (zao ws) t))/\zB w w':=by
 have LI:=zaa (fun w1 (hb:zB w w1)=>zgk v ws ps w1 (h.below hb) hw hp (hT.below hb) (hE.below hb) (hF.below hb) hr hs);have T:=zaa hT;obtain⟨vW,vP,rfl,h1,h2⟩:=h;have RW:=zaa h1;obtain⟨aW,cW,rfl,_,_⟩:=h1.shape;obtain⟨aP,cP,rfl,_,_⟩:=h2.shape;have LM:=zaa (fun w1 (hb:zB w w1) (hl:ws.length<=4096)=>zhf (.slice aW ws.length cW) ws w1 (Rd.below RW.o hb) hl);clear h1 h2 hr hs hT hE hF
 have CA:Hid (∀ w',Below (w.alloc (.cells #[.slice aW ws.length cW,.slice aP ps.length cP] 67)).heap.size (w.alloc (.cells #[.slice aW ws.length cW,.slice aP ps.length cP] 67)) w'->w'.cell? ⟨w.heap.size,0,none⟩=some (.slice aW ws.length cW)/\w'.cell? ⟨w.heap.size,1,none⟩=some (.slice aP ps.length cP)):=fun w' hb=>by
  have:w'.heap[w.heap.size]?=some (.cells #[.slice aW ws.length cW,.slice aP ps.length cP] 67 (0,0)):=(hb.block _ (by simp)).trans (zaf rfl);exact⟨(zac this).1,(zac this).2.1⟩
 have BW:Hid (zB w (w.alloc (.cells #[.slice aW ws.length cW,.slice aP ps.length cP] 67))):=zR.alloc zL _;obtain⟨x0,x1⟩:=CA.o _ zR
 cases c1:zck ws ps with
 | false =>
  rw[c1]at LI;rw[show ubC false t=1 from rfl,show ubL false (zao ws) t=[]from if_neg (fun h=>by cases h.1)];clear c1;go_enter Tryz.func146,Tryz.ntmps146;go_wp2_with fail;refine(LI.o _ BW.o).mono ?_;rintro e w1 ⟨rfl,hb1⟩;have B1:=zaa (zab BW.o hb1 BW.o.size);clear hb1 x0 x1;go_wp2;go_ret2;exact⟨_,rfl,Row.nil _ _ _ _ _,B1.o⟩
 | true =>
 rw[c1]at LI
 by_cases c2:t=1\/t=2
 case neg =>
  rw[show ubC true t=4 by unfold ubC;rw[if_pos rfl,if_neg c2],show ubL true (zao ws) t=[]from if_neg (fun h=>c2 h.2)]
  have q1:(t != 1)=true:=by rw[bne_iff_ne];exact fun e=>c2 (.inl e)
  have q2:(t != 2)=true:=by rw[bne_iff_ne];exact fun e=>c2 (.inr e)
  clear c1 c2;go_enter Tryz.func146,Tryz.ntmps146;go_wp2_with fail;refine(LI.o _ BW.o).mono ?_;rintro e w1 ⟨rfl,hb1⟩;have B1:=zaa (zab BW.o hb1 BW.o.size);clear hb1 x0 x1;go_wp2;go_ret2;exact⟨_,rfl,Row.nil _ _ _ _ _,B1.o⟩
 rw[show ubC true t=0 by unfold ubC;rw[if_pos rfl,if_pos c2],show ubL true (zao ws) t=zaw (zao ws) t from if_pos ⟨rfl,c2⟩];have HL:=zaa (show ws.length<=4096 by have:=(zmp c1).1;omega)
 have ml:(zao ws).length<=128:=by have:=zgd ws;have:=(zmp c1).1;omega
 have TI:Hid (∀ k (h:k<(zao ws).length),zeo (zao ws)[k]=true):=fun k hk=>by
  have hm:=List.getElem_mem hk;generalize (zao ws)[k]=e at hm ⊢;unfold zao at hm;obtain⟨x,hx,he⟩:=List.mem_flatMap.1 hm;obtain⟨i,hi,rfl⟩:=List.getElem_of_mem hx;unfold zea at he;exact zsl (zmp c1).2.2.2 i hi e (List.mem_filter.1 he).1
 have qq:((t != 1)=false\/((t != 1)=true/\(t != 2)=false)):=by rcases c2 with rfl|rfl<;>simp
 have TB:-10<=t/\t<=10:=by omega
 clear c1 c2;generalize zao ws=ms at *
 rcases qq with q1 | ⟨q1,q2⟩
 all_goals
  go_enter Tryz.func146,Tryz.ntmps146;go_wp2_with fail;refine(LI.o _ BW.o).mono ?_;rintro e w1 ⟨rfl,hb1⟩;have B1:=zaa (zab BW.o hb1 BW.o.size);clear x0 x1;obtain⟨x0,x1⟩:=CA.o _ hb1;clear hb1;go_wp2_with fail;refine(LM.o _ B1.o HL.o).mono ?_;rintro e w2 ⟨v2,rfl,hr2,hb2⟩;obtain⟨-,aM,cM,hvM,-⟩:=hr2.rd;subst hvM;have R2:Hid (RdI w2 (.slice aM ms.length cM) ms):=hr2.rd;have B2:=zaa (zab B1.o hb2 B1.o.size);have hz2:w.heap.size<=w2.heap.size:=B2.o.size;obtain⟨aZ,cZ,eZ,_,hcZ⟩:=R2.o.shape;have HZ:=zaa hcZ
  obtain⟨rfl,rfl⟩:aZ=aM/\cZ=cM:=by cases eZ;exact⟨rfl,rfl⟩
  clear eZ hcZ hr2 hb2 x0 x1;go_wp2
  go_loopw [6,8,9,10,11,25] (fun vL _ _ _ _ i wr=>∃ k:Nat,k<=ms.length/\i=.I k/\Hid (InI w2 wr vL (zaw (ms.take k) t))/\w2.heap.size<=wr.heap.size) (fun _ _ _ _ _ i _=>ms.length-(intOf i).toNat)
  case atStart=>exact⟨0,by omega,rfl,⟨World.ownsRow_nil _ _ _ _,zR⟩,Nat.le_refl _⟩
  case round =>
   obtain⟨k,hk,rfl,I,hz⟩:=hrel
   by_cases hlt:k<ms.length
   ·obtain⟨b,o,rfl,hbl,hcell⟩:=HZ.o (by omega);have hck:=(I.o.b.cell (p:=⟨b,o+k,none⟩) hbl).trans (hcell k hlt)
    have k0:(0:Int)<=(k:Int):=by omega
    have k1:(k:Int)<(ms.length:Int):=by omega
    have US:=zaa (yajn (t:=t) hlt);have UL:=zha (ms.take k) t;rw[List.length_take]at UL;obtain⟨t1,t2,t3⟩:=zun (TI.o k hlt);have t4:=zcw (TI.o k hlt);have LT:=zaa (fun w3 (hT:TS w3)=>zfi ms[k] w3 hT (by omega) (by omega));rw[t1,t2,t3]at LT;have TW:=zaa (T.o.below (zab B2.o I.o.b hz2));clear hcell t1 t2 t3;generalize ms[k]=z at hck US LT t4
    by_cases r:z%4=t
    ·have r':(z%4 == t)=true:=by rw[beq_iff_eq];exact r
     have JB:Hid (InI w2 (wr.alloc (.cells #[.I (z/4)] 3)) u6 (zaw (ms.take k) t)):=I.o.below (zR.alloc zL _);have RB:=zaa (zxv wr (z/4));have hzb:=JB.o.z
     have MN:Hid (zaw (ms.take (k+1)) t=zaw (ms.take k) t++[z/4]):=by unfold Hid;rw[US.o,if_pos r]
     clear r I US
     go_wp2_with (first
      | (go_at_call 81;refine(LT.o _ TW.o).mono ?_;rintro e w' ⟨rfl,rfl⟩)
      | (at_builtin;refine zae _ rfl (.tmp 38) (.tmp 40) 23 rfl w2.heap.size 3 (.I 0) 1 8 Tryz.underlying23 zim rfl (by decide) _ _ _ rfl JB.o.l _ 1 _ rfl RB.o (zsg _) (by simp[maxLen];omega) (by omega) (by omega) ?_))
     intro vN wN hownN hgrN;have G:=zaa (JB.o.grow (z/4) hownN hgrN);rw[<- MN.o]at G;have hzN:=G.o.z;clear hownN hgrN JB RB;go_wp2
     go_roundw
     case rel=>exact⟨k+1,by omega,by go_num,G,hzN⟩
     case measure=>simp[intOf];omega
    ·have r':(z%4 == t)=false:=by rw[beq_eq_false_iff_ne];exact r
     have G:Hid (InI w2 wr u6 (zaw (ms.take (k+1)) t)):=by unfold Hid;rw[US.o,if_neg r];exact I.o
     clear r I US;go_wp2_with (go_at_call 81;refine(LT.o _ TW.o).mono ?_;rintro e w' ⟨rfl,rfl⟩)
     go_roundw
     case rel=>exact⟨k+1,by omega,by go_num,G,hz⟩
     case measure=>simp[intOf];omega
   ·obtain rfl:k=ms.length:=by omega
    have E:=zaa (show zaw (ms.take ms.length) t=zaw ms t by rw[List.take_length]);rw[E.o]at I;obtain⟨-,aL,cL,hvL,-⟩:=(zad I.o.l).rd;subst hvL;go_wp2;go_ret2;exact⟨_,rfl,(zad I.o.l).wide hz2 zL,zab B2.o I.o.b hz2⟩
def fpV(b:Bool)(r:Int):Int:=if b=true then ztk r else 0
def fpC(b:Bool)(r:Int):Int:=if b=true then zsn r else 1
theorem zho(v:Value)(ws:List Ino)(ps:List Den)(t:Int)(n:Nat)(w:World)(h:RdIm w v ws ps)(hl:ws.length<=4096)(hr:∀ k (h:k<ws.length),∀ z∈ws[k].map,0<=z/\z<=1048576)(hn:n<=1000) :
  zC 67 #[v,.I t,.I (n:Int)] w fun e w'=>e=.returned (.I (zbg (fun i=>!zey (zaw (zao ws) t) (i:Int)) n))/\zB w w':=by
 have HRD:=zaa h;have LU:=zaa (fun w1 h=>zrk v ws ps t w1 h hl hr)
 have UL:(zaw (zao ws) t).length<=1048576:=by have:=zha (zao ws) t;have:=zgd ws;omega
 obtain⟨vW,vP,rfl,h1,h2⟩:=h;obtain⟨aW,cW,rfl,_,hcW⟩:=h1.shape;obtain⟨aP,cP,rfl,_,_⟩:=h2.shape;clear h1 h2 hcW hr
 have CA:Hid (∀ w',Below (w.alloc (.cells #[.slice aW ws.length cW,.slice aP ps.length cP] 67)).heap.size (w.alloc (.cells #[.slice aW ws.length cW,.slice aP ps.length cP] 67)) w'->w'.cell? ⟨w.heap.size,0,none⟩=some (.slice aW ws.length cW)/\w'.cell? ⟨w.heap.size,1,none⟩=some (.slice aP ps.length cP)):=fun w' hb=>by
  have:w'.heap[w.heap.size]?=some (.cells #[.slice aW ws.length cW,.slice aP ps.length cP] 67 (0,0)):=(hb.block _ (by simp)).trans (zaf rfl);exact⟨(zac this).1,(zac this).2.1⟩
 have BW:Hid (zB w (w.alloc (.cells #[.slice aW ws.length cW,.slice aP ps.length cP] 67))):=zR.alloc zL _;obtain⟨x0,x1⟩:=CA.o _ zR;generalize zaw (zao ws) t=zs at *;go_enter Tryz.func67,Tryz.ntmps67;go_wp2_with fail;refine(LU.o _ (HRD.o.below BW.o)).mono ?_;rintro e w1 ⟨v1,rfl,hr1,hb1⟩;obtain⟨-,aL,cL,hvL,-⟩:=hr1.rd;subst hvL;have R1:Hid (RdI w1 (.slice aL zs.length cL) zs):=hr1.rd;have B1:=zaa (zab BW.o hb1 BW.o.size);clear hr1 hb1 x0 x1 CA;go_wp2
 go_loopw [8] (fun i wr=>∃ k:Nat,k<=n/\i=.I k/\wr=w1/\Hid (∀ j,j<k->(!zey zs (j:Int))=false)) (fun i _=>n-(intOf i).toNat)
 case atStart=>exact⟨0,by omega,rfl,rfl,fun j a=>absurd a (by omega)⟩
 case round =>
  obtain⟨k,hk,rfl,rfl,H⟩:=hrel
  have k0:(0:Int)<=(k:Int):=by omega
  by_cases hlt:k<n
  ·have k1:(k:Int)<(n:Int):=by omega
   have LH:=zaa (znz (.slice aL zs.length cL) zs (k:Int) _ R1.o UL)
   cases q:zey zs (k:Int) with
   | true =>
    have H':Hid (∀ j,j<k+1->(!zey zs (j:Int))=false):=fun j a=>by
     by_cases e:j=k
     ·subst e;rw[q];rfl
     ·exact H.o j (by omega)
    rw[q]at LH;clear q H;go_wp2_with (go_at_call 119;refine LH.o.mono ?_;rintro e w' ⟨rfl,rfl⟩)
    go_roundw
    case rel=>exact⟨k+1,by omega,by go_num,trivial,H'⟩
    case measure=>simp[intOf];omega
   | false =>
    have E:=zaa (zpy (p:=fun i=>!zey zs (i:Int)) hlt H.o (by rw[q];rfl));rw[q]at LH;clear q H;go_wp2_with (go_at_call 119;refine LH.o.mono ?_;rintro e w' ⟨rfl,rfl⟩);go_ret;exact⟨zdq E.o.symm,B1.o⟩
  ·have E:=zaa (zjw (p:=fun i=>!zey zs (i:Int)) (n:=n) (fun j hj=>H.o j (by omega)));clear H;go_wp2;go_ret;exact⟨zdq E.o.symm,B1.o⟩
theorem zjh(v:Value)(ws:List Ino)(ps:List Den)(t:Nat)(n:Nat)(w:World)(h:RdIm w v ws ps)(hw:ws.length<=1048576)(hp:ps.length<=1048576)(hT:TS w)(hE:ED w)(hF:FD w)(hr:∀ k (h:k<ws.length),ws[k].R)(hs:∀ k (h:k<ps.length),ps[k].name.size<=maxLen)(ht:(t=1/\n=24)\/(t=2/\n=32)) :
  zC 105 #[v,.I (t:Int)] w fun e w'=>e=.returned (.tuple #[.I (fpV (zck ws ps) (zbg (fun i=>!zey (zaw (zao ws) (t:Int)) (i:Int)) n)),.I (fpC (zck ws ps) (zbg (fun i=>!zey (zaw (zao ws) (t:Int)) (i:Int)) n))])/\zB w w':=by
 have LU:=zaa (fun w1 (hb:zB w w1)=>zsy v ws ps (t:Int) w1 (h.below hb) hw hp (hT.below hb) (hE.below hb) (hF.below hb) hr hs);have T:=zaa hT;obtain⟨vW,vP,rfl,h1,h2⟩:=h;obtain⟨aW,cW,rfl,_,hcW⟩:=h1.shape;obtain⟨aP,cP,rfl,_,_⟩:=h2.shape;clear h1 h2 hr hs hT hE hF hcW
 have CA:Hid (∀ w',Below (w.alloc (.cells #[.slice aW ws.length cW,.slice aP ps.length cP] 67)).heap.size (w.alloc (.cells #[.slice aW ws.length cW,.slice aP ps.length cP] 67)) w'->w'.cell? ⟨w.heap.size,0,none⟩=some (.slice aW ws.length cW)/\w'.cell? ⟨w.heap.size,1,none⟩=some (.slice aP ps.length cP)):=fun w' hb=>by
  have:w'.heap[w.heap.size]?=some (.cells #[.slice aW ws.length cW,.slice aP ps.length cP] 67 (0,0)):=(hb.block _ (by simp)).trans (zaf rfl);exact⟨(zac this).1,(zac this).2.1⟩
 have BW:Hid (zB w (w.alloc (.cells #[.slice aW ws.length cW,.slice aP ps.length cP] 67))):=zR.alloc zL _;obtain⟨x0,x1⟩:=CA.o _ zR
 have c2:(t:Int)=1\/(t:Int)=2:=by rcases ht with ⟨e,_⟩ | ⟨e,_⟩<;>rw[e]<;>decide
 cases c1:zck ws ps with
 | false =>
  rw[c1]at LU
  have e1:=show ubC false (t:Int)=1 from rfl
  have e2:ubL false (zao ws) (t:Int)=[]:=if_neg (fun h=>by cases h.1);rw[e1,e2]at LU;generalize zbg (fun i=>!zey (zaw (zao ws) (t:Int)) (i:Int)) n=r;rw[show fpV false r=0 from rfl,show fpC false r=1 from rfl];clear c1 e1 e2;go_enter Tryz.func105,Tryz.ntmps105;go_wp2_with fail;refine(LU.o _ BW.o).mono ?_;rintro e w1 ⟨v1,rfl,hr1,hb1⟩;obtain⟨-,aL,cL,hvL,-⟩:=hr1.rd;subst hvL;have B1:=zaa (zab BW.o hb1 BW.o.size);clear hr1 hb1 x0 x1;go_wp2;go_ret2;exact⟨rfl,B1.o⟩
 | true =>
 rw[c1]at LU
 have e1:ubC true (t:Int)=0:=by unfold ubC;rw[if_pos rfl,if_pos c2]
 have e2:ubL true (zao ws) (t:Int)=zaw (zao ws) (t:Int):=if_pos ⟨rfl,c2⟩
 have UL:(zaw (zao ws) (t:Int)).length<=1048576:=by have:=zha (zao ws) (t:Int);have:=zgd ws;have:=(zmp c1).1;omega
 rw[e1,e2]at LU;generalize zaw (zao ws) (t:Int)=zs at *
 have TC:Hid (∀ w',zB w w'->w'.cell? ⟨1,t,none⟩=some (.I (n:Int))):=fun w' hb=>by
  obtain⟨a0,a1,a2⟩:=TS.cells (T.o.below hb)
  rcases ht with ⟨rfl,rfl⟩ | ⟨rfl,rfl⟩
  ·exact a1
  ·exact a2
 have t0:(0:Int)<=(t:Int):=by rcases ht with ⟨e,_⟩ | ⟨e,_⟩<;>rw[e]<;>decide
 have t3:(t:Int)<3:=by rcases ht with ⟨e,_⟩ | ⟨e,_⟩<;>rw[e]<;>decide
 have n1:n<=32:=by rcases ht with ⟨_,e⟩ | ⟨_,e⟩<;>rw[e]<;>decide
 clear c1 c2 e1 e2 ht T;go_enter Tryz.func105,Tryz.ntmps105;go_wp2_with fail;refine(LU.o _ BW.o).mono ?_;rintro e w1 ⟨v1,rfl,hr1,hb1⟩;obtain⟨-,aL,cL,hvL,-⟩:=hr1.rd;subst hvL;have R1:Hid (RdI w1 (.slice aL zs.length cL) zs):=hr1.rd;have B1:=zaa (zab BW.o hb1 BW.o.size);have tc:=TC.o _ B1.o;clear hr1 hb1 x0 x1 CA;go_wp2
 go_loopw [8,21] (fun _ i wr=>∃ k:Nat,k<=n/\i=.I k/\wr=w1/\Hid (∀ j,j<k->(!zey zs (j:Int))=false)) (fun _ i _=>n-(intOf i).toNat)
 case atStart=>exact⟨0,by omega,rfl,rfl,fun j a=>absurd a (by omega)⟩
 case round =>
  obtain⟨k,hk,rfl,rfl,H⟩:=hrel
  have k0:(0:Int)<=(k:Int):=by omega
  by_cases hlt:k<n
  ·have k1:(k:Int)<(n:Int):=by omega
   have LH:=zaa (zgn (.slice aL zs.length cL) zs (k:Int) _ R1.o UL)
   cases q:zey zs (k:Int) with
   | true =>
    have H':Hid (∀ j,j<k+1->(!zey zs (j:Int))=false):=fun j a=>by
     by_cases e:j=k
     ·subst e;rw[q];rfl
     ·exact H.o j (by omega)
    rw[q]at LH;clear q H;go_wp2_with (go_at_call 147;refine LH.o.mono ?_;rintro e w' ⟨rfl,rfl⟩)
    go_roundw
    case rel=>exact⟨k+1,by omega,by go_num,trivial,H'⟩
    case measure=>simp[intOf];omega
   | false =>
    have E:=zaa (zpy (p:=fun i=>!zey zs (i:Int)) hlt H.o (by rw[q];rfl));have E1:=zaa (show fpV true (k:Int)=(k:Int) by unfold fpV ztk;rw[if_pos rfl,if_neg (by omega)]);have E2:=zaa (show fpC true (k:Int)=0 by unfold fpC zsn;rw[if_pos rfl,if_neg (by omega)]);rw[q]at LH;clear q H;go_wp2_with (go_at_call 147;refine LH.o.mono ?_;rintro e w' ⟨rfl,rfl⟩);go_ret2;exact⟨zdf (by rw[E.o,E1.o]) (by rw[E.o,E2.o]),B1.o⟩
  ·have E:=zaa (zjw (p:=fun i=>!zey zs (i:Int)) (n:=n) (fun j hj=>H.o j (by omega)));clear H;go_wp2;go_ret2;exact⟨zdf (by rw[E.o];rfl) (by rw[E.o];rfl),B1.o⟩
theorem zov(v:Value)(ws:List Ino)(ps:List Den)(w:World)(h:RdIm w v ws ps)(hw:ws.length<=1048576)(hp:ps.length<=1048576)(hT:TS w)(hE:ED w)(hF:FD w)(hr:∀ k (h:k<ws.length),ws[k].R)(hs:∀ k (h:k<ps.length),ps[k].name.size<=maxLen) :
  zC 52 #[v] w fun e w'=>e=.returned (.tuple #[.I (fpV (zck ws ps) (zbg (fun i=>!zey (zaw (zao ws) 1) (i:Int)) 24)),.I (fpC (zck ws ps) (zbg (fun i=>!zey (zaw (zao ws) 1) (i:Int)) 24))])/\zB w w':=by
 have LF:=zaa (fun w1 (hb:zB w w1)=>zjh v ws ps 1 24 w1 (h.below hb) hw hp (hT.below hb) (hE.below hb) (hF.below hb) hr hs (by omega));rw[show((1:Nat):Int)=1 from rfl]at LF;obtain⟨vW,vP,rfl,h1,h2⟩:=h;obtain⟨aW,cW,rfl,_,hcW⟩:=h1.shape;obtain⟨aP,cP,rfl,_,_⟩:=h2.shape;clear h1 h2 hr hs hcW hT hE hF
 have CA:Hid (∀ w',Below (w.alloc (.cells #[.slice aW ws.length cW,.slice aP ps.length cP] 67)).heap.size (w.alloc (.cells #[.slice aW ws.length cW,.slice aP ps.length cP] 67)) w'->w'.cell? ⟨w.heap.size,0,none⟩=some (.slice aW ws.length cW)/\w'.cell? ⟨w.heap.size,1,none⟩=some (.slice aP ps.length cP)):=fun w' hb=>by
  have:w'.heap[w.heap.size]?=some (.cells #[.slice aW ws.length cW,.slice aP ps.length cP] 67 (0,0)):=(hb.block _ (by simp)).trans (zaf rfl);exact⟨(zac this).1,(zac this).2.1⟩
 have BW:Hid (zB w (w.alloc (.cells #[.slice aW ws.length cW,.slice aP ps.length cP] 67))):=zR.alloc zL _;obtain⟨x0,x1⟩:=CA.o _ zR;generalize fpV (zck ws ps) (zbg (fun i=>!zey (zaw (zao ws) 1) (i:Int)) 24)=r1 at *;generalize fpC (zck ws ps) (zbg (fun i=>!zey (zaw (zao ws) 1) (i:Int)) 24)=r2 at *;go_enter Tryz.func52,Tryz.ntmps52;go_wp2_with fail;refine(LF.o _ BW.o).mono ?_;rintro e w1 ⟨rfl,hb1⟩;have B1:=zaa (zab BW.o hb1 BW.o.size);clear hb1 x0 x1;go_wp2;go_ret2;exact⟨rfl,B1.o⟩
theorem znb(v:Value)(ws:List Ino)(ps:List Den)(w:World)(h:RdIm w v ws ps)(hw:ws.length<=1048576)(hp:ps.length<=1048576)(hT:TS w)(hE:ED w)(hF:FD w)(hr:∀ k (h:k<ws.length),ws[k].R)(hs:∀ k (h:k<ps.length),ps[k].name.size<=maxLen) :
  zC 53 #[v] w fun e w'=>e=.returned (.tuple #[.I (fpV (zck ws ps) (zbg (fun i=>!zey (zaw (zao ws) 2) (i:Int)) 32)),.I (fpC (zck ws ps) (zbg (fun i=>!zey (zaw (zao ws) 2) (i:Int)) 32))])/\zB w w':=by
 have LF:=zaa (fun w1 (hb:zB w w1)=>zjh v ws ps 2 32 w1 (h.below hb) hw hp (hT.below hb) (hE.below hb) (hF.below hb) hr hs (by omega));rw[show((2:Nat):Int)=2 from rfl]at LF;obtain⟨vW,vP,rfl,h1,h2⟩:=h;obtain⟨aW,cW,rfl,_,hcW⟩:=h1.shape;obtain⟨aP,cP,rfl,_,_⟩:=h2.shape;clear h1 h2 hr hs hcW hT hE hF
 have CA:Hid (∀ w',Below (w.alloc (.cells #[.slice aW ws.length cW,.slice aP ps.length cP] 67)).heap.size (w.alloc (.cells #[.slice aW ws.length cW,.slice aP ps.length cP] 67)) w'->w'.cell? ⟨w.heap.size,0,none⟩=some (.slice aW ws.length cW)/\w'.cell? ⟨w.heap.size,1,none⟩=some (.slice aP ps.length cP)):=fun w' hb=>by
  have:w'.heap[w.heap.size]?=some (.cells #[.slice aW ws.length cW,.slice aP ps.length cP] 67 (0,0)):=(hb.block _ (by simp)).trans (zaf rfl);exact⟨(zac this).1,(zac this).2.1⟩
 have BW:Hid (zB w (w.alloc (.cells #[.slice aW ws.length cW,.slice aP ps.length cP] 67))):=zR.alloc zL _;obtain⟨x0,x1⟩:=CA.o _ zR;generalize fpV (zck ws ps) (zbg (fun i=>!zey (zaw (zao ws) 2) (i:Int)) 32)=r1 at *;generalize fpC (zck ws ps) (zbg (fun i=>!zey (zaw (zao ws) 2) (i:Int)) 32)=r2 at *;go_enter Tryz.func53,Tryz.ntmps53;go_wp2_with fail;refine(LF.o _ BW.o).mono ?_;rintro e w1 ⟨rfl,hb1⟩;have B1:=zaa (zab BW.o hb1 BW.o.size);clear hb1 x0 x1;go_wp2;go_ret2;exact⟨rfl,B1.o⟩
theorem zpj(v:Value)(ws:List Ino)(ps:List Den)(w:World)(h:RdIm w v ws ps)(hl:ws.length<=4096) :
  zC 196 #[v] w fun e w'=>e=.returned (.I (zbg (fun i=>decide (1<=i)&&zal ws (i:Int) == 0) ws.length))/\zB w w':=by
 obtain⟨vW,vP,rfl,h1,h2⟩:=h;obtain⟨aW,cW,rfl,_,hcW⟩:=h1.shape;obtain⟨aP,cP,rfl,_,_⟩:=h2.shape;have HW:=zaa hcW;clear h1 h2 hcW
 have CA:Hid (∀ w',Below (w.alloc (.cells #[.slice aW ws.length cW,.slice aP ps.length cP] 67)).heap.size (w.alloc (.cells #[.slice aW ws.length cW,.slice aP ps.length cP] 67)) w'->w'.cell? ⟨w.heap.size,0,none⟩=some (.slice aW ws.length cW)/\w'.cell? ⟨w.heap.size,1,none⟩=some (.slice aP ps.length cP)):=fun w' hb=>by
  have:w'.heap[w.heap.size]?=some (.cells #[.slice aW ws.length cW,.slice aP ps.length cP] 67 (0,0)):=(hb.block _ (by simp)).trans (zaf rfl);exact⟨(zac this).1,(zac this).2.1⟩
 have BW:Hid (zB w (w.alloc (.cells #[.slice aW ws.length cW,.slice aP ps.length cP] 67))):=zR.alloc zL _;obtain⟨x0,x1⟩:=CA.o _ zR;clear x0 x1
 obtain⟨W,hW⟩:=zE (w.alloc (.cells #[.slice aW ws.length cW,.slice aP ps.length cP] 67))
 rw[<- hW]at CA BW;obtain⟨y0,y1⟩:=CA.o _ zR;go_enter Tryz.func196,Tryz.ntmps196;go_wp2;rw[<- hW];clear hW
 go_loopw [3] (fun i wr=>∃ k:Nat,(1<=k/\(k<=ws.length\/k=1))/\i=.I k/\wr=W/\Hid (∀ j,j<k->(decide (1<=j)&&zal ws (j:Int) == 0)=false)) (fun i _=>ws.length+1-(intOf i).toNat)
 case atStart=>exact⟨1,by omega,rfl,rfl,fun j a=>by rw[decide_eq_false (by omega)];rfl⟩
 case round =>
  obtain⟨k,hk,rfl,rfl,H⟩:=hrel
  have k0:(0:Int)<=(k:Int):=by omega
  by_cases hlt:k<ws.length
  ·obtain⟨b,o,rfl,hbl,hcell⟩:=HW.o (by omega);have d0:=(BW.o.cell (p:=⟨b,o+k*11,none⟩) hbl).trans (hcell k hlt).1;rw[<- zbv hlt]at d0
   have k1:(k:Int)<(ws.length:Int):=by omega
   have P:=zaa (show(decide (1<=k)&&zal ws (k:Int) == 0)=(zal ws (k:Int) == 0) by rw[decide_eq_true hk.1];rfl);clear hcell
   cases q:(zal ws (k:Int) == 0) with
   | true =>
    have E:=zaa (zpy (p:=fun i=>decide (1<=i)&&zal ws (i:Int) == 0) hlt H.o (by show(decide (1<=k)&&zal ws (k:Int) == 0)=true;rw[P.o,q]));clear H P;generalize zal ws (k:Int)=z at d0 q;go_wp2;go_ret;exact⟨zdq E.o.symm,BW.o⟩
   | false =>
    have H':Hid (∀ j,j<k+1->(decide (1<=j)&&zal ws (j:Int) == 0)=false):=fun j a=>by
     by_cases e:j=k
     ·subst e;rw[P.o,q]
     ·exact H.o j (by omega)
    clear H P;generalize zal ws (k:Int)=z at d0 q;go_wp2
    go_roundw
    case rel=>exact⟨k+1,by omega,by go_num,trivial,H'⟩
    case measure=>simp[intOf];omega
  ·have E:=zaa (zjw (p:=fun i=>decide (1<=i)&&zal ws (i:Int) == 0) (n:=ws.length) (fun j hj=>H.o j (by omega)))
   have k2:¬ (k:Int)<(ws.length:Int):=by omega
   clear H;go_wp2;go_ret;exact⟨zdq E.o.symm,BW.o⟩
def zcf:Ino:=⟨0,0,0,0,0,0,0,0,0,0,0⟩
theorem ztb(v:Value)(ws:List Ino)(ps:List Den)(a b:Int)(w:World)(h:RdIm w v ws ps)(hn:ps.length<=1048576) :
  zC 200 #[v,.I a,.I b] w fun e w'=>e=.returned (.bool (ztf ps 17 a b))/\zB w w':=by
 have HR:=zaa h;obtain⟨vW,vP,rfl,h1,h2⟩:=h;obtain⟨aW,cW,rfl,_⟩:=h1.shape;obtain⟨aP,cP,rfl,_,hcP⟩:=h2.shape;clear h1 h2 hcP
 obtain⟨W,hW⟩:=zE (w.alloc (.cells #[.slice aW ws.length cW,.slice aP ps.length cP] 67))
 have CA:Hid (∀ w',zB W w'->w'.cell? ⟨w.heap.size,0,none⟩=some (.slice aW ws.length cW)/\w'.cell? ⟨w.heap.size,1,none⟩=some (.slice aP ps.length cP)):=fun w' hb=>by
  have:w'.heap[w.heap.size]?=some (.cells #[.slice aW ws.length cW,.slice aP ps.length cP] 67 (0,0)):=(hb.block _ (by rw[hW];simp)).trans (by rw[hW];exact zaf rfl);exact⟨(zac this).1,(zac this).2.1⟩
 have BW:Hid (zB w W):=by rw[hW];exact zR.alloc zL _
 have hz:w.heap.size<=W.heap.size:=BW.o.size;have LU:=zaa (fun d w1 h=>zxq (.agg #[.slice aW ws.length cW,.slice aP ps.length cP]) ws ps d w1 h hn);go_enter Tryz.func200,Tryz.ntmps200;go_wp2;rw[<- hW];clear hW
 go_loopw [1,7] (fun d i wr=>∃ (k:Nat) (z:Int),k<=17/\i=.I k/\d=.I z/\Hid (zB W wr/\ztf ps 17 a b=ztf ps (17-k) z b)) (fun _ i _=>17-(intOf i).toNat)
 case atStart=>exact⟨0,a,by omega,rfl,rfl,zR,rfl⟩
 case round =>
  obtain⟨k,z,hk,rfl,rfl,J⟩:=hrel;obtain⟨x0,x1⟩:=CA.o wr J.o.1;have B:=zaa (zab BW.o J.o.1 hz)
  by_cases hlt:k<17
  ·have ES:=zaa (show ztf ps (17-k) z b=if z<0 then false else if z=b then true else ztf ps (17-(k+1)) (upD ps z) b by
    rw[show 17-k=(17-(k+1))+1 by omega];rfl)
   have k16:(k:Int)<=16:=by omega
   by_cases q:z<0
   ·have E:=zaa (show ztf ps 17 a b=false by rw[J.o.2,ES.o,if_pos q])
    have q1:¬ z>=0:=by omega
    clear ES J;go_wp2;go_ret;exact⟨zag E.o.symm,B.o⟩
   ·have q1:z>=0:=by omega
    by_cases r:z=b
    ·subst r;have E:=zaa (show ztf ps 17 a z=true by rw[J.o.2,ES.o,if_neg q,if_pos rfl]);clear ES J;go_wp2;go_ret;exact⟨zag E.o.symm,B.o⟩
    ·have r1:(z == b)=false:=beq_eq_false_iff_ne.2 r;have R:=zaa (HR.o.below B.o);have E:=zaa (show ztf ps 17 a b=ztf ps (17-(k+1)) (upD ps z) b by rw[J.o.2,ES.o,if_neg q,if_neg r]);have J1:=zaa J.o.1;clear ES J q r;go_wp2_with fail;refine(LU.o _ _ R.o).mono ?_;rintro e w1 ⟨rfl,hb1⟩;have B1:=zaa (zab J1.o hb1 J1.o.size);clear hb1;go_wp2
     go_roundw
     case rel=>exact⟨k+1,_,by omega,by go_num,rfl,B1.o,E.o⟩
     case measure=>simp[intOf];omega
  ·obtain rfl:k=17:=by omega
   have E:=zaa (show ztf ps 17 a b=false by rw[J.o.2];rfl);clear J;go_wp2;go_ret;exact⟨zag E.o.symm,B.o⟩
end Go.Proofs.YtdiaiejmoocpmaaGreatDoor
