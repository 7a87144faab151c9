import Derived.Test.YtogcbbkhnpmgeaaGreatDoorZAL
set_option maxRecDepth 100000
set_option maxHeartbeats 4000000
namespace Go.Proofs.YtogcbbkhnpmgeaaGreatDoor
open Go.RowKit
theorem zoe(v vL:Value)(ws:List Ino)(ps:List Den)(ns:List ByteArray)(w:World)(h:RdIm w v ws ps)(hL:RdT w vL ns)(hi:zcr ws ps=true)(hn:ns.length<=1048576) :
  zC 147 #[v,vL] w fun e w'=>e=.returned (.tuple #[.I (wk ws ps 0 ns).1,.I (wk ws ps 0 ns).2])/\zB w w':=by
 have HR:=zaa h;have LE:=zaa (fun d nm w1 h=>zek v ws ps d nm w1 h (by have:=(zaw hi).2.1;omega));obtain⟨vW,vP,rfl,h1,h2⟩:=h;obtain⟨aW,cW,rfl,_,hcW⟩:=h1.shape;obtain⟨aP,cP,rfl,_,hcP⟩:=h2.shape;obtain⟨aL,cL,rfl,_,hcL⟩:=hL.shape;have L16:=zaa (zaw hi).1;have L24:=zaa (zaw hi).2.1;obtain⟨bW,oW,rfl,hblW,hcellW⟩:=hcW (by have:=L16.o;omega);obtain⟨bP,oP,rfl,hblP,hcellP⟩:=hcP (by have:=L24.o;omega)
 have HW:Hid (∀ w',zB w w'->∀ n:Nat,n<16->w'.cell? ⟨bW,oW+n*11,none⟩=some (.I (zai ws n))):=fun w' hb n hn=>by
  have hnl:n<ws.length:=by have:=L16.o;omega
  rw[zbk hnl];exact(hb.cell (p:=⟨bW,oW+n*11,none⟩) hblW).trans (hcellW n hnl).1
 have HP:Hid (∀ w',zB w w'->∀ k (h:k<ps.length),w'.cell? ⟨bP,oP+k*3+2,none⟩=some (.I (zar ps k))):=fun w' hb k hk=>by
  rw[zdl hk];exact(hb.cell (p:=⟨bP,oP+k*3+2,none⟩) hblP).trans (hcellP k hk).2.2
 have HN:=zaa hcL;have CR:=zaa (fun(d:Int) (nm:ByteArray) (k:Nat) (e:zbs ps d nm=some k)=>zfg hi e);generalize hres:wk ws ps 0 ns=res;have HRES:=zaa hres;clear hres;clear h1 h2 hcW hcP hcellW hcellP hcL hL hi
 obtain⟨W,hW⟩:=zE (w.alloc (.cells #[.slice (some ⟨bW,oW,none⟩) ws.length cW,.slice (some ⟨bP,oP,none⟩) ps.length cP] 51))
 have CA:Hid (∀ w',zB W w'->w'.cell? ⟨w.heap.size,0,none⟩=some (.slice (some ⟨bW,oW,none⟩) ws.length cW)/\w'.cell? ⟨w.heap.size,1,none⟩=some (.slice (some ⟨bP,oP,none⟩) ps.length cP)):=fun w' hb=>by
  have:w'.heap[w.heap.size]?=some (.cells #[.slice (some ⟨bW,oW,none⟩) ws.length cW,.slice (some ⟨bP,oP,none⟩) ps.length cP] 51 (0,0)):=(hb.block _ (by rw[hW];simp)).trans (by rw[hW];exact zah rfl);exact⟨(zac this).1,(zac this).2.1⟩
 have BW:Hid (zB w W):=by rw[hW];exact zR.alloc zL _
 have hz:w.heap.size<=W.heap.size:=BW.o.size;go_enter Tryz.func147,Tryz.ntmps147;go_wp2;rw[<- hW];clear hW
 go_loopg [6,7] ns.length (fun g a i wr=>∃ (k:Nat) (z:Nat),k+g=ns.length/\z<16/\a=.I z/\i=.I k/\Hid (zB W wr/\res=wk ws ps z (ns.drop k)))
 case atStart=>exact⟨0,0,by omega,by omega,rfl,rfl,zR,HRES.o.symm⟩
 case round =>
  obtain⟨k,z,hk,hz16,rfl,rfl,J⟩:=hrel;obtain⟨x0,x1⟩:=CA.o wr J.o.1;have B:=zaa (zab BW.o J.o.1 hz);have J1:=zaa J.o.1
  have k0:(0:Int)<=(k:Int):=by omega
  have z0:(0:Int)<=(z:Int):=by omega
  have z1:(z:Int)<(ws.length:Int):=by have:=L16.o;omega
  by_cases hlt:k<ns.length
  ·have k1:(k:Int)<(ns.length:Int):=by omega
   have y0:=HW.o wr B.o z hz16
   have JD:Hid (res=wk ws ps z (ns[k]::ns.drop (k+1))):=by unfold Hid;rw[J.o.2,List.drop_eq_getElem_cons hlt]
   obtain⟨bL,oL,rfl,hblL,hcell⟩:=HN.o (by omega);have n0:=(B.o.cell (p:=⟨bL,oL+k,none⟩) hblL).trans (hcell k hlt);have WN:=zaa (fun(h:¬ zai ws z=2)=>zgt (ps:=ps) (n:=ns[k]) (ns:=ns.drop (k+1)) h);have WO:=zaa (fun(h:zai ws z=2) (e:zbs ps z ns[k]=none)=>ziz (ns:=ns.drop (k+1)) h e);have WS:=zaa (fun(h:zai ws z=2) (j:Nat) (e:zbs ps z ns[k]=some j)=>zja (ns:=ns.drop (k+1)) h e);have EI:=zaa (show zlh ps z ns[k]=match zbs ps z ns[k]with | none=>-1 | some k=>(k:Int)from rfl);have CR2:=zaa (fun(j:Nat) (e:zbs ps z ns[k]=some j)=>CR.o _ _ _ e);have LE2:=zaa (fun w1 (hb:zB wr w1)=>LE.o (z:Int) ns[k] w1 (HR.o.below (zab B.o hb B.o.size)));clear J hcell;generalize zai ws z=kk at *;clear HRES;generalize ns[k]=nm at *
   by_cases q:kk=2
   case neg =>
    have q1:(kk != 2)=true:=by rw[bne_iff_ne];exact q
    obtain rfl:=JD.o.trans (WN.o q);clear q WN WO WS EI CR2 LE2;go_wp2;go_ret2;exact⟨rfl,B.o⟩
   have q1:(kk != 2)=false:=by rw[q];rfl
   have SK:Hid (∀ w',zB wr w'->(w'.cell? ⟨w.heap.size,0,none⟩=some (.slice (some ⟨bW,oW,none⟩) ws.length cW)/\w'.cell? ⟨w.heap.size,1,none⟩=some (.slice (some ⟨bP,oP,none⟩) ps.length cP))/\w'.cell? ⟨bL,oL+k,none⟩=some (.string nm)):=fun w' hb=>⟨CA.o w' (zab J1.o hb J1.o.size),(hb.cell (p:=⟨bL,oL+k,none⟩) (Nat.lt_of_lt_of_le hblL B.o.size)).trans n0⟩
   cases e:zbs ps z nm with
   | none =>
    have W2:=zaa (JD.o.trans (WO.o q e));rw[e]at EI;obtain rfl:=W2.o;have EI2:Hid (zlh ps z nm=-1):=EI;rw[EI2.o]at LE2;clear q WN WO WS EI CR2 W2 JD e;go_wp2_with fail
    go_region_held3 (fun w'=>(w'.cell? ⟨w.heap.size,0,none⟩=some (.slice (some ⟨bW,oW,none⟩) ws.length cW)/\w'.cell? ⟨w.heap.size,1,none⟩=some (.slice (some ⟨bP,oP,none⟩) ps.length cP))/\w'.cell? ⟨bL,oL+k,none⟩=some (.string nm))
     (exact SK.o _ (by repeat (first | exact BF.o | exact zR | refine Below.drew ?_)))
     (first
      | (go_at_call 198;refine(LE2.o _ (by repeat (first | exact zR | refine Below.drew ?_))).mono ?_;rintro e w1 ⟨rfl,hb1⟩;have BF:Hid (zB wr w1):=(by first | exact hb1 | exact zab (by repeat (first | exact zR | refine Below.drew ?_)) hb1 zL);clear hb1))
    all_goals
     have B3:=zaa (zab B.o BF.o B.o.size);clear SK x0 x1 y0 n0;go_wp2;go_ret2;exact⟨rfl,(by repeat (first | exact B3.o | refine Below.drew ?_))⟩
   | some j =>
    have W2:=zaa (JD.o.trans (WS.o q j e));obtain⟨hj,c1,c2⟩:=CR2.o j e;rw[e]at EI;have EI2:Hid (zlh ps z nm=(j:Int)):=EI;rw[EI2.o]at LE2
    obtain⟨y,hy⟩:∃ y:Nat,zar ps j=(y:Int):=⟨(zar ps j).toNat,by omega⟩
    have HJ:=zaa (fun w' (hb:zB w w')=>HP.o w' hb j hj);rw[hy]at HJ W2
    have y16:y<16:=by omega
    have j0:(0:Int)<=(j:Int):=by omega
    have j1:(j:Int)<(ps.length:Int):=by omega
    have j2:¬ (j:Int)<0:=by omega
    clear q WN WO WS EI CR2 JD e hy c1 c2;go_wp2_with fail
    go_region_held3 (fun w'=>(w'.cell? ⟨w.heap.size,0,none⟩=some (.slice (some ⟨bW,oW,none⟩) ws.length cW)/\w'.cell? ⟨w.heap.size,1,none⟩=some (.slice (some ⟨bP,oP,none⟩) ps.length cP))/\w'.cell? ⟨bL,oL+k,none⟩=some (.string nm))
     (exact SK.o _ (by repeat (first | exact BF.o | exact zR | refine Below.drew ?_)))
     (first
      | (go_at_call 198;refine(LE2.o _ (by repeat (first | exact zR | refine Below.drew ?_))).mono ?_;rintro e w1 ⟨rfl,hb1⟩;have BF:Hid (zB wr w1):=(by first | exact hb1 | exact zab (by repeat (first | exact zR | refine Below.drew ?_)) hb1 zL);clear hb1))
    all_goals
     have B3:=zaa (zab B.o BF.o B.o.size);have B4:=zaa (zab J1.o BF.o J1.o.size);have p1:=(SK.o _ BF.o).1.2;have p2:=HJ.o _ B3.o;clear SK x0 x1 y0 n0;go_wp2
     go_roundg (ns.length-(k+1))
     case measure=>omega
     case rel=>exact⟨k+1,y,by omega,y16,rfl,by go_num,(by repeat (first | exact B4.o | refine Below.drew ?_)),W2.o⟩
  ·obtain rfl:k=ns.length:=by omega
   have E:Hid (res=((z:Int),0)):=by unfold Hid;rw[J.o.2,List.drop_length];rfl
   clear HRES J;obtain rfl:=E.o;go_wp2;go_ret2;exact⟨rfl,B.o⟩
def lkI(ws:List Ino)(ps:List Den)(s:ByteArray):Int×Int:=if spB s=true then wk ws ps 0 (spL s) else(0,12)
def lkR(ws:List Ino)(ps:List Den)(s:ByteArray):Int×Int:=if 65536<s.size then(0,2)else if zcr ws ps=true then lkI ws ps s else(0,1)
def paN(ws:List Ino)(ps:List Den)(xs:List ByteArray)(x:ByteArray):Int×ByteArray×Int:=if (wk ws ps 0 xs).2=0 then(if zai ws (wk ws ps 0 xs).1=2 then((wk ws ps 0 xs).1,x,0) else(0,⟨#[]⟩,10)) else(0,⟨#[]⟩,(wk ws ps 0 xs).2)
def paL(ws:List Ino)(ps:List Den)(ns:List ByteArray):Int×ByteArray×Int:=if ns=[] then(0,⟨#[]⟩,19)else paN ws ps ns.dropLast (ns.getLastD ⟨#[]⟩)
def paI(ws:List Ino)(ps:List Den)(s:ByteArray):Int×ByteArray×Int:=if spB s=true then paL ws ps (spL s) else(0,⟨#[]⟩,12)
def paR(ws:List Ino)(ps:List Den)(s:ByteArray):Int×ByteArray×Int:=if 65536<s.size then(0,⟨#[]⟩,2)else if zcr ws ps=true then paI ws ps s else(0,⟨#[]⟩,1)
theorem yabe(ws:List Ino)(ps:List Den)(xs:List ByteArray)(x:ByteArray):paL ws ps (xs++[x])=paN ws ps xs x:=by
 unfold paL;rw[if_neg (by simp),List.dropLast_concat]
 congr 1
 simp
theorem yajc{ns:List ByteArray}(h:¬ ns=[]):∃ xs x,ns=xs++[x]:=⟨ns.dropLast,ns.getLast h,(List.dropLast_concat_getLast h).symm⟩
theorem zez(v:Value)(ws:List Ino)(ps:List Den)(s:ByteArray)(w:World)(h:RdIm w v ws ps)(hi:zcr ws ps=true)(hs:s.size<=65536) :
  zC 78 #[v,.string s] w fun e w'=>e=.returned (.tuple #[.I (lkI ws ps s).1,.I (lkI ws ps s).2])/\zB w w':=by
 have HR:=zaa h;have LS:=zaa (fun w1=>zld s w1 hs);have LW:=zaa (fun vL w1 h hL=>zoe v vL ws ps (spL s) w1 h hL hi (by have:=@zza s;omega));have EL:=zaa (show lkI ws ps s=if spB s=true then wk ws ps 0 (spL s) else(0,12)from rfl);obtain⟨vW,vP,rfl,h1,h2⟩:=h;obtain⟨aW,cW,rfl,_,_⟩:=h1.shape;obtain⟨aP,cP,rfl,_,_⟩:=h2.shape;clear h1 h2 hi
 have CA:Hid (∀ w',Below (w.alloc (.cells #[.slice aW ws.length cW,.slice aP ps.length cP] 51)).heap.size (w.alloc (.cells #[.slice aW ws.length cW,.slice aP ps.length cP] 51)) w'->w'.cell? ⟨w.heap.size,0,none⟩=some (.slice aW ws.length cW)/\w'.cell? ⟨w.heap.size,1,none⟩=some (.slice aP ps.length cP)):=fun w' hb=>by
  have:w'.heap[w.heap.size]?=some (.cells #[.slice aW ws.length cW,.slice aP ps.length cP] 51 (0,0)):=(hb.block _ (by simp)).trans (zah rfl);exact⟨(zac this).1,(zac this).2.1⟩
 have BW:Hid (zB w (w.alloc (.cells #[.slice aW ws.length cW,.slice aP ps.length cP] 51))):=zR.alloc zL _;generalize lkI ws ps s=res at *;generalize wk ws ps 0 (spL s)=rw0 at *
 cases c:spB s with
 | false =>
  rw[c]at LS EL;obtain rfl:=EL.o;clear EL LW;go_enter Tryz.func78,Tryz.ntmps78;go_wp2_with fail;refine(LS.o _).mono ?_;rintro e w1 ⟨v1,rfl,hr1,hb1⟩;have B1:=zaa (zab BW.o hb1 BW.o.size);clear hr1 hb1;go_wp2;go_ret2;exact⟨rfl,B1.o⟩
 | true =>
  rw[c]at LS EL;obtain rfl:res=rw0:=EL.o;clear EL;go_enter Tryz.func78,Tryz.ntmps78;go_wp2_with fail;refine(LS.o _).mono ?_;rintro e w1 ⟨v1,rfl,hr1,hb1⟩;have B1:=zaa (zab BW.o hb1 BW.o.size);obtain⟨x0,x1⟩:=CA.o _ hb1;have R1:=zaa hr1;clear hr1 hb1;go_wp2_with fail;refine(LW.o _ _ (HR.o.below B1.o) R1.o).mono ?_;rintro e w2 ⟨rfl,hb2⟩;have B2:=zaa (zab B1.o hb2 B1.o.size);clear hb2 x0 x1;go_wp2;go_ret2;exact⟨rfl,B2.o⟩
def zby(p:Nat->Bool)(n:Nat):Int:=match (List.range n).find? p with | some i=>(i:Int) | none=>-1
theorem zqx{p:Nat->Bool}{n k:Nat}(hk:k<n)(h:∀ j,j<k->p j=false)(e:p k=true):zby p n=(k:Int):=by
 have:(List.range n).find? p=some k:=List.find?_range_eq_some.2 ⟨e,List.mem_range.2 hk,fun j hj=>by rw[h j hj];rfl⟩;unfold zby;rw[this]
theorem zkt{p:Nat->Bool}{n:Nat}(h:∀ j,j<n->p j=false):zby p n=-1:=by
 have:(List.range n).find? p=none:=List.find?_eq_none.2 (fun j hj=>by rw[h j (List.mem_range.1 hj)];decide);unfold zby;rw[this]
theorem zea(p:Nat->Bool)(n:Nat):-1<=zby p n/\zby p n<n:=by
 unfold zby
 split
 ·rename_i i h;have:=List.mem_range.1 (List.mem_of_find?_eq_some h);omega
 ·omega
theorem zgr(v:Value)(ws:List Ino)(ps:List Den)(t:Int)(n:Nat)(w:World)(h:RdIm w v ws ps)(hl:ws.length<=4096)(hr:∀ k (h:k<ws.length),∀ z∈ws[k].map,0<=z/\z<=1048576)(hn:n<=1000) :
  zC 141 #[v,.I t,.I (n:Int)] w fun e w'=>e=.returned (.I (zby (fun i=>!zha (zbn (zap ws) t) (i:Int)) n))/\zB w w':=by
 have HRD:=zaa h;have LU:=zaa (fun w1 h=>zny v ws ps t w1 h hl hr)
 have UL:(zbn (zap ws) t).length<=1048576:=by have:=zkn (zap ws) t;have:=zhr ws;omega
 obtain⟨vW,vP,rfl,h1,h2⟩:=h;obtain⟨aW,cW,rfl,_,hcW⟩:=h1.shape;obtain⟨aP,cP,rfl,_,_⟩:=h2.shape;clear h1 h2 hcW hr
 have CA:Hid (∀ w',Below (w.alloc (.cells #[.slice aW ws.length cW,.slice aP ps.length cP] 51)).heap.size (w.alloc (.cells #[.slice aW ws.length cW,.slice aP ps.length cP] 51)) w'->w'.cell? ⟨w.heap.size,0,none⟩=some (.slice aW ws.length cW)/\w'.cell? ⟨w.heap.size,1,none⟩=some (.slice aP ps.length cP)):=fun w' hb=>by
  have:w'.heap[w.heap.size]?=some (.cells #[.slice aW ws.length cW,.slice aP ps.length cP] 51 (0,0)):=(hb.block _ (by simp)).trans (zah rfl);exact⟨(zac this).1,(zac this).2.1⟩
 have BW:Hid (zB w (w.alloc (.cells #[.slice aW ws.length cW,.slice aP ps.length cP] 51))):=zR.alloc zL _;obtain⟨x0,x1⟩:=CA.o _ zR;generalize zbn (zap ws) t=zs at *;go_enter Tryz.func141,Tryz.ntmps141;go_wp2_with fail;refine(LU.o _ (HRD.o.below BW.o)).mono ?_;rintro e w1 ⟨v1,rfl,hr1,hb1⟩;obtain⟨-,aL,cL,hvL,-⟩:=hr1.rd;subst hvL;have R1:Hid (RdI w1 (.slice aL zs.length cL) zs):=hr1.rd;have B1:=zaa (zab BW.o hb1 BW.o.size);clear hr1 hb1 x0 x1 CA;go_wp2
 go_loopw [8] (fun i wr=>∃ k:Nat,k<=n/\i=.I k/\wr=w1/\Hid (∀ j,j<k->(!zha zs (j:Int))=false)) (fun i _=>n-(intOf i).toNat)
 case atStart=>exact⟨0,by omega,rfl,rfl,fun j a=>absurd a (by omega)⟩
 case round =>
  obtain⟨k,hk,rfl,rfl,H⟩:=hrel
  have k0:(0:Int)<=(k:Int):=by omega
  by_cases hlt:k<n
  ·have k1:(k:Int)<(n:Int):=by omega
   have LH:=zaa (zkr (.slice aL zs.length cL) zs (k:Int) _ R1.o UL)
   cases q:zha zs (k:Int) with
   | true =>
    have H':Hid (∀ j,j<k+1->(!zha zs (j:Int))=false):=fun j a=>by
     by_cases e:j=k
     ·subst e;rw[q];rfl
     ·exact H.o j (by omega)
    rw[q]at LH;clear q H;go_wp2_with (go_at_call 159;refine LH.o.mono ?_;rintro e w' ⟨rfl,rfl⟩)
    go_roundw
    case rel=>exact⟨k+1,by omega,by go_num,trivial,H'⟩
    case measure=>simp[intOf];omega
   | false =>
    have E:=zaa (zqx (p:=fun i=>!zha zs (i:Int)) hlt H.o (by rw[q];rfl));rw[q]at LH;clear q H;go_wp2_with (go_at_call 159;refine LH.o.mono ?_;rintro e w' ⟨rfl,rfl⟩);go_ret;exact⟨zcq E.o.symm,B1.o⟩
  ·have E:=zaa (zkt (p:=fun i=>!zha zs (i:Int)) (n:=n) (fun j hj=>H.o j (by omega)));clear H;go_wp2;go_ret;exact⟨zcq E.o.symm,B1.o⟩
theorem zlv(v:Value)(ws:List Ino)(ps:List Den)(w:World)(h:RdIm w v ws ps)(hl:ws.length<=4096) :
  zC 200 #[v] w fun e w'=>e=.returned (.I (zby (fun i=>decide (1<=i)&&zai ws (i:Int) == 0) ws.length))/\zB w w':=by
 obtain⟨vW,vP,rfl,h1,h2⟩:=h;obtain⟨aW,cW,rfl,_,hcW⟩:=h1.shape;obtain⟨aP,cP,rfl,_,_⟩:=h2.shape;have HW:=zaa hcW;clear h1 h2 hcW
 have CA:Hid (∀ w',Below (w.alloc (.cells #[.slice aW ws.length cW,.slice aP ps.length cP] 51)).heap.size (w.alloc (.cells #[.slice aW ws.length cW,.slice aP ps.length cP] 51)) w'->w'.cell? ⟨w.heap.size,0,none⟩=some (.slice aW ws.length cW)/\w'.cell? ⟨w.heap.size,1,none⟩=some (.slice aP ps.length cP)):=fun w' hb=>by
  have:w'.heap[w.heap.size]?=some (.cells #[.slice aW ws.length cW,.slice aP ps.length cP] 51 (0,0)):=(hb.block _ (by simp)).trans (zah rfl);exact⟨(zac this).1,(zac this).2.1⟩
 have BW:Hid (zB w (w.alloc (.cells #[.slice aW ws.length cW,.slice aP ps.length cP] 51))):=zR.alloc zL _;obtain⟨x0,x1⟩:=CA.o _ zR;clear x0 x1
 obtain⟨W,hW⟩:=zE (w.alloc (.cells #[.slice aW ws.length cW,.slice aP ps.length cP] 51))
 rw[<- hW]at CA BW;obtain⟨y0,y1⟩:=CA.o _ zR;go_enter Tryz.func200,Tryz.ntmps200;go_wp2;rw[<- hW];clear hW
 go_loopw [3] (fun i wr=>∃ k:Nat,(1<=k/\(k<=ws.length\/k=1))/\i=.I k/\wr=W/\Hid (∀ j,j<k->(decide (1<=j)&&zai ws (j:Int) == 0)=false)) (fun i _=>ws.length+1-(intOf i).toNat)
 case atStart=>exact⟨1,by omega,rfl,rfl,fun j a=>by rw[decide_eq_false (by omega)];rfl⟩
 case round =>
  obtain⟨k,hk,rfl,rfl,H⟩:=hrel
  have k0:(0:Int)<=(k:Int):=by omega
  by_cases hlt:k<ws.length
  ·obtain⟨b,o,rfl,hbl,hcell⟩:=HW.o (by omega);have d0:=(BW.o.cell (p:=⟨b,o+k*11,none⟩) hbl).trans (hcell k hlt).1;rw[<- zbk hlt]at d0
   have k1:(k:Int)<(ws.length:Int):=by omega
   have P:=zaa (show(decide (1<=k)&&zai ws (k:Int) == 0)=(zai ws (k:Int) == 0) by rw[decide_eq_true hk.1];rfl);clear hcell
   cases q:(zai ws (k:Int) == 0) with
   | true =>
    have E:=zaa (zqx (p:=fun i=>decide (1<=i)&&zai ws (i:Int) == 0) hlt H.o (by show(decide (1<=k)&&zai ws (k:Int) == 0)=true;rw[P.o,q]));clear H P;generalize zai ws (k:Int)=z at d0 q;go_wp2;go_ret;exact⟨zcq E.o.symm,BW.o⟩
   | false =>
    have H':Hid (∀ j,j<k+1->(decide (1<=j)&&zai ws (j:Int) == 0)=false):=fun j a=>by
     by_cases e:j=k
     ·subst e;rw[P.o,q]
     ·exact H.o j (by omega)
    clear H P;generalize zai ws (k:Int)=z at d0 q;go_wp2
    go_roundw
    case rel=>exact⟨k+1,by omega,by go_num,trivial,H'⟩
    case measure=>simp[intOf];omega
  ·have E:=zaa (zkt (p:=fun i=>decide (1<=i)&&zai ws (i:Int) == 0) (n:=ws.length) (fun j hj=>H.o j (by omega)))
   have k2:¬ (k:Int)<(ws.length:Int):=by omega
   clear H;go_wp2;go_ret;exact⟨zcq E.o.symm,BW.o⟩
def zgg:Ino:=⟨0,0,0,0,0,0,0,0,0,0,0⟩
theorem zps(v:Value)(ws:List Ino)(ps:List Den)(a b:Int)(w:World)(h:RdIm w v ws ps)(hn:ps.length<=1048576) :
  zC 204 #[v,.I a,.I b] w fun e w'=>e=.returned (.bool (zpt ps 17 a b))/\zB w w':=by
 have HR:=zaa h;obtain⟨vW,vP,rfl,h1,h2⟩:=h;obtain⟨aW,cW,rfl,_⟩:=h1.shape;obtain⟨aP,cP,rfl,_,hcP⟩:=h2.shape;clear h1 h2 hcP
 obtain⟨W,hW⟩:=zE (w.alloc (.cells #[.slice aW ws.length cW,.slice aP ps.length cP] 51))
 have CA:Hid (∀ w',zB W w'->w'.cell? ⟨w.heap.size,0,none⟩=some (.slice aW ws.length cW)/\w'.cell? ⟨w.heap.size,1,none⟩=some (.slice aP ps.length cP)):=fun w' hb=>by
  have:w'.heap[w.heap.size]?=some (.cells #[.slice aW ws.length cW,.slice aP ps.length cP] 51 (0,0)):=(hb.block _ (by rw[hW];simp)).trans (by rw[hW];exact zah rfl);exact⟨(zac this).1,(zac this).2.1⟩
 have BW:Hid (zB w W):=by rw[hW];exact zR.alloc zL _
 have hz:w.heap.size<=W.heap.size:=BW.o.size;have LU:=zaa (fun d w1 h=>zvq (.agg #[.slice aW ws.length cW,.slice aP ps.length cP]) ws ps d w1 h hn);go_enter Tryz.func204,Tryz.ntmps204;go_wp2;rw[<- hW];clear hW
 go_loopw [1,7] (fun d i wr=>∃ (k:Nat) (z:Int),k<=17/\i=.I k/\d=.I z/\Hid (zB W wr/\zpt ps 17 a b=zpt ps (17-k) z b)) (fun _ i _=>17-(intOf i).toNat)
 case atStart=>exact⟨0,a,by omega,rfl,rfl,zR,rfl⟩
 case round =>
  obtain⟨k,z,hk,rfl,rfl,J⟩:=hrel;obtain⟨x0,x1⟩:=CA.o wr J.o.1;have B:=zaa (zab BW.o J.o.1 hz)
  by_cases hlt:k<17
  ·have ES:=zaa (show zpt ps (17-k) z b=if z<0 then false else if z=b then true else zpt ps (17-(k+1)) (upD ps z) b by
    rw[show 17-k=(17-(k+1))+1 by omega];rfl)
   have k16:(k:Int)<=16:=by omega
   by_cases q:z<0
   ·have E:=zaa (show zpt ps 17 a b=false by rw[J.o.2,ES.o,if_pos q])
    have q1:¬ z>=0:=by omega
    clear ES J;go_wp2;go_ret;exact⟨zag E.o.symm,B.o⟩
   ·have q1:z>=0:=by omega
    by_cases r:z=b
    ·subst r;have E:=zaa (show zpt ps 17 a z=true by rw[J.o.2,ES.o,if_neg q,if_pos rfl]);clear ES J;go_wp2;go_ret;exact⟨zag E.o.symm,B.o⟩
    ·have r1:(z == b)=false:=beq_eq_false_iff_ne.2 r;have R:=zaa (HR.o.below B.o);have E:=zaa (show zpt ps 17 a b=zpt ps (17-(k+1)) (upD ps z) b by rw[J.o.2,ES.o,if_neg q,if_neg r]);have J1:=zaa J.o.1;clear ES J q r;go_wp2_with fail;refine(LU.o _ _ R.o).mono ?_;rintro e w1 ⟨rfl,hb1⟩;have B1:=zaa (zab J1.o hb1 J1.o.size);clear hb1;go_wp2
     go_roundw
     case rel=>exact⟨k+1,_,by omega,by go_num,rfl,B1.o,E.o⟩
     case measure=>simp[intOf];omega
  ·obtain rfl:k=17:=by omega
   have E:=zaa (show zpt ps 17 a b=false by rw[J.o.2];rfl);clear J;go_wp2;go_ret;exact⟨zag E.o.symm,B.o⟩
end Go.Proofs.YtogcbbkhnpmgeaaGreatDoor
