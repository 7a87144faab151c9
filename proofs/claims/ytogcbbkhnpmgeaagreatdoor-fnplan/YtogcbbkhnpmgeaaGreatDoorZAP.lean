import Derived.Test.YtogcbbkhnpmgeaaGreatDoorZAO
set_option maxRecDepth 100000
set_option maxHeartbeats 4000000
namespace Go.Proofs.YtogcbbkhnpmgeaaGreatDoor
open Go.RowKit
theorem zqz(v vL:Value)(ws:List Ino)(ps:List Den)(ns:List ByteArray)(w:World)(h:RdIm w v ws ps)(hL:RdT w vL ns)(hi:zbg ws ps=true)(hn:ns.length<=1048576) :
  zC 147 #[v,vL] w fun e w'=>e=.returned (.tuple #[.I (wk ws ps 0 ns).1,.I (wk ws ps 0 ns).2])/\zB w w':=by
 have HR:=zaa h;have LE:=zaa (fun d nm w1 h=>zfg v ws ps d nm w1 h (by have:=(zas hi).2.1;omega));obtain⟨vW,vP,rfl,h1,h2⟩:=h;obtain⟨aW,cW,rfl,_,hcW⟩:=h1.shape;obtain⟨aP,cP,rfl,_,hcP⟩:=h2.shape;obtain⟨aL,cL,rfl,_,hcL⟩:=hL.shape;have L16:=zaa (zas hi).1;have L24:=zaa (zas hi).2.1;obtain⟨bW,oW,rfl,hblW,hcellW⟩:=hcW (by have:=L16.o;omega);obtain⟨bP,oP,rfl,hblP,hcellP⟩:=hcP (by have:=L24.o;omega)
 have HW:Hid (∀ w',zB w w'->∀ n:Nat,n<16->w'.cell? ⟨bW,oW+n*11,none⟩=some (.I (zaj ws n))):=fun w' hb n hn=>by
  have hnl:n<ws.length:=by have:=L16.o;omega
  rw[zbk hnl];exact(hb.cell (p:=⟨bW,oW+n*11,none⟩) hblW).trans (hcellW n hnl).1
 have HP:Hid (∀ w',zB w w'->∀ k (h:k<ps.length),w'.cell? ⟨bP,oP+k*3+2,none⟩=some (.I (zao ps k))):=fun w' hb k hk=>by
  rw[zbn hk];exact(hb.cell (p:=⟨bP,oP+k*3+2,none⟩) hblP).trans (hcellP k hk).2.2
 have HN:=zaa hcL;have CR:=zaa (fun(d:Int) (nm:ByteArray) (k:Nat) (e:zbi ps d nm=some k)=>zef hi e);generalize hres:wk ws ps 0 ns=res;have HRES:=zaa hres;clear hres;clear h1 h2 hcW hcP hcellW hcellP hcL hL hi
 obtain⟨W,hW⟩:=zE (w.alloc (.cells #[.slice (some ⟨bW,oW,none⟩) ws.length cW,.slice (some ⟨bP,oP,none⟩) ps.length cP] 51))
 have CA:Hid (∀ w',zB W w'->w'.cell? ⟨w.heap.size,0,none⟩=some (.slice (some ⟨bW,oW,none⟩) ws.length cW)/\w'.cell? ⟨w.heap.size,1,none⟩=some (.slice (some ⟨bP,oP,none⟩) ps.length cP)):=fun w' hb=>by
  have:w'.heap[w.heap.size]?=some (.cells #[.slice (some ⟨bW,oW,none⟩) ws.length cW,.slice (some ⟨bP,oP,none⟩) ps.length cP] 51 (0,0)):=(hb.block _ (by rw[hW];simp)).trans (by rw[hW];exact zaf rfl);exact⟨(zac this).1,(zac this).2.1⟩
 have BW:Hid (zB w W):=by rw[hW];exact zR.alloc zL _
 have hz:w.heap.size<=W.heap.size:=BW.o.size;go_enter Tryz.func147,Tryz.ntmps147;go_wp2;rw[<- hW];clear hW
 go_loopg [6,7] ns.length (fun g a i wr=>∃ (k:Nat) (z:Nat),k+g=ns.length/\z<16/\a=.I z/\i=.I k/\Hid (zB W wr/\res=wk ws ps z (ns.drop k)))
 case atStart=>exact⟨0,0,by omega,by omega,rfl,rfl,zR,HRES.o.symm⟩
 case round =>
  obtain⟨k,z,hk,hz16,rfl,rfl,J⟩:=hrel;obtain⟨x0,x1⟩:=CA.o wr J.o.1;have B:=zaa (zab BW.o J.o.1 hz);have J1:=zaa J.o.1
  have k0:(0:Int)<=(k:Int):=by omega
  have z0:(0:Int)<=(z:Int):=by omega
  have z1:(z:Int)<(ws.length:Int):=by have:=L16.o;omega
  by_cases hlt:k<ns.length
  ·have k1:(k:Int)<(ns.length:Int):=by omega
   have y0:=HW.o wr B.o z hz16
   have JD:Hid (res=wk ws ps z (ns[k]::ns.drop (k+1))):=by unfold Hid;rw[J.o.2,List.drop_eq_getElem_cons hlt]
   obtain⟨bL,oL,rfl,hblL,hcell⟩:=HN.o (by omega);have n0:=(B.o.cell (p:=⟨bL,oL+k,none⟩) hblL).trans (hcell k hlt);have WN:=zaa (fun(h:¬ zaj ws z=2)=>zkc (ps:=ps) (n:=ns[k]) (ns:=ns.drop (k+1)) h);have WO:=zaa (fun(h:zaj ws z=2) (e:zbi ps z ns[k]=none)=>zoa (ns:=ns.drop (k+1)) h e);have WS:=zaa (fun(h:zaj ws z=2) (j:Nat) (e:zbi ps z ns[k]=some j)=>zno (ns:=ns.drop (k+1)) h e);have EI:=zaa (show zkq ps z ns[k]=match zbi ps z ns[k]with | none=>-1 | some k=>(k:Int)from rfl);have CR2:=zaa (fun(j:Nat) (e:zbi ps z ns[k]=some j)=>CR.o _ _ _ e);have LE2:=zaa (fun w1 (hb:zB wr w1)=>LE.o (z:Int) ns[k] w1 (HR.o.below (zab B.o hb B.o.size)));clear J hcell;generalize zaj ws z=kk at *;clear HRES;generalize ns[k]=nm at *
   by_cases q:kk=2
   case neg =>
    have q1:(kk != 2)=true:=by rw[bne_iff_ne];exact q
    obtain rfl:=JD.o.trans (WN.o q);clear q WN WO WS EI CR2 LE2;go_wp2;go_ret2;exact⟨rfl,B.o⟩
   have q1:(kk != 2)=false:=by rw[q];rfl
   have SK:Hid (∀ w',zB wr w'->(w'.cell? ⟨w.heap.size,0,none⟩=some (.slice (some ⟨bW,oW,none⟩) ws.length cW)/\w'.cell? ⟨w.heap.size,1,none⟩=some (.slice (some ⟨bP,oP,none⟩) ps.length cP))/\w'.cell? ⟨bL,oL+k,none⟩=some (.string nm)):=fun w' hb=>⟨CA.o w' (zab J1.o hb J1.o.size),(hb.cell (p:=⟨bL,oL+k,none⟩) (Nat.lt_of_lt_of_le hblL B.o.size)).trans n0⟩
   cases e:zbi ps z nm with
   | none =>
    have W2:=zaa (JD.o.trans (WO.o q e));rw[e]at EI;obtain rfl:=W2.o;have EI2:Hid (zkq ps z nm=-1):=EI;rw[EI2.o]at LE2;clear q WN WO WS EI CR2 W2 JD e;go_wp2_with fail
    go_region_held3 (fun w'=>(w'.cell? ⟨w.heap.size,0,none⟩=some (.slice (some ⟨bW,oW,none⟩) ws.length cW)/\w'.cell? ⟨w.heap.size,1,none⟩=some (.slice (some ⟨bP,oP,none⟩) ps.length cP))/\w'.cell? ⟨bL,oL+k,none⟩=some (.string nm))
     (exact SK.o _ (by repeat (first | exact BF.o | exact zR | refine Below.drew ?_)))
     (first
      | (go_at_call 198;refine(LE2.o _ (by repeat (first | exact zR | refine Below.drew ?_))).mono ?_;rintro e w1 ⟨rfl,hb1⟩;have BF:Hid (zB wr w1):=(by first | exact hb1 | exact zab (by repeat (first | exact zR | refine Below.drew ?_)) hb1 zL);clear hb1))
    all_goals
     have B3:=zaa (zab B.o BF.o B.o.size);clear SK x0 x1 y0 n0;go_wp2;go_ret2;exact⟨rfl,(by repeat (first | exact B3.o | refine Below.drew ?_))⟩
   | some j =>
    have W2:=zaa (JD.o.trans (WS.o q j e));obtain⟨hj,c1,c2⟩:=CR2.o j e;rw[e]at EI;have EI2:Hid (zkq ps z nm=(j:Int)):=EI;rw[EI2.o]at LE2
    obtain⟨y,hy⟩:∃ y:Nat,zao ps j=(y:Int):=⟨(zao ps j).toNat,by omega⟩
    have HJ:=zaa (fun w' (hb:zB w w')=>HP.o w' hb j hj);rw[hy]at HJ W2
    have y16:y<16:=by omega
    have j0:(0:Int)<=(j:Int):=by omega
    have j1:(j:Int)<(ps.length:Int):=by omega
    have j2:¬ (j:Int)<0:=by omega
    clear q WN WO WS EI CR2 JD e hy c1 c2;go_wp2_with fail
    go_region_held3 (fun w'=>(w'.cell? ⟨w.heap.size,0,none⟩=some (.slice (some ⟨bW,oW,none⟩) ws.length cW)/\w'.cell? ⟨w.heap.size,1,none⟩=some (.slice (some ⟨bP,oP,none⟩) ps.length cP))/\w'.cell? ⟨bL,oL+k,none⟩=some (.string nm))
     (exact SK.o _ (by repeat (first | exact BF.o | exact zR | refine Below.drew ?_)))
     (first
      | (go_at_call 198;refine(LE2.o _ (by repeat (first | exact zR | refine Below.drew ?_))).mono ?_;rintro e w1 ⟨rfl,hb1⟩;have BF:Hid (zB wr w1):=(by first | exact hb1 | exact zab (by repeat (first | exact zR | refine Below.drew ?_)) hb1 zL);clear hb1))
    all_goals
     have B3:=zaa (zab B.o BF.o B.o.size);have B4:=zaa (zab J1.o BF.o J1.o.size);have p1:=(SK.o _ BF.o).1.2;have p2:=HJ.o _ B3.o;clear SK x0 x1 y0 n0;go_wp2
     go_roundg (ns.length-(k+1))
     case measure=>omega
     case rel=>exact⟨k+1,y,by omega,y16,rfl,by go_num,(by repeat (first | exact B4.o | refine Below.drew ?_)),W2.o⟩
  ·obtain rfl:k=ns.length:=by omega
   have E:Hid (res=((z:Int),0)):=by unfold Hid;rw[J.o.2,List.drop_length];rfl
   clear HRES J;obtain rfl:=E.o;go_wp2;go_ret2;exact⟨rfl,B.o⟩
def lkI(ws:List Ino)(ps:List Den)(s:ByteArray):Int×Int:=if spB s=true then wk ws ps 0 (spL s) else(0,12)
def lkR(ws:List Ino)(ps:List Den)(s:ByteArray):Int×Int:=if 65536<s.size then(0,2)else if zbg ws ps=true then lkI ws ps s else(0,1)
def paN(ws:List Ino)(ps:List Den)(xs:List ByteArray)(x:ByteArray):Int×ByteArray×Int:=if (wk ws ps 0 xs).2=0 then(if zaj ws (wk ws ps 0 xs).1=2 then((wk ws ps 0 xs).1,x,0) else(0,⟨#[]⟩,10)) else(0,⟨#[]⟩,(wk ws ps 0 xs).2)
def paL(ws:List Ino)(ps:List Den)(ns:List ByteArray):Int×ByteArray×Int:=if ns=[] then(0,⟨#[]⟩,19)else paN ws ps ns.dropLast (ns.getLastD ⟨#[]⟩)
def paI(ws:List Ino)(ps:List Den)(s:ByteArray):Int×ByteArray×Int:=if spB s=true then paL ws ps (spL s) else(0,⟨#[]⟩,12)
def paR(ws:List Ino)(ps:List Den)(s:ByteArray):Int×ByteArray×Int:=if 65536<s.size then(0,⟨#[]⟩,2)else if zbg ws ps=true then paI ws ps s else(0,⟨#[]⟩,1)
theorem zxa(ws:List Ino)(ps:List Den)(xs:List ByteArray)(x:ByteArray):paL ws ps (xs++[x])=paN ws ps xs x:=by
 unfold paL;rw[if_neg (by simp),List.dropLast_concat]
 congr 1
 simp
theorem yadl{ns:List ByteArray}(h:¬ ns=[]):∃ xs x,ns=xs++[x]:=⟨ns.dropLast,ns.getLast h,(List.dropLast_concat_getLast h).symm⟩
theorem zfu(v:Value)(ws:List Ino)(ps:List Den)(s:ByteArray)(w:World)(h:RdIm w v ws ps)(hi:zbg ws ps=true)(hs:s.size<=65536) :
  zC 78 #[v,.string s] w fun e w'=>e=.returned (.tuple #[.I (lkI ws ps s).1,.I (lkI ws ps s).2])/\zB w w':=by
 have HR:=zaa h;have LS:=zaa (fun w1=>zoo s w1 hs);have LW:=zaa (fun vL w1 h hL=>zqz v vL ws ps (spL s) w1 h hL hi (by have:=@zvh s;omega));have EL:=zaa (show lkI ws ps s=if spB s=true then wk ws ps 0 (spL s) else(0,12)from rfl);obtain⟨vW,vP,rfl,h1,h2⟩:=h;obtain⟨aW,cW,rfl,_,_⟩:=h1.shape;obtain⟨aP,cP,rfl,_,_⟩:=h2.shape;clear h1 h2 hi
 have CA:Hid (∀ w',Below (w.alloc (.cells #[.slice aW ws.length cW,.slice aP ps.length cP] 51)).heap.size (w.alloc (.cells #[.slice aW ws.length cW,.slice aP ps.length cP] 51)) w'->w'.cell? ⟨w.heap.size,0,none⟩=some (.slice aW ws.length cW)/\w'.cell? ⟨w.heap.size,1,none⟩=some (.slice aP ps.length cP)):=fun w' hb=>by
  have:w'.heap[w.heap.size]?=some (.cells #[.slice aW ws.length cW,.slice aP ps.length cP] 51 (0,0)):=(hb.block _ (by simp)).trans (zaf rfl);exact⟨(zac this).1,(zac this).2.1⟩
 have BW:Hid (zB w (w.alloc (.cells #[.slice aW ws.length cW,.slice aP ps.length cP] 51))):=zR.alloc zL _;generalize lkI ws ps s=res at *;generalize wk ws ps 0 (spL s)=rw0 at *
 cases c:spB s with
 | false =>
  rw[c]at LS EL;obtain rfl:=EL.o;clear EL LW;go_enter Tryz.func78,Tryz.ntmps78;go_wp2_with fail;refine(LS.o _).mono ?_;rintro e w1 ⟨v1,rfl,hr1,hb1⟩;have B1:=zaa (zab BW.o hb1 BW.o.size);clear hr1 hb1;go_wp2;go_ret2;exact⟨rfl,B1.o⟩
 | true =>
  rw[c]at LS EL;obtain rfl:res=rw0:=EL.o;clear EL;go_enter Tryz.func78,Tryz.ntmps78;go_wp2_with fail;refine(LS.o _).mono ?_;rintro e w1 ⟨v1,rfl,hr1,hb1⟩;have B1:=zaa (zab BW.o hb1 BW.o.size);obtain⟨x0,x1⟩:=CA.o _ hb1;have R1:=zaa hr1;clear hr1 hb1;go_wp2_with fail;refine(LW.o _ _ (HR.o.below B1.o) R1.o).mono ?_;rintro e w2 ⟨rfl,hb2⟩;have B2:=zaa (zab B1.o hb2 B1.o.size);clear hb2 x0 x1;go_wp2;go_ret2;exact⟨rfl,B2.o⟩
def zba(p:Nat->Bool)(n:Nat):Int:=match (List.range n).find? p with | some i=>(i:Int) | none=>-1
theorem zgt{p:Nat->Bool}{n k:Nat}(hk:k<n)(h:∀ j,j<k->p j=false)(e:p k=true):zba p n=(k:Int):=by
 have:(List.range n).find? p=some k:=List.find?_range_eq_some.2 ⟨e,List.mem_range.2 hk,fun j hj=>by rw[h j hj];rfl⟩;unfold zba;rw[this]
theorem zek{p:Nat->Bool}{n:Nat}(h:∀ j,j<n->p j=false):zba p n=-1:=by
 have:(List.range n).find? p=none:=List.find?_eq_none.2 (fun j hj=>by rw[h j (List.mem_range.1 hj)];decide);unfold zba;rw[this]
theorem zdb(p:Nat->Bool)(n:Nat):-1<=zba p n/\zba p n<n:=by
 unfold zba
 split
 ·rename_i i h;have:=List.mem_range.1 (List.mem_of_find?_eq_some h);omega
 ·omega
theorem yacl{p q:Nat->Bool}{n:Nat}(h:∀ j,j<n->p j=q j):zba p n=zba q n:=by
 rcases Classical.em (∃ k,k<n/\p k=true/\∀ j,j<k->p j=false)with ⟨k,hk,e,f⟩ | hn
 ·rw[zgt hk f e,zgt hk (fun j hj=>by rw[<- h j (by omega)];exact f j hj) (by rw[<- h k hk];exact e)]
 ·have a:∀ m,m<=n->∀ j,j<m->p j=false:=by
   intro m
   induction m with
   | zero=>intro _ j hj;omega
   | succ m ih =>
    intro hm j hj
    by_cases e:j=m
    ·subst e
     cases hp:p j with
     | false=>rfl
     | true=>exact absurd ⟨j,by omega,hp,ih (by omega)⟩ hn
    ·exact ih (by omega) j (by omega)
  rw[zek (a n zL),zek (fun j hj=>by rw[<- h j hj];exact a n zL j hj)]
def zhh(r:Int):Int:=if r<0 then 0 else r
def zhf(r:Int):Int:=if r<0 then 7 else 0
def ubC(b:Bool)(t:Int):Int:=if b=true then(if t=1\/t=2 then 0 else 4)else 1
def ubL(b:Bool)(ms:List Int)(t:Int):List Int:=if b=true/\(t=1\/t=2)then zay ms t else[]
theorem zfj{ws:List Ino}{ps:List Den}(h:zbg ws ps=true):ws.length=16/\ps.length=24/\zaj ws 0=2/\okNs ws=true:=by
 unfold zbg at h;simp only[Bool.and_eq_true,decide_eq_true_eq,beq_iff_eq]at h;exact⟨h.1,h.2.1,h.2.2.1,h.2.2.2.1⟩
theorem yapr{l:List Int}{t:Int}{k:Nat}(hk:k<l.length):zay (l.take (k+1)) t=if l[k]%4=t then zay (l.take k) t++[l[k]/4]else zay (l.take k) t:=by
 unfold zay;rw[List.take_succ_eq_append_getElem hk,List.filter_append,List.map_append]
 by_cases h:l[k]%4=t
 ·rw[if_pos h];simp[h]
 ·rw[if_neg h];simp[h]
theorem zsy(v:Value)(ws:List Ino)(ps:List Den)(t:Int)(w:World)(h:RdIm w v ws ps)(hw:ws.length<=1048576)(hp:ps.length<=1048576)(hT:TS w)(hE:ED w)(hF:FD w)(hr:∀ k (h:k<ws.length),ws[k].R)(hs:∀ k (h:k<ps.length),ps[k].name.size<=maxLen) :
  zC 246 #[v,.I t] w fun e w'=>∃ v',e=.returned (.tuple #[v',.I (ubC (zbg ws ps) t)])/\Row w' 3 1 w.heap.size w'.heap.size v' (ubL (zbg ws ps) (zam ws) t).length (zeg (ubL (zbg ws ps) (zam ws) t))/\zB w w':=by
 have LI:=zaa (fun w1 (hb:zB w w1)=>zby v ws ps w1 (h.below hb) hw hp (hT.below hb) (hE.below hb) (hF.below hb) hr hs);have T:=zaa hT;obtain⟨vW,vP,rfl,h1,h2⟩:=h;have RW:=zaa h1;obtain⟨aW,cW,rfl,_,_⟩:=h1.shape;obtain⟨aP,cP,rfl,_,_⟩:=h2.shape;have LM:=zaa (fun w1 (hb:zB w w1) (hl:ws.length<=4096)=>zhm (.slice aW ws.length cW) ws w1 (Rd.below RW.o hb) hl);clear h1 h2 hr hs hT hE hF
 have CA:Hid (∀ w',Below (w.alloc (.cells #[.slice aW ws.length cW,.slice aP ps.length cP] 51)).heap.size (w.alloc (.cells #[.slice aW ws.length cW,.slice aP ps.length cP] 51)) w'->w'.cell? ⟨w.heap.size,0,none⟩=some (.slice aW ws.length cW)/\w'.cell? ⟨w.heap.size,1,none⟩=some (.slice aP ps.length cP)):=fun w' hb=>by
  have:w'.heap[w.heap.size]?=some (.cells #[.slice aW ws.length cW,.slice aP ps.length cP] 51 (0,0)):=(hb.block _ (by simp)).trans (zaf rfl);exact⟨(zac this).1,(zac this).2.1⟩
 have BW:Hid (zB w (w.alloc (.cells #[.slice aW ws.length cW,.slice aP ps.length cP] 51))):=zR.alloc zL _;obtain⟨x0,x1⟩:=CA.o _ zR
 cases c1:zbg ws ps with
 | false =>
  rw[c1]at LI;rw[show ubC false t=1 from rfl,show ubL false (zam ws) t=[]from if_neg (fun h=>by cases h.1)];clear c1;go_enter Tryz.func246,Tryz.ntmps246;go_wp2_with fail;refine(LI.o _ BW.o).mono ?_;rintro e w1 ⟨rfl,hb1⟩;have B1:=zaa (zab BW.o hb1 BW.o.size);clear hb1 x0 x1;go_wp2;go_ret2;exact⟨_,rfl,Row.nil _ _ _ _ _,B1.o⟩
 | true =>
 rw[c1]at LI
 by_cases c2:t=1\/t=2
 case neg =>
  rw[show ubC true t=4 by unfold ubC;rw[if_pos rfl,if_neg c2],show ubL true (zam ws) t=[]from if_neg (fun h=>c2 h.2)]
  have q1:(t != 1)=true:=by rw[bne_iff_ne];exact fun e=>c2 (.inl e)
  have q2:(t != 2)=true:=by rw[bne_iff_ne];exact fun e=>c2 (.inr e)
  clear c1 c2;go_enter Tryz.func246,Tryz.ntmps246;go_wp2_with fail;refine(LI.o _ BW.o).mono ?_;rintro e w1 ⟨rfl,hb1⟩;have B1:=zaa (zab BW.o hb1 BW.o.size);clear hb1 x0 x1;go_wp2;go_ret2;exact⟨_,rfl,Row.nil _ _ _ _ _,B1.o⟩
 rw[show ubC true t=0 by unfold ubC;rw[if_pos rfl,if_pos c2],show ubL true (zam ws) t=zay (zam ws) t from if_pos ⟨rfl,c2⟩];have HL:=zaa (show ws.length<=4096 by have:=(zfj c1).1;omega)
 have ml:(zam ws).length<=128:=by have:=zfz ws;have:=(zfj c1).1;omega
 have TI:Hid (∀ k (h:k<(zam ws).length),zer (zam ws)[k]=true):=fun k hk=>by
  have hm:=List.getElem_mem hk;generalize (zam ws)[k]=e at hm ⊢;unfold zam at hm;obtain⟨x,hx,he⟩:=List.mem_flatMap.1 hm;obtain⟨i,hi,rfl⟩:=List.getElem_of_mem hx;unfold zdw at he;exact zrc (zfj c1).2.2.2 i hi e (List.mem_filter.1 he).1
 have qq:((t != 1)=false\/((t != 1)=true/\(t != 2)=false)):=by rcases c2 with rfl|rfl<;>simp
 have TB:-10<=t/\t<=10:=by omega
 clear c1 c2;generalize zam ws=ms at *
 rcases qq with q1 | ⟨q1,q2⟩
 all_goals
  go_enter Tryz.func246,Tryz.ntmps246;go_wp2_with fail;refine(LI.o _ BW.o).mono ?_;rintro e w1 ⟨rfl,hb1⟩;have B1:=zaa (zab BW.o hb1 BW.o.size);clear x0 x1;obtain⟨x0,x1⟩:=CA.o _ hb1;clear hb1;go_wp2_with fail;refine(LM.o _ B1.o HL.o).mono ?_;rintro e w2 ⟨v2,rfl,hr2,hb2⟩;obtain⟨-,aM,cM,hvM,-⟩:=hr2.rd;subst hvM;have R2:Hid (RdI w2 (.slice aM ms.length cM) ms):=hr2.rd;have B2:=zaa (zab B1.o hb2 B1.o.size);have hz2:w.heap.size<=w2.heap.size:=B2.o.size;obtain⟨aZ,cZ,eZ,_,hcZ⟩:=R2.o.shape;have HZ:=zaa hcZ
  obtain⟨rfl,rfl⟩:aZ=aM/\cZ=cM:=by cases eZ;exact⟨rfl,rfl⟩
  clear eZ hcZ hr2 hb2 x0 x1;go_wp2
  go_loopw [6,8,9,10,11,25] (fun vL _ _ _ _ i wr=>∃ k:Nat,k<=ms.length/\i=.I k/\Hid (InI w2 wr vL (zay (ms.take k) t))/\w2.heap.size<=wr.heap.size) (fun _ _ _ _ _ i _=>ms.length-(intOf i).toNat)
  case atStart=>exact⟨0,by omega,rfl,⟨World.ownsRow_nil _ _ _ _,zR⟩,Nat.le_refl _⟩
  case round =>
   obtain⟨k,hk,rfl,I,hz⟩:=hrel
   by_cases hlt:k<ms.length
   ·obtain⟨b,o,rfl,hbl,hcell⟩:=HZ.o (by omega);have hck:=(I.o.b.cell (p:=⟨b,o+k,none⟩) hbl).trans (hcell k hlt)
    have k0:(0:Int)<=(k:Int):=by omega
    have k1:(k:Int)<(ms.length:Int):=by omega
    have US:=zaa (yapr (t:=t) hlt);have UL:=zhu (ms.take k) t;rw[List.length_take]at UL;obtain⟨t1,t2,t3⟩:=zuu (TI.o k hlt);have t4:=zeq (TI.o k hlt);have LT:=zaa (fun w3 (hT:TS w3)=>zfd ms[k] w3 hT (by omega) (by omega));rw[t1,t2,t3]at LT;have TW:=zaa (T.o.below (zab B2.o I.o.b hz2));clear hcell t1 t2 t3;generalize ms[k]=z at hck US LT t4
    by_cases r:z%4=t
    ·have r':(z%4 == t)=true:=by rw[beq_iff_eq];exact r
     have JB:Hid (InI w2 (wr.alloc (.cells #[.I (z/4)] 3)) u6 (zay (ms.take k) t)):=I.o.below (zR.alloc zL _);have RB:=zaa (yafv wr (z/4));have hzb:=JB.o.z
     have MN:Hid (zay (ms.take (k+1)) t=zay (ms.take k) t++[z/4]):=by unfold Hid;rw[US.o,if_pos r]
     clear r I US
     go_wp2_with (first
      | (go_at_call 120;refine(LT.o _ TW.o).mono ?_;rintro e w' ⟨rfl,rfl⟩)
      | (at_builtin;refine zae _ rfl (.tmp 38) (.tmp 40) 23 rfl w2.heap.size 3 (.I 0) 1 8 Tryz.underlying23 zmo rfl (by decide) _ _ _ rfl JB.o.l _ 1 _ rfl RB.o (zvw _) (by simp[maxLen];omega) (by omega) (by omega) ?_))
     intro vN wN hownN hgrN;have G:=zaa (JB.o.grow (z/4) hownN hgrN);rw[<- MN.o]at G;have hzN:=G.o.z;clear hownN hgrN JB RB;go_wp2
     go_roundw
     case rel=>exact⟨k+1,by omega,by go_num,G,hzN⟩
     case measure=>simp[intOf];omega
    ·have r':(z%4 == t)=false:=by rw[beq_eq_false_iff_ne];exact r
     have G:Hid (InI w2 wr u6 (zay (ms.take (k+1)) t)):=by unfold Hid;rw[US.o,if_neg r];exact I.o
     clear r I US;go_wp2_with (go_at_call 120;refine(LT.o _ TW.o).mono ?_;rintro e w' ⟨rfl,rfl⟩)
     go_roundw
     case rel=>exact⟨k+1,by omega,by go_num,G,hz⟩
     case measure=>simp[intOf];omega
   ·obtain rfl:k=ms.length:=by omega
    have E:=zaa (show zay (ms.take ms.length) t=zay ms t by rw[List.take_length]);rw[E.o]at I;obtain⟨-,aL,cL,hvL,-⟩:=(zad I.o.l).rd;subst hvL;go_wp2;go_ret2;exact⟨_,rfl,(zad I.o.l).wide hz2 zL,zab B2.o I.o.b hz2⟩
end Go.Proofs.YtogcbbkhnpmgeaaGreatDoor
