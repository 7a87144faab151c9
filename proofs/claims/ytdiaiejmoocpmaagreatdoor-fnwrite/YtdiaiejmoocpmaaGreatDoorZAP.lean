import Derived.Test.YtdiaiejmoocpmaaGreatDoorZAO
namespace Go.Proofs.YtdiaiejmoocpmaaGreatDoor
open Go.RowKit
def wdI(ls:List Int)(z:Int):Int:=ls.getD z.toNat 0
theorem yavu{ls:List Int}{n:Nat}(h:n<ls.length):wdI ls (n:Int)=ls[n]:=by
 unfold wdI;rw[Int.toNat_natCast,List.getD_eq_getElem?_getD,List.getElem?_eq_getElem h];rfl
def zej(ls:List Int)(i:Nat):Ino:=⟨wdI ls (48+12*(i:Int)),wdI ls (48+12*(i:Int)+1),wdI ls (48+12*(i:Int)+2),wdI ls (48+12*(i:Int)+3),wdI ls (48+12*(i:Int)+4),wdI ls (48+12*(i:Int)+5),wdI ls (48+12*(i:Int)+6),wdI ls (48+12*(i:Int)+7),wdI ls (48+12*(i:Int)+8),wdI ls (48+12*(i:Int)+9),wdI ls (48+12*(i:Int)+10)⟩
def zgi(ls:List Int)(k:Nat):Den:=if wdI ls (240+3*(k:Int)+2)=0 then⟨0,⟨#[]⟩,-1⟩ else⟨wdI ls (240+3*(k:Int)),zxl (wdI ls (240+3*(k:Int)+1)),wdI ls (240+3*(k:Int)+2)-1⟩
def zby(ls:List Int)(k:Nat):Bool:=if wdI ls (240+3*(k:Int)+2)=0 then wdI ls (240+3*(k:Int)) == 0&&wdI ls (240+3*(k:Int)+1) == 0 else zgy (wdI ls (240+3*(k:Int)+1))
def zbc(ls:List Int)(n:Nat):List Ino:=(List.range n).map (zej ls)
def zbh(ls:List Int)(n:Nat):List Den:=(List.range n).map (zgi ls)
def zch(ls:List Int)(n:Nat):Bool:=(List.range n).all (zby ls)
theorem zrw(ls:List Int)(n:Nat):zbc ls (n+1)=zbc ls n++[zej ls n]:=by unfold zbc;rw[List.range_succ,List.map_append];rfl
theorem zlb(ls:List Int)(n:Nat):zbh ls (n+1)=zbh ls n++[zgi ls n]:=by unfold zbh;rw[List.range_succ,List.map_append];rfl
theorem zbw(ls:List Int)(n:Nat):(zbc ls n).length=n:=by simp[zbc]
theorem zbm(ls:List Int)(n:Nat):(zbh ls n).length=n:=by simp[zbh]
theorem zjq{ls:List Int}{n k:Nat}(hk:k<n)(h:zby ls k=false):zch ls n=false:=by
 unfold zch;rw[List.all_eq_false];exact⟨k,List.mem_range.2 hk,by rw[h];simp⟩
theorem zhr{ls:List Int}{n:Nat}(h:∀ k,k<n->zby ls k=true):zch ls n=true:=by
 unfold zch;rw[List.all_eq_true];intro k hk;exact h k (List.mem_range.1 hk)
def riB(ls:List Int):Bool:=wdI ls 0 == 7&&(zch ls 24&&zck (zbc ls 16) (zbh ls 24))
def riC(ws:List Int)(ps:List St):Int:=if pmB ws ps=true then(if riB (zbs ws ps)=true then 0 else 3)else 1
def riN(ws:List Int)(ps:List St):List Ino:=if riC ws ps=0 then zbc (zbs ws ps) 16 else[]
def riD(ws:List Int)(ps:List St):List Den:=if riC ws ps=0 then zbh (zbs ws ps) 24 else[]
theorem yaqu{ws:List Int}{ps:List St}(h:pmB ws ps=true):∀ k (h:k<(zbs ws ps).length),zat (zbs ws ps)[k]=true:=by
 have h1:=yaex h
 have h2:∀ p∈ps,zat p.val=true:=fun p hp=>by
  obtain⟨i,hi,rfl⟩:=List.getElem_of_mem hp;exact(zmy h i hi).2
 clear h
 have gen:∀ (ps:List St) (ws:List Int),(∀ x∈ws,zat x=true)->(∀ p∈ps,zat p.val=true)->∀ x∈zbs ws ps,zat x=true:=by
  intro ps
  induction ps with
  | nil=>intro ws h _ x hx;exact h x hx
  | cons p ps ih =>
   intro ws h1 h2 x hx;refine ih (ws.set p.at_.toNat p.val) (fun y hy=>?_) (fun q hq=>h2 q (List.mem_cons_of_mem _ hq)) x hx
   rcases List.mem_or_eq_of_mem_set hy with hy | hy
   ·exact h1 y hy
   ·rw[hy];exact h2 p (List.mem_cons_self ..)
 intro k hk;exact gen ps ws (fun x hx=>by obtain⟨i,hi,rfl⟩:=List.getElem_of_mem hx;exact h1 i hi) h2 _ (List.getElem_mem hk)
theorem zqp{ws:List Int}{ps:List St}(h:pmB ws ps=true)(z:Int):0<=wdI (zbs ws ps) z/\wdI (zbs ws ps) z<1099511627776:=by
 unfold wdI;rw[List.getD_eq_getElem?_getD]
 by_cases c:z.toNat<(zbs ws ps).length
 ·rw[List.getElem?_eq_getElem c];have:=yaqu h _ c;unfold zat at this;simp at this;simpa using this
 ·rw[List.getElem?_eq_none (by omega)];exact⟨by simp,by simp⟩
theorem yayt{ws:List Int}{ps:List St}(h:pmB ws ps=true)(i:Nat):(zej (zbs ws ps) i).R:=by
 intro z hz
 have all:∀ y,-9223372036854775808<=wdI (zbs ws ps) y/\wdI (zbs ws ps) y<=9223372036854775807:=fun y=>by have:=zqp h y;omega
 simp only[Ino.map,zej,List.mem_cons,List.not_mem_nil,or_false]at hz
 rcases hz with rfl|rfl|rfl|rfl|rfl|rfl|rfl|rfl<;>exact all _
theorem yaug(n:Int):(zxl n).size<=6:=by
 unfold zxl
 split
 ·rename_i h;have:=(of_decide_eq_true h).2.2
  show((zsu n.toNat).map fun d=>UInt8.ofNat (96+d)).toArray.size<=6
  simpa using this
 ·exact Nat.zero_le _
theorem yahg(ls:List Int)(k:Nat):(zgi ls k).name.size<=maxLen:=by
 unfold zgi
 split
 ·exact Nat.zero_le _
 ·have:=yaug (wdI ls (240+3*(k:Int)+1))
  show(zxl _).size<=maxLen
  unfold maxLen;omega
theorem yavt(v:Value)(ws:List Int)(ps:List St)(z:Int)(w:World)(h:RdPm w v ws ps)(hp:pmB ws ps=true)(h0:0<=z/\z<336) :
  zC 115 #[v,.I z] w fun e w'=>e=.returned (.I (wdI (zbs ws ps) z))/\zB w w':=by
 obtain⟨n,rfl⟩:∃ n:Nat,z=(n:Int):=⟨z.toNat,by omega⟩
 obtain⟨l1,l2⟩:=zfh hp
 have hn:n<ws.length:=by omega
 rw[yavu (by rw[zcp];exact hn),yald ps ws n hn (fun p hq=>by obtain⟨i,hi,rfl⟩:=List.getElem_of_mem hq;exact(yali hp i hi).1)];exact zqf v ws ps n w h (by omega) (by omega) hn
def zdl(ls:List Int)(us:List Se):List Int:=us.foldl (fun l u=>l.set u.at_.toNat u.val) ls
theorem yaqe(ls:List Int):zdl ls []=ls:=rfl
theorem zlw(ls:List Int)(u:Se)(us:List Se):zdl ls (u::us)=zdl (ls.set u.at_.toNat u.val) us:=rfl
theorem znd(ls:List Int)(us vs:List Se):zdl ls (us++vs)=zdl (zdl ls us) vs:=by unfold zdl;rw[List.foldl_append]
theorem zgu(us:List Se):∀ (ls:List Int),(zdl ls us).length=ls.length:=by
 induction us with
 | nil=>intro ls;rfl
 | cons u us ih=>intro ls;rw[zlw,ih,List.length_set]
theorem zfa{ls:List Int}{a z v:Int}(ha:0<=a)(hl:a<(ls.length:Int))(hz:0<=z):wdI (ls.set a.toNat v) z=if z=a then v else wdI ls z:=by
 unfold wdI;rw[List.getD_eq_getElem?_getD,List.getD_eq_getElem?_getD,List.getElem?_set]
 by_cases e:z=a
 ·rw[if_pos e,e,if_pos rfl,if_pos (by omega)];rfl
 ·rw[if_neg e,if_neg (by omega)]
theorem zgo{z:Int}(hz:0<=z):∀ (us:List Se) (ls:List Int),(∀ u∈us,0<=u.at_/\u.at_<(ls.length:Int)/\¬ u.at_=z)->wdI (zdl ls us) z=wdI ls z:=by
 intro us
 induction us with
 | nil=>intro ls _;rfl
 | cons u us ih =>
  intro ls h;rw[zlw,ih _ (fun v hv=>by rw[List.length_set];exact h v (List.mem_cons_of_mem _ hv))];obtain⟨a,b,c⟩:=h u (List.mem_cons_self ..);rw[zfa a b hz,if_neg (fun e=>c e.symm)]
def UpIn(us:List Se):Prop:=∀ u∈us,48<=u.at_/\u.at_<312
theorem UpIn.app{us vs:List Se}(h:UpIn us)(k:UpIn vs):UpIn (us++vs):=fun u hu=>by
 rcases List.mem_append.1 hu with q | q
 ·exact h u q
 ·exact k u q
theorem zvx{ls:List Int}{us:List Se}{i:Nat}{x:Ino}(hl:ls.length=336)(ui:UpIn us)(hi:i<16)(hx:zej (zdl ls us) i=x)(ho:∀ j:Nat,j<16->¬ j=i->∀ u∈us,¬ (48+12*(j:Int)<=u.at_/\u.at_<48+12*(j:Int)+11)):zbc (zdl ls us) 16=(zbc ls 16).set i x:=by
 apply List.ext_getElem?;intro j;rw[List.getElem?_set];unfold zbc;rw[List.length_map,List.length_range,List.getElem?_map,List.getElem?_map]
 by_cases hj:j<16
 ·rw[List.getElem?_range hj]
  by_cases e:i=j
  ·rw[if_pos e,if_pos (by omega),<- e]
   show some (zej (zdl ls us) i)=some x
   rw[hx]
  ·rw[if_neg e]
   show some (zej (zdl ls us) j)=some (zej ls j)
   have W:∀ z,48+12*(j:Int)<=z/\z<48+12*(j:Int)+11->wdI (zdl ls us) z=wdI ls z:=fun z hz=>zgo (by omega) us ls (fun u hu=>by
    have a:=ui u hu;have b:=ho j hj (fun q=>e q.symm) u hu;refine⟨by omega,by omega,?_⟩;intro q
    exact b (by omega))
   unfold zej;rw[W _ (by omega),W _ (by omega),W _ (by omega),W _ (by omega),W _ (by omega),W _ (by omega),W _ (by omega),W _ (by omega),W _ (by omega),W _ (by omega),W _ (by omega)]
 ·rw[List.getElem?_eq_none (by simp;omega)]
  by_cases e:i=j
  ·omega
  ·rw[if_neg e];rfl
theorem zwh{ls:List Int}{us:List Se}{k:Nat}{x:Den}(hl:ls.length=336)(ui:UpIn us)(hk:k<24)(hx:zgi (zdl ls us) k=x)(ho:∀ j:Nat,j<24->¬ j=k->∀ u∈us,¬ (240+3*(j:Int)<=u.at_/\u.at_<240+3*(j:Int)+3)):zbh (zdl ls us) 24=(zbh ls 24).set k x:=by
 apply List.ext_getElem?;intro j;rw[List.getElem?_set];unfold zbh;rw[List.length_map,List.length_range,List.getElem?_map,List.getElem?_map]
 by_cases hj:j<24
 ·rw[List.getElem?_range hj]
  by_cases e:k=j
  ·rw[if_pos e,if_pos (by omega),<- e]
   show some (zgi (zdl ls us) k)=some x
   rw[hx]
  ·rw[if_neg e]
   show some (zgi (zdl ls us) j)=some (zgi ls j)
   have W:∀ z,240+3*(j:Int)<=z/\z<240+3*(j:Int)+3->wdI (zdl ls us) z=wdI ls z:=fun z hz=>zgo (by omega) us ls (fun u hu=>by
    have a:=ui u hu;have b:=ho j hj (fun q=>e q.symm) u hu;refine⟨by omega,by omega,?_⟩;intro q
    exact b (by omega))
   unfold zgi;rw[W _ (by omega),W _ (by omega),W _ (by omega)]
 ·rw[List.getElem?_eq_none (by simp;omega)]
  by_cases e:k=j
  ·omega
  ·rw[if_neg e];rfl
theorem yakv{ls:List Int}{us:List Se}(hl:ls.length=336)(ui:UpIn us)(ho:∀ u∈us,u.at_<240):zbh (zdl ls us) 24=zbh ls 24:=by
 have q:=zwh (k:=0) (x:=zgi (zdl ls us) 0) hl ui (by omega) rfl (fun j _ _ u hu=>by have:=ho u hu;omega);rw[q]
 have W:∀ z,240<=z->wdI (zdl ls us) z=wdI ls z:=fun z hz=>zgo (by omega) us ls (fun u hu=>by
  have a:=ui u hu;have b:=ho u hu
  exact⟨by omega,by omega,by omega⟩)
 have e:zgi (zdl ls us) 0=zgi ls 0:=by
  unfold zgi;rw[W _ (by omega),W _ (by omega),W _ (by omega)]
 rw[e];rfl
theorem yapq{ls:List Int}{us:List Se}(hl:ls.length=336)(ui:UpIn us)(ho:∀ u∈us,240<=u.at_):zbc (zdl ls us) 16=zbc ls 16:=by
 have q:=zvx (i:=0) (x:=zej (zdl ls us) 0) hl ui (by omega) rfl (fun j _ _ u hu=>by have:=ho u hu;omega);rw[q]
 have W:∀ z,48<=z/\z<240->wdI (zdl ls us) z=wdI ls z:=fun z hz=>zgo (by omega) us ls (fun u hu=>by
  have a:=ui u hu;have b:=ho u hu
  exact⟨by omega,by omega,by omega⟩)
 have e:zej (zdl ls us) 0=zej ls 0:=by
  unfold zej;rw[W _ (by omega),W _ (by omega),W _ (by omega),W _ (by omega),W _ (by omega),W _ (by omega),W _ (by omega),W _ (by omega),W _ (by omega),W _ (by omega),W _ (by omega)]
 rw[e];rfl
theorem yaes{ls:List Int}{us:List Se}{k:Nat}(hl:ls.length=336)(ui:UpIn us)(h:zch ls 24=true)(hk:zby (zdl ls us) k=true)(ho:∀ j:Nat,j<24->¬ j=k->∀ u∈us,¬ (240+3*(j:Int)<=u.at_/\u.at_<240+3*(j:Int)+3)):zch (zdl ls us) 24=true:=by
 unfold zch at h;rw[List.all_eq_true]at h
 refine zhr fun j hj=>?_
 by_cases e:j=k
 ·rw[e];exact hk
 ·have g:=h j (List.mem_range.2 hj)
  have W:∀ z,240+3*(j:Int)<=z/\z<240+3*(j:Int)+3->wdI (zdl ls us) z=wdI ls z:=fun z hz=>zgo (by omega) us ls (fun u hu=>by
   have a:=ui u hu;have b:=ho j hj e u hu;refine⟨by omega,by omega,?_⟩;intro q
   exact b (by omega))
  unfold zby at g ⊢;rw[W _ (by omega),W _ (by omega),W _ (by omega)];exact g
theorem yapb{ls:List Int}{us:List Se}(hl:ls.length=336)(ui:UpIn us)(h:zch ls 24=true)(ho:∀ u∈us,u.at_<240):zch (zdl ls us) 24=true:=by
 unfold zch at h;rw[List.all_eq_true]at h
 refine zhr fun j hj=>?_
 have g:=h j (List.mem_range.2 hj)
 have W:∀ z,240<=z->wdI (zdl ls us) z=wdI ls z:=fun z hz=>zgo (by omega) us ls (fun u hu=>by
  have a:=ui u hu;have b:=ho u hu
  exact⟨by omega,by omega,by omega⟩)
 unfold zby at g ⊢;rw[W _ (by omega),W _ (by omega),W _ (by omega)];exact g
theorem yauk{ls:List Int}{k:Nat}{x:Den}{us:List Se}(hl:ls.length=336)(hk:k<24)(ui:UpIn us)(ho:∀ u∈us,¬ (240+3*(k:Int)<=u.at_/\u.at_<240+3*(k:Int)+3)) :
  wdI (zdl ls (enL (k:Int) x++us)) (240+3*(k:Int))=x.dir/\wdI (zdl ls (enL (k:Int) x++us)) (240+3*(k:Int)+1)=((pk x.name x.name.size:Nat):Int)/\wdI (zdl ls (enL (k:Int) x++us)) (240+3*(k:Int)+2)=x.child+1:=by
 have W:∀ z,240+3*(k:Int)<=z/\z<240+3*(k:Int)+3->wdI (zdl ls (enL (k:Int) x++us)) z=wdI (zdl ls (enL (k:Int) x)) z:=fun z hz=>by
  rw[znd];refine zgo (by omega) us _ (fun u hu=>?_);have a:=ui u hu;have b:=ho u hu;rw[zgu];refine⟨by omega,by omega,?_⟩;intro q;exact b (by omega)
 rw[W _ (by omega),W _ (by omega),W _ (by omega)];unfold enL;simp only[zlw,yaqe]
 have l2:(240+3*(k:Int)+2)<(336:Int):=by omega
 refine⟨?_,?_,?_⟩
 ·rw[zfa (by omega) (by simp only[List.length_set];omega) (by omega),if_neg (by omega),zfa (by omega) (by simp only[List.length_set];omega) (by omega),if_neg (by omega),zfa (by omega) (by omega) (by omega),if_pos rfl]
 ·rw[zfa (by omega) (by simp only[List.length_set];omega) (by omega),if_neg (by omega),zfa (by omega) (by simp only[List.length_set];omega) (by omega),if_pos rfl]
 ·rw[zfa (by omega) (by simp only[List.length_set];omega) (by omega),if_pos rfl]
theorem zur{ls:List Int}{k:Nat}{x:Den}{us:List Se}(hl:ls.length=336)(hk:k<24)(ui:UpIn us)(ho:∀ u∈us,¬ (240+3*(k:Int)<=u.at_/\u.at_<240+3*(k:Int)+3))(hx:x=freeD\/(0<=x.child/\nmB x.name=true)) :
  zgi (zdl ls (enL (k:Int) x++us)) k=x/\zby (zdl ls (enL (k:Int) x++us)) k=true:=by
 obtain⟨a,b,c⟩:=yauk (x:=x) hl hk ui ho;unfold zgi zby;rw[a,b,c]
 rcases hx with rfl | ⟨h0,hn⟩
 ·exact⟨rfl,rfl⟩
 ·have p:=(yafq hn).1;obtain⟨g,s⟩:=yasa hn;rw[p]at g s;rw[if_neg (by omega),if_neg (by omega),s];refine⟨?_,g⟩;obtain⟨d,n,ch⟩:=x
  show Den.mk d n (ch+1-1)=_
  congr 1
  omega
theorem zrq{k:Nat}(hk:k<24)(x:Den):UpIn (enL (k:Int) x):=fun u hu=>by
 simp only[enL,List.mem_cons,List.not_mem_nil,or_false]at hu
 rcases hu with rfl|rfl|rfl
 ·exact⟨by show 48<=240+3*(k:Int);omega,by show 240+3*(k:Int)<312;omega⟩
 ·exact⟨by show 48<=240+3*(k:Int)+1;omega,by show 240+3*(k:Int)+1<312;omega⟩
 ·exact⟨by show 48<=240+3*(k:Int)+2;omega,by show 240+3*(k:Int)+2<312;omega⟩
structure Wi(ls:List Int)(ws:List Ino)(ps:List Den):Prop where
 len:ls.length=336
 mark:wdI ls 0=7
 good:zch ls 24=true
 inos:zbc ls 16=ws
 dens:zbh ls 24=ps
 img:Img ws ps
theorem Wi.ri{ls:List Int}{ws:List Ino}{ps:List Den}(h:Wi ls ws ps):riB ls=true:=by
 unfold riB;rw[h.mark,h.good,h.inos,h.dens,zbu.2 h.img];rfl
theorem zvl{ls:List Int}{us:List Se}(hl:ls.length=336)(ui:UpIn us)(h:wdI ls 0=7):wdI (zdl ls us) 0=7:=by
 rw[zgo (by omega) us ls (fun u hu=>by have:=ui u hu;exact⟨by omega,by omega,by omega⟩)];exact h
theorem zsr{ls:List Int}{ws:List Ino}{ps:List Den}(h:Wi ls ws ps){i:Nat}(hi:i<16):zan ws i=zej ls i:=by
 rw[<- h.inos];unfold zan zbc;rw[List.getD_eq_getElem?_getD,List.getElem?_map,List.getElem?_range hi];rfl
def zru(i:Nat)(fs:List (Nat×Int)):List Se:=fs.map fun f=>⟨48+12*(i:Int)+(f.1:Int),f.2⟩
theorem zxe{i:Nat}{fs:List (Nat×Int)}(hi:i<16)(hf:∀ f∈fs,f.1<11):UpIn (zru i fs):=fun u hu=>by
 obtain⟨f,hm,rfl⟩:=List.mem_map.1 hu;have:=hf f hm;exact⟨by show 48<=48+12*(i:Int)+(f.1:Int);omega,by show 48+12*(i:Int)+(f.1:Int)<312;omega⟩
theorem yaju{i:Nat}{fs:List (Nat×Int)}(hi:i<16)(hf:∀ f∈fs,f.1<11):∀ u∈zru i fs,48+12*(i:Int)<=u.at_/\u.at_<48+12*(i:Int)+11/\u.at_<240:=fun u hu=>by
 obtain⟨f,hm,rfl⟩:=List.mem_map.1 hu;have:=hf f hm;exact⟨by show 48+12*(i:Int)<=48+12*(i:Int)+(f.1:Int);omega,by show 48+12*(i:Int)+(f.1:Int)<48+12*(i:Int)+11;omega,by show 48+12*(i:Int)+(f.1:Int)<240;omega⟩
def zqh(fs:List (Nat×Int))(g:Nat)(z:Int):Int:=fs.foldl (fun a f=>if f.1=g then f.2 else a) z
theorem yawz{i:Nat}(hi:i<16){g:Nat}(hg:g<11):∀ (fs:List (Nat×Int)) (ls:List Int),ls.length=336->(∀ f∈fs,f.1<11)->wdI (zdl ls (zru i fs)) (48+12*(i:Int)+(g:Int))=zqh fs g (wdI ls (48+12*(i:Int)+(g:Int))):=by
 intro fs
 induction fs with
 | nil=>intro ls _ _;rfl
 | cons f fs ih =>
  intro ls hl hf;have h11:=hf f (List.mem_cons_self ..)
  show wdI (zdl (ls.set (48+12*(i:Int)+(f.1:Int)).toNat f.2) (zru i fs)) _=_
  rw[ih _ (by rw[List.length_set];exact hl) (fun x hx=>hf x (List.mem_cons_of_mem _ hx)),zfa (by omega) (by omega) (by omega)];unfold zqh;rw[List.foldl_cons]
  by_cases e:f.1=g
  ·rw[if_pos (by omega),if_pos e]
  ·rw[if_neg (by omega),if_neg e]
def zzo(x:Ino)(fs:List (Nat×Int)):Ino:=⟨zqh fs 0 x.kind,zqh fs 1 x.size,zqh fs 2 x.links,zqh fs 3 x.m0,zqh fs 4 x.m1,zqh fs 5 x.m2,zqh fs 6 x.m3,zqh fs 7 x.m4,zqh fs 8 x.m5,zqh fs 9 x.m6,zqh fs 10 x.m7⟩
theorem yack{i:Nat}(hi:i<16){fs:List (Nat×Int)}{ls:List Int}(hl:ls.length=336)(hf:∀ f∈fs,f.1<11):zej (zdl ls (zru i fs)) i=zzo (zej ls i) fs:=by
 have W:=fun g hg=>yawz (g:=g) hi hg fs ls hl hf
 have w0:=W 0 (by omega);rw[show 48+12*(i:Int)+((0:Nat):Int)=48+12*(i:Int) by omega]at w0;unfold zzo zej;rw[w0]
 congr 1
 ·exact W 1 (by omega)
 ·exact W 2 (by omega)
 ·exact W 3 (by omega)
 ·exact W 4 (by omega)
 ·exact W 5 (by omega)
 ·exact W 6 (by omega)
 ·exact W 7 (by omega)
 ·exact W 8 (by omega)
 ·exact W 9 (by omega)
 ·exact W 10 (by omega)
theorem yaei{ls:List Int}{ws:List Ino}{ps:List Den}(h:Wi ls ws ps){i k:Nat}(hi:i<16)(hk:k<24){fs:List (Nat×Int)}(hf:∀ f∈fs,f.1<11){x:Den}(hx:x=freeD\/(0<=x.child/\nmB x.name=true))(img:Img (ws.set i (zzo (zan ws i) fs)) (ps.set k x)) :
  Wi (zdl ls (zru i fs++enL (k:Int) x)) (ws.set i (zzo (zan ws i) fs)) (ps.set k x)/\Wi (zdl ls (enL (k:Int) x++zru i fs)) (ws.set i (zzo (zan ws i) fs)) (ps.set k x):=by
 have iu:=zxe (fs:=fs) hi hf;have ia:=yaju (fs:=fs) hi hf;have eu:=zrq hk x
 have ea:∀ u∈enL (k:Int) x,240+3*(k:Int)<=u.at_/\u.at_<240+3*(k:Int)+3:=fun u hu=>by
  simp only[enL,List.mem_cons,List.not_mem_nil,or_false]at hu
  rcases hu with rfl|rfl|rfl
  ·exact⟨Int.le_refl _,by show 240+3*(k:Int)<240+3*(k:Int)+3;omega⟩
  ·exact⟨by show 240+3*(k:Int)<=240+3*(k:Int)+1;omega,by show 240+3*(k:Int)+1<240+3*(k:Int)+3;omega⟩
  ·exact⟨by show 240+3*(k:Int)<=240+3*(k:Int)+2;omega,by show 240+3*(k:Int)+2<240+3*(k:Int)+3;omega⟩
 have xi:=zsr h hi
 have both:∀ us,UpIn us->(∀ u∈us,u∈zru i fs\/u∈enL (k:Int) x)->zej (zdl ls us) i=zzo (zej ls i) fs->zgi (zdl ls us) k=x->zby (zdl ls us) k=true->Wi (zdl ls us) (ws.set i (zzo (zan ws i) fs)) (ps.set k x):=by
  intro us ui mem e1 e2 e3
  have oi:∀ j:Nat,j<16->¬ j=i->∀ u∈us,¬ (48+12*(j:Int)<=u.at_/\u.at_<48+12*(j:Int)+11):=by
   intro j hj ne u hu
   rcases mem u hu with q | q
   ·have:=ia u q;omega
   ·have:=ea u q;omega
  have ok:∀ j:Nat,j<24->¬ j=k->∀ u∈us,¬ (240+3*(j:Int)<=u.at_/\u.at_<240+3*(j:Int)+3):=by
   intro j hj ne u hu
   rcases mem u hu with q | q
   ·have:=ia u q;omega
   ·have:=ea u q;omega
  refine⟨by rw[zgu];exact h.len,zvl h.len ui h.mark,yaes h.len ui h.good e3 ok,?_,?_,img⟩
  ·rw[zvx h.len ui hi e1 oi,h.inos,xi]
  ·rw[zwh h.len ui hk e2 ok,h.dens]
 constructor
 ·refine both _ (iu.app eu) (fun u hu=>List.mem_append.1 hu) ?_ ?_ ?_
  ·rw[znd]
   have W:∀ z,48+12*(i:Int)<=z/\z<48+12*(i:Int)+11->wdI (zdl (zdl ls (zru i fs)) (enL (k:Int) x)) z=wdI (zdl ls (zru i fs)) z:=fun z hz=>zgo (by omega) _ _ (fun u hu=>by
    have:=ea u hu;rw[zgu,h.len]
    exact⟨by omega,by omega,by omega⟩)
   rw[<- yack hi h.len hf];unfold zej;rw[W _ (by omega),W _ (by omega),W _ (by omega),W _ (by omega),W _ (by omega),W _ (by omega),W _ (by omega),W _ (by omega),W _ (by omega),W _ (by omega),W _ (by omega)]
  ·rw[znd];have:=(zur (ls:=zdl ls (zru i fs)) (x:=x) (us:=[]) (by rw[zgu];exact h.len) hk (fun _ q=>by cases q) (fun _ q=>by cases q) hx).1;rw[List.append_nil]at this;exact this
  ·rw[znd];have:=(zur (ls:=zdl ls (zru i fs)) (x:=x) (us:=[]) (by rw[zgu];exact h.len) hk (fun _ q=>by cases q) (fun _ q=>by cases q) hx).2;rw[List.append_nil]at this;exact this
 ·have oe:∀ u∈zru i fs,¬ (240+3*(k:Int)<=u.at_/\u.at_<240+3*(k:Int)+3):=fun u hu=>by have:=ia u hu;omega
  have er:=zur (ls:=ls) (x:=x) (us:=zru i fs) h.len hk iu oe hx;refine both _ (eu.app iu) (fun u hu=>(List.mem_append.1 hu).symm) ?_ er.1 er.2;rw[znd,yack hi (by rw[zgu];exact h.len) hf]
  have W:∀ z,48+12*(i:Int)<=z/\z<48+12*(i:Int)+11->wdI (zdl ls (enL (k:Int) x)) z=wdI ls z:=fun z hz=>zgo (by omega) _ _ (fun u hu=>by
   have:=ea u hu;rw[h.len]
   exact⟨by omega,by omega,by omega⟩)
  congr 1
  unfold zej;rw[W _ (by omega),W _ (by omega),W _ (by omega),W _ (by omega),W _ (by omega),W _ (by omega),W _ (by omega),W _ (by omega),W _ (by omega),W _ (by omega),W _ (by omega)]
theorem yavf{ls:List Int}{ws:List Ino}{ps:List Den}(h:Wi ls ws ps){i:Nat}(hi:i<16){fs:List (Nat×Int)}(hf:∀ f∈fs,f.1<11)(img:Img (ws.set i (zzo (zan ws i) fs)) ps) :
  Wi (zdl ls (zru i fs)) (ws.set i (zzo (zan ws i) fs)) ps:=by
 have iu:=zxe (fs:=fs) hi hf;have ia:=yaju (fs:=fs) hi hf;refine⟨by rw[zgu];exact h.len,zvl h.len iu h.mark,yapb h.len iu h.good (fun u hu=>(ia u hu).2.2),?_,?_,img⟩
 ·rw[zvx h.len iu hi (yack hi h.len hf) (fun j _ _ u hu=>by have:=ia u hu;omega),h.inos,zsr h hi]
 ·rw[yakv h.len iu (fun u hu=>(ia u hu).2.2),h.dens]
theorem ybbm{ls:List Int}{ws:List Ino}{ps:List Den}(h:Wi ls ws ps){k:Nat}(hk:k<24){x:Den}(hx:x=freeD\/(0<=x.child/\nmB x.name=true))(img:Img ws (ps.set k x)) :
  Wi (zdl ls (enL (k:Int) x)) ws (ps.set k x):=by
 have eu:=zrq hk x
 have ea:∀ u∈enL (k:Int) x,240+3*(k:Int)<=u.at_/\u.at_<240+3*(k:Int)+3:=fun u hu=>by
  simp only[enL,List.mem_cons,List.not_mem_nil,or_false]at hu
  rcases hu with rfl|rfl|rfl
  ·exact⟨Int.le_refl _,by show 240+3*(k:Int)<240+3*(k:Int)+3;omega⟩
  ·exact⟨by show 240+3*(k:Int)<=240+3*(k:Int)+1;omega,by show 240+3*(k:Int)+1<240+3*(k:Int)+3;omega⟩
  ·exact⟨by show 240+3*(k:Int)<=240+3*(k:Int)+2;omega,by show 240+3*(k:Int)+2<240+3*(k:Int)+3;omega⟩
 have er:=zur (ls:=ls) (x:=x) (us:=[]) h.len hk (fun _ q=>by cases q) (fun _ q=>by cases q) hx;rw[List.append_nil]at er;refine⟨by rw[zgu];exact h.len,zvl h.len eu h.mark,yaes h.len eu h.good er.2 (fun j _ ne u hu=>by have:=ea u hu;omega),?_,?_,img⟩
 ·rw[yapq h.len eu (fun u hu=>by have:=ea u hu;omega),h.inos]
 ·rw[zwh h.len eu hk er.1 (fun j _ ne u hu=>by have:=ea u hu;omega),h.dens]
theorem yaaq{ps:List Den}{k:Nat}(h:k<ps.length):zau ps k=(zax ps k).child:=yabk h
theorem zvs{ws:List Ino}{ps:List Den}(h:Img ws ps)(f:¬ feI ps<0):∃ k:Nat,feI ps=(k:Int)/\k<24/\zax ps k=freeD:=by
 have hit:=zqo (p:=fun i=>decide (zau ps i<0)) (n:=ps.length) f;have b:=(zcs (fun i=>decide (zau ps i<0)) ps.length).2;have e:feI ps=zbg (fun i=>decide (zau ps i<0)) ps.length:=rfl;rw[<- e]at hit b;refine⟨(feI ps).toNat,by omega,by have:=h.l24;omega,?_⟩
 have hk:(feI ps).toNat<ps.length:=by omega
 have c:zau ps (feI ps).toNat<0:=of_decide_eq_true hit;rw[yaaq hk]at c
 rcases h.ent (feI ps).toNat (by have:=h.l24;omega)with q | q
 ·exact q
 ·have:=q.1;omega
theorem yacy{ws:List Ino}{ps:List Den}(h:Img ws ps)(f:¬ fiI ws<0):∃ i:Nat,fiI ws=(i:Int)/\i<16/\(zan ws i).kind=0:=by
 have hit:=zqo (p:=fun i=>decide (1<=i)&&zal ws (i:Int) == 0) (n:=ws.length) f;have b:=(zcs (fun i=>decide (1<=i)&&zal ws (i:Int) == 0) ws.length).2;have e:fiI ws=zbg (fun i=>decide (1<=i)&&zal ws (i:Int) == 0) ws.length:=rfl;rw[<- e]at hit b;refine⟨(fiI ws).toNat,by omega,by have:=h.l16;omega,?_⟩;simp only[Bool.and_eq_true,beq_iff_eq]at hit;rw[<- zbk];exact hit.2
theorem yadk{ps:List Den}(l:ps.length=24){d:Int}{nm:ByteArray}(h:zcc ps d nm=none):∀ j,j<24->0<=(zax ps j).child->(zax ps j).dir=d->¬ (zax ps j).name=nm:=by
 intro j hj a b c;unfold zcc at h;rw[List.findIdx?_eq_none_iff]at h;have:=h ps[j] (List.getElem_mem (by omega));rw[zcu (by omega)]at a b c;rw[znq.2 ⟨a,b,c⟩]at this
 cases this
theorem zoc{ws:List Ino}{ps:List Den}(h:Img ws ps){d:Int}{nm:ByteArray}{k:Nat}(e:zcc ps d nm=some k):k<24/\∃ i:Nat,zau ps k=(i:Int)/\(zax ps k).child=(i:Int)/\i<16/\zir ws (zax ps k)/\(zax ps k).dir=d/\(zax ps k).name=nm:=by
 obtain⟨hk,q⟩:=yaey e
 have hk24:k<24:=by have:=h.l24;omega
 obtain⟨c,hd,hn⟩:=znq.1 q;rw[<- zcu hk]at c hd hn
 have ok:zir ws (zax ps k):=by
  rcases h.ent k hk24 with r | r
  ·rw[r]at c;exact absurd c (by decide)
  ·exact r
 refine⟨hk24,(zax ps k).child.toNat,?_,by omega,by have:=ok.1;omega,ok,hd,hn⟩;rw[yaaq hk];omega
theorem yaiw{ps:List Den}(l:ps.length=24){d:Int}(h:zcb ps d=[]):∀ j,j<24->¬ (0<=(zax ps j).child/\(zax ps j).dir=d):=by
 intro j hj;rintro⟨a,b⟩;unfold zcb at h;rw[List.map_eq_nil_iff,List.filter_eq_nil_iff]at h;have:=h ps[j] (List.getElem_mem (by omega));rw[zcu (by omega)]at a b;rw[decide_eq_true_eq]at this;omega
theorem yaph{ls:List Int}{ws:List Ino}{ps:List Den}{s:ByteArray}{kind:Int}{us:List Se}(h:Wi ls ws ps)(kd:kind=1\/kind=2)(e:mkI ws ps s kind=(us,0)) :
  ∃ (i k:Nat) (d:Int) (nm:ByteArray),paI ws ps s=(d,nm,0)/\zcc ps d nm=none/\(i<16/\1<=i/\(zan ws i).kind=0)/\(k<24/\zax ps k=freeD)/\Wi (zdl ls us) (ws.set i ⟨kind,0,1,0,0,0,0,0,0,0,0⟩) (ps.set k ⟨d,nm,(i:Int)⟩):=by
 unfold mkI at e
 by_cases c:(paI ws ps s).2.2=0
 ·rw[if_pos c]at e;obtain⟨hd,dd,hn⟩:=zmq (zbu.2 h.img) c;unfold mkN at e
  by_cases c1:0<=zog ps (paI ws ps s).1 (paI ws ps s).2.1
  ·rw[if_pos c1]at e;cases e
  ·rw[if_neg c1]at e
   by_cases c2:fiI ws<0
   ·rw[if_pos c2]at e;cases e
   ·rw[if_neg c2]at e
    by_cases c3:feI ps<0
    ·rw[if_pos c3]at e;cases e
    ·rw[if_neg c3]at e;obtain⟨i,ei,hi,ki⟩:=yacy h.img c2;obtain⟨k,ek,hk,fk⟩:=zvs h.img c3;have en:=zrr.2 c1;generalize paI ws ps s=pr at *;obtain⟨d,nm,pc⟩:=pr;simp only at c hd dd hn en e;subst c;rw[ei,ek]at e
     have eu:us=zru i [(0,kind),(2,1)]++enL (k:Int) ⟨d,nm,(i:Int)⟩:=by
      injection e with e _;rw[<- e];unfold mkU zru;simp only[List.map_cons,List.map_nil];rw[show 48+12*(i:Int)+((0:Nat):Int)=48+12*(i:Int) by omega];rfl
     obtain⟨z,_,i0⟩:=h.img.free hi ki
     have xp:zzo (zan ws i) [(0,kind),(2,1)]=⟨kind,0,1,0,0,0,0,0,0,0,0⟩:=by rw[z];rfl
     refine⟨i,k,d,nm,rfl,en,⟨hi,by omega,ki⟩,⟨hk,fk⟩,?_⟩;rw[eu,<- xp];refine(yaei h hi hk (fun f hf=>?_) (.inr ⟨by show(0:Int)<=(i:Int);omega,hn⟩) ?_).1
     ·simp only[List.mem_cons,List.not_mem_nil,or_false]at hf
      rcases hf with rfl|rfl
      ·show(0:Nat)<11;omega
      ·show(2:Nat)<11;omega
     ·rw[xp];exact yato h.img hi ki hk fk kd hd dd hn (yadk h.img.l24 en)
 ·rw[if_neg c]at e;injection e with _ e;exact absurd e c
theorem yaxp(i:Nat):wrL (i:Int) zcf 8=zru i [(0,0),(1,0),(2,0),(3,0),(4,0),(5,0),(6,0),(7,0),(8,0),(9,0),(10,0)]:=by
 unfold wrL zru;simp only[List.map_cons,List.map_nil,List.range_succ,List.range_zero,List.nil_append,List.cons_append];rw[show 48+12*(i:Int)+((0:Nat):Int)=48+12*(i:Int) by omega];rfl
theorem yamu{ls:List Int}{ws:List Ino}{ps:List Den}{s:ByteArray}{us:List Se}(h:Wi ls ws ps)(e:rmI ws ps s=(us,0)) :
  ∃ (i k:Nat) (d:Int) (nm:ByteArray),paI ws ps s=(d,nm,0)/\zcc ps d nm=some k/\(zax ps k).child=(i:Int)/\i<16/\k<24/\zcb ps (i:Int)=[]/\Wi (zdl ls us) (ws.set i (zcv (zan ws i))) (ps.set k freeD):=by
 unfold rmI at e
 by_cases c:(paI ws ps s).2.2=0
 ·rw[if_pos c]at e;generalize paI ws ps s=pr at *;obtain⟨d,nm,pc⟩:=pr;simp only at c e;subst c;unfold rmN at e
  cases en:zcc ps d nm with
  | none=>rw[en]at e;cases e
  | some k =>
   rw[en]at e;have e':rmC ws ps k=(us,0):=e;obtain⟨hk,i,ci,ck,hi,ok,_,_⟩:=zoc h.img en;unfold rmC at e';rw[ci]at e'
   by_cases c1:zal ws (i:Int)=2/\¬ zcb ps (i:Int)=[]
   ·rw[if_pos c1]at e';cases e'
   ·rw[if_neg c1]at e'
    have nn:zcb ps (i:Int)=[]:=by
     by_cases q:zal ws (i:Int)=2
     ·exact Classical.byContradiction fun r=>c1 ⟨q,r⟩
     ·exact yahf (zbu.2 h.img) q
    refine⟨i,k,d,nm,rfl,en,ck,hi,hk,nn,?_⟩;have img:=yahm h.img hk ck (yaiw h.img.l24 nn);injection e' with e' _;rw[<- e'];unfold rmU;rw[zuh]
    by_cases two:1<(zan ws i).links
    ·rw[if_pos two]
     have xp:zzo (zan ws i) [(2,(zan ws i).links-1)]=zcv (zan ws i):=by
      unfold zcv;rw[if_pos two];rfl
     rw[<- xp]at img ⊢;exact(yaei h hi hk (fun f hf=>by simp only[List.mem_cons,List.not_mem_nil,or_false]at hf;rw[hf];show(2:Nat)<11;omega) (.inl rfl) img).2
    ·rw[if_neg two,yaxp]
     have xp:zzo (zan ws i) [(0,0),(1,0),(2,0),(3,0),(4,0),(5,0),(6,0),(7,0),(8,0),(9,0),(10,0)]=zcv (zan ws i):=by
      unfold zcv;rw[if_neg two];rfl
     rw[<- xp]at img ⊢;refine(yaei h hi hk (fun f hf=>?_) (.inl rfl) img).2;simp only[List.mem_cons,List.not_mem_nil,or_false]at hf
     rcases hf with rfl|rfl|rfl|rfl|rfl|rfl|rfl|rfl|rfl|rfl|rfl<;>decide
 ·rw[if_neg c]at e;injection e with _ e;exact absurd e c
theorem yana{ws:List Ino}{ps:List Den}(h:Img ws ps):∀ (ns:List ByteArray) (z:Int),(wk ws ps z ns).2=0->¬ zal ws z=0->¬ zal ws (wk ws ps z ns).1=0
 | [],z,_,k=>k
 | n::ns,z,c,k=>by
  by_cases q:zal ws z=2
  ·cases e:zcc ps z n with
   | none=>rw[zkr q e]at c;cases c
   | some j =>
    rw[zlc q e]at c ⊢;obtain⟨_,i,ci,ck,_,ok,_,_⟩:=zoc h e;refine yana h ns _ c ?_;rw[ci,<- ck];exact ok.2.2.2.1
  ·rw[zif q]at c;cases c
theorem yapr{ws:List Ino}{ps:List Den}(h:Img ws ps):∀ (ns:List ByteArray) (z:Int),(wk ws ps z ns).2=0->(wk ws ps z ns).1=z\/1<=(wk ws ps z ns).1
 | [],z,_=>.inl rfl
 | n::ns,z,c=>by
  by_cases q:zal ws z=2
  ·cases e:zcc ps z n with
   | none=>rw[zkr q e]at c;cases c
   | some k =>
    rw[zlc q e]at c ⊢;obtain⟨_,i,ci,ck,_,ok,_,_⟩:=zoc h e;have:=ok.1
    rcases yapr h ns _ c with r | r
    ·right;rw[r,ci];omega
    ·exact .inr r
  ·rw[zif q]at c;cases c
theorem zmc{ws:List Ino}{ps:List Den}{s:ByteArray}(h:Img ws ps)(c:(lkI ws ps s).2=0)(k:¬ zal ws (lkI ws ps s).1=2):∃ i:Nat,(lkI ws ps s).1=(i:Int)/\i<16/\¬ i=0/\(zan ws i).kind=1:=by
 have rg:=zzq (s:=s) (zbu.2 h);refine⟨(lkI ws ps s).1.toNat,by omega,by omega,?_⟩;unfold lkI at c k rg ⊢
 by_cases q:spB s=true
 ·rw[if_pos q]at c k rg ⊢;have r1:zal ws 0=2:=h.root;have kk:=yana h (spL s) 0 c (by rw[r1];decide)
  have hp:1<=(wk ws ps 0 (spL s)).1:=by
   rcases yapr h _ 0 c with r | r
   ·rw[r]at k;exact absurd r1 k
   ·exact r
  refine⟨by omega,?_⟩
  obtain⟨n,hn⟩:∃ n:Nat,(wk ws ps 0 (spL s)).1=(n:Int):=⟨(wk ws ps 0 (spL s)).1.toNat,by omega⟩
  rw[hn]at k kk rg ⊢;rw[Int.toNat_natCast];rw[zbk]at k kk;have:=(zbq (h.ok n (by omega))).1;omega
 ·rw[if_neg q]at c;cases c
theorem yaxw{ls:List Int}{ws:List Ino}{ps:List Den}{s t:ByteArray}{us:List Se}(h:Wi ls ws ps)(e:lnI ws ps s t=(us,0)) :
  ∃ (i k:Nat) (d:Int) (nm:ByteArray),lkI ws ps s=((i:Int),0)/\(i<16/\¬ i=0/\(zan ws i).kind=1)/\paI ws ps t=(d,nm,0)/\zcc ps d nm=none/\(k<24/\zax ps k=freeD)/\Wi (zdl ls us) (ws.set i (zie (zan ws i))) (ps.set k ⟨d,nm,(i:Int)⟩):=by
 unfold lnI at e
 by_cases c0:(lkI ws ps s).2=0
 ·rw[if_pos c0]at e
  by_cases c1:zal ws (lkI ws ps s).1=2
  ·rw[if_pos c1]at e;cases e
  ·rw[if_neg c1]at e;obtain⟨i,ei,hi,i0,ki⟩:=zmc h.img c0 c1;have el:lkI ws ps s=((i:Int),0):=Prod.ext ei c0;rw[ei]at e;unfold lnP at e
   by_cases c:(paI ws ps t).2.2=0
   ·rw[if_pos c]at e;obtain⟨hd,dd,hn⟩:=zmq (zbu.2 h.img) c;unfold lnN at e
    by_cases c2:0<=zog ps (paI ws ps t).1 (paI ws ps t).2.1
    ·rw[if_pos c2]at e;cases e
    ·rw[if_neg c2]at e
     by_cases c3:feI ps<0
     ·rw[if_pos c3]at e;cases e
     ·rw[if_neg c3]at e;obtain⟨k,ek,hk,fk⟩:=zvs h.img c3;have en:=zrr.2 c2;generalize paI ws ps t=pr at *;obtain⟨d,nm,pc⟩:=pr;simp only at c hd dd hn en e;subst c;rw[ek,zuh]at e;injection e with e _;refine⟨i,k,d,nm,el,⟨hi,i0,ki⟩,rfl,en,⟨hk,fk⟩,?_⟩;have img:=yaso h.img hi i0 ki hk fk hd dd hn (yadk h.img.l24 en);have xp:zzo (zan ws i) [(2,(zan ws i).links+1)]=zie (zan ws i):=rfl;rw[<- e];rw[<- xp]at img ⊢;exact(yaei h hi hk (fun f hf=>by simp only[List.mem_cons,List.not_mem_nil,or_false]at hf;rw[hf];show(2:Nat)<11;omega) (.inr ⟨by show(0:Int)<=(i:Int);omega,hn⟩) img).2
   ·rw[if_neg c]at e;injection e with _ e;exact absurd e c
 ·rw[if_neg c0]at e;injection e with _ e;exact absurd e c0
theorem yaof{ls:List Int}{ws:List Ino}{ps:List Den}{s t:ByteArray}{us:List Se}(h:Wi ls ws ps)(e:rnI ws ps s t=(us,0)) :
  ∃ (i k:Nat) (d0 d:Int) (n0 nm:ByteArray),paI ws ps s=(d0,n0,0)/\zcc ps d0 n0=some k/\(zax ps k).child=(i:Int)/\i<16/\k<24/\paI ws ps t=(d,nm,0)/\zcc ps d nm=none/\Wi (zdl ls us) ws (ps.set k ⟨d,nm,(i:Int)⟩):=by
 unfold rnI at e
 by_cases c0:(paI ws ps s).2.2=0
 ·rw[if_pos c0]at e;unfold rnE at e
  cases en0:zcc ps (paI ws ps s).1 (paI ws ps s).2.1 with
  | none=>rw[en0]at e;cases e
  | some k =>
   rw[en0]at e;have e':rnP ws ps t k=(us,0):=e;obtain⟨hk,i,ci,ck,hi,ok,_,_⟩:=zoc h.img en0;unfold rnP at e'
   by_cases c:(paI ws ps t).2.2=0
   ·rw[if_pos c]at e';obtain⟨hd,dd,hn⟩:=zmq (zbu.2 h.img) c;unfold rnN at e';rw[ci]at e'
    by_cases c2:0<=zog ps (paI ws ps t).1 (paI ws ps t).2.1
    ·rw[if_pos c2]at e';cases e'
    ·rw[if_neg c2]at e';have en:=zrr.2 c2
     by_cases c3:zal ws (i:Int)=2/\ztf ps 17 (paI ws ps t).1 (i:Int)=true
     ·rw[if_pos c3]at e';cases e'
     ·rw[if_neg c3]at e';generalize paI ws ps t=pr at *;obtain⟨d,nm,pc⟩:=pr;generalize paI ws ps s=pq at *;obtain⟨d0,n0,qc⟩:=pq;simp only at c hd dd hn en e' c0 en0 c3;subst c c0;injection e' with e' _;refine⟨i,k,d0,d,n0,nm,rfl,en0,ck,hi,hk,rfl,en,?_⟩;rw[<- e'];exact ybbm h hk (.inr ⟨by show(0:Int)<=(i:Int);omega,hn⟩) (yaig h.img hk ck hd dd hn (yadk h.img.l24 en) c3)
   ·rw[if_neg c]at e';injection e' with _ e';exact absurd e' c
 ·rw[if_neg c0]at e;injection e with _ e;exact absurd e c0
end Go.Proofs.YtdiaiejmoocpmaaGreatDoor
