import Derived.Test.YtogcbbkhnpmgeaaGreatDoorZAR
namespace Go.Proofs.YtogcbbkhnpmgeaaGreatDoor
open Go.RowKit
def wdI(ls:List Int)(z:Int):Int:=ls.getD z.toNat 0
theorem yaos{ls:List Int}{n:Nat}(h:n<ls.length):wdI ls (n:Int)=ls[n]:=by
 unfold wdI;rw[Int.toNat_natCast,List.getD_eq_getElem?_getD,List.getElem?_eq_getElem h];rfl
def zdj(ls:List Int)(i:Nat):Ino:=⟨wdI ls (48+12*(i:Int)),wdI ls (48+12*(i:Int)+1),wdI ls (48+12*(i:Int)+2),wdI ls (48+12*(i:Int)+3),wdI ls (48+12*(i:Int)+4),wdI ls (48+12*(i:Int)+5),wdI ls (48+12*(i:Int)+6),wdI ls (48+12*(i:Int)+7),wdI ls (48+12*(i:Int)+8),wdI ls (48+12*(i:Int)+9),wdI ls (48+12*(i:Int)+10)⟩
def zfe(ls:List Int)(k:Nat):Den:=if wdI ls (240+3*(k:Int)+2)=0 then⟨0,⟨#[]⟩,-1⟩ else⟨wdI ls (240+3*(k:Int)),zte (wdI ls (240+3*(k:Int)+1)),wdI ls (240+3*(k:Int)+2)-1⟩
def zbo(ls:List Int)(k:Nat):Bool:=if wdI ls (240+3*(k:Int)+2)=0 then wdI ls (240+3*(k:Int)) == 0&&wdI ls (240+3*(k:Int)+1) == 0 else zfs (wdI ls (240+3*(k:Int)+1))
def zbb(ls:List Int)(n:Nat):List Ino:=(List.range n).map (zdj ls)
def zbc(ls:List Int)(n:Nat):List Den:=(List.range n).map (zfe ls)
def zci(ls:List Int)(n:Nat):Bool:=(List.range n).all (zbo ls)
theorem znp(ls:List Int)(n:Nat):zbb ls (n+1)=zbb ls n++[zdj ls n]:=by unfold zbb;rw[List.range_succ,List.map_append];rfl
theorem zix(ls:List Int)(n:Nat):zbc ls (n+1)=zbc ls n++[zfe ls n]:=by unfold zbc;rw[List.range_succ,List.map_append];rfl
theorem zca(ls:List Int)(n:Nat):(zbb ls n).length=n:=by simp[zbb]
theorem zbl(ls:List Int)(n:Nat):(zbc ls n).length=n:=by simp[zbc]
theorem zht{ls:List Int}{n k:Nat}(hk:k<n)(h:zbo ls k=false):zci ls n=false:=by
 unfold zci;rw[List.all_eq_false];exact⟨k,List.mem_range.2 hk,by rw[h];simp⟩
theorem zgk{ls:List Int}{n:Nat}(h:∀ k,k<n->zbo ls k=true):zci ls n=true:=by
 unfold zci;rw[List.all_eq_true];intro k hk;exact h k (List.mem_range.1 hk)
def riB(ls:List Int):Bool:=wdI ls 0 == 7&&(zci ls 24&&zcr (zbb ls 16) (zbc ls 24))
def riC(ws:List Int)(ps:List St):Int:=if pmB ws ps=true then(if riB (zbz ws ps)=true then 0 else 3)else 1
def riN(ws:List Int)(ps:List St):List Ino:=if riC ws ps=0 then zbb (zbz ws ps) 16 else[]
def riD(ws:List Int)(ps:List St):List Den:=if riC ws ps=0 then zbc (zbz ws ps) 24 else[]
theorem yamw{ws:List Int}{ps:List St}(h:pmB ws ps=true):∀ k (h:k<(zbz ws ps).length),zaz (zbz ws ps)[k]=true:=by
 have h1:=zzl h
 have h2:∀ p∈ps,zaz p.val=true:=fun p hp=>by
  obtain⟨i,hi,rfl⟩:=List.getElem_of_mem hp;exact(zjm h i hi).2
 clear h
 have gen:∀ (ps:List St) (ws:List Int),(∀ x∈ws,zaz x=true)->(∀ p∈ps,zaz p.val=true)->∀ x∈zbz ws ps,zaz x=true:=by
  intro ps
  induction ps with
  | nil=>intro ws h _ x hx;exact h x hx
  | cons p ps ih =>
   intro ws h1 h2 x hx;refine ih (ws.set p.at_.toNat p.val) (fun y hy=>?_) (fun q hq=>h2 q (List.mem_cons_of_mem _ hq)) x hx
   rcases List.mem_or_eq_of_mem_set hy with hy | hy
   ·exact h1 y hy
   ·rw[hy];exact h2 p (List.mem_cons_self ..)
 intro k hk;exact gen ps ws (fun x hx=>by obtain⟨i,hi,rfl⟩:=List.getElem_of_mem hx;exact h1 i hi) h2 _ (List.getElem_mem hk)
theorem zoh{ws:List Int}{ps:List St}(h:pmB ws ps=true)(z:Int):0<=wdI (zbz ws ps) z/\wdI (zbz ws ps) z<1099511627776:=by
 unfold wdI;rw[List.getD_eq_getElem?_getD]
 by_cases c:z.toNat<(zbz ws ps).length
 ·rw[List.getElem?_eq_getElem c];have:=yamw h _ c;unfold zaz at this;simp at this;simpa using this
 ·rw[List.getElem?_eq_none (by omega)];exact⟨by simp,by simp⟩
theorem yarn{ws:List Int}{ps:List St}(h:pmB ws ps=true)(i:Nat):(zdj (zbz ws ps) i).R:=by
 intro z hz
 have all:∀ y,-9223372036854775808<=wdI (zbz ws ps) y/\wdI (zbz ws ps) y<=9223372036854775807:=fun y=>by have:=zoh h y;omega
 simp only[Ino.map,zdj,List.mem_cons,List.not_mem_nil,or_false]at hz
 rcases hz with rfl|rfl|rfl|rfl|rfl|rfl|rfl|rfl<;>exact all _
theorem yaoq(n:Int):(zte n).size<=6:=by
 unfold zte
 split
 ·rename_i h;have:=(of_decide_eq_true h).2.2
  show((zpb n.toNat).map fun d=>UInt8.ofNat (96+d)).toArray.size<=6
  simpa using this
 ·exact Nat.zero_le _
theorem yacd(ls:List Int)(k:Nat):(zfe ls k).name.size<=maxLen:=by
 unfold zfe
 split
 ·exact Nat.zero_le _
 ·have:=yaoq (wdI ls (240+3*(k:Int)+1))
  show(zte _).size<=maxLen
  unfold maxLen;omega
theorem yatq(v:Value)(ws:List Int)(ps:List St)(z:Int)(w:World)(h:RdPm w v ws ps)(hp:pmB ws ps=true)(h0:0<=z/\z<336) :
  zC 139 #[v,.I z] w fun e w'=>e=.returned (.I (wdI (zbz ws ps) z))/\zB w w':=by
 obtain⟨n,rfl⟩:∃ n:Nat,z=(n:Int):=⟨z.toNat,by omega⟩
 obtain⟨l1,l2⟩:=zed hp
 have hn:n<ws.length:=by omega
 rw[yaos (by rw[zcg];exact hn),yafy ps ws n hn (fun p hq=>by obtain⟨i,hi,rfl⟩:=List.getElem_of_mem hq;exact(yapt hp i hi).1)];exact znd v ws ps n w h (by omega) (by omega) hn
def zbu(ls:List Int)(us:List Se):List Int:=us.foldl (fun l u=>l.set u.at_.toNat u.val) ls
theorem yanb(ls:List Int):zbu ls []=ls:=rfl
theorem zfy(ls:List Int)(u:Se)(us:List Se):zbu ls (u::us)=zbu (ls.set u.at_.toNat u.val) us:=rfl
theorem zjv(ls:List Int)(us vs:List Se):zbu ls (us++vs)=zbu (zbu ls us) vs:=by unfold zbu;rw[List.foldl_append]
theorem zes(us:List Se):∀ (ls:List Int),(zbu ls us).length=ls.length:=by
 induction us with
 | nil=>intro ls;rfl
 | cons u us ih=>intro ls;rw[zfy,ih,List.length_set]
theorem zdy{ls:List Int}{a z v:Int}(ha:0<=a)(hl:a<(ls.length:Int))(hz:0<=z):wdI (ls.set a.toNat v) z=if z=a then v else wdI ls z:=by
 unfold wdI;rw[List.getD_eq_getElem?_getD,List.getD_eq_getElem?_getD,List.getElem?_set]
 by_cases e:z=a
 ·rw[if_pos e,e,if_pos rfl,if_pos (by omega)];rfl
 ·rw[if_neg e,if_neg (by omega)]
theorem zfd{z:Int}(hz:0<=z):∀ (us:List Se) (ls:List Int),(∀ u∈us,0<=u.at_/\u.at_<(ls.length:Int)/\¬ u.at_=z)->wdI (zbu ls us) z=wdI ls z:=by
 intro us
 induction us with
 | nil=>intro ls _;rfl
 | cons u us ih =>
  intro ls h;rw[zfy,ih _ (fun v hv=>by rw[List.length_set];exact h v (List.mem_cons_of_mem _ hv))];obtain⟨a,b,c⟩:=h u (List.mem_cons_self ..);rw[zdy a b hz,if_neg (fun e=>c e.symm)]
def UpIn(us:List Se):Prop:=∀ u∈us,48<=u.at_/\u.at_<312
theorem UpIn.app{us vs:List Se}(h:UpIn us)(k:UpIn vs):UpIn (us++vs):=fun u hu=>by
 rcases List.mem_append.1 hu with q | q
 ·exact h u q
 ·exact k u q
theorem zrr{ls:List Int}{us:List Se}{i:Nat}{x:Ino}(hl:ls.length=336)(ui:UpIn us)(hi:i<16)(hx:zdj (zbu ls us) i=x)(ho:∀ j:Nat,j<16->¬ j=i->∀ u∈us,¬ (48+12*(j:Int)<=u.at_/\u.at_<48+12*(j:Int)+11)):zbb (zbu ls us) 16=(zbb ls 16).set i x:=by
 apply List.ext_getElem?;intro j;rw[List.getElem?_set];unfold zbb;rw[List.length_map,List.length_range,List.getElem?_map,List.getElem?_map]
 by_cases hj:j<16
 ·rw[List.getElem?_range hj]
  by_cases e:i=j
  ·rw[if_pos e,if_pos (by omega),<- e]
   show some (zdj (zbu ls us) i)=some x
   rw[hx]
  ·rw[if_neg e]
   show some (zdj (zbu ls us) j)=some (zdj ls j)
   have W:∀ z,48+12*(j:Int)<=z/\z<48+12*(j:Int)+11->wdI (zbu ls us) z=wdI ls z:=fun z hz=>zfd (by omega) us ls (fun u hu=>by
    have a:=ui u hu;have b:=ho j hj (fun q=>e q.symm) u hu;refine⟨by omega,by omega,?_⟩;intro q
    exact b (by omega))
   unfold zdj;rw[W _ (by omega),W _ (by omega),W _ (by omega),W _ (by omega),W _ (by omega),W _ (by omega),W _ (by omega),W _ (by omega),W _ (by omega),W _ (by omega),W _ (by omega)]
 ·rw[List.getElem?_eq_none (by simp;omega)]
  by_cases e:i=j
  ·omega
  ·rw[if_neg e];rfl
theorem zrg{ls:List Int}{us:List Se}{k:Nat}{x:Den}(hl:ls.length=336)(ui:UpIn us)(hk:k<24)(hx:zfe (zbu ls us) k=x)(ho:∀ j:Nat,j<24->¬ j=k->∀ u∈us,¬ (240+3*(j:Int)<=u.at_/\u.at_<240+3*(j:Int)+3)):zbc (zbu ls us) 24=(zbc ls 24).set k x:=by
 apply List.ext_getElem?;intro j;rw[List.getElem?_set];unfold zbc;rw[List.length_map,List.length_range,List.getElem?_map,List.getElem?_map]
 by_cases hj:j<24
 ·rw[List.getElem?_range hj]
  by_cases e:k=j
  ·rw[if_pos e,if_pos (by omega),<- e]
   show some (zfe (zbu ls us) k)=some x
   rw[hx]
  ·rw[if_neg e]
   show some (zfe (zbu ls us) j)=some (zfe ls j)
   have W:∀ z,240+3*(j:Int)<=z/\z<240+3*(j:Int)+3->wdI (zbu ls us) z=wdI ls z:=fun z hz=>zfd (by omega) us ls (fun u hu=>by
    have a:=ui u hu;have b:=ho j hj (fun q=>e q.symm) u hu;refine⟨by omega,by omega,?_⟩;intro q
    exact b (by omega))
   unfold zfe;rw[W _ (by omega),W _ (by omega),W _ (by omega)]
 ·rw[List.getElem?_eq_none (by simp;omega)]
  by_cases e:k=j
  ·omega
  ·rw[if_neg e];rfl
theorem yajt{ls:List Int}{us:List Se}(hl:ls.length=336)(ui:UpIn us)(ho:∀ u∈us,u.at_<240):zbc (zbu ls us) 24=zbc ls 24:=by
 have q:=zrg (k:=0) (x:=zfe (zbu ls us) 0) hl ui (by omega) rfl (fun j _ _ u hu=>by have:=ho u hu;omega);rw[q]
 have W:∀ z,240<=z->wdI (zbu ls us) z=wdI ls z:=fun z hz=>zfd (by omega) us ls (fun u hu=>by
  have a:=ui u hu;have b:=ho u hu
  exact⟨by omega,by omega,by omega⟩)
 have e:zfe (zbu ls us) 0=zfe ls 0:=by
  unfold zfe;rw[W _ (by omega),W _ (by omega),W _ (by omega)]
 rw[e];rfl
theorem yagj{ls:List Int}{us:List Se}(hl:ls.length=336)(ui:UpIn us)(ho:∀ u∈us,240<=u.at_):zbb (zbu ls us) 16=zbb ls 16:=by
 have q:=zrr (i:=0) (x:=zdj (zbu ls us) 0) hl ui (by omega) rfl (fun j _ _ u hu=>by have:=ho u hu;omega);rw[q]
 have W:∀ z,48<=z/\z<240->wdI (zbu ls us) z=wdI ls z:=fun z hz=>zfd (by omega) us ls (fun u hu=>by
  have a:=ui u hu;have b:=ho u hu
  exact⟨by omega,by omega,by omega⟩)
 have e:zdj (zbu ls us) 0=zdj ls 0:=by
  unfold zdj;rw[W _ (by omega),W _ (by omega),W _ (by omega),W _ (by omega),W _ (by omega),W _ (by omega),W _ (by omega),W _ (by omega),W _ (by omega),W _ (by omega),W _ (by omega)]
 rw[e];rfl
theorem zzz{ls:List Int}{us:List Se}{k:Nat}(hl:ls.length=336)(ui:UpIn us)(h:zci ls 24=true)(hk:zbo (zbu ls us) k=true)(ho:∀ j:Nat,j<24->¬ j=k->∀ u∈us,¬ (240+3*(j:Int)<=u.at_/\u.at_<240+3*(j:Int)+3)):zci (zbu ls us) 24=true:=by
 unfold zci at h;rw[List.all_eq_true]at h
 refine zgk fun j hj=>?_
 by_cases e:j=k
 ·rw[e];exact hk
 ·have g:=h j (List.mem_range.2 hj)
  have W:∀ z,240+3*(j:Int)<=z/\z<240+3*(j:Int)+3->wdI (zbu ls us) z=wdI ls z:=fun z hz=>zfd (by omega) us ls (fun u hu=>by
   have a:=ui u hu;have b:=ho j hj e u hu;refine⟨by omega,by omega,?_⟩;intro q
   exact b (by omega))
  unfold zbo at g ⊢;rw[W _ (by omega),W _ (by omega),W _ (by omega)];exact g
theorem yake{ls:List Int}{us:List Se}(hl:ls.length=336)(ui:UpIn us)(h:zci ls 24=true)(ho:∀ u∈us,u.at_<240):zci (zbu ls us) 24=true:=by
 unfold zci at h;rw[List.all_eq_true]at h
 refine zgk fun j hj=>?_
 have g:=h j (List.mem_range.2 hj)
 have W:∀ z,240<=z->wdI (zbu ls us) z=wdI ls z:=fun z hz=>zfd (by omega) us ls (fun u hu=>by
  have a:=ui u hu;have b:=ho u hu
  exact⟨by omega,by omega,by omega⟩)
 unfold zbo at g ⊢;rw[W _ (by omega),W _ (by omega),W _ (by omega)];exact g
theorem yalu{ls:List Int}{k:Nat}{x:Den}{us:List Se}(hl:ls.length=336)(hk:k<24)(ui:UpIn us)(ho:∀ u∈us,¬ (240+3*(k:Int)<=u.at_/\u.at_<240+3*(k:Int)+3)) :
  wdI (zbu ls (enL (k:Int) x++us)) (240+3*(k:Int))=x.dir/\wdI (zbu ls (enL (k:Int) x++us)) (240+3*(k:Int)+1)=((pk x.name x.name.size:Nat):Int)/\wdI (zbu ls (enL (k:Int) x++us)) (240+3*(k:Int)+2)=x.child+1:=by
 have W:∀ z,240+3*(k:Int)<=z/\z<240+3*(k:Int)+3->wdI (zbu ls (enL (k:Int) x++us)) z=wdI (zbu ls (enL (k:Int) x)) z:=fun z hz=>by
  rw[zjv];refine zfd (by omega) us _ (fun u hu=>?_);have a:=ui u hu;have b:=ho u hu;rw[zes];refine⟨by omega,by omega,?_⟩;intro q;exact b (by omega)
 rw[W _ (by omega),W _ (by omega),W _ (by omega)];unfold enL;simp only[zfy,yanb]
 have l2:(240+3*(k:Int)+2)<(336:Int):=by omega
 refine⟨?_,?_,?_⟩
 ·rw[zdy (by omega) (by simp only[List.length_set];omega) (by omega),if_neg (by omega),zdy (by omega) (by simp only[List.length_set];omega) (by omega),if_neg (by omega),zdy (by omega) (by omega) (by omega),if_pos rfl]
 ·rw[zdy (by omega) (by simp only[List.length_set];omega) (by omega),if_neg (by omega),zdy (by omega) (by simp only[List.length_set];omega) (by omega),if_pos rfl]
 ·rw[zdy (by omega) (by simp only[List.length_set];omega) (by omega),if_pos rfl]
theorem zsy{ls:List Int}{k:Nat}{x:Den}{us:List Se}(hl:ls.length=336)(hk:k<24)(ui:UpIn us)(ho:∀ u∈us,¬ (240+3*(k:Int)<=u.at_/\u.at_<240+3*(k:Int)+3))(hx:x=freeD\/(0<=x.child/\nmB x.name=true)) :
  zfe (zbu ls (enL (k:Int) x++us)) k=x/\zbo (zbu ls (enL (k:Int) x++us)) k=true:=by
 obtain⟨a,b,c⟩:=yalu (x:=x) hl hk ui ho;unfold zfe zbo;rw[a,b,c]
 rcases hx with rfl | ⟨h0,hn⟩
 ·exact⟨rfl,rfl⟩
 ·have p:=(zzj hn).1;obtain⟨g,s⟩:=yako hn;rw[p]at g s;rw[if_neg (by omega),if_neg (by omega),s];refine⟨?_,g⟩;obtain⟨d,n,ch⟩:=x
  show Den.mk d n (ch+1-1)=_
  congr 1
  omega
theorem zol{k:Nat}(hk:k<24)(x:Den):UpIn (enL (k:Int) x):=fun u hu=>by
 simp only[enL,List.mem_cons,List.not_mem_nil,or_false]at hu
 rcases hu with rfl|rfl|rfl
 ·exact⟨by show 48<=240+3*(k:Int);omega,by show 240+3*(k:Int)<312;omega⟩
 ·exact⟨by show 48<=240+3*(k:Int)+1;omega,by show 240+3*(k:Int)+1<312;omega⟩
 ·exact⟨by show 48<=240+3*(k:Int)+2;omega,by show 240+3*(k:Int)+2<312;omega⟩
structure Wi(ls:List Int)(ws:List Ino)(ps:List Den):Prop where
 len:ls.length=336
 mark:wdI ls 0=7
 good:zci ls 24=true
 inos:zbb ls 16=ws
 dens:zbc ls 24=ps
 img:Img ws ps
theorem Wi.ri{ls:List Int}{ws:List Ino}{ps:List Den}(h:Wi ls ws ps):riB ls=true:=by
 unfold riB;rw[h.mark,h.good,h.inos,h.dens,zbi.2 h.img];rfl
theorem zrq{ls:List Int}{us:List Se}(hl:ls.length=336)(ui:UpIn us)(h:wdI ls 0=7):wdI (zbu ls us) 0=7:=by
 rw[zfd (by omega) us ls (fun u hu=>by have:=ui u hu;exact⟨by omega,by omega,by omega⟩)];exact h
theorem zoi{ls:List Int}{ws:List Ino}{ps:List Den}(h:Wi ls ws ps){i:Nat}(hi:i<16):zam ws i=zdj ls i:=by
 rw[<- h.inos];unfold zam zbb;rw[List.getD_eq_getElem?_getD,List.getElem?_map,List.getElem?_range hi];rfl
def zmv(i:Nat)(fs:List (Nat×Int)):List Se:=fs.map fun f=>⟨48+12*(i:Int)+(f.1:Int),f.2⟩
theorem zrx{i:Nat}{fs:List (Nat×Int)}(hi:i<16)(hf:∀ f∈fs,f.1<11):UpIn (zmv i fs):=fun u hu=>by
 obtain⟨f,hm,rfl⟩:=List.mem_map.1 hu;have:=hf f hm;exact⟨by show 48<=48+12*(i:Int)+(f.1:Int);omega,by show 48+12*(i:Int)+(f.1:Int)<312;omega⟩
theorem yafh{i:Nat}{fs:List (Nat×Int)}(hi:i<16)(hf:∀ f∈fs,f.1<11):∀ u∈zmv i fs,48+12*(i:Int)<=u.at_/\u.at_<48+12*(i:Int)+11/\u.at_<240:=fun u hu=>by
 obtain⟨f,hm,rfl⟩:=List.mem_map.1 hu;have:=hf f hm;exact⟨by show 48+12*(i:Int)<=48+12*(i:Int)+(f.1:Int);omega,by show 48+12*(i:Int)+(f.1:Int)<48+12*(i:Int)+11;omega,by show 48+12*(i:Int)+(f.1:Int)<240;omega⟩
def zng(fs:List (Nat×Int))(g:Nat)(z:Int):Int:=fs.foldl (fun a f=>if f.1=g then f.2 else a) z
theorem yasl{i:Nat}(hi:i<16){g:Nat}(hg:g<11):∀ (fs:List (Nat×Int)) (ls:List Int),ls.length=336->(∀ f∈fs,f.1<11)->wdI (zbu ls (zmv i fs)) (48+12*(i:Int)+(g:Int))=zng fs g (wdI ls (48+12*(i:Int)+(g:Int))):=by
 intro fs
 induction fs with
 | nil=>intro ls _ _;rfl
 | cons f fs ih =>
  intro ls hl hf;have h11:=hf f (List.mem_cons_self ..)
  show wdI (zbu (ls.set (48+12*(i:Int)+(f.1:Int)).toNat f.2) (zmv i fs)) _=_
  rw[ih _ (by rw[List.length_set];exact hl) (fun x hx=>hf x (List.mem_cons_of_mem _ hx)),zdy (by omega) (by omega) (by omega)];unfold zng;rw[List.foldl_cons]
  by_cases e:f.1=g
  ·rw[if_pos (by omega),if_pos e]
  ·rw[if_neg (by omega),if_neg e]
def ztp(x:Ino)(fs:List (Nat×Int)):Ino:=⟨zng fs 0 x.kind,zng fs 1 x.size,zng fs 2 x.links,zng fs 3 x.m0,zng fs 4 x.m1,zng fs 5 x.m2,zng fs 6 x.m3,zng fs 7 x.m4,zng fs 8 x.m5,zng fs 9 x.m6,zng fs 10 x.m7⟩
theorem zyx{i:Nat}(hi:i<16){fs:List (Nat×Int)}{ls:List Int}(hl:ls.length=336)(hf:∀ f∈fs,f.1<11):zdj (zbu ls (zmv i fs)) i=ztp (zdj ls i) fs:=by
 have W:=fun g hg=>yasl (g:=g) hi hg fs ls hl hf
 have w0:=W 0 (by omega);rw[show 48+12*(i:Int)+((0:Nat):Int)=48+12*(i:Int) by omega]at w0;unfold ztp zdj;rw[w0]
 congr 1
 ·exact W 1 (by omega)
 ·exact W 2 (by omega)
 ·exact W 3 (by omega)
 ·exact W 4 (by omega)
 ·exact W 5 (by omega)
 ·exact W 6 (by omega)
 ·exact W 7 (by omega)
 ·exact W 8 (by omega)
 ·exact W 9 (by omega)
 ·exact W 10 (by omega)
theorem yaah{ls:List Int}{ws:List Ino}{ps:List Den}(h:Wi ls ws ps){i k:Nat}(hi:i<16)(hk:k<24){fs:List (Nat×Int)}(hf:∀ f∈fs,f.1<11){x:Den}(hx:x=freeD\/(0<=x.child/\nmB x.name=true))(img:Img (ws.set i (ztp (zam ws i) fs)) (ps.set k x)) :
  Wi (zbu ls (zmv i fs++enL (k:Int) x)) (ws.set i (ztp (zam ws i) fs)) (ps.set k x)/\Wi (zbu ls (enL (k:Int) x++zmv i fs)) (ws.set i (ztp (zam ws i) fs)) (ps.set k x):=by
 have iu:=zrx (fs:=fs) hi hf;have ia:=yafh (fs:=fs) hi hf;have eu:=zol hk x
 have ea:∀ u∈enL (k:Int) x,240+3*(k:Int)<=u.at_/\u.at_<240+3*(k:Int)+3:=fun u hu=>by
  simp only[enL,List.mem_cons,List.not_mem_nil,or_false]at hu
  rcases hu with rfl|rfl|rfl
  ·exact⟨Int.le_refl _,by show 240+3*(k:Int)<240+3*(k:Int)+3;omega⟩
  ·exact⟨by show 240+3*(k:Int)<=240+3*(k:Int)+1;omega,by show 240+3*(k:Int)+1<240+3*(k:Int)+3;omega⟩
  ·exact⟨by show 240+3*(k:Int)<=240+3*(k:Int)+2;omega,by show 240+3*(k:Int)+2<240+3*(k:Int)+3;omega⟩
 have xi:=zoi h hi
 have both:∀ us,UpIn us->(∀ u∈us,u∈zmv i fs\/u∈enL (k:Int) x)->zdj (zbu ls us) i=ztp (zdj ls i) fs->zfe (zbu ls us) k=x->zbo (zbu ls us) k=true->Wi (zbu ls us) (ws.set i (ztp (zam ws i) fs)) (ps.set k x):=by
  intro us ui mem e1 e2 e3
  have oi:∀ j:Nat,j<16->¬ j=i->∀ u∈us,¬ (48+12*(j:Int)<=u.at_/\u.at_<48+12*(j:Int)+11):=by
   intro j hj ne u hu
   rcases mem u hu with q | q
   ·have:=ia u q;omega
   ·have:=ea u q;omega
  have ok:∀ j:Nat,j<24->¬ j=k->∀ u∈us,¬ (240+3*(j:Int)<=u.at_/\u.at_<240+3*(j:Int)+3):=by
   intro j hj ne u hu
   rcases mem u hu with q | q
   ·have:=ia u q;omega
   ·have:=ea u q;omega
  refine⟨by rw[zes];exact h.len,zrq h.len ui h.mark,zzz h.len ui h.good e3 ok,?_,?_,img⟩
  ·rw[zrr h.len ui hi e1 oi,h.inos,xi]
  ·rw[zrg h.len ui hk e2 ok,h.dens]
 constructor
 ·refine both _ (iu.app eu) (fun u hu=>List.mem_append.1 hu) ?_ ?_ ?_
  ·rw[zjv]
   have W:∀ z,48+12*(i:Int)<=z/\z<48+12*(i:Int)+11->wdI (zbu (zbu ls (zmv i fs)) (enL (k:Int) x)) z=wdI (zbu ls (zmv i fs)) z:=fun z hz=>zfd (by omega) _ _ (fun u hu=>by
    have:=ea u hu;rw[zes,h.len]
    exact⟨by omega,by omega,by omega⟩)
   rw[<- zyx hi h.len hf];unfold zdj;rw[W _ (by omega),W _ (by omega),W _ (by omega),W _ (by omega),W _ (by omega),W _ (by omega),W _ (by omega),W _ (by omega),W _ (by omega),W _ (by omega),W _ (by omega)]
  ·rw[zjv];have:=(zsy (ls:=zbu ls (zmv i fs)) (x:=x) (us:=[]) (by rw[zes];exact h.len) hk (fun _ q=>by cases q) (fun _ q=>by cases q) hx).1;rw[List.append_nil]at this;exact this
  ·rw[zjv];have:=(zsy (ls:=zbu ls (zmv i fs)) (x:=x) (us:=[]) (by rw[zes];exact h.len) hk (fun _ q=>by cases q) (fun _ q=>by cases q) hx).2;rw[List.append_nil]at this;exact this
 ·have oe:∀ u∈zmv i fs,¬ (240+3*(k:Int)<=u.at_/\u.at_<240+3*(k:Int)+3):=fun u hu=>by have:=ia u hu;omega
  have er:=zsy (ls:=ls) (x:=x) (us:=zmv i fs) h.len hk iu oe hx;refine both _ (eu.app iu) (fun u hu=>(List.mem_append.1 hu).symm) ?_ er.1 er.2;rw[zjv,zyx hi (by rw[zes];exact h.len) hf]
  have W:∀ z,48+12*(i:Int)<=z/\z<48+12*(i:Int)+11->wdI (zbu ls (enL (k:Int) x)) z=wdI ls z:=fun z hz=>zfd (by omega) _ _ (fun u hu=>by
   have:=ea u hu;rw[h.len]
   exact⟨by omega,by omega,by omega⟩)
  congr 1
  unfold zdj;rw[W _ (by omega),W _ (by omega),W _ (by omega),W _ (by omega),W _ (by omega),W _ (by omega),W _ (by omega),W _ (by omega),W _ (by omega),W _ (by omega),W _ (by omega)]
theorem yapn{ls:List Int}{ws:List Ino}{ps:List Den}(h:Wi ls ws ps){i:Nat}(hi:i<16){fs:List (Nat×Int)}(hf:∀ f∈fs,f.1<11)(img:Img (ws.set i (ztp (zam ws i) fs)) ps) :
  Wi (zbu ls (zmv i fs)) (ws.set i (ztp (zam ws i) fs)) ps:=by
 have iu:=zrx (fs:=fs) hi hf;have ia:=yafh (fs:=fs) hi hf;refine⟨by rw[zes];exact h.len,zrq h.len iu h.mark,yake h.len iu h.good (fun u hu=>(ia u hu).2.2),?_,?_,img⟩
 ·rw[zrr h.len iu hi (zyx hi h.len hf) (fun j _ _ u hu=>by have:=ia u hu;omega),h.inos,zoi h hi]
 ·rw[yajt h.len iu (fun u hu=>(ia u hu).2.2),h.dens]
theorem yauh{ls:List Int}{ws:List Ino}{ps:List Den}(h:Wi ls ws ps){k:Nat}(hk:k<24){x:Den}(hx:x=freeD\/(0<=x.child/\nmB x.name=true))(img:Img ws (ps.set k x)) :
  Wi (zbu ls (enL (k:Int) x)) ws (ps.set k x):=by
 have eu:=zol hk x
 have ea:∀ u∈enL (k:Int) x,240+3*(k:Int)<=u.at_/\u.at_<240+3*(k:Int)+3:=fun u hu=>by
  simp only[enL,List.mem_cons,List.not_mem_nil,or_false]at hu
  rcases hu with rfl|rfl|rfl
  ·exact⟨Int.le_refl _,by show 240+3*(k:Int)<240+3*(k:Int)+3;omega⟩
  ·exact⟨by show 240+3*(k:Int)<=240+3*(k:Int)+1;omega,by show 240+3*(k:Int)+1<240+3*(k:Int)+3;omega⟩
  ·exact⟨by show 240+3*(k:Int)<=240+3*(k:Int)+2;omega,by show 240+3*(k:Int)+2<240+3*(k:Int)+3;omega⟩
 have er:=zsy (ls:=ls) (x:=x) (us:=[]) h.len hk (fun _ q=>by cases q) (fun _ q=>by cases q) hx;rw[List.append_nil]at er;refine⟨by rw[zes];exact h.len,zrq h.len eu h.mark,zzz h.len eu h.good er.2 (fun j _ ne u hu=>by have:=ea u hu;omega),?_,?_,img⟩
 ·rw[yagj h.len eu (fun u hu=>by have:=ea u hu;omega),h.inos]
 ·rw[zrg h.len eu hk er.1 (fun j _ ne u hu=>by have:=ea u hu;omega),h.dens]
end Go.Proofs.YtogcbbkhnpmgeaaGreatDoor
