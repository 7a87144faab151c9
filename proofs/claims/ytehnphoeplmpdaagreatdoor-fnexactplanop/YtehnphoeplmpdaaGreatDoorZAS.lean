/- Several texts laid together: PlA, IgA, IgD, StoreT. -/
import Derived.Test.YtehnphoeplmpdaaGreatDoorZAO
import Derived.Test.YtehnphoeplmpdaaGreatDoorZAQ
import Derived.Test.YtehnphoeplmpdaaGreatDoorStN
import Derived.Test.YtehnphoeplmpdaaGreatDoorZAN
import Derived.Maps.Views
import Derived.Test.YtehnphoeplmpdaaGreatDoorZAM
import Derived.Test.YtehnphoeplmpdaaGreatDoorZAD
import Derived.Deep.RegionWith
set_option maxHeartbeats 2000000
namespace Go.Proofs.YtehnphoeplmpdaaGreatDoor
open Go.RowKit
def freeD:Den:=⟨0,⟨#[]⟩,-1⟩
def fiI (ws:List Ino):Int:=zas (fun i=>decide (1≤i) && zai ws (i:Int) == 0) ws.length
def feI (ps:List Den):Int:=zas (fun i=>decide (zaj ps i < 0)) ps.length
def zda (ws:List Ino) (z:Int):Int:=(ws.getD z.toNat ⟨0,0,0,0,0,0,0,0,0,0,0⟩).links
theorem zex {ws:List Ino} {i:Nat} (h:i < ws.length):zda ws (i:Int)=ws[i].links:=by
 unfold zda;rw[Int.toNat_natCast,List.getD_eq_getElem?_getD,List.getElem?_eq_getElem h];rfl
def mkU (i k:Int) (kind:Int) (d:Int) (nm:ByteArray):List Se:=[⟨48+12*i,kind⟩,⟨48+12*i+2,1⟩] ++ enL k ⟨d,nm,i⟩
def mkN (ws:List Ino) (ps:List Den) (kind d:Int) (nm:ByteArray):List Se×Int:=if 0≤zky ps d nm then ([],8) else if fiI ws < 0 then ([],7) else if feI ps < 0 then ([],7) else (mkU (fiI ws) (feI ps) kind d nm,0)
def mkI (ws:List Ino) (ps:List Den) (s:ByteArray) (kind:Int):List Se×Int:=if (paI ws ps s).2.2=0 then mkN ws ps kind (paI ws ps s).1 (paI ws ps s).2.1 else ([],(paI ws ps s).2.2)
def mkR (ws:List Ino) (ps:List Den) (s:ByteArray) (kind:Int):List Se×Int:=if 65536 < s.size then ([],2) else if zay ws ps=true then (if 1≤kind∧kind≤2 then mkI ws ps s kind else ([],4)) else ([],1)
def rmU (k i l:Int):List Se:=enL k freeD ++ (if 1 < l then [⟨48+12*i+2,l - 1⟩] else wrL i zav 8)
def rmC (ws:List Ino) (ps:List Den) (k:Nat):List Se×Int:=if zai ws (zaj ps k)=2∧¬ zbg ps (zaj ps k)=[] then ([],11) else (rmU (k:Int) (zaj ps k) (zda ws (zaj ps k)),0)
def rmN (ws:List Ino) (ps:List Den) (d:Int) (nm:ByteArray):List Se×Int:=match zbd ps d nm with | none=>([],5) | some k=>rmC ws ps k
def rmI (ws:List Ino) (ps:List Den) (s:ByteArray):List Se×Int:=if (paI ws ps s).2.2=0 then rmN ws ps (paI ws ps s).1 (paI ws ps s).2.1 else ([],(paI ws ps s).2.2)
def rmR (ws:List Ino) (ps:List Den) (s:ByteArray):List Se×Int:=if 65536 < s.size then ([],2) else if zay ws ps=true then rmI ws ps s else ([],1)
def lnN (ws:List Ino) (ps:List Den) (i d:Int) (nm:ByteArray):List Se×Int:=if 0≤zky ps d nm then ([],8) else if feI ps < 0 then ([],7) else (enL (feI ps) ⟨d,nm,i⟩ ++ [⟨48+12*i+2,zda ws i+1⟩],0)
def lnP (ws:List Ino) (ps:List Den) (t:ByteArray) (i:Int):List Se×Int:=if (paI ws ps t).2.2=0 then lnN ws ps i (paI ws ps t).1 (paI ws ps t).2.1 else ([],(paI ws ps t).2.2)
def lnI (ws:List Ino) (ps:List Den) (s t:ByteArray):List Se×Int:=if (lkI ws ps s).2=0 then (if zai ws (lkI ws ps s).1=2 then ([],9) else lnP ws ps t (lkI ws ps s).1) else ([],(lkI ws ps s).2)
def lnR (ws:List Ino) (ps:List Den) (s t:ByteArray):List Se×Int:=if 65536 < s.size then ([],2) else if 65536 < t.size then ([],2) else if zay ws ps=true then lnI ws ps s t else ([],1)
def rnN (ws:List Ino) (ps:List Den) (k:Nat) (d:Int) (nm:ByteArray):List Se×Int:=if 0≤zky ps d nm then ([],8) else if zai ws (zaj ps k)=2∧zjm ps 17 d (zaj ps k)=true then ([],13) else (enL (k:Int) ⟨d,nm,zaj ps k⟩,0)
def rnP (ws:List Ino) (ps:List Den) (t:ByteArray) (k:Nat):List Se×Int:=if (paI ws ps t).2.2=0 then rnN ws ps k (paI ws ps t).1 (paI ws ps t).2.1 else ([],(paI ws ps t).2.2)
def rnE (ws:List Ino) (ps:List Den) (t:ByteArray) (d:Int) (nm:ByteArray):List Se×Int:=match zbd ps d nm with | none=>([],5) | some k=>rnP ws ps t k
def rnI (ws:List Ino) (ps:List Den) (s t:ByteArray):List Se×Int:=if (paI ws ps s).2.2=0 then rnE ws ps t (paI ws ps s).1 (paI ws ps s).2.1 else ([],(paI ws ps s).2.2)
def rnR (ws:List Ino) (ps:List Den) (s t:ByteArray):List Se×Int:=if 65536 < s.size then ([],2) else if 65536 < t.size then ([],2) else if zay ws ps=true then rnI ws ps s t else ([],1)
theorem yajv {s x:ByteArray} (hm:x∈spL s):nmB x=true:=by
 unfold spL at hm
 split at hm
 ·cases hm
 ·split at hm
  ·rename_i h;unfold spN at h;simp only[Bool.and_eq_true,List.all_eq_true] at h;exact h.2.2 x hm
  ·cases hm
theorem zic {ws:List Ino} {ps:List Den} {s:ByteArray} (h:zay ws ps=true) (c:(paI ws ps s).2.2=0):(0≤(paI ws ps s).1∧(paI ws ps s).1≤15)∧zai ws (paI ws ps s).1=2∧nmB (paI ws ps s).2.1=true:=by
 unfold paI at c ⊢
 by_cases q:spB s=true
 ·rw[if_pos q] at c ⊢
  by_cases e:spL s=[]
  ·unfold paL at c;rw[if_pos e] at c
   cases c
  ·obtain ⟨xs,x,hx⟩:=zxw e;have hn:nmB x=true:=yajv (s:=s) (by rw[hx];simp);rw[hx,ztg] at c ⊢;unfold paN at c ⊢
   by_cases q1:(wk ws ps 0 xs).2=0
   ·rw[if_pos q1] at c ⊢
    by_cases q2:zai ws (wk ws ps 0 xs).1=2
    ·rw[if_pos q2] at c ⊢;exact ⟨zkk h xs 0 (by omega),q2,hn⟩
    ·rw[if_neg q2] at c;cases c
   ·rw[if_neg q1] at c;exact absurd c q1
 ·rw[if_neg q] at c;cases c
theorem zmq {ws:List Ino} {ps:List Den} {s:ByteArray} (h:zay ws ps=true):0≤(lkI ws ps s).1∧(lkI ws ps s).1≤15:=by
 unfold lkI
 split
 ·exact zkk h _ 0 (by omega)
 ·exact ⟨by decide,by decide⟩
theorem zpy {ps:List Den} {d:Int} {nm:ByteArray}:zbd ps d nm=none↔¬ 0≤zky ps d nm:=by
 unfold zky
 cases zbd ps d nm with
 | none=>simp
 | some k=>simp
theorem zib {ps:List Den} {d:Int} {nm:ByteArray} {k:Nat} (h:zbd ps d nm=some k):zky ps d nm=(k:Int):=by
 unfold zky;rw[h]
theorem zil {ws:List Ino} {ps:List Den} (h:zay ws ps=true) {i:Int} (h0:0≤i∧i≤15):0≤zda ws i∧zda ws i≤24:=by
 obtain ⟨hl,_,_,ho,_⟩:=zao h
 obtain ⟨n,rfl⟩:∃ n:Nat,i=(n:Int):=⟨i.toNat,by omega⟩
 have hn:n < ws.length:=by omega
 rw[zex hn];have:=(of_decide_eq_true ho:∀ k (h:k < ws.length),zes ws[k]=true) n hn;unfold zes at this;simp only[Bool.and_eq_true,decide_eq_true_eq] at this;exact this.2.2.1
theorem yaad {ws:List Ino} {ps:List Den} (h:zay ws ps=true):fiI ws < 16:=by
 have:=(zdf (fun i=>decide (1≤i) && zai ws (i:Int) == 0) ws.length).2;have e:=(zao h).1;unfold fiI;omega
theorem zno {ws:List Ino} {ps:List Den} (h:zay ws ps=true):feI ps < 24:=by
 have:=(zdf (fun i=>decide (zaj ps i < 0)) ps.length).2;have e:=(zao h).2.1;unfold feI;omega
theorem zpw {p:Nat→Bool} {n:Nat} (h:¬ zas p n < 0):p (zas p n).toNat=true:=by
 unfold zas at h ⊢
 split
 ·rename_i i e;simpa using List.find?_some e
 ·rename_i e;rw[e] at h;exact absurd (by decide) h
theorem yang {ws:List Ino} (h:¬ fiI ws < 0):1≤fiI ws:=by
 have:=zpw h;simp only[Bool.and_eq_true,decide_eq_true_eq] at this;unfold fiI at h ⊢;omega
def zqf (s:ByteArray):Lit:=.string s.data.toList
def mpD (ps:List Den) (d:Int):Nat→DataW Unit
 | 0=>.map []
 | k+1=>if decide (0≤zaj ps k) && (ps.getD k freeD).dir == d then (mpD ps d k).put (zqf (ps.getD k freeD).name) (.lit (.int .i64 (k:Int))) else mpD ps d k
theorem zsq (ps:List Den) (d:Int):∀ k,Maps.IsMap (mpD ps d k)
 | 0=>Maps.isMap_empty
 | k+1=>by
  unfold mpD
  split
  ·exact (zsq ps d k).put _ _
  ·exact zsq ps d k
theorem zvd (s:ByteArray):WideAt.IsKeyLit (zqf s):=by
 unfold zqf;simp[WideAt.IsKeyLit]
theorem yaek {s t:ByteArray} (h:zqf s=zqf t):s=t:=by
 unfold zqf at h;injection h with h;exact zki h
theorem zhj {ps:List Den} {k:Nat} (h:k < ps.length):ps.getD k freeD=ps[k]:=by
 rw[List.getD_eq_getElem?_getD,List.getElem?_eq_getElem h];rfl
theorem zpz {s t:ByteArray}:(s.toList == t.toList)=true↔s=t:=by
 rw[beq_iff_eq,ByteArray.toList_eq,ByteArray.toList_eq];exact ⟨zki,fun h=>by rw[h]⟩
theorem zgl {d:Int} {nm:ByteArray} {x:Den}:zbu d nm x=true↔0≤x.child∧x.dir=d∧x.name=nm:=by
 unfold zbu;rw[Bool.and_eq_true,Bool.and_eq_true,decide_eq_true_eq,beq_iff_eq,zpz]
theorem zsf {ws:List Ino} {ps:List Den} (h:zay ws ps=true) {d:Int} {nm:ByteArray} {i j:Nat} (hi:i < ps.length) (hj:j < ps.length) (ei:zbu d nm ps[i]=true) (ej:zbu d nm ps[j]=true):i=j:=by
 obtain ⟨_,_,_,_,he,_,_⟩:=zao h
 have he:=(of_decide_eq_true he:∀ i (h:i < ps.length),zco ws ps i ps[i]=true)
 have one:∀ {i j:Nat} (hi:i < ps.length) (hj:j < ps.length),zbu d nm ps[i]=true→zbu d nm ps[j]=true→¬ i < j:=by
  intro i j hi hj ei ej lt;obtain ⟨a1,a2,a3⟩:=zgl.1 ei;obtain ⟨b1,b2,b3⟩:=zgl.1 ej;have e:=he j hj;unfold zco at e;rw[if_neg (by omega)] at e;simp only[Bool.and_eq_true,List.all_eq_true] at e
  have q:=e.2.2.2.2.2 ps[i] (by
   rw[List.mem_take_iff_getElem]
   exact ⟨i,by omega,rfl⟩)
  unfold zdj at q;rw[a2,a3,b2,b3,decide_eq_true a1] at q;simp at q
 have q1:=one hi hj ei ej;have q2:=one hj hi ej ei;omega
theorem yaew {ps:List Den} {d:Int} {nm:ByteArray}:∀ (k:Nat),k≤ps.length→(∀ j (h:j < ps.length),j < k→zbu d nm ps[j]=false)→Maps.has (mpD ps d k) (zqf nm)=false
 | 0,_,_=>rfl
 | k+1,hk,h=>by
  have ih:=yaew k (by omega) (fun j hj a=>h j hj (by omega));unfold mpD
  split
  ·rename_i c;rw[Bool.and_eq_true,decide_eq_true_eq,beq_iff_eq,zbc (by omega),zhj (by omega)] at c;rw[zhj (by omega),Maps.has_put_other]
   ·exact ih
   ·intro e;have:=h k (by omega) (by omega);rw[zgl.2 ⟨c.1,c.2,(yaek e).symm⟩] at this
    cases this
  ·exact ih
theorem zxp {ps:List Den} {d:Int} {nm:ByteArray} {j:Nat} (hj:j < ps.length) (e:zbu d nm ps[j]=true) (once:∀ i (h:i < ps.length),zbu d nm ps[i]=true→i=j) (z:DataW Unit):∀ (k:Nat),k≤ps.length→j < k→Maps.has (mpD ps d k) (zqf nm)=true∧(mpD ps d k).atKey (zqf nm) z=.lit (.int .i64 (j:Int))
 | 0,_,h=>absurd h (by omega)
 | k+1,hk,h=>by
  by_cases q:j=k
  ·subst q;obtain ⟨a1,a2,a3⟩:=zgl.1 e;unfold mpD;rw[if_pos (by rw[Bool.and_eq_true,decide_eq_true_eq,beq_iff_eq,zbc hj,zhj hj];exact ⟨a1,a2⟩),zhj hj,a3];exact ⟨Maps.has_put_same (zsq ps d j) (zvd _) _,Maps.atKey_put_same (zsq ps d j) (zvd _) _ _⟩
  ·obtain ⟨i1,i2⟩:=zxp hj e once z k (by omega) (by omega);unfold mpD
   split
   ·rename_i c;rw[Bool.and_eq_true,decide_eq_true_eq,beq_iff_eq,zbc (by omega),zhj (by omega)] at c
    have ne:zqf nm≠zqf ps[k].name:=fun e=>q (once k (by omega) (zgl.2 ⟨c.1,c.2,(yaek e).symm⟩)).symm
    rw[zhj (by omega),Maps.has_put_other ne,Maps.atKey_put_other ne];exact ⟨i1,i2⟩
   ·exact ⟨i1,i2⟩
theorem yaou {ws:List Ino} {ps:List Den} (h:zay ws ps=true) (d:Int) (nm:ByteArray) (z:DataW Unit):(zbd ps d nm=none→Maps.has (mpD ps d ps.length) (zqf nm)=false)∧(∀ k,zbd ps d nm=some k→Maps.has (mpD ps d ps.length) (zqf nm)=true∧(mpD ps d ps.length).atKey (zqf nm) z=.lit (.int .i64 (k:Int))):=by
 constructor
 ·intro e;unfold zbd at e;rw[List.findIdx?_eq_none_iff] at e;exact yaew _ (Nat.le_refl _) (fun j hj _=>by have:=e _ (List.getElem_mem hj);simpa using this)
 ·intro k e;obtain ⟨hk,q⟩:=znh e;exact zxp hk q (fun i hi q'=>zsf h hi hk q' q) z _ (Nat.le_refl _) hk
theorem yana {D:DataW Unit} {k:Lit} (h:Maps.has D k=true):0 < Maps.size D:=by
 cases D with
 | map es =>
  rw[Maps.has_eq,List.any_eq_true] at h;obtain ⟨x,hx,_⟩:=h;rw[Maps.size_eq];exact List.length_pos_of_mem hx
 | _=>cases h
theorem yaav {ps:List Den} {d:Int}:∀ (k:Nat),k≤ps.length→(∀ j (h:j < ps.length),¬ (0≤ps[j].child∧ps[j].dir=d))→mpD ps d k=.map []
 | 0,_,_=>rfl
 | k+1,hk,h=>by
  unfold mpD;rw[if_neg]
  ·exact yaav k (by omega) h
  ·rw[Bool.and_eq_true,decide_eq_true_eq,beq_iff_eq,zbc (by omega),zhj (by omega)];exact h k (by omega)
theorem yaov {ws:List Ino} {ps:List Den} (h:zay ws ps=true) (d:Int):(zbg ps d=[]→Maps.size (mpD ps d ps.length)=0)∧(¬ zbg ps d=[]→0 < Maps.size (mpD ps d ps.length)):=by
 unfold zbg;constructor
 ·intro e;rw[List.map_eq_nil_iff,List.filter_eq_nil_iff] at e
  rw[yaav _ (Nat.le_refl _) (fun j hj q=>by
   have:=e _ (List.getElem_mem hj);rw[decide_eq_true_eq] at this
   omega)]
  rfl
 ·intro e
  obtain ⟨x,hx⟩:∃ x:Den,x∈ps.filter (fun y:Den=>decide (¬ y.child < 0∧y.dir=d)):=by
   apply List.exists_mem_of_ne_nil;intro q;rw[q] at e;exact e rfl
  rw[List.mem_filter,decide_eq_true_eq] at hx;obtain ⟨j,hj,rfl⟩:=List.getElem_of_mem hx.1;have hit:zbu d ps[j].name ps[j]=true:=zgl.2 ⟨by omega,hx.2.2,rfl⟩;exact yana (zxp hj hit (fun i hi q'=>zsf h hi hj q' hit) (.map []) _ (Nat.le_refl _) hj).1
theorem yadv {ws:List Ino} {ps:List Den} (h:zay ws ps=true) {d:Int} (k:¬ zai ws d=2):zbg ps d=[]:=by
 unfold zbg;rw[List.map_eq_nil_iff,List.filter_eq_nil_iff];intro x hx;obtain ⟨j,hj,rfl⟩:=List.getElem_of_mem hx;rw[decide_eq_true_eq];rintro ⟨a,b⟩
 rcases zfk h j hj with q | q
 ·omega
 ·exact k (by rw[← b];exact q.2.2.2.2)
theorem zrd {ws:List Ino} {ps:List Den} (h:zay ws ps=true) (j:Nat) (hj:j < ps.length):(!ps[j].freeB)=decide (0≤ps[j].child):=by
 obtain ⟨_,_,_,_,he,_,_⟩:=zao h;have e:=(of_decide_eq_true he:∀ i (h:i < ps.length),zco ws ps i ps[i]=true) j hj;unfold zco at e
 split at e
 ·rename_i c;rw[e,decide_eq_false (by omega)];rfl
 ·rename_i c;simp only[Bool.and_eq_true,decide_eq_true_eq] at e;rw[decide_eq_true (by omega)];unfold Den.freeB;rw[show (ps[j].child == -1)=false by rw[beq_eq_false_iff_ne];exact c,Bool.and_false,Bool.and_false];rfl
def zci (ws:List Ino) (i:Nat):Ino:=ws.getD i zav
def zfd (ps:List Den) (k:Nat):Den:=ps.getD k freeD
theorem zcn {ws:List Ino} {i:Nat} (h:i < ws.length):zci ws i=ws[i]:=by
 unfold zci;rw[List.getD_eq_getElem?_getD,List.getElem?_eq_getElem h];rfl
theorem zgp {ps:List Den} {i:Nat} (h:i < ps.length):zfd ps i=ps[i]:=by
 unfold zfd;rw[List.getD_eq_getElem?_getD,List.getElem?_eq_getElem h];rfl
theorem zrx (ws:List Ino) (i:Nat):zai ws (i:Int)=(zci ws i).kind:=by unfold zai zci;rfl
theorem zzo {ps:List Den} {k:Nat} (h:k < ps.length):zaj ps k=(zfd ps k).child:=by rw[zbc h,zgp h]
theorem yagb {x:Den}:x.freeB=true↔x=freeD:=by
 unfold Den.freeB freeD;simp only[Bool.and_eq_true,beq_iff_eq];constructor
 ·rintro ⟨h1,h2,h3⟩;obtain ⟨d,n,c⟩:=x;simp only at h1 h2 h3;subst h1 h3
  have:n=⟨#[]⟩:=by
   apply zki
   have:n.data.toList.length=0:=by simpa using h2
   rw[List.eq_nil_of_length_eq_zero this]
  rw[this]
 ·intro h;rw[h];exact ⟨rfl,rfl,rfl⟩
def yapc (ws:List Ino) (x:Den):Prop:=(1≤x.child∧x.child≤15)∧(0≤x.dir∧x.dir≤15)∧nmB x.name=true∧¬ zai ws x.child=0∧zai ws x.dir=2
def cntA (ps:List Den) (c:Int):Nat:=(ps.filter fun x=>x.child == c).length
structure Img (ws:List Ino) (ps:List Den):Prop where
 l16:ws.length=16
 l24:ps.length=24
 root:zai ws 0=2
 ok:∀ i,i < 16→zes (zci ws i)=true
 ent:∀ k,k < 24→zfd ps k=freeD∨yapc ws (zfd ps k)
 once:∀ j k,j < 24→k < 24→0≤(zfd ps j).child→0≤(zfd ps k).child→(zfd ps j).dir=(zfd ps k).dir→(zfd ps j).name=(zfd ps k).name→j=k
 links:∀ i:Nat,i < 16→(if i=0 then 1 else 0)+(cntA ps (i:Int):Int)=(zci ws i).links
 hang:∀ i:Nat,i < 16→(zci ws i).kind=2→zct ps 16 (i:Int)=true
 sing:(zam ws).Pairwise fun x y=>x≠y
theorem zrt {ws:List Ino} (l16:ws.length=16) (ok:∀ i,i < 16→zes (zci ws i)=true):∀ e∈zam ws,0≤e∧(e % 4=1∨e % 4=2):=by
 apply znq;intro i hi;have:=ok i (by omega);rw[zcn hi] at this;exact (zig this).1
theorem zca {ws:List Ino} {ps:List Den}:zay ws ps=true↔Img ws ps:=by
 constructor
 ·intro h;obtain ⟨l1,l2,r,o,e,l,s⟩:=zao h
  have o':=(of_decide_eq_true o:∀ k (h:k < ws.length),zes ws[k]=true)
  have e':=(of_decide_eq_true e:∀ i (h:i < ps.length),zco ws ps i ps[i]=true)
  have l':=(of_decide_eq_true l:∀ i (h:i < ws.length),zgr ps i ws[i]=true)
  have ok:∀ i,i < 16→zes (zci ws i)=true:=fun i hi=>by rw[zcn (by omega)];exact o' i (by omega)
  refine ⟨l1,l2,r,ok,?_,?_,?_,?_,?_⟩
  ·intro k hk;rw[zgp (by omega)];have q:=e' k (by omega);unfold zco at q
   split at q
   ·exact .inl (yagb.1 q)
   ·right
    rcases zfk h k (by omega) with a | a
    ·rename_i c;exact absurd a.1 c
    ·exact a
  ·intro j k hj hk cj ck hd hn;refine zsf h (d:=(zfd ps j).dir) (nm:=(zfd ps j).name) (i:=j) (j:=k) (by omega) (by omega) ?_ ?_
   ·rw[zgp (by omega)] at cj ⊢;exact zgl.2 ⟨cj,rfl,rfl⟩
   ·rw[zgp (i:=k) (by omega)] at ck hd hn;exact zgl.2 ⟨ck,hd.symm,hn.symm⟩
  ·intro i hi;have q:=l' i (by omega);unfold zgr zmp at q;simp only[Bool.and_eq_true,decide_eq_true_eq] at q;rw[zcn (by omega),← q.1,List.take_length];rfl
  ·intro i hi hk;rw[zcn (by omega)] at hk;have q:=l' i (by omega);unfold zgr at q;simp only[Bool.and_eq_true,Bool.or_eq_true,decide_eq_true_eq] at q
   rcases q.2 with q | q
   ·exact absurd hk q
   ·exact q
  ·unfold zjk at s;rw[zot (fun e he=>(zrt l1 ok e he).2),zga] at s;exact s
 ·rintro ⟨l1,l2,r,o,e,c,l,g,s⟩;unfold zay
  have hs:zjk ws=true:=by
   unfold zjk;rw[zot (fun e he=>(zrt l1 o e he).2),zga];exact s
  have ho:zxg ws=true:=decide_eq_true fun k hk=>by rw[← zcn hk];exact o k (by omega)
  have hl:zfx ws ps=true:=decide_eq_true fun i hi=>by
   unfold zgr zmp;rw[List.take_length,← zcn hi];simp only[Bool.and_eq_true,Bool.or_eq_true,decide_eq_true_eq];refine ⟨l i (by omega),?_⟩
   by_cases q:(zci ws i).kind=2
   ·exact .inr (g i (by omega) q)
   ·exact .inl q
  have he:zip ws ps=true:=decide_eq_true fun i hi=>by
   unfold zco;rw[← zgp hi]
   rcases e i (by omega) with q | q
   ·rw[q];rfl
   ·obtain ⟨q1,q2,q3,q4,q5⟩:=q;rw[if_neg (by omega),decide_eq_true q1,decide_eq_true q2,q3,q5];simp only[Bool.true_and,Bool.and_eq_true,Bool.not_eq_true',beq_eq_false_iff_ne,List.all_eq_true];refine ⟨q4,by decide,?_⟩;intro y hy;obtain ⟨j,hj,rfl⟩:=List.mem_take_iff_getElem.1 hy;have hj:=Nat.lt_min.1 hj
    have hc:zdj ps[j] (zfd ps i)=false:=by
     rw[Bool.eq_false_iff];intro hc;unfold zdj at hc;rw[Bool.and_eq_true,Bool.and_eq_true,decide_eq_true_eq,beq_iff_eq,zpz] at hc;rw[← zgp hj.2] at hc;have:=c j i (by omega) (by omega) hc.1 (by omega) hc.2.1 hc.2.2;omega
    rw[hc]
  rw[decide_eq_true l1,decide_eq_true l2,r,ho,he,hl,hs];rfl
theorem zft {x:Ino} (h:zes x=true):(0≤x.kind∧x.kind≤2)∧(0≤x.size∧x.size≤8)∧(0≤x.links∧x.links≤24)∧mapB x.map x.size=true∧zjq x=true:=by
 unfold zes at h;simp only[Bool.and_eq_true,decide_eq_true_eq] at h;exact h
theorem zsb (va vb:Value) (ps:List St) (w:World) (ha:RdS w va ps) (hb:RdS w vb ps) (hn:ps.length≤2147483648) :
  Calls Tryz.prog 104 #[va,vb] w fun e w'=>e=.returned (.bool true)∧Below w.heap.size w w':=by
 obtain ⟨ao,cap,rfl,hcap,hc⟩:=ha.shape;obtain ⟨ao2,cap2,rfl,hcap2,hc2⟩:=hb.shape;clear ha hb;go_enter Tryz.func104,Tryz.ntmps104;go_wp2
 go_loopw [5] (fun i wr=>∃ k:Nat,k≤ps.length∧i=.int .i64 k∧Below w.heap.size w wr) (fun i _=>ps.length - (intOf i).toNat)
 case atStart=>exact ⟨0,by omega,rfl,Below.refl _ _⟩
 case round =>
  obtain ⟨k,hk,rfl,hbw⟩:=hrel
  by_cases hlt:k < ps.length
  ·obtain ⟨b,o,rfl,hbl,hcell⟩:=hc (by omega);obtain ⟨b2,o2,rfl,hbl2,hcell2⟩:=hc2 (by omega);obtain ⟨c0,c1,c2⟩:=hcell k hlt;obtain ⟨c3,c4,c5⟩:=hcell2 k hlt;have d0:=(hbw.cell (p:=⟨b,o+k*3,none⟩) hbl).trans c0;have d1:=(hbw.cell (p:=⟨b,o+k*3+1,none⟩) hbl).trans c1;have d2:=(hbw.cell (p:=⟨b,o+k*3+2,none⟩) hbl).trans c2;have d3:=(hbw.cell (p:=⟨b2,o2+k*3,none⟩) hbl2).trans c3;have d4:=(hbw.cell (p:=⟨b2,o2+k*3+1,none⟩) hbl2).trans c4;have d5:=(hbw.cell (p:=⟨b2,o2+k*3+2,none⟩) hbl2).trans c5
   have hlt':(k:Int) < (ps.length:Int):=by omega
   have hge:(0:Int)≤(k:Int):=by omega
   have hz:=hbw.size;clear hcell hcell2 hc hc2 c0 c1 c2 c3 c4 c5;go_wp2_with fail
   go_region_with (go_at_call 192;refine (zwm _ _ _ _).mono ?_;rintro e w1 ⟨rfl,hb1⟩)
   all_goals
    go_wp2
    go_roundw
    case rel=>exact ⟨k+1,by omega,by go_num,hbw.trans (Below.mono (Below.trans ((Below.refl _ _).drew) ‹_›) hz)⟩
    case measure=>simp[intOf];omega
  ·go_wp2;go_ret;exact ⟨rfl,hbw⟩
def yapo (k:Int) (i:Nat):St:=⟨k+3*(i:Int),k+3*(i:Int)+1,(k+3*(i:Int)+1+1) % 3 == 0⟩
def zef (k:Int) (n:Nat):List St:=(List.range n).map (yapo k)
theorem zcv (k:Int) (n:Nat):(zef k n).length=n:=by simp[zef]
theorem zvw (k:Int) (n i:Nat) (h:i < (zef k n).length):(zef k n)[i]=yapo k i:=by simp[zef]
def IsSts (xs:List Value) (n:Nat):Prop:=∀ k,k < n→∃ a b c,xs[k*3]?=some (.int .i64 a)∧xs[k*3+1]?=some (.int .i64 b)∧xs[k*3+2]?=some (.bool c)
theorem yasx (ps:List St):IsSts (sts ps) ps.length:=fun k hk=>⟨_,_,_,ztk ps k hk,zua ps k hk,zth ps k hk⟩
theorem IsSts.put3 {ys:List Value} {n:Nat} (h:IsSts ys n) (hl:ys.length=n*3) (k:Nat) (a b:Int) (c:Bool):IsSts (put3 ys k (.int .i64 a) (.int .i64 b) (.bool c)) n:=by
 intro j hj;rw[zhi (by omega),zhi (by omega),zhi (by omega)]
 by_cases e:j=k
 ·subst e;exact ⟨a,b,c,by simp,by simp,by simp⟩
 ·obtain ⟨x,y,z,h0,h1,h2⟩:=h j hj;refine ⟨x,y,z,?_,?_,?_⟩
  ·rw[if_neg (by omega),if_neg (by omega),if_neg (by omega)];exact h0
  ·rw[if_neg (by omega),if_neg (by omega),if_neg (by omega)];exact h1
  ·rw[if_neg (by omega),if_neg (by omega),if_neg (by omega)];exact h2
theorem zqu (v:Value) (n:Nat) (xs:List Value) (k0:Int) (lo hi:Nat) (w:World) (h:Row w 190 3 lo hi v n xs) (hx:IsSts xs n) (hn:n≤2147483648) (h0:0≤k0) (h1:k0≤1099511627776) :
  Calls Tryz.prog 106 #[v,.int .i64 k0] w fun e w'=>e=.returned (.int .i64 (k0+3*n))∧Row w' 190 3 lo hi v n (sts (zef k0 n))∧w.grownBy w' v.ownBlock∧w'.heap.size=w.heap.size:=by
 obtain ⟨hlen,ao,cap,rfl,hcap,hc⟩:=h.rd;go_enter Tryz.func106,Tryz.ntmps106;go_wp2
 go_loopw [1,5] (fun c i wr=>∃ k:Nat,k≤n∧i=.int .i64 k∧c=.int .i64 (k0+3*k)∧(∃ ys:List Value,Row wr 190 3 lo hi (.slice ao n cap) n ys∧IsSts ys n∧∀ j,j < k*3→ys[j]?=(sts (zef k0 n))[j]?)∧w.grownBy wr (Value.slice ao n cap).ownBlock∧wr.heap.size=w.heap.size) (fun _ i _=>n - (intOf i).toNat)
 case atStart=>exact ⟨0,by omega,rfl,by simp,⟨xs,h,hx,fun j hj=>absurd hj (by omega)⟩,World.grownBy.refl _ _,rfl⟩
 case round =>
  obtain ⟨k,hk,rfl,rfl,⟨ys,hrow,hys,hd⟩,hout,hz⟩:=hrel;clear h hx hc hlen
  by_cases hlt:k < n
  ·obtain ⟨hlen,ao',cap',e',_,hc⟩:=hrow.rd
   cases e'
   obtain ⟨b,o,rfl,hbl,_⟩:=hc (by omega)
   obtain ⟨rfl,hb1,hb2,_,hfr,hcl⟩:=hrow.at
   obtain ⟨x,y,z,q0,q1,q2⟩:=hys k hlt;have f0:=hfr (k*3);have f1:=hfr (k*3+1);have f2:=hfr (k*3+2);have e0:=(hcl (k*3) (by omega)).trans q0;have e1:=(hcl (k*3+1) (by omega)).trans q1;have e2:=(hcl (k*3+2) (by omega)).trans q2;have PH:=zaa (hrow.put3 k (.int .i64 (k0+3*k)) (.int .i64 (k0+3*k+1)) (.bool ((k0+3*k+1+1) % 3 == 0)));have OH:=zaa (zbm (zbm (zbm hout (a:=⟨b,k*3,none⟩) rfl (.int .i64 (k0+3*k))) (a:=⟨b,k*3+1,none⟩) rfl (.int .i64 (k0+3*k+1))) (a:=⟨b,k*3+2,none⟩) rfl (.bool ((k0+3*k+1+1) % 3 == 0)));have IH:=zaa (hys.put3 hlen k (k0+3*k) (k0+3*k+1) ((k0+3*k+1+1) % 3 == 0))
   have DH:Hid (∀ j,j < (k+1)*3→(put3 ys k (.int .i64 (k0+3*k)) (.int .i64 (k0+3*k+1)) (.bool ((k0+3*k+1+1) % 3 == 0)))[j]?=(sts (zef k0 n))[j]?):=by
    have hk':k < (zef k0 n).length:=by rw[zcv];exact hlt
    have:=zuu (ps:=zef k0 n) hk' (by rw[zcv];exact hlen) hd;rw[zvw] at this;exact this
   clear hrow hys hd hc hfr hcl q0 q1 q2;go_wp2
   go_roundw
   case rel=>exact ⟨k+1,by omega,by go_num,by go_num,⟨_,PH.o,IH.o,DH.o⟩,OH.o,by simp[hz]⟩
   case measure=>simp[intOf];omega
  ·have e:k=n:=by omega
   subst e;have hl:=hrow.len;have RH:=zaa hrow;have DH:=zaa hd;clear hrow hys hd;go_wp2;go_ret;have e:=yajg (ps:=zef k0 k) (by rw[zcv];exact hl) (by rw[zcv];exact DH.o);exact ⟨rfl,e ▸ RH.o,hout,hz⟩
theorem zqi (v:Value) (n:Nat) (k0:Int) (w:World) (h:RdS w v (zef k0 n)) (hn:n≤2147483648) (h0:0≤k0) (h1:k0≤1099511627776) :
  Calls Tryz.prog 210 #[v,.int .i64 k0] w fun e w'=>e=.returned (.int .i64 (k0+3*n))∧w'=w:=by
 obtain ⟨ao,cap,rfl,hcap,hc⟩:=h.shape;simp only[zcv] at hcap hc ⊢;clear h;go_enter Tryz.func210,Tryz.ntmps210;go_wp2
 go_loop [1,5] (fun c i=>∃ k:Nat,k≤n∧i=.int .i64 k∧c=.int .i64 (k0+3*k)) (fun _ i=>n - (intOf i).toNat)
 case atStart=>exact ⟨0,by omega,rfl,by simp⟩
 case round =>
  obtain ⟨k,hk,rfl,rfl⟩:=hrel
  by_cases hlt:k < n
  ·obtain ⟨b,o,rfl,hbl,hcell⟩:=hc (by omega);obtain ⟨c0,c1,c2⟩:=hcell k hlt;rw[zvw] at c0 c1 c2;simp only[yapo] at c0 c1 c2;clear hcell hc;go_wp2
   go_round
   case rel=>exact ⟨k+1,by omega,by go_num,by go_num⟩
   case measure=>simp[intOf];omega
  ·have e:k=n:=by omega
   subst e;go_wp2;go_ret;exact ⟨rfl,rfl⟩
end Go.Proofs.YtehnphoeplmpdaaGreatDoor
