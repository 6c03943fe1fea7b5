import Derived.Test.YteampbddflhngabGreatB46
import Derived.Test.YteampbddflhngabGreatB45
import Derived.Test.YteampbddflhngabGreatB11
import Derived.Deep.RegionLaw

namespace Go.Proofs.YteampbddflhngabGreat
structure Told(t:List PEnt)(ns:List ByteArray)(R:PRun):Prop where
 rise:Rising(namesT t)
 nrise:Rising ns
 inv:RunInv(t.map(·.arity))(widthP ns.length) R
 small:∀ a∈t.map(·.arity),a<=3
 inside:InsideD(t.map(·.arity)) ns.length(absR(t.map(·.arity)) R)
 few:R.count<=1048576/\t.length<=1000/\ns.length<=1000
def rowsP(R:PRun)(p:Nat):List PRow:=(keysT(R.rows.getD p PTrie.zero)).map fun k=>pad k(R.rows.getD p PTrie.zero).depth
def nameP(t:List PEnt)(p:Nat):ByteArray:=(namesT t).getD p ByteArray.empty
def factP(t:List PEnt)(ns:List ByteArray)(R:PRun)(p:Nat)(r:PRow):FactT:=(nameP t p,termsK ns r(arityN t p) 3,(markP(R.rows.getD p PTrie.zero) r).getD 0)
def factsK(t:List PEnt)(ns:List ByteArray)(R:PRun)(n:Nat):List FactT:=(List.range n).flatMap fun p=>(rowsP R p).map(factP t ns R p)
theorem Told.len{t:List PEnt}{ns:List ByteArray}{R:PRun}(h:Told t ns R):R.rows.length=t.length:=by have:=h.inv.len;simpa using this
theorem Told.name{t:List PEnt}{ns:List ByteArray}{R:PRun}(h:Told t ns R){p:Nat}(hp:p < t.length):(entAt t(nameP t p)).isSome=true/\findN t(nameP t p)=p/\nameP t p=t[p].name:=by
 have hn:nameP t p=t[p].name:=by unfold nameP namesT;simp [List.getD,hp]
 have hpl:placeB t t[p].name=p:=by
  rcases Nat.lt_trichotomy(placeB t t[p].name) p with q|q|q
  ·have h1:=place_ge t t[p].name h.rise t[placeB t t[p].name](by
    rw [List.mem_iff_getElem]
    exact⟨0,by simp;omega,by simp⟩)
   have hr:=List.pairwise_iff_getElem.1 h.rise(placeB t t[p].name) p(by simp [namesT];omega)(by simp [namesT];omega) q
   simp only [namesT,List.getElem_map] at hr
   rw [hr] at h1
   cases h1
  ·exact q
  ·have h1:=place_lt t t[p].name t[p](by
    rw [List.mem_iff_getElem]
    exact⟨p,by simp;omega,by simp⟩)
   rw [lt_irrefl] at h1
   cases h1
 have he:entAt t t[p].name=some t[p]:=by
  unfold entAt
  rw [hpl,List.getElem?_eq_getElem hp]
  simp
 rw [hn]
 exact⟨by rw [he];rfl,by unfold findN;rw [he,hpl];rfl,rfl⟩
theorem Told.ar{t:List PEnt}{ns:List ByteArray}{R:PRun}(h:Told t ns R){p:Nat}(hp:p < t.length):arityN t p<=3/\(t.map(·.arity)).getD p 0=arityN t p:=by
 refine⟨?_,rfl⟩
 unfold arityN
 rw [getD_lt _(by simpa using hp)]
 exact h.small _(List.getElem_mem _)
theorem Told.row{t:List PEnt}{ns:List ByteArray}{R:PRun}(h:Told t ns R){p:Nat}(hp:p < t.length){r:PRow}(hr:r∈rowsP R p):InD(absR(t.map(·.arity)) R) p r/\Canon(arityN t p) r/\∀ i,i < arityN t p->r.getD i 0 < ns.length:=by
 have hpr:p < R.rows.length:=by rw [h.len];exact hp
 have hin:InD(absR(t.map(·.arity)) R) p r:=by
  refine(rows_mem h.inv h.small hpr r).1 ?_
  unfold rowsP at hr
  rw [getD_lt _ hpr] at hr
  exact hr
 exact⟨hin,(absR_ok _ R p r hin).2,h.inside p r hin⟩
theorem Told.rows{t:List PEnt}{ns:List ByteArray}{R:PRun}(h:Told t ns R){p:Nat}(hp:p < R.rows.length):∃ fuel,rowsG fuel R.rows[p]=some(rowsP R p)/\(rowsP R p).length<=1048576:=by
 obtain⟨t1,t2,t3,t4⟩:=h.inv.tries p hp
 have hge:=sum_ge R.rows p hp
 rw [← h.inv.cnt] at hge
 have:=h.few.1
 refine⟨3 * (R.rows[p].width+1),?_,?_⟩
 ·rw [t1.rowsG _(Nat.le_refl _)(by omega)]
  unfold rowsP
  rw [getD_lt _ hp]
 ·unfold rowsP
  rw [getD_lt _ hp,List.length_map,t1.cnt]
  omega
theorem Told.when{t:List PEnt}{ns:List ByteArray}{R:PRun}(h:Told t ns R){p:Nat}(hp:p < t.length){r:PRow}(hr:r∈rowsP R p):whenR t ns R(nameP t p)(termsK ns r(arityN t p) 3)=((factP t ns R p r).2.2,0):=by
 obtain⟨n1,n2,_⟩:=h.name hp
 obtain⟨q1,q2,q3⟩:=h.row hp hr
 have hpr:p < R.rows.length:=by rw [h.len];exact hp
 unfold whenR
 rw [n2,if_neg(by rintro(z|z);rw [n1] at z;cases z;omega),if_neg(by rw [termsK_len];simp),rowF_terms h.nrise(h.ar hp).1 q2 q3]
 simp only
 unfold InD absR at q1
 rw [if_pos⟨by simpa using hp,q2⟩] at q1
 cases hm:markP(R.rows.getD p PTrie.zero) r with
 |none=>rw [hm] at q1;cases q1
 |some m=>simp only [factP,hm,Option.getD_some]
theorem ahead_map{ns:List ByteArray}(hn:Rising ns):∀ (a b:PRow),(∀ v∈a,v < ns.length)->(∀ v∈b,v < ns.length)->ltR a b->aheadB(a.map fun v=>ns.getD v ByteArray.empty)(b.map fun v=>ns.getD v ByteArray.empty)=true
 |x::a,y::b,ha,hb,h=>by
  simp only [List.map_cons,aheadB]
  rcases h with h|⟨rfl,h⟩
  ·have hl:=rise_get hn h(hb y(by simp))
   rw [if_neg]
   ·exact hl
   ·intro e
    rw [e,lt_irrefl] at hl
    cases hl
  ·rw [if_pos rfl]
   exact ahead_map hn a b(fun v hv=>ha v(by simp [hv]))(fun v hv=>hb v(by simp [hv])) h
 |[],_,_,_,h=>h.elim
 |_::_,[],_,_,h=>h.elim
theorem termsK_pad{ns:List ByteArray}{k:PRow}{ar:Nat}(hk:k.length=ar)(h3:ar<=3):termsK ns(pad k ar) ar 3=k.map fun v=>ns.getD v ByteArray.empty:=by
 refine List.ext_getElem(by simp [termsK,hk]) fun i h1 h2=>?_
 have hi:i < ar:=by rw [termsK_len] at h1;exact h1
 simp only [termsK,List.getElem_map,List.getElem_range]
 rw [if_pos(by omega)]
 congr 1
 unfold pad
 rw [List.getD_eq_getElem?_getD,List.getElem?_append_left(by omega),List.getElem?_eq_getElem(by omega)]
 rfl
theorem Told.sorted{t:List PEnt}{ns:List ByteArray}{R:PRun}(h:Told t ns R){p:Nat}(hp:p < t.length){i j:Nat}(hij:i < j)(hj:j < (rowsP R p).length):aheadB(termsK ns((rowsP R p)[i]'(by omega))(arityN t p) 3)(termsK ns(rowsP R p)[j](arityN t p) 3)=true:=by
 have hpr:p < R.rows.length:=by rw [h.len];exact hp
 obtain⟨t1,t2,t3,t4⟩:=h.inv.tries p hpr
 obtain⟨ha3,haa⟩:=h.ar hp
 have hg:R.rows.getD p PTrie.zero=R.rows[p]:=getD_lt _ hpr
 have hri:=(h.row hp(List.getElem_mem(show i < (rowsP R p).length by omega))).2
 have hrj:=(h.row hp(List.getElem_mem hj)).2
 simp only [rowsP,hg,List.length_map] at hj
 simp only [rowsP,hg,List.getElem_map] at hri hrj ⊢
 have hs:=List.pairwise_iff_getElem.1(keysF_sorted R.rows[p] R.rows[p].depth 0 0) i j(show i < (keysT R.rows[p]).length by omega) hj hij
 have li:=((keysT_mem R.rows[p] _).1(List.getElem_mem(show i < (keysT R.rows[p]).length by omega))).1
 have lj:=((keysT_mem R.rows[p] _).1(List.getElem_mem hj)).1
 change ltR(keysT R.rows[p])[i](keysT R.rows[p])[j] at hs
 generalize(keysT R.rows[p])[i]=ki at *
 generalize(keysT R.rows[p])[j]=kj at *
 rw [haa] at t3
 by_cases h0:arityN t p=0
 ·have hd1:R.rows[p].depth=1:=by rw [t3,h0];rfl
  rw [hd1] at li lj hri hrj
  have hz:∀ k:PRow,k.length=1->Canon 0(pad k 1)->k=[0]:=by
   intro k hk hc
   match k,hk with
   |[v],_ =>
    have:=hc.2 0(Nat.le_refl _)
    simp [pad] at this
    rw [this]
  rw [h0] at hri hrj
  rw [hz ki li hri.1,hz kj lj hrj.1] at hs
  exact absurd hs(ltR_irrefl _)
 ·have hd:R.rows[p].depth=arityN t p:=by rw [t3,depthP_self h0 ha3]
  rw [hd] at li lj hri hrj ⊢
  rw [termsK_pad li ha3,termsK_pad lj ha3]
  have hsm:∀ k:PRow,k.length=arityN t p->(∀ i,i < arityN t p->(pad k(arityN t p)).getD i 0 < ns.length)->∀ v∈k,v < ns.length:=by
   intro k hk hq v hv
   obtain⟨i,hi,rfl⟩:=List.getElem_of_mem hv
   have:=hq i(by omega)
   unfold pad at this
   rw [List.getD_eq_getElem?_getD,List.getElem?_append_left(by omega),List.getElem?_eq_getElem hi] at this
   exact this
  exact ahead_map h.nrise ki kj(hsm ki li hri.2)(hsm kj lj hrj.2) hs
end Go.Proofs.YteampbddflhngabGreat

namespace Go.Proofs.YteampbddflhngabGreat
set_option maxRecDepth 100000
set_option maxHeartbeats 4000000
open Go.RowKit
theorem Tryz.infoFactK:(Tryz.prog.info? 54).map(fun i=>(i.zero,i.size,i.bytes))=some(some(.agg #[.string ByteArray.empty,.slice none 0 0,.int .i64 0]),3,48):=by kernel_rfl
def factC(f:FactT)(g:Nat):List Value:=[.string f.1,.slice(some⟨g,0,none⟩) f.2.1.length f.2.1.length,.int .i64(f.2.2:Nat)]
def factCs(fs:List FactT)(gs:List Nat):List Value:=(List.zipWith factC fs gs).flatten
structure OutOK(B:Nat)(w:World)(v:Value)(fs:List FactT)(gs:List Nat):Prop where
 len:gs.length=fs.length
 own:w.ownsRow B 54 3 v fs.length(factCs fs gs)
 rows:∀ i(h:i < fs.length)(h2:i < gs.length),SIn B w(.slice(some⟨gs[i],0,none⟩) fs[i].2.1.length fs[i].2.1.length) fs[i].2.1
theorem OutOK.below{B:Nat}{w w':World}{v:Value}{fs:List FactT}{gs:List Nat}(h:OutOK B w v fs gs)(hb:Below w.heap.size w w'):OutOK B w' v fs gs:=⟨h.len,owns_below h.own hb,fun i a b=>(h.rows i a b).below hb⟩
theorem factCs_snoc{fs:List FactT}{gs:List Nat}(h:gs.length=fs.length)(f:FactT)(g:Nat):factCs(fs++[f])(gs++[g])=factCs fs gs++factC f g:=by
 unfold factCs
 rw [List.zipWith_append h.symm]
 simp
theorem OutOK.push{B:Nat}{w w3:World}{v v':Value}{fs:List FactT}{gs:List Nat}(h:OutOK B w v fs gs){f:FactT}{g:Nat}(hS:Save v.ownBlock.toList w w3)(ho:w3.ownsRow B 54 3 v'(fs.length+1)(factCs fs gs++factC f g))(hs:SIn B w(.slice(some⟨g,0,none⟩) f.2.1.length f.2.1.length) f.2.1):OutOK B w3 v'(fs++[f])(gs++[g]):=by
 have hM:=OfT.own h.own
 refine⟨by simp [h.len],by rw [factCs_snoc h.len,List.length_append];exact ho,fun i a b=>?_⟩
 by_cases hi:i < fs.length
 ·have hi2:i < gs.length:=by rw [h.len];exact hi
  rw [List.getElem_append_left hi,List.getElem_append_left hi2]
  exact own_saveT(h.rows i hi hi2) hS hM(by decide)
 ·have e:i=fs.length:=by simp at a;omega
  subst e
  have e2:(gs++[g])[fs.length]=g:=by simp [h.len]
  rw [e2]
  simp only [List.getElem_append_right(Nat.le_refl _),Nat.sub_self,List.getElem_cons_zero]
  exact own_saveT hs hS hM(by decide)
theorem factsK_succ(t:List PEnt)(ns:List ByteArray)(R:PRun)(m:Nat):factsK t ns R(m+1)=factsK t ns R m++(rowsP R m).map(factP t ns R m):=by
 unfold factsK
 rw [List.range_succ,List.flatMap_append]
 simp
theorem kfacts_any{lo lp lq:Nat}(w:World)(pb rb:Nat)(cs:List PClause)(t:List PEnt)(ns:List ByteArray)(R:PRun)(pv nv rv:Value)(tbs:List Nat)(hP:PProg lq w pb cs t)(hR:ResO lo lp w rb t ns R pv nv rv tbs)(hT:Told t ns R)(hmany:(factsK t ns R t.length).length<=10000000) :
  Calls Tryz.prog 25 #[.pointer(some⟨pb,0,none⟩),.pointer(some⟨rb,0,none⟩)] w fun e w'=>∃ v gs,e=.returned(.tuple #[v,.bool true])/\OutOK w.heap.size w' v(factsK t ns R t.length) gs/\Below w.heap.size w w':=by
 obtain⟨i0,hi,hz0,hzs,hzb⟩:=info_parts Tryz.infoFactK
 have HPR:Hid(Calls Tryz.prog 21 #[.pointer(some⟨pb,0,none⟩)] w fun e w'=>∃ g,w.heap.size<=g/\e=.returned(.slice(some⟨g,0,none⟩) t.length t.length)/\Hid(SIn w.heap.size w'(.slice(some⟨g,0,none⟩) t.length t.length)(namesT t))/\Below w.heap.size w w'):=prog_preds w pb cs t hP hT.few.2.1
 have HRE:Hid(ResO lo lp w rb t ns R pv nv rv tbs):=hR
 have HTO:Hid(Told t ns R):=hT
 have htl:=hT.few.2.1
 clear hP hR hT
 go_enter Tryz.func25,Tryz.ntmps25
 go_wp2_with(first|(go_at_call 21;refine HPR.out.mono ?_;rintro e w1⟨gp,hgp,rfl,HS1,hb1⟩))
 go_loopw [6,8,9,10,11,12,13,14](fun v6 v8 _ _ _ _ _ _ wr=>∃ (m:Nat)(gs:List Nat)(ao:Option Addr)(cap:Nat),m<=t.length/\v8=.int .i64 m/\v6=.slice ao(factsK t ns R m).length cap/\Below w.heap.size w wr/\Hid(SIn w.heap.size wr(.slice(some⟨gp,0,none⟩) t.length t.length)(namesT t))/\Hid(OutOK w.heap.size wr(.slice ao(factsK t ns R m).length cap)(factsK t ns R m) gs))(fun _ i _ _ _ _ _ _ _=>t.length - (intOf i).toNat)
 case atStart=>exact⟨0,[],none,0,Nat.zero_le _,rfl,rfl,hb1,HS1,⟨rfl,World.ownsRow_nil _ _ _ _,fun i h=>by simp [factsK] at h⟩⟩
 case round =>
  clear HS1
  obtain⟨m,gs,ao,cap,hm,rfl,rfl,hbk,HS,HO⟩:=hrel
  by_cases hml:m < t.length
  ·have hmi:(m:Int) < (t.length:Int):=by omega
   have hmr:m < R.rows.length:=by rw [HTO.out.len];exact hml
   obtain⟨n1,n2,n3⟩:=HTO.out.name hml
   obtain⟨fuel,hrg,hrl⟩:=HTO.out.rows hmr
   have har:=(HTO.out.ar hml).1
   have hnl:m < (namesT t).length:=by simp [namesT];exact hml
   obtain⟨g,hgg,hg,hcn⟩:=HS.out.cell m hnl
   simp only [Option.some.injEq,Addr.mk.injEq,and_true] at hgg
   subst hgg
   have hnm:(namesT t)[m]=nameP t m:=by unfold nameP;rw [getD_lt _ hnl]
   rw [hnm] at hcn
   have HRW:Hid(Calls Tryz.prog 28 #[.pointer(some⟨rb,0,none⟩),.string(nameP t m)] wr fun e w'=>RowsPost ns(arityN t m)(rowsP R m) wr e w'):=by
    have q:=rrows_any wr rb t ns R pv nv rv tbs(nameP t m)(HRE.out.below hbk) n1(by rw [n2];exact hmr) fuel(rowsP R m)(by simpa only [n2] using hrg)(by rw [n2];omega)
    rw [n2] at q
    exact q
   have HHN:Hid(∀ W,SIn w.heap.size W(.slice(some⟨gp,0,none⟩) t.length t.length)(namesT t)->W.cell?⟨gp,m,none⟩=some(.string(nameP t m))/\gp < W.heap.size):=fun W hq=>by
    obtain⟨g',e',l',c'⟩:=hq.cell m hnl
    simp only [Option.some.injEq,Addr.mk.injEq,and_true] at e'
    subst e'
    rw [hnm] at c'
    exact⟨c',l'⟩
   have HFS:Hid(factsK t ns R(m+1)=factsK t ns R m++(rowsP R m).map(factP t ns R m)):=factsK_succ t ns R m
   clear n1 n2 n3 hrg hnm hnl
   go_upto_region 7 with(first|(go_at_call 28;refine HRW.out.mono ?_;rintro e w2⟨gl,gls,hgl,rfl,hown2,hcop2,hb2⟩))
   have hB2:Below w.heap.size w w2:=bnext hbk hb2(Nat.le_refl _)
   have hwl:=hbk.size
   have HL2:Hid(w2.ownsRow w.heap.size 38 1(.slice(some⟨gl,0,none⟩)(rowsP R m).length(rowsP R m).length)(rowsP R m).length(gls.map(slOf(arityN t m)))):=own_low hown2 hwl
   have HC2:Hid(gls.length=(rowsP R m).length/\∀ k,k < (rowsP R m).length->SIn w.heap.size w2(slOf(arityN t m)(gls.getD k 0))(termsK ns((rowsP R m).getD k [])(arityN t m) 3)):=by
    have hgl2:gls.length=(rowsP R m).length:=by have:=hcop2.1;simpa using this
    refine⟨hgl2,fun k h1=>?_⟩
    have h2:k < gls.length:=by omega
    have q:=(hcop2.2.2 k(by simpa using h1) h2).2
    simp only [List.getElem_map,rowLit,termsK_len] at q
    rw [getD_lt _ h1,getD_lt _ h2]
    exact q.low hwl
   have HS2:Hid(SIn w.heap.size w2(.slice(some⟨gp,0,none⟩) t.length t.length)(namesT t)):=HS.out.below hb2
   have HO2:Hid(OutOK w.heap.size w2(.slice ao(factsK t ns R m).length cap)(factsK t ns R m++((rowsP R m).take 0).map(factP t ns R m)) gs):=by
    have q:=HO.out.below hb2
    simpa [Hid] using q
   have HWH:Hid(∀ k,k < (rowsP R m).length->whenR t ns R(nameP t m)(termsK ns((rowsP R m).getD k [])(arityN t m) 3)=((factP t ns R m((rowsP R m).getD k [])).2.2,0)):=fun k h1=>by
    rw [getD_lt _ h1]
    exact HTO.out.when hml(List.getElem_mem h1)
   have HAH:Hid(∀ k,k < (rowsP R m).length->0 < k->aheadB(termsK ns((rowsP R m).getD(k - 1) [])(arityN t m) 3)(termsK ns((rowsP R m).getD k [])(arityN t m) 3)=true):=fun k h1 h0=>by
    rw [getD_lt _ h1,getD_lt _(show k - 1 < (rowsP R m).length by omega)]
    exact HTO.out.sorted hml(by omega) h1
   have HFP:Hid(∀ k,k < (rowsP R m).length->factP t ns R m((rowsP R m).getD k [])=(nameP t m,termsK ns((rowsP R m).getD k [])(arityN t m) 3,(factP t ns R m((rowsP R m).getD k [])).2.2)):=fun k _=>rfl
   have HLN:Hid(((rowsP R m).map(factP t ns R m)).length=(rowsP R m).length):=show _=_ by simp
   have HMX:Hid((factsK t ns R m).length+(rowsP R m).length<=10000000):=show(factsK t ns R m).length+(rowsP R m).length<=10000000 by
    have h1:(factsK t ns R(m+1)).length<=(factsK t ns R t.length).length:=by
     have:∀ d,(factsK t ns R(m+1)).length<=(factsK t ns R(m+1+d)).length:=by
      intro d
      induction d with
      |zero=>exact Nat.le_refl _
      |succ d ih=>rw [show m+1+(d+1)=(m+1+d)+1 by omega,factsK_succ t ns R(m+1+d),List.length_append];omega
     have:=this(t.length - (m+1))
     rwa [show m+1+(t.length - (m+1))=t.length by omega] at this
    rw [HFS.out,List.length_append,HLN.out] at h1
    omega
   clear hown2 hcop2 hb2 HS HO HRW hcn hg
   generalize factP t ns R m=fP at *
   generalize nameP t m=nm at *
   generalize rowsP R m=rs at *
   generalize arityN t m=ar at *
   generalize factsK t ns R m=fm at *
   go_wp2
   go_loopw [6,11,12,13,14](fun v6 v11 _ _ _ wr=>∃ (k:Nat)(gs':List Nat)(ao':Option Addr)(cap':Nat),k<=rs.length/\v11=.int .i64 k/\v6=.slice ao'(fm.length+k) cap'/\Below w.heap.size w wr/\Hid(SIn w.heap.size wr(.slice(some⟨gp,0,none⟩) t.length t.length)(namesT t))/\Hid(wr.ownsRow w.heap.size 38 1(.slice(some⟨gl,0,none⟩) rs.length rs.length) rs.length(gls.map(slOf ar)))/\Hid(gls.length=rs.length/\∀ k,k < rs.length->SIn w.heap.size wr(slOf ar(gls.getD k 0))(termsK ns(rs.getD k []) ar 3))/\Hid(OutOK w.heap.size wr(.slice ao'(fm.length+k) cap')(fm++(rs.take k).map fP) gs'))(fun _ i _ _ _ _=>rs.length - (intOf i).toNat)
   case atStart=>exact⟨0,gs,ao,cap,Nat.zero_le _,rfl,rfl,hB2,HS2,HL2,HC2,HO2⟩
   case round =>
    clear HS2 HL2 HC2 HO2 hB2
    obtain⟨k,gs',ao',cap',hk,rfl,rfl,hbk2,HS3,HL3,HC3,HO3⟩:=hrel
    by_cases hkl:k < rs.length
    ·have hki:(k:Int) < (rs.length:Int):=by omega
     obtain⟨cn,hgp3⟩:=HHN.out _ HS3.out
     have HLC:Hid(∀ W:World,W.ownsRow w.heap.size 38 1(.slice(some⟨gl,0,none⟩) rs.length rs.length) rs.length(gls.map(slOf ar))->∀ j,j < rs.length->W.cell?⟨gl,j,none⟩=some(slOf ar(gls.getD j 0))/\gl < W.heap.size):=fun W hq j hj=>by
      obtain⟨g',cap'',hv,_,hg',hc'⟩:=own_cells hq(by omega)
      simp only [Value.slice.injEq,Option.some.injEq,Addr.mk.injEq,and_true] at hv
      have e:=hv.1
      subst e
      have hjg:j < gls.length:=by rw [HC3.out.1];exact hj
      exact⟨hc' j(slOf ar(gls.getD j 0))(by simp [hjg,List.getD]),hg'⟩
     obtain⟨cl,hgl3⟩:=HLC.out _ HL3.out k hkl
     unfold slOf at cl
     have HSK:Hid(SIn w.heap.size wr(.slice(some⟨gls.getD k 0,0,none⟩) ar ar)(termsK ns(rs.getD k []) ar 3)):=HC3.out.2 k hkl
     generalize gls.getD k 0=gk at cl HSK
     have HWN:Hid(∀ W,Below wr.heap.size wr W->Calls Tryz.prog 31 #[.pointer(some⟨rb,0,none⟩),.string nm,.slice(some⟨gk,0,none⟩) ar ar] W fun e w'=>e=.returned(.tuple #[.int .i64((fP(rs.getD k [])).2.2:Nat),.int .i64 0])/\Hid(Below wr.heap.size wr w')/\w'.cell?⟨gp,m,none⟩=some(.string nm)/\w'.cell?⟨gl,k,none⟩=some(.slice(some⟨gk,0,none⟩) ar ar)):=fun W hb=>by
      have hq:=bnext hbk2 hb(Nat.le_refl _)
      have hs:=HSK.out.below hb
      refine(when_any W rb t ns R pv nv rv tbs nm(termsK ns(rs.getD k []) ar 3) _(HRE.out.below hq) hs(by rw [termsK_len];omega)).mono ?_
      rintro e w'⟨h1,h2⟩
      rw [HWH.out k hkl] at h1
      have hb3:=bnext hb h2(Nat.le_refl _)
      exact⟨h1,hb3,(hb3.cell(p:=⟨gp,m,none⟩) hgp3).trans cn,(hb3.cell(p:=⟨gl,k,none⟩) hgl3).trans cl⟩
     have HFK:Hid(rs.take(k+1)=rs.take k++[rs.getD k []]):=show rs.take(k+1)=_ by rw [List.take_succ_eq_append_getElem hkl,getD_lt _ hkl]
     have HAK:Hid(0 < k->aheadB(termsK ns(rs.getD(k - 1) []) ar 3)(termsK ns(rs.getD k []) ar 3)=true):=fun h0=>HAH.out k hkl h0
     have HFPK:Hid(fP(rs.getD k [])=(nm,termsK ns(rs.getD k []) ar 3,(fP(rs.getD k [])).2.2)):=HFP.out k hkl
     generalize hwk:(fP(rs.getD k [])).2.2=wk at *
     clear hwk
     go_upto_region 12 with fail
     go_cut [12,13] from 34 to 85(fun s12 s13 wx=>s12=.int .i64(wk:Nat)/\s13=.int .i64 0/\Hid(Below wr.heap.size wr wx))
     case first =>
      go_region_held3(fun w'=>w'.cell?⟨gp,m,none⟩=some(.string nm)/\w'.cell?⟨gl,k,none⟩=some(.slice(some⟨gk,0,none⟩) ar ar))(first|go_keep|(go_simp;done))(first|(go_at_call 31;refine(HWN.out _(by exact(by repeat'(first|with_reducible(first|exact zR _ _|assumption|refine zN ?_ _|refine zA ?_ ?_ _|refine zD ?_|refine zS ?_ ?_ _)|go_size)))).mono ?_;rintro e w5⟨rfl,HB5,z0,z1⟩))
      go_wp2
      go_meet
      case rel=>exact⟨rfl,rfl,HB5⟩
     case rest =>
      obtain⟨rfl,rfl,HB6⟩:=hcut
      obtain⟨w6,rfl⟩:∃ w6,w6=wc:=⟨_,rfl⟩
      have hB6:Below w.heap.size w w6:=bnext hbk2 HB6.out(Nat.le_refl _)
      have HS6:Hid(SIn w.heap.size w6(.slice(some⟨gp,0,none⟩) t.length t.length)(namesT t)):=HS3.out.below HB6.out
      have HL6:Hid(w6.ownsRow w.heap.size 38 1(.slice(some⟨gl,0,none⟩) rs.length rs.length) rs.length(gls.map(slOf ar))):=owns_below HL3.out HB6.out
      have HC6:Hid(gls.length=rs.length/\∀ k,k < rs.length->SIn w.heap.size w6(slOf ar(gls.getD k 0))(termsK ns(rs.getD k []) ar 3)):=⟨HC3.out.1,fun j hj=>(HC3.out.2 j hj).below HB6.out⟩
      have HO6:Hid(OutOK w.heap.size w6(.slice ao'(fm.length+k) cap')(fm++(rs.take k).map fP) gs'):=HO3.out.below HB6.out
      have HSK6:Hid(SIn w.heap.size w6(.slice(some⟨gk,0,none⟩) ar ar)(termsK ns(rs.getD k []) ar 3)):=HSK.out.below HB6.out
      have hwk0:(0:Int)<=(wk:Int):=by omega
      clear HWN HS3 HL3 HC3 HO3 HSK cn cl hgp3 hgl3 hbk2 HB6 wr
      go_upto_if 60 with fail
      go_cut [14] from 34 to 85(fun _ wx=>Hid(Below w6.heap.size w6 wx))
      case first =>
       by_cases hk0:0 < k
       ·have hk0i:(0:Int) < (k:Int):=by omega
        obtain⟨cl0,hgl6⟩:=HLC.out _ HL6.out(k - 1)(by omega)
        obtain⟨cl1,_⟩:=HLC.out _ HL6.out k hkl
        have HSA:Hid(SIn w.heap.size w6(slOf ar(gls.getD(k - 1) 0))(termsK ns(rs.getD(k - 1) []) ar 3)):=HC6.out.2(k - 1)(by omega)
        have HSB:Hid(SIn w.heap.size w6(slOf ar(gls.getD k 0))(termsK ns(rs.getD k []) ar 3)):=HC6.out.2 k hkl
        unfold slOf at cl0 cl1 HSA HSB
        generalize gls.getD(k - 1) 0=ga at *
        generalize gls.getD k 0=gb at *
        obtain⟨j,rfl⟩:∃ j,k=j+1:=⟨k - 1,by omega⟩
        have ejj:j+1 - 1=j:=by omega
        rw [ejj] at cl0 HSA HAK
        have HAD:Hid(∀ W,Below w6.heap.size w6 W->Calls Tryz.prog 49 #[.slice(some⟨ga,0,none⟩) ar ar,.slice(some⟨gb,0,none⟩) ar ar] W fun e w'=>e=.returned(.bool true)/\Hid(Below w6.heap.size w6 w')/\w'.cell?⟨gl,j,none⟩=some(.slice(some⟨ga,0,none⟩) ar ar)/\w'.cell?⟨gl,j+1,none⟩=some(.slice(some⟨gb,0,none⟩) ar ar)):=fun W hb=>by
         refine(kahead_any W _ _ _ _(HSA.out.below hb)(HSB.out.below hb)(by rw [termsK_len];omega)).mono ?_
         rintro e w'⟨h1,h2⟩
         rw [HAK.out hk0] at h1
         have hb3:=bnext hb h2(Nat.le_refl _)
         exact⟨h1,hb3,(hb3.cell(p:=⟨gl,j,none⟩) hgl6).trans cl0,(hb3.cell(p:=⟨gl,j+1,none⟩) hgl6).trans cl1⟩
        have hwr1:IntKind.i64.wrap(((j:Int)+1) - 1)=(j:Int):=(IntWalk.i64_in _(by omega)).trans(by omega)
        have hwr2:IntKind.i64.wrap(((j+1:Nat):Int) - 1)=(j:Int):=(IntWalk.i64_in _(by omega)).trans(by omega)
        have hwr3:IntKind.i64.wrap(j:Int)=(j:Int):=IntWalk.i64_in _(by omega)
        have hjl:(j:Int) < (rs.length:Int):=by omega
        have hj0:(0:Int)<=(j:Int)+1:=by omega
        have hj1:(j:Int)+1 < (rs.length:Int):=by omega
        have hj2:((j:Int)+1).toNat=j+1:=by omega
        have hwr4:IntKind.i64.wrap((j:Int)+1)=(j:Int)+1:=IntWalk.i64_in _(by omega)
        go_wp2
        go_region_held3(fun w'=>w'.cell?⟨gl,j,none⟩=some(.slice(some⟨ga,0,none⟩) ar ar)/\w'.cell?⟨gl,j+1,none⟩=some(.slice(some⟨gb,0,none⟩) ar ar))(first|go_keep|(go_simp;done))(first|(go_at_call 49;refine(HAD.out _(by exact(by repeat'(first|with_reducible(first|exact zR _ _|assumption|refine zN ?_ _|refine zA ?_ ?_ _|refine zD ?_|refine zS ?_ ?_ _)|go_size)))).mono ?_;rintro e w7⟨rfl,HB7,z0,z1⟩))
        go_wp2
        go_meet
        case rel=>exact HB7
       ·have hk0i:¬ (0:Int) < (k:Int):=by omega
        go_wp2
        go_meet
        case rel=>exact Below.refl _ _
      case rest =>
       have HB8:Hid(Below w6.heap.size w6 wc):=hcut
       clear hcut
       have hB8:Below w.heap.size w wc:=bnext hB6 HB8.out(Nat.le_refl _)
       have HS8:Hid(SIn w.heap.size wc(.slice(some⟨gp,0,none⟩) t.length t.length)(namesT t)):=HS6.out.below HB8.out
       have HL8:Hid(wc.ownsRow w.heap.size 38 1(.slice(some⟨gl,0,none⟩) rs.length rs.length) rs.length(gls.map(slOf ar))):=owns_below HL6.out HB8.out
       have HC8:Hid(gls.length=rs.length/\∀ k,k < rs.length->SIn w.heap.size wc(slOf ar(gls.getD k 0))(termsK ns(rs.getD k []) ar 3)):=⟨HC6.out.1,fun j hj=>(HC6.out.2 j hj).below HB8.out⟩
       have HO8:Hid(OutOK w.heap.size wc(.slice ao'(fm.length+k) cap')(fm++(rs.take k).map fP) gs'):=HO6.out.below HB8.out
       clear HS6 HL6 HC6 HO6 HSK6 HB8 hB6 w6
       obtain⟨cn8,hgp8⟩:=HHN.out _ HS8.out
       obtain⟨cl8,hgl8⟩:=HLC.out _ HL8.out k hkl
       have HSK8:Hid(SIn w.heap.size wc(slOf ar(gls.getD k 0))(termsK ns(rs.getD k []) ar 3)):=HC8.out.2 k hkl
       unfold slOf at cl8 HSK8
       generalize gls.getD k 0=gb at cl8 HSK8
       have hown8:=HO8.out.own
       have HLF:Hid((fm++(rs.take k).map fP).length=fm.length+k):=show _=_ by
        rw [List.length_append,List.length_map,List.length_take,Nat.min_eq_left(by omega)]
       rw [HLF.out] at hown8
       have hwl8:=hB8.size
       have hmx:=HMX.out
       have HPU:Hid(∀ w9 v',Save(Value.ownBlock(.slice ao'(fm.length+k) cap')).toList wc w9->w9.ownsRow w.heap.size 54 3 v'(fm.length+k+1)(factCs(fm++(rs.take k).map fP) gs'++[.string nm,.slice(some⟨gb,0,none⟩) ar ar,.int .i64(wk:Nat)])->Below w.heap.size w w9/\Hid(SIn w.heap.size w9(.slice(some⟨gp,0,none⟩) t.length t.length)(namesT t))/\Hid(w9.ownsRow w.heap.size 38 1(.slice(some⟨gl,0,none⟩) rs.length rs.length) rs.length(gls.map(slOf ar)))/\Hid(gls.length=rs.length/\∀ k,k < rs.length->SIn w.heap.size w9(slOf ar(gls.getD k 0))(termsK ns(rs.getD k []) ar 3))/\Hid(OutOK w.heap.size w9 v'(fm++(rs.take(k+1)).map fP)(gs'++[gb]))):=fun w9 v' hS ho=>by
        have hM:=OfT.own HO8.out.own
        refine⟨hB8.trans(hS.below(fun x hx=>own_ge HO8.out.own(mem_own hx)) hwl8),own_saveT HS8.out hS hM(by decide),own_saveT HL8.out hS hM(by decide),⟨HC8.out.1,fun j hj=>own_saveT(HC8.out.2 j hj) hS hM(by decide)⟩,?_⟩
        have hq:=HO8.out.push(f:=fP(rs.getD k []))(g:=gb)(v':=v') hS(by
         rw [HLF.out,HFPK.out]
         unfold factC
         simp only [termsK_len]
         exact ho)(by
         rw [HFPK.out]
         simp only [termsK_len]
         exact HSK8.out)
        rw [Hid,HFK.out,List.map_append,← List.append_assoc]
        exact hq
       go_upto_region 19 with fail
       go_region_law(first|(refine step_push3 wc _ [.string nm,.slice(some⟨gb,0,none⟩) ar ar,.int .i64(wk:Nat)] 54 rfl(.tmp 73)(.tmp 84) 49 rfl w.heap.size 54 i0 _ 3 48 Tryz.underlying49 hi hz0 hzs hzb rfl(by decide)(.slice ao'(fm.length+k) cap')(fm.length+k)(factCs(fm++(rs.take k).map fP) gs')(by simp [Act.eval]) hown8(by exact(by repeat'(first|with_reducible(first|exact zR _ _|assumption|refine zN ?_ _|refine zA ?_ ?_ _|refine zD ?_|refine zS ?_ ?_ _)|go_size))) wc.heap.size 1(by simp [Act.eval])(by exact Box.drew(Box.newAt _ _ _ _ rfl)) rfl(by simp [Value.oneCell'])(by omega)(by omega) hwl8 ?_;intro v' w9 ho9 hS9 hat9 hk9 hz9';obtain⟨ao9,cap9,rfl⟩:=own_view ho9))
       all_goals
        obtain⟨p1,p2,p3,p4,p5⟩:=HPU.out w9 _ hS9 ho9
        clear HPU hS9 ho9 hat9 hk9 hz9' HO8 HS8 HL8 HC8 hB8 hown8 cn8 cl8
        go_wp2
        go_roundw
        case rel=>exact⟨k+1,gs'++[gb],ao9,cap9,by omega,by go_num,by rfl,p1,p2,p3,p4,p5⟩
        case measure=>simp [intOf];omega
    ·obtain rfl:k=rs.length:=by omega
     have q:=HO3.out
     rw [List.take_length,← HFS.out] at q
     have HLE:Hid((factsK t ns R(m+1)).length=fm.length+rs.length):=show _=_ by rw [HFS.out,List.length_append,HLN.out]
     have HOQ:Hid(OutOK w.heap.size wr(.slice ao'(fm.length+rs.length) cap')(factsK t ns R(m+1)) gs'):=q
     clear q HO3 HL3 HC3
     go_wp2
     exact⟨⟨m+1,gs',ao',cap',by omega,by go_num,by rw [HLE.out],hbk2,HS3,by rw [HLE.out];exact HOQ⟩,by simp [intOf];omega⟩
  ·obtain rfl:m=t.length:=by omega
   go_wp2
   go_ret2
   exact⟨_,gs,rfl,HO.out,hbk⟩
end Go.Proofs.YteampbddflhngabGreat
