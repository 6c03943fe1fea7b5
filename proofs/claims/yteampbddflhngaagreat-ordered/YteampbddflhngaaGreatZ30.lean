import Derived.Test.YteampbddflhngaaGreatZ24
import Derived.Test.YteampbddflhngaaGreatZ27
namespace Go.Proofs.YteampbddflhngaaGreat
set_option linter.all false
set_option maxRecDepth 100000
set_option maxHeartbeats 4000000
open Go.RowKit
section
open Go.Proofs.Tryz
variable {lo:Nat}{ownk own1:Nat->zn}{wd:Nat}
def Ha(lo:Nat)(w:World)(own:Nat->zn)(k wd:Nat)(r:zr)(vs:List y6)(b:List Nat)(n:Nat)(e:Ending)(w':World):Prop:=∃P a,e=ε (.agg (jw r P).toArray)/\uc lo w' a k wd ⟨r,vs⟩ P/\gY b n r P.nbs/\QE lo (lq k) w own w' a
def z8:List Value:=[ι 0,ι 0,ι 0,ν,ν,ν,ν,ν]
theorem Qi:(prog.info? 301).map (fun i=>(i.zero,i.size,i.bytes))=some (some (.agg #[ι 0,ν,ι 0,.pointer none,.pointer none,.pointer none]),6,64):=by kernel_rfl
def SB(d wd:Nat)(tv:Value)(b c a:Nat):Array Value:=#[ι d,tv,ι wd,(π b),(π c),(π a)]
structure S1 (lo:Nat) (wr W3:World) (ownk own2:Nat->zn) (k m wd g8:Nat) (l:zu) (tv:Value) (bb fb ab:Nat):Prop where
 view:vF lo W3 own2 k m (kG wd l) ⟨tv,bb,fb,ab⟩
 role:own2 g8=(0,0,5)
 old:∀b,b<wr.heap.size->own2 b=ownk b
 box:Q8 W3 g8 (SB l.pred wd tv bb fb ab) 301
 lbox:Q8 W3 wr.heap.size #[ι l.pred,tv] 204
 below:μ wr W3
 ge:wr.heap.size<=g8
theorem S1.one{wr e a:World}{k m:Nat}{l:zu}{tv:Value}{f h g:Nat}(d:μ wr e)(j:Q8 e wr.heap.size #[ι l.pred,tv] 204)(c:μ e a)(n:vF lo a own1 k m (kG wd l) ⟨tv,f,h,g⟩)(p:∀b,b<e.heap.size->own1 b=ext ownk wr.heap.size (0,0,5) b):S1 lo wr (a.alloc (.cells (SB l.pred wd tv f h g) 301)) ownk (ext own1 a.heap.size (0,0,5)) k m wd a.heap.size l tv f h g:=by
 have i:μ a (a.alloc (.cells (SB l.pred wd tv f h g) 301)):=(zo _ _).alloc (zg _) _;have q:=d.size;have r:=c.size;refine⟨n.mod (QE.extNew (ok:=fun _ _=>False) own1 (0,0,5) i) (fun _ _ _=>id) (fun _=>id),by simp[ext],fun b o=>?_,Q8.new _ _ _,(j.below c).below i,QB (QB d c) i,by omega⟩;rw[dH _ _ _ b (by omega),p b (by omega),dH _ _ _ b o]
theorem S1.two{wr a g:World}{k m:Nat}{l:zu}{tv:Value}{c j h:Nat}{z:Array Value}(i:μ wr a)(o:Q8 a wr.heap.size #[ι l.pred,tv] 204)(d:Below (a.alloc (.cells z 301)).heap.size (a.alloc (.cells z 301)) g)(r:Q8 g a.heap.size #[ι 0,ν,ι 0,.pointer none,.pointer none,.pointer none] 301)(A:vF lo g own1 k m (kG wd l) ⟨tv,c,j,h⟩)(u:∀b,b<(a.alloc (.cells z 301)).heap.size->own1 b=ext ownk wr.heap.size (0,0,5) b):S1 lo wr ((((((g.setCell ⟨a.heap.size,0,none⟩ (ι l.pred)).setCell ⟨a.heap.size,1,none⟩ tv).setCell ⟨a.heap.size,2,none⟩ (ι wd)).setCell ⟨a.heap.size,3,none⟩ ((π c))).setCell ⟨a.heap.size,4,none⟩ ((π j))).setCell ⟨a.heap.size,5,none⟩ ((π h))) ownk own1 k m wd a.heap.size l tv c j h:=by
 have q:=i.size;have s:μ a (a.alloc (.cells z 301)):=(zo _ _).alloc (zg _) _;have n:=ze.sets a.heap.size [ι l.pred,tv,ι wd,(π c),(π j),(π h)] 0 g;have p:=(((((r.set 0 (ι l.pred)).set 1 tv).set 2 (ι wd)).set 3 ((π c))).set 4 ((π j))).set 5 ((π h));have t:=QU.box r;have e:=QB (QB i s) d;have f:=(o.below s).below d;have v:(a.alloc (.cells z 301)).heap.size=a.heap.size+1:=by simp
 refine⟨A.saveT n t (by decide) (by decide),?_,fun b w=>?_,by simpa [SB] using p,f.saveT n t (by decide),?_,q⟩
 ·rw[u _ (by omega)];simp[ext,Nat.not_lt.2 q]
 ·rw[u b (by omega),dH _ _ _ b w]
 ·exact e.trans (n.below (fun x y=>by simp at y;omega) (by have:=e.size;omega))
theorem jx.done{f w w':World}{c own:Nat->zn}{k o n e:Nat}{l:Array Value}{r:zr}{P:yW}{vs:List y6}(h:jx lo f w c own k wd o n r P vs)(g:Q8 w e l 292)(p:f.heap.size<=e)(hs:ze [e] w w')(j:P.nbs.length=r.qp.length)(m:vs.length<=1000):uc lo w' own k wd ⟨r,vs⟩ P/\QE lo (lq k) f c w' own:=by
 have d:=QU.box g;have q:=yF h.qp hs d (by decide);rw[j] at q;exact⟨⟨h.rule.saveT hs d (by decide) (by decide),yF h.qm hs d (by decide),h.vlen,fun i a b=>(h.view i a b).saveT hs d (by decide) (by decide),h.vrole,q,j,m⟩,h.mod.newer hs fun b g=>by simp at g;omega⟩
theorem O6{f:Nat}{T:zi}{a:List zm}(h:rowsG f T=some a):a.length<=1048577:=by
 unfold rowsG at h;split at h
 ·cases h
 ·split at h
  ·simp at h;subst h;omega
  ·cases h
theorem Hj(w:World)(own:Nat->zn)(rb k:Nat)(R:zy)(r:zr)(tv pv nv:Value)(vs:List y6)(wd mr mx:Nat)(Q:ue)(ao:Nat)(h:zW lo w own rb R wd mr mx Q)(hr:vy lo w tv pv nv r)(aR:lo<=w.heap.size)(aZ:∀l∈r.qc,l.pred<R.rows.length)(bg:∀l∈r.qp,l.pred<R.rows.length/\l.pred≠r.head.pred)(hv:dD ao wd R r.qc=some vs):
  Calls prog 192 #[(π rb),kT r tv pv nv] w fun e J=>Ha lo w own k wd r vs Q.tbs R.rows.length e J:=by
 obtain⟨i0,hi,bw,b9,bJ⟩:=info_parts Qi;obtain⟨i1,bE,aX,aO,aW⟩:=info_parts Qp;obtain⟨bi,bt⟩:=DP hv;have aH:=Q7 bi;have b8:=Q7 bt;have HH:=Q7 h;have bL:=Q7 hr;have a6:=Q7 aR;have bD:=Q7 aZ;have b3:=Q7 bg;obtain⟨o,d,bP⟩:=hr.head.qx;obtain⟨u,j,b7⟩:=hr.qc.qx;obtain⟨s,f,b1⟩:=hr.qp.qx;have bQ:r.qc.length<=1000:=by obtain⟨_,_,_,q,_⟩:=hr.qc;exact q
 have bZ:r.qp.length<=1000:=by obtain⟨_,_,_,q,_⟩:=hr.qp;exact q
 subst bP b7 b1;clear h hr aR aZ bg hv bi bt;simp only[kT];go_enter func192,ntmps192;go_upto_region 3 with fail
 have N:μ w (((w.alloc (.cells #[ι r.qh,ι r.vars,ι r.head.pred,.slice o r.head.qg.length d,.slice u r.qc.length j,.slice s r.qp.length f] 207)).alloc (.cells #[ι 0,ι 0,ι 0,ν,ν,ν,ν,ν] 292)).alloc (.cells #[ι r.qh,ι r.vars,ι r.head.pred,.slice o r.head.qg.length d,.slice u r.qc.length j,.slice s r.qp.length f,ν,ν] 292)):=(by go_grown);have am:=((Q8.new w #[ι r.qh,ι r.vars,ι r.head.pred,.slice o r.head.qg.length d,.slice u r.qc.length j,.slice s r.qp.length f] 207).up (.cells #[ι 0,ι 0,ι 0,ν,ν,ν,ν,ν] 292)).up (.cells #[ι r.qh,ι r.vars,ι r.head.pred,.slice o r.head.qg.length d,.slice u r.qc.length j,.slice s r.qp.length f,ν,ν] 292);have ay:=((Q8.new (w.alloc (.cells #[ι r.qh,ι r.vars,ι r.head.pred,.slice o r.head.qg.length d,.slice u r.qc.length j,.slice s r.qp.length f] 207)) z8.toArray 292).up (.cells #[ι r.qh,ι r.vars,ι r.head.pred,.slice o r.head.qg.length d,.slice u r.qc.length j,.slice s r.qp.length f,ν,ν] 292)).at' (b':=w.heap.size+1) (by simp);have bh:=(Q8.new ((w.alloc (.cells #[ι r.qh,ι r.vars,ι r.head.pred,.slice o r.head.qg.length d,.slice u r.qc.length j,.slice s r.qp.length f] 207)).alloc (.cells z8.toArray 292)) #[ι r.qh,ι r.vars,ι r.head.pred,.slice o r.head.qg.length d,.slice u r.qc.length j,.slice s r.qp.length f,ν,ν] 292).at' (b':=w.heap.size+1+1) (by simp);have x:jx lo w (((w.alloc (.cells #[ι r.qh,ι r.vars,ι r.head.pred,.slice o r.head.qg.length d,.slice u r.qc.length j,.slice s r.qp.length f] 207)).alloc (.cells #[ι 0,ι 0,ι 0,ν,ν,ν,ν,ν] 292)).alloc (.cells #[ι r.qh,ι r.vars,ι r.head.pred,.slice o r.head.qg.length d,.slice u r.qc.length j,.slice s r.qp.length f,ν,ν] 292)) own own k wd (w.heap.size+1+1) w.heap.size r ⟨.slice o r.head.qg.length d,.slice u r.qc.length j,.slice s r.qp.length f,ν,ν,[],[]⟩ []:=⟨by omega,a6.out,bh,am,bL.out.below N,yD _ _ _ _,rfl,(fun i a=>by simp at a),(fun b I=>by cases I),yD _ _ _ _,QE.of own N⟩;have O:Hid (Q8 (((w.alloc (.cells #[ι r.qh,ι r.vars,ι r.head.pred,.slice o r.head.qg.length d,.slice u r.qc.length j,.slice s r.qp.length f] 207)).alloc (.cells #[ι 0,ι 0,ι 0,ν,ν,ν,ν,ν] 292)).alloc (.cells #[ι r.qh,ι r.vars,ι r.head.pred,.slice o r.head.qg.length d,.slice u r.qc.length j,.slice s r.qp.length f,ν,ν] 292)) (w.heap.size+1) z8.toArray 292):=ay;have a2:=Q7 x;clear x am ay bh N;generalize bH:((w.alloc (.cells #[ι r.qh,ι r.vars,ι r.head.pred,.slice o r.head.qg.length d,.slice u r.qc.length j,.slice s r.qp.length f] 207)).alloc (.cells #[ι 0,ι 0,ι 0,ν,ν,ν,ν,ν] 292)).alloc (.cells #[ι r.qh,ι r.vars,ι r.head.pred,.slice o r.head.qg.length d,.slice u r.qc.length j,.slice s r.qp.length f,ν,ν] 292)=w1 at *;clear bH;generalize h5:w.heap.size+1+1=t5 at *;generalize h4:w.heap.size+1=t4 at *;have a5:t4≠t5:=by omega
 have ce:w.heap.size<t4:=by omega
 clear h5 h4;go_loopw [18] (fun bB wr=>∃m:Nat,m<=r.qc.length/\bB=ι m/\∃ownk vv al,Hid (jx lo w wr own ownk k wd t5 w.heap.size r ⟨.slice o r.head.qg.length d,.slice u r.qc.length j,.slice s r.qp.length f,vv,ν,al,[]⟩ (vs.take m))/\Hid (Q8 wr t4 z8.toArray 292)) (fun i _=>r.qc.length-(intOf i).toNat)
 case atStart=>exact⟨0,zv _,rfl,own,_,[],a2,O⟩
 case round=>
  clear a2 O;obtain⟨m,hm,rfl,ownk,vv,al,x,O⟩:=hrel;have aj:=x.out.mod.size;have ai:=yc a6.out aj;by_cases af:m<r.qc.length
  ·obtain⟨g,n,c,aL,hg,q0,q1,ba⟩:=x.out.rule.qc.cell m af;subst aL;have bm:m<vs.length:=by rw[aH.out];exact af
   obtain⟨T,ae,ar⟩:=b8.out m af bm;have Y:=Q7 (HH.out.make x.out.mod);have aa:r.qc[m].pred<R.rows.length:=bD.out _ (zs _);have av:r.qc[m].pred<Q.tbs.length:=by rw[Y.out.tlen];exact aa
   have bq:Hid (∀F,μ wr F->Calls prog 204 #[.agg #[ι (r.qc[m].pred:Nat),.slice n r.qc[m].qg.length c],ι wd] F fun e J=>∃K fb L own1,e=ε (.agg #[ι (r.qc[m].pred:Nat),.slice n r.qc[m].qg.length c,ι wd,(π K),(π fb),(π L)])/\Hid (vF lo J own1 k m (kG wd r.qc[m]) ⟨.slice n r.qc[m].qg.length c,K,fb,L⟩/\∀b,b<F.heap.size->own1 b=ext ownk wr.heap.size (0,0,5) b)/\μ F J):=fun F I=>by
    refine(FE F (ext ownk wr.heap.size (0,0,5)) k m r.qc[m] (.slice n r.qc[m].qg.length c) wd (ba.below I) (yc ai I.size) Y.out.small.1).mono ?_;rintro e J ⟨⟨cc,K,fb,L⟩,own1,rfl,rfl,bT,be,P⟩;exact⟨K,fb,L,own1,rfl,⟨bT,be⟩,P⟩
   obtain⟨hl,hf,d0,d1,d2,d3,d4,d5,d6,d7⟩:=Y.out.at;have aP:(m:Int)<(r.qc.length:Int):=by omega
   clear d0 d1 d2 d3 d5 d6 d7;go_upto_region 5 with fail
   have N:μ wr (wr.alloc (.cells #[ι (r.qc[m].pred:Nat),.slice n r.qc[m].qg.length c] 204)):=(by go_grown);have ak:=Q8.new wr #[ι (r.qc[m].pred:Nat),.slice n r.qc[m].qg.length c] 204;have aT:wr.heap.size<(wr.alloc (.cells #[ι (r.qc[m].pred:Nat),.slice n r.qc[m].qg.length c] 204)).heap.size:=by simp
   generalize bN:wr.alloc (.cells #[ι (r.qc[m].pred:Nat),.slice n r.qc[m].qg.length c] 204)=W1 at *;clear bN;have x4:=zl N hl d4;have x0:W1.cell? ⟨wr.heap.size,0,none⟩=some (ι (r.qc[m].pred:Nat)):=by rw[ak.rules.1];rfl
   have x1:W1.cell? ⟨wr.heap.size,1,none⟩=some (.slice n r.qc[m].qg.length c):=by rw[ak.rules.1];rfl
   have aq:Hid (∀F,μ W1 F->Calls prog 204 #[.agg #[ι (r.qc[m].pred:Nat),.slice n r.qc[m].qg.length c],ι wd] F fun e J=>∃K fb L own1,e=ε (.agg #[ι (r.qc[m].pred:Nat),.slice n r.qc[m].qg.length c,ι wd,(π K),(π fb),(π L)])/\Hid (vF lo J own1 k m (kG wd r.qc[m]) ⟨.slice n r.qc[m].qg.length c,K,fb,L⟩/\∀b,b<F.heap.size->own1 b=ext ownk wr.heap.size (0,0,5) b)/\μ F J/\J.cell? ⟨rb,4,none⟩=some (ι wd)/\J.cell? ⟨wr.heap.size,0,none⟩=some (ι (r.qc[m].pred:Nat))/\J.cell? ⟨wr.heap.size,1,none⟩=some (.slice n r.qc[m].qg.length c)):=fun F I=>by
    refine(bq.out F (QB N I)).mono ?_;rintro e J ⟨K,fb,L,own1,rfl,HX,P⟩;have am:=QB I P;exact⟨K,fb,L,own1,rfl,HX,P,(am.cell (by show rb<_;omega)).trans x4,(am.cell (by show wr.heap.size<_;omega)).trans x0,(am.cell (by show wr.heap.size<_;omega)).trans x1⟩
   clear bq;clear q0 q1 d4;go_region_held3 (fun J=>J.cell? ⟨rb,4,none⟩=some (ι wd)/\J.cell? ⟨wr.heap.size,0,none⟩=some (ι (r.qc[m].pred:Nat))/\J.cell? ⟨wr.heap.size,1,none⟩=some (.slice n r.qc[m].qg.length c)) (first|go_keep|(go_simp;done)) (first|(go_at_call 204;refine(aq.out _ (by exact(by go_grown))).mono ?_;rintro e w2 ⟨K,fb,L,own1,rfl,HX,P,y4,y0,y1⟩;(try (with_reducible refine Q8.carry (Q8.drew (Q8.new W1 #[ι 0,ν,ι 0,.pointer none,.pointer none,.pointer none] 301)) P ?_;intro aG;obtain⟨bn,bs,aQ⟩:=aG.boxed))))
   obtain⟨M,HP⟩:∃M,Hid (S1 lo wr (w2.alloc (.cells #[ι (r.qc[m].pred:Nat),.slice n r.qc[m].qg.length c,ι wd,(π K),(π fb),(π L)] 301)) ownk M k m wd w2.heap.size r.qc[m] (.slice n r.qc[m].qg.length c) K fb L):=⟨_,S1.one N ak (QB (zJ (zo _ _) 1) P) HX.out.1 HX.out.2⟩;clear HX P y4 y0 y1 x4 x0 x1 N ak aT aq;generalize w2.alloc (.cells #[ι (r.qc[m].pred:Nat),.slice n r.qc[m].qg.length c,ι wd,(π K),(π fb),(π L)] 301)=W3 at *;generalize w2.heap.size=g8 at *;rotate_left
   obtain⟨M,HP⟩:∃M,Hid (S1 lo wr ((((((w2.setCell ⟨W1.heap.size,0,none⟩ (ι (r.qc[m].pred:Nat))).setCell ⟨W1.heap.size,1,none⟩ (.slice n r.qc[m].qg.length c)).setCell ⟨W1.heap.size,2,none⟩ (ι wd)).setCell ⟨W1.heap.size,3,none⟩ ((π K))).setCell ⟨W1.heap.size,4,none⟩ ((π fb))).setCell ⟨W1.heap.size,5,none⟩ ((π L))) ownk M k m wd W1.heap.size r.qc[m] (.slice n r.qc[m].qg.length c) K fb L):=⟨_,S1.two (z:=#[ι 0,ν,ι 0,.pointer none,.pointer none,.pointer none]) N ak (QB (zJ (zo _ _) 1) P) aG HX.out.1 HX.out.2⟩;clear HX P y4 y0 y1 x4 x0 x1 N ak aT aq aG bn bs aQ;generalize ((((((w2.setCell ⟨W1.heap.size,0,none⟩ (ι (r.qc[m].pred:Nat))).setCell ⟨W1.heap.size,1,none⟩ (.slice n r.qc[m].qg.length c)).setCell ⟨W1.heap.size,2,none⟩ (ι wd)).setCell ⟨W1.heap.size,3,none⟩ ((π K))).setCell ⟨W1.heap.size,4,none⟩ ((π fb))).setCell ⟨W1.heap.size,5,none⟩ ((π L)))=W3 at *;generalize W1.heap.size=g8 at *
   all_goals
    have hP:=HP.out;have a7:=Q7 fun F I=>F3 F ownk rb R wd mr mx Q _ (Y.out.below I) aa av;have bR:Hid (∀F,μ wr F->Calls prog 78 #[.pointer (some ⟨Q.tbs[r.qc[m].pred],0,none⟩)] F fun e J=>∃aw ac,e=ε (.slice aw T.length ac)/\Hid (QO F.heap.size J (.slice aw T.length ac) T)/\μ F J):=fun F I=>by
     have q:=Cr F ownk (0,r.qc[m].pred,0) Q.tbs[r.qc[m].pred] R.rows[r.qc[m].pred] ao T ((Y.out.below I).tries _ aa av) (by rw[←ae,fK,za (by omega)];simp[List.getD,aa]);refine q.mono ?_;rintro e J ⟨v,rfl,az,aC⟩;obtain⟨aw,ac,rfl⟩:=zp az.1;exact⟨aw,ac,rfl,az,aC⟩
    have bS:Hid (∀W4 b0 rv,μ W3 W4->QO b0 W4 rv T->Calls prog 206 #[(π g8),rv] W4 fun e J=>e=ε (.tuple #[])/\∃Z E,Hid (vF lo J E k m vs[m] ⟨.slice n r.qc[m].qg.length c,K,Z,L⟩/\QE lo (fR k m (0,0,5)) wr ownk J E)/\Q8 J g8 #[ι (r.qc[m].pred:Nat),.slice n r.qc[m].qg.length c,ι wd,(π K),(π Z),(π L)] 301):=fun W4 b0 rv I az=>by
     have z1:=HP.out.below.size;have q:=A4 W4 M k m g8 0 wd ao (SB r.qc[m].pred wd (.slice n r.qc[m].qg.length c) K fb L) (kG wd r.qc[m]) vs[m] ⟨.slice n r.qc[m].qg.length c,K,fb,L⟩ rv T (HP.out.box.below I) ⟨rfl,rfl,rfl,rfl,rfl,rfl⟩ (HP.out.view.below I) az (by have:=HP.out.ge;omega) (by have:=I.size;omega) Y.out.small.1 (O6 ae) ar;refine q.mono ?_;rintro e J ⟨rfl,Z,E,bO,aC,aV⟩;rw[HP.out.role] at aV;exact⟨rfl,Z,E,⟨bO,((QE.qo HP.out.below HP.out.old).trans (QE.of M I)).trans aV⟩,by simpa [SB] using aC⟩
    have ah:(vs.take m).length=m:=by simp;omega
    have bU:Hid (∀w5 E,QE lo (fR k m (0,0,5)) wr ownk w5 E->jx lo w w5 own E k wd t5 w.heap.size r ⟨.slice o r.head.qg.length d,.slice (some ⟨g,0,none⟩) r.qc.length j,.slice s r.qp.length f,vv,ν,al,[]⟩ (vs.take m)/\Q8 w5 t4 z8.toArray 292):=fun w5 E bb=>⟨x.out.step (by rw[ah];exact bb),O.out.mod bb (gm (by decide) (by decide) _)⟩;have a8:=Q7 ah;obtain⟨y,t,S⟩:=zp x.out.qm;dsimp only at S;rw[ah] at S;subst S;have aU:=hP.below;have br:=hP.lbox;obtain⟨bX,bY,bW⟩:=br.boxed;have bp:=Q7 aU;have b4:Hid (vs[m].lit.pred=r.qc[m].pred):=show vs[m].lit.pred=r.qc[m].pred by rw[Ep ar];rfl
    have bK:=Q7 (yL bm);clear hP aU br ah ar ae;generalize bF:vs[m]=V' at *;clear bF;generalize Q.tbs[r.qc[m].pred]=tb at *;generalize r.qc[m].pred=vp at *;generalize r.qc[m].qg.length=vt at *;go_wp2_with (first|(go_at_call 205;refine(a7.out _ bp.out).mono ?_;rintro e w4 ⟨rfl,aE⟩;obtain rfl:=aE.symm)|(go_at_call 78;refine(bR.out _ bp.out).mono ?_;rintro e w4 ⟨aw,ac,rfl,bI,ay⟩)|(go_at_call 206;refine(bS.out _ _ _ ay bI.out).mono ?_;rintro e w5 ⟨rfl,Z,E,aM,bu⟩;obtain⟨D,a3⟩:=bU.out _ _ aM.out.2;have G:Q8 w5 t5 #[ι r.qh,ι r.vars,ι r.head.pred,.slice o r.head.qg.length d,.slice (some ⟨g,0,none⟩) r.qc.length j,.slice s r.qp.length f,.slice y m t,ν] 292:=D.box;obtain⟨aJ,aF,aD⟩:=G.boxed;obtain⟨cf,cj,ci⟩:=bu.boxed;have X:=D.qm;have C:=Q7 D;have an:=Q7 a3;clear D a3 G bu)|(at_builtin;refine kH w5 _ [ι vp,.slice n vt c,ι wd,(π K),(π Z),(π L)] _ rfl (.tmp 36) (.tmp 38) 290 rfl lo 301 i0 _ 6 64 underlying290 hi bw b9 bJ rfl (by decide) (.slice y m t) (vs.take m).length (vY wd (vs.take m) al) rfl X (by exact(by go_grown)) _ _ rfl (by simp) rfl (by simp[Value.oneCell']) (by rw[a8.out];omega) (by omega) (by exact(yc C.out.low0 C.out.mod.size)) ?_;intro v' w6 ad W ap;obtain⟨bk,a9,ag⟩:=zp ad;rw[a8.out] at ag;subst ag;have ab:Q8 w6 t5 #[ι r.qh,ι r.vars,ι r.head.pred,.slice o r.head.qg.length d,.slice (some ⟨g,0,none⟩) r.qc.length j,.slice s r.qp.length f,.slice y m t,ν] 292:=C.out.box.saveT W (QU.own C.out.qm) (by decide);obtain⟨bz,bv,bV⟩:=ab.boxed;have au:=Q7 (an.out.saveT W (QU.own C.out.qm) (by decide));have aA:Hid (ze _ w5 w6):=W;have aI:Hid (_∨_):=ap;have aK:Hid (World.ownsRow w6 lo 301 6 _ _ _):=ad;clear W ap ad ab))
    have b2:gI wd V' ⟨.slice n vt c,K,Z,L⟩=[ι vp,.slice n vt c,ι wd,(π K),(π Z),(π L)]:=by simp[gI,b4.out,pt]
    have U:=C.out.pushV (V:=V') (p:=⟨.slice n vt c,K,Z,L⟩) (by rw[a8.out];exact aM.out.1) (by rw[b2];exact aK.out) aA.out aI.out;rw[←bK.out] at U;exact⟨⟨m+1,by omega,by go_num,_,_,_,U,au.out.set_ne a5 _ _⟩,by simp[intOf];omega⟩
  ·obtain rfl:m=r.qc.length:=by omega
   have aY:vs.take r.qc.length=vs:=by rw[←aH.out];exact vr
   rw[aY] at x;clear aY;obtain⟨y,t,S⟩:=zp x.out.qm;dsimp only at S;subst S;obtain⟨aS,bC,b6⟩:=x.out.rbox.boxed;dsimp only at aS;go_upto_region 11 with fail
   clear aS bC b6 hm af;have ca:=Q7 ai;clear aj ai;generalize bM:wr=w5 at *;clear bM;go_loopw [45] (fun bA wr=>∃m:Nat,m<=r.qp.length/\bA=ι m/\∃aB A,Hid (jx lo w wr own ownk k wd t5 w.heap.size r ⟨.slice o r.head.qg.length d,.slice u r.qc.length j,.slice s r.qp.length f,.slice y vs.length t,aB,al,A⟩ vs)/\Hid (Q8 wr t4 z8.toArray 292)/\Hid (A.length=m)/\Hid (gY Q.tbs R.rows.length r A)/\Hid (∀b,aB.ownBlock=some b->w.heap.size<=b)) (fun i _=>r.qp.length-(intOf i).toNat)
   case atStart=>exact⟨0,zv _,rfl,_,[],x,O,rfl,fun i _ h2=>by simp at h2,fun b I=>by cases I⟩
   case round=>
    clear x O;obtain⟨m,hm,rfl,aB,A,x,O,a0,aN,bd⟩:=hrel;have aj:=x.out.mod.size;have ai:=yc a6.out aj;obtain⟨H,B,a1⟩:=zp x.out.qp;dsimp only at a1;subst a1;by_cases af:m<r.qp.length
    ·obtain⟨g,n,c,aL,hg,q0,q1,ba⟩:=x.out.rule.qp.cell m af;subst aL;have Y:=Q7 (HH.out.make x.out.mod);have aa:=b3.out _ (zs af);have av:r.qp[m].pred<Q.tbs.length:=by rw[Y.out.tlen];exact aa.1
     have a7:=Q7 fun F I=>F3 F ownk rb R wd mr mx Q _ (Y.out.below I) aa.1 av;have bx:Hid (gY Q.tbs R.rows.length r (A++[Q.tbs[r.qp[m].pred]])):=fun i h1 h2=>by
      by_cases hi:i<A.length
      ·have q:=aN.out i h1 hi;rw[vu hi];exact q
      ·obtain rfl:i=m:=by have:=a0.out;simp at h2;omega
       refine⟨aa.2,aa.1,av,?_⟩;rw[mX (by omega)];simp
     have ax:μ wr (wr.alloc (.cells #[ι (r.qp[m].pred:Nat),.slice n r.qp[m].qg.length c] 204)):=(by go_grown);have D:=x.out.below ax;have G:Q8 (wr.alloc (.cells #[ι (r.qp[m].pred:Nat),.slice n r.qp[m].qg.length c] 204)) t5 #[ι r.qh,ι r.vars,ι r.head.pred,.slice o r.head.qg.length d,.slice u r.qc.length j,.slice (some ⟨g,0,none⟩) r.qp.length f,.slice y vs.length t,.slice H A.length B] 292:=D.box;obtain⟨aJ,aF,aD⟩:=G.boxed;have X:=D.qp;dsimp only at X;have C:=Q7 D;have an:=Q7 (O.out.below ax);have bG:=Q7 ax;have aP:(m:Int)<(r.qp.length:Int):=by omega
     have cd:A.length<=1000:=by rw[a0.out];omega
     clear D G ax;generalize Q.tbs[r.qp[m].pred]=tb at *;generalize r.qp[m].pred=vp at *;generalize r.qp[m].qg.length=vt at *;generalize bo:A.length=nl at *;have bc:=Q7 bo;clear bo;go_upto_region 14 with (first|(go_at_call 205;refine(a7.out _ bG.out).mono ?_;rintro e w4 ⟨rfl,aE⟩;obtain rfl:=aE.symm))
     generalize wr.alloc (.cells #[ι vp,.slice n vt c] 204)=W5 at *;go_wp2_with (at_builtin;refine kH W5 _ [(π tb)] _ rfl (.tmp 54) (.tmp 56) 150 rfl lo 162 i1 _ 1 8 underlying150 bE aX aO aW rfl (by decide) (.slice H nl B) nl (QQ A) rfl X (by exact(by go_grown)) _ _ rfl (by simp) rfl (by simp[Value.oneCell']) (by omega) (by omega) (by exact(yc C.out.low0 C.out.mod.size)) ?_;intro v' w6 ad W ap;obtain⟨bk,a9,ag⟩:=zp ad;subst ag;have ab:Q8 w6 t5 #[ι r.qh,ι r.vars,ι r.head.pred,.slice o r.head.qg.length d,.slice u r.qc.length j,.slice (some ⟨g,0,none⟩) r.qp.length f,.slice y vs.length t,.slice H nl B] 292:=C.out.box.saveT W (QU.own C.out.qp) (by decide);obtain⟨bz,bv,bV⟩:=ab.boxed;have au:=Q7 (an.out.saveT W (QU.own C.out.qp) (by decide));have aA:Hid (ze _ W5 w6):=W;have aI:Hid (_∨_):=ap;have aK:Hid (World.ownsRow w6 lo 162 1 _ _ _):=ad;clear W ap ad ab)
     have U:=C.out.pushN (tb:=tb) bd.out (by rw[bc.out];exact aK.out) aA.out;exact⟨⟨m+1,by omega,by go_num,_,_,U,au.out.set_ne a5 _ _,show(A++[tb]).length=m+1 by simp[bc.out,a0.out],bx,fun b I=>by
      rcases aI.out with e|⟨g',e,ch⟩
      ·rw[e] at I;exact bd.out b I
      ·rw[e] at I;simp at I;have:=C.out.mod.size;omega⟩,by simp[intOf];omega⟩
    ·obtain rfl:m=r.qp.length:=by omega
     have G:Q8 wr t5 #[ι r.qh,ι r.vars,ι r.head.pred,.slice o r.head.qg.length d,.slice u r.qc.length j,.slice s r.qp.length f,.slice y vs.length t,.slice H A.length B] 292:=x.out.box;obtain⟨aJ,aF,aD⟩:=G.boxed;have a4:Q8 wr t4 #[ι 0,ι 0,ι 0,ν,ν,ν,ν,ν] 292:=O.out;obtain⟨b5,ck,cg⟩:=a4.boxed;have cb:t5≠t4:=fun e=>a5 e.symm;clear G a4;go_wp2
     (try simp only[Exit.inBlock,Exit.then])
     have bf:ze [t4] wr ((((((((wr.setCell ⟨t4,0,none⟩ (ι r.qh)).setCell ⟨t4,1,none⟩ (ι r.vars)).setCell ⟨t4,2,none⟩ (ι r.head.pred)).setCell ⟨t4,3,none⟩ (.slice o r.head.qg.length d)).setCell ⟨t4,4,none⟩ (.slice u r.qc.length j)).setCell ⟨t4,5,none⟩ (.slice s r.qp.length f)).setCell ⟨t4,6,none⟩ (.slice y vs.length t)).setCell ⟨t4,7,none⟩ (.slice H A.length B)):=ze.sets t4 [ι r.qh,ι r.vars,ι r.head.pred,.slice o r.head.qg.length d,.slice u r.qc.length j,.slice s r.qp.length f,.slice y vs.length t,.slice H A.length B] 0 wr;have hd:=x.out.done O.out (by omega) bf a0.out (by rw[aH.out];exact bQ);have HD:Hid (_/\_):=hd;clear hd bf;refine zK (v:=.agg #[ι r.qh,ι r.vars,ι r.head.pred,.slice o r.head.qg.length d,.slice u r.qc.length j,.slice s r.qp.length f,.slice y vs.length t,.slice H A.length B]) ?_ rfl ⟨⟨.slice o r.head.qg.length d,.slice u r.qc.length j,.slice s r.qp.length f,.slice y vs.length t,.slice H A.length B,al,A⟩,ownk,rfl,HD.out.1,aN.out,HD.out.2⟩;clear HD aJ aF aD;simp[results,results192,go_sem,b5]
end
section
open Go.Proofs.Tryz
variable {lo:Nat}{Ws:List zX}{Ps:List yW}
theorem Qs:(prog.info? 292).map (fun i=>(i.zero,i.size,i.bytes))=some (some (.agg #[ι 0,ι 0,ι 0,ν,ν,ν,ν,ν]),8,144):=by kernel_rfl
theorem lG{t:TypeId}(h:Rz t)(a:t∉[214,161,165,310,323,301]):∀ρ,¬uZ t ρ:=fun ρ q=>by
 rcases q with q|q
 ·exact q.1 h
 ·exact a q
theorem qz.mod{d:Nat}{ok:TypeId->zn->Prop}{w w':World}{own c:Nat->zn}{v:Value}{rs:List zr}{ps:List (Value×Value×Value)}(h:qz d w v rs ps)(m:QE lo ok w own w' c)(e:∀ρ,¬ok 284 ρ)(f:∀ρ,¬ok 204 ρ)(g:∀ρ,¬ok 207 ρ):qz d w' v rs ps:=⟨vK h.own m g,h.len,fun k a b=>(h.rule k a b).mod m e f,h.few⟩
theorem un.make{w w':World}{own c:Nat->zn}{wd:Nat}{d:Value}(h:un lo w own wd d Ws Ps)(m:QE lo (lq Ws.length) w own w' c):un lo w' c wd d Ws Ps:=
 ⟨vK h.arr m (nw (by decide) (by decide)),h.plen,fun k a b=>(h.work k a b).mod m (nw (by decide) (by decide)) (nw (by decide) (by decide)) (oz (by omega) (by omega)) (nw (by decide) (by decide)) (fun i j t e q=>by
  rcases q with q|⟨rfl,_⟩
  ·exact p9 (by omega) q
  ·exact e (by decide)),h.few⟩
theorem JZ(Ws:List zX)(Ps:List yW)(h:Ps.length=Ws.length)(W:zX)(P:yW):gK (Ws++[W]) (Ps++[P])=gK Ws Ps++jw W.rule P:=by
 simp[gK,List.zipWith_append h.symm]
theorem un.push{w w':World}{own:Nat->zn}{wd:Nat}{i v':Value}{W:zX}{P:yW}(h:un lo w own wd i Ws Ps)(s:uc lo w own Ws.length wd W P)(p:Ws.length+1<=1000)(u:w'.ownsRow lo 292 8 v' (Ws.length+1) (gK Ws Ps++jw W.rule P))(hs:ze i.ownBlock.toList w w'):un lo w' own wd v' (Ws++[W]) (Ps++[P])/\QE lo (gA [292]) w own w' own:=by
 have l:QE lo (gA [292]) w own w' own:=QE.ofSave own hs fun b r=>by
  have d:i.ownBlock=some b:=by simpa using r
  obtain⟨c,o⟩:=uV h.arr d;exact⟨yV h.arr d,xI h.arr d,c,_,o,xG.2 rfl⟩
 have g:∀t,t∉[292]->∀ρ,¬gA [292] t ρ:=fun t f ρ q=>f q;have m:=fun k W P (q:uc lo w own k wd W P)=>q.mod l (g _ (by decide)) (g _ (by decide)) (g _ (by decide) _) (g _ (by decide)) (fun _ _ t f q=>by rw[xG.1 q] at f;exact f (by decide));refine⟨⟨?_,by simp[h.plen],fun k a b=>?_,by simpa using p⟩,l⟩
 ·rw[JZ Ws Ps h.plen,yq];exact u
 ·simp only[yq,xi,dK] at a b;by_cases j:k<Ws.length
  ·have e:k<Ps.length:=by rw[h.plen];exact j
   rw[vu j,vu e];exact m _ _ _ (h.work k j e)
  ·obtain rfl:k=Ws.length:=by omega
   have n:(Ws++[W])[Ws.length]=W:=by simp
   have v:(Ps++[P])[Ws.length]=P:=by simp[←h.plen]
   rw[n,v];exact m _ _ _ s
theorem kJ.push{c:List Nat}{n:Nat}(h:kJ c n Ws Ps)(f:Ps.length=Ws.length){W:zX}{P:yW}(i:gY c n W.rule P.nbs):kJ c n (Ws++[W]) (Ps++[P]):=by
 intro k a b;simp only[yq,xi,dK] at a b;by_cases e:k<Ws.length
 ·have d:k<Ps.length:=by rw[f];exact e
  rw[vu e,vu d];exact h k e d
 ·obtain rfl:k=Ws.length:=by omega
  have g:(Ws++[W])[Ws.length]=W:=by simp
  have j:(Ps++[P])[Ws.length]=P:=by simp[←f]
  rw[g,j];exact i
def s5(n:Nat)(rs:List zr):Prop:=∀r∈rs,(∀l∈r.qc,l.pred<n)/\∀l∈r.qp,l.pred<n/\l.pred≠r.head.pred
def Oc(lo:Nat)(w:World)(own:Nat->zn)(d:Nat)(R:zy)(c:List zX)(wd mr mx:Nat)(Q:ue)(e:Ending)(w':World):Prop:=∃b a Ps,e=.returned b/\un lo w' a wd b c Ps/\kJ Q.tbs R.rows.length c Ps/\zW lo w' a d R wd mr mx Q/\QE lo uZ w own w' a
theorem Ks(w:World)(own:Nat->zn)(rb s:Nat)(R:zy)(rv:Value)(rs:List zr)(ps:List (Value×Value×Value))(X:List zX)(wd mr mx:Nat)(Q:ue)(j:Nat)(h:zW lo w own rb R wd mr mx Q)(hr:qz lo w rv rs ps)(ay:lo<=w.heap.size)(u:s5 R.rows.length rs)(hv:Rb j wd R s rs=some X):
  Calls prog 164 #[(π rb),rv,ι s] w fun e w'=>Oc lo w own rb R X wd mr mx Q e w':=by
 obtain⟨i0,hi,aD,aL,aM⟩:=info_parts Qs;have HH:=Q7 h;have aN:=Q7 hr;have aA:=Q7 ay;have aB:=Q7 u;have az:Hid (Rb j wd R s (rs.drop 0)=some X):=hv;have aZ:=hr.few;obtain⟨bi,aX,aC⟩:=zp hr.own;subst aC;clear h hr ay u hv;go_enter func164,ntmps164;go_upto_region 3 with fail
 go_loopw [7,13] (fun v7 aP wr=>∃m:Nat,m<=rs.length/\aP=ι m/\∃l rest c Ps,Hid (un lo wr c wd v7 l Ps)/\Hid (kJ Q.tbs R.rows.length l Ps)/\Hid (zW lo wr c rb R wd mr mx Q)/\Hid (QE lo uZ w own wr c)/\Hid (Rb j wd R s (rs.drop m)=some rest)/\Hid (l++rest=X)/\Hid (l.length<=m)/\Hid (∀b,v7.ownBlock=some b->w.heap.size<=b)) (fun _ i _=>rs.length-(intOf i).toNat)
 case atStart=>exact⟨0,zv _,rfl,[],X,own,[],⟨yD _ _ _ _,rfl,fun k a=>by simp at a,by simp⟩,(fun k a=>by simp at a),HH,QE.refl _ _,az,rfl,zg _,fun b z=>by cases z⟩
 case round=>
  clear az;obtain⟨m,hm,rfl,l,rest,c,Ps,V,ak,Y,G,a7,ap,ao,al⟩:=hrel;have a8:=G.out.size;have Z:=yc aA.out a8;obtain⟨aS,a9,aG⟩:=zp V.out.arr;subst aG;by_cases U:m<rs.length
  ·have ar:=Q7 (aN.out.mod G.out (lG (by decide) (by decide)) (lG (by decide) (by decide)) (lG (by decide) (by decide)));have a4:m<ps.length:=by rw[ar.out.len];exact U
   obtain⟨g,aT,hg,q0,q1,q2,q3,q4,q5⟩:=ar.out.cell m U a4;subst aT;have o:=ar.out.rule m U a4;obtain⟨ae,C,aq⟩:=o.head.qx;obtain⟨ad,I,an⟩:=o.qc.qx;obtain⟨ag,F,aj⟩:=o.qp.qx;rw[aq] at q3;rw[an] at q4;rw[aj] at q5;rw[aq,an,aj] at o;have d:=a7.out;rw[xn U] at d;unfold Rb at d;have aU:(m:Int)<(rs.length:Int):=by omega
   have u:=aB.out _ (zs U);clear aq an aj;generalize rs[m]=r at *;by_cases ai:r.qh=s
   ·rw[zc ai] at d;subst ai;obtain⟨vs,n,au,aa,N⟩:∃vs n,dD j wd R r.qc=some vs/\Rb j wd R r.qh (rs.drop (m+1))=some n/\rest=⟨r,vs⟩::n:=by
     split at d
     ·rename_i vs n h1 h2;exact⟨vs,n,h1,h2,by simpa using d.symm⟩
     ·cases d
    have am:=Q7 aa;have aJ:Hid ((l++[⟨r,vs⟩])++n=X):=show(l++[⟨r,vs⟩])++n=X by rw[←ap.out,N];simp
    have aO:Hid (∀W0,μ wr W0->Calls prog 192 #[(π rb),.agg #[ι r.qh,ι r.vars,ι r.head.pred,.slice ae r.head.qg.length C,.slice ad r.qc.length I,.slice ag r.qp.length F]] W0 fun e w'=>∃B D S O K J L M E T v p f,e=ε (.agg #[ι r.qh,ι r.vars,ι r.head.pred,.slice B r.head.qg.length D,.slice S r.qc.length O,.slice K r.qp.length J,.slice L vs.length M,.slice E r.qp.length T])/\Hid (uc lo w' f l.length wd ⟨r,vs⟩ ⟨.slice B r.head.qg.length D,.slice S r.qc.length O,.slice K r.qp.length J,.slice L vs.length M,.slice E r.qp.length T,v,p⟩/\gY Q.tbs R.rows.length r p/\QE lo (lq l.length) W0 c w' f)):=fun W0 z=>by
     refine(Hj W0 c rb l.length R r _ _ _ vs wd mr mx Q j (Y.out.below z) (o.below z) (yc Z z.size) u.1 u.2 au).mono ?_;rintro e w' ⟨⟨tv,pv,nv,vv,ba,v,p⟩,f,rfl,y,aQ,aK⟩;obtain⟨B,D,e1⟩:=y.rule.head.qx;obtain⟨S,O,e2⟩:=y.rule.qc.qx;obtain⟨K,J,e3⟩:=y.rule.qp.qx;obtain⟨L,M,e4⟩:=zp y.qm;obtain⟨E,T,e5⟩:=zp y.qp;dsimp only at e1 e2 e3 e4 e5;subst e1 e2 e3 e4 e5;exact⟨B,D,S,O,K,J,L,M,E,T,v,p,f,rfl,y,aQ,aK⟩
    have A:μ wr (wr.alloc (.cells #[ι r.qh,ι r.vars,ι r.head.pred,.slice ae r.head.qg.length C,.slice ad r.qc.length I,.slice ag r.qp.length F] 207)):=(by go_grown);have x:=Q7 A;have bf:l.length<=999:=by have:=ao.out;omega
    clear d o A u N aa au;go_upto_region 7 with (first|(go_at_call 192;refine(aO.out _ x.out).mono ?_;rintro e w5 ⟨B,D,S,O,K,J,L,M,E,T,v,p,f,rfl,HX⟩))
    have ab:μ w5 (w5.alloc (.cells #[ι r.qh,ι r.vars,ι r.head.pred,.slice B r.head.qg.length D,.slice S r.qc.length O,.slice K r.qp.length J,.slice L vs.length M,.slice E r.qp.length T] 292)):=(by go_grown);have a3:=Q8.new w5 #[ι r.qh,ι r.vars,ι r.head.pred,.slice B r.head.qg.length D,.slice S r.qc.length O,.slice K r.qp.length J,.slice L vs.length M,.slice E r.qp.length T] 292;have a2:=(QE.of c x.out).trans HX.out.2.2;have H:=Q7 (a2.trans (QE.of f ab));have aF:=Q7 (HX.out.1.mod (QE.of (ok:=fun _ _=>False) f ab) (fun _=>id) (fun _=>id) id (fun _=>id) (fun _ _ _ _=>id));clear a2 ab;obtain⟨bc,bb,bh⟩:=a3.boxed;generalize aI:w5.alloc (.cells #[ι r.qh,ι r.vars,ι r.head.pred,.slice B r.head.qg.length D,.slice S r.qc.length O,.slice K r.qp.length J,.slice L vs.length M,.slice E r.qp.length T] 292)=W6 at *;clear aI a3;have ac:=Q7 (V.out.make H.out);have ah:=ac.out.arr;generalize w5.heap.size=aY at *;have aW:=yc Z H.out.size;go_wp2_with (at_builtin;refine kH W6 _ [ι r.qh,ι r.vars,ι r.head.pred,.slice B r.head.qg.length D,.slice S r.qc.length O,.slice K r.qp.length J,.slice L vs.length M,.slice E r.qp.length T] _ rfl (.tmp 24) (.tmp 26) 265 rfl lo 292 i0 _ 8 144 underlying265 hi aD aL aM rfl (by decide) (.slice aS l.length a9) l.length (gK l Ps) rfl ah (by exact(by go_grown)) _ _ rfl (by simp) rfl (by simp[Value.oneCell']) (by omega) (by omega) (by omega) ?_;intro v' w7 af a6 av;obtain⟨aV,aH,a0⟩:=zp af;subst a0;have aw:Hid (ze _ W6 w7):=a6;have aR:Hid (_∨_):=av;have aE:Hid (World.ownsRow w7 lo 292 8 _ _ _):=af;clear a6 av af)
    have ax:=ac.out.push (W:=⟨r,vs⟩) (P:=⟨.slice B r.head.qg.length D,.slice S r.qc.length O,.slice K r.qp.length J,.slice L vs.length M,.slice E r.qp.length T,v,p⟩) aF.out (by omega) aE.out aw.out;have a1:=(Y.out.make H.out).mod ax.2 (kW (by decide)) (kW (by decide)) (kW (by decide)) (fun _=>kW (by decide) _) (fun _ t ht q=>by rw[xG.1 q] at ht;exact ht (by decide));have a5:=(G.out.trans (H.out.more fun _ _ q=>PN q)).newer aw.out fun b z=>al.out b (by simpa using z);have bd:=H.out.size;exact⟨⟨m+1,by omega,by go_num,l++[(⟨r,vs⟩:zX)],n,f,Ps++[(⟨.slice B r.head.qg.length D,.slice S r.qc.length O,.slice K r.qp.length J,.slice L vs.length M,.slice E r.qp.length T,v,p⟩:yW)],ax.1,ak.out.push ac.out.plen HX.out.2.1,a1,a5,am,aJ,show(l++[(⟨r,vs⟩:zX)]).length<=m+1 by have:=ao.out;simp;omega,fun b z=>by
     rcases aR.out with e|⟨g',e,bg⟩
     ·rw[e] at z;exact al.out b z
     ·rw[e] at z;simp at z;omega⟩,by simp[intOf];omega⟩
   ·rw[za ai] at d;have am:=Q7 d;have be:¬(r.qh:Int)=(s:Int):=by omega
    have A:μ wr (wr.alloc (.cells #[ι r.qh,ι r.vars,ι r.head.pred,.slice ae r.head.qg.length C,.slice ad r.qc.length I,.slice ag r.qp.length F] 207)):=(by go_grown);have x:Hid (μ wr _):=A;clear d o A u;go_wp2;exact⟨⟨m+1,by omega,by go_num,l,rest,c,Ps,V.out.below x.out,ak,Y.out.below x.out,G.out.trans (QE.of c x.out),am,ap,Nat.le_succ_of_le ao.out,al⟩,by simp[intOf];omega⟩
  ·obtain rfl:m=rs.length:=by omega
   have d:=a7.out;rw[List.drop_length] at d;simp only[Rb,zt] at d;have HE:Hid (l=X):=show l=X by rw[←ap.out,←d];simp
   clear d;go_wp2;go_ret;exact⟨_,c,Ps,rfl,by rw[←HE.out];exact V.out,by rw[←HE.out];exact ak.out,Y.out,G.out⟩
end
section
open Go.Proofs.Tryz
variable {lo:Nat}
def NS(lo:Nat)(w:World)(own:Nat->zn)(f:Nat)(R R':zy)(wd mr mx:Nat)(Q:ue)(b:Bool)(e:Ending)(w':World):Prop:=e=ε (.bool b)/\∃a d c,zW lo w' a f R' wd mr mx ⟨Q.rv,Q.tbs,d,c⟩/\R'.rows.length=R.rows.length/\QE lo uZ w own w' a
theorem Hy(w:World)(own:Nat->zn)(E s:Nat)(R R':zy)(rv:Value)(rs:List zr)(ps:List (Value×Value×Value))(wd mr mx:Nat)(Q:ue)(f:Nat)(b:Bool)(h:zW lo w own E R wd mr mx Q)(hr:qz lo w rv rs ps)(F:lo<=w.heap.size)(Y:s5 R.rows.length rs)(c:nr f wd mr mx rs R s=some (R',b)):
  Calls prog 122 #[(π E),rv,ι s] w fun e w'=>NS lo w own E R R' wd mr mx Q b e w':=by
 unfold nr at c;cases t:Rb f wd R s rs with
 |none=>rw[t] at c;cases c
 |some G=>
  rw[t] at c;have ah:=Q7 (Ks w own E s R rv rs ps G wd mr mx Q f h hr F Y t);have ac:=Q7 F;have ak:=h.small;obtain⟨an,aj,ad⟩:=zp hr.own;subst ad;have N:Hid (if decide (0<G.length)=true then kB wd mr mx f true G R=some (R',b) else(R=R'/\true=b)):=by
   by_cases hz:G.length>0
   ·rw[Hid,zc (by simpa using hz)];simpa [hz] using c
   ·rw[Hid,za (by simpa using hz)];simpa [hz] using c
  clear h hr F Y t c;go_enter func122,ntmps122;go_upto_region 4 with (first|(go_at_call 164;refine ah.out.mono ?_;rintro e w2 ⟨wv,W,Ps,rfl,H,S,P,aa⟩;obtain⟨ai,ab,ae⟩:=zp H.arr;subst ae;have u:=Q7 H;have y:=Q7 S;have i:=Q7 P;have g:=Q7 aa;clear H S P aa))
  go_loopg [8,9] f (fun k v8 v9 wr=>∃(first more:Bool) (d:zy) (a:Nat->zn) (C:Value) (B:List Value) (L:List zX) (Pk:List yW),v8=.bool first/\v9=.bool more/\Hid (zW lo wr a E d wd mr mx ⟨Q.rv,Q.tbs,C,B⟩)/\Hid (un lo wr a wd (.slice ai G.length ab) L Pk)/\Hid (kJ Q.tbs R.rows.length L Pk)/\Hid (QE lo uZ w own wr a)/\Hid (d.rows.length=R.rows.length)/\Hid (if more=true then kB wd mr mx k first L d=some (R',b) else(d=R'/\true=b)))
  case atStart=>
   exact⟨true,decide (0<G.length),R,W,Q.fv,Q.fvs,G,Ps,rfl,rfl,i,u,y,g,rfl,N⟩
  case round=>
   clear u y i g N;obtain⟨first,more,d,a,C,B,L,Pk,rfl,rfl,i,u,y,g,n,N⟩:=hrel;cases more with
   |false=>
    have c:d=R'/\true=b:=by simpa using N.out
    have o:=Q7 c;clear c;go_wp2;go_ret;exact⟨by rw[←o.out.2];rfl,a,C,B,by rw[←o.out.1];exact i.out,by rw[←o.out.1];exact n.out,g.out⟩
   |true=>
    have c:kB wd mr mx gk first L d=some (R',b):=by simpa using N.out
    clear N;cases gk with
    |zero=>simp[kB] at c
    |succ m=>
     unfold kB at c;obtain⟨hl,hf,h0,h1,h2,h3,h4,h5,h6,h7⟩:=i.out.at;have X:=yc ac.out g.out.size;clear h0 h3 h4 h5 h7;by_cases Z:d.qw≥mx
     ·rw[zc Z] at c;have o:=Q7 (show d=R'/\false=b by simpa using c);have af:(mx:Int)<=(d.qw:Int):=by omega
      clear c;go_upto_region 5 with fail
      go_quiet (fail)
      have M:μ wr (wr.drewN nq):=zJ (zo _ _) nq;have J:=Q7 M;clear M;generalize wr.drewN nq=w3 at *;go_wp2;go_ret;exact⟨by rw[←o.out.2];rfl,a,C,B,by rw[←o.out.1];exact i.out.below J.out,by rw[←o.out.1];exact n.out,g.out.trans (QE.of a J.out)⟩
     ·rw[za Z] at c;have af:¬(mx:Int)<=(d.qw:Int):=by omega
      cases z:nS m wd mr first L d with
      |none=>rw[z] at c;cases c
      |some x=>
       obtain⟨p,A,b3⟩:=x;rw[z] at c;have U:=Q7 fun W0 hb=>J2 W0 a E _ d p L A Pk wd mr mx _ m first b3 (i.out.below hb) (u.out.below hb) (by rw[n.out];exact y.out) (yc X hb.size) (by omega) z
       clear z;have D:Hid ((b3=false->p=R'/\false=b)/\(b3=true->(if p.count>d.count then kB wd mr mx m false A p else some (p,true))=some (R',b))):=⟨fun e=>by subst e;simpa using c,fun e=>by subst e;exact c⟩;clear c;go_upto_region 5 with fail
       go_quiet (fail)
       have M:μ wr (wr.drewN nq):=zJ (zo _ _) nq;have x1:=zl M hl h1;have J:=Q7 M;have am:=xP hl M.size;clear M;generalize wr.drewN nq=w3 at *;clear h1 h2 h6 hf hl;cases b3 with
       |false=>
        have o:=Q7 (D.out.1 rfl);go_wp2_with (go_at_call 165;refine(U.out _ J.out).mono ?_;rintro e w4 ⟨rfl,j,v,l,V,r,O,T,K,I⟩)
        go_ret;exact⟨by rw[←o.out.2];rfl,j,v,l,by rw[←o.out.1];exact r,by rw[←o.out.1];exact K.trans n.out,(g.out.trans (QE.of a J.out)).trans I⟩
       |true=>
        have o:Hid (if decide (d.count<p.count)=true then kB wd mr mx m false A p=some (R',b) else(p=R'/\true=b)):=by
         have q:=D.out.2 rfl;by_cases hc:p.count>d.count
         ·rw[Hid,zc (by simpa using hc)];simpa [hc] using q
         ·rw[Hid,za (by simpa using hc)];simpa [hc] using q
        clear D;go_wp2_with (go_at_call 165;refine(U.out _ J.out).mono ?_;rintro e w4 ⟨rfl,j,v,l,V,r,O,T,K,I⟩;obtain⟨al,_,_,y1,_⟩:=r.at;have ag:Hid (zW lo w4 j E p wd mr mx ⟨Q.rv,Q.tbs,v,l⟩):=r;clear r)
        go_roundg m
        case measure=>omega
        case rel=>exact⟨false,decide (d.count<p.count),p,j,v,l,A,V,rfl,by simp,ag,O,by rw[←n.out];exact T,(g.out.trans (QE.of a J.out)).trans I,K.trans n.out,o⟩
end
section
open Go.Proofs.Tryz
variable {lo:Nat}{w0 w:World}{own0:Nat->zn}{t8 wd mr mx:Nat}{ar tbs:List Nat}
structure fo (lo:Nat) (w0 w:World) (own0 own:Nat->zn) (t8 g n wd mr mx:Nat) (ar:List Nat) (tbs:List Nat):Prop where
 low:w0.heap.size<=t8
 lowg:w0.heap.size<=g
 ne:t8≠g
 box:Q8 w t8 #[.slice (some ⟨g,0,none⟩) n n,ι 0,ι 0,ι 0,ι wd,ι mr,ι mx,ν] 214
 rows:w.ownsRow lo 162 1 (.slice (some ⟨g,0,none⟩) n n) n (QQ tbs++List.replicate (n-tbs.length) (.pointer none))
 tries:∀i (_:i<ar.length) (_:i<tbs.length),yR lo w own (0,i,0) tbs[i] (yU wd ar[i])
 mod:QE lo uZ w0 own0 w own
def Bt:TypeId->zn->Prop:=fun _ _=>False
theorem fo.step{w':World}{own c:Nat->zn}{g n:Nat}(h:fo lo w0 w own0 own t8 g n wd mr mx ar tbs)(m:QE lo Bt w own w' c):fo lo w0 w' own0 c t8 g n wd mr mx ar tbs:=
 ⟨h.low,h.lowg,h.ne,h.box.mod m id,vK h.rows m (fun _=>id),fun i a b=>(h.tries i a b).mod m (fun _ _=>id),h.mod.trans (m.more fun _ _ q=>q.elim)⟩
theorem fo.push{w':World}{own:Nat->zn}{g n tb:Nat}{fp:List Nat}(h:fo lo w0 w own0 own t8 g n wd mr mx ar tbs)(j:lo<=w.heap.size)(x:tbs.length<n)(r:zY w.heap.size w' tb (yU wd (ar.getD tbs.length 0)) fp)(f:μ w w'):
  fo lo w0 (w'.setCell ⟨g,tbs.length,none⟩ ((π tb))) own0 (ext own w.heap.size (0,tbs.length,0)) t8 g n wd mr mx ar (tbs++[tb]):=by
 have s:=QE.extNew (lo:=lo) (ok:=Bt) own (0,tbs.length,0) f;have c:=h.step s;have d:ze [g] w' (w'.setCell ⟨g,tbs.length,none⟩ ((π tb))):=ze.set _ _ _ _;obtain⟨v,l⟩:=uV c.rows rfl;have m:=QU.box l;refine⟨h.low,h.lowg,h.ne,c.box.saveT d m (by decide),?_,fun i a b=>?_,c.mod.newer d fun b f=>by simp at f;rw[f];exact h.lowg⟩
 ·have q:=uW c.rows tbs.length (by simp[QQ];omega) ((π tb));have e:(QQ tbs++List.replicate (n-tbs.length) (Value.pointer none)).set tbs.length ((π tb))=QQ (tbs++[tb])++List.replicate (n-(tbs++[tb]).length) (Value.pointer none):=by
   obtain⟨k,t⟩:∃k,n-tbs.length=k+1:=⟨n-tbs.length-1,by omega⟩;rw[List.set_append,za (by simp[QQ]),t,rH];have p:n-(tbs++[tb]).length=k:=by simp;omega
   rw[p];simp[QQ,pt]
  rw[e] at q;exact q
 ·simp only[yq,xi,dK] at b;by_cases o:i<tbs.length
  ·rw[vu o];exact(c.tries i a o).saveT d m (by decide)
  ·obtain rfl:i=tbs.length:=by omega
   have u:(tbs++[tb])[tbs.length]=tb:=by simp
   rw[u];have q:=r.new own (0,tbs.length,0) j;rw[show ar.getD tbs.length 0=ar[tbs.length] by simp[List.getD,a]] at q;exact q.saveT d m (by decide)
theorem fo.done{own:Nat->zn}{g:Nat}(h:fo lo w0 w own0 own t8 g ar.length wd mr mx ar tbs)(e:lo<=w0.heap.size)(c:tbs.length=ar.length)(hs:ar.length<=1000)(d:wd<=1000/\mr<=1048576/\mx<=1048576):zW lo w own t8 ⟨ar.map (yU wd),0,0,0,[]⟩ wd mr mx ⟨.slice (some ⟨g,0,none⟩) ar.length ar.length,tbs,ν,[]⟩:=by
 refine⟨yc e h.low,h.box,?_,by simp[c],fun p a b=>?_,yD _ _ _ _,rfl,fun p a=>by simp at a,⟨by simpa using hs,by simp,by simp,by simp⟩,d⟩
 ·have q:=h.rows;rw[c,kf] at q;simpa using q
 ·simp only[uu] at a;simp only[uJ];exact h.tries p a b
def Kd(lo:Nat)(w:World)(own:Nat->zn)(wd mr mx:Nat)(b:Option zy)(e:Ending)(w':World):Prop:=match b with
 |none=>e=ε (.tuple #[.agg #[ν,ι 0,ι 0,ι 0],.bool false])/\∃a,QE lo uZ w own w' a
 |some R=>∃a c Q,e=ε (.tuple #[.agg #[Q.rv,ι R.count,ι R.qw,ι R.jf],.bool true])/\zW lo w' a c R wd mr mx Q/\QE lo uZ w own w' a
def kM:Nat->zn:=fun _=>(0,0,7)
theorem Sy(w:World)(S:jo)(ps:List (Value×Value×Value))(av fv rv:Value)(mr mx E:Nat)(T:Option zy)(h:gz lo w av fv rv S ps)(aP:lo<=w.heap.size)(bf:s5 S.qj.length S.rules)(bw:S.qj.length<=1000)(ay:∀a∈S.qj,a<=100000000)(M:∀f∈S.facts,f.row.length=3)(bP:S.facts.length<=1000000)(aM:S.qf<=1000/\mr<=1048576/\mx<=1048576)(hr:my E S mr mx=some T):
  Calls prog 74 #[.agg #[ι S.qf,av,fv,rv],ι mr,ι mx] w fun e w'=>Kd lo w kM S.qf mr mx T e w':=by
 obtain⟨i0,hi,bx,bC,bD⟩:=info_parts Qp;have HS:=Q7 h;have ad:=Q7 aP;have bs:=Q7 bf;have b8:=Q7 ay;have bz:=Q7 M;have HR:=Q7 hr;obtain⟨B,d,b4⟩:=zp h.ari;obtain⟨H,k,b7⟩:=zp h.fac;obtain⟨D,l,bv⟩:=zp h.rul.own;subst b4 b7 bv;have bS:=h.rul.few;have br:=fun W0:World=>run_make (P:=prog) (w:=W0) 150 162 i0 _ underlying150 hi bx .i64 .i64 (S.qj.length:Int) (S.qj.length:Int) (by omega) (Int.le_refl _) (by rw[bD];omega) (by omega);rw[bC] at br;clear h aP bf ay M hr;go_enter func74,ntmps74;go_upto_region 4 with fail
 have aS:μ w ((((w.alloc (.cells #[ι S.qf,.slice B S.qj.length d,.slice H S.facts.length k,.slice D S.rules.length l] 146)).alloc (.cells #[ν,ι 0,ι 0,ι 0] 152)).alloc (.cells #[.slice (some ⟨w.heap.size+1+1+1,0,none⟩) S.qj.length S.qj.length,ι 0,ι 0,ι 0,ι S.qf,ι mr,ι mx,ν] 214)).alloc (.cells (madeCells #[.pointer none] S.qj.length) 162)):=(by go_grown);have bn:=(((Q8.new w #[ι S.qf,.slice B S.qj.length d,.slice H S.facts.length k,.slice D S.rules.length l] 146).up (.cells #[ν,ι 0,ι 0,ι 0] 152)).up (.cells #[.slice (some ⟨w.heap.size+1+1+1,0,none⟩) S.qj.length S.qj.length,ι 0,ι 0,ι 0,ι S.qf,ι mr,ι mx,ν] 214)).up (.cells (madeCells #[.pointer none] S.qj.length) 162);have bh:=(((Q8.new (w.alloc (.cells #[ι S.qf,.slice B S.qj.length d,.slice H S.facts.length k,.slice D S.rules.length l] 146)) #[ν,ι 0,ι 0,ι 0] 152).up (.cells #[.slice (some ⟨w.heap.size+1+1+1,0,none⟩) S.qj.length S.qj.length,ι 0,ι 0,ι 0,ι S.qf,ι mr,ι mx,ν] 214)).up (.cells (madeCells #[.pointer none] S.qj.length) 162)).at' (b':=w.heap.size+1) (by simp);have bo:=((Q8.new ((w.alloc (.cells #[ι S.qf,.slice B S.qj.length d,.slice H S.facts.length k,.slice D S.rules.length l] 146)).alloc (.cells #[ν,ι 0,ι 0,ι 0] 152)) #[.slice (some ⟨w.heap.size+1+1+1,0,none⟩) S.qj.length S.qj.length,ι 0,ι 0,ι 0,ι S.qf,ι mr,ι mx,ν] 214).up (.cells (madeCells #[.pointer none] S.qj.length) 162)).at' (b':=w.heap.size+1+1) (by simp);have ab:=tQ (((w.alloc (.cells #[ι S.qf,.slice B S.qj.length d,.slice H S.facts.length k,.slice D S.rules.length l] 146)).alloc (.cells #[ν,ι 0,ι 0,ι 0] 152)).alloc (.cells #[.slice (some ⟨w.heap.size+1+1+1,0,none⟩) S.qj.length S.qj.length,ι 0,ι 0,ι 0,ι S.qf,ι mr,ι mx,ν] 214)) S.qj.length 162 (.pointer none) (by unfold maxLen;omega);have ba:(((w.alloc (.cells #[ι S.qf,.slice B S.qj.length d,.slice H S.facts.length k,.slice D S.rules.length l] 146)).alloc (.cells #[ν,ι 0,ι 0,ι 0] 152)).alloc (.cells #[.slice (some ⟨w.heap.size+1+1+1,0,none⟩) S.qj.length S.qj.length,ι 0,ι 0,ι 0,ι S.qf,ι mr,ι mx,ν] 214)).heap.size=w.heap.size+1+1+1:=by simp
 rw[ba] at ab;have az:Hid (fo lo w ((((w.alloc (.cells #[ι S.qf,.slice B S.qj.length d,.slice H S.facts.length k,.slice D S.rules.length l] 146)).alloc (.cells #[ν,ι 0,ι 0,ι 0] 152)).alloc (.cells #[.slice (some ⟨w.heap.size+1+1+1,0,none⟩) S.qj.length S.qj.length,ι 0,ι 0,ι 0,ι S.qf,ι mr,ι mx,ν] 214)).alloc (.cells (madeCells #[.pointer none] S.qj.length) 162)) kM kM (w.heap.size+1+1) (w.heap.size+1+1+1) S.qj.length S.qf mr mx S.qj []):=⟨by omega,by omega,by omega,bo,yt ab (by have:=ad.out;omega),(fun i a b=>by simp at b),QE.of kM aS⟩;have s:=Q7 bn;have u:=Q7 bh;clear aS bn bh bo ab ba br;generalize ((((w.alloc (.cells #[ι S.qf,.slice B S.qj.length d,.slice H S.facts.length k,.slice D S.rules.length l] 146)).alloc (.cells #[ν,ι 0,ι 0,ι 0] 152)).alloc (.cells #[.slice (some ⟨w.heap.size+1+1+1,0,none⟩) S.qj.length S.qj.length,ι 0,ι 0,ι 0,ι S.qf,ι mr,ι mx,ν] 214)).alloc (.cells (madeCells #[.pointer none] S.qj.length) 162))=w1 at *;generalize hg:w.heap.size+1+1+1=g at *;generalize h8:w.heap.size+1+1=t8 at *;generalize h6:w.heap.size+1=t6 at *;have b6:t6≠t8:=by omega
 have bR:w.heap.size<t6:=by omega
 have bL:t8<g:=by omega
 have bN:t6<g:=by omega
 clear hg h8 h6;go_loopw [28] (fun b5 wr=>∃m:Nat,m<=S.qj.length/\b5=ι m/\∃j tbs,Hid (fo lo w wr kM j t8 g S.qj.length S.qf mr mx S.qj tbs)/\Hid (tbs.length=m)/\Hid (Q8 wr w.heap.size #[ι S.qf,.slice B S.qj.length d,.slice H S.facts.length k,.slice D S.rules.length l] 146)/\Hid (Q8 wr t6 #[ν,ι 0,ι 0,ι 0] 152)) (fun i _=>S.qj.length-(intOf i).toNat)
 case atStart=>exact⟨0,zv _,rfl,kM,[],az,rfl,s,u⟩
 case round=>
  clear az s u;obtain⟨m,hm,rfl,j,tbs,U,aF,s,u⟩:=hrel;have K:=U.out.mod.size;have G:=yc ad.out K;by_cases N:m<S.qj.length
  ·have au:wr.ownsRow lo 3 1 (.slice B S.qj.length d) S.qj.length (S.qj.map Rm):=rm HS.out.ari U.out.mod (fun b _ q=>by
    rcases q with q|q
    ·exact q.2 rfl
    ·revert q;decide)
   obtain⟨ga,bH,aa,_,bO,aU⟩:=yx au (by omega);simp only[Value.slice.injEq] at aa;have aB:=aa.1;clear aa;subst aB;have q0:=aU m (ι (S.qj[m]:Nat)) (by simp[N,Rm]);have bt:S.qj[m]<=100000000:=b8.out _ (zs _);obtain⟨aV,bk,bd⟩:=U.out.box.boxed;obtain⟨Q,M,Z⟩:=s.out.boxed;have aw:(m:Int)<(S.qj.length:Int):=by omega
   have HN:Hid (∀W0,μ wr W0->Calls prog 119 #[ι S.qf,ι (S.qj[m]:Nat)] W0 fun e w'=>∃tb,e=ε ((π tb))/\w'.cell? ⟨t8,0,none⟩=some (.slice (some ⟨g,0,none⟩) S.qj.length S.qj.length)/\w'.cell? ⟨w.heap.size,0,none⟩=some (ι S.qf)/\w'.cell? ⟨g,m,none⟩=some (.pointer none)/\(∀o,w'.frozen? ⟨g,o,none⟩=false)/\g<w'.heap.size/\Hid (μ wr w'/\∃af,fo lo w (w'.setCell ⟨g,m,none⟩ ((π tb))) kM af t8 g S.qj.length S.qf mr mx S.qj (tbs++[tb]))):=fun W0 X=>by
    refine(eZ W0 S.qf S.qj[m] aM.1 bt).mono ?_;rintro e w' ⟨tb,fp,rfl,ht,be⟩;have hB:=QB X be;have h0:=U.out.step (QE.of j X);have h1:=U.out.step (QE.of j hB);have aD:=aF.out;have hp:=h0.push (tb:=tb) (fp:=fp) (yc G X.size) (by omega) (by rw[aD,show S.qj.getD m 0=S.qj[m] by simp[List.getD,N]];exact ht) be;rw[aD] at hp;refine⟨tb,rfl,h1.box.rules.1 0,(hB.cell Z).trans (Q 0),?_,qO h1.rows,xI h1.rows rfl,hB,_,hp⟩;obtain⟨g',bK,bm,_,_,bA⟩:=yx h1.rows (by omega);simp only[Value.slice.injEq,zt,Addr.mk.injEq,and_true] at bm;have e:=bm.1;subst e;refine bA m _ ?_;rw[d9 (by simp[QQ,aD]),List.getElem?_replicate,zc (by simp only[QQ,uu];omega)]
   have x8:wr.cell? ⟨t8,0,none⟩=some (.slice (some ⟨g,0,none⟩) S.qj.length S.qj.length):=aV 0;have x3:wr.cell? ⟨w.heap.size,0,none⟩=some (ι S.qf):=Q 0;clear aV Q aU au;generalize S.qj[m]=am at *;go_upto_region 6 with fail
   go_region_held3 (fun w'=>w'.cell? ⟨t8,0,none⟩=some (.slice (some ⟨g,0,none⟩) S.qj.length S.qj.length)/\w'.cell? ⟨w.heap.size,0,none⟩=some (ι S.qf)) (first|go_keep|(go_simp;done)) (first|(go_at_call 119;refine(HN.out _ (by exact(zJ (zo _ _) 1))).mono ?_;rintro e w2 ⟨tb,rfl,y8,y3,yg,yf,yl,HX⟩))
   have a9:=HX.out.1;obtain⟨af,aW⟩:=HX.out.2;have bI:=Q7 aW;have aX:Hid (Q8 (w2.setCell ⟨g,m,none⟩ ((π tb))) w.heap.size _ 146):=(s.out.below a9).set_ne (by omega) _ _;have bi:Hid (Q8 (w2.setCell ⟨g,m,none⟩ ((π tb))) t6 _ 152):=(u.out.below a9).set_ne (by omega) _ _;clear a9 aW HX y8 y3 yg yf yl HN x8 x3 bk bd M Z q0;generalize w2.setCell ⟨g,m,none⟩ ((π tb))=W3 at *;go_wp2;exact⟨⟨m+1,by omega,by go_num,af,tbs++[tb],bI,show(tbs++[tb]).length=m+1 by simp[aF.out],aX,bi⟩,by simp[intOf];omega⟩
  ·obtain rfl:m=S.qj.length:=by omega
   have a7:=Q7 (U.out.done ad.out aF.out bw aM);have a1:=Q7 U.out.mod;have aY:=Q7 (RJ wr j t8 _ S.qf mr mx _ a7.out G);clear U N hm;go_upto_region 9 with (first|(go_at_call 120;refine aY.out.mono ?_;rintro e w2 ⟨rfl,aR,a4,aZ,ap⟩))
   have an:=Q7 (s.out.mod ap (kW (by decide) _));have a5:Hid (Q8 w2 t6 _ 152):=u.out.mod ap (kW (by decide) _);have a3:Hid (zW lo w2 j t8 (fE S) S.qf mr mx ⟨.slice (some ⟨g,0,none⟩) S.qj.length S.qj.length,tbs,aR,a4⟩):=aZ;have a0:=Q7 (a1.out.trans (ap.more fun _ _ q=>DS q));clear s u a7 a1 aY aZ ap K G;obtain⟨R1,b1,hF,hE⟩:∃R1 b1,kK mr S.facts (fE S)=some (R1,b1)/\(b1=false/\T=none∨b1=true/\∃R2 b2,kq E S.qf mr mx S.rules S.qj.length 0 R1=some (R2,b2)/\T=if b2 then some R2 else none):=by
    have hr:=HR.out;unfold my at hr;split at hr
    ·cases hr
    ·rename_i R1 hA;simp at hr;exact⟨R1,false,hA,zf ⟨rfl,hr.symm⟩⟩
    ·rename_i R1 hA;rw[vM] at hr;obtain⟨⟨R2,b2⟩,h1,h2⟩:=hr;exact⟨R1,true,hA,zb ⟨rfl,R2,b2,h1,h2.symm⟩⟩
   have HE:=Q7 hE;have aK:Hid (kK mr (S.facts.drop 0) (fE S)=some (R1,b1)):=hF;clear hE hF;obtain⟨Q,M,Z⟩:=an.out.boxed;go_upto_region 10 with fail
   clear Q M Z;generalize bF:w2=w5 at *;clear bF;have bp:=Q7 (show(fE S).rows.length=S.qj.length by simp[fE,qF]);go_loopw [47] (fun bG wr=>∃m:Nat,m<=S.facts.length/\bG=ι m/\∃Rk j ae al,Hid (zW lo wr j t8 Rk S.qf mr mx ⟨.slice (some ⟨g,0,none⟩) S.qj.length S.qj.length,tbs,ae,al⟩)/\Hid (QE lo uZ w kM wr j)/\Hid (Rk.rows.length=S.qj.length)/\Hid (Q8 wr w.heap.size #[ι S.qf,.slice B S.qj.length d,.slice H S.facts.length k,.slice D S.rules.length l] 146)/\Hid (Q8 wr t6 #[ν,ι 0,ι 0,ι 0] 152)/\Hid (kK mr (S.facts.drop m) Rk=some (R1,b1))) (fun i _=>S.facts.length-(intOf i).toNat)
   case atStart=>exact⟨0,zv _,rfl,fE S,j,aR,a4,a3,a0,bp,an,a5,aK⟩
   case round=>
    clear a3 a0 bp an a5 aK;obtain⟨m,hm,rfl,Rk,R,ae,al,Y,L,ac,s,u,aG⟩:=hrel;have K:=L.out.size;have G:=yc ad.out K;by_cases N:m<S.facts.length
    ·have a6:=vK HS.out.fac L.out (lG (by decide) (by decide));obtain⟨gf,b9,aa,_,bQ,aj⟩:=yx a6 (by omega);simp only[Value.slice.injEq] at aa;have aB:=aa.1;clear aa;subst aB;obtain⟨k0,k1,k2,k3⟩:=AX S.facts m N;have q0:=aj _ _ k0;have q1:=aj _ _ k1;have q2:=aj _ _ k2;have q3:=aj _ _ k3;have n:=aG.out;rw[xn N] at n;unfold kK at n;have h3:=bz.out _ (zs N);obtain⟨x,y,z,a2⟩:∃x y z,S.facts[m].row=[x,y,z]:=by
      match ab:S.facts[m].row,h3 with
      |[x,y,z],_=>exact⟨x,y,z,rfl⟩
     rw[a2] at q1 q2 q3 n;simp only[List.getD_cons_zero,List.getD_cons_succ] at q1 q2 q3;have aw:(m:Int)<(S.facts.length:Int):=by omega
     clear h3 k0 k1 k2 k3 aj a6 a2;generalize S.facts[m].pred=p at *;cases ha:addR mr Rk p [x,y,z] with
     |none=>rw[ha] at n;cases n
     |some ar=>
      obtain⟨R3,b3⟩:=ar;rw[ha] at n;have bB:=Q7 ((im ha).trans ac.out);have bc:=Q7 fun W0 X=>BT W0 R t8 Rk R3 S.qf mr mx _ p x y z b3 (Y.out.below X) (yc G X.size) ha;have aJ:μ wr (wr.alloc (.cells #[ι p,ι x,ι y,ι z] 210)):=(by go_grown);have aE:=Q7 aJ;have ai:Hid (∀O c,QE lo (lc p) (wr.alloc (.cells #[ι p,ι x,ι y,ι z] 210)) R O c->QE lo uZ w kM O c/\Q8 O w.heap.size #[ι S.qf,.slice B S.qj.length d,.slice (some ⟨gf,0,none⟩) S.facts.length k,.slice D S.rules.length l] 146/\Q8 O t6 #[ν,ι 0,ι 0,ι 0] 152):=fun O c C=>by
       have aC:QE lo (kl p) wr R O c:=(QE.of R aE.out).trans (C.more fun _ _ q=>zf q);exact⟨L.out.trans (aC.more fun _ _ q=>eO q),s.out.mod aC (mC (by decide) (by decide) _),u.out.mod aC (mC (by decide) (by decide) _)⟩
      clear ha aJ;cases b3 with
      |false=>
       simp only[zt,ya] at n;have HQ:=Q7 n.2;clear n;go_wp2_with (go_at_call 121;refine(bc.out _ aE.out).mono ?_;rintro e O ⟨rfl,c,V,W,C⟩;obtain⟨J,_,I⟩:=ai.out _ _ C;obtain⟨ah,aL,aH⟩:=I.boxed)
       have A:T=none:=by
        have hE:=HE.out;rw[←HQ.out] at hE;rcases hE with⟨_,hE⟩|⟨hx,_⟩
        ·exact hE
        ·cases hx
       have ak:Hid (QE lo uZ w kM _ c):=J.newer (ze.sets t6 [ν,ι 0,ι 0,ι 0] 0 O) (fun b X=>by simp at X;omega);refine zK (v:=.tuple #[.agg #[ν,ι 0,ι 0,ι 0],.bool false]) (by simp[results,results74,go_sem,ah]) rfl ?_;rw[A];exact⟨rfl,c,ak.out⟩
      |true=>
       have HQ:Hid (kK mr (S.facts.drop (m+1)) R3=some (R1,b1)):=n;clear n;go_wp2_with (go_at_call 121;refine(bc.out _ aE.out).mono ?_;rintro e O ⟨rfl,c,V,W,C⟩)
       obtain⟨J,ag,I⟩:=ai.out _ _ C;exact⟨⟨m+1,by omega,by go_num,R3,c,ae,V,W,J,bB,ag,I,HQ⟩,by simp[intOf];omega⟩
    ·obtain rfl:m=S.facts.length:=by omega
     have n:=aG.out;rw[List.drop_length] at n;simp only[kK,zt,ya] at n;obtain⟨R2,b2,aT,A⟩:∃R2 b2,kq E S.qf mr mx S.rules S.qj.length 0 Rk=some (R2,b2)/\T=if b2 then some R2 else none:=by
      have hE:=HE.out;rw[←n.2,←n.1] at hE;rcases hE with⟨hx,_⟩|⟨_,hE⟩
      ·cases hx
      ·exact hE
     have ax:Hid (kq E S.qf mr mx S.rules (S.qj.length-0) 0 Rk=some (R2,b2)):=aT;have ao:=Q7 A;clear n aT A aG HE N hm K G;obtain⟨Q,M,Z⟩:=s.out.boxed;go_upto_region 16 with fail
     clear Q M Z;generalize b0:wr=w6 at *;clear b0;go_loopw [62] (fun bJ wr=>∃m:Nat,m<=S.qj.length/\bJ=ι m/\∃Rk j ae al,Hid (zW lo wr j t8 Rk S.qf mr mx ⟨.slice (some ⟨g,0,none⟩) S.qj.length S.qj.length,tbs,ae,al⟩)/\Hid (QE lo uZ w kM wr j)/\Hid (Rk.rows.length=S.qj.length)/\Hid (Q8 wr w.heap.size #[ι S.qf,.slice B S.qj.length d,.slice H S.facts.length k,.slice D S.rules.length l] 146)/\Hid (Q8 wr t6 #[ν,ι 0,ι 0,ι 0] 152)/\Hid (kq E S.qf mr mx S.rules (S.qj.length-m) m Rk=some (R2,b2))) (fun i _=>S.qj.length-(intOf i).toNat)
     case atStart=>exact⟨0,zv _,rfl,Rk,R,ae,al,Y,L,ac,s,u,ax⟩
     case round=>
      clear Y L ac s u ax;obtain⟨m,hm,rfl,Ri,F,bb,aI,Y,L,ac,s,u,bq⟩:=hrel;have K:=L.out.size;have G:=yc ad.out K;by_cases N:m<S.qj.length
      ·have r:=bq.out;rw[show S.qj.length-m=(S.qj.length-(m+1))+1 from by omega] at r;unfold kq at r;cases aq:nr E S.qf mr mx S.rules Ri m with
       |none=>rw[aq] at r;cases r
       |some ar=>
        obtain⟨R3,b3⟩:=ar;rw[aq] at r;have bg:=HS.out.rul.mod L.out (lG (by decide) (by decide)) (lG (by decide) (by decide)) (lG (by decide) (by decide));have aO:=Q7 (Hy wr F t8 m Ri R3 _ S.rules ps S.qf mr mx _ E b3 Y.out bg G (by rw[ac.out];exact bs.out) aq);have ai:Hid (∀O c,QE lo uZ wr F O c->QE lo uZ w kM O c/\Q8 O w.heap.size #[ι S.qf,.slice B S.qj.length d,.slice H S.facts.length k,.slice D S.rules.length l] 146/\Q8 O t6 #[ν,ι 0,ι 0,ι 0] 152):=fun O c C=>⟨L.out.trans C,s.out.mod C (lG (by decide) (by decide) _),u.out.mod C (lG (by decide) (by decide) _)⟩;obtain⟨Q,M,Z⟩:=s.out.boxed;have aw:(m:Int)<(S.qj.length:Int):=by omega
        clear aq bg;cases b3 with
        |false=>
         simp only[zt,ya] at r;have HQ:=Q7 r.2;clear r;go_wp2_with (go_at_call 122;refine aO.out.mono ?_;rintro e O ⟨rfl,c,aQ,V,W,a8,C⟩;obtain⟨J,_,I⟩:=ai.out _ _ C;obtain⟨ah,aL,aH⟩:=I.boxed)
         have A:T=none:=by rw[ao.out,←HQ.out];rfl
         have ak:Hid (QE lo uZ w kM _ c):=J.newer (ze.sets t6 [ν,ι 0,ι 0,ι 0] 0 O) (fun b X=>by simp at X;omega);refine zK (v:=.tuple #[.agg #[ν,ι 0,ι 0,ι 0],.bool false]) (by simp[results,results74,go_sem,ah]) rfl ?_;rw[A];exact⟨rfl,c,ak.out⟩
        |true=>
         have HQ:Hid (kq E S.qf mr mx S.rules (S.qj.length-(m+1)) (m+1) R3=some (R2,b2)):=r;clear r;go_wp2_with (go_at_call 122;refine aO.out.mono ?_;rintro e O ⟨rfl,c,aQ,V,W,a8,C⟩)
         obtain⟨J,ag,I⟩:=ai.out _ _ C;exact⟨⟨m+1,by omega,by go_num,R3,c,aQ,V,W,J,a8.trans ac.out,ag,I,HQ⟩,by simp[intOf];omega⟩
      ·obtain rfl:m=S.qj.length:=by omega
       have r:=bq.out;rw[kf] at r;simp only[kq,zt,ya] at r;have A:T=some Ri:=by rw[ao.out,←r.2,←r.1];rfl
       have bE:=Q7 A;clear r A ao;obtain⟨bd,bk,d0,d1,d2,d3,d4,d5,d6,d7⟩:=Y.out.at;obtain⟨ah,aL,aH⟩:=u.out.boxed;dsimp only at d0;clear d4 d5 d6 d7;have bM:t8≠t6:=fun e=>b6 e.symm;go_wp2;have aA:=ze.sets t6 [.slice (some ⟨g,0,none⟩) S.qj.length S.qj.length,ι Ri.count,ι Ri.qw,ι Ri.jf] 0 wr;have aN:QE lo (gA [152]) wr F _ F:=QE.ofSave F aA (fun b X=>by
        simp at X;subst X;exact⟨by have:=ad.out;omega,aH,_,_,u.out,xG.2 rfl⟩)
       have bu:Hid (zW lo _ F t8 Ri S.qf mr mx ⟨.slice (some ⟨g,0,none⟩) S.qj.length S.qj.length,tbs,bb,aI⟩):=Y.out.mod aN (kW (by decide)) (kW (by decide)) (kW (by decide)) (fun _=>kW (by decide) _) (fun _ t ht q=>by rw[xG.1 q] at ht;exact ht (by decide));have ak:Hid (QE lo uZ w kM _ F):=L.out.newer aA (fun b X=>by simp at X;omega);clear aA aN;refine zK (v:=.tuple #[.agg #[.slice (some ⟨g,0,none⟩) S.qj.length S.qj.length,ι Ri.count,ι Ri.qw,ι Ri.jf],.bool true]) (by simp[results,results74,go_sem,ah]) rfl ?_;rw[bE.out];exact⟨F,t8,⟨.slice (some ⟨g,0,none⟩) S.qj.length S.qj.length,tbs,bb,aI⟩,rfl,bu.out,ak.out⟩
end
section
variable {lo:Nat}
def uk(ns:κ)(row:zm)(a m:Nat):κ:=(List.range a).map fun i=>if i<m then ns.getD (row.getD i 0) ByteArray.empty else ByteArray.empty
theorem tr(ns:κ)(row:zm)(a m:Nat):(uk ns row a m).length=a:=by simp[uk]
attribute [local go_sem] PV Qm Qe
def fL(ns:κ):κ->Nat->zm->Option zm
 |[],_,r=>some r
 |t::a,i,r=>match ur ns t with
  |none=>none
  |some v=>if i≥3 then none else fL ns a (i+1) (r.set i v)
end
section
variable {lo lp:Nat}
structure pX (lo lp:Nat) (w:World) (rb:Nat) (t:List zh) (ns:κ) (R:zy) (pv nv rv:Value) (tbs:List Nat):Prop where
 low:lo<=rb
 box:Q8 w rb #[pv,nv,rv,ι R.count,ι R.qw,ι R.jf] 156
 preds:w.ownsRow lp 221 3 pv t.length (xZ t)
 vals:QF lo w nv ns
 rows:w.ownsRow lo 162 1 rv R.rows.length (QQ tbs)
 tlen:tbs.length=R.rows.length
 tries:∀p (_:p<R.rows.length) (_:p<tbs.length),∃fp,zY lo w tbs[p] R.rows[p] fp
 few:t.length<=1000/\ns.length<=1000/\R.rows.length<=1000
theorem pX.below{w w':World}{f:Nat}{t:List zh}{ns:κ}{R:zy}{i e g:Value}{c:List Nat}(h:pX lo lp w f t ns R i e g c)(d:μ w w'):pX lo lp w' f t ns R i e g c:=
 ⟨h.low,h.box.below d,zB h.preds d,h.vals.below d,zB h.rows d,h.tlen,fun p a b=>by obtain⟨j,q⟩:=h.tries p a b;exact⟨j,q.below d⟩,h.few⟩
end
section
open Go.Proofs.Tryz
variable {lo lp:Nat}{a1 a2 a3:Option Addr}{ps:List (Value×Value×Value)}
structure Jn (S:jo):Prop where
 rules:s5 S.qj.length S.rules
 many:S.qj.length<=1000
 small:∀a∈S.qj,a<=100000000
 rows:∀f∈S.facts,f.row.length=3
 facts:S.facts.length<=1000000
 qf:S.qf<=1000
structure pA (cs:List zd) (t:List zh) (os:Option (List (Option (List Int)))):Prop where
 len:cs.length<=1000
 names:t.length<=1000
 fine:∀c∈cs,vP c
 sums:∀c∈cs,c.head.args.length+yS c.body<=1000/\c.body.length<=900
 few:C8 cs
 vals:(zq cs).length<=1000
 jl:∀n,xr t n<=1000000
 ords:(os.getD []).length<=2000000
 each:∀o∈os.getD [],(o.getD []).length<=2000000
 ordok:vq cs os=true->∀o∈os.getD [],(o.getD []).length<=1000
 set:vq cs os=true->Jn (vd t (zq cs) os cs)
def n8(a w:World)(S:jo)(s:Value):Prop:=∃(b c:Nat) (a1:Option Addr) (e:Nat) (a2:Option Addr) (f:Nat) (a3:Option Addr) (d:Nat) (ps:List (Value×Value×Value)),s=(π c)/\a.heap.size<=c/\a.heap.size<=b/\b<=w.heap.size/\Q8 w c #[ι S.qf,.slice a1 S.qj.length e,.slice a2 S.facts.length f,.slice a3 S.rules.length d] 146/\Hid (gz b w (.slice a1 S.qj.length e) (.slice a2 S.facts.length f) (.slice a3 S.rules.length d) S ps)/\Hid (μ a w)
theorem gz.saveT{w w':World}{f e d:Value}{S:jo}{ps:List (Value×Value×Value)}{T:TypeId}{M:List Nat}(h:gz lo w f e d S ps)(hs:ze M w w')(c:QU w T M)(g:3≠T)(j:210≠T)(i:284≠T)(b:204≠T)(a:207≠T):gz lo w' f e d S ps:=⟨yF h.ari hs c g,yF h.fac hs c j,h.rul.saveT hs c i b a⟩
theorem gz.below{w w':World}{d c b:Value}{S:jo}{ps:List (Value×Value×Value)}(h:gz lo w d c b S ps)(a:μ w w'):gz lo w' d c b S ps:=⟨zB h.ari a,zB h.fac a,h.rul.below a⟩
theorem n8.one{e W a:World}{S:jo}{c d b:Nat}(g:μ e W)(i:μ W a)(h:gz W.heap.size a (.slice a1 S.qj.length c) (.slice a2 S.facts.length d) (.slice a3 S.rules.length b) S ps):n8 e (a.alloc (.cells #[ι S.qf,.slice a1 S.qj.length c,.slice a2 S.facts.length d,.slice a3 S.rules.length b] 146)) S (.pointer (some ⟨a.heap.size,0,none⟩)):=by
 have f:μ a (a.alloc (.cells #[ι S.qf,.slice a1 S.qj.length c,.slice a2 S.facts.length d,.slice a3 S.rules.length b] 146)):=(zo _ _).alloc (zg _) _;have j:=g.size;have k:=i.size;have l:=f.size;exact⟨W.heap.size,a.heap.size,a1,c,a2,d,a3,b,ps,rfl,by omega,j,by omega,Q8.new _ _ _,h.below f,QB (QB g i) f⟩
theorem n8.two{g W f:World}{a:Nat}{p o q t:Value}{S:jo}{d e c:Nat}(b:g.heap.size<=a)(l:μ g W)(j:μ W f)(k:Q8 f a #[p,o,q,t] 146)(h:gz W.heap.size f (.slice a1 S.qj.length d) (.slice a2 S.facts.length e) (.slice a3 S.rules.length c) S ps):n8 g ((((f.setCell ⟨a,0,none⟩ (ι S.qf)).setCell ⟨a,1,none⟩ (.slice a1 S.qj.length d)).setCell ⟨a,2,none⟩ (.slice a2 S.facts.length e)).setCell ⟨a,3,none⟩ (.slice a3 S.rules.length c)) S ((π a)):=by
 have u:=l.size;have v:=j.size;have m:=k.set 0 (ι S.qf);have n:=m.set 1 (.slice a1 S.qj.length d);have i:=n.set 2 (.slice a2 S.facts.length e);have r:=i.set 3 (.slice a3 S.rules.length c);have s:gz W.heap.size ((((f.setCell ⟨a,0,none⟩ (ι S.qf)).setCell ⟨a,1,none⟩ (.slice a1 S.qj.length d)).setCell ⟨a,2,none⟩ (.slice a2 S.facts.length e)).setCell ⟨a,3,none⟩ (.slice a3 S.rules.length c)) (.slice a1 S.qj.length d) (.slice a2 S.facts.length e) (.slice a3 S.rules.length c) S ps:=(((h.saveT (ze.set _ _ _ (ι S.qf)) (QU.box k) (by decide) (by decide) (by decide) (by decide) (by decide)).saveT (ze.set _ _ _ (.slice a1 S.qj.length d)) (QU.box m) (by decide) (by decide) (by decide) (by decide) (by decide)).saveT (ze.set _ _ _ (.slice a2 S.facts.length e)) (QU.box n) (by decide) (by decide) (by decide) (by decide) (by decide)).saveT (ze.set _ _ _ (.slice a3 S.rules.length c)) (QU.box i) (by decide) (by decide) (by decide) (by decide) (by decide);exact⟨W.heap.size,a,a1,d,a2,e,a3,c,ps,rfl,b,u,by simp;omega,by simpa using r,s,((((QB l j).setCell b _).setCell b _).setCell b _).setCell b _⟩
theorem QE.belowLo{ok:TypeId->zn->Prop}{w w':World}{own a:Nat->zn}(h:QE lo ok w own w' a)(c:lo<=w.heap.size):Below lo w w':=by
 obtain⟨_,M,e,f⟩:=h;exact e.below (fun b d=>(f b d).1) c
def KX(lp:Nat)(t:List zh)(ns:κ)(b:Option zy)(w:World)(e:Ending)(w':World):Prop:=match b with
 |none=>e=ε (.tuple #[.pointer none,ι 10])/\μ w w'
 |some R=>∃a g d f c,w.heap.size<=a/\e=ε (.tuple #[(π a),ι 0])/\pX w.heap.size lp w' a t ns R g d f c/\μ w w'
theorem L1(w:World)(d g:Value)(a b:Int)(c:-9223372036854775808<=a/\a<9223372036854775808)(f:-9223372036854775808<=b/\b<9223372036854775808)(h:a<0∨1048576<a∨b<0∨1048576<b):
  Calls prog 35 #[d,g,ι a,ι b] w fun e i=>e=ε (.tuple #[.pointer none,ι 8])/\i=w:=by
 go_enter func35,ntmps35;by_cases k:a<0
 ·go_wp2;go_ret2
  exact⟨rfl,rfl⟩
 ·by_cases l:1048576<a
  ·go_wp2;go_ret2
   exact⟨rfl,rfl⟩
  ·by_cases m:b<0
   ·go_wp2;go_ret2
    exact⟨rfl,rfl⟩
   ·have j:1048576<b:=by omega
    go_wp2;go_ret2
    exact⟨rfl,rfl⟩
theorem Jy(w:World)(pb:Nat)(cs:List zd)(t:List zh)(h:Value)(os:Option (List (Option (List Int))))(a j:Nat)(k:ks lp w pb cs t)(o:jF w h os)(c:pA cs t os)(i:vq cs os=false)(v:a<=1048576)(q:j<=1048576):
  Calls prog 35 #[(π pb),h,ι a,ι j] w fun e m=>e=ε (.tuple #[.pointer none,ι 9])/\μ w m:=by
 obtain⟨_,l,s,f,d,_⟩:=k;have b:=Q7 (D6 w l h cs os d c.fine c.len o c.ords c.each);rw[i] at b;obtain⟨u,p,n⟩:=f.boxed;clear i;go_enter func35,ntmps35;go_wp2_with (go_at_call 71;refine b.out.mono ?_;rintro e r ⟨rfl,g⟩)
 go_ret2
 exact⟨rfl,g⟩
theorem K0(w:World)(pb:Nat)(cs:List zd)(t:List zh)(ov:Value)(os:Option (List (Option (List Int))))(h qw O:Nat)(L:Option zy)(hP:ks lp w pb cs t)(ho:jF w ov os)(i:pA cs t os)(F:vq cs os=true)(h1:h<=1048576)(o:qw<=1048576)(a5:lp<=w.heap.size)(hr:my O (vd t (zq cs) os cs) h qw=some L):
  Calls prog 35 #[(π pb),ov,ι h,ι qw] w fun e j=>KX lp t (zq cs) L w e j:=by
 have HP:=Q7 hP;obtain⟨_,cv,pv,z,N,am⟩:=hP;have ak:=Q7 (D6 w cv ov cs os N i.fine i.len ho i.ords i.each);rw[F] at ak;have aq:=Q7 fun W hW=>LA W cv cs (N.below hW) i.few;have a8:=Q7 fun W cb hW hC=>OO W pb 1 cb t (zq cs) cs cv ov os ⟨pv,(z.below hW).lt,(z.below hW).rules.1 1,zB am hW⟩ hC i.names i.vals (N.below hW) i.sums i.len (ho.below hW) i.ords (i.ordok F) i.jl;have l:=Q7 (i.set F);have ay:Hid ((zq cs).length<=1000/\t.length<=1000):=⟨i.vals,i.names⟩;have a7:=Q7 hr;obtain⟨hc,hf,s⟩:=z.boxed;have d0:=hc 0;have d1:=hc 1;simp only[lU,f6,l8] at d0 d1;clear F hr hc i N ho;generalize vd t (zq cs) os cs=S at *;generalize zq cs=ns at *;have aJ:=Q7 z;have a4:=Q7 am;clear z am;go_enter func35,ntmps35;go_upto_region 6 with (first|(go_at_call 71;refine ak.out.mono ?_;rintro e w1 ⟨rfl,u⟩;have y0:=zl u s d0;have yl:=xP s u.size)|(go_at_call 72;refine(aq.out _ u).mono ?_;rintro e w2 ⟨v2,rfl,ae,a6⟩;obtain⟨k,f,rfl⟩:=ae.qx))
 obtain⟨W3,ad⟩:∃W3,W3=w2.alloc (.cells #[.slice k ns.length f] 141):=⟨_,rfl⟩;have al:μ w2 (w2.alloc (.cells #[.slice k ns.length f] 141)):=(by go_grown);have M:=Q8.new w2 #[.slice k ns.length f] 141;have ab:=(ae.below al).low (show w.heap.size<=w1.heap.size from u.size);have aa:=QB u a6;have x:=QB aa al;have aC:=aa.size;rw[←ad] at M ab x;rw[←ad];generalize w2.heap.size=cb at *;have aj:=Q7 M;have ai:=Q7 ab;have x0:=zl x s d0;have a0:=M.lt;have xl:=xP s x.size;have V:Hid (∀W,μ W3 W->Calls prog 73 #[cv,.pointer (some ⟨pb,1,none⟩),(π cb),ov] W fun e j=>∃a1 P a2 Z a3 Y ps,e=ε (.agg #[ι S.qf,.slice a1 S.qj.length P,.slice a2 S.facts.length Z,.slice a3 S.rules.length Y])/\Hid (gz W.heap.size j (.slice a1 S.qj.length P) (.slice a2 S.facts.length Z) (.slice a3 S.rules.length Y) S ps)/\μ W j/\j.cell? ⟨pb,0,none⟩=some cv):=fun W F=>by
  refine(a8.out W cb (QB x F) ⟨yc a5 aC,_,aj.out.below F,(ai.out.below F).low a5⟩).mono ?_;rintro e j ⟨av,fv,rv,ps,h1,o,h3⟩;have hq:=QB F h3;obtain⟨a1,P,rfl⟩:=zp o.ari;obtain⟨a2,Z,rfl⟩:=zp o.fac;obtain⟨a3,Y,rfl⟩:=zp o.rul.own;exact⟨a1,P,a2,Z,a3,Y,ps,h1,o,h3,(hq.cell xl).trans x0⟩
 clear ad M ab al aq ak a8 y0 yl ae a6 u aa w1 w2 d0;go_cut [11] from 40 to 48 (fun aE wx=>n8 W3 wx S aE)
 case first=>
  go_region_held3 (fun j=>j.cell? ⟨pb,0,none⟩=some cv) (first|go_keep|(go_simp;done)) (first|(go_at_call 73;refine(V.out _ (by exact(by go_grown))).mono ?_;rintro e w4 ⟨a1,P,a2,Z,a3,Y,ps,rfl,D,ac,z0⟩;(try (with_reducible refine Q8.carry (Q8.drew (Q8.new W3 #[ι 0,ν,ν,ν] 146)) ac ?_;intro ax;obtain⟨aH,aI,aG⟩:=ax.boxed))))
  all_goals
   go_wp2_with fail
   go_meet
   case rel=>first|exact n8.one (W:=W3.drew) (by go_grown) ac D.out|exact n8.two (zg _) (W:=(W3.alloc (.cells #[ι 0,ν,ν,ν] 146)).drew) (by go_grown) ac ax D.out
 case rest=>
  clear V x0;obtain⟨fl,sb,a1,P,a2,Z,a3,Y,ps,rfl,aL,az,ah,ao,D,ag⟩:=hcut;have G:=Q7 (Sy wc S ps _ _ _ h qw O L D.out ah l.out.rules l.out.many l.out.small l.out.rows l.out.facts ⟨l.out.qf,h1,o⟩ a7.out);obtain⟨aA,aB,aF⟩:=ao.boxed;have af:=QB x ag.out;have aK:=Q7 a0;have K:=yc x.size az;clear D l a7 a0 xl;cases L with
  |none=>
   have m:Hid (Calls prog 74 #[.agg #[ι S.qf,.slice a1 S.qj.length P,.slice a2 S.facts.length Z,.slice a3 S.rules.length Y],ι h,ι qw] wc fun e j=>e=ε (.tuple #[.agg #[ν,ι 0,ι 0,ι 0],.bool false])/\Below fl wc j):=by
    refine G.out.mono ?_;rintro e j ⟨h1,an,o⟩;exact⟨h1,o.belowLo ah⟩
   clear G;go_wp2_with (go_at_call 74;refine m.out.mono ?_;rintro e J ⟨rfl,B⟩)
   go_ret2
   exact⟨rfl,zQ (af.trans (B.mono K)) (by go_grown) (zg _)⟩
  |some R=>
   have m:Hid (Calls prog 74 #[.agg #[ι S.qf,.slice a1 S.qj.length P,.slice a2 S.facts.length Z,.slice a3 S.rules.length Y],ι h,ι qw] wc fun e j=>∃d c g,e=ε (.tuple #[.agg #[.slice d R.rows.length c,ι R.count,ι R.qw,ι R.jf],.bool true])/\Hid (j.ownsRow fl 162 1 (.slice d R.rows.length c) R.rows.length (QQ g)/\g.length=R.rows.length/\(∀p (_:p<R.rows.length) (_:p<g.length),∃I,zY fl j g[p] R.rows[p] I)/\R.rows.length<=1000)/\Below fl wc j):=by
    refine G.out.mono ?_;rintro e j ⟨an,rb,Q,h1,o,h3⟩;obtain⟨d,c,ar⟩:=zp o.rows;refine⟨d,c,Q.tbs,by rw[h1,ar],⟨by rw[←ar];exact o.rows,o.tlen,fun p a b=>?_,o.few.1⟩,h3.belowLo ah⟩;obtain⟨I,q,_⟩:=o.tries p a b;exact⟨I,q⟩
   clear G;go_upto_region 10 with (first|(go_at_call 74;refine m.out.mono ?_;rintro e J ⟨d,c,g,rfl,aw,B⟩))
   have ap:=af.trans (B.mono K);have y:=ag.out.trans (B.mono az);have v:μ J (J.alloc (.cells #[.slice d R.rows.length c,ι R.count,ι R.qw,ι R.jf] 152)):=(by go_grown);have T:=Q8.new J #[.slice d R.rows.length c,ι R.count,ι R.qw,ι R.jf] 152;have X:=(aj.out.below y).below v;have au:=Q7 ((ai.out.below y).below v);have A:=QB ap v;have a9:=Q7 (zB a4.out A);have E:Hid (World.ownsRow (J.alloc (.cells #[.slice d R.rows.length c,ι R.count,ι R.qw,ι R.jf] 152)) w.heap.size 162 1 (.slice d R.rows.length c) R.rows.length (QQ g)/\g.length=R.rows.length/\(∀p (_:p<R.rows.length) (_:p<g.length),∃I,zY w.heap.size (J.alloc (.cells #[.slice d R.rows.length c,ι R.count,ι R.qw,ι R.jf] 152)) g[p] R.rows[p] I)/\R.rows.length<=1000):=by
    obtain⟨q1,q2,q3,q4⟩:=aw.out;refine⟨yt (zB q1 v) K,q2,fun p a b=>?_,q4⟩;obtain⟨I,q⟩:=q3 p a b;exact⟨I,(q.below v).low K⟩
   obtain⟨H,n,aD⟩:=zp a4.out;subst aD;have y1:=zl A s d1;have yl:=xP s A.size;have C:=A.size;clear v y ap aw m B af ag ai aj ao aA aB aF;generalize J.alloc (.cells #[.slice d R.rows.length c,ι R.count,ι R.qw,ι R.jf] 152)=W6 at *;generalize J.heap.size=ob at *;obtain⟨oc,of,ol⟩:=T.boxed;have o0:=oc 0;have o1:=oc 1;have o2:=oc 2;have o3:=oc 3;obtain⟨bc,bf,bl⟩:=X.boxed;have b0:=bc 0;simp only[lU,f6,l8] at o0 o1 o2 o3 b0;clear oc bc T X;go_region
   have r:μ W6 (W6.alloc (.cells #[.slice H t.length n,.slice k ns.length f,.slice d R.rows.length c,ι R.count,ι R.qw,ι R.jf] 156)).drew:=(by go_grown);have U:Hid (pX w.heap.size lp (W6.alloc (.cells #[.slice H t.length n,.slice k ns.length f,.slice d R.rows.length c,ι R.count,ι R.qw,ι R.jf] 156)).drew W6.heap.size t ns R (.slice H t.length n) (.slice k ns.length f) (.slice d R.rows.length c) g/\μ w (W6.alloc (.cells #[.slice H t.length n,.slice k ns.length f,.slice d R.rows.length c,ι R.count,ι R.qw,ι R.jf] 156)).drew):=by
    refine⟨⟨C,Q8.drew (Q8.new _ _ _),zB a9.out r,au.out.below r,zB E.out.1 r,E.out.2.1,fun p a b=>?_,⟨ay.out.2,ay.out.1,E.out.2.2.2⟩⟩,QB A r⟩;obtain⟨I,q⟩:=E.out.2.2.1 p a b;exact⟨I,q.below r⟩
   clear r a9 au E o0 o1 o2 o3 b0;go_wp2;go_ret2
   exact⟨W6.heap.size,_,_,_,g,C,rfl,U.out.1,U.out.2⟩
end
end Go.Proofs.YteampbddflhngaaGreat
