import Derived.Test.YteampbddflhngaaGreatZ24
import Derived.Test.YteampbddflhngaaGreatZ27
namespace Go.Proofs.YteampbddflhngaaGreat
set_option linter.all false
set_option maxRecDepth 100000
set_option maxHeartbeats 4000000
open Go.RowKit
section
open Go.Proofs.Tryz
variable {lo:Nat}{ownk own1:Nat->zn}{wd:Nat}
def Ha(lo:Nat)(w:World)(own:Nat->zn)(k wd:Nat)(r:zr)(vs:List yA)(b:List Nat)(n:Nat)(e:Ending)(w':World):Prop:=∃P a,e=ε (.agg (qX r P).toArray)/\ud lo w' a k wd ⟨r,vs⟩ P/\dH b n r P.nbs/\QC lo (lg k) w own w' a
def z8:List Value:=[ι 0,ι 0,ι 0,ν,ν,ν,ν,ν]
theorem Qh:(prog.info? 301).map (fun i=>(i.zero,i.size,i.bytes))=some (some (.agg #[ι 0,ν,ι 0,.pointer none,.pointer none,.pointer none]),6,64):=by kernel_rfl
def SA(d wd:Nat)(tv:Value)(a c b:Nat):Array Value:=#[ι d,tv,ι wd,(π a),(π c),(π b)]
structure Sx (lo:Nat) (wr W3:World) (ownk own2:Nat->zn) (k m wd g8:Nat) (l:zu) (tv:Value) (bb fb ab:Nat):Prop where
 view:vJ lo W3 own2 k m (kW wd l) ⟨tv,bb,fb,ab⟩
 role:own2 g8=(0,0,5)
 old:∀b,b<wr.heap.size->own2 b=ownk b
 box:Q6 W3 g8 (SA l.pred wd tv bb fb ab) 301
 lbox:Q6 W3 wr.heap.size #[ι l.pred,tv] 204
 below:μ wr W3
 ge:wr.heap.size<=g8
theorem Sx.one{wr e a:World}{k m:Nat}{l:zu}{tv:Value}{f g h:Nat}(d:μ wr e)(j:Q6 e wr.heap.size #[ι l.pred,tv] 204)(c:μ e a)(p:vJ lo a own1 k m (kW wd l) ⟨tv,f,g,h⟩)(n:∀b,b<e.heap.size->own1 b=ext ownk wr.heap.size (0,0,5) b):Sx lo wr (a.alloc (.cells (SA l.pred wd tv f g h) 301)) ownk (ext own1 a.heap.size (0,0,5)) k m wd a.heap.size l tv f g h:=by
 have i:μ a (a.alloc (.cells (SA l.pred wd tv f g h) 301)):=(zo _ _).alloc (zg _) _;have r:=d.size;have q:=c.size;refine⟨p.mod (QC.extNew (ok:=fun _ _=>False) own1 (0,0,5) i) (fun _ _ _=>id) (fun _=>id),by simp[ext],fun b o=>?_,Q6.new _ _ _,(j.below c).below i,Q9 (Q9 d c) i,by omega⟩;rw[dE _ _ _ b (by omega),n b (by omega),dE _ _ _ b o]
theorem Sx.two{wr a g:World}{k m:Nat}{l:zu}{tv:Value}{h i f:Nat}{z:Array Value}(e:μ wr a)(o:Q6 a wr.heap.size #[ι l.pred,tv] 204)(c:Below (a.alloc (.cells z 301)).heap.size (a.alloc (.cells z 301)) g)(t:Q6 g a.heap.size #[ι 0,ν,ι 0,.pointer none,.pointer none,.pointer none] 301)(y:vJ lo g own1 k m (kW wd l) ⟨tv,h,i,f⟩)(q:∀b,b<(a.alloc (.cells z 301)).heap.size->own1 b=ext ownk wr.heap.size (0,0,5) b):Sx lo wr ((((((g.setCell ⟨a.heap.size,0,none⟩ (ι l.pred)).setCell ⟨a.heap.size,1,none⟩ tv).setCell ⟨a.heap.size,2,none⟩ (ι wd)).setCell ⟨a.heap.size,3,none⟩ ((π h))).setCell ⟨a.heap.size,4,none⟩ ((π i))).setCell ⟨a.heap.size,5,none⟩ ((π f))) ownk own1 k m wd a.heap.size l tv h i f:=by
 have r:=e.size;have s:μ a (a.alloc (.cells z 301)):=(zo _ _).alloc (zg _) _;have p:=ze.sets a.heap.size [ι l.pred,tv,ι wd,(π h),(π i),(π f)] 0 g;have n:=(((((t.set 0 (ι l.pred)).set 1 tv).set 2 (ι wd)).set 3 ((π h))).set 4 ((π i))).set 5 ((π f));have u:=QS.box t;have j:=Q9 (Q9 e s) c;have d:=(o.below s).below c;have v:(a.alloc (.cells z 301)).heap.size=a.heap.size+1:=by simp
 refine⟨y.saveT p u (by decide) (by decide),?_,fun b w=>?_,by simpa [SA] using n,d.saveT p u (by decide),?_,r⟩
 ·rw[q _ (by omega)];simp[ext,Nat.not_lt.2 r]
 ·rw[q b (by omega),dE _ _ _ b w]
 ·exact j.trans (p.below (fun x A=>by simp at A;omega) (by have:=j.size;omega))
theorem jt.done{f w w':World}{c own:Nat->zn}{k n m g:Nat}{l:Array Value}{r:zr}{P:yV}{vs:List yA}(h:jt lo f w c own k wd n m r P vs)(e:Q6 w g l 292)(p:f.heap.size<=g)(hs:ze [g] w w')(j:P.nbs.length=r.qp.length)(o:vs.length<=1000):ud lo w' own k wd ⟨r,vs⟩ P/\QC lo (lg k) f c w' own:=by
 have d:=QS.box e;have q:=yG h.qp hs d (by decide);rw[j] at q;exact⟨⟨h.rule.saveT hs d (by decide) (by decide),yG h.qm hs d (by decide),h.vlen,fun i a b=>(h.view i a b).saveT hs d (by decide) (by decide),h.vrole,q,j,o⟩,h.mod.newer hs fun b e=>by simp at e;omega⟩
theorem Hg{f:Nat}{T:zi}{a:List zm}(h:rowsG f T=some a):a.length<=1048577:=by
 unfold rowsG at h;split at h
 ·cases h
 ·split at h
  ·simp at h;subst h;omega
  ·cases h
theorem Hv(w:World)(own:Nat->zn)(rb k:Nat)(R:z7)(r:zr)(tv pv nv:Value)(vs:List yA)(wd mr mx:Nat)(Q:xZ)(ap:Nat)(h:zW lo w own rb R wd mr mx Q)(hr:vm lo w tv pv nv r)(aN:lo<=w.heap.size)(bt:∀l∈r.qc,l.pred<R.rows.length)(aR:∀l∈r.qp,l.pred<R.rows.length/\l.pred≠r.head.pred)(hv:gW ap wd R r.qc=some vs):
  Calls prog 192 #[(π rb),kL r tv pv nv] w fun e J=>Ha lo w own k wd r vs Q.tbs R.rows.length e J:=by
 obtain⟨i0,hi,bB,bU,bC⟩:=info_parts Qh;obtain⟨i1,bW,aS,aY,bp⟩:=info_parts PV;obtain⟨bo,aP⟩:=Cz hv;have aA:=Q5 bo;have bT:=Q5 aP;have HH:=Q5 h;have bx:=Q5 hr;have aJ:=Q5 aN;have bA:=Q5 bt;have bJ:=Q5 aR;obtain⟨o,f,bF⟩:=hr.head.qx;obtain⟨u,j,bz⟩:=hr.qc.qx;obtain⟨s,d,bw⟩:=hr.qp.qx;have bS:r.qc.length<=1000:=by obtain⟨_,_,_,q,_⟩:=hr.qc;exact q
 have ca:r.qp.length<=1000:=by obtain⟨_,_,_,q,_⟩:=hr.qp;exact q
 subst bF bz bw;clear h hr aN bt aR hv bo aP;simp only[kL];go_enter func192,ntmps192;go_upto_region 3 with fail
 have P:μ w (((w.alloc (.cells #[ι r.qh,ι r.vars,ι r.head.pred,.slice o r.head.qg.length f,.slice u r.qc.length j,.slice s r.qp.length d] 207)).alloc (.cells #[ι 0,ι 0,ι 0,ν,ν,ν,ν,ν] 292)).alloc (.cells #[ι r.qh,ι r.vars,ι r.head.pred,.slice o r.head.qg.length f,.slice u r.qc.length j,.slice s r.qp.length d,ν,ν] 292)):=(by go_grown);have am:=((Q6.new w #[ι r.qh,ι r.vars,ι r.head.pred,.slice o r.head.qg.length f,.slice u r.qc.length j,.slice s r.qp.length d] 207).up (.cells #[ι 0,ι 0,ι 0,ν,ν,ν,ν,ν] 292)).up (.cells #[ι r.qh,ι r.vars,ι r.head.pred,.slice o r.head.qg.length f,.slice u r.qc.length j,.slice s r.qp.length d,ν,ν] 292);have az:=((Q6.new (w.alloc (.cells #[ι r.qh,ι r.vars,ι r.head.pred,.slice o r.head.qg.length f,.slice u r.qc.length j,.slice s r.qp.length d] 207)) z8.toArray 292).up (.cells #[ι r.qh,ι r.vars,ι r.head.pred,.slice o r.head.qg.length f,.slice u r.qc.length j,.slice s r.qp.length d,ν,ν] 292)).at' (b':=w.heap.size+1) (by simp);have bu:=(Q6.new ((w.alloc (.cells #[ι r.qh,ι r.vars,ι r.head.pred,.slice o r.head.qg.length f,.slice u r.qc.length j,.slice s r.qp.length d] 207)).alloc (.cells z8.toArray 292)) #[ι r.qh,ι r.vars,ι r.head.pred,.slice o r.head.qg.length f,.slice u r.qc.length j,.slice s r.qp.length d,ν,ν] 292).at' (b':=w.heap.size+1+1) (by simp);have x:jt lo w (((w.alloc (.cells #[ι r.qh,ι r.vars,ι r.head.pred,.slice o r.head.qg.length f,.slice u r.qc.length j,.slice s r.qp.length d] 207)).alloc (.cells #[ι 0,ι 0,ι 0,ν,ν,ν,ν,ν] 292)).alloc (.cells #[ι r.qh,ι r.vars,ι r.head.pred,.slice o r.head.qg.length f,.slice u r.qc.length j,.slice s r.qp.length d,ν,ν] 292)) own own k wd (w.heap.size+1+1) w.heap.size r ⟨.slice o r.head.qg.length f,.slice u r.qc.length j,.slice s r.qp.length d,ν,ν,[],[]⟩ []:=⟨by omega,aJ.out,bu,am,bx.out.below P,yC _ _ _ _,rfl,(fun i a=>by simp at a),(fun b I=>by cases I),yC _ _ _ _,QC.of own P⟩;have O:Hid (Q6 (((w.alloc (.cells #[ι r.qh,ι r.vars,ι r.head.pred,.slice o r.head.qg.length f,.slice u r.qc.length j,.slice s r.qp.length d] 207)).alloc (.cells #[ι 0,ι 0,ι 0,ν,ν,ν,ν,ν] 292)).alloc (.cells #[ι r.qh,ι r.vars,ι r.head.pred,.slice o r.head.qg.length f,.slice u r.qc.length j,.slice s r.qp.length d,ν,ν] 292)) (w.heap.size+1) z8.toArray 292):=az;have a2:=Q5 x;clear x am az bu P;generalize b5:((w.alloc (.cells #[ι r.qh,ι r.vars,ι r.head.pred,.slice o r.head.qg.length f,.slice u r.qc.length j,.slice s r.qp.length d] 207)).alloc (.cells #[ι 0,ι 0,ι 0,ν,ν,ν,ν,ν] 292)).alloc (.cells #[ι r.qh,ι r.vars,ι r.head.pred,.slice o r.head.qg.length f,.slice u r.qc.length j,.slice s r.qp.length d,ν,ν] 292)=w1 at *;clear b5;generalize h5:w.heap.size+1+1=t5 at *;generalize h4:w.heap.size+1=t4 at *;have aK:t4≠t5:=by omega
 have cf:w.heap.size<t4:=by omega
 clear h5 h4;go_loopw [18] (fun b3 wr=>∃m:Nat,m<=r.qc.length/\b3=ι m/\∃ownk vv an,Hid (jt lo w wr own ownk k wd t5 w.heap.size r ⟨.slice o r.head.qg.length f,.slice u r.qc.length j,.slice s r.qp.length d,vv,ν,an,[]⟩ (vs.take m))/\Hid (Q6 wr t4 z8.toArray 292)) (fun i _=>r.qc.length-(intOf i).toNat)
 case atStart=>exact⟨0,zv _,rfl,own,_,[],a2,O⟩
 case round=>
  clear a2 O;obtain⟨m,hm,rfl,ownk,vv,an,x,O⟩:=hrel;have ak:=x.out.mod.size;have aj:=yc aJ.out ak;by_cases af:m<r.qc.length
  ·obtain⟨g,n,c,a6,hg,q0,q1,bd⟩:=x.out.rule.qc.cell m af;subst a6;have aW:m<vs.length:=by rw[aA.out];exact af
   obtain⟨S,ae,ax⟩:=bT.out m af aW;have ab:=Q5 (HH.out.make x.out.mod);have Z:r.qc[m].pred<R.rows.length:=bA.out _ (zs _);have ao:r.qc[m].pred<Q.tbs.length:=by rw[ab.out.tlen];exact Z
   have aO:Hid (∀F,μ wr F->Calls prog 204 #[.agg #[ι (r.qc[m].pred:Nat),.slice n r.qc[m].qg.length c],ι wd] F fun e J=>∃K fb L own1,e=ε (.agg #[ι (r.qc[m].pred:Nat),.slice n r.qc[m].qg.length c,ι wd,(π K),(π fb),(π L)])/\Hid (vJ lo J own1 k m (kW wd r.qc[m]) ⟨.slice n r.qc[m].qg.length c,K,fb,L⟩/\∀b,b<F.heap.size->own1 b=ext ownk wr.heap.size (0,0,5) b)/\μ F J):=fun F I=>by
    refine(Iu F (ext ownk wr.heap.size (0,0,5)) k m r.qc[m] (.slice n r.qc[m].qg.length c) wd (bd.below I) (yc aj I.size) ab.out.small.1).mono ?_;rintro e J ⟨⟨ck,K,fb,L⟩,own1,rfl,rfl,b4,bb,N⟩;exact⟨K,fb,L,own1,rfl,⟨b4,bb⟩,N⟩
   obtain⟨hl,hf,d0,d1,d2,d3,d4,d5,d6,d7⟩:=ab.out.at;have aT:(m:Int)<(r.qc.length:Int):=by omega
   clear d0 d1 d2 d3 d5 d6 d7;go_upto_region 5 with fail
   have P:μ wr (wr.alloc (.cells #[ι (r.qc[m].pred:Nat),.slice n r.qc[m].qg.length c] 204)):=(by go_grown);have al:=Q6.new wr #[ι (r.qc[m].pred:Nat),.slice n r.qc[m].qg.length c] 204;have bc:wr.heap.size<(wr.alloc (.cells #[ι (r.qc[m].pred:Nat),.slice n r.qc[m].qg.length c] 204)).heap.size:=by simp
   generalize b6:wr.alloc (.cells #[ι (r.qc[m].pred:Nat),.slice n r.qc[m].qg.length c] 204)=X at *;clear b6;have x4:=zl P hl d4;have x0:X.cell? ⟨wr.heap.size,0,none⟩=some (ι (r.qc[m].pred:Nat)):=by rw[al.rules.1];rfl
   have x1:X.cell? ⟨wr.heap.size,1,none⟩=some (.slice n r.qc[m].qg.length c):=by rw[al.rules.1];rfl
   have ar:Hid (∀F,μ X F->Calls prog 204 #[.agg #[ι (r.qc[m].pred:Nat),.slice n r.qc[m].qg.length c],ι wd] F fun e J=>∃K fb L own1,e=ε (.agg #[ι (r.qc[m].pred:Nat),.slice n r.qc[m].qg.length c,ι wd,(π K),(π fb),(π L)])/\Hid (vJ lo J own1 k m (kW wd r.qc[m]) ⟨.slice n r.qc[m].qg.length c,K,fb,L⟩/\∀b,b<F.heap.size->own1 b=ext ownk wr.heap.size (0,0,5) b)/\μ F J/\J.cell? ⟨rb,4,none⟩=some (ι wd)/\J.cell? ⟨wr.heap.size,0,none⟩=some (ι (r.qc[m].pred:Nat))/\J.cell? ⟨wr.heap.size,1,none⟩=some (.slice n r.qc[m].qg.length c)):=fun F I=>by
    refine(aO.out F (Q9 P I)).mono ?_;rintro e J ⟨K,fb,L,own1,rfl,HX,N⟩;have am:=Q9 I N;exact⟨K,fb,L,own1,rfl,HX,N,(am.cell (by show rb<_;omega)).trans x4,(am.cell (by show wr.heap.size<_;omega)).trans x0,(am.cell (by show wr.heap.size<_;omega)).trans x1⟩
   clear aO;clear q0 q1 d4;go_region_held3 (fun J=>J.cell? ⟨rb,4,none⟩=some (ι wd)/\J.cell? ⟨wr.heap.size,0,none⟩=some (ι (r.qc[m].pred:Nat))/\J.cell? ⟨wr.heap.size,1,none⟩=some (.slice n r.qc[m].qg.length c)) (first|go_keep|(go_simp;done)) (go_at_call 204;refine(ar.out _ (by exact(by go_grown))).mono ?_;rintro e w2 ⟨K,fb,L,own1,rfl,HX,N,y4,y0,y1⟩;(try (with_reducible refine Q6.carry (Q6.drew (Q6.new X #[ι 0,ν,ι 0,.pointer none,.pointer none,.pointer none] 301)) N ?_;intro aH;obtain⟨aU,aZ,bf⟩:=aH.boxed)))
   obtain⟨M,HP⟩:∃M,Hid (Sx lo wr (w2.alloc (.cells #[ι (r.qc[m].pred:Nat),.slice n r.qc[m].qg.length c,ι wd,(π K),(π fb),(π L)] 301)) ownk M k m wd w2.heap.size r.qc[m] (.slice n r.qc[m].qg.length c) K fb L):=⟨_,Sx.one P al (Q9 (zJ (zo _ _) 1) N) HX.out.1 HX.out.2⟩;clear HX N y4 y0 y1 x4 x0 x1 P al bc ar;generalize w2.alloc (.cells #[ι (r.qc[m].pred:Nat),.slice n r.qc[m].qg.length c,ι wd,(π K),(π fb),(π L)] 301)=W3 at *;generalize w2.heap.size=g8 at *;rotate_left
   obtain⟨M,HP⟩:∃M,Hid (Sx lo wr ((((((w2.setCell ⟨X.heap.size,0,none⟩ (ι (r.qc[m].pred:Nat))).setCell ⟨X.heap.size,1,none⟩ (.slice n r.qc[m].qg.length c)).setCell ⟨X.heap.size,2,none⟩ (ι wd)).setCell ⟨X.heap.size,3,none⟩ ((π K))).setCell ⟨X.heap.size,4,none⟩ ((π fb))).setCell ⟨X.heap.size,5,none⟩ ((π L))) ownk M k m wd X.heap.size r.qc[m] (.slice n r.qc[m].qg.length c) K fb L):=⟨_,Sx.two (z:=#[ι 0,ν,ι 0,.pointer none,.pointer none,.pointer none]) P al (Q9 (zJ (zo _ _) 1) N) aH HX.out.1 HX.out.2⟩;clear HX N y4 y0 y1 x4 x0 x1 P al bc ar aH aU aZ bf;generalize ((((((w2.setCell ⟨X.heap.size,0,none⟩ (ι (r.qc[m].pred:Nat))).setCell ⟨X.heap.size,1,none⟩ (.slice n r.qc[m].qg.length c)).setCell ⟨X.heap.size,2,none⟩ (ι wd)).setCell ⟨X.heap.size,3,none⟩ ((π K))).setCell ⟨X.heap.size,4,none⟩ ((π fb))).setCell ⟨X.heap.size,5,none⟩ ((π L)))=W3 at *;generalize X.heap.size=g8 at *
   all_goals
    have hP:=HP.out;have aF:=Q5 fun F I=>AZ F ownk rb R wd mr mx Q _ (ab.out.below I) Z ao;have bR:Hid (∀F,μ wr F->Calls prog 78 #[.pointer (some ⟨Q.tbs[r.qc[m].pred],0,none⟩)] F fun e J=>∃aw ac,e=ε (.slice aw S.length ac)/\Hid (QM F.heap.size J (.slice aw S.length ac) S)/\μ F J):=fun F I=>by
     have q:=D5 F ownk (0,r.qc[m].pred,0) Q.tbs[r.qc[m].pred] R.rows[r.qc[m].pred] ap S ((ab.out.below I).tries _ Z ao) (by rw[←ae,fT,za (by omega)];simp[List.getD,Z]);refine q.mono ?_;rintro e J ⟨v,rfl,a1,aI⟩;obtain⟨aw,ac,rfl⟩:=zp a1.1;exact⟨aw,ac,rfl,a1,aI⟩
    have b2:Hid (∀W4 b0 rv,μ W3 W4->QM b0 W4 rv S->Calls prog 206 #[(π g8),rv] W4 fun e J=>e=ε (.tuple #[])/\∃aa E,Hid (vJ lo J E k m vs[m] ⟨.slice n r.qc[m].qg.length c,K,aa,L⟩/\QC lo (fR k m (0,0,5)) wr ownk J E)/\Q6 J g8 #[ι (r.qc[m].pred:Nat),.slice n r.qc[m].qg.length c,ι wd,(π K),(π aa),(π L)] 301):=fun W4 b0 rv I a1=>by
     have z1:=HP.out.below.size;have q:=Fj W4 M k m g8 0 wd ap (SA r.qc[m].pred wd (.slice n r.qc[m].qg.length c) K fb L) (kW wd r.qc[m]) vs[m] ⟨.slice n r.qc[m].qg.length c,K,fb,L⟩ rv S (HP.out.box.below I) ⟨rfl,rfl,rfl,rfl,rfl,rfl⟩ (HP.out.view.below I) a1 (by have:=HP.out.ge;omega) (by have:=I.size;omega) ab.out.small.1 (Hg ae) ax;refine q.mono ?_;rintro e J ⟨rfl,aa,E,bN,aI,ba⟩;rw[HP.out.role] at ba;exact⟨rfl,aa,E,⟨bN,((QC.qo HP.out.below HP.out.old).trans (QC.of M I)).trans ba⟩,by simpa [SA] using aI⟩
    have ah:(vs.take m).length=m:=by simp;omega
    have bO:Hid (∀w5 E,QC lo (fR k m (0,0,5)) wr ownk w5 E->jt lo w w5 own E k wd t5 w.heap.size r ⟨.slice o r.head.qg.length f,.slice (some ⟨g,0,none⟩) r.qc.length j,.slice s r.qp.length d,vv,ν,an,[]⟩ (vs.take m)/\Q6 w5 t4 z8.toArray 292):=fun w5 E bk=>⟨x.out.step (by rw[ah];exact bk),O.out.mod bk (gA (by decide) (by decide) _)⟩;have a9:=Q5 ah;obtain⟨y,t,T⟩:=zp x.out.qm;dsimp only at T;rw[ah] at T;subst T;have bi:=hP.below;have bv:=hP.lbox;obtain⟨bX,bY,bZ⟩:=bv.boxed;have br:=Q5 bi;have bL:Hid (vs[m].lit.pred=r.qc[m].pred):=show vs[m].lit.pred=r.qc[m].pred by rw[Db ax];rfl
    have b7:=Q5 (yM aW);clear hP bi bv ah ax ae;generalize bH:vs[m]=V' at *;clear bH;generalize Q.tbs[r.qc[m].pred]=tb at *;generalize r.qc[m].pred=vp at *;generalize r.qc[m].qg.length=vt at *;go_wp2_with (first|(go_at_call 205;refine(aF.out _ br.out).mono ?_;rintro e w4 ⟨rfl,aL⟩;obtain rfl:=aL.symm)|(go_at_call 78;refine(bR.out _ br.out).mono ?_;rintro e w4 ⟨aw,ac,rfl,bM,az⟩)|(go_at_call 206;refine(b2.out _ _ _ az bM.out).mono ?_;rintro e w5 ⟨rfl,aa,E,bn,bm⟩;obtain⟨D,a3⟩:=bO.out _ _ bn.out.2;have H:Q6 w5 t5 #[ι r.qh,ι r.vars,ι r.head.pred,.slice o r.head.qg.length f,.slice (some ⟨g,0,none⟩) r.qc.length j,.slice s r.qp.length d,.slice y m t,ν] 292:=D.box;obtain⟨a8,aD,aB⟩:=H.boxed;obtain⟨cj,ci,ch⟩:=bm.boxed;have W:=D.qm;have C:=Q5 D;have au:=Q5 a3;clear D a3 H bm)|(at_builtin;refine kV w5 _ [ι vp,.slice n vt c,ι wd,(π K),(π aa),(π L)] _ rfl (.tmp 36) (.tmp 38) 290 rfl lo 301 i0 _ 6 64 underlying290 hi bB bU bC rfl (by decide) (.slice y m t) (vs.take m).length (vY wd (vs.take m) an) rfl W (by exact(by go_grown)) _ _ rfl (by simp) rfl (by simp[Value.oneCell']) (by rw[a9.out];omega) (by omega) (by exact(yc C.out.low0 C.out.mod.size)) ?_;intro v' w6 ag U av;obtain⟨be,aM,ai⟩:=zp ag;rw[a9.out] at ai;subst ai;have ad:Q6 w6 t5 #[ι r.qh,ι r.vars,ι r.head.pred,.slice o r.head.qg.length f,.slice (some ⟨g,0,none⟩) r.qc.length j,.slice s r.qp.length d,.slice y m t,ν] 292:=C.out.box.saveT U (QS.own C.out.qm) (by decide);obtain⟨bG,bP,b8⟩:=ad.boxed;have aq:=Q5 (au.out.saveT U (QS.own C.out.qm) (by decide));have aG:Hid (ze _ w5 w6):=U;have aC:Hid (_∨_):=av;have a7:Hid (World.ownsRow w6 lo 301 6 _ _ _):=ag;clear U av ag ad))
    have bQ:gz wd V' ⟨.slice n vt c,K,aa,L⟩=[ι vp,.slice n vt c,ι wd,(π K),(π aa),(π L)]:=by simp[gz,bL.out,pt]
    have Y:=C.out.pushV (V:=V') (p:=⟨.slice n vt c,K,aa,L⟩) (by rw[a9.out];exact bn.out.1) (by rw[bQ];exact a7.out) aG.out aC.out;rw[←b7.out] at Y;exact⟨⟨m+1,by omega,by go_num,_,_,_,Y,aq.out.set_ne aK _ _⟩,by simp[intOf];omega⟩
  ·obtain rfl:m=r.qc.length:=by omega
   have bh:vs.take r.qc.length=vs:=by rw[←aA.out];exact vw
   rw[bh] at x;clear bh;obtain⟨y,t,T⟩:=zp x.out.qm;dsimp only at T;subst T;obtain⟨bs,bV,bE⟩:=x.out.rbox.boxed;dsimp only at bs;go_upto_region 11 with fail
   clear bs bV bE hm af;have ce:=Q5 aj;clear ak aj;generalize bK:wr=w5 at *;clear bK;go_loopw [45] (fun b9 wr=>∃m:Nat,m<=r.qp.length/\b9=ι m/\∃aE A,Hid (jt lo w wr own ownk k wd t5 w.heap.size r ⟨.slice o r.head.qg.length f,.slice u r.qc.length j,.slice s r.qp.length d,.slice y vs.length t,aE,an,A⟩ vs)/\Hid (Q6 wr t4 z8.toArray 292)/\Hid (A.length=m)/\Hid (dH Q.tbs R.rows.length r A)/\Hid (∀b,aE.ownBlock=some b->w.heap.size<=b)) (fun i _=>r.qp.length-(intOf i).toNat)
   case atStart=>exact⟨0,zv _,rfl,_,[],x,O,rfl,fun i _ h2=>by simp at h2,fun b I=>by cases I⟩
   case round=>
    clear x O;obtain⟨m,hm,rfl,aE,A,x,O,ay,aQ,bq⟩:=hrel;have ak:=x.out.mod.size;have aj:=yc aJ.out ak;obtain⟨G,B,a5⟩:=zp x.out.qp;dsimp only at a5;subst a5;by_cases af:m<r.qp.length
    ·obtain⟨g,n,c,a6,hg,q0,q1,bd⟩:=x.out.rule.qp.cell m af;subst a6;have ab:=Q5 (HH.out.make x.out.mod);have Z:=bJ.out _ (zs af);have ao:r.qp[m].pred<Q.tbs.length:=by rw[ab.out.tlen];exact Z.1
     have aF:=Q5 fun F I=>AZ F ownk rb R wd mr mx Q _ (ab.out.below I) Z.1 ao;have bD:Hid (dH Q.tbs R.rows.length r (A++[Q.tbs[r.qp[m].pred]])):=fun i h1 h2=>by
      by_cases hi:i<A.length
      ·have q:=aQ.out i h1 hi;rw[vq hi];exact q
      ·obtain rfl:i=m:=by have:=ay.out;simp at h2;omega
       refine⟨Z.2,Z.1,ao,?_⟩;rw[mt (by omega)];simp
     have a0:μ wr (wr.alloc (.cells #[ι (r.qp[m].pred:Nat),.slice n r.qp[m].qg.length c] 204)):=(by go_grown);have D:=x.out.below a0;have H:Q6 (wr.alloc (.cells #[ι (r.qp[m].pred:Nat),.slice n r.qp[m].qg.length c] 204)) t5 #[ι r.qh,ι r.vars,ι r.head.pred,.slice o r.head.qg.length f,.slice u r.qc.length j,.slice (some ⟨g,0,none⟩) r.qp.length d,.slice y vs.length t,.slice G A.length B] 292:=D.box;obtain⟨a8,aD,aB⟩:=H.boxed;have W:=D.qp;dsimp only at W;have C:=Q5 D;have au:=Q5 (O.out.below a0);have b1:=Q5 a0;have aT:(m:Int)<(r.qp.length:Int):=by omega
     have cc:A.length<=1000:=by rw[ay.out];omega
     clear D H a0;generalize Q.tbs[r.qp[m].pred]=tb at *;generalize r.qp[m].pred=vp at *;generalize r.qp[m].qg.length=vt at *;generalize bg:A.length=nl at *;have aX:=Q5 bg;clear bg;go_upto_region 14 with (go_at_call 205;refine(aF.out _ b1.out).mono ?_;rintro e w4 ⟨rfl,aL⟩;obtain rfl:=aL.symm)
     generalize wr.alloc (.cells #[ι vp,.slice n vt c] 204)=W5 at *;go_wp2_with (at_builtin;refine kV W5 _ [(π tb)] _ rfl (.tmp 54) (.tmp 56) 150 rfl lo 162 i1 _ 1 8 underlying150 bW aS aY bp rfl (by decide) (.slice G nl B) nl (QQ A) rfl W (by exact(by go_grown)) _ _ rfl (by simp) rfl (by simp[Value.oneCell']) (by omega) (by omega) (by exact(yc C.out.low0 C.out.mod.size)) ?_;intro v' w6 ag U av;obtain⟨be,aM,ai⟩:=zp ag;subst ai;have ad:Q6 w6 t5 #[ι r.qh,ι r.vars,ι r.head.pred,.slice o r.head.qg.length f,.slice u r.qc.length j,.slice (some ⟨g,0,none⟩) r.qp.length d,.slice y vs.length t,.slice G nl B] 292:=C.out.box.saveT U (QS.own C.out.qp) (by decide);obtain⟨bG,bP,b8⟩:=ad.boxed;have aq:=Q5 (au.out.saveT U (QS.own C.out.qp) (by decide));have aG:Hid (ze _ W5 w6):=U;have aC:Hid (_∨_):=av;have a7:Hid (World.ownsRow w6 lo 162 1 _ _ _):=ag;clear U av ag ad)
     have Y:=C.out.pushN (tb:=tb) bq.out (by rw[aX.out];exact a7.out) aG.out;exact⟨⟨m+1,by omega,by go_num,_,_,Y,aq.out.set_ne aK _ _,show(A++[tb]).length=m+1 by simp[aX.out,ay.out],bD,fun b I=>by
      rcases aC.out with e|⟨g',e,cl⟩
      ·rw[e] at I;exact bq.out b I
      ·rw[e] at I;simp at I;have:=C.out.mod.size;omega⟩,by simp[intOf];omega⟩
    ·obtain rfl:m=r.qp.length:=by omega
     have H:Q6 wr t5 #[ι r.qh,ι r.vars,ι r.head.pred,.slice o r.head.qg.length f,.slice u r.qc.length j,.slice s r.qp.length d,.slice y vs.length t,.slice G A.length B] 292:=x.out.box;obtain⟨a8,aD,aB⟩:=H.boxed;have a4:Q6 wr t4 #[ι 0,ι 0,ι 0,ν,ν,ν,ν,ν] 292:=O.out;obtain⟨bI,cd,cb⟩:=a4.boxed;have cg:t5≠t4:=fun e=>aK e.symm;clear H a4;go_wp2
     (try simp only[Exit.inBlock,Exit.then])
     have aV:ze [t4] wr ((((((((wr.setCell ⟨t4,0,none⟩ (ι r.qh)).setCell ⟨t4,1,none⟩ (ι r.vars)).setCell ⟨t4,2,none⟩ (ι r.head.pred)).setCell ⟨t4,3,none⟩ (.slice o r.head.qg.length f)).setCell ⟨t4,4,none⟩ (.slice u r.qc.length j)).setCell ⟨t4,5,none⟩ (.slice s r.qp.length d)).setCell ⟨t4,6,none⟩ (.slice y vs.length t)).setCell ⟨t4,7,none⟩ (.slice G A.length B)):=ze.sets t4 [ι r.qh,ι r.vars,ι r.head.pred,.slice o r.head.qg.length f,.slice u r.qc.length j,.slice s r.qp.length d,.slice y vs.length t,.slice G A.length B] 0 wr;have hd:=x.out.done O.out (by omega) aV ay.out (by rw[aA.out];exact bS);have HD:Hid (_/\_):=hd;clear hd aV;refine zL (v:=.agg #[ι r.qh,ι r.vars,ι r.head.pred,.slice o r.head.qg.length f,.slice u r.qc.length j,.slice s r.qp.length d,.slice y vs.length t,.slice G A.length B]) ?_ rfl ⟨⟨.slice o r.head.qg.length f,.slice u r.qc.length j,.slice s r.qp.length d,.slice y vs.length t,.slice G A.length B,an,A⟩,ownk,rfl,HD.out.1,aQ.out,HD.out.2⟩;clear HD a8 aD aB;simp[results,results192,go_sem,bI]
end
section
open Go.Proofs.Tryz
variable {lo:Nat}{Ws:List zX}{Ps:List yV}
theorem Qp:(prog.info? 292).map (fun i=>(i.zero,i.size,i.bytes))=some (some (.agg #[ι 0,ι 0,ι 0,ν,ν,ν,ν,ν]),8,144):=by kernel_rfl
theorem lx{t:TypeId}(h:Rz t)(a:t∉[214,161,165,310,323,301]):∀ρ,¬uY t ρ:=fun ρ q=>by
 rcases q with q|q
 ·exact q.1 h
 ·exact a q
theorem qF.mod{d:Nat}{ok:TypeId->zn->Prop}{w w':World}{own c:Nat->zn}{v:Value}{rs:List zr}{ps:List (Value×Value×Value)}(h:qF d w v rs ps)(m:QC lo ok w own w' c)(e:∀ρ,¬ok 284 ρ)(g:∀ρ,¬ok 204 ρ)(f:∀ρ,¬ok 207 ρ):qF d w' v rs ps:=⟨vG h.own m f,h.len,fun k a b=>(h.rule k a b).mod m e g,h.few⟩
theorem uk.make{w w':World}{own c:Nat->zn}{wd:Nat}{d:Value}(h:uk lo w own wd d Ws Ps)(m:QC lo (lg Ws.length) w own w' c):uk lo w' c wd d Ws Ps:=
 ⟨vG h.arr m (ni (by decide) (by decide)),h.plen,fun k a b=>(h.work k a b).mod m (ni (by decide) (by decide)) (ni (by decide) (by decide)) (ox (by omega) (by omega)) (ni (by decide) (by decide)) (fun i j t e q=>by
  rcases q with q|⟨rfl,_⟩
  ·exact pd (by omega) q
  ·exact e (by decide)),h.few⟩
theorem NJ(Ws:List zX)(Ps:List yV)(h:Ps.length=Ws.length)(W:zX)(P:yV):gH (Ws++[W]) (Ps++[P])=gH Ws Ps++qX W.rule P:=by
 simp[gH,List.zipWith_append h.symm]
theorem uk.push{w w':World}{own:Nat->zn}{wd:Nat}{j v':Value}{W:zX}{P:yV}(h:uk lo w own wd j Ws Ps)(r:ud lo w own Ws.length wd W P)(u:Ws.length+1<=1000)(o:w'.ownsRow lo 292 8 v' (Ws.length+1) (gH Ws Ps++qX W.rule P))(hs:ze j.ownBlock.toList w w'):uk lo w' own wd v' (Ws++[W]) (Ps++[P])/\QC lo (gd [292]) w own w' own:=by
 have l:QC lo (gd [292]) w own w' own:=QC.ofSave own hs fun b p=>by
  have d:j.ownBlock=some b:=by simpa using p
  obtain⟨c,n⟩:=uW h.arr d;exact⟨yW h.arr d,xK h.arr d,c,_,n,xF.2 rfl⟩
 have g:∀t,t∉[292]->∀ρ,¬gd [292] t ρ:=fun t f ρ q=>f q;have m:=fun k W P (q:ud lo w own k wd W P)=>q.mod l (g _ (by decide)) (g _ (by decide)) (g _ (by decide) _) (g _ (by decide)) (fun _ _ t f q=>by rw[xF.1 q] at f;exact f (by decide));refine⟨⟨?_,by simp[h.plen],fun k a b=>?_,by simpa using u⟩,l⟩
 ·rw[NJ Ws Ps h.plen,yp];exact o
 ·simp only[yp,xd,dD] at a b;by_cases i:k<Ws.length
  ·have e:k<Ps.length:=by rw[h.plen];exact i
   rw[vq i,vq e];exact m _ _ _ (h.work k i e)
  ·obtain rfl:k=Ws.length:=by omega
   have v:(Ws++[W])[Ws.length]=W:=by simp
   have s:(Ps++[P])[Ws.length]=P:=by simp[←h.plen]
   rw[v,s];exact m _ _ _ r
theorem kC.push{c:List Nat}{n:Nat}(h:kC c n Ws Ps)(f:Ps.length=Ws.length){W:zX}{P:yV}(g:dH c n W.rule P.nbs):kC c n (Ws++[W]) (Ps++[P]):=by
 intro k a b;simp only[yp,xd,dD] at a b;by_cases e:k<Ws.length
 ·have d:k<Ps.length:=by rw[f];exact e
  rw[vq e,vq d];exact h k e d
 ·obtain rfl:k=Ws.length:=by omega
  have j:(Ws++[W])[Ws.length]=W:=by simp
  have i:(Ps++[P])[Ws.length]=P:=by simp[←f]
  rw[j,i];exact g
def wl(n:Nat)(rs:List zr):Prop:=∀r∈rs,(∀l∈r.qc,l.pred<n)/\∀l∈r.qp,l.pred<n/\l.pred≠r.head.pred
def Mn(lo:Nat)(w:World)(own:Nat->zn)(d:Nat)(R:z7)(c:List zX)(wd mr mx:Nat)(Q:xZ)(e:Ending)(w':World):Prop:=∃b a Ps,e=.returned b/\uk lo w' a wd b c Ps/\kC Q.tbs R.rows.length c Ps/\zW lo w' a d R wd mr mx Q/\QC lo uY w own w' a
theorem OJ(w:World)(own:Nat->zn)(rb s:Nat)(R:z7)(rv:Value)(rs:List zr)(ps:List (Value×Value×Value))(V:List zX)(wd mr mx:Nat)(Q:xZ)(j:Nat)(h:zW lo w own rb R wd mr mx Q)(hr:qF lo w rv rs ps)(au:lo<=w.heap.size)(p:wl R.rows.length rs)(hv:QZ j wd R s rs=some V):
  Calls prog 164 #[(π rb),rv,ι s] w fun e w'=>Mn lo w own rb R V wd mr mx Q e w':=by
 obtain⟨i0,hi,aH,aS,aI⟩:=info_parts Qp;have HH:=Q5 h;have aB:=Q5 hr;have aM:=Q5 au;have aF:=Q5 p;have a2:Hid (QZ j wd R s (rs.drop 0)=some V):=hv;have aY:=hr.few;obtain⟨bh,aU,aJ⟩:=zp hr.own;subst aJ;clear h hr au p hv;go_enter func164,ntmps164;go_upto_region 3 with fail
 go_loopw [7,13] (fun v7 aK wr=>∃m:Nat,m<=rs.length/\aK=ι m/\∃l rest c Ps,Hid (uk lo wr c wd v7 l Ps)/\Hid (kC Q.tbs R.rows.length l Ps)/\Hid (zW lo wr c rb R wd mr mx Q)/\Hid (QC lo uY w own wr c)/\Hid (QZ j wd R s (rs.drop m)=some rest)/\Hid (l++rest=V)/\Hid (l.length<=m)/\Hid (∀b,v7.ownBlock=some b->w.heap.size<=b)) (fun _ i _=>rs.length-(intOf i).toNat)
 case atStart=>exact⟨0,zv _,rfl,[],V,own,[],⟨yC _ _ _ _,rfl,fun k a=>by simp at a,by simp⟩,(fun k a=>by simp at a),HH,QC.refl _ _,a2,rfl,zg _,fun b z=>by cases z⟩
 case round=>
  clear a2;obtain⟨m,hm,rfl,l,rest,c,Ps,X,ab,Y,D,ax,ap,am,ao⟩:=hrel;have a9:=D.out.size;have aa:=yc aM.out a9;obtain⟨aG,a0,aN⟩:=zp X.out.arr;subst aN;by_cases K:m<rs.length
  ·have al:=Q5 (aB.out.mod D.out (lx (by decide) (by decide)) (lx (by decide) (by decide)) (lx (by decide) (by decide)));have ay:m<ps.length:=by rw[al.out.len];exact K
   obtain⟨g,aC,hg,q0,q1,q2,q3,q4,q5⟩:=al.out.cell m K ay;subst aC;have u:=al.out.rule m K ay;obtain⟨ah,I,ai⟩:=u.head.qx;obtain⟨aq,N,ae⟩:=u.qc.qx;obtain⟨ag,F,ad⟩:=u.qp.qx;rw[ai] at q3;rw[ae] at q4;rw[ad] at q5;rw[ai,ae,ad] at u;have d:=ax.out;rw[xp K] at d;unfold QZ at d;have aV:(m:Int)<(rs.length:Int):=by omega
   have p:=aF.out _ (zs K);clear ai ae ad;generalize rs[m]=r at *;by_cases aj:r.qh=s
   ·rw[zc aj] at d;subst aj;obtain⟨vs,n,av,Z,O⟩:∃vs n,gW j wd R r.qc=some vs/\QZ j wd R r.qh (rs.drop (m+1))=some n/\rest=⟨r,vs⟩::n:=by
     split at d
     ·rename_i vs n h1 h2;exact⟨vs,n,h1,h2,by simpa using d.symm⟩
     ·cases d
    have an:=Q5 Z;have aD:Hid ((l++[⟨r,vs⟩])++n=V):=show(l++[⟨r,vs⟩])++n=V by rw[←ap.out,O];simp
    have aA:Hid (∀W0,μ wr W0->Calls prog 192 #[(π rb),.agg #[ι r.qh,ι r.vars,ι r.head.pred,.slice ah r.head.qg.length I,.slice aq r.qc.length N,.slice ag r.qp.length F]] W0 fun e w'=>∃A U B C E L H S J M y o f,e=ε (.agg #[ι r.qh,ι r.vars,ι r.head.pred,.slice A r.head.qg.length U,.slice B r.qc.length C,.slice E r.qp.length L,.slice H vs.length S,.slice J r.qp.length M])/\Hid (ud lo w' f l.length wd ⟨r,vs⟩ ⟨.slice A r.head.qg.length U,.slice B r.qc.length C,.slice E r.qp.length L,.slice H vs.length S,.slice J r.qp.length M,y,o⟩/\dH Q.tbs R.rows.length r o/\QC lo (lg l.length) W0 c w' f)):=fun W0 z=>by
     refine(Hv W0 c rb l.length R r _ _ _ vs wd mr mx Q j (Y.out.below z) (u.below z) (yc aa z.size) p.1 p.2 av).mono ?_;rintro e w' ⟨⟨tv,pv,nv,vv,bb,y,o⟩,f,rfl,x,aL,aO⟩;obtain⟨A,U,e1⟩:=x.rule.head.qx;obtain⟨B,C,e2⟩:=x.rule.qc.qx;obtain⟨E,L,e3⟩:=x.rule.qp.qx;obtain⟨H,S,e4⟩:=zp x.qm;obtain⟨J,M,e5⟩:=zp x.qp;dsimp only at e1 e2 e3 e4 e5;subst e1 e2 e3 e4 e5;exact⟨A,U,B,C,E,L,H,S,J,M,y,o,f,rfl,x,aL,aO⟩
    have G:μ wr (wr.alloc (.cells #[ι r.qh,ι r.vars,ι r.head.pred,.slice ah r.head.qg.length I,.slice aq r.qc.length N,.slice ag r.qp.length F] 207)):=(by go_grown);have v:=Q5 G;have bd:l.length<=999:=by have:=am.out;omega
    clear d u G p O Z av;go_upto_region 7 with (go_at_call 192;refine(aA.out _ v.out).mono ?_;rintro e w5 ⟨A,U,B,C,E,L,H,S,J,M,y,o,f,rfl,HX⟩)
    have ak:μ w5 (w5.alloc (.cells #[ι r.qh,ι r.vars,ι r.head.pred,.slice A r.head.qg.length U,.slice B r.qc.length C,.slice E r.qp.length L,.slice H vs.length S,.slice J r.qp.length M] 292)):=(by go_grown);have az:=Q6.new w5 #[ι r.qh,ι r.vars,ι r.head.pred,.slice A r.head.qg.length U,.slice B r.qc.length C,.slice E r.qp.length L,.slice H vs.length S,.slice J r.qp.length M] 292;have a3:=(QC.of c v.out).trans HX.out.2.2;have T:=Q5 (a3.trans (QC.of f ak));have aT:=Q5 (HX.out.1.mod (QC.of (ok:=fun _ _=>False) f ak) (fun _=>id) (fun _=>id) id (fun _=>id) (fun _ _ _ _=>id));clear a3 ak;obtain⟨aZ,be,bc⟩:=az.boxed;generalize aE:w5.alloc (.cells #[ι r.qh,ι r.vars,ι r.head.pred,.slice A r.head.qg.length U,.slice B r.qc.length C,.slice E r.qp.length L,.slice H vs.length S,.slice J r.qp.length M] 292)=W6 at *;clear aE az;have af:=Q5 (X.out.make T.out);have ac:=af.out.arr;generalize w5.heap.size=ba at *;have aX:=yc aa T.out.size;go_wp2_with (at_builtin;refine kV W6 _ [ι r.qh,ι r.vars,ι r.head.pred,.slice A r.head.qg.length U,.slice B r.qc.length C,.slice E r.qp.length L,.slice H vs.length S,.slice J r.qp.length M] _ rfl (.tmp 24) (.tmp 26) 265 rfl lo 292 i0 _ 8 144 underlying265 hi aH aS aI rfl (by decide) (.slice aG l.length a0) l.length (gH l Ps) rfl ac (by exact(by go_grown)) _ _ rfl (by simp) rfl (by simp[Value.oneCell']) (by omega) (by omega) (by omega) ?_;intro v' w7 ar a8 a7;obtain⟨aW,aR,aw⟩:=zp ar;subst aw;have a5:Hid (ze _ W6 w7):=a8;have aP:Hid (_∨_):=a7;have aQ:Hid (World.ownsRow w7 lo 292 8 _ _ _):=ar;clear a8 a7 ar)
    have a4:=af.out.push (W:=⟨r,vs⟩) (P:=⟨.slice A r.head.qg.length U,.slice B r.qc.length C,.slice E r.qp.length L,.slice H vs.length S,.slice J r.qp.length M,y,o⟩) aT.out (by omega) aQ.out a5.out;have a1:=(Y.out.make T.out).mod a4.2 (kD (by decide)) (kD (by decide)) (kD (by decide)) (fun _=>kD (by decide) _) (fun _ t ht q=>by rw[xF.1 q] at ht;exact ht (by decide));have a6:=(D.out.trans (T.out.more fun _ _ q=>Mb q)).newer a5.out fun b z=>ao.out b (by simpa using z);have bf:=T.out.size;exact⟨⟨m+1,by omega,by go_num,l++[(⟨r,vs⟩:zX)],n,f,Ps++[(⟨.slice A r.head.qg.length U,.slice B r.qc.length C,.slice E r.qp.length L,.slice H vs.length S,.slice J r.qp.length M,y,o⟩:yV)],a4.1,ab.out.push af.out.plen HX.out.2.1,a1,a6,an,aD,show(l++[(⟨r,vs⟩:zX)]).length<=m+1 by have:=am.out;simp;omega,fun b z=>by
     rcases aP.out with e|⟨g',e,bi⟩
     ·rw[e] at z;exact ao.out b z
     ·rw[e] at z;simp at z;omega⟩,by simp[intOf];omega⟩
   ·rw[za aj] at d;have an:=Q5 d;have bg:¬(r.qh:Int)=(s:Int):=by omega
    have G:μ wr (wr.alloc (.cells #[ι r.qh,ι r.vars,ι r.head.pred,.slice ah r.head.qg.length I,.slice aq r.qc.length N,.slice ag r.qp.length F] 207)):=(by go_grown);have v:Hid (μ wr _):=G;clear d u G p;go_wp2;exact⟨⟨m+1,by omega,by go_num,l,rest,c,Ps,X.out.below v.out,ab,Y.out.below v.out,D.out.trans (QC.of c v.out),an,ap,Nat.le_succ_of_le am.out,ao⟩,by simp[intOf];omega⟩
  ·obtain rfl:m=rs.length:=by omega
   have d:=ax.out;rw[List.drop_length] at d;simp only[QZ,zt] at d;have HE:Hid (l=V):=show l=V by rw[←ap.out,←d];simp
   clear d;go_wp2;go_ret;exact⟨_,c,Ps,rfl,by rw[←HE.out];exact X.out,by rw[←HE.out];exact ab.out,Y.out,D.out⟩
end
section
open Go.Proofs.Tryz
variable {lo:Nat}
def MK(lo:Nat)(w:World)(own:Nat->zn)(f:Nat)(R R':z7)(wd mr mx:Nat)(Q:xZ)(b:Bool)(e:Ending)(w':World):Prop:=e=ε (.bool b)/\∃a d c,zW lo w' a f R' wd mr mx ⟨Q.rv,Q.tbs,d,c⟩/\R'.rows.length=R.rows.length/\QC lo uY w own w' a
theorem FL(w:World)(own:Nat->zn)(M s:Nat)(R R':z7)(rv:Value)(rs:List zr)(ps:List (Value×Value×Value))(wd mr mx:Nat)(Q:xZ)(f:Nat)(b:Bool)(h:zW lo w own M R wd mr mx Q)(hr:qF lo w rv rs ps)(E:lo<=w.heap.size)(O:wl R.rows.length rs)(c:nS f wd mr mx rs R s=some (R',b)):
  Calls prog 122 #[(π M),rv,ι s] w fun e w'=>MK lo w own M R R' wd mr mx Q b e w':=by
 unfold nS at c;cases A:QZ f wd R s rs with
 |none=>rw[A] at c;cases c
 |some G=>
  rw[A] at c;have ad:=Q5 (OJ w own M s R rv rs ps G wd mr mx Q f h hr E O A);have ah:=Q5 E;have ak:=h.small;obtain⟨an,aj,ag⟩:=zp hr.own;subst ag;have N:Hid (if decide (0<G.length)=true then kR wd mr mx f true G R=some (R',b) else(R=R'/\true=b)):=by
   by_cases hz:G.length>0
   ·rw[Hid,zc (by simpa using hz)];simpa [hz] using c
   ·rw[Hid,za (by simpa using hz)];simpa [hz] using c
  clear h hr E O A c;go_enter func122,ntmps122;go_upto_region 4 with (go_at_call 164;refine ad.out.mono ?_;rintro e w2 ⟨wv,Z,Ps,rfl,K,X,W,Y⟩;obtain⟨af,P,ai⟩:=zp K.arr;subst ai;have z:=Q5 K;have t:=Q5 X;have i:=Q5 W;have g:=Q5 Y;clear K X W Y)
  go_loopg [8,9] f (fun k v8 v9 wr=>∃(first more:Bool) (d:z7) (a:Nat->zn) (B:Value) (u:List Value) (F:List zX) (Pk:List yV),v8=.bool first/\v9=.bool more/\Hid (zW lo wr a M d wd mr mx ⟨Q.rv,Q.tbs,B,u⟩)/\Hid (uk lo wr a wd (.slice af G.length P) F Pk)/\Hid (kC Q.tbs R.rows.length F Pk)/\Hid (QC lo uY w own wr a)/\Hid (d.rows.length=R.rows.length)/\Hid (if more=true then kR wd mr mx k first F d=some (R',b) else(d=R'/\true=b)))
  case atStart=>
   exact⟨true,decide (0<G.length),R,Z,Q.fv,Q.fvs,G,Ps,rfl,rfl,i,z,t,g,rfl,N⟩
  case round=>
   clear z t i g N;obtain⟨first,more,d,a,B,u,F,Pk,rfl,rfl,i,z,t,g,o,N⟩:=hrel;cases more with
   |false=>
    have c:d=R'/\true=b:=by simpa using N.out
    have n:=Q5 c;clear c;go_wp2;go_ret;exact⟨by rw[←n.out.2];rfl,a,B,u,by rw[←n.out.1];exact i.out,by rw[←n.out.1];exact o.out,g.out⟩
   |true=>
    have c:kR wd mr mx gk first F d=some (R',b):=by simpa using N.out
    clear N;cases gk with
    |zero=>simp[kR] at c
    |succ m=>
     unfold kR at c;obtain⟨hl,hf,h0,h1,h2,h3,h4,h5,h6,h7⟩:=i.out.at;have aa:=yc ah.out g.out.size;clear h0 h3 h4 h5 h7;by_cases U:d.qw≥mx
     ·rw[zc U] at c;have n:=Q5 (show d=R'/\false=b by simpa using c);have ac:(mx:Int)<=(d.qw:Int):=by omega
      clear c;go_upto_region 5 with fail
      go_quiet (fail)
      have J:μ wr (wr.drewN nq):=zJ (zo _ _) nq;have L:=Q5 J;clear J;generalize wr.drewN nq=w3 at *;go_wp2;go_ret;exact⟨by rw[←n.out.2];rfl,a,B,u,by rw[←n.out.1];exact i.out.below L.out,by rw[←n.out.1];exact o.out,g.out.trans (QC.of a L.out)⟩
     ·rw[za U] at c;have ac:¬(mx:Int)<=(d.qw:Int):=by omega
      cases C:nE m wd mr first F d with
      |none=>rw[C] at c;cases c
      |some x=>
       obtain⟨p,v,b3⟩:=x;rw[C] at c;have V:=Q5 fun W0 hb=>GZ W0 a M _ d p F v Pk wd mr mx _ m first b3 (i.out.below hb) (z.out.below hb) (by rw[o.out];exact t.out) (yc aa hb.size) (by omega) C
       clear C;have D:Hid ((b3=false->p=R'/\false=b)/\(b3=true->(if p.count>d.count then kR wd mr mx m false v p else some (p,true))=some (R',b))):=⟨fun e=>by subst e;simpa using c,fun e=>by subst e;exact c⟩;clear c;go_upto_region 5 with fail
       go_quiet (fail)
       have J:μ wr (wr.drewN nq):=zJ (zo _ _) nq;have x1:=zl J hl h1;have L:=Q5 J;have am:=xP hl J.size;clear J;generalize wr.drewN nq=w3 at *;clear h1 h2 h6 hf hl;cases b3 with
       |false=>
        have n:=Q5 (D.out.1 rfl);go_wp2_with (go_at_call 165;refine(V.out _ L.out).mono ?_;rintro e w4 ⟨rfl,l,y,j,S,r,T,ab,H,I⟩)
        go_ret;exact⟨by rw[←n.out.2];rfl,l,y,j,by rw[←n.out.1];exact r,by rw[←n.out.1];exact H.trans o.out,(g.out.trans (QC.of a L.out)).trans I⟩
       |true=>
        have n:Hid (if decide (d.count<p.count)=true then kR wd mr mx m false v p=some (R',b) else(p=R'/\true=b)):=by
         have q:=D.out.2 rfl;by_cases hc:p.count>d.count
         ·rw[Hid,zc (by simpa using hc)];simpa [hc] using q
         ·rw[Hid,za (by simpa using hc)];simpa [hc] using q
        clear D;go_wp2_with (go_at_call 165;refine(V.out _ L.out).mono ?_;rintro e w4 ⟨rfl,l,y,j,S,r,T,ab,H,I⟩;obtain⟨al,_,_,y1,_⟩:=r.at;have ae:Hid (zW lo w4 l M p wd mr mx ⟨Q.rv,Q.tbs,y,j⟩):=r;clear r)
        go_roundg m
        case measure=>omega
        case rel=>exact⟨false,decide (d.count<p.count),p,l,y,j,v,S,rfl,by simp,ae,T,by rw[←o.out];exact ab,(g.out.trans (QC.of a L.out)).trans I,H.trans o.out,n⟩
end
section
open Go.Proofs.Tryz
variable {lo:Nat}{w0 w:World}{own0:Nat->zn}{t8 wd mr mx:Nat}{ar tbs:List Nat}
structure fe (lo:Nat) (w0 w:World) (own0 own:Nat->zn) (t8 g n wd mr mx:Nat) (ar:List Nat) (tbs:List Nat):Prop where
 low:w0.heap.size<=t8
 lowg:w0.heap.size<=g
 ne:t8≠g
 box:Q6 w t8 #[.slice (some ⟨g,0,none⟩) n n,ι 0,ι 0,ι 0,ι wd,ι mr,ι mx,ν] 214
 rows:w.ownsRow lo 162 1 (.slice (some ⟨g,0,none⟩) n n) n (QQ tbs++List.replicate (n-tbs.length) (.pointer none))
 tries:∀i (_:i<ar.length) (_:i<tbs.length),yQ lo w own (0,i,0) tbs[i] (yS wd ar[i])
 mod:QC lo uY w0 own0 w own
def AS:TypeId->zn->Prop:=fun _ _=>False
theorem fe.step{w':World}{own c:Nat->zn}{g n:Nat}(h:fe lo w0 w own0 own t8 g n wd mr mx ar tbs)(m:QC lo AS w own w' c):fe lo w0 w' own0 c t8 g n wd mr mx ar tbs:=
 ⟨h.low,h.lowg,h.ne,h.box.mod m id,vG h.rows m (fun _=>id),fun i a b=>(h.tries i a b).mod m (fun _ _=>id),h.mod.trans (m.more fun _ _ q=>q.elim)⟩
theorem fe.push{w':World}{own:Nat->zn}{g n tb:Nat}{fp:List Nat}(h:fe lo w0 w own0 own t8 g n wd mr mx ar tbs)(m:lo<=w.heap.size)(x:tbs.length<n)(s:zY w.heap.size w' tb (yS wd (ar.getD tbs.length 0)) fp)(d:μ w w'):
  fe lo w0 (w'.setCell ⟨g,tbs.length,none⟩ ((π tb))) own0 (ext own w.heap.size (0,tbs.length,0)) t8 g n wd mr mx ar (tbs++[tb]):=by
 have r:=QC.extNew (lo:=lo) (ok:=AS) own (0,tbs.length,0) d;have c:=h.step r;have f:ze [g] w' (w'.setCell ⟨g,tbs.length,none⟩ ((π tb))):=ze.set _ _ _ _;obtain⟨v,j⟩:=uW c.rows rfl;have l:=QS.box j;refine⟨h.low,h.lowg,h.ne,c.box.saveT f l (by decide),?_,fun i a b=>?_,c.mod.newer f fun b d=>by simp at d;rw[d];exact h.lowg⟩
 ·have q:=uZ c.rows tbs.length (by simp[QQ];omega) ((π tb));have e:(QQ tbs++List.replicate (n-tbs.length) (Value.pointer none)).set tbs.length ((π tb))=QQ (tbs++[tb])++List.replicate (n-(tbs++[tb]).length) (Value.pointer none):=by
   obtain⟨k,u⟩:∃k,n-tbs.length=k+1:=⟨n-tbs.length-1,by omega⟩;rw[List.set_append,za (by simp[QQ]),u,rA];have t:n-(tbs++[tb]).length=k:=by simp;omega
   rw[t];simp[QQ,pt]
  rw[e] at q;exact q
 ·simp only[yp,xd,dD] at b;by_cases o:i<tbs.length
  ·rw[vq o];exact(c.tries i a o).saveT f l (by decide)
  ·obtain rfl:i=tbs.length:=by omega
   have p:(tbs++[tb])[tbs.length]=tb:=by simp
   rw[p];have q:=s.new own (0,tbs.length,0) m;rw[show ar.getD tbs.length 0=ar[tbs.length] by simp[List.getD,a]] at q;exact q.saveT f l (by decide)
theorem fe.done{own:Nat->zn}{g:Nat}(h:fe lo w0 w own0 own t8 g ar.length wd mr mx ar tbs)(d:lo<=w0.heap.size)(c:tbs.length=ar.length)(hs:ar.length<=1000)(e:wd<=1000/\mr<=1048576/\mx<=1048576):zW lo w own t8 ⟨ar.map (yS wd),0,0,0,[]⟩ wd mr mx ⟨.slice (some ⟨g,0,none⟩) ar.length ar.length,tbs,ν,[]⟩:=by
 refine⟨yc d h.low,h.box,?_,by simp[c],fun p a b=>?_,yC _ _ _ _,rfl,fun p a=>by simp at a,⟨by simpa using hs,by simp,by simp,by simp⟩,e⟩
 ·have q:=h.rows;rw[c,jX] at q;simpa using q
 ·simp only[uu] at a;simp only[uM];exact h.tries p a b
def LG(lo:Nat)(w:World)(own:Nat->zn)(wd mr mx:Nat)(b:Option z7)(e:Ending)(w':World):Prop:=match b with
 |none=>e=ε (.tuple #[.agg #[ν,ι 0,ι 0,ι 0],.bool false])/\∃a,QC lo uY w own w' a
 |some R=>∃a c Q,e=ε (.tuple #[.agg #[Q.rv,ι R.count,ι R.qw,ι R.jf],.bool true])/\zW lo w' a c R wd mr mx Q/\QC lo uY w own w' a
def kS:Nat->zn:=fun _=>(0,0,7)
theorem Su(w:World)(S:jw)(ps:List (Value×Value×Value))(av fv rv:Value)(mr mx E:Nat)(T:Option z7)(h:gJ lo w av fv rv S ps)(aI:lo<=w.heap.size)(aN:wl S.qj.length S.rules)(b5:S.qj.length<=1000)(a5:∀a∈S.qj,a<=100000000)(N:∀f∈S.facts,f.row.length=3)(bM:S.facts.length<=1000000)(aS:S.qf<=1000/\mr<=1048576/\mx<=1048576)(hr:m5 E S mr mx=some T):
  Calls prog 74 #[.agg #[ι S.qf,av,fv,rv],ι mr,ι mx] w fun e w'=>LG lo w kS S.qf mr mx T e w':=by
 obtain⟨i0,hi,bz,bH,b0⟩:=info_parts PV;have HS:=Q5 h;have ad:=Q5 aI;have bu:=Q5 aN;have bD:=Q5 a5;have bt:=Q5 N;have HR:=Q5 hr;obtain⟨B,d,b6⟩:=zp h.ari;obtain⟨H,j,bw⟩:=zp h.fac;obtain⟨D,k,b8⟩:=zp h.rul.own;subst b6 bw b8;have bP:=h.rul.few;have aM:=fun W0:World=>run_make (P:=prog) (w:=W0) 150 162 i0 _ underlying150 hi bz .i64 .i64 (S.qj.length:Int) (S.qj.length:Int) (by omega) (Int.le_refl _) (by rw[b0];omega) (by omega);rw[bH] at aM;clear h aI aN a5 N hr;go_enter func74,ntmps74;go_upto_region 4 with fail
 have aU:μ w ((((w.alloc (.cells #[ι S.qf,.slice B S.qj.length d,.slice H S.facts.length j,.slice D S.rules.length k] 146)).alloc (.cells #[ν,ι 0,ι 0,ι 0] 152)).alloc (.cells #[.slice (some ⟨w.heap.size+1+1+1,0,none⟩) S.qj.length S.qj.length,ι 0,ι 0,ι 0,ι S.qf,ι mr,ι mx,ν] 214)).alloc (.cells (madeCells #[.pointer none] S.qj.length) 162)):=(by go_grown);have bk:=(((Q6.new w #[ι S.qf,.slice B S.qj.length d,.slice H S.facts.length j,.slice D S.rules.length k] 146).up (.cells #[ν,ι 0,ι 0,ι 0] 152)).up (.cells #[.slice (some ⟨w.heap.size+1+1+1,0,none⟩) S.qj.length S.qj.length,ι 0,ι 0,ι 0,ι S.qf,ι mr,ι mx,ν] 214)).up (.cells (madeCells #[.pointer none] S.qj.length) 162);have aK:=(((Q6.new (w.alloc (.cells #[ι S.qf,.slice B S.qj.length d,.slice H S.facts.length j,.slice D S.rules.length k] 146)) #[ν,ι 0,ι 0,ι 0] 152).up (.cells #[.slice (some ⟨w.heap.size+1+1+1,0,none⟩) S.qj.length S.qj.length,ι 0,ι 0,ι 0,ι S.qf,ι mr,ι mx,ν] 214)).up (.cells (madeCells #[.pointer none] S.qj.length) 162)).at' (b':=w.heap.size+1) (by simp);have bm:=((Q6.new ((w.alloc (.cells #[ι S.qf,.slice B S.qj.length d,.slice H S.facts.length j,.slice D S.rules.length k] 146)).alloc (.cells #[ν,ι 0,ι 0,ι 0] 152)) #[.slice (some ⟨w.heap.size+1+1+1,0,none⟩) S.qj.length S.qj.length,ι 0,ι 0,ι 0,ι S.qf,ι mr,ι mx,ν] 214).up (.cells (madeCells #[.pointer none] S.qj.length) 162)).at' (b':=w.heap.size+1+1) (by simp);have ab:=se (((w.alloc (.cells #[ι S.qf,.slice B S.qj.length d,.slice H S.facts.length j,.slice D S.rules.length k] 146)).alloc (.cells #[ν,ι 0,ι 0,ι 0] 152)).alloc (.cells #[.slice (some ⟨w.heap.size+1+1+1,0,none⟩) S.qj.length S.qj.length,ι 0,ι 0,ι 0,ι S.qf,ι mr,ι mx,ν] 214)) S.qj.length 162 (.pointer none) (by unfold maxLen;omega);have bb:(((w.alloc (.cells #[ι S.qf,.slice B S.qj.length d,.slice H S.facts.length j,.slice D S.rules.length k] 146)).alloc (.cells #[ν,ι 0,ι 0,ι 0] 152)).alloc (.cells #[.slice (some ⟨w.heap.size+1+1+1,0,none⟩) S.qj.length S.qj.length,ι 0,ι 0,ι 0,ι S.qf,ι mr,ι mx,ν] 214)).heap.size=w.heap.size+1+1+1:=by simp
 rw[bb] at ab;have aw:Hid (fe lo w ((((w.alloc (.cells #[ι S.qf,.slice B S.qj.length d,.slice H S.facts.length j,.slice D S.rules.length k] 146)).alloc (.cells #[ν,ι 0,ι 0,ι 0] 152)).alloc (.cells #[.slice (some ⟨w.heap.size+1+1+1,0,none⟩) S.qj.length S.qj.length,ι 0,ι 0,ι 0,ι S.qf,ι mr,ι mx,ν] 214)).alloc (.cells (madeCells #[.pointer none] S.qj.length) 162)) kS kS (w.heap.size+1+1) (w.heap.size+1+1+1) S.qj.length S.qf mr mx S.qj []):=⟨by omega,by omega,by omega,bm,yr ab (by have:=ad.out;omega),(fun i a b=>by simp at b),QC.of kS aU⟩;have s:=Q5 bk;have u:=Q5 aK;clear aU bk aK bm ab bb aM;generalize ((((w.alloc (.cells #[ι S.qf,.slice B S.qj.length d,.slice H S.facts.length j,.slice D S.rules.length k] 146)).alloc (.cells #[ν,ι 0,ι 0,ι 0] 152)).alloc (.cells #[.slice (some ⟨w.heap.size+1+1+1,0,none⟩) S.qj.length S.qj.length,ι 0,ι 0,ι 0,ι S.qf,ι mr,ι mx,ν] 214)).alloc (.cells (madeCells #[.pointer none] S.qj.length) 162))=w1 at *;generalize hg:w.heap.size+1+1+1=g at *;generalize h8:w.heap.size+1+1=t8 at *;generalize h6:w.heap.size+1=t6 at *;have bF:t6≠t8:=by omega
 have bN:w.heap.size<t6:=by omega
 have bL:t8<g:=by omega
 have bO:t6<g:=by omega
 clear hg h8 h6;go_loopw [28] (fun bI wr=>∃m:Nat,m<=S.qj.length/\bI=ι m/\∃l tbs,Hid (fe lo w wr kS l t8 g S.qj.length S.qf mr mx S.qj tbs)/\Hid (tbs.length=m)/\Hid (Q6 wr w.heap.size #[ι S.qf,.slice B S.qj.length d,.slice H S.facts.length j,.slice D S.rules.length k] 146)/\Hid (Q6 wr t6 #[ν,ι 0,ι 0,ι 0] 152)) (fun i _=>S.qj.length-(intOf i).toNat)
 case atStart=>exact⟨0,zv _,rfl,kS,[],aw,rfl,s,u⟩
 case round=>
  clear aw s u;obtain⟨m,hm,rfl,l,tbs,W,aA,s,u⟩:=hrel;have K:=W.out.mod.size;have G:=yc ad.out K;by_cases M:m<S.qj.length
  ·have a4:wr.ownsRow lo 3 1 (.slice B S.qj.length d) S.qj.length (S.qj.map Rj):=pY HS.out.ari W.out.mod (fun b _ q=>by
    rcases q with q|q
    ·exact q.2 rfl
    ·revert q;decide)
   obtain⟨ga,b9,X,_,bR,aZ⟩:=yv a4 (by omega);simp only[Value.slice.injEq] at X;have aF:=X.1;clear X;subst aF;have q0:=aZ m (ι (S.qj[m]:Nat)) (by simp[M,Rj]);have b4:S.qj[m]<=100000000:=bD.out _ (zs _);obtain⟨bq,bg,bf⟩:=W.out.box.boxed;obtain⟨V,N,Z⟩:=s.out.boxed;have ax:(m:Int)<(S.qj.length:Int):=by omega
   have HN:Hid (∀W0,μ wr W0->Calls prog 119 #[ι S.qf,ι (S.qj[m]:Nat)] W0 fun e w'=>∃tb,e=ε ((π tb))/\w'.cell? ⟨t8,0,none⟩=some (.slice (some ⟨g,0,none⟩) S.qj.length S.qj.length)/\w'.cell? ⟨w.heap.size,0,none⟩=some (ι S.qf)/\w'.cell? ⟨g,m,none⟩=some (.pointer none)/\(∀o,w'.frozen? ⟨g,o,none⟩=false)/\g<w'.heap.size/\Hid (μ wr w'/\∃al,fe lo w (w'.setCell ⟨g,m,none⟩ ((π tb))) kS al t8 g S.qj.length S.qf mr mx S.qj (tbs++[tb]))):=fun W0 Y=>by
    refine(e7 W0 S.qf S.qj[m] aS.1 b4).mono ?_;rintro e w' ⟨tb,fp,rfl,ht,aL⟩;have hB:=Q9 Y aL;have h0:=W.out.step (QC.of l Y);have h1:=W.out.step (QC.of l hB);have aH:=aA.out;have hp:=h0.push (tb:=tb) (fp:=fp) (yc G Y.size) (by omega) (by rw[aH,show S.qj.getD m 0=S.qj[m] by simp[List.getD,M]];exact ht) aL;rw[aH] at hp;refine⟨tb,rfl,h1.box.rules.1 0,(hB.cell Z).trans (V 0),?_,qT h1.rows,xK h1.rows rfl,hB,_,hp⟩;obtain⟨g',bK,be,_,_,bE⟩:=yv h1.rows (by omega);simp only[Value.slice.injEq,zt,Addr.mk.injEq,and_true] at be;have e:=be.1;subst e;refine bE m _ ?_;rw[gX (by simp[QQ,aH]),List.getElem?_replicate,zc (by simp only[QQ,uu];omega)]
   have x8:wr.cell? ⟨t8,0,none⟩=some (.slice (some ⟨g,0,none⟩) S.qj.length S.qj.length):=bq 0;have x3:wr.cell? ⟨w.heap.size,0,none⟩=some (ι S.qf):=V 0;clear bq V aZ a4;generalize S.qj[m]=am at *;go_upto_region 6 with fail
   go_region_held3 (fun w'=>w'.cell? ⟨t8,0,none⟩=some (.slice (some ⟨g,0,none⟩) S.qj.length S.qj.length)/\w'.cell? ⟨w.heap.size,0,none⟩=some (ι S.qf)) (first|go_keep|(go_simp;done)) (go_at_call 119;refine(HN.out _ (by exact(zJ (zo _ _) 1))).mono ?_;rintro e w2 ⟨tb,rfl,y8,y3,yg,yf,yl,HX⟩)
   have aC:=HX.out.1;obtain⟨al,bc⟩:=HX.out.2;have bB:=Q5 bc;have aR:Hid (Q6 (w2.setCell ⟨g,m,none⟩ ((π tb))) w.heap.size _ 146):=(s.out.below aC).set_ne (by omega) _ _;have aW:Hid (Q6 (w2.setCell ⟨g,m,none⟩ ((π tb))) t6 _ 152):=(u.out.below aC).set_ne (by omega) _ _;clear aC bc HX y8 y3 yg yf yl HN x8 x3 bg bf N Z q0;generalize w2.setCell ⟨g,m,none⟩ ((π tb))=W3 at *;go_wp2;exact⟨⟨m+1,by omega,by go_num,al,tbs++[tb],bB,show(tbs++[tb]).length=m+1 by simp[aA.out],aR,aW⟩,by simp[intOf];omega⟩
  ·obtain rfl:m=S.qj.length:=by omega
   have a1:=Q5 (W.out.done ad.out aA.out b5 aS);have a3:=Q5 W.out.mod;have aO:=Q5 (RG wr l t8 _ S.qf mr mx _ a1.out G);clear W M hm;go_upto_region 9 with (go_at_call 120;refine aO.out.mono ?_;rintro e w2 ⟨rfl,aT,au,bd,aq⟩)
   have ao:=Q5 (s.out.mod aq (kD (by decide) _));have a7:Hid (Q6 w2 t6 _ 152):=u.out.mod aq (kD (by decide) _);have a0:Hid (zW lo w2 l t8 (ft S) S.qf mr mx ⟨.slice (some ⟨g,0,none⟩) S.qj.length S.qj.length,tbs,aT,au⟩):=bd;have a8:=Q5 (a3.out.trans (aq.more fun _ _ q=>DS q));clear s u a1 a3 aO bd aq K G;obtain⟨R1,b1,hF,hE⟩:∃R1 b1,kM mr S.facts (ft S)=some (R1,b1)/\(b1=false/\T=none∨b1=true/\∃R2 b2,ku E S.qf mr mx S.rules S.qj.length 0 R1=some (R2,b2)/\T=if b2 then some R2 else none):=by
    have hr:=HR.out;unfold m5 at hr;split at hr
    ·cases hr
    ·rename_i R1 hA;simp at hr;exact⟨R1,false,hA,zf ⟨rfl,hr.symm⟩⟩
    ·rename_i R1 hA;rw[vN] at hr;obtain⟨⟨R2,b2⟩,h1,h2⟩:=hr;exact⟨R1,true,hA,zb ⟨rfl,R2,b2,h1,h2.symm⟩⟩
   have HE:=Q5 hE;have bp:Hid (kM mr (S.facts.drop 0) (ft S)=some (R1,b1)):=hF;clear hE hF;obtain⟨V,N,Z⟩:=ao.out.boxed;go_upto_region 10 with fail
   clear V N Z;generalize bC:w2=w5 at *;clear bC;have bo:=Q5 (show(ft S).rows.length=S.qj.length by simp[ft,qs]);go_loopw [47] (fun bJ wr=>∃m:Nat,m<=S.facts.length/\bJ=ι m/\∃Rk l ac af,Hid (zW lo wr l t8 Rk S.qf mr mx ⟨.slice (some ⟨g,0,none⟩) S.qj.length S.qj.length,tbs,ac,af⟩)/\Hid (QC lo uY w kS wr l)/\Hid (Rk.rows.length=S.qj.length)/\Hid (Q6 wr w.heap.size #[ι S.qf,.slice B S.qj.length d,.slice H S.facts.length j,.slice D S.rules.length k] 146)/\Hid (Q6 wr t6 #[ν,ι 0,ι 0,ι 0] 152)/\Hid (kM mr (S.facts.drop m) Rk=some (R1,b1))) (fun i _=>S.facts.length-(intOf i).toNat)
   case atStart=>exact⟨0,zv _,rfl,ft S,l,aT,au,a0,a8,bo,ao,a7,bp⟩
   case round=>
    clear a0 a8 bo ao a7 bp;obtain⟨m,hm,rfl,Rk,Q,ac,af,aa,L,ae,s,u,aE⟩:=hrel;have K:=L.out.size;have G:=yc ad.out K;by_cases M:m<S.facts.length
    ·have a6:=vG HS.out.fac L.out (lx (by decide) (by decide));obtain⟨gf,bv,X,_,bS,ag⟩:=yv a6 (by omega);simp only[Value.slice.injEq] at X;have aF:=X.1;clear X;subst aF;obtain⟨k0,k1,k2,k3⟩:=CH S.facts m M;have q0:=ag _ _ k0;have q1:=ag _ _ k1;have q2:=ag _ _ k2;have q3:=ag _ _ k3;have n:=aE.out;rw[xp M] at n;unfold kM at n;have h3:=bt.out _ (zs M);obtain⟨x,y,z,a2⟩:∃x y z,S.facts[m].row=[x,y,z]:=by
      match ab:S.facts[m].row,h3 with
      |[x,y,z],_=>exact⟨x,y,z,rfl⟩
     rw[a2] at q1 q2 q3 n;simp only[List.getD_cons_zero,List.getD_cons_succ] at q1 q2 q3;have ax:(m:Int)<(S.facts.length:Int):=by omega
     clear h3 k0 k1 k2 k3 ag a6 a2;generalize S.facts[m].pred=p at *;cases ha:addR mr Rk p [x,y,z] with
     |none=>rw[ha] at n;cases n
     |some ar=>
      obtain⟨R3,b3⟩:=ar;rw[ha] at n;have b7:=Q5 ((ii ha).trans ae.out);have aP:=Q5 fun W0 Y=>Dh W0 Q t8 Rk R3 S.qf mr mx _ p x y z b3 (aa.out.below Y) (yc G Y.size) ha;have aX:μ wr (wr.alloc (.cells #[ι p,ι x,ι y,ι z] 210)):=(by go_grown);have a9:=Q5 aX;have an:Hid (∀O c,QC lo (fJ p) (wr.alloc (.cells #[ι p,ι x,ι y,ι z] 210)) Q O c->QC lo uY w kS O c/\Q6 O w.heap.size #[ι S.qf,.slice B S.qj.length d,.slice (some ⟨gf,0,none⟩) S.facts.length j,.slice D S.rules.length k] 146/\Q6 O t6 #[ν,ι 0,ι 0,ι 0] 152):=fun O c C=>by
       have aG:QC lo (kg p) wr Q O c:=(QC.of Q a9.out).trans (C.more fun _ _ q=>zf q);exact⟨L.out.trans (aG.more fun _ _ q=>oS q),s.out.mod aG (nc (by decide) (by decide) _),u.out.mod aG (nc (by decide) (by decide) _)⟩
      clear ha aX;cases b3 with
      |false=>
       simp only[zt,ya] at n;have HQ:=Q5 n.2;clear n;go_wp2_with (go_at_call 121;refine(aP.out _ a9.out).mono ?_;rintro e O ⟨rfl,c,R,U,C⟩;obtain⟨J,_,I⟩:=an.out _ _ C;obtain⟨ai,bi,aD⟩:=I.boxed)
       have A:T=none:=by
        have hE:=HE.out;rw[←HQ.out] at hE;rcases hE with⟨_,hE⟩|⟨hx,_⟩
        ·exact hE
        ·cases hx
       have ak:Hid (QC lo uY w kS _ c):=J.newer (ze.sets t6 [ν,ι 0,ι 0,ι 0] 0 O) (fun b Y=>by simp at Y;omega);refine zL (v:=.tuple #[.agg #[ν,ι 0,ι 0,ι 0],.bool false]) (by simp[results,results74,go_sem,ai]) rfl ?_;rw[A];exact⟨rfl,c,ak.out⟩
      |true=>
       have HQ:Hid (kM mr (S.facts.drop (m+1)) R3=some (R1,b1)):=n;clear n;go_wp2_with (go_at_call 121;refine(aP.out _ a9.out).mono ?_;rintro e O ⟨rfl,c,R,U,C⟩)
       obtain⟨J,aj,I⟩:=an.out _ _ C;exact⟨⟨m+1,by omega,by go_num,R3,c,ac,R,U,J,b7,aj,I,HQ⟩,by simp[intOf];omega⟩
    ·obtain rfl:m=S.facts.length:=by omega
     have n:=aE.out;rw[List.drop_length] at n;simp only[kM,zt,ya] at n;obtain⟨R2,b2,aY,A⟩:∃R2 b2,ku E S.qf mr mx S.rules S.qj.length 0 Rk=some (R2,b2)/\T=if b2 then some R2 else none:=by
      have hE:=HE.out;rw[←n.2,←n.1] at hE;rcases hE with⟨hx,_⟩|⟨_,hE⟩
      ·cases hx
      ·exact hE
     have az:Hid (ku E S.qf mr mx S.rules (S.qj.length-0) 0 Rk=some (R2,b2)):=aY;have ah:=Q5 A;clear n aY A aE HE M hm K G;obtain⟨V,N,Z⟩:=s.out.boxed;go_upto_region 16 with fail
     clear V N Z;generalize bs:wr=w6 at *;clear bs;go_loopw [62] (fun bx wr=>∃m:Nat,m<=S.qj.length/\bx=ι m/\∃Rk l ac af,Hid (zW lo wr l t8 Rk S.qf mr mx ⟨.slice (some ⟨g,0,none⟩) S.qj.length S.qj.length,tbs,ac,af⟩)/\Hid (QC lo uY w kS wr l)/\Hid (Rk.rows.length=S.qj.length)/\Hid (Q6 wr w.heap.size #[ι S.qf,.slice B S.qj.length d,.slice H S.facts.length j,.slice D S.rules.length k] 146)/\Hid (Q6 wr t6 #[ν,ι 0,ι 0,ι 0] 152)/\Hid (ku E S.qf mr mx S.rules (S.qj.length-m) m Rk=some (R2,b2))) (fun i _=>S.qj.length-(intOf i).toNat)
     case atStart=>exact⟨0,zv _,rfl,Rk,Q,ac,af,aa,L,ae,s,u,az⟩
     case round=>
      clear aa L ae s u az;obtain⟨m,hm,rfl,Ri,F,bn,aV,aa,L,ae,s,u,bh⟩:=hrel;have K:=L.out.size;have G:=yc ad.out K;by_cases M:m<S.qj.length
      ·have r:=bh.out;rw[show S.qj.length-m=(S.qj.length-(m+1))+1 from by omega] at r;unfold ku at r;cases ap:nS E S.qf mr mx S.rules Ri m with
       |none=>rw[ap] at r;cases r
       |some ar=>
        obtain⟨R3,b3⟩:=ar;rw[ap] at r;have aJ:=HS.out.rul.mod L.out (lx (by decide) (by decide)) (lx (by decide) (by decide)) (lx (by decide) (by decide));have ba:=Q5 (FL wr F t8 m Ri R3 _ S.rules ps S.qf mr mx _ E b3 aa.out aJ G (by rw[ae.out];exact bu.out) ap);have an:Hid (∀O c,QC lo uY wr F O c->QC lo uY w kS O c/\Q6 O w.heap.size #[ι S.qf,.slice B S.qj.length d,.slice H S.facts.length j,.slice D S.rules.length k] 146/\Q6 O t6 #[ν,ι 0,ι 0,ι 0] 152):=fun O c C=>⟨L.out.trans C,s.out.mod C (lx (by decide) (by decide) _),u.out.mod C (lx (by decide) (by decide) _)⟩;obtain⟨V,N,Z⟩:=s.out.boxed;have ax:(m:Int)<(S.qj.length:Int):=by omega
        clear ap aJ;cases b3 with
        |false=>
         simp only[zt,ya] at r;have HQ:=Q5 r.2;clear r;go_wp2_with (go_at_call 122;refine ba.out.mono ?_;rintro e O ⟨rfl,c,aQ,R,U,ay,C⟩;obtain⟨J,_,I⟩:=an.out _ _ C;obtain⟨ai,bi,aD⟩:=I.boxed)
         have A:T=none:=by rw[ah.out,←HQ.out];rfl
         have ak:Hid (QC lo uY w kS _ c):=J.newer (ze.sets t6 [ν,ι 0,ι 0,ι 0] 0 O) (fun b Y=>by simp at Y;omega);refine zL (v:=.tuple #[.agg #[ν,ι 0,ι 0,ι 0],.bool false]) (by simp[results,results74,go_sem,ai]) rfl ?_;rw[A];exact⟨rfl,c,ak.out⟩
        |true=>
         have HQ:Hid (ku E S.qf mr mx S.rules (S.qj.length-(m+1)) (m+1) R3=some (R2,b2)):=r;clear r;go_wp2_with (go_at_call 122;refine ba.out.mono ?_;rintro e O ⟨rfl,c,aQ,R,U,ay,C⟩)
         obtain⟨J,aj,I⟩:=an.out _ _ C;exact⟨⟨m+1,by omega,by go_num,R3,c,aQ,R,U,J,ay.trans ae.out,aj,I,HQ⟩,by simp[intOf];omega⟩
      ·obtain rfl:m=S.qj.length:=by omega
       have r:=bh.out;rw[jX] at r;simp only[ku,zt,ya] at r;have A:T=some Ri:=by rw[ah.out,←r.2,←r.1];rfl
       have bG:=Q5 A;clear r A ah;obtain⟨bf,bg,d0,d1,d2,d3,d4,d5,d6,d7⟩:=aa.out.at;obtain⟨ai,bi,aD⟩:=u.out.boxed;dsimp only at d0;clear d4 d5 d6 d7;have bQ:t8≠t6:=fun e=>bF e.symm;go_wp2;have aB:=ze.sets t6 [.slice (some ⟨g,0,none⟩) S.qj.length S.qj.length,ι Ri.count,ι Ri.qw,ι Ri.jf] 0 wr;have br:QC lo (gd [152]) wr F _ F:=QC.ofSave F aB (fun b Y=>by
        simp at Y;subst Y;exact⟨by have:=ad.out;omega,aD,_,_,u.out,xF.2 rfl⟩)
       have bA:Hid (zW lo _ F t8 Ri S.qf mr mx ⟨.slice (some ⟨g,0,none⟩) S.qj.length S.qj.length,tbs,bn,aV⟩):=aa.out.mod br (kD (by decide)) (kD (by decide)) (kD (by decide)) (fun _=>kD (by decide) _) (fun _ t ht q=>by rw[xF.1 q] at ht;exact ht (by decide));have ak:Hid (QC lo uY w kS _ F):=L.out.newer aB (fun b Y=>by simp at Y;omega);clear aB br;refine zL (v:=.tuple #[.agg #[.slice (some ⟨g,0,none⟩) S.qj.length S.qj.length,ι Ri.count,ι Ri.qw,ι Ri.jf],.bool true]) (by simp[results,results74,go_sem,ai]) rfl ?_;rw[bG.out];exact⟨F,t8,⟨.slice (some ⟨g,0,none⟩) S.qj.length S.qj.length,tbs,bn,aV⟩,rfl,bA.out,ak.out⟩
end
section
variable {lo:Nat}
def ug(ns:κ)(row:zm)(a m:Nat):κ:=(List.range a).map fun i=>if i<m then ns.getD (row.getD i 0) ByteArray.empty else ByteArray.empty
theorem tj(ns:κ)(row:zm)(a m:Nat):(ug ns row a m).length=a:=by simp[ug]
attribute [local go_sem] PZ Qc PY
def fZ(ns:κ):κ->Nat->zm->Option zm
 |[],_,r=>some r
 |t::a,i,r=>match um ns t with
  |none=>none
  |some v=>if i≥3 then none else fZ ns a (i+1) (r.set i v)
end
section
variable {lo lp:Nat}
structure EY (lo lp:Nat) (w:World) (rb:Nat) (t:List zh) (ns:κ) (R:z7) (pv nv rv:Value) (tbs:List Nat):Prop where
 low:lo<=rb
 box:Q6 w rb #[pv,nv,rv,ι R.count,ι R.qw,ι R.jf] 156
 preds:w.ownsRow lp 221 3 pv t.length (xW t)
 vals:QD lo w nv ns
 rows:w.ownsRow lo 162 1 rv R.rows.length (QQ tbs)
 tlen:tbs.length=R.rows.length
 tries:∀p (_:p<R.rows.length) (_:p<tbs.length),∃fp,zY lo w tbs[p] R.rows[p] fp
 few:t.length<=1000/\ns.length<=1000/\R.rows.length<=1000
end
section
open Go.Proofs.Tryz
variable {lo lp:Nat}{a1 a2 a3:Option Addr}{ps:List (Value×Value×Value)}
structure Pr (S:jw):Prop where
 rules:wl S.qj.length S.rules
 many:S.qj.length<=1000
 small:∀a∈S.qj,a<=100000000
 rows:∀f∈S.facts,f.row.length=3
 facts:S.facts.length<=1000000
 qf:S.qf<=1000
structure pk (cs:List zd) (t:List zh) (os:Option (List (Option (List Int)))):Prop where
 len:cs.length<=1000
 names:t.length<=1000
 fine:∀c∈cs,vR c
 sums:∀c∈cs,c.head.args.length+yU c.body<=1000/\c.body.length<=900
 few:DV cs
 vals:(zq cs).length<=1000
 jm:∀n,xt t n<=1000000
 ords:(os.getD []).length<=2000000
 each:∀o∈os.getD [],(o.getD []).length<=2000000
 ordok:vi cs os=true->∀o∈os.getD [],(o.getD []).length<=1000
 set:vi cs os=true->Pr (vj t (zq cs) os cs)
def nD(a w:World)(S:jw)(s:Value):Prop:=∃(c b:Nat) (a1:Option Addr) (f:Nat) (a2:Option Addr) (e:Nat) (a3:Option Addr) (d:Nat) (ps:List (Value×Value×Value)),s=(π b)/\a.heap.size<=b/\a.heap.size<=c/\c<=w.heap.size/\Q6 w b #[ι S.qf,.slice a1 S.qj.length f,.slice a2 S.facts.length e,.slice a3 S.rules.length d] 146/\Hid (gJ c w (.slice a1 S.qj.length f) (.slice a2 S.facts.length e) (.slice a3 S.rules.length d) S ps)/\Hid (μ a w)
theorem gJ.saveT{w w':World}{e d f:Value}{S:jw}{ps:List (Value×Value×Value)}{T:TypeId}{M:List Nat}(h:gJ lo w e d f S ps)(hs:ze M w w')(b:QS w T M)(i:3≠T)(g:210≠T)(j:284≠T)(c:204≠T)(a:207≠T):gJ lo w' e d f S ps:=⟨yG h.ari hs b i,yG h.fac hs b g,h.rul.saveT hs b j c a⟩
theorem gJ.below{w w':World}{c d b:Value}{S:jw}{ps:List (Value×Value×Value)}(h:gJ lo w c d b S ps)(a:μ w w'):gJ lo w' c d b S ps:=⟨zB h.ari a,zB h.fac a,h.rul.below a⟩
theorem nD.one{f W a:World}{S:jw}{d c b:Nat}(i:μ f W)(g:μ W a)(h:gJ W.heap.size a (.slice a1 S.qj.length d) (.slice a2 S.facts.length c) (.slice a3 S.rules.length b) S ps):nD f (a.alloc (.cells #[ι S.qf,.slice a1 S.qj.length d,.slice a2 S.facts.length c,.slice a3 S.rules.length b] 146)) S (.pointer (some ⟨a.heap.size,0,none⟩)):=by
 have e:μ a (a.alloc (.cells #[ι S.qf,.slice a1 S.qj.length d,.slice a2 S.facts.length c,.slice a3 S.rules.length b] 146)):=(zo _ _).alloc (zg _) _;have j:=i.size;have l:=g.size;have k:=e.size;exact⟨W.heap.size,a.heap.size,a1,d,a2,c,a3,b,ps,rfl,by omega,j,by omega,Q6.new _ _ _,h.below e,Q9 (Q9 i g) e⟩
theorem nD.two{g W f:World}{a:Nat}{u p q o:Value}{S:jw}{d e c:Nat}(b:g.heap.size<=a)(j:μ g W)(l:μ W f)(m:Q6 f a #[u,p,q,o] 146)(h:gJ W.heap.size f (.slice a1 S.qj.length d) (.slice a2 S.facts.length e) (.slice a3 S.rules.length c) S ps):nD g ((((f.setCell ⟨a,0,none⟩ (ι S.qf)).setCell ⟨a,1,none⟩ (.slice a1 S.qj.length d)).setCell ⟨a,2,none⟩ (.slice a2 S.facts.length e)).setCell ⟨a,3,none⟩ (.slice a3 S.rules.length c)) S ((π a)):=by
 have r:=j.size;have v:=l.size;have k:=m.set 0 (ι S.qf);have i:=k.set 1 (.slice a1 S.qj.length d);have n:=i.set 2 (.slice a2 S.facts.length e);have s:=n.set 3 (.slice a3 S.rules.length c);have t:gJ W.heap.size ((((f.setCell ⟨a,0,none⟩ (ι S.qf)).setCell ⟨a,1,none⟩ (.slice a1 S.qj.length d)).setCell ⟨a,2,none⟩ (.slice a2 S.facts.length e)).setCell ⟨a,3,none⟩ (.slice a3 S.rules.length c)) (.slice a1 S.qj.length d) (.slice a2 S.facts.length e) (.slice a3 S.rules.length c) S ps:=(((h.saveT (ze.set _ _ _ (ι S.qf)) (QS.box m) (by decide) (by decide) (by decide) (by decide) (by decide)).saveT (ze.set _ _ _ (.slice a1 S.qj.length d)) (QS.box k) (by decide) (by decide) (by decide) (by decide) (by decide)).saveT (ze.set _ _ _ (.slice a2 S.facts.length e)) (QS.box i) (by decide) (by decide) (by decide) (by decide) (by decide)).saveT (ze.set _ _ _ (.slice a3 S.rules.length c)) (QS.box n) (by decide) (by decide) (by decide) (by decide) (by decide);exact⟨W.heap.size,a,a1,d,a2,e,a3,c,ps,rfl,b,r,by simp;omega,by simpa using s,t,((((Q9 j l).setCell b _).setCell b _).setCell b _).setCell b _⟩
theorem QC.belowLo{ok:TypeId->zn->Prop}{w w':World}{own a:Nat->zn}(h:QC lo ok w own w' a)(d:lo<=w.heap.size):Below lo w w':=by
 obtain⟨_,M,f,e⟩:=h;exact f.below (fun b c=>(e b c).1) d
def LX(lp:Nat)(t:List zh)(ns:κ)(a:Option z7)(w:World)(e:Ending)(w':World):Prop:=match a with
 |none=>e=ε (.tuple #[.pointer none,ι 10])/\μ w w'
 |some R=>∃b g f d c,w.heap.size<=b/\e=ε (.tuple #[(π b),ι 0])/\EY w.heap.size lp w' b t ns R g f d c/\μ w w'
theorem JB(w:World)(g d:Value)(a b:Int)(i:-9223372036854775808<=a/\a<9223372036854775808)(f:-9223372036854775808<=b/\b<9223372036854775808)(h:a<0∨1048576<a∨b<0∨1048576<b):
  Calls prog 35 #[g,d,ι a,ι b] w fun e c=>e=ε (.tuple #[.pointer none,ι 8])/\c=w:=by
 go_enter func35,ntmps35;by_cases j:a<0
 ·go_wp2;go_ret2
  exact⟨rfl,rfl⟩
 ·by_cases l:1048576<a
  ·go_wp2;go_ret2
   exact⟨rfl,rfl⟩
  ·by_cases k:b<0
   ·go_wp2;go_ret2
    exact⟨rfl,rfl⟩
   ·have m:1048576<b:=by omega
    go_wp2;go_ret2
    exact⟨rfl,rfl⟩
theorem My(w:World)(pb:Nat)(cs:List zd)(t:List zh)(h:Value)(os:Option (List (Option (List Int))))(a i:Nat)(l:km lp w pb cs t)(k:jC w h os)(c:pk cs t os)(j:vi cs os=false)(s:a<=1048576)(q:i<=1048576):
  Calls prog 35 #[(π pb),h,ι a,ι i] w fun e n=>e=ε (.tuple #[.pointer none,ι 9])/\μ w n:=by
 obtain⟨_,m,u,d,f,_⟩:=l;have b:=Q5 (BQ w m h cs os f c.fine c.len k c.ords c.each);rw[j] at b;obtain⟨p,r,o⟩:=d.boxed;clear j;go_enter func35,ntmps35;go_wp2_with (go_at_call 71;refine b.out.mono ?_;rintro e v ⟨rfl,g⟩)
 go_ret2
 exact⟨rfl,g⟩
theorem G6(w:World)(pb:Nat)(cs:List zd)(t:List zh)(ov:Value)(os:Option (List (Option (List Int))))(h qw P:Nat)(K:Option z7)(hP:km lp w pb cs t)(ho:jC w ov os)(i:pk cs t os)(G:vi cs os=true)(h1:h<=1048576)(n:qw<=1048576)(an:lp<=w.heap.size)(hr:m5 P (vj t (zq cs) os cs) h qw=some K):
  Calls prog 35 #[(π pb),ov,ι h,ι qw] w fun e j=>LX lp t (zq cs) K w e j:=by
 have HP:=Q5 hP;obtain⟨_,cv,pv,A,L,ae⟩:=hP;have al:=Q5 (BQ w cv ov cs os L i.fine i.len ho i.ords i.each);rw[G] at al;have az:=Q5 fun W hW=>N6 W cv cs (L.below hW) i.few;have ay:=Q5 fun W cb hW hC=>Om W pb 1 cb t (zq cs) cs cv ov os ⟨pv,(A.below hW).lt,(A.below hW).rules.1 1,zB ae hW⟩ hC i.names i.vals (L.below hW) i.sums i.len (ho.below hW) i.ords (i.ordok G) i.jm;have k:=Q5 (i.set G);have au:Hid ((zq cs).length<=1000/\t.length<=1000):=⟨i.vals,i.names⟩;have ao:=Q5 hr;obtain⟨hc,hf,s⟩:=A.boxed;have d0:=hc 0;have d1:=hc 1;simp only[lU,dS,l9] at d0 d1;clear G hr hc i L ho;generalize vj t (zq cs) os cs=S at *;generalize zq cs=ns at *;have aK:=Q5 A;have aw:=Q5 ae;clear A ae;go_enter func35,ntmps35;go_upto_region 6 with (first|(go_at_call 71;refine al.out.mono ?_;rintro e w1 ⟨rfl,x⟩;have y0:=zl x s d0;have yl:=xP s x.size)|(go_at_call 72;refine(az.out _ x).mono ?_;rintro e w2 ⟨v2,rfl,ag,ap⟩;obtain⟨l,f,rfl⟩:=ag.qx))
 obtain⟨Z,aa⟩:∃Z,Z=w2.alloc (.cells #[.slice l ns.length f] 141):=⟨_,rfl⟩;have ab:μ w2 (w2.alloc (.cells #[.slice l ns.length f] 141)):=(by go_grown);have F:=Q6.new w2 #[.slice l ns.length f] 141;have ai:=(ag.below ab).low (show w.heap.size<=w1.heap.size from x.size);have aj:=Q9 x ap;have u:=Q9 aj ab;have aD:=aj.size;rw[←aa] at F ai u;rw[←aa];generalize w2.heap.size=cb at *;have am:=Q5 F;have ah:=Q5 ai;have x0:=zl u s d0;have a5:=F.lt;have xl:=xP s u.size;have X:Hid (∀W,μ Z W->Calls prog 73 #[cv,.pointer (some ⟨pb,1,none⟩),(π cb),ov] W fun e j=>∃a1 c1 a2 U a3 Y ps,e=ε (.agg #[ι S.qf,.slice a1 S.qj.length c1,.slice a2 S.facts.length U,.slice a3 S.rules.length Y])/\Hid (gJ W.heap.size j (.slice a1 S.qj.length c1) (.slice a2 S.facts.length U) (.slice a3 S.rules.length Y) S ps)/\μ W j/\j.cell? ⟨pb,0,none⟩=some cv):=fun W G=>by
  refine(ay.out W cb (Q9 u G) ⟨yc an aD,_,am.out.below G,(ah.out.below G).low an⟩).mono ?_;rintro e j ⟨av,fv,rv,ps,h1,n,h3⟩;have hq:=Q9 G h3;obtain⟨a1,c1,rfl⟩:=zp n.ari;obtain⟨a2,U,rfl⟩:=zp n.fac;obtain⟨a3,Y,rfl⟩:=zp n.rul.own;exact⟨a1,c1,a2,U,a3,Y,ps,h1,n,h3,(hq.cell xl).trans x0⟩
 clear aa F ai ab az al ay y0 yl ag ap x aj w1 w2 d0;go_cut [11] from 40 to 48 (fun aC wx=>nD Z wx S aC)
 case first=>
  go_region_held3 (fun j=>j.cell? ⟨pb,0,none⟩=some cv) (first|go_keep|(go_simp;done)) (go_at_call 73;refine(X.out _ (by exact(by go_grown))).mono ?_;rintro e w4 ⟨a1,c1,a2,U,a3,Y,ps,rfl,B,ac,z0⟩;(try (with_reducible refine Q6.carry (Q6.drew (Q6.new Z #[ι 0,ν,ν,ν] 146)) ac ?_;intro a4;obtain⟨aG,aH,aI⟩:=a4.boxed)))
  all_goals
   go_wp2_with fail
   go_meet
   case rel=>first|exact nD.one (W:=Z.drew) (by go_grown) ac B.out|exact nD.two (zg _) (W:=(Z.alloc (.cells #[ι 0,ν,ν,ν] 146)).drew) (by go_grown) ac a4 B.out
 case rest=>
  clear X x0;obtain⟨fl,sb,a1,c1,a2,U,a3,Y,ps,rfl,aJ,aq,ad,ax,B,af⟩:=hcut;have M:=Q5 (Su wc S ps _ _ _ h qw P K B.out ad k.out.rules k.out.many k.out.small k.out.rows k.out.facts ⟨k.out.qf,h1,n⟩ ao.out);obtain⟨aF,aB,aE⟩:=ax.boxed;have ak:=Q9 u af.out;have aL:=Q5 a5;have I:=yc u.size aq;clear B k ao a5 xl;cases K with
  |none=>
   have o:Hid (Calls prog 74 #[.agg #[ι S.qf,.slice a1 S.qj.length c1,.slice a2 S.facts.length U,.slice a3 S.rules.length Y],ι h,ι qw] wc fun e j=>e=ε (.tuple #[.agg #[ν,ι 0,ι 0,ι 0],.bool false])/\Below fl wc j):=by
    refine M.out.mono ?_;rintro e j ⟨h1,a7,n⟩;exact⟨h1,n.belowLo ad⟩
   clear M;go_wp2_with (go_at_call 74;refine o.out.mono ?_;rintro e J ⟨rfl,D⟩)
   go_ret2
   exact⟨rfl,zQ (ak.trans (D.mono I)) (by go_grown) (zg _)⟩
  |some R=>
   have o:Hid (Calls prog 74 #[.agg #[ι S.qf,.slice a1 S.qj.length c1,.slice a2 S.facts.length U,.slice a3 S.rules.length Y],ι h,ι qw] wc fun e j=>∃d c g,e=ε (.tuple #[.agg #[.slice d R.rows.length c,ι R.count,ι R.qw,ι R.jf],.bool true])/\Hid (j.ownsRow fl 162 1 (.slice d R.rows.length c) R.rows.length (QQ g)/\g.length=R.rows.length/\(∀p (_:p<R.rows.length) (_:p<g.length),∃H,zY fl j g[p] R.rows[p] H)/\R.rows.length<=1000)/\Below fl wc j):=by
    refine M.out.mono ?_;rintro e j ⟨a7,rb,Q,h1,n,h3⟩;obtain⟨d,c,a0⟩:=zp n.rows;refine⟨d,c,Q.tbs,by rw[h1,a0],⟨by rw[←a0];exact n.rows,n.tlen,fun p a b=>?_,n.few.1⟩,h3.belowLo ad⟩;obtain⟨H,q,_⟩:=n.tries p a b;exact⟨H,q⟩
   clear M;go_upto_region 10 with (go_at_call 74;refine o.out.mono ?_;rintro e J ⟨d,c,g,rfl,a8,D⟩)
   have a9:=ak.trans (D.mono I);have z:=af.out.trans (D.mono aq);have v:μ J (J.alloc (.cells #[.slice d R.rows.length c,ι R.count,ι R.qw,ι R.jf] 152)):=(by go_grown);have T:=Q6.new J #[.slice d R.rows.length c,ι R.count,ι R.qw,ι R.jf] 152;have O:=(am.out.below z).below v;have ar:=Q5 ((ah.out.below z).below v);have y:=Q9 a9 v;have a6:=Q5 (zB aw.out y);have E:Hid (World.ownsRow (J.alloc (.cells #[.slice d R.rows.length c,ι R.count,ι R.qw,ι R.jf] 152)) w.heap.size 162 1 (.slice d R.rows.length c) R.rows.length (QQ g)/\g.length=R.rows.length/\(∀p (_:p<R.rows.length) (_:p<g.length),∃H,zY w.heap.size (J.alloc (.cells #[.slice d R.rows.length c,ι R.count,ι R.qw,ι R.jf] 152)) g[p] R.rows[p] H)/\R.rows.length<=1000):=by
    obtain⟨q1,q2,q3,q4⟩:=a8.out;refine⟨yr (zB q1 v) I,q2,fun p a b=>?_,q4⟩;obtain⟨H,q⟩:=q3 p a b;exact⟨H,(q.below v).low I⟩
   obtain⟨N,m,aA⟩:=zp aw.out;subst aA;have y1:=zl y s d1;have yl:=xP s y.size;have C:=y.size;clear v z a9 a8 o D ak af ah am ax aF aB aE;generalize J.alloc (.cells #[.slice d R.rows.length c,ι R.count,ι R.qw,ι R.jf] 152)=W6 at *;generalize J.heap.size=ob at *;obtain⟨oc,of,ol⟩:=T.boxed;have o0:=oc 0;have o1:=oc 1;have o2:=oc 2;have o3:=oc 3;obtain⟨bc,bf,bl⟩:=O.boxed;have b0:=bc 0;simp only[lU,dS,l9] at o0 o1 o2 o3 b0;clear oc bc T O;go_region
   have r:μ W6 (W6.alloc (.cells #[.slice N t.length m,.slice l ns.length f,.slice d R.rows.length c,ι R.count,ι R.qw,ι R.jf] 156)).drew:=(by go_grown);have V:Hid (EY w.heap.size lp (W6.alloc (.cells #[.slice N t.length m,.slice l ns.length f,.slice d R.rows.length c,ι R.count,ι R.qw,ι R.jf] 156)).drew W6.heap.size t ns R (.slice N t.length m) (.slice l ns.length f) (.slice d R.rows.length c) g/\μ w (W6.alloc (.cells #[.slice N t.length m,.slice l ns.length f,.slice d R.rows.length c,ι R.count,ι R.qw,ι R.jf] 156)).drew):=by
    refine⟨⟨C,Q6.drew (Q6.new _ _ _),zB a6.out r,ar.out.below r,zB E.out.1 r,E.out.2.1,fun p a b=>?_,⟨au.out.2,au.out.1,E.out.2.2.2⟩⟩,Q9 y r⟩;obtain⟨H,q⟩:=E.out.2.2.1 p a b;exact⟨H,q.below r⟩
   clear r a6 ar E o0 o1 o2 o3 b0;go_wp2;go_ret2
   exact⟨W6.heap.size,_,_,_,g,C,rfl,V.out.1,V.out.2⟩
end
end Go.Proofs.YteampbddflhngaaGreat
