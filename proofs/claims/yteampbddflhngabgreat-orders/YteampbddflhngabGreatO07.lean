import Derived.Test.YteampbddflhngabGreatO06
import Derived.Deep.OwnRows

namespace Go.Proofs.YteampbddflhngabGreat
set_option maxRecDepth 100000
set_option maxHeartbeats 1000000
open Go.RowKit
variable {lo:Nat}
theorem zrz{t t':List zan}{l:zb2}(h:zp7 t l=some t'):t'.length<=t.length+1:=by
 unfold zp7 at h
 split at h
 ·split at h <;> simp at h;subst h;omega
 ·simp at h;subst h;rw[zeh];omega
theorem z1t{t t':List zan}{l:zb2}(h:zp7 t l=some t')(hz:∀ e∈t,e.stratum<=0):∀ e∈t',e.stratum<=0:=by
 unfold zp7 at h
 split at h
 ·split at h <;> simp at h;subst h;exact hz
 ·simp at h;subst h
  intro e he
  unfold zgr at he
  rcases List.mem_append.1 he with he|he
  ·exact hz e (List.mem_of_mem_take he)
  ·rcases List.mem_cons.1 he with he|he
   ·subst he;exact Nat.le_refl _
   ·exact hz e (List.mem_of_mem_drop he)
def znl(o:Option (List zan))(l:zb2):Option (List zan):=o.bind (zp7 · l)
def za4(c:zab):List zb2:=c.head::c.body
def zgp(cs:List zab):Option (List zan):=(cs.flatMap za4).foldl znl (some [])
theorem zi3(ls:List zb2):ls.foldl znl none=none:=by
 induction ls with
 |nil=>rfl
 |cons a ls ih=>exact ih
theorem zn6:∀(ls:List zb2) (t:List zan),(∀ e∈t,e.stratum<=0)->∀ t',ls.foldl znl (some t)=some t'->∀ e∈t',e.stratum<=0
 |[],t,hz,t',h=>by simp at h;subst h;exact hz
 |l::ls,t,hz,t',h=>by
  simp only[List.foldl_cons] at h
  cases ha:zp7 t l with
  |none=>rw[show znl (some t) l=none from ha,zi3] at h;cases h
  |some t2=>rw[show znl (some t) l=some t2 from ha] at h;exact zn6 ls t2 (z1t ha hz) t' h
theorem zrx:∀(ls:List zb2) (t:List zan),∀ t',ls.foldl znl (some t)=some t'->t'.length<=t.length+ls.length
 |[],t,t',h=>by simp at h;subst h;simp
 |l::ls,t,t',h=>by
  simp only[List.foldl_cons] at h
  cases ha:zp7 t l with
  |none=>rw[show znl (some t) l=none from ha,zi3] at h;cases h
  |some t2=>rw[show znl (some t) l=some t2 from ha] at h;have:=zrx ls t2 t' h;have:=zrz ha;simp;omega
theorem z5k(B:Nat)(w:World)(tb:Nat)(t:List zan)(l:zb2)(aoa:Option Addr)(capa:Nat)(h:TA B w tb t)(hl:t.length<=1000)(hn:zp7 t l=none) :
  Calls Tryz.prog 63 #[.pointer (some ⟨tb,0,none⟩),.agg #[.bool l.neg,.string l.pred,.slice aoa l.args.length capa]] w fun e w'=>e=.returned (.bool false)/\Below w.heap.size w w':=by
 unfold zp7 at hn
 split at hn
 ·rename_i e0 he
  split at hn
  ·cases hn
  ·rename_i hne
   have:=zy0 B w tb t l aoa capa h hl e0 he
   rw[decide_eq_false hne] at this
   exact this
 ·cases hn
theorem zy1(B:Nat)(w:World)(tb:Nat)(t t2:List zan)(l:zb2)(aoa:Option Addr)(capa:Nat)(h:TA B w tb t)(hl:t.length<=1000)(hn:zp7 t l=some t2)(hB:B<=w.heap.size)(hBt:B<=tb) :
  Calls Tryz.prog 63 #[.pointer (some ⟨tb,0,none⟩),.agg #[.bool l.neg,.string l.pred,.slice aoa l.args.length capa]] w fun e w'=>e=.returned (.bool true)/\TA B w' tb t2/\Below B w w'/\zhl tb w w':=by
 unfold zp7 at hn
 split at hn
 ·rename_i e0 he
  split at hn
  ·rename_i heq
   simp at hn
   subst hn
   have:=zy0 B w tb t l aoa capa h hl e0 he
   rw[decide_eq_true heq] at this
   refine this.mono ?_
   rintro e w' ⟨rfl,hb⟩
   exact⟨rfl,h.below hb,hb.mono hB,zhl.of hb⟩
  ·cases hn
 ·rename_i he
  simp at hn
  subst hn
  exact z8h B w tb t l aoa capa h hl he hB hBt
def zrt(o:Option (List zan))(w:World)(e:Ending)(w':World):Prop :=
 Below w.heap.size w w'/\match o with
  |none=>e=.returned (.tuple #[.agg #[.slice none 0 0],.bool false])
  |some t=>∃ pv,e=.returned (.tuple #[.agg #[pv],.bool true])/\w'.ownsRow w.heap.size 138 3 pv t.length (zcc t)
theorem zod{o:Option (List zan)}{w w':World}(h:Hid (o=none))(hb:Below w.heap.size w w'):zrt o w (.returned (.tuple #[.agg #[.slice none 0 0],.bool false])) w':=by
 have h':o=none:=h
 subst h';exact⟨hb,rfl⟩
theorem ztf{o:Option (List zan)}{w w':World}{t:List zan}{pv:Value}(h:Hid (o=some t))(hb:Below w.heap.size w w')(ho:w'.ownsRow w.heap.size 138 3 pv t.length (zcc t)):zrt o w (.returned (.tuple #[.agg #[pv],.bool true])) w':=by
 have h':o=some t:=h
 subst h';exact⟨hb,pv,rfl,ho⟩
theorem zoe(w:World)(v:Value)(cs:List zab)(hcs:CIn lo 90 w v cs)(hN:(cs.flatMap za4).length<=1000) :
  Calls Tryz.prog 40 #[v] w fun e w'=>zrt (zgp cs) w e w':=by
 obtain⟨ao,cap,rfl⟩:=hcs.shape
 have hcl:cs.length<=1000:=by
  have:cs.length<=(cs.flatMap za4).length:=by
   clear hN hcs
   induction cs with
   |nil=>simp
   |cons c cs ih=>simp[za4] at ih ⊢;omega
  omega
 go_enter Tryz.func40,Tryz.ntmps40
 go_wp2
 go_loopw [11] (fun i wr=>∃(k:Nat) (tk:List zan),k<=cs.length/\i=.int .i64 k/\Below w.heap.size w wr/\TA w.heap.size wr (w.heap.size+1) tk/\Box wr w.heap.size #[.slice none 0 0] 84/\tk.length+((cs.drop k).flatMap za4).length<=1000/\Hid (zgp cs=((cs.drop k).flatMap za4).foldl znl (some tk))) (fun i _=>cs.length - (intOf i).toNat)
 case atStart =>
  have hb1:=(Below.refl w.heap.size w).alloc (Nat.le_refl _) (.cells #[.slice none 0 0] 84)
  exact⟨0,[],Nat.zero_le _,rfl,(by go_grown),⟨_,Box.newAt _ _ _ _ (by simp),World.ownsRow_nil _ _ _ _⟩,(Box.new w _ _).below ((Below.refl _ _).alloc (Nat.le_refl _) _),(by simpa using hN),rfl⟩
 case round =>
  obtain⟨k,tk,hk,rfl,hbk,htk,hres,hnk,H⟩:=hrel
  have hszk:=hbk.size
  have hres1:=hres.lt
  have htl:w.heap.size+1 < wr.heap.size:=by obtain⟨_,hb,_⟩:=htk;exact hb.lt
  by_cases hlt:k < cs.length
  ·have hdr:=List.drop_eq_getElem_cons hlt
   obtain⟨g,ao2,cap2,ao3,cap3,rfl,hg,hc0,hc1,hc2,hc3,hsk,hlk⟩:=hcs.cell k hlt
   have hd0:=(hbk.cell (p:=⟨g,k * 4,none⟩) hg).trans hc0
   have hd1:=(hbk.cell (p:=⟨g,k * 4+1,none⟩) hg).trans hc1
   have hd2:=(hbk.cell (p:=⟨g,k * 4+2,none⟩) hg).trans hc2
   have hd3:=(hbk.cell (p:=⟨g,k * 4+3,none⟩) hg).trans hc3
   have hgr:g < wr.heap.size:=by omega
   clear hc0 hc1 hc2 hc3 hsk
   generalize cs[k]=c at *
   rw[hdr] at hnk
   have H1:Hid (zgp cs=(c.body++(cs.drop (k+1)).flatMap za4).foldl znl (znl (some tk) c.head)):=by rw[Hid,H.out,hdr];rfl
   simp only[List.flatMap_cons,za4,List.length_append,List.length_cons] at hnk
   generalize hR:(cs.drop (k+1)).flatMap za4=rest at *
   have HR:Hid ((cs.drop (k+1)).flatMap za4=rest):=hR
   clear hR H hdr
   cases hA:zp7 tk c.head with
   |none =>
    have HA:Hid (zp7 tk c.head=none):=hA
    have HF:Hid (zgp cs=none):=by rw[Hid,H1.out,show znl (some tk) c.head=none from hA,zi3]
    clear H1 hA
    go_wp2_with (first|(go_at_call 63;refine(z5k w.heap.size _ (w.heap.size+1) tk c.head _ _ (by exact htk.below (by go_grown)) (by omega) HA).mono ?_;rintro e w1 ⟨rfl,hb1⟩;have hB1:=zae ((Below.refl wr.heap.size wr).alloc (Nat.le_refl _) _) hb1 (Nat.le_refl _);have hBB:=zae hbk hB1 (Nat.le_refl _);have hres2:=hres.below hB1;obtain⟨hrc,hrf⟩:=hres2.rules;have hz2:=hres2.lt))
    exact bodyPost_ret (v:=.tuple #[.agg #[.slice none 0 0],.bool false]) (by simp[results,Tryz.results40,go_sem,hrc]) rfl (zod HF (by go_grown))
   |some t1 =>
    have HA:Hid (zp7 tk c.head=some t1):=hA
    have hl1:=zrz hA
    have H2:Hid (zgp cs=(c.body++rest).foldl znl (some t1)):=by rw[Hid,H1.out,show znl (some tk) c.head=some t1 from hA]
    clear H1 hA
    go_wp2_with (first|(go_at_call 63;refine(zy1 w.heap.size _ (w.heap.size+1) tk t1 c.head _ _ (by exact htk.below (by go_grown)) (by omega) HA (by exact Nat.le_trans hszk (by simp)) (by omega)).mono ?_;rintro e w1 ⟨rfl,ht1,hb1,hkp1⟩;have hBB:Below w.heap.size w w1:=(hbk.alloc hszk _).trans hb1;have hres2:=hkp1.box _ _ _ (by omega) (by decide) (hres.below ((Below.refl _ _).alloc (Nat.le_refl _) _));have hcb:=hkp1.box _ _ _ (by omega) (by decide) (Box.new wr _ _);obtain⟨hcc,hcf⟩:=hcb.rules;have hzc:=hcb.lt;have hz2:=hres2.lt))
    go_loopw [23] (fun i wj=>∃(j:Nat) (tj:List zan),j<=c.body.length/\i=.int .i64 j/\Below w.heap.size w wj/\TA w.heap.size wj (w.heap.size+1) tj/\Box wj w.heap.size #[.slice none 0 0] 84/\tj.length+(c.body.drop j).length+rest.length<=1000/\Hid (zgp cs=(c.body.drop j++rest).foldl znl (some tj))) (fun i _=>c.body.length - (intOf i).toNat)
    case atStart=>exact⟨0,t1,Nat.zero_le _,rfl,hBB,ht1,hres2,(by simp;omega),H2⟩
    case round =>
     clear hcc hcf hcb hzc
     obtain⟨j,tj,hj,rfl,hbj,htj,hresj,hnj,HJ⟩:=hrel
     have hszj:=hbj.size
     have hresl:=hresj.lt
     by_cases hjl:j < c.body.length
     ·obtain⟨gl,aol,capl,rfl,hgl,hl0,hl1',hl2',_⟩:=hlk.cell j hjl
      have he0:=(hbj.cell (p:=⟨gl,j * 3,none⟩) hgl).trans hl0
      have he1:=(hbj.cell (p:=⟨gl,j * 3+1,none⟩) hgl).trans hl1'
      have he2:=(hbj.cell (p:=⟨gl,j * 3+2,none⟩) hgl).trans hl2'
      have hgj:gl < wr.heap.size:=by omega
      have hdj:=List.drop_eq_getElem_cons hjl
      clear hl0 hl1' hl2'
      generalize c.body[j]=a at *
      rw[hdj] at hnj
      have HJ1:Hid (zgp cs=(c.body.drop (j+1)++rest).foldl znl (znl (some tj) a)):=by rw[Hid,HJ.out,hdj];rfl
      simp only[List.length_cons] at hnj
      clear hdj HJ
      cases hA:zp7 tj a with
      |none =>
       have HA:Hid (zp7 tj a=none):=hA
       have HF:Hid (zgp cs=none):=by rw[Hid,HJ1.out,show znl (some tj) a=none from hA,zi3]
       clear HJ1 hA
       go_wp2_with (first|(go_at_call 63;refine(z5k w.heap.size _ (w.heap.size+1) tj a _ _ (by exact htj.below (by go_grown)) (by omega) HA).mono ?_;rintro e w3 ⟨rfl,hb3⟩;have hB3:=zae ((Below.refl wr.heap.size wr).alloc (Nat.le_refl _) _) hb3 (Nat.le_refl _);have hBB3:=zae hbj hB3 (Nat.le_refl _);have hres3:=hresj.below hB3;obtain⟨hrc,hrf⟩:=hres3.rules;have hz3:=hres3.lt))
       exact bodyPost_ret (v:=.tuple #[.agg #[.slice none 0 0],.bool false]) (by simp[results,Tryz.results40,go_sem,hrc]) rfl (zod HF (by go_grown))
      |some t2 =>
       have HA:Hid (zp7 tj a=some t2):=hA
       have hl2:=zrz hA
       have HJ2:Hid (zgp cs=(c.body.drop (j+1)++rest).foldl znl (some t2)):=by rw[Hid,HJ1.out,show znl (some tj) a=some t2 from hA]
       have htjl:w.heap.size+1 < wr.heap.size:=by obtain⟨_,hb,_⟩:=htj;exact hb.lt
       clear HJ1 hA
       go_wp2_with (first|(go_at_call 63;refine(zy1 w.heap.size _ (w.heap.size+1) tj t2 a _ _ (by exact htj.below (by go_grown)) (by omega) HA (by exact Nat.le_trans hszj (by simp)) (by omega)).mono ?_;rintro e w3 ⟨rfl,ht3,hb3,hkp3⟩;have hBB3:Below w.heap.size w w3:=(hbj.alloc hszj _).trans hb3;have hres3:=hkp3.box _ _ _ (by omega) (by decide) (hresj.below ((Below.refl _ _).alloc (Nat.le_refl _) _))))
       go_roundw
       case rel=>exact⟨j+1,t2,by omega,by go_num,hBB3,ht3,hres3,by omega,HJ2⟩
       case measure=>simp[intOf];omega
     ·have HE:Hid (zgp cs=((cs.drop (k+1)).flatMap za4).foldl znl (some tj)):=by rw[Hid,HJ.out,List.drop_eq_nil_of_le (by omega),HR.out];rfl
      have hnr:tj.length+rest.length<=1000:=by omega
      clear HJ
      go_wp2
      go_roundw
      case rel=>exact⟨k+1,tj,by omega,by go_num,hbj,htj,hresj,by rw[HR.out];exact hnr,HE⟩
      case measure=>simp[intOf];omega
  ·have HF:Hid (zgp cs=some tk):=by rw[Hid,H.out,List.drop_eq_nil_of_le (by omega)];rfl
   obtain⟨aop,capp,hbx,hown⟩:=htk.view
   obtain⟨hc,hf⟩:=hbx.rules
   obtain⟨hrc,hrf⟩:=hres.rules
   have hbxl:=hbx.lt
   clear H
   go_wp2
   have ho2:=zca hown ((But.refl w.heap.size wr).setCell 0 (.slice aop tk.length capp)) hres (by decide)
   exact bodyPost_ret (v:=.tuple #[.agg #[.slice aop tk.length capp],.bool true]) (by simp[results,Tryz.results40,go_sem,hrc]) rfl (ztf HF (by go_grown) ho2)
def z1o(l:zb2):Nat:=l.args.length+1
def sumW(ls:List zb2):Nat:=ls.foldr (fun l n=>z1o l+n) 0
def clW(c:zab):Nat:=z1o c.head+sumW c.body
def prW(cs:List zab):Nat:=cs.foldr (fun c n=>clW c+n) 0
theorem zyo:∀(r:List Tok) {ts:List ByteArray} {r2:List Tok},zbv r=some (ts,r2)->ts.length+r2.length<=r.length
 |[],_,_,h=>by simp[zbv] at h
 |[x],ts,r2,h=>by
  simp only[zbv] at h
  split at h <;> simp at h
  obtain⟨rfl,rfl⟩:=h;simp
 |x::y::r,ts,r2,h=>by
  simp only[zbv] at h
  split at h
  ·split at h
   ·cases hq:zbv r with
    |none=>rw[hq] at h;simp at h
    |some z =>
     obtain⟨ts',r'⟩:=z
     rw[hq] at h;simp at h
     have:=zyo r hq
     obtain⟨rfl,rfl⟩:=h;simp;omega
   ·simp at h;obtain⟨rfl,rfl⟩:=h;simp;omega
  ·simp at h
theorem zwy{r r2:List Tok}{a:zb2}(h:zem r=some (a,r2)):z1o a+r2.length<=r.length:=by
 cases r with
 |nil=>simp[zem,hdK] at h
 |cons x r =>
  unfold zem at h
  split at h
  ·split at h
   ·split at h
    ·simp at h
    ·rename_i ts r3 hq
     have:=zyo _ hq
     split at h <;> simp at h
     obtain⟨rfl,rfl⟩:=h;simp[z1o] at this ⊢;omega
   ·simp at h;obtain⟨rfl,rfl⟩:=h;simp[z1o];omega
  ·simp at h
theorem yad{r r2:List Tok}{a:zb2}(h:zst r=some (a,r2)):z1o a+r2.length<=r.length:=by
 unfold zst at h
 split at h
 ·cases hq:zem r.tail with
  |none=>rw[hq] at h;simp at h
  |some z =>
   obtain⟨a',r'⟩:=z
   rw[hq] at h;simp at h
   have:=zwy hq
   obtain⟨rfl,rfl⟩:=h;simp[z1o] at this ⊢;omega
 ·exact zwy h
theorem z9s{n:Nat}:∀ {r r2:List Tok} {b:List zb2},ze6 n r=some (b,r2)->sumW b+r2.length<=r.length:=by
 induction n with
 |zero=>intro r r2 b h;simp[ze6] at h
 |succ n ih =>
  intro r r2 b h
  cases hl:zst r with
  |none=>rw[zsd hl] at h;cases h
  |some z =>
   obtain⟨a,r3⟩:=z
   have:=yad hl
   by_cases h6:hdK r3=6
   ·rw[zmq hl h6] at h
    cases hq:ze6 n r3.tail with
    |none=>rw[hq] at h;simp at h
    |some z =>
     obtain⟨b',r'⟩:=z
     rw[hq] at h;simp at h
     have:=ih hq
     obtain⟨rfl,rfl⟩:=h;simp[sumW] at this ⊢;omega
   ·rw[zmr hl h6] at h;simp at h;obtain⟨rfl,rfl⟩:=h;simp[sumW];omega
theorem z4r{n:Nat}{r r2:List Tok}{c:zab}(h:ze7 n r=some (c,r2)):clW c+r2.length<=r.length:=by
 unfold ze7 at h
 split at h
 ·cases h
 ·rename_i a r1 ha
  have:=zwy ha
  split at h
  ·split at h
   ·cases h
   ·rename_i b r3 hb
    have:=z9s hb
    split at h <;> simp at h
    obtain⟨rfl,rfl⟩:=h;simp[clW] at this ⊢;omega
  ·split at h <;> simp at h
   obtain⟨rfl,rfl⟩:=h;simp[clW,sumW];omega
theorem zw0{n0:Nat}:∀ {m:Nat} {r:List Tok} {cs:List zab},zez n0 m r=some cs->prW cs<=r.length
 |_,[],cs,h=>by simp[zez] at h;subst h;simp[prW]
 |0,_::_,cs,h=>by simp[zez] at h
 |m+1,x::r,cs,h=>by
  cases hc:ze7 n0 (x::r) with
  |none=>rw[zyn (by simp) hc] at h;cases h
  |some z =>
   obtain⟨c,r2⟩:=z
   rw[zuu (by simp) hc] at h
   cases hq:zez n0 m r2 with
   |none=>rw[hq] at h;simp at h
   |some cs' =>
    rw[hq] at h;simp at h;subst h
    have h1:=z4r hc
    have h2:=zw0 hq
    simp only[prW,List.foldr_cons,List.length_cons] at h1 h2 ⊢;omega
theorem zpj(ls:List zb2):zce ls+ls.length=sumW ls:=by
 induction ls with
 |nil=>rfl
 |cons a ls ih=>simp[zce,sumW,z1o] at ih ⊢;omega
theorem z9t{cs:List zab}{c:zab}(h:c∈cs):clW c<=prW cs:=by
 induction cs with
 |nil=>cases h
 |cons a cs ih =>
  rcases List.mem_cons.1 h with rfl|h
  ·simp[prW]
  ·have:=ih h;simp[prW] at this ⊢;omega
theorem zyp(cs:List zab):(cs.flatMap za4).length<=prW cs:=by
 induction cs with
 |nil=>simp
 |cons a cs ih=>have:=zpj a.body;simp[prW,clW,za4,z1o] at ih ⊢;omega
theorem z4v(cs:List zab):cs.length<=prW cs:=by
 induction cs with
 |nil=>simp
 |cons a cs ih=>simp[prW,clW,z1o] at ih ⊢;omega
theorem z8v{cs:List zab}(h:prW cs<=1000):∀ c∈cs,zny c:=fun c hc=>by
 have h1:=z9t hc
 have h2:=zpj c.body
 unfold clW z1o at h1
 exact⟨by omega,by omega⟩
theorem zmw:∀(n:Nat) (s:ByteArray) (i:Nat) (l:List (Int × ByteArray)),splitN n s i=some l->l.length<=s.size - i
 |0,_,_,l,h=>by simp[splitN] at h;subst h;simp
 |n+1,s,i,l,h=>by
  unfold splitN at h
  split at h
  ·rename_i hi
   split at h
   ·have:=zmw n s (i+1) l h;omega
   ·split at h
    ·cases h
    ·rename_i hk
     split at h
     ·cases h
     ·cases hq:splitN n s (zoi s i (ziv (bAt s i) (bAt s (i+1)))) with
      |none=>rw[hq] at h;simp at h
      |some l' =>
       rw[hq] at h;simp at h;subst h
       have:=zmw n s _ l' hq
       have:=z2u s i _ hi rfl hk
       simp;omega
  ·simp at h;subst h;simp
theorem zri{s:ByteArray}{l:List Tok}(h:splitB s=some l):l.length<=s.size:=by have:=zmw _ s 0 l h;omega
def zof(s:ByteArray):Except Int (List zab × List zan) :=
 if 500 < s.size then .error 1 else
 match splitB s with
 |none=>.error 2
 |some l =>
  match zez l.length l.length l with
  |none=>.error 3
  |some cs =>
   if cs.any zer then .error 4 else
   match zgp cs with
   |none=>.error 5
   |some t =>
    if cs.all ze9 then
     if (zde (t.length+1) t cs).2 then .ok (cs,(zde (t.length+1) t cs).1) else .error 7
    else .error 6
def zgn(o:Except Int (List zab × List zan))(w:World)(e:Ending)(w':World):Prop :=
 Below w.heap.size w w'/\match o with
  |.error n=>e=.returned (.tuple #[.pointer none,.int .i64 n])
  |.ok (cs,t)=>∃ pb v pv,e=.returned (.tuple #[.pointer (some ⟨pb,0,none⟩),.int .i64 0])/\Box w' pb #[v,pv] 88/\CIn w.heap.size 90 w' v cs/\w'.ownsRow w.heap.size 138 3 pv t.length (zcc t)/\w.heap.size<=pb
theorem z8d(s:ByteArray)(w:World)(hs:s.size<=500)(h:splitB s=none):Calls Tryz.prog 37 #[.string s] w fun e w'=>e=.returned (.tuple #[.slice none 0 0,.bool false])/\Below w.heap.size w w':=by
 refine(zu7 s w hs).mono ?_
 rintro e w' ⟨h1,h2⟩
 rw[h] at h2
 exact⟨h2,h1⟩
theorem zh5(s:ByteArray)(w:World)(l:List Tok)(hs:s.size<=500)(h:splitB s=some l):Calls Tryz.prog 37 #[.string s] w fun e w'=>∃ v,e=.returned (.tuple #[v,.bool true])/\w'.ownsRow w.heap.size 129 2 v l.length (zgl l)/\l.length<=500/\Below w.heap.size w w':=by
 refine(zu7 s w hs).mono ?_
 rintro e w' ⟨h1,h2⟩
 rw[h] at h2
 obtain⟨v,a,b,c⟩:=h2
 exact⟨v,a,b,by omega,h1⟩
theorem z7t(w:World)(wv:Value)(l:List Tok)(base:Nat)(hw:w.ownsRow base 129 2 wv l.length (zgl l))(hl:l.length<=500)(h:zez l.length l.length l=none) :
  Calls Tryz.prog 38 #[wv] w fun e w'=>e=.returned (.tuple #[.slice none 0 0,.bool false])/\Below w.heap.size w w':=by
 refine(parse_any w wv l base hw hl).mono ?_
 rintro e w' ⟨h1,h2⟩
 rw[h] at h2
 exact⟨h2,h1⟩
theorem zjg(w:World)(wv:Value)(l:List Tok)(base:Nat)(cs:List zab)(hw:w.ownsRow base 129 2 wv l.length (zgl l))(hl:l.length<=500)(h:zez l.length l.length l=some cs) :
  Calls Tryz.prog 38 #[wv] w fun e w'=>∃ v,e=.returned (.tuple #[v,.bool true])/\CIn w.heap.size 90 w' v cs/\Below w.heap.size w w':=by
 refine(parse_any w wv l base hw hl).mono ?_
 rintro e w' ⟨h1,h2⟩
 rw[h] at h2
 obtain⟨v,a,b⟩:=h2
 exact⟨v,a,b,h1⟩
theorem zzp(w:World)(v:Value)(cs:List zab)(hcs:CIn lo 90 w v cs)(hN:(cs.flatMap za4).length<=1000)(h:zgp cs=none) :
  Calls Tryz.prog 40 #[v] w fun e w'=>e=.returned (.tuple #[.agg #[.slice none 0 0],.bool false])/\Below w.heap.size w w':=by
 refine(zoe w v cs hcs hN).mono ?_
 rintro e w' ⟨h1,h2⟩
 rw[h] at h2
 exact⟨h2,h1⟩
theorem zkq(w:World)(v:Value)(cs:List zab)(t:List zan)(hcs:CIn lo 90 w v cs)(hN:(cs.flatMap za4).length<=1000)(h:zgp cs=some t) :
  Calls Tryz.prog 40 #[v] w fun e w'=>∃ pv,e=.returned (.tuple #[.agg #[pv],.bool true])/\w'.ownsRow w.heap.size 138 3 pv t.length (zcc t)/\Below w.heap.size w w':=by
 refine(zoe w v cs hcs hN).mono ?_
 rintro e w' ⟨h1,h2⟩
 rw[h] at h2
 obtain⟨v,a,b⟩:=h2
 exact⟨v,a,b,h1⟩
theorem ztg(s:ByteArray)(w:World)(hs:500 < s.size)(hs2:s.size<=9223372036854775807) :
  Calls Tryz.prog 19 #[.string s] w fun e w'=>zgn (.error 1) w e w':=by
 go_enter Tryz.func19,Tryz.ntmps19
 go_wp2
 go_ret2
 exact⟨Below.refl _ _,rfl⟩
theorem z2i(s:ByteArray)(w:World)(hs:s.size<=500)(hS:splitB s=none) :
  Calls Tryz.prog 19 #[.string s] w fun e w'=>zgn (.error 2) w e w':=by
 have HS:Hid (splitB s=none):=hS
 clear hS
 go_enter Tryz.func19,Tryz.ntmps19
 go_wp2_with (first|(go_at_call 37;refine(z8d s _ hs HS).mono ?_;rintro e w1 ⟨rfl,hb1⟩))
 go_ret2
 exact⟨hb1,rfl⟩
theorem z2j(s:ByteArray)(w:World)(hs:s.size<=500)(l:List Tok)(hS:splitB s=some l)(hP:zez l.length l.length l=none) :
  Calls Tryz.prog 19 #[.string s] w fun e w'=>zgn (.error 3) w e w':=by
 have HS:Hid (splitB s=some l):=hS
 have HP:Hid (zez l.length l.length l=none):=hP
 clear hS hP
 go_enter Tryz.func19,Tryz.ntmps19
 go_wp2_with (first|(go_at_call 37;refine(zh5 s _ l hs HS).mono ?_;rintro e w1 ⟨fv,rfl,hown,hll,hb1⟩;obtain⟨aof,capf,rfl⟩:=zac hown)|(go_at_call 38;refine(z7t _ _ l _ hown hll HP).mono ?_;rintro e w2 ⟨rfl,hb2⟩;have hB2:=zae hb1 hb2 (Nat.le_refl _)))
 go_ret2
 exact⟨hB2,rfl⟩
theorem z2k(s:ByteArray)(w:World)(hs:s.size<=500)(l:List Tok)(cs:List zab)(hm:cs.any zer=true)(hS:splitB s=some l)(hP:zez l.length l.length l=some cs)(hok:∀ c∈cs,zny c)(hlen:cs.length<=1000) :
  Calls Tryz.prog 19 #[.string s] w fun e w'=>zgn (.error 4) w e w':=by
 have HS:Hid (splitB s=some l):=hS
 have HP:Hid (zez l.length l.length l=some cs):=hP
 have HOK:Hid (∀ c∈cs,zny c):=hok
 have HLEN:Hid (cs.length<=1000):=hlen
 clear hS hP hok hlen
 go_enter Tryz.func19,Tryz.ntmps19
 go_wp2_with (first|(go_at_call 37;refine(zh5 s _ l hs HS).mono ?_;rintro e w1 ⟨fv,rfl,hown,hll,hb1⟩;obtain⟨aof,capf,rfl⟩:=zac hown)|(go_at_call 38;refine(zjg _ _ l _ cs hown hll HP).mono ?_;rintro e w2 ⟨cv,rfl,hcin,hb2⟩;obtain⟨aoc,capc,rfl⟩:=hcin.shape;have hB2:=zae hb1 hb2 (Nat.le_refl _))|(go_at_call 39;refine(zlq _ _ cs hcin HOK.out HLEN.out).mono ?_;rintro e w3 ⟨rfl,hb3⟩;have hB3:=zae hB2 hb3 (Nat.le_refl _);have hcin3:=hcin.below hb3))
 go_ret2
 exact⟨hB3,rfl⟩
theorem z2l(s:ByteArray)(w:World)(hs:s.size<=500)(l:List Tok)(cs:List zab)(hm:cs.any zer=false)(hS:splitB s=some l)(hP:zez l.length l.length l=some cs)(hok:∀ c∈cs,zny c)(hlen:cs.length<=1000)(hlits:(cs.flatMap za4).length<=1000)(hC:zgp cs=none) :
  Calls Tryz.prog 19 #[.string s] w fun e w'=>zgn (.error 5) w e w':=by
 have HS:Hid (splitB s=some l):=hS
 have HP:Hid (zez l.length l.length l=some cs):=hP
 have HOK:Hid (∀ c∈cs,zny c):=hok
 have HLEN:Hid (cs.length<=1000):=hlen
 have HLITS:Hid ((cs.flatMap za4).length<=1000):=hlits
 have HC:Hid (zgp cs=none):=hC
 clear hS hP hok hlen hlits hC
 go_enter Tryz.func19,Tryz.ntmps19
 go_wp2_with (first|(go_at_call 37;refine(zh5 s _ l hs HS).mono ?_;rintro e w1 ⟨fv,rfl,hown,hll,hb1⟩;obtain⟨aof,capf,rfl⟩:=zac hown)|(go_at_call 38;refine(zjg _ _ l _ cs hown hll HP).mono ?_;rintro e w2 ⟨cv,rfl,hcin,hb2⟩;obtain⟨aoc,capc,rfl⟩:=hcin.shape;have hB2:=zae hb1 hb2 (Nat.le_refl _))|(go_at_call 39;refine(zlq _ _ cs hcin HOK.out HLEN.out).mono ?_;rintro e w3 ⟨rfl,hb3⟩;have hB3:=zae hB2 hb3 (Nat.le_refl _);have hcin3:=hcin.below hb3)|(go_at_call 40;refine(zzp _ _ cs hcin3 HLITS.out HC).mono ?_;rintro e w4 ⟨rfl,hb4⟩;have hB4:=zae hB3 hb4 (Nat.le_refl _);have hz4:=hB4.size))
 go_ret2
 exact⟨(by go_grown),rfl⟩
theorem z2m(s:ByteArray)(w:World)(hs:s.size<=500)(l:List Tok)(cs:List zab)(t:List zan)(hm:cs.any zer=false)(hsf:cs.all ze9=false)(hS:splitB s=some l)(hP:zez l.length l.length l=some cs)(hok:∀ c∈cs,zny c)(hlen:cs.length<=1000)(hlits:(cs.flatMap za4).length<=1000)(hC:zgp cs=some t) :
  Calls Tryz.prog 19 #[.string s] w fun e w'=>zgn (.error 6) w e w':=by
 have HS:Hid (splitB s=some l):=hS
 have HP:Hid (zez l.length l.length l=some cs):=hP
 have HOK:Hid (∀ c∈cs,zny c):=hok
 have HLEN:Hid (cs.length<=1000):=hlen
 have HLITS:Hid ((cs.flatMap za4).length<=1000):=hlits
 have HC:Hid (zgp cs=some t):=hC
 clear hS hP hok hlen hlits hC
 go_enter Tryz.func19,Tryz.ntmps19
 go_wp2_with (first|(go_at_call 37;refine(zh5 s _ l hs HS).mono ?_;rintro e w1 ⟨fv,rfl,hown,hll,hb1⟩;obtain⟨aof,capf,rfl⟩:=zac hown)|(go_at_call 38;refine(zjg _ _ l _ cs hown hll HP).mono ?_;rintro e w2 ⟨cv,rfl,hcin,hb2⟩;obtain⟨aoc,capc,rfl⟩:=hcin.shape;have hB2:=zae hb1 hb2 (Nat.le_refl _))|(go_at_call 39;refine(zlq _ _ cs hcin HOK.out HLEN.out).mono ?_;rintro e w3 ⟨rfl,hb3⟩;have hB3:=zae hB2 hb3 (Nat.le_refl _);have hcin3:=hcin.below hb3)|(go_at_call 40;refine(zkq _ _ cs t hcin3 HLITS.out HC).mono ?_;rintro e w4 ⟨pv,rfl,hpo,hb4⟩;obtain⟨aop,capp,rfl⟩:=zac hpo;have hB4:=zae hB3 hb4 (Nat.le_refl _);have hz4:=hB4.size;have hcin4:=hcin3.below hb4)|(go_at_call 41;refine(zsi _ _ cs (by exact hcin4.below (by go_grown)) HOK.out HLEN.out).mono ?_;rintro e w5 ⟨rfl,hb5⟩;have hq5:=(Below.refl w4.heap.size w4).alloc (Nat.le_refl _) (.cells #[.slice aop t.length capp] 84);have hbb5:=zae hq5 hb5 (Nat.le_refl _);have hB5:=zae hB4 hbb5 (Nat.le_refl _)))
 go_ret2
 exact⟨hB5,rfl⟩
theorem z2o(s:ByteArray)(w:World)(hs:s.size<=500)(l:List Tok)(cs:List zab)(t:List zan)(hm:cs.any zer=false)(hsf:cs.all ze9=true)(hst:(zde (t.length+1) t cs).2=false)(hS:splitB s=some l)(hP:zez l.length l.length l=some cs)(hok:∀ c∈cs,zny c)(hlen:cs.length<=1000)(hlits:(cs.flatMap za4).length<=1000)(hC:zgp cs=some t)(htl:t.length<=1000)(htz:∀ e∈t,e.stratum<=0) :
  Calls Tryz.prog 19 #[.string s] w fun e w'=>zgn (.error 7) w e w':=by
 have HS:Hid (splitB s=some l):=hS
 have HP:Hid (zez l.length l.length l=some cs):=hP
 have HOK:Hid (∀ c∈cs,zny c):=hok
 have HLEN:Hid (cs.length<=1000):=hlen
 have HLITS:Hid ((cs.flatMap za4).length<=1000):=hlits
 have HC:Hid (zgp cs=some t):=hC
 have HTL:Hid (t.length<=1000):=htl
 have HTZ:Hid (∀ e∈t,e.stratum<=0):=htz
 clear hS hP hok hlen hlits hC htl htz
 go_enter Tryz.func19,Tryz.ntmps19
 go_wp2_with (first|(go_at_call 37;refine(zh5 s _ l hs HS).mono ?_;rintro e w1 ⟨fv,rfl,hown,hll,hb1⟩;obtain⟨aof,capf,rfl⟩:=zac hown)|(go_at_call 38;refine(zjg _ _ l _ cs hown hll HP).mono ?_;rintro e w2 ⟨cv,rfl,hcin,hb2⟩;obtain⟨aoc,capc,rfl⟩:=hcin.shape;have hB2:=zae hb1 hb2 (Nat.le_refl _))|(go_at_call 39;refine(zlq _ _ cs hcin HOK.out HLEN.out).mono ?_;rintro e w3 ⟨rfl,hb3⟩;have hB3:=zae hB2 hb3 (Nat.le_refl _);have hcin3:=hcin.below hb3)|(go_at_call 40;refine(zkq _ _ cs t hcin3 HLITS.out HC).mono ?_;rintro e w4 ⟨pv,rfl,hpo,hb4⟩;obtain⟨aop,capp,rfl⟩:=zac hpo;have hB4:=zae hB3 hb4 (Nat.le_refl _);have hz4:=hB4.size;have hcin4:=hcin3.below hb4)|(go_at_call 41;refine(zsi _ _ cs (by exact hcin4.below (by go_grown)) HOK.out HLEN.out).mono ?_;rintro e w5 ⟨rfl,hb5⟩;have hq5:=(Below.refl w4.heap.size w4).alloc (Nat.le_refl _) (.cells #[.slice aop t.length capp] 84);have hbb5:=zae hq5 hb5 (Nat.le_refl _);have hB5:=zae hB4 hbb5 (Nat.le_refl _))|(go_at_call 42;refine(zna w3.heap.size _ w4.heap.size t _ cs w3 rfl (zae hb4 hbb5 (Nat.le_refl _)) hcin3 HOK.out HLEN.out ⟨_,(Box.new w4 _ _).below hb5,zaa hpo hbb5⟩ HTL.out HTZ.out).mono ?_;rintro e w6 ⟨rfl,hta6,hb6⟩;obtain⟨ao6,cap6,hbx6,hown6⟩:=hta6.view;obtain⟨hc6,hf6⟩:=hbx6.rules;have hB6:Below w.heap.size w w6:=hB5.trans (hb6.mono (Nat.le_trans hB3.size (Nat.le_refl _)));have hz6:=hbx6.lt))
 go_ret2
 exact⟨hB6,rfl⟩
theorem z2h(s:ByteArray)(w:World)(hs:s.size<=500)(l:List Tok)(cs:List zab)(t:List zan)(hm:cs.any zer=false)(hsf:cs.all ze9=true)(hst:(zde (t.length+1) t cs).2=true)(hS:splitB s=some l)(hP:zez l.length l.length l=some cs)(hok:∀ c∈cs,zny c)(hlen:cs.length<=1000)(hlits:(cs.flatMap za4).length<=1000)(hC:zgp cs=some t)(htl:t.length<=1000)(htz:∀ e∈t,e.stratum<=0) :
  Calls Tryz.prog 19 #[.string s] w fun e w'=>zgn (.ok (cs,(zde (t.length+1) t cs).1)) w e w':=by
 have HS:Hid (splitB s=some l):=hS
 have HP:Hid (zez l.length l.length l=some cs):=hP
 have HOK:Hid (∀ c∈cs,zny c):=hok
 have HLEN:Hid (cs.length<=1000):=hlen
 have HLITS:Hid ((cs.flatMap za4).length<=1000):=hlits
 have HC:Hid (zgp cs=some t):=hC
 have HTL:Hid (t.length<=1000):=htl
 have HTZ:Hid (∀ e∈t,e.stratum<=0):=htz
 clear hS hP hok hlen hlits hC htl htz
 go_enter Tryz.func19,Tryz.ntmps19
 go_wp2_with (first|(go_at_call 37;refine(zh5 s _ l hs HS).mono ?_;rintro e w1 ⟨fv,rfl,hown,hll,hb1⟩;obtain⟨aof,capf,rfl⟩:=zac hown)|(go_at_call 38;refine(zjg _ _ l _ cs hown hll HP).mono ?_;rintro e w2 ⟨cv,rfl,hcin,hb2⟩;obtain⟨aoc,capc,rfl⟩:=hcin.shape;have hB2:=zae hb1 hb2 (Nat.le_refl _))|(go_at_call 39;refine(zlq _ _ cs hcin HOK.out HLEN.out).mono ?_;rintro e w3 ⟨rfl,hb3⟩;have hB3:=zae hB2 hb3 (Nat.le_refl _);have hcin3:=hcin.below hb3)|(go_at_call 40;refine(zkq _ _ cs t hcin3 HLITS.out HC).mono ?_;rintro e w4 ⟨pv,rfl,hpo,hb4⟩;obtain⟨aop,capp,rfl⟩:=zac hpo;have hB4:=zae hB3 hb4 (Nat.le_refl _);have hz4:=hB4.size;have hcin4:=hcin3.below hb4)|(go_at_call 41;refine(zsi _ _ cs (by exact hcin4.below (by go_grown)) HOK.out HLEN.out).mono ?_;rintro e w5 ⟨rfl,hb5⟩;have hq5:=(Below.refl w4.heap.size w4).alloc (Nat.le_refl _) (.cells #[.slice aop t.length capp] 84);have hbb5:=zae hq5 hb5 (Nat.le_refl _);have hB5:=zae hB4 hbb5 (Nat.le_refl _))|(go_at_call 42;refine(zna w3.heap.size _ w4.heap.size t _ cs w3 rfl (zae hb4 hbb5 (Nat.le_refl _)) hcin3 HOK.out HLEN.out ⟨_,(Box.new w4 _ _).below hb5,zaa hpo hbb5⟩ HTL.out HTZ.out).mono ?_;rintro e w6 ⟨rfl,hta6,hb6⟩;obtain⟨ao6,cap6,hbx6,hown6⟩:=hta6.view;obtain⟨hc6,hf6⟩:=hbx6.rules;have hB6:Below w.heap.size w w6:=hB5.trans (hb6.mono (Nat.le_trans hB3.size (Nat.le_refl _)));have hz6:=hbx6.lt))
 have hz66:=hB6.size
 have hcin6:=hcin3.below ((zae hb4 hbb5 (Nat.le_refl _)).trans hb6)
 go_ret2
 exact⟨(by go_grown),w6.heap.size,_,_,rfl,Box.new _ _ _,(hcin6.low hb1.size).below ((Below.refl _ _).alloc (Nat.le_refl _) _),zbi (zaa hown6 ((Below.refl _ _).alloc (Nat.le_refl _) _)) hB3.size,hz66⟩
theorem zkr(s:ByteArray)(w:World)(hs2:s.size<=9223372036854775807) :
  Calls Tryz.prog 19 #[.string s] w fun e w'=>zgn (zof s) w e w':=by
 unfold zof
 split
 ·rename_i hs;exact ztg s w hs hs2
 ·rename_i hs
  have hs':s.size<=500:=by omega
  split
  ·rename_i hS;exact z2i s w hs' hS
  ·rename_i l hS
   split
   ·rename_i hP;exact z2j s w hs' l hS hP
   ·rename_i cs hP
    have hl:l.length<=500:=by
     have:=zri hS;omega
    have hw:=zw0 hP
    have hok:=z8v (cs:=cs) (by omega)
    have hlen:cs.length<=1000:=by have:=z4v cs;omega
    have hlits:(cs.flatMap za4).length<=1000:=by have:=zyp cs;omega
    split
    ·rename_i hm;exact z2k s w hs' l cs hm hS hP hok hlen
    ·rename_i hm
     have hm':cs.any zer=false:=by simpa using hm
     split
     ·rename_i hC;exact z2l s w hs' l cs hm' hS hP hok hlen hlits hC
     ·rename_i t hC
      have htl:t.length<=1000:=by have:=zrx _ _ _ hC;simp only[List.length_nil] at this;omega
      have htz:∀ e∈t,e.stratum<=0:=zn6 _ [] (by simp) t hC
      split
      ·rename_i hsf
       split
       ·rename_i hst;exact z2h s w hs' l cs t hm' hsf hst hS hP hok hlen hlits hC htl htz
       ·rename_i hst;exact z2o s w hs' l cs t hm' hsf (by simpa using hst) hS hP hok hlen hlits hC htl htz
      ·rename_i hsf;exact z2m s w hs' l cs t hm' (by simpa using hsf) hS hP hok hlen hlits hC
def TP(B:Nat)(w:World)(tb:Nat)(t:List zan):Prop:=∃ cv pv,Box w tb #[cv,pv] 88/\w.ownsRow B 138 3 pv t.length (zcc t)
theorem TP.view{B:Nat}{w:World}{tb:Nat}{t:List zan}(h:TP B w tb t):∃ cv ao cap,Box w tb #[cv,.slice ao t.length cap] 88/\w.ownsRow B 138 3 (.slice ao t.length cap) t.length (zcc t):=by
 obtain⟨cv,nv,h1,h2⟩:=h
 obtain⟨ao,cap,rfl⟩:=zac h2
 exact⟨cv,ao,cap,h1,h2⟩
set_option maxHeartbeats 2000000
theorem zyl(w:World)(n:Nat)(T:TypeId)(z:Value)(hn:n<=maxLen):(w.alloc (.cells (madeCells #[z] n) T)).ownsRow w.heap.size T 1 (.slice (some ⟨w.heap.size,0,none⟩) n n) n (List.replicate n z):=by
 refine⟨by simp,Or.inr ⟨w.heap.size,n,madeCells #[z] n,rfl,Nat.le_refl _,?_,Nat.le_refl _,hn,by rw[size_madeCells];omega,?_⟩⟩
 ·show(w.heap.push _)[w.heap.size]?=_
  simp
 ·apply List.ext_getElem?
  intro i
  by_cases hi:i < n
  ·simp[hi,madeCells,Nat.mod_one]
  ·simp[List.getElem?_take,hi]
def zmj{α:Type}(f:α->Value)(l:List α)(z:Value)(k:Nat):List Value:=(l.take k).map f++List.replicate (l.length - k) z
theorem zx4{α:Type}(f:α->Value)(l:List α)(z:Value)(k:Nat)(hk:k < l.length):(zmj f l z k).set k (f l[k])=zmj f l z (k+1):=by
 unfold zmj
 have h1:((l.take k).map f).length=k:=by simp;omega
 rw[List.set_append_right _ _ (by omega),h1,Nat.sub_self,List.take_succ_eq_append_getElem hk,List.map_append,List.append_assoc]
 congr 1
 rw[show l.length - k=(l.length - (k+1))+1 by omega,List.replicate_succ]
 rfl
theorem znm{α:Type}(f:α->Value)(l:List α)(z:Value)(k:Nat)(hk:k<=l.length):(zmj f l z k).length=l.length:=by unfold zmj;simp;omega
theorem zto{α:Type}(f:α->Value)(l:List α)(z:Value):zmj f l z 0=List.replicate l.length z:=by simp[zmj]
theorem zx3{α:Type}(f:α->Value)(l:List α)(z:Value)(k:Nat)(hk:¬ k < l.length):zmj f l z k=l.map f:=by
 unfold zmj;rw[List.take_of_length_le (by omega),show l.length - k=0 by omega];simp
theorem zog(w:World)(v:Value)(l:List ByteArray)(hs:SIn lo w v l)(hl:l.length<=1000) :
  Calls Tryz.prog 84 #[v] w fun e w'=>∃ g,w.heap.size<=g/\e=.returned (.slice (some ⟨g,0,none⟩) l.length l.length)/\SIn w.heap.size w' (.slice (some ⟨g,0,none⟩) l.length l.length) l/\Below w.heap.size w w':=by
 obtain⟨ao,cap,rfl⟩:=hs.shape
 have hmk:=run_make_row' (P:=Tryz.prog) 38 9 (.string ByteArray.empty) 16 Tryz.underlying38 Tryz.infoString rfl .i64 .i64 l.length (by omega) (by omega)
 go_enter Tryz.func84,Tryz.ntmps84
 go_wp2
 clear hmk
 have hom:=zyl w l.length 9 (.string ByteArray.empty) (by unfold maxLen;omega)
 rw[← zto Value.string] at hom
 go_loopw [11] (fun i wr=>∃ k:Nat,k<=l.length/\i=.int .i64 k/\Below w.heap.size w wr/\wr.ownsRow w.heap.size 9 1 (.slice (some ⟨w.heap.size,0,none⟩) l.length l.length) l.length (zmj Value.string l (.string ByteArray.empty) k)) (fun i _=>l.length - (intOf i).toNat)
 case atStart=>exact⟨0,Nat.zero_le _,rfl,(by go_grown),hom⟩
 case round =>
  clear hom
  obtain⟨k,hk,rfl,hbk,hown⟩:=hrel
  have hszk:=hbk.size
  by_cases hlt:k < l.length
  ·obtain⟨g,rfl,hg,hck⟩:=hs.cell k hlt
   have hxk:=(hbk.cell (p:=⟨g,k,none⟩) hg).trans hck
   have hgr:g < wr.heap.size:=by omega
   have hset:=zb5 hown k (by rw[znm _ _ _ _ hk];exact hlt) (.string l[k])
   rw[zx4 Value.string l _ k hlt] at hset
   have HSET:Hid ((wr.setCell ⟨w.heap.size,k,none⟩ (.string l[k])).ownsRow w.heap.size 9 1 (.slice (some ⟨w.heap.size,0,none⟩) l.length l.length) l.length (zmj Value.string l (.string ByteArray.empty) (k+1))):=hset
   have hfz:=zbu hown
   obtain⟨g2,cap2,hv2,_,hg2,hcl2⟩:=zal hown (by omega)
   simp at hv2
   obtain⟨rfl,_⟩:=hv2
   have hck2:∃ u,wr.cell? ⟨w.heap.size,k,none⟩=some u:=⟨_,hcl2 k _ (List.getElem?_eq_getElem (by rw[znm _ _ _ _ hk];exact hlt))⟩
   obtain⟨u0,hu0⟩:=hck2
   clear hck hset hcl2
   generalize l[k]=x at *
   go_wp2
   go_roundw
   case rel=>exact⟨k+1,by omega,by go_num,(by go_grown),HSET⟩
   case measure=>simp[intOf];omega
  ·rw[zx3 _ _ _ _ hlt] at hown
   go_wp2
   go_ret
   exact⟨_,Nat.le_refl _,rfl,hown,hbk⟩
theorem z0s(B:Nat)(w:World)(tb:Nat)(t:List zan)(h:TP B w tb t)(hl:t.length<=1000) :
  Calls Tryz.prog 43 #[.pointer (some ⟨tb,1,none⟩)] w fun e w'=>∃ g,w.heap.size<=g/\e=.returned (.slice (some ⟨g,0,none⟩) t.length t.length)/\SIn w.heap.size w' (.slice (some ⟨g,0,none⟩) t.length t.length) (t.map zan.name)/\Below w.heap.size w w':=by
 obtain⟨cv,ao,cap,hbx,hown⟩:=h.view
 obtain⟨hc,hf⟩:=hbx.rules
 have hlt:=hbx.lt
 have hmk:=run_make_row' (P:=Tryz.prog) 38 9 (.string ByteArray.empty) 16 Tryz.underlying38 Tryz.infoString rfl .i64 .i64 t.length (by omega) (by omega)
 go_enter Tryz.func43,Tryz.ntmps43
 go_wp2
 clear hmk
 have hom:=zyl w t.length 9 (.string ByteArray.empty) (by unfold maxLen;omega)
 rw[← zto (fun e:zan=>Value.string e.name)] at hom
 go_loopw [17] (fun i wr=>∃ k:Nat,k<=t.length/\i=.int .i64 k/\Below w.heap.size w wr/\wr.ownsRow w.heap.size 9 1 (.slice (some ⟨w.heap.size,0,none⟩) t.length t.length) t.length (zmj (fun e:zan=>Value.string e.name) t (.string ByteArray.empty) k)) (fun i _=>t.length - (intOf i).toNat)
 case atStart=>exact⟨0,Nat.zero_le _,rfl,(by go_grown),hom⟩
 case round =>
  clear hom hc hf
  obtain⟨k,hk,rfl,hbk,hownk⟩:=hrel
  have hszk:=hbk.size
  by_cases hkt:k < t.length
  ·obtain⟨g,rfl,hg,_,hd0,hd1,hd2⟩:=zdy hown k hkt
   have hx0:=(hbk.cell (p:=⟨g,k * 3,none⟩) hg).trans hd0
   have hx1:=(hbk.cell (p:=⟨g,k * 3+1,none⟩) hg).trans hd1
   have hx2:=(hbk.cell (p:=⟨g,k * 3+2,none⟩) hg).trans hd2
   have hgr:g < wr.heap.size:=by omega
   have hset:=zb5 hownk k (by rw[znm _ _ _ _ hk];exact hkt) (.string t[k].name)
   rw[zx4 (fun e:zan=>Value.string e.name) t _ k hkt] at hset
   have HSET:Hid ((wr.setCell ⟨w.heap.size,k,none⟩ (.string t[k].name)).ownsRow w.heap.size 9 1 (.slice (some ⟨w.heap.size,0,none⟩) t.length t.length) t.length (zmj (fun e:zan=>Value.string e.name) t (.string ByteArray.empty) (k+1))):=hset
   have hfz:=zbu hownk
   obtain⟨g2,cap2,hv2,_,hg2,hcl2⟩:=zal hownk (by omega)
   simp at hv2
   obtain⟨rfl,_⟩:=hv2
   have hck2:∃ u,wr.cell? ⟨w.heap.size,k,none⟩=some u:=⟨_,hcl2 k _ (List.getElem?_eq_getElem (by rw[znm _ _ _ _ hk];exact hkt))⟩
   obtain⟨u0,hu0⟩:=hck2
   clear hd0 hd1 hd2 hset hcl2
   generalize t[k]=x at *
   go_wp2
   go_roundw
   case rel=>exact⟨k+1,by omega,by go_num,(by go_grown),zaa HSET.out ((Below.refl _ _).alloc (Nat.le_refl _) _)⟩
   case measure=>simp[intOf];omega
  ·rw[zx3 _ _ _ _ hkt] at hownk
   have hs:SIn w.heap.size wr (.slice (some ⟨w.heap.size,0,none⟩) t.length t.length) (t.map zan.name):=by simpa [SIn,Function.comp_def] using hownk
   go_wp2
   go_ret
   exact⟨_,Nat.le_refl _,rfl,hs,hbk⟩
theorem z1g(w:World)(vb:Nat)(nv:Value)(vs:List ByteArray)(hbox:Box w vb #[nv] 124)(hs:SIn lo w nv vs)(hl:vs.length<=1000) :
  Calls Tryz.prog 58 #[.pointer (some ⟨vb,0,none⟩)] w fun e w'=>∃ g,w.heap.size<=g/\e=.returned (.slice (some ⟨g,0,none⟩) vs.length vs.length)/\SIn w.heap.size w' (.slice (some ⟨g,0,none⟩) vs.length vs.length) vs/\Below w.heap.size w w':=by
 obtain⟨hc,hf⟩:=hbox.rules
 obtain⟨ao,cap,rfl⟩:=hs.shape
 have HC:Hid (Calls Tryz.prog 84 #[.slice ao vs.length cap] w fun e w'=>∃ g,w.heap.size<=g/\e=.returned (.slice (some ⟨g,0,none⟩) vs.length vs.length)/\SIn w.heap.size w' (.slice (some ⟨g,0,none⟩) vs.length vs.length) vs/\Below w.heap.size w w'):=zog w _ vs hs hl
 go_enter Tryz.func58,Tryz.ntmps58
 go_wp2_with (first|(go_at_call 84;refine HC.out.mono ?_;rintro e w1 ⟨g,hg,rfl,hs1,hb1⟩))
 go_ret
 exact⟨g,hg,rfl,hs1,hb1⟩
end Go.Proofs.YteampbddflhngabGreat
