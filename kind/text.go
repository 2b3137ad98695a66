package kind

import (
	"strconv"
	"strings"

	"geode/api"
)

// heapNames are the writings of the heap types that are given.
var heapNames = [...]string{
	api.HAny:      "any",
	api.HEq:       "eq",
	api.HI31:      "i31",
	api.HStruct:   "struct",
	api.HArray:    "array",
	api.HNone:     "none",
	api.HFunc:     "func",
	api.HNoFunc:   "nofunc",
	api.HExtern:   "extern",
	api.HNoExtern: "noextern",
	api.HExn:      "exn",
	api.HNoExn:    "noexn",
}

// Text is a declared type's writing.
func Text(s api.Sub) string {
	parts := []string{"sub"}
	if s.Final {
		parts = append(parts, "final")
	}
	parts = append(parts, texts(s.Supers, heapText)...)
	return inBrackets(append(parts, compText(s.Comp)))
}

// ValText is a value type's writing.
func ValText(v api.Val) string {
	switch v.Kind {
	case api.VI32:
		return "i32"
	case api.VI64:
		return "i64"
	case api.VRef:
		if v.Null {
			return "(ref null " + heapText(v.Heap) + ")"
		}
		return "(ref " + heapText(v.Heap) + ")"
	case api.VBot:
		return "bot"
	}
	return ""
}

func heapText(h api.Heap) string {
	switch h.Kind {
	case api.HIndex:
		return strconv.Itoa(h.N)
	case api.HRec:
		return "rec." + strconv.Itoa(h.N)
	case api.HDef:
		return "def." + strconv.Itoa(h.N)
	}
	if given(h.Kind) {
		return heapNames[h.Kind]
	}
	return ""
}

func fieldText(f api.Field) string {
	if f.Mut {
		return "(mut " + storeText(f.Store) + ")"
	}
	return storeText(f.Store)
}

func storeText(s api.Store) string {
	switch s.Pack {
	case 8:
		return "i8"
	case 16:
		return "i16"
	}
	return ValText(s.Val)
}

func compText(c api.Comp) string {
	switch c.Kind {
	case api.CFunc:
		parts := append([]string{"func"}, valsText("param", c.Params)...)
		return inBrackets(append(parts, valsText("result", c.Results)...))
	case api.CStruct:
		return headed("struct", texts(c.Fields, fieldText))
	case api.CArray:
		return headed("array", texts(c.Fields, fieldText))
	}
	return ""
}

// valsText is one part, or none, as there is none of an empty list.
func valsText(head string, l []api.Val) []string {
	if len(l) == 0 {
		return nil
	}
	return []string{headed(head, texts(l, ValText))}
}

func texts[T any](l []T, text func(T) string) []string {
	out := make([]string, len(l))
	for i, x := range l {
		out[i] = text(x)
	}
	return out
}

func headed(head string, parts []string) string {
	return inBrackets(append([]string{head}, parts...))
}

func inBrackets(parts []string) string { return "(" + strings.Join(parts, " ") + ")" }
