package module

// magic are the bytes with which a module begins.
const magic = "\x00asm\x01\x00\x00\x00"

const numberBits = 32 // of an index, and of how many bytes, or things, there are

const limitBits = 64

// The sections' numbers.
const (
	secNamed = iota
	secTypes
	secImports
	secFuncs
	secTables
	secMems
	secGlobals
	secExports
	secStart
	secElems
	secCodes
	secDatas
	secCount
	secTags
	secAll
)

// order is that in which sections stand; section 0 is none of it, as it may stand anywhere.
var order = [...]byte{
	secTypes, secImports, secFuncs, secTables, secMems, secTags, secGlobals,
	secExports, secStart, secElems, secCount, secCodes, secDatas,
}

const (
	byteOnly  = 0x00 // where no other byte may stand
	byteInit  = 0x40 // ahead of a table's type, if an expression stands behind it
	byteConst = 0x00
	byteMut   = 0x01
	byteGroup = 0x4e
)

// The bits of the byte with which limits begin.
const (
	limitsMax  = 1
	limitsWide = 4
)

// The bits of the byte with which elements begin; elemTold: the table of active ones is told, others are declared.
const (
	elemStays = 1
	elemTold  = 2
	elemRows  = 4
)

// The bytes with which data begin.
const (
	dataFirst  = 0
	dataStays  = 1
	dataOthers = 2
)
